/-
  DERIVED. KUH: a part of the base of layer 13 (made by pack.py).
-/
import Derived.Test.YtaallpebfcadjaaGreatDoorKTD
import Derived.Test.YtaallpebfcadjaaGreatDoorKUG
/-! InstanceChecks: its walk (written by gen_inlaw3.py). -/
namespace Go.Proofs.YtaallpebfcadjaaGreatDoor.T
open Go.RowKit
set_option maxRecDepth 8000

theorem neqFault (x : Int) (s : ByteArray) (w : World) : (binOp .neq 37 (.agg #[.int .i64 x, .string s]) (.agg #[.int .i64 x, .string s])).run Tryz.prog w = .ok (.bool false) w := by
  have hS : Tryz.prog.underlying 37 = some (.struct (Tryz.prog.fieldsOf 37)) := by kernel_rfl
  have hp : Tryz.prog.stoodInHeld 37 = false := by kernel_rfl
  have u3 := Tryz.underlying35
  have a3 := Tryz.isAgg35
  have z3 := Tryz.sizeOf35
  have u4 := Tryz.underlying9
  have a4 := Tryz.isAgg9
  have z4 := Tryz.sizeOf9
  rw [run_neq_struct, show (10000 : Nat) = 9999 + 1 from rfl, run_equalIn_agg w 9999 37 _ _ hS hp]
  simp only [Program.fieldsOf, Tryz.underlying37]
  go_simp
theorem fs_below {w w' : World} {v : Value} {l : List (Int × ByteArray)} (h : Fs w v l) (hb : Below w.heap.size w w') : Fs w' v l := Sl.below h hb
theorem fs_at {w : World} {oa : Option Addr} {c : Nat} {l : List (Int × ByteArray)} (h : Fs w (.slice oa l.length c) l) {k : Nat} (hk : k < l.length) :
    ∃ b o, oa = some ⟨b, o, none⟩ ∧ b < w.heap.size ∧ w.cell? ⟨b, o + k * 2, none⟩ = some (.int .i64 (l.getD k (0, ⟨#[]⟩)).1) ∧ w.cell? ⟨b, o + k * 2 + 1, none⟩ = some (.string (l.getD k (0, ⟨#[]⟩)).2) := by
  obtain ⟨oa', c', hv, h⟩ := h
  simp only [Value.slice.injEq] at hv
  obtain ⟨rfl, -, rfl⟩ := hv
  obtain ⟨b, o, ha, hl, h0, h1⟩ := h k hk
  exact ⟨b, o, ha, hl, h0, h1⟩
set_option maxHeartbeats 6400000 in
theorem checksL_n (k : Iv) (x : InT) (hx : smlB x = true → InW x) (hf : smlB x = true → (inF x).length ≤ 10000000) (w : World) (hT : Tab w) (hS : S.Tab w) (h : Ins w k x) :
    Calls Tryz.prog 3 #[k.v x] w fun e w' => e = .returned (.bool true) ∧ Below w.heap.size w w' := by
  obtain ⟨o0, c0, o1, c1, o2, c2, o3, c3, o4, c4, o5, c5⟩ := k
  have BI := below_alloc w (.cells #[.slice o0 x.pl.length c0, .slice o1 x.al.length c1, .slice o2 x.tl.length c2, .slice o3 x.ol.length c3, .slice o4 x.ap.length c4, .slice o5 x.be.length c5] 30)
  have M0 := Cb.made w #[.slice o0 x.pl.length c0, .slice o1 x.al.length c1, .slice o2 x.tl.length c2, .slice o3 x.ol.length c3, .slice o4 x.ap.length c4, .slice o5 x.be.length c5] 30
  obtain ⟨W0, hW0⟩ : ∃ W0, w.alloc (.cells #[.slice o0 x.pl.length c0, .slice o1 x.al.length c1, .slice o2 x.tl.length c2, .slice o3 x.ol.length c3, .slice o4 x.ap.length c4, .slice o5 x.be.length c5] 30) = W0 := ⟨_, rfl⟩
  rw [hW0] at BI M0
  have I0 := Lib.hid (h.below BI)
  have HT := Lib.hid (hT.over BI)
  have HS := Lib.hid (hS.over BI)
  have M0 := Lib.hid M0
  have B0 := Lib.hid BI
  have C0 : Hid (Below W0.heap.size W0 W0) := Below.refl _ _
  have HW0 := Lib.hid hW0
  have AW : Hid (∀ W, Below W0.heap.size W0 W → Calls Tryz.prog 9 #[] W fun e w' => e = .returned (.bool true) ∧ Below W.heap.size W w') := fun W hb => awakeI_n W (HT.out.over hb) (HS.out.over hb)
  have KS := Lib.hid (fun w h1 h2 h3 => small_n o0 o1 o2 o3 o4 o5 c0 c1 c2 c3 c4 c5 x w h1 h2 h3)
  have KC : Hid (smlB x = true → ∀ W, Below W0.heap.size W0 W → Ins W ⟨o0, c0, o1, c1, o2, c2, o3, c3, o4, c4, o5, c5⟩ x → Calls Tryz.prog 10 #[.agg #[.slice o0 x.pl.length c0, .slice o1 x.al.length c1, .slice o2 x.tl.length c2, .slice o3 x.ol.length c3, .slice o4 x.ap.length c4, .slice o5 x.be.length c5]] W (ChkP (inF x) W)) := fun h1 W hb h => instCheck_n ⟨o0, c0, o1, c1, o2, c2, o3, c3, o4, c4, o5, c5⟩ x (hx h1) W (HT.out.over hb) h
  have KR := Lib.hid (fun (h1 : smlB x = true) w (h : Ins w ⟨o0, c0, o1, c1, o2, c2, o3, c3, o4, c4, o5, c5⟩ x) => refInst_n o0 o1 o2 o3 o4 o5 c0 c1 c2 c3 c4 c5 x (hx h1).b w h.h0 h.h1 h.h2 h.h3 h.h4 h.h5)
  have HF := Lib.hid hf
  generalize inF x = f at *
  unfold inV at *
  clear h hT hS BI hW0 hf hx
  show Calls _ _ #[.agg #[.slice o0 x.pl.length c0, .slice o1 x.al.length c1, .slice o2 x.tl.length c2, .slice o3 x.ol.length c3, .slice o4 x.ap.length c4, .slice o5 x.be.length c5]] _ _
  go_enter Tryz.func3, Tryz.ntmps3
  go_upto_region 1 with fail
  rw [HW0.out]
  clear HW0
  have m0 : W0.cell? ⟨w.heap.size, 0, none⟩ = some (.slice o0 x.pl.length c0) := M0.out.cell 0 rfl
  have m1 : W0.cell? ⟨w.heap.size, 1, none⟩ = some (.slice o1 x.al.length c1) := M0.out.cell 1 rfl
  have m2 : W0.cell? ⟨w.heap.size, 2, none⟩ = some (.slice o2 x.tl.length c2) := M0.out.cell 2 rfl
  have m3 : W0.cell? ⟨w.heap.size, 3, none⟩ = some (.slice o3 x.ol.length c3) := M0.out.cell 3 rfl
  have m4 : W0.cell? ⟨w.heap.size, 4, none⟩ = some (.slice o4 x.ap.length c4) := M0.out.cell 4 rfl
  have m5 : W0.cell? ⟨w.heap.size, 5, none⟩ = some (.slice o5 x.be.length c5) := M0.out.cell 5 rfl
  go_wp2_with fail
  refine (KS.out _ I0.out.h1 I0.out.h2 I0.out.h3).mono ?_
  rintro e w1 ⟨rfl, hb⟩
  clear m0 m1 m2 m3 m4 m5
  have M1 := Lib.hid (M0.out.below hb)
  have I1 := Lib.hid (I0.out.below hb)
  have B1 := Lib.hid (over B0.out hb)
  have C1 := Lib.hid (over C0.out hb)
  clear hb M0 I0 B0 C0
  have m0 : w1.cell? ⟨w.heap.size, 0, none⟩ = some (.slice o0 x.pl.length c0) := M1.out.cell 0 rfl
  have m1 : w1.cell? ⟨w.heap.size, 1, none⟩ = some (.slice o1 x.al.length c1) := M1.out.cell 1 rfl
  have m2 : w1.cell? ⟨w.heap.size, 2, none⟩ = some (.slice o2 x.tl.length c2) := M1.out.cell 2 rfl
  have m3 : w1.cell? ⟨w.heap.size, 3, none⟩ = some (.slice o3 x.ol.length c3) := M1.out.cell 3 rfl
  have m4 : w1.cell? ⟨w.heap.size, 4, none⟩ = some (.slice o4 x.ap.length c4) := M1.out.cell 4 rfl
  have m5 : w1.cell? ⟨w.heap.size, 5, none⟩ = some (.slice o5 x.be.length c5) := M1.out.cell 5 rfl
  cases hsm : smlB x
  · go_wp2_with fail
    refine (AW.out _ C1.out).mono ?_
    rintro e w2 ⟨rfl, hb⟩
    have B2 := over B1.out hb
    go_wp2_with fail
    go_ret
    exact ⟨rfl, B2⟩
  have hf9 := HF.out hsm
  have KC := Lib.hid (KC.out hsm)
  have KR := Lib.hid (KR.out hsm)
  clear HF hsm
  go_wp2_with fail
  refine (KC.out _ C1.out I1.out).mono ?_
  rintro e w2 ⟨oa, ca, rfl, ⟨hA, -, -⟩, hb⟩
  have HA := Lib.hid hA
  clear hA
  clear m0 m1 m2 m3 m4 m5
  have M2 := Lib.hid (M1.out.below hb)
  have I2 := Lib.hid (I1.out.below hb)
  have B2 := Lib.hid (over B1.out hb)
  have C2 := Lib.hid (over C1.out hb)
  clear hb M1 I1 B1 C1
  have m0 : w2.cell? ⟨w.heap.size, 0, none⟩ = some (.slice o0 x.pl.length c0) := M2.out.cell 0 rfl
  have m1 : w2.cell? ⟨w.heap.size, 1, none⟩ = some (.slice o1 x.al.length c1) := M2.out.cell 1 rfl
  have m2 : w2.cell? ⟨w.heap.size, 2, none⟩ = some (.slice o2 x.tl.length c2) := M2.out.cell 2 rfl
  have m3 : w2.cell? ⟨w.heap.size, 3, none⟩ = some (.slice o3 x.ol.length c3) := M2.out.cell 3 rfl
  have m4 : w2.cell? ⟨w.heap.size, 4, none⟩ = some (.slice o4 x.ap.length c4) := M2.out.cell 4 rfl
  have m5 : w2.cell? ⟨w.heap.size, 5, none⟩ = some (.slice o5 x.be.length c5) := M2.out.cell 5 rfl
  go_wp2_with fail
  refine (KR.out _ I2.out).mono ?_
  rintro e w3 ⟨ob, cb, rfl, ⟨hA, -, -⟩, hb⟩
  have HA2 := Lib.hid (fs_below HA.out hb)
  have HC2 := Lib.hid hA
  clear hA HA
  clear m0 m1 m2 m3 m4 m5
  have M3 := Lib.hid (M2.out.below hb)
  have I3 := Lib.hid (I2.out.below hb)
  have B3 := Lib.hid (over B2.out hb)
  have C3 := Lib.hid (over C2.out hb)
  clear hb M2 I2 B2 C2
  have m0 : w3.cell? ⟨w.heap.size, 0, none⟩ = some (.slice o0 x.pl.length c0) := M3.out.cell 0 rfl
  have m1 : w3.cell? ⟨w.heap.size, 1, none⟩ = some (.slice o1 x.al.length c1) := M3.out.cell 1 rfl
  have m2 : w3.cell? ⟨w.heap.size, 2, none⟩ = some (.slice o2 x.tl.length c2) := M3.out.cell 2 rfl
  have m3 : w3.cell? ⟨w.heap.size, 3, none⟩ = some (.slice o3 x.ol.length c3) := M3.out.cell 3 rfl
  have m4 : w3.cell? ⟨w.heap.size, 4, none⟩ = some (.slice o4 x.ap.length c4) := M3.out.cell 4 rfl
  have m5 : w3.cell? ⟨w.heap.size, 5, none⟩ = some (.slice o5 x.be.length c5) := M3.out.cell 5 rfl
  generalize hm : f.length = m at *
  have HM := Lib.hid hm
  clear hm
  have hne : ((m : Int) != (m : Int)) = false := by simp
  have hgf : Tryz.prog.eqGuardType Tryz.prog.depth 37 = false := by kernel_rfl
  go_wp2_with fail
  go_loopg [5] m (fun g i wr => ∃ k : Nat, k ≤ m ∧ i = .int .i64 k ∧ m - k ≤ g ∧ Hid (Below w3.heap.size w3 wr))
  case atStart => exact ⟨0, Nat.zero_le _, rfl, Nat.le_refl _, Below.refl _ _⟩
  case round =>
    obtain ⟨k, hk, rfl, hg, HW⟩ := hrel
    by_cases hlt : k < m
    · have hkI : (k : Int) < (m : Int) := by omega
      have hkf : k < f.length := by rw [HM.out]; exact hlt
      obtain ⟨b, o, rfl, hab, x0, x1⟩ := fs_at (by have := fs_below HA2.out HW.out; rw [← HM.out] at this; exact this) hkf
      obtain ⟨b', o', rfl, hab', y0, y1⟩ := fs_at (by have := fs_below HC2.out HW.out; rw [← HM.out] at this; exact this) hkf
      generalize f.getD k (0, ⟨#[]⟩) = p at *
      have hqq := neqFault p.1 p.2
      go_wp2_with fail
      go_quiet (fail)
      go_wp2_with fail
      go_roundg (m - (k + 1))
      case measure => omega
      case rel => exact ⟨k + 1, by omega, by go_num, by omega, below_drewN HW.out _⟩
    · have hkk : k = m := by omega
      subst hkk
      have Br := Lib.hid (over B3.out HW.out)
      have Cr := Lib.hid (over C3.out HW.out)
      go_wp2_with fail
      refine (AW.out _ Cr.out).mono ?_
      rintro e w9 ⟨rfl, b9⟩
      have B9 := over Br.out b9
      go_wp2_with fail
      go_ret
      exact ⟨rfl, B9⟩

end Go.Proofs.YtaallpebfcadjaaGreatDoor.T


