/-
  DERIVED. KSA: a part of the base of layer 13 (made by pack.py).
-/
import Derived.Test.YtaallpebfcadjaaGreatDoorKQD
import Derived.Test.YtaallpebfcadjaaGreatDoorKQG
import Derived.Test.YtaallpebfcadjaaGreatDoorKIN
/-! The walks of lorryref13's All and Must (written by gen_refin3.py). -/
namespace Go.Proofs.YtaallpebfcadjaaGreatDoor.T
open Go.RowKit
set_option maxRecDepth 8000

set_option maxHeartbeats 3200000 in
theorem refAll_n (o0 o1 o2 o3 o4 o5 : Option Addr) (n0 n1 n2 n4 n5 c0 c1 c2 c3 c4 c5 : Nat) (l : List OrT) (hl : l.length ≤ 40) (w : World) (ho : Os w (.slice o3 l.length c3) l) :
    Calls Tryz.prog 14 #[inV (.slice o0 n0 c0) (.slice o1 n1 c1) (.slice o2 n2 c2) (.slice o3 l.length c3) (.slice o4 n4 c4) (.slice o5 n5 c5)] w fun e w' => e = .returned (.int .i64 (allN l : Nat)) ∧ Below w.heap.size w w' := by
  have BI := below_alloc w (.cells #[.slice o0 n0 c0, .slice o1 n1 c1, .slice o2 n2 c2, .slice o3 l.length c3, .slice o4 n4 c4, .slice o5 n5 c5] 30)
  have I0 := Ib.made w (.slice o0 n0 c0) (.slice o1 n1 c1) (.slice o2 n2 c2) (.slice o3 l.length c3) (.slice o4 n4 c4) (.slice o5 n5 c5)
  have HO := Lib.hid (ho.below BI)
  have HB := Lib.hid BI
  have i3 := I0.c3
  obtain ⟨W0, hW0⟩ : ∃ W0, w.alloc (.cells #[.slice o0 n0 c0, .slice o1 n1 c1, .slice o2 n2 c2, .slice o3 l.length c3, .slice o4 n4 c4, .slice o5 n5 c5] 30) = W0 := ⟨_, rfl⟩
  rw [hW0] at HO HB i3
  have HW0 := Lib.hid hW0
  clear BI I0 ho hW0
  have HE : Hid (U.ofB (allP l) l.length = allN l) := rfl
  have HY := Lib.hid (fun k h => ofb_yes (p := allP l) (k := k) h)
  have HNo := Lib.hid (fun k h => ofb_no (p := allP l) (k := k) h)
  have HLt := Lib.hid (fun k (h : k ≤ 40) => Nat.lt_of_lt_of_le (U.ofB_lt (allP l) k) (pow40 h))
  have HPw := Lib.hid (fun k (h : k ≤ 40) => pow40 h)
  generalize allN l = r at *
  generalize hm : l.length = m at *
  have HM := Lib.hid hm
  clear hm
  unfold inV
  go_enter Tryz.func14, Tryz.ntmps14
  go_upto_region 1 with fail
  rw [HW0.out]
  go_wp2_with fail
  go_loopg [3, 4, 5] m (fun g s bt j wr => ∃ k : Nat, k ≤ m ∧ j = .int .i64 k ∧ m - k ≤ g ∧ s = .int .i64 (U.ofB (allP l) k : Nat) ∧ bt = .int .i64 (2 ^ k : Nat) ∧ W0 = wr)
  case atStart => exact ⟨0, Nat.zero_le _, rfl, Nat.le_refl _, rfl, rfl, rfl⟩
  case round =>
    obtain ⟨k, hk, rfl, hg, rfl, rfl, rfl⟩ := hrel
    have hs9 := HLt.out k (by omega)
    have hp9 := HPw.out k (by omega)
    by_cases hlt : k < m
    · have hkI : (k : Int) < (m : Int) := by omega
      have hkJ : (k : Int) < 63 := by omega
      obtain ⟨oa', c', hoa, hos⟩ := HO.out
      simp only [Value.slice.injEq] at hoa
      obtain ⟨rfl, -, rfl⟩ := hoa
      obtain ⟨b, o, vc, rfl, hab, hoc, -⟩ := hos k (by rw [HM.out]; exact hlt)
      obtain ⟨k0, k1, k2, k3, k4, k5, k6, k7, k8, k9, k10, k11, k12, k13, k14, k15⟩ := hoc
      have HYk := Lib.hid (HY.out k)
      have HNk := Lib.hid (HNo.out k)
      have HPk : Hid (allP l k = !(l.getD k or0).off) := rfl
      have HP2 : Hid (2 ^ (k + 1) = 2 ^ k * 2) := Nat.pow_succ 2 k
      generalize U.ofB (allP l) k = s at *
      generalize allP l k = pk at *
      generalize l.getD k or0 = a at *
      generalize (2 : Nat) ^ k = P at *
      clear hos k0 k1 k2 k3 k4 k5 k6 k7 k8 k9 k10 k12 k13 k14
      obtain ⟨z, hz⟩ : ∃ z, a.off = z := ⟨_, rfl⟩
      rw [hz] at k15 HPk
      clear hz
      cases z
      · skip
        have HX : Hid (U.ofB (allP l) (k + 1) = s + P) := HYk.out (by rw [HPk.out]; rfl)
        go_wp2_with fail
        go_roundg (m - (k + 1))
        case measure => omega
        case rel => exact ⟨k + 1, by omega, by go_num, by omega, by rw [HX.out]; go_num, by rw [HP2.out]; go_num, rfl⟩
      · skip
        have HX : Hid (U.ofB (allP l) (k + 1) = s) := HNk.out (by rw [HPk.out]; rfl)
        go_wp2_with fail
        go_roundg (m - (k + 1))
        case measure => omega
        case rel => exact ⟨k + 1, by omega, by go_num, by omega, by rw [HX.out], by rw [HP2.out]; go_num, rfl⟩
    · have hkk : k = m := by omega
      have hkI : ¬ (k : Int) < (m : Int) := by omega
      have HR : Hid (U.ofB (allP l) k = r) := by show _ = _; rw [hkk]; exact HE.out
      generalize U.ofB (allP l) k = s at *
      generalize (2 : Nat) ^ k = P at *
      go_wp2_with fail
      go_ret
      exact ⟨ret_int (by rw [HR.out]), HB.out⟩
set_option maxHeartbeats 3200000 in
theorem refMust_n (o0 o1 o2 o3 o4 o5 : Option Addr) (n0 n1 n2 n4 n5 c0 c1 c2 c3 c4 c5 : Nat) (l : List OrT) (hl : l.length ≤ 40) (w : World) (ho : Os w (.slice o3 l.length c3) l) :
    Calls Tryz.prog 15 #[inV (.slice o0 n0 c0) (.slice o1 n1 c1) (.slice o2 n2 c2) (.slice o3 l.length c3) (.slice o4 n4 c4) (.slice o5 n5 c5)] w fun e w' => e = .returned (.int .i64 (mustN l : Nat)) ∧ Below w.heap.size w w' := by
  have BI := below_alloc w (.cells #[.slice o0 n0 c0, .slice o1 n1 c1, .slice o2 n2 c2, .slice o3 l.length c3, .slice o4 n4 c4, .slice o5 n5 c5] 30)
  have I0 := Ib.made w (.slice o0 n0 c0) (.slice o1 n1 c1) (.slice o2 n2 c2) (.slice o3 l.length c3) (.slice o4 n4 c4) (.slice o5 n5 c5)
  have HO := Lib.hid (ho.below BI)
  have HB := Lib.hid BI
  have i3 := I0.c3
  obtain ⟨W0, hW0⟩ : ∃ W0, w.alloc (.cells #[.slice o0 n0 c0, .slice o1 n1 c1, .slice o2 n2 c2, .slice o3 l.length c3, .slice o4 n4 c4, .slice o5 n5 c5] 30) = W0 := ⟨_, rfl⟩
  rw [hW0] at HO HB i3
  have HW0 := Lib.hid hW0
  clear BI I0 ho hW0
  have HE : Hid (U.ofB (mustP l) l.length = mustN l) := rfl
  have HY := Lib.hid (fun k h => ofb_yes (p := mustP l) (k := k) h)
  have HNo := Lib.hid (fun k h => ofb_no (p := mustP l) (k := k) h)
  have HLt := Lib.hid (fun k (h : k ≤ 40) => Nat.lt_of_lt_of_le (U.ofB_lt (mustP l) k) (pow40 h))
  have HPw := Lib.hid (fun k (h : k ≤ 40) => pow40 h)
  generalize mustN l = r at *
  generalize hm : l.length = m at *
  have HM := Lib.hid hm
  clear hm
  unfold inV
  go_enter Tryz.func15, Tryz.ntmps15
  go_upto_region 1 with fail
  rw [HW0.out]
  go_wp2_with fail
  go_loopg [3, 4, 5] m (fun g s bt j wr => ∃ k : Nat, k ≤ m ∧ j = .int .i64 k ∧ m - k ≤ g ∧ s = .int .i64 (U.ofB (mustP l) k : Nat) ∧ bt = .int .i64 (2 ^ k : Nat) ∧ W0 = wr)
  case atStart => exact ⟨0, Nat.zero_le _, rfl, Nat.le_refl _, rfl, rfl, rfl⟩
  case round =>
    obtain ⟨k, hk, rfl, hg, rfl, rfl, rfl⟩ := hrel
    have hs9 := HLt.out k (by omega)
    have hp9 := HPw.out k (by omega)
    by_cases hlt : k < m
    · have hkI : (k : Int) < (m : Int) := by omega
      have hkJ : (k : Int) < 63 := by omega
      obtain ⟨oa', c', hoa, hos⟩ := HO.out
      simp only [Value.slice.injEq] at hoa
      obtain ⟨rfl, -, rfl⟩ := hoa
      obtain ⟨b, o, vc, rfl, hab, hoc, -⟩ := hos k (by rw [HM.out]; exact hlt)
      obtain ⟨k0, k1, k2, k3, k4, k5, k6, k7, k8, k9, k10, k11, k12, k13, k14, k15⟩ := hoc
      have HYk := Lib.hid (HY.out k)
      have HNk := Lib.hid (HNo.out k)
      have HPk : Hid (mustP l k = (!(l.getD k or0).off && (l.getD k or0).pen == -1)) := rfl
      have HP2 : Hid (2 ^ (k + 1) = 2 ^ k * 2) := Nat.pow_succ 2 k
      generalize U.ofB (mustP l) k = s at *
      generalize mustP l k = pk at *
      generalize l.getD k or0 = a at *
      generalize (2 : Nat) ^ k = P at *
      clear hos k0 k1 k2 k3 k4 k5 k6 k7 k8 k9 k10 k12 k13 k14
      obtain ⟨z, hz⟩ : ∃ z, a.off = z := ⟨_, rfl⟩
      rw [hz] at k15 HPk
      clear hz
      cases z
      · by_cases hpn : a.pen = -1
        · have HQ : Hid ((a.pen == -1) = true) := by show _ = _; rw [hpn]; rfl
          rw [hpn] at k11
          clear hpn
          have HX : Hid (U.ofB (mustP l) (k + 1) = s + P) := HYk.out (by rw [HPk.out, HQ.out]; rfl)
          go_wp2_with fail
          go_roundg (m - (k + 1))
          case measure => omega
          case rel => exact ⟨k + 1, by omega, by go_num, by omega, by rw [HX.out]; go_num, by rw [HP2.out]; go_num, rfl⟩
        · have HQ : Hid ((a.pen == -1) = false) := ne_eqI hpn
          have hpI := ne_eqI hpn
          clear hpn
          have HX : Hid (U.ofB (mustP l) (k + 1) = s) := HNk.out (by rw [HPk.out, HQ.out]; rfl)
          go_wp2_with fail
          go_roundg (m - (k + 1))
          case measure => omega
          case rel => exact ⟨k + 1, by omega, by go_num, by omega, by rw [HX.out], by rw [HP2.out]; go_num, rfl⟩
      · skip
        have HX : Hid (U.ofB (mustP l) (k + 1) = s) := HNk.out (by rw [HPk.out]; rfl)
        go_wp2_with fail
        go_roundg (m - (k + 1))
        case measure => omega
        case rel => exact ⟨k + 1, by omega, by go_num, by omega, by rw [HX.out], by rw [HP2.out]; go_num, rfl⟩
    · have hkk : k = m := by omega
      have hkI : ¬ (k : Int) < (m : Int) := by omega
      have HR : Hid (U.ofB (mustP l) k = r) := by show _ = _; rw [hkk]; exact HE.out
      generalize U.ofB (mustP l) k = s at *
      generalize (2 : Nat) ^ k = P at *
      go_wp2_with fail
      go_ret
      exact ⟨ret_int (by rw [HR.out]), HB.out⟩

end Go.Proofs.YtaallpebfcadjaaGreatDoor.T


/-! InstanceSets: its walk (written by gen_inlaw1.py). -/
namespace Go.Proofs.YtaallpebfcadjaaGreatDoor.T
open Go.RowKit
set_option maxRecDepth 8000

theorem has_bit (n i : Nat) : n.testBit i = S.has n i := by
  unfold S.has
  rw [Nat.testBit_eq_decide_div_mod_eq]
  by_cases h : n / 2 ^ i % 2 = 1 <;> simp [h]
theorem must_and (l : List OrT) : mustN l &&& allN l = mustN l := by
  apply Nat.eq_of_testBit_eq
  intro i
  rw [Nat.testBit_and, has_bit, has_bit, mustN, allN, U.has_ofB, U.has_ofB]
  unfold mustP allP
  cases (l.getD i or0).off <;> cases decide (i < l.length) <;> simp
theorem small_len {x : InT} (h : smlB x = true) : x.ol.length ≤ 12 := by
  unfold smlB smlN at h
  simp only [Bool.and_eq_true, decide_eq_true_eq] at h
  omega
set_option maxHeartbeats 6400000 in
theorem sets_n (k : Iv) (x : InT) (hc : x.ol.length ≤ k.c3) (w : World) (hT : Tab w) (hS : S.Tab w) (h : Ins w k x) :
    Calls Tryz.prog 4 #[k.v x] w fun e w' => e = .returned (.bool true) ∧ Below w.heap.size w w' := by
  obtain ⟨o0, c0, o1, c1, o2, c2, o3, c3, o4, c4, o5, c5⟩ := k
  have BI := below_alloc w (.cells #[.slice o0 x.pl.length c0, .slice o1 x.al.length c1, .slice o2 x.tl.length c2, .slice o3 x.ol.length c3, .slice o4 x.ap.length c4, .slice o5 x.be.length c5] 30)
  have M0 := Cb.made w #[.slice o0 x.pl.length c0, .slice o1 x.al.length c1, .slice o2 x.tl.length c2, .slice o3 x.ol.length c3, .slice o4 x.ap.length c4, .slice o5 x.be.length c5] 30
  obtain ⟨W0, hW0⟩ : ∃ W0, w.alloc (.cells #[.slice o0 x.pl.length c0, .slice o1 x.al.length c1, .slice o2 x.tl.length c2, .slice o3 x.ol.length c3, .slice o4 x.ap.length c4, .slice o5 x.be.length c5] 30) = W0 := ⟨_, rfl⟩
  rw [hW0] at BI M0
  have I0 := Lib.hid (h.below BI)
  have HT := Lib.hid (hT.over BI)
  have HS := Lib.hid (hS.over BI)
  have M0 := Lib.hid M0
  have B0 := Lib.hid BI
  have HW0 := Lib.hid hW0
  have AW : Hid (∀ W, Below W0.heap.size W0 W → Calls Tryz.prog 9 #[] W fun e w' => e = .returned (.bool true) ∧ Below W.heap.size W w') := fun W hb => awakeI_n W (HT.out.over hb) (HS.out.over hb)
  have KS := Lib.hid (fun w h1 h2 h3 => small_n o0 o1 o2 o3 o4 o5 c0 c1 c2 c3 c4 c5 x w h1 h2 h3)
  have KA : Hid (x.ol.length ≤ 12 → ∀ w, Ins w ⟨o0, c0, o1, c1, o2, c2, o3, c3, o4, c4, o5, c5⟩ x → Calls Tryz.prog 12 #[.agg #[.slice o0 x.pl.length c0, .slice o1 x.al.length c1, .slice o2 x.tl.length c2, .slice o3 x.ol.length c3, .slice o4 x.ap.length c4, .slice o5 x.be.length c5]] w fun e w' => e = .returned (.int .i64 (allN x.ol : Nat)) ∧ Below w.heap.size w w') := fun hl w h => instAll_n ⟨o0, c0, o1, c1, o2, c2, o3, c3, o4, c4, o5, c5⟩ x (by omega) hc w h
  have KM : Hid (x.ol.length ≤ 12 → ∀ w, Ins w ⟨o0, c0, o1, c1, o2, c2, o3, c3, o4, c4, o5, c5⟩ x → Calls Tryz.prog 13 #[.agg #[.slice o0 x.pl.length c0, .slice o1 x.al.length c1, .slice o2 x.tl.length c2, .slice o3 x.ol.length c3, .slice o4 x.ap.length c4, .slice o5 x.be.length c5]] w fun e w' => e = .returned (.int .i64 (mustN x.ol : Nat)) ∧ Below w.heap.size w w') := fun hl w h => instMust_n ⟨o0, c0, o1, c1, o2, c2, o3, c3, o4, c4, o5, c5⟩ x (by omega) hc w h
  have RA := Lib.hid (fun (hl : x.ol.length ≤ 12) w h => refAll_n o0 o1 o2 o3 o4 o5 x.pl.length x.al.length x.tl.length x.ap.length x.be.length c0 c1 c2 c3 c4 c5 x.ol (by omega) w h)
  have RM := Lib.hid (fun (hl : x.ol.length ≤ 12) w h => refMust_n o0 o1 o2 o3 o4 o5 x.pl.length x.al.length x.tl.length x.ap.length x.be.length c0 c1 c2 c3 c4 c5 x.ol (by omega) w h)
  have HL := Lib.hid (small_len (x := x))
  have hAN : x.ol.length ≤ 12 → bits .and .i64 (mustN x.ol : Nat) (allN x.ol : Nat) = (mustN x.ol : Nat) := fun hl => by
    have h1 : mustN x.ol < 2 ^ x.ol.length := U.ofB_lt _ _
    have h2 : allN x.ol < 2 ^ x.ol.length := U.ofB_lt _ _
    have h3 : 2 ^ x.ol.length ≤ 2 ^ 12 := Nat.pow_le_pow_right (by omega) hl
    rw [S.i64_and _ _ (by omega) (by omega), must_and]
  have HAN := Lib.hid hAN
  generalize allN x.ol = a at *
  generalize mustN x.ol = m at *
  unfold inV at *
  clear h hT hS BI hW0 hc hAN
  show Calls _ _ #[.agg #[.slice o0 x.pl.length c0, .slice o1 x.al.length c1, .slice o2 x.tl.length c2, .slice o3 x.ol.length c3, .slice o4 x.ap.length c4, .slice o5 x.be.length c5]] _ _
  go_enter Tryz.func4, Tryz.ntmps4
  go_upto_region 1 with fail
  rw [HW0.out]
  clear HW0
  have m0 : W0.cell? ⟨w.heap.size, 0, none⟩ = some (.slice o0 x.pl.length c0) := M0.out.cell 0 rfl
  have m1 : W0.cell? ⟨w.heap.size, 1, none⟩ = some (.slice o1 x.al.length c1) := M0.out.cell 1 rfl
  have m2 : W0.cell? ⟨w.heap.size, 2, none⟩ = some (.slice o2 x.tl.length c2) := M0.out.cell 2 rfl
  have m3 : W0.cell? ⟨w.heap.size, 3, none⟩ = some (.slice o3 x.ol.length c3) := M0.out.cell 3 rfl
  have m4 : W0.cell? ⟨w.heap.size, 4, none⟩ = some (.slice o4 x.ap.length c4) := M0.out.cell 4 rfl
  have m5 : W0.cell? ⟨w.heap.size, 5, none⟩ = some (.slice o5 x.be.length c5) := M0.out.cell 5 rfl
  go_wp2_with fail
  refine (KS.out _ I0.out.h1 I0.out.h2 I0.out.h3).mono ?_
  rintro e w1 ⟨rfl, hb⟩
  have hb0 := hb
  clear m0 m1 m2 m3 m4 m5
  have M1 := Lib.hid (M0.out.below hb)
  have I1 := Lib.hid (I0.out.below hb)
  have B1 := Lib.hid (over B0.out hb)
  clear hb M0 I0 B0
  have m0 : w1.cell? ⟨w.heap.size, 0, none⟩ = some (.slice o0 x.pl.length c0) := M1.out.cell 0 rfl
  have m1 : w1.cell? ⟨w.heap.size, 1, none⟩ = some (.slice o1 x.al.length c1) := M1.out.cell 1 rfl
  have m2 : w1.cell? ⟨w.heap.size, 2, none⟩ = some (.slice o2 x.tl.length c2) := M1.out.cell 2 rfl
  have m3 : w1.cell? ⟨w.heap.size, 3, none⟩ = some (.slice o3 x.ol.length c3) := M1.out.cell 3 rfl
  have m4 : w1.cell? ⟨w.heap.size, 4, none⟩ = some (.slice o4 x.ap.length c4) := M1.out.cell 4 rfl
  have m5 : w1.cell? ⟨w.heap.size, 5, none⟩ = some (.slice o5 x.be.length c5) := M1.out.cell 5 rfl
  have BW1 := Lib.hid hb0
  cases hsm : smlB x
  · go_wp2_with fail
    refine (AW.out _ BW1.out).mono ?_
    rintro e w2 ⟨rfl, hb⟩
    have B2 := over B1.out hb
    go_wp2_with fail
    go_ret
    exact ⟨rfl, B2⟩
  have hl := HL.out hsm
  have KA := Lib.hid (KA.out hl)
  have KM := Lib.hid (KM.out hl)
  have RA := Lib.hid (RA.out hl)
  have RM := Lib.hid (RM.out hl)
  have hAN := HAN.out hl
  clear HAN hl
  go_wp2_with fail
  refine (KA.out _ I1.out).mono ?_
  rintro e w2 ⟨rfl, hb⟩
  have BW2 := Lib.hid (over BW1.out hb)
  clear m0 m1 m2 m3 m4 m5
  have M2 := Lib.hid (M1.out.below hb)
  have I2 := Lib.hid (I1.out.below hb)
  have B2 := Lib.hid (over B1.out hb)
  clear hb M1 I1 B1
  have m0 : w2.cell? ⟨w.heap.size, 0, none⟩ = some (.slice o0 x.pl.length c0) := M2.out.cell 0 rfl
  have m1 : w2.cell? ⟨w.heap.size, 1, none⟩ = some (.slice o1 x.al.length c1) := M2.out.cell 1 rfl
  have m2 : w2.cell? ⟨w.heap.size, 2, none⟩ = some (.slice o2 x.tl.length c2) := M2.out.cell 2 rfl
  have m3 : w2.cell? ⟨w.heap.size, 3, none⟩ = some (.slice o3 x.ol.length c3) := M2.out.cell 3 rfl
  have m4 : w2.cell? ⟨w.heap.size, 4, none⟩ = some (.slice o4 x.ap.length c4) := M2.out.cell 4 rfl
  have m5 : w2.cell? ⟨w.heap.size, 5, none⟩ = some (.slice o5 x.be.length c5) := M2.out.cell 5 rfl
  go_wp2_with fail
  refine (KM.out _ I2.out).mono ?_
  rintro e w3 ⟨rfl, hb⟩
  have BW3 := Lib.hid (over BW2.out hb)
  clear m0 m1 m2 m3 m4 m5
  have M3 := Lib.hid (M2.out.below hb)
  have I3 := Lib.hid (I2.out.below hb)
  have B3 := Lib.hid (over B2.out hb)
  clear hb M2 I2 B2
  have m0 : w3.cell? ⟨w.heap.size, 0, none⟩ = some (.slice o0 x.pl.length c0) := M3.out.cell 0 rfl
  have m1 : w3.cell? ⟨w.heap.size, 1, none⟩ = some (.slice o1 x.al.length c1) := M3.out.cell 1 rfl
  have m2 : w3.cell? ⟨w.heap.size, 2, none⟩ = some (.slice o2 x.tl.length c2) := M3.out.cell 2 rfl
  have m3 : w3.cell? ⟨w.heap.size, 3, none⟩ = some (.slice o3 x.ol.length c3) := M3.out.cell 3 rfl
  have m4 : w3.cell? ⟨w.heap.size, 4, none⟩ = some (.slice o4 x.ap.length c4) := M3.out.cell 4 rfl
  have m5 : w3.cell? ⟨w.heap.size, 5, none⟩ = some (.slice o5 x.be.length c5) := M3.out.cell 5 rfl
  go_wp2_with fail
  refine (RA.out _ I3.out.h3).mono ?_
  rintro e w4 ⟨rfl, hb⟩
  have BW4 := Lib.hid (over BW3.out hb)
  clear m0 m1 m2 m3 m4 m5
  have M4 := Lib.hid (M3.out.below hb)
  have I4 := Lib.hid (I3.out.below hb)
  have B4 := Lib.hid (over B3.out hb)
  clear hb M3 I3 B3
  have m0 : w4.cell? ⟨w.heap.size, 0, none⟩ = some (.slice o0 x.pl.length c0) := M4.out.cell 0 rfl
  have m1 : w4.cell? ⟨w.heap.size, 1, none⟩ = some (.slice o1 x.al.length c1) := M4.out.cell 1 rfl
  have m2 : w4.cell? ⟨w.heap.size, 2, none⟩ = some (.slice o2 x.tl.length c2) := M4.out.cell 2 rfl
  have m3 : w4.cell? ⟨w.heap.size, 3, none⟩ = some (.slice o3 x.ol.length c3) := M4.out.cell 3 rfl
  have m4 : w4.cell? ⟨w.heap.size, 4, none⟩ = some (.slice o4 x.ap.length c4) := M4.out.cell 4 rfl
  have m5 : w4.cell? ⟨w.heap.size, 5, none⟩ = some (.slice o5 x.be.length c5) := M4.out.cell 5 rfl
  go_wp2_with fail
  refine (RM.out _ I4.out.h3).mono ?_
  rintro e w5 ⟨rfl, hb⟩
  have BW5 := Lib.hid (over BW4.out hb)
  clear m0 m1 m2 m3 m4 m5
  have M5 := Lib.hid (M4.out.below hb)
  have I5 := Lib.hid (I4.out.below hb)
  have B5 := Lib.hid (over B4.out hb)
  clear hb M4 I4 B4
  have m0 : w5.cell? ⟨w.heap.size, 0, none⟩ = some (.slice o0 x.pl.length c0) := M5.out.cell 0 rfl
  have m1 : w5.cell? ⟨w.heap.size, 1, none⟩ = some (.slice o1 x.al.length c1) := M5.out.cell 1 rfl
  have m2 : w5.cell? ⟨w.heap.size, 2, none⟩ = some (.slice o2 x.tl.length c2) := M5.out.cell 2 rfl
  have m3 : w5.cell? ⟨w.heap.size, 3, none⟩ = some (.slice o3 x.ol.length c3) := M5.out.cell 3 rfl
  have m4 : w5.cell? ⟨w.heap.size, 4, none⟩ = some (.slice o4 x.ap.length c4) := M5.out.cell 4 rfl
  have m5 : w5.cell? ⟨w.heap.size, 5, none⟩ = some (.slice o5 x.be.length c5) := M5.out.cell 5 rfl
  go_wp2_with fail
  refine (AW.out _ BW5.out).mono ?_
  rintro e w6 ⟨rfl, hb⟩
  have B6 := over B5.out hb
  go_wp2_with fail
  go_ret
  exact ⟨rfl, B6⟩

end Go.Proofs.YtaallpebfcadjaaGreatDoor.T


