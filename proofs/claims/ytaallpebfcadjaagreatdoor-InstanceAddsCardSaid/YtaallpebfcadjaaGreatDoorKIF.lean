/-
  DERIVED. KIF: a part of the base of layer 13 (made by pack.py).
-/
import Derived.Test.YtaallpebfcadjaaGreatDoorKIE
import Derived.Test.YtaallpebfcadjaaGreatDoorKQG
import Derived.Test.YtaallpebfcadjaaGreatDoorKPU
import Derived.Test.YtaallpebfcadjaaGreatDoorKIC
/-! An instance whose memory was made since a block; the walk of the landed instance's copyOf (written by gen_incp5.py). -/
namespace Go.Proofs.YtaallpebfcadjaaGreatDoor.T
open Go.RowKit
set_option maxRecDepth 8000

/-- an instance whose lists can be copied -/
structure InC (x : InT) : Prop where
  pl : x.pl.length ≤ 1000
  al : x.al.length ≤ 1000
  tr : ∀ i, i < x.al.length → (x.al.getD i arc0).tr.length ≤ 1000000 ∧ (x.al.getD i arc0).sl.length ≤ 1000000
  tl : x.tl.length ≤ 1000
  cap : ∀ i, i < x.tl.length → (x.tl.getD i ty0).cap.length ≤ 1000000
  ol : x.ol.length ≤ 1000
  load : ∀ i, i < x.ol.length → (x.ol.getD i or0).load.length ≤ 1000000
  ap : x.ap.length ≤ 1000
  be : x.be.length ≤ 1000
/-- the lists hold the instance, and were made since block B -/
structure InsM (B : Nat) (w : World) (k : Iv) (x : InT) : Prop where
  h0 : Ss w (.slice k.o0 x.pl.length k.c0) x.pl
  f0 : Fr B (.slice k.o0 x.pl.length k.c0)
  h1 : FmA B w (.slice k.o1 x.al.length k.c1) x.al
  h2 : FmT B w (.slice k.o2 x.tl.length k.c2) x.tl
  h3 : FmO B w (.slice k.o3 x.ol.length k.c3) x.ol
  h4 : Ps w (.slice k.o4 x.ap.length k.c4) x.ap
  f4 : Fr B (.slice k.o4 x.ap.length k.c4)
  h5 : Ps w (.slice k.o5 x.be.length k.c5) x.be
  f5 : Fr B (.slice k.o5 x.be.length k.c5)
theorem InsM.below {B : Nat} {w w' : World} {k : Iv} {x : InT} (h : InsM B w k x) (hb : Below w.heap.size w w') : InsM B w' k x :=
  ⟨h.h0.below hb, h.f0, h.h1.below hb, h.h2.below hb, h.h3.below hb, psI_below h.h4 hb, h.f4, psI_below h.h5 hb, h.f5⟩
theorem InsM.kept {B g : Nat} {w w' : World} {k : Iv} {x : InT} (h : InsM B w k x) (hg : w.grownBy w' (some g)) (hB : g < B) : InsM B w' k x :=
  ⟨ss_kept h.h0 hg (h.f0.ne hB), h.f0, h.h1.kept hg hB, h.h2.kept hg hB, h.h3.kept hg hB, ps_kept h.h4 hg (h.f4.ne hB), h.f4, ps_kept h.h5 hg (h.f5.ne hB), h.f5⟩
theorem Fr.mono {B C : Nat} {v : Value} (h : Fr B v) (hc : C ≤ B) : Fr C v := fun b hb => Nat.le_trans hc (h b hb)
theorem InsM.mono {B C : Nat} {w : World} {k : Iv} {x : InT} (h : InsM B w k x) (hc : C ≤ B) : InsM C w k x :=
  ⟨h.h0, h.f0.mono hc, h.h1.mono hc, h.h2.mono hc, h.h3.mono hc, h.h4, h.f4.mono hc, h.h5, h.f5.mono hc⟩
theorem cells6 (w : World) (g : Nat) (v0 v1 v2 v3 v4 v5 : Value) : (((((((w.setCell ⟨g, 0, none⟩ v0).setCell ⟨g, 1, none⟩ v1).setCell ⟨g, 2, none⟩ v2).setCell ⟨g, 3, none⟩ v3).setCell ⟨g, 4, none⟩ v4).setCell ⟨g, 5, none⟩ v5)) = setCells w g 0 [v0, v1, v2, v3, v4, v5] := rfl
theorem copiesT_n (v : Value) (l : List TyT) (hl : l.length ≤ 100000) (ht : ∀ i, i < l.length → (l.getD i ty0).cap.length ≤ 1000000) (w : World) (hv : Ts w v l) :
    Calls Tryz.prog 54 #[v, .func (.func 55) #[] #[]] w fun e w' => ∃ oa c, e = .returned (.slice oa l.length c) ∧ FmT w.heap.size w' (.slice oa l.length c) l ∧ Below w.heap.size w w' :=
  copiesTypes_n _ (fun args w => enters_of Tryz.func55 (by kernel_rfl) rfl args w) v l hl (fun i hi o0 c0 w h0 => copyOfType_n (l.getD i ty0) _ (ht i hi) w h0) w hv
end Go.Proofs.YtaallpebfcadjaaGreatDoor.T


/-! The walks of the landed instance's setOf, All and Must (written by gen_inset.py). -/
namespace Go.Proofs.YtaallpebfcadjaaGreatDoor.T
open Go.RowKit
set_option maxRecDepth 8000

theorem w64_9 {q : Nat} (h : q < 9223372036854775808) : wrap64 (q : Int) = (q : Int) := by unfold wrap64; omega
theorem i64_or9 (a b : Nat) (ha : a < 9223372036854775808) (hb : b < 9223372036854775808) : bits .or .i64 (a : Int) (b : Int) = ((a ||| b : Nat) : Int) := by
  have hx : a ||| b < 2 ^ 63 := Nat.or_lt_two_pow (by omega) (by omega)
  have h1 : (BitVec.ofInt 64 (a : Int)).toNat = a := by
    rw [BitVec.ofInt_natCast, BitVec.toNat_ofNat]; exact Nat.mod_eq_of_lt (by omega)
  have h2 : (BitVec.ofInt 64 (b : Int)).toNat = b := by
    rw [BitVec.ofInt_natCast, BitVec.toNat_ofNat]; exact Nat.mod_eq_of_lt (by omega)
  show IntKind.i64.wrap ((BitVec.ofInt 64 (a : Int) ||| BitVec.ofInt 64 (b : Int)).toNat : Int) = _
  rw [BitVec.toNat_or, h1, h2, IntKind.wrap_i64]
  omega
theorem or_free9 (n k : Nat) (h : S.has n k = false) : n ||| 2 ^ k = n + 2 ^ k := by
  induction k generalizing n with
  | zero =>
    obtain ⟨t, rfl | rfl⟩ := S.halves n
    · have := S.or_eo t 0
      rw [Nat.or_zero] at this; exact this
    · rw [S.has_o0] at h; cases h
  | succ k ih =>
    rw [Nat.pow_succ, Nat.mul_comm]
    obtain ⟨t, rfl | rfl⟩ := S.halves n
    · rw [S.has_es] at h; rw [S.or_ee, ih t h]; omega
    · rw [S.has_os] at h; rw [S.or_oe, ih t h]; omega

theorem setBit9 (m j : Nat) (hm : m < 9223372036854775808) (hj : j ≤ 62) (h : S.has m j = false) : bits .or .i64 (m : Int) (wrap64 (2 ^ j)) = ((m + 2 ^ j : Nat) : Int) := by
  have hp := S.pow_le62 hj
  have hw := w64_9 (q := 2 ^ j) (by omega)
  rw [show ((2 ^ j : Nat) : Int) = 2 ^ j by simp] at hw
  rw [hw]
  have h1 := i64_or9 m (2 ^ j) hm (by omega)
  rw [or_free9 m j h] at h1
  rw [← h1]; simp
theorem all1_n (a : OrT) (o0 : Option Addr) (c0 : Nat) (w : World) :
    Calls Tryz.prog 36 #[orV a (.slice o0 a.load.length c0)] w fun e w' => e = .returned (.bool (!a.off)) ∧ Below w.heap.size w w' := by
  have HB := Lib.hid (below_alloc w (.cells #[.string a.name, .slice o0 a.load.length c0, .int .i64 a.pp, .int .i64 a.po, .int .i64 a.pc, .int .i64 a.ps, .int .i64 a.dp, .int .i64 a.dd, .int .i64 a.dc, .int .i64 a.ds, .int .i64 a.sk, .int .i64 a.pen, .int .i64 a.spl, .int .i64 a.las, .int .i64 a.now, .bool a.off] 44))
  unfold orV
  go_enter Tryz.func36, Tryz.ntmps36
  go_wp2_with fail
  go_ret
  exact ⟨rfl, HB.out⟩
theorem must1_n (a : OrT) (o0 : Option Addr) (c0 : Nat) (w : World) :
    Calls Tryz.prog 37 #[orV a (.slice o0 a.load.length c0)] w fun e w' => e = .returned (.bool (!a.off && a.pen == -1)) ∧ Below w.heap.size w w' := by
  have HB := Lib.hid (below_alloc w (.cells #[.string a.name, .slice o0 a.load.length c0, .int .i64 a.pp, .int .i64 a.po, .int .i64 a.pc, .int .i64 a.ps, .int .i64 a.dp, .int .i64 a.dd, .int .i64 a.dc, .int .i64 a.ds, .int .i64 a.sk, .int .i64 a.pen, .int .i64 a.spl, .int .i64 a.las, .int .i64 a.now, .bool a.off] 44))
  unfold orV
  obtain ⟨z, hz⟩ : ∃ z, a.off = z := ⟨_, rfl⟩
  obtain ⟨y, hy⟩ : ∃ y, (a.pen == -1) = y := ⟨_, rfl⟩
  rw [hz] at HB ⊢
  rw [hy]
  cases z
  · go_enter Tryz.func37, Tryz.ntmps37
    go_wp2_with fail
    go_ret
    first | exact ⟨rfl, HB.out⟩ | exact ⟨ret_bool (by first | rfl | simp), HB.out⟩
  · go_enter Tryz.func37, Tryz.ntmps37
    go_wp2_with fail
    go_ret
    first | exact ⟨rfl, HB.out⟩ | exact ⟨ret_bool (by first | rfl | simp), HB.out⟩
set_option maxHeartbeats 6400000 in
theorem setOf_n (gf : FuncId) (eg : ∀ args w, (callFunc gf args).run Tryz.prog w = .ok (.enter gf args) w) (p : Nat → Bool) (ob : Option Addr) (cb : Nat) (l : List OrT) (hl : l.length ≤ 40) (hc : l.length ≤ cb)
    (hp : ∀ i, i < l.length → ∀ (o0 : Option Addr) (c0 : Nat) (w : World), Calls Tryz.prog gf #[orV (l.getD i or0) (.slice o0 (l.getD i or0).load.length c0)] w fun e w' => e = .returned (.bool (p i)) ∧ Below w.heap.size w w') (w : World) (hv : Os w (.slice ob l.length cb) l) :
    Calls Tryz.prog 35 #[.slice ob l.length cb, .func (.func gf) #[] #[]] w fun e w' => e = .returned (.int .i64 (U.ofB p l.length : Nat)) ∧ Below w.heap.size w w' := by
  have HV := Lib.hid hv
  have KP := Lib.hid hp
  have HY := Lib.hid (fun k h => ofb_yes (p := p) (k := k) h)
  have HNo := Lib.hid (fun k h => ofb_no (p := p) (k := k) h)
  have HLt := Lib.hid (fun k (h : k ≤ 40) => Nat.lt_of_lt_of_le (U.ofB_lt p k) (pow40 h))
  have HHas : Hid (∀ k, S.has (U.ofB p k) k = false) := fun k => by rw [U.has_ofB, decide_eq_false (by omega)]; rfl
  have HR : Hid (U.ofB p l.length = U.ofB p l.length) := rfl
  generalize hr : U.ofB p l.length = r at *
  have HRr := Lib.hid hr
  generalize hn : l.length = n at *
  have HN := Lib.hid hn
  clear hp hn hr HR hv
  have hmin : min (n : Int) 63 = (n : Int) := by omega
  have hminN : ¬ (63 : Int) < (n : Int) := by omega
  go_enter Tryz.func35, Tryz.ntmps35
  go_wp2_with fail
  go_loopg [5, 14] n (fun gg s j wr => ∃ k : Nat, k ≤ n ∧ j = .int .i64 k ∧ n - k ≤ gg ∧ s = .int .i64 (U.ofB p k : Nat) ∧ Hid (Below w.heap.size w wr))
  case atStart => exact ⟨0, Nat.zero_le _, rfl, Nat.le_refl _, rfl, Below.refl _ _⟩
  case round =>
    obtain ⟨k, hk, rfl, hg, rfl, HB⟩ := hrel
    by_cases hlt : k < n
    · have hkI : (k : Int) < (n : Int) := by omega
      obtain ⟨ob', c', hob, hos⟩ := HV.out.below HB.out
      rw [HN.out] at hob
      simp only [Value.slice.injEq] at hob
      obtain ⟨rfl, -, rfl⟩ := hob
      obtain ⟨b1, q1, vc, rfl, hb1, hac, hvc⟩ := hos k (by rw [HN.out]; exact hlt)
      have HPk := Lib.hid (fun o0 c0 => KP.out k hlt o0 c0)
      have hs9 := HLt.out k (by omega)
      have hbit := setBit9 (U.ofB p k) k (by omega) (by omega) (HHas.out k)
      have HYk := Lib.hid (HY.out k)
      have HNk := Lib.hid (HNo.out k)
      obtain ⟨o0, c0, rfl, -⟩ := id hvc
      obtain ⟨x0, x1, x2, x3, x4, x5, x6, x7, x8, x9, x10, x11, x12, x13, x14, x15⟩ := hac
      clear hos hvc
      generalize l.getD k or0 = s at *
      unfold orV at HPk
      have hal := below_alloc wr (.cells #[.string s.name, .slice o0 s.load.length c0, .int .i64 s.pp, .int .i64 s.po, .int .i64 s.pc, .int .i64 s.ps, .int .i64 s.dp, .int .i64 s.dd, .int .i64 s.dc, .int .i64 s.ds, .int .i64 s.sk, .int .i64 s.pen, .int .i64 s.spl, .int .i64 s.las, .int .i64 s.now, .bool s.off] 44)
      have M1 := Cb.made wr #[.string s.name, .slice o0 s.load.length c0, .int .i64 s.pp, .int .i64 s.po, .int .i64 s.pc, .int .i64 s.ps, .int .i64 s.dp, .int .i64 s.dd, .int .i64 s.dc, .int .i64 s.ds, .int .i64 s.sk, .int .i64 s.pen, .int .i64 s.spl, .int .i64 s.las, .int .i64 s.now, .bool s.off] 44
      obtain ⟨W1, hW1⟩ : ∃ W1, wr.alloc (.cells #[.string s.name, .slice o0 s.load.length c0, .int .i64 s.pp, .int .i64 s.po, .int .i64 s.pc, .int .i64 s.ps, .int .i64 s.dp, .int .i64 s.dd, .int .i64 s.dc, .int .i64 s.ds, .int .i64 s.sk, .int .i64 s.pen, .int .i64 s.spl, .int .i64 s.las, .int .i64 s.now, .bool s.off] 44) = W1 := ⟨_, rfl⟩
      rw [hW1] at hal M1
      have HW1 := Lib.hid hW1
      have HM1 := Lib.hid M1
      have HB := Lib.hid (over HB.out hal)
      clear hal M1 hW1
      go_upto_region 5 with fail
      rw [HW1.out]
      clear x0 x1 x2 x3 x4 x5 x6 x7 x8 x9 x10 x11 x12 x13 x14 x15 HW1
      generalize wr.heap.size = q1 at *
      have m0 : W1.cell? ⟨q1, 0, none⟩ = some (.string s.name) := HM1.out.cell 0 rfl
      have m1 : W1.cell? ⟨q1, 1, none⟩ = some (.slice o0 s.load.length c0) := HM1.out.cell 1 rfl
      have m2 : W1.cell? ⟨q1, 2, none⟩ = some (.int .i64 s.pp) := HM1.out.cell 2 rfl
      have m3 : W1.cell? ⟨q1, 3, none⟩ = some (.int .i64 s.po) := HM1.out.cell 3 rfl
      have m4 : W1.cell? ⟨q1, 4, none⟩ = some (.int .i64 s.pc) := HM1.out.cell 4 rfl
      have m5 : W1.cell? ⟨q1, 5, none⟩ = some (.int .i64 s.ps) := HM1.out.cell 5 rfl
      have m6 : W1.cell? ⟨q1, 6, none⟩ = some (.int .i64 s.dp) := HM1.out.cell 6 rfl
      have m7 : W1.cell? ⟨q1, 7, none⟩ = some (.int .i64 s.dd) := HM1.out.cell 7 rfl
      have m8 : W1.cell? ⟨q1, 8, none⟩ = some (.int .i64 s.dc) := HM1.out.cell 8 rfl
      have m9 : W1.cell? ⟨q1, 9, none⟩ = some (.int .i64 s.ds) := HM1.out.cell 9 rfl
      have m10 : W1.cell? ⟨q1, 10, none⟩ = some (.int .i64 s.sk) := HM1.out.cell 10 rfl
      have m11 : W1.cell? ⟨q1, 11, none⟩ = some (.int .i64 s.pen) := HM1.out.cell 11 rfl
      have m12 : W1.cell? ⟨q1, 12, none⟩ = some (.int .i64 s.spl) := HM1.out.cell 12 rfl
      have m13 : W1.cell? ⟨q1, 13, none⟩ = some (.int .i64 s.las) := HM1.out.cell 13 rfl
      have m14 : W1.cell? ⟨q1, 14, none⟩ = some (.int .i64 s.now) := HM1.out.cell 14 rfl
      have m15 : W1.cell? ⟨q1, 15, none⟩ = some (.bool s.off) := HM1.out.cell 15 rfl
      go_wp2_with fail
      refine (HPk.out _ _ _).mono ?_
      clear m0 m1 m2 m3 m4 m5 m6 m7 m8 m9 m10 m11 m12 m13 m14 m15
      rintro e w5 ⟨rfl, hb⟩
      have HB := Lib.hid (over HB.out hb)
      clear hb HPk KP
      generalize U.ofB p k = sk at *
      cases hpk : p k
      · have HX : Hid (U.ofB p (k + 1) = sk) := HNk.out hpk
        clear hpk
        go_wp2_with fail
        go_roundg (n - (k + 1))
        case measure => omega
        case rel => exact ⟨k + 1, by omega, by go_num, by omega, by rw [HX.out], HB⟩
      · have HX : Hid (U.ofB p (k + 1) = sk + 2 ^ k) := HYk.out hpk
        clear hpk
        obtain ⟨s2, hs2⟩ : ∃ s2, sk + 2 ^ k = s2 := ⟨_, rfl⟩
        rw [hs2] at hbit HX
        clear hs2
        go_wp2_with fail
        go_roundg (n - (k + 1))
        case measure => omega
        case rel => exact ⟨k + 1, by omega, by go_num, by omega, by rw [HX.out], HB⟩
    · have hkk : k = n := by omega
      have hkI : ¬ (k : Int) < (n : Int) := by omega
      have HX : Hid (U.ofB p k = r) := by show _ = _; rw [hkk, HRr.out]
      clear hkk
      go_wp2_with fail
      go_ret
      exact ⟨ret_int (by rw [HX.out]), HB.out⟩

set_option maxHeartbeats 3200000 in
theorem instAll_n (k : Iv) (x : InT) (hl : x.ol.length ≤ 40) (hc : x.ol.length ≤ k.c3) (w : World) (h : Ins w k x) :
    Calls Tryz.prog 12 #[k.v x] w fun e w' => e = .returned (.int .i64 (allN x.ol : Nat)) ∧ Below w.heap.size w w' := by
  obtain ⟨o0, c0, o1, c1, o2, c2, o3, c3, o4, c4, o5, c5⟩ := k
  unfold Iv.v inV
  simp only at hc ⊢
  have BI := below_alloc w (.cells #[.slice o0 x.pl.length c0, .slice o1 x.al.length c1, .slice o2 x.tl.length c2, .slice o3 x.ol.length c3, .slice o4 x.ap.length c4, .slice o5 x.be.length c5] 30)
  have I0 := Ib.made w (.slice o0 x.pl.length c0) (.slice o1 x.al.length c1) (.slice o2 x.tl.length c2) (.slice o3 x.ol.length c3) (.slice o4 x.ap.length c4) (.slice o5 x.be.length c5)
  have HO := Lib.hid (h.h3.below BI)
  have KS := Lib.hid (fun w hv => setOf_n _ (fun args w => enters_of Tryz.func36 (by kernel_rfl) rfl args w) (allP x.ol) o3 c3 x.ol hl hc (fun i hi o0 c0 w => all1_n (x.ol.getD i or0) o0 c0 w) w hv)
  have HB := Lib.hid BI
  have i3 := I0.c3
  clear BI I0 h
  have HE : Hid (U.ofB (allP x.ol) x.ol.length = allN x.ol) := rfl
  rw [HE.out] at KS
  clear HE
  go_enter Tryz.func12, Tryz.ntmps12
  go_wp2_with fail
  refine (KS.out _ HO.out).mono ?_
  rintro e w1 ⟨rfl, hb⟩
  have HB2 := Lib.hid (over HB.out hb)
  clear hb
  go_wp2_with fail
  go_ret
  exact ⟨rfl, HB2.out⟩

set_option maxHeartbeats 3200000 in
theorem instMust_n (k : Iv) (x : InT) (hl : x.ol.length ≤ 40) (hc : x.ol.length ≤ k.c3) (w : World) (h : Ins w k x) :
    Calls Tryz.prog 13 #[k.v x] w fun e w' => e = .returned (.int .i64 (mustN x.ol : Nat)) ∧ Below w.heap.size w w' := by
  obtain ⟨o0, c0, o1, c1, o2, c2, o3, c3, o4, c4, o5, c5⟩ := k
  unfold Iv.v inV
  simp only at hc ⊢
  have BI := below_alloc w (.cells #[.slice o0 x.pl.length c0, .slice o1 x.al.length c1, .slice o2 x.tl.length c2, .slice o3 x.ol.length c3, .slice o4 x.ap.length c4, .slice o5 x.be.length c5] 30)
  have I0 := Ib.made w (.slice o0 x.pl.length c0) (.slice o1 x.al.length c1) (.slice o2 x.tl.length c2) (.slice o3 x.ol.length c3) (.slice o4 x.ap.length c4) (.slice o5 x.be.length c5)
  have HO := Lib.hid (h.h3.below BI)
  have KS := Lib.hid (fun w hv => setOf_n _ (fun args w => enters_of Tryz.func37 (by kernel_rfl) rfl args w) (mustP x.ol) o3 c3 x.ol hl hc (fun i hi o0 c0 w => must1_n (x.ol.getD i or0) o0 c0 w) w hv)
  have HB := Lib.hid BI
  have i3 := I0.c3
  clear BI I0 h
  have HE : Hid (U.ofB (mustP x.ol) x.ol.length = mustN x.ol) := rfl
  rw [HE.out] at KS
  clear HE
  go_enter Tryz.func13, Tryz.ntmps13
  go_wp2_with fail
  refine (KS.out _ HO.out).mono ?_
  rintro e w1 ⟨rfl, hb⟩
  have HB2 := Lib.hid (over HB.out hb)
  clear hb
  go_wp2_with fail
  go_ret
  exact ⟨rfl, HB2.out⟩

end Go.Proofs.YtaallpebfcadjaaGreatDoor.T


/-! The walk of the landed instance's Same (written by gen_insame.py). -/
namespace Go.Proofs.YtaallpebfcadjaaGreatDoor.T
open Go.RowKit
set_option maxRecDepth 8000

theorem bytes_eq {a b : ByteArray} : a = b ↔ a.toList = b.toList := by
  constructor
  · rintro rfl; rfl
  · intro h
    have h1 := ByteArray.toList_eq a
    have h2 := ByteArray.toList_eq b
    rw [h1, h2] at h
    exact ByteArray.ext (Array.toList_inj.1 h)
theorem strs_eq (a b : List ByteArray) : decide (a = b) = (decide (a.length = b.length) && allI a.length fun i => samS (a.getD i ⟨#[]⟩) (b.getD i ⟨#[]⟩)) := by
  rw [Bool.eq_iff_iff, decide_eq_true_iff, Bool.and_eq_true, decide_eq_true_iff]
  constructor
  · rintro rfl
    exact ⟨rfl, allI_yes fun i _ => by unfold samS; simp⟩
  · rintro ⟨h1, h2⟩
    apply List.ext_getElem h1
    intro i hi hj
    have h3 := List.all_eq_true.1 h2 i (List.mem_range.2 hi)
    unfold samS at h3
    rw [beq_iff_eq, ← bytes_eq, List.getD_eq_getElem?_getD, List.getD_eq_getElem?_getD, List.getElem?_eq_getElem hi, List.getElem?_eq_getElem hj] at h3
    exact h3
theorem same_parts (x x' : InT) : (decide (x.pl = x'.pl) && ((decide (x.al.length = x'.al.length) && allI x.al.length (fun i => samA (x.al.getD i arc0) (x'.al.getD i arc0))) && ((decide (x.tl.length = x'.tl.length) && allI x.tl.length (fun i => sameT (x.tl.getD i ty0) (x'.tl.getD i ty0))) && ((decide (x.ol.length = x'.ol.length) && allI x.ol.length (fun i => sameO (x.ol.getD i or0) (x'.ol.getD i or0))) && ((x.ap == x'.ap) && (x.be == x'.be)))))) = sameI x x' := by
  unfold sameI netsB
  rw [strs_eq]
  cases decide (x.pl.length = x'.pl.length) <;> cases decide (x.al.length = x'.al.length) <;> cases decide (x.tl.length = x'.tl.length) <;> cases decide (x.ol.length = x'.ol.length) <;> simp [Bool.and_assoc]
set_option maxHeartbeats 12800000 in
theorem sameInst_n (k k' : Iv) (x x' : InT) (hx : InC x) (hx' : InC x') (w : World) (h : Ins w k x) (h' : Ins w k' x') :
    Calls Tryz.prog 16 #[k.v x, k'.v x'] w fun e w' => e = .returned (.bool (sameI x x')) ∧ Below w.heap.size w w' := by
  obtain ⟨o0, c0, o1, c1, o2, c2, o3, c3, o4, c4, o5, c5⟩ := k
  obtain ⟨o0', c0', o1', c1', o2', c2', o3', c3', o4', c4', o5', c5'⟩ := k'
  unfold Iv.v inV
  simp only
  have l0 := hx.pl
  have l0' := hx'.pl
  have l1 := hx.al
  have l2 := hx.tl
  have l3 := hx.ol
  have l4 := hx.ap
  have l5 := hx.be
  have K0 := Lib.hid (fun w hv hu => (eqStrs_n (.slice o0 x.pl.length c0) (.slice o0' x'.pl.length c0') x.pl x'.pl (by omega) (by omega) w hv hu).mono fun _ w' ⟨he, q, hq⟩ => (⟨he, by rw [hq]; exact below_drewN (Below.refl _ _) q⟩ : _ ∧ Below w.heap.size w w'))
  have K1 := Lib.hid (fun w hv hu => eqArcs_n _ (fun args w => enters_of Tryz.func40 (by kernel_rfl) rfl args w) (fun i => samA (x.al.getD i arc0) (x'.al.getD i arc0)) (.slice o1 x.al.length c1) (.slice o1' x'.al.length c1') x.al x'.al (by omega) (fun i hi _ p0 p1 q0 q1 d0 d1 e0 e1 w h1 h2 h3 h4 => sameArc_n (x.al.getD i arc0) (x'.al.getD i arc0) _ _ _ _ (hx.tr i hi) w h1 h2 h3 h4) w hv hu)
  have K2 := Lib.hid (fun w hv hu => eqTypes_n _ (fun args w => enters_of Tryz.func42 (by kernel_rfl) rfl args w) (fun i => sameT (x.tl.getD i ty0) (x'.tl.getD i ty0)) (.slice o2 x.tl.length c2) (.slice o2' x'.tl.length c2') x.tl x'.tl (by omega) (fun i hi hj p0 q0 d0 e0 w h1 h2 => same_n (x.tl.getD i ty0) (x'.tl.getD i ty0) _ _ _ _ (Nat.le_trans (hx.cap i hi) (by decide)) (Nat.le_trans (hx'.cap i hj) (by decide)) w h1 h2) w hv hu)
  have K3 := Lib.hid (fun w hv hu => eqOrders_n _ (fun args w => enters_of Tryz.func44 (by kernel_rfl) rfl args w) (fun i => sameO (x.ol.getD i or0) (x'.ol.getD i or0)) (.slice o3 x.ol.length c3) (.slice o3' x'.ol.length c3') x.ol x'.ol (by omega) (fun i hi hj p0 q0 d0 e0 w h1 h2 => ordSame_n (x.ol.getD i or0) (x'.ol.getD i or0) _ _ _ _ (Nat.le_trans (hx.load i hi) (by decide)) (Nat.le_trans (hx'.load i hj) (by decide)) w h1 h2) w hv hu)
  have K4 := Lib.hid (fun w hv hu => eqPrs_n (.slice o4 x.ap.length c4) (.slice o4' x'.ap.length c4') x.ap x'.ap (by omega) w hv hu)
  have K5 := Lib.hid (fun w hv hu => eqPrs_n (.slice o5 x.be.length c5) (.slice o5' x'.be.length c5') x.be x'.be (by omega) w hv hu)
  have HE : Hid ((decide (x.pl = x'.pl) && ((decide (x.al.length = x'.al.length) && allI x.al.length (fun i => samA (x.al.getD i arc0) (x'.al.getD i arc0))) && ((decide (x.tl.length = x'.tl.length) && allI x.tl.length (fun i => sameT (x.tl.getD i ty0) (x'.tl.getD i ty0))) && ((decide (x.ol.length = x'.ol.length) && allI x.ol.length (fun i => sameO (x.ol.getD i or0) (x'.ol.getD i or0))) && ((x.ap == x'.ap) && (x.be == x'.be)))))) = sameI x x') := same_parts x x'
  generalize sameI x x' = r at *
  generalize decide (x.pl = x'.pl) = z0 at *
  generalize (decide (x.al.length = x'.al.length) && allI x.al.length (fun i => samA (x.al.getD i arc0) (x'.al.getD i arc0))) = z1 at *
  generalize (decide (x.tl.length = x'.tl.length) && allI x.tl.length (fun i => sameT (x.tl.getD i ty0) (x'.tl.getD i ty0))) = z2 at *
  generalize (decide (x.ol.length = x'.ol.length) && allI x.ol.length (fun i => sameO (x.ol.getD i or0) (x'.ol.getD i or0))) = z3 at *
  generalize (x.ap == x'.ap) = z4 at *
  generalize (x.be == x'.be) = z5 at *
  have B1 := below_alloc w (.cells #[.slice o0 x.pl.length c0, .slice o1 x.al.length c1, .slice o2 x.tl.length c2, .slice o3 x.ol.length c3, .slice o4 x.ap.length c4, .slice o5 x.be.length c5] 30)
  have B0 := over B1 (below_alloc (w.alloc (.cells #[.slice o0 x.pl.length c0, .slice o1 x.al.length c1, .slice o2 x.tl.length c2, .slice o3 x.ol.length c3, .slice o4 x.ap.length c4, .slice o5 x.be.length c5] 30)) (.cells #[.slice o0' x'.pl.length c0', .slice o1' x'.al.length c1', .slice o2' x'.tl.length c2', .slice o3' x'.ol.length c3', .slice o4' x'.ap.length c4', .slice o5' x'.be.length c5'] 30))
  have M1 := (Cb.made w #[.slice o0 x.pl.length c0, .slice o1 x.al.length c1, .slice o2 x.tl.length c2, .slice o3 x.ol.length c3, .slice o4 x.ap.length c4, .slice o5 x.be.length c5] 30).old (.cells #[.slice o0' x'.pl.length c0', .slice o1' x'.al.length c1', .slice o2' x'.tl.length c2', .slice o3' x'.ol.length c3', .slice o4' x'.ap.length c4', .slice o5' x'.be.length c5'] 30)
  have M2 := Cb.made (w.alloc (.cells #[.slice o0 x.pl.length c0, .slice o1 x.al.length c1, .slice o2 x.tl.length c2, .slice o3 x.ol.length c3, .slice o4 x.ap.length c4, .slice o5 x.be.length c5] 30)) #[.slice o0' x'.pl.length c0', .slice o1' x'.al.length c1', .slice o2' x'.tl.length c2', .slice o3' x'.ol.length c3', .slice o4' x'.ap.length c4', .slice o5' x'.be.length c5'] 30
  rw [World.size_alloc] at M2
  have HI := Lib.hid (h.below B0)
  have HJ := Lib.hid (h'.below B0)
  obtain ⟨W0, hW0⟩ : ∃ W0, (w.alloc (.cells #[.slice o0 x.pl.length c0, .slice o1 x.al.length c1, .slice o2 x.tl.length c2, .slice o3 x.ol.length c3, .slice o4 x.ap.length c4, .slice o5 x.be.length c5] 30)).alloc (.cells #[.slice o0' x'.pl.length c0', .slice o1' x'.al.length c1', .slice o2' x'.tl.length c2', .slice o3' x'.ol.length c3', .slice o4' x'.ap.length c4', .slice o5' x'.be.length c5'] 30) = W0 := ⟨_, rfl⟩
  rw [hW0] at M1 M2 B0 HI HJ
  have HM1 := Lib.hid M1
  have HM2 := Lib.hid M2
  have HB := Lib.hid B0
  have HW0 := Lib.hid hW0
  clear M1 M2 B1 B0 hW0 h h' hx hx' l0 l0' l1 l2 l3 l4 l5
  go_enter Tryz.func16, Tryz.ntmps16
  go_upto_region 1 with fail
  rw [HW0.out]
  clear HW0
  have HBz : Hid (Below W0.heap.size W0 W0) := Below.refl _ _
  have m0 : W0.cell? ⟨w.heap.size, 0, none⟩ = some (.slice o0 x.pl.length c0) := (HM1.out.below HBz.out).cell 0 rfl
  have n0 : W0.cell? ⟨w.heap.size + 1, 0, none⟩ = some (.slice o0' x'.pl.length c0') := (HM2.out.below HBz.out).cell 0 rfl
  go_wp2_with fail
  refine (K0.out _ (HI.out.h0.below HBz.out) (HJ.out.h0.below HBz.out)).mono ?_
  rintro e w1 ⟨rfl, hb⟩
  have HBz := Lib.hid (over HBz.out hb)
  clear hb m0 n0 K0
  cases z0
  · have HX : Hid (r = false) := by show _ = _; rw [← HE.out]; first | rfl | simp
    clear HE
    go_wp2_with fail
    go_ret
    exact ⟨ret_bool (by rw [HX.out]), over HB.out HBz.out⟩
  have m1 : w1.cell? ⟨w.heap.size, 1, none⟩ = some (.slice o1 x.al.length c1) := (HM1.out.below HBz.out).cell 1 rfl
  have n1 : w1.cell? ⟨w.heap.size + 1, 1, none⟩ = some (.slice o1' x'.al.length c1') := (HM2.out.below HBz.out).cell 1 rfl
  go_wp2_with fail
  refine (K1.out _ (HI.out.h1.below HBz.out) (HJ.out.h1.below HBz.out)).mono ?_
  rintro e w2 ⟨rfl, hb⟩
  have HBz := Lib.hid (over HBz.out hb)
  clear hb m1 n1 K1
  cases z1
  · have HX : Hid (r = false) := by show _ = _; rw [← HE.out]; first | rfl | simp
    clear HE
    go_wp2_with fail
    go_ret
    exact ⟨ret_bool (by rw [HX.out]), over HB.out HBz.out⟩
  have m2 : w2.cell? ⟨w.heap.size, 2, none⟩ = some (.slice o2 x.tl.length c2) := (HM1.out.below HBz.out).cell 2 rfl
  have n2 : w2.cell? ⟨w.heap.size + 1, 2, none⟩ = some (.slice o2' x'.tl.length c2') := (HM2.out.below HBz.out).cell 2 rfl
  go_wp2_with fail
  refine (K2.out _ (HI.out.h2.below HBz.out) (HJ.out.h2.below HBz.out)).mono ?_
  rintro e w3 ⟨rfl, hb⟩
  have HBz := Lib.hid (over HBz.out hb)
  clear hb m2 n2 K2
  cases z2
  · have HX : Hid (r = false) := by show _ = _; rw [← HE.out]; first | rfl | simp
    clear HE
    go_wp2_with fail
    go_ret
    exact ⟨ret_bool (by rw [HX.out]), over HB.out HBz.out⟩
  have m3 : w3.cell? ⟨w.heap.size, 3, none⟩ = some (.slice o3 x.ol.length c3) := (HM1.out.below HBz.out).cell 3 rfl
  have n3 : w3.cell? ⟨w.heap.size + 1, 3, none⟩ = some (.slice o3' x'.ol.length c3') := (HM2.out.below HBz.out).cell 3 rfl
  go_wp2_with fail
  refine (K3.out _ (HI.out.h3.below HBz.out) (HJ.out.h3.below HBz.out)).mono ?_
  rintro e w4 ⟨rfl, hb⟩
  have HBz := Lib.hid (over HBz.out hb)
  clear hb m3 n3 K3
  cases z3
  · have HX : Hid (r = false) := by show _ = _; rw [← HE.out]; first | rfl | simp
    clear HE
    go_wp2_with fail
    go_ret
    exact ⟨ret_bool (by rw [HX.out]), over HB.out HBz.out⟩
  have m4 : w4.cell? ⟨w.heap.size, 4, none⟩ = some (.slice o4 x.ap.length c4) := (HM1.out.below HBz.out).cell 4 rfl
  have n4 : w4.cell? ⟨w.heap.size + 1, 4, none⟩ = some (.slice o4' x'.ap.length c4') := (HM2.out.below HBz.out).cell 4 rfl
  go_wp2_with fail
  refine (K4.out _ (psI_below HI.out.h4 HBz.out) (psI_below HJ.out.h4 HBz.out)).mono ?_
  rintro e w5 ⟨rfl, hb⟩
  have HBz := Lib.hid (over HBz.out hb)
  clear hb m4 n4 K4
  cases z4
  · have HX : Hid (r = false) := by show _ = _; rw [← HE.out]; first | rfl | simp
    clear HE
    go_wp2_with fail
    go_ret
    exact ⟨ret_bool (by rw [HX.out]), over HB.out HBz.out⟩
  have m5 : w5.cell? ⟨w.heap.size, 5, none⟩ = some (.slice o5 x.be.length c5) := (HM1.out.below HBz.out).cell 5 rfl
  have n5 : w5.cell? ⟨w.heap.size + 1, 5, none⟩ = some (.slice o5' x'.be.length c5') := (HM2.out.below HBz.out).cell 5 rfl
  go_wp2_with fail
  refine (K5.out _ (psI_below HI.out.h5 HBz.out) (psI_below HJ.out.h5 HBz.out)).mono ?_
  rintro e w6 ⟨rfl, hb⟩
  have HBz := Lib.hid (over HBz.out hb)
  clear hb m5 n5 K5
  have HX : Hid (r = z5) := by show _ = _; rw [← HE.out]; rfl
  clear HE
  go_wp2_with fail
  go_ret
  exact ⟨ret_bool (by rw [HX.out]), over HB.out HBz.out⟩

end Go.Proofs.YtaallpebfcadjaaGreatDoor.T


