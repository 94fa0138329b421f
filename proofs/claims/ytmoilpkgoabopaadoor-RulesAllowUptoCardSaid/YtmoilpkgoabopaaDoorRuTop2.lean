/-
  DERIVED. The walks of the landed rules' Needs, Allowed, Never.
-/
import Derived.Test.YtmoilpkgoabopaaDoorRuTop1
import Derived.Test.YtmoilpkgoabopaaDoorRuOrd
namespace Go.Proofs.YtmoilpkgoabopaaDoor.T
open Go.RowKit
set_option maxRecDepth 8000

set_option maxHeartbeats 3200000 in
theorem needsT_n (o0 o1 o2 o3 o4 o5 : Option Addr) (n0 n1 n2 n n4 c0 c1 c2 c3 c4 c5 : Nat) (be : List (Int × Int)) (q : Int) (hn : n ≤ 10) (hr : U.Rt n be) (hl : be.length ≤ 1000) (w : World) (hu : Ps w (.slice o5 be.length c5) be) :
    Calls Tryd.prog 16 #[.agg #[.slice o0 n0 c0, .slice o1 n1 c1, .slice o2 n2 c2, .slice o3 n c3, .slice o4 n4 c4, .slice o5 be.length c5], .int .i64 q] w fun e w' => e = .returned (.int .i64 (U.needsI n be q)) ∧ Below w.heap.size w w' := by
  have BI := below_alloc w (.cells #[.slice o0 n0 c0, .slice o1 n1 c1, .slice o2 n2 c2, .slice o3 n c3, .slice o4 n4 c4, .slice o5 be.length c5] 37)
  have I0 := Ib.made w (.slice o0 n0 c0) (.slice o1 n1 c1) (.slice o2 n2 c2) (.slice o3 n c3) (.slice o4 n4 c4) (.slice o5 be.length c5)
  have KE := Lib.hid (fun w => every_n o0 o1 o2 o3 o4 o5 n0 n1 n2 n n4 be.length c0 c1 c2 c3 c4 c5 hn w)
  have HU := Lib.hid (hu.below BI)
  have HB := Lib.hid BI
  have i0 := I0.c0
  have i1 := I0.c1
  have i2 := I0.c2
  have i3 := I0.c3
  have i4 := I0.c4
  have i5 := I0.c5
  have hql := I0.lt
  obtain ⟨W0, hW0⟩ : ∃ W0, w.alloc (.cells #[.slice o0 n0 c0, .slice o1 n1 c1, .slice o2 n2 c2, .slice o3 n c3, .slice o4 n4 c4, .slice o5 be.length c5] 37) = W0 := ⟨_, rfl⟩
  rw [hW0] at HU HB i0 i1 i2 i3 i4 i5 hql
  have HW0 := Lib.hid hW0
  clear BI I0 hu hW0
  have hp10 := U.pow_le hn
  by_cases hq : 0 ≤ q ∧ q < n
  · obtain ⟨j, rfl⟩ := Int.eq_ofNat_of_zero_le hq.1
    have hj : j < n := by omega
    have KH := Lib.hid (fun w => S.tHas_n (2 ^ n - 1) j (by omega) (by omega) true (by exact U.has_full hj) w)
    have KA := Lib.hid (fun s (hs : s < 2 ^ n) w hv => ahead_n n (.slice o5 be.length c5) be s hn hr hl hs w hv)
    have hw : wrap64 (2 ^ j) = ((2 ^ j : Nat) : Int) := by
      have := S.w64 (q := 2 ^ j) (by have := S.pow_le62 (show j ≤ 62 by omega); omega)
      rw [← this]; simp
    have HWr := Lib.hid hw
    clear hw
    have HI0 := Lib.hid (U.NdI.start be j)
    have HIlt := Lib.hid (fun a (h : U.NdI be j a) => U.NdI.lt hr hj h)
    have HIst := Lib.hid (fun a (h : U.NdI be j a) => U.NdI.step h)
    have HIfx := Lib.hid (fun a (h : U.NdI be j a) (hf : a ||| U.ahd be a = a) => U.NdI.fix hr hj h hf)
    have HIp := Lib.hid (fun a (h : U.NdI be j a) => U.NdI.pos h)
    have HAl : Hid (∀ a, U.ahd be a < 2 ^ n) := fun a => U.ahdK_lt hr a (Nat.le_refl _)
    have HR : Hid ((U.needN n be j : Int) = U.needsI n be (j : Int)) := (U.needsI_nat hj).symm
    generalize U.needsI n be (j : Int) = r at *
    generalize U.needN n be j = rn at *
    generalize hm : be.length = m at *
    generalize 2 ^ n - 1 = qn at *
    generalize 2 ^ n = P at *
    generalize hJ : 2 ^ j = J at *
    clear hr hm hq
    go_enter Tryd.func16, Tryd.ntmps16
    go_upto_region 1 with fail
    rw [HW0.out]
    go_wp2_with fail
    refine (KE.out _).mono ?_
    rintro e w1 ⟨rfl, b1⟩
    have HB1 := Lib.hid (over HB.out b1)
    have HU1 := Lib.hid (HU.out.below b1)
    have i5 := (b1.cell (p := ⟨w.heap.size, 5, none⟩) hql).trans i5
    have hql := Nat.lt_of_lt_of_le hql b1.size
    clear b1 HB HU HW0 i0 i1 i2 i3 i4
    go_wp2_with fail
    refine (KH.out _).mono ?_
    rintro e w2 ⟨rfl, rfl⟩
    go_wp2_with fail
    go_loopg [6, 7] (P + 1) (fun g av tv wr => ∃ (a t : Nat), av = .int .i64 a ∧ tv = .int .i64 t ∧ t ≤ a ∧ P - t ≤ g ∧ Hid (U.NdI be j a) ∧ Hid (0 < t → t ||| U.ahd be t = a) ∧ Hid (Below w1.heap.size w1 wr))
    case atStart => exact ⟨J, 0, by rw [HWr.out], rfl, by omega, by omega, HI0, fun h => absurd h (by decide), Below.refl _ _⟩
    case round =>
      obtain ⟨a, t, rfl, rfl, ht1, hg, HI, HF, HB⟩ := hrel
      have haP := HIlt.out a HI.out
      have ha0 := HIp.out a HI.out
      have y5 := (HB.out.cell (p := ⟨w.heap.size, 5, none⟩) hql).trans i5
      by_cases he : a = t
      · have HX : Hid (a = rn) := HIfx.out a HI.out (by have := HF.out (by omega); rw [← he] at this; exact this)
        have hne : ((a : Int) != (t : Int)) = false := by rw [he]; simp
        subst he
        go_wp2_with fail
        go_ret
        exact ⟨ret_int (by rw [← HR.out, ← HX.out]), over HB1.out HB.out⟩
      · have hne : ((a : Int) != (t : Int)) = true := by rw [bne_iff_ne]; omega
        have htd : t < a := by omega
        have HVw := Lib.hid (HU1.out.below HB.out)
        have KW := Lib.hid (fun w hv => KA.out a haP w hv)
        have hal := HAl.out a
        obtain ⟨a2, ha2⟩ : ∃ a2, a ||| U.ahd be a = a2 := ⟨_, rfl⟩
        have HI2 : Hid (U.NdI be j a2) := ha2 ▸ HIst.out a HI.out
        have HF2 : Hid (0 < a → a ||| U.ahd be a = a2) := fun _ => ha2
        have hle : a ≤ a2 := ha2 ▸ Nat.left_le_or
        have HM := S.i64_or a (U.ahd be a) (by omega) (by omega)
        rw [ha2] at HM
        obtain ⟨ah, hah⟩ : ∃ ah, U.ahd be a = ah := ⟨_, rfl⟩
        rw [hah] at HM KW hal
        clear ha2 hah
        clear he
        go_wp2_with fail
        refine (KW.out _ HVw.out).mono ?_
        rintro e w3 ⟨rfl, b1⟩
        have HB3 := Lib.hid (over HB.out b1)
        clear b1 y5
        go_wp2_with fail
        go_roundg (P - a)
        case measure => omega
        case rel => exact ⟨a2, a, rfl, rfl, by omega, Nat.le_refl _, HI2, HF2, HB3⟩
  · have HX : Hid (0 = U.needsI n be q) := by show _ = _; unfold U.needsI; rw [if_pos (by omega)]
    have KH := Lib.hid (fun w => S.setHas_i (2 ^ n - 1) q (by omega) w)
    have HHs : Hid (S.hasI (2 ^ n - 1) q = false) := by
      show _ = _
      by_cases h0 : q < 0
      · exact S.hasI_neg h0
      by_cases h1 : 62 < q
      · exact S.hasI_big h1
      obtain ⟨j, rfl⟩ := Int.eq_ofNat_of_zero_le (show 0 ≤ q by omega)
      rw [S.hasI_nat (by omega), U.has_bit, Nat.testBit_two_pow_sub_one, decide_eq_false (by omega)]
    rw [HHs.out] at KH
    generalize U.needsI n be q = r at *
    generalize 2 ^ n - 1 = qn at *
    clear hq hr
    go_enter Tryd.func16, Tryd.ntmps16
    go_upto_region 1 with fail
    rw [HW0.out]
    go_wp2_with fail
    refine (KE.out _).mono ?_
    rintro e w1 ⟨rfl, b1⟩
    have HB1 := Lib.hid (over HB.out b1)
    clear b1 HB HU HW0 i0 i1 i2 i3 i4 i5
    go_wp2_with fail
    refine (KH.out _).mono ?_
    rintro e w2 ⟨rfl, rfl⟩
    go_wp2_with fail
    go_ret
    exact ⟨ret_int HX.out, HB1.out⟩

theorem within_full {s n : Nat} (hs : s < 2 ^ n) : S.withinB s (2 ^ n - 1) = true := by
  rw [S.withinB, List.all_eq_true]
  intro i hi
  exact U.has_full (U.lt_has hs ((S.mem_iff _ 63 i).1 hi).2)
theorem within_not {s n : Nat} (hs : 2 ^ n ≤ s) (hs9 : s < 2 ^ 63) : S.withinB s (2 ^ n - 1) = false := by
  cases h : S.withinB s (2 ^ n - 1)
  · rfl
  · rw [S.withinB, List.all_eq_true] at h
    have : s < 2 ^ n := U.has_lt fun i hi => by
      have h1 : i < 63 := U.lt_has hs9 hi
      have h2 := h i ((S.mem_iff _ 63 i).2 ⟨h1, hi⟩)
      rw [U.has_bit, Nat.testBit_two_pow_sub_one, decide_eq_true_iff] at h2
      exact h2
    omega

set_option maxHeartbeats 3200000 in
theorem allowedT_n (o0 o1 o2 o3 o4 o5 : Option Addr) (n0 n1 n2 n c0 c1 c2 c3 c4 c5 : Nat) (off : Nat → Bool) (ap be : List (Int × Int)) (q : Int) (hq : -9223372036854775808 ≤ q ∧ q ≤ 9223372036854775807) (hn : n ≤ 10) (hra : U.Rt n ap) (hr : U.Rt n be) (hla : ap.length ≤ 1000) (hl : be.length ≤ 1000) (w : World) (ho : Ofs w o3 n off) (hv : Ps w (.slice o4 ap.length c4) ap) (hu : Ps w (.slice o5 be.length c5) be) :
    Calls Tryd.prog 18 #[.agg #[.slice o0 n0 c0, .slice o1 n1 c1, .slice o2 n2 c2, .slice o3 n c3, .slice o4 ap.length c4, .slice o5 be.length c5], .int .i64 q] w fun e w' => e = .returned (.int .i64 (U.allowE n off ap be q)) ∧ Below w.heap.size w w' := by
  have BI := below_alloc w (.cells #[.slice o0 n0 c0, .slice o1 n1 c1, .slice o2 n2 c2, .slice o3 n c3, .slice o4 ap.length c4, .slice o5 be.length c5] 37)
  have I0 := Ib.made w (.slice o0 n0 c0) (.slice o1 n1 c1) (.slice o2 n2 c2) (.slice o3 n c3) (.slice o4 ap.length c4) (.slice o5 be.length c5)
  have KE := Lib.hid (fun w => every_n o0 o1 o2 o3 o4 o5 n0 n1 n2 n ap.length be.length c0 c1 c2 c3 c4 c5 hn w)
  have HV := Lib.hid (hv.below BI)
  have HU := Lib.hid (hu.below BI)
  have HO := Lib.hid (ho.below BI)
  have HB := Lib.hid BI
  have i0 := I0.c0
  have i1 := I0.c1
  have i2 := I0.c2
  have i3 := I0.c3
  have i4 := I0.c4
  have i5 := I0.c5
  have hql := I0.lt
  obtain ⟨W0, hW0⟩ : ∃ W0, w.alloc (.cells #[.slice o0 n0 c0, .slice o1 n1 c1, .slice o2 n2 c2, .slice o3 n c3, .slice o4 ap.length c4, .slice o5 be.length c5] 37) = W0 := ⟨_, rfl⟩
  rw [hW0] at HV HU HO HB i0 i1 i2 i3 i4 i5 hql
  have HW0 := Lib.hid hW0
  clear BI I0 hu hv ho hW0
  have hp10 := U.pow_le hn
  by_cases h0 : q < 0
  · have HX : Hid (2 = U.allowE n off ap be q) := by show _ = _; unfold U.allowE; rw [if_pos (.inl h0)]
    generalize U.allowE n off ap be q = r at *
    clear hr hra KE hp10
    go_enter Tryd.func18, Tryd.ntmps18
    go_upto_region 1 with fail
    rw [HW0.out]
    go_wp2_with fail
    go_ret
    exact ⟨ret_int HX.out, HB.out⟩
  have h0I : decide (q < 0) = false := decide_eq_false h0
  obtain ⟨s, rfl⟩ := Int.eq_ofNat_of_zero_le (show 0 ≤ q by omega)
  have hs9 : s < 2 ^ 63 := by omega
  have KW := Lib.hid (fun w => S.setWithin_n s (2 ^ n - 1) hs9 (by omega) w)
  by_cases hs : s < 2 ^ n
  · rw [within_full hs] at KW
    have KC := Lib.hid (fun w ho => hasCancelled_n n c3 o3 off s hn hs w ho)
    have KP := Lib.hid (fun w hv => hasPair_n n (.slice o4 ap.length c4) ap s hn hra hla hs w hv)
    have KF := Lib.hid (fun w hv => canFollow_n n (.slice o5 be.length c5) be s hn hr hl hs w hv)
    have HR : Hid ((if U.offE n off s then 9 else if U.apartE ap s then 20 else if U.canF n be s then 0 else 21) = U.allowE n off ap be (s : Int)) := by show _ = _; rw [U.allowE_nat hs, U.allow_can]
    generalize U.allowE n off ap be (s : Int) = r at *
    generalize U.offE n off s = b1 at *
    generalize U.apartE ap s = b2 at *
    generalize U.canF n be s = b3 at *
    generalize ap.length = ma at *
    generalize be.length = mb at *
    generalize 2 ^ n - 1 = qn at *
    clear hr hra h0 hp10 hs
    go_enter Tryd.func18, Tryd.ntmps18
    go_upto_region 1 with fail
    rw [HW0.out]
    go_wp2_with fail
    refine (KE.out _).mono ?_
    rintro e w1 ⟨rfl, d1⟩
    have HB1 := Lib.hid (over HB.out d1)
    have HU1 := Lib.hid (HU.out.below d1)
    have HV1 := Lib.hid (HV.out.below d1)
    have HO1 := Lib.hid (HO.out.below d1)
    have i3 := (d1.cell (p := ⟨w.heap.size, 3, none⟩) hql).trans i3
    have i4 := (d1.cell (p := ⟨w.heap.size, 4, none⟩) hql).trans i4
    have i5 := (d1.cell (p := ⟨w.heap.size, 5, none⟩) hql).trans i5
    have hql := Nat.lt_of_lt_of_le hql d1.size
    clear d1 HB HU HV HO HW0 i0 i1 i2
    go_wp2_with fail
    refine (KW.out _).mono ?_
    rintro e w2 ⟨rfl, rfl⟩
    go_wp2_with fail
    refine (KC.out _ HO1.out).mono ?_
    rintro e w2 ⟨rfl, d2⟩
    have HB2 := Lib.hid (over HB1.out d2)
    have HU2 := Lib.hid (HU1.out.below d2)
    have HV2 := Lib.hid (HV1.out.below d2)
    have i4 := (d2.cell (p := ⟨w.heap.size, 4, none⟩) hql).trans i4
    have i5 := (d2.cell (p := ⟨w.heap.size, 5, none⟩) hql).trans i5
    have hql := Nat.lt_of_lt_of_le hql d2.size
    clear d2 HB1 HU1 HV1 HO1 i3
    cases b1
    · go_wp2_with fail
      refine (KP.out _ HV2.out).mono ?_
      rintro e w3 ⟨rfl, d3⟩
      have HB3 := Lib.hid (over HB2.out d3)
      have HU3 := Lib.hid (HU2.out.below d3)
      have i5 := (d3.cell (p := ⟨w.heap.size, 5, none⟩) hql).trans i5
      clear d3 HB2 HU2 HV2 i4
      cases b2
      · go_wp2_with fail
        refine (KF.out _ HU3.out).mono ?_
        rintro e w4 ⟨rfl, d4⟩
        have HB4 := Lib.hid (over HB3.out d4)
        clear d4 HB3 HU3 i5
        cases b3
        · go_wp2_with fail
          go_ret
          exact ⟨ret_int HR.out, HB4.out⟩
        · go_wp2_with fail
          go_ret
          exact ⟨ret_int HR.out, HB4.out⟩
      · go_wp2_with fail
        go_ret
        exact ⟨ret_int HR.out, HB3.out⟩
    · go_wp2_with fail
      go_ret
      exact ⟨ret_int HR.out, HB2.out⟩
  · rw [within_not (by omega) hs9] at KW
    have HX : Hid (2 = U.allowE n off ap be (s : Int)) := by show _ = _; unfold U.allowE; rw [if_pos (.inr (by omega))]
    generalize U.allowE n off ap be (s : Int) = r at *
    generalize 2 ^ n - 1 = qn at *
    clear hr hra hs h0 hp10
    go_enter Tryd.func18, Tryd.ntmps18
    go_upto_region 1 with fail
    rw [HW0.out]
    go_wp2_with fail
    refine (KE.out _).mono ?_
    rintro e w1 ⟨rfl, d1⟩
    have HB1 := Lib.hid (over HB.out d1)
    clear d1 HB HU HV HO HW0
    go_wp2_with fail
    refine (KW.out _).mono ?_
    rintro e w2 ⟨rfl, rfl⟩
    go_wp2_with fail
    go_ret
    exact ⟨ret_int HX.out, HB1.out⟩

end Go.Proofs.YtmoilpkgoabopaaDoor.T

