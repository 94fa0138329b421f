/-
  DERIVED. The walk of RulesParts (written by gen_rulaws.py).
-/
import Derived.Test.YtmoilpkgoabopaaDoorRuEx
import Derived.Deep.RegionHeld3
namespace Go.Proofs.YtmoilpkgoabopaaDoor.T
open Go.RowKit
set_option maxRecDepth 8000

theorem shl_sub {s P o : Nat} (hP : 2 ^ o = P) (hPs : P ≤ s) (hs : s < 4611686018427387904) : wrap64 ((s : Int) - wrap64 ((2 : Int) ^ o)) = ((s - P : Nat) : Int) := by
  have h1 : ((2 : Int) ^ o) = (P : Int) := by rw [← hP]; simp
  have h2 : wrap64 (P : Int) = (P : Int) := w64 (by omega)
  have h3 : (s : Int) - (P : Int) = ((s - P : Nat) : Int) := by omega
  have h4 : wrap64 ((s - P : Nat) : Int) = ((s - P : Nat) : Int) := w64 (by omega)
  rw [h1, h2, h3, h4]
theorem has_le {s o : Nat} (h : S.has s o = true) : 2 ^ o ≤ s := by
  apply Decidable.byContradiction
  intro hc
  have h2 : s / 2 ^ o % 2 = 1 := by simpa [S.has] using h
  rw [Nat.div_eq_of_lt (by omega)] at h2
  cases h2
set_option maxHeartbeats 12800000 in
theorem rulesParts_walk (o0 o1 o2 o3 o4 o5 : Option Addr) (n0 n1 n2 c0 c1 c2 c3 c4 c5 : Nat) (l : List OrT) (ap be : List (Int × Int)) (q t : Int) (hq : -9223372036854775808 ≤ q ∧ q ≤ 9223372036854775807) (ht : -9223372036854775808 ≤ t ∧ t ≤ 9223372036854775807) (ha : ap.length ≤ 2000000) (hb : be.length ≤ 2000000) (w : World) (hE : Env w) (ho : Os w (.slice o3 l.length c3) l) (hv : Ps w (.slice o4 ap.length c4) ap) (hu : Ps w (.slice o5 be.length c5) be) :
    Calls Tryd.prog 8 #[.agg #[.slice o0 n0 c0, .slice o1 n1 c1, .slice o2 n2 c2, .slice o3 l.length c3, .slice o4 ap.length c4, .slice o5 be.length c5], .int .i64 q, .int .i64 t] w fun e w' => e = .returned (.bool true) ∧ Below w.heap.size w w' := by
  have BI := below_alloc w (.cells #[.slice o0 n0 c0, .slice o1 n1 c1, .slice o2 n2 c2, .slice o3 l.length c3, .slice o4 ap.length c4, .slice o5 be.length c5] 37)
  have I0 := Ib.made w (.slice o0 n0 c0) (.slice o1 n1 c1) (.slice o2 n2 c2) (.slice o3 l.length c3) (.slice o4 ap.length c4) (.slice o5 be.length c5)
  have HR := Lib.hid (fun w hv hu => right12_n o0 o1 o2 o3 o4 o5 n0 n1 n2 l.length c0 c1 c2 c3 c4 c5 ap be ha hb w hv hu)
  unfold inV at HR
  have HX := Lib.hid (fun w hE => examples_n w hE)
  have HO := Lib.hid (ho.below BI)
  have HV := Lib.hid (ps_below hv BI)
  have HU := Lib.hid (ps_below hu BI)
  have HE := Lib.hid (hE.over BI)
  obtain ⟨W0, hW0⟩ : ∃ W0, w.alloc (.cells #[.slice o0 n0 c0, .slice o1 n1 c1, .slice o2 n2 c2, .slice o3 l.length c3, .slice o4 ap.length c4, .slice o5 be.length c5] 37) = W0 := ⟨_, rfl⟩
  rw [hW0] at BI I0 HO HV HU HE
  have HB := Lib.hid BI
  have HI := Lib.hid I0
  have HW0 := Lib.hid hW0
  have i0 := I0.c0
  have i1 := I0.c1
  have i2 := I0.c2
  have i3 := I0.c3
  have i4 := I0.c4
  have i5 := I0.c5
  clear BI I0 ho hv hu hE hW0
  cases hr : rightI l.length ap be
  · skip
    rw [hr] at HR
    clear hr ha hb
    go_enter Tryd.func8, Tryd.ntmps8
    go_upto_region 1 with fail
    rw [HW0.out]
    clear HW0
    go_wp2_with fail
    refine (HR.out _ HV.out HU.out).mono ?_
    rintro e w1 ⟨rfl, b1⟩
    have HE1 := Lib.hid (HE.out.over b1)
    have HB1 := Lib.hid (over HB.out b1)
    clear b1 HE HB HR
    go_wp2_with fail
    refine (HX.out _ HE1.out).mono ?_
    rintro e w2 ⟨rfl, b2⟩
    have HB2 := Lib.hid (over HB1.out b2)
    clear b2
    go_wp2_with fail
    go_ret
    exact ⟨rfl, HB2.out⟩
  · skip
    have hr2 := hr
    unfold rightI at hr2
    rw [Bool.and_eq_true, decide_eq_true_iff, List.isEmpty_iff] at hr2
    obtain ⟨hn10, hck⟩ := hr2
    obtain ⟨ha16, hb16, hra, hrb⟩ := check_right hck
    rw [hr] at HR
    clear hr hck ha hb
    have K1 := Lib.hid (fun w hE ho hv hu => rulesAllowed_n o0 o1 o2 o3 o4 o5 n0 n1 n2 c0 c1 c2 c3 c4 c5 l ap be q hq hn10 hra hrb ha16 hb16 w hE ho hv hu)
    have hnn9 : l.length ≤ 9223372036854775807 := by omega
    cases hal : decide (U.allowE l.length (offF l) ap be q = 0)
    · have hal := of_decide_eq_false hal
      have halI := ne_neI hal
      generalize U.allowE l.length (offF l) ap be q = al at *
      clear hra hrb ha16 hb16 hn10 hal
      generalize hgn : l.length = n at *
      generalize hga : ap.length = na at *
      generalize hgb : be.length = nb at *
      go_enter Tryd.func8, Tryd.ntmps8
      go_upto_region 1 with fail
      rw [HW0.out]
      clear HW0
      go_wp2_with fail
      refine (HR.out _ HV.out HU.out).mono ?_
      rintro e w1 ⟨rfl, b1⟩
      have HE1 := Lib.hid (HE.out.over b1)
      have HB1 := Lib.hid (over HB.out b1)
      have HO1 := Lib.hid (HO.out.below b1)
      have HV1 := Lib.hid (ps_below HV.out b1)
      have HU1 := Lib.hid (ps_below HU.out b1)
      have HI1 := HI.out.below b1
      have i0 := HI1.c0
      have i1 := HI1.c1
      have i2 := HI1.c2
      have i3 := HI1.c3
      have i4 := HI1.c4
      have i5 := HI1.c5
      have hql := HI1.lt
      clear b1 HE HB HR HO HV HU HI
      clear hgn hga hgb
      go_wp2_with fail
      refine (K1.out _ HE1.out HO1.out HV1.out HU1.out).mono ?_
      rintro e w2 ⟨rfl, b2⟩
      have HE2 := Lib.hid (HE1.out.over b2)
      have HB2 := Lib.hid (over HB1.out b2)
      have HO2 := Lib.hid (Os.below HO1.out b2)
      have HV2 := Lib.hid (ps_below HV1.out b2)
      have HU2 := Lib.hid (ps_below HU1.out b2)
      have i0 := (b2.cell (p := ⟨w.heap.size, 0, none⟩) hql).trans i0
      have i1 := (b2.cell (p := ⟨w.heap.size, 1, none⟩) hql).trans i1
      have i2 := (b2.cell (p := ⟨w.heap.size, 2, none⟩) hql).trans i2
      have i3 := (b2.cell (p := ⟨w.heap.size, 3, none⟩) hql).trans i3
      have i4 := (b2.cell (p := ⟨w.heap.size, 4, none⟩) hql).trans i4
      have i5 := (b2.cell (p := ⟨w.heap.size, 5, none⟩) hql).trans i5
      have hql := Nat.lt_of_lt_of_le hql b2.size
      clear b2 HE1 HB1 HO1 HV1 HU1
      go_wp2_with fail
      refine (HX.out _ HE2.out).mono ?_
      rintro e w9 ⟨rfl, b9⟩
      have HB9 := Lib.hid (over HB2.out b9)
      clear b9
      go_wp2_with fail
      go_ret
      exact ⟨rfl, HB9.out⟩
    · have hal := of_decide_eq_true hal
      obtain ⟨hq0, hok⟩ := U.allowE_zero hrb hal
      rw [hal] at K1
      obtain ⟨s, rfl⟩ := Int.eq_ofNat_of_zero_le hq0
      rw [Int.toNat_natCast] at hok
      have hs9 := pow62 (show l.length ≤ 62 by omega) hok.lt
      by_cases ho : t < 0 ∨ (l.length : Int) ≤ t
      · have HT : Hid (t < 0 ∨ (l.length : Int) ≤ t) := ho
        clear hra hrb ha16 hb16 hn10 hal hok ho
        generalize hgn : l.length = n at *
        generalize hga : ap.length = na at *
        generalize hgb : be.length = nb at *
        go_enter Tryd.func8, Tryd.ntmps8
        go_upto_region 1 with fail
        rw [HW0.out]
        clear HW0
        go_wp2_with fail
        refine (HR.out _ HV.out HU.out).mono ?_
        rintro e w1 ⟨rfl, b1⟩
        have HE1 := Lib.hid (HE.out.over b1)
        have HB1 := Lib.hid (over HB.out b1)
        have HO1 := Lib.hid (HO.out.below b1)
        have HV1 := Lib.hid (ps_below HV.out b1)
        have HU1 := Lib.hid (ps_below HU.out b1)
        have HI1 := HI.out.below b1
        have i0 := HI1.c0
        have i1 := HI1.c1
        have i2 := HI1.c2
        have i3 := HI1.c3
        have i4 := HI1.c4
        have i5 := HI1.c5
        have hql := HI1.lt
        clear b1 HE HB HR HO HV HU HI
        clear hgn hga hgb
        go_wp2_with fail
        refine (K1.out _ HE1.out HO1.out HV1.out HU1.out).mono ?_
        rintro e w2 ⟨rfl, b2⟩
        have HE2 := Lib.hid (HE1.out.over b2)
        have HB2 := Lib.hid (over HB1.out b2)
        have HO2 := Lib.hid (Os.below HO1.out b2)
        have HV2 := Lib.hid (ps_below HV1.out b2)
        have HU2 := Lib.hid (ps_below HU1.out b2)
        have i0 := (b2.cell (p := ⟨w.heap.size, 0, none⟩) hql).trans i0
        have i1 := (b2.cell (p := ⟨w.heap.size, 1, none⟩) hql).trans i1
        have i2 := (b2.cell (p := ⟨w.heap.size, 2, none⟩) hql).trans i2
        have i3 := (b2.cell (p := ⟨w.heap.size, 3, none⟩) hql).trans i3
        have i4 := (b2.cell (p := ⟨w.heap.size, 4, none⟩) hql).trans i4
        have i5 := (b2.cell (p := ⟨w.heap.size, 5, none⟩) hql).trans i5
        have hql := Nat.lt_of_lt_of_le hql b2.size
        clear b2 HE1 HB1 HO1 HV1 HU1
        by_cases h0 : t < 0
        · clear HT
          go_wp2_with fail
          refine (HX.out _ HE2.out).mono ?_
          rintro e w9 ⟨rfl, b9⟩
          have HB9 := Lib.hid (over HB2.out b9)
          clear b9
          go_wp2_with fail
          go_ret
          exact ⟨rfl, HB9.out⟩
        · have h1 : (n : Int) ≤ t := HT.out.resolve_left h0
          clear HT
          go_wp2_with fail
          refine (HX.out _ HE2.out).mono ?_
          rintro e w9 ⟨rfl, b9⟩
          have HB9 := Lib.hid (over HB2.out b9)
          clear b9
          go_wp2_with fail
          go_ret
          exact ⟨rfl, HB9.out⟩
      · obtain ⟨o, rfl⟩ := Int.eq_ofNat_of_zero_le (show 0 ≤ t by omega)
        have hon : o < l.length := by omega
        have KH := Lib.hid (fun k (hk : k ≤ 62) w => hasH12_n s k (by omega) hk w)
        cases hso : S.has s o
        · have KHo := Lib.hid (fun w => KH.out o (by omega) w)
          rw [hso] at KHo
          clear hra hrb ha16 hb16 hal hok ho hso
          generalize hgn : l.length = n at *
          generalize hga : ap.length = na at *
          generalize hgb : be.length = nb at *
          go_enter Tryd.func8, Tryd.ntmps8
          go_upto_region 1 with fail
          rw [HW0.out]
          clear HW0
          go_wp2_with fail
          refine (HR.out _ HV.out HU.out).mono ?_
          rintro e w1 ⟨rfl, b1⟩
          have HE1 := Lib.hid (HE.out.over b1)
          have HB1 := Lib.hid (over HB.out b1)
          have HO1 := Lib.hid (HO.out.below b1)
          have HV1 := Lib.hid (ps_below HV.out b1)
          have HU1 := Lib.hid (ps_below HU.out b1)
          have HI1 := HI.out.below b1
          have i0 := HI1.c0
          have i1 := HI1.c1
          have i2 := HI1.c2
          have i3 := HI1.c3
          have i4 := HI1.c4
          have i5 := HI1.c5
          have hql := HI1.lt
          clear b1 HE HB HR HO HV HU HI
          clear hgn hga hgb
          go_wp2_with fail
          refine (K1.out _ HE1.out HO1.out HV1.out HU1.out).mono ?_
          rintro e w2 ⟨rfl, b2⟩
          have HE2 := Lib.hid (HE1.out.over b2)
          have HB2 := Lib.hid (over HB1.out b2)
          have HO2 := Lib.hid (Os.below HO1.out b2)
          have HV2 := Lib.hid (ps_below HV1.out b2)
          have HU2 := Lib.hid (ps_below HU1.out b2)
          have i0 := (b2.cell (p := ⟨w.heap.size, 0, none⟩) hql).trans i0
          have i1 := (b2.cell (p := ⟨w.heap.size, 1, none⟩) hql).trans i1
          have i2 := (b2.cell (p := ⟨w.heap.size, 2, none⟩) hql).trans i2
          have i3 := (b2.cell (p := ⟨w.heap.size, 3, none⟩) hql).trans i3
          have i4 := (b2.cell (p := ⟨w.heap.size, 4, none⟩) hql).trans i4
          have i5 := (b2.cell (p := ⟨w.heap.size, 5, none⟩) hql).trans i5
          have hql := Nat.lt_of_lt_of_le hql b2.size
          clear b2 HE1 HB1 HO1 HV1 HU1
          go_wp2_with fail
          refine (KHo.out _).mono ?_
          rintro e w3 ⟨rfl, rfl⟩
          go_wp2_with fail
          refine (HX.out _ HE2.out).mono ?_
          rintro e w9 ⟨rfl, b9⟩
          have HB9 := Lib.hid (over HB2.out b9)
          clear b9
          go_wp2_with fail
          go_ret
          exact ⟨rfl, HB9.out⟩
        · have KHo := Lib.hid (fun w => KH.out o (by omega) w)
          rw [hso] at KHo
          obtain ⟨P, hP⟩ : ∃ P, 2 ^ o = P := ⟨_, rfl⟩
          have hPs : P ≤ s := by rw [← hP]; exact has_le hso
          have K2 := Lib.hid (fun w hE ho hv hu => rulesAllowed_n o0 o1 o2 o3 o4 o5 n0 n1 n2 c0 c1 c2 c3 c4 c5 l ap be ((s - P : Nat) : Int) (by omega) hn10 hra hrb ha16 hb16 w hE ho hv hu)
          have HPt := Lib.hid (fun (h : ∀ i, i < l.length → ¬ (i ≠ o ∧ S.has s i = true ∧ S.has (U.needN l.length be i) o = true)) => (show U.allowE l.length (offF l) ap be ((s - P : Nat) : Int) = 0 by
            have h2 := U.parts hrb hok hso fun i hi hio his => by
              cases hh : S.has (U.needN l.length be i) o
              · rfl
              · exact absurd ⟨hio, his, hh⟩ (h i hi)
            rw [hP] at h2
            rw [U.allowE_nat h2.lt]
            exact (U.allow_iff hrb h2.lt).2 h2))
          have KN := Lib.hid (fun i (hi : i < l.length) w hE ho hv hu => by
            have h := rulesNeeds_n o0 o1 o2 o3 o4 o5 n0 n1 n2 c0 c1 c2 c3 c4 c5 l ap be (i : Int) (by omega) hn10 hra hrb ha16 hb16 w hE ho hv hu
            rw [U.needsI_nat hi] at h
            exact h)
          have KHn := Lib.hid (fun i (hi : i < l.length) w => hasH12_n (U.needN l.length be i) o (by have := pow62 (show l.length ≤ 62 by omega) (U.needN_lt l.length be i); omega) (by omega) w)
          clear hra hrb ha16 hb16 hal hok ho hso
          generalize U.allowE l.length (offF l) ap be ((s - P : Nat) : Int) = a2 at *
          have hd0 : decide ((o : Int) < 0) = false := decide_eq_false (by omega)
          have hd1 : decide ((s : Int) < 0) = false := decide_eq_false (by omega)
          have hd2 : decide (l.length ≤ o) = false := decide_eq_false (by omega)
          generalize hgn : l.length = n at *
          generalize hga : ap.length = na at *
          generalize hgb : be.length = nb at *
          go_enter Tryd.func8, Tryd.ntmps8
          go_upto_region 1 with fail
          rw [HW0.out]
          clear HW0
          go_wp2_with fail
          refine (HR.out _ HV.out HU.out).mono ?_
          rintro e w1 ⟨rfl, b1⟩
          have HE1 := Lib.hid (HE.out.over b1)
          have HB1 := Lib.hid (over HB.out b1)
          have HO1 := Lib.hid (HO.out.below b1)
          have HV1 := Lib.hid (ps_below HV.out b1)
          have HU1 := Lib.hid (ps_below HU.out b1)
          have HI1 := HI.out.below b1
          have i0 := HI1.c0
          have i1 := HI1.c1
          have i2 := HI1.c2
          have i3 := HI1.c3
          have i4 := HI1.c4
          have i5 := HI1.c5
          have hql := HI1.lt
          clear b1 HE HB HR HO HV HU HI
          clear hgn hga hgb
          go_wp2_with fail
          refine (K1.out _ HE1.out HO1.out HV1.out HU1.out).mono ?_
          rintro e w2 ⟨rfl, b2⟩
          have HE2 := Lib.hid (HE1.out.over b2)
          have HB2 := Lib.hid (over HB1.out b2)
          have HO2 := Lib.hid (Os.below HO1.out b2)
          have HV2 := Lib.hid (ps_below HV1.out b2)
          have HU2 := Lib.hid (ps_below HU1.out b2)
          have i0 := (b2.cell (p := ⟨w.heap.size, 0, none⟩) hql).trans i0
          have i1 := (b2.cell (p := ⟨w.heap.size, 1, none⟩) hql).trans i1
          have i2 := (b2.cell (p := ⟨w.heap.size, 2, none⟩) hql).trans i2
          have i3 := (b2.cell (p := ⟨w.heap.size, 3, none⟩) hql).trans i3
          have i4 := (b2.cell (p := ⟨w.heap.size, 4, none⟩) hql).trans i4
          have i5 := (b2.cell (p := ⟨w.heap.size, 5, none⟩) hql).trans i5
          have hql := Nat.lt_of_lt_of_le hql b2.size
          clear b2 HE1 HB1 HO1 HV1 HU1
          go_wp2_with fail
          refine (KHo.out _).mono ?_
          rintro e w3 ⟨rfl, rfl⟩
          go_wp2_with fail
          clear K1 KHo
          go_loopg [42] n (fun g i wr => ∃ k : Nat, k ≤ n ∧ i = .int .i64 k ∧ n - k ≤ g ∧ Hid (∀ i, i < k → ¬ (i ≠ o ∧ S.has s i = true ∧ S.has (U.needN n be i) o = true)) ∧ Hid (Below w2.heap.size w2 wr))
          case atStart => exact ⟨0, Nat.zero_le _, rfl, Nat.le_refl _, fun i hi => absurd hi (Nat.not_lt_zero _), Below.refl _ _⟩
          case round =>
            obtain ⟨k, hk, rfl, hg, HK, HW⟩ := hrel
            have b4 := HW.out
            have HE4 := Lib.hid (HE2.out.over b4)
            have HB4 := Lib.hid (over HB2.out b4)
            have HO4 := Lib.hid (Os.below HO2.out b4)
            have HV4 := Lib.hid (ps_below HV2.out b4)
            have HU4 := Lib.hid (ps_below HU2.out b4)
            have i0 := (b4.cell (p := ⟨w.heap.size, 0, none⟩) hql).trans i0
            have i1 := (b4.cell (p := ⟨w.heap.size, 1, none⟩) hql).trans i1
            have i2 := (b4.cell (p := ⟨w.heap.size, 2, none⟩) hql).trans i2
            have i3 := (b4.cell (p := ⟨w.heap.size, 3, none⟩) hql).trans i3
            have i4 := (b4.cell (p := ⟨w.heap.size, 4, none⟩) hql).trans i4
            have i5 := (b4.cell (p := ⟨w.heap.size, 5, none⟩) hql).trans i5
            have hql := Nat.lt_of_lt_of_le hql b4.size
            clear b4 HE2 HB2 HO2 HV2 HU2
            by_cases hlt : k < n
            · have hkI : (k : Int) < (n : Int) := by omega
              have KHk := Lib.hid (fun w => KH.out k (by omega) w)
              have KNk := Lib.hid (fun w hE ho hv hu => KN.out k hlt w hE ho hv hu)
              have KHnk := Lib.hid (fun w => KHn.out k hlt w)
              obtain ⟨nd, hnd⟩ : ∃ nd, U.needN n be k = nd := ⟨_, rfl⟩
              rw [hnd] at KNk KHnk
              have HNd := Lib.hid hnd
              clear hnd
              by_cases hko : k = o
              · have HX2 : Hid (¬ (k ≠ o ∧ S.has s k = true ∧ S.has (U.needN n be k) o = true)) := fun h => h.1 hko
                subst hko
                go_wp2_with fail
                go_roundg (n - (k + 1))
                case measure => omega
                case rel => exact ⟨k + 1, by omega, by go_num, by omega, less_more HK.out HX2.out, HW⟩
              · have hkoI := ne_neN hko
                cases hsk : S.has s k
                · have HX2 : Hid (¬ (k ≠ o ∧ S.has s k = true ∧ S.has (U.needN n be k) o = true)) := fun h => by rw [hsk] at h; cases h.2.1
                  rw [hsk] at KHk
                  clear hsk
                  go_wp2_with fail
                  refine (KHk.out _).mono ?_
                  rintro e w3 ⟨rfl, rfl⟩
                  go_wp2_with fail
                  go_roundg (n - (k + 1))
                  case measure => omega
                  case rel => exact ⟨k + 1, by omega, by go_num, by omega, less_more HK.out HX2.out, HW⟩
                · rw [hsk] at KHk
                  have hsk2 := Lib.hid hsk
                  clear hsk
                  cases hno : S.has nd o
                  · have HX2 : Hid (¬ (k ≠ o ∧ S.has s k = true ∧ S.has (U.needN n be k) o = true)) := fun h => by have h3 := h.2.2; rw [HNd.out, hno] at h3; cases h3
                    rw [hno] at KHnk
                    clear hno
                    go_wp2_with fail
                    refine (KHk.out _).mono ?_
                    rintro e w3 ⟨rfl, rfl⟩
                    go_wp2_with fail
                    refine (KNk.out _ HE4.out HO4.out HV4.out HU4.out).mono ?_
                    rintro e w5 ⟨rfl, b5⟩
                    have HW5 := Lib.hid (over HW.out b5)
                    clear b5
                    go_wp2_with fail
                    refine (KHnk.out _).mono ?_
                    rintro e w3 ⟨rfl, rfl⟩
                    go_wp2_with fail
                    go_roundg (n - (k + 1))
                    case measure => omega
                    case rel => exact ⟨k + 1, by omega, by go_num, by omega, less_more HK.out HX2.out, HW5⟩
                  · rw [hno] at KHnk
                    clear hno
                    go_wp2_with fail
                    refine (KHk.out _).mono ?_
                    rintro e w3 ⟨rfl, rfl⟩
                    go_wp2_with fail
                    refine (KNk.out _ HE4.out HO4.out HV4.out HU4.out).mono ?_
                    rintro e w5 ⟨rfl, b5⟩
                    have HE5 := Lib.hid (HE4.out.over b5)
                    have HB5 := Lib.hid (over HB4.out b5)
                    clear b5
                    go_wp2_with fail
                    refine (KHnk.out _).mono ?_
                    rintro e w3 ⟨rfl, rfl⟩
                    go_wp2_with fail
                    refine (HX.out _ HE5.out).mono ?_
                    rintro e w9 ⟨rfl, b9⟩
                    have HB9 := Lib.hid (over HB5.out b9)
                    clear b9
                    go_wp2_with fail
                    go_ret
                    exact ⟨rfl, HB9.out⟩
            · have hkk : k = n := by omega
              have hkI : ¬ (k : Int) < (n : Int) := by omega
              rw [hkk] at HK
              have HZ := Lib.hid (HPt.out HK.out)
              rw [HZ.out] at K2
              clear hkk hlt hk hg HK HPt HZ KN KHn
              have hP2 := Lib.hid hP
              clear hP
              have hwr := shl_sub hP2.out hPs hs9
              have HWR := Lib.hid hwr
              clear hwr
              go_wp2_with fail
              rw [HWR.out]
              refine (K2.out _ HE4.out HO4.out HV4.out HU4.out).mono ?_
              rintro e w5 ⟨rfl, b5⟩
              have HE5 := Lib.hid (HE4.out.over b5)
              have HB5 := Lib.hid (over HB4.out b5)
              clear b5
              go_wp2_with fail
              refine (HX.out _ HE5.out).mono ?_
              rintro e w9 ⟨rfl, b9⟩
              have HB9 := Lib.hid (over HB5.out b9)
              clear b9
              go_wp2_with fail
              go_ret
              exact ⟨rfl, HB9.out⟩

end Go.Proofs.YtmoilpkgoabopaaDoor.T

