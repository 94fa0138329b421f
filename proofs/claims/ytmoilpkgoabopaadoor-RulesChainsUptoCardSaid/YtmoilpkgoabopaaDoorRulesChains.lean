/-
  DERIVED. The walk of RulesChains (written by gen_rulaws.py).
-/
import Derived.Test.YtmoilpkgoabopaaDoorRuEx
import Derived.Deep.RegionHeld3
namespace Go.Proofs.YtmoilpkgoabopaaDoor.T
open Go.RowKit
set_option maxRecDepth 8000

set_option maxHeartbeats 12800000 in
theorem rulesChains_walk (o0 o1 o2 o3 o4 o5 : Option Addr) (n0 n1 n2 c0 c1 c2 c3 c4 c5 : Nat) (l : List OrT) (ap be : List (Int × Int)) (q : Int) (hq : -9223372036854775808 ≤ q ∧ q ≤ 9223372036854775807) (ha : ap.length ≤ 2000000) (hb : be.length ≤ 2000000) (w : World) (hE : Env w) (ho : Os w (.slice o3 l.length c3) l) (hv : Ps w (.slice o4 ap.length c4) ap) (hu : Ps w (.slice o5 be.length c5) be) :
    Calls Tryd.prog 4 #[.agg #[.slice o0 n0 c0, .slice o1 n1 c1, .slice o2 n2 c2, .slice o3 l.length c3, .slice o4 ap.length c4, .slice o5 be.length c5], .int .i64 q] w fun e w' => e = .returned (.bool true) ∧ Below w.heap.size w w' := by
  have BI := below_alloc w (.cells #[.slice o0 n0 c0, .slice o1 n1 c1, .slice o2 n2 c2, .slice o3 l.length c3, .slice o4 ap.length c4, .slice o5 be.length c5] 37)
  have I0 := Ib.made w (.slice o0 n0 c0) (.slice o1 n1 c1) (.slice o2 n2 c2) (.slice o3 l.length c3) (.slice o4 ap.length c4) (.slice o5 be.length c5)
  have HR := Lib.hid (fun w hv hu => right12_n o0 o1 o2 o3 o4 o5 n0 n1 n2 l.length c0 c1 c2 c3 c4 c5 ap be ha hb w hv hu)
  unfold inV at HR
  have HX := Lib.hid (fun w hE => examples_n w hE)
  have HO := Lib.hid (ho.below BI)
  have HV := Lib.hid (ps_below hv BI)
  have HU := Lib.hid (ps_below hu BI)
  have HE := Lib.hid (hE.over BI)
  obtain ⟨W0, hW0⟩ : ∃ W0, w.alloc (.cells #[.slice o0 n0 c0, .slice o1 n1 c1, .slice o2 n2 c2, .slice o3 l.length c3, .slice o4 ap.length c4, .slice o5 be.length c5] 37) = W0 := ⟨_, rfl⟩
  rw [hW0] at BI I0 HO HV HU HE
  have HB := Lib.hid BI
  have HI := Lib.hid I0
  have HW0 := Lib.hid hW0
  have i0 := I0.c0
  have i1 := I0.c1
  have i2 := I0.c2
  have i3 := I0.c3
  have i4 := I0.c4
  have i5 := I0.c5
  clear BI I0 ho hv hu hE hW0
  cases hr : rightI l.length ap be
  · skip
    rw [hr] at HR
    clear hr ha hb
    go_enter Tryd.func4, Tryd.ntmps4
    go_upto_region 1 with fail
    rw [HW0.out]
    clear HW0
    go_wp2_with fail
    refine (HR.out _ HV.out HU.out).mono ?_
    rintro e w1 ⟨rfl, b1⟩
    have HE1 := Lib.hid (HE.out.over b1)
    have HB1 := Lib.hid (over HB.out b1)
    clear b1 HE HB HR
    go_wp2_with fail
    refine (HX.out _ HE1.out).mono ?_
    rintro e w2 ⟨rfl, b2⟩
    have HB2 := Lib.hid (over HB1.out b2)
    clear b2
    go_wp2_with fail
    go_ret
    exact ⟨rfl, HB2.out⟩
  · skip
    have hr2 := hr
    unfold rightI at hr2
    rw [Bool.and_eq_true, decide_eq_true_iff, List.isEmpty_iff] at hr2
    obtain ⟨hn10, hck⟩ := hr2
    obtain ⟨ha16, hb16, hra, hrb⟩ := check_right hck
    rw [hr] at HR
    clear hr hck ha hb
    have K1 := Lib.hid (fun w hE hu => rulesClosure_n l.length (.slice o5 be.length c5) be hn10 hrb hb16 w hE hu)
    have K2 := Lib.hid (fun w hu => closure12_n l.length (.slice o5 be.length c5) be (by omega) hrb (by omega) w hu)
    have K3 := Lib.hid (fun w hE ho hv hu => rulesNeeds_n o0 o1 o2 o3 o4 o5 n0 n1 n2 c0 c1 c2 c3 c4 c5 l ap be q hq hn10 hra hrb ha16 hb16 w hE ho hv hu)
    have K4 := Lib.hid (fun w hu => needs12_n o0 o1 o2 o3 o4 o5 n0 n1 n2 l.length ap.length c0 c1 c2 c3 c4 c5 be q (by omega) hrb (by omega) w hu)
    unfold inV at K4
    have hcl : (U.cloL l.length be).length ≤ 1000000 := by
      have := cloK_len l.length be l.length
      rw [clo_full] at this
      have h2 := Nat.mul_le_mul hn10 hn10
      omega
    have K5 := Lib.hid (fun u v w hu hv => pairsEq_n u v (U.cloL l.length be) hcl w hu hv)
    generalize U.cloL l.length be = cl at *
    generalize U.needsI l.length be q = nd at *
    clear hra hrb ha16 hb16 hn10 hcl
    generalize hgn : l.length = n at *
    generalize hga : ap.length = na at *
    generalize hgb : be.length = nb at *
    go_enter Tryd.func4, Tryd.ntmps4
    go_upto_region 1 with fail
    rw [HW0.out]
    clear HW0
    go_wp2_with fail
    refine (HR.out _ HV.out HU.out).mono ?_
    rintro e w1 ⟨rfl, b1⟩
    have HE1 := Lib.hid (HE.out.over b1)
    have HB1 := Lib.hid (over HB.out b1)
    have HO1 := Lib.hid (HO.out.below b1)
    have HV1 := Lib.hid (ps_below HV.out b1)
    have HU1 := Lib.hid (ps_below HU.out b1)
    have HI1 := HI.out.below b1
    have i0 := HI1.c0
    have i1 := HI1.c1
    have i2 := HI1.c2
    have i3 := HI1.c3
    have i4 := HI1.c4
    have i5 := HI1.c5
    have hql := HI1.lt
    clear b1 HE HB HR HO HV HU HI
    go_upto_region 4 with fail
    clear hgn hga hgb
    have HE : Hid (Env w1.drew) := HE1.out.over (below_drew (Below.refl _ _))
    have HO : Hid (Os w1.drew (.slice o3 n c3) l) := HO1
    have HV : Hid (Ps w1.drew (.slice o4 na c4) ap) := HV1
    have HU : Hid (Ps w1.drew (.slice o5 nb c5) be) := HU1
    have HB : Hid (Below w.heap.size w w1.drew) := below_drew HB1.out
    have i0 : w1.drew.cell? ⟨w.heap.size, 0, none⟩ = some (.slice o0 n0 c0) := i0
    have i1 : w1.drew.cell? ⟨w.heap.size, 1, none⟩ = some (.slice o1 n1 c1) := i1
    have i2 : w1.drew.cell? ⟨w.heap.size, 2, none⟩ = some (.slice o2 n2 c2) := i2
    have i3 : w1.drew.cell? ⟨w.heap.size, 3, none⟩ = some (.slice o3 n c3) := i3
    have i4 : w1.drew.cell? ⟨w.heap.size, 4, none⟩ = some (.slice o4 na c4) := i4
    have i5 : w1.drew.cell? ⟨w.heap.size, 5, none⟩ = some (.slice o5 nb c5) := i5
    have hql : w.heap.size < w1.drew.heap.size := hql
    have hnn : (nd == nd) = true := by simp
    go_region_held3 (fun w' => w'.cell? ⟨w.heap.size, 0, none⟩ = some (.slice o0 n0 c0) ∧ w'.cell? ⟨w.heap.size, 1, none⟩ = some (.slice o1 n1 c1) ∧ w'.cell? ⟨w.heap.size, 2, none⟩ = some (.slice o2 n2 c2) ∧ w'.cell? ⟨w.heap.size, 3, none⟩ = some (.slice o3 n c3) ∧ w'.cell? ⟨w.heap.size, 4, none⟩ = some (.slice o4 na c4) ∧ w'.cell? ⟨w.heap.size, 5, none⟩ = some (.slice o5 nb c5))
      (first | exact ⟨i0, i1, i2, i3, i4, i5⟩)
      (first
        | (go_at_call 14; (with_reducible refine (K1.out _ HE.out HU.out).mono ?_); rintro e wz ⟨oc, cc, rfl, ⟨hp, -, -⟩, bz⟩; have i0 := (bz.cell (p := ⟨w.heap.size, 0, none⟩) hql).trans i0; have i1 := (bz.cell (p := ⟨w.heap.size, 1, none⟩) hql).trans i1; have i2 := (bz.cell (p := ⟨w.heap.size, 2, none⟩) hql).trans i2; have i3 := (bz.cell (p := ⟨w.heap.size, 3, none⟩) hql).trans i3; have i4 := (bz.cell (p := ⟨w.heap.size, 4, none⟩) hql).trans i4; have i5 := (bz.cell (p := ⟨w.heap.size, 5, none⟩) hql).trans i5; have HB := Lib.hid (over HB.out bz); have HE := Lib.hid (HE.out.over bz); have HO := Lib.hid (Os.below HO.out bz); have HV := Lib.hid (ps_below HV.out bz); have HU := Lib.hid (ps_below HU.out bz); have hql := Nat.lt_of_lt_of_le hql bz.size; have HC1 := Lib.hid hp)
        | (go_at_call 15; (with_reducible refine (K2.out _ HU.out).mono ?_); rintro e wz ⟨oc, cc, rfl, ⟨hp, -, -⟩, bz⟩; have i0 := (bz.cell (p := ⟨w.heap.size, 0, none⟩) hql).trans i0; have i1 := (bz.cell (p := ⟨w.heap.size, 1, none⟩) hql).trans i1; have i2 := (bz.cell (p := ⟨w.heap.size, 2, none⟩) hql).trans i2; have i3 := (bz.cell (p := ⟨w.heap.size, 3, none⟩) hql).trans i3; have i4 := (bz.cell (p := ⟨w.heap.size, 4, none⟩) hql).trans i4; have i5 := (bz.cell (p := ⟨w.heap.size, 5, none⟩) hql).trans i5; have HB := Lib.hid (over HB.out bz); have HE := Lib.hid (HE.out.over bz); have HO := Lib.hid (Os.below HO.out bz); have HV := Lib.hid (ps_below HV.out bz); have HU := Lib.hid (ps_below HU.out bz); have hql := Nat.lt_of_lt_of_le hql bz.size; have HC2 := Lib.hid hp; have HC1 := Lib.hid (ps_below HC1.out bz))
        | (go_at_call 13; (with_reducible refine (K5.out _ _ _ HC1.out HC2.out).mono ?_); rintro e wz ⟨rfl, bz⟩; have i0 := (bz.cell (p := ⟨w.heap.size, 0, none⟩) hql).trans i0; have i1 := (bz.cell (p := ⟨w.heap.size, 1, none⟩) hql).trans i1; have i2 := (bz.cell (p := ⟨w.heap.size, 2, none⟩) hql).trans i2; have i3 := (bz.cell (p := ⟨w.heap.size, 3, none⟩) hql).trans i3; have i4 := (bz.cell (p := ⟨w.heap.size, 4, none⟩) hql).trans i4; have i5 := (bz.cell (p := ⟨w.heap.size, 5, none⟩) hql).trans i5; have HB := Lib.hid (over HB.out bz); have HE := Lib.hid (HE.out.over bz); have HO := Lib.hid (Os.below HO.out bz); have HV := Lib.hid (ps_below HV.out bz); have HU := Lib.hid (ps_below HU.out bz); have hql := Nat.lt_of_lt_of_le hql bz.size)
        | (go_at_call 16; (with_reducible refine (K3.out _ HE.out HO.out HV.out HU.out).mono ?_); rintro e wz ⟨rfl, bz⟩; have i0 := (bz.cell (p := ⟨w.heap.size, 0, none⟩) hql).trans i0; have i1 := (bz.cell (p := ⟨w.heap.size, 1, none⟩) hql).trans i1; have i2 := (bz.cell (p := ⟨w.heap.size, 2, none⟩) hql).trans i2; have i3 := (bz.cell (p := ⟨w.heap.size, 3, none⟩) hql).trans i3; have i4 := (bz.cell (p := ⟨w.heap.size, 4, none⟩) hql).trans i4; have i5 := (bz.cell (p := ⟨w.heap.size, 5, none⟩) hql).trans i5; have HB := Lib.hid (over HB.out bz); have HE := Lib.hid (HE.out.over bz); have HO := Lib.hid (Os.below HO.out bz); have HV := Lib.hid (ps_below HV.out bz); have HU := Lib.hid (ps_below HU.out bz); have hql := Nat.lt_of_lt_of_le hql bz.size)
        | (go_at_call 17; (with_reducible refine (K4.out _ HU.out).mono ?_); rintro e wz ⟨rfl, bz⟩; have i0 := (bz.cell (p := ⟨w.heap.size, 0, none⟩) hql).trans i0; have i1 := (bz.cell (p := ⟨w.heap.size, 1, none⟩) hql).trans i1; have i2 := (bz.cell (p := ⟨w.heap.size, 2, none⟩) hql).trans i2; have i3 := (bz.cell (p := ⟨w.heap.size, 3, none⟩) hql).trans i3; have i4 := (bz.cell (p := ⟨w.heap.size, 4, none⟩) hql).trans i4; have i5 := (bz.cell (p := ⟨w.heap.size, 5, none⟩) hql).trans i5; have HB := Lib.hid (over HB.out bz); have HE := Lib.hid (HE.out.over bz); have HO := Lib.hid (Os.below HO.out bz); have HV := Lib.hid (ps_below HV.out bz); have HU := Lib.hid (ps_below HU.out bz); have hql := Nat.lt_of_lt_of_le hql bz.size)
        | (go_at_call 9; (with_reducible refine (HX.out _ HE.out).mono ?_); rintro e wz ⟨rfl, bz⟩; have i0 := (bz.cell (p := ⟨w.heap.size, 0, none⟩) hql).trans i0; have i1 := (bz.cell (p := ⟨w.heap.size, 1, none⟩) hql).trans i1; have i2 := (bz.cell (p := ⟨w.heap.size, 2, none⟩) hql).trans i2; have i3 := (bz.cell (p := ⟨w.heap.size, 3, none⟩) hql).trans i3; have i4 := (bz.cell (p := ⟨w.heap.size, 4, none⟩) hql).trans i4; have i5 := (bz.cell (p := ⟨w.heap.size, 5, none⟩) hql).trans i5; have HB := Lib.hid (over HB.out bz); have HE := Lib.hid (HE.out.over bz); have HO := Lib.hid (Os.below HO.out bz); have HV := Lib.hid (ps_below HV.out bz); have HU := Lib.hid (ps_below HU.out bz); have hql := Nat.lt_of_lt_of_le hql bz.size))
    all_goals
      go_wp2_with fail
      go_ret
      exact ⟨rfl, HB.out⟩

end Go.Proofs.YtmoilpkgoabopaaDoor.T

