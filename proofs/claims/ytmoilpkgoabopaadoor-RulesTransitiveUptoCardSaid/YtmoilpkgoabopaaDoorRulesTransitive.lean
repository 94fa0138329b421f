/-
  DERIVED. The walk of RulesTransitive (written by gen_rulaws.py).
-/
import Derived.Test.YtmoilpkgoabopaaDoorRuEx
import Derived.Deep.RegionHeld3
namespace Go.Proofs.YtmoilpkgoabopaaDoor.T
open Go.RowKit
set_option maxRecDepth 8000

/-- block n holds a pair -/
def Pb (w : World) (n : Nat) (x y : Int) : Prop := w.heap[n]? = some (.cells #[.int .i64 x, .int .i64 y] 45)
section
variable {w w' : World} {n : Nat} {x y : Int}
theorem Pb.c0 (h : Pb w n x y) : w.cell? ⟨n, 0, none⟩ = some (.int .i64 x) := by unfold Pb at h; simp [World.cell?, h]
theorem Pb.c1 (h : Pb w n x y) : w.cell? ⟨n, 1, none⟩ = some (.int .i64 y) := by unfold Pb at h; simp [World.cell?, h]
theorem Pb.lt (h : Pb w n x y) : n < w.heap.size := by
  apply Decidable.byContradiction
  intro hc
  unfold Pb at h
  rw [Array.getElem?_eq_none (by omega)] at h; cases h
theorem Pb.below (h : Pb w n x y) (hb : Below w.heap.size w w') : Pb w' n x y := (hb.block n h.lt).trans h
theorem Pb.made (w : World) (x y : Int) : Pb (w.alloc (.cells #[.int .i64 x, .int .i64 y] 45)) w.heap.size x y := by
  show (w.heap.push _)[w.heap.size]? = _
  simp
end
theorem pair_eta {l : List (Int × Int)} {p : Int × Int} (h : p ∈ l) : hasB l p.1 p.2 = true := hasB_mem (by obtain ⟨x, y⟩ := p; exact h)

set_option maxHeartbeats 12800000 in
theorem rulesTransitive_walk (o0 o1 o2 o3 o4 o5 : Option Addr) (n0 n1 n2 c0 c1 c2 c3 c4 c5 : Nat) (l : List OrT) (ap be : List (Int × Int)) (ha : ap.length ≤ 2000000) (hb : be.length ≤ 2000000) (w : World) (hE : Env w) (ho : Os w (.slice o3 l.length c3) l) (hv : Ps w (.slice o4 ap.length c4) ap) (hu : Ps w (.slice o5 be.length c5) be) :
    Calls Tryd.prog 6 #[.agg #[.slice o0 n0 c0, .slice o1 n1 c1, .slice o2 n2 c2, .slice o3 l.length c3, .slice o4 ap.length c4, .slice o5 be.length c5]] w fun e w' => e = .returned (.bool true) ∧ Below w.heap.size w w' := by
  have BI := below_alloc w (.cells #[.slice o0 n0 c0, .slice o1 n1 c1, .slice o2 n2 c2, .slice o3 l.length c3, .slice o4 ap.length c4, .slice o5 be.length c5] 37)
  have I0 := Ib.made w (.slice o0 n0 c0) (.slice o1 n1 c1) (.slice o2 n2 c2) (.slice o3 l.length c3) (.slice o4 ap.length c4) (.slice o5 be.length c5)
  have HR := Lib.hid (fun w hv hu => right12_n o0 o1 o2 o3 o4 o5 n0 n1 n2 l.length c0 c1 c2 c3 c4 c5 ap be ha hb w hv hu)
  unfold inV at HR
  have HX := Lib.hid (fun w hE => examples_n w hE)
  have HO := Lib.hid (ho.below BI)
  have HV := Lib.hid (ps_below hv BI)
  have HU := Lib.hid (ps_below hu BI)
  have HE := Lib.hid (hE.over BI)
  obtain ⟨W0, hW0⟩ : ∃ W0, w.alloc (.cells #[.slice o0 n0 c0, .slice o1 n1 c1, .slice o2 n2 c2, .slice o3 l.length c3, .slice o4 ap.length c4, .slice o5 be.length c5] 37) = W0 := ⟨_, rfl⟩
  rw [hW0] at BI I0 HO HV HU HE
  have HB := Lib.hid BI
  have HI := Lib.hid I0
  have HW0 := Lib.hid hW0
  have i0 := I0.c0
  have i1 := I0.c1
  have i2 := I0.c2
  have i3 := I0.c3
  have i4 := I0.c4
  have i5 := I0.c5
  clear BI I0 ho hv hu hE hW0
  cases hr : rightI l.length ap be
  · skip
    rw [hr] at HR
    clear hr ha hb
    go_enter Tryd.func6, Tryd.ntmps6
    go_upto_region 1 with fail
    rw [HW0.out]
    clear HW0
    go_wp2_with fail
    refine (HR.out _ HV.out HU.out).mono ?_
    rintro e w1 ⟨rfl, b1⟩
    have HE1 := Lib.hid (HE.out.over b1)
    have HB1 := Lib.hid (over HB.out b1)
    clear b1 HE HB HR
    go_wp2_with fail
    refine (HX.out _ HE1.out).mono ?_
    rintro e w2 ⟨rfl, b2⟩
    have HB2 := Lib.hid (over HB1.out b2)
    clear b2
    go_wp2_with fail
    go_ret
    exact ⟨rfl, HB2.out⟩
  · skip
    have hr2 := hr
    unfold rightI at hr2
    rw [Bool.and_eq_true, decide_eq_true_iff, List.isEmpty_iff] at hr2
    obtain ⟨hn10, hck⟩ := hr2
    obtain ⟨ha16, hb16, hra, hrb⟩ := check_right hck
    rw [hr] at HR
    clear hr hck ha hb
    have K1 := Lib.hid (fun w hE hu => rulesClosure_n l.length (.slice o5 be.length c5) be hn10 hrb hb16 w hE hu)
    have hcl : (U.cloL l.length be).length ≤ 100 := by
      have := cloK_len l.length be l.length
      rw [clo_full] at this
      have h2 := Nat.mul_le_mul hn10 hn10
      omega
    have KC := Lib.hid (fun v x y w hv => contains12_n v (U.cloL l.length be) x y (by omega) w hv)
    have KK := Lib.hid (fun v w hE hv hu => rulesCheck_n l.length (.slice none 0 0) v [] (U.cloL l.length be) (by omega) (by simp) (by omega) (fun _ h => by cases h) (clo64 hrb hn10) w hE hv hu)
    have HM1 := Lib.hid (fun p (hp : p ∈ be) => pair_eta (U.clo_of hrb hp))
    have HM2 := Lib.hid (fun p q (hp : p ∈ U.cloL l.length be) (hq : q ∈ U.cloL l.length be) (h : p.2 = q.1) => hasB_mem (U.clo_trans hrb hp hq h))
    have K3 := Lib.hid (fun (h : checkF l.length [] (U.cloL l.length be) = []) v w hE hv => rulesClosure_n l.length v (U.cloL l.length be) hn10 (check_right h).2.2.2 (check_right h).2.1 w hE hv)
    have HCC := Lib.hid (fun (h : checkF l.length [] (U.cloL l.length be) = []) => U.clo_clo hrb (check_right h).2.2.2)
    have K5 := Lib.hid (fun u v w hu hv => pairsEq_n u v (U.cloL l.length be) (by omega) w hu hv)
    generalize checkF l.length [] (U.cloL l.length be) = f at *
    generalize U.cloL l.length be = cl at *
    generalize hcc : U.cloL l.length cl = ccl at *
    clear hra hrb ha16 hn10
    generalize hgn : l.length = n at *
    generalize hga : ap.length = na at *
    generalize hgb : be.length = nb at *
    have HNb := Lib.hid hgb
    go_enter Tryd.func6, Tryd.ntmps6
    go_upto_region 1 with fail
    rw [HW0.out]
    clear HW0
    go_wp2_with fail
    refine (HR.out _ HV.out HU.out).mono ?_
    rintro e w1 ⟨rfl, b1⟩
    have HE1 := Lib.hid (HE.out.over b1)
    have HB1 := Lib.hid (over HB.out b1)
    have HO1 := Lib.hid (HO.out.below b1)
    have HV1 := Lib.hid (ps_below HV.out b1)
    have HU1 := Lib.hid (ps_below HU.out b1)
    have HI1 := HI.out.below b1
    have i0 := HI1.c0
    have i1 := HI1.c1
    have i2 := HI1.c2
    have i3 := HI1.c3
    have i4 := HI1.c4
    have i5 := HI1.c5
    have hql := HI1.lt
    clear b1 HE HB HR HO HV HU HI
    clear hgn hga hgb hcc
    go_wp2_with fail
    refine (K1.out _ HE1.out HU1.out).mono ?_
    rintro e w2 ⟨oc, cc, rfl, ⟨hp, -, -⟩, b2⟩
    have HC2 := Lib.hid hp
    have HU2 := Lib.hid (ps_below HU1.out b2)
    have HE2 := Lib.hid (HE1.out.over b2)
    have HB2 := Lib.hid (over HB1.out b2)
    have i3 := (b2.cell (p := ⟨w.heap.size, 3, none⟩) hql).trans i3
    have i5 := (b2.cell (p := ⟨w.heap.size, 5, none⟩) hql).trans i5
    clear b2 hp HE1 HB1 HO1 HV1 HU1 HI1 i0 i1 i2 i4 hql K1
    generalize hgc : cl.length = nc at *
    have HNc := Lib.hid hgc
    clear hgc
    go_wp2_with fail
    go_loopg [25] nb (fun g i wr => ∃ k : Nat, k ≤ nb ∧ i = .int .i64 k ∧ nb - k ≤ g ∧ Hid (Below w2.heap.size w2 wr))
    case atStart => exact ⟨0, Nat.zero_le _, rfl, Nat.le_refl _, Below.refl _ _⟩
    case round =>
      obtain ⟨k, hk, rfl, hg, HW⟩ := hrel
      by_cases hlt : k < nb
      · have hkI : (k : Int) < (nb : Int) := by omega
        have hkb : k < be.length := by rw [HNb.out]; exact hlt
        obtain ⟨b, o, rfl, hab, x0, x1⟩ := ps_at (by have := ps_below HU2.out HW.out; rw [← HNb.out] at this; exact this) hkb
        have HM := Lib.hid (HM1.out _ (getD_mem (d := (0, 0)) hkb))
        generalize be.getD k (0, 0) = p at *
        have bz := over HW.out (below_alloc wr (.cells #[.int .i64 p.1, .int .i64 p.2] 45))
        have KCk := Lib.hid (KC.out (.slice oc nc cc) p.1 p.2 _ (ps_below HC2.out bz))
        rw [HM.out] at KCk
        have HWz := Lib.hid bz
        clear bz HM
        generalize p.1 = x at *
        generalize p.2 = y at *
        go_wp2_with fail
        refine KCk.out.mono ?_
        rintro e w3 ⟨rfl, b3⟩
        have HW3 := Lib.hid (over HWz.out b3)
        clear b3
        go_wp2_with fail
        go_roundg (nb - (k + 1))
        case measure => omega
        case rel => exact ⟨k + 1, by omega, by go_num, by omega, HW3⟩
      · have hkk : k = nb := by omega
        have hkI : ¬ (k : Int) < (nb : Int) := by omega
        clear hkk hlt hk hg HM1
        have HC3 := Lib.hid (ps_below HC2.out HW.out)
        have HE3 := Lib.hid (HE2.out.over HW.out)
        have HB3 := Lib.hid (over HB2.out HW.out)
        clear HC2 HE2 HB2 HW i3 i5 HU2
        obtain ⟨w3, hw3⟩ : ∃ w3, wr = w3 := ⟨_, rfl⟩
        rw [hw3] at HC3 HE3 HB3
        have HW3 := Lib.hid hw3
        clear hw3
        go_upto_region 11 with fail
        rw [HW3.out]
        clear HW3
        go_wp2_with fail
        go_loopg [39] nc (fun g i wr => ∃ k : Nat, k ≤ nc ∧ i = .int .i64 k ∧ nc - k ≤ g ∧ Hid (Below w3.heap.size w3 wr))
        case atStart => exact ⟨0, Nat.zero_le _, rfl, Nat.le_refl _, Below.refl _ _⟩
        case round =>
          obtain ⟨k, hk, rfl, hg, HW⟩ := hrel
          by_cases hlt : k < nc
          · have hkI : (k : Int) < (nc : Int) := by omega
            have hkb : k < cl.length := by rw [HNc.out]; exact hlt
            obtain ⟨b, o, rfl, hab, x0, x1⟩ := ps_at (by have := ps_below HC3.out HW.out; rw [← HNc.out] at this; exact this) hkb
            have hpm := getD_mem (d := (0, 0)) hkb
            generalize cl.getD k (0, 0) = p at *
            have HPm := Lib.hid hpm
            have bz := over HW.out (below_alloc wr (.cells #[.int .i64 p.1, .int .i64 p.2] 45))
            have HPb := Lib.hid (Pb.made wr p.1 p.2)
            have HCz := Lib.hid (ps_below HC3.out bz)
            have HWz := Lib.hid bz
            clear bz hpm
            obtain ⟨q8, hq8⟩ : ∃ q8, wr.heap.size = q8 := ⟨_, rfl⟩
            obtain ⟨W8, hW8⟩ : ∃ W8, wr.alloc (.cells #[.int .i64 p.1, .int .i64 p.2] 45) = W8 := ⟨_, rfl⟩
            rw [hW8] at HPb HCz HWz
            rw [hq8] at HPb
            have HQ8 := Lib.hid hq8
            have HW8 := Lib.hid hW8
            clear hq8 hW8
            go_upto_region 14 with fail
            rw [HW8.out, HQ8.out]
            clear HW8 HQ8 x0 x1
            go_wp2_with fail
            go_loopg [45] nc (fun g2 i wr2 => ∃ i' : Nat, i' ≤ nc ∧ i = .int .i64 i' ∧ nc - i' ≤ g2 ∧ Hid (Below W8.heap.size W8 wr2))
            case atStart => exact ⟨0, Nat.zero_le _, rfl, Nat.le_refl _, Below.refl _ _⟩
            case round =>
              obtain ⟨i, hi, rfl, hg2, HV2⟩ := hrel
              by_cases hilt : i < nc
              · have hiI : (i : Int) < (nc : Int) := by omega
                have hib : i < cl.length := by rw [HNc.out]; exact hilt
                obtain ⟨b', o', hbo, hab', y0, y1⟩ := ps_at (by have := ps_below HCz.out HV2.out; rw [← HNc.out] at this; exact this) hib
                simp only [Option.some.injEq, Addr.mk.injEq, and_true] at hbo
                obtain ⟨rfl, rfl⟩ := hbo
                have hqm := getD_mem (d := (0, 0)) hib
                generalize cl.getD i (0, 0) = q at *
                have HH := Lib.hid (fun h => HM2.out p q HPm.out hqm h)
                have P2 := HPb.out.below HV2.out
                have bq := over HV2.out (below_alloc _ (.cells #[.int .i64 q.1, .int .i64 q.2] 45))
                have P3 := P2.below (below_alloc _ (.cells #[.int .i64 q.1, .int .i64 q.2] 45))
                have p0 := P3.c0
                have p1 := P3.c1
                have KCk := Lib.hid (KC.out (.slice (some ⟨b, o, none⟩) nc cc) p.1 q.2 _ (ps_below HCz.out bq))
                have HWq := Lib.hid bq
                clear bq hqm P2 P3
                by_cases hpq : p.2 = q.1
                · rw [HH.out hpq] at KCk
                  have hpqI : (p.2 == q.1) = true := by rw [hpq]; simp
                  generalize p.1 = x at *
                  generalize p.2 = y at *
                  generalize q.1 = x' at *
                  generalize q.2 = y' at *
                  subst hpq
                  clear HH
                  go_wp2_with fail
                  refine KCk.out.mono ?_
                  rintro e w9 ⟨rfl, b9⟩
                  have HW9 := Lib.hid (over HWq.out b9)
                  clear b9
                  go_wp2_with fail
                  go_roundg (nc - (i + 1))
                  case measure => omega
                  case rel => exact ⟨i + 1, by omega, by go_num, by omega, HW9⟩
                · have hpqI := ne_eqI hpq
                  clear HH KCk
                  generalize p.1 = x at *
                  generalize p.2 = y at *
                  generalize q.1 = x' at *
                  generalize q.2 = y' at *
                  go_wp2_with fail
                  go_roundg (nc - (i + 1))
                  case measure => omega
                  case rel => exact ⟨i + 1, by omega, by go_num, by omega, HWq⟩
              · have hii : i = nc := by omega
                have hiI : ¬ (i : Int) < (nc : Int) := by omega
                clear hii
                have HWf := Lib.hid (over HWz.out HV2.out)
                go_wp2_with fail
                go_roundg (nc - (k + 1))
                case measure => omega
                case rel => exact ⟨k + 1, by omega, by go_num, by omega, HWf⟩
          · have hkk : k = nc := by omega
            have hkI : ¬ (k : Int) < (nc : Int) := by omega
            clear hkk hlt hk hg HM2
            have HC4 := Lib.hid (ps_below HC3.out HW.out)
            have HE4 := Lib.hid (HE3.out.over HW.out)
            have HB4 := Lib.hid (over HB3.out HW.out)
            clear HC3 HE3 HB3 HW
            have K4 := Lib.hid (KK.out (.slice oc nc cc) _ HE4.out (Sl.nil _) HC4.out)
            go_wp2_with fail
            refine K4.out.mono ?_
            rintro e w5 ⟨oa, ca, rfl, -, b5⟩
            have HC5 := Lib.hid (ps_below HC4.out b5)
            have HE5 := Lib.hid (HE4.out.over b5)
            have HB5 := Lib.hid (over HB4.out b5)
            clear b5 HC4 HE4 HB4 K4 KK KC
            by_cases hf : f = []
            · have K3a := Lib.hid (K3.out hf (.slice oc nc cc) w5 HE5.out HC5.out)
              rw [HCC.out hf] at K3a
              clear HCC K3
              subst hf
              go_wp2_with fail
              refine K3a.out.mono ?_
              rintro e w6 ⟨od, cd, rfl, ⟨hd, -, -⟩, b6⟩
              rw [HNc.out] at hd ⊢
              have HD6 := Lib.hid hd
              have HC6 := Lib.hid (ps_below HC5.out b6)
              have HE6 := Lib.hid (HE5.out.over b6)
              have HB6 := Lib.hid (over HB5.out b6)
              have K6 := Lib.hid (K5.out _ _ w6 HD6.out HC6.out)
              clear b6 hd HC5 HE5 HB5 K3a
              go_wp2_with fail
              refine K6.out.mono ?_
              rintro e w7 ⟨rfl, b7⟩
              have HE7 := Lib.hid (HE6.out.over b7)
              have HB7 := Lib.hid (over HB6.out b7)
              clear b7 HE6 HB6 HD6 HC6 K6
              go_wp2_with fail
              refine (HX.out _ HE7.out).mono ?_
              rintro e w9 ⟨rfl, b9⟩
              have HB9 := Lib.hid (over HB7.out b9)
              clear b9
              go_wp2_with fail
              go_ret
              exact ⟨rfl, HB9.out⟩
            · have hfI : (0 : Int) < (f.length : Int) := by
                have : f.length ≠ 0 := fun h => hf (List.eq_nil_of_length_eq_zero h)
                omega
              clear hf HCC K3
              generalize f.length = nf at *
              go_wp2_with fail
              refine (HX.out _ HE5.out).mono ?_
              rintro e w9 ⟨rfl, b9⟩
              have HB9 := Lib.hid (over HB5.out b9)
              clear b9
              go_wp2_with fail
              go_ret
              exact ⟨rfl, HB9.out⟩

end Go.Proofs.YtmoilpkgoabopaaDoor.T

