/-
  DERIVED. The walk of LoadsGroup.
-/
import Derived.Test.YtcnagcdgpgijaaaLoadsAdd
namespace Go.Proofs.Ytcnagcdgpgijaaa.L
open Go.RowKit
set_option maxRecDepth 8000

theorem zip_ext (f g : Int → Int → Int) {a b c d : List Int} {n : Nat} (ha : a.length = n) (hb : b.length = n) (hc : c.length = n) (hd : d.length = n) (h : ∀ k, k < n → f (a.getD k 0) (b.getD k 0) = g (c.getD k 0) (d.getD k 0)) : zipL f a b = zipL g c d := by
  have h1 := zip_len f ha hb
  have h2 := zip_len g hc hd
  apply List.ext_getElem (by omega)
  intro i hi _
  have e1 : (zipL f a b)[i] = (zipL f a b).getD i 0 := by rw [List.getD_eq_getElem?_getD, List.getElem?_eq_getElem hi]; rfl
  have e2 : (zipL g c d)[i] = (zipL g c d).getD i 0 := by rw [List.getD_eq_getElem?_getD, List.getElem?_eq_getElem (by omega)]; rfl
  rw [e1, e2, zip_getD f (by omega) (by omega), zip_getD g (by omega) (by omega)]
  exact h i (by omega)
theorem zip_comm {a b : List Int} {n : Nat} (ha : a.length = n) (hb : b.length = n) : zipL addF a b = zipL addF b a :=
  zip_ext _ _ ha hb hb ha (fun k _ => by unfold addF; omega)
theorem zip_assoc {a b c : List Int} {n : Nat} (ha : a.length = n) (hb : b.length = n) (hc : c.length = n) : zipL addF (zipL addF a b) c = zipL addF a (zipL addF b c) :=
  zip_ext _ _ (zip_len _ ha hb) hc ha (zip_len _ hb hc) (fun k hk => by
    rw [zip_getD _ (by omega) (by omega), zip_getD _ (by omega) (by omega)]; unfold addF; omega)
theorem zip_undo {a b : List Int} {n : Nat} (ha : a.length = n) (hb : b.length = n) : zipL subF (zipL addF a b) b = a := by
  have h1 := zip_len subF (zip_len addF ha hb) hb
  apply List.ext_getElem (by omega)
  intro i hi hi2
  have e1 : (zipL subF (zipL addF a b) b)[i] = (zipL subF (zipL addF a b) b).getD i 0 := by rw [List.getD_eq_getElem?_getD, List.getElem?_eq_getElem hi]; rfl
  have e2 : a[i] = a.getD i 0 := by rw [List.getD_eq_getElem?_getD, List.getElem?_eq_getElem hi2]; rfl
  rw [e1, e2, zip_getD _ (by rw [zip_len addF ha hb]; omega) (by omega), zip_getD _ (by omega) (by omega)]
  unfold addF subF; omega
/-- every number is at most m, whatever its sign -/
def Small (m : Int) (a : List Int) : Prop := ∀ k, -m ≤ a.getD k 0 ∧ a.getD k 0 ≤ m
theorem Small.of {m : Int} (hm : 0 ≤ m) {a : List Int} (h : withinB m a = true) : Small m a := within_any hm h
theorem Small.zip {m p : Int} {a b : List Int} (hm : 0 ≤ m) (hp : 0 ≤ p) (ha : Small m a) (hb : Small p b) (h : a.length = b.length) : Small (m + p) (zipL addF a b) := by
  intro k
  by_cases hk : k < a.length
  · rw [zip_getD _ hk (by omega)]
    have h1 := ha k
    have h2 := hb k
    unfold addF; omega
  · rw [getD_far (by rw [zip_len addF rfl h.symm]; omega)]; omega
theorem Small.fitA {m p : Int} {a b : List Int} (ha : Small m a) (hb : Small p b) (h : m + p ≤ 1000000000000000) : Fit2 addF a b := by
  intro k _
  have h1 := ha k
  have h2 := hb k
  unfold addF; omega
theorem Small.fitS {m p : Int} {a b : List Int} (ha : Small m a) (hb : Small p b) (h : m + p ≤ 1000000000000000) : Fit2 subF a b := by
  intro k _
  have h1 := ha k
  have h2 := hb k
  unfold subF; omega
theorem combL_eq (f : Int → Int → Int) {a b : List Int} (h : a.length = b.length) : combL f a b = zipL f a b := if_pos h
theorem combE_eq {a b : List Int} (h : a.length = b.length) : combE a b = 0 := if_pos h

/-- the answer, where the law does not speak -/
theorem loadsGroup_ex (u v x : Value) (a b c : List Int) (hla : a.length ≤ 1000000000000000) (hlb : b.length ≤ 1000000000000000) (hlc : c.length ≤ 1000000000000000)
    (h : ¬ (a.length = b.length ∧ b.length = c.length ∧ withinB 1048576 a = true ∧ withinB 1048576 b = true ∧ withinB 1048576 c = true)) (w : World) (hu : Li w u a) (hv : Li w v b) (hx : Li w x c) :
    Calls Try.prog 6 #[u, v, x] w fun e w' => e = .returned (.bool true) ∧ Below w.heap.size w w' := by
  have H1 := Lib.hid (within_n 1048576 (by decide) (by decide) u a hla w hu)
  have H2 := Lib.hid (within_n 1048576 (by decide) (by decide) v b hlb w hv)
  have H3 := Lib.hid (within_n 1048576 (by decide) (by decide) x c hlc w hx)
  have H6 := Lib.hid examples_n
  obtain ⟨oa, ca, rfl, -⟩ := hu
  obtain ⟨ob, cb, rfl, -⟩ := hv
  obtain ⟨oc, cc, rfl, -⟩ := hx
  by_cases hab : a.length = b.length
  · have hne : ((a.length : Int) != (b.length : Int)) = false := by rw [hab]; simp
    by_cases hbc : b.length = c.length
    · have hne2 : ((b.length : Int) != (c.length : Int)) = false := by rw [hbc]; simp
      cases h1 : withinB 1048576 a
      · rw [h1] at H1
        generalize a.length = n at *
        generalize b.length = m at *
        generalize c.length = p at *
        clear h1 h hab hbc
        go_enter Try.func6, Try.ntmps6
        go_wp2_with fail
        refine H1.out.mono ?_
        rintro e w1 ⟨rfl, rfl⟩
        go_wp2_with fail
        refine (H6.out _).mono ?_
        rintro e w2 ⟨rfl, b2⟩
        go_wp2_with fail
        go_ret
        exact ⟨rfl, b2⟩
      · cases h2 : withinB 1048576 b
        · rw [h1] at H1
          rw [h2] at H2
          generalize a.length = n at *
          generalize b.length = m at *
          generalize c.length = p at *
          clear h1 h2 h hab hbc
          go_enter Try.func6, Try.ntmps6
          go_wp2_with fail
          refine H1.out.mono ?_
          rintro e w1 ⟨rfl, rfl⟩
          go_wp2_with fail
          refine H2.out.mono ?_
          rintro e w1 ⟨rfl, rfl⟩
          go_wp2_with fail
          refine (H6.out _).mono ?_
          rintro e w2 ⟨rfl, b2⟩
          go_wp2_with fail
          go_ret
          exact ⟨rfl, b2⟩
        · cases h3 : withinB 1048576 c
          · rw [h1] at H1
            rw [h2] at H2
            rw [h3] at H3
            generalize a.length = n at *
            generalize b.length = m at *
            generalize c.length = p at *
            clear h1 h2 h3 h hab hbc
            go_enter Try.func6, Try.ntmps6
            go_wp2_with fail
            refine H1.out.mono ?_
            rintro e w1 ⟨rfl, rfl⟩
            go_wp2_with fail
            refine H2.out.mono ?_
            rintro e w1 ⟨rfl, rfl⟩
            go_wp2_with fail
            refine H3.out.mono ?_
            rintro e w1 ⟨rfl, rfl⟩
            go_wp2_with fail
            refine (H6.out _).mono ?_
            rintro e w2 ⟨rfl, b2⟩
            go_wp2_with fail
            go_ret
            exact ⟨rfl, b2⟩
          · exact absurd ⟨hab, hbc, h1, h2, h3⟩ h
    · have hne2 := ne_neN hbc
      generalize a.length = n at *
      generalize b.length = m at *
      generalize c.length = p at *
      clear h hab hbc
      go_enter Try.func6, Try.ntmps6
      go_wp2_with fail
      refine (H6.out _).mono ?_
      rintro e w2 ⟨rfl, b2⟩
      go_wp2_with fail
      go_ret
      exact ⟨rfl, b2⟩
  · have hne := ne_neN hab
    generalize a.length = n at *
    generalize b.length = m at *
    generalize c.length = p at *
    clear h hab
    go_enter Try.func6, Try.ntmps6
    go_wp2_with fail
    refine (H6.out _).mono ?_
    rintro e w2 ⟨rfl, b2⟩
    go_wp2_with fail
    go_ret
    exact ⟨rfl, b2⟩

theorem Li.shape {w : World} {v : Value} {l : List Int} (h : Li w v l) : ∃ oa c, v = .slice oa l.length c := ⟨h.choose, h.choose_spec.choose, h.choose_spec.choose_spec.1⟩
set_option maxHeartbeats 1600000 in
theorem loadsGroup_walk (u v x : Value) (a b c : List Int) (hla : a.length * 8 ≤ 140737488355328) (hlb : b.length * 8 ≤ 140737488355328) (hlc : c.length ≤ 1000000000000000) (w : World) (hu : Li w u a) (hv : Li w v b) (hx : Li w x c) :
    Calls Try.prog 6 #[u, v, x] w fun e w' => e = .returned (.bool true) ∧ Below w.heap.size w w' := by
  by_cases h : a.length = b.length ∧ b.length = c.length ∧ withinB 1048576 a = true ∧ withinB 1048576 b = true ∧ withinB 1048576 c = true
  · obtain ⟨hab, hbc, h1, h2, h3⟩ := h
    have H1 := Lib.hid (within_n 1048576 (by decide) (by decide) u a (by omega) w hu)
    have H2 := Lib.hid (within_n 1048576 (by decide) (by decide) v b (by omega) w hv)
    have H3 := Lib.hid (within_n 1048576 (by decide) (by decide) x c hlc w hx)
    rw [h1] at H1
    rw [h2] at H2
    rw [h3] at H3
    have sa := Small.of (by decide) h1
    have sb := Small.of (by decide) h2
    have sc := Small.of (by decide) h3
    have sab := Small.zip (by decide) (by decide) sa sb hab
    have sbc := Small.zip (by decide) (by decide) sb sc hbc
    have lab : (zipL addF a b).length = a.length := zip_len addF rfl hab.symm
    have lba : (zipL addF b a).length = a.length := zip_len addF hab.symm rfl
    have lbc : (zipL addF b c).length = a.length := zip_len addF hab.symm (by omega)
    have K1 := Lib.hid (fun w1 (B : Below w.heap.size w w1) => loadAdd_n u v a b hla (sa.fitA sb (by decide)) w1 (hu.below B) (hv.below B))
    have K2 := Lib.hid (fun w1 (B : Below w.heap.size w w1) => loadAdd_n v u b a hlb (sb.fitA sa (by decide)) w1 (hv.below B) (hu.below B))
    have K3 := Lib.hid (fun w1 (B : Below w.heap.size w w1) => loadAdd_n v x b c hlb (sb.fitA sc (by decide)) w1 (hv.below B) (hx.below B))
    have K4 := Lib.hid (fun v1 w1 (V : Li w1 v1 (zipL addF a b)) (B : Below w.heap.size w w1) => loadAdd_n v1 x (zipL addF a b) c (by omega) (sab.fitA sc (by decide)) w1 V (hx.below B))
    have K5 := Lib.hid (fun v1 w1 (V : Li w1 v1 (zipL addF b c)) (B : Below w.heap.size w w1) => loadAdd_n u v1 a (zipL addF b c) hla (sa.fitA sbc (by decide)) w1 (hu.below B) V)
    have K6 := Lib.hid (fun v1 w1 (V : Li w1 v1 (zipL addF a b)) (B : Below w.heap.size w w1) => loadSub_n v1 v (zipL addF a b) b (by omega) (sab.fitS sb (by decide)) w1 V (hv.below B))
    rw [combL_eq addF hab, combE_eq hab] at K1
    rw [combL_eq addF hab.symm, combE_eq hab.symm, zip_comm (n := a.length) hab.symm rfl] at K2
    rw [combL_eq addF hbc, combE_eq hbc] at K3
    rw [combL_eq addF (by omega), combE_eq (by omega), zip_assoc (n := a.length) rfl hab.symm (by omega)] at K4
    rw [combL_eq addF (by omega), combE_eq (by omega)] at K5
    rw [combL_eq subF (by omega), combE_eq (by omega), zip_undo (n := a.length) rfl hab.symm] at K6
    have H6 := Lib.hid examples_n
    have lr : (zipL addF a (zipL addF b c)).length = a.length := zip_len addF rfl lbc
    have hne : ((a.length : Int) != (b.length : Int)) = false := by rw [hab]; simp
    have hne2 : ((b.length : Int) != (c.length : Int)) = false := by rw [hbc]; simp
    have HA := Lib.hid (fun w1 (B : Below w.heap.size w w1) => hu.below B)
    have S1 := Lib.hid (fun u v => same_n u v (zipL addF a b) (zipL addF a b) (by omega))
    have S2 := Lib.hid (fun u v => same_n u v (zipL addF a (zipL addF b c)) (zipL addF a (zipL addF b c)) (by omega))
    have S3 := Lib.hid (fun u v => same_n u v a a (by omega))
    rw [show decide (zipL addF a b = zipL addF a b) = true by simp] at S1
    rw [show decide (zipL addF a (zipL addF b c) = zipL addF a (zipL addF b c)) = true by simp] at S2
    rw [show decide (a = a) = true by simp] at S3
    obtain ⟨oa, ca, rfl⟩ := hu.shape
    obtain ⟨ob, cb, rfl⟩ := hv.shape
    obtain ⟨oc, cc, rfl⟩ := hx.shape
    generalize zipL addF a (zipL addF b c) = r2 at *
    generalize zipL addF b c = r3 at *
    generalize zipL addF a b = r1 at *
    clear h1 h2 h3 hu hv hx sa sb sc sab sbc lab lba lbc lr hla hlb hlc
    generalize a.length = n at *
    generalize b.length = m at *
    generalize c.length = p at *
    clear hab hbc
    go_enter Try.func6, Try.ntmps6
    go_wp2_with fail
    refine H1.out.mono ?_
    rintro e w1 ⟨rfl, rfl⟩
    go_wp2_with fail
    refine H2.out.mono ?_
    rintro e w1 ⟨rfl, rfl⟩
    go_wp2_with fail
    refine H3.out.mono ?_
    rintro e w1 ⟨rfl, rfl⟩
    go_wp2_with fail
    refine (K1.out _ (Below.refl _ _)).mono ?_
    rintro e w1 ⟨v1, rfl, hv1, b1⟩
    have B1 := Lib.hid b1
    have V1 := Lib.hid hv1.li
    clear hv1 b1
    go_wp2_with fail
    refine (K2.out _ B1.out).mono ?_
    rintro e w2 ⟨v2, rfl, hv2, b2⟩
    have B2 := Lib.hid (over B1.out b2)
    have V2 := Lib.hid hv2.li
    have V1 := Lib.hid (V1.out.below b2)
    clear hv2 b2 B1
    go_wp2_with fail
    refine (K3.out _ B2.out).mono ?_
    rintro e w3 ⟨v3, rfl, hv3, b3⟩
    have B3 := Lib.hid (over B2.out b3)
    have V3 := Lib.hid hv3.li
    have V1 := Lib.hid (V1.out.below b3)
    have V2 := Lib.hid (V2.out.below b3)
    clear hv3 b3 B2
    go_wp2_with fail
    refine (K4.out _ _ V1.out B3.out).mono ?_
    rintro e w4 ⟨v4, rfl, hv4, b4⟩
    have B4 := Lib.hid (over B3.out b4)
    have V4 := Lib.hid hv4.li
    have V1 := Lib.hid (V1.out.below b4)
    have V2 := Lib.hid (V2.out.below b4)
    have V3 := Lib.hid (V3.out.below b4)
    clear hv4 b4 B3
    go_wp2_with fail
    refine (K5.out _ _ V3.out B4.out).mono ?_
    rintro e w5 ⟨v5, rfl, hv5, b5⟩
    have B5 := Lib.hid (over B4.out b5)
    have V5 := Lib.hid hv5.li
    have V1 := Lib.hid (V1.out.below b5)
    have V2 := Lib.hid (V2.out.below b5)
    have V4 := Lib.hid (V4.out.below b5)
    clear hv5 b5 B4
    go_wp2_with fail
    refine (K6.out _ _ V1.out B5.out).mono ?_
    rintro e w6 ⟨v6, rfl, hv6, b6⟩
    have B6 := Lib.hid (over B5.out b6)
    have V6 := Lib.hid hv6.li
    have V1 := Lib.hid (V1.out.below b6)
    have V2 := Lib.hid (V2.out.below b6)
    have V4 := Lib.hid (V4.out.below b6)
    have V5 := Lib.hid (V5.out.below b6)
    clear hv6 b6 B5
    go_wp2_with fail
    refine (S1.out _ _ _ V1.out V2.out).mono ?_
    rintro e w9 ⟨rfl, b9⟩
    have B9 := Lib.hid (over B6.out b9)
    have V4 := Lib.hid (V4.out.below b9)
    have V5 := Lib.hid (V5.out.below b9)
    have V6 := Lib.hid (V6.out.below b9)
    clear b9 B6
    go_wp2_with fail
    refine (S2.out _ _ _ V4.out V5.out).mono ?_
    rintro e w10 ⟨rfl, b10⟩
    have B10 := Lib.hid (over B9.out b10)
    have V6 := Lib.hid (V6.out.below b10)
    clear b10 B9
    go_wp2_with fail
    refine (S3.out _ _ _ V6.out (HA.out _ B10.out)).mono ?_
    rintro e w11 ⟨rfl, b11⟩
    have B11 := Lib.hid (over B10.out b11)
    clear b11 B10
    go_wp2_with fail
    refine (H6.out _).mono ?_
    rintro e w13 ⟨rfl, b13⟩
    have B13 := Lib.hid (over B11.out b13)
    clear b13 B11
    go_wp2_with fail
    go_ret
    exact ⟨rfl, B13.out⟩
  · exact loadsGroup_ex u v x a b c (by omega) (by omega) hlc h w hu hv hx

end Go.Proofs.Ytcnagcdgpgijaaa.L
