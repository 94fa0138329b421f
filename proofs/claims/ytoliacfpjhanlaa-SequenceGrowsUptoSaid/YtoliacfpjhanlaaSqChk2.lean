/-
  DERIVED. The program's check of a route's visits is the specification's: pairs, orders apart, orders before others.
-/
import Derived.Test.YtoliacfpjhanlaaSqChk
namespace Go.Proofs.Ytoliacfpjhanlaa.T
open Go.RowKit
set_option maxRecDepth 8000

theorem turn_two (T : List Nat) (a b : Int × Bool) (m : Nat) : inTurnB T [a, b] m = (decide (m < posT T a) && decide (posT T a < posT T b)) := by
  show (decide _ && (decide _ && true)) = _
  rw [Bool.and_true]
theorem turn_one (T : List Nat) (a : Int × Bool) (m : Nat) : inTurnB T [a] m = decide (m < posT T a) := by
  show (decide _ && true) = _
  rw [Bool.and_true]
section
variable {ol : List OrT} {l : List (Int × Bool)} {T : List Nat}
/-- the visits of one order are in turn -/
theorem turn_con (hT : ∀ v : Int × Bool, 0 ≤ v.1 ∧ v.1 < ol.length → ((posT T v : Nat) : Int) = idxV l v + 1) (ok : Okv ol) {k : Nat} (hk : k < ol.length) :
    inTurnB T (visR ol k) 0 = (conV l (visR ol k) && !(decide ((visR ol k).length = 2) && decide (idxV l ((visR ol k).getD 0 (0, false)) > idxV l ((visR ol k).getD 1 (0, false))))) := by
  have ha := hT ((k : Int), false) ⟨by simp, by simpa using hk⟩
  have hb := hT ((k : Int), true) ⟨by simp, by simpa using hk⟩
  have ma := idxV_mem (l := l) (x := ((k : Int), false))
  have mb := idxV_mem (l := l) (x := ((k : Int), true))
  rcases visR_form ok hk with e | e | e
  · rw [e, turn_two]
    have hne : 0 ≤ idxV l ((k : Int), false) → 0 ≤ idxV l ((k : Int), true) → idxV l ((k : Int), false) ≠ idxV l ((k : Int), true) := fun h1 h2 h3 => by
      have := idxV_inj (ma.2 h1) (mb.2 h2) h3
      simp at this
    unfold conV
    rw [Bool.eq_iff_iff]
    simp only [List.all_cons, List.all_nil, Bool.and_true, Bool.and_eq_true, decide_eq_true_eq, Bool.not_eq_true', Bool.and_eq_false_iff, decide_eq_false_iff_not, List.length_cons, List.length_nil, ma, mb]
    show _ ↔ (_ ∧ (¬ True ∨ ¬ idxV l ((k : Int), false) > idxV l ((k : Int), true)))
    constructor
    · rintro ⟨h1, h2⟩
      exact ⟨⟨by omega, by omega⟩, .inr (by omega)⟩
    · rintro ⟨⟨h1, h2⟩, h3 | h3⟩
      · exact absurd trivial h3
      · have := hne h1 h2
        omega
  · rw [e, turn_one]
    unfold conV
    rw [Bool.eq_iff_iff]
    simp only [List.all_cons, List.all_nil, Bool.and_true, Bool.and_eq_true, decide_eq_true_eq, Bool.not_eq_true', Bool.and_eq_false_iff, decide_eq_false_iff_not, List.length_cons, List.length_nil, ma]
    constructor
    · intro h; exact ⟨by omega, .inl (by omega)⟩
    · rintro ⟨h, -⟩; omega
  · rw [e, turn_one]
    unfold conV
    rw [Bool.eq_iff_iff]
    simp only [List.all_cons, List.all_nil, Bool.and_true, Bool.and_eq_true, decide_eq_true_eq, Bool.not_eq_true', Bool.and_eq_false_iff, decide_eq_false_iff_not, List.length_cons, List.length_nil, mb]
    constructor
    · intro h; exact ⟨by omega, .inl (by omega)⟩
    · rintro ⟨h, -⟩; omega
theorem ex_mem (hex : Ex ol.length l) {v : Int × Bool} (hv : v ∈ l) : ∃ k, k < ol.length ∧ v.1 = (k : Int) := by
  obtain ⟨i, hi, -, e⟩ := idxV_get hv
  have h := hex i hi
  rw [e] at h
  exact ⟨v.1.toNat, by omega, by omega⟩
theorem pairdB_is (hT : ∀ v : Int × Bool, 0 ≤ v.1 ∧ v.1 < ol.length → ((posT T v : Nat) : Int) = idxV l v + 1) (ok : Okv ol) (hex : Ex ol.length l) : pairdB ol T l = prdB ol l := by
  unfold pairdB prdB
  rw [Bool.eq_iff_iff, List.all_eq_true, List.all_eq_true]
  have key : ∀ v ∈ l, (decide (v ∈ visL ol v.1) && inTurnB T (visL ol v.1) 0) = prdP ol l v := fun v hv => by
    obtain ⟨k, hk, e⟩ := ex_mem hex hv
    unfold prdP
    rw [e, visL_is ok hk, Int.toNat_natCast, turn_con hT ok hk, ← Bool.and_assoc]
    have : decide (v ∈ visR ol k) = !decide (idxV (visR ol k) v < 0) := by
      rw [Bool.eq_iff_iff, decide_eq_true_iff, Bool.not_eq_true', decide_eq_false_iff_not, idxV_mem]
      omega
    rw [this]
  constructor
  · intro h v hv
    rw [← key v hv]
    exact h v hv
  · intro h v hv
    rw [key v hv]
    exact h v hv
/-- the order is there -/
theorem hasT_is (hT : ∀ v : Int × Bool, 0 ≤ v.1 ∧ v.1 < ol.length → ((posT T v : Nat) : Int) = idxV l v + 1) {k : Nat} (hk : k < ol.length) : hasT T k = true ↔ ∃ d, ((k : Int), d) ∈ l := by
  have ha := hT ((k : Int), false) ⟨by simp, by simpa using hk⟩
  have hb := hT ((k : Int), true) ⟨by simp, by simpa using hk⟩
  have ea : posT T ((k : Int), false) = T.getD (k * 2) 0 := by unfold posT pOff; simp
  have eb : posT T ((k : Int), true) = T.getD (k * 2 + 1) 0 := by unfold posT pOff; simp
  unfold hasT
  rw [← ea, ← eb, Bool.or_eq_true, decide_eq_true_iff, decide_eq_true_iff]
  constructor
  · rintro (h | h)
    · exact ⟨false, idxV_mem.2 (by omega)⟩
    · exact ⟨true, idxV_mem.2 (by omega)⟩
  · rintro ⟨d, h⟩
    have h2 := idxV_mem.1 h
    cases d
    · exact .inl (by omega)
    · exact .inr (by omega)
theorem has_ordK {l : List (Int × Bool)} (k : Nat) : ∀ j, j ≤ l.length → (S.has (ordK l j) k = true ↔ ∃ i, i < j ∧ (l.getD i (0, false)).1.toNat = k)
  | 0, _ => by
    have : ordK l 0 = 0 := rfl
    rw [this, U.has_zero]
    constructor
    · intro h; cases h
    · rintro ⟨i, h, -⟩; omega
  | j + 1, hj => by
    have ih := has_ordK (l := l) k j (by omega)
    rw [ordK_more (by omega), U.has_or, Bool.or_eq_true, ih, U.has_pow, decide_eq_true_iff]
    constructor
    · rintro (⟨i, h1, h2⟩ | h)
      · exact ⟨i, by omega, h2⟩
      · exact ⟨j, by omega, h.symm⟩
    · rintro ⟨i, h1, h2⟩
      rcases Nat.lt_succ_iff_lt_or_eq.1 h1 with h3 | h3
      · exact .inl ⟨i, h3, h2⟩
      · subst h3
        exact .inr h2.symm
theorem ordB_ex (hn : ol.length ≤ 10) (hex : Ex ol.length l) : ordB l = true := ordB_all fun i hi => by
  have h := hex i hi
  unfold num62
  rw [decide_eq_true (by omega), decide_eq_true (by omega)]
  rfl
theorem hasR_ord (hn : ol.length ≤ 10) (hex : Ex ol.length l) {k : Nat} (hk : k < ol.length) : hasR (ordN l) (k : Int) = true ↔ ∃ d, ((k : Int), d) ∈ l := by
  have hb := ordB_ex hn hex
  unfold hasR ordN
  rw [hb, if_pos rfl, decide_eq_true (by omega), Bool.true_and, Int.toNat_natCast, ← has_def]
  have h62 : num62 (k : Int) = true := by unfold num62; rw [decide_eq_true (by omega), decide_eq_true (by omega)]; rfl
  rw [h62, Bool.true_and, has_ordK k l.length (Nat.le_refl _)]
  constructor
  · rintro ⟨i, hi, h⟩
    have h2 := hex i hi
    have hm : l.getD i (0, false) ∈ l := getD_mem hi
    refine ⟨(l.getD i (0, false)).2, ?_⟩
    have e : ((k : Int), (l.getD i (0, false)).2) = l.getD i (0, false) := Prod.ext (by simp only; omega) rfl
    rw [e]
    exact hm
  · rintro ⟨d, h⟩
    obtain ⟨i, hi, -, e⟩ := idxV_get h
    exact ⟨i, hi, by rw [e]; simp⟩
theorem hasT_hasR (hT : ∀ v : Int × Bool, 0 ≤ v.1 ∧ v.1 < ol.length → ((posT T v : Nat) : Int) = idxV l v + 1) (hn : ol.length ≤ 10) (hex : Ex ol.length l) {k : Nat} (hk : k < ol.length) : hasT T k = hasR (ordN l) (k : Int) := by
  rw [Bool.eq_iff_iff, hasT_is hT hk, hasR_ord hn hex hk]
theorem pairB_is (hT : ∀ v : Int × Bool, 0 ≤ v.1 ∧ v.1 < ol.length → ((posT T v : Nat) : Int) = idxV l v + 1) (hn : ol.length ≤ 10) (hex : Ex ol.length l) {ap : List (Int × Int)} (hra : U.Rt ol.length ap) : pairB T ap = !aptB (ordN l) ap := by
  unfold pairB aptB
  rw [List.not_all_eq_any_not]
  have key : ∀ p ∈ ap, (hasT T (U.pa p) && hasT T (U.pb p)) = !aptP (ordN l) p := fun p hp => by
    have h := hra.a hp
    unfold aptP
    rw [hasT_hasR hT hn hex h.1, hasT_hasR hT hn hex h.2.1, Bool.not_not]
  rw [Bool.eq_iff_iff, List.any_eq_true, List.any_eq_true]
  constructor
  · rintro ⟨p, hp, h⟩
    exact ⟨p, hp, by rw [← key p hp]; exact h⟩
  · rintro ⟨p, hp, h⟩
    exact ⟨p, hp, by rw [key p hp]; exact h⟩
end
end Go.Proofs.Ytoliacfpjhanlaa.T

