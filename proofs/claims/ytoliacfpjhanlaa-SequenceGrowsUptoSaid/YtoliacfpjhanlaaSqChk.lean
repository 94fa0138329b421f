/-
  DERIVED. The program's check of a route's visits is the specification's.
-/
import Derived.Test.YtoliacfpjhanlaaUe
namespace Go.Proofs.Ytoliacfpjhanlaa.T
open Go.RowKit
set_option maxRecDepth 8000

/-! ### indices -/
theorem idxV_ge (l : List (Int × Bool)) (x : Int × Bool) : -1 ≤ idxV l x := by
  unfold idxV
  split <;> omega
theorem idxV_mem {l : List (Int × Bool)} {x : Int × Bool} : x ∈ l ↔ 0 ≤ idxV l x := by
  have h := idxV_lt (l := l) (x := x)
  constructor
  · intro hm
    exact Int.not_lt.1 fun h9 => h.1 h9 hm
  · intro h0
    exact Decidable.of_not_not fun h9 => absurd (h.2 h9) (by omega)
theorem idxV_nil (x : Int × Bool) : idxV [] x = -1 := rfl
theorem idxV_snoc {a : List (Int × Bool)} {x : Int × Bool} (h : x ∉ a) : idxV (a ++ [x]) x = a.length := by
  unfold idxV
  rw [if_pos (by simp), List.idxOf_append, if_neg h]
  simp
theorem idxV_snoc_ne {a : List (Int × Bool)} {x v : Int × Bool} (h : v ≠ x) : idxV (a ++ [x]) v = idxV a v := by
  unfold idxV
  by_cases hv : v ∈ a
  · rw [if_pos (List.mem_append_left _ hv), if_pos hv, List.idxOf_append, if_pos hv]
  · rw [if_neg (by simp [hv, h]), if_neg hv]
theorem idxV_at {l : List (Int × Bool)} {i : Nat} (hi : i < l.length) (hn : l.getD i (0, false) ∉ l.take i) : idxV l (l.getD i (0, false)) = (i : Int) :=
  idxV_yes hi (by rw [isV_any]; exact decide_eq_false hn) (by unfold isV; simp)
theorem idxV_first {l : List (Int × Bool)} {i : Nat} (h : idxV l (l.getD i (0, false)) = (i : Int)) : l.getD i (0, false) ∉ l.take i := fun hm => by
  have h1 : l.getD i (0, false) ∈ l := List.mem_of_mem_take hm
  unfold idxV at h
  rw [if_pos h1] at h
  have h2 : l.idxOf (l.getD i (0, false)) = (l.take i).idxOf (l.getD i (0, false)) := by
    have h3 : l = l.take i ++ l.drop i := (List.take_append_drop i l).symm
    conv => lhs; rw [h3]
    rw [List.idxOf_append]
    rw [← h3, if_pos hm]
  have h4 : (l.take i).idxOf (l.getD i (0, false)) < (l.take i).length := List.idxOf_lt_length_of_mem hm
  have h5 : (l.take i).length ≤ i := by rw [List.length_take]; omega
  omega
theorem idxV_get {l : List (Int × Bool)} {x : Int × Bool} (h : x ∈ l) : ∃ i, i < l.length ∧ idxV l x = (i : Int) ∧ l.getD i (0, false) = x := by
  have h1 := List.idxOf_lt_length_of_mem h
  refine ⟨l.idxOf x, h1, by unfold idxV; rw [if_pos h], ?_⟩
  rw [List.getD_eq_getElem?_getD, List.getElem?_eq_getElem h1]
  exact List.getElem_idxOf h1
theorem idxV_inj {l : List (Int × Bool)} {x y : Int × Bool} (hx : x ∈ l) (hy : y ∈ l) (h : idxV l x = idxV l y) : x = y := by
  obtain ⟨i, -, h1, h2⟩ := idxV_get hx
  obtain ⟨j, -, h3, h4⟩ := idxV_get hy
  have : i = j := by omega
  subst this
  exact h2.symm.trans h4

/-! ### positions -/
theorem pOff_inj {v x : Int × Bool} (hv : 0 ≤ v.1) (hx : 0 ≤ x.1) (h : pOff v = pOff x) : v = x := by
  obtain ⟨a, b⟩ := v
  obtain ⟨c, d⟩ := x
  unfold pOff at h
  simp only at h hv hx
  cases b <;> cases d <;> simp at h <;> (first | (have : a = c := by omega); subst this; rfl | omega)
theorem posT_idx {n : Nat} {l : List (Int × Bool)} (hex : Ex n l) : ∀ j, j ≤ l.length → Once n l j → ∀ v : Int × Bool, 0 ≤ v.1 ∧ v.1 < n → ((posT (trK n l j) v : Nat) : Int) = idxV (l.take j) v + 1
  | 0, _, _, v, _ => by
    have : posT (trK n l 0) v = 0 := by
      unfold posT trK
      rw [List.getD_eq_getElem?_getD, List.getElem?_replicate]
      split <;> rfl
    rw [this]
    rfl
  | j + 1, hj, hO, v, hv => by
    have ih := posT_idx hex j (by omega) (fun i hi => hO i (by omega))
    have hx := hO j (by omega)
    have hxr := hex j (by omega)
    have hi := ih _ hxr
    rw [hx] at hi
    have hxn : l.getD j (0, false) ∉ l.take j := idxV_lt.1 (by omega)
    rw [take_more (d := (0, false)) (by omega)]
    have hlen : (l.take j).length = j := by rw [List.length_take]; omega
    have hT : ∀ u : Int × Bool, posT (trK n l (j + 1)) u = ((trK n l j).set (pOff (l.getD j (0, false))) (j + 1)).getD (pOff u) 0 := fun _ => rfl
    by_cases e : v = l.getD j (0, false)
    · rw [e, idxV_snoc hxn, hlen, hT, List.getD_eq_getElem?_getD, List.getElem?_set, if_pos rfl, if_pos (by rw [trK_len]; exact pOff_lt hxr)]
      simp
    · rw [idxV_snoc_ne e, ← ih v hv, hT, List.getD_eq_getElem?_getD, List.getElem?_set, if_neg (fun h9 => e (pOff_inj hv.1 hxr.1 h9.symm))]
      rfl
theorem once_iff {n : Nat} {l : List (Int × Bool)} (hex : Ex n l) : Once n l l.length ↔ ∀ i, i < l.length → idxV l (l.getD i (0, false)) = (i : Int) := by
  constructor
  · intro h i hi
    have h1 := posT_idx hex i (by omega) (fun k hk => h k (by omega)) _ (hex i hi)
    rw [h i hi] at h1
    exact idxV_at hi (idxV_lt.1 (by omega))
  · intro h
    have key : ∀ j, j ≤ l.length → Once n l j := by
      intro j
      induction j with
      | zero => intro _ i hi; omega
      | succ j ih =>
        intro hj i hi
        have h1 := ih (by omega)
        rcases Nat.lt_succ_iff_lt_or_eq.1 hi with h2 | h2
        · exact h1 i h2
        · subst h2
          have h3 := posT_idx hex i (by omega) h1 _ (hex i (by omega))
          have h4 := idxV_lt.2 (idxV_first (h i (by omega)))
          have h5 := idxV_ge (l.take i) (l.getD i (0, false))
          omega
    exact key _ (Nat.le_refl _)
theorem posT_all {n : Nat} {l : List (Int × Bool)} (hex : Ex n l) (hO : Once n l l.length) {v : Int × Bool} (hv : 0 ≤ v.1 ∧ v.1 < n) : ((posT (trK n l l.length) v : Nat) : Int) = idxV l v + 1 := by
  have h := posT_idx hex l.length (Nat.le_refl _) hO v hv
  rwa [List.take_length] at h

/-! ### the visits of orders -/
structure Okv (ol : List OrT) : Prop where
  pp : ∀ k, k < ol.length → -1 ≤ (ol.getD k or0).pp
  dp : ∀ k, k < ol.length → -1 ≤ (ol.getD k or0).dp
  ne : ∀ k, k < ol.length → ¬ ((ol.getD k or0).pp = -1 ∧ (ol.getD k or0).dp = -1)
theorem visL_is {ol : List OrT} (ok : Okv ol) {k : Nat} (hk : k < ol.length) : visL ol (k : Int) = visR ol k := by
  have h1 := ok.pp k hk
  have h2 := ok.dp k hk
  unfold visL visR visO inR
  rw [decide_eq_true (by omega), decide_eq_true (by omega), Bool.and_self, if_pos rfl, Int.toNat_natCast]
  by_cases h3 : (ol.getD k or0).pp = -1
  · rw [if_pos h3, if_neg (by omega)]
    by_cases h4 : (ol.getD k or0).dp = -1
    · rw [if_pos h4, if_neg (by omega)]
    · rw [if_neg h4, if_pos (by omega)]
  · rw [if_neg h3, if_pos (by omega)]
    by_cases h4 : (ol.getD k or0).dp = -1
    · rw [if_pos h4, if_neg (by omega)]
    · rw [if_neg h4, if_pos (by omega)]
theorem visR_form {ol : List OrT} (ok : Okv ol) {k : Nat} (hk : k < ol.length) : visR ol k = [((k : Int), false), ((k : Int), true)] ∨ visR ol k = [((k : Int), false)] ∨ visR ol k = [((k : Int), true)] := by
  have h1 := ok.ne k hk
  unfold visR
  by_cases h3 : (ol.getD k or0).pp = -1
  · rw [if_pos h3, if_neg (fun h4 => h1 ⟨h3, h4⟩)]
    exact .inr (.inr rfl)
  · rw [if_neg h3]
    split
    · exact .inr (.inl rfl)
    · exact .inl rfl
end Go.Proofs.Ytoliacfpjhanlaa.T

