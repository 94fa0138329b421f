/-
  DERIVED. Plain Lean: pairs of orders, chains, the sets that follow.
-/
import Derived.Test.YtmoilpkgoabopaaDoorSetPure
namespace Go.Proofs.YtmoilpkgoabopaaDoor.U

theorem has_bit (n i : Nat) : S.has n i = n.testBit i := by
  unfold S.has
  rw [Nat.testBit_eq_decide_div_mod_eq, Bool.eq_iff_iff]
  simp
theorem has_zero (i : Nat) : S.has 0 i = false := by rw [has_bit, Nat.zero_testBit]
theorem has_ext {a b : Nat} (h : ∀ i, S.has a i = S.has b i) : a = b := Nat.eq_of_testBit_eq fun i => by rw [← has_bit, ← has_bit]; exact h i
theorem has_add {s j : Nat} (h : S.has s j = false) (i : Nat) : S.has (s + 2 ^ j) i = (S.has s i || decide (i = j)) := by
  have e : s + 2 ^ j = s ||| 2 ^ j := by
    rw [has_bit] at h
    have h0 : 2 ^ j &&& s = 0 := Nat.eq_of_testBit_eq fun k => by
      rw [Nat.testBit_and, Nat.testBit_two_pow, Nat.zero_testBit]
      by_cases e : j = k
      · subst e; rw [h, Bool.and_false]
      · rw [decide_eq_false e, Bool.false_and]
    have := Nat.two_pow_add_eq_or_of_lt (i := j) (b := s % 2 ^ j) (Nat.mod_lt _ (Nat.pow_pos (by omega))) (s / 2 ^ j + 1)
    have h1 := Nat.div_add_mod s (2 ^ j)
    have h3 : s / 2 ^ j % 2 = 0 := by
      rw [Nat.testBit_eq_decide_div_mod_eq] at h
      have : ¬ s / 2 ^ j % 2 = 1 := by simpa using h
      omega
    refine Nat.eq_of_testBit_eq fun k => ?_
    rw [Nat.testBit_or, Nat.testBit_two_pow]
    rw [show s + 2 ^ j = 2 ^ j * (s / 2 ^ j + 1) + s % 2 ^ j by rw [Nat.mul_add, Nat.mul_one]; omega, this, Nat.testBit_or, Nat.testBit_mod_two_pow, Nat.testBit_two_pow_mul]
    by_cases hk : k < j
    · rw [decide_eq_true hk, decide_eq_false (show ¬ k ≥ j by omega), decide_eq_false (show ¬ j = k by omega)]
      simp
    · rw [decide_eq_false hk, decide_eq_true (show k ≥ j by omega)]
      rw [Nat.testBit_eq_decide_div_mod_eq, Nat.testBit_eq_decide_div_mod_eq]
      by_cases e : k = j
      · subst e
        simp
        omega
      · obtain ⟨d, rfl⟩ : ∃ d, k = j + (d + 1) := ⟨k - j - 1, by omega⟩
        have e1 : s / 2 ^ (j + (d + 1)) = s / 2 ^ j / 2 / 2 ^ d := by rw [Nat.pow_add, ← Nat.div_div_eq_div_mul, Nat.pow_succ', ← Nat.div_div_eq_div_mul]
        have e2 : (s / 2 ^ j + 1) / 2 ^ (d + 1) = s / 2 ^ j / 2 / 2 ^ d := by rw [Nat.pow_succ', ← Nat.div_div_eq_div_mul, show (s / 2 ^ j + 1) / 2 = s / 2 ^ j / 2 by omega]
        rw [show j + (d + 1) - j = d + 1 by omega, decide_eq_false (show ¬ j = j + (d + 1) by omega), e1, e2]
        simp
  rw [e, has_bit, Nat.testBit_or, Nat.testBit_two_pow, ← has_bit]
  congr 1
  rw [decide_eq_decide]
  exact eq_comm
theorem has_lt {s n : Nat} (h : ∀ i, S.has s i = true → i < n) : s < 2 ^ n := by
  apply Nat.lt_pow_two_of_testBit
  intro i hi
  cases hb : s.testBit i
  · rfl
  · have := h i (by rw [has_bit]; exact hb)
    omega
theorem lt_has {s n i : Nat} (h : s < 2 ^ n) (hi : S.has s i = true) : i < n := by
  apply Decidable.byContradiction
  intro hc
  rw [has_bit, Nat.testBit_lt_two_pow (Nat.lt_of_lt_of_le h (Nat.pow_le_pow_right (by omega) (by omega)))] at hi
  cases hi

/-! ### chains -/
def pa (p : Int × Int) : Nat := p.1.toNat
def pb (p : Int × Int) : Nat := p.2.toNat
/-- a pair is right -/
def rtB (n : Int) (p : Int × Int) : Bool := decide (0 ≤ p.1) && decide (p.1 < n) && decide (0 ≤ p.2) && decide (p.2 < n) && decide (p.1 ≠ p.2)
def Rt (n : Nat) (l : List (Int × Int)) : Prop := ∀ p ∈ l, 0 ≤ p.1 ∧ p.1 < n ∧ 0 ≤ p.2 ∧ p.2 < n ∧ p.1 ≠ p.2
theorem Rt.a {n : Nat} {l : List (Int × Int)} (h : Rt n l) {p : Int × Int} (hp : p ∈ l) : pa p < n ∧ pb p < n ∧ pa p ≠ pb p ∧ p = ((pa p : Int), (pb p : Int)) := by
  obtain ⟨h1, h2, h3, h4, h5⟩ := h p hp
  unfold pa pb
  refine ⟨by omega, by omega, by omega, ?_⟩
  obtain ⟨x, y⟩ := p
  simp only at h1 h3 ⊢
  rw [Int.toNat_of_nonneg h1, Int.toNat_of_nonneg h3]
/-- there is a chain -/
inductive Ch (l : List (Int × Int)) (a : Nat) : Nat → Prop
  | one {p : Int × Int} : p ∈ l → pa p = a → Ch l a (pb p)
  | more {p : Int × Int} : Ch l a (pa p) → p ∈ l → Ch l a (pb p)
theorem Ch.trans {l : List (Int × Int)} {a b c : Nat} (h : Ch l a b) (h2 : Ch l b c) : Ch l a c := by
  induction h2 with
  | one hp e => subst e; exact h.more hp
  | more _ hp ih => exact ih.more hp
theorem Ch.lt {n : Nat} {l : List (Int × Int)} (hr : Rt n l) {a b : Nat} (h : Ch l a b) : a < n ∧ b < n := by
  induction h with
  | one hp e => subst e; exact ⟨(hr.a hp).1, (hr.a hp).2.1⟩
  | more _ hp ih => exact ⟨ih.1, (hr.a hp).2.1⟩
/-- a set that has with the end of each pair its beginning has all that a member needs -/
theorem Ch.back {l : List (Int × Int)} {s : Nat} (hc : ∀ p ∈ l, S.has s (pb p) = true → S.has s (pa p) = true) {a b : Nat} (h : Ch l a b) (hb : S.has s b = true) : S.has s a = true := by
  induction h with
  | one hp e => subst e; exact hc _ hp hb
  | more _ hp ih => exact ih (hc _ hp hb)

/-! ### what a chain leads to -/
def stepR (f s : Nat) (p : Int × Int) : Nat := if (decide (pa p = f) || S.has s (pa p)) && !S.has s (pb p) then s + 2 ^ pb p else s
def roundR (f : Nat) (l : List (Int × Int)) (s : Nat) : Nat := l.foldl (stepR f) s
def reachK (f : Nat) (l : List (Int × Int)) : Nat → Nat
  | 0 => 0
  | k + 1 => roundR f l (reachK f l k)
def reach (n : Nat) (l : List (Int × Int)) (f : Nat) : Nat := reachK f l (n + 1)
theorem step_has (f s : Nat) (p : Int × Int) (i : Nat) : S.has (stepR f s p) i = (S.has s i || ((decide (pa p = f) || S.has s (pa p)) && decide (i = pb p))) := by
  unfold stepR
  cases h : S.has s (pb p)
  · cases h2 : (decide (pa p = f) || S.has s (pa p))
    · simp
    · rw [if_pos (by rfl), has_add h, Bool.true_and]
  · rw [if_neg (by simp)]
    by_cases e : i = pb p
    · subst e; rw [h]; rfl
    · rw [decide_eq_false e, Bool.and_false, Bool.or_false]
theorem step_mono (f s : Nat) (p : Int × Int) {i : Nat} (h : S.has s i = true) : S.has (stepR f s p) i = true := by rw [step_has, h]; rfl
theorem step_le (f s : Nat) (p : Int × Int) : s ≤ stepR f s p := by
  unfold stepR
  split
  · exact Nat.le_add_right _ _
  · exact Nat.le_refl _
theorem round_mono (f : Nat) (l : List (Int × Int)) : ∀ (s : Nat) {i : Nat}, S.has s i = true → S.has (roundR f l s) i = true := by
  induction l with
  | nil => intro s i h; exact h
  | cons p l ih => intro s i h; exact ih (stepR f s p) (step_mono f s p h)
theorem round_le (f : Nat) (l : List (Int × Int)) : ∀ s, s ≤ roundR f l s := by
  induction l with
  | nil => intro s; exact Nat.le_refl _
  | cons p l ih => intro s; exact Nat.le_trans (step_le f s p) (ih _)
/-- a round that changes nothing: the set is closed -/
theorem round_fix (f : Nat) (l : List (Int × Int)) : ∀ s, roundR f l s = s → ∀ p ∈ l, (pa p = f ∨ S.has s (pa p) = true) → S.has s (pb p) = true := by
  induction l with
  | nil => intro s _ p hp; cases hp
  | cons q l ih =>
    intro s h p hp hc
    have h1 := step_le f s q
    have h2 := round_le f l (stepR f s q)
    have h3 : roundR f l (stepR f s q) = s := h
    have h4 : stepR f s q = s := by omega
    rcases List.mem_cons.1 hp with rfl | hp
    · have h5 := step_has f s p (pb p)
      rw [h4] at h5
      rw [h5]
      rcases hc with hc | hc
      · rw [decide_eq_true hc]; simp
      · rw [hc]; simp
    · rw [h4] at h3
      exact ih s h3 p hp hc
theorem round_sound (f : Nat) (l0 : List (Int × Int)) : ∀ (l : List (Int × Int)), (∀ p ∈ l, p ∈ l0) → ∀ s, (∀ i, S.has s i = true → Ch l0 f i) → ∀ i, S.has (roundR f l s) i = true → Ch l0 f i := by
  intro l
  induction l with
  | nil => intro _ s h i hi; exact h i hi
  | cons p l ih =>
    intro hl s h
    refine ih (fun q hq => hl q (List.mem_cons_of_mem _ hq)) (stepR f s p) fun i hi => ?_
    rw [step_has, Bool.or_eq_true, Bool.and_eq_true, Bool.or_eq_true, decide_eq_true_iff, decide_eq_true_iff] at hi
    rcases hi with hi | ⟨hi, rfl⟩
    · exact h i hi
    · have hp := hl p (List.mem_cons_self ..)
      rcases hi with hi | hi
      · exact Ch.one hp hi
      · exact (h _ hi).more hp
theorem reach_sound {l : List (Int × Int)} (f : Nat) : ∀ k i, S.has (reachK f l k) i = true → Ch l f i
  | 0, i, h => by rw [reachK, has_zero] at h; cases h
  | k + 1, i, h => round_sound f l l (fun _ h => h) _ (reach_sound f k) i h
theorem filter_lt {α : Type} (p q : α → Bool) (l : List α) (hpq : ∀ x, p x = true → q x = true) {x : α} (hx : x ∈ l) (h1 : q x = true) (h2 : p x = false) : (l.filter p).length < (l.filter q).length := by
  have hle : ∀ l : List α, (l.filter p).length ≤ (l.filter q).length := by
    intro l
    induction l with
    | nil => exact Nat.le_refl _
    | cons y l ih =>
      rw [List.filter_cons, List.filter_cons]
      cases hp : p y
      · cases hq : q y
        · simpa using ih
        · simp; omega
      · rw [hpq y hp]; simp; exact ih
  induction l with
  | nil => cases hx
  | cons y l ih =>
    rw [List.filter_cons, List.filter_cons]
    rcases List.mem_cons.1 hx with rfl | hx
    · rw [h1, h2]; simp; have := hle l; omega
    · have := ih hx
      cases hp : p y
      · cases hq : q y
        · simpa using this
        · simp; omega
      · rw [hpq y hp]; simp; exact this
theorem reach_stops {n : Nat} {l : List (Int × Int)} (hr : Rt n l) (f : Nat) : ∃ k, k ≤ n ∧ reachK f l (k + 1) = reachK f l k := by
  apply Classical.byContradiction
  intro hc
  have hne : ∀ k, k ≤ n → reachK f l (k + 1) ≠ reachK f l k := fun k hk e => hc ⟨k, hk, e⟩
  have hlen : ∀ k, k ≤ n + 1 → k ≤ (S.mem (reachK f l k) n).length := by
    intro k
    induction k with
    | zero => intro _; exact Nat.zero_le _
    | succ k ih =>
      intro hk
      have h1 := ih (by omega)
      have h2 := hne k (by omega)
      have hsub : ∀ i, S.has (reachK f l k) i = true → S.has (reachK f l (k + 1)) i = true := fun i => round_mono f l _
      have hex : ∃ i, S.has (reachK f l (k + 1)) i = true ∧ S.has (reachK f l k) i = false := by
        apply Classical.byContradiction
        intro hno
        apply h2
        refine has_ext fun i => ?_
        cases ha : S.has (reachK f l k) i
        · cases hb : S.has (reachK f l (k + 1)) i
          · rfl
          · exact absurd ⟨i, hb, ha⟩ hno
        · exact hsub i ha
      obtain ⟨i, hi1, hi2⟩ := hex
      have hin : i < n := ((reach_sound f (k + 1) i hi1).lt hr).2
      have := filter_lt (S.has (reachK f l k)) (S.has (reachK f l (k + 1))) (List.range n) hsub (List.mem_range.2 hin) hi1 hi2
      show k + 1 ≤ _
      unfold S.mem at h1 ⊢
      omega
  have h1 := hlen (n + 1) (Nat.le_refl _)
  have h2 := S.mem_len (reachK f l (n + 1)) n
  omega
theorem reach_fix {n : Nat} {l : List (Int × Int)} (hr : Rt n l) (f : Nat) : roundR f l (reach n l f) = reach n l f := by
  obtain ⟨k, hk, e⟩ := reach_stops hr f
  have h : ∀ m, reachK f l (k + m) = reachK f l k := by
    intro m
    induction m with
    | zero => rfl
    | succ m ih => rw [show k + (m + 1) = (k + m) + 1 from rfl, reachK, ih]; exact e
  have h1 : reach n l f = reachK f l k := by
    unfold reach
    rw [show n + 1 = k + (n + 1 - k) by omega, h]
  rw [h1]; exact e
/-- the set that a chain leads to -/
theorem reach_iff {n : Nat} {l : List (Int × Int)} (hr : Rt n l) (f i : Nat) : S.has (reach n l f) i = true ↔ Ch l f i := by
  constructor
  · exact reach_sound f (n + 1) i
  · intro h
    have hf := round_fix f l _ (reach_fix hr f)
    induction h with
    | one hp e => exact hf _ hp (.inl e)
    | more _ hp ih => exact hf _ hp (.inr ih)
theorem reach_lt {n : Nat} {l : List (Int × Int)} (hr : Rt n l) (f k : Nat) : reachK f l k < 2 ^ n := has_lt fun i hi => ((reach_sound f k i hi).lt hr).2

/-! ### sets of what is true -/
def ofB (p : Nat → Bool) : Nat → Nat
  | 0 => 0
  | k + 1 => if p k then ofB p k + 2 ^ k else ofB p k
theorem has_ofB (p : Nat → Bool) : ∀ k i, S.has (ofB p k) i = (decide (i < k) && p i)
  | 0, i => by rw [ofB, has_zero]; rfl
  | k + 1, i => by
    have h0 : S.has (ofB p k) k = false := by rw [has_ofB p k k, decide_eq_false (by omega)]; rfl
    rw [ofB]
    cases hp : p k
    · rw [if_neg (by simp), has_ofB p k i]
      by_cases e : i = k
      · subst e; rw [hp]; simp
      · congr 1; rw [decide_eq_decide]; omega
    · rw [if_pos rfl, has_add h0, has_ofB p k i]
      by_cases e : i = k
      · subst e; rw [hp]; simp
      · rw [decide_eq_false e, Bool.or_false]; congr 1; rw [decide_eq_decide]; omega
theorem ofB_lt (p : Nat → Bool) (k : Nat) : ofB p k < 2 ^ k := has_lt fun i hi => by
  rw [has_ofB, Bool.and_eq_true, decide_eq_true_iff] at hi; exact hi.1

end Go.Proofs.YtmoilpkgoabopaaDoor.U

