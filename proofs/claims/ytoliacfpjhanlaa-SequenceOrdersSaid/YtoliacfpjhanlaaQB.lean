/-
  DERIVED. QB: a part of the base of layer 13 (made by pack.py).
-/
import Derived.Test.YtoliacfpjhanlaaQA
import Derived.Deep.RegionHeld3
import Derived.Laws.StructEq
import Derived.ChangeKeysEq
/-! Plain Lean: pairs of orders, chains, the sets that follow. -/
namespace Go.Proofs.Ytoliacfpjhanlaa.U

theorem has_bit (n i : Nat) : S.has n i = n.testBit i := by
  unfold S.has
  rw [Nat.testBit_eq_decide_div_mod_eq, Bool.eq_iff_iff]
  simp
theorem has_zero (i : Nat) : S.has 0 i = false := by rw [has_bit, Nat.zero_testBit]
theorem has_ext {a b : Nat} (h : ∀ i, S.has a i = S.has b i) : a = b := Nat.eq_of_testBit_eq fun i => by rw [← has_bit, ← has_bit]; exact h i
theorem has_add {s j : Nat} (h : S.has s j = false) (i : Nat) : S.has (s + 2 ^ j) i = (S.has s i || decide (i = j)) := by
  have e : s + 2 ^ j = s ||| 2 ^ j := by
    rw [has_bit] at h
    have h0 : 2 ^ j &&& s = 0 := Nat.eq_of_testBit_eq fun k => by
      rw [Nat.testBit_and, Nat.testBit_two_pow, Nat.zero_testBit]
      by_cases e : j = k
      · subst e; rw [h, Bool.and_false]
      · rw [decide_eq_false e, Bool.false_and]
    have := Nat.two_pow_add_eq_or_of_lt (i := j) (b := s % 2 ^ j) (Nat.mod_lt _ (Nat.pow_pos (by omega))) (s / 2 ^ j + 1)
    have h1 := Nat.div_add_mod s (2 ^ j)
    have h3 : s / 2 ^ j % 2 = 0 := by
      rw [Nat.testBit_eq_decide_div_mod_eq] at h
      have : ¬ s / 2 ^ j % 2 = 1 := by simpa using h
      omega
    refine Nat.eq_of_testBit_eq fun k => ?_
    rw [Nat.testBit_or, Nat.testBit_two_pow]
    rw [show s + 2 ^ j = 2 ^ j * (s / 2 ^ j + 1) + s % 2 ^ j by rw [Nat.mul_add, Nat.mul_one]; omega, this, Nat.testBit_or, Nat.testBit_mod_two_pow, Nat.testBit_two_pow_mul]
    by_cases hk : k < j
    · rw [decide_eq_true hk, decide_eq_false (show ¬ k ≥ j by omega), decide_eq_false (show ¬ j = k by omega)]
      simp
    · rw [decide_eq_false hk, decide_eq_true (show k ≥ j by omega)]
      rw [Nat.testBit_eq_decide_div_mod_eq, Nat.testBit_eq_decide_div_mod_eq]
      by_cases e : k = j
      · subst e
        simp
        omega
      · obtain ⟨d, rfl⟩ : ∃ d, k = j + (d + 1) := ⟨k - j - 1, by omega⟩
        have e1 : s / 2 ^ (j + (d + 1)) = s / 2 ^ j / 2 / 2 ^ d := by rw [Nat.pow_add, ← Nat.div_div_eq_div_mul, Nat.pow_succ', ← Nat.div_div_eq_div_mul]
        have e2 : (s / 2 ^ j + 1) / 2 ^ (d + 1) = s / 2 ^ j / 2 / 2 ^ d := by rw [Nat.pow_succ', ← Nat.div_div_eq_div_mul, show (s / 2 ^ j + 1) / 2 = s / 2 ^ j / 2 by omega]
        rw [show j + (d + 1) - j = d + 1 by omega, decide_eq_false (show ¬ j = j + (d + 1) by omega), e1, e2]
        simp
  rw [e, has_bit, Nat.testBit_or, Nat.testBit_two_pow, ← has_bit]
  congr 1
  rw [decide_eq_decide]
  exact eq_comm
theorem has_lt {s n : Nat} (h : ∀ i, S.has s i = true → i < n) : s < 2 ^ n := by
  apply Nat.lt_pow_two_of_testBit
  intro i hi
  cases hb : s.testBit i
  · rfl
  · have := h i (by rw [has_bit]; exact hb)
    omega
theorem lt_has {s n i : Nat} (h : s < 2 ^ n) (hi : S.has s i = true) : i < n := by
  apply Decidable.byContradiction
  intro hc
  rw [has_bit, Nat.testBit_lt_two_pow (Nat.lt_of_lt_of_le h (Nat.pow_le_pow_right (by omega) (by omega)))] at hi
  cases hi

/-! ### chains -/
def pa (p : Int × Int) : Nat := p.1.toNat
def pb (p : Int × Int) : Nat := p.2.toNat
def Rt (n : Nat) (l : List (Int × Int)) : Prop := ∀ p ∈ l, 0 ≤ p.1 ∧ p.1 < n ∧ 0 ≤ p.2 ∧ p.2 < n ∧ p.1 ≠ p.2
theorem Rt.a {n : Nat} {l : List (Int × Int)} (h : Rt n l) {p : Int × Int} (hp : p ∈ l) : pa p < n ∧ pb p < n ∧ pa p ≠ pb p ∧ p = ((pa p : Int), (pb p : Int)) := by
  obtain ⟨h1, h2, h3, h4, h5⟩ := h p hp
  unfold pa pb
  refine ⟨by omega, by omega, by omega, ?_⟩
  obtain ⟨x, y⟩ := p
  simp only at h1 h3 ⊢
  rw [Int.toNat_of_nonneg h1, Int.toNat_of_nonneg h3]
/-- there is a chain -/
inductive Ch (l : List (Int × Int)) (a : Nat) : Nat → Prop
  | one {p : Int × Int} : p ∈ l → pa p = a → Ch l a (pb p)
  | more {p : Int × Int} : Ch l a (pa p) → p ∈ l → Ch l a (pb p)
theorem Ch.trans {l : List (Int × Int)} {a b c : Nat} (h : Ch l a b) (h2 : Ch l b c) : Ch l a c := by
  induction h2 with
  | one hp e => subst e; exact h.more hp
  | more _ hp ih => exact ih.more hp
theorem Ch.lt {n : Nat} {l : List (Int × Int)} (hr : Rt n l) {a b : Nat} (h : Ch l a b) : a < n ∧ b < n := by
  induction h with
  | one hp e => subst e; exact ⟨(hr.a hp).1, (hr.a hp).2.1⟩
  | more _ hp ih => exact ⟨ih.1, (hr.a hp).2.1⟩
def stepR (f s : Nat) (p : Int × Int) : Nat := if (decide (pa p = f) || S.has s (pa p)) && !S.has s (pb p) then s + 2 ^ pb p else s
def roundR (f : Nat) (l : List (Int × Int)) (s : Nat) : Nat := l.foldl (stepR f) s
def reachK (f : Nat) (l : List (Int × Int)) : Nat → Nat
  | 0 => 0
  | k + 1 => roundR f l (reachK f l k)
def reach (n : Nat) (l : List (Int × Int)) (f : Nat) : Nat := reachK f l (n + 1)
theorem step_has (f s : Nat) (p : Int × Int) (i : Nat) : S.has (stepR f s p) i = (S.has s i || ((decide (pa p = f) || S.has s (pa p)) && decide (i = pb p))) := by
  unfold stepR
  cases h : S.has s (pb p)
  · cases h2 : (decide (pa p = f) || S.has s (pa p))
    · simp
    · rw [if_pos (by rfl), has_add h, Bool.true_and]
  · rw [if_neg (by simp)]
    by_cases e : i = pb p
    · subst e; rw [h]; rfl
    · rw [decide_eq_false e, Bool.and_false, Bool.or_false]
theorem step_mono (f s : Nat) (p : Int × Int) {i : Nat} (h : S.has s i = true) : S.has (stepR f s p) i = true := by rw [step_has, h]; rfl
theorem step_le (f s : Nat) (p : Int × Int) : s ≤ stepR f s p := by
  unfold stepR
  split
  · exact Nat.le_add_right _ _
  · exact Nat.le_refl _
theorem round_mono (f : Nat) (l : List (Int × Int)) : ∀ (s : Nat) {i : Nat}, S.has s i = true → S.has (roundR f l s) i = true := by
  induction l with
  | nil => intro s i h; exact h
  | cons p l ih => intro s i h; exact ih (stepR f s p) (step_mono f s p h)
theorem round_le (f : Nat) (l : List (Int × Int)) : ∀ s, s ≤ roundR f l s := by
  induction l with
  | nil => intro s; exact Nat.le_refl _
  | cons p l ih => intro s; exact Nat.le_trans (step_le f s p) (ih _)
/-- a round that changes nothing: the set is closed -/
theorem round_fix (f : Nat) (l : List (Int × Int)) : ∀ s, roundR f l s = s → ∀ p ∈ l, (pa p = f ∨ S.has s (pa p) = true) → S.has s (pb p) = true := by
  induction l with
  | nil => intro s _ p hp; cases hp
  | cons q l ih =>
    intro s h p hp hc
    have h1 := step_le f s q
    have h2 := round_le f l (stepR f s q)
    have h3 : roundR f l (stepR f s q) = s := h
    have h4 : stepR f s q = s := by omega
    rcases List.mem_cons.1 hp with rfl | hp
    · have h5 := step_has f s p (pb p)
      rw [h4] at h5
      rw [h5]
      rcases hc with hc | hc
      · rw [decide_eq_true hc]; simp
      · rw [hc]; simp
    · rw [h4] at h3
      exact ih s h3 p hp hc
theorem round_sound (f : Nat) (l0 : List (Int × Int)) : ∀ (l : List (Int × Int)), (∀ p ∈ l, p ∈ l0) → ∀ s, (∀ i, S.has s i = true → Ch l0 f i) → ∀ i, S.has (roundR f l s) i = true → Ch l0 f i := by
  intro l
  induction l with
  | nil => intro _ s h i hi; exact h i hi
  | cons p l ih =>
    intro hl s h
    refine ih (fun q hq => hl q (List.mem_cons_of_mem _ hq)) (stepR f s p) fun i hi => ?_
    rw [step_has, Bool.or_eq_true, Bool.and_eq_true, Bool.or_eq_true, decide_eq_true_iff, decide_eq_true_iff] at hi
    rcases hi with hi | ⟨hi, rfl⟩
    · exact h i hi
    · have hp := hl p (List.mem_cons_self ..)
      rcases hi with hi | hi
      · exact Ch.one hp hi
      · exact (h _ hi).more hp
theorem reach_sound {l : List (Int × Int)} (f : Nat) : ∀ k i, S.has (reachK f l k) i = true → Ch l f i
  | 0, i, h => by rw [reachK, has_zero] at h; cases h
  | k + 1, i, h => round_sound f l l (fun _ h => h) _ (reach_sound f k) i h
theorem filter_lt {α : Type} (p q : α → Bool) (l : List α) (hpq : ∀ x, p x = true → q x = true) {x : α} (hx : x ∈ l) (h1 : q x = true) (h2 : p x = false) : (l.filter p).length < (l.filter q).length := by
  have hle : ∀ l : List α, (l.filter p).length ≤ (l.filter q).length := by
    intro l
    induction l with
    | nil => exact Nat.le_refl _
    | cons y l ih =>
      rw [List.filter_cons, List.filter_cons]
      cases hp : p y
      · cases hq : q y
        · simpa using ih
        · simp; omega
      · rw [hpq y hp]; simp; exact ih
  induction l with
  | nil => cases hx
  | cons y l ih =>
    rw [List.filter_cons, List.filter_cons]
    rcases List.mem_cons.1 hx with rfl | hx
    · rw [h1, h2]; simp; have := hle l; omega
    · have := ih hx
      cases hp : p y
      · cases hq : q y
        · simpa using this
        · simp; omega
      · rw [hpq y hp]; simp; exact this
theorem reach_stops {n : Nat} {l : List (Int × Int)} (hr : Rt n l) (f : Nat) : ∃ k, k ≤ n ∧ reachK f l (k + 1) = reachK f l k := by
  apply Classical.byContradiction
  intro hc
  have hne : ∀ k, k ≤ n → reachK f l (k + 1) ≠ reachK f l k := fun k hk e => hc ⟨k, hk, e⟩
  have hlen : ∀ k, k ≤ n + 1 → k ≤ (S.mem (reachK f l k) n).length := by
    intro k
    induction k with
    | zero => intro _; exact Nat.zero_le _
    | succ k ih =>
      intro hk
      have h1 := ih (by omega)
      have h2 := hne k (by omega)
      have hsub : ∀ i, S.has (reachK f l k) i = true → S.has (reachK f l (k + 1)) i = true := fun i => round_mono f l _
      have hex : ∃ i, S.has (reachK f l (k + 1)) i = true ∧ S.has (reachK f l k) i = false := by
        apply Classical.byContradiction
        intro hno
        apply h2
        refine has_ext fun i => ?_
        cases ha : S.has (reachK f l k) i
        · cases hb : S.has (reachK f l (k + 1)) i
          · rfl
          · exact absurd ⟨i, hb, ha⟩ hno
        · exact hsub i ha
      obtain ⟨i, hi1, hi2⟩ := hex
      have hin : i < n := ((reach_sound f (k + 1) i hi1).lt hr).2
      have := filter_lt (S.has (reachK f l k)) (S.has (reachK f l (k + 1))) (List.range n) hsub (List.mem_range.2 hin) hi1 hi2
      show k + 1 ≤ _
      unfold S.mem at h1 ⊢
      omega
  have h1 := hlen (n + 1) (Nat.le_refl _)
  have h2 := S.mem_len (reachK f l (n + 1)) n
  omega
theorem reach_fix {n : Nat} {l : List (Int × Int)} (hr : Rt n l) (f : Nat) : roundR f l (reach n l f) = reach n l f := by
  obtain ⟨k, hk, e⟩ := reach_stops hr f
  have h : ∀ m, reachK f l (k + m) = reachK f l k := by
    intro m
    induction m with
    | zero => rfl
    | succ m ih => rw [show k + (m + 1) = (k + m) + 1 from rfl, reachK, ih]; exact e
  have h1 : reach n l f = reachK f l k := by
    unfold reach
    rw [show n + 1 = k + (n + 1 - k) by omega, h]
  rw [h1]; exact e
/-- the set that a chain leads to -/
theorem reach_iff {n : Nat} {l : List (Int × Int)} (hr : Rt n l) (f i : Nat) : S.has (reach n l f) i = true ↔ Ch l f i := by
  constructor
  · exact reach_sound f (n + 1) i
  · intro h
    have hf := round_fix f l _ (reach_fix hr f)
    induction h with
    | one hp e => exact hf _ hp (.inl e)
    | more _ hp ih => exact hf _ hp (.inr ih)
def ofB (p : Nat → Bool) : Nat → Nat
  | 0 => 0
  | k + 1 => if p k then ofB p k + 2 ^ k else ofB p k
theorem has_ofB (p : Nat → Bool) : ∀ k i, S.has (ofB p k) i = (decide (i < k) && p i)
  | 0, i => by rw [ofB, has_zero]; rfl
  | k + 1, i => by
    have h0 : S.has (ofB p k) k = false := by rw [has_ofB p k k, decide_eq_false (by omega)]; rfl
    rw [ofB]
    cases hp : p k
    · rw [if_neg (by simp), has_ofB p k i]
      by_cases e : i = k
      · subst e; rw [hp]; simp
      · congr 1; rw [decide_eq_decide]; omega
    · rw [if_pos rfl, has_add h0, has_ofB p k i]
      by_cases e : i = k
      · subst e; rw [hp]; simp
      · rw [decide_eq_false e, Bool.or_false]; congr 1; rw [decide_eq_decide]; omega
end Go.Proofs.Ytoliacfpjhanlaa.U



/-! Plain Lean: what Closure, Needs, Allowed and Never answer, and what follows of it. -/
namespace Go.Proofs.Ytoliacfpjhanlaa.U

/-! ### all pairs that follow -/
def offE (n : Nat) (off : Nat → Bool) (s : Nat) : Bool := (List.range n).any fun i => S.has s i && off i
def apartE (l : List (Int × Int)) (s : Nat) : Bool := l.any fun p => S.has s (pa p) && S.has s (pb p)
def beforeE (l : List (Int × Int)) (s : Nat) : Bool := l.any fun p => S.has s (pb p) && !S.has s (pa p)
def circleE (n : Nat) (l : List (Int × Int)) (s : Nat) : Bool := (List.range n).any fun i => S.has s i && S.has (reach n l i) i
def allowN (n : Nat) (off : Nat → Bool) (ap be : List (Int × Int)) (s : Nat) : Int := if offE n off s then 9 else if apartE ap s then 20 else if beforeE be s then 21 else if circleE n be s then 21 else 0
def allowE (n : Nat) (off : Nat → Bool) (ap be : List (Int × Int)) (s : Int) : Int := if s < 0 ∨ ((2 ^ n : Nat) : Int) ≤ s then 2 else allowN n off ap be s.toNat
/-- what an allowed set is -/
structure Okay (n : Nat) (off : Nat → Bool) (ap be : List (Int × Int)) (s : Nat) : Prop where
  lt : s < 2 ^ n
  on : ∀ i, S.has s i = true → off i = false
  apt : ∀ p ∈ ap, S.has s (pa p) = true → S.has s (pb p) = false
  bef : ∀ p ∈ be, S.has s (pb p) = true → S.has s (pa p) = true
  ci : ∀ i, S.has s i = true → ¬ Ch be i i
theorem allowE_nat {n : Nat} {off : Nat → Bool} {ap be : List (Int × Int)} {s : Nat} (hs : s < 2 ^ n) : allowE n off ap be (s : Int) = allowN n off ap be s := by
  unfold allowE
  rw [if_neg (by omega), Int.toNat_natCast]
theorem and_sub {a b : Nat} (h : ∀ i, S.has a i = true → S.has b i = true) : a &&& b = a := Nat.eq_of_testBit_eq fun i => by
  rw [Nat.testBit_and]
  have := h i
  rw [has_bit, has_bit] at this
  cases ha : a.testBit i
  · rfl
  · rw [this ha]; rfl
end Go.Proofs.Ytoliacfpjhanlaa.U



/-! Plain Lean: the fixed points that the landed rules find, and lists of pairs in ascending order. -/
namespace Go.Proofs.Ytoliacfpjhanlaa.U

theorem sub_le {a b : Nat} (h : ∀ i, S.has a i = true → S.has b i = true) : a ≤ b := by
  rw [← and_sub h]; exact Nat.and_le_right
theorem has_or (a b i : Nat) : S.has (a ||| b) i = (S.has a i || S.has b i) := by
  rw [has_bit, has_bit, has_bit, Nat.testBit_or]
theorem has_pow (j i : Nat) : S.has (2 ^ j) i = decide (i = j) := by
  rw [has_bit, Nat.testBit_two_pow, decide_eq_decide]; exact eq_comm
/-- a set without another -/
def minus (s t : Nat) : Nat := s &&& (18446744073709551616 - 1 - t)
theorem has_minus {s t : Nat} (hs : s < 9223372036854775808) (ht : t < 9223372036854775808) (i : Nat) : S.has (minus s t) i = (S.has s i && !S.has t i) := by
  unfold minus
  rw [has_bit, has_bit, has_bit, Nat.testBit_and]
  have h1 := Nat.testBit_two_pow_sub_succ (n := 64) (x := t) (by omega) i
  rw [show (2 : Nat) ^ 64 - (t + 1) = 18446744073709551616 - 1 - t by omega] at h1
  rw [h1]
  by_cases hi : i < 64
  · rw [decide_eq_true hi, Bool.true_and]
  · have : s.testBit i = false := Nat.testBit_lt_two_pow (Nat.lt_of_lt_of_le hs (Nat.le_trans (by decide : 9223372036854775808 ≤ 2 ^ 64) (Nat.pow_le_pow_right (by omega) (by omega))))
    rw [this]; rfl
theorem minus_le (s t : Nat) : minus s t ≤ s := Nat.and_le_left
theorem pow_le {n : Nat} (h : n ≤ 10) : 2 ^ n ≤ 1024 := Nat.le_trans (Nat.pow_le_pow_right (by omega) h) (by decide)

/-! ### what comes ahead of a set -/
theorem ex_more {l : List (Int × Int)} {k : Nat} (P : Int × Int → Prop) : (∃ j, j < k + 1 ∧ P (l.getD j (0, 0))) ↔ (∃ j, j < k ∧ P (l.getD j (0, 0))) ∨ P (l.getD k (0, 0)) := by
  constructor
  · rintro ⟨j, hj, h⟩
    by_cases e : j = k
    · exact .inr (e ▸ h)
    · exact .inl ⟨j, by omega, h⟩
  · rintro (⟨j, hj, h⟩ | h)
    · exact ⟨j, by omega, h⟩
    · exact ⟨k, by omega, h⟩
theorem ex_mem {l : List (Int × Int)} (P : Int × Int → Prop) : (∃ j, j < l.length ∧ P (l.getD j (0, 0))) ↔ ∃ p ∈ l, P p := by
  constructor
  · rintro ⟨j, hj, h⟩
    refine ⟨_, ?_, h⟩
    rw [List.getD_eq_getElem?_getD, List.getElem?_eq_getElem hj]; exact List.getElem_mem hj
  · rintro ⟨p, hp, h⟩
    obtain ⟨j, hj, rfl⟩ := List.mem_iff_getElem.1 hp
    refine ⟨j, hj, ?_⟩
    rw [List.getD_eq_getElem?_getD, List.getElem?_eq_getElem hj]; exact h
theorem getD_rt {n : Nat} {l : List (Int × Int)} (hr : Rt n l) {k : Nat} (hk : k < l.length) : pa (l.getD k (0, 0)) < n ∧ pb (l.getD k (0, 0)) < n ∧ l.getD k (0, 0) = ((pa (l.getD k (0, 0)) : Int), (pb (l.getD k (0, 0)) : Int)) := by
  have := hr.a (p := l.getD k (0, 0)) (by rw [List.getD_eq_getElem?_getD, List.getElem?_eq_getElem hk]; exact List.getElem_mem hk)
  exact ⟨this.1, this.2.1, this.2.2.2⟩
/-- what Needs has found so far -/
structure NdI (l : List (Int × Int)) (o a : Nat) : Prop where
  own : S.has a o = true
  ch : ∀ i, S.has a i = true → i = o ∨ Ch l i o
theorem NdI.lt {n : Nat} {l : List (Int × Int)} (hr : Rt n l) {o a : Nat} (ho : o < n) (h : NdI l o a) : a < 2 ^ n := has_lt fun i hi => by
  rcases h.ch i hi with rfl | hc
  · exact ho
  · exact (hc.lt hr).1
def wtgK (l : List (Int × Int)) (s d : Nat) : Nat → Nat
  | 0 => 0
  | k + 1 => if S.has s (pb (l.getD k (0, 0))) && !S.has d (pa (l.getD k (0, 0))) then wtgK l s d k ||| 2 ^ pb (l.getD k (0, 0)) else wtgK l s d k
theorem has_wtgK (l : List (Int × Int)) (s d i : Nat) : ∀ k, S.has (wtgK l s d k) i = true ↔ ∃ j, j < k ∧ ((S.has s (pb (l.getD j (0, 0))) && !S.has d (pa (l.getD j (0, 0)))) = true ∧ i = pb (l.getD j (0, 0)))
  | 0 => by
    rw [wtgK, has_zero]
    constructor
    · intro h; cases h
    · rintro ⟨j, hj, -⟩; omega
  | k + 1 => by
    rw [ex_more (fun p => (S.has s (pb p) && !S.has d (pa p)) = true ∧ i = pb p), ← has_wtgK l s d i k, wtgK]
    cases h : S.has s (pb (l.getD k (0, 0))) && !S.has d (pa (l.getD k (0, 0)))
    · rw [if_neg (by simp)]; simp
    · rw [if_pos rfl, has_or, has_pow, Bool.or_eq_true, decide_eq_true_iff]; simp
def wtg (l : List (Int × Int)) (s d : Nat) : Nat := wtgK l s d l.length
theorem has_wtg (l : List (Int × Int)) (s d i : Nat) : S.has (wtg l s d) i = true ↔ ∃ p ∈ l, (S.has s (pb p) && !S.has d (pa p)) = true ∧ i = pb p := by
  unfold wtg
  rw [has_wtgK, ex_mem (fun p => (S.has s (pb p) && !S.has d (pa p)) = true ∧ i = pb p)]
theorem wtgK_lt {n : Nat} {l : List (Int × Int)} (hr : Rt n l) (s d : Nat) {k : Nat} (hk : k ≤ l.length) : wtgK l s d k < 2 ^ n := has_lt fun i hi => by
  obtain ⟨j, hj, -, rfl⟩ := (has_wtgK l s d i k).1 hi
  exact (getD_rt hr (by omega)).2.1
/-- the next of canFollow's sets -/
def fol (l : List (Int × Int)) (s d : Nat) : Nat := minus s (wtg l s d)
theorem has_fol {n : Nat} {l : List (Int × Int)} (hr : Rt n l) (hn : n ≤ 10) {s d : Nat} (hs : s < 2 ^ n) (i : Nat) : S.has (fol l s d) i = true ↔ S.has s i = true ∧ ∀ p ∈ l, i = pb p → S.has d (pa p) = true := by
  have h1 := pow_le hn
  have h2 : wtg l s d < 2 ^ n := wtgK_lt hr s d (Nat.le_refl _)
  unfold fol
  rw [has_minus (by omega) (by omega), Bool.and_eq_true, Bool.not_eq_true']
  constructor
  · rintro ⟨h3, h4⟩
    refine ⟨h3, fun p hp e => ?_⟩
    cases h5 : S.has d (pa p)
    · have : S.has (wtg l s d) i = true := (has_wtg l s d i).2 ⟨p, hp, by rw [← e, h3, h5]; rfl, e⟩
      rw [h4] at this; cases this
    · rfl
  · rintro ⟨h3, h4⟩
    refine ⟨h3, ?_⟩
    cases h5 : S.has (wtg l s d) i
    · rfl
    · obtain ⟨p, hp, h6, e⟩ := (has_wtg l s d i).1 h5
      rw [h4 p hp e] at h6
      simp at h6
/-- the orders that canFollow has done -/
structure CfI (l : List (Int × Int)) (s d : Nat) : Prop where
  sub : ∀ i, S.has d i = true → S.has s i = true
  cl : ∀ p ∈ l, S.has d (pb p) = true → S.has d (pa p) = true
  ci : ∀ i, S.has d i = true → ¬ Ch l i i
theorem CfI.start (l : List (Int × Int)) (s : Nat) : CfI l s 0 := ⟨fun i h => (by rw [has_zero] at h; cases h), fun p _ h => (by rw [has_zero] at h; cases h), fun i h => (by rw [has_zero] at h; cases h)⟩
theorem CfI.lt {n : Nat} {l : List (Int × Int)} {s d : Nat} (hs : s < 2 ^ n) (h : CfI l s d) : d < 2 ^ n := has_lt fun i hi => lt_has hs (h.sub i hi)
def canF (n : Nat) (l : List (Int × Int)) (s : Nat) : Bool := !beforeE l s && !circleE n l s
section
variable {n : Nat} {l : List (Int × Int)} (hr : Rt n l) (hn : n ≤ 10) {s d : Nat} (hs : s < 2 ^ n)
include hr hn hs
theorem CfI.sup (h : CfI l s d) : ∀ i, S.has d i = true → S.has (fol l s d) i = true := fun i hi => (has_fol hr hn hs i).2 ⟨h.sub i hi, fun p hp e => h.cl p hp (e ▸ hi)⟩
theorem CfI.step (h : CfI l s d) : CfI l s (fol l s d) := by
  refine ⟨fun i hi => ((has_fol hr hn hs i).1 hi).1, fun p hp hb => ?_, fun i hi hc => ?_⟩
  · exact h.sup hr hn hs _ (((has_fol hr hn hs _).1 hb).2 p hp rfl)
  · have h1 := ((has_fol hr hn hs i).1 hi).2
    cases hc with
    | one hp e =>
      have h2 := h1 _ hp rfl
      rw [e] at h2
      exact h.ci _ h2 (by have := Ch.one hp e; exact this)
    | more h2 hp => exact h.ci _ (h1 _ hp rfl) ((Ch.one hp rfl).trans h2)
theorem CfI.grow (h : CfI l s d) : d ≤ fol l s d := sub_le (h.sup hr hn hs)
theorem CfI.fix (h : CfI l s d) (hf : fol l s d = d) : (d == s) = canF n l s := by
  unfold canF
  rw [Bool.eq_iff_iff, beq_iff_eq, Bool.and_eq_true, Bool.not_eq_true', Bool.not_eq_true']
  constructor
  · rintro rfl
    refine ⟨List.any_eq_false.2 fun p hp => ?_, List.any_eq_false.2 fun i _ => ?_⟩
    · cases h1 : S.has d (pb p)
      · simp
      · rw [h.cl p hp h1]; simp
    · cases h1 : S.has d i
      · simp
      · cases h2 : S.has (reach n l i) i
        · simp
        · exact absurd ((reach_iff hr i i).1 h2) (h.ci i h1)
  · rintro ⟨hb, hc⟩
    have hall : ∀ m i, ofB (fun j => S.has (reach n l j) i) n ≤ m → S.has s i = true → S.has d i = true := by
      intro m
      induction m with
      | zero =>
        intro i hm hi
        rw [← hf]
        refine (has_fol hr hn hs i).2 ⟨hi, fun p hp e => ?_⟩
        have h1 : S.has (ofB (fun j => S.has (reach n l j) i) n) (pa p) = true := by
          rw [has_ofB, decide_eq_true (hr.a hp).1, Bool.true_and]
          exact (reach_iff hr _ _).2 (e ▸ Ch.one hp rfl)
        rw [show ofB (fun j => S.has (reach n l j) i) n = 0 by omega, has_zero] at h1
        cases h1
      | succ m ih =>
        intro i hm hi
        rw [← hf]
        refine (has_fol hr hn hs i).2 ⟨hi, fun p hp e => ?_⟩
        have h0 := List.any_eq_false.1 hb p hp
        have hsa : S.has s (pa p) = true := by
          rw [← e, hi] at h0
          cases h1 : S.has s (pa p)
          · rw [h1] at h0; simp at h0
          · rfl
        have hno : S.has (reach n l (pa p)) (pa p) = false := by
          have := List.any_eq_false.1 hc (pa p) (List.mem_range.2 (hr.a hp).1)
          rw [hsa] at this
          cases h1 : S.has (reach n l (pa p)) (pa p)
          · rfl
          · rw [h1] at this; simp at this
        refine ih (pa p) ?_ hsa
        have hle : ofB (fun j => S.has (reach n l j) (pa p)) n ≤ ofB (fun j => S.has (reach n l j) i) n := sub_le fun j hj => by
          rw [has_ofB, Bool.and_eq_true, decide_eq_true_iff] at hj ⊢
          exact ⟨hj.1, (reach_iff hr _ _).2 (e ▸ ((reach_iff hr _ _).1 hj.2).more hp)⟩
        have hne : ofB (fun j => S.has (reach n l j) (pa p)) n ≠ ofB (fun j => S.has (reach n l j) i) n := fun e2 => by
          have h1 : S.has (ofB (fun j => S.has (reach n l j) i) n) (pa p) = true := by
            rw [has_ofB, decide_eq_true (hr.a hp).1, Bool.true_and]
            exact (reach_iff hr _ _).2 (e ▸ Ch.one hp rfl)
          rw [← e2, has_ofB, hno, Bool.and_false] at h1
          cases h1
        omega
    exact has_ext fun i => by
      rw [Bool.eq_iff_iff]
      exact ⟨h.sub i, hall _ i (Nat.le_refl _)⟩
end
theorem allow_can (n : Nat) (off : Nat → Bool) (ap be : List (Int × Int)) (s : Nat) : allowN n off ap be s = if offE n off s then 9 else if apartE ap s then 20 else if canF n be s then 0 else 21 := by
  unfold allowN canF
  cases offE n off s <;> cases apartE ap s <;> cases beforeE be s <;> cases circleE n be s <;> rfl

/-! ### pairs in ascending order -/
end Go.Proofs.Ytoliacfpjhanlaa.U



/-! The walk of lorryref12's faults. -/
namespace Go.Proofs.Ytoliacfpjhanlaa.T
open Go.RowKit
set_option maxRecDepth 8000

/-! ### the faults of pairs -/
theorem ps_at {w : World} {oa : Option Addr} {c : Nat} {l : List (Int × Int)} (h : Ps w (.slice oa l.length c) l) {k : Nat} (hk : k < l.length) :
    ∃ b o, oa = some ⟨b, o, none⟩ ∧ b < w.heap.size ∧ w.cell? ⟨b, o + k * 2, none⟩ = some (.int .i64 (l.getD k (0, 0)).1) ∧ w.cell? ⟨b, o + k * 2 + 1, none⟩ = some (.int .i64 (l.getD k (0, 0)).2) := by
  obtain ⟨oa', c', hv, h⟩ := h
  simp only [Value.slice.injEq] at hv
  obtain ⟨rfl, -, rfl⟩ := hv
  obtain ⟨b, o, ha, hl, h0, h1⟩ := h k hk
  exact ⟨b, o, ha, hl, h0, h1⟩
end Go.Proofs.Ytoliacfpjhanlaa.T



/-! The walks of lorryref12's Check and Right. -/
namespace Go.Proofs.Ytoliacfpjhanlaa.T
open Go.RowKit
set_option maxRecDepth 8000

/-- block q holds an instance -/
def Ib (w : World) (q : Nat) (x0 x1 x2 x3 x4 x5 : Value) : Prop := w.heap[q]? = some (.cells #[x0, x1, x2, x3, x4, x5] 30)
section
variable {w w' : World} {q : Nat} {x0 x1 x2 x3 x4 x5 : Value}
theorem Ib.c0 (h : Ib w q x0 x1 x2 x3 x4 x5) : w.cell? ⟨q, 0, none⟩ = some x0 := by unfold Ib at h; simp [World.cell?, h]
theorem Ib.c1 (h : Ib w q x0 x1 x2 x3 x4 x5) : w.cell? ⟨q, 1, none⟩ = some x1 := by unfold Ib at h; simp [World.cell?, h]
theorem Ib.c2 (h : Ib w q x0 x1 x2 x3 x4 x5) : w.cell? ⟨q, 2, none⟩ = some x2 := by unfold Ib at h; simp [World.cell?, h]
theorem Ib.c3 (h : Ib w q x0 x1 x2 x3 x4 x5) : w.cell? ⟨q, 3, none⟩ = some x3 := by unfold Ib at h; simp [World.cell?, h]
theorem Ib.c4 (h : Ib w q x0 x1 x2 x3 x4 x5) : w.cell? ⟨q, 4, none⟩ = some x4 := by unfold Ib at h; simp [World.cell?, h]
theorem Ib.c5 (h : Ib w q x0 x1 x2 x3 x4 x5) : w.cell? ⟨q, 5, none⟩ = some x5 := by unfold Ib at h; simp [World.cell?, h]
theorem Ib.lt (h : Ib w q x0 x1 x2 x3 x4 x5) : q < w.heap.size := by
  apply Decidable.byContradiction
  intro hc
  unfold Ib at h
  rw [Array.getElem?_eq_none (by omega)] at h; cases h
theorem Ib.below (h : Ib w q x0 x1 x2 x3 x4 x5) (hb : Below w.heap.size w w') : Ib w' q x0 x1 x2 x3 x4 x5 := (hb.block q h.lt).trans h
theorem Ib.made (w : World) (x0 x1 x2 x3 x4 x5 : Value) : Ib (w.alloc (.cells #[x0, x1, x2, x3, x4, x5] 30)) w.heap.size x0 x1 x2 x3 x4 x5 := by
  show (w.heap.push _)[w.heap.size]? = _
  simp
end
end Go.Proofs.Ytoliacfpjhanlaa.T



/-! The walk of lorryref12's Allowed (written by gen_refru7.py). -/
namespace Go.Proofs.Ytoliacfpjhanlaa.T
open Go.RowKit
set_option maxRecDepth 8000

/-- which of n orders are cancelled -/
def Ofs (w : World) (oa : Option Addr) (n : Nat) (off : Nat → Bool) : Prop := ∀ i, i < n → ∃ b o, oa = some ⟨b, o, none⟩ ∧ b < w.heap.size ∧ w.cell? ⟨b, o + i * 16 + 15, none⟩ = some (.bool (off i))
theorem Ofs.below {w w' : World} {oa : Option Addr} {n : Nat} {off : Nat → Bool} (h : Ofs w oa n off) (hb : Below w.heap.size w w') : Ofs w' oa n off := fun i hi => by
  obtain ⟨b, o, ha, hl, hc⟩ := h i hi
  exact ⟨b, o, ha, Nat.lt_of_lt_of_le hl hb.size, (hb.cell (p := ⟨b, _, none⟩) hl).trans hc⟩
theorem any_yes {p : Nat → Bool} {n i : Nat} (hi : i < n) (h : p i = true) : (List.range n).any p = true := List.any_eq_true.2 ⟨i, List.mem_range.2 hi, h⟩
theorem any_no {p : Nat → Bool} {n : Nat} (h : ∀ i, i < n → p i = false) : (List.range n).any p = false := List.any_eq_false.2 fun i hi => by rw [h i (List.mem_range.1 hi)]; simp
theorem anyl_yes {p : Int × Int → Bool} {l : List (Int × Int)} {i : Nat} (hi : i < l.length) (h : p (l.getD i (0, 0)) = true) : l.any p = true := List.any_eq_true.2 ⟨_, getD_mem hi, h⟩
theorem anyl_no {p : Int × Int → Bool} {l : List (Int × Int)} (h : ∀ i, i < l.length → p (l.getD i (0, 0)) = false) : l.any p = false := List.any_eq_false.2 fun x hx => by
  obtain ⟨i, hi, rfl⟩ := List.getElem_of_mem hx
  have := h i hi
  rw [List.getD_eq_getElem?_getD, List.getElem?_eq_getElem hi] at this
  have h2 : p l[i] = false := this
  rw [h2]; simp
theorem less_more {P : Nat → Prop} {k : Nat} (h : ∀ i, i < k → P i) (hk : P k) : ∀ i, i < k + 1 → P i := fun i hi => by
  by_cases e : i = k
  · subst e; exact hk
  · exact h i (by omega)

end Go.Proofs.Ytoliacfpjhanlaa.T



/-! Orders (of layer 11's text), and which of them are cancelled. -/
namespace Go.Proofs.Ytoliacfpjhanlaa.T
open Go.RowKit
set_option maxRecDepth 8000

/-- which orders are cancelled -/
def offF (l : List OrT) (i : Nat) : Bool := (l.getD i or0).off
theorem Os.ofs {w : World} {oa : Option Addr} {c : Nat} {l : List OrT} (h : Os w (.slice oa l.length c) l) : Ofs w oa l.length (offF l) := fun i hi => by
  obtain ⟨oa', c', hv, h⟩ := h
  simp only [Value.slice.injEq] at hv
  obtain ⟨rfl, -, rfl⟩ := hv
  obtain ⟨b, o, vc, ha, hl, hc, -⟩ := h i hi
  obtain ⟨-, -, -, -, -, -, -, -, -, -, -, -, -, -, -, h15⟩ := hc
  exact ⟨b, o, ha, hl, h15⟩

/-! ### what an int holds -/
def In64 (p : Int × Int) : Prop := I64 p.1 ∧ I64 p.2

end Go.Proofs.Ytoliacfpjhanlaa.T



/-! The walks of the landed rules' small functions: every, ahead, waiting, hasCancelled, hasPair, canFollow. -/
namespace Go.Proofs.Ytoliacfpjhanlaa.U
theorem has_full {n a : Nat} (h : a < n) : S.has (2 ^ n - 1) a = true := by
  rw [has_bit, Nat.testBit_two_pow_sub_one, decide_eq_true h]
end Go.Proofs.Ytoliacfpjhanlaa.U
namespace Go.Proofs.Ytoliacfpjhanlaa.T
open Go.RowKit
set_option maxRecDepth 8000

theorem or_bit (m j : Nat) (hm : m < 9223372036854775808) (hj : j ≤ 62) : bits .or .i64 (m : Int) (wrap64 (2 ^ j)) = ((m ||| 2 ^ j : Nat) : Int) := by
  have hp := S.pow_le62 hj
  have hw := S.w64 (q := 2 ^ j) (by omega)
  rw [show ((2 ^ j : Nat) : Int) = 2 ^ j by simp] at hw
  rw [hw]
  have h1 := S.i64_or m (2 ^ j) hm (by omega)
  rw [← h1]; simp
theorem i_minus (s t : Nat) (hs : s < 9223372036854775808) (ht : t < 9223372036854775808) : bits .andNot .i64 (s : Int) (t : Int) = ((U.minus s t : Nat) : Int) := by
  have h := U.minus_le s t
  rw [S.b_andNot, S.nat_mod s hs, S.nat_mod t ht]
  exact S.wrap_n _ (by unfold U.minus at h; omega)
theorem every_n (o0 o1 o2 o3 o4 o5 : Option Addr) (n0 n1 n2 n n4 n5 c0 c1 c2 c3 c4 c5 : Nat) (hn : n ≤ 10) (w : World) :
    Calls Try.prog 68 #[.agg #[.slice o0 n0 c0, .slice o1 n1 c1, .slice o2 n2 c2, .slice o3 n c3, .slice o4 n4 c4, .slice o5 n5 c5]] w fun e w' => e = .returned (.int .i64 ((2 ^ n - 1 : Nat) : Int)) ∧ Below w.heap.size w w' := by
  have BI := below_alloc w (.cells #[.slice o0 n0 c0, .slice o1 n1 c1, .slice o2 n2 c2, .slice o3 n c3, .slice o4 n4 c4, .slice o5 n5 c5] 30)
  have HB := Lib.hid BI
  clear BI
  have hp10 := U.pow_le hn
  have hp0 : 0 < 2 ^ n := Nat.pow_pos (by omega)
  have hw : wrap64 (2 ^ n) = ((2 ^ n : Nat) : Int) := by
    have := S.w64 (q := 2 ^ n) (by omega)
    rw [← this]; simp
  have hmin : min (n : Int) 63 = n := by omega
  have HR : Hid (((2 ^ n - 1 : Nat) : Int) = ((2 ^ n : Nat) : Int) - 1) := by show _ = _; omega
  generalize ((2 ^ n - 1 : Nat) : Int) = r at *
  generalize hP : (2 : Nat) ^ n = P at *
  clear hP
  go_enter Try.func68, Try.ntmps68
  go_wp2_with fail
  go_ret
  exact ⟨ret_int (by rw [HR.out]), HB.out⟩

set_option maxHeartbeats 3200000 in
theorem waiting_n (n : Nat) (v : Value) (l : List (Int × Int)) (s d : Nat) (hn : n ≤ 10) (hr : U.Rt n l) (hl : l.length ≤ 1000) (hs : s < 2 ^ n) (hd : d < 2 ^ n) (w : World) (hv : Ps w v l) :
    Calls Try.prog 85 #[v, .int .i64 s, .int .i64 d] w fun e w' => e = .returned (.int .i64 (U.wtg l s d : Nat)) ∧ Below w.heap.size w w' := by
  have HV := Lib.hid hv
  obtain ⟨oa, c, rfl, -⟩ := hv
  have hp10 := U.pow_le hn
  have HE : Hid (U.wtgK l s d l.length = U.wtg l s d) := rfl
  have H0 : Hid (U.wtgK l s d 0 = 0) := rfl
  have HY := Lib.hid (fun k (h : (S.has s (U.pb (l.getD k (0, 0))) && !S.has d (U.pa (l.getD k (0, 0)))) = true) => (show U.wtgK l s d (k + 1) = U.wtgK l s d k ||| 2 ^ U.pb (l.getD k (0, 0)) by rw [U.wtgK, if_pos h]))
  have HNo := Lib.hid (fun k (h : (S.has s (U.pb (l.getD k (0, 0))) && !S.has d (U.pa (l.getD k (0, 0)))) = false) => (show U.wtgK l s d (k + 1) = U.wtgK l s d k by rw [U.wtgK, if_neg (by rw [h]; simp)]))
  have HLt := Lib.hid (fun k (h : k ≤ l.length) => Nat.lt_of_lt_of_le (U.wtgK_lt hr s d h) hp10)
  have HG := Lib.hid (fun k (h : k < l.length) => U.getD_rt hr h)
  have KA := Lib.hid (fun a (h : a < n) b (hb : S.has d a = b) w => S.tHas_n d a (by omega) (by omega) b (by exact hb) w)
  have KB := Lib.hid (fun a (h : a < n) b (hb : S.has s a = b) w => S.tHas_n s a (by omega) (by omega) b (by exact hb) w)
  clear hs hd hp10
  generalize U.wtg l s d = r at *
  generalize hm : l.length = m at *
  have HM := Lib.hid hm
  clear hr hm
  go_enter Try.func85, Try.ntmps85
  go_wp2_with fail
  go_loopg [7, 12] m (fun g f j wr => ∃ k : Nat, k ≤ m ∧ j = .int .i64 k ∧ m - k ≤ g ∧ f = .int .i64 (U.wtgK l s d k : Nat) ∧ Hid (Below w.heap.size w wr))
  case atStart => exact ⟨0, Nat.zero_le _, rfl, Nat.le_refl _, by rw [H0.out]; rfl, Below.refl _ _⟩
  case round =>
    obtain ⟨k, hk, rfl, hg, rfl, HB⟩ := hrel
    by_cases hlt : k < m
    · have hkI : (k : Int) < (m : Int) := by omega
      have hka : k < l.length := by rw [HM.out]; exact hlt
      obtain ⟨b, o, rfl, hab, x0, x1⟩ := ps_at (by have := HV.out.below HB.out; rw [← HM.out] at this; exact this) hka
      obtain ⟨ha, hb, he⟩ := HG.out k hlt
      have e0 : (l.getD k (0, 0)).1 = (U.pa (l.getD k (0, 0)) : Int) := congrArg Prod.fst he
      have e1 : (l.getD k (0, 0)).2 = (U.pb (l.getD k (0, 0)) : Int) := congrArg Prod.snd he
      rw [e0] at x0
      rw [e1] at x1
      have HYk := Lib.hid (HY.out k)
      have HNk := Lib.hid (HNo.out k)
      have hf9 := HLt.out k hk
      clear e0 e1 he
      generalize U.pa (l.getD k (0, 0)) = x at *
      generalize U.pb (l.getD k (0, 0)) = y at *
      have HB2 := Lib.hid (over HB.out (below_alloc wr (.cells #[.int .i64 x, .int .i64 y] 96)))
      generalize U.wtgK l s d k = f at *
      cases hh : S.has s y
      · have KBk := Lib.hid (fun w => KB.out _ hb false hh w)
        have HX : Hid (U.wtgK l s d (k + 1) = f) := HNk.out (by rw [hh]; rfl)
        clear hh HY HNo HYk HNk
        go_wp2_with fail
        refine (KBk.out _).mono ?_
        rintro e w1 ⟨rfl, rfl⟩
        go_wp2_with fail
        go_roundg (m - (k + 1))
        case measure => omega
        case rel => exact ⟨k + 1, by omega, by go_num, by omega, by rw [HX.out], HB2⟩
      · have KBk := Lib.hid (fun w => KB.out _ hb true hh w)
        cases hx : S.has d x
        · have KAk := Lib.hid (fun w => KA.out _ ha false hx w)
          have HX : Hid (U.wtgK l s d (k + 1) = f ||| 2 ^ y) := HYk.out (by rw [hh, hx]; rfl)
          have HS := or_bit f y (by omega) (by omega)
          obtain ⟨f2, hf2⟩ : ∃ f2, f ||| 2 ^ y = f2 := ⟨_, rfl⟩
          rw [hf2] at HS HX
          clear hh hx hf2 HY HNo HYk HNk
          go_wp2_with fail
          refine (KBk.out _).mono ?_
          rintro e w1 ⟨rfl, rfl⟩
          go_wp2_with fail
          refine (KAk.out _).mono ?_
          rintro e w1 ⟨rfl, rfl⟩
          go_wp2_with fail
          go_roundg (m - (k + 1))
          case measure => omega
          case rel => exact ⟨k + 1, by omega, by go_num, by omega, by rw [HX.out], HB2⟩
        · have KAk := Lib.hid (fun w => KA.out _ ha true hx w)
          have HX : Hid (U.wtgK l s d (k + 1) = f) := HNk.out (by rw [hh, hx]; rfl)
          clear hh hx HY HNo HYk HNk
          go_wp2_with fail
          refine (KBk.out _).mono ?_
          rintro e w1 ⟨rfl, rfl⟩
          go_wp2_with fail
          refine (KAk.out _).mono ?_
          rintro e w1 ⟨rfl, rfl⟩
          go_wp2_with fail
          go_roundg (m - (k + 1))
          case measure => omega
          case rel => exact ⟨k + 1, by omega, by go_num, by omega, by rw [HX.out], HB2⟩
    · have hkk : k = m := by omega
      have HR : Hid (U.wtgK l s d k = r) := by show _ = _; rw [hkk]; exact HE.out
      have hkI : ¬ (k : Int) < (m : Int) := by omega
      generalize U.wtgK l s d k = f at *
      go_wp2_with fail
      go_ret
      exact ⟨ret_int (by rw [HR.out]), HB.out⟩

set_option maxHeartbeats 3200000 in
theorem hasPair_n (n : Nat) (v : Value) (l : List (Int × Int)) (s : Nat) (hn : n ≤ 10) (hr : U.Rt n l) (hl : l.length ≤ 1000) (hs : s < 2 ^ n) (w : World) (hv : Ps w v l) :
    Calls Try.prog 70 #[v, .int .i64 s] w fun e w' => e = .returned (.bool (U.apartE l s)) ∧ Below w.heap.size w w' := by
  have HV := Lib.hid hv
  obtain ⟨oa, c, rfl, -⟩ := hv
  have hp10 := U.pow_le hn
  have HY : Hid (∀ i, i < l.length → (S.has s (U.pa (l.getD i (0, 0))) && S.has s (U.pb (l.getD i (0, 0)))) = true → U.apartE l s = true) := fun i hi h => anyl_yes (p := fun p => S.has s (U.pa p) && S.has s (U.pb p)) hi h
  have HNo : Hid ((∀ i, i < l.length → (S.has s (U.pa (l.getD i (0, 0))) && S.has s (U.pb (l.getD i (0, 0)))) = false) → U.apartE l s = false) := fun h => anyl_no (p := fun p => S.has s (U.pa p) && S.has s (U.pb p)) h
  have HG := Lib.hid (fun k (h : k < l.length) => U.getD_rt hr h)
  have KB := Lib.hid (fun a (h : a < n) b (hb : S.has s a = b) w => S.tHas_n s a (by omega) (by omega) b (by exact hb) w)
  clear hs hp10
  generalize U.apartE l s = r at *
  generalize hm : l.length = m at *
  have HM := Lib.hid hm
  clear hr hm
  go_enter Try.func70, Try.ntmps70
  go_wp2_with fail
  go_loopg [9] m (fun g j wr => ∃ k : Nat, k ≤ m ∧ j = .int .i64 k ∧ m - k ≤ g ∧ Hid (∀ i, i < k → (S.has s (U.pa (l.getD i (0, 0))) && S.has s (U.pb (l.getD i (0, 0)))) = false) ∧ Hid (Below w.heap.size w wr))
  case atStart => exact ⟨0, Nat.zero_le _, rfl, Nat.le_refl _, fun i hi => absurd hi (Nat.not_lt_zero _), Below.refl _ _⟩
  case round =>
    obtain ⟨k, hk, rfl, hg, HK, HB⟩ := hrel
    by_cases hlt : k < m
    · have hkI : (k : Int) < (m : Int) := by omega
      have hka : k < l.length := by rw [HM.out]; exact hlt
      obtain ⟨b, o, rfl, hab, x0, x1⟩ := ps_at (by have := HV.out.below HB.out; rw [← HM.out] at this; exact this) hka
      obtain ⟨ha, hb, he⟩ := HG.out k hlt
      have e0 : (l.getD k (0, 0)).1 = (U.pa (l.getD k (0, 0)) : Int) := congrArg Prod.fst he
      have e1 : (l.getD k (0, 0)).2 = (U.pb (l.getD k (0, 0)) : Int) := congrArg Prod.snd he
      rw [e0] at x0
      rw [e1] at x1
      have HYk := Lib.hid (HY.out k hlt)
      have HMore := Lib.hid (fun h => less_more (k := k) HK.out h)
      clear e0 e1 he
      generalize U.pa (l.getD k (0, 0)) = x at *
      generalize U.pb (l.getD k (0, 0)) = y at *
      have HB2 := Lib.hid (over HB.out (below_alloc wr (.cells #[.int .i64 x, .int .i64 y] 96)))
      cases hx : S.has s x
      · have KAk := Lib.hid (fun w => KB.out _ ha false hx w)
        have HK2 := Lib.hid (HMore.out (by rw [hx]; rfl))
        clear hx
        go_wp2_with fail
        refine (KAk.out _).mono ?_
        rintro e w1 ⟨rfl, rfl⟩
        go_wp2_with fail
        go_roundg (m - (k + 1))
        case measure => omega
        case rel => exact ⟨k + 1, by omega, by go_num, by omega, HK2, HB2⟩
      · have KAk := Lib.hid (fun w => KB.out _ ha true hx w)
        cases hh : S.has s y
        · have KBk := Lib.hid (fun w => KB.out _ hb false hh w)
          have HK2 := Lib.hid (HMore.out (by rw [hx, hh]; rfl))
          clear hx hh
          go_wp2_with fail
          refine (KAk.out _).mono ?_
          rintro e w1 ⟨rfl, rfl⟩
          go_wp2_with fail
          refine (KBk.out _).mono ?_
          rintro e w1 ⟨rfl, rfl⟩
          go_wp2_with fail
          go_roundg (m - (k + 1))
          case measure => omega
          case rel => exact ⟨k + 1, by omega, by go_num, by omega, HK2, HB2⟩
        · have KBk := Lib.hid (fun w => KB.out _ hb true hh w)
          have HX : Hid (r = true) := HYk.out (by rw [hx, hh]; rfl)
          clear hx hh
          go_wp2_with fail
          refine (KAk.out _).mono ?_
          rintro e w1 ⟨rfl, rfl⟩
          go_wp2_with fail
          refine (KBk.out _).mono ?_
          rintro e w1 ⟨rfl, rfl⟩
          go_wp2_with fail
          go_ret
          exact ⟨ret_bool (by rw [HX.out]), HB2.out⟩
    · have hkk : k = m := by omega
      have HX : Hid (r = false) := HNo.out (by rw [← hkk]; exact HK.out)
      have hkI : ¬ (k : Int) < (m : Int) := by omega
      go_wp2_with fail
      go_ret
      exact ⟨ret_bool (by rw [HX.out]), HB.out⟩

set_option maxHeartbeats 3200000 in
theorem hasCancelled_n (n c : Nat) (oa : Option Addr) (off : Nat → Bool) (s : Nat) (hn : n ≤ 10) (hs : s < 2 ^ n) (w : World) (ho : Ofs w oa n off) :
    Calls Try.prog 69 #[.slice oa n c, .int .i64 s] w fun e w' => e = .returned (.bool (U.offE n off s)) ∧ Below w.heap.size w w' := by
  have HO := Lib.hid ho
  have hp10 := U.pow_le hn
  have HY : Hid (∀ i, i < n → (S.has s i && off i) = true → U.offE n off s = true) := fun i hi h => any_yes (p := fun i => S.has s i && off i) hi h
  have HNo : Hid ((∀ i, i < n → (S.has s i && off i) = false) → U.offE n off s = false) := fun h => any_no (p := fun i => S.has s i && off i) h
  have KB := Lib.hid (fun a (h : a < n) b (hb : S.has s a = b) w => S.tHas_n s a (by omega) (by omega) b (by exact hb) w)
  clear hs hp10 ho
  generalize U.offE n off s = r at *
  go_enter Try.func69, Try.ntmps69
  go_wp2_with fail
  go_loopg [8] n (fun g j wr => ∃ k : Nat, k ≤ n ∧ j = .int .i64 k ∧ n - k ≤ g ∧ Hid (∀ i, i < k → (S.has s i && off i) = false) ∧ Hid (Below w.heap.size w wr))
  case atStart => exact ⟨0, Nat.zero_le _, rfl, Nat.le_refl _, fun i hi => absurd hi (Nat.not_lt_zero _), Below.refl _ _⟩
  case round =>
    obtain ⟨k, hk, rfl, hg, HK, HB⟩ := hrel
    by_cases hlt : k < n
    · have hkI : (k : Int) < (n : Int) := by omega
      obtain ⟨b, o, rfl, hab, x15⟩ := Ofs.below HO.out HB.out k hlt
      have HYk := Lib.hid (HY.out k hlt)
      have HMore := Lib.hid (fun h => less_more (k := k) HK.out h)
      cases hof : off k
      · rw [hof] at x15
        have HK2 := Lib.hid (HMore.out (by rw [hof, Bool.and_false]))
        clear hof
        go_wp2_with fail
        go_roundg (n - (k + 1))
        case measure => omega
        case rel => exact ⟨k + 1, by omega, by go_num, by omega, HK2, HB⟩
      · rw [hof] at x15
        cases hx : S.has s k
        · have KAk := Lib.hid (fun w => KB.out _ hlt false hx w)
          have HK2 := Lib.hid (HMore.out (by rw [hx]; rfl))
          clear hof hx
          go_wp2_with fail
          refine (KAk.out _).mono ?_
          rintro e w1 ⟨rfl, rfl⟩
          go_wp2_with fail
          go_roundg (n - (k + 1))
          case measure => omega
          case rel => exact ⟨k + 1, by omega, by go_num, by omega, HK2, HB⟩
        · have KAk := Lib.hid (fun w => KB.out _ hlt true hx w)
          have HX : Hid (r = true) := HYk.out (by rw [hx, hof]; rfl)
          clear hof hx
          go_wp2_with fail
          refine (KAk.out _).mono ?_
          rintro e w1 ⟨rfl, rfl⟩
          go_wp2_with fail
          go_ret
          exact ⟨ret_bool (by rw [HX.out]), HB.out⟩
    · have hkk : k = n := by omega
      have HX : Hid (r = false) := HNo.out (by rw [← hkk]; exact HK.out)
      have hkI : ¬ (k : Int) < (n : Int) := by omega
      go_wp2_with fail
      go_ret
      exact ⟨ret_bool (by rw [HX.out]), HB.out⟩

set_option maxHeartbeats 3200000 in
theorem canFollow_n (n : Nat) (v : Value) (l : List (Int × Int)) (s : Nat) (hn : n ≤ 10) (hr : U.Rt n l) (hl : l.length ≤ 1000) (hs : s < 2 ^ n) (w : World) (hv : Ps w v l) :
    Calls Try.prog 71 #[v, .int .i64 s] w fun e w' => e = .returned (.bool (U.canF n l s)) ∧ Below w.heap.size w w' := by
  have HV := Lib.hid hv
  obtain ⟨oa, c, rfl, -⟩ := hv
  have hp10 := U.pow_le hn
  have HW := Lib.hid (fun d (hd : d < 2 ^ n) w hv => waiting_n n (.slice oa l.length c) l s d hn hr hl hs hd w hv)
  have HI0 := Lib.hid (U.CfI.start l s)
  have HIlt := Lib.hid (fun d (h : U.CfI l s d) => U.CfI.lt hs h)
  have HIst := Lib.hid (fun d (h : U.CfI l s d) => U.CfI.step hr hn hs h)
  have HIgr := Lib.hid (fun d (h : U.CfI l s d) => U.CfI.grow hr hn hs h)
  have HIfx := Lib.hid (fun d (h : U.CfI l s d) => U.CfI.fix hr hn hs h)
  have HWl : Hid (∀ d, U.wtg l s d < 2 ^ n) := fun d => U.wtgK_lt hr s d (Nat.le_refl _)
  have HFo : Hid (∀ d, U.minus s (U.wtg l s d) = U.fol l s d) := fun _ => rfl
  have hs9 : s < 1024 := by omega
  generalize U.canF n l s = r at *
  generalize hm : l.length = m at *
  generalize 2 ^ n = P at *
  clear hr hm hs
  go_enter Try.func71, Try.ntmps71
  go_wp2_with fail
  go_loopg [5, 6] (P + 1) (fun g dv tv wr => ∃ (d : Nat) (t : Int), dv = .int .i64 d ∧ tv = .int .i64 t ∧ -1 ≤ t ∧ t ≤ d ∧ ((P : Int) - t).toNat ≤ g ∧ Hid (U.CfI l s d) ∧ Hid (0 ≤ t → U.fol l s t.toNat = d) ∧ Hid (Below w.heap.size w wr))
  case atStart => exact ⟨0, -1, rfl, rfl, by omega, by omega, by omega, HI0, fun h => absurd h (by decide), Below.refl _ _⟩
  case round =>
    obtain ⟨d, t, rfl, rfl, ht0, ht1, hg, HI, HF, HB⟩ := hrel
    have hdP := HIlt.out d HI.out
    by_cases he : (d : Int) = t
    · have HX : Hid ((d == s) = r) := HIfx.out d HI.out (by have := HF.out (by omega); rw [← he, Int.toNat_natCast] at this; exact this)
      have hd' : ((d : Int) == (s : Int)) = (d == s) := by
        rw [Bool.eq_iff_iff, beq_iff_eq, beq_iff_eq]; omega
      have HD := Lib.hid hd'
      have hne : ((d : Int) != t) = false := by rw [he]; simp
      subst he
      clear hd'
      go_wp2_with fail
      go_ret
      exact ⟨ret_bool (by rw [← HX.out, ← HD.out]), HB.out⟩
    · have hne : ((d : Int) != t) = true := by rw [bne_iff_ne]; exact he
      have htd : t < (d : Int) := by omega
      have HVw := Lib.hid (HV.out.below HB.out)
      have KW := Lib.hid (fun w hv => HW.out d hdP w hv)
      have hwl := HWl.out d
      have HFod := Lib.hid (HFo.out d)
      have HI2 := Lib.hid (HIst.out d HI.out)
      have hgr := HIgr.out d HI.out
      generalize U.wtg l s d = wt at *
      have HM := i_minus s wt (by omega) (by omega)
      rw [HFod.out] at HM
      have HF2 : Hid (0 ≤ (d : Int) → U.fol l s (d : Int).toNat = U.fol l s d) := fun _ => by rw [Int.toNat_natCast]
      generalize U.fol l s d = d2 at *
      clear he
      go_wp2_with fail
      refine (KW.out _ HVw.out).mono ?_
      rintro e w1 ⟨rfl, b1⟩
      have HB1 := Lib.hid (over HB.out b1)
      clear b1
      go_wp2_with fail
      go_roundg ((P : Int) - d).toNat
      case measure => omega
      case rel => exact ⟨d2, d, rfl, rfl, by omega, by omega, Nat.le_refl _, HI2, HF2, HB1⟩

end Go.Proofs.Ytoliacfpjhanlaa.T



/-! The walks of the landed rules' Needs, Allowed, Never. -/
namespace Go.Proofs.Ytoliacfpjhanlaa.T
open Go.RowKit
set_option maxRecDepth 8000

theorem within_full {s n : Nat} (hs : s < 2 ^ n) : S.withinB s (2 ^ n - 1) = true := by
  rw [S.withinB, List.all_eq_true]
  intro i hi
  exact U.has_full (U.lt_has hs ((S.mem_iff _ 63 i).1 hi).2)
theorem within_not {s n : Nat} (hs : 2 ^ n ≤ s) (hs9 : s < 2 ^ 63) : S.withinB s (2 ^ n - 1) = false := by
  cases h : S.withinB s (2 ^ n - 1)
  · rfl
  · rw [S.withinB, List.all_eq_true] at h
    have : s < 2 ^ n := U.has_lt fun i hi => by
      have h1 : i < 63 := U.lt_has hs9 hi
      have h2 := h i ((S.mem_iff _ 63 i).2 ⟨h1, hi⟩)
      rw [U.has_bit, Nat.testBit_two_pow_sub_one, decide_eq_true_iff] at h2
      exact h2
    omega

set_option maxHeartbeats 3200000 in
theorem allowedT_n (o0 o1 o2 o3 o4 o5 : Option Addr) (n0 n1 n2 n c0 c1 c2 c3 c4 c5 : Nat) (off : Nat → Bool) (ap be : List (Int × Int)) (q : Int) (hq : -9223372036854775808 ≤ q ∧ q ≤ 9223372036854775807) (hn : n ≤ 10) (hra : U.Rt n ap) (hr : U.Rt n be) (hla : ap.length ≤ 1000) (hl : be.length ≤ 1000) (w : World) (ho : Ofs w o3 n off) (hv : Ps w (.slice o4 ap.length c4) ap) (hu : Ps w (.slice o5 be.length c5) be) :
    Calls Try.prog 36 #[.agg #[.slice o0 n0 c0, .slice o1 n1 c1, .slice o2 n2 c2, .slice o3 n c3, .slice o4 ap.length c4, .slice o5 be.length c5], .int .i64 q] w fun e w' => e = .returned (.int .i64 (U.allowE n off ap be q)) ∧ Below w.heap.size w w' := by
  have BI := below_alloc w (.cells #[.slice o0 n0 c0, .slice o1 n1 c1, .slice o2 n2 c2, .slice o3 n c3, .slice o4 ap.length c4, .slice o5 be.length c5] 30)
  have I0 := Ib.made w (.slice o0 n0 c0) (.slice o1 n1 c1) (.slice o2 n2 c2) (.slice o3 n c3) (.slice o4 ap.length c4) (.slice o5 be.length c5)
  have KE := Lib.hid (fun w => every_n o0 o1 o2 o3 o4 o5 n0 n1 n2 n ap.length be.length c0 c1 c2 c3 c4 c5 hn w)
  have HV := Lib.hid (hv.below BI)
  have HU := Lib.hid (hu.below BI)
  have HO := Lib.hid (ho.below BI)
  have HB := Lib.hid BI
  have i0 := I0.c0
  have i1 := I0.c1
  have i2 := I0.c2
  have i3 := I0.c3
  have i4 := I0.c4
  have i5 := I0.c5
  have hql := I0.lt
  obtain ⟨W0, hW0⟩ : ∃ W0, w.alloc (.cells #[.slice o0 n0 c0, .slice o1 n1 c1, .slice o2 n2 c2, .slice o3 n c3, .slice o4 ap.length c4, .slice o5 be.length c5] 30) = W0 := ⟨_, rfl⟩
  rw [hW0] at HV HU HO HB i0 i1 i2 i3 i4 i5 hql
  have HW0 := Lib.hid hW0
  clear BI I0 hu hv ho hW0
  have hp10 := U.pow_le hn
  by_cases h0 : q < 0
  · have HX : Hid (2 = U.allowE n off ap be q) := by show _ = _; unfold U.allowE; rw [if_pos (.inl h0)]
    generalize U.allowE n off ap be q = r at *
    clear hr hra KE hp10
    go_enter Try.func36, Try.ntmps36
    go_upto_region 1 with fail
    rw [HW0.out]
    go_wp2_with fail
    go_ret
    exact ⟨ret_int HX.out, HB.out⟩
  have h0I : decide (q < 0) = false := decide_eq_false h0
  obtain ⟨s, rfl⟩ := Int.eq_ofNat_of_zero_le (show 0 ≤ q by omega)
  have hs9 : s < 2 ^ 63 := by omega
  have KW := Lib.hid (fun w => S.setWithin_n s (2 ^ n - 1) hs9 (by omega) w)
  by_cases hs : s < 2 ^ n
  · rw [within_full hs] at KW
    have KC := Lib.hid (fun w ho => hasCancelled_n n c3 o3 off s hn hs w ho)
    have KP := Lib.hid (fun w hv => hasPair_n n (.slice o4 ap.length c4) ap s hn hra hla hs w hv)
    have KF := Lib.hid (fun w hv => canFollow_n n (.slice o5 be.length c5) be s hn hr hl hs w hv)
    have HR : Hid ((if U.offE n off s then 9 else if U.apartE ap s then 20 else if U.canF n be s then 0 else 21) = U.allowE n off ap be (s : Int)) := by show _ = _; rw [U.allowE_nat hs, U.allow_can]
    generalize U.allowE n off ap be (s : Int) = r at *
    generalize U.offE n off s = b1 at *
    generalize U.apartE ap s = b2 at *
    generalize U.canF n be s = b3 at *
    generalize ap.length = ma at *
    generalize be.length = mb at *
    generalize 2 ^ n - 1 = qn at *
    clear hr hra h0 hp10 hs
    go_enter Try.func36, Try.ntmps36
    go_upto_region 1 with fail
    rw [HW0.out]
    go_wp2_with fail
    refine (KE.out _).mono ?_
    rintro e w1 ⟨rfl, d1⟩
    have HB1 := Lib.hid (over HB.out d1)
    have HU1 := Lib.hid (HU.out.below d1)
    have HV1 := Lib.hid (HV.out.below d1)
    have HO1 := Lib.hid (HO.out.below d1)
    have i3 := (d1.cell (p := ⟨w.heap.size, 3, none⟩) hql).trans i3
    have i4 := (d1.cell (p := ⟨w.heap.size, 4, none⟩) hql).trans i4
    have i5 := (d1.cell (p := ⟨w.heap.size, 5, none⟩) hql).trans i5
    have hql := Nat.lt_of_lt_of_le hql d1.size
    clear d1 HB HU HV HO HW0 i0 i1 i2
    go_wp2_with fail
    refine (KW.out _).mono ?_
    rintro e w2 ⟨rfl, rfl⟩
    go_wp2_with fail
    refine (KC.out _ HO1.out).mono ?_
    rintro e w2 ⟨rfl, d2⟩
    have HB2 := Lib.hid (over HB1.out d2)
    have HU2 := Lib.hid (HU1.out.below d2)
    have HV2 := Lib.hid (HV1.out.below d2)
    have i4 := (d2.cell (p := ⟨w.heap.size, 4, none⟩) hql).trans i4
    have i5 := (d2.cell (p := ⟨w.heap.size, 5, none⟩) hql).trans i5
    have hql := Nat.lt_of_lt_of_le hql d2.size
    clear d2 HB1 HU1 HV1 HO1 i3
    cases b1
    · go_wp2_with fail
      refine (KP.out _ HV2.out).mono ?_
      rintro e w3 ⟨rfl, d3⟩
      have HB3 := Lib.hid (over HB2.out d3)
      have HU3 := Lib.hid (HU2.out.below d3)
      have i5 := (d3.cell (p := ⟨w.heap.size, 5, none⟩) hql).trans i5
      clear d3 HB2 HU2 HV2 i4
      cases b2
      · go_wp2_with fail
        refine (KF.out _ HU3.out).mono ?_
        rintro e w4 ⟨rfl, d4⟩
        have HB4 := Lib.hid (over HB3.out d4)
        clear d4 HB3 HU3 i5
        cases b3
        · go_wp2_with fail
          go_ret
          exact ⟨ret_int HR.out, HB4.out⟩
        · go_wp2_with fail
          go_ret
          exact ⟨ret_int HR.out, HB4.out⟩
      · go_wp2_with fail
        go_ret
        exact ⟨ret_int HR.out, HB3.out⟩
    · go_wp2_with fail
      go_ret
      exact ⟨ret_int HR.out, HB2.out⟩
  · rw [within_not (by omega) hs9] at KW
    have HX : Hid (2 = U.allowE n off ap be (s : Int)) := by show _ = _; unfold U.allowE; rw [if_pos (.inr (by omega))]
    generalize U.allowE n off ap be (s : Int) = r at *
    generalize 2 ^ n - 1 = qn at *
    clear hr hra hs h0 hp10
    go_enter Try.func36, Try.ntmps36
    go_upto_region 1 with fail
    rw [HW0.out]
    go_wp2_with fail
    refine (KE.out _).mono ?_
    rintro e w1 ⟨rfl, d1⟩
    have HB1 := Lib.hid (over HB.out d1)
    clear d1 HB HU HV HO HW0
    go_wp2_with fail
    refine (KW.out _).mono ?_
    rintro e w2 ⟨rfl, rfl⟩
    go_wp2_with fail
    go_ret
    exact ⟨ret_int HX.out, HB1.out⟩

end Go.Proofs.Ytoliacfpjhanlaa.T



