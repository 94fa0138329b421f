/-
  DERIVED. KPX: a part of the base of layer 13 (made by pack.py).
-/
import Derived.Test.YtaallpebfcadjaaGreatDoorKPW
import Derived.Test.YtaallpebfcadjaaGreatDoorKPR
import Derived.Test.YtaallpebfcadjaaGreatDoorKPG
import Derived.Laws.AppendOwnNone
import Derived.Maps.AppendAt
import Derived.Deep.DeepCutAuto
import Derived.Deep.Cut
import Derived.Deep.CutRange
import Derived.Test.YtaallpebfcadjaaGreatDoorShelf
import Derived.Test.YtaallpebfcadjaaGreatDoorKPA
import Derived.Deep.RegionHeld3
import Derived.Lib.ItoaNum
import Derived.Shelf.Abstract
/-! Plain Lean: pairs of orders, chains, the sets that follow. -/
namespace Go.Proofs.YtaallpebfcadjaaGreatDoor.U

theorem has_bit (n i : Nat) : S.has n i = n.testBit i := by
  unfold S.has
  rw [Nat.testBit_eq_decide_div_mod_eq, Bool.eq_iff_iff]
  simp
theorem has_zero (i : Nat) : S.has 0 i = false := by rw [has_bit, Nat.zero_testBit]
theorem has_ext {a b : Nat} (h : ∀ i, S.has a i = S.has b i) : a = b := Nat.eq_of_testBit_eq fun i => by rw [← has_bit, ← has_bit]; exact h i
theorem has_add {s j : Nat} (h : S.has s j = false) (i : Nat) : S.has (s + 2 ^ j) i = (S.has s i || decide (i = j)) := by
  have e : s + 2 ^ j = s ||| 2 ^ j := by
    rw [has_bit] at h
    have h0 : 2 ^ j &&& s = 0 := Nat.eq_of_testBit_eq fun k => by
      rw [Nat.testBit_and, Nat.testBit_two_pow, Nat.zero_testBit]
      by_cases e : j = k
      · subst e; rw [h, Bool.and_false]
      · rw [decide_eq_false e, Bool.false_and]
    have := Nat.two_pow_add_eq_or_of_lt (i := j) (b := s % 2 ^ j) (Nat.mod_lt _ (Nat.pow_pos (by omega))) (s / 2 ^ j + 1)
    have h1 := Nat.div_add_mod s (2 ^ j)
    have h3 : s / 2 ^ j % 2 = 0 := by
      rw [Nat.testBit_eq_decide_div_mod_eq] at h
      have : ¬ s / 2 ^ j % 2 = 1 := by simpa using h
      omega
    refine Nat.eq_of_testBit_eq fun k => ?_
    rw [Nat.testBit_or, Nat.testBit_two_pow]
    rw [show s + 2 ^ j = 2 ^ j * (s / 2 ^ j + 1) + s % 2 ^ j by rw [Nat.mul_add, Nat.mul_one]; omega, this, Nat.testBit_or, Nat.testBit_mod_two_pow, Nat.testBit_two_pow_mul]
    by_cases hk : k < j
    · rw [decide_eq_true hk, decide_eq_false (show ¬ k ≥ j by omega), decide_eq_false (show ¬ j = k by omega)]
      simp
    · rw [decide_eq_false hk, decide_eq_true (show k ≥ j by omega)]
      rw [Nat.testBit_eq_decide_div_mod_eq, Nat.testBit_eq_decide_div_mod_eq]
      by_cases e : k = j
      · subst e
        simp
        omega
      · obtain ⟨d, rfl⟩ : ∃ d, k = j + (d + 1) := ⟨k - j - 1, by omega⟩
        have e1 : s / 2 ^ (j + (d + 1)) = s / 2 ^ j / 2 / 2 ^ d := by rw [Nat.pow_add, ← Nat.div_div_eq_div_mul, Nat.pow_succ', ← Nat.div_div_eq_div_mul]
        have e2 : (s / 2 ^ j + 1) / 2 ^ (d + 1) = s / 2 ^ j / 2 / 2 ^ d := by rw [Nat.pow_succ', ← Nat.div_div_eq_div_mul, show (s / 2 ^ j + 1) / 2 = s / 2 ^ j / 2 by omega]
        rw [show j + (d + 1) - j = d + 1 by omega, decide_eq_false (show ¬ j = j + (d + 1) by omega), e1, e2]
        simp
  rw [e, has_bit, Nat.testBit_or, Nat.testBit_two_pow, ← has_bit]
  congr 1
  rw [decide_eq_decide]
  exact eq_comm
theorem has_lt {s n : Nat} (h : ∀ i, S.has s i = true → i < n) : s < 2 ^ n := by
  apply Nat.lt_pow_two_of_testBit
  intro i hi
  cases hb : s.testBit i
  · rfl
  · have := h i (by rw [has_bit]; exact hb)
    omega
theorem lt_has {s n i : Nat} (h : s < 2 ^ n) (hi : S.has s i = true) : i < n := by
  apply Decidable.byContradiction
  intro hc
  rw [has_bit, Nat.testBit_lt_two_pow (Nat.lt_of_lt_of_le h (Nat.pow_le_pow_right (by omega) (by omega)))] at hi
  cases hi

/-! ### chains -/
def pa (p : Int × Int) : Nat := p.1.toNat
def pb (p : Int × Int) : Nat := p.2.toNat
def Rt (n : Nat) (l : List (Int × Int)) : Prop := ∀ p ∈ l, 0 ≤ p.1 ∧ p.1 < n ∧ 0 ≤ p.2 ∧ p.2 < n ∧ p.1 ≠ p.2
theorem Rt.a {n : Nat} {l : List (Int × Int)} (h : Rt n l) {p : Int × Int} (hp : p ∈ l) : pa p < n ∧ pb p < n ∧ pa p ≠ pb p ∧ p = ((pa p : Int), (pb p : Int)) := by
  obtain ⟨h1, h2, h3, h4, h5⟩ := h p hp
  unfold pa pb
  refine ⟨by omega, by omega, by omega, ?_⟩
  obtain ⟨x, y⟩ := p
  simp only at h1 h3 ⊢
  rw [Int.toNat_of_nonneg h1, Int.toNat_of_nonneg h3]
/-- there is a chain -/
inductive Ch (l : List (Int × Int)) (a : Nat) : Nat → Prop
  | one {p : Int × Int} : p ∈ l → pa p = a → Ch l a (pb p)
  | more {p : Int × Int} : Ch l a (pa p) → p ∈ l → Ch l a (pb p)
theorem Ch.trans {l : List (Int × Int)} {a b c : Nat} (h : Ch l a b) (h2 : Ch l b c) : Ch l a c := by
  induction h2 with
  | one hp e => subst e; exact h.more hp
  | more _ hp ih => exact ih.more hp
theorem Ch.lt {n : Nat} {l : List (Int × Int)} (hr : Rt n l) {a b : Nat} (h : Ch l a b) : a < n ∧ b < n := by
  induction h with
  | one hp e => subst e; exact ⟨(hr.a hp).1, (hr.a hp).2.1⟩
  | more _ hp ih => exact ⟨ih.1, (hr.a hp).2.1⟩
/-- a set that has with the end of each pair its beginning has all that a member needs -/
theorem Ch.back {l : List (Int × Int)} {s : Nat} (hc : ∀ p ∈ l, S.has s (pb p) = true → S.has s (pa p) = true) {a b : Nat} (h : Ch l a b) (hb : S.has s b = true) : S.has s a = true := by
  induction h with
  | one hp e => subst e; exact hc _ hp hb
  | more _ hp ih => exact ih (hc _ hp hb)

/-! ### what a chain leads to -/
def stepR (f s : Nat) (p : Int × Int) : Nat := if (decide (pa p = f) || S.has s (pa p)) && !S.has s (pb p) then s + 2 ^ pb p else s
def roundR (f : Nat) (l : List (Int × Int)) (s : Nat) : Nat := l.foldl (stepR f) s
def reachK (f : Nat) (l : List (Int × Int)) : Nat → Nat
  | 0 => 0
  | k + 1 => roundR f l (reachK f l k)
def reach (n : Nat) (l : List (Int × Int)) (f : Nat) : Nat := reachK f l (n + 1)
theorem step_has (f s : Nat) (p : Int × Int) (i : Nat) : S.has (stepR f s p) i = (S.has s i || ((decide (pa p = f) || S.has s (pa p)) && decide (i = pb p))) := by
  unfold stepR
  cases h : S.has s (pb p)
  · cases h2 : (decide (pa p = f) || S.has s (pa p))
    · simp
    · rw [if_pos (by rfl), has_add h, Bool.true_and]
  · rw [if_neg (by simp)]
    by_cases e : i = pb p
    · subst e; rw [h]; rfl
    · rw [decide_eq_false e, Bool.and_false, Bool.or_false]
theorem step_mono (f s : Nat) (p : Int × Int) {i : Nat} (h : S.has s i = true) : S.has (stepR f s p) i = true := by rw [step_has, h]; rfl
theorem step_le (f s : Nat) (p : Int × Int) : s ≤ stepR f s p := by
  unfold stepR
  split
  · exact Nat.le_add_right _ _
  · exact Nat.le_refl _
theorem round_mono (f : Nat) (l : List (Int × Int)) : ∀ (s : Nat) {i : Nat}, S.has s i = true → S.has (roundR f l s) i = true := by
  induction l with
  | nil => intro s i h; exact h
  | cons p l ih => intro s i h; exact ih (stepR f s p) (step_mono f s p h)
theorem round_le (f : Nat) (l : List (Int × Int)) : ∀ s, s ≤ roundR f l s := by
  induction l with
  | nil => intro s; exact Nat.le_refl _
  | cons p l ih => intro s; exact Nat.le_trans (step_le f s p) (ih _)
/-- a round that changes nothing: the set is closed -/
theorem round_fix (f : Nat) (l : List (Int × Int)) : ∀ s, roundR f l s = s → ∀ p ∈ l, (pa p = f ∨ S.has s (pa p) = true) → S.has s (pb p) = true := by
  induction l with
  | nil => intro s _ p hp; cases hp
  | cons q l ih =>
    intro s h p hp hc
    have h1 := step_le f s q
    have h2 := round_le f l (stepR f s q)
    have h3 : roundR f l (stepR f s q) = s := h
    have h4 : stepR f s q = s := by omega
    rcases List.mem_cons.1 hp with rfl | hp
    · have h5 := step_has f s p (pb p)
      rw [h4] at h5
      rw [h5]
      rcases hc with hc | hc
      · rw [decide_eq_true hc]; simp
      · rw [hc]; simp
    · rw [h4] at h3
      exact ih s h3 p hp hc
theorem round_sound (f : Nat) (l0 : List (Int × Int)) : ∀ (l : List (Int × Int)), (∀ p ∈ l, p ∈ l0) → ∀ s, (∀ i, S.has s i = true → Ch l0 f i) → ∀ i, S.has (roundR f l s) i = true → Ch l0 f i := by
  intro l
  induction l with
  | nil => intro _ s h i hi; exact h i hi
  | cons p l ih =>
    intro hl s h
    refine ih (fun q hq => hl q (List.mem_cons_of_mem _ hq)) (stepR f s p) fun i hi => ?_
    rw [step_has, Bool.or_eq_true, Bool.and_eq_true, Bool.or_eq_true, decide_eq_true_iff, decide_eq_true_iff] at hi
    rcases hi with hi | ⟨hi, rfl⟩
    · exact h i hi
    · have hp := hl p (List.mem_cons_self ..)
      rcases hi with hi | hi
      · exact Ch.one hp hi
      · exact (h _ hi).more hp
theorem reach_sound {l : List (Int × Int)} (f : Nat) : ∀ k i, S.has (reachK f l k) i = true → Ch l f i
  | 0, i, h => by rw [reachK, has_zero] at h; cases h
  | k + 1, i, h => round_sound f l l (fun _ h => h) _ (reach_sound f k) i h
theorem filter_lt {α : Type} (p q : α → Bool) (l : List α) (hpq : ∀ x, p x = true → q x = true) {x : α} (hx : x ∈ l) (h1 : q x = true) (h2 : p x = false) : (l.filter p).length < (l.filter q).length := by
  have hle : ∀ l : List α, (l.filter p).length ≤ (l.filter q).length := by
    intro l
    induction l with
    | nil => exact Nat.le_refl _
    | cons y l ih =>
      rw [List.filter_cons, List.filter_cons]
      cases hp : p y
      · cases hq : q y
        · simpa using ih
        · simp; omega
      · rw [hpq y hp]; simp; exact ih
  induction l with
  | nil => cases hx
  | cons y l ih =>
    rw [List.filter_cons, List.filter_cons]
    rcases List.mem_cons.1 hx with rfl | hx
    · rw [h1, h2]; simp; have := hle l; omega
    · have := ih hx
      cases hp : p y
      · cases hq : q y
        · simpa using this
        · simp; omega
      · rw [hpq y hp]; simp; exact this
theorem reach_stops {n : Nat} {l : List (Int × Int)} (hr : Rt n l) (f : Nat) : ∃ k, k ≤ n ∧ reachK f l (k + 1) = reachK f l k := by
  apply Classical.byContradiction
  intro hc
  have hne : ∀ k, k ≤ n → reachK f l (k + 1) ≠ reachK f l k := fun k hk e => hc ⟨k, hk, e⟩
  have hlen : ∀ k, k ≤ n + 1 → k ≤ (S.mem (reachK f l k) n).length := by
    intro k
    induction k with
    | zero => intro _; exact Nat.zero_le _
    | succ k ih =>
      intro hk
      have h1 := ih (by omega)
      have h2 := hne k (by omega)
      have hsub : ∀ i, S.has (reachK f l k) i = true → S.has (reachK f l (k + 1)) i = true := fun i => round_mono f l _
      have hex : ∃ i, S.has (reachK f l (k + 1)) i = true ∧ S.has (reachK f l k) i = false := by
        apply Classical.byContradiction
        intro hno
        apply h2
        refine has_ext fun i => ?_
        cases ha : S.has (reachK f l k) i
        · cases hb : S.has (reachK f l (k + 1)) i
          · rfl
          · exact absurd ⟨i, hb, ha⟩ hno
        · exact hsub i ha
      obtain ⟨i, hi1, hi2⟩ := hex
      have hin : i < n := ((reach_sound f (k + 1) i hi1).lt hr).2
      have := filter_lt (S.has (reachK f l k)) (S.has (reachK f l (k + 1))) (List.range n) hsub (List.mem_range.2 hin) hi1 hi2
      show k + 1 ≤ _
      unfold S.mem at h1 ⊢
      omega
  have h1 := hlen (n + 1) (Nat.le_refl _)
  have h2 := S.mem_len (reachK f l (n + 1)) n
  omega
theorem reach_fix {n : Nat} {l : List (Int × Int)} (hr : Rt n l) (f : Nat) : roundR f l (reach n l f) = reach n l f := by
  obtain ⟨k, hk, e⟩ := reach_stops hr f
  have h : ∀ m, reachK f l (k + m) = reachK f l k := by
    intro m
    induction m with
    | zero => rfl
    | succ m ih => rw [show k + (m + 1) = (k + m) + 1 from rfl, reachK, ih]; exact e
  have h1 : reach n l f = reachK f l k := by
    unfold reach
    rw [show n + 1 = k + (n + 1 - k) by omega, h]
  rw [h1]; exact e
/-- the set that a chain leads to -/
theorem reach_iff {n : Nat} {l : List (Int × Int)} (hr : Rt n l) (f i : Nat) : S.has (reach n l f) i = true ↔ Ch l f i := by
  constructor
  · exact reach_sound f (n + 1) i
  · intro h
    have hf := round_fix f l _ (reach_fix hr f)
    induction h with
    | one hp e => exact hf _ hp (.inl e)
    | more _ hp ih => exact hf _ hp (.inr ih)
def ofB (p : Nat → Bool) : Nat → Nat
  | 0 => 0
  | k + 1 => if p k then ofB p k + 2 ^ k else ofB p k
theorem has_ofB (p : Nat → Bool) : ∀ k i, S.has (ofB p k) i = (decide (i < k) && p i)
  | 0, i => by rw [ofB, has_zero]; rfl
  | k + 1, i => by
    have h0 : S.has (ofB p k) k = false := by rw [has_ofB p k k, decide_eq_false (by omega)]; rfl
    rw [ofB]
    cases hp : p k
    · rw [if_neg (by simp), has_ofB p k i]
      by_cases e : i = k
      · subst e; rw [hp]; simp
      · congr 1; rw [decide_eq_decide]; omega
    · rw [if_pos rfl, has_add h0, has_ofB p k i]
      by_cases e : i = k
      · subst e; rw [hp]; simp
      · rw [decide_eq_false e, Bool.or_false]; congr 1; rw [decide_eq_decide]; omega
theorem ofB_lt (p : Nat → Bool) (k : Nat) : ofB p k < 2 ^ k := has_lt fun i hi => by
  rw [has_ofB, Bool.and_eq_true, decide_eq_true_iff] at hi; exact hi.1

end Go.Proofs.YtaallpebfcadjaaGreatDoor.U


/-! Plain Lean: what Closure, Needs, Allowed and Never answer, and what follows of it. -/
namespace Go.Proofs.YtaallpebfcadjaaGreatDoor.U

/-! ### all pairs that follow -/
def needP (n : Nat) (l : List (Int × Int)) (o i : Nat) : Bool := decide (i = o) || S.has (reach n l i) o
def needN (n : Nat) (l : List (Int × Int)) (o : Nat) : Nat := ofB (needP n l o) n
theorem has_need {n : Nat} {l : List (Int × Int)} (hr : Rt n l) (o i : Nat) : S.has (needN n l o) i = true ↔ i < n ∧ (i = o ∨ Ch l i o) := by
  unfold needN needP
  rw [has_ofB, Bool.and_eq_true, decide_eq_true_iff, Bool.or_eq_true, decide_eq_true_iff, reach_iff hr]
/-- what an allowed set is -/
structure Okay (n : Nat) (off : Nat → Bool) (ap be : List (Int × Int)) (s : Nat) : Prop where
  lt : s < 2 ^ n
  on : ∀ i, S.has s i = true → off i = false
  apt : ∀ p ∈ ap, S.has s (pa p) = true → S.has s (pb p) = false
  bef : ∀ p ∈ be, S.has s (pb p) = true → S.has s (pa p) = true
  ci : ∀ i, S.has s i = true → ¬ Ch be i i
end Go.Proofs.YtaallpebfcadjaaGreatDoor.U


/-! Plain Lean: the fixed points that the landed rules find, and lists of pairs in ascending order. -/
namespace Go.Proofs.YtaallpebfcadjaaGreatDoor.U

theorem has_or (a b i : Nat) : S.has (a ||| b) i = (S.has a i || S.has b i) := by
  rw [has_bit, has_bit, has_bit, Nat.testBit_or]
theorem has_pow (j i : Nat) : S.has (2 ^ j) i = decide (i = j) := by
  rw [has_bit, Nat.testBit_two_pow, decide_eq_decide]; exact eq_comm
def ahdK (l : List (Int × Int)) (s : Nat) : Nat → Nat
  | 0 => 0
  | k + 1 => if S.has s (pb (l.getD k (0, 0))) then ahdK l s k ||| 2 ^ pa (l.getD k (0, 0)) else ahdK l s k
theorem ex_more {l : List (Int × Int)} {k : Nat} (P : Int × Int → Prop) : (∃ j, j < k + 1 ∧ P (l.getD j (0, 0))) ↔ (∃ j, j < k ∧ P (l.getD j (0, 0))) ∨ P (l.getD k (0, 0)) := by
  constructor
  · rintro ⟨j, hj, h⟩
    by_cases e : j = k
    · exact .inr (e ▸ h)
    · exact .inl ⟨j, by omega, h⟩
  · rintro (⟨j, hj, h⟩ | h)
    · exact ⟨j, by omega, h⟩
    · exact ⟨k, by omega, h⟩
theorem ex_mem {l : List (Int × Int)} (P : Int × Int → Prop) : (∃ j, j < l.length ∧ P (l.getD j (0, 0))) ↔ ∃ p ∈ l, P p := by
  constructor
  · rintro ⟨j, hj, h⟩
    refine ⟨_, ?_, h⟩
    rw [List.getD_eq_getElem?_getD, List.getElem?_eq_getElem hj]; exact List.getElem_mem hj
  · rintro ⟨p, hp, h⟩
    obtain ⟨j, hj, rfl⟩ := List.mem_iff_getElem.1 hp
    refine ⟨j, hj, ?_⟩
    rw [List.getD_eq_getElem?_getD, List.getElem?_eq_getElem hj]; exact h
theorem has_ahdK (l : List (Int × Int)) (s i : Nat) : ∀ k, S.has (ahdK l s k) i = true ↔ ∃ j, j < k ∧ (S.has s (pb (l.getD j (0, 0))) = true ∧ i = pa (l.getD j (0, 0)))
  | 0 => by
    rw [ahdK, has_zero]
    constructor
    · intro h; cases h
    · rintro ⟨j, hj, -⟩; omega
  | k + 1 => by
    rw [ex_more (fun p => S.has s (pb p) = true ∧ i = pa p), ← has_ahdK l s i k, ahdK]
    cases h : S.has s (pb (l.getD k (0, 0)))
    · rw [if_neg (by simp)]; simp
    · rw [if_pos rfl, has_or, has_pow, Bool.or_eq_true, decide_eq_true_iff]; simp
def ahd (l : List (Int × Int)) (s : Nat) : Nat := ahdK l s l.length
theorem has_ahd (l : List (Int × Int)) (s i : Nat) : S.has (ahd l s) i = true ↔ ∃ p ∈ l, S.has s (pb p) = true ∧ i = pa p := by
  unfold ahd
  rw [has_ahdK, ex_mem (fun p => S.has s (pb p) = true ∧ i = pa p)]
/-- what Needs has found so far -/
structure NdI (l : List (Int × Int)) (o a : Nat) : Prop where
  own : S.has a o = true
  ch : ∀ i, S.has a i = true → i = o ∨ Ch l i o
theorem NdI.lt {n : Nat} {l : List (Int × Int)} (hr : Rt n l) {o a : Nat} (ho : o < n) (h : NdI l o a) : a < 2 ^ n := has_lt fun i hi => by
  rcases h.ch i hi with rfl | hc
  · exact ho
  · exact (hc.lt hr).1
theorem NdI.fix {n : Nat} {l : List (Int × Int)} (hr : Rt n l) {o a : Nat} (ho : o < n) (h : NdI l o a) (hf : a ||| ahd l a = a) : a = needN n l o := has_ext fun i => by
  rw [Bool.eq_iff_iff, has_need hr]
  constructor
  · intro hi
    exact ⟨lt_has (h.lt hr ho) hi, h.ch i hi⟩
  · rintro ⟨-, rfl | hc⟩
    · exact h.own
    · refine hc.back (fun p hp hb => ?_) h.own
      rw [← hf, has_or, Bool.or_eq_true]
      exact .inr ((has_ahd l a _).2 ⟨p, hp, hb, rfl⟩)
section
variable {n : Nat} {l : List (Int × Int)} (hr : Rt n l) (hn : n ≤ 10) {s d : Nat} (hs : s < 2 ^ n)
include hr hn hs
end
end Go.Proofs.YtaallpebfcadjaaGreatDoor.U


/-! Own lists of pairs, appended to (out of layer 10's text: tools/mkrubase.py). -/
namespace Go.Proofs.YtaallpebfcadjaaGreatDoor.T
open Go.RowKit
set_option maxRecDepth 8000

def Gr (B : Nat) (w : World) (v : Value) (n : Nat) (l : List (Int × Int)) : Prop := Gn 75 pT pA B w v n l
theorem infoQ0 : (Tryz.prog.info? 75).map (fun i => (i.zero, i.size, i.bytes)) = some (some (.agg #[.int .i64 0, .int .i64 0]), 2, 16) := by kernel_rfl
theorem infoQ : ∃ i, Tryz.prog.info? 75 = some i ∧ i.zero = some (.agg #[.int .i64 0, .int .i64 0]) ∧ i.size = 2 ∧ i.bytes = 16 := by
  have h := infoQ0
  obtain ⟨i, hi, hzz⟩ := Option.map_eq_some_iff.1 h
  simp only [Prod.mk.injEq] at hzz
  exact ⟨i, hi, hzz.1, hzz.2.1, hzz.2.2⟩
/-- the call's own slice of pairs -/
def Gq_R (B : Nat) (w : World) (v : Value) (l : List (Int × Int)) : Prop := Gr B w v l.length l
theorem Gq_R.nil (B : Nat) (w : World) : Gq_R B w (.slice none 0 0) [] := Gn.nil _ _ _ _ _
theorem Gq_R.frame {B : Nat} {w w' : World} {v : Value} {l : List (Int × Int)} (h : Gq_R B w v l) (hb : Below w.heap.size w w') : Gq_R B w' v l := Gn.frame h hb
theorem Gq_R.drew {B : Nat} {w : World} {v : Value} {l : List (Int × Int)} (h : Gq_R B w v l) : Gq_R B w.drew v l := h
theorem Gq_R.more {B : Nat} {w : World} {v : Value} {l : List (Int × Int)} {x : Int} {s : Int} (h : w.ownsRow B 75 2 v (l.length + 1) (flat pT pA l ++ [.int .i64 x, .int .i64 s])) : Gq_R B w v (l ++ [(x, s)]) := by
  unfold Gq_R
  rw [List.length_append]
  exact Gn.more (E0 := pT) (E1 := pA) (x, s) h
theorem Gq_R.ext {B : Nat} {w : World} {v : Value} {l m : List (Int × Int)} (h : Gq_R B w v l) (e : l = m) : Gq_R B w v m := e ▸ h
theorem Gq_R.own {B : Nat} {w : World} {v : Value} {l : List (Int × Int)} (h : Gq_R B w v l) : w.ownsRow B 75 2 v l.length (flat pT pA l) := h
theorem Gq_R.blk {B : Nat} {w : World} {v : Value} {l : List (Int × Int)} (h : Gq_R B w v l) : ∀ k, v.ownBlock = some k → B ≤ k := Gn.blk h
/-- a result: a list of pairs -/
def PrsP (l : List (Int × Int)) (w : World) (e : Ending) (w' : World) : Prop :=
  ∃ oa c, e = .returned (.slice oa l.length c) ∧ (Ps w' (.slice oa l.length c) l ∧ Gq_R w.heap.size w' (.slice oa l.length c) l ∧ (oa = none → c = 0)) ∧ Below w.heap.size w w'
theorem prsP {B : Nat} {l : List (Int × Int)} {w w' : World} {v : Value} (h : Gq_R B w' v l) (hb : Below w.heap.size w w') (hB : w.heap.size ≤ B) : PrsP l w (.returned v) w' := by
  have hs : Ps w' v l := Gn.sl h
  have hg : Gq_R w.heap.size w' v l := Gn.mono h hB
  rcases h.2 with ⟨hv, h0⟩ | ⟨g, cap, cur, hv, _⟩
  · subst hv
    have hn : l = [] := List.eq_nil_of_length_eq_zero h0
    subst hn
    exact ⟨none, 0, rfl, ⟨hs, hg, fun _ => rfl⟩, hb⟩
  · subst hv
    exact ⟨_, _, rfl, ⟨hs, hg, fun h => (by cases h)⟩, hb⟩
theorem ps_nil_R {w : World} {c : Nat} {l : List (Int × Int)} (h : Ps w (.slice none l.length c) l) : l = [] := by
  obtain ⟨oa, c', hv, h⟩ := h
  simp only [Value.slice.injEq] at hv
  obtain ⟨rfl, -, rfl⟩ := hv
  cases l with
  | nil => rfl
  | cons x l =>
    obtain ⟨b, o, ha, -⟩ := h 0 (by simp)
    cases ha
theorem flatq_cells (l : List (Int × Int)) : ∀ v ∈ flat pT pA l, v.oneCell' = true := by
  intro v hv
  unfold flat at hv
  rw [List.mem_flatMap] at hv
  obtain ⟨x, -, hx⟩ := hv
  simp only [List.mem_cons, List.not_mem_nil, or_false] at hx
  rcases hx with rfl | rfl <;> rfl
theorem Gq_R.onto {B : Nat} {w : World} {v : Value} {l m : List (Int × Int)} (h : w.ownsRow B 75 2 v (l.length + m.length) (flat pT pA l ++ flat pT pA m)) : Gq_R B w v (l ++ m) := by
  unfold Gq_R Gr Gn
  rw [List.length_append]
  have : flat pT pA (l ++ m) = flat pT pA l ++ flat pT pA m := by unfold flat; rw [List.flatMap_append]
  rw [this]; exact h

/-- a slice of pairs that is read, and is nil where it has no array -/
def Lq (w : World) (u : Value) (m : List (Int × Int)) : Prop := ∃ oa c, u = .slice oa m.length c ∧ Ps w (.slice oa m.length c) m ∧ (oa = none → c = 0)
theorem Gq_R.of_block {B : Nat} {w w' : World} {v : Value} {l : List (Int × Int)} (h : Gq_R B w v l) (hb : ∀ g, v.ownBlock = some g → w'.heap[g]? = w.heap[g]?) : Gq_R B w' v l := by
  have h0 := h.own
  refine (⟨h0.1, ?_⟩ : w'.ownsRow B 75 2 v l.length (flat pT pA l))
  rcases h0.2 with hn | ⟨g, cap, cur, e, hbg, hgg, rest⟩
  · exact .inl hn
  · refine .inr ⟨g, cap, cur, e, hbg, ?_, rest⟩
    rw [hb g (by rw [e]; rfl)]; exact hgg
theorem ap_q {B : Nat} {w : World} {v u : Value} {l m : List (Int × Int)} (ty : TypeId) (hv : Gq_R B w v l) (hu : Lq w u m) (hB : B ≤ w.heap.size) (hn : l.length + m.length ≤ 100000000) :
    ∃ v' w', (Builtin.append_ #[28, 28] ty #[v, u]).run Tryz.prog w = .ok v' w' ∧ (Gq_R B w' v' (l ++ m) ∧ Below B w w' ∧ w.grownBy w' v.ownBlock ∧ (v'.ownBlock = v.ownBlock ∨ v'.ownBlock = some w.heap.size)) := by
  obtain ⟨i0, hi, hz0, hz1, hz2⟩ := infoQ
  obtain ⟨oa, c, rfl, hl, hc⟩ := hu
  cases oa with
  | none =>
    have hm := ps_nil_R hl
    subst hm
    have h0 := hc rfl
    subst h0
    exact ⟨v, w, run_append_owned_none w B _ ty _ i0 2 Tryz.underlying28 hi v _ _ hv.own, by rw [List.append_nil]; exact hv, Below.refl _ _, World.grownBy.refl _ _, .inl rfl⟩
  | some ad =>
    obtain ⟨v', w', hr, h2, h3, -, h5⟩ := run_append_own_at (P := Tryz.prog) w B 28 ty 75 i0 (.agg #[.int .i64 0, .int .i64 0]) 2 16 Tryz.underlying28 hi hz0 hz1 hz2 rfl (by decide) v l.length (flat pT pA l) hv.own ad m.length c (flat pT pA m) (flat_len (E0 := pT) (E1 := pA) m) (ps_news hl) (flatq_cells m) (by unfold maxLen; omega) (by omega) hB
    exact ⟨v', w', hr, Gq_R.onto h2, below_row hB h3 hv.blk, h3, h5⟩
theorem lq_one (w : World) (x : Int) (s : Int) : Lq (w.alloc (.cells #[.int .i64 x, .int .i64 s] 75)) (.slice (some ⟨w.heap.size, 0, none⟩) 1 1) [(x, s)] := by
  refine ⟨some ⟨w.heap.size, 0, none⟩, 1, rfl, ⟨some ⟨w.heap.size, 0, none⟩, 1, rfl, fun i hi => ⟨w.heap.size, 0, rfl, by simp, ?_⟩⟩, fun h => by cases h⟩
  match i, hi with
  | 0, _ => exact ⟨by simp [pT], by simp [pA]⟩
end Go.Proofs.YtaallpebfcadjaaGreatDoor.T


/-! The walk of lorryref12's faults. -/
namespace Go.Proofs.YtaallpebfcadjaaGreatDoor.T
open Go.RowKit
set_option maxRecDepth 8000

/-! ### the faults of pairs -/
def badP (n : Int) (p : Int × Int) : Bool := decide (p.1 < 0) || decide (n ≤ p.1) || decide (p.2 < 0) || decide (n ≤ p.2) || p.1 == p.2
def eqP (turned : Bool) (q p : Int × Int) : Bool := (q.1 == p.1 && q.2 == p.2) || (turned && (q.1 == p.2 && q.2 == p.1))
def twiceP (turned : Bool) (l : List (Int × Int)) (i k : Nat) : Bool := (l.take k).any fun q => eqP turned q (l.getD i (0, 0))
def pairE (n : Int) (turned : Bool) (l : List (Int × Int)) (i : Nat) : List Int := if badP n (l.getD i (0, 0)) then [2] else if twiceP turned l i i then [6] else []
def atW (word : ByteArray) (i : Nat) : ByteArray := word ++ ⟨#[32]⟩ ++ dec i
def pfF (n : Int) (l : List (Int × Int)) (word : ByteArray) (turned : Bool) : Nat → List (Int × ByteArray)
  | 0 => if 16 < l.length then [(4, word)] else []
  | k + 1 => pfF n l word turned k ++ (pairE n turned l k).map fun e => (e, atW word k)
def pairF (n : Int) (l : List (Int × Int)) (word : ByteArray) (turned : Bool) : List (Int × ByteArray) := pfF n l word turned l.length
theorem pfF_len (n : Int) (l : List (Int × Int)) (word : ByteArray) (turned : Bool) : ∀ k, (pfF n l word turned k).length ≤ k + 1
  | 0 => by unfold pfF; split <;> simp
  | k + 1 => by
    unfold pfF
    rw [List.length_append, List.length_map]
    have h1 := pfF_len n l word turned k
    have h2 : (pairE n turned l k).length ≤ 1 := by
      unfold pairE
      split
      · simp
      · split <;> simp
    omega
theorem ps_at {w : World} {oa : Option Addr} {c : Nat} {l : List (Int × Int)} (h : Ps w (.slice oa l.length c) l) {k : Nat} (hk : k < l.length) :
    ∃ b o, oa = some ⟨b, o, none⟩ ∧ b < w.heap.size ∧ w.cell? ⟨b, o + k * 2, none⟩ = some (.int .i64 (l.getD k (0, 0)).1) ∧ w.cell? ⟨b, o + k * 2 + 1, none⟩ = some (.int .i64 (l.getD k (0, 0)).2) := by
  obtain ⟨oa', c', hv, h⟩ := h
  simp only [Value.slice.injEq] at hv
  obtain ⟨rfl, -, rfl⟩ := hv
  obtain ⟨b, o, ha, hl, h0, h1⟩ := h k hk
  exact ⟨b, o, ha, hl, h0, h1⟩
end Go.Proofs.YtaallpebfcadjaaGreatDoor.T


/-! The walks of lorryref12's Check and Right. -/
namespace Go.Proofs.YtaallpebfcadjaaGreatDoor.T
open Go.RowKit
set_option maxRecDepth 8000

def apartW : ByteArray := ⟨#[97, 112, 97, 114, 116]⟩
def beforeW : ByteArray := ⟨#[98, 101, 102, 111, 114, 101]⟩
/-- the faults of the pairs of an instance -/
def checkF (n : Int) (ap be : List (Int × Int)) : List (Int × ByteArray) := pairF n ap apartW true ++ pairF n be beforeW false
theorem pairF_len (n : Int) (l : List (Int × Int)) (word : ByteArray) (turned : Bool) : (pairF n l word turned).length ≤ l.length + 1 := pfF_len n l word turned l.length
/-- block q holds an instance -/
def Ib (w : World) (q : Nat) (x0 x1 x2 x3 x4 x5 : Value) : Prop := w.heap[q]? = some (.cells #[x0, x1, x2, x3, x4, x5] 30)
section
variable {w w' : World} {q : Nat} {x0 x1 x2 x3 x4 x5 : Value}
theorem Ib.c0 (h : Ib w q x0 x1 x2 x3 x4 x5) : w.cell? ⟨q, 0, none⟩ = some x0 := by unfold Ib at h; simp [World.cell?, h]
theorem Ib.c1 (h : Ib w q x0 x1 x2 x3 x4 x5) : w.cell? ⟨q, 1, none⟩ = some x1 := by unfold Ib at h; simp [World.cell?, h]
theorem Ib.c2 (h : Ib w q x0 x1 x2 x3 x4 x5) : w.cell? ⟨q, 2, none⟩ = some x2 := by unfold Ib at h; simp [World.cell?, h]
theorem Ib.c3 (h : Ib w q x0 x1 x2 x3 x4 x5) : w.cell? ⟨q, 3, none⟩ = some x3 := by unfold Ib at h; simp [World.cell?, h]
theorem Ib.c4 (h : Ib w q x0 x1 x2 x3 x4 x5) : w.cell? ⟨q, 4, none⟩ = some x4 := by unfold Ib at h; simp [World.cell?, h]
theorem Ib.c5 (h : Ib w q x0 x1 x2 x3 x4 x5) : w.cell? ⟨q, 5, none⟩ = some x5 := by unfold Ib at h; simp [World.cell?, h]
theorem Ib.lt (h : Ib w q x0 x1 x2 x3 x4 x5) : q < w.heap.size := by
  apply Decidable.byContradiction
  intro hc
  unfold Ib at h
  rw [Array.getElem?_eq_none (by omega)] at h; cases h
theorem Ib.below (h : Ib w q x0 x1 x2 x3 x4 x5) (hb : Below w.heap.size w w') : Ib w' q x0 x1 x2 x3 x4 x5 := (hb.block q h.lt).trans h
theorem Ib.made (w : World) (x0 x1 x2 x3 x4 x5 : Value) : Ib (w.alloc (.cells #[x0, x1, x2, x3, x4, x5] 30)) w.heap.size x0 x1 x2 x3 x4 x5 := by
  show (w.heap.push _)[w.heap.size]? = _
  simp
end
/-- an instance by value -/
def inV (x0 x1 x2 x3 x4 x5 : Value) : Value := .agg #[x0, x1, x2, x3, x4, x5]
end Go.Proofs.YtaallpebfcadjaaGreatDoor.T


/-! The walk of lorryref12's Never. -/
namespace Go.Proofs.YtaallpebfcadjaaGreatDoor.T
open Go.RowKit
set_option maxRecDepth 8000

theorem ps_below {w w' : World} {v : Value} {l : List (Int × Int)} (h : Ps w v l) (hb : Below w.heap.size w w') : Ps w' v l := Sl.below h hb
end Go.Proofs.YtaallpebfcadjaaGreatDoor.T


/-! Orders (of layer 11's text), and which of them are cancelled. -/
namespace Go.Proofs.YtaallpebfcadjaaGreatDoor.T
open Go.RowKit
set_option maxRecDepth 8000

section
variable {w w' : World} {n : Nat} {x0 x1 x2 x3 x4 x5 x6 x7 x8 x9 x10 x11 x12 x13 x14 x15 : Value}
end

def In64 (p : Int × Int) : Prop := I64 p.1 ∧ I64 p.2

end Go.Proofs.YtaallpebfcadjaaGreatDoor.T


