/-
  DERIVED. Plain Lean: numbers as rows of limbs to the base 1000000000, the lowest first.
-/
import Derived.Test.YtgpjfgakhncdnaaDoorPureNat2
namespace Go.Proofs.YtgpjfgakhncdnaaDoor

/-- the powers of the base -/
def bp (k : Nat) : Nat := 1000000000 ^ k
theorem bp_zero : bp 0 = 1 := rfl
theorem bp_succ (k : Nat) : bp (k + 1) = 1000000000 * bp k := by unfold bp; rw [Nat.pow_succ, Nat.mul_comm]
theorem bp_pos (k : Nat) : 0 < bp k := Nat.pow_pos (by omega)
theorem bp_add (j k : Nat) : bp (j + k) = bp j * bp k := by unfold bp; rw [Nat.pow_add]
theorem bp_mono {j k : Nat} (h : j ≤ k) : bp j ≤ bp k := Nat.pow_le_pow_right (by omega) h

def val : List Nat → Nat
  | [] => 0
  | a :: l => a + 1000000000 * val l
theorem val_nil : val [] = 0 := rfl
theorem val_cons (a : Nat) (l : List Nat) : val (a :: l) = a + 1000000000 * val l := rfl
/-- each limb is below the base -/
def lo (l : List Nat) : Prop := ∀ a ∈ l, a < 1000000000
theorem lo_nil : lo [] := by intro a h; cases h
theorem lo_cons {a : Nat} {l : List Nat} : lo (a :: l) ↔ a < 1000000000 ∧ lo l := by
  unfold lo; simp
theorem lo_append {l m : List Nat} : lo (l ++ m) ↔ lo l ∧ lo m := by
  unfold lo; simp only [List.mem_append]
  exact ⟨fun h => ⟨fun a ha => h a (.inl ha), fun a ha => h a (.inr ha)⟩, fun h a ha => ha.elim (h.1 a) (h.2 a)⟩
theorem lo_take {l : List Nat} (h : lo l) (k : Nat) : lo (l.take k) := fun a ha => h a (List.mem_of_mem_take ha)
theorem lo_drop {l : List Nat} (h : lo l) (k : Nat) : lo (l.drop k) := fun a ha => h a (List.mem_of_mem_drop ha)
theorem lo_getD {l : List Nat} (h : lo l) (i : Nat) : l.getD i 0 < 1000000000 := by
  rw [List.getD_eq_getElem?_getD]
  cases hx : l[i]? with
  | none => simp
  | some a => simpa using h a (List.mem_of_getElem? hx)
theorem lo_set {l : List Nat} (h : lo l) (i c : Nat) (hc : c < 1000000000) : lo (l.set i c) := by
  intro a ha
  rcases List.mem_or_eq_of_mem_set ha with ha | rfl
  · exact h a ha
  · exact hc
theorem val_append (l m : List Nat) : val (l ++ m) = val l + bp l.length * val m := by
  induction l with
  | nil => simp [val_nil, bp_zero]
  | cons a l ih => rw [List.cons_append, val_cons, val_cons, ih, List.length_cons, bp_succ, Nat.mul_add, Nat.mul_assoc]; omega
theorem val_lt {l : List Nat} (h : lo l) : val l < bp l.length := by
  induction l with
  | nil => simp [val_nil, bp_zero]
  | cons a l ih =>
    have h1 := ih (lo_cons.1 h).2
    have h2 := (lo_cons.1 h).1
    rw [val_cons, List.length_cons, bp_succ]; omega
theorem val_zero (n : Nat) : val (List.replicate n 0) = 0 := by
  induction n with
  | zero => rfl
  | succ n ih => rw [List.replicate_succ, val_cons, ih]
theorem lo_zero (n : Nat) : lo (List.replicate n 0) := by
  intro a ha
  have := List.eq_of_mem_replicate ha
  omega
theorem val_set (l : List Nat) (i c : Nat) (h : i < l.length) : val (l.set i c) + bp i * l.getD i 0 = val l + bp i * c := by
  induction l generalizing i with
  | nil => simp at h
  | cons a l ih =>
    cases i with
    | zero => simp [val_cons, bp_zero]; omega
    | succ i =>
      have := ih i (by simpa using h)
      rw [List.set_cons_succ, val_cons, val_cons, List.getD_cons_succ, bp_succ, Nat.mul_assoc, Nat.mul_assoc]
      omega
theorem val_take_succ (l : List Nat) (i : Nat) (h : i < l.length) : val (l.take (i + 1)) = val (l.take i) + bp i * l.getD i 0 := by
  have e : l.take (i + 1) = l.take i ++ [l.getD i 0] := by
    rw [List.take_add_one, List.getElem?_eq_getElem h]
    simp [List.getD_eq_getElem?_getD, List.getElem?_eq_getElem h]
  rw [e, val_append, val_cons, val_nil, List.length_take, Nat.min_eq_left (by omega)]
  simp
theorem val_take_all (l : List Nat) (i : Nat) (h : l.length ≤ i) : val (l.take i) = val l := by rw [List.take_of_length_le h]
theorem val_split (l : List Nat) (i : Nat) (h : i ≤ l.length) : val l = val (l.take i) + bp i * val (l.drop i) := by
  have := val_append (l.take i) (l.drop i)
  rw [List.take_append_drop, List.length_take, Nat.min_eq_left h] at this
  exact this
theorem val_drop (l : List Nat) (i : Nat) (h : i < l.length) : val (l.drop i) = l.getD i 0 + 1000000000 * val (l.drop (i + 1)) := by
  rw [List.drop_eq_getElem_cons h, val_cons]
  simp [List.getD_eq_getElem?_getD, List.getElem?_eq_getElem h]
theorem set_take (l : List Nat) (i j c : Nat) (h : i ≤ j) : (l.set j c).take i = l.take i := by
  rw [List.take_set_of_le h]
theorem set_getD (l : List Nat) (i c : Nat) (h : i < l.length) : (l.set i c).getD i 0 = c := by
  simp [List.getD_eq_getElem?_getD, h]
theorem set_getD_ne (l : List Nat) (i j c : Nat) (h : i ≠ j) : (l.set i c).getD j 0 = l.getD j 0 := by
  simp [List.getD_eq_getElem?_getD, List.getElem?_set_ne h]

/-- the canonical row of a number -/
def limbs (n : Nat) : List Nat := if h : n = 0 then [] else n % 1000000000 :: limbs (n / 1000000000)
termination_by n
decreasing_by omega
theorem limbs_zero : limbs 0 = [] := by rw [limbs]; simp
theorem limbs_pos {n : Nat} (h : n ≠ 0) : limbs n = n % 1000000000 :: limbs (n / 1000000000) := by rw [limbs]; simp [h]
theorem limbs_val (n : Nat) : val (limbs n) = n := by
  induction n using Nat.strongRecOn with
  | _ n ih =>
    by_cases h : n = 0
    · subst h; rw [limbs_zero, val_nil]
    · rw [limbs_pos h, val_cons, ih (n / 1000000000) (by omega)]; omega
theorem limbs_lo (n : Nat) : lo (limbs n) := by
  induction n using Nat.strongRecOn with
  | _ n ih =>
    by_cases h : n = 0
    · subst h; rw [limbs_zero]; exact lo_nil
    · rw [limbs_pos h]; exact lo_cons.2 ⟨by omega, ih _ (by omega)⟩
theorem limbs_of (l : List Nat) (h : lo l) (hl : l = [] ∨ l.getD (l.length - 1) 0 ≠ 0) : limbs (val l) = l := by
  induction l with
  | nil => rw [val_nil, limbs_zero]
  | cons a l ih =>
    have ha := (lo_cons.1 h).1
    have hl' : (a :: l).getD l.length 0 ≠ 0 := by simpa using hl
    cases l with
    | nil =>
      have ha0 : a ≠ 0 := by simpa using hl'
      have e : val [a] = a := by simp [val_cons, val_nil]
      have e2 : a / 1000000000 = 0 := by omega
      rw [e, limbs_pos ha0, e2, limbs_zero, Nat.mod_eq_of_lt ha]
    | cons b m =>
      have h2 : (b :: m).getD ((b :: m).length - 1) 0 ≠ 0 := by simpa using hl'
      have hi := ih (lo_cons.1 h).2 (.inr h2)
      have hv : val (b :: m) ≠ 0 := by
        intro e
        rw [e, limbs_zero] at hi
        cases hi
      generalize hX : b :: m = X at *
      have e1 : (a + 1000000000 * val X) % 1000000000 = a := by omega
      have e2 : (a + 1000000000 * val X) / 1000000000 = val X := by omega
      rw [val_cons, limbs_pos (by omega), e1, e2, hi]
theorem limbs_top (n : Nat) : limbs n = [] ∨ (limbs n).getD ((limbs n).length - 1) 0 ≠ 0 := by
  induction n using Nat.strongRecOn with
  | _ n ih =>
    by_cases h : n = 0
    · subst h; exact .inl limbs_zero
    · right
      rw [limbs_pos h]
      rcases ih (n / 1000000000) (by omega) with e | e
      · rw [e]
        have h0 : n / 1000000000 = 0 := by have := limbs_val (n / 1000000000); rw [e, val_nil] at this; omega
        simp; omega
      · cases hx : limbs (n / 1000000000) with
        | nil => rw [hx] at e; simp at e
        | cons b m => rw [hx] at e; simpa using e
theorem limbs_ge {n : Nat} (h : 0 < (limbs n).length) : bp ((limbs n).length - 1) ≤ n := by
  have ht : (limbs n).getD ((limbs n).length - 1) 0 ≠ 0 := by
    rcases limbs_top n with e | e
    · rw [e] at h; simp at h
    · exact e
  have h1 := val_take_succ (limbs n) ((limbs n).length - 1) (by omega)
  rw [show (limbs n).length - 1 + 1 = (limbs n).length by omega, List.take_length, limbs_val] at h1
  have : bp ((limbs n).length - 1) * 1 ≤ bp ((limbs n).length - 1) * (limbs n).getD ((limbs n).length - 1) 0 := Nat.mul_le_mul_left _ (by omega)
  omega
theorem limbs_lt (n : Nat) : n < bp (limbs n).length := by have := val_lt (limbs_lo n); rwa [limbs_val] at this
theorem limbs_len0 {n : Nat} : (limbs n).length = 0 ↔ n = 0 := by
  constructor
  · intro h; have := limbs_lt n; rw [h, bp_zero] at this; omega
  · intro h; rw [h, limbs_zero]; rfl
theorem limbs_le {n k : Nat} (h : n < bp k) : (limbs n).length ≤ k := by
  by_cases h0 : 0 < (limbs n).length
  · have h1 := limbs_ge h0
    rcases Nat.lt_or_ge k (limbs n).length with h2 | h2
    · have := bp_mono (show k ≤ (limbs n).length - 1 by omega); omega
    · exact h2
  · omega
theorem limbs_less {u v : Nat} (h : (limbs u).length < (limbs v).length) : u < v := by
  have h1 := limbs_lt u
  have h2 := limbs_ge (n := v) (by omega)
  have h3 := bp_mono (show (limbs u).length ≤ (limbs v).length - 1 by omega)
  omega

/-! ### one column -/
theorem col_sum {Z c P X Y z c' x y : Nat} (h : Z + P * c = X + Y) (hz : z + 1000000000 * c' = c + x + y) :
    (Z + P * z) + 1000000000 * P * c' = (X + P * x) + (Y + P * y) := by
  have h1 : P * (z + 1000000000 * c') = P * (c + x + y) := by rw [hz]
  rw [Nat.mul_add, Nat.mul_add, Nat.mul_add] at h1
  have h2 : P * (1000000000 * c') = 1000000000 * P * c' := by ac_rfl
  omega
theorem col_dif {Z Y X b P z y x b' : Nat} (h : Z + Y = X + P * b) (hz : z + (b + y) = x + 1000000000 * b') :
    (Z + P * z) + (Y + P * y) = (X + P * x) + 1000000000 * P * b' := by
  have h1 : P * (z + (b + y)) = P * (x + 1000000000 * b') := by rw [hz]
  rw [Nat.mul_add, Nat.mul_add, Nat.mul_add] at h1
  have h2 : P * (1000000000 * b') = 1000000000 * P * b' := by ac_rfl
  omega

theorem sum_round (lz : List Nat) (k cn x y X Y X' Y' n : Nat) (hlen : lz.length = n + 1) (hk : k < n) (h0 : lz.getD k 0 = 0) (hv : val lz + bp k * cn = X + Y) (hX : X' = X + bp k * x) (hY : Y' = Y + bp k * y) :
    val (lz.set k ((cn + x + y) % 1000000000)) + bp (k + 1) * ((cn + x + y) / 1000000000) = X' + Y' := by
  have h1 := val_set lz k ((cn + x + y) % 1000000000) (by omega)
  rw [h0, Nat.mul_zero, Nat.add_zero] at h1
  rw [h1, bp_succ, hX, hY]
  exact col_sum hv (by omega)
theorem zero_after (lz : List Nat) (k c : Nat) (h : ∀ j, k ≤ j → lz.getD j 0 = 0) : ∀ j, k + 1 ≤ j → (lz.set k c).getD j 0 = 0 := by
  intro j hj
  rw [set_getD_ne _ _ _ _ (by omega)]
  exact h j (by omega)
theorem sum_last (lz : List Nat) (c Z n : Nat) (hlen : lz.length = n + 1) (h0 : lz.getD n 0 = 0) (hv : val lz + bp n * c = Z) : val (lz.set n c) = Z := by
  have h1 := val_set lz n c (by omega)
  rw [h0, Nat.mul_zero, Nat.add_zero] at h1
  rw [h1, hv]

theorem dif_round (lz : List Nat) (k b x y c b' X Y X' Y' : Nat) (hk : k < lz.length) (h0 : lz.getD k 0 = 0) (hv : val lz + Y = X + bp k * b) (hX : X' = X + bp k * x) (hY : Y' = Y + bp k * y) (hc : c + (b + y) = x + 1000000000 * b') :
    val (lz.set k c) + Y' = X' + bp (k + 1) * b' := by
  have h1 := val_set lz k c hk
  rw [h0, Nat.mul_zero, Nat.add_zero] at h1
  rw [h1, bp_succ, hX, hY]
  exact col_dif hv hc
theorem dif_end (lz : List Nat) (u v b n : Nat) (hlo : lo lz) (hn : lz.length = n) (hv : val lz + v = u + bp n * b) (h : v ≤ u) : val lz = u - v := by
  have h1 := val_lt hlo
  rw [hn] at h1
  rcases Nat.eq_zero_or_pos b with rfl | hb
  · omega
  · have : bp n * 1 ≤ bp n * b := Nat.mul_le_mul_left _ hb
    omega
theorem mul_round (lz : List Nat) (i j c z x y A Y Y' s : Nat) (hk : i + j < lz.length) (h0 : lz.getD (i + j) 0 = z) (hv : val lz + bp (i + j) * c = A + bp i * (x * Y)) (hY : Y' = Y + bp j * y) (hs : s = c + (z + x * y)) :
    val (lz.set (i + j) (s % 1000000000)) + bp (i + j + 1) * (s / 1000000000) = A + bp i * (x * Y') := by
  have h1 := val_set lz (i + j) (s % 1000000000) hk
  rw [h0] at h1
  have h2 : bp (i + j + 1) * (s / 1000000000) = bp (i + j) * (1000000000 * (s / 1000000000)) := by rw [bp_succ]; ac_rfl
  have h3 : bp (i + j) * (s % 1000000000) + bp (i + j) * (1000000000 * (s / 1000000000)) = bp (i + j) * s := by
    rw [← Nat.mul_add, Nat.mod_add_div]
  have h4 : bp (i + j) * s = bp (i + j) * c + bp (i + j) * z + bp (i + j) * (x * y) := by rw [hs, Nat.mul_add, Nat.mul_add]; omega
  have h5 : bp i * (x * Y') = bp i * (x * Y) + bp (i + j) * (x * y) := by
    rw [hY, Nat.mul_add, Nat.mul_add, bp_add]
    congr 1
    ac_rfl
  omega
theorem mul_last (lz : List Nat) (i m c x X Y X' : Nat) (hk : i + m < lz.length) (h0 : lz.getD (i + m) 0 = 0) (hv : val lz + bp (i + m) * c = X * Y + bp i * (x * Y)) (hX : X' = X + bp i * x) : val (lz.set (i + m) c) = X' * Y := by
  have h1 := val_set lz (i + m) c hk
  rw [h0, Nat.mul_zero, Nat.add_zero] at h1
  rw [h1, hv, hX, Nat.add_mul, Nat.mul_assoc]

end Go.Proofs.YtgpjfgakhncdnaaDoor
