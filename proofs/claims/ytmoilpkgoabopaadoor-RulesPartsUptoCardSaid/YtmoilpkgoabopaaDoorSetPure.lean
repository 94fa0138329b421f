/-
  DERIVED. Plain Lean: sets of numbers from 0 to 62 as natural numbers.
-/
import Derived.Test.YtmoilpkgoabopaaDoorRows
namespace Go.Proofs.YtmoilpkgoabopaaDoor.S

def has (n i : Nat) : Bool := n / 2 ^ i % 2 == 1
def hasI (n : Nat) (i : Int) : Bool := decide (0 ≤ i) && (decide (i ≤ 62) && has n i.toNat)
/-- how many of the k lowest bits are set -/
def cnt : Nat → Nat → Nat
  | 0, _ => 0
  | k + 1, n => n % 2 + cnt k (n / 2)
def size (n : Nat) : Nat := cnt 63 n
/-- the members below k -/
def mem (n k : Nat) : List Nat := (List.range k).filter (has n)
def members (n : Nat) : List Nat := mem n 63
theorem cnt_succ (k n : Nat) : cnt (k + 1) n = n % 2 + cnt k (n / 2) := rfl
theorem cnt_zero (k : Nat) : cnt k 0 = 0 := by
  induction k with
  | zero => rfl
  | succ k ih => rw [cnt_succ]; simpa using ih
theorem cnt_more (k : Nat) : ∀ n, n < 2 ^ k → cnt (k + 1) n = cnt k n := by
  induction k with
  | zero => intro n h; have : n = 0 := by simpa using h
            subst this; rfl
  | succ k ih =>
    intro n h
    rw [cnt_succ (k + 1), cnt_succ k n, ih (n / 2) (by rw [Nat.pow_succ] at h; omega)]
theorem cnt_step (k n : Nat) (h : n < 2 ^ (k + 1)) : cnt (k + 1) n = n % 2 + cnt (k + 1) (n / 2) := by
  rw [cnt_succ k n, cnt_more k (n / 2) (by rw [Nat.pow_succ] at h; omega)]
theorem size_step (n : Nat) (h : n < 2 ^ 63) : size n = n % 2 + size (n / 2) := cnt_step 62 n h
theorem size_zero : size 0 = 0 := cnt_zero 63
theorem cnt_le (k n : Nat) : cnt k n ≤ k := by
  induction k generalizing n with
  | zero => exact Nat.le_refl _
  | succ k ih => rw [cnt_succ]; have := ih (n / 2); omega
theorem mem_succ (n k : Nat) : mem n (k + 1) = mem n k ++ (if has n k then [k] else []) := by
  rw [mem, List.range_succ, List.filter_append]
  congr 1
  by_cases h : has n k = true
  · rw [if_pos h, List.filter_cons_of_pos h]; rfl
  · rw [if_neg h, List.filter_cons_of_neg h]; rfl
theorem mem_yes {n k : Nat} (h : has n k = true) : mem n (k + 1) = mem n k ++ [k] := by rw [mem_succ, if_pos h]
theorem mem_no {n k : Nat} (h : has n k = false) : mem n (k + 1) = mem n k := by rw [mem_succ, if_neg (by rw [h]; simp), List.append_nil]
theorem mem_len (n k : Nat) : (mem n k).length ≤ k := by
  rw [mem]; exact Nat.le_trans (List.length_filter_le _ _) (by rw [List.length_range]; exact Nat.le_refl _)
theorem mem_iff (n k i : Nat) : i ∈ mem n k ↔ i < k ∧ has n i = true := by rw [mem, List.mem_filter, List.mem_range]
theorem pow_le62 {k : Nat} (h : k ≤ 62) : 2 ^ k ≤ 4611686018427387904 := Nat.le_trans (Nat.pow_le_pow_right (by omega) h) (by decide)
theorem hasI_nat {n k : Nat} (h : k ≤ 62) : hasI n (k : Int) = has n k := by
  rw [hasI, decide_eq_true (by omega), decide_eq_true (by omega)]; rfl
theorem hasI_neg {n : Nat} {i : Int} (h : i < 0) : hasI n i = false := by rw [hasI, decide_eq_false (by omega)]; rfl
theorem hasI_big {n : Nat} {i : Int} (h : 62 < i) : hasI n i = false := by rw [hasI, decide_eq_true (by omega), decide_eq_false (by omega)]; rfl

/-! ### a set of a list -/
/-- what Of returns for the rest of a list, behind a set -/
def ofR (s : Nat) : List Int → Int × Int
  | [] => ((s : Int), 0)
  | i :: l => if i < 0 ∨ 62 < i then (0, 2) else if has s i.toNat = true then (0, 6) else ofR (s + 2 ^ i.toNat) l
theorem has_div (n i : Nat) : has n i = (n / 2 ^ i % 2 == 1) := rfl
theorem add_lt {n i : Nat} (hn : n < 2 ^ 63) (hi : i ≤ 62) (h : has n i = false) : n + 2 ^ i < 2 ^ 63 := by
  obtain ⟨d, hd⟩ : ∃ d, 63 = i + (d + 1) := ⟨62 - i, by omega⟩
  have hp : 0 < 2 ^ i := Nat.pow_pos (by omega)
  have h1 := Nat.div_add_mod n (2 ^ i)
  have h2 := Nat.mod_lt n hp
  have h3 : n / 2 ^ i % 2 = 0 := by
    rw [has_div] at h
    have : ¬ n / 2 ^ i % 2 = 1 := by simpa using h
    omega
  have h4 : n / 2 ^ i < 2 * 2 ^ d := by
    apply (Nat.div_lt_iff_lt_mul hp).2
    have e : 2 ^ 63 = 2 * 2 ^ d * 2 ^ i := by rw [hd, Nat.pow_add, Nat.pow_succ]; grind
    omega
  have h5 : n / 2 ^ i + 2 ≤ 2 * 2 ^ d := by omega
  have h6 : (n / 2 ^ i + 2) * 2 ^ i ≤ 2 * 2 ^ d * 2 ^ i := Nat.mul_le_mul_right _ h5
  have e : 2 ^ 63 = 2 * 2 ^ d * 2 ^ i := by rw [hd, Nat.pow_add, Nat.pow_succ]; grind
  rw [e]
  have e2 : (n / 2 ^ i + 2) * 2 ^ i = 2 ^ i * (n / 2 ^ i) + 2 * 2 ^ i := by grind
  omega
theorem ofR_bad {s : Nat} {i : Int} {l : List Int} (h : i < 0 ∨ 62 < i) : ofR s (i :: l) = (0, 2) := by rw [ofR, if_pos h]
theorem ofR_twice {s : Nat} {k : Nat} {l : List Int} (h : k ≤ 62) (h2 : has s k = true) : ofR s ((k : Int) :: l) = (0, 6) := by rw [ofR, if_neg (by omega), Int.toNat_natCast, if_pos h2]
theorem ofR_step {s : Nat} {k : Nat} {l : List Int} (h : k ≤ 62) (h2 : has s k = false) : ofR s ((k : Int) :: l) = ofR (s + 2 ^ k) l := by rw [ofR, if_neg (by omega), Int.toNat_natCast, if_neg (by rw [h2]; simp)]
theorem mod_step (n k : Nat) : n % 2 ^ (k + 1) = n % 2 ^ k + (if has n k then 2 ^ k else 0) := by
  rw [Nat.pow_succ, Nat.mod_mul, has_div]
  by_cases h : n / 2 ^ k % 2 = 1
  · rw [h]; simp
  · rw [show n / 2 ^ k % 2 = 0 by omega]; simp
theorem has_mod (n k : Nat) : has (n % 2 ^ k) k = false := by
  rw [has_div, Nat.div_eq_of_lt (Nat.mod_lt n (Nat.pow_pos (by omega)))]; rfl
/-- a set is made of its members -/
theorem ofR_mem (n : Nat) (hn : n < 2 ^ 63) : ofR 0 ((members n).map fun (i : Nat) => (i : Int)) = ((n : Int), 0) := by
  have key : ∀ k, k ≤ 63 → ∀ l, ofR 0 ((mem n k).map (fun (i : Nat) => (i : Int)) ++ l) = ofR (n % 2 ^ k) l := by
    intro k
    induction k with
    | zero => intro _ l; rw [Nat.pow_zero, Nat.mod_one]; rfl
    | succ k ih =>
      intro hk l
      cases h : has n k
      · rw [mem_no h, ih (by omega), mod_step, h]; simp
      · rw [mem_yes h, List.map_append, List.append_assoc, ih (by omega)]
        show ofR (n % 2 ^ k) ((k : Int) :: l) = _
        rw [ofR_step (by omega) (has_mod n k), mod_step, h]; simp
  have := key 63 (Nat.le_refl _) []
  rw [List.append_nil, Nat.mod_eq_of_lt hn] at this
  exact this
/-- the least member -/
def leastI (n : Nat) : Int := match members n with | [] => -1 | i :: _ => (i : Int)
def withinB (a b : Nat) : Bool := (members a).all (has b)

/-! ### subsets -/
def subsL (out : List Nat) : List Nat → List Nat
  | [] => out
  | i :: l => subsL (out ++ out.map (· + 2 ^ i)) l
def sumP : List Nat → Nat
  | [] => 0
  | i :: l => 2 ^ i + sumP l
theorem sumP_app (l m : List Nat) : sumP (l ++ m) = sumP l + sumP m := by
  induction l with
  | nil => simp [sumP]
  | cons i l ih => rw [List.cons_append, sumP, sumP, ih]; omega
theorem sumP_mem (n : Nat) : ∀ k, sumP (mem n k) = n % 2 ^ k
  | 0 => by rw [Nat.pow_zero, Nat.mod_one]; rfl
  | k + 1 => by
    rw [mem_succ, sumP_app, sumP_mem n k, mod_step]
    congr 1
    split <;> simp [sumP]
theorem sumP_members {n : Nat} (hn : n < 2 ^ 63) : sumP (members n) = n := by rw [members, sumP_mem, Nat.mod_eq_of_lt hn]
theorem subsL_snoc (l : List Nat) (i : Nat) : ∀ out, subsL out (l ++ [i]) = subsL out l ++ (subsL out l).map (· + 2 ^ i) := by
  induction l with
  | nil => intro out; rfl
  | cons j l ih => intro out; rw [List.cons_append, subsL, ih]; rfl
theorem subsL_len (l : List Nat) : ∀ out, (subsL out l).length = out.length * 2 ^ l.length := by
  induction l with
  | nil => intro out; simp [subsL]
  | cons j l ih => intro out; rw [subsL, ih]; simp [Nat.pow_succ]; grind
theorem subsL_le (l : List Nat) : ∀ out B, (∀ x ∈ out, x ≤ B) → ∀ x ∈ subsL out l, x ≤ B + sumP l := by
  induction l with
  | nil => intro out B h x hx; rw [sumP, Nat.add_zero]; exact h x hx
  | cons j l ih =>
    intro out B h x hx
    rw [subsL] at hx
    have := ih _ (B + 2 ^ j) (fun y hy => by
      rw [List.mem_append, List.mem_map] at hy
      rcases hy with hy | ⟨z, hz, rfl⟩
      · exact Nat.le_trans (h y hy) (Nat.le_add_right ..)
      · exact Nat.add_le_add_right (h z hz) _) x hx
    rw [sumP]; omega
theorem mem_cnt (n : Nat) : ∀ k, (mem n k).length = cnt k (n % 2 ^ k)
  | 0 => rfl
  | k + 1 => by
    have e : ∀ m k, m < 2 ^ k → ∀ b, b = 0 ∨ b = 1 → cnt (k + 1) (m + b * 2 ^ k) = cnt k m + b := by
      intro m k
      induction k generalizing m with
      | zero =>
        intro h b hb
        have : m = 0 := by simpa using h
        subst this
        rcases hb with rfl | rfl <;> rfl
      | succ k ih =>
        intro h b hb
        rw [Nat.pow_succ] at h
        rw [cnt_succ (k + 1), cnt_succ k m]
        have hq : b * 2 ^ (k + 1) = 2 * (b * 2 ^ k) := by rw [Nat.pow_succ, Nat.mul_comm (2 ^ k) 2, Nat.mul_left_comm]
        have h1 : (m + b * 2 ^ (k + 1)) % 2 = m % 2 := by rw [hq, Nat.add_mul_mod_self_left]
        have h2 : (m + b * 2 ^ (k + 1)) / 2 = m / 2 + b * 2 ^ k := by rw [hq, Nat.add_mul_div_left _ _ (by omega)]
        rw [h1, h2, ih (m / 2) (by omega) b hb]; omega
    rw [mem_succ, List.length_append, mem_cnt n k, mod_step]
    have h := e (n % 2 ^ k) k (Nat.mod_lt n (Nat.pow_pos (by omega)))
    by_cases hk : has n k = true
    · rw [if_pos hk, if_pos hk]
      have := h 1 (.inr rfl)
      rw [Nat.one_mul] at this
      rw [this]; rfl
    · rw [if_neg hk, if_neg hk]
      have := h 0 (.inl rfl)
      rw [Nat.zero_mul] at this
      rw [this]; rfl
theorem members_size {n : Nat} (hn : n < 2 ^ 63) : (members n).length = size n := by rw [members, mem_cnt, Nat.mod_eq_of_lt hn]; rfl

end Go.Proofs.YtmoilpkgoabopaaDoor.S

