/-
  DERIVED. The loads of two sets without a common order add up, in plain lists.
-/
import Derived.Test.YtalfonpkefhlmaaDoorOrdPure
namespace Go.Proofs.YtalfonpkefhlmaaDoor.T

theorem has_bit (n i : Nat) : S.has n i = n.testBit i := by
  unfold S.has
  rw [Nat.testBit_eq_decide_div_mod_eq, Bool.eq_iff_iff, beq_iff_eq, decide_eq_true_iff]
theorem has_or (a b i : Nat) : S.has (a ||| b) i = (S.has a i || S.has b i) := by rw [has_bit, has_bit, has_bit, Nat.testBit_or]
theorem has_and (a b i : Nat) (h : a &&& b = 0) : (S.has a i && S.has b i) = false := by
  rw [has_bit, has_bit, ← Nat.testBit_and, h, Nat.zero_testBit]
theorem mem_all (p : Nat → Bool) (n k : Nat) : (S.mem n (k + 1)).all p = ((S.mem n k).all p && (!S.has n k || p k)) := by
  rw [S.mem_succ, List.all_append]
  cases S.has n k <;> simp
theorem mem_or_all (p : Nat → Bool) (a b : Nat) : ∀ k, (S.mem (a ||| b) k).all p = ((S.mem a k).all p && (S.mem b k).all p)
  | 0 => by simp [S.mem]
  | k + 1 => by
    rw [mem_all, mem_all, mem_all, mem_or_all p a b k, has_or]
    cases S.has a k <;> cases S.has b k <;> cases p k <;> simp
/-- is there a sum, and no error? -/
def gdB (l : List OrT) (n : Nat) (d : Int) : Bool := (decide (0 ≤ d) && decide (d ≤ 3)) && (S.members n).all fun i => decide (i < l.length) && decide (((l.getD i or0).load.length : Int) = d)
theorem gd_or (l : List OrT) (a b : Nat) (d : Int) : gdB l (a ||| b) d = (gdB l a d && gdB l b d) := by
  unfold gdB S.members
  rw [mem_or_all]
  cases (decide (0 ≤ d) && decide (d ≤ 3)) <;> simp
theorem all_and2 {α : Type} (p q : α → Bool) (l : List α) : (l.all fun x => p x && q x) = (l.all p && l.all q) := by
  induction l with
  | nil => rfl
  | cons x l ih =>
    simp only [List.all_cons, ih]
    cases p x <;> cases q x <;> cases l.all p <;> simp
theorem gd_eq (l : List OrT) (n : Nat) (d : Int) : (ldB l n d && L.evenB (loadsOf l (S.members n)) d) = gdB l n d := by
  unfold ldB L.evenB gdB loadsOf
  rw [Int.toNat_natCast, List.all_map, decide_eq_true (Int.natCast_nonneg n), Bool.true_and, all_and2]
  cases (decide (0 ≤ d) && decide (d ≤ 3))
  · rfl
  · rw [Bool.true_and, Bool.true_and, Bool.true_and]
    rfl
theorem ldE_eq (l : List OrT) (n : Nat) (d : Int) : ldE l n d = if gdB l n d then 0 else 2 := by
  rw [← gd_eq]
  unfold ldE L.gathE
  cases h : ldB l n d
  · rfl
  · rw [if_pos rfl, Bool.true_and, Int.toNat_natCast]
theorem ldL_eq (l : List OrT) (n : Nat) (d : Int) : ldL l n d = if gdB l n d then L.accL L.addF (loadsOf l (S.members n)) d.toNat else [] := by
  rw [← gd_eq]
  unfold ldL L.gathL
  cases h : ldB l n d
  · rfl
  · rw [if_pos rfl, Bool.true_and, Int.toNat_natCast]
/-- the sum of the loads of the first k orders of a set, in one dimension -/
def sumK (l : List OrT) (n j : Nat) : Nat → Int
  | 0 => 0
  | k + 1 => sumK l n j k + if S.has n k then (l.getD k or0).load.getD j 0 else 0
theorem col_sum (l : List OrT) (n j : Nat) : ∀ k, L.colL L.addF (loadsOf l (S.mem n k)) j = sumK l n j k
  | 0 => by simp [S.mem, loadsOf, L.colL, sumK]
  | k + 1 => by
    have ih := col_sum l n j k
    unfold sumK
    rw [← ih, S.mem_succ]
    unfold loadsOf L.colL
    rw [List.map_append, List.foldl_append]
    cases S.has n k
    · simp
    · simp [L.addF]
theorem sum_or (l : List OrT) (a b j : Nat) (h : a &&& b = 0) : ∀ k, sumK l (a ||| b) j k = sumK l a j k + sumK l b j k
  | 0 => rfl
  | k + 1 => by
    unfold sumK
    rw [sum_or l a b j h k, has_or]
    have := has_and a b k h
    cases ha : S.has a k <;> cases hb : S.has b k
    · simp
    · simp; omega
    · simp; omega
    · rw [ha, hb] at this; cases this
theorem gd_len {l : List OrT} {n : Nat} {d : Int} (h : gdB l n d = true) : 0 ≤ d ∧ ∀ x ∈ loadsOf l (S.members n), x.length = d.toNat := by
  unfold gdB at h
  rw [Bool.and_eq_true, Bool.and_eq_true, decide_eq_true_iff, decide_eq_true_iff] at h
  refine ⟨h.1.1, fun x hx => ?_⟩
  unfold loadsOf at hx
  obtain ⟨i, hi, rfl⟩ := List.mem_map.1 hx
  have := List.all_eq_true.1 h.2 i hi
  rw [Bool.and_eq_true, decide_eq_true_iff, decide_eq_true_iff] at this
  omega
theorem ld_len {l : List OrT} {n : Nat} {d : Int} (h : gdB l n d = true) : ((ldL l n d).length : Int) = d := by
  obtain ⟨h0, h1⟩ := gd_len h
  rw [ldL_eq, if_pos h, L.accL_len _ _ _ h1]
  omega
theorem ld_get {l : List OrT} {n j : Nat} {d : Int} (h : gdB l n d = true) (hj : (j : Int) < d) : (ldL l n d).getD j 0 = sumK l n j 63 := by
  obtain ⟨h0, h1⟩ := gd_len h
  rw [ldL_eq, if_pos h, L.acc_getD _ _ _ (by omega) _ h1]
  exact col_sum l n j 63
/-- the loads of two sets without a common order add up -/
theorem ld_add {l : List OrT} {a b j : Nat} {d : Int} (ha : gdB l a d = true) (hb : gdB l b d = true) (hab : a &&& b = 0) (hj : (j : Int) < d) :
    (ldL l ((a ||| b : Nat) : Int) d).getD j 0 = (ldL l a d).getD j 0 + (ldL l b d).getD j 0 := by
  have hc : gdB l (a ||| b) d = true := by rw [gd_or, ha, hb]; rfl
  rw [ld_get hc hj, ld_get ha hj, ld_get hb hj, sum_or l a b j hab]
/-- the sums of few loads fit -/
theorem fit_few {l : List OrT} (hb : ∀ i, i < l.length → ∀ x ∈ (l.getD i or0).load, -1048576 ≤ x ∧ x ≤ 1048576) (n : Nat) : L.FitC L.addF (loadsOf l (S.members n)) := by
  intro d k hk
  have hm : (loadsOf l (S.members n)).length ≤ 63 := by unfold loadsOf; rw [List.length_map]; exact S.mem_len n 63
  have := L.col_bound (m := 1048576) (by omega) L.addF (fun _ _ => rfl) (loadsOf l (S.members n)) d (fun x hx => by
    unfold loadsOf at hx
    obtain ⟨i, -, rfl⟩ := List.mem_map.1 hx
    unfold L.withinB
    rw [List.all_eq_true]
    intro y hy
    by_cases hi : i < l.length
    · have := hb i hi y hy
      simp; omega
    · rw [List.getD_eq_getElem?_getD, List.getElem?_eq_none (by omega)] at hy
      cases hy) k hk
  have h2 : (k : Int) ≤ 63 := by omega
  have h3 : (1048576 : Int) * k ≤ 1048576 * 63 := Int.mul_le_mul_of_nonneg_left h2 (by omega)
  constructor <;> omega

end Go.Proofs.YtalfonpkefhlmaaDoor.T

