/-
  DERIVED. Sa: a part of the base of layer 13 (made by pack.py).
-/
import Derived.Test.YtoliacfpjhanlaaSv
/-! Small functions of sequence and of its specification (by gen_sa.py). -/
namespace Go.Proofs.Ytoliacfpjhanlaa.T
open Go.RowKit
set_option maxRecDepth 8000
attribute [local irreducible] wpList Code.wp wpAnyH

def num62 (n : Int) : Bool := decide (0 ≤ n) && decide (n ≤ 62)
/-- bit k of a number of any sign -/
def hasZ (z : Int) (k : Nat) : Bool := decide (z / 2 ^ k % 2 = 1)
theorem and_one (x : Int) : bits .and .i64 x 1 = x % 2 := by
  rw [S.b_and]
  have h : ((1 : Int) % 18446744073709551616).toNat = 1 := by decide
  rw [h, Nat.and_one_is_mod, IntKind.wrap_i64]
  omega
theorem and_one_eq (z : Int) (k : Nat) : (bits .and .i64 (z.fdiv (2 ^ k)) 1 == 1) = hasZ z k := by
  have hp : (0 : Int) ≤ 2 ^ k := Int.le_of_lt (Int.pow_pos (by decide))
  rw [Int.fdiv_eq_ediv_of_nonneg _ hp, and_one, hasZ]
  by_cases h : z / 2 ^ k % 2 = 1 <;> simp [h]
theorem isNumber_n (n : Int) (w : World) : Calls Try.prog 45 #[.int .i64 n] w fun e w' => e = .returned (.bool (num62 n)) ∧ w = w' := by
  refine sx_enter Try.func45 rfl [(0, .int .i64 n)] (by kernel_rfl) ?_
  refine wp_seq ?_
  refine wp_region_lit ?_
  refine sx_val (by kernel_rfl) rfl rfl (.bool false) (by kernel_rfl) ?_
  refine wpList_nil ?_
  refine sx_norm ?_
  refine wp_seq ?_
  refine wp_region_lit ?_
  refine sx_val (by kernel_rfl) rfl rfl (.int .i64 n) (by kernel_rfl) ?_
  by_cases C1 : 0 ≤ n
  · refine sx_bool (by kernel_rfl) rfl rfl (decide (0 ≤ n)) true (by kernel_rfl) (decide_eq_true (by omega)) ?_
    refine sx_val (by kernel_rfl) rfl rfl (.bool true) (by kernel_rfl) ?_
    refine sx_val (by kernel_rfl) rfl rfl (.int .i64 n) (by kernel_rfl) ?_
    by_cases C2 : n ≤ 62
    · refine sx_bool (by kernel_rfl) rfl rfl (decide (n ≤ 62)) true (by kernel_rfl) (decide_eq_true (by omega)) ?_
      refine sx_val (by kernel_rfl) rfl rfl (.bool true) (by kernel_rfl) ?_
      refine sx_val (by kernel_rfl) rfl rfl (.bool true) (by kernel_rfl) ?_
      refine wpList_nil ?_
      refine sx_norm ?_
      refine wp_ret ?_
      exact sx_ret1 (.bool true) rfl rfl (by kernel_rfl) ⟨ret_bool (by unfold num62; simp; try omega), rfl⟩
    refine sx_bool (by kernel_rfl) rfl rfl (decide (n ≤ 62)) false (by kernel_rfl) (decide_eq_false (by omega)) ?_
    refine sx_val (by kernel_rfl) rfl rfl (.bool false) (by kernel_rfl) ?_
    refine sx_val (by kernel_rfl) rfl rfl (.bool false) (by kernel_rfl) ?_
    refine wpList_nil ?_
    refine sx_norm ?_
    refine wp_ret ?_
    exact sx_ret1 (.bool false) rfl rfl (by kernel_rfl) ⟨ret_bool (by unfold num62; simp; try omega), rfl⟩
  refine sx_bool (by kernel_rfl) rfl rfl (decide (0 ≤ n)) false (by kernel_rfl) (decide_eq_false (by omega)) ?_
  refine sx_val (by kernel_rfl) rfl rfl (.bool false) (by kernel_rfl) ?_
  refine sx_skip (by kernel_rfl) rfl rfl ?_
  refine sx_skip (by kernel_rfl) rfl rfl ?_
  refine sx_val (by kernel_rfl) rfl rfl (.bool false) (by kernel_rfl) ?_
  refine sx_val (by kernel_rfl) rfl rfl (.bool false) (by kernel_rfl) ?_
  refine wpList_nil ?_
  refine sx_norm ?_
  refine wp_ret ?_
  exact sx_ret1 (.bool false) rfl rfl (by kernel_rfl) ⟨ret_bool (by unfold num62; simp; try omega), rfl⟩
theorem seqHas_n (z : Int) (k : Nat) (hk : k ≤ 62) (w : World) : Calls Try.prog 72 #[.int .i64 z, .int .i64 ((k : Nat) : Int)] w fun e w' => e = .returned (.bool (hasZ z k)) ∧ w = w' := by
  refine sx_enter Try.func72 rfl [(0, .int .i64 z), (1, .int .i64 ((k : Nat) : Int))] (by kernel_rfl) ?_
  refine wp_seq ?_
  refine wp_region_lit ?_
  refine sx_val (by kernel_rfl) rfl rfl (.bool false) (by kernel_rfl) ?_
  refine wpList_nil ?_
  refine sx_norm ?_
  refine wp_seq ?_
  refine wp_region_lit ?_
  refine sx_val (by kernel_rfl) rfl rfl (.int .i64 z) (by kernel_rfl) ?_
  refine sx_val (by kernel_rfl) rfl rfl (.int .i64 ((k : Nat) : Int)) (by kernel_rfl) ?_
  refine sx_val (by kernel_rfl) rfl rfl (.int .i64 (z.fdiv (2 ^ k))) (ex_shr rfl .i64 z k (z.fdiv (2 ^ k)) (by kernel_rfl) (by kernel_rfl) hk rfl) ?_
  refine sx_val (by kernel_rfl) rfl rfl (.int .i64 (bits .and .i64 (z.fdiv (2 ^ k)) 1)) (by kernel_rfl) ?_
  refine sx_val (by kernel_rfl) rfl rfl (.bool (((bits .and .i64 (z.fdiv (2 ^ k)) 1) : Int) == (1 : Int))) (by kernel_rfl) ?_
  refine sx_val (by kernel_rfl) rfl rfl (.bool (((bits .and .i64 (z.fdiv (2 ^ k)) 1) : Int) == (1 : Int))) (by kernel_rfl) ?_
  refine wpList_nil ?_
  refine sx_norm ?_
  refine wp_ret ?_
  exact sx_ret1 (.bool (((bits .and .i64 (z.fdiv (2 ^ k)) 1) : Int) == (1 : Int))) rfl rfl (by kernel_rfl) ⟨ret_bool (and_one_eq z k), rfl⟩
def hasR (z i : Int) : Bool := decide (0 ≤ z) && (num62 i && hasZ z i.toNat)
theorem refHas_n (z i : Int) (w : World) : Calls Try.prog 42 #[.int .i64 z, .int .i64 i] w fun e w' => e = .returned (.bool (hasR z i)) ∧ w = w' := by
  have hR : ∀ k : Nat, i = (k : Int) → k ≤ 62 → 0 ≤ z → hasR z i = hasZ z k := fun k h h2 h3 => by subst h; unfold hasR num62; simp [h3]; try omega
  refine sx_enter Try.func42 rfl [(0, .int .i64 z), (1, .int .i64 i)] (by kernel_rfl) ?_
  refine wp_seq ?_
  refine wp_region_lit ?_
  refine sx_val (by kernel_rfl) rfl rfl (.bool false) (by kernel_rfl) ?_
  refine wpList_nil ?_
  refine sx_norm ?_
  refine wp_seq ?_
  refine wp_region_lit ?_
  refine sx_val (by kernel_rfl) rfl rfl (.int .i64 z) (by kernel_rfl) ?_
  by_cases C1 : z ≥ 0
  · refine sx_bool (by kernel_rfl) rfl rfl (decide (z ≥ 0)) true (by kernel_rfl) (decide_eq_true (by omega)) ?_
    refine sx_val (by kernel_rfl) rfl rfl (.bool true) (by kernel_rfl) ?_
    refine sx_val (by kernel_rfl) rfl rfl (.int .i64 i) (by kernel_rfl) ?_
    by_cases C2 : i ≥ 0
    · refine sx_bool (by kernel_rfl) rfl rfl (decide (i ≥ 0)) true (by kernel_rfl) (decide_eq_true (by omega)) ?_
      refine sx_val (by kernel_rfl) rfl rfl (.bool true) (by kernel_rfl) ?_
      refine sx_val (by kernel_rfl) rfl rfl (.bool true) (by kernel_rfl) ?_
      refine sx_val (by kernel_rfl) rfl rfl (.int .i64 i) (by kernel_rfl) ?_
      by_cases C3 : i ≤ 62
      · refine sx_bool (by kernel_rfl) rfl rfl (decide (i ≤ 62)) true (by kernel_rfl) (decide_eq_true (by omega)) ?_
        refine sx_val (by kernel_rfl) rfl rfl (.bool true) (by kernel_rfl) ?_
        refine sx_val (by kernel_rfl) rfl rfl (.bool true) (by kernel_rfl) ?_
        refine sx_val (by kernel_rfl) rfl rfl (.int .i64 z) (by kernel_rfl) ?_
        refine sx_val (by kernel_rfl) rfl rfl (.int .i64 i) (by kernel_rfl) ?_
        obtain ⟨k, hik⟩ := Int.eq_ofNat_of_zero_le (show 0 ≤ i by omega)
        have hRk := hR k hik (by omega) (by omega)
        clear hR
        refine sx_int (by kernel_rfl) rfl rfl .u64 (IntKind.u64.wrap (i)) ((((k : Nat)) : Int)) (by kernel_rfl) (by rw [IntKind.wrap_u64]; omega) ?_
        refine sx_val (by kernel_rfl) rfl rfl (.int .i64 (z.fdiv (2 ^ k))) (ex_shr rfl .u64 z k (z.fdiv (2 ^ k)) (by kernel_rfl) (by kernel_rfl) (by omega) rfl) ?_
        refine sx_int (by kernel_rfl) rfl rfl .i64 ((z.fdiv (2 ^ k)).tmod 2) ((z / 2 ^ k % 2)) (by kernel_rfl) (by rw [Int.fdiv_eq_ediv_of_nonneg _ (Int.le_of_lt (Int.pow_pos (by decide)))]; exact Int.tmod_eq_emod_of_nonneg (Int.ediv_nonneg (by omega) (Int.le_of_lt (Int.pow_pos (by decide))))) ?_
        refine sx_val (by kernel_rfl) rfl rfl (.bool (((z / 2 ^ k % 2) : Int) == (1 : Int))) (by kernel_rfl) ?_
        refine sx_val (by kernel_rfl) rfl rfl (.bool (((z / 2 ^ k % 2) : Int) == (1 : Int))) (by kernel_rfl) ?_
        refine sx_val (by kernel_rfl) rfl rfl (.bool (((z / 2 ^ k % 2) : Int) == (1 : Int))) (by kernel_rfl) ?_
        refine wpList_nil ?_
        refine sx_norm ?_
        refine wp_ret ?_
        exact sx_ret1 (.bool (((z / 2 ^ k % 2) : Int) == (1 : Int))) rfl rfl (by kernel_rfl) ⟨ret_bool (by rw [hRk]; unfold hasZ; by_cases h : z / 2 ^ k % 2 = 1 <;> simp [h]), rfl⟩
      refine sx_bool (by kernel_rfl) rfl rfl (decide (i ≤ 62)) false (by kernel_rfl) (decide_eq_false (by omega)) ?_
      refine sx_val (by kernel_rfl) rfl rfl (.bool false) (by kernel_rfl) ?_
      refine sx_val (by kernel_rfl) rfl rfl (.bool false) (by kernel_rfl) ?_
      refine sx_skip (by kernel_rfl) rfl rfl ?_
      refine sx_skip (by kernel_rfl) rfl rfl ?_
      refine sx_skip (by kernel_rfl) rfl rfl ?_
      refine sx_skip (by kernel_rfl) rfl rfl ?_
      refine sx_skip (by kernel_rfl) rfl rfl ?_
      refine sx_skip (by kernel_rfl) rfl rfl ?_
      refine sx_val (by kernel_rfl) rfl rfl (.bool false) (by kernel_rfl) ?_
      refine sx_val (by kernel_rfl) rfl rfl (.bool false) (by kernel_rfl) ?_
      refine wpList_nil ?_
      refine sx_norm ?_
      refine wp_ret ?_
      exact sx_ret1 (.bool false) rfl rfl (by kernel_rfl) ⟨ret_bool (by unfold hasR num62; simp; try omega), rfl⟩
    refine sx_bool (by kernel_rfl) rfl rfl (decide (i ≥ 0)) false (by kernel_rfl) (decide_eq_false (by omega)) ?_
    refine sx_val (by kernel_rfl) rfl rfl (.bool false) (by kernel_rfl) ?_
    refine sx_val (by kernel_rfl) rfl rfl (.bool false) (by kernel_rfl) ?_
    refine sx_skip (by kernel_rfl) rfl rfl ?_
    refine sx_skip (by kernel_rfl) rfl rfl ?_
    refine sx_val (by kernel_rfl) rfl rfl (.bool false) (by kernel_rfl) ?_
    refine sx_val (by kernel_rfl) rfl rfl (.bool false) (by kernel_rfl) ?_
    refine sx_skip (by kernel_rfl) rfl rfl ?_
    refine sx_skip (by kernel_rfl) rfl rfl ?_
    refine sx_skip (by kernel_rfl) rfl rfl ?_
    refine sx_skip (by kernel_rfl) rfl rfl ?_
    refine sx_skip (by kernel_rfl) rfl rfl ?_
    refine sx_skip (by kernel_rfl) rfl rfl ?_
    refine sx_val (by kernel_rfl) rfl rfl (.bool false) (by kernel_rfl) ?_
    refine sx_val (by kernel_rfl) rfl rfl (.bool false) (by kernel_rfl) ?_
    refine wpList_nil ?_
    refine sx_norm ?_
    refine wp_ret ?_
    exact sx_ret1 (.bool false) rfl rfl (by kernel_rfl) ⟨ret_bool (by unfold hasR num62; simp; try omega), rfl⟩
  refine sx_bool (by kernel_rfl) rfl rfl (decide (z ≥ 0)) false (by kernel_rfl) (decide_eq_false (by omega)) ?_
  refine sx_val (by kernel_rfl) rfl rfl (.bool false) (by kernel_rfl) ?_
  refine sx_skip (by kernel_rfl) rfl rfl ?_
  refine sx_skip (by kernel_rfl) rfl rfl ?_
  refine sx_val (by kernel_rfl) rfl rfl (.bool false) (by kernel_rfl) ?_
  refine sx_val (by kernel_rfl) rfl rfl (.bool false) (by kernel_rfl) ?_
  refine sx_skip (by kernel_rfl) rfl rfl ?_
  refine sx_skip (by kernel_rfl) rfl rfl ?_
  refine sx_val (by kernel_rfl) rfl rfl (.bool false) (by kernel_rfl) ?_
  refine sx_val (by kernel_rfl) rfl rfl (.bool false) (by kernel_rfl) ?_
  refine sx_skip (by kernel_rfl) rfl rfl ?_
  refine sx_skip (by kernel_rfl) rfl rfl ?_
  refine sx_skip (by kernel_rfl) rfl rfl ?_
  refine sx_skip (by kernel_rfl) rfl rfl ?_
  refine sx_skip (by kernel_rfl) rfl rfl ?_
  refine sx_skip (by kernel_rfl) rfl rfl ?_
  refine sx_val (by kernel_rfl) rfl rfl (.bool false) (by kernel_rfl) ?_
  refine sx_val (by kernel_rfl) rfl rfl (.bool false) (by kernel_rfl) ?_
  refine wpList_nil ?_
  refine sx_norm ?_
  refine wp_ret ?_
  exact sx_ret1 (.bool false) rfl rfl (by kernel_rfl) ⟨ret_bool (by unfold hasR num62; simp; try omega), rfl⟩

end Go.Proofs.Ytoliacfpjhanlaa.T


