/-
  DERIVED. Sb: a part of the base of layer 13 (made by pack.py).
-/
import Derived.Test.YtoliacfpjhanlaaSv
/-! Visits are compared (by gen_sb.py). -/
namespace Go.Proofs.Ytoliacfpjhanlaa.T
open Go.RowKit
set_option maxRecDepth 8000
attribute [local irreducible] wpList Code.wp wpAnyH

def cmpV (v u : Int × Bool) : Int := if v.1 < u.1 then -1 else if u.1 < v.1 then 1 else if v.2 = u.2 then 0 else if u.2 then -1 else 1
theorem cmpInt_n (x y : Int) (w : World) : Calls Try.prog 73 #[.int .i64 x, .int .i64 y] w fun e w' => e = .returned (.int .i64 (if x < y then -1 else if y < x then 1 else 0)) ∧ w = w' := by
  refine (Try.cmp_Compare_int x y w).mono ?_
  rintro e w' ⟨he, hw⟩
  refine ⟨?_, hw.symm⟩
  rw [he]
  unfold Lib.compareInt
  rfl
theorem compare_n (v u : Int × Bool) (w : World) : Calls Try.prog 49 #[.agg #[.int .i64 v.1, .bool v.2], .agg #[.int .i64 u.1, .bool u.2]] w fun e w' => e = .returned (.int .i64 (cmpV v u)) ∧ Below w.heap.size w w' := by
  have HB : Below w.heap.size w w := Below.refl _ _
  refine sx_enter Try.func49 rfl [(0, .agg #[.int .i64 v.1, .bool v.2]), (1, .agg #[.int .i64 u.1, .bool u.2])] (by kernel_rfl) ?_
  refine wp_seq ?_
  refine wp_region_lit ?_
  obtain ⟨W1, hW⟩ : ∃ W, w.alloc (.cells #[.int .i64 v.1, .bool v.2] 52) = W := ⟨_, rfl⟩
  have hb := hW ▸ below_alloc w (.cells #[.int .i64 v.1, .bool v.2] 52)
  have hq : Cb W1 w.heap.size #[.int .i64 v.1, .bool v.2] 52 := hW ▸ Cb.made w #[.int .i64 v.1, .bool v.2] 52
  refine sx_mem (by kernel_rfl) rfl rfl (.pointer (some ⟨w.heap.size, 0, none⟩)) W1 (by rw [← hW]; kernel_rfl) ?_
  replace HB := over HB hb
  have z1 := hb.size
  have M2 := hq
  have yM2 := hq.lt
  clear hq hb hW
  obtain ⟨W3, hW⟩ : ∃ W, W1.alloc (.cells #[.int .i64 u.1, .bool u.2] 52) = W := ⟨_, rfl⟩
  have hb := hW ▸ below_alloc W1 (.cells #[.int .i64 u.1, .bool u.2] 52)
  have hq : Cb W3 W1.heap.size #[.int .i64 u.1, .bool u.2] 52 := hW ▸ Cb.made W1 #[.int .i64 u.1, .bool u.2] 52
  refine sx_mem (by kernel_rfl) rfl rfl (.pointer (some ⟨W1.heap.size, 0, none⟩)) W3 (by rw [← hW]; kernel_rfl) ?_
  replace HB := over HB hb
  replace M2 := M2.below hb
  have z2 := hb.size
  have M4 := hq
  have yM4 := hq.lt
  clear hq hb hW
  refine sx_val (by kernel_rfl) rfl rfl (.int .i64 0) (by kernel_rfl) ?_
  refine wpList_nil ?_
  refine sx_norm ?_
  refine wp_seq ?_
  refine wp_block ?_
  refine wp_seq ?_
  refine wp_region_lit ?_
  refine sx_val (by kernel_rfl) rfl rfl (.pointer (some ⟨w.heap.size, 0, none⟩)) (by kernel_rfl) ?_
  refine sx_val (by kernel_rfl) rfl rfl (.int .i64 v.1) (ex_load1 rfl (M2.cell 0 rfl) (by kernel_rfl) Try.underlying3 rfl) ?_
  refine sx_val (by kernel_rfl) rfl rfl (.pointer (some ⟨W1.heap.size, 0, none⟩)) (by kernel_rfl) ?_
  refine sx_val (by kernel_rfl) rfl rfl (.int .i64 u.1) (ex_load1 rfl (M4.cell 0 rfl) (by kernel_rfl) Try.underlying3 rfl) ?_
  by_cases C1 : v.1 = u.1
  · refine sx_bool (by kernel_rfl) rfl rfl ((v.1 : Int) != (u.1 : Int)) false (by kernel_rfl) (by rw [bne_eq_false_iff_eq]; omega) ?_
    refine sx_val (by kernel_rfl) rfl rfl (.bool false) (by kernel_rfl) ?_
    refine wpList_nil ?_
    refine sx_norm ?_
    refine sx_false (by kernel_rfl) ?_
    refine wp_seq ?_
    refine wp_region_lit ?_
    refine sx_val (by kernel_rfl) rfl rfl (.pointer (some ⟨w.heap.size, 1, none⟩)) (by kernel_rfl) ?_
    refine sx_val (by kernel_rfl) rfl rfl (.bool v.2) (ex_load1 rfl (M2.cell 1 rfl) (by kernel_rfl) Try.underlying4 rfl) ?_
    refine sx_val (by kernel_rfl) rfl rfl (.pointer (some ⟨W1.heap.size, 1, none⟩)) (by kernel_rfl) ?_
    refine sx_val (by kernel_rfl) rfl rfl (.bool u.2) (ex_load1 rfl (M4.cell 1 rfl) (by kernel_rfl) Try.underlying4 rfl) ?_
    by_cases C2 : v.2 = u.2
    · refine sx_bool (by kernel_rfl) rfl rfl ((v.2 == u.2)) true (by kernel_rfl) (by simp [C2]) ?_
      refine sx_val (by kernel_rfl) rfl rfl (.bool true) (by kernel_rfl) ?_
      refine wpList_nil ?_
      refine sx_norm ?_
      refine sx_true (by kernel_rfl) ?_
      refine wp_seq ?_
      refine wp_region_lit ?_
      refine sx_val (by kernel_rfl) rfl rfl (.int .i64 0) (by kernel_rfl) ?_
      refine wpList_nil ?_
      refine sx_norm ?_
      refine wp_ret ?_
      refine sx_rb ?_
      refine sx_rs ?_
      exact sx_ret1 (.int .i64 0) rfl rfl (by kernel_rfl) ⟨ret_int (by unfold cmpV; split <;> simp_all <;> omega), HB⟩
    refine sx_bool (by kernel_rfl) rfl rfl ((v.2 == u.2)) false (by kernel_rfl) (by simp [C2]) ?_
    refine sx_val (by kernel_rfl) rfl rfl (.bool false) (by kernel_rfl) ?_
    refine wpList_nil ?_
    refine sx_norm ?_
    refine sx_false (by kernel_rfl) ?_
    refine wp_seq ?_
    refine wp_region_lit ?_
    refine sx_val (by kernel_rfl) rfl rfl (.pointer (some ⟨W1.heap.size, 1, none⟩)) (by kernel_rfl) ?_
    by_cases C3 : u.2 = true
    · refine sx_val (by kernel_rfl) rfl rfl (.bool true) (ex_load1 (v := .bool true) rfl (by have h8 := M4.cell 1 rfl; rw [show u.2 = true by simpa using C3] at h8; exact h8) (by kernel_rfl) Try.underlying4 rfl) ?_
      refine sx_val (by kernel_rfl) rfl rfl (.bool true) (by kernel_rfl) ?_
      refine wpList_nil ?_
      refine sx_norm ?_
      refine sx_true (by kernel_rfl) ?_
      refine wp_seq ?_
      refine wp_region_lit ?_
      refine sx_val (by kernel_rfl) rfl rfl (.int .i64 (-1)) (by kernel_rfl) ?_
      refine wpList_nil ?_
      refine sx_norm ?_
      refine wp_ret ?_
      refine sx_rb ?_
      refine sx_rs ?_
      exact sx_ret1 (.int .i64 (-1)) rfl rfl (by kernel_rfl) ⟨ret_int (by unfold cmpV; split <;> simp_all <;> omega), HB⟩
    refine sx_val (by kernel_rfl) rfl rfl (.bool false) (ex_load1 (v := .bool false) rfl (by have h8 := M4.cell 1 rfl; rw [show u.2 = false by simpa using C3] at h8; exact h8) (by kernel_rfl) Try.underlying4 rfl) ?_
    refine sx_val (by kernel_rfl) rfl rfl (.bool false) (by kernel_rfl) ?_
    refine wpList_nil ?_
    refine sx_norm ?_
    refine sx_false (by kernel_rfl) ?_
    refine wp_skip ?_
    refine sx_in ?_
    refine sx_norm ?_
    refine wp_seq ?_
    refine wp_region_lit ?_
    refine sx_val (by kernel_rfl) rfl rfl (.int .i64 1) (by kernel_rfl) ?_
    refine wpList_nil ?_
    refine sx_norm ?_
    refine wp_ret ?_
    exact sx_ret1 (.int .i64 1) rfl rfl (by kernel_rfl) ⟨ret_int (by unfold cmpV; split <;> simp_all <;> omega), HB⟩
  refine sx_bool (by kernel_rfl) rfl rfl ((v.1 : Int) != (u.1 : Int)) true (by kernel_rfl) (bne_iff_ne.2 (by omega)) ?_
  refine sx_val (by kernel_rfl) rfl rfl (.bool true) (by kernel_rfl) ?_
  refine wpList_nil ?_
  refine sx_norm ?_
  refine sx_true (by kernel_rfl) ?_
  refine wp_seq ?_
  refine wp_region_lit ?_
  refine sx_val (by kernel_rfl) rfl rfl (.pointer (some ⟨w.heap.size, 0, none⟩)) (by kernel_rfl) ?_
  refine sx_val (by kernel_rfl) rfl rfl (.int .i64 v.1) (ex_load1 rfl (M2.cell 0 rfl) (by kernel_rfl) Try.underlying3 rfl) ?_
  refine sx_val (by kernel_rfl) rfl rfl (.pointer (some ⟨W1.heap.size, 0, none⟩)) (by kernel_rfl) ?_
  refine sx_val (by kernel_rfl) rfl rfl (.int .i64 u.1) (ex_load1 rfl (M4.cell 0 rfl) (by kernel_rfl) Try.underlying3 rfl) ?_
  refine sx_call (by kernel_rfl) rfl rfl (cmpInt_n (v.1) (u.1) W3) (by kernel_rfl) ?_
  rintro e w9 ⟨rfl, rfl⟩
  refine ⟨_, rfl, ?_⟩
  refine sx_val (by kernel_rfl) rfl rfl (.int .i64 (if v.1 < u.1 then -1 else if u.1 < v.1 then 1 else 0)) (by kernel_rfl) ?_
  refine wpList_nil ?_
  refine sx_norm ?_
  refine wp_ret ?_
  refine sx_rb ?_
  refine sx_rs ?_
  exact sx_ret1 (.int .i64 (if v.1 < u.1 then -1 else if u.1 < v.1 then 1 else 0)) rfl rfl (by kernel_rfl) ⟨ret_int (by unfold cmpV; split <;> simp_all <;> omega), HB⟩
end Go.Proofs.Ytoliacfpjhanlaa.T


