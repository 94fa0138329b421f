/-
  DERIVED. SequenceOrders: a part of the base of layer 13 (made by pack.py).
-/
import Derived.Test.YtoliacfpjhanlaaSw
import Derived.Test.YtoliacfpjhanlaaSqPure
/-! The walk of the law SequenceOrders (by gen_so16.py). -/
namespace Go.Proofs.Ytoliacfpjhanlaa.T
open Go.RowKit
set_option maxRecDepth 8000
attribute [local irreducible] wpList Code.wp wpAnyH

theorem sequenceOrders_walk (oa0 : Option Addr) (c0 b0 q0 : Nat) (l0 : List (Int × Bool)) (oa1 : Option Addr) (c1 b1 q1 : Nat) (l1 : List (Int × Bool)) (oa2 : Option Addr) (c2 b2 q2 : Nat) (l2 : List (Int × Bool)) (w : World) (hv0 : Rw w b0 q0 2 (vF l0) l0.length oa0) (hv1 : Rw w b1 q1 2 (vF l1) l1.length oa1) (hv2 : Rw w b2 q2 2 (vF l2) l2.length oa2) : Calls Try.prog 8 #[.slice oa0 l0.length c0, .slice oa1 l1.length c1, .slice oa2 l2.length c2] w fun e w' => e = .returned (.bool true) ∧ Below w.heap.size w w' := by
  have HB : Below w.heap.size w w := Below.refl _ _
  have h8 := less_tri l0 l1
  have h9 := less_trans (a := l0) (b := l1) (c := l2)
  refine sx_enter Try.func8 rfl [(0, .slice oa0 l0.length c0), (1, .slice oa1 l1.length c1), (2, .slice oa2 l2.length c2)] (by kernel_rfl) ?_
  refine wp_seq ?_
  refine wp_region_lit ?_
  refine sx_val (by kernel_rfl) rfl rfl (.bool false) (by kernel_rfl) ?_
  refine wpList_nil ?_
  refine sx_norm ?_
  refine wp_seq ?_
  refine wp_seq ?_
  refine wp_region_lit ?_
  refine sx_val (by kernel_rfl) rfl rfl (.slice oa0 l0.length c0) (by kernel_rfl) ?_
  refine sx_val (by kernel_rfl) rfl rfl (.int .i64 ((l0.length : Nat) : Int)) (by kernel_rfl) ?_
  by_cases C1 : l0.length > 20
  · refine sx_bool (by kernel_rfl) rfl rfl (decide (((l0.length : Nat) : Int) > 20)) true (by kernel_rfl) (decide_eq_true (by omega)) ?_
    refine sx_val (by kernel_rfl) rfl rfl (.bool true) (by kernel_rfl) ?_
    refine sx_skip (by kernel_rfl) rfl rfl ?_
    refine sx_skip (by kernel_rfl) rfl rfl ?_
    refine sx_skip (by kernel_rfl) rfl rfl ?_
    refine sx_val (by kernel_rfl) rfl rfl (.bool true) (by kernel_rfl) ?_
    refine sx_val (by kernel_rfl) rfl rfl (.bool true) (by kernel_rfl) ?_
    refine sx_skip (by kernel_rfl) rfl rfl ?_
    refine sx_skip (by kernel_rfl) rfl rfl ?_
    refine sx_skip (by kernel_rfl) rfl rfl ?_
    refine sx_val (by kernel_rfl) rfl rfl (.bool true) (by kernel_rfl) ?_
    refine wpList_nil ?_
    refine sx_norm ?_
    refine sx_true (by kernel_rfl) ?_
    refine wp_seq ?_
    refine wp_region_lit ?_
    refine sx_call (by kernel_rfl) rfl rfl (awake16_n w) (by kernel_rfl) ?_
    rintro e W1 ⟨rfl, hb⟩
    replace HB := over HB hb
    have z1 := hb.size
    clear hb
    refine ⟨_, rfl, ?_⟩
    refine sx_val (by kernel_rfl) rfl rfl (.bool true) (by kernel_rfl) ?_
    refine wpList_nil ?_
    refine sx_norm ?_
    refine wp_ret ?_
    refine sx_rs ?_
    exact sx_ret1 (.bool true) rfl rfl (by kernel_rfl) ⟨rfl, HB⟩
  refine sx_bool (by kernel_rfl) rfl rfl (decide (((l0.length : Nat) : Int) > 20)) false (by kernel_rfl) (decide_eq_false (by omega)) ?_
  refine sx_val (by kernel_rfl) rfl rfl (.bool false) (by kernel_rfl) ?_
  refine sx_val (by kernel_rfl) rfl rfl (.slice oa1 l1.length c1) (by kernel_rfl) ?_
  refine sx_val (by kernel_rfl) rfl rfl (.int .i64 ((l1.length : Nat) : Int)) (by kernel_rfl) ?_
  by_cases C2 : l1.length > 20
  · refine sx_bool (by kernel_rfl) rfl rfl (decide (((l1.length : Nat) : Int) > 20)) true (by kernel_rfl) (decide_eq_true (by omega)) ?_
    refine sx_val (by kernel_rfl) rfl rfl (.bool true) (by kernel_rfl) ?_
    refine sx_val (by kernel_rfl) rfl rfl (.bool true) (by kernel_rfl) ?_
    refine sx_skip (by kernel_rfl) rfl rfl ?_
    refine sx_skip (by kernel_rfl) rfl rfl ?_
    refine sx_skip (by kernel_rfl) rfl rfl ?_
    refine sx_val (by kernel_rfl) rfl rfl (.bool true) (by kernel_rfl) ?_
    refine wpList_nil ?_
    refine sx_norm ?_
    refine sx_true (by kernel_rfl) ?_
    refine wp_seq ?_
    refine wp_region_lit ?_
    refine sx_call (by kernel_rfl) rfl rfl (awake16_n w) (by kernel_rfl) ?_
    rintro e W2 ⟨rfl, hb⟩
    replace HB := over HB hb
    have z1 := hb.size
    clear hb
    refine ⟨_, rfl, ?_⟩
    refine sx_val (by kernel_rfl) rfl rfl (.bool true) (by kernel_rfl) ?_
    refine wpList_nil ?_
    refine sx_norm ?_
    refine wp_ret ?_
    refine sx_rs ?_
    exact sx_ret1 (.bool true) rfl rfl (by kernel_rfl) ⟨rfl, HB⟩
  refine sx_bool (by kernel_rfl) rfl rfl (decide (((l1.length : Nat) : Int) > 20)) false (by kernel_rfl) (decide_eq_false (by omega)) ?_
  refine sx_val (by kernel_rfl) rfl rfl (.bool false) (by kernel_rfl) ?_
  refine sx_val (by kernel_rfl) rfl rfl (.bool false) (by kernel_rfl) ?_
  refine sx_val (by kernel_rfl) rfl rfl (.slice oa2 l2.length c2) (by kernel_rfl) ?_
  refine sx_val (by kernel_rfl) rfl rfl (.int .i64 ((l2.length : Nat) : Int)) (by kernel_rfl) ?_
  by_cases C3 : l2.length > 20
  · refine sx_bool (by kernel_rfl) rfl rfl (decide (((l2.length : Nat) : Int) > 20)) true (by kernel_rfl) (decide_eq_true (by omega)) ?_
    refine sx_val (by kernel_rfl) rfl rfl (.bool true) (by kernel_rfl) ?_
    refine wpList_nil ?_
    refine sx_norm ?_
    refine sx_true (by kernel_rfl) ?_
    refine wp_seq ?_
    refine wp_region_lit ?_
    refine sx_call (by kernel_rfl) rfl rfl (awake16_n w) (by kernel_rfl) ?_
    rintro e W3 ⟨rfl, hb⟩
    replace HB := over HB hb
    have z1 := hb.size
    clear hb
    refine ⟨_, rfl, ?_⟩
    refine sx_val (by kernel_rfl) rfl rfl (.bool true) (by kernel_rfl) ?_
    refine wpList_nil ?_
    refine sx_norm ?_
    refine wp_ret ?_
    refine sx_rs ?_
    exact sx_ret1 (.bool true) rfl rfl (by kernel_rfl) ⟨rfl, HB⟩
  refine sx_bool (by kernel_rfl) rfl rfl (decide (((l2.length : Nat) : Int) > 20)) false (by kernel_rfl) (decide_eq_false (by omega)) ?_
  refine sx_val (by kernel_rfl) rfl rfl (.bool false) (by kernel_rfl) ?_
  refine wpList_nil ?_
  refine sx_norm ?_
  refine sx_false (by kernel_rfl) ?_
  refine wp_skip ?_
  refine sx_norm ?_
  refine wp_seq ?_
  refine wp_region_lit ?_
  refine sx_val (by kernel_rfl) rfl rfl (.slice oa0 l0.length c0) (by kernel_rfl) ?_
  refine sx_val (by kernel_rfl) rfl rfl (.agg #[.int .i64 0, .int .i64 0, .slice none 0 0, .slice oa0 l0.length c0]) (by kernel_rfl) ?_
  refine sx_call (by kernel_rfl) rfl rfl (orders_n 0 0 none oa0 0 0 c0 b0 q0 l0 (by omega) w (hv0.below HB)) (by kernel_rfl) ?_
  rintro e W4 ⟨rfl, hb⟩
  replace HB := over HB hb
  have z1 := hb.size
  clear hb
  refine ⟨_, rfl, ?_⟩
  refine sx_val (by kernel_rfl) rfl rfl (.tuple #[.int .i64 (ordN l0), .int .i64 (ordE l0)]) (by kernel_rfl) ?_
  refine sx_val (by kernel_rfl) rfl rfl (.int .i64 (ordN l0)) (by kernel_rfl) ?_
  refine sx_val (by kernel_rfl) rfl rfl (.int .i64 (ordE l0)) (by kernel_rfl) ?_
  refine sx_val (by kernel_rfl) rfl rfl (.int .i64 (ordN l0)) (by kernel_rfl) ?_
  refine sx_val (by kernel_rfl) rfl rfl (.int .i64 (ordE l0)) (by kernel_rfl) ?_
  refine wpList_nil ?_
  refine sx_norm ?_
  refine wp_seq ?_
  refine wp_region_lit ?_
  refine sx_val (by kernel_rfl) rfl rfl (.slice oa0 l0.length c0) (by kernel_rfl) ?_
  refine sx_val (by kernel_rfl) rfl rfl (.agg #[.int .i64 0, .int .i64 0, .slice none 0 0, .slice oa0 l0.length c0]) (by kernel_rfl) ?_
  refine sx_call (by kernel_rfl) rfl rfl (refOrders_n 0 0 none oa0 0 0 c0 b0 q0 l0 (by omega) W4 (hv0.below HB)) (by kernel_rfl) ?_
  rintro e W5 ⟨rfl, hb⟩
  replace HB := over HB hb
  have z2 := hb.size
  clear hb
  refine ⟨_, rfl, ?_⟩
  refine sx_val (by kernel_rfl) rfl rfl (.tuple #[.int .i64 (ordN l0), .int .i64 (ordE l0)]) (by kernel_rfl) ?_
  refine sx_val (by kernel_rfl) rfl rfl (.int .i64 (ordN l0)) (by kernel_rfl) ?_
  refine sx_val (by kernel_rfl) rfl rfl (.int .i64 (ordE l0)) (by kernel_rfl) ?_
  refine sx_val (by kernel_rfl) rfl rfl (.int .i64 (ordN l0)) (by kernel_rfl) ?_
  refine sx_val (by kernel_rfl) rfl rfl (.int .i64 (ordE l0)) (by kernel_rfl) ?_
  refine wpList_nil ?_
  refine sx_norm ?_
  refine wp_seq ?_
  refine wp_seq ?_
  refine wp_region_lit ?_
  refine sx_val (by kernel_rfl) rfl rfl (.int .i64 (ordN l0)) (by kernel_rfl) ?_
  refine sx_val (by kernel_rfl) rfl rfl (.int .i64 (ordN l0)) (by kernel_rfl) ?_
  refine sx_bool (by kernel_rfl) rfl rfl (((ordN l0) : Int) != ((ordN l0) : Int)) false (by kernel_rfl) (by simp) ?_
  refine sx_val (by kernel_rfl) rfl rfl (.bool false) (by kernel_rfl) ?_
  refine sx_val (by kernel_rfl) rfl rfl (.int .i64 (ordE l0)) (by kernel_rfl) ?_
  refine sx_val (by kernel_rfl) rfl rfl (.int .i64 (ordE l0)) (by kernel_rfl) ?_
  refine sx_bool (by kernel_rfl) rfl rfl (((ordE l0) : Int) != ((ordE l0) : Int)) false (by kernel_rfl) (by simp) ?_
  refine sx_val (by kernel_rfl) rfl rfl (.bool false) (by kernel_rfl) ?_
  refine sx_val (by kernel_rfl) rfl rfl (.bool false) (by kernel_rfl) ?_
  refine sx_val (by kernel_rfl) rfl rfl (.slice oa0 l0.length c0) (by kernel_rfl) ?_
  refine sx_val (by kernel_rfl) rfl rfl (.slice oa1 l1.length c1) (by kernel_rfl) ?_
  refine sx_call (by kernel_rfl) rfl rfl (less_n oa0 oa1 c0 c1 b0 q0 b1 q1 l0 l1 (by omega) (by omega) W5 (hv0.below HB) (hv1.below HB)) (by kernel_rfl) ?_
  rintro e W6 ⟨rfl, hb⟩
  replace HB := over HB hb
  have z3 := hb.size
  clear hb
  refine ⟨_, rfl, ?_⟩
  refine sx_val (by kernel_rfl) rfl rfl (.slice oa0 l0.length c0) (by kernel_rfl) ?_
  refine sx_val (by kernel_rfl) rfl rfl (.slice oa1 l1.length c1) (by kernel_rfl) ?_
  refine sx_call (by kernel_rfl) rfl rfl (refLess_n oa0 oa1 c0 c1 b0 q0 b1 q1 l0 l1 (by omega) (by omega) W6 (hv0.below HB) (hv1.below HB)) (by kernel_rfl) ?_
  rintro e W7 ⟨rfl, hb⟩
  replace HB := over HB hb
  have z4 := hb.size
  clear hb
  refine ⟨_, rfl, ?_⟩
  refine sx_bool (by kernel_rfl) rfl rfl (((lessL l0 l1) != (lessL l0 l1))) false (by kernel_rfl) (by simp) ?_
  refine sx_val (by kernel_rfl) rfl rfl (.bool false) (by kernel_rfl) ?_
  refine sx_val (by kernel_rfl) rfl rfl (.bool false) (by kernel_rfl) ?_
  refine sx_val (by kernel_rfl) rfl rfl (.slice oa0 l0.length c0) (by kernel_rfl) ?_
  refine sx_val (by kernel_rfl) rfl rfl (.slice oa1 l1.length c1) (by kernel_rfl) ?_
  refine sx_call (by kernel_rfl) rfl rfl (same16_n oa0 oa1 c0 c1 b0 q0 b1 q1 l0 l1 (by omega) (by omega) W7 (hv0.below HB) (hv1.below HB)) (by kernel_rfl) ?_
  rintro e W8 ⟨rfl, hb⟩
  replace HB := over HB hb
  have z5 := hb.size
  clear hb
  refine ⟨_, rfl, ?_⟩
  refine sx_val (by kernel_rfl) rfl rfl (.slice oa0 l0.length c0) (by kernel_rfl) ?_
  refine sx_val (by kernel_rfl) rfl rfl (.slice oa1 l1.length c1) (by kernel_rfl) ?_
  refine sx_call (by kernel_rfl) rfl rfl (refSame16_n oa0 oa1 c0 c1 b0 q0 b1 q1 l0 l1 (by omega) (by omega) W8 (hv0.below HB) (hv1.below HB)) (by kernel_rfl) ?_
  rintro e W9 ⟨rfl, hb⟩
  replace HB := over HB hb
  have z6 := hb.size
  clear hb
  refine ⟨_, rfl, ?_⟩
  refine sx_bool (by kernel_rfl) rfl rfl (((decide (l0 = l1)) != (decide (l0 = l1)))) false (by kernel_rfl) (by simp) ?_
  refine sx_val (by kernel_rfl) rfl rfl (.bool false) (by kernel_rfl) ?_
  refine wpList_nil ?_
  refine sx_norm ?_
  refine sx_false (by kernel_rfl) ?_
  refine wp_skip ?_
  refine sx_norm ?_
  refine wp_seq ?_
  refine wp_region_lit ?_
  refine sx_val (by kernel_rfl) rfl rfl (.int .i64 0) (by kernel_rfl) ?_
  refine wpList_nil ?_
  refine sx_norm ?_
  refine wp_seq ?_
  refine wp_seq ?_
  refine wp_region_lit ?_
  refine sx_val (by kernel_rfl) rfl rfl (.slice oa0 l0.length c0) (by kernel_rfl) ?_
  refine sx_val (by kernel_rfl) rfl rfl (.slice oa1 l1.length c1) (by kernel_rfl) ?_
  by_cases C4 : (lessL l0 l1) = true
  · refine sx_call (by kernel_rfl) rfl rfl ((by have h8 := less_n oa0 oa1 c0 c1 b0 q0 b1 q1 l0 l1 (by omega) (by omega) W9 (hv0.below HB) (hv1.below HB); rw [show (lessL l0 l1) = true by simpa using C4] at h8; exact h8)) (by kernel_rfl) ?_
    rintro e W10 ⟨rfl, hb⟩
    replace HB := over HB hb
    have z7 := hb.size
    clear hb
    refine ⟨_, rfl, ?_⟩
    refine wpList_nil ?_
    refine sx_norm ?_
    refine sx_true (by kernel_rfl) ?_
    refine wp_region_lit ?_
    refine sx_val (by kernel_rfl) rfl rfl (.int .i64 0) (by kernel_rfl) ?_
    refine sx_int (by kernel_rfl) rfl rfl .i64 (IntKind.i64.wrap (0 + 1)) (((0 + 1 : Nat) : Int)) (by kernel_rfl) (by rw [IntKind.wrap_i64]; omega) ?_
    refine sx_val (by kernel_rfl) rfl rfl (.int .i64 ((0 + 1 : Nat) : Int)) (by kernel_rfl) ?_
    refine wpList_nil ?_
    refine sx_norm ?_
    refine wp_seq ?_
    refine wp_seq ?_
    refine wp_region_lit ?_
    refine sx_val (by kernel_rfl) rfl rfl (.slice oa1 l1.length c1) (by kernel_rfl) ?_
    refine sx_val (by kernel_rfl) rfl rfl (.slice oa0 l0.length c0) (by kernel_rfl) ?_
    by_cases C5 : (lessL l1 l0) = true
    · refine sx_call (by kernel_rfl) rfl rfl ((by have h8 := less_n oa1 oa0 c1 c0 b1 q1 b0 q0 l1 l0 (by omega) (by omega) W10 (hv1.below HB) (hv0.below HB); rw [show (lessL l1 l0) = true by simpa using C5] at h8; exact h8)) (by kernel_rfl) ?_
      rintro e W11 ⟨rfl, hb⟩
      replace HB := over HB hb
      have z8 := hb.size
      clear hb
      refine ⟨_, rfl, ?_⟩
      refine wpList_nil ?_
      refine sx_norm ?_
      refine sx_true (by kernel_rfl) ?_
      refine wp_region_lit ?_
      refine sx_val (by kernel_rfl) rfl rfl (.int .i64 ((0 + 1 : Nat) : Int)) (by kernel_rfl) ?_
      refine sx_int (by kernel_rfl) rfl rfl .i64 (IntKind.i64.wrap (((0 + 1 : Nat) : Int) + 1)) (((0 + 1 + 1 : Nat) : Int)) (by kernel_rfl) (by rw [IntKind.wrap_i64]; omega) ?_
      refine sx_val (by kernel_rfl) rfl rfl (.int .i64 ((0 + 1 + 1 : Nat) : Int)) (by kernel_rfl) ?_
      refine wpList_nil ?_
      refine sx_norm ?_
      refine wp_seq ?_
      refine wp_seq ?_
      refine wp_region_lit ?_
      refine sx_val (by kernel_rfl) rfl rfl (.slice oa0 l0.length c0) (by kernel_rfl) ?_
      refine sx_val (by kernel_rfl) rfl rfl (.slice oa1 l1.length c1) (by kernel_rfl) ?_
      by_cases C6 : (decide (l0 = l1)) = true
      · refine sx_call (by kernel_rfl) rfl rfl ((by have h8 := same16_n oa0 oa1 c0 c1 b0 q0 b1 q1 l0 l1 (by omega) (by omega) W11 (hv0.below HB) (hv1.below HB); rw [show (decide (l0 = l1)) = true by simpa using C6] at h8; exact h8)) (by kernel_rfl) ?_
        rintro e W12 ⟨rfl, hb⟩
        replace HB := over HB hb
        have z9 := hb.size
        clear hb
        refine ⟨_, rfl, ?_⟩
        refine wpList_nil ?_
        refine sx_norm ?_
        refine sx_true (by kernel_rfl) ?_
        refine wp_region_lit ?_
        refine sx_val (by kernel_rfl) rfl rfl (.int .i64 ((0 + 1 + 1 : Nat) : Int)) (by kernel_rfl) ?_
        refine sx_int (by kernel_rfl) rfl rfl .i64 (IntKind.i64.wrap (((0 + 1 + 1 : Nat) : Int) + 1)) (((0 + 1 + 1 + 1 : Nat) : Int)) (by kernel_rfl) (by rw [IntKind.wrap_i64]; omega) ?_
        refine sx_val (by kernel_rfl) rfl rfl (.int .i64 ((0 + 1 + 1 + 1 : Nat) : Int)) (by kernel_rfl) ?_
        refine wpList_nil ?_
        refine sx_norm ?_
        refine wp_seq ?_
        refine wp_region_lit ?_
        refine sx_val (by kernel_rfl) rfl rfl (.int .i64 ((0 + 1 + 1 + 1 : Nat) : Int)) (by kernel_rfl) ?_
        by_cases C7 : 0 + 1 + 1 + 1 = 1
        · refine sx_bool (by kernel_rfl) rfl rfl ((((0 + 1 + 1 + 1 : Nat) : Int) : Int) == (1 : Int)) true (by kernel_rfl) (beq_iff_eq.2 (by omega)) ?_
          refine sx_val (by kernel_rfl) rfl rfl (.bool true) (by kernel_rfl) ?_
          refine sx_val (by kernel_rfl) rfl rfl (.slice oa0 l0.length c0) (by kernel_rfl) ?_
          refine sx_val (by kernel_rfl) rfl rfl (.slice oa1 l1.length c1) (by kernel_rfl) ?_
          refine sx_call (by kernel_rfl) rfl rfl ((by have h8 := less_n oa0 oa1 c0 c1 b0 q0 b1 q1 l0 l1 (by omega) (by omega) W12 (hv0.below HB) (hv1.below HB); rw [show (lessL l0 l1) = true by simpa using C4] at h8; exact h8)) (by kernel_rfl) ?_
          rintro e W13 ⟨rfl, hb⟩
          replace HB := over HB hb
          have z10 := hb.size
          clear hb
          refine ⟨_, rfl, ?_⟩
          refine sx_val (by kernel_rfl) rfl rfl (.bool false) (by kernel_rfl) ?_
          refine sx_val (by kernel_rfl) rfl rfl (.bool false) (by kernel_rfl) ?_
          refine sx_val (by kernel_rfl) rfl rfl (.slice oa1 l1.length c1) (by kernel_rfl) ?_
          refine sx_val (by kernel_rfl) rfl rfl (.slice oa2 l2.length c2) (by kernel_rfl) ?_
          by_cases C8 : (lessL l1 l2) = true
          · refine sx_call (by kernel_rfl) rfl rfl ((by have h8 := less_n oa1 oa2 c1 c2 b1 q1 b2 q2 l1 l2 (by omega) (by omega) W13 (hv1.below HB) (hv2.below HB); rw [show (lessL l1 l2) = true by simpa using C8] at h8; exact h8)) (by kernel_rfl) ?_
            rintro e W14 ⟨rfl, hb⟩
            replace HB := over HB hb
            have z11 := hb.size
            clear hb
            refine ⟨_, rfl, ?_⟩
            refine sx_val (by kernel_rfl) rfl rfl (.bool false) (by kernel_rfl) ?_
            refine sx_val (by kernel_rfl) rfl rfl (.bool false) (by kernel_rfl) ?_
            refine sx_val (by kernel_rfl) rfl rfl (.bool false) (by kernel_rfl) ?_
            refine sx_val (by kernel_rfl) rfl rfl (.slice oa0 l0.length c0) (by kernel_rfl) ?_
            refine sx_val (by kernel_rfl) rfl rfl (.slice oa2 l2.length c2) (by kernel_rfl) ?_
            by_cases C9 : (lessL l0 l2) = true
            · refine sx_call (by kernel_rfl) rfl rfl ((by have h8 := less_n oa0 oa2 c0 c2 b0 q0 b2 q2 l0 l2 (by omega) (by omega) W14 (hv0.below HB) (hv2.below HB); rw [show (lessL l0 l2) = true by simpa using C9] at h8; exact h8)) (by kernel_rfl) ?_
              rintro e W15 ⟨rfl, hb⟩
              replace HB := over HB hb
              have z12 := hb.size
              clear hb
              refine ⟨_, rfl, ?_⟩
              refine sx_val (by kernel_rfl) rfl rfl (.bool true) (by kernel_rfl) ?_
              refine sx_val (by kernel_rfl) rfl rfl (.bool true) (by kernel_rfl) ?_
              refine sx_val (by kernel_rfl) rfl rfl (.bool true) (by kernel_rfl) ?_
              refine sx_call (by kernel_rfl) rfl rfl (awake16_n W15) (by kernel_rfl) ?_
              rintro e W16 ⟨rfl, hb⟩
              replace HB := over HB hb
              have z13 := hb.size
              clear hb
              refine ⟨_, rfl, ?_⟩
              refine sx_val (by kernel_rfl) rfl rfl (.bool true) (by kernel_rfl) ?_
              refine sx_val (by kernel_rfl) rfl rfl (.bool true) (by kernel_rfl) ?_
              refine wpList_nil ?_
              refine sx_norm ?_
              refine wp_ret ?_
              exact sx_ret1 (.bool true) rfl rfl (by kernel_rfl) ⟨rfl, HB⟩
            refine sx_call (by kernel_rfl) rfl rfl ((by have h8 := less_n oa0 oa2 c0 c2 b0 q0 b2 q2 l0 l2 (by omega) (by omega) W14 (hv0.below HB) (hv2.below HB); rw [show (lessL l0 l2) = false by simpa using C9] at h8; exact h8)) (by kernel_rfl) ?_
            rintro e W17 ⟨rfl, hb⟩
            replace HB := over HB hb
            have z12 := hb.size
            clear hb
            refine ⟨_, rfl, ?_⟩
            refine sx_val (by kernel_rfl) rfl rfl (.bool false) (by kernel_rfl) ?_
            refine sx_val (by kernel_rfl) rfl rfl (.bool false) (by kernel_rfl) ?_
            refine sx_val (by kernel_rfl) rfl rfl (.bool false) (by kernel_rfl) ?_
            refine sx_skip (by kernel_rfl) rfl rfl ?_
            refine sx_val (by kernel_rfl) rfl rfl (.bool false) (by kernel_rfl) ?_
            refine sx_val (by kernel_rfl) rfl rfl (.bool false) (by kernel_rfl) ?_
            refine wpList_nil ?_
            refine sx_norm ?_
            refine wp_ret ?_
            exfalso
            clear HB hv0 hv1 hv2
            simp_all
          refine sx_call (by kernel_rfl) rfl rfl ((by have h8 := less_n oa1 oa2 c1 c2 b1 q1 b2 q2 l1 l2 (by omega) (by omega) W13 (hv1.below HB) (hv2.below HB); rw [show (lessL l1 l2) = false by simpa using C8] at h8; exact h8)) (by kernel_rfl) ?_
          rintro e W18 ⟨rfl, hb⟩
          replace HB := over HB hb
          have z11 := hb.size
          clear hb
          refine ⟨_, rfl, ?_⟩
          refine sx_val (by kernel_rfl) rfl rfl (.bool true) (by kernel_rfl) ?_
          refine sx_val (by kernel_rfl) rfl rfl (.bool true) (by kernel_rfl) ?_
          refine sx_val (by kernel_rfl) rfl rfl (.bool true) (by kernel_rfl) ?_
          refine sx_skip (by kernel_rfl) rfl rfl ?_
          refine sx_skip (by kernel_rfl) rfl rfl ?_
          refine sx_skip (by kernel_rfl) rfl rfl ?_
          refine sx_val (by kernel_rfl) rfl rfl (.bool true) (by kernel_rfl) ?_
          refine sx_val (by kernel_rfl) rfl rfl (.bool true) (by kernel_rfl) ?_
          refine sx_val (by kernel_rfl) rfl rfl (.bool true) (by kernel_rfl) ?_
          refine sx_call (by kernel_rfl) rfl rfl (awake16_n W18) (by kernel_rfl) ?_
          rintro e W19 ⟨rfl, hb⟩
          replace HB := over HB hb
          have z12 := hb.size
          clear hb
          refine ⟨_, rfl, ?_⟩
          refine sx_val (by kernel_rfl) rfl rfl (.bool true) (by kernel_rfl) ?_
          refine sx_val (by kernel_rfl) rfl rfl (.bool true) (by kernel_rfl) ?_
          refine wpList_nil ?_
          refine sx_norm ?_
          refine wp_ret ?_
          exact sx_ret1 (.bool true) rfl rfl (by kernel_rfl) ⟨rfl, HB⟩
        refine sx_bool (by kernel_rfl) rfl rfl ((((0 + 1 + 1 + 1 : Nat) : Int) : Int) == (1 : Int)) false (by kernel_rfl) (beq_eq_false_iff_ne.2 (by omega)) ?_
        refine sx_val (by kernel_rfl) rfl rfl (.bool false) (by kernel_rfl) ?_
        refine sx_skip (by kernel_rfl) rfl rfl ?_
        refine sx_skip (by kernel_rfl) rfl rfl ?_
        refine sx_skip (by kernel_rfl) rfl rfl ?_
        refine sx_skip (by kernel_rfl) rfl rfl ?_
        refine sx_skip (by kernel_rfl) rfl rfl ?_
        refine sx_skip (by kernel_rfl) rfl rfl ?_
        refine sx_skip (by kernel_rfl) rfl rfl ?_
        refine sx_skip (by kernel_rfl) rfl rfl ?_
        refine sx_skip (by kernel_rfl) rfl rfl ?_
        refine sx_skip (by kernel_rfl) rfl rfl ?_
        refine sx_skip (by kernel_rfl) rfl rfl ?_
        refine sx_skip (by kernel_rfl) rfl rfl ?_
        refine sx_skip (by kernel_rfl) rfl rfl ?_
        refine sx_skip (by kernel_rfl) rfl rfl ?_
        refine sx_skip (by kernel_rfl) rfl rfl ?_
        refine sx_val (by kernel_rfl) rfl rfl (.bool false) (by kernel_rfl) ?_
        refine sx_val (by kernel_rfl) rfl rfl (.bool false) (by kernel_rfl) ?_
        refine sx_skip (by kernel_rfl) rfl rfl ?_
        refine sx_val (by kernel_rfl) rfl rfl (.bool false) (by kernel_rfl) ?_
        refine sx_val (by kernel_rfl) rfl rfl (.bool false) (by kernel_rfl) ?_
        refine wpList_nil ?_
        refine sx_norm ?_
        refine wp_ret ?_
        exfalso
        clear HB hv0 hv1 hv2
        simp_all
      refine sx_call (by kernel_rfl) rfl rfl ((by have h8 := same16_n oa0 oa1 c0 c1 b0 q0 b1 q1 l0 l1 (by omega) (by omega) W11 (hv0.below HB) (hv1.below HB); rw [show (decide (l0 = l1)) = false by simpa using C6] at h8; exact h8)) (by kernel_rfl) ?_
      rintro e W20 ⟨rfl, hb⟩
      replace HB := over HB hb
      have z9 := hb.size
      clear hb
      refine ⟨_, rfl, ?_⟩
      refine wpList_nil ?_
      refine sx_norm ?_
      refine sx_false (by kernel_rfl) ?_
      refine wp_skip ?_
      refine sx_norm ?_
      refine wp_seq ?_
      refine wp_region_lit ?_
      refine sx_val (by kernel_rfl) rfl rfl (.int .i64 ((0 + 1 + 1 : Nat) : Int)) (by kernel_rfl) ?_
      by_cases C10 : 0 + 1 + 1 = 1
      · refine sx_bool (by kernel_rfl) rfl rfl ((((0 + 1 + 1 : Nat) : Int) : Int) == (1 : Int)) true (by kernel_rfl) (beq_iff_eq.2 (by omega)) ?_
        refine sx_val (by kernel_rfl) rfl rfl (.bool true) (by kernel_rfl) ?_
        refine sx_val (by kernel_rfl) rfl rfl (.slice oa0 l0.length c0) (by kernel_rfl) ?_
        refine sx_val (by kernel_rfl) rfl rfl (.slice oa1 l1.length c1) (by kernel_rfl) ?_
        refine sx_call (by kernel_rfl) rfl rfl ((by have h8 := less_n oa0 oa1 c0 c1 b0 q0 b1 q1 l0 l1 (by omega) (by omega) W20 (hv0.below HB) (hv1.below HB); rw [show (lessL l0 l1) = true by simpa using C4] at h8; exact h8)) (by kernel_rfl) ?_
        rintro e W21 ⟨rfl, hb⟩
        replace HB := over HB hb
        have z10 := hb.size
        clear hb
        refine ⟨_, rfl, ?_⟩
        refine sx_val (by kernel_rfl) rfl rfl (.bool false) (by kernel_rfl) ?_
        refine sx_val (by kernel_rfl) rfl rfl (.bool false) (by kernel_rfl) ?_
        refine sx_val (by kernel_rfl) rfl rfl (.slice oa1 l1.length c1) (by kernel_rfl) ?_
        refine sx_val (by kernel_rfl) rfl rfl (.slice oa2 l2.length c2) (by kernel_rfl) ?_
        by_cases C11 : (lessL l1 l2) = true
        · refine sx_call (by kernel_rfl) rfl rfl ((by have h8 := less_n oa1 oa2 c1 c2 b1 q1 b2 q2 l1 l2 (by omega) (by omega) W21 (hv1.below HB) (hv2.below HB); rw [show (lessL l1 l2) = true by simpa using C11] at h8; exact h8)) (by kernel_rfl) ?_
          rintro e W22 ⟨rfl, hb⟩
          replace HB := over HB hb
          have z11 := hb.size
          clear hb
          refine ⟨_, rfl, ?_⟩
          refine sx_val (by kernel_rfl) rfl rfl (.bool false) (by kernel_rfl) ?_
          refine sx_val (by kernel_rfl) rfl rfl (.bool false) (by kernel_rfl) ?_
          refine sx_val (by kernel_rfl) rfl rfl (.bool false) (by kernel_rfl) ?_
          refine sx_val (by kernel_rfl) rfl rfl (.slice oa0 l0.length c0) (by kernel_rfl) ?_
          refine sx_val (by kernel_rfl) rfl rfl (.slice oa2 l2.length c2) (by kernel_rfl) ?_
          by_cases C12 : (lessL l0 l2) = true
          · refine sx_call (by kernel_rfl) rfl rfl ((by have h8 := less_n oa0 oa2 c0 c2 b0 q0 b2 q2 l0 l2 (by omega) (by omega) W22 (hv0.below HB) (hv2.below HB); rw [show (lessL l0 l2) = true by simpa using C12] at h8; exact h8)) (by kernel_rfl) ?_
            rintro e W23 ⟨rfl, hb⟩
            replace HB := over HB hb
            have z12 := hb.size
            clear hb
            refine ⟨_, rfl, ?_⟩
            refine sx_val (by kernel_rfl) rfl rfl (.bool true) (by kernel_rfl) ?_
            refine sx_val (by kernel_rfl) rfl rfl (.bool true) (by kernel_rfl) ?_
            refine sx_val (by kernel_rfl) rfl rfl (.bool true) (by kernel_rfl) ?_
            refine sx_call (by kernel_rfl) rfl rfl (awake16_n W23) (by kernel_rfl) ?_
            rintro e W24 ⟨rfl, hb⟩
            replace HB := over HB hb
            have z13 := hb.size
            clear hb
            refine ⟨_, rfl, ?_⟩
            refine sx_val (by kernel_rfl) rfl rfl (.bool true) (by kernel_rfl) ?_
            refine sx_val (by kernel_rfl) rfl rfl (.bool true) (by kernel_rfl) ?_
            refine wpList_nil ?_
            refine sx_norm ?_
            refine wp_ret ?_
            exact sx_ret1 (.bool true) rfl rfl (by kernel_rfl) ⟨rfl, HB⟩
          refine sx_call (by kernel_rfl) rfl rfl ((by have h8 := less_n oa0 oa2 c0 c2 b0 q0 b2 q2 l0 l2 (by omega) (by omega) W22 (hv0.below HB) (hv2.below HB); rw [show (lessL l0 l2) = false by simpa using C12] at h8; exact h8)) (by kernel_rfl) ?_
          rintro e W25 ⟨rfl, hb⟩
          replace HB := over HB hb
          have z12 := hb.size
          clear hb
          refine ⟨_, rfl, ?_⟩
          refine sx_val (by kernel_rfl) rfl rfl (.bool false) (by kernel_rfl) ?_
          refine sx_val (by kernel_rfl) rfl rfl (.bool false) (by kernel_rfl) ?_
          refine sx_val (by kernel_rfl) rfl rfl (.bool false) (by kernel_rfl) ?_
          refine sx_skip (by kernel_rfl) rfl rfl ?_
          refine sx_val (by kernel_rfl) rfl rfl (.bool false) (by kernel_rfl) ?_
          refine sx_val (by kernel_rfl) rfl rfl (.bool false) (by kernel_rfl) ?_
          refine wpList_nil ?_
          refine sx_norm ?_
          refine wp_ret ?_
          exfalso
          clear HB hv0 hv1 hv2
          simp_all
        refine sx_call (by kernel_rfl) rfl rfl ((by have h8 := less_n oa1 oa2 c1 c2 b1 q1 b2 q2 l1 l2 (by omega) (by omega) W21 (hv1.below HB) (hv2.below HB); rw [show (lessL l1 l2) = false by simpa using C11] at h8; exact h8)) (by kernel_rfl) ?_
        rintro e W26 ⟨rfl, hb⟩
        replace HB := over HB hb
        have z11 := hb.size
        clear hb
        refine ⟨_, rfl, ?_⟩
        refine sx_val (by kernel_rfl) rfl rfl (.bool true) (by kernel_rfl) ?_
        refine sx_val (by kernel_rfl) rfl rfl (.bool true) (by kernel_rfl) ?_
        refine sx_val (by kernel_rfl) rfl rfl (.bool true) (by kernel_rfl) ?_
        refine sx_skip (by kernel_rfl) rfl rfl ?_
        refine sx_skip (by kernel_rfl) rfl rfl ?_
        refine sx_skip (by kernel_rfl) rfl rfl ?_
        refine sx_val (by kernel_rfl) rfl rfl (.bool true) (by kernel_rfl) ?_
        refine sx_val (by kernel_rfl) rfl rfl (.bool true) (by kernel_rfl) ?_
        refine sx_val (by kernel_rfl) rfl rfl (.bool true) (by kernel_rfl) ?_
        refine sx_call (by kernel_rfl) rfl rfl (awake16_n W26) (by kernel_rfl) ?_
        rintro e W27 ⟨rfl, hb⟩
        replace HB := over HB hb
        have z12 := hb.size
        clear hb
        refine ⟨_, rfl, ?_⟩
        refine sx_val (by kernel_rfl) rfl rfl (.bool true) (by kernel_rfl) ?_
        refine sx_val (by kernel_rfl) rfl rfl (.bool true) (by kernel_rfl) ?_
        refine wpList_nil ?_
        refine sx_norm ?_
        refine wp_ret ?_
        exact sx_ret1 (.bool true) rfl rfl (by kernel_rfl) ⟨rfl, HB⟩
      refine sx_bool (by kernel_rfl) rfl rfl ((((0 + 1 + 1 : Nat) : Int) : Int) == (1 : Int)) false (by kernel_rfl) (beq_eq_false_iff_ne.2 (by omega)) ?_
      refine sx_val (by kernel_rfl) rfl rfl (.bool false) (by kernel_rfl) ?_
      refine sx_skip (by kernel_rfl) rfl rfl ?_
      refine sx_skip (by kernel_rfl) rfl rfl ?_
      refine sx_skip (by kernel_rfl) rfl rfl ?_
      refine sx_skip (by kernel_rfl) rfl rfl ?_
      refine sx_skip (by kernel_rfl) rfl rfl ?_
      refine sx_skip (by kernel_rfl) rfl rfl ?_
      refine sx_skip (by kernel_rfl) rfl rfl ?_
      refine sx_skip (by kernel_rfl) rfl rfl ?_
      refine sx_skip (by kernel_rfl) rfl rfl ?_
      refine sx_skip (by kernel_rfl) rfl rfl ?_
      refine sx_skip (by kernel_rfl) rfl rfl ?_
      refine sx_skip (by kernel_rfl) rfl rfl ?_
      refine sx_skip (by kernel_rfl) rfl rfl ?_
      refine sx_skip (by kernel_rfl) rfl rfl ?_
      refine sx_skip (by kernel_rfl) rfl rfl ?_
      refine sx_val (by kernel_rfl) rfl rfl (.bool false) (by kernel_rfl) ?_
      refine sx_val (by kernel_rfl) rfl rfl (.bool false) (by kernel_rfl) ?_
      refine sx_skip (by kernel_rfl) rfl rfl ?_
      refine sx_val (by kernel_rfl) rfl rfl (.bool false) (by kernel_rfl) ?_
      refine sx_val (by kernel_rfl) rfl rfl (.bool false) (by kernel_rfl) ?_
      refine wpList_nil ?_
      refine sx_norm ?_
      refine wp_ret ?_
      exfalso
      clear HB hv0 hv1 hv2
      simp_all
    refine sx_call (by kernel_rfl) rfl rfl ((by have h8 := less_n oa1 oa0 c1 c0 b1 q1 b0 q0 l1 l0 (by omega) (by omega) W10 (hv1.below HB) (hv0.below HB); rw [show (lessL l1 l0) = false by simpa using C5] at h8; exact h8)) (by kernel_rfl) ?_
    rintro e W28 ⟨rfl, hb⟩
    replace HB := over HB hb
    have z8 := hb.size
    clear hb
    refine ⟨_, rfl, ?_⟩
    refine wpList_nil ?_
    refine sx_norm ?_
    refine sx_false (by kernel_rfl) ?_
    refine wp_skip ?_
    refine sx_norm ?_
    refine wp_seq ?_
    refine wp_seq ?_
    refine wp_region_lit ?_
    refine sx_val (by kernel_rfl) rfl rfl (.slice oa0 l0.length c0) (by kernel_rfl) ?_
    refine sx_val (by kernel_rfl) rfl rfl (.slice oa1 l1.length c1) (by kernel_rfl) ?_
    by_cases C13 : (decide (l0 = l1)) = true
    · refine sx_call (by kernel_rfl) rfl rfl ((by have h8 := same16_n oa0 oa1 c0 c1 b0 q0 b1 q1 l0 l1 (by omega) (by omega) W28 (hv0.below HB) (hv1.below HB); rw [show (decide (l0 = l1)) = true by simpa using C13] at h8; exact h8)) (by kernel_rfl) ?_
      rintro e W29 ⟨rfl, hb⟩
      replace HB := over HB hb
      have z9 := hb.size
      clear hb
      refine ⟨_, rfl, ?_⟩
      refine wpList_nil ?_
      refine sx_norm ?_
      refine sx_true (by kernel_rfl) ?_
      refine wp_region_lit ?_
      refine sx_val (by kernel_rfl) rfl rfl (.int .i64 ((0 + 1 : Nat) : Int)) (by kernel_rfl) ?_
      refine sx_int (by kernel_rfl) rfl rfl .i64 (IntKind.i64.wrap (((0 + 1 : Nat) : Int) + 1)) (((0 + 1 + 1 : Nat) : Int)) (by kernel_rfl) (by rw [IntKind.wrap_i64]; omega) ?_
      refine sx_val (by kernel_rfl) rfl rfl (.int .i64 ((0 + 1 + 1 : Nat) : Int)) (by kernel_rfl) ?_
      refine wpList_nil ?_
      refine sx_norm ?_
      refine wp_seq ?_
      refine wp_region_lit ?_
      refine sx_val (by kernel_rfl) rfl rfl (.int .i64 ((0 + 1 + 1 : Nat) : Int)) (by kernel_rfl) ?_
      by_cases C14 : 0 + 1 + 1 = 1
      · refine sx_bool (by kernel_rfl) rfl rfl ((((0 + 1 + 1 : Nat) : Int) : Int) == (1 : Int)) true (by kernel_rfl) (beq_iff_eq.2 (by omega)) ?_
        refine sx_val (by kernel_rfl) rfl rfl (.bool true) (by kernel_rfl) ?_
        refine sx_val (by kernel_rfl) rfl rfl (.slice oa0 l0.length c0) (by kernel_rfl) ?_
        refine sx_val (by kernel_rfl) rfl rfl (.slice oa1 l1.length c1) (by kernel_rfl) ?_
        refine sx_call (by kernel_rfl) rfl rfl ((by have h8 := less_n oa0 oa1 c0 c1 b0 q0 b1 q1 l0 l1 (by omega) (by omega) W29 (hv0.below HB) (hv1.below HB); rw [show (lessL l0 l1) = true by simpa using C4] at h8; exact h8)) (by kernel_rfl) ?_
        rintro e W30 ⟨rfl, hb⟩
        replace HB := over HB hb
        have z10 := hb.size
        clear hb
        refine ⟨_, rfl, ?_⟩
        refine sx_val (by kernel_rfl) rfl rfl (.bool false) (by kernel_rfl) ?_
        refine sx_val (by kernel_rfl) rfl rfl (.bool false) (by kernel_rfl) ?_
        refine sx_val (by kernel_rfl) rfl rfl (.slice oa1 l1.length c1) (by kernel_rfl) ?_
        refine sx_val (by kernel_rfl) rfl rfl (.slice oa2 l2.length c2) (by kernel_rfl) ?_
        by_cases C15 : (lessL l1 l2) = true
        · refine sx_call (by kernel_rfl) rfl rfl ((by have h8 := less_n oa1 oa2 c1 c2 b1 q1 b2 q2 l1 l2 (by omega) (by omega) W30 (hv1.below HB) (hv2.below HB); rw [show (lessL l1 l2) = true by simpa using C15] at h8; exact h8)) (by kernel_rfl) ?_
          rintro e W31 ⟨rfl, hb⟩
          replace HB := over HB hb
          have z11 := hb.size
          clear hb
          refine ⟨_, rfl, ?_⟩
          refine sx_val (by kernel_rfl) rfl rfl (.bool false) (by kernel_rfl) ?_
          refine sx_val (by kernel_rfl) rfl rfl (.bool false) (by kernel_rfl) ?_
          refine sx_val (by kernel_rfl) rfl rfl (.bool false) (by kernel_rfl) ?_
          refine sx_val (by kernel_rfl) rfl rfl (.slice oa0 l0.length c0) (by kernel_rfl) ?_
          refine sx_val (by kernel_rfl) rfl rfl (.slice oa2 l2.length c2) (by kernel_rfl) ?_
          by_cases C16 : (lessL l0 l2) = true
          · refine sx_call (by kernel_rfl) rfl rfl ((by have h8 := less_n oa0 oa2 c0 c2 b0 q0 b2 q2 l0 l2 (by omega) (by omega) W31 (hv0.below HB) (hv2.below HB); rw [show (lessL l0 l2) = true by simpa using C16] at h8; exact h8)) (by kernel_rfl) ?_
            rintro e W32 ⟨rfl, hb⟩
            replace HB := over HB hb
            have z12 := hb.size
            clear hb
            refine ⟨_, rfl, ?_⟩
            refine sx_val (by kernel_rfl) rfl rfl (.bool true) (by kernel_rfl) ?_
            refine sx_val (by kernel_rfl) rfl rfl (.bool true) (by kernel_rfl) ?_
            refine sx_val (by kernel_rfl) rfl rfl (.bool true) (by kernel_rfl) ?_
            refine sx_call (by kernel_rfl) rfl rfl (awake16_n W32) (by kernel_rfl) ?_
            rintro e W33 ⟨rfl, hb⟩
            replace HB := over HB hb
            have z13 := hb.size
            clear hb
            refine ⟨_, rfl, ?_⟩
            refine sx_val (by kernel_rfl) rfl rfl (.bool true) (by kernel_rfl) ?_
            refine sx_val (by kernel_rfl) rfl rfl (.bool true) (by kernel_rfl) ?_
            refine wpList_nil ?_
            refine sx_norm ?_
            refine wp_ret ?_
            exact sx_ret1 (.bool true) rfl rfl (by kernel_rfl) ⟨rfl, HB⟩
          refine sx_call (by kernel_rfl) rfl rfl ((by have h8 := less_n oa0 oa2 c0 c2 b0 q0 b2 q2 l0 l2 (by omega) (by omega) W31 (hv0.below HB) (hv2.below HB); rw [show (lessL l0 l2) = false by simpa using C16] at h8; exact h8)) (by kernel_rfl) ?_
          rintro e W34 ⟨rfl, hb⟩
          replace HB := over HB hb
          have z12 := hb.size
          clear hb
          refine ⟨_, rfl, ?_⟩
          refine sx_val (by kernel_rfl) rfl rfl (.bool false) (by kernel_rfl) ?_
          refine sx_val (by kernel_rfl) rfl rfl (.bool false) (by kernel_rfl) ?_
          refine sx_val (by kernel_rfl) rfl rfl (.bool false) (by kernel_rfl) ?_
          refine sx_skip (by kernel_rfl) rfl rfl ?_
          refine sx_val (by kernel_rfl) rfl rfl (.bool false) (by kernel_rfl) ?_
          refine sx_val (by kernel_rfl) rfl rfl (.bool false) (by kernel_rfl) ?_
          refine wpList_nil ?_
          refine sx_norm ?_
          refine wp_ret ?_
          exfalso
          clear HB hv0 hv1 hv2
          simp_all
        refine sx_call (by kernel_rfl) rfl rfl ((by have h8 := less_n oa1 oa2 c1 c2 b1 q1 b2 q2 l1 l2 (by omega) (by omega) W30 (hv1.below HB) (hv2.below HB); rw [show (lessL l1 l2) = false by simpa using C15] at h8; exact h8)) (by kernel_rfl) ?_
        rintro e W35 ⟨rfl, hb⟩
        replace HB := over HB hb
        have z11 := hb.size
        clear hb
        refine ⟨_, rfl, ?_⟩
        refine sx_val (by kernel_rfl) rfl rfl (.bool true) (by kernel_rfl) ?_
        refine sx_val (by kernel_rfl) rfl rfl (.bool true) (by kernel_rfl) ?_
        refine sx_val (by kernel_rfl) rfl rfl (.bool true) (by kernel_rfl) ?_
        refine sx_skip (by kernel_rfl) rfl rfl ?_
        refine sx_skip (by kernel_rfl) rfl rfl ?_
        refine sx_skip (by kernel_rfl) rfl rfl ?_
        refine sx_val (by kernel_rfl) rfl rfl (.bool true) (by kernel_rfl) ?_
        refine sx_val (by kernel_rfl) rfl rfl (.bool true) (by kernel_rfl) ?_
        refine sx_val (by kernel_rfl) rfl rfl (.bool true) (by kernel_rfl) ?_
        refine sx_call (by kernel_rfl) rfl rfl (awake16_n W35) (by kernel_rfl) ?_
        rintro e W36 ⟨rfl, hb⟩
        replace HB := over HB hb
        have z12 := hb.size
        clear hb
        refine ⟨_, rfl, ?_⟩
        refine sx_val (by kernel_rfl) rfl rfl (.bool true) (by kernel_rfl) ?_
        refine sx_val (by kernel_rfl) rfl rfl (.bool true) (by kernel_rfl) ?_
        refine wpList_nil ?_
        refine sx_norm ?_
        refine wp_ret ?_
        exact sx_ret1 (.bool true) rfl rfl (by kernel_rfl) ⟨rfl, HB⟩
      refine sx_bool (by kernel_rfl) rfl rfl ((((0 + 1 + 1 : Nat) : Int) : Int) == (1 : Int)) false (by kernel_rfl) (beq_eq_false_iff_ne.2 (by omega)) ?_
      refine sx_val (by kernel_rfl) rfl rfl (.bool false) (by kernel_rfl) ?_
      refine sx_skip (by kernel_rfl) rfl rfl ?_
      refine sx_skip (by kernel_rfl) rfl rfl ?_
      refine sx_skip (by kernel_rfl) rfl rfl ?_
      refine sx_skip (by kernel_rfl) rfl rfl ?_
      refine sx_skip (by kernel_rfl) rfl rfl ?_
      refine sx_skip (by kernel_rfl) rfl rfl ?_
      refine sx_skip (by kernel_rfl) rfl rfl ?_
      refine sx_skip (by kernel_rfl) rfl rfl ?_
      refine sx_skip (by kernel_rfl) rfl rfl ?_
      refine sx_skip (by kernel_rfl) rfl rfl ?_
      refine sx_skip (by kernel_rfl) rfl rfl ?_
      refine sx_skip (by kernel_rfl) rfl rfl ?_
      refine sx_skip (by kernel_rfl) rfl rfl ?_
      refine sx_skip (by kernel_rfl) rfl rfl ?_
      refine sx_skip (by kernel_rfl) rfl rfl ?_
      refine sx_val (by kernel_rfl) rfl rfl (.bool false) (by kernel_rfl) ?_
      refine sx_val (by kernel_rfl) rfl rfl (.bool false) (by kernel_rfl) ?_
      refine sx_skip (by kernel_rfl) rfl rfl ?_
      refine sx_val (by kernel_rfl) rfl rfl (.bool false) (by kernel_rfl) ?_
      refine sx_val (by kernel_rfl) rfl rfl (.bool false) (by kernel_rfl) ?_
      refine wpList_nil ?_
      refine sx_norm ?_
      refine wp_ret ?_
      exfalso
      clear HB hv0 hv1 hv2
      simp_all
    refine sx_call (by kernel_rfl) rfl rfl ((by have h8 := same16_n oa0 oa1 c0 c1 b0 q0 b1 q1 l0 l1 (by omega) (by omega) W28 (hv0.below HB) (hv1.below HB); rw [show (decide (l0 = l1)) = false by simpa using C13] at h8; exact h8)) (by kernel_rfl) ?_
    rintro e W37 ⟨rfl, hb⟩
    replace HB := over HB hb
    have z9 := hb.size
    clear hb
    refine ⟨_, rfl, ?_⟩
    refine wpList_nil ?_
    refine sx_norm ?_
    refine sx_false (by kernel_rfl) ?_
    refine wp_skip ?_
    refine sx_norm ?_
    refine wp_seq ?_
    refine wp_region_lit ?_
    refine sx_val (by kernel_rfl) rfl rfl (.int .i64 ((0 + 1 : Nat) : Int)) (by kernel_rfl) ?_
    by_cases C17 : 0 + 1 = 1
    · refine sx_bool (by kernel_rfl) rfl rfl ((((0 + 1 : Nat) : Int) : Int) == (1 : Int)) true (by kernel_rfl) (beq_iff_eq.2 (by omega)) ?_
      refine sx_val (by kernel_rfl) rfl rfl (.bool true) (by kernel_rfl) ?_
      refine sx_val (by kernel_rfl) rfl rfl (.slice oa0 l0.length c0) (by kernel_rfl) ?_
      refine sx_val (by kernel_rfl) rfl rfl (.slice oa1 l1.length c1) (by kernel_rfl) ?_
      refine sx_call (by kernel_rfl) rfl rfl ((by have h8 := less_n oa0 oa1 c0 c1 b0 q0 b1 q1 l0 l1 (by omega) (by omega) W37 (hv0.below HB) (hv1.below HB); rw [show (lessL l0 l1) = true by simpa using C4] at h8; exact h8)) (by kernel_rfl) ?_
      rintro e W38 ⟨rfl, hb⟩
      replace HB := over HB hb
      have z10 := hb.size
      clear hb
      refine ⟨_, rfl, ?_⟩
      refine sx_val (by kernel_rfl) rfl rfl (.bool false) (by kernel_rfl) ?_
      refine sx_val (by kernel_rfl) rfl rfl (.bool false) (by kernel_rfl) ?_
      refine sx_val (by kernel_rfl) rfl rfl (.slice oa1 l1.length c1) (by kernel_rfl) ?_
      refine sx_val (by kernel_rfl) rfl rfl (.slice oa2 l2.length c2) (by kernel_rfl) ?_
      by_cases C18 : (lessL l1 l2) = true
      · refine sx_call (by kernel_rfl) rfl rfl ((by have h8 := less_n oa1 oa2 c1 c2 b1 q1 b2 q2 l1 l2 (by omega) (by omega) W38 (hv1.below HB) (hv2.below HB); rw [show (lessL l1 l2) = true by simpa using C18] at h8; exact h8)) (by kernel_rfl) ?_
        rintro e W39 ⟨rfl, hb⟩
        replace HB := over HB hb
        have z11 := hb.size
        clear hb
        refine ⟨_, rfl, ?_⟩
        refine sx_val (by kernel_rfl) rfl rfl (.bool false) (by kernel_rfl) ?_
        refine sx_val (by kernel_rfl) rfl rfl (.bool false) (by kernel_rfl) ?_
        refine sx_val (by kernel_rfl) rfl rfl (.bool false) (by kernel_rfl) ?_
        refine sx_val (by kernel_rfl) rfl rfl (.slice oa0 l0.length c0) (by kernel_rfl) ?_
        refine sx_val (by kernel_rfl) rfl rfl (.slice oa2 l2.length c2) (by kernel_rfl) ?_
        by_cases C19 : (lessL l0 l2) = true
        · refine sx_call (by kernel_rfl) rfl rfl ((by have h8 := less_n oa0 oa2 c0 c2 b0 q0 b2 q2 l0 l2 (by omega) (by omega) W39 (hv0.below HB) (hv2.below HB); rw [show (lessL l0 l2) = true by simpa using C19] at h8; exact h8)) (by kernel_rfl) ?_
          rintro e W40 ⟨rfl, hb⟩
          replace HB := over HB hb
          have z12 := hb.size
          clear hb
          refine ⟨_, rfl, ?_⟩
          refine sx_val (by kernel_rfl) rfl rfl (.bool true) (by kernel_rfl) ?_
          refine sx_val (by kernel_rfl) rfl rfl (.bool true) (by kernel_rfl) ?_
          refine sx_val (by kernel_rfl) rfl rfl (.bool true) (by kernel_rfl) ?_
          refine sx_call (by kernel_rfl) rfl rfl (awake16_n W40) (by kernel_rfl) ?_
          rintro e W41 ⟨rfl, hb⟩
          replace HB := over HB hb
          have z13 := hb.size
          clear hb
          refine ⟨_, rfl, ?_⟩
          refine sx_val (by kernel_rfl) rfl rfl (.bool true) (by kernel_rfl) ?_
          refine sx_val (by kernel_rfl) rfl rfl (.bool true) (by kernel_rfl) ?_
          refine wpList_nil ?_
          refine sx_norm ?_
          refine wp_ret ?_
          exact sx_ret1 (.bool true) rfl rfl (by kernel_rfl) ⟨rfl, HB⟩
        refine sx_call (by kernel_rfl) rfl rfl ((by have h8 := less_n oa0 oa2 c0 c2 b0 q0 b2 q2 l0 l2 (by omega) (by omega) W39 (hv0.below HB) (hv2.below HB); rw [show (lessL l0 l2) = false by simpa using C19] at h8; exact h8)) (by kernel_rfl) ?_
        rintro e W42 ⟨rfl, hb⟩
        replace HB := over HB hb
        have z12 := hb.size
        clear hb
        refine ⟨_, rfl, ?_⟩
        refine sx_val (by kernel_rfl) rfl rfl (.bool false) (by kernel_rfl) ?_
        refine sx_val (by kernel_rfl) rfl rfl (.bool false) (by kernel_rfl) ?_
        refine sx_val (by kernel_rfl) rfl rfl (.bool false) (by kernel_rfl) ?_
        refine sx_skip (by kernel_rfl) rfl rfl ?_
        refine sx_val (by kernel_rfl) rfl rfl (.bool false) (by kernel_rfl) ?_
        refine sx_val (by kernel_rfl) rfl rfl (.bool false) (by kernel_rfl) ?_
        refine wpList_nil ?_
        refine sx_norm ?_
        refine wp_ret ?_
        exfalso
        clear HB hv0 hv1 hv2
        simp_all
      refine sx_call (by kernel_rfl) rfl rfl ((by have h8 := less_n oa1 oa2 c1 c2 b1 q1 b2 q2 l1 l2 (by omega) (by omega) W38 (hv1.below HB) (hv2.below HB); rw [show (lessL l1 l2) = false by simpa using C18] at h8; exact h8)) (by kernel_rfl) ?_
      rintro e W43 ⟨rfl, hb⟩
      replace HB := over HB hb
      have z11 := hb.size
      clear hb
      refine ⟨_, rfl, ?_⟩
      refine sx_val (by kernel_rfl) rfl rfl (.bool true) (by kernel_rfl) ?_
      refine sx_val (by kernel_rfl) rfl rfl (.bool true) (by kernel_rfl) ?_
      refine sx_val (by kernel_rfl) rfl rfl (.bool true) (by kernel_rfl) ?_
      refine sx_skip (by kernel_rfl) rfl rfl ?_
      refine sx_skip (by kernel_rfl) rfl rfl ?_
      refine sx_skip (by kernel_rfl) rfl rfl ?_
      refine sx_val (by kernel_rfl) rfl rfl (.bool true) (by kernel_rfl) ?_
      refine sx_val (by kernel_rfl) rfl rfl (.bool true) (by kernel_rfl) ?_
      refine sx_val (by kernel_rfl) rfl rfl (.bool true) (by kernel_rfl) ?_
      refine sx_call (by kernel_rfl) rfl rfl (awake16_n W43) (by kernel_rfl) ?_
      rintro e W44 ⟨rfl, hb⟩
      replace HB := over HB hb
      have z12 := hb.size
      clear hb
      refine ⟨_, rfl, ?_⟩
      refine sx_val (by kernel_rfl) rfl rfl (.bool true) (by kernel_rfl) ?_
      refine sx_val (by kernel_rfl) rfl rfl (.bool true) (by kernel_rfl) ?_
      refine wpList_nil ?_
      refine sx_norm ?_
      refine wp_ret ?_
      exact sx_ret1 (.bool true) rfl rfl (by kernel_rfl) ⟨rfl, HB⟩
    refine sx_bool (by kernel_rfl) rfl rfl ((((0 + 1 : Nat) : Int) : Int) == (1 : Int)) false (by kernel_rfl) (beq_eq_false_iff_ne.2 (by omega)) ?_
    refine sx_val (by kernel_rfl) rfl rfl (.bool false) (by kernel_rfl) ?_
    refine sx_skip (by kernel_rfl) rfl rfl ?_
    refine sx_skip (by kernel_rfl) rfl rfl ?_
    refine sx_skip (by kernel_rfl) rfl rfl ?_
    refine sx_skip (by kernel_rfl) rfl rfl ?_
    refine sx_skip (by kernel_rfl) rfl rfl ?_
    refine sx_skip (by kernel_rfl) rfl rfl ?_
    refine sx_skip (by kernel_rfl) rfl rfl ?_
    refine sx_skip (by kernel_rfl) rfl rfl ?_
    refine sx_skip (by kernel_rfl) rfl rfl ?_
    refine sx_skip (by kernel_rfl) rfl rfl ?_
    refine sx_skip (by kernel_rfl) rfl rfl ?_
    refine sx_skip (by kernel_rfl) rfl rfl ?_
    refine sx_skip (by kernel_rfl) rfl rfl ?_
    refine sx_skip (by kernel_rfl) rfl rfl ?_
    refine sx_skip (by kernel_rfl) rfl rfl ?_
    refine sx_val (by kernel_rfl) rfl rfl (.bool false) (by kernel_rfl) ?_
    refine sx_val (by kernel_rfl) rfl rfl (.bool false) (by kernel_rfl) ?_
    refine sx_skip (by kernel_rfl) rfl rfl ?_
    refine sx_val (by kernel_rfl) rfl rfl (.bool false) (by kernel_rfl) ?_
    refine sx_val (by kernel_rfl) rfl rfl (.bool false) (by kernel_rfl) ?_
    refine wpList_nil ?_
    refine sx_norm ?_
    refine wp_ret ?_
    exfalso
    clear HB hv0 hv1 hv2
    simp_all
  refine sx_call (by kernel_rfl) rfl rfl ((by have h8 := less_n oa0 oa1 c0 c1 b0 q0 b1 q1 l0 l1 (by omega) (by omega) W9 (hv0.below HB) (hv1.below HB); rw [show (lessL l0 l1) = false by simpa using C4] at h8; exact h8)) (by kernel_rfl) ?_
  rintro e W45 ⟨rfl, hb⟩
  replace HB := over HB hb
  have z7 := hb.size
  clear hb
  refine ⟨_, rfl, ?_⟩
  refine wpList_nil ?_
  refine sx_norm ?_
  refine sx_false (by kernel_rfl) ?_
  refine wp_skip ?_
  refine sx_norm ?_
  refine wp_seq ?_
  refine wp_seq ?_
  refine wp_region_lit ?_
  refine sx_val (by kernel_rfl) rfl rfl (.slice oa1 l1.length c1) (by kernel_rfl) ?_
  refine sx_val (by kernel_rfl) rfl rfl (.slice oa0 l0.length c0) (by kernel_rfl) ?_
  by_cases C20 : (lessL l1 l0) = true
  · refine sx_call (by kernel_rfl) rfl rfl ((by have h8 := less_n oa1 oa0 c1 c0 b1 q1 b0 q0 l1 l0 (by omega) (by omega) W45 (hv1.below HB) (hv0.below HB); rw [show (lessL l1 l0) = true by simpa using C20] at h8; exact h8)) (by kernel_rfl) ?_
    rintro e W46 ⟨rfl, hb⟩
    replace HB := over HB hb
    have z8 := hb.size
    clear hb
    refine ⟨_, rfl, ?_⟩
    refine wpList_nil ?_
    refine sx_norm ?_
    refine sx_true (by kernel_rfl) ?_
    refine wp_region_lit ?_
    refine sx_val (by kernel_rfl) rfl rfl (.int .i64 0) (by kernel_rfl) ?_
    refine sx_int (by kernel_rfl) rfl rfl .i64 (IntKind.i64.wrap (0 + 1)) (((0 + 1 : Nat) : Int)) (by kernel_rfl) (by rw [IntKind.wrap_i64]; omega) ?_
    refine sx_val (by kernel_rfl) rfl rfl (.int .i64 ((0 + 1 : Nat) : Int)) (by kernel_rfl) ?_
    refine wpList_nil ?_
    refine sx_norm ?_
    refine wp_seq ?_
    refine wp_seq ?_
    refine wp_region_lit ?_
    refine sx_val (by kernel_rfl) rfl rfl (.slice oa0 l0.length c0) (by kernel_rfl) ?_
    refine sx_val (by kernel_rfl) rfl rfl (.slice oa1 l1.length c1) (by kernel_rfl) ?_
    by_cases C21 : (decide (l0 = l1)) = true
    · refine sx_call (by kernel_rfl) rfl rfl ((by have h8 := same16_n oa0 oa1 c0 c1 b0 q0 b1 q1 l0 l1 (by omega) (by omega) W46 (hv0.below HB) (hv1.below HB); rw [show (decide (l0 = l1)) = true by simpa using C21] at h8; exact h8)) (by kernel_rfl) ?_
      rintro e W47 ⟨rfl, hb⟩
      replace HB := over HB hb
      have z9 := hb.size
      clear hb
      refine ⟨_, rfl, ?_⟩
      refine wpList_nil ?_
      refine sx_norm ?_
      refine sx_true (by kernel_rfl) ?_
      refine wp_region_lit ?_
      refine sx_val (by kernel_rfl) rfl rfl (.int .i64 ((0 + 1 : Nat) : Int)) (by kernel_rfl) ?_
      refine sx_int (by kernel_rfl) rfl rfl .i64 (IntKind.i64.wrap (((0 + 1 : Nat) : Int) + 1)) (((0 + 1 + 1 : Nat) : Int)) (by kernel_rfl) (by rw [IntKind.wrap_i64]; omega) ?_
      refine sx_val (by kernel_rfl) rfl rfl (.int .i64 ((0 + 1 + 1 : Nat) : Int)) (by kernel_rfl) ?_
      refine wpList_nil ?_
      refine sx_norm ?_
      refine wp_seq ?_
      refine wp_region_lit ?_
      refine sx_val (by kernel_rfl) rfl rfl (.int .i64 ((0 + 1 + 1 : Nat) : Int)) (by kernel_rfl) ?_
      by_cases C22 : 0 + 1 + 1 = 1
      · refine sx_bool (by kernel_rfl) rfl rfl ((((0 + 1 + 1 : Nat) : Int) : Int) == (1 : Int)) true (by kernel_rfl) (beq_iff_eq.2 (by omega)) ?_
        refine sx_val (by kernel_rfl) rfl rfl (.bool true) (by kernel_rfl) ?_
        refine sx_val (by kernel_rfl) rfl rfl (.slice oa0 l0.length c0) (by kernel_rfl) ?_
        refine sx_val (by kernel_rfl) rfl rfl (.slice oa1 l1.length c1) (by kernel_rfl) ?_
        refine sx_call (by kernel_rfl) rfl rfl ((by have h8 := less_n oa0 oa1 c0 c1 b0 q0 b1 q1 l0 l1 (by omega) (by omega) W47 (hv0.below HB) (hv1.below HB); rw [show (lessL l0 l1) = false by simpa using C4] at h8; exact h8)) (by kernel_rfl) ?_
        rintro e W48 ⟨rfl, hb⟩
        replace HB := over HB hb
        have z10 := hb.size
        clear hb
        refine ⟨_, rfl, ?_⟩
        refine sx_val (by kernel_rfl) rfl rfl (.bool true) (by kernel_rfl) ?_
        refine sx_val (by kernel_rfl) rfl rfl (.bool true) (by kernel_rfl) ?_
        refine sx_skip (by kernel_rfl) rfl rfl ?_
        refine sx_skip (by kernel_rfl) rfl rfl ?_
        refine sx_skip (by kernel_rfl) rfl rfl ?_
        refine sx_skip (by kernel_rfl) rfl rfl ?_
        refine sx_val (by kernel_rfl) rfl rfl (.bool true) (by kernel_rfl) ?_
        refine sx_val (by kernel_rfl) rfl rfl (.bool true) (by kernel_rfl) ?_
        refine sx_skip (by kernel_rfl) rfl rfl ?_
        refine sx_skip (by kernel_rfl) rfl rfl ?_
        refine sx_skip (by kernel_rfl) rfl rfl ?_
        refine sx_val (by kernel_rfl) rfl rfl (.bool true) (by kernel_rfl) ?_
        refine sx_val (by kernel_rfl) rfl rfl (.bool true) (by kernel_rfl) ?_
        refine sx_val (by kernel_rfl) rfl rfl (.bool true) (by kernel_rfl) ?_
        refine sx_call (by kernel_rfl) rfl rfl (awake16_n W48) (by kernel_rfl) ?_
        rintro e W49 ⟨rfl, hb⟩
        replace HB := over HB hb
        have z11 := hb.size
        clear hb
        refine ⟨_, rfl, ?_⟩
        refine sx_val (by kernel_rfl) rfl rfl (.bool true) (by kernel_rfl) ?_
        refine sx_val (by kernel_rfl) rfl rfl (.bool true) (by kernel_rfl) ?_
        refine wpList_nil ?_
        refine sx_norm ?_
        refine wp_ret ?_
        exact sx_ret1 (.bool true) rfl rfl (by kernel_rfl) ⟨rfl, HB⟩
      refine sx_bool (by kernel_rfl) rfl rfl ((((0 + 1 + 1 : Nat) : Int) : Int) == (1 : Int)) false (by kernel_rfl) (beq_eq_false_iff_ne.2 (by omega)) ?_
      refine sx_val (by kernel_rfl) rfl rfl (.bool false) (by kernel_rfl) ?_
      refine sx_skip (by kernel_rfl) rfl rfl ?_
      refine sx_skip (by kernel_rfl) rfl rfl ?_
      refine sx_skip (by kernel_rfl) rfl rfl ?_
      refine sx_skip (by kernel_rfl) rfl rfl ?_
      refine sx_skip (by kernel_rfl) rfl rfl ?_
      refine sx_skip (by kernel_rfl) rfl rfl ?_
      refine sx_skip (by kernel_rfl) rfl rfl ?_
      refine sx_skip (by kernel_rfl) rfl rfl ?_
      refine sx_skip (by kernel_rfl) rfl rfl ?_
      refine sx_skip (by kernel_rfl) rfl rfl ?_
      refine sx_skip (by kernel_rfl) rfl rfl ?_
      refine sx_skip (by kernel_rfl) rfl rfl ?_
      refine sx_skip (by kernel_rfl) rfl rfl ?_
      refine sx_skip (by kernel_rfl) rfl rfl ?_
      refine sx_skip (by kernel_rfl) rfl rfl ?_
      refine sx_val (by kernel_rfl) rfl rfl (.bool false) (by kernel_rfl) ?_
      refine sx_val (by kernel_rfl) rfl rfl (.bool false) (by kernel_rfl) ?_
      refine sx_skip (by kernel_rfl) rfl rfl ?_
      refine sx_val (by kernel_rfl) rfl rfl (.bool false) (by kernel_rfl) ?_
      refine sx_val (by kernel_rfl) rfl rfl (.bool false) (by kernel_rfl) ?_
      refine wpList_nil ?_
      refine sx_norm ?_
      refine wp_ret ?_
      exfalso
      clear HB hv0 hv1 hv2
      simp_all
    refine sx_call (by kernel_rfl) rfl rfl ((by have h8 := same16_n oa0 oa1 c0 c1 b0 q0 b1 q1 l0 l1 (by omega) (by omega) W46 (hv0.below HB) (hv1.below HB); rw [show (decide (l0 = l1)) = false by simpa using C21] at h8; exact h8)) (by kernel_rfl) ?_
    rintro e W50 ⟨rfl, hb⟩
    replace HB := over HB hb
    have z9 := hb.size
    clear hb
    refine ⟨_, rfl, ?_⟩
    refine wpList_nil ?_
    refine sx_norm ?_
    refine sx_false (by kernel_rfl) ?_
    refine wp_skip ?_
    refine sx_norm ?_
    refine wp_seq ?_
    refine wp_region_lit ?_
    refine sx_val (by kernel_rfl) rfl rfl (.int .i64 ((0 + 1 : Nat) : Int)) (by kernel_rfl) ?_
    by_cases C23 : 0 + 1 = 1
    · refine sx_bool (by kernel_rfl) rfl rfl ((((0 + 1 : Nat) : Int) : Int) == (1 : Int)) true (by kernel_rfl) (beq_iff_eq.2 (by omega)) ?_
      refine sx_val (by kernel_rfl) rfl rfl (.bool true) (by kernel_rfl) ?_
      refine sx_val (by kernel_rfl) rfl rfl (.slice oa0 l0.length c0) (by kernel_rfl) ?_
      refine sx_val (by kernel_rfl) rfl rfl (.slice oa1 l1.length c1) (by kernel_rfl) ?_
      refine sx_call (by kernel_rfl) rfl rfl ((by have h8 := less_n oa0 oa1 c0 c1 b0 q0 b1 q1 l0 l1 (by omega) (by omega) W50 (hv0.below HB) (hv1.below HB); rw [show (lessL l0 l1) = false by simpa using C4] at h8; exact h8)) (by kernel_rfl) ?_
      rintro e W51 ⟨rfl, hb⟩
      replace HB := over HB hb
      have z10 := hb.size
      clear hb
      refine ⟨_, rfl, ?_⟩
      refine sx_val (by kernel_rfl) rfl rfl (.bool true) (by kernel_rfl) ?_
      refine sx_val (by kernel_rfl) rfl rfl (.bool true) (by kernel_rfl) ?_
      refine sx_skip (by kernel_rfl) rfl rfl ?_
      refine sx_skip (by kernel_rfl) rfl rfl ?_
      refine sx_skip (by kernel_rfl) rfl rfl ?_
      refine sx_skip (by kernel_rfl) rfl rfl ?_
      refine sx_val (by kernel_rfl) rfl rfl (.bool true) (by kernel_rfl) ?_
      refine sx_val (by kernel_rfl) rfl rfl (.bool true) (by kernel_rfl) ?_
      refine sx_skip (by kernel_rfl) rfl rfl ?_
      refine sx_skip (by kernel_rfl) rfl rfl ?_
      refine sx_skip (by kernel_rfl) rfl rfl ?_
      refine sx_val (by kernel_rfl) rfl rfl (.bool true) (by kernel_rfl) ?_
      refine sx_val (by kernel_rfl) rfl rfl (.bool true) (by kernel_rfl) ?_
      refine sx_val (by kernel_rfl) rfl rfl (.bool true) (by kernel_rfl) ?_
      refine sx_call (by kernel_rfl) rfl rfl (awake16_n W51) (by kernel_rfl) ?_
      rintro e W52 ⟨rfl, hb⟩
      replace HB := over HB hb
      have z11 := hb.size
      clear hb
      refine ⟨_, rfl, ?_⟩
      refine sx_val (by kernel_rfl) rfl rfl (.bool true) (by kernel_rfl) ?_
      refine sx_val (by kernel_rfl) rfl rfl (.bool true) (by kernel_rfl) ?_
      refine wpList_nil ?_
      refine sx_norm ?_
      refine wp_ret ?_
      exact sx_ret1 (.bool true) rfl rfl (by kernel_rfl) ⟨rfl, HB⟩
    refine sx_bool (by kernel_rfl) rfl rfl ((((0 + 1 : Nat) : Int) : Int) == (1 : Int)) false (by kernel_rfl) (beq_eq_false_iff_ne.2 (by omega)) ?_
    refine sx_val (by kernel_rfl) rfl rfl (.bool false) (by kernel_rfl) ?_
    refine sx_skip (by kernel_rfl) rfl rfl ?_
    refine sx_skip (by kernel_rfl) rfl rfl ?_
    refine sx_skip (by kernel_rfl) rfl rfl ?_
    refine sx_skip (by kernel_rfl) rfl rfl ?_
    refine sx_skip (by kernel_rfl) rfl rfl ?_
    refine sx_skip (by kernel_rfl) rfl rfl ?_
    refine sx_skip (by kernel_rfl) rfl rfl ?_
    refine sx_skip (by kernel_rfl) rfl rfl ?_
    refine sx_skip (by kernel_rfl) rfl rfl ?_
    refine sx_skip (by kernel_rfl) rfl rfl ?_
    refine sx_skip (by kernel_rfl) rfl rfl ?_
    refine sx_skip (by kernel_rfl) rfl rfl ?_
    refine sx_skip (by kernel_rfl) rfl rfl ?_
    refine sx_skip (by kernel_rfl) rfl rfl ?_
    refine sx_skip (by kernel_rfl) rfl rfl ?_
    refine sx_val (by kernel_rfl) rfl rfl (.bool false) (by kernel_rfl) ?_
    refine sx_val (by kernel_rfl) rfl rfl (.bool false) (by kernel_rfl) ?_
    refine sx_skip (by kernel_rfl) rfl rfl ?_
    refine sx_val (by kernel_rfl) rfl rfl (.bool false) (by kernel_rfl) ?_
    refine sx_val (by kernel_rfl) rfl rfl (.bool false) (by kernel_rfl) ?_
    refine wpList_nil ?_
    refine sx_norm ?_
    refine wp_ret ?_
    exfalso
    clear HB hv0 hv1 hv2
    simp_all
  refine sx_call (by kernel_rfl) rfl rfl ((by have h8 := less_n oa1 oa0 c1 c0 b1 q1 b0 q0 l1 l0 (by omega) (by omega) W45 (hv1.below HB) (hv0.below HB); rw [show (lessL l1 l0) = false by simpa using C20] at h8; exact h8)) (by kernel_rfl) ?_
  rintro e W53 ⟨rfl, hb⟩
  replace HB := over HB hb
  have z8 := hb.size
  clear hb
  refine ⟨_, rfl, ?_⟩
  refine wpList_nil ?_
  refine sx_norm ?_
  refine sx_false (by kernel_rfl) ?_
  refine wp_skip ?_
  refine sx_norm ?_
  refine wp_seq ?_
  refine wp_seq ?_
  refine wp_region_lit ?_
  refine sx_val (by kernel_rfl) rfl rfl (.slice oa0 l0.length c0) (by kernel_rfl) ?_
  refine sx_val (by kernel_rfl) rfl rfl (.slice oa1 l1.length c1) (by kernel_rfl) ?_
  by_cases C24 : (decide (l0 = l1)) = true
  · refine sx_call (by kernel_rfl) rfl rfl ((by have h8 := same16_n oa0 oa1 c0 c1 b0 q0 b1 q1 l0 l1 (by omega) (by omega) W53 (hv0.below HB) (hv1.below HB); rw [show (decide (l0 = l1)) = true by simpa using C24] at h8; exact h8)) (by kernel_rfl) ?_
    rintro e W54 ⟨rfl, hb⟩
    replace HB := over HB hb
    have z9 := hb.size
    clear hb
    refine ⟨_, rfl, ?_⟩
    refine wpList_nil ?_
    refine sx_norm ?_
    refine sx_true (by kernel_rfl) ?_
    refine wp_region_lit ?_
    refine sx_val (by kernel_rfl) rfl rfl (.int .i64 0) (by kernel_rfl) ?_
    refine sx_int (by kernel_rfl) rfl rfl .i64 (IntKind.i64.wrap (0 + 1)) (((0 + 1 : Nat) : Int)) (by kernel_rfl) (by rw [IntKind.wrap_i64]; omega) ?_
    refine sx_val (by kernel_rfl) rfl rfl (.int .i64 ((0 + 1 : Nat) : Int)) (by kernel_rfl) ?_
    refine wpList_nil ?_
    refine sx_norm ?_
    refine wp_seq ?_
    refine wp_region_lit ?_
    refine sx_val (by kernel_rfl) rfl rfl (.int .i64 ((0 + 1 : Nat) : Int)) (by kernel_rfl) ?_
    by_cases C25 : 0 + 1 = 1
    · refine sx_bool (by kernel_rfl) rfl rfl ((((0 + 1 : Nat) : Int) : Int) == (1 : Int)) true (by kernel_rfl) (beq_iff_eq.2 (by omega)) ?_
      refine sx_val (by kernel_rfl) rfl rfl (.bool true) (by kernel_rfl) ?_
      refine sx_val (by kernel_rfl) rfl rfl (.slice oa0 l0.length c0) (by kernel_rfl) ?_
      refine sx_val (by kernel_rfl) rfl rfl (.slice oa1 l1.length c1) (by kernel_rfl) ?_
      refine sx_call (by kernel_rfl) rfl rfl ((by have h8 := less_n oa0 oa1 c0 c1 b0 q0 b1 q1 l0 l1 (by omega) (by omega) W54 (hv0.below HB) (hv1.below HB); rw [show (lessL l0 l1) = false by simpa using C4] at h8; exact h8)) (by kernel_rfl) ?_
      rintro e W55 ⟨rfl, hb⟩
      replace HB := over HB hb
      have z10 := hb.size
      clear hb
      refine ⟨_, rfl, ?_⟩
      refine sx_val (by kernel_rfl) rfl rfl (.bool true) (by kernel_rfl) ?_
      refine sx_val (by kernel_rfl) rfl rfl (.bool true) (by kernel_rfl) ?_
      refine sx_skip (by kernel_rfl) rfl rfl ?_
      refine sx_skip (by kernel_rfl) rfl rfl ?_
      refine sx_skip (by kernel_rfl) rfl rfl ?_
      refine sx_skip (by kernel_rfl) rfl rfl ?_
      refine sx_val (by kernel_rfl) rfl rfl (.bool true) (by kernel_rfl) ?_
      refine sx_val (by kernel_rfl) rfl rfl (.bool true) (by kernel_rfl) ?_
      refine sx_skip (by kernel_rfl) rfl rfl ?_
      refine sx_skip (by kernel_rfl) rfl rfl ?_
      refine sx_skip (by kernel_rfl) rfl rfl ?_
      refine sx_val (by kernel_rfl) rfl rfl (.bool true) (by kernel_rfl) ?_
      refine sx_val (by kernel_rfl) rfl rfl (.bool true) (by kernel_rfl) ?_
      refine sx_val (by kernel_rfl) rfl rfl (.bool true) (by kernel_rfl) ?_
      refine sx_call (by kernel_rfl) rfl rfl (awake16_n W55) (by kernel_rfl) ?_
      rintro e W56 ⟨rfl, hb⟩
      replace HB := over HB hb
      have z11 := hb.size
      clear hb
      refine ⟨_, rfl, ?_⟩
      refine sx_val (by kernel_rfl) rfl rfl (.bool true) (by kernel_rfl) ?_
      refine sx_val (by kernel_rfl) rfl rfl (.bool true) (by kernel_rfl) ?_
      refine wpList_nil ?_
      refine sx_norm ?_
      refine wp_ret ?_
      exact sx_ret1 (.bool true) rfl rfl (by kernel_rfl) ⟨rfl, HB⟩
    refine sx_bool (by kernel_rfl) rfl rfl ((((0 + 1 : Nat) : Int) : Int) == (1 : Int)) false (by kernel_rfl) (beq_eq_false_iff_ne.2 (by omega)) ?_
    refine sx_val (by kernel_rfl) rfl rfl (.bool false) (by kernel_rfl) ?_
    refine sx_skip (by kernel_rfl) rfl rfl ?_
    refine sx_skip (by kernel_rfl) rfl rfl ?_
    refine sx_skip (by kernel_rfl) rfl rfl ?_
    refine sx_skip (by kernel_rfl) rfl rfl ?_
    refine sx_skip (by kernel_rfl) rfl rfl ?_
    refine sx_skip (by kernel_rfl) rfl rfl ?_
    refine sx_skip (by kernel_rfl) rfl rfl ?_
    refine sx_skip (by kernel_rfl) rfl rfl ?_
    refine sx_skip (by kernel_rfl) rfl rfl ?_
    refine sx_skip (by kernel_rfl) rfl rfl ?_
    refine sx_skip (by kernel_rfl) rfl rfl ?_
    refine sx_skip (by kernel_rfl) rfl rfl ?_
    refine sx_skip (by kernel_rfl) rfl rfl ?_
    refine sx_skip (by kernel_rfl) rfl rfl ?_
    refine sx_skip (by kernel_rfl) rfl rfl ?_
    refine sx_val (by kernel_rfl) rfl rfl (.bool false) (by kernel_rfl) ?_
    refine sx_val (by kernel_rfl) rfl rfl (.bool false) (by kernel_rfl) ?_
    refine sx_skip (by kernel_rfl) rfl rfl ?_
    refine sx_val (by kernel_rfl) rfl rfl (.bool false) (by kernel_rfl) ?_
    refine sx_val (by kernel_rfl) rfl rfl (.bool false) (by kernel_rfl) ?_
    refine wpList_nil ?_
    refine sx_norm ?_
    refine wp_ret ?_
    exfalso
    clear HB hv0 hv1 hv2
    simp_all
  refine sx_call (by kernel_rfl) rfl rfl ((by have h8 := same16_n oa0 oa1 c0 c1 b0 q0 b1 q1 l0 l1 (by omega) (by omega) W53 (hv0.below HB) (hv1.below HB); rw [show (decide (l0 = l1)) = false by simpa using C24] at h8; exact h8)) (by kernel_rfl) ?_
  rintro e W57 ⟨rfl, hb⟩
  replace HB := over HB hb
  have z9 := hb.size
  clear hb
  refine ⟨_, rfl, ?_⟩
  refine wpList_nil ?_
  refine sx_norm ?_
  refine sx_false (by kernel_rfl) ?_
  refine wp_skip ?_
  refine sx_norm ?_
  refine wp_seq ?_
  refine wp_region_lit ?_
  refine sx_val (by kernel_rfl) rfl rfl (.int .i64 0) (by kernel_rfl) ?_
  refine sx_val (by kernel_rfl) rfl rfl (.bool false) (by kernel_rfl) ?_
  refine sx_val (by kernel_rfl) rfl rfl (.bool false) (by kernel_rfl) ?_
  refine sx_skip (by kernel_rfl) rfl rfl ?_
  refine sx_skip (by kernel_rfl) rfl rfl ?_
  refine sx_skip (by kernel_rfl) rfl rfl ?_
  refine sx_skip (by kernel_rfl) rfl rfl ?_
  refine sx_skip (by kernel_rfl) rfl rfl ?_
  refine sx_skip (by kernel_rfl) rfl rfl ?_
  refine sx_skip (by kernel_rfl) rfl rfl ?_
  refine sx_skip (by kernel_rfl) rfl rfl ?_
  refine sx_skip (by kernel_rfl) rfl rfl ?_
  refine sx_skip (by kernel_rfl) rfl rfl ?_
  refine sx_skip (by kernel_rfl) rfl rfl ?_
  refine sx_skip (by kernel_rfl) rfl rfl ?_
  refine sx_skip (by kernel_rfl) rfl rfl ?_
  refine sx_skip (by kernel_rfl) rfl rfl ?_
  refine sx_skip (by kernel_rfl) rfl rfl ?_
  refine sx_val (by kernel_rfl) rfl rfl (.bool false) (by kernel_rfl) ?_
  refine sx_val (by kernel_rfl) rfl rfl (.bool false) (by kernel_rfl) ?_
  refine sx_skip (by kernel_rfl) rfl rfl ?_
  refine sx_val (by kernel_rfl) rfl rfl (.bool false) (by kernel_rfl) ?_
  refine sx_val (by kernel_rfl) rfl rfl (.bool false) (by kernel_rfl) ?_
  refine wpList_nil ?_
  refine sx_norm ?_
  refine wp_ret ?_
  exfalso
  clear HB hv0 hv1 hv2
  simp_all

end Go.Proofs.Ytoliacfpjhanlaa.T


