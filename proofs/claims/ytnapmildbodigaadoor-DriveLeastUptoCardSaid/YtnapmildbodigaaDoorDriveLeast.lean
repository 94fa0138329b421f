/-
  DERIVED. DriveLeast: a part of the base of layer 13 (made by pack.py).
-/
import Derived.Test.YtnapmildbodigaaDoorGA
import Derived.Test.YtnapmildbodigaaDoorGL
import Derived.Test.YtnapmildbodigaaDoorGN
/-! DriveLeast: its walk (by gen_le.py). -/
namespace Go.Proofs.YtnapmildbodigaaDoor.T
open Go.RowKit
set_option maxRecDepth 8000
attribute [local irreducible] wpList Code.wp wpAnyH

theorem bestS_short (x : InT) (ty st : Int) (l : List (Int × Bool)) (F : List Bool) : (bestS x ty st l F).T.length ≤ 20 := by
 by_cases h : bestE x ty st l F = 0
 ·have hS : bestS x ty st l F = (crs x ty st l).sheet ((crs x ty st l).bsR F) := if_pos h
  unfold bestE at h
  split at h
  ·rename_i h1
   rw [hS, tms_len, crs_n]
   have := posD_len h1.1
   omega
  ·cases h
 ·have hS : bestS x ty st l F = sh0 := if_neg h
  rw [hS]; show (0 : Nat) ≤ 20; omega
theorem driveLeast_walk (k : Iv) (x : InT) (hx : InU x) (ty st : Int) (orr oa : Option Addr) (cr ca b o bf qf : Nat) (l : List (Int × Bool)) (F : List Bool) (R : List Bool) (oR : Option Addr) (cR bR qR : Nat) (w : World) (hT : Tab w) (hI : Ins w k x) (hl : Rw w b o 2 (vF l) l.length oa) (hFx : Rw w bf qf 1 (bF F) F.length orr) (hR : Rw w bR qR 1 (bF R) R.length oR) : Calls Tryd.prog 6 #[.agg (iK k x), .agg (rK ty st orr F.length cr oa l.length ca), .slice oR R.length cR] w fun e w' => e = .returned (.bool true) ∧ Below w.heap.size w w' := by
 have HB : Below w.heap.size w w := Below.refl _ _
 refine sx_enter Tryd.func6 rfl [(0, .agg (iK k x)), (1, .agg (rK ty st orr F.length cr oa l.length ca)), (2, .slice oR R.length cR)] (by kernel_rfl) ?_
 refine wp_seq ?_
 refine wp_region_lit ?_
 obtain ⟨W1, hW, hb, hq⟩ := laidA w (iK k x) 30
 refine sx_mem (by kernel_rfl) rfl rfl (.pointer (some ⟨w.heap.size, 0, none⟩)) W1 (by rw [← hW]; kernel_rfl) ?_
 replace HB := over HB hb
 have z1 := hb.size
 have M2 := hq
 have yM2 := hq.lt
 clear hq hb hW
 obtain ⟨W3, hW, hb, hq⟩ := laidA W1 (rK ty st orr F.length cr oa l.length ca) 34
 refine sx_mem (by kernel_rfl) rfl rfl (.pointer (some ⟨W1.heap.size, 0, none⟩)) W3 (by rw [← hW]; kernel_rfl) ?_
 replace HB := over HB hb
 replace M2 := M2.below hb
 have z2 := hb.size
 have M4 := hq
 have yM4 := hq.lt
 clear hq hb hW
 refine Zv rfl (.bool false) ?_
 refine wpList_nil ?_
 refine sx_norm ?_
 refine wp_seq ?_
 refine wp_seq ?_
 refine wp_region_lit ?_
 refine Zw rfl (.agg (iK k x)) (ex_load rfl M2 (by kernel_rfl) Tryd.underlying30 rfl (by kernel_rfl)) ?_
 by_cases C1 : rightB x = true
 ·refine sx_call (by kernel_rfl) rfl rfl ((by have h8 := right_n k x hx W3 (hI.below HB); rw [C1] at h8; exact h8)) (by kernel_rfl) ?_
  rintro e W5 ⟨rfl, hb⟩
  replace HB := over HB hb
  replace M2 := M2.below hb
  replace M4 := M4.below hb
  have z3 := hb.size
  clear hb
  refine ⟨_, rfl, ?_⟩
  have hin : inF x = [] := List.length_eq_zero_iff.1 (of_decide_eq_true C1)
  refine Zv rfl (.bool false) ?_
  refine Zv rfl (.bool false) ?_
  refine Zv rfl (.pointer (some ⟨W1.heap.size, 3, none⟩)) ?_
  refine Zw rfl (.slice oa l.length ca) (el (M4.cell 3 rfl) Tryd.underlying32) ?_
  refine Zv rfl (.int .i64 ((l.length : Nat) : Int)) ?_
  by_cases C2 : l.length > 9
  ·refine Zb rfl (decide (((l.length : Nat) : Int) > 9)) true (decide_eq_true (by omega)) ?_
   refine Zv rfl (.bool true) ?_
   refine Zv rfl (.pointer (some ⟨W1.heap.size, 3, none⟩)) ?_
   refine Zw rfl (.slice oa l.length ca) (el (M4.cell 3 rfl) Tryd.underlying32) ?_
   refine Zv rfl (.int .i64 ((l.length : Nat) : Int)) ?_
   by_cases C3 : l.length ≤ 20
   ·refine Zb rfl (decide (((l.length : Nat) : Int) ≤ 20)) true (decide_eq_true (by omega)) ?_
    refine Zv rfl (.bool true) ?_
    refine Zv rfl (.bool true) ?_
    refine wpList_nil ?_
    refine sx_norm ?_
    refine sx_true (by kernel_rfl) ?_
    refine wp_seq ?_
    refine wp_region_lit ?_
    refine sx_call (by kernel_rfl) rfl rfl (examples_n W5 (hT.belowD HB)) (by kernel_rfl) ?_
    rintro e W6 ⟨rfl, hb⟩
    replace HB := over HB hb
    replace M2 := M2.below hb
    replace M4 := M4.below hb
    have z4 := hb.size
    clear hb
    refine ⟨_, rfl, ?_⟩
    refine Zv rfl (.bool true) ?_
    refine wpList_nil ?_
    refine sx_norm ?_
    refine wp_ret ?_
    refine sx_rs ?_
    exact sx_ret1 (.bool true) rfl rfl (by kernel_rfl) ⟨rfl, HB⟩
   refine Zb rfl (decide (((l.length : Nat) : Int) ≤ 20)) false (decide_eq_false (by omega)) ?_
   refine Zv rfl (.bool false) ?_
   refine Zv rfl (.bool false) ?_
   refine wpList_nil ?_
   refine sx_norm ?_
   refine sx_false (by kernel_rfl) ?_
   refine wp_skip ?_
   refine sx_norm ?_
   refine wp_seq ?_
   refine wp_region_lit ?_
   refine Zw rfl (.agg (iK k x)) (ex_load rfl M2 (by kernel_rfl) Tryd.underlying30 rfl (by kernel_rfl)) ?_
   refine Zw rfl (.agg (rK ty st orr F.length cr oa l.length ca)) (ex_load rfl M4 (by kernel_rfl) Tryd.underlying34 rfl (by kernel_rfl)) ?_
   by_cases C4 : (bestE x ty st l F) = 0
   ·refine sx_call (by kernel_rfl) rfl rfl ((by have h8 := drvBest_n k x ty st orr oa cr ca b o bf qf l F (fun hp => crs_ok hin hx.al hp) W5 (hI.below HB) (hT.belowD HB) (hl.below HB) (hFx.below HB); rw [C4] at h8; exact h8)) (by kernel_rfl) ?_
    rintro e W7 ⟨oA, cA, bA, qA, rfl, hSA, -, hb⟩
    have hlthSA : ∀ i, i < (bestS x ty st l F).T.length → bA < W7.heap.size := fun i hi => hSA.lt hi
    replace HB := over HB hb
    replace M2 := M2.below hb
    replace M4 := M4.below hb
    have z4 := hb.size
    clear hb
    refine ⟨_, rfl, ?_⟩
    refine Zv rfl (.tuple #[.agg #[.bool (bestS x ty st l F).r, .int .i64 ((bestS x ty st l F).d), .slice oA (bestS x ty st l F).T.length cA, .int .i64 ((bestS x ty st l F).e), .int .i64 ((bestS x ty st l F).m)], .int .i64 0]) ?_
    refine Zv rfl (.agg #[.bool (bestS x ty st l F).r, .int .i64 ((bestS x ty st l F).d), .slice oA (bestS x ty st l F).T.length cA, .int .i64 ((bestS x ty st l F).e), .int .i64 ((bestS x ty st l F).m)]) ?_
    refine Zv rfl (.int .i64 0) ?_
    obtain ⟨W9, hW, hb, hq⟩ := laidV W7 #[.bool false, .int .i64 0, .slice none 0 0, .int .i64 0, .int .i64 0] #[.bool (bestS x ty st l F).r, .int .i64 ((bestS x ty st l F).d), .slice oA (bestS x ty st l F).T.length cA, .int .i64 ((bestS x ty st l F).e), .int .i64 ((bestS x ty st l F).m)] 39
    refine sx_mem (by kernel_rfl) rfl rfl (.pointer (some ⟨W7.heap.size, 0, none⟩)) (W7.alloc (.cells #[.bool false, .int .i64 0, .slice none 0 0, .int .i64 0, .int .i64 0] 39)) (by kernel_rfl) ?_
    refine Zs (cells := #[.bool (bestS x ty st l F).r, .int .i64 ((bestS x ty st l F).d), .slice oA (bestS x ty st l F).T.length cA, .int .i64 ((bestS x ty st l F).e), .int .i64 ((bestS x ty st l F).m)]) rfl rfl (Cb.made W7 #[.bool false, .int .i64 0, .slice none 0 0, .int .i64 0, .int .i64 0] 39) ?_
    rw [hW]
    replace HB := over HB hb
    replace M2 := M2.below hb
    replace M4 := M4.below hb
    replace hSA := hSA.below hb
    have z5 := hb.size
    have M8 := hq
    have yM8 := hq.lt
    clear hq hb hW
    refine Zv rfl (.int .i64 0) ?_
    refine wpList_nil ?_
    refine sx_norm ?_
    refine wp_seq ?_
    refine wp_region_lit ?_
    refine Zw rfl (.agg (iK k x)) (ex_load rfl M2 (by kernel_rfl) Tryd.underlying30 rfl (by kernel_rfl)) ?_
    refine Zw rfl (.agg (rK ty st orr F.length cr oa l.length ca)) (ex_load rfl M4 (by kernel_rfl) Tryd.underlying34 rfl (by kernel_rfl)) ?_
    refine Zv rfl (.slice oR R.length cR) ?_
    by_cases C5 : (runE x ty st l R) = 0
    ·refine sx_call (by kernel_rfl) rfl rfl ((by have h8 := drvRun_n k x ty st orr oa F.length cr ca b o l (fun hp => crs_ok hin hx.al hp) R oR cR bR qR W9 (hI.below HB) (hT.belowD HB) (hl.below HB) (hR.below HB); rw [C5] at h8; exact h8)) (by kernel_rfl) ?_
     rintro e W10 ⟨oB, cB, bB, qB, rfl, hSB, -, hb⟩
     have hlthSB : ∀ i, i < (runS x ty st l R).T.length → bB < W10.heap.size := fun i hi => hSB.lt hi
     replace HB := over HB hb
     replace M2 := M2.below hb
     replace M4 := M4.below hb
     replace hSA := hSA.below hb
     replace M8 := M8.below hb
     have z6 := hb.size
     clear hb
     refine ⟨_, rfl, ?_⟩
     refine Zv rfl (.tuple #[.agg #[.bool (runS x ty st l R).r, .int .i64 ((runS x ty st l R).d), .slice oB (runS x ty st l R).T.length cB, .int .i64 ((runS x ty st l R).e), .int .i64 ((runS x ty st l R).m)], .int .i64 0]) ?_
     refine Zv rfl (.agg #[.bool (runS x ty st l R).r, .int .i64 ((runS x ty st l R).d), .slice oB (runS x ty st l R).T.length cB, .int .i64 ((runS x ty st l R).e), .int .i64 ((runS x ty st l R).m)]) ?_
     refine Zv rfl (.int .i64 0) ?_
     obtain ⟨W12, hW, hb, hq⟩ := laidV W10 #[.bool false, .int .i64 0, .slice none 0 0, .int .i64 0, .int .i64 0] #[.bool (runS x ty st l R).r, .int .i64 ((runS x ty st l R).d), .slice oB (runS x ty st l R).T.length cB, .int .i64 ((runS x ty st l R).e), .int .i64 ((runS x ty st l R).m)] 39
     refine sx_mem (by kernel_rfl) rfl rfl (.pointer (some ⟨W10.heap.size, 0, none⟩)) (W10.alloc (.cells #[.bool false, .int .i64 0, .slice none 0 0, .int .i64 0, .int .i64 0] 39)) (by kernel_rfl) ?_
     refine Zs (cells := #[.bool (runS x ty st l R).r, .int .i64 ((runS x ty st l R).d), .slice oB (runS x ty st l R).T.length cB, .int .i64 ((runS x ty st l R).e), .int .i64 ((runS x ty st l R).m)]) rfl rfl (Cb.made W10 #[.bool false, .int .i64 0, .slice none 0 0, .int .i64 0, .int .i64 0] 39) ?_
     rw [hW]
     replace HB := over HB hb
     replace M2 := M2.below hb
     replace M4 := M4.below hb
     replace hSA := hSA.below hb
     replace M8 := M8.below hb
     replace hSB := hSB.below hb
     have z7 := hb.size
     have M11 := hq
     have yM11 := hq.lt
     clear hq hb hW
     refine Zv rfl (.int .i64 0) ?_
     refine wpList_nil ?_
     refine sx_norm ?_
     refine wp_seq ?_
     refine wp_seq ?_
     refine wp_region_lit ?_
     refine Zv rfl (.int .i64 0) ?_
     refine Zv rfl (.bool true) ?_
     refine Zv rfl (.bool true) ?_
     refine Zw rfl (.agg (iK k x)) (ex_load rfl M2 (by kernel_rfl) Tryd.underlying30 rfl (by kernel_rfl)) ?_
     refine Zw rfl (.agg (rK ty st orr F.length cr oa l.length ca)) (ex_load rfl M4 (by kernel_rfl) Tryd.underlying34 rfl (by kernel_rfl)) ?_
     refine Zw rfl (.agg #[.bool (bestS x ty st l F).r, .int .i64 ((bestS x ty st l F).d), .slice oA (bestS x ty st l F).T.length cA, .int .i64 ((bestS x ty st l F).e), .int .i64 ((bestS x ty st l F).m)]) (ex_load rfl M8 (by kernel_rfl) Tryd.underlying39 rfl (by kernel_rfl)) ?_
     refine sx_call (by kernel_rfl) rfl rfl ((by have h8 := drvValid_n k x ty st orr oa oA cr ca cA b o bf qf bA qA l F (bestS x ty st l F) (by have := bestS_short x ty st l F; omega) (fun hp => crs_ok hin hx.al hp) W12 (hI.below HB) (hT.belowD HB) (hl.below HB) (hFx.below HB) hSA; rw [best_valid hin hx.al C4] at h8; exact h8)) (by kernel_rfl) ?_
     rintro e W13 ⟨rfl, hb⟩
     replace HB := over HB hb
     replace M2 := M2.below hb
     replace M4 := M4.below hb
     replace hSA := hSA.below hb
     replace M8 := M8.below hb
     replace hSB := hSB.below hb
     replace M11 := M11.below hb
     have z8 := hb.size
     clear hb
     refine ⟨_, rfl, ?_⟩
     refine Zv rfl (.bool false) ?_
     refine Zv rfl (.bool false) ?_
     refine wpList_nil ?_
     refine sx_norm ?_
     refine sx_false (by kernel_rfl) ?_
     refine wp_skip ?_
     refine sx_norm ?_
     refine wp_seq ?_
     refine wp_seq ?_
     refine wp_region_lit ?_
     refine Zv rfl (.int .i64 0) ?_
     refine Zv rfl (.bool false) ?_
     refine Zv rfl (.bool false) ?_
     refine Zv rfl (.pointer (some ⟨W1.heap.size, 2, none⟩)) ?_
     refine Zw rfl (.slice orr F.length cr) (el (M4.cell 2 rfl) Tryd.underlying31) ?_
     refine Zv rfl (.int .i64 ((F.length : Nat) : Int)) ?_
     refine Zv rfl (.slice oR R.length cR) ?_
     refine Zv rfl (.int .i64 ((R.length : Nat) : Int)) ?_
     by_cases C6 : F.length > R.length
     ·refine Zb rfl (decide (((F.length : Nat) : Int) > ((R.length : Nat) : Int))) true (decide_eq_true (by omega)) ?_
      refine Zv rfl (.bool true) ?_
      refine wpList_nil ?_
      refine sx_norm ?_
      refine sx_true (by kernel_rfl) ?_
      refine wp_seq ?_
      refine wp_region_lit ?_
      refine sx_call (by kernel_rfl) rfl rfl (examples_n W13 (hT.belowD HB)) (by kernel_rfl) ?_
      rintro e W14 ⟨rfl, hb⟩
      replace HB := over HB hb
      replace M2 := M2.below hb
      replace M4 := M4.below hb
      replace hSA := hSA.below hb
      replace M8 := M8.below hb
      replace hSB := hSB.below hb
      replace M11 := M11.below hb
      have z9 := hb.size
      clear hb
      refine ⟨_, rfl, ?_⟩
      refine Zv rfl (.bool true) ?_
      refine wpList_nil ?_
      refine sx_norm ?_
      refine wp_ret ?_
      refine sx_rs ?_
      exact sx_ret1 (.bool true) rfl rfl (by kernel_rfl) ⟨rfl, HB⟩
     refine Zb rfl (decide (((F.length : Nat) : Int) > ((R.length : Nat) : Int))) false (decide_eq_false (by omega)) ?_
     refine Zv rfl (.bool false) ?_
     refine wpList_nil ?_
     refine sx_norm ?_
     refine sx_false (by kernel_rfl) ?_
     refine wp_skip ?_
     refine sx_norm ?_
     refine wp_seq ?_
     refine wp_seq ?_
     have hl20 := posD_len (runS_is C5).2.1
     have hRl9 := (runS_is C5).2.2.1
     refine wp_region_lit ?_
     refine Zv rfl (.pointer (some ⟨W1.heap.size, 2, none⟩)) ?_
     refine Zw rfl (.slice orr F.length cr) (el (M4.cell 2 rfl) Tryd.underlying31) ?_
     refine Zv rfl (.int .i64 ((F.length : Nat) : Int)) ?_
     refine Zv rfl (.int .i64 0) ?_
     refine wpList_nil ?_
     refine sx_norm ?_
     refine wp_block ?_
     refine sx_loop (fun i : Nat => [(0, .agg (iK k x)), (1, .agg (rK ty st orr F.length cr oa l.length ca)), (2, .slice oR R.length cR), (3, .pointer (some ⟨w.heap.size, 0, none⟩)), (4, .pointer (some ⟨W1.heap.size, 0, none⟩)), (7, .pointer (some ⟨W7.heap.size, 0, none⟩)), (8, .int .i64 0), (9, .pointer (some ⟨W10.heap.size, 0, none⟩)), (10, .int .i64 0), (13, .agg (iK k x)), (14, .bool true), (15, .bool false), (16, .bool false), (17, .pointer (some ⟨W1.heap.size, 3, none⟩)), (18, .slice oa l.length ca), (19, .int .i64 ((l.length : Nat) : Int)), (20, .bool true), (21, .bool true), (22, .pointer (some ⟨W1.heap.size, 3, none⟩)), (23, .slice oa l.length ca), (24, .int .i64 ((l.length : Nat) : Int)), (25, .bool false), (26, .bool false), (27, .bool false), (29, .tuple #[.agg #[.bool (bestS x ty st l F).r, .int .i64 ((bestS x ty st l F).d), .slice oA (bestS x ty st l F).T.length cA, .int .i64 ((bestS x ty st l F).e), .int .i64 ((bestS x ty st l F).m)], .int .i64 0]), (30, .agg (iK k x)), (31, .agg (rK ty st orr F.length cr oa l.length ca)), (32, .tuple #[.agg #[.bool (bestS x ty st l F).r, .int .i64 ((bestS x ty st l F).d), .slice oA (bestS x ty st l F).T.length cA, .int .i64 ((bestS x ty st l F).e), .int .i64 ((bestS x ty st l F).m)], .int .i64 0]), (33, .agg #[.bool (bestS x ty st l F).r, .int .i64 ((bestS x ty st l F).d), .slice oA (bestS x ty st l F).T.length cA, .int .i64 ((bestS x ty st l F).e), .int .i64 ((bestS x ty st l F).m)]), (34, .int .i64 0), (35, .tuple #[.agg #[.bool (runS x ty st l R).r, .int .i64 ((runS x ty st l R).d), .slice oB (runS x ty st l R).T.length cB, .int .i64 ((runS x ty st l R).e), .int .i64 ((runS x ty st l R).m)], .int .i64 0]), (36, .agg (iK k x)), (37, .agg (rK ty st orr F.length cr oa l.length ca)), (38, .slice oR R.length cR), (39, .tuple #[.agg #[.bool (runS x ty st l R).r, .int .i64 ((runS x ty st l R).d), .slice oB (runS x ty st l R).T.length cB, .int .i64 ((runS x ty st l R).e), .int .i64 ((runS x ty st l R).m)], .int .i64 0]), (40, .agg #[.bool (runS x ty st l R).r, .int .i64 ((runS x ty st l R).d), .slice oB (runS x ty st l R).T.length cB, .int .i64 ((runS x ty st l R).e), .int .i64 ((runS x ty st l R).m)]), (41, .int .i64 0), (42, .int .i64 0), (43, .bool true), (44, .bool true), (45, .agg (iK k x)), (46, .agg (rK ty st orr F.length cr oa l.length ca)), (47, .agg #[.bool (bestS x ty st l F).r, .int .i64 ((bestS x ty st l F).d), .slice oA (bestS x ty st l F).T.length cA, .int .i64 ((bestS x ty st l F).e), .int .i64 ((bestS x ty st l F).m)]), (48, .int .i64 0), (49, .bool false), (50, .bool false), (51, .int .i64 0), (52, .bool false), (53, .bool false), (54, .pointer (some ⟨W1.heap.size, 2, none⟩)), (55, .slice orr F.length cr), (56, .int .i64 ((F.length : Nat) : Int)), (57, .slice oR R.length cR), (58, .int .i64 ((R.length : Nat) : Int)), (59, .bool false), (60, .bool false), (62, .pointer (some ⟨W1.heap.size, 2, none⟩)), (63, .slice orr F.length cr), (64, .int .i64 ((F.length : Nat) : Int)), (65, .int .i64 ((i : Nat) : Int))]) (fun gg i wr => i ≤ F.length ∧ F.length - i ≤ gg ∧ (∀ j, j < i → R.getD j false = F.getD j false) ∧ Below W13.heap.size W13 wr) (F.length) (0) (by kernel_rfl) ⟨Nat.zero_le _, Nat.le_refl _, (fun j hj => absurd hj (Nat.not_lt_zero j)), Below.refl _ _⟩ ?_
     rintro gg i g' wr15 ⟨hi, hg, hJ, hbl⟩
     replace HB := over HB hbl
     replace M2 := M2.below hbl
     replace M4 := M4.below hbl
     replace hSA := hSA.below hbl
     replace M8 := M8.below hbl
     replace hSB := hSB.below hbl
     replace M11 := M11.below hbl
     have z9 := hbl.size
     have HL := hbl
     clear hbl
     refine wp_seq ?_
     refine wp_region_lit ?_
     by_cases C7 : i < F.length
     ·refine Zb rfl (decide (((i : Nat) : Int) < ((F.length : Nat) : Int))) true (decide_eq_true (by omega)) ?_
      refine wpList_nil ?_
      refine sx_norm ?_
      refine wp_seq ?_
      refine sx_true (by kernel_rfl) ?_
      refine wp_skip ?_
      refine sx_norm ?_
      refine wp_seq ?_
      refine wp_block ?_
      refine wp_seq ?_
      refine wp_region_lit ?_
      refine Zv rfl (.int .i64 ((i : Nat) : Int)) ?_
      refine Zw rfl (.pointer (some ⟨bf, qf + i * 1, none⟩)) (ex_indexO (q := qf) (m := F.length) (c := cr) (k := i) (s := 1) rfl (by kernel_rfl) ((hFx.below HB).oa (k := i) (by omega)) (by kernel_rfl) Tryd.underlying31 (by kernel_rfl) (by omega) (by omega)) ?_
      refine Zw rfl (.bool (F.getD i false)) (el ((hFx.below HB).cell (k := i) (by omega) 0 rfl) Tryd.underlying4) ?_
      refine Zv rfl (.int .i64 ((i : Nat) : Int)) ?_
      refine Zv rfl (.bool (F.getD i false)) ?_
      refine wpList_nil ?_
      refine sx_norm ?_
      refine wp_seq ?_
      refine wp_region_lit ?_
      refine Zv rfl (.slice oR R.length cR) ?_
      refine Zv rfl (.int .i64 ((i : Nat) : Int)) ?_
      refine Zw rfl (.pointer (some ⟨bR, qR + i * 1, none⟩)) (ex_indexO (q := qR) (m := R.length) (c := cR) (k := i) (s := 1) rfl (by kernel_rfl) ((hR.below HB).oa (k := i) (by omega)) (by kernel_rfl) Tryd.underlying31 (by kernel_rfl) (by omega) (by omega)) ?_
      refine Zw rfl (.bool (R.getD i false)) (el ((hR.below HB).cell (k := i) (by omega) 0 rfl) Tryd.underlying4) ?_
      refine Zv rfl (.bool (F.getD i false)) ?_
      by_cases C8 : (R.getD i false) = (F.getD i false)
      ·refine Zb rfl (((R.getD i false) != (F.getD i false))) false (by rw [C8]; exact bne_self_eq_false _) ?_
       refine wpList_nil ?_
       refine sx_norm ?_
       refine sx_false (by kernel_rfl) ?_
       refine wp_skip ?_
       refine sx_in ?_
       refine sx_norm ?_
       refine wp_region_lit ?_
       refine sx_int (by kernel_rfl) rfl rfl .i64 (IntKind.i64.wrap (((i : Nat) : Int) + 1)) (((i + 1 : Nat) : Int)) (by kernel_rfl) (by rw [IntKind.wrap_i64]; omega) ?_
       refine Zv rfl (.int .i64 ((i + 1 : Nat) : Int)) ?_
       refine wpList_nil ?_
       refine sx_norm ?_
       exact sx_again (F.length - (i + 1)) (i + 1) (by omega) (by kernel_rfl) ⟨by omega, Nat.le_refl _, ext_more hJ (by assumption), HL⟩
      refine Zb rfl (((R.getD i false) != (F.getD i false))) true (bne_iff_ne.2 C8) ?_
      refine wpList_nil ?_
      refine sx_norm ?_
      refine sx_true (by kernel_rfl) ?_
      refine wp_seq ?_
      refine wp_region_lit ?_
      refine sx_call (by kernel_rfl) rfl rfl (examples_n wr15 (hT.belowD HB)) (by kernel_rfl) ?_
      rintro e W16 ⟨rfl, hb⟩
      replace HB := over HB hb
      replace M2 := M2.below hb
      replace M4 := M4.below hb
      replace hSA := hSA.below hb
      replace M8 := M8.below hb
      replace hSB := hSB.below hb
      replace M11 := M11.below hb
      replace HL := over HL hb
      have z10 := hb.size
      clear hb
      refine ⟨_, rfl, ?_⟩
      refine Zv rfl (.bool true) ?_
      refine wpList_nil ?_
      refine sx_norm ?_
      refine wp_ret ?_
      refine sx_rb ?_
      refine sx_rs ?_
      refine sx_rs ?_
      refine sx_rb ?_
      refine sx_rs ?_
      exact sx_ret1 (.bool true) rfl rfl (by kernel_rfl) ⟨rfl, HB⟩
     refine Zb rfl (decide (((i : Nat) : Int) < ((F.length : Nat) : Int))) false (decide_eq_false (by omega)) ?_
     refine wpList_nil ?_
     refine sx_norm ?_
     refine wp_seq ?_
     refine sx_false (by kernel_rfl) ?_
     refine wp_exit ?_
     refine sx_es ?_
     refine sx_es ?_
     refine sx_out ?_
     refine sx_norm ?_
     refine wp_seq ?_
     have hbf := best_first hin hx.al (F := F) (R := R) (by omega) (fun j hj => hJ j (by omega)) C5
     refine wp_region_lit ?_
     refine Zv rfl (.int .i64 0) ?_
     refine Zv rfl (.bool true) ?_
     refine Zv rfl (.bool true) ?_
     refine Zv rfl (.pointer (some ⟨W7.heap.size, 3, none⟩)) ?_
     refine Zw rfl (.int .i64 ((bestS x ty st l F).e)) (el (M8.cell 3 rfl) Tryd.underlying3) ?_
     refine Zv rfl (.pointer (some ⟨W10.heap.size, 3, none⟩)) ?_
     refine Zw rfl (.int .i64 ((runS x ty st l R).e)) (el (M11.cell 3 rfl) Tryd.underlying3) ?_
     refine Zb rfl (decide ((bestS x ty st l F).e ≤ (runS x ty st l R).e)) true (decide_eq_true (by omega)) ?_
     refine Zv rfl (.bool true) ?_
     refine Zv rfl (.bool true) ?_
     refine sx_call (by kernel_rfl) rfl rfl (examples_n wr15 (hT.belowD HB)) (by kernel_rfl) ?_
     rintro e W17 ⟨rfl, hb⟩
     replace HB := over HB hb
     replace M2 := M2.below hb
     replace M4 := M4.below hb
     replace hSA := hSA.below hb
     replace M8 := M8.below hb
     replace hSB := hSB.below hb
     replace M11 := M11.below hb
     replace HL := over HL hb
     have z10 := hb.size
     clear hb
     refine ⟨_, rfl, ?_⟩
     refine Zv rfl (.bool true) ?_
     refine Zv rfl (.bool true) ?_
     refine wpList_nil ?_
     refine sx_norm ?_
     refine wp_ret ?_
     exact sx_ret1 (.bool true) rfl rfl (by kernel_rfl) ⟨rfl, HB⟩
    refine sx_call (by kernel_rfl) rfl rfl ((by have h8 := drvRun_n k x ty st orr oa F.length cr ca b o l (fun hp => crs_ok hin hx.al hp) R oR cR bR qR W9 (hI.below HB) (hT.belowD HB) (hl.below HB) (hR.below HB); exact h8)) (by kernel_rfl) ?_
    rintro e W18 ⟨oB, cB, bB, qB, rfl, hSB, -, hb⟩
    have hlthSB : ∀ i, i < (runS x ty st l R).T.length → bB < W18.heap.size := fun i hi => hSB.lt hi
    replace HB := over HB hb
    replace M2 := M2.below hb
    replace M4 := M4.below hb
    replace hSA := hSA.below hb
    replace M8 := M8.below hb
    have z6 := hb.size
    clear hb
    refine ⟨_, rfl, ?_⟩
    refine Zv rfl (.tuple #[.agg #[.bool (runS x ty st l R).r, .int .i64 ((runS x ty st l R).d), .slice oB (runS x ty st l R).T.length cB, .int .i64 ((runS x ty st l R).e), .int .i64 ((runS x ty st l R).m)], .int .i64 (runE x ty st l R)]) ?_
    refine Zv rfl (.agg #[.bool (runS x ty st l R).r, .int .i64 ((runS x ty st l R).d), .slice oB (runS x ty st l R).T.length cB, .int .i64 ((runS x ty st l R).e), .int .i64 ((runS x ty st l R).m)]) ?_
    refine Zv rfl (.int .i64 (runE x ty st l R)) ?_
    obtain ⟨W20, hW, hb, hq⟩ := laidV W18 #[.bool false, .int .i64 0, .slice none 0 0, .int .i64 0, .int .i64 0] #[.bool (runS x ty st l R).r, .int .i64 ((runS x ty st l R).d), .slice oB (runS x ty st l R).T.length cB, .int .i64 ((runS x ty st l R).e), .int .i64 ((runS x ty st l R).m)] 39
    refine sx_mem (by kernel_rfl) rfl rfl (.pointer (some ⟨W18.heap.size, 0, none⟩)) (W18.alloc (.cells #[.bool false, .int .i64 0, .slice none 0 0, .int .i64 0, .int .i64 0] 39)) (by kernel_rfl) ?_
    refine Zs (cells := #[.bool (runS x ty st l R).r, .int .i64 ((runS x ty st l R).d), .slice oB (runS x ty st l R).T.length cB, .int .i64 ((runS x ty st l R).e), .int .i64 ((runS x ty st l R).m)]) rfl rfl (Cb.made W18 #[.bool false, .int .i64 0, .slice none 0 0, .int .i64 0, .int .i64 0] 39) ?_
    rw [hW]
    replace HB := over HB hb
    replace M2 := M2.below hb
    replace M4 := M4.below hb
    replace hSA := hSA.below hb
    replace M8 := M8.below hb
    replace hSB := hSB.below hb
    have z7 := hb.size
    have M19 := hq
    have yM19 := hq.lt
    clear hq hb hW
    refine Zv rfl (.int .i64 (runE x ty st l R)) ?_
    refine wpList_nil ?_
    refine sx_norm ?_
    refine wp_seq ?_
    refine wp_seq ?_
    refine wp_region_lit ?_
    refine Zv rfl (.int .i64 0) ?_
    refine Zv rfl (.bool true) ?_
    refine Zv rfl (.bool true) ?_
    refine Zw rfl (.agg (iK k x)) (ex_load rfl M2 (by kernel_rfl) Tryd.underlying30 rfl (by kernel_rfl)) ?_
    refine Zw rfl (.agg (rK ty st orr F.length cr oa l.length ca)) (ex_load rfl M4 (by kernel_rfl) Tryd.underlying34 rfl (by kernel_rfl)) ?_
    refine Zw rfl (.agg #[.bool (bestS x ty st l F).r, .int .i64 ((bestS x ty st l F).d), .slice oA (bestS x ty st l F).T.length cA, .int .i64 ((bestS x ty st l F).e), .int .i64 ((bestS x ty st l F).m)]) (ex_load rfl M8 (by kernel_rfl) Tryd.underlying39 rfl (by kernel_rfl)) ?_
    refine sx_call (by kernel_rfl) rfl rfl ((by have h8 := drvValid_n k x ty st orr oa oA cr ca cA b o bf qf bA qA l F (bestS x ty st l F) (by have := bestS_short x ty st l F; omega) (fun hp => crs_ok hin hx.al hp) W20 (hI.below HB) (hT.belowD HB) (hl.below HB) (hFx.below HB) hSA; rw [best_valid hin hx.al C4] at h8; exact h8)) (by kernel_rfl) ?_
    rintro e W21 ⟨rfl, hb⟩
    replace HB := over HB hb
    replace M2 := M2.below hb
    replace M4 := M4.below hb
    replace hSA := hSA.below hb
    replace M8 := M8.below hb
    replace hSB := hSB.below hb
    replace M19 := M19.below hb
    have z8 := hb.size
    clear hb
    refine ⟨_, rfl, ?_⟩
    refine Zv rfl (.bool false) ?_
    refine Zv rfl (.bool false) ?_
    refine wpList_nil ?_
    refine sx_norm ?_
    refine sx_false (by kernel_rfl) ?_
    refine wp_skip ?_
    refine sx_norm ?_
    refine wp_seq ?_
    refine wp_seq ?_
    refine wp_region_lit ?_
    refine Zv rfl (.int .i64 (runE x ty st l R)) ?_
    refine Zb rfl (((runE x ty st l R) : Int) != (0 : Int)) true (bne_iff_ne.2 (by omega)) ?_
    refine Zv rfl (.bool true) ?_
    refine Zk rfl ?_
    refine Zk rfl ?_
    refine Zk rfl ?_
    refine Zk rfl ?_
    refine Zk rfl ?_
    refine Zk rfl ?_
    refine Zv rfl (.bool true) ?_
    refine wpList_nil ?_
    refine sx_norm ?_
    refine sx_true (by kernel_rfl) ?_
    refine wp_seq ?_
    refine wp_region_lit ?_
    refine sx_call (by kernel_rfl) rfl rfl (examples_n W21 (hT.belowD HB)) (by kernel_rfl) ?_
    rintro e W22 ⟨rfl, hb⟩
    replace HB := over HB hb
    replace M2 := M2.below hb
    replace M4 := M4.below hb
    replace hSA := hSA.below hb
    replace M8 := M8.below hb
    replace hSB := hSB.below hb
    replace M19 := M19.below hb
    have z9 := hb.size
    clear hb
    refine ⟨_, rfl, ?_⟩
    refine Zv rfl (.bool true) ?_
    refine wpList_nil ?_
    refine sx_norm ?_
    refine wp_ret ?_
    refine sx_rs ?_
    exact sx_ret1 (.bool true) rfl rfl (by kernel_rfl) ⟨rfl, HB⟩
   refine sx_call (by kernel_rfl) rfl rfl ((by have h8 := drvBest_n k x ty st orr oa cr ca b o bf qf l F (fun hp => crs_ok hin hx.al hp) W5 (hI.below HB) (hT.belowD HB) (hl.below HB) (hFx.below HB); exact h8)) (by kernel_rfl) ?_
   rintro e W23 ⟨oA, cA, bA, qA, rfl, hSA, -, hb⟩
   have hlthSA : ∀ i, i < (bestS x ty st l F).T.length → bA < W23.heap.size := fun i hi => hSA.lt hi
   replace HB := over HB hb
   replace M2 := M2.below hb
   replace M4 := M4.below hb
   have z4 := hb.size
   clear hb
   refine ⟨_, rfl, ?_⟩
   refine Zv rfl (.tuple #[.agg #[.bool (bestS x ty st l F).r, .int .i64 ((bestS x ty st l F).d), .slice oA (bestS x ty st l F).T.length cA, .int .i64 ((bestS x ty st l F).e), .int .i64 ((bestS x ty st l F).m)], .int .i64 (bestE x ty st l F)]) ?_
   refine Zv rfl (.agg #[.bool (bestS x ty st l F).r, .int .i64 ((bestS x ty st l F).d), .slice oA (bestS x ty st l F).T.length cA, .int .i64 ((bestS x ty st l F).e), .int .i64 ((bestS x ty st l F).m)]) ?_
   refine Zv rfl (.int .i64 (bestE x ty st l F)) ?_
   obtain ⟨W25, hW, hb, hq⟩ := laidV W23 #[.bool false, .int .i64 0, .slice none 0 0, .int .i64 0, .int .i64 0] #[.bool (bestS x ty st l F).r, .int .i64 ((bestS x ty st l F).d), .slice oA (bestS x ty st l F).T.length cA, .int .i64 ((bestS x ty st l F).e), .int .i64 ((bestS x ty st l F).m)] 39
   refine sx_mem (by kernel_rfl) rfl rfl (.pointer (some ⟨W23.heap.size, 0, none⟩)) (W23.alloc (.cells #[.bool false, .int .i64 0, .slice none 0 0, .int .i64 0, .int .i64 0] 39)) (by kernel_rfl) ?_
   refine Zs (cells := #[.bool (bestS x ty st l F).r, .int .i64 ((bestS x ty st l F).d), .slice oA (bestS x ty st l F).T.length cA, .int .i64 ((bestS x ty st l F).e), .int .i64 ((bestS x ty st l F).m)]) rfl rfl (Cb.made W23 #[.bool false, .int .i64 0, .slice none 0 0, .int .i64 0, .int .i64 0] 39) ?_
   rw [hW]
   replace HB := over HB hb
   replace M2 := M2.below hb
   replace M4 := M4.below hb
   replace hSA := hSA.below hb
   have z5 := hb.size
   have M24 := hq
   have yM24 := hq.lt
   clear hq hb hW
   refine Zv rfl (.int .i64 (bestE x ty st l F)) ?_
   refine wpList_nil ?_
   refine sx_norm ?_
   refine wp_seq ?_
   refine wp_region_lit ?_
   refine Zw rfl (.agg (iK k x)) (ex_load rfl M2 (by kernel_rfl) Tryd.underlying30 rfl (by kernel_rfl)) ?_
   refine Zw rfl (.agg (rK ty st orr F.length cr oa l.length ca)) (ex_load rfl M4 (by kernel_rfl) Tryd.underlying34 rfl (by kernel_rfl)) ?_
   refine Zv rfl (.slice oR R.length cR) ?_
   by_cases C9 : (runE x ty st l R) = 0
   ·refine sx_call (by kernel_rfl) rfl rfl ((by have h8 := drvRun_n k x ty st orr oa F.length cr ca b o l (fun hp => crs_ok hin hx.al hp) R oR cR bR qR W25 (hI.below HB) (hT.belowD HB) (hl.below HB) (hR.below HB); rw [C9] at h8; exact h8)) (by kernel_rfl) ?_
    rintro e W26 ⟨oB, cB, bB, qB, rfl, hSB, -, hb⟩
    have hlthSB : ∀ i, i < (runS x ty st l R).T.length → bB < W26.heap.size := fun i hi => hSB.lt hi
    replace HB := over HB hb
    replace M2 := M2.below hb
    replace M4 := M4.below hb
    replace hSA := hSA.below hb
    replace M24 := M24.below hb
    have z6 := hb.size
    clear hb
    refine ⟨_, rfl, ?_⟩
    refine Zv rfl (.tuple #[.agg #[.bool (runS x ty st l R).r, .int .i64 ((runS x ty st l R).d), .slice oB (runS x ty st l R).T.length cB, .int .i64 ((runS x ty st l R).e), .int .i64 ((runS x ty st l R).m)], .int .i64 0]) ?_
    refine Zv rfl (.agg #[.bool (runS x ty st l R).r, .int .i64 ((runS x ty st l R).d), .slice oB (runS x ty st l R).T.length cB, .int .i64 ((runS x ty st l R).e), .int .i64 ((runS x ty st l R).m)]) ?_
    refine Zv rfl (.int .i64 0) ?_
    obtain ⟨W28, hW, hb, hq⟩ := laidV W26 #[.bool false, .int .i64 0, .slice none 0 0, .int .i64 0, .int .i64 0] #[.bool (runS x ty st l R).r, .int .i64 ((runS x ty st l R).d), .slice oB (runS x ty st l R).T.length cB, .int .i64 ((runS x ty st l R).e), .int .i64 ((runS x ty st l R).m)] 39
    refine sx_mem (by kernel_rfl) rfl rfl (.pointer (some ⟨W26.heap.size, 0, none⟩)) (W26.alloc (.cells #[.bool false, .int .i64 0, .slice none 0 0, .int .i64 0, .int .i64 0] 39)) (by kernel_rfl) ?_
    refine Zs (cells := #[.bool (runS x ty st l R).r, .int .i64 ((runS x ty st l R).d), .slice oB (runS x ty st l R).T.length cB, .int .i64 ((runS x ty st l R).e), .int .i64 ((runS x ty st l R).m)]) rfl rfl (Cb.made W26 #[.bool false, .int .i64 0, .slice none 0 0, .int .i64 0, .int .i64 0] 39) ?_
    rw [hW]
    replace HB := over HB hb
    replace M2 := M2.below hb
    replace M4 := M4.below hb
    replace hSA := hSA.below hb
    replace M24 := M24.below hb
    replace hSB := hSB.below hb
    have z7 := hb.size
    have M27 := hq
    have yM27 := hq.lt
    clear hq hb hW
    refine Zv rfl (.int .i64 0) ?_
    refine wpList_nil ?_
    refine sx_norm ?_
    refine wp_seq ?_
    refine wp_seq ?_
    refine wp_region_lit ?_
    refine Zv rfl (.int .i64 (bestE x ty st l F)) ?_
    refine Zb rfl (((bestE x ty st l F) : Int) == (0 : Int)) false (beq_eq_false_iff_ne.2 (by omega)) ?_
    refine Zv rfl (.bool false) ?_
    refine Zk rfl ?_
    refine Zk rfl ?_
    refine Zk rfl ?_
    refine Zk rfl ?_
    refine Zk rfl ?_
    refine Zv rfl (.bool false) ?_
    refine wpList_nil ?_
    refine sx_norm ?_
    refine sx_false (by kernel_rfl) ?_
    refine wp_skip ?_
    refine sx_norm ?_
    refine wp_seq ?_
    refine wp_seq ?_
    refine wp_region_lit ?_
    refine Zv rfl (.int .i64 0) ?_
    refine Zv rfl (.bool false) ?_
    refine Zv rfl (.bool false) ?_
    refine Zv rfl (.pointer (some ⟨W1.heap.size, 2, none⟩)) ?_
    refine Zw rfl (.slice orr F.length cr) (el (M4.cell 2 rfl) Tryd.underlying31) ?_
    refine Zv rfl (.int .i64 ((F.length : Nat) : Int)) ?_
    refine Zv rfl (.slice oR R.length cR) ?_
    refine Zv rfl (.int .i64 ((R.length : Nat) : Int)) ?_
    by_cases C10 : F.length > R.length
    ·refine Zb rfl (decide (((F.length : Nat) : Int) > ((R.length : Nat) : Int))) true (decide_eq_true (by omega)) ?_
     refine Zv rfl (.bool true) ?_
     refine wpList_nil ?_
     refine sx_norm ?_
     refine sx_true (by kernel_rfl) ?_
     refine wp_seq ?_
     refine wp_region_lit ?_
     refine sx_call (by kernel_rfl) rfl rfl (examples_n W28 (hT.belowD HB)) (by kernel_rfl) ?_
     rintro e W29 ⟨rfl, hb⟩
     replace HB := over HB hb
     replace M2 := M2.below hb
     replace M4 := M4.below hb
     replace hSA := hSA.below hb
     replace M24 := M24.below hb
     replace hSB := hSB.below hb
     replace M27 := M27.below hb
     have z8 := hb.size
     clear hb
     refine ⟨_, rfl, ?_⟩
     refine Zv rfl (.bool true) ?_
     refine wpList_nil ?_
     refine sx_norm ?_
     refine wp_ret ?_
     refine sx_rs ?_
     exact sx_ret1 (.bool true) rfl rfl (by kernel_rfl) ⟨rfl, HB⟩
    refine Zb rfl (decide (((F.length : Nat) : Int) > ((R.length : Nat) : Int))) false (decide_eq_false (by omega)) ?_
    refine Zv rfl (.bool false) ?_
    refine wpList_nil ?_
    refine sx_norm ?_
    refine sx_false (by kernel_rfl) ?_
    refine wp_skip ?_
    refine sx_norm ?_
    refine wp_seq ?_
    refine wp_seq ?_
    have hl20 := posD_len (runS_is C9).2.1
    have hRl9 := (runS_is C9).2.2.1
    refine wp_region_lit ?_
    refine Zv rfl (.pointer (some ⟨W1.heap.size, 2, none⟩)) ?_
    refine Zw rfl (.slice orr F.length cr) (el (M4.cell 2 rfl) Tryd.underlying31) ?_
    refine Zv rfl (.int .i64 ((F.length : Nat) : Int)) ?_
    refine Zv rfl (.int .i64 0) ?_
    refine wpList_nil ?_
    refine sx_norm ?_
    refine wp_block ?_
    refine sx_loop (fun i : Nat => [(0, .agg (iK k x)), (1, .agg (rK ty st orr F.length cr oa l.length ca)), (2, .slice oR R.length cR), (3, .pointer (some ⟨w.heap.size, 0, none⟩)), (4, .pointer (some ⟨W1.heap.size, 0, none⟩)), (7, .pointer (some ⟨W23.heap.size, 0, none⟩)), (8, .int .i64 (bestE x ty st l F)), (9, .pointer (some ⟨W26.heap.size, 0, none⟩)), (10, .int .i64 0), (13, .agg (iK k x)), (14, .bool true), (15, .bool false), (16, .bool false), (17, .pointer (some ⟨W1.heap.size, 3, none⟩)), (18, .slice oa l.length ca), (19, .int .i64 ((l.length : Nat) : Int)), (20, .bool true), (21, .bool true), (22, .pointer (some ⟨W1.heap.size, 3, none⟩)), (23, .slice oa l.length ca), (24, .int .i64 ((l.length : Nat) : Int)), (25, .bool false), (26, .bool false), (27, .bool false), (29, .tuple #[.agg #[.bool (bestS x ty st l F).r, .int .i64 ((bestS x ty st l F).d), .slice oA (bestS x ty st l F).T.length cA, .int .i64 ((bestS x ty st l F).e), .int .i64 ((bestS x ty st l F).m)], .int .i64 (bestE x ty st l F)]), (30, .agg (iK k x)), (31, .agg (rK ty st orr F.length cr oa l.length ca)), (32, .tuple #[.agg #[.bool (bestS x ty st l F).r, .int .i64 ((bestS x ty st l F).d), .slice oA (bestS x ty st l F).T.length cA, .int .i64 ((bestS x ty st l F).e), .int .i64 ((bestS x ty st l F).m)], .int .i64 (bestE x ty st l F)]), (33, .agg #[.bool (bestS x ty st l F).r, .int .i64 ((bestS x ty st l F).d), .slice oA (bestS x ty st l F).T.length cA, .int .i64 ((bestS x ty st l F).e), .int .i64 ((bestS x ty st l F).m)]), (34, .int .i64 (bestE x ty st l F)), (35, .tuple #[.agg #[.bool (runS x ty st l R).r, .int .i64 ((runS x ty st l R).d), .slice oB (runS x ty st l R).T.length cB, .int .i64 ((runS x ty st l R).e), .int .i64 ((runS x ty st l R).m)], .int .i64 0]), (36, .agg (iK k x)), (37, .agg (rK ty st orr F.length cr oa l.length ca)), (38, .slice oR R.length cR), (39, .tuple #[.agg #[.bool (runS x ty st l R).r, .int .i64 ((runS x ty st l R).d), .slice oB (runS x ty st l R).T.length cB, .int .i64 ((runS x ty st l R).e), .int .i64 ((runS x ty st l R).m)], .int .i64 0]), (40, .agg #[.bool (runS x ty st l R).r, .int .i64 ((runS x ty st l R).d), .slice oB (runS x ty st l R).T.length cB, .int .i64 ((runS x ty st l R).e), .int .i64 ((runS x ty st l R).m)]), (41, .int .i64 0), (42, .int .i64 (bestE x ty st l F)), (43, .bool false), (44, .bool false), (50, .bool false), (51, .int .i64 0), (52, .bool false), (53, .bool false), (54, .pointer (some ⟨W1.heap.size, 2, none⟩)), (55, .slice orr F.length cr), (56, .int .i64 ((F.length : Nat) : Int)), (57, .slice oR R.length cR), (58, .int .i64 ((R.length : Nat) : Int)), (59, .bool false), (60, .bool false), (62, .pointer (some ⟨W1.heap.size, 2, none⟩)), (63, .slice orr F.length cr), (64, .int .i64 ((F.length : Nat) : Int)), (65, .int .i64 ((i : Nat) : Int))]) (fun gg i wr => i ≤ F.length ∧ F.length - i ≤ gg ∧ (∀ j, j < i → R.getD j false = F.getD j false) ∧ Below W28.heap.size W28 wr) (F.length) (0) (by kernel_rfl) ⟨Nat.zero_le _, Nat.le_refl _, (fun j hj => absurd hj (Nat.not_lt_zero j)), Below.refl _ _⟩ ?_
    rintro gg i g' wr30 ⟨hi, hg, hJ, hbl⟩
    replace HB := over HB hbl
    replace M2 := M2.below hbl
    replace M4 := M4.below hbl
    replace hSA := hSA.below hbl
    replace M24 := M24.below hbl
    replace hSB := hSB.below hbl
    replace M27 := M27.below hbl
    have z8 := hbl.size
    have HL := hbl
    clear hbl
    refine wp_seq ?_
    refine wp_region_lit ?_
    by_cases C11 : i < F.length
    ·refine Zb rfl (decide (((i : Nat) : Int) < ((F.length : Nat) : Int))) true (decide_eq_true (by omega)) ?_
     refine wpList_nil ?_
     refine sx_norm ?_
     refine wp_seq ?_
     refine sx_true (by kernel_rfl) ?_
     refine wp_skip ?_
     refine sx_norm ?_
     refine wp_seq ?_
     refine wp_block ?_
     refine wp_seq ?_
     refine wp_region_lit ?_
     refine Zv rfl (.int .i64 ((i : Nat) : Int)) ?_
     refine Zw rfl (.pointer (some ⟨bf, qf + i * 1, none⟩)) (ex_indexO (q := qf) (m := F.length) (c := cr) (k := i) (s := 1) rfl (by kernel_rfl) ((hFx.below HB).oa (k := i) (by omega)) (by kernel_rfl) Tryd.underlying31 (by kernel_rfl) (by omega) (by omega)) ?_
     refine Zw rfl (.bool (F.getD i false)) (el ((hFx.below HB).cell (k := i) (by omega) 0 rfl) Tryd.underlying4) ?_
     refine Zv rfl (.int .i64 ((i : Nat) : Int)) ?_
     refine Zv rfl (.bool (F.getD i false)) ?_
     refine wpList_nil ?_
     refine sx_norm ?_
     refine wp_seq ?_
     refine wp_region_lit ?_
     refine Zv rfl (.slice oR R.length cR) ?_
     refine Zv rfl (.int .i64 ((i : Nat) : Int)) ?_
     refine Zw rfl (.pointer (some ⟨bR, qR + i * 1, none⟩)) (ex_indexO (q := qR) (m := R.length) (c := cR) (k := i) (s := 1) rfl (by kernel_rfl) ((hR.below HB).oa (k := i) (by omega)) (by kernel_rfl) Tryd.underlying31 (by kernel_rfl) (by omega) (by omega)) ?_
     refine Zw rfl (.bool (R.getD i false)) (el ((hR.below HB).cell (k := i) (by omega) 0 rfl) Tryd.underlying4) ?_
     refine Zv rfl (.bool (F.getD i false)) ?_
     by_cases C12 : (R.getD i false) = (F.getD i false)
     ·refine Zb rfl (((R.getD i false) != (F.getD i false))) false (by rw [C12]; exact bne_self_eq_false _) ?_
      refine wpList_nil ?_
      refine sx_norm ?_
      refine sx_false (by kernel_rfl) ?_
      refine wp_skip ?_
      refine sx_in ?_
      refine sx_norm ?_
      refine wp_region_lit ?_
      refine sx_int (by kernel_rfl) rfl rfl .i64 (IntKind.i64.wrap (((i : Nat) : Int) + 1)) (((i + 1 : Nat) : Int)) (by kernel_rfl) (by rw [IntKind.wrap_i64]; omega) ?_
      refine Zv rfl (.int .i64 ((i + 1 : Nat) : Int)) ?_
      refine wpList_nil ?_
      refine sx_norm ?_
      exact sx_again (F.length - (i + 1)) (i + 1) (by omega) (by kernel_rfl) ⟨by omega, Nat.le_refl _, ext_more hJ (by assumption), HL⟩
     refine Zb rfl (((R.getD i false) != (F.getD i false))) true (bne_iff_ne.2 C12) ?_
     refine wpList_nil ?_
     refine sx_norm ?_
     refine sx_true (by kernel_rfl) ?_
     refine wp_seq ?_
     refine wp_region_lit ?_
     refine sx_call (by kernel_rfl) rfl rfl (examples_n wr30 (hT.belowD HB)) (by kernel_rfl) ?_
     rintro e W31 ⟨rfl, hb⟩
     replace HB := over HB hb
     replace M2 := M2.below hb
     replace M4 := M4.below hb
     replace hSA := hSA.below hb
     replace M24 := M24.below hb
     replace hSB := hSB.below hb
     replace M27 := M27.below hb
     replace HL := over HL hb
     have z9 := hb.size
     clear hb
     refine ⟨_, rfl, ?_⟩
     refine Zv rfl (.bool true) ?_
     refine wpList_nil ?_
     refine sx_norm ?_
     refine wp_ret ?_
     refine sx_rb ?_
     refine sx_rs ?_
     refine sx_rs ?_
     refine sx_rb ?_
     refine sx_rs ?_
     exact sx_ret1 (.bool true) rfl rfl (by kernel_rfl) ⟨rfl, HB⟩
    refine Zb rfl (decide (((i : Nat) : Int) < ((F.length : Nat) : Int))) false (decide_eq_false (by omega)) ?_
    refine wpList_nil ?_
    refine sx_norm ?_
    refine wp_seq ?_
    refine sx_false (by kernel_rfl) ?_
    refine wp_exit ?_
    refine sx_es ?_
    refine sx_es ?_
    refine sx_out ?_
    refine sx_norm ?_
    refine wp_seq ?_
    have hbf := best_first hin hx.al (F := F) (R := R) (by omega) (fun j hj => hJ j (by omega)) C9
    refine wp_region_lit ?_
    refine Zv rfl (.int .i64 (bestE x ty st l F)) ?_
    refine Zb rfl (((bestE x ty st l F) : Int) == (0 : Int)) false (beq_eq_false_iff_ne.2 (by omega)) ?_
    refine Zv rfl (.bool false) ?_
    refine Zk rfl ?_
    refine Zk rfl ?_
    refine Zk rfl ?_
    refine Zk rfl ?_
    refine Zk rfl ?_
    refine Zv rfl (.bool false) ?_
    refine Zv rfl (.bool false) ?_
    refine Zk rfl ?_
    refine Zv rfl (.bool false) ?_
    refine Zv rfl (.bool false) ?_
    refine wpList_nil ?_
    refine sx_norm ?_
    refine wp_ret ?_
    exact absurd hbf.1 C4
   refine sx_call (by kernel_rfl) rfl rfl ((by have h8 := drvRun_n k x ty st orr oa F.length cr ca b o l (fun hp => crs_ok hin hx.al hp) R oR cR bR qR W25 (hI.below HB) (hT.belowD HB) (hl.below HB) (hR.below HB); exact h8)) (by kernel_rfl) ?_
   rintro e W32 ⟨oB, cB, bB, qB, rfl, hSB, -, hb⟩
   have hlthSB : ∀ i, i < (runS x ty st l R).T.length → bB < W32.heap.size := fun i hi => hSB.lt hi
   replace HB := over HB hb
   replace M2 := M2.below hb
   replace M4 := M4.below hb
   replace hSA := hSA.below hb
   replace M24 := M24.below hb
   have z6 := hb.size
   clear hb
   refine ⟨_, rfl, ?_⟩
   refine Zv rfl (.tuple #[.agg #[.bool (runS x ty st l R).r, .int .i64 ((runS x ty st l R).d), .slice oB (runS x ty st l R).T.length cB, .int .i64 ((runS x ty st l R).e), .int .i64 ((runS x ty st l R).m)], .int .i64 (runE x ty st l R)]) ?_
   refine Zv rfl (.agg #[.bool (runS x ty st l R).r, .int .i64 ((runS x ty st l R).d), .slice oB (runS x ty st l R).T.length cB, .int .i64 ((runS x ty st l R).e), .int .i64 ((runS x ty st l R).m)]) ?_
   refine Zv rfl (.int .i64 (runE x ty st l R)) ?_
   obtain ⟨W34, hW, hb, hq⟩ := laidV W32 #[.bool false, .int .i64 0, .slice none 0 0, .int .i64 0, .int .i64 0] #[.bool (runS x ty st l R).r, .int .i64 ((runS x ty st l R).d), .slice oB (runS x ty st l R).T.length cB, .int .i64 ((runS x ty st l R).e), .int .i64 ((runS x ty st l R).m)] 39
   refine sx_mem (by kernel_rfl) rfl rfl (.pointer (some ⟨W32.heap.size, 0, none⟩)) (W32.alloc (.cells #[.bool false, .int .i64 0, .slice none 0 0, .int .i64 0, .int .i64 0] 39)) (by kernel_rfl) ?_
   refine Zs (cells := #[.bool (runS x ty st l R).r, .int .i64 ((runS x ty st l R).d), .slice oB (runS x ty st l R).T.length cB, .int .i64 ((runS x ty st l R).e), .int .i64 ((runS x ty st l R).m)]) rfl rfl (Cb.made W32 #[.bool false, .int .i64 0, .slice none 0 0, .int .i64 0, .int .i64 0] 39) ?_
   rw [hW]
   replace HB := over HB hb
   replace M2 := M2.below hb
   replace M4 := M4.below hb
   replace hSA := hSA.below hb
   replace M24 := M24.below hb
   replace hSB := hSB.below hb
   have z7 := hb.size
   have M33 := hq
   have yM33 := hq.lt
   clear hq hb hW
   refine Zv rfl (.int .i64 (runE x ty st l R)) ?_
   refine wpList_nil ?_
   refine sx_norm ?_
   refine wp_seq ?_
   refine wp_seq ?_
   refine wp_region_lit ?_
   refine Zv rfl (.int .i64 (bestE x ty st l F)) ?_
   refine Zb rfl (((bestE x ty st l F) : Int) == (0 : Int)) false (beq_eq_false_iff_ne.2 (by omega)) ?_
   refine Zv rfl (.bool false) ?_
   refine Zk rfl ?_
   refine Zk rfl ?_
   refine Zk rfl ?_
   refine Zk rfl ?_
   refine Zk rfl ?_
   refine Zv rfl (.bool false) ?_
   refine wpList_nil ?_
   refine sx_norm ?_
   refine sx_false (by kernel_rfl) ?_
   refine wp_skip ?_
   refine sx_norm ?_
   refine wp_seq ?_
   refine wp_seq ?_
   refine wp_region_lit ?_
   refine Zv rfl (.int .i64 (runE x ty st l R)) ?_
   refine Zb rfl (((runE x ty st l R) : Int) != (0 : Int)) true (bne_iff_ne.2 (by omega)) ?_
   refine Zv rfl (.bool true) ?_
   refine Zk rfl ?_
   refine Zk rfl ?_
   refine Zk rfl ?_
   refine Zk rfl ?_
   refine Zk rfl ?_
   refine Zk rfl ?_
   refine Zv rfl (.bool true) ?_
   refine wpList_nil ?_
   refine sx_norm ?_
   refine sx_true (by kernel_rfl) ?_
   refine wp_seq ?_
   refine wp_region_lit ?_
   refine sx_call (by kernel_rfl) rfl rfl (examples_n W34 (hT.belowD HB)) (by kernel_rfl) ?_
   rintro e W35 ⟨rfl, hb⟩
   replace HB := over HB hb
   replace M2 := M2.below hb
   replace M4 := M4.below hb
   replace hSA := hSA.below hb
   replace M24 := M24.below hb
   replace hSB := hSB.below hb
   replace M33 := M33.below hb
   have z8 := hb.size
   clear hb
   refine ⟨_, rfl, ?_⟩
   refine Zv rfl (.bool true) ?_
   refine wpList_nil ?_
   refine sx_norm ?_
   refine wp_ret ?_
   refine sx_rs ?_
   exact sx_ret1 (.bool true) rfl rfl (by kernel_rfl) ⟨rfl, HB⟩
  refine Zb rfl (decide (((l.length : Nat) : Int) > 9)) false (decide_eq_false (by omega)) ?_
  refine Zv rfl (.bool false) ?_
  refine Zk rfl ?_
  refine Zk rfl ?_
  refine Zk rfl ?_
  refine Zk rfl ?_
  refine Zv rfl (.bool false) ?_
  refine Zv rfl (.bool false) ?_
  refine wpList_nil ?_
  refine sx_norm ?_
  refine sx_false (by kernel_rfl) ?_
  refine wp_skip ?_
  refine sx_norm ?_
  refine wp_seq ?_
  refine wp_region_lit ?_
  refine Zw rfl (.agg (iK k x)) (ex_load rfl M2 (by kernel_rfl) Tryd.underlying30 rfl (by kernel_rfl)) ?_
  refine Zw rfl (.agg (rK ty st orr F.length cr oa l.length ca)) (ex_load rfl M4 (by kernel_rfl) Tryd.underlying34 rfl (by kernel_rfl)) ?_
  by_cases C13 : (bestE x ty st l F) = 0
  ·refine sx_call (by kernel_rfl) rfl rfl ((by have h8 := drvBest_n k x ty st orr oa cr ca b o bf qf l F (fun hp => crs_ok hin hx.al hp) W5 (hI.below HB) (hT.belowD HB) (hl.below HB) (hFx.below HB); rw [C13] at h8; exact h8)) (by kernel_rfl) ?_
   rintro e W36 ⟨oA, cA, bA, qA, rfl, hSA, -, hb⟩
   have hlthSA : ∀ i, i < (bestS x ty st l F).T.length → bA < W36.heap.size := fun i hi => hSA.lt hi
   replace HB := over HB hb
   replace M2 := M2.below hb
   replace M4 := M4.below hb
   have z4 := hb.size
   clear hb
   refine ⟨_, rfl, ?_⟩
   refine Zv rfl (.tuple #[.agg #[.bool (bestS x ty st l F).r, .int .i64 ((bestS x ty st l F).d), .slice oA (bestS x ty st l F).T.length cA, .int .i64 ((bestS x ty st l F).e), .int .i64 ((bestS x ty st l F).m)], .int .i64 0]) ?_
   refine Zv rfl (.agg #[.bool (bestS x ty st l F).r, .int .i64 ((bestS x ty st l F).d), .slice oA (bestS x ty st l F).T.length cA, .int .i64 ((bestS x ty st l F).e), .int .i64 ((bestS x ty st l F).m)]) ?_
   refine Zv rfl (.int .i64 0) ?_
   obtain ⟨W38, hW, hb, hq⟩ := laidV W36 #[.bool false, .int .i64 0, .slice none 0 0, .int .i64 0, .int .i64 0] #[.bool (bestS x ty st l F).r, .int .i64 ((bestS x ty st l F).d), .slice oA (bestS x ty st l F).T.length cA, .int .i64 ((bestS x ty st l F).e), .int .i64 ((bestS x ty st l F).m)] 39
   refine sx_mem (by kernel_rfl) rfl rfl (.pointer (some ⟨W36.heap.size, 0, none⟩)) (W36.alloc (.cells #[.bool false, .int .i64 0, .slice none 0 0, .int .i64 0, .int .i64 0] 39)) (by kernel_rfl) ?_
   refine Zs (cells := #[.bool (bestS x ty st l F).r, .int .i64 ((bestS x ty st l F).d), .slice oA (bestS x ty st l F).T.length cA, .int .i64 ((bestS x ty st l F).e), .int .i64 ((bestS x ty st l F).m)]) rfl rfl (Cb.made W36 #[.bool false, .int .i64 0, .slice none 0 0, .int .i64 0, .int .i64 0] 39) ?_
   rw [hW]
   replace HB := over HB hb
   replace M2 := M2.below hb
   replace M4 := M4.below hb
   replace hSA := hSA.below hb
   have z5 := hb.size
   have M37 := hq
   have yM37 := hq.lt
   clear hq hb hW
   refine Zv rfl (.int .i64 0) ?_
   refine wpList_nil ?_
   refine sx_norm ?_
   refine wp_seq ?_
   refine wp_region_lit ?_
   refine Zw rfl (.agg (iK k x)) (ex_load rfl M2 (by kernel_rfl) Tryd.underlying30 rfl (by kernel_rfl)) ?_
   refine Zw rfl (.agg (rK ty st orr F.length cr oa l.length ca)) (ex_load rfl M4 (by kernel_rfl) Tryd.underlying34 rfl (by kernel_rfl)) ?_
   refine Zv rfl (.slice oR R.length cR) ?_
   by_cases C14 : (runE x ty st l R) = 0
   ·refine sx_call (by kernel_rfl) rfl rfl ((by have h8 := drvRun_n k x ty st orr oa F.length cr ca b o l (fun hp => crs_ok hin hx.al hp) R oR cR bR qR W38 (hI.below HB) (hT.belowD HB) (hl.below HB) (hR.below HB); rw [C14] at h8; exact h8)) (by kernel_rfl) ?_
    rintro e W39 ⟨oB, cB, bB, qB, rfl, hSB, -, hb⟩
    have hlthSB : ∀ i, i < (runS x ty st l R).T.length → bB < W39.heap.size := fun i hi => hSB.lt hi
    replace HB := over HB hb
    replace M2 := M2.below hb
    replace M4 := M4.below hb
    replace hSA := hSA.below hb
    replace M37 := M37.below hb
    have z6 := hb.size
    clear hb
    refine ⟨_, rfl, ?_⟩
    refine Zv rfl (.tuple #[.agg #[.bool (runS x ty st l R).r, .int .i64 ((runS x ty st l R).d), .slice oB (runS x ty st l R).T.length cB, .int .i64 ((runS x ty st l R).e), .int .i64 ((runS x ty st l R).m)], .int .i64 0]) ?_
    refine Zv rfl (.agg #[.bool (runS x ty st l R).r, .int .i64 ((runS x ty st l R).d), .slice oB (runS x ty st l R).T.length cB, .int .i64 ((runS x ty st l R).e), .int .i64 ((runS x ty st l R).m)]) ?_
    refine Zv rfl (.int .i64 0) ?_
    obtain ⟨W41, hW, hb, hq⟩ := laidV W39 #[.bool false, .int .i64 0, .slice none 0 0, .int .i64 0, .int .i64 0] #[.bool (runS x ty st l R).r, .int .i64 ((runS x ty st l R).d), .slice oB (runS x ty st l R).T.length cB, .int .i64 ((runS x ty st l R).e), .int .i64 ((runS x ty st l R).m)] 39
    refine sx_mem (by kernel_rfl) rfl rfl (.pointer (some ⟨W39.heap.size, 0, none⟩)) (W39.alloc (.cells #[.bool false, .int .i64 0, .slice none 0 0, .int .i64 0, .int .i64 0] 39)) (by kernel_rfl) ?_
    refine Zs (cells := #[.bool (runS x ty st l R).r, .int .i64 ((runS x ty st l R).d), .slice oB (runS x ty st l R).T.length cB, .int .i64 ((runS x ty st l R).e), .int .i64 ((runS x ty st l R).m)]) rfl rfl (Cb.made W39 #[.bool false, .int .i64 0, .slice none 0 0, .int .i64 0, .int .i64 0] 39) ?_
    rw [hW]
    replace HB := over HB hb
    replace M2 := M2.below hb
    replace M4 := M4.below hb
    replace hSA := hSA.below hb
    replace M37 := M37.below hb
    replace hSB := hSB.below hb
    have z7 := hb.size
    have M40 := hq
    have yM40 := hq.lt
    clear hq hb hW
    refine Zv rfl (.int .i64 0) ?_
    refine wpList_nil ?_
    refine sx_norm ?_
    refine wp_seq ?_
    refine wp_seq ?_
    refine wp_region_lit ?_
    refine Zv rfl (.int .i64 0) ?_
    refine Zv rfl (.bool true) ?_
    refine Zv rfl (.bool true) ?_
    refine Zw rfl (.agg (iK k x)) (ex_load rfl M2 (by kernel_rfl) Tryd.underlying30 rfl (by kernel_rfl)) ?_
    refine Zw rfl (.agg (rK ty st orr F.length cr oa l.length ca)) (ex_load rfl M4 (by kernel_rfl) Tryd.underlying34 rfl (by kernel_rfl)) ?_
    refine Zw rfl (.agg #[.bool (bestS x ty st l F).r, .int .i64 ((bestS x ty st l F).d), .slice oA (bestS x ty st l F).T.length cA, .int .i64 ((bestS x ty st l F).e), .int .i64 ((bestS x ty st l F).m)]) (ex_load rfl M37 (by kernel_rfl) Tryd.underlying39 rfl (by kernel_rfl)) ?_
    refine sx_call (by kernel_rfl) rfl rfl ((by have h8 := drvValid_n k x ty st orr oa oA cr ca cA b o bf qf bA qA l F (bestS x ty st l F) (by have := bestS_short x ty st l F; omega) (fun hp => crs_ok hin hx.al hp) W41 (hI.below HB) (hT.belowD HB) (hl.below HB) (hFx.below HB) hSA; rw [best_valid hin hx.al C13] at h8; exact h8)) (by kernel_rfl) ?_
    rintro e W42 ⟨rfl, hb⟩
    replace HB := over HB hb
    replace M2 := M2.below hb
    replace M4 := M4.below hb
    replace hSA := hSA.below hb
    replace M37 := M37.below hb
    replace hSB := hSB.below hb
    replace M40 := M40.below hb
    have z8 := hb.size
    clear hb
    refine ⟨_, rfl, ?_⟩
    refine Zv rfl (.bool false) ?_
    refine Zv rfl (.bool false) ?_
    refine wpList_nil ?_
    refine sx_norm ?_
    refine sx_false (by kernel_rfl) ?_
    refine wp_skip ?_
    refine sx_norm ?_
    refine wp_seq ?_
    refine wp_seq ?_
    refine wp_region_lit ?_
    refine Zv rfl (.int .i64 0) ?_
    refine Zv rfl (.bool false) ?_
    refine Zv rfl (.bool false) ?_
    refine Zv rfl (.pointer (some ⟨W1.heap.size, 2, none⟩)) ?_
    refine Zw rfl (.slice orr F.length cr) (el (M4.cell 2 rfl) Tryd.underlying31) ?_
    refine Zv rfl (.int .i64 ((F.length : Nat) : Int)) ?_
    refine Zv rfl (.slice oR R.length cR) ?_
    refine Zv rfl (.int .i64 ((R.length : Nat) : Int)) ?_
    by_cases C15 : F.length > R.length
    ·refine Zb rfl (decide (((F.length : Nat) : Int) > ((R.length : Nat) : Int))) true (decide_eq_true (by omega)) ?_
     refine Zv rfl (.bool true) ?_
     refine wpList_nil ?_
     refine sx_norm ?_
     refine sx_true (by kernel_rfl) ?_
     refine wp_seq ?_
     refine wp_region_lit ?_
     refine sx_call (by kernel_rfl) rfl rfl (examples_n W42 (hT.belowD HB)) (by kernel_rfl) ?_
     rintro e W43 ⟨rfl, hb⟩
     replace HB := over HB hb
     replace M2 := M2.below hb
     replace M4 := M4.below hb
     replace hSA := hSA.below hb
     replace M37 := M37.below hb
     replace hSB := hSB.below hb
     replace M40 := M40.below hb
     have z9 := hb.size
     clear hb
     refine ⟨_, rfl, ?_⟩
     refine Zv rfl (.bool true) ?_
     refine wpList_nil ?_
     refine sx_norm ?_
     refine wp_ret ?_
     refine sx_rs ?_
     exact sx_ret1 (.bool true) rfl rfl (by kernel_rfl) ⟨rfl, HB⟩
    refine Zb rfl (decide (((F.length : Nat) : Int) > ((R.length : Nat) : Int))) false (decide_eq_false (by omega)) ?_
    refine Zv rfl (.bool false) ?_
    refine wpList_nil ?_
    refine sx_norm ?_
    refine sx_false (by kernel_rfl) ?_
    refine wp_skip ?_
    refine sx_norm ?_
    refine wp_seq ?_
    refine wp_seq ?_
    have hl20 := posD_len (runS_is C14).2.1
    have hRl9 := (runS_is C14).2.2.1
    refine wp_region_lit ?_
    refine Zv rfl (.pointer (some ⟨W1.heap.size, 2, none⟩)) ?_
    refine Zw rfl (.slice orr F.length cr) (el (M4.cell 2 rfl) Tryd.underlying31) ?_
    refine Zv rfl (.int .i64 ((F.length : Nat) : Int)) ?_
    refine Zv rfl (.int .i64 0) ?_
    refine wpList_nil ?_
    refine sx_norm ?_
    refine wp_block ?_
    refine sx_loop (fun i : Nat => [(0, .agg (iK k x)), (1, .agg (rK ty st orr F.length cr oa l.length ca)), (2, .slice oR R.length cR), (3, .pointer (some ⟨w.heap.size, 0, none⟩)), (4, .pointer (some ⟨W1.heap.size, 0, none⟩)), (7, .pointer (some ⟨W36.heap.size, 0, none⟩)), (8, .int .i64 0), (9, .pointer (some ⟨W39.heap.size, 0, none⟩)), (10, .int .i64 0), (13, .agg (iK k x)), (14, .bool true), (15, .bool false), (16, .bool false), (17, .pointer (some ⟨W1.heap.size, 3, none⟩)), (18, .slice oa l.length ca), (19, .int .i64 ((l.length : Nat) : Int)), (20, .bool false), (21, .bool false), (26, .bool false), (27, .bool false), (29, .tuple #[.agg #[.bool (bestS x ty st l F).r, .int .i64 ((bestS x ty st l F).d), .slice oA (bestS x ty st l F).T.length cA, .int .i64 ((bestS x ty st l F).e), .int .i64 ((bestS x ty st l F).m)], .int .i64 0]), (30, .agg (iK k x)), (31, .agg (rK ty st orr F.length cr oa l.length ca)), (32, .tuple #[.agg #[.bool (bestS x ty st l F).r, .int .i64 ((bestS x ty st l F).d), .slice oA (bestS x ty st l F).T.length cA, .int .i64 ((bestS x ty st l F).e), .int .i64 ((bestS x ty st l F).m)], .int .i64 0]), (33, .agg #[.bool (bestS x ty st l F).r, .int .i64 ((bestS x ty st l F).d), .slice oA (bestS x ty st l F).T.length cA, .int .i64 ((bestS x ty st l F).e), .int .i64 ((bestS x ty st l F).m)]), (34, .int .i64 0), (35, .tuple #[.agg #[.bool (runS x ty st l R).r, .int .i64 ((runS x ty st l R).d), .slice oB (runS x ty st l R).T.length cB, .int .i64 ((runS x ty st l R).e), .int .i64 ((runS x ty st l R).m)], .int .i64 0]), (36, .agg (iK k x)), (37, .agg (rK ty st orr F.length cr oa l.length ca)), (38, .slice oR R.length cR), (39, .tuple #[.agg #[.bool (runS x ty st l R).r, .int .i64 ((runS x ty st l R).d), .slice oB (runS x ty st l R).T.length cB, .int .i64 ((runS x ty st l R).e), .int .i64 ((runS x ty st l R).m)], .int .i64 0]), (40, .agg #[.bool (runS x ty st l R).r, .int .i64 ((runS x ty st l R).d), .slice oB (runS x ty st l R).T.length cB, .int .i64 ((runS x ty st l R).e), .int .i64 ((runS x ty st l R).m)]), (41, .int .i64 0), (42, .int .i64 0), (43, .bool true), (44, .bool true), (45, .agg (iK k x)), (46, .agg (rK ty st orr F.length cr oa l.length ca)), (47, .agg #[.bool (bestS x ty st l F).r, .int .i64 ((bestS x ty st l F).d), .slice oA (bestS x ty st l F).T.length cA, .int .i64 ((bestS x ty st l F).e), .int .i64 ((bestS x ty st l F).m)]), (48, .int .i64 0), (49, .bool false), (50, .bool false), (51, .int .i64 0), (52, .bool false), (53, .bool false), (54, .pointer (some ⟨W1.heap.size, 2, none⟩)), (55, .slice orr F.length cr), (56, .int .i64 ((F.length : Nat) : Int)), (57, .slice oR R.length cR), (58, .int .i64 ((R.length : Nat) : Int)), (59, .bool false), (60, .bool false), (62, .pointer (some ⟨W1.heap.size, 2, none⟩)), (63, .slice orr F.length cr), (64, .int .i64 ((F.length : Nat) : Int)), (65, .int .i64 ((i : Nat) : Int))]) (fun gg i wr => i ≤ F.length ∧ F.length - i ≤ gg ∧ (∀ j, j < i → R.getD j false = F.getD j false) ∧ Below W42.heap.size W42 wr) (F.length) (0) (by kernel_rfl) ⟨Nat.zero_le _, Nat.le_refl _, (fun j hj => absurd hj (Nat.not_lt_zero j)), Below.refl _ _⟩ ?_
    rintro gg i g' wr44 ⟨hi, hg, hJ, hbl⟩
    replace HB := over HB hbl
    replace M2 := M2.below hbl
    replace M4 := M4.below hbl
    replace hSA := hSA.below hbl
    replace M37 := M37.below hbl
    replace hSB := hSB.below hbl
    replace M40 := M40.below hbl
    have z9 := hbl.size
    have HL := hbl
    clear hbl
    refine wp_seq ?_
    refine wp_region_lit ?_
    by_cases C16 : i < F.length
    ·refine Zb rfl (decide (((i : Nat) : Int) < ((F.length : Nat) : Int))) true (decide_eq_true (by omega)) ?_
     refine wpList_nil ?_
     refine sx_norm ?_
     refine wp_seq ?_
     refine sx_true (by kernel_rfl) ?_
     refine wp_skip ?_
     refine sx_norm ?_
     refine wp_seq ?_
     refine wp_block ?_
     refine wp_seq ?_
     refine wp_region_lit ?_
     refine Zv rfl (.int .i64 ((i : Nat) : Int)) ?_
     refine Zw rfl (.pointer (some ⟨bf, qf + i * 1, none⟩)) (ex_indexO (q := qf) (m := F.length) (c := cr) (k := i) (s := 1) rfl (by kernel_rfl) ((hFx.below HB).oa (k := i) (by omega)) (by kernel_rfl) Tryd.underlying31 (by kernel_rfl) (by omega) (by omega)) ?_
     refine Zw rfl (.bool (F.getD i false)) (el ((hFx.below HB).cell (k := i) (by omega) 0 rfl) Tryd.underlying4) ?_
     refine Zv rfl (.int .i64 ((i : Nat) : Int)) ?_
     refine Zv rfl (.bool (F.getD i false)) ?_
     refine wpList_nil ?_
     refine sx_norm ?_
     refine wp_seq ?_
     refine wp_region_lit ?_
     refine Zv rfl (.slice oR R.length cR) ?_
     refine Zv rfl (.int .i64 ((i : Nat) : Int)) ?_
     refine Zw rfl (.pointer (some ⟨bR, qR + i * 1, none⟩)) (ex_indexO (q := qR) (m := R.length) (c := cR) (k := i) (s := 1) rfl (by kernel_rfl) ((hR.below HB).oa (k := i) (by omega)) (by kernel_rfl) Tryd.underlying31 (by kernel_rfl) (by omega) (by omega)) ?_
     refine Zw rfl (.bool (R.getD i false)) (el ((hR.below HB).cell (k := i) (by omega) 0 rfl) Tryd.underlying4) ?_
     refine Zv rfl (.bool (F.getD i false)) ?_
     by_cases C17 : (R.getD i false) = (F.getD i false)
     ·refine Zb rfl (((R.getD i false) != (F.getD i false))) false (by rw [C17]; exact bne_self_eq_false _) ?_
      refine wpList_nil ?_
      refine sx_norm ?_
      refine sx_false (by kernel_rfl) ?_
      refine wp_skip ?_
      refine sx_in ?_
      refine sx_norm ?_
      refine wp_region_lit ?_
      refine sx_int (by kernel_rfl) rfl rfl .i64 (IntKind.i64.wrap (((i : Nat) : Int) + 1)) (((i + 1 : Nat) : Int)) (by kernel_rfl) (by rw [IntKind.wrap_i64]; omega) ?_
      refine Zv rfl (.int .i64 ((i + 1 : Nat) : Int)) ?_
      refine wpList_nil ?_
      refine sx_norm ?_
      exact sx_again (F.length - (i + 1)) (i + 1) (by omega) (by kernel_rfl) ⟨by omega, Nat.le_refl _, ext_more hJ (by assumption), HL⟩
     refine Zb rfl (((R.getD i false) != (F.getD i false))) true (bne_iff_ne.2 C17) ?_
     refine wpList_nil ?_
     refine sx_norm ?_
     refine sx_true (by kernel_rfl) ?_
     refine wp_seq ?_
     refine wp_region_lit ?_
     refine sx_call (by kernel_rfl) rfl rfl (examples_n wr44 (hT.belowD HB)) (by kernel_rfl) ?_
     rintro e W45 ⟨rfl, hb⟩
     replace HB := over HB hb
     replace M2 := M2.below hb
     replace M4 := M4.below hb
     replace hSA := hSA.below hb
     replace M37 := M37.below hb
     replace hSB := hSB.below hb
     replace M40 := M40.below hb
     replace HL := over HL hb
     have z10 := hb.size
     clear hb
     refine ⟨_, rfl, ?_⟩
     refine Zv rfl (.bool true) ?_
     refine wpList_nil ?_
     refine sx_norm ?_
     refine wp_ret ?_
     refine sx_rb ?_
     refine sx_rs ?_
     refine sx_rs ?_
     refine sx_rb ?_
     refine sx_rs ?_
     exact sx_ret1 (.bool true) rfl rfl (by kernel_rfl) ⟨rfl, HB⟩
    refine Zb rfl (decide (((i : Nat) : Int) < ((F.length : Nat) : Int))) false (decide_eq_false (by omega)) ?_
    refine wpList_nil ?_
    refine sx_norm ?_
    refine wp_seq ?_
    refine sx_false (by kernel_rfl) ?_
    refine wp_exit ?_
    refine sx_es ?_
    refine sx_es ?_
    refine sx_out ?_
    refine sx_norm ?_
    refine wp_seq ?_
    have hbf := best_first hin hx.al (F := F) (R := R) (by omega) (fun j hj => hJ j (by omega)) C14
    refine wp_region_lit ?_
    refine Zv rfl (.int .i64 0) ?_
    refine Zv rfl (.bool true) ?_
    refine Zv rfl (.bool true) ?_
    refine Zv rfl (.pointer (some ⟨W36.heap.size, 3, none⟩)) ?_
    refine Zw rfl (.int .i64 ((bestS x ty st l F).e)) (el (M37.cell 3 rfl) Tryd.underlying3) ?_
    refine Zv rfl (.pointer (some ⟨W39.heap.size, 3, none⟩)) ?_
    refine Zw rfl (.int .i64 ((runS x ty st l R).e)) (el (M40.cell 3 rfl) Tryd.underlying3) ?_
    refine Zb rfl (decide ((bestS x ty st l F).e ≤ (runS x ty st l R).e)) true (decide_eq_true (by omega)) ?_
    refine Zv rfl (.bool true) ?_
    refine Zv rfl (.bool true) ?_
    refine sx_call (by kernel_rfl) rfl rfl (examples_n wr44 (hT.belowD HB)) (by kernel_rfl) ?_
    rintro e W46 ⟨rfl, hb⟩
    replace HB := over HB hb
    replace M2 := M2.below hb
    replace M4 := M4.below hb
    replace hSA := hSA.below hb
    replace M37 := M37.below hb
    replace hSB := hSB.below hb
    replace M40 := M40.below hb
    replace HL := over HL hb
    have z10 := hb.size
    clear hb
    refine ⟨_, rfl, ?_⟩
    refine Zv rfl (.bool true) ?_
    refine Zv rfl (.bool true) ?_
    refine wpList_nil ?_
    refine sx_norm ?_
    refine wp_ret ?_
    exact sx_ret1 (.bool true) rfl rfl (by kernel_rfl) ⟨rfl, HB⟩
   refine sx_call (by kernel_rfl) rfl rfl ((by have h8 := drvRun_n k x ty st orr oa F.length cr ca b o l (fun hp => crs_ok hin hx.al hp) R oR cR bR qR W38 (hI.below HB) (hT.belowD HB) (hl.below HB) (hR.below HB); exact h8)) (by kernel_rfl) ?_
   rintro e W47 ⟨oB, cB, bB, qB, rfl, hSB, -, hb⟩
   have hlthSB : ∀ i, i < (runS x ty st l R).T.length → bB < W47.heap.size := fun i hi => hSB.lt hi
   replace HB := over HB hb
   replace M2 := M2.below hb
   replace M4 := M4.below hb
   replace hSA := hSA.below hb
   replace M37 := M37.below hb
   have z6 := hb.size
   clear hb
   refine ⟨_, rfl, ?_⟩
   refine Zv rfl (.tuple #[.agg #[.bool (runS x ty st l R).r, .int .i64 ((runS x ty st l R).d), .slice oB (runS x ty st l R).T.length cB, .int .i64 ((runS x ty st l R).e), .int .i64 ((runS x ty st l R).m)], .int .i64 (runE x ty st l R)]) ?_
   refine Zv rfl (.agg #[.bool (runS x ty st l R).r, .int .i64 ((runS x ty st l R).d), .slice oB (runS x ty st l R).T.length cB, .int .i64 ((runS x ty st l R).e), .int .i64 ((runS x ty st l R).m)]) ?_
   refine Zv rfl (.int .i64 (runE x ty st l R)) ?_
   obtain ⟨W49, hW, hb, hq⟩ := laidV W47 #[.bool false, .int .i64 0, .slice none 0 0, .int .i64 0, .int .i64 0] #[.bool (runS x ty st l R).r, .int .i64 ((runS x ty st l R).d), .slice oB (runS x ty st l R).T.length cB, .int .i64 ((runS x ty st l R).e), .int .i64 ((runS x ty st l R).m)] 39
   refine sx_mem (by kernel_rfl) rfl rfl (.pointer (some ⟨W47.heap.size, 0, none⟩)) (W47.alloc (.cells #[.bool false, .int .i64 0, .slice none 0 0, .int .i64 0, .int .i64 0] 39)) (by kernel_rfl) ?_
   refine Zs (cells := #[.bool (runS x ty st l R).r, .int .i64 ((runS x ty st l R).d), .slice oB (runS x ty st l R).T.length cB, .int .i64 ((runS x ty st l R).e), .int .i64 ((runS x ty st l R).m)]) rfl rfl (Cb.made W47 #[.bool false, .int .i64 0, .slice none 0 0, .int .i64 0, .int .i64 0] 39) ?_
   rw [hW]
   replace HB := over HB hb
   replace M2 := M2.below hb
   replace M4 := M4.below hb
   replace hSA := hSA.below hb
   replace M37 := M37.below hb
   replace hSB := hSB.below hb
   have z7 := hb.size
   have M48 := hq
   have yM48 := hq.lt
   clear hq hb hW
   refine Zv rfl (.int .i64 (runE x ty st l R)) ?_
   refine wpList_nil ?_
   refine sx_norm ?_
   refine wp_seq ?_
   refine wp_seq ?_
   refine wp_region_lit ?_
   refine Zv rfl (.int .i64 0) ?_
   refine Zv rfl (.bool true) ?_
   refine Zv rfl (.bool true) ?_
   refine Zw rfl (.agg (iK k x)) (ex_load rfl M2 (by kernel_rfl) Tryd.underlying30 rfl (by kernel_rfl)) ?_
   refine Zw rfl (.agg (rK ty st orr F.length cr oa l.length ca)) (ex_load rfl M4 (by kernel_rfl) Tryd.underlying34 rfl (by kernel_rfl)) ?_
   refine Zw rfl (.agg #[.bool (bestS x ty st l F).r, .int .i64 ((bestS x ty st l F).d), .slice oA (bestS x ty st l F).T.length cA, .int .i64 ((bestS x ty st l F).e), .int .i64 ((bestS x ty st l F).m)]) (ex_load rfl M37 (by kernel_rfl) Tryd.underlying39 rfl (by kernel_rfl)) ?_
   refine sx_call (by kernel_rfl) rfl rfl ((by have h8 := drvValid_n k x ty st orr oa oA cr ca cA b o bf qf bA qA l F (bestS x ty st l F) (by have := bestS_short x ty st l F; omega) (fun hp => crs_ok hin hx.al hp) W49 (hI.below HB) (hT.belowD HB) (hl.below HB) (hFx.below HB) hSA; rw [best_valid hin hx.al C13] at h8; exact h8)) (by kernel_rfl) ?_
   rintro e W50 ⟨rfl, hb⟩
   replace HB := over HB hb
   replace M2 := M2.below hb
   replace M4 := M4.below hb
   replace hSA := hSA.below hb
   replace M37 := M37.below hb
   replace hSB := hSB.below hb
   replace M48 := M48.below hb
   have z8 := hb.size
   clear hb
   refine ⟨_, rfl, ?_⟩
   refine Zv rfl (.bool false) ?_
   refine Zv rfl (.bool false) ?_
   refine wpList_nil ?_
   refine sx_norm ?_
   refine sx_false (by kernel_rfl) ?_
   refine wp_skip ?_
   refine sx_norm ?_
   refine wp_seq ?_
   refine wp_seq ?_
   refine wp_region_lit ?_
   refine Zv rfl (.int .i64 (runE x ty st l R)) ?_
   refine Zb rfl (((runE x ty st l R) : Int) != (0 : Int)) true (bne_iff_ne.2 (by omega)) ?_
   refine Zv rfl (.bool true) ?_
   refine Zk rfl ?_
   refine Zk rfl ?_
   refine Zk rfl ?_
   refine Zk rfl ?_
   refine Zk rfl ?_
   refine Zk rfl ?_
   refine Zv rfl (.bool true) ?_
   refine wpList_nil ?_
   refine sx_norm ?_
   refine sx_true (by kernel_rfl) ?_
   refine wp_seq ?_
   refine wp_region_lit ?_
   refine sx_call (by kernel_rfl) rfl rfl (examples_n W50 (hT.belowD HB)) (by kernel_rfl) ?_
   rintro e W51 ⟨rfl, hb⟩
   replace HB := over HB hb
   replace M2 := M2.below hb
   replace M4 := M4.below hb
   replace hSA := hSA.below hb
   replace M37 := M37.below hb
   replace hSB := hSB.below hb
   replace M48 := M48.below hb
   have z9 := hb.size
   clear hb
   refine ⟨_, rfl, ?_⟩
   refine Zv rfl (.bool true) ?_
   refine wpList_nil ?_
   refine sx_norm ?_
   refine wp_ret ?_
   refine sx_rs ?_
   exact sx_ret1 (.bool true) rfl rfl (by kernel_rfl) ⟨rfl, HB⟩
  refine sx_call (by kernel_rfl) rfl rfl ((by have h8 := drvBest_n k x ty st orr oa cr ca b o bf qf l F (fun hp => crs_ok hin hx.al hp) W5 (hI.below HB) (hT.belowD HB) (hl.below HB) (hFx.below HB); exact h8)) (by kernel_rfl) ?_
  rintro e W52 ⟨oA, cA, bA, qA, rfl, hSA, -, hb⟩
  have hlthSA : ∀ i, i < (bestS x ty st l F).T.length → bA < W52.heap.size := fun i hi => hSA.lt hi
  replace HB := over HB hb
  replace M2 := M2.below hb
  replace M4 := M4.below hb
  have z4 := hb.size
  clear hb
  refine ⟨_, rfl, ?_⟩
  refine Zv rfl (.tuple #[.agg #[.bool (bestS x ty st l F).r, .int .i64 ((bestS x ty st l F).d), .slice oA (bestS x ty st l F).T.length cA, .int .i64 ((bestS x ty st l F).e), .int .i64 ((bestS x ty st l F).m)], .int .i64 (bestE x ty st l F)]) ?_
  refine Zv rfl (.agg #[.bool (bestS x ty st l F).r, .int .i64 ((bestS x ty st l F).d), .slice oA (bestS x ty st l F).T.length cA, .int .i64 ((bestS x ty st l F).e), .int .i64 ((bestS x ty st l F).m)]) ?_
  refine Zv rfl (.int .i64 (bestE x ty st l F)) ?_
  obtain ⟨W54, hW, hb, hq⟩ := laidV W52 #[.bool false, .int .i64 0, .slice none 0 0, .int .i64 0, .int .i64 0] #[.bool (bestS x ty st l F).r, .int .i64 ((bestS x ty st l F).d), .slice oA (bestS x ty st l F).T.length cA, .int .i64 ((bestS x ty st l F).e), .int .i64 ((bestS x ty st l F).m)] 39
  refine sx_mem (by kernel_rfl) rfl rfl (.pointer (some ⟨W52.heap.size, 0, none⟩)) (W52.alloc (.cells #[.bool false, .int .i64 0, .slice none 0 0, .int .i64 0, .int .i64 0] 39)) (by kernel_rfl) ?_
  refine Zs (cells := #[.bool (bestS x ty st l F).r, .int .i64 ((bestS x ty st l F).d), .slice oA (bestS x ty st l F).T.length cA, .int .i64 ((bestS x ty st l F).e), .int .i64 ((bestS x ty st l F).m)]) rfl rfl (Cb.made W52 #[.bool false, .int .i64 0, .slice none 0 0, .int .i64 0, .int .i64 0] 39) ?_
  rw [hW]
  replace HB := over HB hb
  replace M2 := M2.below hb
  replace M4 := M4.below hb
  replace hSA := hSA.below hb
  have z5 := hb.size
  have M53 := hq
  have yM53 := hq.lt
  clear hq hb hW
  refine Zv rfl (.int .i64 (bestE x ty st l F)) ?_
  refine wpList_nil ?_
  refine sx_norm ?_
  refine wp_seq ?_
  refine wp_region_lit ?_
  refine Zw rfl (.agg (iK k x)) (ex_load rfl M2 (by kernel_rfl) Tryd.underlying30 rfl (by kernel_rfl)) ?_
  refine Zw rfl (.agg (rK ty st orr F.length cr oa l.length ca)) (ex_load rfl M4 (by kernel_rfl) Tryd.underlying34 rfl (by kernel_rfl)) ?_
  refine Zv rfl (.slice oR R.length cR) ?_
  by_cases C18 : (runE x ty st l R) = 0
  ·refine sx_call (by kernel_rfl) rfl rfl ((by have h8 := drvRun_n k x ty st orr oa F.length cr ca b o l (fun hp => crs_ok hin hx.al hp) R oR cR bR qR W54 (hI.below HB) (hT.belowD HB) (hl.below HB) (hR.below HB); rw [C18] at h8; exact h8)) (by kernel_rfl) ?_
   rintro e W55 ⟨oB, cB, bB, qB, rfl, hSB, -, hb⟩
   have hlthSB : ∀ i, i < (runS x ty st l R).T.length → bB < W55.heap.size := fun i hi => hSB.lt hi
   replace HB := over HB hb
   replace M2 := M2.below hb
   replace M4 := M4.below hb
   replace hSA := hSA.below hb
   replace M53 := M53.below hb
   have z6 := hb.size
   clear hb
   refine ⟨_, rfl, ?_⟩
   refine Zv rfl (.tuple #[.agg #[.bool (runS x ty st l R).r, .int .i64 ((runS x ty st l R).d), .slice oB (runS x ty st l R).T.length cB, .int .i64 ((runS x ty st l R).e), .int .i64 ((runS x ty st l R).m)], .int .i64 0]) ?_
   refine Zv rfl (.agg #[.bool (runS x ty st l R).r, .int .i64 ((runS x ty st l R).d), .slice oB (runS x ty st l R).T.length cB, .int .i64 ((runS x ty st l R).e), .int .i64 ((runS x ty st l R).m)]) ?_
   refine Zv rfl (.int .i64 0) ?_
   obtain ⟨W57, hW, hb, hq⟩ := laidV W55 #[.bool false, .int .i64 0, .slice none 0 0, .int .i64 0, .int .i64 0] #[.bool (runS x ty st l R).r, .int .i64 ((runS x ty st l R).d), .slice oB (runS x ty st l R).T.length cB, .int .i64 ((runS x ty st l R).e), .int .i64 ((runS x ty st l R).m)] 39
   refine sx_mem (by kernel_rfl) rfl rfl (.pointer (some ⟨W55.heap.size, 0, none⟩)) (W55.alloc (.cells #[.bool false, .int .i64 0, .slice none 0 0, .int .i64 0, .int .i64 0] 39)) (by kernel_rfl) ?_
   refine Zs (cells := #[.bool (runS x ty st l R).r, .int .i64 ((runS x ty st l R).d), .slice oB (runS x ty st l R).T.length cB, .int .i64 ((runS x ty st l R).e), .int .i64 ((runS x ty st l R).m)]) rfl rfl (Cb.made W55 #[.bool false, .int .i64 0, .slice none 0 0, .int .i64 0, .int .i64 0] 39) ?_
   rw [hW]
   replace HB := over HB hb
   replace M2 := M2.below hb
   replace M4 := M4.below hb
   replace hSA := hSA.below hb
   replace M53 := M53.below hb
   replace hSB := hSB.below hb
   have z7 := hb.size
   have M56 := hq
   have yM56 := hq.lt
   clear hq hb hW
   refine Zv rfl (.int .i64 0) ?_
   refine wpList_nil ?_
   refine sx_norm ?_
   refine wp_seq ?_
   refine wp_seq ?_
   refine wp_region_lit ?_
   refine Zv rfl (.int .i64 (bestE x ty st l F)) ?_
   refine Zb rfl (((bestE x ty st l F) : Int) == (0 : Int)) false (beq_eq_false_iff_ne.2 (by omega)) ?_
   refine Zv rfl (.bool false) ?_
   refine Zk rfl ?_
   refine Zk rfl ?_
   refine Zk rfl ?_
   refine Zk rfl ?_
   refine Zk rfl ?_
   refine Zv rfl (.bool false) ?_
   refine wpList_nil ?_
   refine sx_norm ?_
   refine sx_false (by kernel_rfl) ?_
   refine wp_skip ?_
   refine sx_norm ?_
   refine wp_seq ?_
   refine wp_seq ?_
   refine wp_region_lit ?_
   refine Zv rfl (.int .i64 0) ?_
   refine Zv rfl (.bool false) ?_
   refine Zv rfl (.bool false) ?_
   refine Zv rfl (.pointer (some ⟨W1.heap.size, 2, none⟩)) ?_
   refine Zw rfl (.slice orr F.length cr) (el (M4.cell 2 rfl) Tryd.underlying31) ?_
   refine Zv rfl (.int .i64 ((F.length : Nat) : Int)) ?_
   refine Zv rfl (.slice oR R.length cR) ?_
   refine Zv rfl (.int .i64 ((R.length : Nat) : Int)) ?_
   by_cases C19 : F.length > R.length
   ·refine Zb rfl (decide (((F.length : Nat) : Int) > ((R.length : Nat) : Int))) true (decide_eq_true (by omega)) ?_
    refine Zv rfl (.bool true) ?_
    refine wpList_nil ?_
    refine sx_norm ?_
    refine sx_true (by kernel_rfl) ?_
    refine wp_seq ?_
    refine wp_region_lit ?_
    refine sx_call (by kernel_rfl) rfl rfl (examples_n W57 (hT.belowD HB)) (by kernel_rfl) ?_
    rintro e W58 ⟨rfl, hb⟩
    replace HB := over HB hb
    replace M2 := M2.below hb
    replace M4 := M4.below hb
    replace hSA := hSA.below hb
    replace M53 := M53.below hb
    replace hSB := hSB.below hb
    replace M56 := M56.below hb
    have z8 := hb.size
    clear hb
    refine ⟨_, rfl, ?_⟩
    refine Zv rfl (.bool true) ?_
    refine wpList_nil ?_
    refine sx_norm ?_
    refine wp_ret ?_
    refine sx_rs ?_
    exact sx_ret1 (.bool true) rfl rfl (by kernel_rfl) ⟨rfl, HB⟩
   refine Zb rfl (decide (((F.length : Nat) : Int) > ((R.length : Nat) : Int))) false (decide_eq_false (by omega)) ?_
   refine Zv rfl (.bool false) ?_
   refine wpList_nil ?_
   refine sx_norm ?_
   refine sx_false (by kernel_rfl) ?_
   refine wp_skip ?_
   refine sx_norm ?_
   refine wp_seq ?_
   refine wp_seq ?_
   have hl20 := posD_len (runS_is C18).2.1
   have hRl9 := (runS_is C18).2.2.1
   refine wp_region_lit ?_
   refine Zv rfl (.pointer (some ⟨W1.heap.size, 2, none⟩)) ?_
   refine Zw rfl (.slice orr F.length cr) (el (M4.cell 2 rfl) Tryd.underlying31) ?_
   refine Zv rfl (.int .i64 ((F.length : Nat) : Int)) ?_
   refine Zv rfl (.int .i64 0) ?_
   refine wpList_nil ?_
   refine sx_norm ?_
   refine wp_block ?_
   refine sx_loop (fun i : Nat => [(0, .agg (iK k x)), (1, .agg (rK ty st orr F.length cr oa l.length ca)), (2, .slice oR R.length cR), (3, .pointer (some ⟨w.heap.size, 0, none⟩)), (4, .pointer (some ⟨W1.heap.size, 0, none⟩)), (7, .pointer (some ⟨W52.heap.size, 0, none⟩)), (8, .int .i64 (bestE x ty st l F)), (9, .pointer (some ⟨W55.heap.size, 0, none⟩)), (10, .int .i64 0), (13, .agg (iK k x)), (14, .bool true), (15, .bool false), (16, .bool false), (17, .pointer (some ⟨W1.heap.size, 3, none⟩)), (18, .slice oa l.length ca), (19, .int .i64 ((l.length : Nat) : Int)), (20, .bool false), (21, .bool false), (26, .bool false), (27, .bool false), (29, .tuple #[.agg #[.bool (bestS x ty st l F).r, .int .i64 ((bestS x ty st l F).d), .slice oA (bestS x ty st l F).T.length cA, .int .i64 ((bestS x ty st l F).e), .int .i64 ((bestS x ty st l F).m)], .int .i64 (bestE x ty st l F)]), (30, .agg (iK k x)), (31, .agg (rK ty st orr F.length cr oa l.length ca)), (32, .tuple #[.agg #[.bool (bestS x ty st l F).r, .int .i64 ((bestS x ty st l F).d), .slice oA (bestS x ty st l F).T.length cA, .int .i64 ((bestS x ty st l F).e), .int .i64 ((bestS x ty st l F).m)], .int .i64 (bestE x ty st l F)]), (33, .agg #[.bool (bestS x ty st l F).r, .int .i64 ((bestS x ty st l F).d), .slice oA (bestS x ty st l F).T.length cA, .int .i64 ((bestS x ty st l F).e), .int .i64 ((bestS x ty st l F).m)]), (34, .int .i64 (bestE x ty st l F)), (35, .tuple #[.agg #[.bool (runS x ty st l R).r, .int .i64 ((runS x ty st l R).d), .slice oB (runS x ty st l R).T.length cB, .int .i64 ((runS x ty st l R).e), .int .i64 ((runS x ty st l R).m)], .int .i64 0]), (36, .agg (iK k x)), (37, .agg (rK ty st orr F.length cr oa l.length ca)), (38, .slice oR R.length cR), (39, .tuple #[.agg #[.bool (runS x ty st l R).r, .int .i64 ((runS x ty st l R).d), .slice oB (runS x ty st l R).T.length cB, .int .i64 ((runS x ty st l R).e), .int .i64 ((runS x ty st l R).m)], .int .i64 0]), (40, .agg #[.bool (runS x ty st l R).r, .int .i64 ((runS x ty st l R).d), .slice oB (runS x ty st l R).T.length cB, .int .i64 ((runS x ty st l R).e), .int .i64 ((runS x ty st l R).m)]), (41, .int .i64 0), (42, .int .i64 (bestE x ty st l F)), (43, .bool false), (44, .bool false), (50, .bool false), (51, .int .i64 0), (52, .bool false), (53, .bool false), (54, .pointer (some ⟨W1.heap.size, 2, none⟩)), (55, .slice orr F.length cr), (56, .int .i64 ((F.length : Nat) : Int)), (57, .slice oR R.length cR), (58, .int .i64 ((R.length : Nat) : Int)), (59, .bool false), (60, .bool false), (62, .pointer (some ⟨W1.heap.size, 2, none⟩)), (63, .slice orr F.length cr), (64, .int .i64 ((F.length : Nat) : Int)), (65, .int .i64 ((i : Nat) : Int))]) (fun gg i wr => i ≤ F.length ∧ F.length - i ≤ gg ∧ (∀ j, j < i → R.getD j false = F.getD j false) ∧ Below W57.heap.size W57 wr) (F.length) (0) (by kernel_rfl) ⟨Nat.zero_le _, Nat.le_refl _, (fun j hj => absurd hj (Nat.not_lt_zero j)), Below.refl _ _⟩ ?_
   rintro gg i g' wr59 ⟨hi, hg, hJ, hbl⟩
   replace HB := over HB hbl
   replace M2 := M2.below hbl
   replace M4 := M4.below hbl
   replace hSA := hSA.below hbl
   replace M53 := M53.below hbl
   replace hSB := hSB.below hbl
   replace M56 := M56.below hbl
   have z8 := hbl.size
   have HL := hbl
   clear hbl
   refine wp_seq ?_
   refine wp_region_lit ?_
   by_cases C20 : i < F.length
   ·refine Zb rfl (decide (((i : Nat) : Int) < ((F.length : Nat) : Int))) true (decide_eq_true (by omega)) ?_
    refine wpList_nil ?_
    refine sx_norm ?_
    refine wp_seq ?_
    refine sx_true (by kernel_rfl) ?_
    refine wp_skip ?_
    refine sx_norm ?_
    refine wp_seq ?_
    refine wp_block ?_
    refine wp_seq ?_
    refine wp_region_lit ?_
    refine Zv rfl (.int .i64 ((i : Nat) : Int)) ?_
    refine Zw rfl (.pointer (some ⟨bf, qf + i * 1, none⟩)) (ex_indexO (q := qf) (m := F.length) (c := cr) (k := i) (s := 1) rfl (by kernel_rfl) ((hFx.below HB).oa (k := i) (by omega)) (by kernel_rfl) Tryd.underlying31 (by kernel_rfl) (by omega) (by omega)) ?_
    refine Zw rfl (.bool (F.getD i false)) (el ((hFx.below HB).cell (k := i) (by omega) 0 rfl) Tryd.underlying4) ?_
    refine Zv rfl (.int .i64 ((i : Nat) : Int)) ?_
    refine Zv rfl (.bool (F.getD i false)) ?_
    refine wpList_nil ?_
    refine sx_norm ?_
    refine wp_seq ?_
    refine wp_region_lit ?_
    refine Zv rfl (.slice oR R.length cR) ?_
    refine Zv rfl (.int .i64 ((i : Nat) : Int)) ?_
    refine Zw rfl (.pointer (some ⟨bR, qR + i * 1, none⟩)) (ex_indexO (q := qR) (m := R.length) (c := cR) (k := i) (s := 1) rfl (by kernel_rfl) ((hR.below HB).oa (k := i) (by omega)) (by kernel_rfl) Tryd.underlying31 (by kernel_rfl) (by omega) (by omega)) ?_
    refine Zw rfl (.bool (R.getD i false)) (el ((hR.below HB).cell (k := i) (by omega) 0 rfl) Tryd.underlying4) ?_
    refine Zv rfl (.bool (F.getD i false)) ?_
    by_cases C21 : (R.getD i false) = (F.getD i false)
    ·refine Zb rfl (((R.getD i false) != (F.getD i false))) false (by rw [C21]; exact bne_self_eq_false _) ?_
     refine wpList_nil ?_
     refine sx_norm ?_
     refine sx_false (by kernel_rfl) ?_
     refine wp_skip ?_
     refine sx_in ?_
     refine sx_norm ?_
     refine wp_region_lit ?_
     refine sx_int (by kernel_rfl) rfl rfl .i64 (IntKind.i64.wrap (((i : Nat) : Int) + 1)) (((i + 1 : Nat) : Int)) (by kernel_rfl) (by rw [IntKind.wrap_i64]; omega) ?_
     refine Zv rfl (.int .i64 ((i + 1 : Nat) : Int)) ?_
     refine wpList_nil ?_
     refine sx_norm ?_
     exact sx_again (F.length - (i + 1)) (i + 1) (by omega) (by kernel_rfl) ⟨by omega, Nat.le_refl _, ext_more hJ (by assumption), HL⟩
    refine Zb rfl (((R.getD i false) != (F.getD i false))) true (bne_iff_ne.2 C21) ?_
    refine wpList_nil ?_
    refine sx_norm ?_
    refine sx_true (by kernel_rfl) ?_
    refine wp_seq ?_
    refine wp_region_lit ?_
    refine sx_call (by kernel_rfl) rfl rfl (examples_n wr59 (hT.belowD HB)) (by kernel_rfl) ?_
    rintro e W60 ⟨rfl, hb⟩
    replace HB := over HB hb
    replace M2 := M2.below hb
    replace M4 := M4.below hb
    replace hSA := hSA.below hb
    replace M53 := M53.below hb
    replace hSB := hSB.below hb
    replace M56 := M56.below hb
    replace HL := over HL hb
    have z9 := hb.size
    clear hb
    refine ⟨_, rfl, ?_⟩
    refine Zv rfl (.bool true) ?_
    refine wpList_nil ?_
    refine sx_norm ?_
    refine wp_ret ?_
    refine sx_rb ?_
    refine sx_rs ?_
    refine sx_rs ?_
    refine sx_rb ?_
    refine sx_rs ?_
    exact sx_ret1 (.bool true) rfl rfl (by kernel_rfl) ⟨rfl, HB⟩
   refine Zb rfl (decide (((i : Nat) : Int) < ((F.length : Nat) : Int))) false (decide_eq_false (by omega)) ?_
   refine wpList_nil ?_
   refine sx_norm ?_
   refine wp_seq ?_
   refine sx_false (by kernel_rfl) ?_
   refine wp_exit ?_
   refine sx_es ?_
   refine sx_es ?_
   refine sx_out ?_
   refine sx_norm ?_
   refine wp_seq ?_
   have hbf := best_first hin hx.al (F := F) (R := R) (by omega) (fun j hj => hJ j (by omega)) C18
   refine wp_region_lit ?_
   refine Zv rfl (.int .i64 (bestE x ty st l F)) ?_
   refine Zb rfl (((bestE x ty st l F) : Int) == (0 : Int)) false (beq_eq_false_iff_ne.2 (by omega)) ?_
   refine Zv rfl (.bool false) ?_
   refine Zk rfl ?_
   refine Zk rfl ?_
   refine Zk rfl ?_
   refine Zk rfl ?_
   refine Zk rfl ?_
   refine Zv rfl (.bool false) ?_
   refine Zv rfl (.bool false) ?_
   refine Zk rfl ?_
   refine Zv rfl (.bool false) ?_
   refine Zv rfl (.bool false) ?_
   refine wpList_nil ?_
   refine sx_norm ?_
   refine wp_ret ?_
   exact absurd hbf.1 C13
  refine sx_call (by kernel_rfl) rfl rfl ((by have h8 := drvRun_n k x ty st orr oa F.length cr ca b o l (fun hp => crs_ok hin hx.al hp) R oR cR bR qR W54 (hI.below HB) (hT.belowD HB) (hl.below HB) (hR.below HB); exact h8)) (by kernel_rfl) ?_
  rintro e W61 ⟨oB, cB, bB, qB, rfl, hSB, -, hb⟩
  have hlthSB : ∀ i, i < (runS x ty st l R).T.length → bB < W61.heap.size := fun i hi => hSB.lt hi
  replace HB := over HB hb
  replace M2 := M2.below hb
  replace M4 := M4.below hb
  replace hSA := hSA.below hb
  replace M53 := M53.below hb
  have z6 := hb.size
  clear hb
  refine ⟨_, rfl, ?_⟩
  refine Zv rfl (.tuple #[.agg #[.bool (runS x ty st l R).r, .int .i64 ((runS x ty st l R).d), .slice oB (runS x ty st l R).T.length cB, .int .i64 ((runS x ty st l R).e), .int .i64 ((runS x ty st l R).m)], .int .i64 (runE x ty st l R)]) ?_
  refine Zv rfl (.agg #[.bool (runS x ty st l R).r, .int .i64 ((runS x ty st l R).d), .slice oB (runS x ty st l R).T.length cB, .int .i64 ((runS x ty st l R).e), .int .i64 ((runS x ty st l R).m)]) ?_
  refine Zv rfl (.int .i64 (runE x ty st l R)) ?_
  obtain ⟨W63, hW, hb, hq⟩ := laidV W61 #[.bool false, .int .i64 0, .slice none 0 0, .int .i64 0, .int .i64 0] #[.bool (runS x ty st l R).r, .int .i64 ((runS x ty st l R).d), .slice oB (runS x ty st l R).T.length cB, .int .i64 ((runS x ty st l R).e), .int .i64 ((runS x ty st l R).m)] 39
  refine sx_mem (by kernel_rfl) rfl rfl (.pointer (some ⟨W61.heap.size, 0, none⟩)) (W61.alloc (.cells #[.bool false, .int .i64 0, .slice none 0 0, .int .i64 0, .int .i64 0] 39)) (by kernel_rfl) ?_
  refine Zs (cells := #[.bool (runS x ty st l R).r, .int .i64 ((runS x ty st l R).d), .slice oB (runS x ty st l R).T.length cB, .int .i64 ((runS x ty st l R).e), .int .i64 ((runS x ty st l R).m)]) rfl rfl (Cb.made W61 #[.bool false, .int .i64 0, .slice none 0 0, .int .i64 0, .int .i64 0] 39) ?_
  rw [hW]
  replace HB := over HB hb
  replace M2 := M2.below hb
  replace M4 := M4.below hb
  replace hSA := hSA.below hb
  replace M53 := M53.below hb
  replace hSB := hSB.below hb
  have z7 := hb.size
  have M62 := hq
  have yM62 := hq.lt
  clear hq hb hW
  refine Zv rfl (.int .i64 (runE x ty st l R)) ?_
  refine wpList_nil ?_
  refine sx_norm ?_
  refine wp_seq ?_
  refine wp_seq ?_
  refine wp_region_lit ?_
  refine Zv rfl (.int .i64 (bestE x ty st l F)) ?_
  refine Zb rfl (((bestE x ty st l F) : Int) == (0 : Int)) false (beq_eq_false_iff_ne.2 (by omega)) ?_
  refine Zv rfl (.bool false) ?_
  refine Zk rfl ?_
  refine Zk rfl ?_
  refine Zk rfl ?_
  refine Zk rfl ?_
  refine Zk rfl ?_
  refine Zv rfl (.bool false) ?_
  refine wpList_nil ?_
  refine sx_norm ?_
  refine sx_false (by kernel_rfl) ?_
  refine wp_skip ?_
  refine sx_norm ?_
  refine wp_seq ?_
  refine wp_seq ?_
  refine wp_region_lit ?_
  refine Zv rfl (.int .i64 (runE x ty st l R)) ?_
  refine Zb rfl (((runE x ty st l R) : Int) != (0 : Int)) true (bne_iff_ne.2 (by omega)) ?_
  refine Zv rfl (.bool true) ?_
  refine Zk rfl ?_
  refine Zk rfl ?_
  refine Zk rfl ?_
  refine Zk rfl ?_
  refine Zk rfl ?_
  refine Zk rfl ?_
  refine Zv rfl (.bool true) ?_
  refine wpList_nil ?_
  refine sx_norm ?_
  refine sx_true (by kernel_rfl) ?_
  refine wp_seq ?_
  refine wp_region_lit ?_
  refine sx_call (by kernel_rfl) rfl rfl (examples_n W63 (hT.belowD HB)) (by kernel_rfl) ?_
  rintro e W64 ⟨rfl, hb⟩
  replace HB := over HB hb
  replace M2 := M2.below hb
  replace M4 := M4.below hb
  replace hSA := hSA.below hb
  replace M53 := M53.below hb
  replace hSB := hSB.below hb
  replace M62 := M62.below hb
  have z8 := hb.size
  clear hb
  refine ⟨_, rfl, ?_⟩
  refine Zv rfl (.bool true) ?_
  refine wpList_nil ?_
  refine sx_norm ?_
  refine wp_ret ?_
  refine sx_rs ?_
  exact sx_ret1 (.bool true) rfl rfl (by kernel_rfl) ⟨rfl, HB⟩
 refine sx_call (by kernel_rfl) rfl rfl ((by have h8 := right_n k x hx W3 (hI.below HB); rw [show rightB x = false by simpa using C1] at h8; exact h8)) (by kernel_rfl) ?_
 rintro e W65 ⟨rfl, hb⟩
 replace HB := over HB hb
 replace M2 := M2.below hb
 replace M4 := M4.below hb
 have z3 := hb.size
 clear hb
 refine ⟨_, rfl, ?_⟩
 refine Zv rfl (.bool true) ?_
 refine Zv rfl (.bool true) ?_
 refine Zk rfl ?_
 refine Zk rfl ?_
 refine Zk rfl ?_
 refine Zk rfl ?_
 refine Zk rfl ?_
 refine Zk rfl ?_
 refine Zk rfl ?_
 refine Zk rfl ?_
 refine Zk rfl ?_
 refine Zk rfl ?_
 refine Zv rfl (.bool true) ?_
 refine wpList_nil ?_
 refine sx_norm ?_
 refine sx_true (by kernel_rfl) ?_
 refine wp_seq ?_
 refine wp_region_lit ?_
 refine sx_call (by kernel_rfl) rfl rfl (examples_n W65 (hT.belowD HB)) (by kernel_rfl) ?_
 rintro e W66 ⟨rfl, hb⟩
 replace HB := over HB hb
 replace M2 := M2.below hb
 replace M4 := M4.below hb
 have z4 := hb.size
 clear hb
 refine ⟨_, rfl, ?_⟩
 refine Zv rfl (.bool true) ?_
 refine wpList_nil ?_
 refine sx_norm ?_
 refine wp_ret ?_
 refine sx_rs ?_
 exact sx_ret1 (.bool true) rfl rfl (by kernel_rfl) ⟨rfl, HB⟩

end Go.Proofs.YtnapmildbodigaaDoor.T


