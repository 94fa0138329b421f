/-
  DERIVED. DriveChecks: a part of the base of layer 13 (made by pack.py).
-/
import Derived.Test.YtnapmildbodigaaDoorGA
import Derived.Test.YtnapmildbodigaaDoorGL
import Derived.Test.YtnapmildbodigaaDoorFf
/-! DriveChecks: its walk (by gen_ld.py). -/
namespace Go.Proofs.YtnapmildbodigaaDoor.T
open Go.RowKit
set_option maxRecDepth 8000
attribute [local irreducible] wpList Code.wp wpAnyH

theorem driveChecks_walk (k : Iv) (x : InT) (hx : InU x) (ty st : Int) (orr oa : Option Addr) (cr ca b o bf qf : Nat) (l : List (Int × Bool)) (F : List Bool) (S : ShT) (oS : Option Addr) (cS bS qS : Nat) (lS : S.T.length ≤ 300000) (w : World) (hT : Tab w) (hI : Ins w k x) (hl : Rw w b o 2 (vF l) l.length oa) (hFx : Rw w bf qf 1 (bF F) F.length orr) (hST : Rw w bS qS 4 (fun k => tmE (S.T.getD k tm0)) S.T.length oS) : Calls Tryd.prog 5 #[.agg (iK k x), .agg (rK ty st orr F.length cr oa l.length ca), .agg #[.bool S.r, .int .i64 S.d, .slice oS S.T.length cS, .int .i64 S.e, .int .i64 S.m]] w fun e w' => e = .returned (.bool true) ∧ Below w.heap.size w w' := by
 have HB : Below w.heap.size w w := Below.refl _ _
 have hll := chkL_len x ty st l F S
 have hsl : (sinS x ty st l F S).length = (chkL x ty st l F S).length := by unfold sinS; rw [List.length_map]
 have hsh : (sinS x ty st l F S).length ≤ 21 := by
  by_cases h : chkE x ty st l F S = 0
  ·have := chkE_len h; omega
  ·rw [sin_no h]; show (0 : Nat) ≤ 21; omega
 refine sx_enter Tryd.func5 rfl [(0, .agg (iK k x)), (1, .agg (rK ty st orr F.length cr oa l.length ca)), (2, .agg #[.bool S.r, .int .i64 S.d, .slice oS S.T.length cS, .int .i64 S.e, .int .i64 S.m])] (by kernel_rfl) ?_
 refine wp_seq ?_
 refine wp_region_lit ?_
 obtain ⟨W1, hW, hb, hq⟩ := laidA w (iK k x) 30
 refine sx_mem (by kernel_rfl) rfl rfl (.pointer (some ⟨w.heap.size, 0, none⟩)) W1 (by rw [← hW]; kernel_rfl) ?_
 replace HB := over HB hb
 have z1 := hb.size
 have M2 := hq
 have yM2 := hq.lt
 clear hq hb hW
 obtain ⟨W3, hW, hb, hq⟩ := laidA W1 (rK ty st orr F.length cr oa l.length ca) 34
 refine sx_mem (by kernel_rfl) rfl rfl (.pointer (some ⟨W1.heap.size, 0, none⟩)) W3 (by rw [← hW]; kernel_rfl) ?_
 replace HB := over HB hb
 replace M2 := M2.below hb
 have z2 := hb.size
 have M4 := hq
 have yM4 := hq.lt
 clear hq hb hW
 obtain ⟨W5, hW, hb, hq⟩ := laidA W3 #[.bool S.r, .int .i64 S.d, .slice oS S.T.length cS, .int .i64 S.e, .int .i64 S.m] 39
 refine sx_mem (by kernel_rfl) rfl rfl (.pointer (some ⟨W3.heap.size, 0, none⟩)) W5 (by rw [← hW]; kernel_rfl) ?_
 replace HB := over HB hb
 replace M2 := M2.below hb
 replace M4 := M4.below hb
 have z3 := hb.size
 have M6 := hq
 have yM6 := hq.lt
 clear hq hb hW
 refine Zv rfl (.bool false) ?_
 refine wpList_nil ?_
 refine sx_norm ?_
 refine wp_seq ?_
 refine wp_seq ?_
 refine wp_region_lit ?_
 refine Zw rfl (.agg (iK k x)) (ex_load rfl M2 (by kernel_rfl) Tryd.underlying30 rfl (by kernel_rfl)) ?_
 by_cases C1 : rightB x = true
 ·refine sx_call (by kernel_rfl) rfl rfl ((by have h8 := right_n k x hx W5 (hI.below HB); rw [C1] at h8; exact h8)) (by kernel_rfl) ?_
  rintro e W7 ⟨rfl, hb⟩
  replace HB := over HB hb
  replace M2 := M2.below hb
  replace M4 := M4.below hb
  replace M6 := M6.below hb
  have z4 := hb.size
  clear hb
  refine ⟨_, rfl, ?_⟩
  have hin : inF x = [] := List.length_eq_zero_iff.1 (of_decide_eq_true C1)
  refine Zv rfl (.bool false) ?_
  refine wpList_nil ?_
  refine sx_norm ?_
  refine sx_false (by kernel_rfl) ?_
  refine wp_skip ?_
  refine sx_norm ?_
  refine wp_seq ?_
  refine wp_region_lit ?_
  refine Zw rfl (.agg (iK k x)) (ex_load rfl M2 (by kernel_rfl) Tryd.underlying30 rfl (by kernel_rfl)) ?_
  refine Zw rfl (.agg (rK ty st orr F.length cr oa l.length ca)) (ex_load rfl M4 (by kernel_rfl) Tryd.underlying34 rfl (by kernel_rfl)) ?_
  refine Zw rfl (.agg #[.bool S.r, .int .i64 S.d, .slice oS S.T.length cS, .int .i64 S.e, .int .i64 S.m]) (ex_load rfl M6 (by kernel_rfl) Tryd.underlying39 rfl (by kernel_rfl)) ?_
  refine sx_call (by kernel_rfl) rfl rfl (drvSince_n k x ty st orr oa oS cr ca cS b o bf qf bS qS l F S lS (fun hp => crs_ok hin hx.al hp) W7 (hI.below HB) (hT.belowD HB) (hl.below HB) (hFx.below HB) (hST.below HB)) (by kernel_rfl) ?_
  rintro e W8 ⟨oA, cA, bA, qA, rfl, hSA, hb⟩
  replace HB := over HB hb
  replace M2 := M2.below hb
  replace M4 := M4.below hb
  replace M6 := M6.below hb
  have z5 := hb.size
  clear hb
  refine ⟨_, rfl, ?_⟩
  refine Zv rfl (.tuple #[.slice oA (sinS x ty st l F S).length cA, .int .i64 (chkE x ty st l F S)]) ?_
  refine Zv rfl (.slice oA (sinS x ty st l F S).length cA) ?_
  refine Zv rfl (.int .i64 (chkE x ty st l F S)) ?_
  refine Zv rfl (.slice oA (sinS x ty st l F S).length cA) ?_
  refine Zv rfl (.int .i64 (chkE x ty st l F S)) ?_
  refine wpList_nil ?_
  refine sx_norm ?_
  refine wp_seq ?_
  refine wp_region_lit ?_
  refine Zw rfl (.agg (iK k x)) (ex_load rfl M2 (by kernel_rfl) Tryd.underlying30 rfl (by kernel_rfl)) ?_
  refine Zw rfl (.agg (rK ty st orr F.length cr oa l.length ca)) (ex_load rfl M4 (by kernel_rfl) Tryd.underlying34 rfl (by kernel_rfl)) ?_
  refine Zw rfl (.agg #[.bool S.r, .int .i64 S.d, .slice oS S.T.length cS, .int .i64 S.e, .int .i64 S.m]) (ex_load rfl M6 (by kernel_rfl) Tryd.underlying39 rfl (by kernel_rfl)) ?_
  refine sx_call (by kernel_rfl) rfl rfl (refSince18_n k x (by have := hx.al; omega) ty st orr oa oS cr ca cS b o bf qf bS qS l F S lS (fun hp => crs_ok hin hx.al hp) W8 (hI.below HB) (hl.below HB) (hFx.below HB) (hST.below HB)) (by kernel_rfl) ?_
  rintro e W9 ⟨oB, cB, bB, qB, rfl, hSB, hb⟩
  replace HB := over HB hb
  replace M2 := M2.below hb
  replace M4 := M4.below hb
  replace M6 := M6.below hb
  replace hSA := hSA.below hb
  have z6 := hb.size
  clear hb
  refine ⟨_, rfl, ?_⟩
  refine Zv rfl (.tuple #[.slice oB (sinS x ty st l F S).length cB, .int .i64 (chkE x ty st l F S)]) ?_
  refine Zv rfl (.slice oB (sinS x ty st l F S).length cB) ?_
  refine Zv rfl (.int .i64 (chkE x ty st l F S)) ?_
  refine Zv rfl (.slice oB (sinS x ty st l F S).length cB) ?_
  refine Zv rfl (.int .i64 (chkE x ty st l F S)) ?_
  refine wpList_nil ?_
  refine sx_norm ?_
  refine wp_seq ?_
  refine wp_seq ?_
  obtain ⟨Y10, hW⟩ : ∃ W, W9.drew = W := ⟨_, rfl⟩
  have hb : Below W9.heap.size W9 Y10 := hW ▸ below_drew (Below.refl _ _)
  replace HB := over HB hb
  replace M2 := M2.below hb
  replace M4 := M4.below hb
  replace M6 := M6.below hb
  replace hSA := hSA.below hb
  replace hSB := hSB.below hb
  have z7 := hb.size
  clear hb
  refine sd_begin (fun W => Cb W (w.heap.size) (iK k x) 30 ∧ Cb W (W1.heap.size) (rK ty st orr F.length cr oa l.length ca) 34 ∧ Cb W (W3.heap.size) #[.bool S.r, .int .i64 S.d, .slice oS S.T.length cS, .int .i64 S.e, .int .i64 S.m] 39 ∧ Rw W bA qA 1 (fun k => inE ((sinS x ty st l F S).getD k 0)) ((sinS x ty st l F S).length) oA ∧ Rw W bB qB 1 (fun k => inE ((sinS x ty st l F S).getD k 0)) ((sinS x ty st l F S).length) oB ∧ True) (by kernel_rfl) (by rw [hW]; exact ⟨M2, M4, M6, hSA, hSB, trivial⟩) ?_
  rw [hW]
  clear hW
  refine Zu 0 rfl rfl (.int .i64 (chkE x ty st l F S)) ⟨M2, M4, M6, hSA, hSB, trivial⟩ ?_
  refine Zu 1 rfl rfl (.int .i64 (chkE x ty st l F S)) ⟨M2, M4, M6, hSA, hSB, trivial⟩ ?_
  refine Zt 2 rfl rfl (.bool false) (fun w9 _ => ex_bool (((chkE x ty st l F S) : Int) != ((chkE x ty st l F S) : Int)) false (by kernel_rfl) (by simp)) ⟨M2, M4, M6, hSA, hSB, trivial⟩ ?_
  refine Zu 3 rfl rfl (.bool false) ⟨M2, M4, M6, hSA, hSB, trivial⟩ ?_
  refine Zu 4 rfl rfl (.slice oA (sinS x ty st l F S).length cA) ⟨M2, M4, M6, hSA, hSB, trivial⟩ ?_
  refine Zu 5 rfl rfl (.int .i64 (((sinS x ty st l F S).length : Nat) : Int)) ⟨M2, M4, M6, hSA, hSB, trivial⟩ ?_
  refine Zu 6 rfl rfl (.slice oB (sinS x ty st l F S).length cB) ⟨M2, M4, M6, hSA, hSB, trivial⟩ ?_
  refine Zu 7 rfl rfl (.int .i64 (((sinS x ty st l F S).length : Nat) : Int)) ⟨M2, M4, M6, hSA, hSB, trivial⟩ ?_
  refine Zt 8 rfl rfl (.bool false) (fun w9 _ => ex_bool (((((sinS x ty st l F S).length : Nat) : Int) : Int) != ((((sinS x ty st l F S).length : Nat) : Int) : Int)) false (by kernel_rfl) (by simp)) ⟨M2, M4, M6, hSA, hSB, trivial⟩ ?_
  refine Zu 9 rfl rfl (.bool false) ⟨M2, M4, M6, hSA, hSB, trivial⟩ ?_
  refine Zu 10 rfl rfl (.bool false) ⟨M2, M4, M6, hSA, hSB, trivial⟩ ?_
  refine Zt 11 rfl rfl (.agg (iK k x)) (fun w9 h9 => ex_load rfl h9.1 (by kernel_rfl) Tryd.underlying30 rfl (by kernel_rfl)) ⟨M2, M4, M6, hSA, hSB, trivial⟩ ?_
  refine Zt 12 rfl rfl (.agg (rK ty st orr F.length cr oa l.length ca)) (fun w9 h9 => ex_load rfl h9.2.1 (by kernel_rfl) Tryd.underlying34 rfl (by kernel_rfl)) ⟨M2, M4, M6, hSA, hSB, trivial⟩ ?_
  refine Zt 13 rfl rfl (.agg #[.bool S.r, .int .i64 S.d, .slice oS S.T.length cS, .int .i64 S.e, .int .i64 S.m]) (fun w9 h9 => ex_load rfl h9.2.2.1 (by kernel_rfl) Tryd.underlying39 rfl (by kernel_rfl)) ⟨M2, M4, M6, hSA, hSB, trivial⟩ ?_
  refine Zt 15 rfl rfl (.agg (iK k x)) (fun w9 h9 => ex_load rfl h9.1 (by kernel_rfl) Tryd.underlying30 rfl (by kernel_rfl)) ⟨M2, M4, M6, hSA, hSB, trivial⟩ ?_
  refine Zt 16 rfl rfl (.agg (rK ty st orr F.length cr oa l.length ca)) (fun w9 h9 => ex_load rfl h9.2.1 (by kernel_rfl) Tryd.underlying34 rfl (by kernel_rfl)) ⟨M2, M4, M6, hSA, hSB, trivial⟩ ?_
  refine Zt 17 rfl rfl (.agg #[.bool S.r, .int .i64 S.d, .slice oS S.T.length cS, .int .i64 S.e, .int .i64 S.m]) (fun w9 h9 => ex_load rfl h9.2.2.1 (by kernel_rfl) Tryd.underlying39 rfl (by kernel_rfl)) ⟨M2, M4, M6, hSA, hSB, trivial⟩ ?_
  refine sd_all [14] (by kernel_rfl) (by decide) ?_
  refine sd_call (i := 14) rfl (by kernel_rfl) rfl rfl (drvValid_n k x ty st orr oa oS cr ca cS b o bf qf bS qS l F S lS (fun hp => crs_ok hin hx.al hp) Y10 (hI.below HB) (hT.belowD HB) (hl.below HB) (hFx.below HB) (hST.below HB)) (by kernel_rfl) ?_ AllReadyH.nil
  rintro e W11 ⟨rfl, hb⟩
  replace HB := over HB hb
  replace M2 := M2.below hb
  replace M4 := M4.below hb
  replace M6 := M6.below hb
  replace hSA := hSA.below hb
  replace hSB := hSB.below hb
  have z8 := hb.size
  clear hb
  refine ⟨_, rfl, ⟨M2, M4, M6, hSA, hSB, trivial⟩, ?_⟩
  refine sd_all [18] (by kernel_rfl) (by decide) ?_
  refine sd_call (i := 18) rfl (by kernel_rfl) rfl rfl (refValid18_n k x (by have := hx.al; omega) ty st orr oa oS cr ca cS b o bf qf bS qS l F S lS (fun hp => crs_ok hin hx.al hp) W11 (hI.below HB) (hl.below HB) (hFx.below HB) (hST.below HB)) (by kernel_rfl) ?_ AllReadyH.nil
  rintro e W12 ⟨rfl, hb⟩
  replace HB := over HB hb
  replace M2 := M2.below hb
  replace M4 := M4.below hb
  replace M6 := M6.below hb
  replace hSA := hSA.below hb
  replace hSB := hSB.below hb
  have z9 := hb.size
  clear hb
  refine ⟨_, rfl, ⟨M2, M4, M6, hSA, hSB, trivial⟩, ?_⟩
  refine Zt 19 rfl rfl (.bool false) (fun w9 _ => ex_bool (((chkE x ty st l F S) : Int) != ((chkE x ty st l F S) : Int)) false (by kernel_rfl) (by simp)) ⟨M2, M4, M6, hSA, hSB, trivial⟩ ?_
  refine Zu 20 rfl rfl (.bool false) ⟨M2, M4, M6, hSA, hSB, trivial⟩ ?_
  refine sd_done (by kernel_rfl) ?_
  refine sx_norm ?_
  refine sx_false (by kernel_rfl) ?_
  refine wp_skip ?_
  refine sx_norm ?_
  refine wp_seq ?_
  refine wp_seq ?_
  refine wp_region_lit ?_
  refine Zv rfl (.slice oA (sinS x ty st l F S).length cA) ?_
  refine Zv rfl (.int .i64 (((sinS x ty st l F S).length : Nat) : Int)) ?_
  refine Zv rfl (.int .i64 0) ?_
  refine wpList_nil ?_
  refine sx_norm ?_
  refine wp_block ?_
  refine sx_loop (fun i : Nat => [(0, .agg (iK k x)), (1, .agg (rK ty st orr F.length cr oa l.length ca)), (2, .agg #[.bool S.r, .int .i64 S.d, .slice oS S.T.length cS, .int .i64 S.e, .int .i64 S.m]), (3, .pointer (some ⟨w.heap.size, 0, none⟩)), (4, .pointer (some ⟨W1.heap.size, 0, none⟩)), (5, .pointer (some ⟨W3.heap.size, 0, none⟩)), (7, .slice oA (sinS x ty st l F S).length cA), (8, .int .i64 (chkE x ty st l F S)), (9, .slice oB (sinS x ty st l F S).length cB), (10, .int .i64 (chkE x ty st l F S)), (12, .agg (iK k x)), (13, .bool true), (14, .bool false), (16, .tuple #[.slice oA (sinS x ty st l F S).length cA, .int .i64 (chkE x ty st l F S)]), (17, .agg (iK k x)), (18, .agg (rK ty st orr F.length cr oa l.length ca)), (19, .agg #[.bool S.r, .int .i64 S.d, .slice oS S.T.length cS, .int .i64 S.e, .int .i64 S.m]), (20, .tuple #[.slice oA (sinS x ty st l F S).length cA, .int .i64 (chkE x ty st l F S)]), (21, .slice oA (sinS x ty st l F S).length cA), (22, .int .i64 (chkE x ty st l F S)), (23, .tuple #[.slice oB (sinS x ty st l F S).length cB, .int .i64 (chkE x ty st l F S)]), (24, .agg (iK k x)), (25, .agg (rK ty st orr F.length cr oa l.length ca)), (26, .agg #[.bool S.r, .int .i64 S.d, .slice oS S.T.length cS, .int .i64 S.e, .int .i64 S.m]), (27, .tuple #[.slice oB (sinS x ty st l F S).length cB, .int .i64 (chkE x ty st l F S)]), (28, .slice oB (sinS x ty st l F S).length cB), (29, .int .i64 (chkE x ty st l F S)), (30, .int .i64 (chkE x ty st l F S)), (31, .int .i64 (chkE x ty st l F S)), (32, .bool false), (33, .bool false), (34, .slice oA (sinS x ty st l F S).length cA), (35, .int .i64 (((sinS x ty st l F S).length : Nat) : Int)), (36, .slice oB (sinS x ty st l F S).length cB), (37, .int .i64 (((sinS x ty st l F S).length : Nat) : Int)), (38, .bool false), (39, .bool false), (40, .bool false), (41, .agg (iK k x)), (42, .agg (rK ty st orr F.length cr oa l.length ca)), (43, .agg #[.bool S.r, .int .i64 S.d, .slice oS S.T.length cS, .int .i64 S.e, .int .i64 S.m]), (44, .int .i64 (chkE x ty st l F S)), (45, .agg (iK k x)), (46, .agg (rK ty st orr F.length cr oa l.length ca)), (47, .agg #[.bool S.r, .int .i64 S.d, .slice oS S.T.length cS, .int .i64 S.e, .int .i64 S.m]), (48, .int .i64 (chkE x ty st l F S)), (49, .bool false), (50, .bool false), (51, .slice oA (sinS x ty st l F S).length cA), (52, .int .i64 (((sinS x ty st l F S).length : Nat) : Int)), (53, .int .i64 ((i : Nat) : Int))]) (fun gg i wr => i ≤ (sinS x ty st l F S).length ∧ (sinS x ty st l F S).length - i ≤ gg ∧ Below W12.heap.size W12 wr) ((sinS x ty st l F S).length) (0) (by kernel_rfl) ⟨Nat.zero_le _, Nat.le_refl _, Below.refl _ _⟩ ?_
  rintro gg i g' wr13 ⟨hi, hg, hbl⟩
  replace HB := over HB hbl
  replace M2 := M2.below hbl
  replace M4 := M4.below hbl
  replace M6 := M6.below hbl
  replace hSA := hSA.below hbl
  replace hSB := hSB.below hbl
  have z10 := hbl.size
  have HL := hbl
  clear hbl
  refine wp_seq ?_
  refine wp_region_lit ?_
  by_cases C2 : i < (sinS x ty st l F S).length
  ·refine Zb rfl (decide (((i : Nat) : Int) < (((sinS x ty st l F S).length : Nat) : Int))) true (decide_eq_true (by omega)) ?_
   refine wpList_nil ?_
   refine sx_norm ?_
   refine wp_seq ?_
   refine sx_true (by kernel_rfl) ?_
   refine wp_skip ?_
   refine sx_norm ?_
   refine wp_seq ?_
   refine wp_block ?_
   refine wp_seq ?_
   refine wp_region_lit ?_
   refine Zv rfl (.int .i64 ((i : Nat) : Int)) ?_
   refine Zv rfl (.int .i64 ((i : Nat) : Int)) ?_
   refine wpList_nil ?_
   refine sx_norm ?_
   refine wp_seq ?_
   obtain ⟨Y14, hW⟩ : ∃ W, wr13.drew = W := ⟨_, rfl⟩
   have hb : Below wr13.heap.size wr13 Y14 := hW ▸ below_drew (Below.refl _ _)
   replace HB := over HB hb
   replace M2 := M2.below hb
   replace M4 := M4.below hb
   replace M6 := M6.below hb
   replace hSA := hSA.below hb
   replace hSB := hSB.below hb
   replace HL := over HL hb
   have z11 := hb.size
   clear hb
   refine sd_begin (fun W => Cb W (w.heap.size) (iK k x) 30 ∧ Cb W (W1.heap.size) (rK ty st orr F.length cr oa l.length ca) 34 ∧ Cb W (W3.heap.size) #[.bool S.r, .int .i64 S.d, .slice oS S.T.length cS, .int .i64 S.e, .int .i64 S.m] 39 ∧ Rw W bA qA 1 (fun k => inE ((sinS x ty st l F S).getD k 0)) ((sinS x ty st l F S).length) oA ∧ Rw W bB qB 1 (fun k => inE ((sinS x ty st l F S).getD k 0)) ((sinS x ty st l F S).length) oB ∧ True) (by kernel_rfl) (by rw [hW]; exact ⟨M2, M4, M6, hSA, hSB, trivial⟩) ?_
   rw [hW]
   clear hW
   refine Zu 0 rfl rfl (.slice oA (sinS x ty st l F S).length cA) ⟨M2, M4, M6, hSA, hSB, trivial⟩ ?_
   refine Zu 1 rfl rfl (.int .i64 ((i : Nat) : Int)) ⟨M2, M4, M6, hSA, hSB, trivial⟩ ?_
   refine Zt 2 rfl rfl (.pointer (some ⟨bA, qA + i * 1, none⟩)) (fun w9 h9 => ex_indexO (q := qA) (m := (sinS x ty st l F S).length) (c := cA) (k := i) (s := 1) rfl (by kernel_rfl) (h9.2.2.2.1.oa (k := i) (by omega)) (by kernel_rfl) Tryd.underlying47 (by kernel_rfl) (by omega) (by omega)) ⟨M2, M4, M6, hSA, hSB, trivial⟩ ?_
   refine Zt 3 rfl rfl (.int .i64 ((sinS x ty st l F S).getD i 0)) (fun w9 h9 => el (h9.2.2.2.1.cell (k := i) (by omega) 0 rfl) Tryd.underlying3) ⟨M2, M4, M6, hSA, hSB, trivial⟩ ?_
   refine Zu 4 rfl rfl (.slice oB (sinS x ty st l F S).length cB) ⟨M2, M4, M6, hSA, hSB, trivial⟩ ?_
   refine Zu 5 rfl rfl (.int .i64 ((i : Nat) : Int)) ⟨M2, M4, M6, hSA, hSB, trivial⟩ ?_
   refine Zt 6 rfl rfl (.pointer (some ⟨bB, qB + i * 1, none⟩)) (fun w9 h9 => ex_indexO (q := qB) (m := (sinS x ty st l F S).length) (c := cB) (k := i) (s := 1) rfl (by kernel_rfl) (h9.2.2.2.2.1.oa (k := i) (by omega)) (by kernel_rfl) Tryd.underlying47 (by kernel_rfl) (by omega) (by omega)) ⟨M2, M4, M6, hSA, hSB, trivial⟩ ?_
   refine Zt 7 rfl rfl (.int .i64 ((sinS x ty st l F S).getD i 0)) (fun w9 h9 => el (h9.2.2.2.2.1.cell (k := i) (by omega) 0 rfl) Tryd.underlying3) ⟨M2, M4, M6, hSA, hSB, trivial⟩ ?_
   refine Zt 8 rfl rfl (.bool false) (fun w9 _ => ex_bool ((((sinS x ty st l F S).getD i 0) : Int) != (((sinS x ty st l F S).getD i 0) : Int)) false (by kernel_rfl) (by simp)) ⟨M2, M4, M6, hSA, hSB, trivial⟩ ?_
   refine sd_done (by kernel_rfl) ?_
   refine sx_norm ?_
   refine sx_false (by kernel_rfl) ?_
   refine wp_skip ?_
   refine sx_in ?_
   refine sx_norm ?_
   refine wp_region_lit ?_
   refine sx_int (by kernel_rfl) rfl rfl .i64 (IntKind.i64.wrap (((i : Nat) : Int) + 1)) (((i + 1 : Nat) : Int)) (by kernel_rfl) (by rw [IntKind.wrap_i64]; omega) ?_
   refine Zv rfl (.int .i64 ((i + 1 : Nat) : Int)) ?_
   refine wpList_nil ?_
   refine sx_norm ?_
   exact sx_again ((sinS x ty st l F S).length - (i + 1)) (i + 1) (by omega) (by kernel_rfl) ⟨by omega, Nat.le_refl _, HL⟩
  refine Zb rfl (decide (((i : Nat) : Int) < (((sinS x ty st l F S).length : Nat) : Int))) false (decide_eq_false (by omega)) ?_
  refine wpList_nil ?_
  refine sx_norm ?_
  refine wp_seq ?_
  refine sx_false (by kernel_rfl) ?_
  refine wp_exit ?_
  refine sx_es ?_
  refine sx_es ?_
  refine sx_out ?_
  refine sx_norm ?_
  refine wp_seq ?_
  refine wp_region_lit ?_
  refine sx_call (by kernel_rfl) rfl rfl (examples_n wr13 (hT.belowD HB)) (by kernel_rfl) ?_
  rintro e W15 ⟨rfl, hb⟩
  replace HB := over HB hb
  replace M2 := M2.below hb
  replace M4 := M4.below hb
  replace M6 := M6.below hb
  replace hSA := hSA.below hb
  replace hSB := hSB.below hb
  replace HL := over HL hb
  have z11 := hb.size
  clear hb
  refine ⟨_, rfl, ?_⟩
  refine Zv rfl (.bool true) ?_
  refine wpList_nil ?_
  refine sx_norm ?_
  refine wp_ret ?_
  exact sx_ret1 (.bool true) rfl rfl (by kernel_rfl) ⟨rfl, HB⟩
 refine sx_call (by kernel_rfl) rfl rfl ((by have h8 := right_n k x hx W5 (hI.below HB); rw [show rightB x = false by simpa using C1] at h8; exact h8)) (by kernel_rfl) ?_
 rintro e W16 ⟨rfl, hb⟩
 replace HB := over HB hb
 replace M2 := M2.below hb
 replace M4 := M4.below hb
 replace M6 := M6.below hb
 have z4 := hb.size
 clear hb
 refine ⟨_, rfl, ?_⟩
 refine Zv rfl (.bool true) ?_
 refine wpList_nil ?_
 refine sx_norm ?_
 refine sx_true (by kernel_rfl) ?_
 refine wp_seq ?_
 refine wp_region_lit ?_
 refine sx_call (by kernel_rfl) rfl rfl (examples_n W16 (hT.belowD HB)) (by kernel_rfl) ?_
 rintro e W17 ⟨rfl, hb⟩
 replace HB := over HB hb
 replace M2 := M2.below hb
 replace M4 := M4.below hb
 replace M6 := M6.below hb
 have z5 := hb.size
 clear hb
 refine ⟨_, rfl, ?_⟩
 refine Zv rfl (.bool true) ?_
 refine wpList_nil ?_
 refine sx_norm ?_
 refine wp_ret ?_
 refine sx_rs ?_
 exact sx_ret1 (.bool true) rfl rfl (by kernel_rfl) ⟨rfl, HB⟩

end Go.Proofs.YtnapmildbodigaaDoor.T


