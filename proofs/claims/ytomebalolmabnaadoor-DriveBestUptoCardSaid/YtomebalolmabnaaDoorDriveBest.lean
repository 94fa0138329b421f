/-
  DERIVED. DriveBest: a part of the base of layer 13 (made by pack.py).
-/
import Derived.Test.YtomebalolmabnaaDoorGA
import Derived.Test.YtomebalolmabnaaDoorGL
import Derived.Test.YtomebalolmabnaaDoorGf
/-! DriveBest: its walk (by gen_lf.py). -/
namespace Go.Proofs.YtomebalolmabnaaDoor.T
open Go.RowKit
set_option maxRecDepth 8000
attribute [local irreducible] wpList Code.wp wpAnyH

theorem bestS_short (x : InT) (ty st : Int) (l : List (Int × Bool)) (F : List Bool) : (bestS x ty st l F).T.length ≤ 20 := by
 by_cases h : bestE x ty st l F = 0
 ·have hS : bestS x ty st l F = (crs x ty st l).sheet ((crs x ty st l).bsR F) := if_pos h
  unfold bestE at h
  split at h
  ·rename_i h1
   rw [hS, tms_len, crs_n]
   have := posD_len h1.1
   omega
  ·cases h
 ·have hS : bestS x ty st l F = sh0 := if_neg h
  rw [hS]; show (0 : Nat) ≤ 20; omega
theorem driveBest_walk (k : Iv) (x : InT) (hx : InU x) (ty st : Int) (orr oa : Option Addr) (cr ca b o bf qf : Nat) (l : List (Int × Bool)) (F : List Bool) (hln : l.length ≤ 1048576) (w : World) (hT : Tab w) (hI : Ins w k x) (hl : Rw w b o 2 (vF l) l.length oa) (hFx : Rw w bf qf 1 (bF F) F.length orr) : Calls Tryd.prog 5 #[.agg (iK k x), .agg (rK ty st orr F.length cr oa l.length ca)] w fun e w' => e = .returned (.bool true) ∧ Below w.heap.size w w' := by
 have HB : Below w.heap.size w w := Below.refl _ _
 refine sx_enter Tryd.func5 rfl [(0, .agg (iK k x)), (1, .agg (rK ty st orr F.length cr oa l.length ca))] (by kernel_rfl) ?_
 refine wp_seq (wp_region_lit ?_)
 obtain ⟨W1, hW, hb, hq⟩ := laidA w (iK k x) 30
 refine sx_mem (by kernel_rfl) rfl rfl (.pointer (some ⟨w.heap.size, 0, none⟩)) W1 (by rw [← hW]; kernel_rfl) ?_
 replace HB := over HB hb
 have z1 := hb.size
 have M2 := hq
 have yM2 := hq.lt
 clear hq hb hW
 obtain ⟨W3, hW, hb, hq⟩ := laidA W1 (rK ty st orr F.length cr oa l.length ca) 34
 refine sx_mem (by kernel_rfl) rfl rfl (.pointer (some ⟨W1.heap.size, 0, none⟩)) W3 (by rw [← hW]; kernel_rfl) ?_
 replace HB := over HB hb
 replace M2 := M2.below hb
 have z2 := hb.size
 have M4 := hq
 have yM4 := hq.lt
 clear hq hb hW
 refine Zv rfl (.bool false) ?_
 refine wpList_nil (sx_norm (wp_seq (wp_seq (wp_region_lit ?_))))
 refine Zw rfl (.agg (iK k x)) (ex_load rfl M2 (by kernel_rfl) Tryd.underlying30 rfl (by kernel_rfl)) ?_
 by_cases C1 : rightB x = true
 ·refine sx_call (by kernel_rfl) rfl rfl ((by have h8 := right_n k x hx W3 (hI.below HB); rw [C1] at h8; exact h8)) (by kernel_rfl) ?_
  rintro e W5 ⟨rfl, hb⟩
  replace HB := over HB hb
  replace M2 := M2.below hb
  replace M4 := M4.below hb
  have z3 := hb.size
  clear hb
  refine ⟨_, rfl, ?_⟩
  have hin : inF x = [] := List.length_eq_zero_iff.1 (of_decide_eq_true C1)
  refine Zv rfl (.bool false) ?_
  refine Zv rfl (.bool false) ?_
  refine Zv rfl (.pointer (some ⟨W1.heap.size, 3, none⟩)) ?_
  refine Zw rfl (.slice oa l.length ca) (el (M4.cell 3 rfl) Tryd.underlying32) ?_
  refine Zv rfl (.int .i64 ((l.length : Nat) : Int)) ?_
  by_cases C2 : l.length > 9
  ·refine Zb rfl (decide (((l.length : Nat) : Int) > 9)) true (decide_eq_true (by omega)) ?_
   refine Zv rfl (.bool true) ?_
   refine Zv rfl (.pointer (some ⟨W1.heap.size, 3, none⟩)) ?_
   refine Zw rfl (.slice oa l.length ca) (el (M4.cell 3 rfl) Tryd.underlying32) ?_
   refine Zv rfl (.int .i64 ((l.length : Nat) : Int)) ?_
   by_cases C3 : l.length ≤ 20
   ·refine Zb rfl (decide (((l.length : Nat) : Int) ≤ 20)) true (decide_eq_true (by omega)) ?_
    refine Zv rfl (.bool true) ?_
    refine Zv rfl (.bool true) ?_
    refine wpList_nil (sx_norm ?_)
    refine sx_true (by kernel_rfl) ?_
    refine wp_seq (wp_region_lit ?_)
    refine sx_call (by kernel_rfl) rfl rfl (examples_n W5 (hT.belowD HB)) (by kernel_rfl) ?_
    rintro e W6 ⟨rfl, hb⟩
    replace HB := over HB hb
    replace M2 := M2.below hb
    replace M4 := M4.below hb
    have z4 := hb.size
    clear hb
    refine ⟨_, rfl, ?_⟩
    refine Zv rfl (.bool true) ?_
    refine wpList_nil (sx_norm (wp_ret (sx_rs ?_)))
    exact sx_ret1 (.bool true) rfl rfl (by kernel_rfl) ⟨rfl, HB⟩
   refine Zb rfl (decide (((l.length : Nat) : Int) ≤ 20)) false (decide_eq_false (by omega)) ?_
   refine Zv rfl (.bool false) ?_
   refine Zv rfl (.bool false) ?_
   refine wpList_nil (sx_norm ?_)
   refine sx_false (by kernel_rfl) ?_
   refine wp_skip (sx_norm (wp_seq (wp_region_lit ?_)))
   refine Zw rfl (.agg (iK k x)) (ex_load rfl M2 (by kernel_rfl) Tryd.underlying30 rfl (by kernel_rfl)) ?_
   refine Zw rfl (.agg (rK ty st orr F.length cr oa l.length ca)) (ex_load rfl M4 (by kernel_rfl) Tryd.underlying34 rfl (by kernel_rfl)) ?_
   refine sx_call (by kernel_rfl) rfl rfl (drvBest_n k x ty st orr oa cr ca b o bf qf l F (fun hp => crs_ok hin hx.al hp) W5 (hI.below HB) (hT.belowD HB) (hl.below HB) (hFx.below HB)) (by kernel_rfl) ?_
   rintro e W7 ⟨oA, cA, bA, qA, rfl, hSA, -, hb⟩
   have hlthSA : ∀ i, i < (bestS x ty st l F).T.length → bA < W7.heap.size := fun i hi => hSA.lt hi
   replace HB := over HB hb
   replace M2 := M2.below hb
   replace M4 := M4.below hb
   have z4 := hb.size
   clear hb
   refine ⟨_, rfl, ?_⟩
   refine Zv rfl (.tuple #[.agg #[.bool (bestS x ty st l F).r, .int .i64 ((bestS x ty st l F).d), .slice oA (bestS x ty st l F).T.length cA, .int .i64 ((bestS x ty st l F).e), .int .i64 ((bestS x ty st l F).m)], .int .i64 (bestE x ty st l F)]) ?_
   refine Zv rfl (.agg #[.bool (bestS x ty st l F).r, .int .i64 ((bestS x ty st l F).d), .slice oA (bestS x ty st l F).T.length cA, .int .i64 ((bestS x ty st l F).e), .int .i64 ((bestS x ty st l F).m)]) ?_
   refine Zv rfl (.int .i64 (bestE x ty st l F)) ?_
   obtain ⟨W9, hW, hb, hq⟩ := laidV W7 #[.bool false, .int .i64 0, .slice none 0 0, .int .i64 0, .int .i64 0] #[.bool (bestS x ty st l F).r, .int .i64 ((bestS x ty st l F).d), .slice oA (bestS x ty st l F).T.length cA, .int .i64 ((bestS x ty st l F).e), .int .i64 ((bestS x ty st l F).m)] 37
   refine sx_mem (by kernel_rfl) rfl rfl (.pointer (some ⟨W7.heap.size, 0, none⟩)) (W7.alloc (.cells #[.bool false, .int .i64 0, .slice none 0 0, .int .i64 0, .int .i64 0] 37)) (by kernel_rfl) ?_
   refine Zs (cells := #[.bool (bestS x ty st l F).r, .int .i64 ((bestS x ty st l F).d), .slice oA (bestS x ty st l F).T.length cA, .int .i64 ((bestS x ty st l F).e), .int .i64 ((bestS x ty st l F).m)]) rfl rfl (Cb.made W7 #[.bool false, .int .i64 0, .slice none 0 0, .int .i64 0, .int .i64 0] 37) ?_
   rw [hW]
   replace HB := over HB hb
   replace M2 := M2.below hb
   replace M4 := M4.below hb
   replace hSA := hSA.below hb
   have z5 := hb.size
   have M8 := hq
   have yM8 := hq.lt
   clear hq hb hW
   refine Zv rfl (.int .i64 (bestE x ty st l F)) ?_
   refine wpList_nil (sx_norm (wp_seq (wp_region_lit ?_)))
   refine Zw rfl (.agg (iK k x)) (ex_load rfl M2 (by kernel_rfl) Tryd.underlying30 rfl (by kernel_rfl)) ?_
   refine Zw rfl (.agg (rK ty st orr F.length cr oa l.length ca)) (ex_load rfl M4 (by kernel_rfl) Tryd.underlying34 rfl (by kernel_rfl)) ?_
   refine sx_call (by kernel_rfl) rfl rfl (refBest_n k x hin hx.al ty st orr oa cr ca b o bf qf l hln F W9 (hI.below HB) (hl.below HB) (hFx.below HB)) (by kernel_rfl) ?_
   rintro e W10 ⟨oB, cB, bB, qB, rfl, hSB, hb⟩
   have hlthSB : ∀ i, i < (bestS x ty st l F).T.length → bB < W10.heap.size := fun i hi => hSB.lt hi
   replace HB := over HB hb
   replace M2 := M2.below hb
   replace M4 := M4.below hb
   replace hSA := hSA.below hb
   replace M8 := M8.below hb
   have z6 := hb.size
   clear hb
   refine ⟨_, rfl, ?_⟩
   refine Zv rfl (.tuple #[.agg #[.bool (bestS x ty st l F).r, .int .i64 ((bestS x ty st l F).d), .slice oB (bestS x ty st l F).T.length cB, .int .i64 ((bestS x ty st l F).e), .int .i64 ((bestS x ty st l F).m)], .int .i64 (bestE x ty st l F)]) ?_
   refine Zv rfl (.agg #[.bool (bestS x ty st l F).r, .int .i64 ((bestS x ty st l F).d), .slice oB (bestS x ty st l F).T.length cB, .int .i64 ((bestS x ty st l F).e), .int .i64 ((bestS x ty st l F).m)]) ?_
   refine Zv rfl (.int .i64 (bestE x ty st l F)) ?_
   obtain ⟨W12, hW, hb, hq⟩ := laidV W10 #[.bool false, .int .i64 0, .slice none 0 0, .int .i64 0, .int .i64 0] #[.bool (bestS x ty st l F).r, .int .i64 ((bestS x ty st l F).d), .slice oB (bestS x ty st l F).T.length cB, .int .i64 ((bestS x ty st l F).e), .int .i64 ((bestS x ty st l F).m)] 37
   refine sx_mem (by kernel_rfl) rfl rfl (.pointer (some ⟨W10.heap.size, 0, none⟩)) (W10.alloc (.cells #[.bool false, .int .i64 0, .slice none 0 0, .int .i64 0, .int .i64 0] 37)) (by kernel_rfl) ?_
   refine Zs (cells := #[.bool (bestS x ty st l F).r, .int .i64 ((bestS x ty st l F).d), .slice oB (bestS x ty st l F).T.length cB, .int .i64 ((bestS x ty st l F).e), .int .i64 ((bestS x ty st l F).m)]) rfl rfl (Cb.made W10 #[.bool false, .int .i64 0, .slice none 0 0, .int .i64 0, .int .i64 0] 37) ?_
   rw [hW]
   replace HB := over HB hb
   replace M2 := M2.below hb
   replace M4 := M4.below hb
   replace hSA := hSA.below hb
   replace M8 := M8.below hb
   replace hSB := hSB.below hb
   have z7 := hb.size
   have M11 := hq
   have yM11 := hq.lt
   clear hq hb hW
   refine Zv rfl (.int .i64 (bestE x ty st l F)) ?_
   refine wpList_nil (sx_norm (wp_seq (wp_region_lit ?_)))
   refine Zv rfl (.int .i64 (bestE x ty st l F)) ?_
   refine Zv rfl (.int .i64 (bestE x ty st l F)) ?_
   refine Zb rfl (((bestE x ty st l F) : Int) == ((bestE x ty st l F) : Int)) true (by simp) ?_
   refine Zv rfl (.bool true) ?_
   refine Zw rfl (.agg #[.bool (bestS x ty st l F).r, .int .i64 ((bestS x ty st l F).d), .slice oA (bestS x ty st l F).T.length cA, .int .i64 ((bestS x ty st l F).e), .int .i64 ((bestS x ty st l F).m)]) (ex_load rfl M8 (by kernel_rfl) Tryd.underlying37 rfl (by kernel_rfl)) ?_
   refine Zw rfl (.agg #[.bool (bestS x ty st l F).r, .int .i64 ((bestS x ty st l F).d), .slice oB (bestS x ty st l F).T.length cB, .int .i64 ((bestS x ty st l F).e), .int .i64 ((bestS x ty st l F).m)]) (ex_load rfl M11 (by kernel_rfl) Tryd.underlying37 rfl (by kernel_rfl)) ?_
   refine sx_call (by kernel_rfl) rfl rfl ((by have h8 := refSame_n18 (bestS x ty st l F) (bestS x ty st l F) oA oB cA cB bA qA bB qB (by have := bestS_short x ty st l F; omega) W12 hSA hSB; rw [decide_eq_true (rfl : (bestS x ty st l F) = (bestS x ty st l F))] at h8; exact h8)) (by kernel_rfl) ?_
   rintro e W13 ⟨rfl, hb⟩
   replace HB := over HB hb
   replace M2 := M2.below hb
   replace M4 := M4.below hb
   replace hSA := hSA.below hb
   replace M8 := M8.below hb
   replace hSB := hSB.below hb
   replace M11 := M11.below hb
   have z8 := hb.size
   clear hb
   refine ⟨_, rfl, ?_⟩
   refine Zv rfl (.bool true) ?_
   refine Zv rfl (.bool true) ?_
   refine sx_call (by kernel_rfl) rfl rfl (examples_n W13 (hT.belowD HB)) (by kernel_rfl) ?_
   rintro e W14 ⟨rfl, hb⟩
   replace HB := over HB hb
   replace M2 := M2.below hb
   replace M4 := M4.below hb
   replace hSA := hSA.below hb
   replace M8 := M8.below hb
   replace hSB := hSB.below hb
   replace M11 := M11.below hb
   have z9 := hb.size
   clear hb
   refine ⟨_, rfl, ?_⟩
   refine Zv rfl (.bool true) ?_
   refine Zv rfl (.bool true) ?_
   refine wpList_nil (sx_norm (wp_ret ?_))
   exact sx_ret1 (.bool true) rfl rfl (by kernel_rfl) ⟨rfl, HB⟩
  refine Zb rfl (decide (((l.length : Nat) : Int) > 9)) false (decide_eq_false (by omega)) ?_
  refine Zv rfl (.bool false) ?_
  refine Zk rfl ?_
  refine Zk rfl ?_
  refine Zk rfl ?_
  refine Zk rfl ?_
  refine Zv rfl (.bool false) ?_
  refine Zv rfl (.bool false) ?_
  refine wpList_nil (sx_norm ?_)
  refine sx_false (by kernel_rfl) ?_
  refine wp_skip (sx_norm (wp_seq (wp_region_lit ?_)))
  refine Zw rfl (.agg (iK k x)) (ex_load rfl M2 (by kernel_rfl) Tryd.underlying30 rfl (by kernel_rfl)) ?_
  refine Zw rfl (.agg (rK ty st orr F.length cr oa l.length ca)) (ex_load rfl M4 (by kernel_rfl) Tryd.underlying34 rfl (by kernel_rfl)) ?_
  refine sx_call (by kernel_rfl) rfl rfl (drvBest_n k x ty st orr oa cr ca b o bf qf l F (fun hp => crs_ok hin hx.al hp) W5 (hI.below HB) (hT.belowD HB) (hl.below HB) (hFx.below HB)) (by kernel_rfl) ?_
  rintro e W15 ⟨oA, cA, bA, qA, rfl, hSA, -, hb⟩
  have hlthSA : ∀ i, i < (bestS x ty st l F).T.length → bA < W15.heap.size := fun i hi => hSA.lt hi
  replace HB := over HB hb
  replace M2 := M2.below hb
  replace M4 := M4.below hb
  have z4 := hb.size
  clear hb
  refine ⟨_, rfl, ?_⟩
  refine Zv rfl (.tuple #[.agg #[.bool (bestS x ty st l F).r, .int .i64 ((bestS x ty st l F).d), .slice oA (bestS x ty st l F).T.length cA, .int .i64 ((bestS x ty st l F).e), .int .i64 ((bestS x ty st l F).m)], .int .i64 (bestE x ty st l F)]) ?_
  refine Zv rfl (.agg #[.bool (bestS x ty st l F).r, .int .i64 ((bestS x ty st l F).d), .slice oA (bestS x ty st l F).T.length cA, .int .i64 ((bestS x ty st l F).e), .int .i64 ((bestS x ty st l F).m)]) ?_
  refine Zv rfl (.int .i64 (bestE x ty st l F)) ?_
  obtain ⟨W17, hW, hb, hq⟩ := laidV W15 #[.bool false, .int .i64 0, .slice none 0 0, .int .i64 0, .int .i64 0] #[.bool (bestS x ty st l F).r, .int .i64 ((bestS x ty st l F).d), .slice oA (bestS x ty st l F).T.length cA, .int .i64 ((bestS x ty st l F).e), .int .i64 ((bestS x ty st l F).m)] 37
  refine sx_mem (by kernel_rfl) rfl rfl (.pointer (some ⟨W15.heap.size, 0, none⟩)) (W15.alloc (.cells #[.bool false, .int .i64 0, .slice none 0 0, .int .i64 0, .int .i64 0] 37)) (by kernel_rfl) ?_
  refine Zs (cells := #[.bool (bestS x ty st l F).r, .int .i64 ((bestS x ty st l F).d), .slice oA (bestS x ty st l F).T.length cA, .int .i64 ((bestS x ty st l F).e), .int .i64 ((bestS x ty st l F).m)]) rfl rfl (Cb.made W15 #[.bool false, .int .i64 0, .slice none 0 0, .int .i64 0, .int .i64 0] 37) ?_
  rw [hW]
  replace HB := over HB hb
  replace M2 := M2.below hb
  replace M4 := M4.below hb
  replace hSA := hSA.below hb
  have z5 := hb.size
  have M16 := hq
  have yM16 := hq.lt
  clear hq hb hW
  refine Zv rfl (.int .i64 (bestE x ty st l F)) ?_
  refine wpList_nil (sx_norm (wp_seq (wp_region_lit ?_)))
  refine Zw rfl (.agg (iK k x)) (ex_load rfl M2 (by kernel_rfl) Tryd.underlying30 rfl (by kernel_rfl)) ?_
  refine Zw rfl (.agg (rK ty st orr F.length cr oa l.length ca)) (ex_load rfl M4 (by kernel_rfl) Tryd.underlying34 rfl (by kernel_rfl)) ?_
  refine sx_call (by kernel_rfl) rfl rfl (refBest_n k x hin hx.al ty st orr oa cr ca b o bf qf l hln F W17 (hI.below HB) (hl.below HB) (hFx.below HB)) (by kernel_rfl) ?_
  rintro e W18 ⟨oB, cB, bB, qB, rfl, hSB, hb⟩
  have hlthSB : ∀ i, i < (bestS x ty st l F).T.length → bB < W18.heap.size := fun i hi => hSB.lt hi
  replace HB := over HB hb
  replace M2 := M2.below hb
  replace M4 := M4.below hb
  replace hSA := hSA.below hb
  replace M16 := M16.below hb
  have z6 := hb.size
  clear hb
  refine ⟨_, rfl, ?_⟩
  refine Zv rfl (.tuple #[.agg #[.bool (bestS x ty st l F).r, .int .i64 ((bestS x ty st l F).d), .slice oB (bestS x ty st l F).T.length cB, .int .i64 ((bestS x ty st l F).e), .int .i64 ((bestS x ty st l F).m)], .int .i64 (bestE x ty st l F)]) ?_
  refine Zv rfl (.agg #[.bool (bestS x ty st l F).r, .int .i64 ((bestS x ty st l F).d), .slice oB (bestS x ty st l F).T.length cB, .int .i64 ((bestS x ty st l F).e), .int .i64 ((bestS x ty st l F).m)]) ?_
  refine Zv rfl (.int .i64 (bestE x ty st l F)) ?_
  obtain ⟨W20, hW, hb, hq⟩ := laidV W18 #[.bool false, .int .i64 0, .slice none 0 0, .int .i64 0, .int .i64 0] #[.bool (bestS x ty st l F).r, .int .i64 ((bestS x ty st l F).d), .slice oB (bestS x ty st l F).T.length cB, .int .i64 ((bestS x ty st l F).e), .int .i64 ((bestS x ty st l F).m)] 37
  refine sx_mem (by kernel_rfl) rfl rfl (.pointer (some ⟨W18.heap.size, 0, none⟩)) (W18.alloc (.cells #[.bool false, .int .i64 0, .slice none 0 0, .int .i64 0, .int .i64 0] 37)) (by kernel_rfl) ?_
  refine Zs (cells := #[.bool (bestS x ty st l F).r, .int .i64 ((bestS x ty st l F).d), .slice oB (bestS x ty st l F).T.length cB, .int .i64 ((bestS x ty st l F).e), .int .i64 ((bestS x ty st l F).m)]) rfl rfl (Cb.made W18 #[.bool false, .int .i64 0, .slice none 0 0, .int .i64 0, .int .i64 0] 37) ?_
  rw [hW]
  replace HB := over HB hb
  replace M2 := M2.below hb
  replace M4 := M4.below hb
  replace hSA := hSA.below hb
  replace M16 := M16.below hb
  replace hSB := hSB.below hb
  have z7 := hb.size
  have M19 := hq
  have yM19 := hq.lt
  clear hq hb hW
  refine Zv rfl (.int .i64 (bestE x ty st l F)) ?_
  refine wpList_nil (sx_norm (wp_seq (wp_region_lit ?_)))
  refine Zv rfl (.int .i64 (bestE x ty st l F)) ?_
  refine Zv rfl (.int .i64 (bestE x ty st l F)) ?_
  refine Zb rfl (((bestE x ty st l F) : Int) == ((bestE x ty st l F) : Int)) true (by simp) ?_
  refine Zv rfl (.bool true) ?_
  refine Zw rfl (.agg #[.bool (bestS x ty st l F).r, .int .i64 ((bestS x ty st l F).d), .slice oA (bestS x ty st l F).T.length cA, .int .i64 ((bestS x ty st l F).e), .int .i64 ((bestS x ty st l F).m)]) (ex_load rfl M16 (by kernel_rfl) Tryd.underlying37 rfl (by kernel_rfl)) ?_
  refine Zw rfl (.agg #[.bool (bestS x ty st l F).r, .int .i64 ((bestS x ty st l F).d), .slice oB (bestS x ty st l F).T.length cB, .int .i64 ((bestS x ty st l F).e), .int .i64 ((bestS x ty st l F).m)]) (ex_load rfl M19 (by kernel_rfl) Tryd.underlying37 rfl (by kernel_rfl)) ?_
  refine sx_call (by kernel_rfl) rfl rfl ((by have h8 := refSame_n18 (bestS x ty st l F) (bestS x ty st l F) oA oB cA cB bA qA bB qB (by have := bestS_short x ty st l F; omega) W20 hSA hSB; rw [decide_eq_true (rfl : (bestS x ty st l F) = (bestS x ty st l F))] at h8; exact h8)) (by kernel_rfl) ?_
  rintro e W21 ⟨rfl, hb⟩
  replace HB := over HB hb
  replace M2 := M2.below hb
  replace M4 := M4.below hb
  replace hSA := hSA.below hb
  replace M16 := M16.below hb
  replace hSB := hSB.below hb
  replace M19 := M19.below hb
  have z8 := hb.size
  clear hb
  refine ⟨_, rfl, ?_⟩
  refine Zv rfl (.bool true) ?_
  refine Zv rfl (.bool true) ?_
  refine sx_call (by kernel_rfl) rfl rfl (examples_n W21 (hT.belowD HB)) (by kernel_rfl) ?_
  rintro e W22 ⟨rfl, hb⟩
  replace HB := over HB hb
  replace M2 := M2.below hb
  replace M4 := M4.below hb
  replace hSA := hSA.below hb
  replace M16 := M16.below hb
  replace hSB := hSB.below hb
  replace M19 := M19.below hb
  have z9 := hb.size
  clear hb
  refine ⟨_, rfl, ?_⟩
  refine Zv rfl (.bool true) ?_
  refine Zv rfl (.bool true) ?_
  refine wpList_nil (sx_norm (wp_ret ?_))
  exact sx_ret1 (.bool true) rfl rfl (by kernel_rfl) ⟨rfl, HB⟩
 refine sx_call (by kernel_rfl) rfl rfl ((by have h8 := right_n k x hx W3 (hI.below HB); rw [show rightB x = false by simpa using C1] at h8; exact h8)) (by kernel_rfl) ?_
 rintro e W23 ⟨rfl, hb⟩
 replace HB := over HB hb
 replace M2 := M2.below hb
 replace M4 := M4.below hb
 have z3 := hb.size
 clear hb
 refine ⟨_, rfl, ?_⟩
 refine Zv rfl (.bool true) ?_
 refine Zv rfl (.bool true) ?_
 refine Zk rfl ?_
 refine Zk rfl ?_
 refine Zk rfl ?_
 refine Zk rfl ?_
 refine Zk rfl ?_
 refine Zk rfl ?_
 refine Zk rfl ?_
 refine Zk rfl ?_
 refine Zk rfl ?_
 refine Zk rfl ?_
 refine Zv rfl (.bool true) ?_
 refine wpList_nil (sx_norm ?_)
 refine sx_true (by kernel_rfl) ?_
 refine wp_seq (wp_region_lit ?_)
 refine sx_call (by kernel_rfl) rfl rfl (examples_n W23 (hT.belowD HB)) (by kernel_rfl) ?_
 rintro e W24 ⟨rfl, hb⟩
 replace HB := over HB hb
 replace M2 := M2.below hb
 replace M4 := M4.below hb
 have z4 := hb.size
 clear hb
 refine ⟨_, rfl, ?_⟩
 refine Zv rfl (.bool true) ?_
 refine wpList_nil (sx_norm (wp_ret (sx_rs ?_)))
 exact sx_ret1 (.bool true) rfl rfl (by kernel_rfl) ⟨rfl, HB⟩

end Go.Proofs.YtomebalolmabnaaDoor.T



