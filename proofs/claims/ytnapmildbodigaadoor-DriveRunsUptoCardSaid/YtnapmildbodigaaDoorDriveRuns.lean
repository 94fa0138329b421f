/-
  DERIVED. DriveRuns: a part of the base of layer 13 (made by pack.py).
-/
import Derived.Test.YtnapmildbodigaaDoorGA
import Derived.Test.YtnapmildbodigaaDoorGM
import Derived.Test.YtnapmildbodigaaDoorFe
/-! DriveRuns: its walk (by gen_lc.py). -/
namespace Go.Proofs.YtnapmildbodigaaDoor.T
open Go.RowKit
set_option maxRecDepth 8000
attribute [local irreducible] wpList Code.wp wpAnyH

theorem runS_short (x : InT) (ty st : Int) (l : List (Int × Bool)) (R : List Bool) : (runS x ty st l R).T.length ≤ 20 := by
 by_cases h : runE x ty st l R = 0
 ·rw [runS_len h]; exact posD_len (runS_is h).2.1
 ·rw [runS_no h]; show (0 : Nat) ≤ 20; omega
theorem driveRuns_walk (k : Iv) (x : InT) (hx : InU x) (ty st : Int) (orr oa : Option Addr) (cr ca b o bf qf : Nat) (l : List (Int × Bool)) (F : List Bool) (R : List Bool) (oR : Option Addr) (cR bR qR : Nat) (w : World) (hT : Tab w) (hI : Ins w k x) (hl : Rw w b o 2 (vF l) l.length oa) (_ : Rw w bf qf 1 (bF F) F.length orr) (hR : Rw w bR qR 1 (bF R) R.length oR) : Calls Tryd.prog 3 #[.agg (iK k x), .agg (rK ty st orr F.length cr oa l.length ca), .slice oR R.length cR] w fun e w' => e = .returned (.bool true) ∧ Below w.heap.size w w' := by
 have HB : Below w.heap.size w w := Below.refl _ _
 refine sx_enter Tryd.func3 rfl [(0, .agg (iK k x)), (1, .agg (rK ty st orr F.length cr oa l.length ca)), (2, .slice oR R.length cR)] (by kernel_rfl) ?_
 refine wp_seq ?_
 refine wp_region_lit ?_
 obtain ⟨W1, hW, hb, hq⟩ := laidA w (iK k x) 30
 refine sx_mem (by kernel_rfl) rfl rfl (.pointer (some ⟨w.heap.size, 0, none⟩)) W1 (by rw [← hW]; kernel_rfl) ?_
 replace HB := over HB hb
 have z1 := hb.size
 have M2 := hq
 have yM2 := hq.lt
 clear hq hb hW
 obtain ⟨W3, hW, hb, hq⟩ := laidA W1 (rK ty st orr F.length cr oa l.length ca) 34
 refine sx_mem (by kernel_rfl) rfl rfl (.pointer (some ⟨W1.heap.size, 0, none⟩)) W3 (by rw [← hW]; kernel_rfl) ?_
 replace HB := over HB hb
 replace M2 := M2.below hb
 have z2 := hb.size
 have M4 := hq
 have yM4 := hq.lt
 clear hq hb hW
 refine Zv rfl (.bool false) ?_
 refine wpList_nil ?_
 refine sx_norm ?_
 refine wp_seq ?_
 refine wp_seq ?_
 refine wp_region_lit ?_
 refine Zw rfl (.agg (iK k x)) (ex_load rfl M2 (by kernel_rfl) Tryd.underlying30 rfl (by kernel_rfl)) ?_
 by_cases C1 : rightB x = true
 ·refine sx_call (by kernel_rfl) rfl rfl ((by have h8 := right_n k x hx W3 (hI.below HB); rw [C1] at h8; exact h8)) (by kernel_rfl) ?_
  rintro e W5 ⟨rfl, hb⟩
  replace HB := over HB hb
  replace M2 := M2.below hb
  replace M4 := M4.below hb
  have z3 := hb.size
  clear hb
  refine ⟨_, rfl, ?_⟩
  have hin : inF x = [] := List.length_eq_zero_iff.1 (of_decide_eq_true C1)
  refine Zv rfl (.bool false) ?_
  refine wpList_nil ?_
  refine sx_norm ?_
  refine sx_false (by kernel_rfl) ?_
  refine wp_skip ?_
  refine sx_norm ?_
  refine wp_seq ?_
  refine wp_region_lit ?_
  refine Zw rfl (.agg (iK k x)) (ex_load rfl M2 (by kernel_rfl) Tryd.underlying30 rfl (by kernel_rfl)) ?_
  refine Zw rfl (.agg (rK ty st orr F.length cr oa l.length ca)) (ex_load rfl M4 (by kernel_rfl) Tryd.underlying34 rfl (by kernel_rfl)) ?_
  refine Zv rfl (.slice oR R.length cR) ?_
  refine sx_call (by kernel_rfl) rfl rfl (drvRun_n k x ty st orr oa F.length cr ca b o l (fun hp => crs_ok hin hx.al hp) R oR cR bR qR W5 (hI.below HB) (hT.belowD HB) (hl.below HB) (hR.below HB)) (by kernel_rfl) ?_
  rintro e W6 ⟨oA, cA, bA, qA, rfl, hSA, -, hb⟩
  have hlthSA : ∀ i, i < (runS x ty st l R).T.length → bA < W6.heap.size := fun i hi => hSA.lt hi
  replace HB := over HB hb
  replace M2 := M2.below hb
  replace M4 := M4.below hb
  have z4 := hb.size
  clear hb
  refine ⟨_, rfl, ?_⟩
  refine Zv rfl (.tuple #[.agg #[.bool (runS x ty st l R).r, .int .i64 ((runS x ty st l R).d), .slice oA (runS x ty st l R).T.length cA, .int .i64 ((runS x ty st l R).e), .int .i64 ((runS x ty st l R).m)], .int .i64 (runE x ty st l R)]) ?_
  refine Zv rfl (.agg #[.bool (runS x ty st l R).r, .int .i64 ((runS x ty st l R).d), .slice oA (runS x ty st l R).T.length cA, .int .i64 ((runS x ty st l R).e), .int .i64 ((runS x ty st l R).m)]) ?_
  refine Zv rfl (.int .i64 (runE x ty st l R)) ?_
  obtain ⟨W8, hW, hb, hq⟩ := laidV W6 #[.bool false, .int .i64 0, .slice none 0 0, .int .i64 0, .int .i64 0] #[.bool (runS x ty st l R).r, .int .i64 ((runS x ty st l R).d), .slice oA (runS x ty st l R).T.length cA, .int .i64 ((runS x ty st l R).e), .int .i64 ((runS x ty st l R).m)] 39
  refine sx_mem (by kernel_rfl) rfl rfl (.pointer (some ⟨W6.heap.size, 0, none⟩)) (W6.alloc (.cells #[.bool false, .int .i64 0, .slice none 0 0, .int .i64 0, .int .i64 0] 39)) (by kernel_rfl) ?_
  refine sx_store (cells := #[.bool (runS x ty st l R).r, .int .i64 ((runS x ty st l R).d), .slice oA (runS x ty st l R).T.length cA, .int .i64 ((runS x ty st l R).e), .int .i64 ((runS x ty st l R).m)]) (by kernel_rfl) rfl rfl (Cb.made W6 #[.bool false, .int .i64 0, .slice none 0 0, .int .i64 0, .int .i64 0] 39) (by kernel_rfl) (by kernel_rfl) (by kernel_rfl) (by kernel_rfl) (by kernel_rfl) ?_
  rw [hW]
  replace HB := over HB hb
  replace M2 := M2.below hb
  replace M4 := M4.below hb
  replace hSA := hSA.below hb
  have z5 := hb.size
  have M7 := hq
  have yM7 := hq.lt
  clear hq hb hW
  refine Zv rfl (.int .i64 (runE x ty st l R)) ?_
  refine wpList_nil ?_
  refine sx_norm ?_
  refine wp_seq ?_
  refine wp_region_lit ?_
  refine Zw rfl (.agg (iK k x)) (ex_load rfl M2 (by kernel_rfl) Tryd.underlying30 rfl (by kernel_rfl)) ?_
  refine Zw rfl (.agg (rK ty st orr F.length cr oa l.length ca)) (ex_load rfl M4 (by kernel_rfl) Tryd.underlying34 rfl (by kernel_rfl)) ?_
  refine Zv rfl (.slice oR R.length cR) ?_
  refine sx_call (by kernel_rfl) rfl rfl (refRunR_n k x (by have := hx.al; omega) ty st orr oa cr ca b o l F (fun hp => crs_ok hin hx.al hp) R oR cR bR qR W8 (hI.below HB) (hl.below HB) (hR.below HB)) (by kernel_rfl) ?_
  rintro e W9 ⟨oB, cB, bB, qB, rfl, hSB, hb⟩
  have hlthSB : ∀ i, i < (runS x ty st l R).T.length → bB < W9.heap.size := fun i hi => hSB.lt hi
  replace HB := over HB hb
  replace M2 := M2.below hb
  replace M4 := M4.below hb
  replace hSA := hSA.below hb
  replace M7 := M7.below hb
  have z6 := hb.size
  clear hb
  refine ⟨_, rfl, ?_⟩
  refine Zv rfl (.tuple #[.agg #[.bool (runS x ty st l R).r, .int .i64 ((runS x ty st l R).d), .slice oB (runS x ty st l R).T.length cB, .int .i64 ((runS x ty st l R).e), .int .i64 ((runS x ty st l R).m)], .int .i64 (runE x ty st l R)]) ?_
  refine Zv rfl (.agg #[.bool (runS x ty st l R).r, .int .i64 ((runS x ty st l R).d), .slice oB (runS x ty st l R).T.length cB, .int .i64 ((runS x ty st l R).e), .int .i64 ((runS x ty st l R).m)]) ?_
  refine Zv rfl (.int .i64 (runE x ty st l R)) ?_
  obtain ⟨W11, hW, hb, hq⟩ := laidV W9 #[.bool false, .int .i64 0, .slice none 0 0, .int .i64 0, .int .i64 0] #[.bool (runS x ty st l R).r, .int .i64 ((runS x ty st l R).d), .slice oB (runS x ty st l R).T.length cB, .int .i64 ((runS x ty st l R).e), .int .i64 ((runS x ty st l R).m)] 39
  refine sx_mem (by kernel_rfl) rfl rfl (.pointer (some ⟨W9.heap.size, 0, none⟩)) (W9.alloc (.cells #[.bool false, .int .i64 0, .slice none 0 0, .int .i64 0, .int .i64 0] 39)) (by kernel_rfl) ?_
  refine sx_store (cells := #[.bool (runS x ty st l R).r, .int .i64 ((runS x ty st l R).d), .slice oB (runS x ty st l R).T.length cB, .int .i64 ((runS x ty st l R).e), .int .i64 ((runS x ty st l R).m)]) (by kernel_rfl) rfl rfl (Cb.made W9 #[.bool false, .int .i64 0, .slice none 0 0, .int .i64 0, .int .i64 0] 39) (by kernel_rfl) (by kernel_rfl) (by kernel_rfl) (by kernel_rfl) (by kernel_rfl) ?_
  rw [hW]
  replace HB := over HB hb
  replace M2 := M2.below hb
  replace M4 := M4.below hb
  replace hSA := hSA.below hb
  replace M7 := M7.below hb
  replace hSB := hSB.below hb
  have z7 := hb.size
  have M10 := hq
  have yM10 := hq.lt
  clear hq hb hW
  refine Zv rfl (.int .i64 (runE x ty st l R)) ?_
  refine wpList_nil ?_
  refine sx_norm ?_
  refine wp_seq ?_
  refine wp_region_lit ?_
  refine Zv rfl (.int .i64 (runE x ty st l R)) ?_
  refine Zv rfl (.int .i64 (runE x ty st l R)) ?_
  refine sx_bool (by kernel_rfl) rfl rfl (((runE x ty st l R) : Int) == ((runE x ty st l R) : Int)) true (by kernel_rfl) (by simp) ?_
  refine Zv rfl (.bool true) ?_
  refine Zw rfl (.agg #[.bool (runS x ty st l R).r, .int .i64 ((runS x ty st l R).d), .slice oA (runS x ty st l R).T.length cA, .int .i64 ((runS x ty st l R).e), .int .i64 ((runS x ty st l R).m)]) (ex_load rfl M7 (by kernel_rfl) Tryd.underlying39 rfl (by kernel_rfl)) ?_
  refine Zw rfl (.agg #[.bool (runS x ty st l R).r, .int .i64 ((runS x ty st l R).d), .slice oB (runS x ty st l R).T.length cB, .int .i64 ((runS x ty st l R).e), .int .i64 ((runS x ty st l R).m)]) (ex_load rfl M10 (by kernel_rfl) Tryd.underlying39 rfl (by kernel_rfl)) ?_
  refine sx_call (by kernel_rfl) rfl rfl ((by have h8 := refSame_n18 (runS x ty st l R) (runS x ty st l R) oA oB cA cB bA qA bB qB (by have := runS_short x ty st l R; omega) W11 hSA hSB; rw [decide_eq_true (rfl : (runS x ty st l R) = (runS x ty st l R))] at h8; exact h8)) (by kernel_rfl) ?_
  rintro e W12 ⟨rfl, hb⟩
  replace HB := over HB hb
  replace M2 := M2.below hb
  replace M4 := M4.below hb
  replace hSA := hSA.below hb
  replace M7 := M7.below hb
  replace hSB := hSB.below hb
  replace M10 := M10.below hb
  have z8 := hb.size
  clear hb
  refine ⟨_, rfl, ?_⟩
  refine Zv rfl (.bool true) ?_
  refine Zv rfl (.bool true) ?_
  refine sx_call (by kernel_rfl) rfl rfl (examples_n W12 (hT.belowD HB)) (by kernel_rfl) ?_
  rintro e W13 ⟨rfl, hb⟩
  replace HB := over HB hb
  replace M2 := M2.below hb
  replace M4 := M4.below hb
  replace hSA := hSA.below hb
  replace M7 := M7.below hb
  replace hSB := hSB.below hb
  replace M10 := M10.below hb
  have z9 := hb.size
  clear hb
  refine ⟨_, rfl, ?_⟩
  refine Zv rfl (.bool true) ?_
  refine Zv rfl (.bool true) ?_
  refine wpList_nil ?_
  refine sx_norm ?_
  refine wp_ret ?_
  exact sx_ret1 (.bool true) rfl rfl (by kernel_rfl) ⟨rfl, HB⟩
 refine sx_call (by kernel_rfl) rfl rfl ((by have h8 := right_n k x hx W3 (hI.below HB); rw [show rightB x = false by simpa using C1] at h8; exact h8)) (by kernel_rfl) ?_
 rintro e W14 ⟨rfl, hb⟩
 replace HB := over HB hb
 replace M2 := M2.below hb
 replace M4 := M4.below hb
 have z3 := hb.size
 clear hb
 refine ⟨_, rfl, ?_⟩
 refine Zv rfl (.bool true) ?_
 refine wpList_nil ?_
 refine sx_norm ?_
 refine sx_true (by kernel_rfl) ?_
 refine wp_seq ?_
 refine wp_region_lit ?_
 refine sx_call (by kernel_rfl) rfl rfl (examples_n W14 (hT.belowD HB)) (by kernel_rfl) ?_
 rintro e W15 ⟨rfl, hb⟩
 replace HB := over HB hb
 replace M2 := M2.below hb
 replace M4 := M4.below hb
 have z4 := hb.size
 clear hb
 refine ⟨_, rfl, ?_⟩
 refine Zv rfl (.bool true) ?_
 refine wpList_nil ?_
 refine sx_norm ?_
 refine wp_ret ?_
 refine sx_rs ?_
 exact sx_ret1 (.bool true) rfl rfl (by kernel_rfl) ⟨rfl, HB⟩

end Go.Proofs.YtnapmildbodigaaDoor.T


