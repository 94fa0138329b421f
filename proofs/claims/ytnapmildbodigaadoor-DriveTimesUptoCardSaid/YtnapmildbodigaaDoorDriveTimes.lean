/-
  DERIVED. DriveTimes: a part of the base of layer 13 (made by pack.py).
-/
import Derived.Test.YtnapmildbodigaaDoorGA
import Derived.Test.YtnapmildbodigaaDoorGM
import Derived.Test.YtnapmildbodigaaDoorLa
import Derived.Test.YtnapmildbodigaaDoorFb
import Derived.Test.YtnapmildbodigaaDoorLb
/-! DriveTimes: its walk (by gen_lb.py). -/
namespace Go.Proofs.YtnapmildbodigaaDoor.T
open Go.RowKit
set_option maxRecDepth 8000
attribute [local irreducible] wpList Code.wp wpAnyH

set_option maxHeartbeats 8000000 in
theorem driveTimes_walk (k : Iv) (x : InT) (hx : InU x) (ty st : Int) (orr oa : Option Addr) (cr ca b o bf qf : Nat) (l : List (Int × Bool)) (F : List Bool) (R : List Bool) (oR : Option Addr) (cR bR qR : Nat) (w : World) (hT : Tab w) (hI : Ins w k x) (hl : Rw w b o 2 (vF l) l.length oa) (_ : Rw w bf qf 1 (bF F) F.length orr) (hR : Rw w bR qR 1 (bF R) R.length oR) : Calls Tryd.prog 8 #[.agg (iK k x), .agg (rK ty st orr F.length cr oa l.length ca), .slice oR R.length cR] w fun e w' => e = .returned (.bool true) ∧ Below w.heap.size w w' := by
 have HB : Below w.heap.size w w := Below.refl _ _
 obtain ⟨bo, qo, vo, hO⟩ := hI.h3.rw
 obtain ⟨bt, qt, va, vb, hTy⟩ := hI.h2.rw
 refine sx_enter Tryd.func8 rfl [(0, .agg (iK k x)), (1, .agg (rK ty st orr F.length cr oa l.length ca)), (2, .slice oR R.length cR)] (by kernel_rfl) ?_
 refine wp_seq ?_
 refine wp_region_lit ?_
 obtain ⟨W1, hW, hb, hq⟩ := laidA w (iK k x) 30
 refine sx_mem (by kernel_rfl) rfl rfl (.pointer (some ⟨w.heap.size, 0, none⟩)) W1 (by rw [← hW]; kernel_rfl) ?_
 replace HB := over HB hb
 have z1 := hb.size
 have M2 := hq
 have yM2 := hq.lt
 clear hq hb hW
 obtain ⟨W3, hW, hb, hq⟩ := laidA W1 (rK ty st orr F.length cr oa l.length ca) 34
 refine sx_mem (by kernel_rfl) rfl rfl (.pointer (some ⟨W1.heap.size, 0, none⟩)) W3 (by rw [← hW]; kernel_rfl) ?_
 replace HB := over HB hb
 replace M2 := M2.below hb
 have z2 := hb.size
 have M4 := hq
 have yM4 := hq.lt
 clear hq hb hW
 refine Zv rfl (.bool false) ?_
 refine wpList_nil ?_
 refine sx_norm ?_
 refine wp_seq ?_
 refine wp_seq ?_
 refine wp_region_lit ?_
 refine Zw rfl (.agg (iK k x)) (ex_load rfl M2 (by kernel_rfl) Tryd.underlying30 rfl (by kernel_rfl)) ?_
 by_cases C1 : rightB x = true
 ·refine sx_call (by kernel_rfl) rfl rfl ((by have h8 := right_n k x hx W3 (hI.below HB); rw [C1] at h8; exact h8)) (by kernel_rfl) ?_
  rintro e W5 ⟨rfl, hb⟩
  replace HB := over HB hb
  replace M2 := M2.below hb
  replace M4 := M4.below hb
  have z3 := hb.size
  clear hb
  refine ⟨_, rfl, ?_⟩
  have hin : inF x = [] := List.length_eq_zero_iff.1 (of_decide_eq_true C1)
  refine Zv rfl (.bool false) ?_
  refine wpList_nil ?_
  refine sx_norm ?_
  refine sx_false (by kernel_rfl) ?_
  refine wp_skip ?_
  refine sx_norm ?_
  refine wp_seq ?_
  refine wp_region_lit ?_
  refine Zw rfl (.agg (iK k x)) (ex_load rfl M2 (by kernel_rfl) Tryd.underlying30 rfl (by kernel_rfl)) ?_
  refine Zw rfl (.agg (rK ty st orr F.length cr oa l.length ca)) (ex_load rfl M4 (by kernel_rfl) Tryd.underlying34 rfl (by kernel_rfl)) ?_
  refine Zv rfl (.slice oR R.length cR) ?_
  by_cases C2 : (runE x ty st l R) = 0
  ·refine sx_call (by kernel_rfl) rfl rfl ((by have h8 := drvRun_n k x ty st orr oa F.length cr ca b o l (fun hp => crs_ok hin hx.al hp) R oR cR bR qR W5 (hI.below HB) (hT.belowD HB) (hl.below HB) (hR.below HB); rw [C2, (runS_is C2).1] at h8; exact h8)) (by kernel_rfl) ?_
   rintro e W6 ⟨oA, cA, bA, qA, rfl, hSA0, -, hb⟩
   have hSA : Rw W6 bA qA 4 (fun k => [.int .i64 ((crs x ty st l).lg R k).arr, .int .i64 ((crs x ty st l).lg R k).beg, .int .i64 ((crs x ty st l).lg R (k + 1)).dep, .bool (R.getD (k + 1) false)]) ((crs x ty st l).sheet R).T.length oA := hSA0.ext (fun i hi => by rw [tms_at _ _ (by rw [tms_len] at hi; exact hi)]; rfl)
   have hltA : ∀ i, i < ((crs x ty st l).sheet R).T.length → bA < W6.heap.size := fun i hi => hSA.lt hi
   clear hSA0
   replace HB := over HB hb
   replace M2 := M2.below hb
   replace M4 := M4.below hb
   have z4 := hb.size
   clear hb
   refine ⟨_, rfl, ?_⟩
   obtain ⟨-, hp9, hRl, hr0⟩ := runS_is C2
   have hc := crs_ok hin hx.al hp9
   have hl20 := posD_len hp9
   obtain ⟨hy1, hy2, hy3, hy4⟩ := posD_ty hp9
   have hn9 : (crs x ty st l).n = l.length + 1 := crs_n x ty st l
   have hT9 : ((crs x ty st l).sheet R).T.length = l.length := by rw [tms_len, hn9]; omega
   have hrst : 0 ≤ (x.tl.getD ty.toNat ty0).rst ∧ (x.tl.getD ty.toNat ty0).rst ≤ 4096 := hc.rst
   have hrd := hc.rd
   have hyt : ((ty.toNat : Nat) : Int) = ty := Int.toNat_of_nonneg hy1
   have hend := (CrT.lg_ok hc (Nat.le_refl _) hr0 (show l.length < (crs x ty st l).n by omega))
   rw [crs_end] at hend
   have hd0 := dep_0 (crs x ty st l) R
   replace hd0 : ((crs x ty st l).lg R 0).dep = if R.getD 0 false = true then (crs x ty st l).rd + (x.tl.getD ty.toNat ty0).rst else (crs x ty st l).rd := hd0
   have hnl : (crs x ty st l).n - 1 = l.length := by omega
   have hen : ((crs x ty st l).lg R ((crs x ty st l).n - 1)).arr = ((crs x ty st l).lg R l.length).arr := by rw [hnl]
   refine Zv rfl (.tuple #[.agg #[.bool (R.getD 0 false), .int .i64 (((crs x ty st l).lg R 0).dep), .slice oA ((crs x ty st l).sheet R).T.length cA, .int .i64 (((crs x ty st l).lg R ((crs x ty st l).n - 1)).arr), .int .i64 ((crs x ty st l).mil R (crs x ty st l).n)], .int .i64 0]) ?_
   refine Zv rfl (.agg #[.bool (R.getD 0 false), .int .i64 (((crs x ty st l).lg R 0).dep), .slice oA ((crs x ty st l).sheet R).T.length cA, .int .i64 (((crs x ty st l).lg R ((crs x ty st l).n - 1)).arr), .int .i64 ((crs x ty st l).mil R (crs x ty st l).n)]) ?_
   refine Zv rfl (.int .i64 0) ?_
   obtain ⟨W8, hW, hb, hq⟩ := laidV W6 #[.bool false, .int .i64 0, .slice none 0 0, .int .i64 0, .int .i64 0] #[.bool (R.getD 0 false), .int .i64 (((crs x ty st l).lg R 0).dep), .slice oA ((crs x ty st l).sheet R).T.length cA, .int .i64 (((crs x ty st l).lg R ((crs x ty st l).n - 1)).arr), .int .i64 ((crs x ty st l).mil R (crs x ty st l).n)] 39
   refine sx_mem (by kernel_rfl) rfl rfl (.pointer (some ⟨W6.heap.size, 0, none⟩)) (W6.alloc (.cells #[.bool false, .int .i64 0, .slice none 0 0, .int .i64 0, .int .i64 0] 39)) (by kernel_rfl) ?_
   refine sx_store (cells := #[.bool (R.getD 0 false), .int .i64 (((crs x ty st l).lg R 0).dep), .slice oA ((crs x ty st l).sheet R).T.length cA, .int .i64 (((crs x ty st l).lg R ((crs x ty st l).n - 1)).arr), .int .i64 ((crs x ty st l).mil R (crs x ty st l).n)]) (by kernel_rfl) rfl rfl (Cb.made W6 #[.bool false, .int .i64 0, .slice none 0 0, .int .i64 0, .int .i64 0] 39) (by kernel_rfl) (by kernel_rfl) (by kernel_rfl) (by kernel_rfl) (by kernel_rfl) ?_
   rw [hW]
   replace HB := over HB hb
   replace M2 := M2.below hb
   replace M4 := M4.below hb
   replace hSA := hSA.below hb
   have z5 := hb.size
   have M7 := hq
   have yM7 := hq.lt
   clear hq hb hW
   refine Zv rfl (.int .i64 0) ?_
   refine wpList_nil ?_
   refine sx_norm ?_
   refine wp_seq ?_
   refine wp_seq ?_
   refine wp_region_lit ?_
   refine Zv rfl (.int .i64 0) ?_
   refine Zv rfl (.bool false) ?_
   refine wpList_nil ?_
   refine sx_norm ?_
   refine sx_false (by kernel_rfl) ?_
   refine wp_skip ?_
   refine sx_norm ?_
   refine wp_seq ?_
   refine wp_seq ?_
   refine wp_region_lit ?_
   refine Zw rfl (.agg (iK k x)) (ex_load rfl M2 (by kernel_rfl) Tryd.underlying30 rfl (by kernel_rfl)) ?_
   refine Zw rfl (.agg (rK ty st orr F.length cr oa l.length ca)) (ex_load rfl M4 (by kernel_rfl) Tryd.underlying34 rfl (by kernel_rfl)) ?_
   refine sx_call (by kernel_rfl) rfl rfl ((by have h8 := refPoss_n k x ty st orr oa cr ca b o l F W8 (hI.below HB) (hl.below HB); rw [hp9] at h8; exact h8)) (by kernel_rfl) ?_
   rintro e W9 ⟨rfl, hb⟩
   replace HB := over HB hb
   replace M2 := M2.below hb
   replace M4 := M4.below hb
   replace hSA := hSA.below hb
   replace M7 := M7.below hb
   have z6 := hb.size
   clear hb
   refine ⟨_, rfl, ?_⟩
   refine Zv rfl (.bool false) ?_
   refine Zv rfl (.bool false) ?_
   refine Zv rfl (.slice oR R.length cR) ?_
   refine Zv rfl (.int .i64 ((R.length : Nat) : Int)) ?_
   refine Zv rfl (.pointer (some ⟨W1.heap.size, 3, none⟩)) ?_
   refine Zw rfl (.slice oa l.length ca) (ex_load1 rfl (M4.cell 3 rfl) (by kernel_rfl) Tryd.underlying32 rfl) ?_
   refine Zv rfl (.int .i64 ((l.length : Nat) : Int)) ?_
   refine sx_int (by kernel_rfl) rfl rfl .i64 (IntKind.i64.wrap (((l.length : Nat) : Int) + 1)) (((l.length + 1 : Nat) : Int)) (by kernel_rfl) (by rw [IntKind.wrap_i64]; omega) ?_
   refine sx_bool (by kernel_rfl) rfl rfl ((((R.length : Nat) : Int) : Int) != (((l.length + 1 : Nat) : Int) : Int)) false (by kernel_rfl) (by rw [bne_eq_false_iff_eq]; omega) ?_
   refine Zv rfl (.bool false) ?_
   refine Zv rfl (.bool false) ?_
   refine Zv rfl (.pointer (some ⟨W6.heap.size, 2, none⟩)) ?_
   refine Zw rfl (.slice oA ((crs x ty st l).sheet R).T.length cA) (ex_load1 rfl (M7.cell 2 rfl) (by kernel_rfl) Tryd.underlying37 rfl) ?_
   refine Zv rfl (.int .i64 ((((crs x ty st l).sheet R).T.length : Nat) : Int)) ?_
   refine Zv rfl (.pointer (some ⟨W1.heap.size, 3, none⟩)) ?_
   refine Zw rfl (.slice oa l.length ca) (ex_load1 rfl (M4.cell 3 rfl) (by kernel_rfl) Tryd.underlying32 rfl) ?_
   refine Zv rfl (.int .i64 ((l.length : Nat) : Int)) ?_
   refine sx_bool (by kernel_rfl) rfl rfl ((((((crs x ty st l).sheet R).T.length : Nat) : Int) : Int) != (((l.length : Nat) : Int) : Int)) false (by kernel_rfl) (by rw [bne_eq_false_iff_eq]; omega) ?_
   refine Zv rfl (.bool false) ?_
   refine wpList_nil ?_
   refine sx_norm ?_
   refine sx_false (by kernel_rfl) ?_
   refine wp_skip ?_
   refine sx_norm ?_
   refine wp_seq ?_
   refine wp_region_lit ?_
   refine Zv rfl (.pointer (some ⟨w.heap.size, 2, none⟩)) ?_
   refine Zw rfl (.slice k.o2 x.tl.length k.c2) (ex_load1 rfl (M2.cell 2 rfl) (by kernel_rfl) Tryd.underlying26 rfl) ?_
   refine Zv rfl (.pointer (some ⟨W1.heap.size, 0, none⟩)) ?_
   refine Zw rfl (.int .i64 ty) (ex_load1 rfl (M4.cell 0 rfl) (by kernel_rfl) Tryd.underlying3 rfl) ?_
   refine Zw rfl (.pointer (some ⟨bt, qt + (ty.toNat) * 14, none⟩)) (ex_indexO (q := qt) (m := x.tl.length) (c := k.c2) (k := ty.toNat) (s := 14) rfl (by kernel_rfl) ((hTy.below HB).oa (k := ty.toNat) (by omega)) (by rw [hyt]; kernel_rfl) Tryd.underlying26 (by kernel_rfl) (by omega) (by omega)) ?_
   refine Zw rfl (.agg #[.string (x.tl.getD ty.toNat ty0).name, .int .i64 ((x.tl.getD ty.toNat ty0).count), .int .i64 ((x.tl.getD ty.toNat ty0).fr), .int .i64 ((x.tl.getD ty.toNat ty0).to), .slice (va ty.toNat) (x.tl.getD ty.toNat ty0).cap.length (vb ty.toNat), .int .i64 ((x.tl.getD ty.toNat ty0).skills), .int .i64 ((x.tl.getD ty.toNat ty0).prof), .int .i64 ((x.tl.getD ty.toNat ty0).opn), .int .i64 ((x.tl.getD ty.toNat ty0).cls), .int .i64 ((x.tl.getD ty.toNat ty0).drv), .int .i64 ((x.tl.getD ty.toNat ty0).rst), .int .i64 ((x.tl.getD ty.toNat ty0).fix), .int .i64 ((x.tl.getD ty.toNat ty0).pm), .int .i64 ((x.tl.getD ty.toNat ty0).pt)]) (ex_loadR rfl ((hTy.below HB).range (k := ty.toNat) (by omega)) (by kernel_rfl) Tryd.underlying56 rfl (by kernel_rfl)) ?_
   obtain ⟨W11, hW⟩ : ∃ W, (W9.alloc (.cells #[.string ⟨#[]⟩, .int .i64 0, .int .i64 0, .int .i64 0, .slice none 0 0, .int .i64 0, .int .i64 0, .int .i64 0, .int .i64 0, .int .i64 0, .int .i64 0, .int .i64 0, .int .i64 0, .int .i64 0] 56)).setRow W9.heap.size #[.string (x.tl.getD ty.toNat ty0).name, .int .i64 ((x.tl.getD ty.toNat ty0).count), .int .i64 ((x.tl.getD ty.toNat ty0).fr), .int .i64 ((x.tl.getD ty.toNat ty0).to), .slice (va ty.toNat) (x.tl.getD ty.toNat ty0).cap.length (vb ty.toNat), .int .i64 ((x.tl.getD ty.toNat ty0).skills), .int .i64 ((x.tl.getD ty.toNat ty0).prof), .int .i64 ((x.tl.getD ty.toNat ty0).opn), .int .i64 ((x.tl.getD ty.toNat ty0).cls), .int .i64 ((x.tl.getD ty.toNat ty0).drv), .int .i64 ((x.tl.getD ty.toNat ty0).rst), .int .i64 ((x.tl.getD ty.toNat ty0).fix), .int .i64 ((x.tl.getD ty.toNat ty0).pm), .int .i64 ((x.tl.getD ty.toNat ty0).pt)] = W := ⟨_, rfl⟩
   have hb := hW ▸ below_var W9 (.cells #[.string ⟨#[]⟩, .int .i64 0, .int .i64 0, .int .i64 0, .slice none 0 0, .int .i64 0, .int .i64 0, .int .i64 0, .int .i64 0, .int .i64 0, .int .i64 0, .int .i64 0, .int .i64 0, .int .i64 0] 56) #[.string (x.tl.getD ty.toNat ty0).name, .int .i64 ((x.tl.getD ty.toNat ty0).count), .int .i64 ((x.tl.getD ty.toNat ty0).fr), .int .i64 ((x.tl.getD ty.toNat ty0).to), .slice (va ty.toNat) (x.tl.getD ty.toNat ty0).cap.length (vb ty.toNat), .int .i64 ((x.tl.getD ty.toNat ty0).skills), .int .i64 ((x.tl.getD ty.toNat ty0).prof), .int .i64 ((x.tl.getD ty.toNat ty0).opn), .int .i64 ((x.tl.getD ty.toNat ty0).cls), .int .i64 ((x.tl.getD ty.toNat ty0).drv), .int .i64 ((x.tl.getD ty.toNat ty0).rst), .int .i64 ((x.tl.getD ty.toNat ty0).fix), .int .i64 ((x.tl.getD ty.toNat ty0).pm), .int .i64 ((x.tl.getD ty.toNat ty0).pt)]
   have hq : Cb W11 W9.heap.size #[.string (x.tl.getD ty.toNat ty0).name, .int .i64 ((x.tl.getD ty.toNat ty0).count), .int .i64 ((x.tl.getD ty.toNat ty0).fr), .int .i64 ((x.tl.getD ty.toNat ty0).to), .slice (va ty.toNat) (x.tl.getD ty.toNat ty0).cap.length (vb ty.toNat), .int .i64 ((x.tl.getD ty.toNat ty0).skills), .int .i64 ((x.tl.getD ty.toNat ty0).prof), .int .i64 ((x.tl.getD ty.toNat ty0).opn), .int .i64 ((x.tl.getD ty.toNat ty0).cls), .int .i64 ((x.tl.getD ty.toNat ty0).drv), .int .i64 ((x.tl.getD ty.toNat ty0).rst), .int .i64 ((x.tl.getD ty.toNat ty0).fix), .int .i64 ((x.tl.getD ty.toNat ty0).pm), .int .i64 ((x.tl.getD ty.toNat ty0).pt)] 56 := hW ▸ Cb.row (Cb.made W9 #[.string ⟨#[]⟩, .int .i64 0, .int .i64 0, .int .i64 0, .slice none 0 0, .int .i64 0, .int .i64 0, .int .i64 0, .int .i64 0, .int .i64 0, .int .i64 0, .int .i64 0, .int .i64 0, .int .i64 0] 56) _
   refine sx_mem (by kernel_rfl) rfl rfl (.pointer (some ⟨W9.heap.size, 0, none⟩)) (W9.alloc (.cells #[.string ⟨#[]⟩, .int .i64 0, .int .i64 0, .int .i64 0, .slice none 0 0, .int .i64 0, .int .i64 0, .int .i64 0, .int .i64 0, .int .i64 0, .int .i64 0, .int .i64 0, .int .i64 0, .int .i64 0] 56)) (by kernel_rfl) ?_
   refine sx_store (cells := #[.string (x.tl.getD ty.toNat ty0).name, .int .i64 ((x.tl.getD ty.toNat ty0).count), .int .i64 ((x.tl.getD ty.toNat ty0).fr), .int .i64 ((x.tl.getD ty.toNat ty0).to), .slice (va ty.toNat) (x.tl.getD ty.toNat ty0).cap.length (vb ty.toNat), .int .i64 ((x.tl.getD ty.toNat ty0).skills), .int .i64 ((x.tl.getD ty.toNat ty0).prof), .int .i64 ((x.tl.getD ty.toNat ty0).opn), .int .i64 ((x.tl.getD ty.toNat ty0).cls), .int .i64 ((x.tl.getD ty.toNat ty0).drv), .int .i64 ((x.tl.getD ty.toNat ty0).rst), .int .i64 ((x.tl.getD ty.toNat ty0).fix), .int .i64 ((x.tl.getD ty.toNat ty0).pm), .int .i64 ((x.tl.getD ty.toNat ty0).pt)]) (by kernel_rfl) rfl rfl (Cb.made W9 #[.string ⟨#[]⟩, .int .i64 0, .int .i64 0, .int .i64 0, .slice none 0 0, .int .i64 0, .int .i64 0, .int .i64 0, .int .i64 0, .int .i64 0, .int .i64 0, .int .i64 0, .int .i64 0, .int .i64 0] 56) (by kernel_rfl) (by kernel_rfl) (by kernel_rfl) (by kernel_rfl) (by kernel_rfl) ?_
   rw [hW]
   replace HB := over HB hb
   replace M2 := M2.below hb
   replace M4 := M4.below hb
   replace hSA := hSA.below hb
   replace M7 := M7.below hb
   have z7 := hb.size
   have M10 := hq
   have yM10 := hq.lt
   clear hq hb hW
   refine wpList_nil ?_
   refine sx_norm ?_
   refine wp_seq ?_
   refine wp_region_lit ?_
   refine Zv rfl (.pointer (some ⟨W9.heap.size, 7, none⟩)) ?_
   refine Zw rfl (.int .i64 ((x.tl.getD ty.toNat ty0).opn)) (ex_load1 rfl (M10.cell 7 rfl) (by kernel_rfl) Tryd.underlying3 rfl) ?_
   refine Zv rfl (.pointer (some ⟨W1.heap.size, 1, none⟩)) ?_
   refine Zw rfl (.int .i64 st) (ex_load1 rfl (M4.cell 1 rfl) (by kernel_rfl) Tryd.underlying3 rfl) ?_
   refine Zv rfl (.int .i64 ((crs x ty st l).rd)) ?_
   refine Zv rfl (.int .i64 ((crs x ty st l).rd)) ?_
   refine wpList_nil ?_
   refine sx_norm ?_
   refine wp_seq ?_
   refine wp_seq ?_
   refine wp_region_lit ?_
   refine Zv rfl (.slice oR R.length cR) ?_
   refine Zw rfl (.pointer (some ⟨bR, qR + 0 * 1, none⟩)) (ex_indexO (q := qR) (m := R.length) (c := cR) (k := 0) (s := 1) rfl (by kernel_rfl) ((hR.below HB).oa (k := 0) (by omega)) (by kernel_rfl) Tryd.underlying31 (by kernel_rfl) (by omega) (by omega)) ?_
   by_cases C3 : (R.getD 0 false) = true
   ·refine Zw rfl (.bool true) (ex_load1 (v := .bool true) rfl (by have h8 := (hR.below HB).cell (k := 0) (by omega) 0 rfl; rw [show (R.getD 0 false) = true by simpa using C3] at h8; exact h8) (by kernel_rfl) Tryd.underlying4 rfl) ?_
    refine wpList_nil ?_
    refine sx_norm ?_
    refine sx_true (by kernel_rfl) ?_
    refine wp_region_lit ?_
    refine Zv rfl (.int .i64 ((crs x ty st l).rd)) ?_
    refine Zv rfl (.pointer (some ⟨W9.heap.size, 10, none⟩)) ?_
    refine Zw rfl (.int .i64 ((x.tl.getD ty.toNat ty0).rst)) (ex_load1 rfl (M10.cell 10 rfl) (by kernel_rfl) Tryd.underlying3 rfl) ?_
    refine sx_int (by kernel_rfl) rfl rfl .i64 (IntKind.i64.wrap ((crs x ty st l).rd + (x.tl.getD ty.toNat ty0).rst)) (((crs x ty st l).rd + (x.tl.getD ty.toNat ty0).rst)) (by kernel_rfl) (by rw [IntKind.wrap_i64]; omega) ?_
    refine Zv rfl (.int .i64 ((crs x ty st l).rd + (x.tl.getD ty.toNat ty0).rst)) ?_
    refine wpList_nil ?_
    refine sx_norm ?_
    refine wp_seq ?_
    refine wp_seq ?_
    replace hd0 : ((crs x ty st l).lg R 0).dep = ((crs x ty st l).rd + (x.tl.getD ty.toNat ty0).rst) := by rw [hd0]; first | (rw [if_pos (by assumption)]; done) | (rw [if_neg (by assumption)]; done)
    obtain ⟨Y12, hW⟩ : ∃ W, W11.drew = W := ⟨_, rfl⟩
    have hb : Below W11.heap.size W11 Y12 := hW ▸ below_drew (Below.refl _ _)
    replace HB := over HB hb
    replace M2 := M2.below hb
    replace M4 := M4.below hb
    replace hSA := hSA.below hb
    replace M7 := M7.below hb
    replace M10 := M10.below hb
    have z8 := hb.size
    clear hb
    refine sd_begin (fun W => Cb W (w.heap.size) (iK k x) 30 ∧ Cb W (W1.heap.size) (rK ty st orr F.length cr oa l.length ca) 34 ∧ Rw W bA qA 4 (fun k => [.int .i64 ((crs x ty st l).lg R k).arr, .int .i64 ((crs x ty st l).lg R k).beg, .int .i64 ((crs x ty st l).lg R (k + 1)).dep, .bool (R.getD (k + 1) false)]) (((crs x ty st l).sheet R).T.length) oA ∧ Cb W (W6.heap.size) #[.bool (R.getD 0 false), .int .i64 (((crs x ty st l).lg R 0).dep), .slice oA ((crs x ty st l).sheet R).T.length cA, .int .i64 (((crs x ty st l).lg R ((crs x ty st l).n - 1)).arr), .int .i64 ((crs x ty st l).mil R (crs x ty st l).n)] 39 ∧ Cb W (W9.heap.size) #[.string (x.tl.getD ty.toNat ty0).name, .int .i64 ((x.tl.getD ty.toNat ty0).count), .int .i64 ((x.tl.getD ty.toNat ty0).fr), .int .i64 ((x.tl.getD ty.toNat ty0).to), .slice (va ty.toNat) (x.tl.getD ty.toNat ty0).cap.length (vb ty.toNat), .int .i64 ((x.tl.getD ty.toNat ty0).skills), .int .i64 ((x.tl.getD ty.toNat ty0).prof), .int .i64 ((x.tl.getD ty.toNat ty0).opn), .int .i64 ((x.tl.getD ty.toNat ty0).cls), .int .i64 ((x.tl.getD ty.toNat ty0).drv), .int .i64 ((x.tl.getD ty.toNat ty0).rst), .int .i64 ((x.tl.getD ty.toNat ty0).fix), .int .i64 ((x.tl.getD ty.toNat ty0).pm), .int .i64 ((x.tl.getD ty.toNat ty0).pt)] 56 ∧ Rw W b o 2 (vF l) l.length oa ∧ Rw W bR qR 1 (bF R) R.length oR ∧ Rw W bo qo 16 (oF x.ol vo) x.ol.length k.o3 ∧ Rw W bt qt 14 (tyF x.tl va vb) x.tl.length k.o2 ∧ True) (by kernel_rfl) (by rw [hW]; exact ⟨M2, M4, hSA, M7, M10, (hl.below HB), (hR.below HB), (hO.below HB), (hTy.below HB), trivial⟩) ?_
    rw [hW]
    clear hW
    refine Zu 0 rfl rfl (.pointer (some ⟨W6.heap.size, 1, none⟩)) ⟨M2, M4, hSA, M7, M10, (hl.below HB), (hR.below HB), (hO.below HB), (hTy.below HB), trivial⟩ ?_
    refine Zt 1 rfl rfl (.int .i64 (((crs x ty st l).lg R 0).dep)) (fun w9 h9 => ex_load1 rfl (h9.2.2.2.1.cell 1 rfl) (by kernel_rfl) Tryd.underlying3 rfl) ⟨M2, M4, hSA, M7, M10, (hl.below HB), (hR.below HB), (hO.below HB), (hTy.below HB), trivial⟩ ?_
    refine Zu 2 rfl rfl (.int .i64 ((crs x ty st l).rd + (x.tl.getD ty.toNat ty0).rst)) ⟨M2, M4, hSA, M7, M10, (hl.below HB), (hR.below HB), (hO.below HB), (hTy.below HB), trivial⟩ ?_
    refine Zt 3 rfl rfl (.bool false) (fun w9 _ => ex_bool ((((crs x ty st l).lg R 0).dep : Int) != (((crs x ty st l).rd + (x.tl.getD ty.toNat ty0).rst) : Int)) false (by kernel_rfl) (by rw [bne_eq_false_iff_eq]; omega)) ⟨M2, M4, hSA, M7, M10, (hl.below HB), (hR.below HB), (hO.below HB), (hTy.below HB), trivial⟩ ?_
    refine Zu 4 rfl rfl (.bool false) ⟨M2, M4, hSA, M7, M10, (hl.below HB), (hR.below HB), (hO.below HB), (hTy.below HB), trivial⟩ ?_
    refine Zu 5 rfl rfl (.pointer (some ⟨W6.heap.size, 0, none⟩)) ⟨M2, M4, hSA, M7, M10, (hl.below HB), (hR.below HB), (hO.below HB), (hTy.below HB), trivial⟩ ?_
    refine Zt 6 rfl rfl (.bool (R.getD 0 false)) (fun w9 h9 => ex_load1 rfl (h9.2.2.2.1.cell 0 rfl) (by kernel_rfl) Tryd.underlying4 rfl) ⟨M2, M4, hSA, M7, M10, (hl.below HB), (hR.below HB), (hO.below HB), (hTy.below HB), trivial⟩ ?_
    refine Zu 7 rfl rfl (.slice oR R.length cR) ⟨M2, M4, hSA, M7, M10, (hl.below HB), (hR.below HB), (hO.below HB), (hTy.below HB), trivial⟩ ?_
    refine Zt 8 rfl rfl (.pointer (some ⟨bR, qR + 0 * 1, none⟩)) (fun w9 h9 => ex_indexO (q := qR) (m := R.length) (c := cR) (k := 0) (s := 1) rfl (by kernel_rfl) (h9.2.2.2.2.2.2.1.oa (k := 0) (by omega)) (by kernel_rfl) Tryd.underlying31 (by kernel_rfl) (by omega) (by omega)) ⟨M2, M4, hSA, M7, M10, (hl.below HB), (hR.below HB), (hO.below HB), (hTy.below HB), trivial⟩ ?_
    refine Zt 9 rfl rfl (.bool (R.getD 0 false)) (fun w9 h9 => ex_load1 rfl (h9.2.2.2.2.2.2.1.cell (k := 0) (by omega) 0 rfl) (by kernel_rfl) Tryd.underlying4 rfl) ⟨M2, M4, hSA, M7, M10, (hl.below HB), (hR.below HB), (hO.below HB), (hTy.below HB), trivial⟩ ?_
    refine Zt 10 rfl rfl (.bool false) (fun w9 _ => ex_bool (((R.getD 0 false) != (R.getD 0 false))) false (by kernel_rfl) (by simp)) ⟨M2, M4, hSA, M7, M10, (hl.below HB), (hR.below HB), (hO.below HB), (hTy.below HB), trivial⟩ ?_
    refine Zu 11 rfl rfl (.bool false) ⟨M2, M4, hSA, M7, M10, (hl.below HB), (hR.below HB), (hO.below HB), (hTy.below HB), trivial⟩ ?_
    refine Zu 12 rfl rfl (.bool false) ⟨M2, M4, hSA, M7, M10, (hl.below HB), (hR.below HB), (hO.below HB), (hTy.below HB), trivial⟩ ?_
    refine Zu 13 rfl rfl (.pointer (some ⟨W6.heap.size, 3, none⟩)) ⟨M2, M4, hSA, M7, M10, (hl.below HB), (hR.below HB), (hO.below HB), (hTy.below HB), trivial⟩ ?_
    refine Zt 14 rfl rfl (.int .i64 (((crs x ty st l).lg R ((crs x ty st l).n - 1)).arr)) (fun w9 h9 => ex_load1 rfl (h9.2.2.2.1.cell 3 rfl) (by kernel_rfl) Tryd.underlying3 rfl) ⟨M2, M4, hSA, M7, M10, (hl.below HB), (hR.below HB), (hO.below HB), (hTy.below HB), trivial⟩ ?_
    refine Zu 15 rfl rfl (.pointer (some ⟨W9.heap.size, 8, none⟩)) ⟨M2, M4, hSA, M7, M10, (hl.below HB), (hR.below HB), (hO.below HB), (hTy.below HB), trivial⟩ ?_
    refine Zt 16 rfl rfl (.int .i64 ((x.tl.getD ty.toNat ty0).cls)) (fun w9 h9 => ex_load1 rfl (h9.2.2.2.2.1.cell 8 rfl) (by kernel_rfl) Tryd.underlying3 rfl) ⟨M2, M4, hSA, M7, M10, (hl.below HB), (hR.below HB), (hO.below HB), (hTy.below HB), trivial⟩ ?_
    refine Zt 17 rfl rfl (.bool false) (fun w9 _ => ex_bool (decide (((crs x ty st l).lg R ((crs x ty st l).n - 1)).arr > (x.tl.getD ty.toNat ty0).cls)) false (by kernel_rfl) (decide_eq_false (by omega))) ⟨M2, M4, hSA, M7, M10, (hl.below HB), (hR.below HB), (hO.below HB), (hTy.below HB), trivial⟩ ?_
    refine Zu 18 rfl rfl (.bool false) ⟨M2, M4, hSA, M7, M10, (hl.below HB), (hR.below HB), (hO.below HB), (hTy.below HB), trivial⟩ ?_
    refine sd_done (by kernel_rfl) ?_
    refine sx_norm ?_
    refine sx_false (by kernel_rfl) ?_
    refine wp_skip ?_
    refine sx_norm ?_
    refine wp_seq ?_
    refine wp_seq ?_
    rw [← hd0]
    refine wp_region_lit ?_
    refine Zv rfl (.pointer (some ⟨W1.heap.size, 3, none⟩)) ?_
    refine Zw rfl (.slice oa l.length ca) (ex_load1 rfl (M4.cell 3 rfl) (by kernel_rfl) Tryd.underlying32 rfl) ?_
    refine Zv rfl (.int .i64 ((l.length : Nat) : Int)) ?_
    refine Zv rfl (.int .i64 0) ?_
    refine wpList_nil ?_
    refine sx_norm ?_
    refine wp_block ?_
    refine sx_loop (fun i : Nat => [(0, .agg (iK k x)), (1, .agg (rK ty st orr F.length cr oa l.length ca)), (2, .slice oR R.length cR), (3, .pointer (some ⟨w.heap.size, 0, none⟩)), (4, .pointer (some ⟨W1.heap.size, 0, none⟩)), (7, .pointer (some ⟨W6.heap.size, 0, none⟩)), (8, .int .i64 0), (9, .pointer (some ⟨W9.heap.size, 0, none⟩)), (10, .int .i64 (((crs x ty st l).lg R i).dep)), (16, .agg (iK k x)), (17, .bool true), (18, .bool false), (20, .tuple #[.agg #[.bool (R.getD 0 false), .int .i64 (((crs x ty st l).lg R 0).dep), .slice oA ((crs x ty st l).sheet R).T.length cA, .int .i64 (((crs x ty st l).lg R ((crs x ty st l).n - 1)).arr), .int .i64 ((crs x ty st l).mil R (crs x ty st l).n)], .int .i64 0]), (21, .agg (iK k x)), (22, .agg (rK ty st orr F.length cr oa l.length ca)), (23, .slice oR R.length cR), (24, .tuple #[.agg #[.bool (R.getD 0 false), .int .i64 (((crs x ty st l).lg R 0).dep), .slice oA ((crs x ty st l).sheet R).T.length cA, .int .i64 (((crs x ty st l).lg R ((crs x ty st l).n - 1)).arr), .int .i64 ((crs x ty st l).mil R (crs x ty st l).n)], .int .i64 0]), (25, .agg #[.bool (R.getD 0 false), .int .i64 (((crs x ty st l).lg R 0).dep), .slice oA ((crs x ty st l).sheet R).T.length cA, .int .i64 (((crs x ty st l).lg R ((crs x ty st l).n - 1)).arr), .int .i64 ((crs x ty st l).mil R (crs x ty st l).n)]), (26, .int .i64 0), (27, .int .i64 0), (28, .bool false), (41, .agg (iK k x)), (42, .agg (rK ty st orr F.length cr oa l.length ca)), (43, .bool true), (44, .bool false), (45, .bool false), (46, .slice oR R.length cR), (47, .int .i64 ((R.length : Nat) : Int)), (48, .pointer (some ⟨W1.heap.size, 3, none⟩)), (49, .slice oa l.length ca), (50, .int .i64 ((l.length : Nat) : Int)), (51, .int .i64 ((l.length + 1 : Nat) : Int)), (52, .bool false), (53, .bool false), (54, .bool false), (55, .pointer (some ⟨W6.heap.size, 2, none⟩)), (56, .slice oA ((crs x ty st l).sheet R).T.length cA), (57, .int .i64 ((((crs x ty st l).sheet R).T.length : Nat) : Int)), (58, .pointer (some ⟨W1.heap.size, 3, none⟩)), (59, .slice oa l.length ca), (60, .int .i64 ((l.length : Nat) : Int)), (61, .bool false), (62, .bool false), (63, .pointer (some ⟨w.heap.size, 2, none⟩)), (64, .slice k.o2 x.tl.length k.c2), (65, .pointer (some ⟨W1.heap.size, 0, none⟩)), (66, .int .i64 ty), (67, .pointer (some ⟨bt, qt + (ty.toNat) * 14, none⟩)), (68, .agg #[.string (x.tl.getD ty.toNat ty0).name, .int .i64 ((x.tl.getD ty.toNat ty0).count), .int .i64 ((x.tl.getD ty.toNat ty0).fr), .int .i64 ((x.tl.getD ty.toNat ty0).to), .slice (va ty.toNat) (x.tl.getD ty.toNat ty0).cap.length (vb ty.toNat), .int .i64 ((x.tl.getD ty.toNat ty0).skills), .int .i64 ((x.tl.getD ty.toNat ty0).prof), .int .i64 ((x.tl.getD ty.toNat ty0).opn), .int .i64 ((x.tl.getD ty.toNat ty0).cls), .int .i64 ((x.tl.getD ty.toNat ty0).drv), .int .i64 ((x.tl.getD ty.toNat ty0).rst), .int .i64 ((x.tl.getD ty.toNat ty0).fix), .int .i64 ((x.tl.getD ty.toNat ty0).pm), .int .i64 ((x.tl.getD ty.toNat ty0).pt)]), (69, .pointer (some ⟨W9.heap.size, 7, none⟩)), (70, .int .i64 ((x.tl.getD ty.toNat ty0).opn)), (71, .pointer (some ⟨W1.heap.size, 1, none⟩)), (72, .int .i64 st), (73, .int .i64 ((crs x ty st l).rd)), (74, .slice oR R.length cR), (75, .pointer (some ⟨bR, qR + 0 * 1, none⟩)), (76, .bool true), (77, .int .i64 ((crs x ty st l).rd)), (78, .pointer (some ⟨W9.heap.size, 10, none⟩)), (79, .int .i64 ((x.tl.getD ty.toNat ty0).rst)), (80, .int .i64 (((crs x ty st l).lg R 0).dep)), (81, .pointer (some ⟨W6.heap.size, 1, none⟩)), (82, .int .i64 (((crs x ty st l).lg R 0).dep)), (83, .int .i64 (((crs x ty st l).lg R 0).dep)), (84, .bool false), (85, .bool false), (86, .pointer (some ⟨W6.heap.size, 0, none⟩)), (87, .bool (R.getD 0 false)), (88, .slice oR R.length cR), (89, .pointer (some ⟨bR, qR + 0 * 1, none⟩)), (90, .bool (R.getD 0 false)), (91, .bool false), (92, .bool false), (93, .bool false), (94, .pointer (some ⟨W6.heap.size, 3, none⟩)), (95, .int .i64 (((crs x ty st l).lg R ((crs x ty st l).n - 1)).arr)), (96, .pointer (some ⟨W9.heap.size, 8, none⟩)), (97, .int .i64 ((x.tl.getD ty.toNat ty0).cls)), (98, .bool false), (99, .bool false), (100, .pointer (some ⟨W1.heap.size, 3, none⟩)), (101, .slice oa l.length ca), (102, .int .i64 ((l.length : Nat) : Int)), (103, .int .i64 ((i : Nat) : Int))]) (fun gg i wr => i ≤ l.length ∧ l.length - i ≤ gg ∧ Below Y12.heap.size Y12 wr) (l.length) (0) (by kernel_rfl) ⟨Nat.zero_le _, Nat.le_refl _, Below.refl _ _⟩ ?_
    rintro gg i g' wr13 ⟨hi, hg, hbl⟩
    replace HB := over HB hbl
    replace M2 := M2.below hbl
    replace M4 := M4.below hbl
    replace hSA := hSA.below hbl
    replace M7 := M7.below hbl
    replace M10 := M10.below hbl
    have z9 := hbl.size
    have HL := hbl
    clear hbl
    refine wp_seq ?_
    refine wp_region_lit ?_
    by_cases C4 : i < l.length
    ·refine sx_bool (by kernel_rfl) rfl rfl (decide (((i : Nat) : Int) < ((l.length : Nat) : Int))) true (by kernel_rfl) (decide_eq_true (by omega)) ?_
     refine wpList_nil ?_
     refine sx_norm ?_
     refine wp_seq ?_
     refine sx_true (by kernel_rfl) ?_
     refine wp_skip ?_
     refine sx_norm ?_
     refine wp_seq ?_
     refine wp_block ?_
     refine wp_seq ?_
     have hlg := CrT.lg_ok hc (Nat.le_refl _) hr0 (show i < (crs x ty st l).n by omega)
     have hok9 := posD_at hp9 (i := i) (by omega)
     obtain ⟨hj1, hj2, hj3⟩ := okR_in hok9
     have hj0 : (((l.getD i (0, false)).1.toNat : Nat) : Int) = (l.getD i (0, false)).1 := Int.toNat_of_nonneg hj1
     have hbeg := beg_is (crs x ty st l) R i
     have hdp : ((crs x ty st l).lg R (i + 1)).dep = if R.getD (i + 1) false = true then ((crs x ty st l).lg R i).beg + ((crs x ty st l).S.getD (i + 1) st0).s + (x.tl.getD ty.toNat ty0).rst else ((crs x ty st l).lg R i).beg + ((crs x ty st l).S.getD (i + 1) st0).s := dep_is (crs x ty st l) R i
     have hsb := hc.st (i + 1) (by have := hc.len; unfold CrT.n at hn9; omega)
     rw [crs_at x ty st (by omega), hj3] at hlg hbeg hdp hsb
     refine wp_region_lit ?_
     refine Zv rfl (.int .i64 ((i : Nat) : Int)) ?_
     refine Zw rfl (.pointer (some ⟨b, o + i * 2, none⟩)) (ex_indexO (q := o) (m := l.length) (c := ca) (k := i) (s := 2) rfl (by kernel_rfl) ((hl.below HB).oa (k := i) (by omega)) (by kernel_rfl) Tryd.underlying32 (by kernel_rfl) (by omega) (by omega)) ?_
     refine Zw rfl (.agg #[.int .i64 ((l.getD i (0, false)).1), .bool (l.getD i (0, false)).2]) (ex_loadR rfl ((hl.below HB).range (k := i) (by omega)) (by kernel_rfl) Tryd.underlying58 rfl (by kernel_rfl)) ?_
     obtain ⟨W15, hW, hb, hq⟩ := laidV wr13 #[.int .i64 0, .bool false] #[.int .i64 ((l.getD i (0, false)).1), .bool (l.getD i (0, false)).2] 58
     refine sx_mem (by kernel_rfl) rfl rfl (.pointer (some ⟨wr13.heap.size, 0, none⟩)) (wr13.alloc (.cells #[.int .i64 0, .bool false] 58)) (by kernel_rfl) ?_
     refine Zv rfl (.int .i64 ((i : Nat) : Int)) ?_
     refine sx_store (cells := #[.int .i64 ((l.getD i (0, false)).1), .bool (l.getD i (0, false)).2]) (by kernel_rfl) rfl rfl (Cb.made wr13 #[.int .i64 0, .bool false] 58) (by kernel_rfl) (by kernel_rfl) (by kernel_rfl) (by kernel_rfl) (by kernel_rfl) ?_
     rw [hW]
     replace HB := over HB hb
     replace M2 := M2.below hb
     replace M4 := M4.below hb
     replace hSA := hSA.below hb
     replace M7 := M7.below hb
     replace M10 := M10.below hb
     replace HL := over HL hb
     have z10 := hb.size
     have M14 := hq
     have yM14 := hq.lt
     clear hq hb hW
     refine wpList_nil ?_
     refine sx_norm ?_
     refine wp_seq ?_
     refine wp_region_lit ?_
     refine Zv rfl (.pointer (some ⟨w.heap.size, 3, none⟩)) ?_
     refine Zw rfl (.slice k.o3 x.ol.length k.c3) (ex_load1 rfl (M2.cell 3 rfl) (by kernel_rfl) Tryd.underlying27 rfl) ?_
     refine Zv rfl (.pointer (some ⟨wr13.heap.size, 0, none⟩)) ?_
     refine Zw rfl (.int .i64 ((l.getD i (0, false)).1)) (ex_load1 rfl (M14.cell 0 rfl) (by kernel_rfl) Tryd.underlying3 rfl) ?_
     refine Zw rfl (.pointer (some ⟨bo, qo + (l.getD i (0, false)).1.toNat * 16, none⟩)) (ex_indexO (q := qo) (m := x.ol.length) (c := k.c3) (k := (l.getD i (0, false)).1.toNat) (s := 16) rfl (by kernel_rfl) ((hO.below HB).oa (k := (l.getD i (0, false)).1.toNat) (by omega)) (by rw [hj0]; kernel_rfl) Tryd.underlying27 (by kernel_rfl) (by omega) (by omega)) ?_
     refine Zv rfl (.pointer (some ⟨bo, qo + (l.getD i (0, false)).1.toNat * 16 + 2, none⟩)) ?_
     refine Zw rfl (.agg #[.int .i64 ((x.ol.getD ((l.getD i (0, false)).1.toNat) or0).pp), .int .i64 ((x.ol.getD ((l.getD i (0, false)).1.toNat) or0).po), .int .i64 ((x.ol.getD ((l.getD i (0, false)).1.toNat) or0).pc), .int .i64 ((x.ol.getD ((l.getD i (0, false)).1.toNat) or0).ps)]) (ex_loadR rfl (rw_mid (hO.below HB) (k := (l.getD i (0, false)).1.toNat) (by omega) 2 [.int .i64 ((x.ol.getD ((l.getD i (0, false)).1.toNat) or0).pp), .int .i64 ((x.ol.getD ((l.getD i (0, false)).1.toNat) or0).po), .int .i64 ((x.ol.getD ((l.getD i (0, false)).1.toNat) or0).pc), .int .i64 ((x.ol.getD ((l.getD i (0, false)).1.toNat) or0).ps)] rfl) (by kernel_rfl) Tryd.underlying60 rfl (by kernel_rfl)) ?_
     obtain ⟨W17, hW⟩ : ∃ W, (W15.alloc (.cells #[.int .i64 0, .int .i64 0, .int .i64 0, .int .i64 0] 60)).setRow W15.heap.size #[.int .i64 ((x.ol.getD ((l.getD i (0, false)).1.toNat) or0).pp), .int .i64 ((x.ol.getD ((l.getD i (0, false)).1.toNat) or0).po), .int .i64 ((x.ol.getD ((l.getD i (0, false)).1.toNat) or0).pc), .int .i64 ((x.ol.getD ((l.getD i (0, false)).1.toNat) or0).ps)] = W := ⟨_, rfl⟩
     have hb := hW ▸ below_var W15 (.cells #[.int .i64 0, .int .i64 0, .int .i64 0, .int .i64 0] 60) #[.int .i64 ((x.ol.getD ((l.getD i (0, false)).1.toNat) or0).pp), .int .i64 ((x.ol.getD ((l.getD i (0, false)).1.toNat) or0).po), .int .i64 ((x.ol.getD ((l.getD i (0, false)).1.toNat) or0).pc), .int .i64 ((x.ol.getD ((l.getD i (0, false)).1.toNat) or0).ps)]
     have hq : Cb W17 W15.heap.size #[.int .i64 ((x.ol.getD ((l.getD i (0, false)).1.toNat) or0).pp), .int .i64 ((x.ol.getD ((l.getD i (0, false)).1.toNat) or0).po), .int .i64 ((x.ol.getD ((l.getD i (0, false)).1.toNat) or0).pc), .int .i64 ((x.ol.getD ((l.getD i (0, false)).1.toNat) or0).ps)] 60 := hW ▸ Cb.row (Cb.made W15 #[.int .i64 0, .int .i64 0, .int .i64 0, .int .i64 0] 60) _
     refine sx_mem (by kernel_rfl) rfl rfl (.pointer (some ⟨W15.heap.size, 0, none⟩)) (W15.alloc (.cells #[.int .i64 0, .int .i64 0, .int .i64 0, .int .i64 0] 60)) (by kernel_rfl) ?_
     refine sx_store (cells := #[.int .i64 ((x.ol.getD ((l.getD i (0, false)).1.toNat) or0).pp), .int .i64 ((x.ol.getD ((l.getD i (0, false)).1.toNat) or0).po), .int .i64 ((x.ol.getD ((l.getD i (0, false)).1.toNat) or0).pc), .int .i64 ((x.ol.getD ((l.getD i (0, false)).1.toNat) or0).ps)]) (by kernel_rfl) rfl rfl (Cb.made W15 #[.int .i64 0, .int .i64 0, .int .i64 0, .int .i64 0] 60) (by kernel_rfl) (by kernel_rfl) (by kernel_rfl) (by kernel_rfl) (by kernel_rfl) ?_
     rw [hW]
     replace HB := over HB hb
     replace M2 := M2.below hb
     replace M4 := M4.below hb
     replace hSA := hSA.below hb
     replace M7 := M7.below hb
     replace M10 := M10.below hb
     replace HL := over HL hb
     replace M14 := M14.below hb
     have z11 := hb.size
     have M16 := hq
     have yM16 := hq.lt
     clear hq hb hW
     refine wpList_nil ?_
     refine sx_norm ?_
     refine wp_seq ?_
     refine wp_seq ?_
     refine wp_region_lit ?_
     refine Zv rfl (.pointer (some ⟨wr13.heap.size, 1, none⟩)) ?_
     by_cases C5 : (l.getD i (0, false)).2 = true
     ·refine Zw rfl (.bool true) (ex_load1 (v := .bool true) rfl (by have h8 := M14.cell 1 rfl; rw [show (l.getD i (0, false)).2 = true by simpa using C5] at h8; exact h8) (by kernel_rfl) Tryd.underlying4 rfl) ?_
      refine wpList_nil ?_
      refine sx_norm ?_
      refine sx_true (by kernel_rfl) ?_
      refine wp_region_lit ?_
      refine Zv rfl (.pointer (some ⟨w.heap.size, 3, none⟩)) ?_
      refine Zw rfl (.slice k.o3 x.ol.length k.c3) (ex_load1 rfl (M2.cell 3 rfl) (by kernel_rfl) Tryd.underlying27 rfl) ?_
      refine Zv rfl (.pointer (some ⟨wr13.heap.size, 0, none⟩)) ?_
      refine Zw rfl (.int .i64 ((l.getD i (0, false)).1)) (ex_load1 rfl (M14.cell 0 rfl) (by kernel_rfl) Tryd.underlying3 rfl) ?_
      refine Zw rfl (.pointer (some ⟨bo, qo + (l.getD i (0, false)).1.toNat * 16, none⟩)) (ex_indexO (q := qo) (m := x.ol.length) (c := k.c3) (k := (l.getD i (0, false)).1.toNat) (s := 16) rfl (by kernel_rfl) ((hO.below HB).oa (k := (l.getD i (0, false)).1.toNat) (by omega)) (by rw [hj0]; kernel_rfl) Tryd.underlying27 (by kernel_rfl) (by omega) (by omega)) ?_
      refine Zv rfl (.pointer (some ⟨bo, qo + (l.getD i (0, false)).1.toNat * 16 + 6, none⟩)) ?_
      refine Zw rfl (.agg #[.int .i64 ((x.ol.getD ((l.getD i (0, false)).1.toNat) or0).dp), .int .i64 ((x.ol.getD ((l.getD i (0, false)).1.toNat) or0).dd), .int .i64 ((x.ol.getD ((l.getD i (0, false)).1.toNat) or0).dc), .int .i64 ((x.ol.getD ((l.getD i (0, false)).1.toNat) or0).ds)]) (ex_loadR rfl (rw_mid (hO.below HB) (k := (l.getD i (0, false)).1.toNat) (by omega) 6 [.int .i64 ((x.ol.getD ((l.getD i (0, false)).1.toNat) or0).dp), .int .i64 ((x.ol.getD ((l.getD i (0, false)).1.toNat) or0).dd), .int .i64 ((x.ol.getD ((l.getD i (0, false)).1.toNat) or0).dc), .int .i64 ((x.ol.getD ((l.getD i (0, false)).1.toNat) or0).ds)] rfl) (by kernel_rfl) Tryd.underlying60 rfl (by kernel_rfl)) ?_
      refine sx_store (cells := #[.int .i64 ((x.ol.getD ((l.getD i (0, false)).1.toNat) or0).dp), .int .i64 ((x.ol.getD ((l.getD i (0, false)).1.toNat) or0).dd), .int .i64 ((x.ol.getD ((l.getD i (0, false)).1.toNat) or0).dc), .int .i64 ((x.ol.getD ((l.getD i (0, false)).1.toNat) or0).ds)]) (by kernel_rfl) rfl rfl M16 (by kernel_rfl) (by kernel_rfl) (by kernel_rfl) (by kernel_rfl) (by kernel_rfl) ?_
      obtain ⟨W18, hW⟩ : ∃ W, W17.setRow (W15.heap.size) #[.int .i64 ((x.ol.getD ((l.getD i (0, false)).1.toNat) or0).dp), .int .i64 ((x.ol.getD ((l.getD i (0, false)).1.toNat) or0).dd), .int .i64 ((x.ol.getD ((l.getD i (0, false)).1.toNat) or0).dc), .int .i64 ((x.ol.getD ((l.getD i (0, false)).1.toNat) or0).ds)] = W := ⟨_, rfl⟩
      have hg : W17.grownBy W18 (some (W15.heap.size)) := hW ▸ grown_row _ _ _
      have hq : Cb W18 (W15.heap.size) #[.int .i64 ((x.ol.getD ((l.getD i (0, false)).1.toNat) or0).dp), .int .i64 ((x.ol.getD ((l.getD i (0, false)).1.toNat) or0).dd), .int .i64 ((x.ol.getD ((l.getD i (0, false)).1.toNat) or0).dc), .int .i64 ((x.ol.getD ((l.getD i (0, false)).1.toNat) or0).ds)] 60 := hW ▸ Cb.row M16 _
      rw [hW]
      replace HB := HB.grown hg (by omega) (fun x e => by simp only [Option.some.injEq] at e; omega)
      replace M2 := M2.kept hg (by omega)
      replace M4 := M4.kept hg (by omega)
      replace hSA := hSA.kept hg (fun i hi => by have h8 := hltA i hi; omega)
      replace M7 := M7.kept hg (by omega)
      replace M10 := M10.kept hg (by omega)
      replace HL := HL.grown hg (by omega) (fun x e => by simp only [Option.some.injEq] at e; omega)
      replace M14 := M14.kept hg (by omega)
      have z12 := hg.size
      replace M16 := hq
      clear hq hg hW
      refine wpList_nil ?_
      refine sx_norm ?_
      refine wp_seq ?_
      have hdv : (l.getD i (0, false)).2 = true := by simpa using (by assumption : (l.getD i (0, false)).2 = true)
      rw [hdv] at hlg hbeg hdp hsb
      have hq9 : stQ (x.ol.getD (l.getD i (0, false)).1.toNat or0) true = ⟨(x.ol.getD (l.getD i (0, false)).1.toNat or0).dp, (x.ol.getD (l.getD i (0, false)).1.toNat or0).dd, (x.ol.getD (l.getD i (0, false)).1.toNat or0).dc, (x.ol.getD (l.getD i (0, false)).1.toNat or0).ds⟩ := rfl
      rw [hq9] at hlg hbeg hdp hsb
      dsimp only at hlg hbeg hdp hsb
      refine wp_region_lit ?_
      refine Zv rfl (.pointer (some ⟨W6.heap.size, 2, none⟩)) ?_
      refine Zw rfl (.slice oA ((crs x ty st l).sheet R).T.length cA) (ex_load1 rfl (M7.cell 2 rfl) (by kernel_rfl) Tryd.underlying37 rfl) ?_
      refine Zv rfl (.int .i64 ((i : Nat) : Int)) ?_
      refine Zw rfl (.pointer (some ⟨bA, qA + i * 4, none⟩)) (ex_indexO (q := qA) (m := ((crs x ty st l).sheet R).T.length) (c := cA) (k := i) (s := 4) rfl (by kernel_rfl) (hSA.oa (k := i) (by omega)) (by kernel_rfl) Tryd.underlying37 (by kernel_rfl) (by omega) (by omega)) ?_
      refine Zw rfl (.agg #[.int .i64 (((crs x ty st l).lg R i).arr), .int .i64 (((crs x ty st l).lg R i).beg), .int .i64 (((crs x ty st l).lg R (i + 1)).dep), .bool (R.getD (i + 1) false)]) (ex_loadR rfl (hSA.range (k := i) (by omega)) (by kernel_rfl) Tryd.underlying53 rfl (by kernel_rfl)) ?_
      obtain ⟨W20, hW⟩ : ∃ W, (W18.alloc (.cells #[.int .i64 0, .int .i64 0, .int .i64 0, .bool false] 53)).setRow W18.heap.size #[.int .i64 (((crs x ty st l).lg R i).arr), .int .i64 (((crs x ty st l).lg R i).beg), .int .i64 (((crs x ty st l).lg R (i + 1)).dep), .bool (R.getD (i + 1) false)] = W := ⟨_, rfl⟩
      have hb := hW ▸ below_var W18 (.cells #[.int .i64 0, .int .i64 0, .int .i64 0, .bool false] 53) #[.int .i64 (((crs x ty st l).lg R i).arr), .int .i64 (((crs x ty st l).lg R i).beg), .int .i64 (((crs x ty st l).lg R (i + 1)).dep), .bool (R.getD (i + 1) false)]
      have hq : Cb W20 W18.heap.size #[.int .i64 (((crs x ty st l).lg R i).arr), .int .i64 (((crs x ty st l).lg R i).beg), .int .i64 (((crs x ty st l).lg R (i + 1)).dep), .bool (R.getD (i + 1) false)] 53 := hW ▸ Cb.row (Cb.made W18 #[.int .i64 0, .int .i64 0, .int .i64 0, .bool false] 53) _
      refine sx_mem (by kernel_rfl) rfl rfl (.pointer (some ⟨W18.heap.size, 0, none⟩)) (W18.alloc (.cells #[.int .i64 0, .int .i64 0, .int .i64 0, .bool false] 53)) (by kernel_rfl) ?_
      refine sx_store (cells := #[.int .i64 (((crs x ty st l).lg R i).arr), .int .i64 (((crs x ty st l).lg R i).beg), .int .i64 (((crs x ty st l).lg R (i + 1)).dep), .bool (R.getD (i + 1) false)]) (by kernel_rfl) rfl rfl (Cb.made W18 #[.int .i64 0, .int .i64 0, .int .i64 0, .bool false] 53) (by kernel_rfl) (by kernel_rfl) (by kernel_rfl) (by kernel_rfl) (by kernel_rfl) ?_
      rw [hW]
      replace HB := over HB hb
      replace M2 := M2.below hb
      replace M4 := M4.below hb
      replace hSA := hSA.below hb
      replace M7 := M7.below hb
      replace M10 := M10.below hb
      replace HL := over HL hb
      replace M14 := M14.below hb
      replace M16 := M16.below hb
      have z13 := hb.size
      have M19 := hq
      have yM19 := hq.lt
      clear hq hb hW
      refine wpList_nil ?_
      refine sx_norm ?_
      refine wp_seq ?_
      refine wp_region_lit ?_
      refine Zv rfl (.pointer (some ⟨W18.heap.size, 1, none⟩)) ?_
      refine Zw rfl (.int .i64 (((crs x ty st l).lg R i).beg)) (ex_load1 rfl (M19.cell 1 rfl) (by kernel_rfl) Tryd.underlying3 rfl) ?_
      refine Zv rfl (.pointer (some ⟨W15.heap.size, 3, none⟩)) ?_
      refine Zw rfl (.int .i64 ((x.ol.getD ((l.getD i (0, false)).1.toNat) or0).ds)) (ex_load1 rfl (M16.cell 3 rfl) (by kernel_rfl) Tryd.underlying3 rfl) ?_
      refine sx_int (by kernel_rfl) rfl rfl .i64 (IntKind.i64.wrap (((crs x ty st l).lg R i).beg + (x.ol.getD ((l.getD i (0, false)).1.toNat) or0).ds)) ((((crs x ty st l).lg R i).beg + (x.ol.getD ((l.getD i (0, false)).1.toNat) or0).ds)) (by kernel_rfl) (by rw [IntKind.wrap_i64]; omega) ?_
      refine Zv rfl (.int .i64 (((crs x ty st l).lg R i).beg + (x.ol.getD ((l.getD i (0, false)).1.toNat) or0).ds)) ?_
      refine wpList_nil ?_
      refine sx_norm ?_
      refine wp_seq ?_
      refine wp_seq ?_
      refine wp_region_lit ?_
      refine Zv rfl (.slice oR R.length cR) ?_
      refine Zv rfl (.int .i64 ((i : Nat) : Int)) ?_
      refine sx_int (by kernel_rfl) rfl rfl .i64 (IntKind.i64.wrap (((i : Nat) : Int) + 1)) (((i + 1 : Nat) : Int)) (by kernel_rfl) (by rw [IntKind.wrap_i64]; omega) ?_
      refine Zw rfl (.pointer (some ⟨bR, qR + (i + 1) * 1, none⟩)) (ex_indexO (q := qR) (m := R.length) (c := cR) (k := i + 1) (s := 1) rfl (by kernel_rfl) ((hR.below HB).oa (k := i + 1) (by omega)) (by kernel_rfl) Tryd.underlying31 (by kernel_rfl) (by omega) (by omega)) ?_
      by_cases C6 : (R.getD (i + 1) false) = true
      ·refine Zw rfl (.bool true) (ex_load1 (v := .bool true) rfl (by have h8 := (hR.below HB).cell (k := i + 1) (by omega) 0 rfl; rw [show (R.getD (i + 1) false) = true by simpa using C6] at h8; exact h8) (by kernel_rfl) Tryd.underlying4 rfl) ?_
       refine wpList_nil ?_
       refine sx_norm ?_
       refine sx_true (by kernel_rfl) ?_
       refine wp_region_lit ?_
       refine Zv rfl (.int .i64 (((crs x ty st l).lg R i).beg + (x.ol.getD ((l.getD i (0, false)).1.toNat) or0).ds)) ?_
       refine Zv rfl (.pointer (some ⟨W9.heap.size, 10, none⟩)) ?_
       refine Zw rfl (.int .i64 ((x.tl.getD ty.toNat ty0).rst)) (ex_load1 rfl (M10.cell 10 rfl) (by kernel_rfl) Tryd.underlying3 rfl) ?_
       refine sx_int (by kernel_rfl) rfl rfl .i64 (IntKind.i64.wrap ((((crs x ty st l).lg R i).beg + (x.ol.getD ((l.getD i (0, false)).1.toNat) or0).ds) + (x.tl.getD ty.toNat ty0).rst)) (((((crs x ty st l).lg R i).beg + (x.ol.getD ((l.getD i (0, false)).1.toNat) or0).ds) + (x.tl.getD ty.toNat ty0).rst)) (by kernel_rfl) (by rw [IntKind.wrap_i64]; omega) ?_
       refine Zv rfl (.int .i64 ((((crs x ty st l).lg R i).beg + (x.ol.getD ((l.getD i (0, false)).1.toNat) or0).ds) + (x.tl.getD ty.toNat ty0).rst)) ?_
       refine wpList_nil ?_
       refine sx_norm ?_
       refine wp_seq ?_
       refine wp_seq ?_
       replace hdp : ((crs x ty st l).lg R (i + 1)).dep = ((((crs x ty st l).lg R i).beg + (x.ol.getD ((l.getD i (0, false)).1.toNat) or0).ds) + (x.tl.getD ty.toNat ty0).rst) := by rw [hdp]; first | (rw [if_pos (by assumption)]; done) | (rw [if_neg (by assumption)]; done)
       obtain ⟨Y21, hW⟩ : ∃ W, W20.drew = W := ⟨_, rfl⟩
       have hb : Below W20.heap.size W20 Y21 := hW ▸ below_drew (Below.refl _ _)
       replace HB := over HB hb
       replace M2 := M2.below hb
       replace M4 := M4.below hb
       replace hSA := hSA.below hb
       replace M7 := M7.below hb
       replace M10 := M10.below hb
       replace HL := over HL hb
       replace M14 := M14.below hb
       replace M16 := M16.below hb
       replace M19 := M19.below hb
       have z14 := hb.size
       clear hb
       refine sd_begin (fun W => Cb W (w.heap.size) (iK k x) 30 ∧ Cb W (W1.heap.size) (rK ty st orr F.length cr oa l.length ca) 34 ∧ Rw W bA qA 4 (fun k => [.int .i64 ((crs x ty st l).lg R k).arr, .int .i64 ((crs x ty st l).lg R k).beg, .int .i64 ((crs x ty st l).lg R (k + 1)).dep, .bool (R.getD (k + 1) false)]) (((crs x ty st l).sheet R).T.length) oA ∧ Cb W (W6.heap.size) #[.bool (R.getD 0 false), .int .i64 (((crs x ty st l).lg R 0).dep), .slice oA ((crs x ty st l).sheet R).T.length cA, .int .i64 (((crs x ty st l).lg R ((crs x ty st l).n - 1)).arr), .int .i64 ((crs x ty st l).mil R (crs x ty st l).n)] 39 ∧ Cb W (W9.heap.size) #[.string (x.tl.getD ty.toNat ty0).name, .int .i64 ((x.tl.getD ty.toNat ty0).count), .int .i64 ((x.tl.getD ty.toNat ty0).fr), .int .i64 ((x.tl.getD ty.toNat ty0).to), .slice (va ty.toNat) (x.tl.getD ty.toNat ty0).cap.length (vb ty.toNat), .int .i64 ((x.tl.getD ty.toNat ty0).skills), .int .i64 ((x.tl.getD ty.toNat ty0).prof), .int .i64 ((x.tl.getD ty.toNat ty0).opn), .int .i64 ((x.tl.getD ty.toNat ty0).cls), .int .i64 ((x.tl.getD ty.toNat ty0).drv), .int .i64 ((x.tl.getD ty.toNat ty0).rst), .int .i64 ((x.tl.getD ty.toNat ty0).fix), .int .i64 ((x.tl.getD ty.toNat ty0).pm), .int .i64 ((x.tl.getD ty.toNat ty0).pt)] 56 ∧ Cb W (wr13.heap.size) #[.int .i64 ((l.getD i (0, false)).1), .bool (l.getD i (0, false)).2] 58 ∧ Cb W (W15.heap.size) #[.int .i64 ((x.ol.getD ((l.getD i (0, false)).1.toNat) or0).dp), .int .i64 ((x.ol.getD ((l.getD i (0, false)).1.toNat) or0).dd), .int .i64 ((x.ol.getD ((l.getD i (0, false)).1.toNat) or0).dc), .int .i64 ((x.ol.getD ((l.getD i (0, false)).1.toNat) or0).ds)] 60 ∧ Cb W (W18.heap.size) #[.int .i64 (((crs x ty st l).lg R i).arr), .int .i64 (((crs x ty st l).lg R i).beg), .int .i64 (((crs x ty st l).lg R (i + 1)).dep), .bool (R.getD (i + 1) false)] 53 ∧ Rw W b o 2 (vF l) l.length oa ∧ Rw W bR qR 1 (bF R) R.length oR ∧ Rw W bo qo 16 (oF x.ol vo) x.ol.length k.o3 ∧ Rw W bt qt 14 (tyF x.tl va vb) x.tl.length k.o2 ∧ True) (by kernel_rfl) (by rw [hW]; exact ⟨M2, M4, hSA, M7, M10, M14, M16, M19, (hl.below HB), (hR.below HB), (hO.below HB), (hTy.below HB), trivial⟩) ?_
       rw [hW]
       clear hW
       refine Zu 0 rfl rfl (.pointer (some ⟨W18.heap.size, 0, none⟩)) ⟨M2, M4, hSA, M7, M10, M14, M16, M19, (hl.below HB), (hR.below HB), (hO.below HB), (hTy.below HB), trivial⟩ ?_
       refine Zt 1 rfl rfl (.int .i64 (((crs x ty st l).lg R i).arr)) (fun w9 h9 => ex_load1 rfl (h9.2.2.2.2.2.2.2.1.cell 0 rfl) (by kernel_rfl) Tryd.underlying3 rfl) ⟨M2, M4, hSA, M7, M10, M14, M16, M19, (hl.below HB), (hR.below HB), (hO.below HB), (hTy.below HB), trivial⟩ ?_
       refine Zu 2 rfl rfl (.int .i64 (((crs x ty st l).lg R i).dep)) ⟨M2, M4, hSA, M7, M10, M14, M16, M19, (hl.below HB), (hR.below HB), (hO.below HB), (hTy.below HB), trivial⟩ ?_
       refine Zt 3 rfl rfl (.bool false) (fun w9 _ => ex_bool (decide (((crs x ty st l).lg R i).arr < ((crs x ty st l).lg R i).dep)) false (by kernel_rfl) (decide_eq_false (by omega))) ⟨M2, M4, hSA, M7, M10, M14, M16, M19, (hl.below HB), (hR.below HB), (hO.below HB), (hTy.below HB), trivial⟩ ?_
       refine Zu 4 rfl rfl (.bool false) ⟨M2, M4, hSA, M7, M10, M14, M16, M19, (hl.below HB), (hR.below HB), (hO.below HB), (hTy.below HB), trivial⟩ ?_
       refine Zu 5 rfl rfl (.pointer (some ⟨W18.heap.size, 0, none⟩)) ⟨M2, M4, hSA, M7, M10, M14, M16, M19, (hl.below HB), (hR.below HB), (hO.below HB), (hTy.below HB), trivial⟩ ?_
       refine Zt 6 rfl rfl (.int .i64 (((crs x ty st l).lg R i).arr)) (fun w9 h9 => ex_load1 rfl (h9.2.2.2.2.2.2.2.1.cell 0 rfl) (by kernel_rfl) Tryd.underlying3 rfl) ⟨M2, M4, hSA, M7, M10, M14, M16, M19, (hl.below HB), (hR.below HB), (hO.below HB), (hTy.below HB), trivial⟩ ?_
       refine Zu 7 rfl rfl (.pointer (some ⟨W15.heap.size, 2, none⟩)) ⟨M2, M4, hSA, M7, M10, M14, M16, M19, (hl.below HB), (hR.below HB), (hO.below HB), (hTy.below HB), trivial⟩ ?_
       refine Zt 8 rfl rfl (.int .i64 ((x.ol.getD ((l.getD i (0, false)).1.toNat) or0).dc)) (fun w9 h9 => ex_load1 rfl (h9.2.2.2.2.2.2.1.cell 2 rfl) (by kernel_rfl) Tryd.underlying3 rfl) ⟨M2, M4, hSA, M7, M10, M14, M16, M19, (hl.below HB), (hR.below HB), (hO.below HB), (hTy.below HB), trivial⟩ ?_
       refine Zt 9 rfl rfl (.bool false) (fun w9 _ => ex_bool (decide (((crs x ty st l).lg R i).arr > (x.ol.getD ((l.getD i (0, false)).1.toNat) or0).dc)) false (by kernel_rfl) (decide_eq_false (by omega))) ⟨M2, M4, hSA, M7, M10, M14, M16, M19, (hl.below HB), (hR.below HB), (hO.below HB), (hTy.below HB), trivial⟩ ?_
       refine Zu 10 rfl rfl (.bool false) ⟨M2, M4, hSA, M7, M10, M14, M16, M19, (hl.below HB), (hR.below HB), (hO.below HB), (hTy.below HB), trivial⟩ ?_
       refine Zu 11 rfl rfl (.bool false) ⟨M2, M4, hSA, M7, M10, M14, M16, M19, (hl.below HB), (hR.below HB), (hO.below HB), (hTy.below HB), trivial⟩ ?_
       refine Zu 12 rfl rfl (.pointer (some ⟨W18.heap.size, 1, none⟩)) ⟨M2, M4, hSA, M7, M10, M14, M16, M19, (hl.below HB), (hR.below HB), (hO.below HB), (hTy.below HB), trivial⟩ ?_
       refine Zt 13 rfl rfl (.int .i64 (((crs x ty st l).lg R i).beg)) (fun w9 h9 => ex_load1 rfl (h9.2.2.2.2.2.2.2.1.cell 1 rfl) (by kernel_rfl) Tryd.underlying3 rfl) ⟨M2, M4, hSA, M7, M10, M14, M16, M19, (hl.below HB), (hR.below HB), (hO.below HB), (hTy.below HB), trivial⟩ ?_
       refine Zu 14 rfl rfl (.pointer (some ⟨W18.heap.size, 0, none⟩)) ⟨M2, M4, hSA, M7, M10, M14, M16, M19, (hl.below HB), (hR.below HB), (hO.below HB), (hTy.below HB), trivial⟩ ?_
       refine Zt 15 rfl rfl (.int .i64 (((crs x ty st l).lg R i).arr)) (fun w9 h9 => ex_load1 rfl (h9.2.2.2.2.2.2.2.1.cell 0 rfl) (by kernel_rfl) Tryd.underlying3 rfl) ⟨M2, M4, hSA, M7, M10, M14, M16, M19, (hl.below HB), (hR.below HB), (hO.below HB), (hTy.below HB), trivial⟩ ?_
       refine Zu 16 rfl rfl (.pointer (some ⟨W15.heap.size, 1, none⟩)) ⟨M2, M4, hSA, M7, M10, M14, M16, M19, (hl.below HB), (hR.below HB), (hO.below HB), (hTy.below HB), trivial⟩ ?_
       refine Zt 17 rfl rfl (.int .i64 ((x.ol.getD ((l.getD i (0, false)).1.toNat) or0).dd)) (fun w9 h9 => ex_load1 rfl (h9.2.2.2.2.2.2.1.cell 1 rfl) (by kernel_rfl) Tryd.underlying3 rfl) ⟨M2, M4, hSA, M7, M10, M14, M16, M19, (hl.below HB), (hR.below HB), (hO.below HB), (hTy.below HB), trivial⟩ ?_
       refine Zt 18 rfl rfl (.int .i64 (((crs x ty st l).lg R i).beg)) (fun w9 _ => by rw [hbeg]; kernel_rfl) ⟨M2, M4, hSA, M7, M10, M14, M16, M19, (hl.below HB), (hR.below HB), (hO.below HB), (hTy.below HB), trivial⟩ ?_
       refine Zt 19 rfl rfl (.bool false) (fun w9 _ => ex_bool ((((crs x ty st l).lg R i).beg : Int) != (((crs x ty st l).lg R i).beg : Int)) false (by kernel_rfl) (by simp)) ⟨M2, M4, hSA, M7, M10, M14, M16, M19, (hl.below HB), (hR.below HB), (hO.below HB), (hTy.below HB), trivial⟩ ?_
       refine Zu 20 rfl rfl (.bool false) ⟨M2, M4, hSA, M7, M10, M14, M16, M19, (hl.below HB), (hR.below HB), (hO.below HB), (hTy.below HB), trivial⟩ ?_
       refine Zu 21 rfl rfl (.bool false) ⟨M2, M4, hSA, M7, M10, M14, M16, M19, (hl.below HB), (hR.below HB), (hO.below HB), (hTy.below HB), trivial⟩ ?_
       refine Zu 22 rfl rfl (.pointer (some ⟨W18.heap.size, 2, none⟩)) ⟨M2, M4, hSA, M7, M10, M14, M16, M19, (hl.below HB), (hR.below HB), (hO.below HB), (hTy.below HB), trivial⟩ ?_
       refine Zt 23 rfl rfl (.int .i64 (((crs x ty st l).lg R (i + 1)).dep)) (fun w9 h9 => ex_load1 rfl (h9.2.2.2.2.2.2.2.1.cell 2 rfl) (by kernel_rfl) Tryd.underlying3 rfl) ⟨M2, M4, hSA, M7, M10, M14, M16, M19, (hl.below HB), (hR.below HB), (hO.below HB), (hTy.below HB), trivial⟩ ?_
       refine Zu 24 rfl rfl (.int .i64 ((((crs x ty st l).lg R i).beg + (x.ol.getD ((l.getD i (0, false)).1.toNat) or0).ds) + (x.tl.getD ty.toNat ty0).rst)) ⟨M2, M4, hSA, M7, M10, M14, M16, M19, (hl.below HB), (hR.below HB), (hO.below HB), (hTy.below HB), trivial⟩ ?_
       refine Zt 25 rfl rfl (.bool false) (fun w9 _ => ex_bool ((((crs x ty st l).lg R (i + 1)).dep : Int) != (((((crs x ty st l).lg R i).beg + (x.ol.getD ((l.getD i (0, false)).1.toNat) or0).ds) + (x.tl.getD ty.toNat ty0).rst) : Int)) false (by kernel_rfl) (by rw [bne_eq_false_iff_eq]; omega)) ⟨M2, M4, hSA, M7, M10, M14, M16, M19, (hl.below HB), (hR.below HB), (hO.below HB), (hTy.below HB), trivial⟩ ?_
       refine Zu 26 rfl rfl (.bool false) ⟨M2, M4, hSA, M7, M10, M14, M16, M19, (hl.below HB), (hR.below HB), (hO.below HB), (hTy.below HB), trivial⟩ ?_
       refine Zu 27 rfl rfl (.bool false) ⟨M2, M4, hSA, M7, M10, M14, M16, M19, (hl.below HB), (hR.below HB), (hO.below HB), (hTy.below HB), trivial⟩ ?_
       refine Zu 28 rfl rfl (.pointer (some ⟨W18.heap.size, 3, none⟩)) ⟨M2, M4, hSA, M7, M10, M14, M16, M19, (hl.below HB), (hR.below HB), (hO.below HB), (hTy.below HB), trivial⟩ ?_
       refine Zt 29 rfl rfl (.bool (R.getD (i + 1) false)) (fun w9 h9 => ex_load1 rfl (h9.2.2.2.2.2.2.2.1.cell 3 rfl) (by kernel_rfl) Tryd.underlying4 rfl) ⟨M2, M4, hSA, M7, M10, M14, M16, M19, (hl.below HB), (hR.below HB), (hO.below HB), (hTy.below HB), trivial⟩ ?_
       refine Zu 30 rfl rfl (.slice oR R.length cR) ⟨M2, M4, hSA, M7, M10, M14, M16, M19, (hl.below HB), (hR.below HB), (hO.below HB), (hTy.below HB), trivial⟩ ?_
       refine Zu 31 rfl rfl (.int .i64 ((i : Nat) : Int)) ⟨M2, M4, hSA, M7, M10, M14, M16, M19, (hl.below HB), (hR.below HB), (hO.below HB), (hTy.below HB), trivial⟩ ?_
       refine Zt 32 rfl rfl (.int .i64 ((i + 1 : Nat) : Int)) (fun w9 _ => ex_int .i64 (IntKind.i64.wrap (((i : Nat) : Int) + 1)) (((i + 1 : Nat) : Int)) (by kernel_rfl) (by rw [IntKind.wrap_i64]; omega)) ⟨M2, M4, hSA, M7, M10, M14, M16, M19, (hl.below HB), (hR.below HB), (hO.below HB), (hTy.below HB), trivial⟩ ?_
       refine Zt 33 rfl rfl (.pointer (some ⟨bR, qR + (i + 1) * 1, none⟩)) (fun w9 h9 => ex_indexO (q := qR) (m := R.length) (c := cR) (k := i + 1) (s := 1) rfl (by kernel_rfl) (h9.2.2.2.2.2.2.2.2.2.1.oa (k := i + 1) (by omega)) (by kernel_rfl) Tryd.underlying31 (by kernel_rfl) (by omega) (by omega)) ⟨M2, M4, hSA, M7, M10, M14, M16, M19, (hl.below HB), (hR.below HB), (hO.below HB), (hTy.below HB), trivial⟩ ?_
       refine Zt 34 rfl rfl (.bool (R.getD (i + 1) false)) (fun w9 h9 => ex_load1 rfl (h9.2.2.2.2.2.2.2.2.2.1.cell (k := i + 1) (by omega) 0 rfl) (by kernel_rfl) Tryd.underlying4 rfl) ⟨M2, M4, hSA, M7, M10, M14, M16, M19, (hl.below HB), (hR.below HB), (hO.below HB), (hTy.below HB), trivial⟩ ?_
       refine Zt 35 rfl rfl (.bool false) (fun w9 _ => ex_bool (((R.getD (i + 1) false) != (R.getD (i + 1) false))) false (by kernel_rfl) (by simp)) ⟨M2, M4, hSA, M7, M10, M14, M16, M19, (hl.below HB), (hR.below HB), (hO.below HB), (hTy.below HB), trivial⟩ ?_
       refine Zu 36 rfl rfl (.bool false) ⟨M2, M4, hSA, M7, M10, M14, M16, M19, (hl.below HB), (hR.below HB), (hO.below HB), (hTy.below HB), trivial⟩ ?_
       refine sd_done (by kernel_rfl) ?_
       refine sx_norm ?_
       refine sx_false (by kernel_rfl) ?_
       refine wp_skip ?_
       refine sx_norm ?_
       refine wp_region_lit ?_
       refine Zv rfl (.pointer (some ⟨W18.heap.size, 2, none⟩)) ?_
       refine Zw rfl (.int .i64 (((crs x ty st l).lg R (i + 1)).dep)) (ex_load1 rfl (M19.cell 2 rfl) (by kernel_rfl) Tryd.underlying3 rfl) ?_
       refine Zv rfl (.int .i64 (((crs x ty st l).lg R (i + 1)).dep)) ?_
       refine wpList_nil ?_
       refine sx_in ?_
       refine sx_norm ?_
       refine wp_region_lit ?_
       refine sx_int (by kernel_rfl) rfl rfl .i64 (IntKind.i64.wrap (((i : Nat) : Int) + 1)) (((i + 1 : Nat) : Int)) (by kernel_rfl) (by rw [IntKind.wrap_i64]; omega) ?_
       refine Zv rfl (.int .i64 ((i + 1 : Nat) : Int)) ?_
       refine wpList_nil ?_
       refine sx_norm ?_
       exact sx_again (l.length - (i + 1)) (i + 1) (by omega) (by kernel_rfl) ⟨by omega, Nat.le_refl _, HL⟩
      refine Zw rfl (.bool false) (ex_load1 (v := .bool false) rfl (by have h8 := (hR.below HB).cell (k := i + 1) (by omega) 0 rfl; rw [show (R.getD (i + 1) false) = false by simpa using C6] at h8; exact h8) (by kernel_rfl) Tryd.underlying4 rfl) ?_
      refine wpList_nil ?_
      refine sx_norm ?_
      refine sx_false (by kernel_rfl) ?_
      refine wp_skip ?_
      refine sx_norm ?_
      refine wp_seq ?_
      refine wp_seq ?_
      replace hdp : ((crs x ty st l).lg R (i + 1)).dep = (((crs x ty st l).lg R i).beg + (x.ol.getD ((l.getD i (0, false)).1.toNat) or0).ds) := by rw [hdp]; first | (rw [if_pos (by assumption)]; done) | (rw [if_neg (by assumption)]; done)
      obtain ⟨Y22, hW⟩ : ∃ W, W20.drew = W := ⟨_, rfl⟩
      have hb : Below W20.heap.size W20 Y22 := hW ▸ below_drew (Below.refl _ _)
      replace HB := over HB hb
      replace M2 := M2.below hb
      replace M4 := M4.below hb
      replace hSA := hSA.below hb
      replace M7 := M7.below hb
      replace M10 := M10.below hb
      replace HL := over HL hb
      replace M14 := M14.below hb
      replace M16 := M16.below hb
      replace M19 := M19.below hb
      have z14 := hb.size
      clear hb
      refine sd_begin (fun W => Cb W (w.heap.size) (iK k x) 30 ∧ Cb W (W1.heap.size) (rK ty st orr F.length cr oa l.length ca) 34 ∧ Rw W bA qA 4 (fun k => [.int .i64 ((crs x ty st l).lg R k).arr, .int .i64 ((crs x ty st l).lg R k).beg, .int .i64 ((crs x ty st l).lg R (k + 1)).dep, .bool (R.getD (k + 1) false)]) (((crs x ty st l).sheet R).T.length) oA ∧ Cb W (W6.heap.size) #[.bool (R.getD 0 false), .int .i64 (((crs x ty st l).lg R 0).dep), .slice oA ((crs x ty st l).sheet R).T.length cA, .int .i64 (((crs x ty st l).lg R ((crs x ty st l).n - 1)).arr), .int .i64 ((crs x ty st l).mil R (crs x ty st l).n)] 39 ∧ Cb W (W9.heap.size) #[.string (x.tl.getD ty.toNat ty0).name, .int .i64 ((x.tl.getD ty.toNat ty0).count), .int .i64 ((x.tl.getD ty.toNat ty0).fr), .int .i64 ((x.tl.getD ty.toNat ty0).to), .slice (va ty.toNat) (x.tl.getD ty.toNat ty0).cap.length (vb ty.toNat), .int .i64 ((x.tl.getD ty.toNat ty0).skills), .int .i64 ((x.tl.getD ty.toNat ty0).prof), .int .i64 ((x.tl.getD ty.toNat ty0).opn), .int .i64 ((x.tl.getD ty.toNat ty0).cls), .int .i64 ((x.tl.getD ty.toNat ty0).drv), .int .i64 ((x.tl.getD ty.toNat ty0).rst), .int .i64 ((x.tl.getD ty.toNat ty0).fix), .int .i64 ((x.tl.getD ty.toNat ty0).pm), .int .i64 ((x.tl.getD ty.toNat ty0).pt)] 56 ∧ Cb W (wr13.heap.size) #[.int .i64 ((l.getD i (0, false)).1), .bool (l.getD i (0, false)).2] 58 ∧ Cb W (W15.heap.size) #[.int .i64 ((x.ol.getD ((l.getD i (0, false)).1.toNat) or0).dp), .int .i64 ((x.ol.getD ((l.getD i (0, false)).1.toNat) or0).dd), .int .i64 ((x.ol.getD ((l.getD i (0, false)).1.toNat) or0).dc), .int .i64 ((x.ol.getD ((l.getD i (0, false)).1.toNat) or0).ds)] 60 ∧ Cb W (W18.heap.size) #[.int .i64 (((crs x ty st l).lg R i).arr), .int .i64 (((crs x ty st l).lg R i).beg), .int .i64 (((crs x ty st l).lg R (i + 1)).dep), .bool (R.getD (i + 1) false)] 53 ∧ Rw W b o 2 (vF l) l.length oa ∧ Rw W bR qR 1 (bF R) R.length oR ∧ Rw W bo qo 16 (oF x.ol vo) x.ol.length k.o3 ∧ Rw W bt qt 14 (tyF x.tl va vb) x.tl.length k.o2 ∧ True) (by kernel_rfl) (by rw [hW]; exact ⟨M2, M4, hSA, M7, M10, M14, M16, M19, (hl.below HB), (hR.below HB), (hO.below HB), (hTy.below HB), trivial⟩) ?_
      rw [hW]
      clear hW
      refine Zu 0 rfl rfl (.pointer (some ⟨W18.heap.size, 0, none⟩)) ⟨M2, M4, hSA, M7, M10, M14, M16, M19, (hl.below HB), (hR.below HB), (hO.below HB), (hTy.below HB), trivial⟩ ?_
      refine Zt 1 rfl rfl (.int .i64 (((crs x ty st l).lg R i).arr)) (fun w9 h9 => ex_load1 rfl (h9.2.2.2.2.2.2.2.1.cell 0 rfl) (by kernel_rfl) Tryd.underlying3 rfl) ⟨M2, M4, hSA, M7, M10, M14, M16, M19, (hl.below HB), (hR.below HB), (hO.below HB), (hTy.below HB), trivial⟩ ?_
      refine Zu 2 rfl rfl (.int .i64 (((crs x ty st l).lg R i).dep)) ⟨M2, M4, hSA, M7, M10, M14, M16, M19, (hl.below HB), (hR.below HB), (hO.below HB), (hTy.below HB), trivial⟩ ?_
      refine Zt 3 rfl rfl (.bool false) (fun w9 _ => ex_bool (decide (((crs x ty st l).lg R i).arr < ((crs x ty st l).lg R i).dep)) false (by kernel_rfl) (decide_eq_false (by omega))) ⟨M2, M4, hSA, M7, M10, M14, M16, M19, (hl.below HB), (hR.below HB), (hO.below HB), (hTy.below HB), trivial⟩ ?_
      refine Zu 4 rfl rfl (.bool false) ⟨M2, M4, hSA, M7, M10, M14, M16, M19, (hl.below HB), (hR.below HB), (hO.below HB), (hTy.below HB), trivial⟩ ?_
      refine Zu 5 rfl rfl (.pointer (some ⟨W18.heap.size, 0, none⟩)) ⟨M2, M4, hSA, M7, M10, M14, M16, M19, (hl.below HB), (hR.below HB), (hO.below HB), (hTy.below HB), trivial⟩ ?_
      refine Zt 6 rfl rfl (.int .i64 (((crs x ty st l).lg R i).arr)) (fun w9 h9 => ex_load1 rfl (h9.2.2.2.2.2.2.2.1.cell 0 rfl) (by kernel_rfl) Tryd.underlying3 rfl) ⟨M2, M4, hSA, M7, M10, M14, M16, M19, (hl.below HB), (hR.below HB), (hO.below HB), (hTy.below HB), trivial⟩ ?_
      refine Zu 7 rfl rfl (.pointer (some ⟨W15.heap.size, 2, none⟩)) ⟨M2, M4, hSA, M7, M10, M14, M16, M19, (hl.below HB), (hR.below HB), (hO.below HB), (hTy.below HB), trivial⟩ ?_
      refine Zt 8 rfl rfl (.int .i64 ((x.ol.getD ((l.getD i (0, false)).1.toNat) or0).dc)) (fun w9 h9 => ex_load1 rfl (h9.2.2.2.2.2.2.1.cell 2 rfl) (by kernel_rfl) Tryd.underlying3 rfl) ⟨M2, M4, hSA, M7, M10, M14, M16, M19, (hl.below HB), (hR.below HB), (hO.below HB), (hTy.below HB), trivial⟩ ?_
      refine Zt 9 rfl rfl (.bool false) (fun w9 _ => ex_bool (decide (((crs x ty st l).lg R i).arr > (x.ol.getD ((l.getD i (0, false)).1.toNat) or0).dc)) false (by kernel_rfl) (decide_eq_false (by omega))) ⟨M2, M4, hSA, M7, M10, M14, M16, M19, (hl.below HB), (hR.below HB), (hO.below HB), (hTy.below HB), trivial⟩ ?_
      refine Zu 10 rfl rfl (.bool false) ⟨M2, M4, hSA, M7, M10, M14, M16, M19, (hl.below HB), (hR.below HB), (hO.below HB), (hTy.below HB), trivial⟩ ?_
      refine Zu 11 rfl rfl (.bool false) ⟨M2, M4, hSA, M7, M10, M14, M16, M19, (hl.below HB), (hR.below HB), (hO.below HB), (hTy.below HB), trivial⟩ ?_
      refine Zu 12 rfl rfl (.pointer (some ⟨W18.heap.size, 1, none⟩)) ⟨M2, M4, hSA, M7, M10, M14, M16, M19, (hl.below HB), (hR.below HB), (hO.below HB), (hTy.below HB), trivial⟩ ?_
      refine Zt 13 rfl rfl (.int .i64 (((crs x ty st l).lg R i).beg)) (fun w9 h9 => ex_load1 rfl (h9.2.2.2.2.2.2.2.1.cell 1 rfl) (by kernel_rfl) Tryd.underlying3 rfl) ⟨M2, M4, hSA, M7, M10, M14, M16, M19, (hl.below HB), (hR.below HB), (hO.below HB), (hTy.below HB), trivial⟩ ?_
      refine Zu 14 rfl rfl (.pointer (some ⟨W18.heap.size, 0, none⟩)) ⟨M2, M4, hSA, M7, M10, M14, M16, M19, (hl.below HB), (hR.below HB), (hO.below HB), (hTy.below HB), trivial⟩ ?_
      refine Zt 15 rfl rfl (.int .i64 (((crs x ty st l).lg R i).arr)) (fun w9 h9 => ex_load1 rfl (h9.2.2.2.2.2.2.2.1.cell 0 rfl) (by kernel_rfl) Tryd.underlying3 rfl) ⟨M2, M4, hSA, M7, M10, M14, M16, M19, (hl.below HB), (hR.below HB), (hO.below HB), (hTy.below HB), trivial⟩ ?_
      refine Zu 16 rfl rfl (.pointer (some ⟨W15.heap.size, 1, none⟩)) ⟨M2, M4, hSA, M7, M10, M14, M16, M19, (hl.below HB), (hR.below HB), (hO.below HB), (hTy.below HB), trivial⟩ ?_
      refine Zt 17 rfl rfl (.int .i64 ((x.ol.getD ((l.getD i (0, false)).1.toNat) or0).dd)) (fun w9 h9 => ex_load1 rfl (h9.2.2.2.2.2.2.1.cell 1 rfl) (by kernel_rfl) Tryd.underlying3 rfl) ⟨M2, M4, hSA, M7, M10, M14, M16, M19, (hl.below HB), (hR.below HB), (hO.below HB), (hTy.below HB), trivial⟩ ?_
      refine Zt 18 rfl rfl (.int .i64 (((crs x ty st l).lg R i).beg)) (fun w9 _ => by rw [hbeg]; kernel_rfl) ⟨M2, M4, hSA, M7, M10, M14, M16, M19, (hl.below HB), (hR.below HB), (hO.below HB), (hTy.below HB), trivial⟩ ?_
      refine Zt 19 rfl rfl (.bool false) (fun w9 _ => ex_bool ((((crs x ty st l).lg R i).beg : Int) != (((crs x ty st l).lg R i).beg : Int)) false (by kernel_rfl) (by simp)) ⟨M2, M4, hSA, M7, M10, M14, M16, M19, (hl.below HB), (hR.below HB), (hO.below HB), (hTy.below HB), trivial⟩ ?_
      refine Zu 20 rfl rfl (.bool false) ⟨M2, M4, hSA, M7, M10, M14, M16, M19, (hl.below HB), (hR.below HB), (hO.below HB), (hTy.below HB), trivial⟩ ?_
      refine Zu 21 rfl rfl (.bool false) ⟨M2, M4, hSA, M7, M10, M14, M16, M19, (hl.below HB), (hR.below HB), (hO.below HB), (hTy.below HB), trivial⟩ ?_
      refine Zu 22 rfl rfl (.pointer (some ⟨W18.heap.size, 2, none⟩)) ⟨M2, M4, hSA, M7, M10, M14, M16, M19, (hl.below HB), (hR.below HB), (hO.below HB), (hTy.below HB), trivial⟩ ?_
      refine Zt 23 rfl rfl (.int .i64 (((crs x ty st l).lg R (i + 1)).dep)) (fun w9 h9 => ex_load1 rfl (h9.2.2.2.2.2.2.2.1.cell 2 rfl) (by kernel_rfl) Tryd.underlying3 rfl) ⟨M2, M4, hSA, M7, M10, M14, M16, M19, (hl.below HB), (hR.below HB), (hO.below HB), (hTy.below HB), trivial⟩ ?_
      refine Zu 24 rfl rfl (.int .i64 (((crs x ty st l).lg R i).beg + (x.ol.getD ((l.getD i (0, false)).1.toNat) or0).ds)) ⟨M2, M4, hSA, M7, M10, M14, M16, M19, (hl.below HB), (hR.below HB), (hO.below HB), (hTy.below HB), trivial⟩ ?_
      refine Zt 25 rfl rfl (.bool false) (fun w9 _ => ex_bool ((((crs x ty st l).lg R (i + 1)).dep : Int) != ((((crs x ty st l).lg R i).beg + (x.ol.getD ((l.getD i (0, false)).1.toNat) or0).ds) : Int)) false (by kernel_rfl) (by rw [bne_eq_false_iff_eq]; omega)) ⟨M2, M4, hSA, M7, M10, M14, M16, M19, (hl.below HB), (hR.below HB), (hO.below HB), (hTy.below HB), trivial⟩ ?_
      refine Zu 26 rfl rfl (.bool false) ⟨M2, M4, hSA, M7, M10, M14, M16, M19, (hl.below HB), (hR.below HB), (hO.below HB), (hTy.below HB), trivial⟩ ?_
      refine Zu 27 rfl rfl (.bool false) ⟨M2, M4, hSA, M7, M10, M14, M16, M19, (hl.below HB), (hR.below HB), (hO.below HB), (hTy.below HB), trivial⟩ ?_
      refine Zu 28 rfl rfl (.pointer (some ⟨W18.heap.size, 3, none⟩)) ⟨M2, M4, hSA, M7, M10, M14, M16, M19, (hl.below HB), (hR.below HB), (hO.below HB), (hTy.below HB), trivial⟩ ?_
      refine Zt 29 rfl rfl (.bool (R.getD (i + 1) false)) (fun w9 h9 => ex_load1 rfl (h9.2.2.2.2.2.2.2.1.cell 3 rfl) (by kernel_rfl) Tryd.underlying4 rfl) ⟨M2, M4, hSA, M7, M10, M14, M16, M19, (hl.below HB), (hR.below HB), (hO.below HB), (hTy.below HB), trivial⟩ ?_
      refine Zu 30 rfl rfl (.slice oR R.length cR) ⟨M2, M4, hSA, M7, M10, M14, M16, M19, (hl.below HB), (hR.below HB), (hO.below HB), (hTy.below HB), trivial⟩ ?_
      refine Zu 31 rfl rfl (.int .i64 ((i : Nat) : Int)) ⟨M2, M4, hSA, M7, M10, M14, M16, M19, (hl.below HB), (hR.below HB), (hO.below HB), (hTy.below HB), trivial⟩ ?_
      refine Zt 32 rfl rfl (.int .i64 ((i + 1 : Nat) : Int)) (fun w9 _ => ex_int .i64 (IntKind.i64.wrap (((i : Nat) : Int) + 1)) (((i + 1 : Nat) : Int)) (by kernel_rfl) (by rw [IntKind.wrap_i64]; omega)) ⟨M2, M4, hSA, M7, M10, M14, M16, M19, (hl.below HB), (hR.below HB), (hO.below HB), (hTy.below HB), trivial⟩ ?_
      refine Zt 33 rfl rfl (.pointer (some ⟨bR, qR + (i + 1) * 1, none⟩)) (fun w9 h9 => ex_indexO (q := qR) (m := R.length) (c := cR) (k := i + 1) (s := 1) rfl (by kernel_rfl) (h9.2.2.2.2.2.2.2.2.2.1.oa (k := i + 1) (by omega)) (by kernel_rfl) Tryd.underlying31 (by kernel_rfl) (by omega) (by omega)) ⟨M2, M4, hSA, M7, M10, M14, M16, M19, (hl.below HB), (hR.below HB), (hO.below HB), (hTy.below HB), trivial⟩ ?_
      refine Zt 34 rfl rfl (.bool (R.getD (i + 1) false)) (fun w9 h9 => ex_load1 rfl (h9.2.2.2.2.2.2.2.2.2.1.cell (k := i + 1) (by omega) 0 rfl) (by kernel_rfl) Tryd.underlying4 rfl) ⟨M2, M4, hSA, M7, M10, M14, M16, M19, (hl.below HB), (hR.below HB), (hO.below HB), (hTy.below HB), trivial⟩ ?_
      refine Zt 35 rfl rfl (.bool false) (fun w9 _ => ex_bool (((R.getD (i + 1) false) != (R.getD (i + 1) false))) false (by kernel_rfl) (by simp)) ⟨M2, M4, hSA, M7, M10, M14, M16, M19, (hl.below HB), (hR.below HB), (hO.below HB), (hTy.below HB), trivial⟩ ?_
      refine Zu 36 rfl rfl (.bool false) ⟨M2, M4, hSA, M7, M10, M14, M16, M19, (hl.below HB), (hR.below HB), (hO.below HB), (hTy.below HB), trivial⟩ ?_
      refine sd_done (by kernel_rfl) ?_
      refine sx_norm ?_
      refine sx_false (by kernel_rfl) ?_
      refine wp_skip ?_
      refine sx_norm ?_
      refine wp_region_lit ?_
      refine Zv rfl (.pointer (some ⟨W18.heap.size, 2, none⟩)) ?_
      refine Zw rfl (.int .i64 (((crs x ty st l).lg R (i + 1)).dep)) (ex_load1 rfl (M19.cell 2 rfl) (by kernel_rfl) Tryd.underlying3 rfl) ?_
      refine Zv rfl (.int .i64 (((crs x ty st l).lg R (i + 1)).dep)) ?_
      refine wpList_nil ?_
      refine sx_in ?_
      refine sx_norm ?_
      refine wp_region_lit ?_
      refine sx_int (by kernel_rfl) rfl rfl .i64 (IntKind.i64.wrap (((i : Nat) : Int) + 1)) (((i + 1 : Nat) : Int)) (by kernel_rfl) (by rw [IntKind.wrap_i64]; omega) ?_
      refine Zv rfl (.int .i64 ((i + 1 : Nat) : Int)) ?_
      refine wpList_nil ?_
      refine sx_norm ?_
      exact sx_again (l.length - (i + 1)) (i + 1) (by omega) (by kernel_rfl) ⟨by omega, Nat.le_refl _, HL⟩
     refine Zw rfl (.bool false) (ex_load1 (v := .bool false) rfl (by have h8 := M14.cell 1 rfl; rw [show (l.getD i (0, false)).2 = false by simpa using C5] at h8; exact h8) (by kernel_rfl) Tryd.underlying4 rfl) ?_
     refine wpList_nil ?_
     refine sx_norm ?_
     refine sx_false (by kernel_rfl) ?_
     refine wp_skip ?_
     refine sx_norm ?_
     refine wp_seq ?_
     have hdv : (l.getD i (0, false)).2 = false := by simpa using (by assumption : ¬ (l.getD i (0, false)).2 = true)
     rw [hdv] at hlg hbeg hdp hsb
     have hq9 : stQ (x.ol.getD (l.getD i (0, false)).1.toNat or0) false = ⟨(x.ol.getD (l.getD i (0, false)).1.toNat or0).pp, (x.ol.getD (l.getD i (0, false)).1.toNat or0).po, (x.ol.getD (l.getD i (0, false)).1.toNat or0).pc, (x.ol.getD (l.getD i (0, false)).1.toNat or0).ps⟩ := rfl
     rw [hq9] at hlg hbeg hdp hsb
     dsimp only at hlg hbeg hdp hsb
     refine wp_region_lit ?_
     refine Zv rfl (.pointer (some ⟨W6.heap.size, 2, none⟩)) ?_
     refine Zw rfl (.slice oA ((crs x ty st l).sheet R).T.length cA) (ex_load1 rfl (M7.cell 2 rfl) (by kernel_rfl) Tryd.underlying37 rfl) ?_
     refine Zv rfl (.int .i64 ((i : Nat) : Int)) ?_
     refine Zw rfl (.pointer (some ⟨bA, qA + i * 4, none⟩)) (ex_indexO (q := qA) (m := ((crs x ty st l).sheet R).T.length) (c := cA) (k := i) (s := 4) rfl (by kernel_rfl) (hSA.oa (k := i) (by omega)) (by kernel_rfl) Tryd.underlying37 (by kernel_rfl) (by omega) (by omega)) ?_
     refine Zw rfl (.agg #[.int .i64 (((crs x ty st l).lg R i).arr), .int .i64 (((crs x ty st l).lg R i).beg), .int .i64 (((crs x ty st l).lg R (i + 1)).dep), .bool (R.getD (i + 1) false)]) (ex_loadR rfl (hSA.range (k := i) (by omega)) (by kernel_rfl) Tryd.underlying53 rfl (by kernel_rfl)) ?_
     obtain ⟨W24, hW⟩ : ∃ W, (W17.alloc (.cells #[.int .i64 0, .int .i64 0, .int .i64 0, .bool false] 53)).setRow W17.heap.size #[.int .i64 (((crs x ty st l).lg R i).arr), .int .i64 (((crs x ty st l).lg R i).beg), .int .i64 (((crs x ty st l).lg R (i + 1)).dep), .bool (R.getD (i + 1) false)] = W := ⟨_, rfl⟩
     have hb := hW ▸ below_var W17 (.cells #[.int .i64 0, .int .i64 0, .int .i64 0, .bool false] 53) #[.int .i64 (((crs x ty st l).lg R i).arr), .int .i64 (((crs x ty st l).lg R i).beg), .int .i64 (((crs x ty st l).lg R (i + 1)).dep), .bool (R.getD (i + 1) false)]
     have hq : Cb W24 W17.heap.size #[.int .i64 (((crs x ty st l).lg R i).arr), .int .i64 (((crs x ty st l).lg R i).beg), .int .i64 (((crs x ty st l).lg R (i + 1)).dep), .bool (R.getD (i + 1) false)] 53 := hW ▸ Cb.row (Cb.made W17 #[.int .i64 0, .int .i64 0, .int .i64 0, .bool false] 53) _
     refine sx_mem (by kernel_rfl) rfl rfl (.pointer (some ⟨W17.heap.size, 0, none⟩)) (W17.alloc (.cells #[.int .i64 0, .int .i64 0, .int .i64 0, .bool false] 53)) (by kernel_rfl) ?_
     refine sx_store (cells := #[.int .i64 (((crs x ty st l).lg R i).arr), .int .i64 (((crs x ty st l).lg R i).beg), .int .i64 (((crs x ty st l).lg R (i + 1)).dep), .bool (R.getD (i + 1) false)]) (by kernel_rfl) rfl rfl (Cb.made W17 #[.int .i64 0, .int .i64 0, .int .i64 0, .bool false] 53) (by kernel_rfl) (by kernel_rfl) (by kernel_rfl) (by kernel_rfl) (by kernel_rfl) ?_
     rw [hW]
     replace HB := over HB hb
     replace M2 := M2.below hb
     replace M4 := M4.below hb
     replace hSA := hSA.below hb
     replace M7 := M7.below hb
     replace M10 := M10.below hb
     replace HL := over HL hb
     replace M14 := M14.below hb
     replace M16 := M16.below hb
     have z12 := hb.size
     have M23 := hq
     have yM23 := hq.lt
     clear hq hb hW
     refine wpList_nil ?_
     refine sx_norm ?_
     refine wp_seq ?_
     refine wp_region_lit ?_
     refine Zv rfl (.pointer (some ⟨W17.heap.size, 1, none⟩)) ?_
     refine Zw rfl (.int .i64 (((crs x ty st l).lg R i).beg)) (ex_load1 rfl (M23.cell 1 rfl) (by kernel_rfl) Tryd.underlying3 rfl) ?_
     refine Zv rfl (.pointer (some ⟨W15.heap.size, 3, none⟩)) ?_
     refine Zw rfl (.int .i64 ((x.ol.getD ((l.getD i (0, false)).1.toNat) or0).ps)) (ex_load1 rfl (M16.cell 3 rfl) (by kernel_rfl) Tryd.underlying3 rfl) ?_
     refine sx_int (by kernel_rfl) rfl rfl .i64 (IntKind.i64.wrap (((crs x ty st l).lg R i).beg + (x.ol.getD ((l.getD i (0, false)).1.toNat) or0).ps)) ((((crs x ty st l).lg R i).beg + (x.ol.getD ((l.getD i (0, false)).1.toNat) or0).ps)) (by kernel_rfl) (by rw [IntKind.wrap_i64]; omega) ?_
     refine Zv rfl (.int .i64 (((crs x ty st l).lg R i).beg + (x.ol.getD ((l.getD i (0, false)).1.toNat) or0).ps)) ?_
     refine wpList_nil ?_
     refine sx_norm ?_
     refine wp_seq ?_
     refine wp_seq ?_
     refine wp_region_lit ?_
     refine Zv rfl (.slice oR R.length cR) ?_
     refine Zv rfl (.int .i64 ((i : Nat) : Int)) ?_
     refine sx_int (by kernel_rfl) rfl rfl .i64 (IntKind.i64.wrap (((i : Nat) : Int) + 1)) (((i + 1 : Nat) : Int)) (by kernel_rfl) (by rw [IntKind.wrap_i64]; omega) ?_
     refine Zw rfl (.pointer (some ⟨bR, qR + (i + 1) * 1, none⟩)) (ex_indexO (q := qR) (m := R.length) (c := cR) (k := i + 1) (s := 1) rfl (by kernel_rfl) ((hR.below HB).oa (k := i + 1) (by omega)) (by kernel_rfl) Tryd.underlying31 (by kernel_rfl) (by omega) (by omega)) ?_
     by_cases C7 : (R.getD (i + 1) false) = true
     ·refine Zw rfl (.bool true) (ex_load1 (v := .bool true) rfl (by have h8 := (hR.below HB).cell (k := i + 1) (by omega) 0 rfl; rw [show (R.getD (i + 1) false) = true by simpa using C7] at h8; exact h8) (by kernel_rfl) Tryd.underlying4 rfl) ?_
      refine wpList_nil ?_
      refine sx_norm ?_
      refine sx_true (by kernel_rfl) ?_
      refine wp_region_lit ?_
      refine Zv rfl (.int .i64 (((crs x ty st l).lg R i).beg + (x.ol.getD ((l.getD i (0, false)).1.toNat) or0).ps)) ?_
      refine Zv rfl (.pointer (some ⟨W9.heap.size, 10, none⟩)) ?_
      refine Zw rfl (.int .i64 ((x.tl.getD ty.toNat ty0).rst)) (ex_load1 rfl (M10.cell 10 rfl) (by kernel_rfl) Tryd.underlying3 rfl) ?_
      refine sx_int (by kernel_rfl) rfl rfl .i64 (IntKind.i64.wrap ((((crs x ty st l).lg R i).beg + (x.ol.getD ((l.getD i (0, false)).1.toNat) or0).ps) + (x.tl.getD ty.toNat ty0).rst)) (((((crs x ty st l).lg R i).beg + (x.ol.getD ((l.getD i (0, false)).1.toNat) or0).ps) + (x.tl.getD ty.toNat ty0).rst)) (by kernel_rfl) (by rw [IntKind.wrap_i64]; omega) ?_
      refine Zv rfl (.int .i64 ((((crs x ty st l).lg R i).beg + (x.ol.getD ((l.getD i (0, false)).1.toNat) or0).ps) + (x.tl.getD ty.toNat ty0).rst)) ?_
      refine wpList_nil ?_
      refine sx_norm ?_
      refine wp_seq ?_
      refine wp_seq ?_
      replace hdp : ((crs x ty st l).lg R (i + 1)).dep = ((((crs x ty st l).lg R i).beg + (x.ol.getD ((l.getD i (0, false)).1.toNat) or0).ps) + (x.tl.getD ty.toNat ty0).rst) := by rw [hdp]; first | (rw [if_pos (by assumption)]; done) | (rw [if_neg (by assumption)]; done)
      obtain ⟨Y25, hW⟩ : ∃ W, W24.drew = W := ⟨_, rfl⟩
      have hb : Below W24.heap.size W24 Y25 := hW ▸ below_drew (Below.refl _ _)
      replace HB := over HB hb
      replace M2 := M2.below hb
      replace M4 := M4.below hb
      replace hSA := hSA.below hb
      replace M7 := M7.below hb
      replace M10 := M10.below hb
      replace HL := over HL hb
      replace M14 := M14.below hb
      replace M16 := M16.below hb
      replace M23 := M23.below hb
      have z13 := hb.size
      clear hb
      refine sd_begin (fun W => Cb W (w.heap.size) (iK k x) 30 ∧ Cb W (W1.heap.size) (rK ty st orr F.length cr oa l.length ca) 34 ∧ Rw W bA qA 4 (fun k => [.int .i64 ((crs x ty st l).lg R k).arr, .int .i64 ((crs x ty st l).lg R k).beg, .int .i64 ((crs x ty st l).lg R (k + 1)).dep, .bool (R.getD (k + 1) false)]) (((crs x ty st l).sheet R).T.length) oA ∧ Cb W (W6.heap.size) #[.bool (R.getD 0 false), .int .i64 (((crs x ty st l).lg R 0).dep), .slice oA ((crs x ty st l).sheet R).T.length cA, .int .i64 (((crs x ty st l).lg R ((crs x ty st l).n - 1)).arr), .int .i64 ((crs x ty st l).mil R (crs x ty st l).n)] 39 ∧ Cb W (W9.heap.size) #[.string (x.tl.getD ty.toNat ty0).name, .int .i64 ((x.tl.getD ty.toNat ty0).count), .int .i64 ((x.tl.getD ty.toNat ty0).fr), .int .i64 ((x.tl.getD ty.toNat ty0).to), .slice (va ty.toNat) (x.tl.getD ty.toNat ty0).cap.length (vb ty.toNat), .int .i64 ((x.tl.getD ty.toNat ty0).skills), .int .i64 ((x.tl.getD ty.toNat ty0).prof), .int .i64 ((x.tl.getD ty.toNat ty0).opn), .int .i64 ((x.tl.getD ty.toNat ty0).cls), .int .i64 ((x.tl.getD ty.toNat ty0).drv), .int .i64 ((x.tl.getD ty.toNat ty0).rst), .int .i64 ((x.tl.getD ty.toNat ty0).fix), .int .i64 ((x.tl.getD ty.toNat ty0).pm), .int .i64 ((x.tl.getD ty.toNat ty0).pt)] 56 ∧ Cb W (wr13.heap.size) #[.int .i64 ((l.getD i (0, false)).1), .bool (l.getD i (0, false)).2] 58 ∧ Cb W (W15.heap.size) #[.int .i64 ((x.ol.getD ((l.getD i (0, false)).1.toNat) or0).pp), .int .i64 ((x.ol.getD ((l.getD i (0, false)).1.toNat) or0).po), .int .i64 ((x.ol.getD ((l.getD i (0, false)).1.toNat) or0).pc), .int .i64 ((x.ol.getD ((l.getD i (0, false)).1.toNat) or0).ps)] 60 ∧ Cb W (W17.heap.size) #[.int .i64 (((crs x ty st l).lg R i).arr), .int .i64 (((crs x ty st l).lg R i).beg), .int .i64 (((crs x ty st l).lg R (i + 1)).dep), .bool (R.getD (i + 1) false)] 53 ∧ Rw W b o 2 (vF l) l.length oa ∧ Rw W bR qR 1 (bF R) R.length oR ∧ Rw W bo qo 16 (oF x.ol vo) x.ol.length k.o3 ∧ Rw W bt qt 14 (tyF x.tl va vb) x.tl.length k.o2 ∧ True) (by kernel_rfl) (by rw [hW]; exact ⟨M2, M4, hSA, M7, M10, M14, M16, M23, (hl.below HB), (hR.below HB), (hO.below HB), (hTy.below HB), trivial⟩) ?_
      rw [hW]
      clear hW
      refine Zu 0 rfl rfl (.pointer (some ⟨W17.heap.size, 0, none⟩)) ⟨M2, M4, hSA, M7, M10, M14, M16, M23, (hl.below HB), (hR.below HB), (hO.below HB), (hTy.below HB), trivial⟩ ?_
      refine Zt 1 rfl rfl (.int .i64 (((crs x ty st l).lg R i).arr)) (fun w9 h9 => ex_load1 rfl (h9.2.2.2.2.2.2.2.1.cell 0 rfl) (by kernel_rfl) Tryd.underlying3 rfl) ⟨M2, M4, hSA, M7, M10, M14, M16, M23, (hl.below HB), (hR.below HB), (hO.below HB), (hTy.below HB), trivial⟩ ?_
      refine Zu 2 rfl rfl (.int .i64 (((crs x ty st l).lg R i).dep)) ⟨M2, M4, hSA, M7, M10, M14, M16, M23, (hl.below HB), (hR.below HB), (hO.below HB), (hTy.below HB), trivial⟩ ?_
      refine Zt 3 rfl rfl (.bool false) (fun w9 _ => ex_bool (decide (((crs x ty st l).lg R i).arr < ((crs x ty st l).lg R i).dep)) false (by kernel_rfl) (decide_eq_false (by omega))) ⟨M2, M4, hSA, M7, M10, M14, M16, M23, (hl.below HB), (hR.below HB), (hO.below HB), (hTy.below HB), trivial⟩ ?_
      refine Zu 4 rfl rfl (.bool false) ⟨M2, M4, hSA, M7, M10, M14, M16, M23, (hl.below HB), (hR.below HB), (hO.below HB), (hTy.below HB), trivial⟩ ?_
      refine Zu 5 rfl rfl (.pointer (some ⟨W17.heap.size, 0, none⟩)) ⟨M2, M4, hSA, M7, M10, M14, M16, M23, (hl.below HB), (hR.below HB), (hO.below HB), (hTy.below HB), trivial⟩ ?_
      refine Zt 6 rfl rfl (.int .i64 (((crs x ty st l).lg R i).arr)) (fun w9 h9 => ex_load1 rfl (h9.2.2.2.2.2.2.2.1.cell 0 rfl) (by kernel_rfl) Tryd.underlying3 rfl) ⟨M2, M4, hSA, M7, M10, M14, M16, M23, (hl.below HB), (hR.below HB), (hO.below HB), (hTy.below HB), trivial⟩ ?_
      refine Zu 7 rfl rfl (.pointer (some ⟨W15.heap.size, 2, none⟩)) ⟨M2, M4, hSA, M7, M10, M14, M16, M23, (hl.below HB), (hR.below HB), (hO.below HB), (hTy.below HB), trivial⟩ ?_
      refine Zt 8 rfl rfl (.int .i64 ((x.ol.getD ((l.getD i (0, false)).1.toNat) or0).pc)) (fun w9 h9 => ex_load1 rfl (h9.2.2.2.2.2.2.1.cell 2 rfl) (by kernel_rfl) Tryd.underlying3 rfl) ⟨M2, M4, hSA, M7, M10, M14, M16, M23, (hl.below HB), (hR.below HB), (hO.below HB), (hTy.below HB), trivial⟩ ?_
      refine Zt 9 rfl rfl (.bool false) (fun w9 _ => ex_bool (decide (((crs x ty st l).lg R i).arr > (x.ol.getD ((l.getD i (0, false)).1.toNat) or0).pc)) false (by kernel_rfl) (decide_eq_false (by omega))) ⟨M2, M4, hSA, M7, M10, M14, M16, M23, (hl.below HB), (hR.below HB), (hO.below HB), (hTy.below HB), trivial⟩ ?_
      refine Zu 10 rfl rfl (.bool false) ⟨M2, M4, hSA, M7, M10, M14, M16, M23, (hl.below HB), (hR.below HB), (hO.below HB), (hTy.below HB), trivial⟩ ?_
      refine Zu 11 rfl rfl (.bool false) ⟨M2, M4, hSA, M7, M10, M14, M16, M23, (hl.below HB), (hR.below HB), (hO.below HB), (hTy.below HB), trivial⟩ ?_
      refine Zu 12 rfl rfl (.pointer (some ⟨W17.heap.size, 1, none⟩)) ⟨M2, M4, hSA, M7, M10, M14, M16, M23, (hl.below HB), (hR.below HB), (hO.below HB), (hTy.below HB), trivial⟩ ?_
      refine Zt 13 rfl rfl (.int .i64 (((crs x ty st l).lg R i).beg)) (fun w9 h9 => ex_load1 rfl (h9.2.2.2.2.2.2.2.1.cell 1 rfl) (by kernel_rfl) Tryd.underlying3 rfl) ⟨M2, M4, hSA, M7, M10, M14, M16, M23, (hl.below HB), (hR.below HB), (hO.below HB), (hTy.below HB), trivial⟩ ?_
      refine Zu 14 rfl rfl (.pointer (some ⟨W17.heap.size, 0, none⟩)) ⟨M2, M4, hSA, M7, M10, M14, M16, M23, (hl.below HB), (hR.below HB), (hO.below HB), (hTy.below HB), trivial⟩ ?_
      refine Zt 15 rfl rfl (.int .i64 (((crs x ty st l).lg R i).arr)) (fun w9 h9 => ex_load1 rfl (h9.2.2.2.2.2.2.2.1.cell 0 rfl) (by kernel_rfl) Tryd.underlying3 rfl) ⟨M2, M4, hSA, M7, M10, M14, M16, M23, (hl.below HB), (hR.below HB), (hO.below HB), (hTy.below HB), trivial⟩ ?_
      refine Zu 16 rfl rfl (.pointer (some ⟨W15.heap.size, 1, none⟩)) ⟨M2, M4, hSA, M7, M10, M14, M16, M23, (hl.below HB), (hR.below HB), (hO.below HB), (hTy.below HB), trivial⟩ ?_
      refine Zt 17 rfl rfl (.int .i64 ((x.ol.getD ((l.getD i (0, false)).1.toNat) or0).po)) (fun w9 h9 => ex_load1 rfl (h9.2.2.2.2.2.2.1.cell 1 rfl) (by kernel_rfl) Tryd.underlying3 rfl) ⟨M2, M4, hSA, M7, M10, M14, M16, M23, (hl.below HB), (hR.below HB), (hO.below HB), (hTy.below HB), trivial⟩ ?_
      refine Zt 18 rfl rfl (.int .i64 (((crs x ty st l).lg R i).beg)) (fun w9 _ => by rw [hbeg]; kernel_rfl) ⟨M2, M4, hSA, M7, M10, M14, M16, M23, (hl.below HB), (hR.below HB), (hO.below HB), (hTy.below HB), trivial⟩ ?_
      refine Zt 19 rfl rfl (.bool false) (fun w9 _ => ex_bool ((((crs x ty st l).lg R i).beg : Int) != (((crs x ty st l).lg R i).beg : Int)) false (by kernel_rfl) (by simp)) ⟨M2, M4, hSA, M7, M10, M14, M16, M23, (hl.below HB), (hR.below HB), (hO.below HB), (hTy.below HB), trivial⟩ ?_
      refine Zu 20 rfl rfl (.bool false) ⟨M2, M4, hSA, M7, M10, M14, M16, M23, (hl.below HB), (hR.below HB), (hO.below HB), (hTy.below HB), trivial⟩ ?_
      refine Zu 21 rfl rfl (.bool false) ⟨M2, M4, hSA, M7, M10, M14, M16, M23, (hl.below HB), (hR.below HB), (hO.below HB), (hTy.below HB), trivial⟩ ?_
      refine Zu 22 rfl rfl (.pointer (some ⟨W17.heap.size, 2, none⟩)) ⟨M2, M4, hSA, M7, M10, M14, M16, M23, (hl.below HB), (hR.below HB), (hO.below HB), (hTy.below HB), trivial⟩ ?_
      refine Zt 23 rfl rfl (.int .i64 (((crs x ty st l).lg R (i + 1)).dep)) (fun w9 h9 => ex_load1 rfl (h9.2.2.2.2.2.2.2.1.cell 2 rfl) (by kernel_rfl) Tryd.underlying3 rfl) ⟨M2, M4, hSA, M7, M10, M14, M16, M23, (hl.below HB), (hR.below HB), (hO.below HB), (hTy.below HB), trivial⟩ ?_
      refine Zu 24 rfl rfl (.int .i64 ((((crs x ty st l).lg R i).beg + (x.ol.getD ((l.getD i (0, false)).1.toNat) or0).ps) + (x.tl.getD ty.toNat ty0).rst)) ⟨M2, M4, hSA, M7, M10, M14, M16, M23, (hl.below HB), (hR.below HB), (hO.below HB), (hTy.below HB), trivial⟩ ?_
      refine Zt 25 rfl rfl (.bool false) (fun w9 _ => ex_bool ((((crs x ty st l).lg R (i + 1)).dep : Int) != (((((crs x ty st l).lg R i).beg + (x.ol.getD ((l.getD i (0, false)).1.toNat) or0).ps) + (x.tl.getD ty.toNat ty0).rst) : Int)) false (by kernel_rfl) (by rw [bne_eq_false_iff_eq]; omega)) ⟨M2, M4, hSA, M7, M10, M14, M16, M23, (hl.below HB), (hR.below HB), (hO.below HB), (hTy.below HB), trivial⟩ ?_
      refine Zu 26 rfl rfl (.bool false) ⟨M2, M4, hSA, M7, M10, M14, M16, M23, (hl.below HB), (hR.below HB), (hO.below HB), (hTy.below HB), trivial⟩ ?_
      refine Zu 27 rfl rfl (.bool false) ⟨M2, M4, hSA, M7, M10, M14, M16, M23, (hl.below HB), (hR.below HB), (hO.below HB), (hTy.below HB), trivial⟩ ?_
      refine Zu 28 rfl rfl (.pointer (some ⟨W17.heap.size, 3, none⟩)) ⟨M2, M4, hSA, M7, M10, M14, M16, M23, (hl.below HB), (hR.below HB), (hO.below HB), (hTy.below HB), trivial⟩ ?_
      refine Zt 29 rfl rfl (.bool (R.getD (i + 1) false)) (fun w9 h9 => ex_load1 rfl (h9.2.2.2.2.2.2.2.1.cell 3 rfl) (by kernel_rfl) Tryd.underlying4 rfl) ⟨M2, M4, hSA, M7, M10, M14, M16, M23, (hl.below HB), (hR.below HB), (hO.below HB), (hTy.below HB), trivial⟩ ?_
      refine Zu 30 rfl rfl (.slice oR R.length cR) ⟨M2, M4, hSA, M7, M10, M14, M16, M23, (hl.below HB), (hR.below HB), (hO.below HB), (hTy.below HB), trivial⟩ ?_
      refine Zu 31 rfl rfl (.int .i64 ((i : Nat) : Int)) ⟨M2, M4, hSA, M7, M10, M14, M16, M23, (hl.below HB), (hR.below HB), (hO.below HB), (hTy.below HB), trivial⟩ ?_
      refine Zt 32 rfl rfl (.int .i64 ((i + 1 : Nat) : Int)) (fun w9 _ => ex_int .i64 (IntKind.i64.wrap (((i : Nat) : Int) + 1)) (((i + 1 : Nat) : Int)) (by kernel_rfl) (by rw [IntKind.wrap_i64]; omega)) ⟨M2, M4, hSA, M7, M10, M14, M16, M23, (hl.below HB), (hR.below HB), (hO.below HB), (hTy.below HB), trivial⟩ ?_
      refine Zt 33 rfl rfl (.pointer (some ⟨bR, qR + (i + 1) * 1, none⟩)) (fun w9 h9 => ex_indexO (q := qR) (m := R.length) (c := cR) (k := i + 1) (s := 1) rfl (by kernel_rfl) (h9.2.2.2.2.2.2.2.2.2.1.oa (k := i + 1) (by omega)) (by kernel_rfl) Tryd.underlying31 (by kernel_rfl) (by omega) (by omega)) ⟨M2, M4, hSA, M7, M10, M14, M16, M23, (hl.below HB), (hR.below HB), (hO.below HB), (hTy.below HB), trivial⟩ ?_
      refine Zt 34 rfl rfl (.bool (R.getD (i + 1) false)) (fun w9 h9 => ex_load1 rfl (h9.2.2.2.2.2.2.2.2.2.1.cell (k := i + 1) (by omega) 0 rfl) (by kernel_rfl) Tryd.underlying4 rfl) ⟨M2, M4, hSA, M7, M10, M14, M16, M23, (hl.below HB), (hR.below HB), (hO.below HB), (hTy.below HB), trivial⟩ ?_
      refine Zt 35 rfl rfl (.bool false) (fun w9 _ => ex_bool (((R.getD (i + 1) false) != (R.getD (i + 1) false))) false (by kernel_rfl) (by simp)) ⟨M2, M4, hSA, M7, M10, M14, M16, M23, (hl.below HB), (hR.below HB), (hO.below HB), (hTy.below HB), trivial⟩ ?_
      refine Zu 36 rfl rfl (.bool false) ⟨M2, M4, hSA, M7, M10, M14, M16, M23, (hl.below HB), (hR.below HB), (hO.below HB), (hTy.below HB), trivial⟩ ?_
      refine sd_done (by kernel_rfl) ?_
      refine sx_norm ?_
      refine sx_false (by kernel_rfl) ?_
      refine wp_skip ?_
      refine sx_norm ?_
      refine wp_region_lit ?_
      refine Zv rfl (.pointer (some ⟨W17.heap.size, 2, none⟩)) ?_
      refine Zw rfl (.int .i64 (((crs x ty st l).lg R (i + 1)).dep)) (ex_load1 rfl (M23.cell 2 rfl) (by kernel_rfl) Tryd.underlying3 rfl) ?_
      refine Zv rfl (.int .i64 (((crs x ty st l).lg R (i + 1)).dep)) ?_
      refine wpList_nil ?_
      refine sx_in ?_
      refine sx_norm ?_
      refine wp_region_lit ?_
      refine sx_int (by kernel_rfl) rfl rfl .i64 (IntKind.i64.wrap (((i : Nat) : Int) + 1)) (((i + 1 : Nat) : Int)) (by kernel_rfl) (by rw [IntKind.wrap_i64]; omega) ?_
      refine Zv rfl (.int .i64 ((i + 1 : Nat) : Int)) ?_
      refine wpList_nil ?_
      refine sx_norm ?_
      exact sx_again (l.length - (i + 1)) (i + 1) (by omega) (by kernel_rfl) ⟨by omega, Nat.le_refl _, HL⟩
     refine Zw rfl (.bool false) (ex_load1 (v := .bool false) rfl (by have h8 := (hR.below HB).cell (k := i + 1) (by omega) 0 rfl; rw [show (R.getD (i + 1) false) = false by simpa using C7] at h8; exact h8) (by kernel_rfl) Tryd.underlying4 rfl) ?_
     refine wpList_nil ?_
     refine sx_norm ?_
     refine sx_false (by kernel_rfl) ?_
     refine wp_skip ?_
     refine sx_norm ?_
     refine wp_seq ?_
     refine wp_seq ?_
     replace hdp : ((crs x ty st l).lg R (i + 1)).dep = (((crs x ty st l).lg R i).beg + (x.ol.getD ((l.getD i (0, false)).1.toNat) or0).ps) := by rw [hdp]; first | (rw [if_pos (by assumption)]; done) | (rw [if_neg (by assumption)]; done)
     obtain ⟨Y26, hW⟩ : ∃ W, W24.drew = W := ⟨_, rfl⟩
     have hb : Below W24.heap.size W24 Y26 := hW ▸ below_drew (Below.refl _ _)
     replace HB := over HB hb
     replace M2 := M2.below hb
     replace M4 := M4.below hb
     replace hSA := hSA.below hb
     replace M7 := M7.below hb
     replace M10 := M10.below hb
     replace HL := over HL hb
     replace M14 := M14.below hb
     replace M16 := M16.below hb
     replace M23 := M23.below hb
     have z13 := hb.size
     clear hb
     refine sd_begin (fun W => Cb W (w.heap.size) (iK k x) 30 ∧ Cb W (W1.heap.size) (rK ty st orr F.length cr oa l.length ca) 34 ∧ Rw W bA qA 4 (fun k => [.int .i64 ((crs x ty st l).lg R k).arr, .int .i64 ((crs x ty st l).lg R k).beg, .int .i64 ((crs x ty st l).lg R (k + 1)).dep, .bool (R.getD (k + 1) false)]) (((crs x ty st l).sheet R).T.length) oA ∧ Cb W (W6.heap.size) #[.bool (R.getD 0 false), .int .i64 (((crs x ty st l).lg R 0).dep), .slice oA ((crs x ty st l).sheet R).T.length cA, .int .i64 (((crs x ty st l).lg R ((crs x ty st l).n - 1)).arr), .int .i64 ((crs x ty st l).mil R (crs x ty st l).n)] 39 ∧ Cb W (W9.heap.size) #[.string (x.tl.getD ty.toNat ty0).name, .int .i64 ((x.tl.getD ty.toNat ty0).count), .int .i64 ((x.tl.getD ty.toNat ty0).fr), .int .i64 ((x.tl.getD ty.toNat ty0).to), .slice (va ty.toNat) (x.tl.getD ty.toNat ty0).cap.length (vb ty.toNat), .int .i64 ((x.tl.getD ty.toNat ty0).skills), .int .i64 ((x.tl.getD ty.toNat ty0).prof), .int .i64 ((x.tl.getD ty.toNat ty0).opn), .int .i64 ((x.tl.getD ty.toNat ty0).cls), .int .i64 ((x.tl.getD ty.toNat ty0).drv), .int .i64 ((x.tl.getD ty.toNat ty0).rst), .int .i64 ((x.tl.getD ty.toNat ty0).fix), .int .i64 ((x.tl.getD ty.toNat ty0).pm), .int .i64 ((x.tl.getD ty.toNat ty0).pt)] 56 ∧ Cb W (wr13.heap.size) #[.int .i64 ((l.getD i (0, false)).1), .bool (l.getD i (0, false)).2] 58 ∧ Cb W (W15.heap.size) #[.int .i64 ((x.ol.getD ((l.getD i (0, false)).1.toNat) or0).pp), .int .i64 ((x.ol.getD ((l.getD i (0, false)).1.toNat) or0).po), .int .i64 ((x.ol.getD ((l.getD i (0, false)).1.toNat) or0).pc), .int .i64 ((x.ol.getD ((l.getD i (0, false)).1.toNat) or0).ps)] 60 ∧ Cb W (W17.heap.size) #[.int .i64 (((crs x ty st l).lg R i).arr), .int .i64 (((crs x ty st l).lg R i).beg), .int .i64 (((crs x ty st l).lg R (i + 1)).dep), .bool (R.getD (i + 1) false)] 53 ∧ Rw W b o 2 (vF l) l.length oa ∧ Rw W bR qR 1 (bF R) R.length oR ∧ Rw W bo qo 16 (oF x.ol vo) x.ol.length k.o3 ∧ Rw W bt qt 14 (tyF x.tl va vb) x.tl.length k.o2 ∧ True) (by kernel_rfl) (by rw [hW]; exact ⟨M2, M4, hSA, M7, M10, M14, M16, M23, (hl.below HB), (hR.below HB), (hO.below HB), (hTy.below HB), trivial⟩) ?_
     rw [hW]
     clear hW
     refine Zu 0 rfl rfl (.pointer (some ⟨W17.heap.size, 0, none⟩)) ⟨M2, M4, hSA, M7, M10, M14, M16, M23, (hl.below HB), (hR.below HB), (hO.below HB), (hTy.below HB), trivial⟩ ?_
     refine Zt 1 rfl rfl (.int .i64 (((crs x ty st l).lg R i).arr)) (fun w9 h9 => ex_load1 rfl (h9.2.2.2.2.2.2.2.1.cell 0 rfl) (by kernel_rfl) Tryd.underlying3 rfl) ⟨M2, M4, hSA, M7, M10, M14, M16, M23, (hl.below HB), (hR.below HB), (hO.below HB), (hTy.below HB), trivial⟩ ?_
     refine Zu 2 rfl rfl (.int .i64 (((crs x ty st l).lg R i).dep)) ⟨M2, M4, hSA, M7, M10, M14, M16, M23, (hl.below HB), (hR.below HB), (hO.below HB), (hTy.below HB), trivial⟩ ?_
     refine Zt 3 rfl rfl (.bool false) (fun w9 _ => ex_bool (decide (((crs x ty st l).lg R i).arr < ((crs x ty st l).lg R i).dep)) false (by kernel_rfl) (decide_eq_false (by omega))) ⟨M2, M4, hSA, M7, M10, M14, M16, M23, (hl.below HB), (hR.below HB), (hO.below HB), (hTy.below HB), trivial⟩ ?_
     refine Zu 4 rfl rfl (.bool false) ⟨M2, M4, hSA, M7, M10, M14, M16, M23, (hl.below HB), (hR.below HB), (hO.below HB), (hTy.below HB), trivial⟩ ?_
     refine Zu 5 rfl rfl (.pointer (some ⟨W17.heap.size, 0, none⟩)) ⟨M2, M4, hSA, M7, M10, M14, M16, M23, (hl.below HB), (hR.below HB), (hO.below HB), (hTy.below HB), trivial⟩ ?_
     refine Zt 6 rfl rfl (.int .i64 (((crs x ty st l).lg R i).arr)) (fun w9 h9 => ex_load1 rfl (h9.2.2.2.2.2.2.2.1.cell 0 rfl) (by kernel_rfl) Tryd.underlying3 rfl) ⟨M2, M4, hSA, M7, M10, M14, M16, M23, (hl.below HB), (hR.below HB), (hO.below HB), (hTy.below HB), trivial⟩ ?_
     refine Zu 7 rfl rfl (.pointer (some ⟨W15.heap.size, 2, none⟩)) ⟨M2, M4, hSA, M7, M10, M14, M16, M23, (hl.below HB), (hR.below HB), (hO.below HB), (hTy.below HB), trivial⟩ ?_
     refine Zt 8 rfl rfl (.int .i64 ((x.ol.getD ((l.getD i (0, false)).1.toNat) or0).pc)) (fun w9 h9 => ex_load1 rfl (h9.2.2.2.2.2.2.1.cell 2 rfl) (by kernel_rfl) Tryd.underlying3 rfl) ⟨M2, M4, hSA, M7, M10, M14, M16, M23, (hl.below HB), (hR.below HB), (hO.below HB), (hTy.below HB), trivial⟩ ?_
     refine Zt 9 rfl rfl (.bool false) (fun w9 _ => ex_bool (decide (((crs x ty st l).lg R i).arr > (x.ol.getD ((l.getD i (0, false)).1.toNat) or0).pc)) false (by kernel_rfl) (decide_eq_false (by omega))) ⟨M2, M4, hSA, M7, M10, M14, M16, M23, (hl.below HB), (hR.below HB), (hO.below HB), (hTy.below HB), trivial⟩ ?_
     refine Zu 10 rfl rfl (.bool false) ⟨M2, M4, hSA, M7, M10, M14, M16, M23, (hl.below HB), (hR.below HB), (hO.below HB), (hTy.below HB), trivial⟩ ?_
     refine Zu 11 rfl rfl (.bool false) ⟨M2, M4, hSA, M7, M10, M14, M16, M23, (hl.below HB), (hR.below HB), (hO.below HB), (hTy.below HB), trivial⟩ ?_
     refine Zu 12 rfl rfl (.pointer (some ⟨W17.heap.size, 1, none⟩)) ⟨M2, M4, hSA, M7, M10, M14, M16, M23, (hl.below HB), (hR.below HB), (hO.below HB), (hTy.below HB), trivial⟩ ?_
     refine Zt 13 rfl rfl (.int .i64 (((crs x ty st l).lg R i).beg)) (fun w9 h9 => ex_load1 rfl (h9.2.2.2.2.2.2.2.1.cell 1 rfl) (by kernel_rfl) Tryd.underlying3 rfl) ⟨M2, M4, hSA, M7, M10, M14, M16, M23, (hl.below HB), (hR.below HB), (hO.below HB), (hTy.below HB), trivial⟩ ?_
     refine Zu 14 rfl rfl (.pointer (some ⟨W17.heap.size, 0, none⟩)) ⟨M2, M4, hSA, M7, M10, M14, M16, M23, (hl.below HB), (hR.below HB), (hO.below HB), (hTy.below HB), trivial⟩ ?_
     refine Zt 15 rfl rfl (.int .i64 (((crs x ty st l).lg R i).arr)) (fun w9 h9 => ex_load1 rfl (h9.2.2.2.2.2.2.2.1.cell 0 rfl) (by kernel_rfl) Tryd.underlying3 rfl) ⟨M2, M4, hSA, M7, M10, M14, M16, M23, (hl.below HB), (hR.below HB), (hO.below HB), (hTy.below HB), trivial⟩ ?_
     refine Zu 16 rfl rfl (.pointer (some ⟨W15.heap.size, 1, none⟩)) ⟨M2, M4, hSA, M7, M10, M14, M16, M23, (hl.below HB), (hR.below HB), (hO.below HB), (hTy.below HB), trivial⟩ ?_
     refine Zt 17 rfl rfl (.int .i64 ((x.ol.getD ((l.getD i (0, false)).1.toNat) or0).po)) (fun w9 h9 => ex_load1 rfl (h9.2.2.2.2.2.2.1.cell 1 rfl) (by kernel_rfl) Tryd.underlying3 rfl) ⟨M2, M4, hSA, M7, M10, M14, M16, M23, (hl.below HB), (hR.below HB), (hO.below HB), (hTy.below HB), trivial⟩ ?_
     refine Zt 18 rfl rfl (.int .i64 (((crs x ty st l).lg R i).beg)) (fun w9 _ => by rw [hbeg]; kernel_rfl) ⟨M2, M4, hSA, M7, M10, M14, M16, M23, (hl.below HB), (hR.below HB), (hO.below HB), (hTy.below HB), trivial⟩ ?_
     refine Zt 19 rfl rfl (.bool false) (fun w9 _ => ex_bool ((((crs x ty st l).lg R i).beg : Int) != (((crs x ty st l).lg R i).beg : Int)) false (by kernel_rfl) (by simp)) ⟨M2, M4, hSA, M7, M10, M14, M16, M23, (hl.below HB), (hR.below HB), (hO.below HB), (hTy.below HB), trivial⟩ ?_
     refine Zu 20 rfl rfl (.bool false) ⟨M2, M4, hSA, M7, M10, M14, M16, M23, (hl.below HB), (hR.below HB), (hO.below HB), (hTy.below HB), trivial⟩ ?_
     refine Zu 21 rfl rfl (.bool false) ⟨M2, M4, hSA, M7, M10, M14, M16, M23, (hl.below HB), (hR.below HB), (hO.below HB), (hTy.below HB), trivial⟩ ?_
     refine Zu 22 rfl rfl (.pointer (some ⟨W17.heap.size, 2, none⟩)) ⟨M2, M4, hSA, M7, M10, M14, M16, M23, (hl.below HB), (hR.below HB), (hO.below HB), (hTy.below HB), trivial⟩ ?_
     refine Zt 23 rfl rfl (.int .i64 (((crs x ty st l).lg R (i + 1)).dep)) (fun w9 h9 => ex_load1 rfl (h9.2.2.2.2.2.2.2.1.cell 2 rfl) (by kernel_rfl) Tryd.underlying3 rfl) ⟨M2, M4, hSA, M7, M10, M14, M16, M23, (hl.below HB), (hR.below HB), (hO.below HB), (hTy.below HB), trivial⟩ ?_
     refine Zu 24 rfl rfl (.int .i64 (((crs x ty st l).lg R i).beg + (x.ol.getD ((l.getD i (0, false)).1.toNat) or0).ps)) ⟨M2, M4, hSA, M7, M10, M14, M16, M23, (hl.below HB), (hR.below HB), (hO.below HB), (hTy.below HB), trivial⟩ ?_
     refine Zt 25 rfl rfl (.bool false) (fun w9 _ => ex_bool ((((crs x ty st l).lg R (i + 1)).dep : Int) != ((((crs x ty st l).lg R i).beg + (x.ol.getD ((l.getD i (0, false)).1.toNat) or0).ps) : Int)) false (by kernel_rfl) (by rw [bne_eq_false_iff_eq]; omega)) ⟨M2, M4, hSA, M7, M10, M14, M16, M23, (hl.below HB), (hR.below HB), (hO.below HB), (hTy.below HB), trivial⟩ ?_
     refine Zu 26 rfl rfl (.bool false) ⟨M2, M4, hSA, M7, M10, M14, M16, M23, (hl.below HB), (hR.below HB), (hO.below HB), (hTy.below HB), trivial⟩ ?_
     refine Zu 27 rfl rfl (.bool false) ⟨M2, M4, hSA, M7, M10, M14, M16, M23, (hl.below HB), (hR.below HB), (hO.below HB), (hTy.below HB), trivial⟩ ?_
     refine Zu 28 rfl rfl (.pointer (some ⟨W17.heap.size, 3, none⟩)) ⟨M2, M4, hSA, M7, M10, M14, M16, M23, (hl.below HB), (hR.below HB), (hO.below HB), (hTy.below HB), trivial⟩ ?_
     refine Zt 29 rfl rfl (.bool (R.getD (i + 1) false)) (fun w9 h9 => ex_load1 rfl (h9.2.2.2.2.2.2.2.1.cell 3 rfl) (by kernel_rfl) Tryd.underlying4 rfl) ⟨M2, M4, hSA, M7, M10, M14, M16, M23, (hl.below HB), (hR.below HB), (hO.below HB), (hTy.below HB), trivial⟩ ?_
     refine Zu 30 rfl rfl (.slice oR R.length cR) ⟨M2, M4, hSA, M7, M10, M14, M16, M23, (hl.below HB), (hR.below HB), (hO.below HB), (hTy.below HB), trivial⟩ ?_
     refine Zu 31 rfl rfl (.int .i64 ((i : Nat) : Int)) ⟨M2, M4, hSA, M7, M10, M14, M16, M23, (hl.below HB), (hR.below HB), (hO.below HB), (hTy.below HB), trivial⟩ ?_
     refine Zt 32 rfl rfl (.int .i64 ((i + 1 : Nat) : Int)) (fun w9 _ => ex_int .i64 (IntKind.i64.wrap (((i : Nat) : Int) + 1)) (((i + 1 : Nat) : Int)) (by kernel_rfl) (by rw [IntKind.wrap_i64]; omega)) ⟨M2, M4, hSA, M7, M10, M14, M16, M23, (hl.below HB), (hR.below HB), (hO.below HB), (hTy.below HB), trivial⟩ ?_
     refine Zt 33 rfl rfl (.pointer (some ⟨bR, qR + (i + 1) * 1, none⟩)) (fun w9 h9 => ex_indexO (q := qR) (m := R.length) (c := cR) (k := i + 1) (s := 1) rfl (by kernel_rfl) (h9.2.2.2.2.2.2.2.2.2.1.oa (k := i + 1) (by omega)) (by kernel_rfl) Tryd.underlying31 (by kernel_rfl) (by omega) (by omega)) ⟨M2, M4, hSA, M7, M10, M14, M16, M23, (hl.below HB), (hR.below HB), (hO.below HB), (hTy.below HB), trivial⟩ ?_
     refine Zt 34 rfl rfl (.bool (R.getD (i + 1) false)) (fun w9 h9 => ex_load1 rfl (h9.2.2.2.2.2.2.2.2.2.1.cell (k := i + 1) (by omega) 0 rfl) (by kernel_rfl) Tryd.underlying4 rfl) ⟨M2, M4, hSA, M7, M10, M14, M16, M23, (hl.below HB), (hR.below HB), (hO.below HB), (hTy.below HB), trivial⟩ ?_
     refine Zt 35 rfl rfl (.bool false) (fun w9 _ => ex_bool (((R.getD (i + 1) false) != (R.getD (i + 1) false))) false (by kernel_rfl) (by simp)) ⟨M2, M4, hSA, M7, M10, M14, M16, M23, (hl.below HB), (hR.below HB), (hO.below HB), (hTy.below HB), trivial⟩ ?_
     refine Zu 36 rfl rfl (.bool false) ⟨M2, M4, hSA, M7, M10, M14, M16, M23, (hl.below HB), (hR.below HB), (hO.below HB), (hTy.below HB), trivial⟩ ?_
     refine sd_done (by kernel_rfl) ?_
     refine sx_norm ?_
     refine sx_false (by kernel_rfl) ?_
     refine wp_skip ?_
     refine sx_norm ?_
     refine wp_region_lit ?_
     refine Zv rfl (.pointer (some ⟨W17.heap.size, 2, none⟩)) ?_
     refine Zw rfl (.int .i64 (((crs x ty st l).lg R (i + 1)).dep)) (ex_load1 rfl (M23.cell 2 rfl) (by kernel_rfl) Tryd.underlying3 rfl) ?_
     refine Zv rfl (.int .i64 (((crs x ty st l).lg R (i + 1)).dep)) ?_
     refine wpList_nil ?_
     refine sx_in ?_
     refine sx_norm ?_
     refine wp_region_lit ?_
     refine sx_int (by kernel_rfl) rfl rfl .i64 (IntKind.i64.wrap (((i : Nat) : Int) + 1)) (((i + 1 : Nat) : Int)) (by kernel_rfl) (by rw [IntKind.wrap_i64]; omega) ?_
     refine Zv rfl (.int .i64 ((i + 1 : Nat) : Int)) ?_
     refine wpList_nil ?_
     refine sx_norm ?_
     exact sx_again (l.length - (i + 1)) (i + 1) (by omega) (by kernel_rfl) ⟨by omega, Nat.le_refl _, HL⟩
    refine sx_bool (by kernel_rfl) rfl rfl (decide (((i : Nat) : Int) < ((l.length : Nat) : Int))) false (by kernel_rfl) (decide_eq_false (by omega)) ?_
    refine wpList_nil ?_
    refine sx_norm ?_
    refine wp_seq ?_
    refine sx_false (by kernel_rfl) ?_
    refine wp_exit ?_
    refine sx_es ?_
    refine sx_es ?_
    refine sx_out ?_
    refine sx_norm ?_
    refine wp_seq ?_
    have hi9 : i = l.length := by omega
    rw [← hi9] at hen hend
    refine wp_region_lit ?_
    refine Zv rfl (.pointer (some ⟨W6.heap.size, 3, none⟩)) ?_
    refine Zw rfl (.int .i64 (((crs x ty st l).lg R ((crs x ty st l).n - 1)).arr)) (ex_load1 rfl (M7.cell 3 rfl) (by kernel_rfl) Tryd.underlying3 rfl) ?_
    refine Zv rfl (.int .i64 (((crs x ty st l).lg R i).dep)) ?_
    refine sx_bool (by kernel_rfl) rfl rfl (decide (((crs x ty st l).lg R ((crs x ty st l).n - 1)).arr ≥ ((crs x ty st l).lg R i).dep)) true (by kernel_rfl) (decide_eq_true (by omega)) ?_
    refine Zv rfl (.bool true) ?_
    refine sx_call (by kernel_rfl) rfl rfl (examples_n wr13 (hT.belowD HB)) (by kernel_rfl) ?_
    rintro e W27 ⟨rfl, hb⟩
    replace HB := over HB hb
    replace M2 := M2.below hb
    replace M4 := M4.below hb
    replace hSA := hSA.below hb
    replace M7 := M7.below hb
    replace M10 := M10.below hb
    replace HL := over HL hb
    have z10 := hb.size
    clear hb
    refine ⟨_, rfl, ?_⟩
    refine Zv rfl (.bool true) ?_
    refine Zv rfl (.bool true) ?_
    refine wpList_nil ?_
    refine sx_norm ?_
    refine wp_ret ?_
    exact sx_ret1 (.bool true) rfl rfl (by kernel_rfl) ⟨rfl, HB⟩
   refine Zw rfl (.bool false) (ex_load1 (v := .bool false) rfl (by have h8 := (hR.below HB).cell (k := 0) (by omega) 0 rfl; rw [show (R.getD 0 false) = false by simpa using C3] at h8; exact h8) (by kernel_rfl) Tryd.underlying4 rfl) ?_
   refine wpList_nil ?_
   refine sx_norm ?_
   refine sx_false (by kernel_rfl) ?_
   refine wp_skip ?_
   refine sx_norm ?_
   refine wp_seq ?_
   refine wp_seq ?_
   replace hd0 : ((crs x ty st l).lg R 0).dep = (crs x ty st l).rd := by rw [hd0]; first | (rw [if_pos (by assumption)]; done) | (rw [if_neg (by assumption)]; done)
   obtain ⟨Y28, hW⟩ : ∃ W, W11.drew = W := ⟨_, rfl⟩
   have hb : Below W11.heap.size W11 Y28 := hW ▸ below_drew (Below.refl _ _)
   replace HB := over HB hb
   replace M2 := M2.below hb
   replace M4 := M4.below hb
   replace hSA := hSA.below hb
   replace M7 := M7.below hb
   replace M10 := M10.below hb
   have z8 := hb.size
   clear hb
   refine sd_begin (fun W => Cb W (w.heap.size) (iK k x) 30 ∧ Cb W (W1.heap.size) (rK ty st orr F.length cr oa l.length ca) 34 ∧ Rw W bA qA 4 (fun k => [.int .i64 ((crs x ty st l).lg R k).arr, .int .i64 ((crs x ty st l).lg R k).beg, .int .i64 ((crs x ty st l).lg R (k + 1)).dep, .bool (R.getD (k + 1) false)]) (((crs x ty st l).sheet R).T.length) oA ∧ Cb W (W6.heap.size) #[.bool (R.getD 0 false), .int .i64 (((crs x ty st l).lg R 0).dep), .slice oA ((crs x ty st l).sheet R).T.length cA, .int .i64 (((crs x ty st l).lg R ((crs x ty st l).n - 1)).arr), .int .i64 ((crs x ty st l).mil R (crs x ty st l).n)] 39 ∧ Cb W (W9.heap.size) #[.string (x.tl.getD ty.toNat ty0).name, .int .i64 ((x.tl.getD ty.toNat ty0).count), .int .i64 ((x.tl.getD ty.toNat ty0).fr), .int .i64 ((x.tl.getD ty.toNat ty0).to), .slice (va ty.toNat) (x.tl.getD ty.toNat ty0).cap.length (vb ty.toNat), .int .i64 ((x.tl.getD ty.toNat ty0).skills), .int .i64 ((x.tl.getD ty.toNat ty0).prof), .int .i64 ((x.tl.getD ty.toNat ty0).opn), .int .i64 ((x.tl.getD ty.toNat ty0).cls), .int .i64 ((x.tl.getD ty.toNat ty0).drv), .int .i64 ((x.tl.getD ty.toNat ty0).rst), .int .i64 ((x.tl.getD ty.toNat ty0).fix), .int .i64 ((x.tl.getD ty.toNat ty0).pm), .int .i64 ((x.tl.getD ty.toNat ty0).pt)] 56 ∧ Rw W b o 2 (vF l) l.length oa ∧ Rw W bR qR 1 (bF R) R.length oR ∧ Rw W bo qo 16 (oF x.ol vo) x.ol.length k.o3 ∧ Rw W bt qt 14 (tyF x.tl va vb) x.tl.length k.o2 ∧ True) (by kernel_rfl) (by rw [hW]; exact ⟨M2, M4, hSA, M7, M10, (hl.below HB), (hR.below HB), (hO.below HB), (hTy.below HB), trivial⟩) ?_
   rw [hW]
   clear hW
   refine Zu 0 rfl rfl (.pointer (some ⟨W6.heap.size, 1, none⟩)) ⟨M2, M4, hSA, M7, M10, (hl.below HB), (hR.below HB), (hO.below HB), (hTy.below HB), trivial⟩ ?_
   refine Zt 1 rfl rfl (.int .i64 (((crs x ty st l).lg R 0).dep)) (fun w9 h9 => ex_load1 rfl (h9.2.2.2.1.cell 1 rfl) (by kernel_rfl) Tryd.underlying3 rfl) ⟨M2, M4, hSA, M7, M10, (hl.below HB), (hR.below HB), (hO.below HB), (hTy.below HB), trivial⟩ ?_
   refine Zu 2 rfl rfl (.int .i64 ((crs x ty st l).rd)) ⟨M2, M4, hSA, M7, M10, (hl.below HB), (hR.below HB), (hO.below HB), (hTy.below HB), trivial⟩ ?_
   refine Zt 3 rfl rfl (.bool false) (fun w9 _ => ex_bool ((((crs x ty st l).lg R 0).dep : Int) != ((crs x ty st l).rd : Int)) false (by kernel_rfl) (by rw [bne_eq_false_iff_eq]; omega)) ⟨M2, M4, hSA, M7, M10, (hl.below HB), (hR.below HB), (hO.below HB), (hTy.below HB), trivial⟩ ?_
   refine Zu 4 rfl rfl (.bool false) ⟨M2, M4, hSA, M7, M10, (hl.below HB), (hR.below HB), (hO.below HB), (hTy.below HB), trivial⟩ ?_
   refine Zu 5 rfl rfl (.pointer (some ⟨W6.heap.size, 0, none⟩)) ⟨M2, M4, hSA, M7, M10, (hl.below HB), (hR.below HB), (hO.below HB), (hTy.below HB), trivial⟩ ?_
   refine Zt 6 rfl rfl (.bool (R.getD 0 false)) (fun w9 h9 => ex_load1 rfl (h9.2.2.2.1.cell 0 rfl) (by kernel_rfl) Tryd.underlying4 rfl) ⟨M2, M4, hSA, M7, M10, (hl.below HB), (hR.below HB), (hO.below HB), (hTy.below HB), trivial⟩ ?_
   refine Zu 7 rfl rfl (.slice oR R.length cR) ⟨M2, M4, hSA, M7, M10, (hl.below HB), (hR.below HB), (hO.below HB), (hTy.below HB), trivial⟩ ?_
   refine Zt 8 rfl rfl (.pointer (some ⟨bR, qR + 0 * 1, none⟩)) (fun w9 h9 => ex_indexO (q := qR) (m := R.length) (c := cR) (k := 0) (s := 1) rfl (by kernel_rfl) (h9.2.2.2.2.2.2.1.oa (k := 0) (by omega)) (by kernel_rfl) Tryd.underlying31 (by kernel_rfl) (by omega) (by omega)) ⟨M2, M4, hSA, M7, M10, (hl.below HB), (hR.below HB), (hO.below HB), (hTy.below HB), trivial⟩ ?_
   refine Zt 9 rfl rfl (.bool (R.getD 0 false)) (fun w9 h9 => ex_load1 rfl (h9.2.2.2.2.2.2.1.cell (k := 0) (by omega) 0 rfl) (by kernel_rfl) Tryd.underlying4 rfl) ⟨M2, M4, hSA, M7, M10, (hl.below HB), (hR.below HB), (hO.below HB), (hTy.below HB), trivial⟩ ?_
   refine Zt 10 rfl rfl (.bool false) (fun w9 _ => ex_bool (((R.getD 0 false) != (R.getD 0 false))) false (by kernel_rfl) (by simp)) ⟨M2, M4, hSA, M7, M10, (hl.below HB), (hR.below HB), (hO.below HB), (hTy.below HB), trivial⟩ ?_
   refine Zu 11 rfl rfl (.bool false) ⟨M2, M4, hSA, M7, M10, (hl.below HB), (hR.below HB), (hO.below HB), (hTy.below HB), trivial⟩ ?_
   refine Zu 12 rfl rfl (.bool false) ⟨M2, M4, hSA, M7, M10, (hl.below HB), (hR.below HB), (hO.below HB), (hTy.below HB), trivial⟩ ?_
   refine Zu 13 rfl rfl (.pointer (some ⟨W6.heap.size, 3, none⟩)) ⟨M2, M4, hSA, M7, M10, (hl.below HB), (hR.below HB), (hO.below HB), (hTy.below HB), trivial⟩ ?_
   refine Zt 14 rfl rfl (.int .i64 (((crs x ty st l).lg R ((crs x ty st l).n - 1)).arr)) (fun w9 h9 => ex_load1 rfl (h9.2.2.2.1.cell 3 rfl) (by kernel_rfl) Tryd.underlying3 rfl) ⟨M2, M4, hSA, M7, M10, (hl.below HB), (hR.below HB), (hO.below HB), (hTy.below HB), trivial⟩ ?_
   refine Zu 15 rfl rfl (.pointer (some ⟨W9.heap.size, 8, none⟩)) ⟨M2, M4, hSA, M7, M10, (hl.below HB), (hR.below HB), (hO.below HB), (hTy.below HB), trivial⟩ ?_
   refine Zt 16 rfl rfl (.int .i64 ((x.tl.getD ty.toNat ty0).cls)) (fun w9 h9 => ex_load1 rfl (h9.2.2.2.2.1.cell 8 rfl) (by kernel_rfl) Tryd.underlying3 rfl) ⟨M2, M4, hSA, M7, M10, (hl.below HB), (hR.below HB), (hO.below HB), (hTy.below HB), trivial⟩ ?_
   refine Zt 17 rfl rfl (.bool false) (fun w9 _ => ex_bool (decide (((crs x ty st l).lg R ((crs x ty st l).n - 1)).arr > (x.tl.getD ty.toNat ty0).cls)) false (by kernel_rfl) (decide_eq_false (by omega))) ⟨M2, M4, hSA, M7, M10, (hl.below HB), (hR.below HB), (hO.below HB), (hTy.below HB), trivial⟩ ?_
   refine Zu 18 rfl rfl (.bool false) ⟨M2, M4, hSA, M7, M10, (hl.below HB), (hR.below HB), (hO.below HB), (hTy.below HB), trivial⟩ ?_
   refine sd_done (by kernel_rfl) ?_
   refine sx_norm ?_
   refine sx_false (by kernel_rfl) ?_
   refine wp_skip ?_
   refine sx_norm ?_
   refine wp_seq ?_
   refine wp_seq ?_
   rw [← hd0]
   refine wp_region_lit ?_
   refine Zv rfl (.pointer (some ⟨W1.heap.size, 3, none⟩)) ?_
   refine Zw rfl (.slice oa l.length ca) (ex_load1 rfl (M4.cell 3 rfl) (by kernel_rfl) Tryd.underlying32 rfl) ?_
   refine Zv rfl (.int .i64 ((l.length : Nat) : Int)) ?_
   refine Zv rfl (.int .i64 0) ?_
   refine wpList_nil ?_
   refine sx_norm ?_
   refine wp_block ?_
   refine sx_loop (fun i : Nat => [(0, .agg (iK k x)), (1, .agg (rK ty st orr F.length cr oa l.length ca)), (2, .slice oR R.length cR), (3, .pointer (some ⟨w.heap.size, 0, none⟩)), (4, .pointer (some ⟨W1.heap.size, 0, none⟩)), (7, .pointer (some ⟨W6.heap.size, 0, none⟩)), (8, .int .i64 0), (9, .pointer (some ⟨W9.heap.size, 0, none⟩)), (10, .int .i64 (((crs x ty st l).lg R i).dep)), (16, .agg (iK k x)), (17, .bool true), (18, .bool false), (20, .tuple #[.agg #[.bool (R.getD 0 false), .int .i64 (((crs x ty st l).lg R 0).dep), .slice oA ((crs x ty st l).sheet R).T.length cA, .int .i64 (((crs x ty st l).lg R ((crs x ty st l).n - 1)).arr), .int .i64 ((crs x ty st l).mil R (crs x ty st l).n)], .int .i64 0]), (21, .agg (iK k x)), (22, .agg (rK ty st orr F.length cr oa l.length ca)), (23, .slice oR R.length cR), (24, .tuple #[.agg #[.bool (R.getD 0 false), .int .i64 (((crs x ty st l).lg R 0).dep), .slice oA ((crs x ty st l).sheet R).T.length cA, .int .i64 (((crs x ty st l).lg R ((crs x ty st l).n - 1)).arr), .int .i64 ((crs x ty st l).mil R (crs x ty st l).n)], .int .i64 0]), (25, .agg #[.bool (R.getD 0 false), .int .i64 (((crs x ty st l).lg R 0).dep), .slice oA ((crs x ty st l).sheet R).T.length cA, .int .i64 (((crs x ty st l).lg R ((crs x ty st l).n - 1)).arr), .int .i64 ((crs x ty st l).mil R (crs x ty st l).n)]), (26, .int .i64 0), (27, .int .i64 0), (28, .bool false), (41, .agg (iK k x)), (42, .agg (rK ty st orr F.length cr oa l.length ca)), (43, .bool true), (44, .bool false), (45, .bool false), (46, .slice oR R.length cR), (47, .int .i64 ((R.length : Nat) : Int)), (48, .pointer (some ⟨W1.heap.size, 3, none⟩)), (49, .slice oa l.length ca), (50, .int .i64 ((l.length : Nat) : Int)), (51, .int .i64 ((l.length + 1 : Nat) : Int)), (52, .bool false), (53, .bool false), (54, .bool false), (55, .pointer (some ⟨W6.heap.size, 2, none⟩)), (56, .slice oA ((crs x ty st l).sheet R).T.length cA), (57, .int .i64 ((((crs x ty st l).sheet R).T.length : Nat) : Int)), (58, .pointer (some ⟨W1.heap.size, 3, none⟩)), (59, .slice oa l.length ca), (60, .int .i64 ((l.length : Nat) : Int)), (61, .bool false), (62, .bool false), (63, .pointer (some ⟨w.heap.size, 2, none⟩)), (64, .slice k.o2 x.tl.length k.c2), (65, .pointer (some ⟨W1.heap.size, 0, none⟩)), (66, .int .i64 ty), (67, .pointer (some ⟨bt, qt + (ty.toNat) * 14, none⟩)), (68, .agg #[.string (x.tl.getD ty.toNat ty0).name, .int .i64 ((x.tl.getD ty.toNat ty0).count), .int .i64 ((x.tl.getD ty.toNat ty0).fr), .int .i64 ((x.tl.getD ty.toNat ty0).to), .slice (va ty.toNat) (x.tl.getD ty.toNat ty0).cap.length (vb ty.toNat), .int .i64 ((x.tl.getD ty.toNat ty0).skills), .int .i64 ((x.tl.getD ty.toNat ty0).prof), .int .i64 ((x.tl.getD ty.toNat ty0).opn), .int .i64 ((x.tl.getD ty.toNat ty0).cls), .int .i64 ((x.tl.getD ty.toNat ty0).drv), .int .i64 ((x.tl.getD ty.toNat ty0).rst), .int .i64 ((x.tl.getD ty.toNat ty0).fix), .int .i64 ((x.tl.getD ty.toNat ty0).pm), .int .i64 ((x.tl.getD ty.toNat ty0).pt)]), (69, .pointer (some ⟨W9.heap.size, 7, none⟩)), (70, .int .i64 ((x.tl.getD ty.toNat ty0).opn)), (71, .pointer (some ⟨W1.heap.size, 1, none⟩)), (72, .int .i64 st), (73, .int .i64 (((crs x ty st l).lg R 0).dep)), (74, .slice oR R.length cR), (75, .pointer (some ⟨bR, qR + 0 * 1, none⟩)), (76, .bool false), (81, .pointer (some ⟨W6.heap.size, 1, none⟩)), (82, .int .i64 (((crs x ty st l).lg R 0).dep)), (83, .int .i64 (((crs x ty st l).lg R 0).dep)), (84, .bool false), (85, .bool false), (86, .pointer (some ⟨W6.heap.size, 0, none⟩)), (87, .bool (R.getD 0 false)), (88, .slice oR R.length cR), (89, .pointer (some ⟨bR, qR + 0 * 1, none⟩)), (90, .bool (R.getD 0 false)), (91, .bool false), (92, .bool false), (93, .bool false), (94, .pointer (some ⟨W6.heap.size, 3, none⟩)), (95, .int .i64 (((crs x ty st l).lg R ((crs x ty st l).n - 1)).arr)), (96, .pointer (some ⟨W9.heap.size, 8, none⟩)), (97, .int .i64 ((x.tl.getD ty.toNat ty0).cls)), (98, .bool false), (99, .bool false), (100, .pointer (some ⟨W1.heap.size, 3, none⟩)), (101, .slice oa l.length ca), (102, .int .i64 ((l.length : Nat) : Int)), (103, .int .i64 ((i : Nat) : Int))]) (fun gg i wr => i ≤ l.length ∧ l.length - i ≤ gg ∧ Below Y28.heap.size Y28 wr) (l.length) (0) (by kernel_rfl) ⟨Nat.zero_le _, Nat.le_refl _, Below.refl _ _⟩ ?_
   rintro gg i g' wr29 ⟨hi, hg, hbl⟩
   replace HB := over HB hbl
   replace M2 := M2.below hbl
   replace M4 := M4.below hbl
   replace hSA := hSA.below hbl
   replace M7 := M7.below hbl
   replace M10 := M10.below hbl
   have z9 := hbl.size
   have HL := hbl
   clear hbl
   refine wp_seq ?_
   refine wp_region_lit ?_
   by_cases C8 : i < l.length
   ·refine sx_bool (by kernel_rfl) rfl rfl (decide (((i : Nat) : Int) < ((l.length : Nat) : Int))) true (by kernel_rfl) (decide_eq_true (by omega)) ?_
    refine wpList_nil ?_
    refine sx_norm ?_
    refine wp_seq ?_
    refine sx_true (by kernel_rfl) ?_
    refine wp_skip ?_
    refine sx_norm ?_
    refine wp_seq ?_
    refine wp_block ?_
    refine wp_seq ?_
    have hlg := CrT.lg_ok hc (Nat.le_refl _) hr0 (show i < (crs x ty st l).n by omega)
    have hok9 := posD_at hp9 (i := i) (by omega)
    obtain ⟨hj1, hj2, hj3⟩ := okR_in hok9
    have hj0 : (((l.getD i (0, false)).1.toNat : Nat) : Int) = (l.getD i (0, false)).1 := Int.toNat_of_nonneg hj1
    have hbeg := beg_is (crs x ty st l) R i
    have hdp : ((crs x ty st l).lg R (i + 1)).dep = if R.getD (i + 1) false = true then ((crs x ty st l).lg R i).beg + ((crs x ty st l).S.getD (i + 1) st0).s + (x.tl.getD ty.toNat ty0).rst else ((crs x ty st l).lg R i).beg + ((crs x ty st l).S.getD (i + 1) st0).s := dep_is (crs x ty st l) R i
    have hsb := hc.st (i + 1) (by have := hc.len; unfold CrT.n at hn9; omega)
    rw [crs_at x ty st (by omega), hj3] at hlg hbeg hdp hsb
    refine wp_region_lit ?_
    refine Zv rfl (.int .i64 ((i : Nat) : Int)) ?_
    refine Zw rfl (.pointer (some ⟨b, o + i * 2, none⟩)) (ex_indexO (q := o) (m := l.length) (c := ca) (k := i) (s := 2) rfl (by kernel_rfl) ((hl.below HB).oa (k := i) (by omega)) (by kernel_rfl) Tryd.underlying32 (by kernel_rfl) (by omega) (by omega)) ?_
    refine Zw rfl (.agg #[.int .i64 ((l.getD i (0, false)).1), .bool (l.getD i (0, false)).2]) (ex_loadR rfl ((hl.below HB).range (k := i) (by omega)) (by kernel_rfl) Tryd.underlying58 rfl (by kernel_rfl)) ?_
    obtain ⟨W31, hW, hb, hq⟩ := laidV wr29 #[.int .i64 0, .bool false] #[.int .i64 ((l.getD i (0, false)).1), .bool (l.getD i (0, false)).2] 58
    refine sx_mem (by kernel_rfl) rfl rfl (.pointer (some ⟨wr29.heap.size, 0, none⟩)) (wr29.alloc (.cells #[.int .i64 0, .bool false] 58)) (by kernel_rfl) ?_
    refine Zv rfl (.int .i64 ((i : Nat) : Int)) ?_
    refine sx_store (cells := #[.int .i64 ((l.getD i (0, false)).1), .bool (l.getD i (0, false)).2]) (by kernel_rfl) rfl rfl (Cb.made wr29 #[.int .i64 0, .bool false] 58) (by kernel_rfl) (by kernel_rfl) (by kernel_rfl) (by kernel_rfl) (by kernel_rfl) ?_
    rw [hW]
    replace HB := over HB hb
    replace M2 := M2.below hb
    replace M4 := M4.below hb
    replace hSA := hSA.below hb
    replace M7 := M7.below hb
    replace M10 := M10.below hb
    replace HL := over HL hb
    have z10 := hb.size
    have M30 := hq
    have yM30 := hq.lt
    clear hq hb hW
    refine wpList_nil ?_
    refine sx_norm ?_
    refine wp_seq ?_
    refine wp_region_lit ?_
    refine Zv rfl (.pointer (some ⟨w.heap.size, 3, none⟩)) ?_
    refine Zw rfl (.slice k.o3 x.ol.length k.c3) (ex_load1 rfl (M2.cell 3 rfl) (by kernel_rfl) Tryd.underlying27 rfl) ?_
    refine Zv rfl (.pointer (some ⟨wr29.heap.size, 0, none⟩)) ?_
    refine Zw rfl (.int .i64 ((l.getD i (0, false)).1)) (ex_load1 rfl (M30.cell 0 rfl) (by kernel_rfl) Tryd.underlying3 rfl) ?_
    refine Zw rfl (.pointer (some ⟨bo, qo + (l.getD i (0, false)).1.toNat * 16, none⟩)) (ex_indexO (q := qo) (m := x.ol.length) (c := k.c3) (k := (l.getD i (0, false)).1.toNat) (s := 16) rfl (by kernel_rfl) ((hO.below HB).oa (k := (l.getD i (0, false)).1.toNat) (by omega)) (by rw [hj0]; kernel_rfl) Tryd.underlying27 (by kernel_rfl) (by omega) (by omega)) ?_
    refine Zv rfl (.pointer (some ⟨bo, qo + (l.getD i (0, false)).1.toNat * 16 + 2, none⟩)) ?_
    refine Zw rfl (.agg #[.int .i64 ((x.ol.getD ((l.getD i (0, false)).1.toNat) or0).pp), .int .i64 ((x.ol.getD ((l.getD i (0, false)).1.toNat) or0).po), .int .i64 ((x.ol.getD ((l.getD i (0, false)).1.toNat) or0).pc), .int .i64 ((x.ol.getD ((l.getD i (0, false)).1.toNat) or0).ps)]) (ex_loadR rfl (rw_mid (hO.below HB) (k := (l.getD i (0, false)).1.toNat) (by omega) 2 [.int .i64 ((x.ol.getD ((l.getD i (0, false)).1.toNat) or0).pp), .int .i64 ((x.ol.getD ((l.getD i (0, false)).1.toNat) or0).po), .int .i64 ((x.ol.getD ((l.getD i (0, false)).1.toNat) or0).pc), .int .i64 ((x.ol.getD ((l.getD i (0, false)).1.toNat) or0).ps)] rfl) (by kernel_rfl) Tryd.underlying60 rfl (by kernel_rfl)) ?_
    obtain ⟨W33, hW⟩ : ∃ W, (W31.alloc (.cells #[.int .i64 0, .int .i64 0, .int .i64 0, .int .i64 0] 60)).setRow W31.heap.size #[.int .i64 ((x.ol.getD ((l.getD i (0, false)).1.toNat) or0).pp), .int .i64 ((x.ol.getD ((l.getD i (0, false)).1.toNat) or0).po), .int .i64 ((x.ol.getD ((l.getD i (0, false)).1.toNat) or0).pc), .int .i64 ((x.ol.getD ((l.getD i (0, false)).1.toNat) or0).ps)] = W := ⟨_, rfl⟩
    have hb := hW ▸ below_var W31 (.cells #[.int .i64 0, .int .i64 0, .int .i64 0, .int .i64 0] 60) #[.int .i64 ((x.ol.getD ((l.getD i (0, false)).1.toNat) or0).pp), .int .i64 ((x.ol.getD ((l.getD i (0, false)).1.toNat) or0).po), .int .i64 ((x.ol.getD ((l.getD i (0, false)).1.toNat) or0).pc), .int .i64 ((x.ol.getD ((l.getD i (0, false)).1.toNat) or0).ps)]
    have hq : Cb W33 W31.heap.size #[.int .i64 ((x.ol.getD ((l.getD i (0, false)).1.toNat) or0).pp), .int .i64 ((x.ol.getD ((l.getD i (0, false)).1.toNat) or0).po), .int .i64 ((x.ol.getD ((l.getD i (0, false)).1.toNat) or0).pc), .int .i64 ((x.ol.getD ((l.getD i (0, false)).1.toNat) or0).ps)] 60 := hW ▸ Cb.row (Cb.made W31 #[.int .i64 0, .int .i64 0, .int .i64 0, .int .i64 0] 60) _
    refine sx_mem (by kernel_rfl) rfl rfl (.pointer (some ⟨W31.heap.size, 0, none⟩)) (W31.alloc (.cells #[.int .i64 0, .int .i64 0, .int .i64 0, .int .i64 0] 60)) (by kernel_rfl) ?_
    refine sx_store (cells := #[.int .i64 ((x.ol.getD ((l.getD i (0, false)).1.toNat) or0).pp), .int .i64 ((x.ol.getD ((l.getD i (0, false)).1.toNat) or0).po), .int .i64 ((x.ol.getD ((l.getD i (0, false)).1.toNat) or0).pc), .int .i64 ((x.ol.getD ((l.getD i (0, false)).1.toNat) or0).ps)]) (by kernel_rfl) rfl rfl (Cb.made W31 #[.int .i64 0, .int .i64 0, .int .i64 0, .int .i64 0] 60) (by kernel_rfl) (by kernel_rfl) (by kernel_rfl) (by kernel_rfl) (by kernel_rfl) ?_
    rw [hW]
    replace HB := over HB hb
    replace M2 := M2.below hb
    replace M4 := M4.below hb
    replace hSA := hSA.below hb
    replace M7 := M7.below hb
    replace M10 := M10.below hb
    replace HL := over HL hb
    replace M30 := M30.below hb
    have z11 := hb.size
    have M32 := hq
    have yM32 := hq.lt
    clear hq hb hW
    refine wpList_nil ?_
    refine sx_norm ?_
    refine wp_seq ?_
    refine wp_seq ?_
    refine wp_region_lit ?_
    refine Zv rfl (.pointer (some ⟨wr29.heap.size, 1, none⟩)) ?_
    by_cases C9 : (l.getD i (0, false)).2 = true
    ·refine Zw rfl (.bool true) (ex_load1 (v := .bool true) rfl (by have h8 := M30.cell 1 rfl; rw [show (l.getD i (0, false)).2 = true by simpa using C9] at h8; exact h8) (by kernel_rfl) Tryd.underlying4 rfl) ?_
     refine wpList_nil ?_
     refine sx_norm ?_
     refine sx_true (by kernel_rfl) ?_
     refine wp_region_lit ?_
     refine Zv rfl (.pointer (some ⟨w.heap.size, 3, none⟩)) ?_
     refine Zw rfl (.slice k.o3 x.ol.length k.c3) (ex_load1 rfl (M2.cell 3 rfl) (by kernel_rfl) Tryd.underlying27 rfl) ?_
     refine Zv rfl (.pointer (some ⟨wr29.heap.size, 0, none⟩)) ?_
     refine Zw rfl (.int .i64 ((l.getD i (0, false)).1)) (ex_load1 rfl (M30.cell 0 rfl) (by kernel_rfl) Tryd.underlying3 rfl) ?_
     refine Zw rfl (.pointer (some ⟨bo, qo + (l.getD i (0, false)).1.toNat * 16, none⟩)) (ex_indexO (q := qo) (m := x.ol.length) (c := k.c3) (k := (l.getD i (0, false)).1.toNat) (s := 16) rfl (by kernel_rfl) ((hO.below HB).oa (k := (l.getD i (0, false)).1.toNat) (by omega)) (by rw [hj0]; kernel_rfl) Tryd.underlying27 (by kernel_rfl) (by omega) (by omega)) ?_
     refine Zv rfl (.pointer (some ⟨bo, qo + (l.getD i (0, false)).1.toNat * 16 + 6, none⟩)) ?_
     refine Zw rfl (.agg #[.int .i64 ((x.ol.getD ((l.getD i (0, false)).1.toNat) or0).dp), .int .i64 ((x.ol.getD ((l.getD i (0, false)).1.toNat) or0).dd), .int .i64 ((x.ol.getD ((l.getD i (0, false)).1.toNat) or0).dc), .int .i64 ((x.ol.getD ((l.getD i (0, false)).1.toNat) or0).ds)]) (ex_loadR rfl (rw_mid (hO.below HB) (k := (l.getD i (0, false)).1.toNat) (by omega) 6 [.int .i64 ((x.ol.getD ((l.getD i (0, false)).1.toNat) or0).dp), .int .i64 ((x.ol.getD ((l.getD i (0, false)).1.toNat) or0).dd), .int .i64 ((x.ol.getD ((l.getD i (0, false)).1.toNat) or0).dc), .int .i64 ((x.ol.getD ((l.getD i (0, false)).1.toNat) or0).ds)] rfl) (by kernel_rfl) Tryd.underlying60 rfl (by kernel_rfl)) ?_
     refine sx_store (cells := #[.int .i64 ((x.ol.getD ((l.getD i (0, false)).1.toNat) or0).dp), .int .i64 ((x.ol.getD ((l.getD i (0, false)).1.toNat) or0).dd), .int .i64 ((x.ol.getD ((l.getD i (0, false)).1.toNat) or0).dc), .int .i64 ((x.ol.getD ((l.getD i (0, false)).1.toNat) or0).ds)]) (by kernel_rfl) rfl rfl M32 (by kernel_rfl) (by kernel_rfl) (by kernel_rfl) (by kernel_rfl) (by kernel_rfl) ?_
     obtain ⟨W34, hW⟩ : ∃ W, W33.setRow (W31.heap.size) #[.int .i64 ((x.ol.getD ((l.getD i (0, false)).1.toNat) or0).dp), .int .i64 ((x.ol.getD ((l.getD i (0, false)).1.toNat) or0).dd), .int .i64 ((x.ol.getD ((l.getD i (0, false)).1.toNat) or0).dc), .int .i64 ((x.ol.getD ((l.getD i (0, false)).1.toNat) or0).ds)] = W := ⟨_, rfl⟩
     have hg : W33.grownBy W34 (some (W31.heap.size)) := hW ▸ grown_row _ _ _
     have hq : Cb W34 (W31.heap.size) #[.int .i64 ((x.ol.getD ((l.getD i (0, false)).1.toNat) or0).dp), .int .i64 ((x.ol.getD ((l.getD i (0, false)).1.toNat) or0).dd), .int .i64 ((x.ol.getD ((l.getD i (0, false)).1.toNat) or0).dc), .int .i64 ((x.ol.getD ((l.getD i (0, false)).1.toNat) or0).ds)] 60 := hW ▸ Cb.row M32 _
     rw [hW]
     replace HB := HB.grown hg (by omega) (fun x e => by simp only [Option.some.injEq] at e; omega)
     replace M2 := M2.kept hg (by omega)
     replace M4 := M4.kept hg (by omega)
     replace hSA := hSA.kept hg (fun i hi => by have h8 := hltA i hi; omega)
     replace M7 := M7.kept hg (by omega)
     replace M10 := M10.kept hg (by omega)
     replace HL := HL.grown hg (by omega) (fun x e => by simp only [Option.some.injEq] at e; omega)
     replace M30 := M30.kept hg (by omega)
     have z12 := hg.size
     replace M32 := hq
     clear hq hg hW
     refine wpList_nil ?_
     refine sx_norm ?_
     refine wp_seq ?_
     have hdv : (l.getD i (0, false)).2 = true := by simpa using (by assumption : (l.getD i (0, false)).2 = true)
     rw [hdv] at hlg hbeg hdp hsb
     have hq9 : stQ (x.ol.getD (l.getD i (0, false)).1.toNat or0) true = ⟨(x.ol.getD (l.getD i (0, false)).1.toNat or0).dp, (x.ol.getD (l.getD i (0, false)).1.toNat or0).dd, (x.ol.getD (l.getD i (0, false)).1.toNat or0).dc, (x.ol.getD (l.getD i (0, false)).1.toNat or0).ds⟩ := rfl
     rw [hq9] at hlg hbeg hdp hsb
     dsimp only at hlg hbeg hdp hsb
     refine wp_region_lit ?_
     refine Zv rfl (.pointer (some ⟨W6.heap.size, 2, none⟩)) ?_
     refine Zw rfl (.slice oA ((crs x ty st l).sheet R).T.length cA) (ex_load1 rfl (M7.cell 2 rfl) (by kernel_rfl) Tryd.underlying37 rfl) ?_
     refine Zv rfl (.int .i64 ((i : Nat) : Int)) ?_
     refine Zw rfl (.pointer (some ⟨bA, qA + i * 4, none⟩)) (ex_indexO (q := qA) (m := ((crs x ty st l).sheet R).T.length) (c := cA) (k := i) (s := 4) rfl (by kernel_rfl) (hSA.oa (k := i) (by omega)) (by kernel_rfl) Tryd.underlying37 (by kernel_rfl) (by omega) (by omega)) ?_
     refine Zw rfl (.agg #[.int .i64 (((crs x ty st l).lg R i).arr), .int .i64 (((crs x ty st l).lg R i).beg), .int .i64 (((crs x ty st l).lg R (i + 1)).dep), .bool (R.getD (i + 1) false)]) (ex_loadR rfl (hSA.range (k := i) (by omega)) (by kernel_rfl) Tryd.underlying53 rfl (by kernel_rfl)) ?_
     obtain ⟨W36, hW⟩ : ∃ W, (W34.alloc (.cells #[.int .i64 0, .int .i64 0, .int .i64 0, .bool false] 53)).setRow W34.heap.size #[.int .i64 (((crs x ty st l).lg R i).arr), .int .i64 (((crs x ty st l).lg R i).beg), .int .i64 (((crs x ty st l).lg R (i + 1)).dep), .bool (R.getD (i + 1) false)] = W := ⟨_, rfl⟩
     have hb := hW ▸ below_var W34 (.cells #[.int .i64 0, .int .i64 0, .int .i64 0, .bool false] 53) #[.int .i64 (((crs x ty st l).lg R i).arr), .int .i64 (((crs x ty st l).lg R i).beg), .int .i64 (((crs x ty st l).lg R (i + 1)).dep), .bool (R.getD (i + 1) false)]
     have hq : Cb W36 W34.heap.size #[.int .i64 (((crs x ty st l).lg R i).arr), .int .i64 (((crs x ty st l).lg R i).beg), .int .i64 (((crs x ty st l).lg R (i + 1)).dep), .bool (R.getD (i + 1) false)] 53 := hW ▸ Cb.row (Cb.made W34 #[.int .i64 0, .int .i64 0, .int .i64 0, .bool false] 53) _
     refine sx_mem (by kernel_rfl) rfl rfl (.pointer (some ⟨W34.heap.size, 0, none⟩)) (W34.alloc (.cells #[.int .i64 0, .int .i64 0, .int .i64 0, .bool false] 53)) (by kernel_rfl) ?_
     refine sx_store (cells := #[.int .i64 (((crs x ty st l).lg R i).arr), .int .i64 (((crs x ty st l).lg R i).beg), .int .i64 (((crs x ty st l).lg R (i + 1)).dep), .bool (R.getD (i + 1) false)]) (by kernel_rfl) rfl rfl (Cb.made W34 #[.int .i64 0, .int .i64 0, .int .i64 0, .bool false] 53) (by kernel_rfl) (by kernel_rfl) (by kernel_rfl) (by kernel_rfl) (by kernel_rfl) ?_
     rw [hW]
     replace HB := over HB hb
     replace M2 := M2.below hb
     replace M4 := M4.below hb
     replace hSA := hSA.below hb
     replace M7 := M7.below hb
     replace M10 := M10.below hb
     replace HL := over HL hb
     replace M30 := M30.below hb
     replace M32 := M32.below hb
     have z13 := hb.size
     have M35 := hq
     have yM35 := hq.lt
     clear hq hb hW
     refine wpList_nil ?_
     refine sx_norm ?_
     refine wp_seq ?_
     refine wp_region_lit ?_
     refine Zv rfl (.pointer (some ⟨W34.heap.size, 1, none⟩)) ?_
     refine Zw rfl (.int .i64 (((crs x ty st l).lg R i).beg)) (ex_load1 rfl (M35.cell 1 rfl) (by kernel_rfl) Tryd.underlying3 rfl) ?_
     refine Zv rfl (.pointer (some ⟨W31.heap.size, 3, none⟩)) ?_
     refine Zw rfl (.int .i64 ((x.ol.getD ((l.getD i (0, false)).1.toNat) or0).ds)) (ex_load1 rfl (M32.cell 3 rfl) (by kernel_rfl) Tryd.underlying3 rfl) ?_
     refine sx_int (by kernel_rfl) rfl rfl .i64 (IntKind.i64.wrap (((crs x ty st l).lg R i).beg + (x.ol.getD ((l.getD i (0, false)).1.toNat) or0).ds)) ((((crs x ty st l).lg R i).beg + (x.ol.getD ((l.getD i (0, false)).1.toNat) or0).ds)) (by kernel_rfl) (by rw [IntKind.wrap_i64]; omega) ?_
     refine Zv rfl (.int .i64 (((crs x ty st l).lg R i).beg + (x.ol.getD ((l.getD i (0, false)).1.toNat) or0).ds)) ?_
     refine wpList_nil ?_
     refine sx_norm ?_
     refine wp_seq ?_
     refine wp_seq ?_
     refine wp_region_lit ?_
     refine Zv rfl (.slice oR R.length cR) ?_
     refine Zv rfl (.int .i64 ((i : Nat) : Int)) ?_
     refine sx_int (by kernel_rfl) rfl rfl .i64 (IntKind.i64.wrap (((i : Nat) : Int) + 1)) (((i + 1 : Nat) : Int)) (by kernel_rfl) (by rw [IntKind.wrap_i64]; omega) ?_
     refine Zw rfl (.pointer (some ⟨bR, qR + (i + 1) * 1, none⟩)) (ex_indexO (q := qR) (m := R.length) (c := cR) (k := i + 1) (s := 1) rfl (by kernel_rfl) ((hR.below HB).oa (k := i + 1) (by omega)) (by kernel_rfl) Tryd.underlying31 (by kernel_rfl) (by omega) (by omega)) ?_
     by_cases C10 : (R.getD (i + 1) false) = true
     ·refine Zw rfl (.bool true) (ex_load1 (v := .bool true) rfl (by have h8 := (hR.below HB).cell (k := i + 1) (by omega) 0 rfl; rw [show (R.getD (i + 1) false) = true by simpa using C10] at h8; exact h8) (by kernel_rfl) Tryd.underlying4 rfl) ?_
      refine wpList_nil ?_
      refine sx_norm ?_
      refine sx_true (by kernel_rfl) ?_
      refine wp_region_lit ?_
      refine Zv rfl (.int .i64 (((crs x ty st l).lg R i).beg + (x.ol.getD ((l.getD i (0, false)).1.toNat) or0).ds)) ?_
      refine Zv rfl (.pointer (some ⟨W9.heap.size, 10, none⟩)) ?_
      refine Zw rfl (.int .i64 ((x.tl.getD ty.toNat ty0).rst)) (ex_load1 rfl (M10.cell 10 rfl) (by kernel_rfl) Tryd.underlying3 rfl) ?_
      refine sx_int (by kernel_rfl) rfl rfl .i64 (IntKind.i64.wrap ((((crs x ty st l).lg R i).beg + (x.ol.getD ((l.getD i (0, false)).1.toNat) or0).ds) + (x.tl.getD ty.toNat ty0).rst)) (((((crs x ty st l).lg R i).beg + (x.ol.getD ((l.getD i (0, false)).1.toNat) or0).ds) + (x.tl.getD ty.toNat ty0).rst)) (by kernel_rfl) (by rw [IntKind.wrap_i64]; omega) ?_
      refine Zv rfl (.int .i64 ((((crs x ty st l).lg R i).beg + (x.ol.getD ((l.getD i (0, false)).1.toNat) or0).ds) + (x.tl.getD ty.toNat ty0).rst)) ?_
      refine wpList_nil ?_
      refine sx_norm ?_
      refine wp_seq ?_
      refine wp_seq ?_
      replace hdp : ((crs x ty st l).lg R (i + 1)).dep = ((((crs x ty st l).lg R i).beg + (x.ol.getD ((l.getD i (0, false)).1.toNat) or0).ds) + (x.tl.getD ty.toNat ty0).rst) := by rw [hdp]; first | (rw [if_pos (by assumption)]; done) | (rw [if_neg (by assumption)]; done)
      obtain ⟨Y37, hW⟩ : ∃ W, W36.drew = W := ⟨_, rfl⟩
      have hb : Below W36.heap.size W36 Y37 := hW ▸ below_drew (Below.refl _ _)
      replace HB := over HB hb
      replace M2 := M2.below hb
      replace M4 := M4.below hb
      replace hSA := hSA.below hb
      replace M7 := M7.below hb
      replace M10 := M10.below hb
      replace HL := over HL hb
      replace M30 := M30.below hb
      replace M32 := M32.below hb
      replace M35 := M35.below hb
      have z14 := hb.size
      clear hb
      refine sd_begin (fun W => Cb W (w.heap.size) (iK k x) 30 ∧ Cb W (W1.heap.size) (rK ty st orr F.length cr oa l.length ca) 34 ∧ Rw W bA qA 4 (fun k => [.int .i64 ((crs x ty st l).lg R k).arr, .int .i64 ((crs x ty st l).lg R k).beg, .int .i64 ((crs x ty st l).lg R (k + 1)).dep, .bool (R.getD (k + 1) false)]) (((crs x ty st l).sheet R).T.length) oA ∧ Cb W (W6.heap.size) #[.bool (R.getD 0 false), .int .i64 (((crs x ty st l).lg R 0).dep), .slice oA ((crs x ty st l).sheet R).T.length cA, .int .i64 (((crs x ty st l).lg R ((crs x ty st l).n - 1)).arr), .int .i64 ((crs x ty st l).mil R (crs x ty st l).n)] 39 ∧ Cb W (W9.heap.size) #[.string (x.tl.getD ty.toNat ty0).name, .int .i64 ((x.tl.getD ty.toNat ty0).count), .int .i64 ((x.tl.getD ty.toNat ty0).fr), .int .i64 ((x.tl.getD ty.toNat ty0).to), .slice (va ty.toNat) (x.tl.getD ty.toNat ty0).cap.length (vb ty.toNat), .int .i64 ((x.tl.getD ty.toNat ty0).skills), .int .i64 ((x.tl.getD ty.toNat ty0).prof), .int .i64 ((x.tl.getD ty.toNat ty0).opn), .int .i64 ((x.tl.getD ty.toNat ty0).cls), .int .i64 ((x.tl.getD ty.toNat ty0).drv), .int .i64 ((x.tl.getD ty.toNat ty0).rst), .int .i64 ((x.tl.getD ty.toNat ty0).fix), .int .i64 ((x.tl.getD ty.toNat ty0).pm), .int .i64 ((x.tl.getD ty.toNat ty0).pt)] 56 ∧ Cb W (wr29.heap.size) #[.int .i64 ((l.getD i (0, false)).1), .bool (l.getD i (0, false)).2] 58 ∧ Cb W (W31.heap.size) #[.int .i64 ((x.ol.getD ((l.getD i (0, false)).1.toNat) or0).dp), .int .i64 ((x.ol.getD ((l.getD i (0, false)).1.toNat) or0).dd), .int .i64 ((x.ol.getD ((l.getD i (0, false)).1.toNat) or0).dc), .int .i64 ((x.ol.getD ((l.getD i (0, false)).1.toNat) or0).ds)] 60 ∧ Cb W (W34.heap.size) #[.int .i64 (((crs x ty st l).lg R i).arr), .int .i64 (((crs x ty st l).lg R i).beg), .int .i64 (((crs x ty st l).lg R (i + 1)).dep), .bool (R.getD (i + 1) false)] 53 ∧ Rw W b o 2 (vF l) l.length oa ∧ Rw W bR qR 1 (bF R) R.length oR ∧ Rw W bo qo 16 (oF x.ol vo) x.ol.length k.o3 ∧ Rw W bt qt 14 (tyF x.tl va vb) x.tl.length k.o2 ∧ True) (by kernel_rfl) (by rw [hW]; exact ⟨M2, M4, hSA, M7, M10, M30, M32, M35, (hl.below HB), (hR.below HB), (hO.below HB), (hTy.below HB), trivial⟩) ?_
      rw [hW]
      clear hW
      refine Zu 0 rfl rfl (.pointer (some ⟨W34.heap.size, 0, none⟩)) ⟨M2, M4, hSA, M7, M10, M30, M32, M35, (hl.below HB), (hR.below HB), (hO.below HB), (hTy.below HB), trivial⟩ ?_
      refine Zt 1 rfl rfl (.int .i64 (((crs x ty st l).lg R i).arr)) (fun w9 h9 => ex_load1 rfl (h9.2.2.2.2.2.2.2.1.cell 0 rfl) (by kernel_rfl) Tryd.underlying3 rfl) ⟨M2, M4, hSA, M7, M10, M30, M32, M35, (hl.below HB), (hR.below HB), (hO.below HB), (hTy.below HB), trivial⟩ ?_
      refine Zu 2 rfl rfl (.int .i64 (((crs x ty st l).lg R i).dep)) ⟨M2, M4, hSA, M7, M10, M30, M32, M35, (hl.below HB), (hR.below HB), (hO.below HB), (hTy.below HB), trivial⟩ ?_
      refine Zt 3 rfl rfl (.bool false) (fun w9 _ => ex_bool (decide (((crs x ty st l).lg R i).arr < ((crs x ty st l).lg R i).dep)) false (by kernel_rfl) (decide_eq_false (by omega))) ⟨M2, M4, hSA, M7, M10, M30, M32, M35, (hl.below HB), (hR.below HB), (hO.below HB), (hTy.below HB), trivial⟩ ?_
      refine Zu 4 rfl rfl (.bool false) ⟨M2, M4, hSA, M7, M10, M30, M32, M35, (hl.below HB), (hR.below HB), (hO.below HB), (hTy.below HB), trivial⟩ ?_
      refine Zu 5 rfl rfl (.pointer (some ⟨W34.heap.size, 0, none⟩)) ⟨M2, M4, hSA, M7, M10, M30, M32, M35, (hl.below HB), (hR.below HB), (hO.below HB), (hTy.below HB), trivial⟩ ?_
      refine Zt 6 rfl rfl (.int .i64 (((crs x ty st l).lg R i).arr)) (fun w9 h9 => ex_load1 rfl (h9.2.2.2.2.2.2.2.1.cell 0 rfl) (by kernel_rfl) Tryd.underlying3 rfl) ⟨M2, M4, hSA, M7, M10, M30, M32, M35, (hl.below HB), (hR.below HB), (hO.below HB), (hTy.below HB), trivial⟩ ?_
      refine Zu 7 rfl rfl (.pointer (some ⟨W31.heap.size, 2, none⟩)) ⟨M2, M4, hSA, M7, M10, M30, M32, M35, (hl.below HB), (hR.below HB), (hO.below HB), (hTy.below HB), trivial⟩ ?_
      refine Zt 8 rfl rfl (.int .i64 ((x.ol.getD ((l.getD i (0, false)).1.toNat) or0).dc)) (fun w9 h9 => ex_load1 rfl (h9.2.2.2.2.2.2.1.cell 2 rfl) (by kernel_rfl) Tryd.underlying3 rfl) ⟨M2, M4, hSA, M7, M10, M30, M32, M35, (hl.below HB), (hR.below HB), (hO.below HB), (hTy.below HB), trivial⟩ ?_
      refine Zt 9 rfl rfl (.bool false) (fun w9 _ => ex_bool (decide (((crs x ty st l).lg R i).arr > (x.ol.getD ((l.getD i (0, false)).1.toNat) or0).dc)) false (by kernel_rfl) (decide_eq_false (by omega))) ⟨M2, M4, hSA, M7, M10, M30, M32, M35, (hl.below HB), (hR.below HB), (hO.below HB), (hTy.below HB), trivial⟩ ?_
      refine Zu 10 rfl rfl (.bool false) ⟨M2, M4, hSA, M7, M10, M30, M32, M35, (hl.below HB), (hR.below HB), (hO.below HB), (hTy.below HB), trivial⟩ ?_
      refine Zu 11 rfl rfl (.bool false) ⟨M2, M4, hSA, M7, M10, M30, M32, M35, (hl.below HB), (hR.below HB), (hO.below HB), (hTy.below HB), trivial⟩ ?_
      refine Zu 12 rfl rfl (.pointer (some ⟨W34.heap.size, 1, none⟩)) ⟨M2, M4, hSA, M7, M10, M30, M32, M35, (hl.below HB), (hR.below HB), (hO.below HB), (hTy.below HB), trivial⟩ ?_
      refine Zt 13 rfl rfl (.int .i64 (((crs x ty st l).lg R i).beg)) (fun w9 h9 => ex_load1 rfl (h9.2.2.2.2.2.2.2.1.cell 1 rfl) (by kernel_rfl) Tryd.underlying3 rfl) ⟨M2, M4, hSA, M7, M10, M30, M32, M35, (hl.below HB), (hR.below HB), (hO.below HB), (hTy.below HB), trivial⟩ ?_
      refine Zu 14 rfl rfl (.pointer (some ⟨W34.heap.size, 0, none⟩)) ⟨M2, M4, hSA, M7, M10, M30, M32, M35, (hl.below HB), (hR.below HB), (hO.below HB), (hTy.below HB), trivial⟩ ?_
      refine Zt 15 rfl rfl (.int .i64 (((crs x ty st l).lg R i).arr)) (fun w9 h9 => ex_load1 rfl (h9.2.2.2.2.2.2.2.1.cell 0 rfl) (by kernel_rfl) Tryd.underlying3 rfl) ⟨M2, M4, hSA, M7, M10, M30, M32, M35, (hl.below HB), (hR.below HB), (hO.below HB), (hTy.below HB), trivial⟩ ?_
      refine Zu 16 rfl rfl (.pointer (some ⟨W31.heap.size, 1, none⟩)) ⟨M2, M4, hSA, M7, M10, M30, M32, M35, (hl.below HB), (hR.below HB), (hO.below HB), (hTy.below HB), trivial⟩ ?_
      refine Zt 17 rfl rfl (.int .i64 ((x.ol.getD ((l.getD i (0, false)).1.toNat) or0).dd)) (fun w9 h9 => ex_load1 rfl (h9.2.2.2.2.2.2.1.cell 1 rfl) (by kernel_rfl) Tryd.underlying3 rfl) ⟨M2, M4, hSA, M7, M10, M30, M32, M35, (hl.below HB), (hR.below HB), (hO.below HB), (hTy.below HB), trivial⟩ ?_
      refine Zt 18 rfl rfl (.int .i64 (((crs x ty st l).lg R i).beg)) (fun w9 _ => by rw [hbeg]; kernel_rfl) ⟨M2, M4, hSA, M7, M10, M30, M32, M35, (hl.below HB), (hR.below HB), (hO.below HB), (hTy.below HB), trivial⟩ ?_
      refine Zt 19 rfl rfl (.bool false) (fun w9 _ => ex_bool ((((crs x ty st l).lg R i).beg : Int) != (((crs x ty st l).lg R i).beg : Int)) false (by kernel_rfl) (by simp)) ⟨M2, M4, hSA, M7, M10, M30, M32, M35, (hl.below HB), (hR.below HB), (hO.below HB), (hTy.below HB), trivial⟩ ?_
      refine Zu 20 rfl rfl (.bool false) ⟨M2, M4, hSA, M7, M10, M30, M32, M35, (hl.below HB), (hR.below HB), (hO.below HB), (hTy.below HB), trivial⟩ ?_
      refine Zu 21 rfl rfl (.bool false) ⟨M2, M4, hSA, M7, M10, M30, M32, M35, (hl.below HB), (hR.below HB), (hO.below HB), (hTy.below HB), trivial⟩ ?_
      refine Zu 22 rfl rfl (.pointer (some ⟨W34.heap.size, 2, none⟩)) ⟨M2, M4, hSA, M7, M10, M30, M32, M35, (hl.below HB), (hR.below HB), (hO.below HB), (hTy.below HB), trivial⟩ ?_
      refine Zt 23 rfl rfl (.int .i64 (((crs x ty st l).lg R (i + 1)).dep)) (fun w9 h9 => ex_load1 rfl (h9.2.2.2.2.2.2.2.1.cell 2 rfl) (by kernel_rfl) Tryd.underlying3 rfl) ⟨M2, M4, hSA, M7, M10, M30, M32, M35, (hl.below HB), (hR.below HB), (hO.below HB), (hTy.below HB), trivial⟩ ?_
      refine Zu 24 rfl rfl (.int .i64 ((((crs x ty st l).lg R i).beg + (x.ol.getD ((l.getD i (0, false)).1.toNat) or0).ds) + (x.tl.getD ty.toNat ty0).rst)) ⟨M2, M4, hSA, M7, M10, M30, M32, M35, (hl.below HB), (hR.below HB), (hO.below HB), (hTy.below HB), trivial⟩ ?_
      refine Zt 25 rfl rfl (.bool false) (fun w9 _ => ex_bool ((((crs x ty st l).lg R (i + 1)).dep : Int) != (((((crs x ty st l).lg R i).beg + (x.ol.getD ((l.getD i (0, false)).1.toNat) or0).ds) + (x.tl.getD ty.toNat ty0).rst) : Int)) false (by kernel_rfl) (by rw [bne_eq_false_iff_eq]; omega)) ⟨M2, M4, hSA, M7, M10, M30, M32, M35, (hl.below HB), (hR.below HB), (hO.below HB), (hTy.below HB), trivial⟩ ?_
      refine Zu 26 rfl rfl (.bool false) ⟨M2, M4, hSA, M7, M10, M30, M32, M35, (hl.below HB), (hR.below HB), (hO.below HB), (hTy.below HB), trivial⟩ ?_
      refine Zu 27 rfl rfl (.bool false) ⟨M2, M4, hSA, M7, M10, M30, M32, M35, (hl.below HB), (hR.below HB), (hO.below HB), (hTy.below HB), trivial⟩ ?_
      refine Zu 28 rfl rfl (.pointer (some ⟨W34.heap.size, 3, none⟩)) ⟨M2, M4, hSA, M7, M10, M30, M32, M35, (hl.below HB), (hR.below HB), (hO.below HB), (hTy.below HB), trivial⟩ ?_
      refine Zt 29 rfl rfl (.bool (R.getD (i + 1) false)) (fun w9 h9 => ex_load1 rfl (h9.2.2.2.2.2.2.2.1.cell 3 rfl) (by kernel_rfl) Tryd.underlying4 rfl) ⟨M2, M4, hSA, M7, M10, M30, M32, M35, (hl.below HB), (hR.below HB), (hO.below HB), (hTy.below HB), trivial⟩ ?_
      refine Zu 30 rfl rfl (.slice oR R.length cR) ⟨M2, M4, hSA, M7, M10, M30, M32, M35, (hl.below HB), (hR.below HB), (hO.below HB), (hTy.below HB), trivial⟩ ?_
      refine Zu 31 rfl rfl (.int .i64 ((i : Nat) : Int)) ⟨M2, M4, hSA, M7, M10, M30, M32, M35, (hl.below HB), (hR.below HB), (hO.below HB), (hTy.below HB), trivial⟩ ?_
      refine Zt 32 rfl rfl (.int .i64 ((i + 1 : Nat) : Int)) (fun w9 _ => ex_int .i64 (IntKind.i64.wrap (((i : Nat) : Int) + 1)) (((i + 1 : Nat) : Int)) (by kernel_rfl) (by rw [IntKind.wrap_i64]; omega)) ⟨M2, M4, hSA, M7, M10, M30, M32, M35, (hl.below HB), (hR.below HB), (hO.below HB), (hTy.below HB), trivial⟩ ?_
      refine Zt 33 rfl rfl (.pointer (some ⟨bR, qR + (i + 1) * 1, none⟩)) (fun w9 h9 => ex_indexO (q := qR) (m := R.length) (c := cR) (k := i + 1) (s := 1) rfl (by kernel_rfl) (h9.2.2.2.2.2.2.2.2.2.1.oa (k := i + 1) (by omega)) (by kernel_rfl) Tryd.underlying31 (by kernel_rfl) (by omega) (by omega)) ⟨M2, M4, hSA, M7, M10, M30, M32, M35, (hl.below HB), (hR.below HB), (hO.below HB), (hTy.below HB), trivial⟩ ?_
      refine Zt 34 rfl rfl (.bool (R.getD (i + 1) false)) (fun w9 h9 => ex_load1 rfl (h9.2.2.2.2.2.2.2.2.2.1.cell (k := i + 1) (by omega) 0 rfl) (by kernel_rfl) Tryd.underlying4 rfl) ⟨M2, M4, hSA, M7, M10, M30, M32, M35, (hl.below HB), (hR.below HB), (hO.below HB), (hTy.below HB), trivial⟩ ?_
      refine Zt 35 rfl rfl (.bool false) (fun w9 _ => ex_bool (((R.getD (i + 1) false) != (R.getD (i + 1) false))) false (by kernel_rfl) (by simp)) ⟨M2, M4, hSA, M7, M10, M30, M32, M35, (hl.below HB), (hR.below HB), (hO.below HB), (hTy.below HB), trivial⟩ ?_
      refine Zu 36 rfl rfl (.bool false) ⟨M2, M4, hSA, M7, M10, M30, M32, M35, (hl.below HB), (hR.below HB), (hO.below HB), (hTy.below HB), trivial⟩ ?_
      refine sd_done (by kernel_rfl) ?_
      refine sx_norm ?_
      refine sx_false (by kernel_rfl) ?_
      refine wp_skip ?_
      refine sx_norm ?_
      refine wp_region_lit ?_
      refine Zv rfl (.pointer (some ⟨W34.heap.size, 2, none⟩)) ?_
      refine Zw rfl (.int .i64 (((crs x ty st l).lg R (i + 1)).dep)) (ex_load1 rfl (M35.cell 2 rfl) (by kernel_rfl) Tryd.underlying3 rfl) ?_
      refine Zv rfl (.int .i64 (((crs x ty st l).lg R (i + 1)).dep)) ?_
      refine wpList_nil ?_
      refine sx_in ?_
      refine sx_norm ?_
      refine wp_region_lit ?_
      refine sx_int (by kernel_rfl) rfl rfl .i64 (IntKind.i64.wrap (((i : Nat) : Int) + 1)) (((i + 1 : Nat) : Int)) (by kernel_rfl) (by rw [IntKind.wrap_i64]; omega) ?_
      refine Zv rfl (.int .i64 ((i + 1 : Nat) : Int)) ?_
      refine wpList_nil ?_
      refine sx_norm ?_
      exact sx_again (l.length - (i + 1)) (i + 1) (by omega) (by kernel_rfl) ⟨by omega, Nat.le_refl _, HL⟩
     refine Zw rfl (.bool false) (ex_load1 (v := .bool false) rfl (by have h8 := (hR.below HB).cell (k := i + 1) (by omega) 0 rfl; rw [show (R.getD (i + 1) false) = false by simpa using C10] at h8; exact h8) (by kernel_rfl) Tryd.underlying4 rfl) ?_
     refine wpList_nil ?_
     refine sx_norm ?_
     refine sx_false (by kernel_rfl) ?_
     refine wp_skip ?_
     refine sx_norm ?_
     refine wp_seq ?_
     refine wp_seq ?_
     replace hdp : ((crs x ty st l).lg R (i + 1)).dep = (((crs x ty st l).lg R i).beg + (x.ol.getD ((l.getD i (0, false)).1.toNat) or0).ds) := by rw [hdp]; first | (rw [if_pos (by assumption)]; done) | (rw [if_neg (by assumption)]; done)
     obtain ⟨Y38, hW⟩ : ∃ W, W36.drew = W := ⟨_, rfl⟩
     have hb : Below W36.heap.size W36 Y38 := hW ▸ below_drew (Below.refl _ _)
     replace HB := over HB hb
     replace M2 := M2.below hb
     replace M4 := M4.below hb
     replace hSA := hSA.below hb
     replace M7 := M7.below hb
     replace M10 := M10.below hb
     replace HL := over HL hb
     replace M30 := M30.below hb
     replace M32 := M32.below hb
     replace M35 := M35.below hb
     have z14 := hb.size
     clear hb
     refine sd_begin (fun W => Cb W (w.heap.size) (iK k x) 30 ∧ Cb W (W1.heap.size) (rK ty st orr F.length cr oa l.length ca) 34 ∧ Rw W bA qA 4 (fun k => [.int .i64 ((crs x ty st l).lg R k).arr, .int .i64 ((crs x ty st l).lg R k).beg, .int .i64 ((crs x ty st l).lg R (k + 1)).dep, .bool (R.getD (k + 1) false)]) (((crs x ty st l).sheet R).T.length) oA ∧ Cb W (W6.heap.size) #[.bool (R.getD 0 false), .int .i64 (((crs x ty st l).lg R 0).dep), .slice oA ((crs x ty st l).sheet R).T.length cA, .int .i64 (((crs x ty st l).lg R ((crs x ty st l).n - 1)).arr), .int .i64 ((crs x ty st l).mil R (crs x ty st l).n)] 39 ∧ Cb W (W9.heap.size) #[.string (x.tl.getD ty.toNat ty0).name, .int .i64 ((x.tl.getD ty.toNat ty0).count), .int .i64 ((x.tl.getD ty.toNat ty0).fr), .int .i64 ((x.tl.getD ty.toNat ty0).to), .slice (va ty.toNat) (x.tl.getD ty.toNat ty0).cap.length (vb ty.toNat), .int .i64 ((x.tl.getD ty.toNat ty0).skills), .int .i64 ((x.tl.getD ty.toNat ty0).prof), .int .i64 ((x.tl.getD ty.toNat ty0).opn), .int .i64 ((x.tl.getD ty.toNat ty0).cls), .int .i64 ((x.tl.getD ty.toNat ty0).drv), .int .i64 ((x.tl.getD ty.toNat ty0).rst), .int .i64 ((x.tl.getD ty.toNat ty0).fix), .int .i64 ((x.tl.getD ty.toNat ty0).pm), .int .i64 ((x.tl.getD ty.toNat ty0).pt)] 56 ∧ Cb W (wr29.heap.size) #[.int .i64 ((l.getD i (0, false)).1), .bool (l.getD i (0, false)).2] 58 ∧ Cb W (W31.heap.size) #[.int .i64 ((x.ol.getD ((l.getD i (0, false)).1.toNat) or0).dp), .int .i64 ((x.ol.getD ((l.getD i (0, false)).1.toNat) or0).dd), .int .i64 ((x.ol.getD ((l.getD i (0, false)).1.toNat) or0).dc), .int .i64 ((x.ol.getD ((l.getD i (0, false)).1.toNat) or0).ds)] 60 ∧ Cb W (W34.heap.size) #[.int .i64 (((crs x ty st l).lg R i).arr), .int .i64 (((crs x ty st l).lg R i).beg), .int .i64 (((crs x ty st l).lg R (i + 1)).dep), .bool (R.getD (i + 1) false)] 53 ∧ Rw W b o 2 (vF l) l.length oa ∧ Rw W bR qR 1 (bF R) R.length oR ∧ Rw W bo qo 16 (oF x.ol vo) x.ol.length k.o3 ∧ Rw W bt qt 14 (tyF x.tl va vb) x.tl.length k.o2 ∧ True) (by kernel_rfl) (by rw [hW]; exact ⟨M2, M4, hSA, M7, M10, M30, M32, M35, (hl.below HB), (hR.below HB), (hO.below HB), (hTy.below HB), trivial⟩) ?_
     rw [hW]
     clear hW
     refine Zu 0 rfl rfl (.pointer (some ⟨W34.heap.size, 0, none⟩)) ⟨M2, M4, hSA, M7, M10, M30, M32, M35, (hl.below HB), (hR.below HB), (hO.below HB), (hTy.below HB), trivial⟩ ?_
     refine Zt 1 rfl rfl (.int .i64 (((crs x ty st l).lg R i).arr)) (fun w9 h9 => ex_load1 rfl (h9.2.2.2.2.2.2.2.1.cell 0 rfl) (by kernel_rfl) Tryd.underlying3 rfl) ⟨M2, M4, hSA, M7, M10, M30, M32, M35, (hl.below HB), (hR.below HB), (hO.below HB), (hTy.below HB), trivial⟩ ?_
     refine Zu 2 rfl rfl (.int .i64 (((crs x ty st l).lg R i).dep)) ⟨M2, M4, hSA, M7, M10, M30, M32, M35, (hl.below HB), (hR.below HB), (hO.below HB), (hTy.below HB), trivial⟩ ?_
     refine Zt 3 rfl rfl (.bool false) (fun w9 _ => ex_bool (decide (((crs x ty st l).lg R i).arr < ((crs x ty st l).lg R i).dep)) false (by kernel_rfl) (decide_eq_false (by omega))) ⟨M2, M4, hSA, M7, M10, M30, M32, M35, (hl.below HB), (hR.below HB), (hO.below HB), (hTy.below HB), trivial⟩ ?_
     refine Zu 4 rfl rfl (.bool false) ⟨M2, M4, hSA, M7, M10, M30, M32, M35, (hl.below HB), (hR.below HB), (hO.below HB), (hTy.below HB), trivial⟩ ?_
     refine Zu 5 rfl rfl (.pointer (some ⟨W34.heap.size, 0, none⟩)) ⟨M2, M4, hSA, M7, M10, M30, M32, M35, (hl.below HB), (hR.below HB), (hO.below HB), (hTy.below HB), trivial⟩ ?_
     refine Zt 6 rfl rfl (.int .i64 (((crs x ty st l).lg R i).arr)) (fun w9 h9 => ex_load1 rfl (h9.2.2.2.2.2.2.2.1.cell 0 rfl) (by kernel_rfl) Tryd.underlying3 rfl) ⟨M2, M4, hSA, M7, M10, M30, M32, M35, (hl.below HB), (hR.below HB), (hO.below HB), (hTy.below HB), trivial⟩ ?_
     refine Zu 7 rfl rfl (.pointer (some ⟨W31.heap.size, 2, none⟩)) ⟨M2, M4, hSA, M7, M10, M30, M32, M35, (hl.below HB), (hR.below HB), (hO.below HB), (hTy.below HB), trivial⟩ ?_
     refine Zt 8 rfl rfl (.int .i64 ((x.ol.getD ((l.getD i (0, false)).1.toNat) or0).dc)) (fun w9 h9 => ex_load1 rfl (h9.2.2.2.2.2.2.1.cell 2 rfl) (by kernel_rfl) Tryd.underlying3 rfl) ⟨M2, M4, hSA, M7, M10, M30, M32, M35, (hl.below HB), (hR.below HB), (hO.below HB), (hTy.below HB), trivial⟩ ?_
     refine Zt 9 rfl rfl (.bool false) (fun w9 _ => ex_bool (decide (((crs x ty st l).lg R i).arr > (x.ol.getD ((l.getD i (0, false)).1.toNat) or0).dc)) false (by kernel_rfl) (decide_eq_false (by omega))) ⟨M2, M4, hSA, M7, M10, M30, M32, M35, (hl.below HB), (hR.below HB), (hO.below HB), (hTy.below HB), trivial⟩ ?_
     refine Zu 10 rfl rfl (.bool false) ⟨M2, M4, hSA, M7, M10, M30, M32, M35, (hl.below HB), (hR.below HB), (hO.below HB), (hTy.below HB), trivial⟩ ?_
     refine Zu 11 rfl rfl (.bool false) ⟨M2, M4, hSA, M7, M10, M30, M32, M35, (hl.below HB), (hR.below HB), (hO.below HB), (hTy.below HB), trivial⟩ ?_
     refine Zu 12 rfl rfl (.pointer (some ⟨W34.heap.size, 1, none⟩)) ⟨M2, M4, hSA, M7, M10, M30, M32, M35, (hl.below HB), (hR.below HB), (hO.below HB), (hTy.below HB), trivial⟩ ?_
     refine Zt 13 rfl rfl (.int .i64 (((crs x ty st l).lg R i).beg)) (fun w9 h9 => ex_load1 rfl (h9.2.2.2.2.2.2.2.1.cell 1 rfl) (by kernel_rfl) Tryd.underlying3 rfl) ⟨M2, M4, hSA, M7, M10, M30, M32, M35, (hl.below HB), (hR.below HB), (hO.below HB), (hTy.below HB), trivial⟩ ?_
     refine Zu 14 rfl rfl (.pointer (some ⟨W34.heap.size, 0, none⟩)) ⟨M2, M4, hSA, M7, M10, M30, M32, M35, (hl.below HB), (hR.below HB), (hO.below HB), (hTy.below HB), trivial⟩ ?_
     refine Zt 15 rfl rfl (.int .i64 (((crs x ty st l).lg R i).arr)) (fun w9 h9 => ex_load1 rfl (h9.2.2.2.2.2.2.2.1.cell 0 rfl) (by kernel_rfl) Tryd.underlying3 rfl) ⟨M2, M4, hSA, M7, M10, M30, M32, M35, (hl.below HB), (hR.below HB), (hO.below HB), (hTy.below HB), trivial⟩ ?_
     refine Zu 16 rfl rfl (.pointer (some ⟨W31.heap.size, 1, none⟩)) ⟨M2, M4, hSA, M7, M10, M30, M32, M35, (hl.below HB), (hR.below HB), (hO.below HB), (hTy.below HB), trivial⟩ ?_
     refine Zt 17 rfl rfl (.int .i64 ((x.ol.getD ((l.getD i (0, false)).1.toNat) or0).dd)) (fun w9 h9 => ex_load1 rfl (h9.2.2.2.2.2.2.1.cell 1 rfl) (by kernel_rfl) Tryd.underlying3 rfl) ⟨M2, M4, hSA, M7, M10, M30, M32, M35, (hl.below HB), (hR.below HB), (hO.below HB), (hTy.below HB), trivial⟩ ?_
     refine Zt 18 rfl rfl (.int .i64 (((crs x ty st l).lg R i).beg)) (fun w9 _ => by rw [hbeg]; kernel_rfl) ⟨M2, M4, hSA, M7, M10, M30, M32, M35, (hl.below HB), (hR.below HB), (hO.below HB), (hTy.below HB), trivial⟩ ?_
     refine Zt 19 rfl rfl (.bool false) (fun w9 _ => ex_bool ((((crs x ty st l).lg R i).beg : Int) != (((crs x ty st l).lg R i).beg : Int)) false (by kernel_rfl) (by simp)) ⟨M2, M4, hSA, M7, M10, M30, M32, M35, (hl.below HB), (hR.below HB), (hO.below HB), (hTy.below HB), trivial⟩ ?_
     refine Zu 20 rfl rfl (.bool false) ⟨M2, M4, hSA, M7, M10, M30, M32, M35, (hl.below HB), (hR.below HB), (hO.below HB), (hTy.below HB), trivial⟩ ?_
     refine Zu 21 rfl rfl (.bool false) ⟨M2, M4, hSA, M7, M10, M30, M32, M35, (hl.below HB), (hR.below HB), (hO.below HB), (hTy.below HB), trivial⟩ ?_
     refine Zu 22 rfl rfl (.pointer (some ⟨W34.heap.size, 2, none⟩)) ⟨M2, M4, hSA, M7, M10, M30, M32, M35, (hl.below HB), (hR.below HB), (hO.below HB), (hTy.below HB), trivial⟩ ?_
     refine Zt 23 rfl rfl (.int .i64 (((crs x ty st l).lg R (i + 1)).dep)) (fun w9 h9 => ex_load1 rfl (h9.2.2.2.2.2.2.2.1.cell 2 rfl) (by kernel_rfl) Tryd.underlying3 rfl) ⟨M2, M4, hSA, M7, M10, M30, M32, M35, (hl.below HB), (hR.below HB), (hO.below HB), (hTy.below HB), trivial⟩ ?_
     refine Zu 24 rfl rfl (.int .i64 (((crs x ty st l).lg R i).beg + (x.ol.getD ((l.getD i (0, false)).1.toNat) or0).ds)) ⟨M2, M4, hSA, M7, M10, M30, M32, M35, (hl.below HB), (hR.below HB), (hO.below HB), (hTy.below HB), trivial⟩ ?_
     refine Zt 25 rfl rfl (.bool false) (fun w9 _ => ex_bool ((((crs x ty st l).lg R (i + 1)).dep : Int) != ((((crs x ty st l).lg R i).beg + (x.ol.getD ((l.getD i (0, false)).1.toNat) or0).ds) : Int)) false (by kernel_rfl) (by rw [bne_eq_false_iff_eq]; omega)) ⟨M2, M4, hSA, M7, M10, M30, M32, M35, (hl.below HB), (hR.below HB), (hO.below HB), (hTy.below HB), trivial⟩ ?_
     refine Zu 26 rfl rfl (.bool false) ⟨M2, M4, hSA, M7, M10, M30, M32, M35, (hl.below HB), (hR.below HB), (hO.below HB), (hTy.below HB), trivial⟩ ?_
     refine Zu 27 rfl rfl (.bool false) ⟨M2, M4, hSA, M7, M10, M30, M32, M35, (hl.below HB), (hR.below HB), (hO.below HB), (hTy.below HB), trivial⟩ ?_
     refine Zu 28 rfl rfl (.pointer (some ⟨W34.heap.size, 3, none⟩)) ⟨M2, M4, hSA, M7, M10, M30, M32, M35, (hl.below HB), (hR.below HB), (hO.below HB), (hTy.below HB), trivial⟩ ?_
     refine Zt 29 rfl rfl (.bool (R.getD (i + 1) false)) (fun w9 h9 => ex_load1 rfl (h9.2.2.2.2.2.2.2.1.cell 3 rfl) (by kernel_rfl) Tryd.underlying4 rfl) ⟨M2, M4, hSA, M7, M10, M30, M32, M35, (hl.below HB), (hR.below HB), (hO.below HB), (hTy.below HB), trivial⟩ ?_
     refine Zu 30 rfl rfl (.slice oR R.length cR) ⟨M2, M4, hSA, M7, M10, M30, M32, M35, (hl.below HB), (hR.below HB), (hO.below HB), (hTy.below HB), trivial⟩ ?_
     refine Zu 31 rfl rfl (.int .i64 ((i : Nat) : Int)) ⟨M2, M4, hSA, M7, M10, M30, M32, M35, (hl.below HB), (hR.below HB), (hO.below HB), (hTy.below HB), trivial⟩ ?_
     refine Zt 32 rfl rfl (.int .i64 ((i + 1 : Nat) : Int)) (fun w9 _ => ex_int .i64 (IntKind.i64.wrap (((i : Nat) : Int) + 1)) (((i + 1 : Nat) : Int)) (by kernel_rfl) (by rw [IntKind.wrap_i64]; omega)) ⟨M2, M4, hSA, M7, M10, M30, M32, M35, (hl.below HB), (hR.below HB), (hO.below HB), (hTy.below HB), trivial⟩ ?_
     refine Zt 33 rfl rfl (.pointer (some ⟨bR, qR + (i + 1) * 1, none⟩)) (fun w9 h9 => ex_indexO (q := qR) (m := R.length) (c := cR) (k := i + 1) (s := 1) rfl (by kernel_rfl) (h9.2.2.2.2.2.2.2.2.2.1.oa (k := i + 1) (by omega)) (by kernel_rfl) Tryd.underlying31 (by kernel_rfl) (by omega) (by omega)) ⟨M2, M4, hSA, M7, M10, M30, M32, M35, (hl.below HB), (hR.below HB), (hO.below HB), (hTy.below HB), trivial⟩ ?_
     refine Zt 34 rfl rfl (.bool (R.getD (i + 1) false)) (fun w9 h9 => ex_load1 rfl (h9.2.2.2.2.2.2.2.2.2.1.cell (k := i + 1) (by omega) 0 rfl) (by kernel_rfl) Tryd.underlying4 rfl) ⟨M2, M4, hSA, M7, M10, M30, M32, M35, (hl.below HB), (hR.below HB), (hO.below HB), (hTy.below HB), trivial⟩ ?_
     refine Zt 35 rfl rfl (.bool false) (fun w9 _ => ex_bool (((R.getD (i + 1) false) != (R.getD (i + 1) false))) false (by kernel_rfl) (by simp)) ⟨M2, M4, hSA, M7, M10, M30, M32, M35, (hl.below HB), (hR.below HB), (hO.below HB), (hTy.below HB), trivial⟩ ?_
     refine Zu 36 rfl rfl (.bool false) ⟨M2, M4, hSA, M7, M10, M30, M32, M35, (hl.below HB), (hR.below HB), (hO.below HB), (hTy.below HB), trivial⟩ ?_
     refine sd_done (by kernel_rfl) ?_
     refine sx_norm ?_
     refine sx_false (by kernel_rfl) ?_
     refine wp_skip ?_
     refine sx_norm ?_
     refine wp_region_lit ?_
     refine Zv rfl (.pointer (some ⟨W34.heap.size, 2, none⟩)) ?_
     refine Zw rfl (.int .i64 (((crs x ty st l).lg R (i + 1)).dep)) (ex_load1 rfl (M35.cell 2 rfl) (by kernel_rfl) Tryd.underlying3 rfl) ?_
     refine Zv rfl (.int .i64 (((crs x ty st l).lg R (i + 1)).dep)) ?_
     refine wpList_nil ?_
     refine sx_in ?_
     refine sx_norm ?_
     refine wp_region_lit ?_
     refine sx_int (by kernel_rfl) rfl rfl .i64 (IntKind.i64.wrap (((i : Nat) : Int) + 1)) (((i + 1 : Nat) : Int)) (by kernel_rfl) (by rw [IntKind.wrap_i64]; omega) ?_
     refine Zv rfl (.int .i64 ((i + 1 : Nat) : Int)) ?_
     refine wpList_nil ?_
     refine sx_norm ?_
     exact sx_again (l.length - (i + 1)) (i + 1) (by omega) (by kernel_rfl) ⟨by omega, Nat.le_refl _, HL⟩
    refine Zw rfl (.bool false) (ex_load1 (v := .bool false) rfl (by have h8 := M30.cell 1 rfl; rw [show (l.getD i (0, false)).2 = false by simpa using C9] at h8; exact h8) (by kernel_rfl) Tryd.underlying4 rfl) ?_
    refine wpList_nil ?_
    refine sx_norm ?_
    refine sx_false (by kernel_rfl) ?_
    refine wp_skip ?_
    refine sx_norm ?_
    refine wp_seq ?_
    have hdv : (l.getD i (0, false)).2 = false := by simpa using (by assumption : ¬ (l.getD i (0, false)).2 = true)
    rw [hdv] at hlg hbeg hdp hsb
    have hq9 : stQ (x.ol.getD (l.getD i (0, false)).1.toNat or0) false = ⟨(x.ol.getD (l.getD i (0, false)).1.toNat or0).pp, (x.ol.getD (l.getD i (0, false)).1.toNat or0).po, (x.ol.getD (l.getD i (0, false)).1.toNat or0).pc, (x.ol.getD (l.getD i (0, false)).1.toNat or0).ps⟩ := rfl
    rw [hq9] at hlg hbeg hdp hsb
    dsimp only at hlg hbeg hdp hsb
    refine wp_region_lit ?_
    refine Zv rfl (.pointer (some ⟨W6.heap.size, 2, none⟩)) ?_
    refine Zw rfl (.slice oA ((crs x ty st l).sheet R).T.length cA) (ex_load1 rfl (M7.cell 2 rfl) (by kernel_rfl) Tryd.underlying37 rfl) ?_
    refine Zv rfl (.int .i64 ((i : Nat) : Int)) ?_
    refine Zw rfl (.pointer (some ⟨bA, qA + i * 4, none⟩)) (ex_indexO (q := qA) (m := ((crs x ty st l).sheet R).T.length) (c := cA) (k := i) (s := 4) rfl (by kernel_rfl) (hSA.oa (k := i) (by omega)) (by kernel_rfl) Tryd.underlying37 (by kernel_rfl) (by omega) (by omega)) ?_
    refine Zw rfl (.agg #[.int .i64 (((crs x ty st l).lg R i).arr), .int .i64 (((crs x ty st l).lg R i).beg), .int .i64 (((crs x ty st l).lg R (i + 1)).dep), .bool (R.getD (i + 1) false)]) (ex_loadR rfl (hSA.range (k := i) (by omega)) (by kernel_rfl) Tryd.underlying53 rfl (by kernel_rfl)) ?_
    obtain ⟨W40, hW⟩ : ∃ W, (W33.alloc (.cells #[.int .i64 0, .int .i64 0, .int .i64 0, .bool false] 53)).setRow W33.heap.size #[.int .i64 (((crs x ty st l).lg R i).arr), .int .i64 (((crs x ty st l).lg R i).beg), .int .i64 (((crs x ty st l).lg R (i + 1)).dep), .bool (R.getD (i + 1) false)] = W := ⟨_, rfl⟩
    have hb := hW ▸ below_var W33 (.cells #[.int .i64 0, .int .i64 0, .int .i64 0, .bool false] 53) #[.int .i64 (((crs x ty st l).lg R i).arr), .int .i64 (((crs x ty st l).lg R i).beg), .int .i64 (((crs x ty st l).lg R (i + 1)).dep), .bool (R.getD (i + 1) false)]
    have hq : Cb W40 W33.heap.size #[.int .i64 (((crs x ty st l).lg R i).arr), .int .i64 (((crs x ty st l).lg R i).beg), .int .i64 (((crs x ty st l).lg R (i + 1)).dep), .bool (R.getD (i + 1) false)] 53 := hW ▸ Cb.row (Cb.made W33 #[.int .i64 0, .int .i64 0, .int .i64 0, .bool false] 53) _
    refine sx_mem (by kernel_rfl) rfl rfl (.pointer (some ⟨W33.heap.size, 0, none⟩)) (W33.alloc (.cells #[.int .i64 0, .int .i64 0, .int .i64 0, .bool false] 53)) (by kernel_rfl) ?_
    refine sx_store (cells := #[.int .i64 (((crs x ty st l).lg R i).arr), .int .i64 (((crs x ty st l).lg R i).beg), .int .i64 (((crs x ty st l).lg R (i + 1)).dep), .bool (R.getD (i + 1) false)]) (by kernel_rfl) rfl rfl (Cb.made W33 #[.int .i64 0, .int .i64 0, .int .i64 0, .bool false] 53) (by kernel_rfl) (by kernel_rfl) (by kernel_rfl) (by kernel_rfl) (by kernel_rfl) ?_
    rw [hW]
    replace HB := over HB hb
    replace M2 := M2.below hb
    replace M4 := M4.below hb
    replace hSA := hSA.below hb
    replace M7 := M7.below hb
    replace M10 := M10.below hb
    replace HL := over HL hb
    replace M30 := M30.below hb
    replace M32 := M32.below hb
    have z12 := hb.size
    have M39 := hq
    have yM39 := hq.lt
    clear hq hb hW
    refine wpList_nil ?_
    refine sx_norm ?_
    refine wp_seq ?_
    refine wp_region_lit ?_
    refine Zv rfl (.pointer (some ⟨W33.heap.size, 1, none⟩)) ?_
    refine Zw rfl (.int .i64 (((crs x ty st l).lg R i).beg)) (ex_load1 rfl (M39.cell 1 rfl) (by kernel_rfl) Tryd.underlying3 rfl) ?_
    refine Zv rfl (.pointer (some ⟨W31.heap.size, 3, none⟩)) ?_
    refine Zw rfl (.int .i64 ((x.ol.getD ((l.getD i (0, false)).1.toNat) or0).ps)) (ex_load1 rfl (M32.cell 3 rfl) (by kernel_rfl) Tryd.underlying3 rfl) ?_
    refine sx_int (by kernel_rfl) rfl rfl .i64 (IntKind.i64.wrap (((crs x ty st l).lg R i).beg + (x.ol.getD ((l.getD i (0, false)).1.toNat) or0).ps)) ((((crs x ty st l).lg R i).beg + (x.ol.getD ((l.getD i (0, false)).1.toNat) or0).ps)) (by kernel_rfl) (by rw [IntKind.wrap_i64]; omega) ?_
    refine Zv rfl (.int .i64 (((crs x ty st l).lg R i).beg + (x.ol.getD ((l.getD i (0, false)).1.toNat) or0).ps)) ?_
    refine wpList_nil ?_
    refine sx_norm ?_
    refine wp_seq ?_
    refine wp_seq ?_
    refine wp_region_lit ?_
    refine Zv rfl (.slice oR R.length cR) ?_
    refine Zv rfl (.int .i64 ((i : Nat) : Int)) ?_
    refine sx_int (by kernel_rfl) rfl rfl .i64 (IntKind.i64.wrap (((i : Nat) : Int) + 1)) (((i + 1 : Nat) : Int)) (by kernel_rfl) (by rw [IntKind.wrap_i64]; omega) ?_
    refine Zw rfl (.pointer (some ⟨bR, qR + (i + 1) * 1, none⟩)) (ex_indexO (q := qR) (m := R.length) (c := cR) (k := i + 1) (s := 1) rfl (by kernel_rfl) ((hR.below HB).oa (k := i + 1) (by omega)) (by kernel_rfl) Tryd.underlying31 (by kernel_rfl) (by omega) (by omega)) ?_
    by_cases C11 : (R.getD (i + 1) false) = true
    ·refine Zw rfl (.bool true) (ex_load1 (v := .bool true) rfl (by have h8 := (hR.below HB).cell (k := i + 1) (by omega) 0 rfl; rw [show (R.getD (i + 1) false) = true by simpa using C11] at h8; exact h8) (by kernel_rfl) Tryd.underlying4 rfl) ?_
     refine wpList_nil ?_
     refine sx_norm ?_
     refine sx_true (by kernel_rfl) ?_
     refine wp_region_lit ?_
     refine Zv rfl (.int .i64 (((crs x ty st l).lg R i).beg + (x.ol.getD ((l.getD i (0, false)).1.toNat) or0).ps)) ?_
     refine Zv rfl (.pointer (some ⟨W9.heap.size, 10, none⟩)) ?_
     refine Zw rfl (.int .i64 ((x.tl.getD ty.toNat ty0).rst)) (ex_load1 rfl (M10.cell 10 rfl) (by kernel_rfl) Tryd.underlying3 rfl) ?_
     refine sx_int (by kernel_rfl) rfl rfl .i64 (IntKind.i64.wrap ((((crs x ty st l).lg R i).beg + (x.ol.getD ((l.getD i (0, false)).1.toNat) or0).ps) + (x.tl.getD ty.toNat ty0).rst)) (((((crs x ty st l).lg R i).beg + (x.ol.getD ((l.getD i (0, false)).1.toNat) or0).ps) + (x.tl.getD ty.toNat ty0).rst)) (by kernel_rfl) (by rw [IntKind.wrap_i64]; omega) ?_
     refine Zv rfl (.int .i64 ((((crs x ty st l).lg R i).beg + (x.ol.getD ((l.getD i (0, false)).1.toNat) or0).ps) + (x.tl.getD ty.toNat ty0).rst)) ?_
     refine wpList_nil ?_
     refine sx_norm ?_
     refine wp_seq ?_
     refine wp_seq ?_
     replace hdp : ((crs x ty st l).lg R (i + 1)).dep = ((((crs x ty st l).lg R i).beg + (x.ol.getD ((l.getD i (0, false)).1.toNat) or0).ps) + (x.tl.getD ty.toNat ty0).rst) := by rw [hdp]; first | (rw [if_pos (by assumption)]; done) | (rw [if_neg (by assumption)]; done)
     obtain ⟨Y41, hW⟩ : ∃ W, W40.drew = W := ⟨_, rfl⟩
     have hb : Below W40.heap.size W40 Y41 := hW ▸ below_drew (Below.refl _ _)
     replace HB := over HB hb
     replace M2 := M2.below hb
     replace M4 := M4.below hb
     replace hSA := hSA.below hb
     replace M7 := M7.below hb
     replace M10 := M10.below hb
     replace HL := over HL hb
     replace M30 := M30.below hb
     replace M32 := M32.below hb
     replace M39 := M39.below hb
     have z13 := hb.size
     clear hb
     refine sd_begin (fun W => Cb W (w.heap.size) (iK k x) 30 ∧ Cb W (W1.heap.size) (rK ty st orr F.length cr oa l.length ca) 34 ∧ Rw W bA qA 4 (fun k => [.int .i64 ((crs x ty st l).lg R k).arr, .int .i64 ((crs x ty st l).lg R k).beg, .int .i64 ((crs x ty st l).lg R (k + 1)).dep, .bool (R.getD (k + 1) false)]) (((crs x ty st l).sheet R).T.length) oA ∧ Cb W (W6.heap.size) #[.bool (R.getD 0 false), .int .i64 (((crs x ty st l).lg R 0).dep), .slice oA ((crs x ty st l).sheet R).T.length cA, .int .i64 (((crs x ty st l).lg R ((crs x ty st l).n - 1)).arr), .int .i64 ((crs x ty st l).mil R (crs x ty st l).n)] 39 ∧ Cb W (W9.heap.size) #[.string (x.tl.getD ty.toNat ty0).name, .int .i64 ((x.tl.getD ty.toNat ty0).count), .int .i64 ((x.tl.getD ty.toNat ty0).fr), .int .i64 ((x.tl.getD ty.toNat ty0).to), .slice (va ty.toNat) (x.tl.getD ty.toNat ty0).cap.length (vb ty.toNat), .int .i64 ((x.tl.getD ty.toNat ty0).skills), .int .i64 ((x.tl.getD ty.toNat ty0).prof), .int .i64 ((x.tl.getD ty.toNat ty0).opn), .int .i64 ((x.tl.getD ty.toNat ty0).cls), .int .i64 ((x.tl.getD ty.toNat ty0).drv), .int .i64 ((x.tl.getD ty.toNat ty0).rst), .int .i64 ((x.tl.getD ty.toNat ty0).fix), .int .i64 ((x.tl.getD ty.toNat ty0).pm), .int .i64 ((x.tl.getD ty.toNat ty0).pt)] 56 ∧ Cb W (wr29.heap.size) #[.int .i64 ((l.getD i (0, false)).1), .bool (l.getD i (0, false)).2] 58 ∧ Cb W (W31.heap.size) #[.int .i64 ((x.ol.getD ((l.getD i (0, false)).1.toNat) or0).pp), .int .i64 ((x.ol.getD ((l.getD i (0, false)).1.toNat) or0).po), .int .i64 ((x.ol.getD ((l.getD i (0, false)).1.toNat) or0).pc), .int .i64 ((x.ol.getD ((l.getD i (0, false)).1.toNat) or0).ps)] 60 ∧ Cb W (W33.heap.size) #[.int .i64 (((crs x ty st l).lg R i).arr), .int .i64 (((crs x ty st l).lg R i).beg), .int .i64 (((crs x ty st l).lg R (i + 1)).dep), .bool (R.getD (i + 1) false)] 53 ∧ Rw W b o 2 (vF l) l.length oa ∧ Rw W bR qR 1 (bF R) R.length oR ∧ Rw W bo qo 16 (oF x.ol vo) x.ol.length k.o3 ∧ Rw W bt qt 14 (tyF x.tl va vb) x.tl.length k.o2 ∧ True) (by kernel_rfl) (by rw [hW]; exact ⟨M2, M4, hSA, M7, M10, M30, M32, M39, (hl.below HB), (hR.below HB), (hO.below HB), (hTy.below HB), trivial⟩) ?_
     rw [hW]
     clear hW
     refine Zu 0 rfl rfl (.pointer (some ⟨W33.heap.size, 0, none⟩)) ⟨M2, M4, hSA, M7, M10, M30, M32, M39, (hl.below HB), (hR.below HB), (hO.below HB), (hTy.below HB), trivial⟩ ?_
     refine Zt 1 rfl rfl (.int .i64 (((crs x ty st l).lg R i).arr)) (fun w9 h9 => ex_load1 rfl (h9.2.2.2.2.2.2.2.1.cell 0 rfl) (by kernel_rfl) Tryd.underlying3 rfl) ⟨M2, M4, hSA, M7, M10, M30, M32, M39, (hl.below HB), (hR.below HB), (hO.below HB), (hTy.below HB), trivial⟩ ?_
     refine Zu 2 rfl rfl (.int .i64 (((crs x ty st l).lg R i).dep)) ⟨M2, M4, hSA, M7, M10, M30, M32, M39, (hl.below HB), (hR.below HB), (hO.below HB), (hTy.below HB), trivial⟩ ?_
     refine Zt 3 rfl rfl (.bool false) (fun w9 _ => ex_bool (decide (((crs x ty st l).lg R i).arr < ((crs x ty st l).lg R i).dep)) false (by kernel_rfl) (decide_eq_false (by omega))) ⟨M2, M4, hSA, M7, M10, M30, M32, M39, (hl.below HB), (hR.below HB), (hO.below HB), (hTy.below HB), trivial⟩ ?_
     refine Zu 4 rfl rfl (.bool false) ⟨M2, M4, hSA, M7, M10, M30, M32, M39, (hl.below HB), (hR.below HB), (hO.below HB), (hTy.below HB), trivial⟩ ?_
     refine Zu 5 rfl rfl (.pointer (some ⟨W33.heap.size, 0, none⟩)) ⟨M2, M4, hSA, M7, M10, M30, M32, M39, (hl.below HB), (hR.below HB), (hO.below HB), (hTy.below HB), trivial⟩ ?_
     refine Zt 6 rfl rfl (.int .i64 (((crs x ty st l).lg R i).arr)) (fun w9 h9 => ex_load1 rfl (h9.2.2.2.2.2.2.2.1.cell 0 rfl) (by kernel_rfl) Tryd.underlying3 rfl) ⟨M2, M4, hSA, M7, M10, M30, M32, M39, (hl.below HB), (hR.below HB), (hO.below HB), (hTy.below HB), trivial⟩ ?_
     refine Zu 7 rfl rfl (.pointer (some ⟨W31.heap.size, 2, none⟩)) ⟨M2, M4, hSA, M7, M10, M30, M32, M39, (hl.below HB), (hR.below HB), (hO.below HB), (hTy.below HB), trivial⟩ ?_
     refine Zt 8 rfl rfl (.int .i64 ((x.ol.getD ((l.getD i (0, false)).1.toNat) or0).pc)) (fun w9 h9 => ex_load1 rfl (h9.2.2.2.2.2.2.1.cell 2 rfl) (by kernel_rfl) Tryd.underlying3 rfl) ⟨M2, M4, hSA, M7, M10, M30, M32, M39, (hl.below HB), (hR.below HB), (hO.below HB), (hTy.below HB), trivial⟩ ?_
     refine Zt 9 rfl rfl (.bool false) (fun w9 _ => ex_bool (decide (((crs x ty st l).lg R i).arr > (x.ol.getD ((l.getD i (0, false)).1.toNat) or0).pc)) false (by kernel_rfl) (decide_eq_false (by omega))) ⟨M2, M4, hSA, M7, M10, M30, M32, M39, (hl.below HB), (hR.below HB), (hO.below HB), (hTy.below HB), trivial⟩ ?_
     refine Zu 10 rfl rfl (.bool false) ⟨M2, M4, hSA, M7, M10, M30, M32, M39, (hl.below HB), (hR.below HB), (hO.below HB), (hTy.below HB), trivial⟩ ?_
     refine Zu 11 rfl rfl (.bool false) ⟨M2, M4, hSA, M7, M10, M30, M32, M39, (hl.below HB), (hR.below HB), (hO.below HB), (hTy.below HB), trivial⟩ ?_
     refine Zu 12 rfl rfl (.pointer (some ⟨W33.heap.size, 1, none⟩)) ⟨M2, M4, hSA, M7, M10, M30, M32, M39, (hl.below HB), (hR.below HB), (hO.below HB), (hTy.below HB), trivial⟩ ?_
     refine Zt 13 rfl rfl (.int .i64 (((crs x ty st l).lg R i).beg)) (fun w9 h9 => ex_load1 rfl (h9.2.2.2.2.2.2.2.1.cell 1 rfl) (by kernel_rfl) Tryd.underlying3 rfl) ⟨M2, M4, hSA, M7, M10, M30, M32, M39, (hl.below HB), (hR.below HB), (hO.below HB), (hTy.below HB), trivial⟩ ?_
     refine Zu 14 rfl rfl (.pointer (some ⟨W33.heap.size, 0, none⟩)) ⟨M2, M4, hSA, M7, M10, M30, M32, M39, (hl.below HB), (hR.below HB), (hO.below HB), (hTy.below HB), trivial⟩ ?_
     refine Zt 15 rfl rfl (.int .i64 (((crs x ty st l).lg R i).arr)) (fun w9 h9 => ex_load1 rfl (h9.2.2.2.2.2.2.2.1.cell 0 rfl) (by kernel_rfl) Tryd.underlying3 rfl) ⟨M2, M4, hSA, M7, M10, M30, M32, M39, (hl.below HB), (hR.below HB), (hO.below HB), (hTy.below HB), trivial⟩ ?_
     refine Zu 16 rfl rfl (.pointer (some ⟨W31.heap.size, 1, none⟩)) ⟨M2, M4, hSA, M7, M10, M30, M32, M39, (hl.below HB), (hR.below HB), (hO.below HB), (hTy.below HB), trivial⟩ ?_
     refine Zt 17 rfl rfl (.int .i64 ((x.ol.getD ((l.getD i (0, false)).1.toNat) or0).po)) (fun w9 h9 => ex_load1 rfl (h9.2.2.2.2.2.2.1.cell 1 rfl) (by kernel_rfl) Tryd.underlying3 rfl) ⟨M2, M4, hSA, M7, M10, M30, M32, M39, (hl.below HB), (hR.below HB), (hO.below HB), (hTy.below HB), trivial⟩ ?_
     refine Zt 18 rfl rfl (.int .i64 (((crs x ty st l).lg R i).beg)) (fun w9 _ => by rw [hbeg]; kernel_rfl) ⟨M2, M4, hSA, M7, M10, M30, M32, M39, (hl.below HB), (hR.below HB), (hO.below HB), (hTy.below HB), trivial⟩ ?_
     refine Zt 19 rfl rfl (.bool false) (fun w9 _ => ex_bool ((((crs x ty st l).lg R i).beg : Int) != (((crs x ty st l).lg R i).beg : Int)) false (by kernel_rfl) (by simp)) ⟨M2, M4, hSA, M7, M10, M30, M32, M39, (hl.below HB), (hR.below HB), (hO.below HB), (hTy.below HB), trivial⟩ ?_
     refine Zu 20 rfl rfl (.bool false) ⟨M2, M4, hSA, M7, M10, M30, M32, M39, (hl.below HB), (hR.below HB), (hO.below HB), (hTy.below HB), trivial⟩ ?_
     refine Zu 21 rfl rfl (.bool false) ⟨M2, M4, hSA, M7, M10, M30, M32, M39, (hl.below HB), (hR.below HB), (hO.below HB), (hTy.below HB), trivial⟩ ?_
     refine Zu 22 rfl rfl (.pointer (some ⟨W33.heap.size, 2, none⟩)) ⟨M2, M4, hSA, M7, M10, M30, M32, M39, (hl.below HB), (hR.below HB), (hO.below HB), (hTy.below HB), trivial⟩ ?_
     refine Zt 23 rfl rfl (.int .i64 (((crs x ty st l).lg R (i + 1)).dep)) (fun w9 h9 => ex_load1 rfl (h9.2.2.2.2.2.2.2.1.cell 2 rfl) (by kernel_rfl) Tryd.underlying3 rfl) ⟨M2, M4, hSA, M7, M10, M30, M32, M39, (hl.below HB), (hR.below HB), (hO.below HB), (hTy.below HB), trivial⟩ ?_
     refine Zu 24 rfl rfl (.int .i64 ((((crs x ty st l).lg R i).beg + (x.ol.getD ((l.getD i (0, false)).1.toNat) or0).ps) + (x.tl.getD ty.toNat ty0).rst)) ⟨M2, M4, hSA, M7, M10, M30, M32, M39, (hl.below HB), (hR.below HB), (hO.below HB), (hTy.below HB), trivial⟩ ?_
     refine Zt 25 rfl rfl (.bool false) (fun w9 _ => ex_bool ((((crs x ty st l).lg R (i + 1)).dep : Int) != (((((crs x ty st l).lg R i).beg + (x.ol.getD ((l.getD i (0, false)).1.toNat) or0).ps) + (x.tl.getD ty.toNat ty0).rst) : Int)) false (by kernel_rfl) (by rw [bne_eq_false_iff_eq]; omega)) ⟨M2, M4, hSA, M7, M10, M30, M32, M39, (hl.below HB), (hR.below HB), (hO.below HB), (hTy.below HB), trivial⟩ ?_
     refine Zu 26 rfl rfl (.bool false) ⟨M2, M4, hSA, M7, M10, M30, M32, M39, (hl.below HB), (hR.below HB), (hO.below HB), (hTy.below HB), trivial⟩ ?_
     refine Zu 27 rfl rfl (.bool false) ⟨M2, M4, hSA, M7, M10, M30, M32, M39, (hl.below HB), (hR.below HB), (hO.below HB), (hTy.below HB), trivial⟩ ?_
     refine Zu 28 rfl rfl (.pointer (some ⟨W33.heap.size, 3, none⟩)) ⟨M2, M4, hSA, M7, M10, M30, M32, M39, (hl.below HB), (hR.below HB), (hO.below HB), (hTy.below HB), trivial⟩ ?_
     refine Zt 29 rfl rfl (.bool (R.getD (i + 1) false)) (fun w9 h9 => ex_load1 rfl (h9.2.2.2.2.2.2.2.1.cell 3 rfl) (by kernel_rfl) Tryd.underlying4 rfl) ⟨M2, M4, hSA, M7, M10, M30, M32, M39, (hl.below HB), (hR.below HB), (hO.below HB), (hTy.below HB), trivial⟩ ?_
     refine Zu 30 rfl rfl (.slice oR R.length cR) ⟨M2, M4, hSA, M7, M10, M30, M32, M39, (hl.below HB), (hR.below HB), (hO.below HB), (hTy.below HB), trivial⟩ ?_
     refine Zu 31 rfl rfl (.int .i64 ((i : Nat) : Int)) ⟨M2, M4, hSA, M7, M10, M30, M32, M39, (hl.below HB), (hR.below HB), (hO.below HB), (hTy.below HB), trivial⟩ ?_
     refine Zt 32 rfl rfl (.int .i64 ((i + 1 : Nat) : Int)) (fun w9 _ => ex_int .i64 (IntKind.i64.wrap (((i : Nat) : Int) + 1)) (((i + 1 : Nat) : Int)) (by kernel_rfl) (by rw [IntKind.wrap_i64]; omega)) ⟨M2, M4, hSA, M7, M10, M30, M32, M39, (hl.below HB), (hR.below HB), (hO.below HB), (hTy.below HB), trivial⟩ ?_
     refine Zt 33 rfl rfl (.pointer (some ⟨bR, qR + (i + 1) * 1, none⟩)) (fun w9 h9 => ex_indexO (q := qR) (m := R.length) (c := cR) (k := i + 1) (s := 1) rfl (by kernel_rfl) (h9.2.2.2.2.2.2.2.2.2.1.oa (k := i + 1) (by omega)) (by kernel_rfl) Tryd.underlying31 (by kernel_rfl) (by omega) (by omega)) ⟨M2, M4, hSA, M7, M10, M30, M32, M39, (hl.below HB), (hR.below HB), (hO.below HB), (hTy.below HB), trivial⟩ ?_
     refine Zt 34 rfl rfl (.bool (R.getD (i + 1) false)) (fun w9 h9 => ex_load1 rfl (h9.2.2.2.2.2.2.2.2.2.1.cell (k := i + 1) (by omega) 0 rfl) (by kernel_rfl) Tryd.underlying4 rfl) ⟨M2, M4, hSA, M7, M10, M30, M32, M39, (hl.below HB), (hR.below HB), (hO.below HB), (hTy.below HB), trivial⟩ ?_
     refine Zt 35 rfl rfl (.bool false) (fun w9 _ => ex_bool (((R.getD (i + 1) false) != (R.getD (i + 1) false))) false (by kernel_rfl) (by simp)) ⟨M2, M4, hSA, M7, M10, M30, M32, M39, (hl.below HB), (hR.below HB), (hO.below HB), (hTy.below HB), trivial⟩ ?_
     refine Zu 36 rfl rfl (.bool false) ⟨M2, M4, hSA, M7, M10, M30, M32, M39, (hl.below HB), (hR.below HB), (hO.below HB), (hTy.below HB), trivial⟩ ?_
     refine sd_done (by kernel_rfl) ?_
     refine sx_norm ?_
     refine sx_false (by kernel_rfl) ?_
     refine wp_skip ?_
     refine sx_norm ?_
     refine wp_region_lit ?_
     refine Zv rfl (.pointer (some ⟨W33.heap.size, 2, none⟩)) ?_
     refine Zw rfl (.int .i64 (((crs x ty st l).lg R (i + 1)).dep)) (ex_load1 rfl (M39.cell 2 rfl) (by kernel_rfl) Tryd.underlying3 rfl) ?_
     refine Zv rfl (.int .i64 (((crs x ty st l).lg R (i + 1)).dep)) ?_
     refine wpList_nil ?_
     refine sx_in ?_
     refine sx_norm ?_
     refine wp_region_lit ?_
     refine sx_int (by kernel_rfl) rfl rfl .i64 (IntKind.i64.wrap (((i : Nat) : Int) + 1)) (((i + 1 : Nat) : Int)) (by kernel_rfl) (by rw [IntKind.wrap_i64]; omega) ?_
     refine Zv rfl (.int .i64 ((i + 1 : Nat) : Int)) ?_
     refine wpList_nil ?_
     refine sx_norm ?_
     exact sx_again (l.length - (i + 1)) (i + 1) (by omega) (by kernel_rfl) ⟨by omega, Nat.le_refl _, HL⟩
    refine Zw rfl (.bool false) (ex_load1 (v := .bool false) rfl (by have h8 := (hR.below HB).cell (k := i + 1) (by omega) 0 rfl; rw [show (R.getD (i + 1) false) = false by simpa using C11] at h8; exact h8) (by kernel_rfl) Tryd.underlying4 rfl) ?_
    refine wpList_nil ?_
    refine sx_norm ?_
    refine sx_false (by kernel_rfl) ?_
    refine wp_skip ?_
    refine sx_norm ?_
    refine wp_seq ?_
    refine wp_seq ?_
    replace hdp : ((crs x ty st l).lg R (i + 1)).dep = (((crs x ty st l).lg R i).beg + (x.ol.getD ((l.getD i (0, false)).1.toNat) or0).ps) := by rw [hdp]; first | (rw [if_pos (by assumption)]; done) | (rw [if_neg (by assumption)]; done)
    obtain ⟨Y42, hW⟩ : ∃ W, W40.drew = W := ⟨_, rfl⟩
    have hb : Below W40.heap.size W40 Y42 := hW ▸ below_drew (Below.refl _ _)
    replace HB := over HB hb
    replace M2 := M2.below hb
    replace M4 := M4.below hb
    replace hSA := hSA.below hb
    replace M7 := M7.below hb
    replace M10 := M10.below hb
    replace HL := over HL hb
    replace M30 := M30.below hb
    replace M32 := M32.below hb
    replace M39 := M39.below hb
    have z13 := hb.size
    clear hb
    refine sd_begin (fun W => Cb W (w.heap.size) (iK k x) 30 ∧ Cb W (W1.heap.size) (rK ty st orr F.length cr oa l.length ca) 34 ∧ Rw W bA qA 4 (fun k => [.int .i64 ((crs x ty st l).lg R k).arr, .int .i64 ((crs x ty st l).lg R k).beg, .int .i64 ((crs x ty st l).lg R (k + 1)).dep, .bool (R.getD (k + 1) false)]) (((crs x ty st l).sheet R).T.length) oA ∧ Cb W (W6.heap.size) #[.bool (R.getD 0 false), .int .i64 (((crs x ty st l).lg R 0).dep), .slice oA ((crs x ty st l).sheet R).T.length cA, .int .i64 (((crs x ty st l).lg R ((crs x ty st l).n - 1)).arr), .int .i64 ((crs x ty st l).mil R (crs x ty st l).n)] 39 ∧ Cb W (W9.heap.size) #[.string (x.tl.getD ty.toNat ty0).name, .int .i64 ((x.tl.getD ty.toNat ty0).count), .int .i64 ((x.tl.getD ty.toNat ty0).fr), .int .i64 ((x.tl.getD ty.toNat ty0).to), .slice (va ty.toNat) (x.tl.getD ty.toNat ty0).cap.length (vb ty.toNat), .int .i64 ((x.tl.getD ty.toNat ty0).skills), .int .i64 ((x.tl.getD ty.toNat ty0).prof), .int .i64 ((x.tl.getD ty.toNat ty0).opn), .int .i64 ((x.tl.getD ty.toNat ty0).cls), .int .i64 ((x.tl.getD ty.toNat ty0).drv), .int .i64 ((x.tl.getD ty.toNat ty0).rst), .int .i64 ((x.tl.getD ty.toNat ty0).fix), .int .i64 ((x.tl.getD ty.toNat ty0).pm), .int .i64 ((x.tl.getD ty.toNat ty0).pt)] 56 ∧ Cb W (wr29.heap.size) #[.int .i64 ((l.getD i (0, false)).1), .bool (l.getD i (0, false)).2] 58 ∧ Cb W (W31.heap.size) #[.int .i64 ((x.ol.getD ((l.getD i (0, false)).1.toNat) or0).pp), .int .i64 ((x.ol.getD ((l.getD i (0, false)).1.toNat) or0).po), .int .i64 ((x.ol.getD ((l.getD i (0, false)).1.toNat) or0).pc), .int .i64 ((x.ol.getD ((l.getD i (0, false)).1.toNat) or0).ps)] 60 ∧ Cb W (W33.heap.size) #[.int .i64 (((crs x ty st l).lg R i).arr), .int .i64 (((crs x ty st l).lg R i).beg), .int .i64 (((crs x ty st l).lg R (i + 1)).dep), .bool (R.getD (i + 1) false)] 53 ∧ Rw W b o 2 (vF l) l.length oa ∧ Rw W bR qR 1 (bF R) R.length oR ∧ Rw W bo qo 16 (oF x.ol vo) x.ol.length k.o3 ∧ Rw W bt qt 14 (tyF x.tl va vb) x.tl.length k.o2 ∧ True) (by kernel_rfl) (by rw [hW]; exact ⟨M2, M4, hSA, M7, M10, M30, M32, M39, (hl.below HB), (hR.below HB), (hO.below HB), (hTy.below HB), trivial⟩) ?_
    rw [hW]
    clear hW
    refine Zu 0 rfl rfl (.pointer (some ⟨W33.heap.size, 0, none⟩)) ⟨M2, M4, hSA, M7, M10, M30, M32, M39, (hl.below HB), (hR.below HB), (hO.below HB), (hTy.below HB), trivial⟩ ?_
    refine Zt 1 rfl rfl (.int .i64 (((crs x ty st l).lg R i).arr)) (fun w9 h9 => ex_load1 rfl (h9.2.2.2.2.2.2.2.1.cell 0 rfl) (by kernel_rfl) Tryd.underlying3 rfl) ⟨M2, M4, hSA, M7, M10, M30, M32, M39, (hl.below HB), (hR.below HB), (hO.below HB), (hTy.below HB), trivial⟩ ?_
    refine Zu 2 rfl rfl (.int .i64 (((crs x ty st l).lg R i).dep)) ⟨M2, M4, hSA, M7, M10, M30, M32, M39, (hl.below HB), (hR.below HB), (hO.below HB), (hTy.below HB), trivial⟩ ?_
    refine Zt 3 rfl rfl (.bool false) (fun w9 _ => ex_bool (decide (((crs x ty st l).lg R i).arr < ((crs x ty st l).lg R i).dep)) false (by kernel_rfl) (decide_eq_false (by omega))) ⟨M2, M4, hSA, M7, M10, M30, M32, M39, (hl.below HB), (hR.below HB), (hO.below HB), (hTy.below HB), trivial⟩ ?_
    refine Zu 4 rfl rfl (.bool false) ⟨M2, M4, hSA, M7, M10, M30, M32, M39, (hl.below HB), (hR.below HB), (hO.below HB), (hTy.below HB), trivial⟩ ?_
    refine Zu 5 rfl rfl (.pointer (some ⟨W33.heap.size, 0, none⟩)) ⟨M2, M4, hSA, M7, M10, M30, M32, M39, (hl.below HB), (hR.below HB), (hO.below HB), (hTy.below HB), trivial⟩ ?_
    refine Zt 6 rfl rfl (.int .i64 (((crs x ty st l).lg R i).arr)) (fun w9 h9 => ex_load1 rfl (h9.2.2.2.2.2.2.2.1.cell 0 rfl) (by kernel_rfl) Tryd.underlying3 rfl) ⟨M2, M4, hSA, M7, M10, M30, M32, M39, (hl.below HB), (hR.below HB), (hO.below HB), (hTy.below HB), trivial⟩ ?_
    refine Zu 7 rfl rfl (.pointer (some ⟨W31.heap.size, 2, none⟩)) ⟨M2, M4, hSA, M7, M10, M30, M32, M39, (hl.below HB), (hR.below HB), (hO.below HB), (hTy.below HB), trivial⟩ ?_
    refine Zt 8 rfl rfl (.int .i64 ((x.ol.getD ((l.getD i (0, false)).1.toNat) or0).pc)) (fun w9 h9 => ex_load1 rfl (h9.2.2.2.2.2.2.1.cell 2 rfl) (by kernel_rfl) Tryd.underlying3 rfl) ⟨M2, M4, hSA, M7, M10, M30, M32, M39, (hl.below HB), (hR.below HB), (hO.below HB), (hTy.below HB), trivial⟩ ?_
    refine Zt 9 rfl rfl (.bool false) (fun w9 _ => ex_bool (decide (((crs x ty st l).lg R i).arr > (x.ol.getD ((l.getD i (0, false)).1.toNat) or0).pc)) false (by kernel_rfl) (decide_eq_false (by omega))) ⟨M2, M4, hSA, M7, M10, M30, M32, M39, (hl.below HB), (hR.below HB), (hO.below HB), (hTy.below HB), trivial⟩ ?_
    refine Zu 10 rfl rfl (.bool false) ⟨M2, M4, hSA, M7, M10, M30, M32, M39, (hl.below HB), (hR.below HB), (hO.below HB), (hTy.below HB), trivial⟩ ?_
    refine Zu 11 rfl rfl (.bool false) ⟨M2, M4, hSA, M7, M10, M30, M32, M39, (hl.below HB), (hR.below HB), (hO.below HB), (hTy.below HB), trivial⟩ ?_
    refine Zu 12 rfl rfl (.pointer (some ⟨W33.heap.size, 1, none⟩)) ⟨M2, M4, hSA, M7, M10, M30, M32, M39, (hl.below HB), (hR.below HB), (hO.below HB), (hTy.below HB), trivial⟩ ?_
    refine Zt 13 rfl rfl (.int .i64 (((crs x ty st l).lg R i).beg)) (fun w9 h9 => ex_load1 rfl (h9.2.2.2.2.2.2.2.1.cell 1 rfl) (by kernel_rfl) Tryd.underlying3 rfl) ⟨M2, M4, hSA, M7, M10, M30, M32, M39, (hl.below HB), (hR.below HB), (hO.below HB), (hTy.below HB), trivial⟩ ?_
    refine Zu 14 rfl rfl (.pointer (some ⟨W33.heap.size, 0, none⟩)) ⟨M2, M4, hSA, M7, M10, M30, M32, M39, (hl.below HB), (hR.below HB), (hO.below HB), (hTy.below HB), trivial⟩ ?_
    refine Zt 15 rfl rfl (.int .i64 (((crs x ty st l).lg R i).arr)) (fun w9 h9 => ex_load1 rfl (h9.2.2.2.2.2.2.2.1.cell 0 rfl) (by kernel_rfl) Tryd.underlying3 rfl) ⟨M2, M4, hSA, M7, M10, M30, M32, M39, (hl.below HB), (hR.below HB), (hO.below HB), (hTy.below HB), trivial⟩ ?_
    refine Zu 16 rfl rfl (.pointer (some ⟨W31.heap.size, 1, none⟩)) ⟨M2, M4, hSA, M7, M10, M30, M32, M39, (hl.below HB), (hR.below HB), (hO.below HB), (hTy.below HB), trivial⟩ ?_
    refine Zt 17 rfl rfl (.int .i64 ((x.ol.getD ((l.getD i (0, false)).1.toNat) or0).po)) (fun w9 h9 => ex_load1 rfl (h9.2.2.2.2.2.2.1.cell 1 rfl) (by kernel_rfl) Tryd.underlying3 rfl) ⟨M2, M4, hSA, M7, M10, M30, M32, M39, (hl.below HB), (hR.below HB), (hO.below HB), (hTy.below HB), trivial⟩ ?_
    refine Zt 18 rfl rfl (.int .i64 (((crs x ty st l).lg R i).beg)) (fun w9 _ => by rw [hbeg]; kernel_rfl) ⟨M2, M4, hSA, M7, M10, M30, M32, M39, (hl.below HB), (hR.below HB), (hO.below HB), (hTy.below HB), trivial⟩ ?_
    refine Zt 19 rfl rfl (.bool false) (fun w9 _ => ex_bool ((((crs x ty st l).lg R i).beg : Int) != (((crs x ty st l).lg R i).beg : Int)) false (by kernel_rfl) (by simp)) ⟨M2, M4, hSA, M7, M10, M30, M32, M39, (hl.below HB), (hR.below HB), (hO.below HB), (hTy.below HB), trivial⟩ ?_
    refine Zu 20 rfl rfl (.bool false) ⟨M2, M4, hSA, M7, M10, M30, M32, M39, (hl.below HB), (hR.below HB), (hO.below HB), (hTy.below HB), trivial⟩ ?_
    refine Zu 21 rfl rfl (.bool false) ⟨M2, M4, hSA, M7, M10, M30, M32, M39, (hl.below HB), (hR.below HB), (hO.below HB), (hTy.below HB), trivial⟩ ?_
    refine Zu 22 rfl rfl (.pointer (some ⟨W33.heap.size, 2, none⟩)) ⟨M2, M4, hSA, M7, M10, M30, M32, M39, (hl.below HB), (hR.below HB), (hO.below HB), (hTy.below HB), trivial⟩ ?_
    refine Zt 23 rfl rfl (.int .i64 (((crs x ty st l).lg R (i + 1)).dep)) (fun w9 h9 => ex_load1 rfl (h9.2.2.2.2.2.2.2.1.cell 2 rfl) (by kernel_rfl) Tryd.underlying3 rfl) ⟨M2, M4, hSA, M7, M10, M30, M32, M39, (hl.below HB), (hR.below HB), (hO.below HB), (hTy.below HB), trivial⟩ ?_
    refine Zu 24 rfl rfl (.int .i64 (((crs x ty st l).lg R i).beg + (x.ol.getD ((l.getD i (0, false)).1.toNat) or0).ps)) ⟨M2, M4, hSA, M7, M10, M30, M32, M39, (hl.below HB), (hR.below HB), (hO.below HB), (hTy.below HB), trivial⟩ ?_
    refine Zt 25 rfl rfl (.bool false) (fun w9 _ => ex_bool ((((crs x ty st l).lg R (i + 1)).dep : Int) != ((((crs x ty st l).lg R i).beg + (x.ol.getD ((l.getD i (0, false)).1.toNat) or0).ps) : Int)) false (by kernel_rfl) (by rw [bne_eq_false_iff_eq]; omega)) ⟨M2, M4, hSA, M7, M10, M30, M32, M39, (hl.below HB), (hR.below HB), (hO.below HB), (hTy.below HB), trivial⟩ ?_
    refine Zu 26 rfl rfl (.bool false) ⟨M2, M4, hSA, M7, M10, M30, M32, M39, (hl.below HB), (hR.below HB), (hO.below HB), (hTy.below HB), trivial⟩ ?_
    refine Zu 27 rfl rfl (.bool false) ⟨M2, M4, hSA, M7, M10, M30, M32, M39, (hl.below HB), (hR.below HB), (hO.below HB), (hTy.below HB), trivial⟩ ?_
    refine Zu 28 rfl rfl (.pointer (some ⟨W33.heap.size, 3, none⟩)) ⟨M2, M4, hSA, M7, M10, M30, M32, M39, (hl.below HB), (hR.below HB), (hO.below HB), (hTy.below HB), trivial⟩ ?_
    refine Zt 29 rfl rfl (.bool (R.getD (i + 1) false)) (fun w9 h9 => ex_load1 rfl (h9.2.2.2.2.2.2.2.1.cell 3 rfl) (by kernel_rfl) Tryd.underlying4 rfl) ⟨M2, M4, hSA, M7, M10, M30, M32, M39, (hl.below HB), (hR.below HB), (hO.below HB), (hTy.below HB), trivial⟩ ?_
    refine Zu 30 rfl rfl (.slice oR R.length cR) ⟨M2, M4, hSA, M7, M10, M30, M32, M39, (hl.below HB), (hR.below HB), (hO.below HB), (hTy.below HB), trivial⟩ ?_
    refine Zu 31 rfl rfl (.int .i64 ((i : Nat) : Int)) ⟨M2, M4, hSA, M7, M10, M30, M32, M39, (hl.below HB), (hR.below HB), (hO.below HB), (hTy.below HB), trivial⟩ ?_
    refine Zt 32 rfl rfl (.int .i64 ((i + 1 : Nat) : Int)) (fun w9 _ => ex_int .i64 (IntKind.i64.wrap (((i : Nat) : Int) + 1)) (((i + 1 : Nat) : Int)) (by kernel_rfl) (by rw [IntKind.wrap_i64]; omega)) ⟨M2, M4, hSA, M7, M10, M30, M32, M39, (hl.below HB), (hR.below HB), (hO.below HB), (hTy.below HB), trivial⟩ ?_
    refine Zt 33 rfl rfl (.pointer (some ⟨bR, qR + (i + 1) * 1, none⟩)) (fun w9 h9 => ex_indexO (q := qR) (m := R.length) (c := cR) (k := i + 1) (s := 1) rfl (by kernel_rfl) (h9.2.2.2.2.2.2.2.2.2.1.oa (k := i + 1) (by omega)) (by kernel_rfl) Tryd.underlying31 (by kernel_rfl) (by omega) (by omega)) ⟨M2, M4, hSA, M7, M10, M30, M32, M39, (hl.below HB), (hR.below HB), (hO.below HB), (hTy.below HB), trivial⟩ ?_
    refine Zt 34 rfl rfl (.bool (R.getD (i + 1) false)) (fun w9 h9 => ex_load1 rfl (h9.2.2.2.2.2.2.2.2.2.1.cell (k := i + 1) (by omega) 0 rfl) (by kernel_rfl) Tryd.underlying4 rfl) ⟨M2, M4, hSA, M7, M10, M30, M32, M39, (hl.below HB), (hR.below HB), (hO.below HB), (hTy.below HB), trivial⟩ ?_
    refine Zt 35 rfl rfl (.bool false) (fun w9 _ => ex_bool (((R.getD (i + 1) false) != (R.getD (i + 1) false))) false (by kernel_rfl) (by simp)) ⟨M2, M4, hSA, M7, M10, M30, M32, M39, (hl.below HB), (hR.below HB), (hO.below HB), (hTy.below HB), trivial⟩ ?_
    refine Zu 36 rfl rfl (.bool false) ⟨M2, M4, hSA, M7, M10, M30, M32, M39, (hl.below HB), (hR.below HB), (hO.below HB), (hTy.below HB), trivial⟩ ?_
    refine sd_done (by kernel_rfl) ?_
    refine sx_norm ?_
    refine sx_false (by kernel_rfl) ?_
    refine wp_skip ?_
    refine sx_norm ?_
    refine wp_region_lit ?_
    refine Zv rfl (.pointer (some ⟨W33.heap.size, 2, none⟩)) ?_
    refine Zw rfl (.int .i64 (((crs x ty st l).lg R (i + 1)).dep)) (ex_load1 rfl (M39.cell 2 rfl) (by kernel_rfl) Tryd.underlying3 rfl) ?_
    refine Zv rfl (.int .i64 (((crs x ty st l).lg R (i + 1)).dep)) ?_
    refine wpList_nil ?_
    refine sx_in ?_
    refine sx_norm ?_
    refine wp_region_lit ?_
    refine sx_int (by kernel_rfl) rfl rfl .i64 (IntKind.i64.wrap (((i : Nat) : Int) + 1)) (((i + 1 : Nat) : Int)) (by kernel_rfl) (by rw [IntKind.wrap_i64]; omega) ?_
    refine Zv rfl (.int .i64 ((i + 1 : Nat) : Int)) ?_
    refine wpList_nil ?_
    refine sx_norm ?_
    exact sx_again (l.length - (i + 1)) (i + 1) (by omega) (by kernel_rfl) ⟨by omega, Nat.le_refl _, HL⟩
   refine sx_bool (by kernel_rfl) rfl rfl (decide (((i : Nat) : Int) < ((l.length : Nat) : Int))) false (by kernel_rfl) (decide_eq_false (by omega)) ?_
   refine wpList_nil ?_
   refine sx_norm ?_
   refine wp_seq ?_
   refine sx_false (by kernel_rfl) ?_
   refine wp_exit ?_
   refine sx_es ?_
   refine sx_es ?_
   refine sx_out ?_
   refine sx_norm ?_
   refine wp_seq ?_
   have hi9 : i = l.length := by omega
   rw [← hi9] at hen hend
   refine wp_region_lit ?_
   refine Zv rfl (.pointer (some ⟨W6.heap.size, 3, none⟩)) ?_
   refine Zw rfl (.int .i64 (((crs x ty st l).lg R ((crs x ty st l).n - 1)).arr)) (ex_load1 rfl (M7.cell 3 rfl) (by kernel_rfl) Tryd.underlying3 rfl) ?_
   refine Zv rfl (.int .i64 (((crs x ty st l).lg R i).dep)) ?_
   refine sx_bool (by kernel_rfl) rfl rfl (decide (((crs x ty st l).lg R ((crs x ty st l).n - 1)).arr ≥ ((crs x ty st l).lg R i).dep)) true (by kernel_rfl) (decide_eq_true (by omega)) ?_
   refine Zv rfl (.bool true) ?_
   refine sx_call (by kernel_rfl) rfl rfl (examples_n wr29 (hT.belowD HB)) (by kernel_rfl) ?_
   rintro e W43 ⟨rfl, hb⟩
   replace HB := over HB hb
   replace M2 := M2.below hb
   replace M4 := M4.below hb
   replace hSA := hSA.below hb
   replace M7 := M7.below hb
   replace M10 := M10.below hb
   replace HL := over HL hb
   have z10 := hb.size
   clear hb
   refine ⟨_, rfl, ?_⟩
   refine Zv rfl (.bool true) ?_
   refine Zv rfl (.bool true) ?_
   refine wpList_nil ?_
   refine sx_norm ?_
   refine wp_ret ?_
   exact sx_ret1 (.bool true) rfl rfl (by kernel_rfl) ⟨rfl, HB⟩
  refine sx_call (by kernel_rfl) rfl rfl ((by have h8 := drvRun_n k x ty st orr oa F.length cr ca b o l (fun hp => crs_ok hin hx.al hp) R oR cR bR qR W5 (hI.below HB) (hT.belowD HB) (hl.below HB) (hR.below HB); rw [runS_no C2] at h8; exact h8)) (by kernel_rfl) ?_
  rintro e W44 ⟨oA, cA, bA, qA, rfl, -, -, hb⟩
  replace HB := over HB hb
  replace M2 := M2.below hb
  replace M4 := M4.below hb
  have z4 := hb.size
  clear hb
  refine ⟨_, rfl, ?_⟩
  refine Zv rfl (.tuple #[.agg #[.bool false, .int .i64 0, .slice oA 0 cA, .int .i64 0, .int .i64 0], .int .i64 (runE x ty st l R)]) ?_
  refine Zv rfl (.agg #[.bool false, .int .i64 0, .slice oA 0 cA, .int .i64 0, .int .i64 0]) ?_
  refine Zv rfl (.int .i64 (runE x ty st l R)) ?_
  obtain ⟨W46, hW, hb, hq⟩ := laidV W44 #[.bool false, .int .i64 0, .slice none 0 0, .int .i64 0, .int .i64 0] #[.bool false, .int .i64 0, .slice oA 0 cA, .int .i64 0, .int .i64 0] 39
  refine sx_mem (by kernel_rfl) rfl rfl (.pointer (some ⟨W44.heap.size, 0, none⟩)) (W44.alloc (.cells #[.bool false, .int .i64 0, .slice none 0 0, .int .i64 0, .int .i64 0] 39)) (by kernel_rfl) ?_
  refine sx_store (cells := #[.bool false, .int .i64 0, .slice oA 0 cA, .int .i64 0, .int .i64 0]) (by kernel_rfl) rfl rfl (Cb.made W44 #[.bool false, .int .i64 0, .slice none 0 0, .int .i64 0, .int .i64 0] 39) (by kernel_rfl) (by kernel_rfl) (by kernel_rfl) (by kernel_rfl) (by kernel_rfl) ?_
  rw [hW]
  replace HB := over HB hb
  replace M2 := M2.below hb
  replace M4 := M4.below hb
  have z5 := hb.size
  have M45 := hq
  have yM45 := hq.lt
  clear hq hb hW
  refine Zv rfl (.int .i64 (runE x ty st l R)) ?_
  refine wpList_nil ?_
  refine sx_norm ?_
  refine wp_seq ?_
  refine wp_seq ?_
  refine wp_region_lit ?_
  refine Zv rfl (.int .i64 (runE x ty st l R)) ?_
  refine sx_bool (by kernel_rfl) rfl rfl (((runE x ty st l R) : Int) != (0 : Int)) true (by kernel_rfl) (bne_iff_ne.2 (by omega)) ?_
  refine wpList_nil ?_
  refine sx_norm ?_
  refine sx_true (by kernel_rfl) ?_
  refine wp_seq ?_
  refine wp_region_lit ?_
  refine Zv rfl (.pointer (some ⟨W44.heap.size, 2, none⟩)) ?_
  refine Zw rfl (.slice oA 0 cA) (ex_load1 rfl (M45.cell 2 rfl) (by kernel_rfl) Tryd.underlying37 rfl) ?_
  refine Zv rfl (.int .i64 0) ?_
  refine Zv rfl (.bool true) ?_
  refine Zv rfl (.bool true) ?_
  refine Zv rfl (.pointer (some ⟨W44.heap.size, 3, none⟩)) ?_
  refine Zw rfl (.int .i64 0) (ex_load1 rfl (M45.cell 3 rfl) (by kernel_rfl) Tryd.underlying3 rfl) ?_
  refine Zv rfl (.bool true) ?_
  refine Zv rfl (.bool true) ?_
  refine Zv rfl (.bool true) ?_
  refine sx_call (by kernel_rfl) rfl rfl (examples_n W46 (hT.belowD HB)) (by kernel_rfl) ?_
  rintro e W47 ⟨rfl, hb⟩
  replace HB := over HB hb
  replace M2 := M2.below hb
  replace M4 := M4.below hb
  replace M45 := M45.below hb
  have z6 := hb.size
  clear hb
  refine ⟨_, rfl, ?_⟩
  refine Zv rfl (.bool true) ?_
  refine Zv rfl (.bool true) ?_
  refine wpList_nil ?_
  refine sx_norm ?_
  refine wp_ret ?_
  refine sx_rs ?_
  exact sx_ret1 (.bool true) rfl rfl (by kernel_rfl) ⟨rfl, HB⟩
 refine sx_call (by kernel_rfl) rfl rfl ((by have h8 := right_n k x hx W3 (hI.below HB); rw [show rightB x = false by simpa using C1] at h8; exact h8)) (by kernel_rfl) ?_
 rintro e W48 ⟨rfl, hb⟩
 replace HB := over HB hb
 replace M2 := M2.below hb
 replace M4 := M4.below hb
 have z3 := hb.size
 clear hb
 refine ⟨_, rfl, ?_⟩
 refine Zv rfl (.bool true) ?_
 refine wpList_nil ?_
 refine sx_norm ?_
 refine sx_true (by kernel_rfl) ?_
 refine wp_seq ?_
 refine wp_region_lit ?_
 refine sx_call (by kernel_rfl) rfl rfl (examples_n W48 (hT.belowD HB)) (by kernel_rfl) ?_
 rintro e W49 ⟨rfl, hb⟩
 replace HB := over HB hb
 replace M2 := M2.below hb
 replace M4 := M4.below hb
 have z4 := hb.size
 clear hb
 refine ⟨_, rfl, ?_⟩
 refine Zv rfl (.bool true) ?_
 refine wpList_nil ?_
 refine sx_norm ?_
 refine wp_ret ?_
 refine sx_rs ?_
 exact sx_ret1 (.bool true) rfl rfl (by kernel_rfl) ⟨rfl, HB⟩

end Go.Proofs.YtnapmildbodigaaDoor.T


