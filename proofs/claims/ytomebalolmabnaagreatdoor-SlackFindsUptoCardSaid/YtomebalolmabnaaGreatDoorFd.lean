/-
  DERIVED. Fd: a part of the base of layer 13 (made by pack.py).
-/
import Derived.Test.YtomebalolmabnaaGreatDoorGA
import Derived.Test.YtomebalolmabnaaGreatDoorGF
import Derived.Test.YtomebalolmabnaaGreatDoorGG
import Derived.Test.YtomebalolmabnaaGreatDoorGH
/-! The specification of schedules: run, Run (by gen_fd.py). -/
namespace Go.Proofs.YtomebalolmabnaaGreatDoor.T
open Go.RowKit
set_option maxRecDepth 8000
attribute [local irreducible] wpList Code.wp wpAnyH

theorem own_grown {α : Type} {E : α → List Value} {sz : Nat} {e : TypeId} {B : Nat} {w w' : World} {v : Value} {L : List α} {r : Option Nat} (h : Ol E e sz B w v L) (k : w.grownBy w' r) (hn : ∀ i, v.ownBlock = some i → ¬ r = some i) : Ol E e sz B w' v L := own_keep (Z := fun i => r = some i) h ((Keep.refl _ w).grown k (fun _ _ h => h)) hn
namespace CrT
def sfK (c : CrT) (R : List Bool) (i : Nat) : SfT := ⟨(c.S.getD i st0).p, (c.lg R i).dep, gS (c.dn R i).2 (R.getD i false), c.mil R i⟩
theorem stp_err (x : InT) (ty st : Int) (l : List (Int × Bool)) (R : List Bool) (i : Nat) (late : Int) (hl : (crs x ty st l).late (i + 1) = late) : stpE x (x.tl.getD ty.toNat ty0) ((crs x ty st l).sfK R i) ((crs x ty st l).S.getD (i + 1) st0).p ((crs x ty st l).S.getD (i + 1) st0).c late = (crs x ty st l).er R i := by
 subst hl
 rfl
theorem stp_sf (x : InT) (ty st : Int) (l : List (Int × Bool)) (R : List Bool) (i : Nat) : stpS x (x.tl.getD ty.toNat ty0) ((crs x ty st l).sfK R i) ((crs x ty st l).S.getD (i + 1) st0).p = ⟨((crs x ty st l).S.getD (i + 1) st0).p, ((crs x ty st l).lg R i).arr, ((crs x ty st l).lg R i).sin, (crs x ty st l).mil R (i + 1)⟩ := rfl
theorem rst_sf (c : CrT) (R : List Bool) (i : Nat) : rstS c.ty ⟨(c.S.getD (i + 1) st0).p, (c.lg R i).don, (c.lg R i).sin, c.mil R (i + 1)⟩ (R.getD (i + 1) false) = c.sfK R (i + 1) := by
 unfold rstS sfK
 show _ = (⟨(c.S.getD (i + 1) st0).p, c.gD (c.dn R (i + 1)).1 (R.getD (i + 1) false), gS (c.dn R (i + 1)).2 (R.getD (i + 1) false), c.mil R (i + 1)⟩ : SfT)
 unfold gD gS
 cases R.getD (i + 1) false <;> rfl
theorem rst_sf0 (c : CrT) (R : List Bool) : rstS c.ty ⟨(c.S.getD 0 st0).p, c.rd, 0, 0⟩ (R.getD 0 false) = c.sfK R 0 := by
 unfold rstS sfK
 show _ = (⟨(c.S.getD 0 st0).p, c.gD c.rd (R.getD 0 false), gS 0 (R.getD 0 false), 0⟩ : SfT)
 unfold gD gS
 cases R.getD 0 false <;> rfl
def tmL (c : CrT) (R : List Bool) (i : Nat) : List TmT := (List.range i).map (c.tm R)
def snL (c : CrT) (R : List Bool) (i : Nat) : List Int := (List.range i).map fun j => (c.lg R j).sin
theorem tmL_succ (c : CrT) (R : List Bool) (i : Nat) : c.tmL R (i + 1) = c.tmL R i ++ [c.tm R i] := by unfold tmL; rw [List.range_succ, List.map_append]; rfl
theorem snL_succ (c : CrT) (R : List Bool) (i : Nat) : c.snL R (i + 1) = c.snL R i ++ [(c.lg R i).sin] := by unfold snL; rw [List.range_succ, List.map_append]; rfl
theorem tmL_len (c : CrT) (R : List Bool) (i : Nat) : (c.tmL R i).length = i := by unfold tmL; simp
theorem snL_len (c : CrT) (R : List Bool) (i : Nat) : (c.snL R i).length = i := by unfold snL; simp
end CrT
theorem crs_endS (x : InT) (ty st : Int) (l : List (Int × Bool)) : (crs x ty st l).S.getD (l.length + 1) st0 = ⟨(x.tl.getD ty.toNat ty0).to, 0, (x.tl.getD ty.toNat ty0).cls, 0⟩ := by
 show (crsS _ x.ol l).getD (l.length + 1) st0 = _
 unfold crsS
 rw [List.getD_eq_getElem?_getD, List.getElem?_append_right (by simp)]
 simp
def runD (x : InT) (ty st : Int) (l : List (Int × Bool)) (R : List Bool) : List Int := if runE x ty st l R = 0 then (crs x ty st l).snL R (crs x ty st l).n else []
set_option maxHeartbeats 8000000 in
theorem refRun_n (k : Iv) (x : InT) (hal : x.al.length ≤ 1000000000) (ty st : Int) (orr oa : Option Addr) (cr ca b o : Nat) (l : List (Int × Bool)) (F : List Bool) (hok : posD x.tl x.ol ty st l = true → (crs x ty st l).Ok) (R : List Bool) (oR : Option Addr) (cR bR qR : Nat) (w : World) (hI : Ins w k x) (hl : Rw w b o 2 (vF l) l.length oa) (hR : Rw w bR qR 1 (bF R) R.length oR) : Calls Tryz.prog 52 #[.agg (iK k x), .agg (rK ty st orr F.length cr oa l.length ca), .slice oR R.length cR] w fun e w' => ∃ o9 c9 b9 q9 od cd bd qd, e = .returned (.tuple #[.agg (shC (runS x ty st l R) o9 c9), .slice od (runD x ty st l R).length cd, .int .i64 (runE x ty st l R)]) ∧ Rw w' b9 q9 4 (fun k => tmE ((runS x ty st l R).T.getD k tm0)) (runS x ty st l R).T.length o9 ∧ Rw w' bd qd 1 (fun k => inE ((runD x ty st l R).getD k 0)) (runD x ty st l R).length od ∧ (∀ i, i < (runS x ty st l R).T.length → w.heap.size ≤ b9) ∧ Below w.heap.size w w' := by
 have HB : Below w.heap.size w w := Below.refl _ _
 obtain ⟨bt, qt, va, vb, hTy⟩ := hI.h2.rw
 refine sx_enter Tryz.func52 rfl [(0, .agg (iK k x)), (1, .agg (rK ty st orr F.length cr oa l.length ca)), (2, .slice oR R.length cR)] (by kernel_rfl) ?_
 refine Yq ?_
 refine Za rfl (iK k x) 30 (fun W1 hb M2 z1 yM2 => ?_)
 replace HB := over HB hb
 clear hb
 refine Za rfl (rK ty st orr F.length cr oa l.length ca) 34 (fun W3 hb M4 z2 yM4 => ?_)
 replace HB := over HB hb
 replace M2 := M2.below hb
 clear hb
 refine Za rfl nZS 37 (fun W5 hb M6 z3 yM6 => ?_)
 replace HB := over HB hb
 replace M2 := M2.below hb
 replace M4 := M4.below hb
 clear hb
 refine Zv rfl (.slice none 0 0) (Zv rfl (.int .i64 0) (Yn (Yo (Ys (Yq (Zw rfl (.agg (iK k x)) (ex_load rfl M2 (by kernel_rfl) Tryz.underlying30 rfl (by kernel_rfl)) (Zw rfl (.agg (rK ty st orr F.length cr oa l.length ca)) (ex_load rfl M4 (by kernel_rfl) Tryz.underlying34 rfl (by kernel_rfl)) ?_)))))))
 by_cases C1 : posD x.tl x.ol ty st l = true
 ·refine Zd rfl ((by have h8 := refPoss_n k x ty st orr oa cr ca b o l F W5 (hI.below HB) (hl.below HB); rw [C1] at h8; exact h8)) (fun W7 hb z4 => ?_)
  replace HB := over HB hb
  replace M2 := M2.below hb
  replace M4 := M4.below hb
  replace M6 := M6.below hb
  clear hb
  have hl20 := posD_len C1
  refine Zv rfl (.bool false) (Zv rfl (.bool false) (Zv rfl (.slice oR R.length cR) (Zv rfl (.int .i64 ((R.length : Nat) : Int)) (Zv rfl (pt W1.heap.size 3) (Zw rfl (.slice oa l.length ca) (el (M4.cell 3 rfl) Tryz.underlying32) (Zv rfl (.int .i64 ((l.length : Nat) : Int)) (Zi rfl (IntKind.i64.wrap (((l.length : Nat) : Int) + 1)) (((l.length + 1 : Nat) : Int)) (by rw [IntKind.wrap_i64]; omega) ?_)))))))
  by_cases C2 : R.length = l.length + 1
  ·refine Zb rfl ((((R.length : Nat) : Int) : Int) != (((l.length + 1 : Nat) : Int) : Int)) false (by rw [bne_eq_false_iff_eq]; omega) (Zv rfl (.bool false) (Yn (Yo (sx_false (by kernel_rfl) (wp_skip (Yo (Ys ?_)))))))
   have hp9 : posD x.tl x.ol ty st l = true := by assumption
   have hc := hok hp9
   have hN := hc.net
   obtain ⟨hy1, hy2, hy3, hy4⟩ := posD_ty hp9
   have hn9 : (crs x ty st l).n = l.length + 1 := crs_n x ty st l
   have hSl : (crs x ty st l).S.length = l.length + 2 := crsS_len _ _ _
   have hrst : 0 ≤ (x.tl.getD ty.toNat ty0).rst ∧ (x.tl.getD ty.toNat ty0).rst ≤ 4096 := hc.rst
   have hrd := hc.rd
   have hyt : ((ty.toNat : Nat) : Int) = ty := Int.toNat_of_nonneg hy1
   refine Yr (Zv rfl (pt w.heap.size 2) (Zw rfl (.slice k.o2 x.tl.length k.c2) (el (M2.cell 2 rfl) Tryz.underlying26) (Zv rfl (pt W1.heap.size 0) (Zw rfl (.int .i64 ty) (el (M4.cell 0 rfl) Tryz.underlying3) (Zw rfl (pt bt (qt + (ty.toNat) * 14)) (ex_indexO (q := qt) (m := x.tl.length) (c := k.c2) (k := ty.toNat) (s := 14) rfl (by kernel_rfl) ((hTy.below HB).oa (k := ty.toNat) (by omega)) (by rw [hyt]; kernel_rfl) Tryz.underlying26 (by kernel_rfl) (by omega) (by omega)) (Zw rfl (.agg (tK (x.tl.getD ty.toNat ty0) (va ty.toNat) (vb ty.toNat))) (ex_loadR rfl ((hTy.below HB).range (k := ty.toNat) (by omega)) (by kernel_rfl) Tryz.underlying80 rfl (by kernel_rfl)) ?_))))))
   obtain ⟨W9, hW⟩ : ∃ W, (W7.alloc (.cells nZT 80)).setRow W7.heap.size (tK (x.tl.getD ty.toNat ty0) (va ty.toNat) (vb ty.toNat)) = W := ⟨_, rfl⟩
   have hb := hW ▸ below_var W7 (.cells nZT 80) (tK (x.tl.getD ty.toNat ty0) (va ty.toNat) (vb ty.toNat))
   have hq : Cb W9 W7.heap.size (tK (x.tl.getD ty.toNat ty0) (va ty.toNat) (vb ty.toNat)) 80 := hW ▸ Cb.row (Cb.made W7 nZT 80) _
   refine sx_mem (by kernel_rfl) rfl rfl (pt W7.heap.size 0) (W7.alloc (.cells nZT 80)) (by kernel_rfl) ?_
   refine Zs (cells := (tK (x.tl.getD ty.toNat ty0) (va ty.toNat) (vb ty.toNat))) rfl rfl (Cb.made W7 nZT 80) ?_
   rw [hW]
   replace HB := over HB hb
   replace M2 := M2.below hb
   replace M4 := M4.below hb
   replace M6 := M6.below hb
   have z5 := hb.size
   have M8 := hq
   have yM8 := hq.lt
   clear hq hb hW
   refine Yn (Yo ?_)
   refine sx_cut (fun q10 : Nat => [(0, .agg (iK k x)), (1, .agg (rK ty st orr F.length cr oa l.length ca)), (2, .slice oR R.length cR), (3, .pointer (some ⟨w.heap.size, 0, none⟩)), (4, .pointer (some ⟨W1.heap.size, 0, none⟩)), (6, .pointer (some ⟨W3.heap.size, 0, none⟩)), (7, .slice none 0 0), (8, .int .i64 0), (9, .pointer (some ⟨W7.heap.size, 0, none⟩)), (10, .pointer (some ⟨q10, 0, none⟩)), (21, .agg (iK k x)), (22, .agg (rK ty st orr F.length cr oa l.length ca)), (23, .bool true), (24, .bool false), (25, .bool false), (26, .slice oR R.length cR), (27, .int .i64 ((R.length : Nat) : Int)), (28, .pointer (some ⟨W1.heap.size, 3, none⟩)), (29, .slice oa l.length ca), (30, .int .i64 ((l.length : Nat) : Int)), (31, .int .i64 ((l.length + 1 : Nat) : Int)), (32, .bool false), (33, .bool false), (35, .pointer (some ⟨w.heap.size, 2, none⟩)), (36, .slice k.o2 x.tl.length k.c2), (37, .pointer (some ⟨W1.heap.size, 0, none⟩)), (38, .int .i64 ty), (39, .pointer (some ⟨bt, qt + (ty.toNat) * 14, none⟩)), (40, .agg (tK (x.tl.getD ty.toNat ty0) (va ty.toNat) (vb ty.toNat)))]) (fun q10 wr => Cb wr q10 #[.int .i64 (((crs x ty st l).sfK R 0).p), .int .i64 (((crs x ty st l).sfK R 0).t), .int .i64 (((crs x ty st l).sfK R 0).d), .int .i64 (((crs x ty st l).sfK R 0).m)] 143 ∧ W9.heap.size ≤ q10 ∧ W9.heap.size ≤ wr.heap.size ∧ Below w.heap.size w wr ∧ Cb wr (w.heap.size) (iK k x) 30 ∧ Cb wr (W1.heap.size) (rK ty st orr F.length cr oa l.length ca) 34 ∧ Cb wr (W3.heap.size) nZS 37 ∧ Cb wr (W7.heap.size) (tK (x.tl.getD ty.toNat ty0) (va ty.toNat) (vb ty.toNat)) 80) ?_ ?_
   ·obtain ⟨Y11, hW⟩ : ∃ W, W9.drew = W := ⟨_, rfl⟩
    have hb : Below W9.heap.size W9 Y11 := hW ▸ below_drew (Below.refl _ _)
    replace HB := over HB hb
    replace M2 := M2.below hb
    replace M4 := M4.below hb
    replace M6 := M6.below hb
    replace M8 := M8.below hb
    have z6 := hb.size
    clear hb
    refine sd_begin (fun W => Cb W (w.heap.size) (iK k x) 30 ∧ Cb W (W1.heap.size) (rK ty st orr F.length cr oa l.length ca) 34 ∧ Cb W (W3.heap.size) nZS 37 ∧ Cb W (W7.heap.size) (tK (x.tl.getD ty.toNat ty0) (va ty.toNat) (vb ty.toNat)) 80 ∧ Rw W b o 2 (vF l) l.length oa ∧ Rw W bR qR 1 (bF R) R.length oR ∧ Rw W bt qt 14 (tyF x.tl va vb) x.tl.length k.o2 ∧ True) (by kernel_rfl) (by rw [hW]; exact ⟨M2, M4, M6, M8, (hl.below HB), (hR.below HB), (hTy.below HB), trivial⟩) ?_
    rw [hW]
    clear hW
    refine Zt 0 rfl rfl (.agg (tK (x.tl.getD ty.toNat ty0) (va ty.toNat) (vb ty.toNat))) (fun w9 h9 => ex_load rfl h9.2.2.2.1 (by kernel_rfl) Tryz.underlying80 rfl (by kernel_rfl)) ⟨M2, M4, M6, M8, (hl.below HB), (hR.below HB), (hTy.below HB), trivial⟩ ?_
    refine Zu 1 rfl rfl (pt W7.heap.size 2) ⟨M2, M4, M6, M8, (hl.below HB), (hR.below HB), (hTy.below HB), trivial⟩ ?_
    refine Zt 2 rfl rfl (.int .i64 ((x.tl.getD ty.toNat ty0).fr)) (fun w9 h9 => el (h9.2.2.2.1.cell 2 rfl) Tryz.underlying3) ⟨M2, M4, M6, M8, (hl.below HB), (hR.below HB), (hTy.below HB), trivial⟩ ?_
    refine Zu 3 rfl rfl (pt W7.heap.size 7) ⟨M2, M4, M6, M8, (hl.below HB), (hR.below HB), (hTy.below HB), trivial⟩ ?_
    refine Zt 4 rfl rfl (.int .i64 ((x.tl.getD ty.toNat ty0).opn)) (fun w9 h9 => el (h9.2.2.2.1.cell 7 rfl) Tryz.underlying3) ⟨M2, M4, M6, M8, (hl.below HB), (hR.below HB), (hTy.below HB), trivial⟩ ?_
    refine Zu 5 rfl rfl (pt W1.heap.size 1) ⟨M2, M4, M6, M8, (hl.below HB), (hR.below HB), (hTy.below HB), trivial⟩ ?_
    refine Zt 6 rfl rfl (.int .i64 st) (fun w9 h9 => el (h9.2.1.cell 1 rfl) Tryz.underlying3) ⟨M2, M4, M6, M8, (hl.below HB), (hR.below HB), (hTy.below HB), trivial⟩ ?_
    refine Zu 7 rfl rfl (.int .i64 ((crs x ty st l).rd)) ⟨M2, M4, M6, M8, (hl.below HB), (hR.below HB), (hTy.below HB), trivial⟩ ?_
    refine Zu 8 rfl rfl (.agg #[.int .i64 ((x.tl.getD ty.toNat ty0).fr), .int .i64 ((crs x ty st l).rd), .int .i64 0, .int .i64 0]) ⟨M2, M4, M6, M8, (hl.below HB), (hR.below HB), (hTy.below HB), trivial⟩ ?_
    refine Zu 9 rfl rfl (.slice oR R.length cR) ⟨M2, M4, M6, M8, (hl.below HB), (hR.below HB), (hTy.below HB), trivial⟩ ?_
    refine Zt 10 rfl rfl (pt bR (qR + 0 * 1)) (fun w9 h9 => ex_indexO (q := qR) (m := R.length) (c := cR) (k := 0) (s := 1) rfl (by kernel_rfl) (h9.2.2.2.2.2.1.oa (k := 0) (by omega)) (by kernel_rfl) Tryz.underlying31 (by kernel_rfl) (by omega) (by omega)) ⟨M2, M4, M6, M8, (hl.below HB), (hR.below HB), (hTy.below HB), trivial⟩ ?_
    refine Zt 11 rfl rfl (.bool (R.getD 0 false)) (fun w9 h9 => el (h9.2.2.2.2.2.1.cell (k := 0) (by omega) 0 rfl) Tryz.underlying4) ⟨M2, M4, M6, M8, (hl.below HB), (hR.below HB), (hTy.below HB), trivial⟩ ?_
    refine sd_all [12, 13] (by kernel_rfl) (by decide) ?_
    refine sd_call (i := 12) rfl (by kernel_rfl) rfl rfl ((by have h8 := refRest_n (x.tl.getD ty.toNat ty0) (va ty.toNat) (vb ty.toNat) ⟨((crs x ty st l).S.getD 0 st0).p, (crs x ty st l).rd, 0, 0⟩ (R.getD 0 false) hrst (by show 0 ≤ (crs x ty st l).rd ∧ (crs x ty st l).rd ≤ 1000000; omega) Y11; rw [show rstS (x.tl.getD ty.toNat ty0) ⟨((crs x ty st l).S.getD 0 st0).p, (crs x ty st l).rd, 0, 0⟩ (R.getD 0 false) = (crs x ty st l).sfK R 0 from CrT.rst_sf0 (crs x ty st l) R] at h8; exact h8)) (by kernel_rfl) ?_ ?_
    ·rintro e W12 ⟨rfl, hb⟩
     replace HB := over HB hb
     replace M2 := M2.below hb
     replace M4 := M4.below hb
     replace M6 := M6.below hb
     replace M8 := M8.below hb
     have z7 := hb.size
     clear hb
     refine ⟨_, rfl, ⟨M2, M4, M6, M8, (hl.below HB), (hR.below HB), (hTy.below HB), trivial⟩, ?_⟩
     refine sd_all [13] (by kernel_rfl) (by decide) ?_
     refine sd_mem (i := 13) rfl (by kernel_rfl) rfl rfl (pt W12.heap.size 0) (W12.alloc (.cells nZ4 143)) (by kernel_rfl) ⟨(M2.below (below_alloc W12 (.cells nZ4 143))), (M4.below (below_alloc W12 (.cells nZ4 143))), (M6.below (below_alloc W12 (.cells nZ4 143))), (M8.below (below_alloc W12 (.cells nZ4 143))), ((hl.below HB).below (below_alloc W12 (.cells nZ4 143))), ((hR.below HB).below (below_alloc W12 (.cells nZ4 143))), ((hTy.below HB).below (below_alloc W12 (.cells nZ4 143))), trivial⟩ ?_ AllReadyH.nil
     obtain ⟨W13, hW, hb, hq⟩ := laidA W12 nZ4 143
     rw [hW]
     replace HB := over HB hb
     replace M2 := M2.below hb
     replace M4 := M4.below hb
     replace M6 := M6.below hb
     replace M8 := M8.below hb
     have z8 := hb.size
     have M14 := hq
     have yM14 := hq.lt
     clear hq hb hW
     refine sd_all [14] (by kernel_rfl) (by decide) ?_
     refine sd_do (i := 14) rfl (by kernel_rfl) rfl (W13.setRow (W12.heap.size) #[.int .i64 (((crs x ty st l).sfK R 0).p), .int .i64 (((crs x ty st l).sfK R 0).t), .int .i64 (((crs x ty st l).sfK R 0).d), .int .i64 (((crs x ty st l).sfK R 0).m)]) (ex_store (cells := #[.int .i64 (((crs x ty st l).sfK R 0).p), .int .i64 (((crs x ty st l).sfK R 0).t), .int .i64 (((crs x ty st l).sfK R 0).d), .int .i64 (((crs x ty st l).sfK R 0).m)]) rfl M14 (by kernel_rfl) (by kernel_rfl) (by kernel_rfl) (by kernel_rfl) (by kernel_rfl)) ⟨(M2.kept (grown_row _ _ _) (by omega)), (M4.kept (grown_row _ _ _) (by omega)), (M6.kept (grown_row _ _ _) (by omega)), (M8.kept (grown_row _ _ _) (by omega)), (hl.below (HB.grown (grown_row _ _ _) (by omega) (oG (by omega)))), (hR.below (HB.grown (grown_row _ _ _) (by omega) (oG (by omega)))), (hTy.below (HB.grown (grown_row _ _ _) (by omega) (oG (by omega)))), trivial⟩ ?_ AllReadyH.nil
     obtain ⟨W15, hW⟩ : ∃ W, W13.setRow (W12.heap.size) #[.int .i64 (((crs x ty st l).sfK R 0).p), .int .i64 (((crs x ty st l).sfK R 0).t), .int .i64 (((crs x ty st l).sfK R 0).d), .int .i64 (((crs x ty st l).sfK R 0).m)] = W := ⟨_, rfl⟩
     have hg : W13.grownBy W15 (some (W12.heap.size)) := hW ▸ grown_row _ _ _
     have hq : Cb W15 (W12.heap.size) #[.int .i64 (((crs x ty st l).sfK R 0).p), .int .i64 (((crs x ty st l).sfK R 0).t), .int .i64 (((crs x ty st l).sfK R 0).d), .int .i64 (((crs x ty st l).sfK R 0).m)] 143 := hW ▸ Cb.row M14 _
     rw [hW]
     replace HB := HB.grown hg (by omega) (oG (by omega))
     replace M2 := M2.kept hg (by omega)
     replace M4 := M4.kept hg (by omega)
     replace M6 := M6.kept hg (by omega)
     replace M8 := M8.kept hg (by omega)
     have z9 := hg.size
     replace M14 := hq
     clear hq hg hW
     refine sd_done (by kernel_rfl) ?_
     refine Yo ?_
     exact ⟨W12.heap.size, ⟨M14, by show _ ≤ _; omega, by show _ ≤ _; omega, HB, M2, M4, M6, M8⟩, fr_less (by kernel_rfl)⟩
    refine sd_mem (i := 13) rfl (by kernel_rfl) rfl rfl (pt Y11.heap.size 0) (Y11.alloc (.cells nZ4 143)) (by kernel_rfl) ⟨(M2.below (below_alloc Y11 (.cells nZ4 143))), (M4.below (below_alloc Y11 (.cells nZ4 143))), (M6.below (below_alloc Y11 (.cells nZ4 143))), (M8.below (below_alloc Y11 (.cells nZ4 143))), ((hl.below HB).below (below_alloc Y11 (.cells nZ4 143))), ((hR.below HB).below (below_alloc Y11 (.cells nZ4 143))), ((hTy.below HB).below (below_alloc Y11 (.cells nZ4 143))), trivial⟩ ?_ AllReadyH.nil
    obtain ⟨W16, hW, hb, hq⟩ := laidA Y11 nZ4 143
    rw [hW]
    replace HB := over HB hb
    replace M2 := M2.below hb
    replace M4 := M4.below hb
    replace M6 := M6.below hb
    replace M8 := M8.below hb
    have z7 := hb.size
    have M17 := hq
    have yM17 := hq.lt
    clear hq hb hW
    refine sd_all [12] (by kernel_rfl) (by decide) ?_
    refine sd_call (i := 12) rfl (by kernel_rfl) rfl rfl ((by have h8 := refRest_n (x.tl.getD ty.toNat ty0) (va ty.toNat) (vb ty.toNat) ⟨((crs x ty st l).S.getD 0 st0).p, (crs x ty st l).rd, 0, 0⟩ (R.getD 0 false) hrst (by show 0 ≤ (crs x ty st l).rd ∧ (crs x ty st l).rd ≤ 1000000; omega) W16; rw [show rstS (x.tl.getD ty.toNat ty0) ⟨((crs x ty st l).S.getD 0 st0).p, (crs x ty st l).rd, 0, 0⟩ (R.getD 0 false) = (crs x ty st l).sfK R 0 from CrT.rst_sf0 (crs x ty st l) R] at h8; exact h8)) (by kernel_rfl) ?_ AllReadyH.nil
    rintro e W18 ⟨rfl, hb⟩
    replace HB := over HB hb
    replace M2 := M2.below hb
    replace M4 := M4.below hb
    replace M6 := M6.below hb
    replace M8 := M8.below hb
    replace M17 := M17.below hb
    have z8 := hb.size
    clear hb
    refine ⟨_, rfl, ⟨M2, M4, M6, M8, (hl.below HB), (hR.below HB), (hTy.below HB), trivial⟩, ?_⟩
    refine sd_all [14] (by kernel_rfl) (by decide) ?_
    refine sd_do (i := 14) rfl (by kernel_rfl) rfl (W18.setRow (Y11.heap.size) #[.int .i64 (((crs x ty st l).sfK R 0).p), .int .i64 (((crs x ty st l).sfK R 0).t), .int .i64 (((crs x ty st l).sfK R 0).d), .int .i64 (((crs x ty st l).sfK R 0).m)]) (ex_store (cells := #[.int .i64 (((crs x ty st l).sfK R 0).p), .int .i64 (((crs x ty st l).sfK R 0).t), .int .i64 (((crs x ty st l).sfK R 0).d), .int .i64 (((crs x ty st l).sfK R 0).m)]) rfl M17 (by kernel_rfl) (by kernel_rfl) (by kernel_rfl) (by kernel_rfl) (by kernel_rfl)) ⟨(M2.kept (grown_row _ _ _) (by omega)), (M4.kept (grown_row _ _ _) (by omega)), (M6.kept (grown_row _ _ _) (by omega)), (M8.kept (grown_row _ _ _) (by omega)), (hl.below (HB.grown (grown_row _ _ _) (by omega) (oG (by omega)))), (hR.below (HB.grown (grown_row _ _ _) (by omega) (oG (by omega)))), (hTy.below (HB.grown (grown_row _ _ _) (by omega) (oG (by omega)))), trivial⟩ ?_ AllReadyH.nil
    obtain ⟨W19, hW⟩ : ∃ W, W18.setRow (Y11.heap.size) #[.int .i64 (((crs x ty st l).sfK R 0).p), .int .i64 (((crs x ty st l).sfK R 0).t), .int .i64 (((crs x ty st l).sfK R 0).d), .int .i64 (((crs x ty st l).sfK R 0).m)] = W := ⟨_, rfl⟩
    have hg : W18.grownBy W19 (some (Y11.heap.size)) := hW ▸ grown_row _ _ _
    have hq : Cb W19 (Y11.heap.size) #[.int .i64 (((crs x ty st l).sfK R 0).p), .int .i64 (((crs x ty st l).sfK R 0).t), .int .i64 (((crs x ty st l).sfK R 0).d), .int .i64 (((crs x ty st l).sfK R 0).m)] 143 := hW ▸ Cb.row M17 _
    rw [hW]
    replace HB := HB.grown hg (by omega) (oG (by omega))
    replace M2 := M2.kept hg (by omega)
    replace M4 := M4.kept hg (by omega)
    replace M6 := M6.kept hg (by omega)
    replace M8 := M8.kept hg (by omega)
    have z9 := hg.size
    replace M17 := hq
    clear hq hg hW
    refine sd_done (by kernel_rfl) ?_
    refine Yo ?_
    exact ⟨Y11.heap.size, ⟨M17, by show _ ≤ _; omega, by show _ ≤ _; omega, HB, M2, M4, M6, M8⟩, fr_less (by kernel_rfl)⟩
   clear HB M2 M4 M6 M8
   rintro q10 g' wr10 ⟨Nq10, hq10, hsq10, HB, M2, M4, M6, M8⟩
   have yNq10 := Nq10.lt
   refine Ys ?_
   obtain ⟨Y20, hW⟩ : ∃ W, wr10.drew = W := ⟨_, rfl⟩
   have hb : Below wr10.heap.size wr10 Y20 := hW ▸ below_drew (Below.refl _ _)
   replace HB := over HB hb
   replace M2 := M2.below hb
   replace M4 := M4.below hb
   replace M6 := M6.below hb
   replace M8 := M8.below hb
   replace Nq10 := Nq10.below hb
   have z6 := hb.size
   clear hb
   refine sd_begin (fun W => Cb W (w.heap.size) (iK k x) 30 ∧ Cb W (W1.heap.size) (rK ty st orr F.length cr oa l.length ca) 34 ∧ Cb W (W3.heap.size) nZS 37 ∧ Cb W (W7.heap.size) (tK (x.tl.getD ty.toNat ty0) (va ty.toNat) (vb ty.toNat)) 80 ∧ Cb W (q10) #[.int .i64 (((crs x ty st l).sfK R 0).p), .int .i64 (((crs x ty st l).sfK R 0).t), .int .i64 (((crs x ty st l).sfK R 0).d), .int .i64 (((crs x ty st l).sfK R 0).m)] 143 ∧ Rw W b o 2 (vF l) l.length oa ∧ Rw W bR qR 1 (bF R) R.length oR ∧ Rw W bt qt 14 (tyF x.tl va vb) x.tl.length k.o2 ∧ True) (by kernel_rfl) (by rw [hW]; exact ⟨M2, M4, M6, M8, Nq10, (hl.below HB), (hR.below HB), (hTy.below HB), trivial⟩) ?_
   rw [hW]
   clear hW
   refine Zu 0 rfl rfl (.slice oR R.length cR) ⟨M2, M4, M6, M8, Nq10, (hl.below HB), (hR.below HB), (hTy.below HB), trivial⟩ ?_
   refine Zt 1 rfl rfl (pt bR (qR + 0 * 1)) (fun w9 h9 => ex_indexO (q := qR) (m := R.length) (c := cR) (k := 0) (s := 1) rfl (by kernel_rfl) (h9.2.2.2.2.2.2.1.oa (k := 0) (by omega)) (by kernel_rfl) Tryz.underlying31 (by kernel_rfl) (by omega) (by omega)) ⟨M2, M4, M6, M8, Nq10, (hl.below HB), (hR.below HB), (hTy.below HB), trivial⟩ ?_
   refine Zt 2 rfl rfl (.bool (R.getD 0 false)) (fun w9 h9 => el (h9.2.2.2.2.2.2.1.cell (k := 0) (by omega) 0 rfl) Tryz.underlying4) ⟨M2, M4, M6, M8, Nq10, (hl.below HB), (hR.below HB), (hTy.below HB), trivial⟩ ?_
   refine Zu 3 rfl rfl (pt q10 1) ⟨M2, M4, M6, M8, Nq10, (hl.below HB), (hR.below HB), (hTy.below HB), trivial⟩ ?_
   refine Zt 4 rfl rfl (.int .i64 (((crs x ty st l).sfK R 0).t)) (fun w9 h9 => el (h9.2.2.2.2.1.cell 1 rfl) Tryz.underlying3) ⟨M2, M4, M6, M8, Nq10, (hl.below HB), (hR.below HB), (hTy.below HB), trivial⟩ ?_
   refine Zu 5 rfl rfl (.agg #[.bool (R.getD 0 false), .int .i64 (((crs x ty st l).sfK R 0).t), .slice none 0 0, .int .i64 0, .int .i64 0]) ⟨M2, M4, M6, M8, Nq10, (hl.below HB), (hR.below HB), (hTy.below HB), trivial⟩ ?_
   refine sd_all [6] (by kernel_rfl) (by decide) ?_
   refine sd_mem (i := 6) rfl (by kernel_rfl) rfl rfl (pt Y20.heap.size 0) (Y20.alloc (.cells nZS 37)) (by kernel_rfl) ⟨(M2.below (below_alloc Y20 (.cells nZS 37))), (M4.below (below_alloc Y20 (.cells nZS 37))), (M6.below (below_alloc Y20 (.cells nZS 37))), (M8.below (below_alloc Y20 (.cells nZS 37))), (Nq10.below (below_alloc Y20 (.cells nZS 37))), ((hl.below HB).below (below_alloc Y20 (.cells nZS 37))), ((hR.below HB).below (below_alloc Y20 (.cells nZS 37))), ((hTy.below HB).below (below_alloc Y20 (.cells nZS 37))), trivial⟩ ?_ AllReadyH.nil
   obtain ⟨W21, hW, hb, hq⟩ := laidA Y20 nZS 37
   rw [hW]
   replace HB := over HB hb
   replace M2 := M2.below hb
   replace M4 := M4.below hb
   replace M6 := M6.below hb
   replace M8 := M8.below hb
   replace Nq10 := Nq10.below hb
   have z7 := hb.size
   have M22 := hq
   have yM22 := hq.lt
   clear hq hb hW
   refine sd_all [7] (by kernel_rfl) (by decide) ?_
   refine sd_do (i := 7) rfl (by kernel_rfl) rfl (W21.setRow (Y20.heap.size) #[.bool (R.getD 0 false), .int .i64 (((crs x ty st l).sfK R 0).t), .slice none 0 0, .int .i64 0, .int .i64 0]) (ex_store (cells := #[.bool (R.getD 0 false), .int .i64 (((crs x ty st l).sfK R 0).t), .slice none 0 0, .int .i64 0, .int .i64 0]) rfl M22 (by kernel_rfl) (by kernel_rfl) (by kernel_rfl) (by kernel_rfl) (by kernel_rfl)) ⟨(M2.kept (grown_row _ _ _) (by omega)), (M4.kept (grown_row _ _ _) (by omega)), (M6.kept (grown_row _ _ _) (by omega)), (M8.kept (grown_row _ _ _) (by omega)), (Nq10.kept (grown_row _ _ _) (by omega)), (hl.below (HB.grown (grown_row _ _ _) (by omega) (oG (by omega)))), (hR.below (HB.grown (grown_row _ _ _) (by omega) (oG (by omega)))), (hTy.below (HB.grown (grown_row _ _ _) (by omega) (oG (by omega)))), trivial⟩ ?_ AllReadyH.nil
   obtain ⟨W23, hW⟩ : ∃ W, W21.setRow (Y20.heap.size) #[.bool (R.getD 0 false), .int .i64 (((crs x ty st l).sfK R 0).t), .slice none 0 0, .int .i64 0, .int .i64 0] = W := ⟨_, rfl⟩
   have hg : W21.grownBy W23 (some (Y20.heap.size)) := hW ▸ grown_row _ _ _
   have hq : Cb W23 (Y20.heap.size) #[.bool (R.getD 0 false), .int .i64 (((crs x ty st l).sfK R 0).t), .slice none 0 0, .int .i64 0, .int .i64 0] 37 := hW ▸ Cb.row M22 _
   rw [hW]
   replace HB := HB.grown hg (by omega) (oG (by omega))
   replace M2 := M2.kept hg (by omega)
   replace M4 := M4.kept hg (by omega)
   replace M6 := M6.kept hg (by omega)
   replace M8 := M8.kept hg (by omega)
   replace Nq10 := Nq10.kept hg (by omega)
   have z8 := hg.size
   replace M22 := hq
   clear hq hg hW
   refine sd_done (by kernel_rfl) ?_
   refine Yo (Yq (Zv rfl (.slice none 0 0) (Yn (Yo (Ys (Yq (Zv rfl (.int .i64 0) (Yn (Yo (wp_block ?_))))))))))
   refine sx_loop (fun x9 : Nat × Value × Value => [(0, .agg (iK k x)), (1, .agg (rK ty st orr F.length cr oa l.length ca)), (2, .slice oR R.length cR), (3, .pointer (some ⟨w.heap.size, 0, none⟩)), (4, .pointer (some ⟨W1.heap.size, 0, none⟩)), (6, .pointer (some ⟨W3.heap.size, 0, none⟩)), (9, .pointer (some ⟨W7.heap.size, 0, none⟩)), (10, .pointer (some ⟨q10, 0, none⟩)), (11, .pointer (some ⟨Y20.heap.size, 0, none⟩)), (12, x9.2.2), (13, .int .i64 ((x9.1 : Nat) : Int)), (21, .agg (iK k x)), (22, .agg (rK ty st orr F.length cr oa l.length ca)), (23, .bool true), (24, .bool false), (25, .bool false), (26, .slice oR R.length cR), (27, .int .i64 ((R.length : Nat) : Int)), (28, .pointer (some ⟨W1.heap.size, 3, none⟩)), (29, .slice oa l.length ca), (30, .int .i64 ((l.length : Nat) : Int)), (31, .int .i64 ((l.length + 1 : Nat) : Int)), (32, .bool false), (33, .bool false), (35, .pointer (some ⟨w.heap.size, 2, none⟩)), (36, .slice k.o2 x.tl.length k.c2), (37, .pointer (some ⟨W1.heap.size, 0, none⟩)), (38, .int .i64 ty), (39, .pointer (some ⟨bt, qt + (ty.toNat) * 14, none⟩)), (40, .agg (tK (x.tl.getD ty.toNat ty0) (va ty.toNat) (vb ty.toNat))), (54, .slice oR R.length cR), (55, .pointer (some ⟨bR, qR + 0 * 1, none⟩)), (56, .bool (R.getD 0 false)), (57, .pointer (some ⟨q10, 1, none⟩)), (58, .int .i64 (((crs x ty st l).sfK R 0).t)), (59, .agg #[.bool (R.getD 0 false), .int .i64 (((crs x ty st l).sfK R 0).t), .slice none 0 0, .int .i64 0, .int .i64 0])]) (fun gg x9 wr => x9.1 ≤ l.length ∧ l.length - x9.1 ≤ gg ∧ (crs x ty st l).run R x9.1 = 0 ∧ Ol tmE 61 4 W23.heap.size wr x9.2.1 ((crs x ty st l).tmL R x9.1) ∧ Ol inE 3 1 W23.heap.size wr x9.2.2 ((crs x ty st l).snL R x9.1) ∧ (∀ g, x9.2.1.ownBlock = some g → ¬ x9.2.2.ownBlock = some g) ∧ Cb wr (q10) #[.int .i64 (((crs x ty st l).sfK R x9.1).p), .int .i64 (((crs x ty st l).sfK R x9.1).t), .int .i64 (((crs x ty st l).sfK R x9.1).d), .int .i64 (((crs x ty st l).sfK R x9.1).m)] 143 ∧ Cb wr (Y20.heap.size) #[.bool (R.getD 0 false), .int .i64 ((crs x ty st l).lg R 0).dep, x9.2.1, .int .i64 0, .int .i64 0] 37 ∧ Below w.heap.size w wr ∧ W23.heap.size ≤ wr.heap.size ∧ Cb wr (w.heap.size) (iK k x) 30 ∧ Cb wr (W1.heap.size) (rK ty st orr F.length cr oa l.length ca) 34 ∧ Cb wr (W3.heap.size) nZS 37 ∧ Cb wr (W7.heap.size) (tK (x.tl.getD ty.toNat ty0) (va ty.toNat) (vb ty.toNat)) 80) (l.length) ((0, .slice none 0 0, .slice none 0 0)) (by kernel_rfl) ⟨Nat.zero_le _, Nat.le_refl _, rfl, Ol.nil _ _ _, Ol.nil _ _ _, (fun g h => by cases h), Nq10, M22, HB, Nat.le_refl _, M2, M4, M6, M8⟩ ?_
   rintro gg ⟨i, vT, vD⟩ g' wr24 ⟨hi, hg, hrun, HT, HD, hne, Q10, Q11, HB, hzz, KM2, KM4, KM6, KM8⟩
   dsimp only at hi hg hrun HT HD hne Q10 Q11 HB hzz KM2 KM4 KM6 KM8
   have yKM2 := KM2.lt
   have yKM4 := KM4.lt
   have yKM6 := KM6.lt
   have yKM8 := KM8.lt
   have yQ10 := Q10.lt
   have yQ11 := Q11.lt
   have hoT : ∀ g, vT.ownBlock = some g → _ := fun g e => HT.blk e
   have hoD : ∀ g, vD.ownBlock = some g → _ := fun g e => HD.blk e
   refine Ys (Yq (Zv rfl (.int .i64 ((i : Nat) : Int)) (Zv rfl (pt W1.heap.size 3) (Zw rfl (.slice oa l.length ca) (el (KM4.cell 3 rfl) Tryz.underlying32) (Zv rfl (.int .i64 ((l.length : Nat) : Int)) ?_)))))
   by_cases C3 : i < l.length
   ·refine Zb rfl (decide (((i : Nat) : Int) < ((l.length : Nat) : Int))) true (decide_eq_true (by omega)) (Yn (Yo (sx_true (by kernel_rfl) (wp_skip (Yo (Ys (wp_block ?_)))))))
    refine sx_cut (fun q14 : Nat => [(0, .agg (iK k x)), (1, .agg (rK ty st orr F.length cr oa l.length ca)), (2, .slice oR R.length cR), (3, .pointer (some ⟨w.heap.size, 0, none⟩)), (4, .pointer (some ⟨W1.heap.size, 0, none⟩)), (6, .pointer (some ⟨W3.heap.size, 0, none⟩)), (9, .pointer (some ⟨W7.heap.size, 0, none⟩)), (10, .pointer (some ⟨q10, 0, none⟩)), (11, .pointer (some ⟨Y20.heap.size, 0, none⟩)), (12, vD), (13, .int .i64 ((i : Nat) : Int)), (14, .pointer (some ⟨q14, 0, none⟩)), (15, .bool true), (21, .agg (iK k x)), (22, .agg (rK ty st orr F.length cr oa l.length ca)), (23, .bool true), (24, .bool false), (25, .bool false), (26, .slice oR R.length cR), (27, .int .i64 ((R.length : Nat) : Int)), (28, .pointer (some ⟨W1.heap.size, 3, none⟩)), (29, .slice oa l.length ca), (30, .int .i64 ((l.length : Nat) : Int)), (31, .int .i64 ((l.length + 1 : Nat) : Int)), (32, .bool false), (33, .bool false), (35, .pointer (some ⟨w.heap.size, 2, none⟩)), (36, .slice k.o2 x.tl.length k.c2), (37, .pointer (some ⟨W1.heap.size, 0, none⟩)), (38, .int .i64 ty), (39, .pointer (some ⟨bt, qt + (ty.toNat) * 14, none⟩)), (40, .agg (tK (x.tl.getD ty.toNat ty0) (va ty.toNat) (vb ty.toNat))), (54, .slice oR R.length cR), (55, .pointer (some ⟨bR, qR + 0 * 1, none⟩)), (56, .bool (R.getD 0 false)), (57, .pointer (some ⟨q10, 1, none⟩)), (58, .int .i64 (((crs x ty st l).sfK R 0).t)), (59, .agg #[.bool (R.getD 0 false), .int .i64 (((crs x ty st l).sfK R 0).t), .slice none 0 0, .int .i64 0, .int .i64 0]), (60, .int .i64 ((i : Nat) : Int)), (61, .pointer (some ⟨W1.heap.size, 3, none⟩)), (62, .slice oa l.length ca), (63, .int .i64 ((l.length : Nat) : Int)), (64, .bool true)]) (fun q14 wr => Cb wr q14 (pK ((crs x ty st l).S.getD (i + 1) st0)) 76 ∧ wr24.heap.size ≤ q14 ∧ wr24.heap.size ≤ wr.heap.size ∧ Below w.heap.size w wr ∧ Ol tmE 61 4 W23.heap.size wr vT ((crs x ty st l).tmL R i) ∧ Ol inE 3 1 W23.heap.size wr vD ((crs x ty st l).snL R i) ∧ Cb wr (w.heap.size) (iK k x) 30 ∧ Cb wr (W1.heap.size) (rK ty st orr F.length cr oa l.length ca) 34 ∧ Cb wr (W3.heap.size) nZS 37 ∧ Cb wr (W7.heap.size) (tK (x.tl.getD ty.toNat ty0) (va ty.toNat) (vb ty.toNat)) 80 ∧ Cb wr (q10) #[.int .i64 (((crs x ty st l).sfK R i).p), .int .i64 (((crs x ty st l).sfK R i).t), .int .i64 (((crs x ty st l).sfK R i).d), .int .i64 (((crs x ty st l).sfK R i).m)] 143 ∧ Cb wr (Y20.heap.size) #[.bool (R.getD 0 false), .int .i64 (((crs x ty st l).lg R 0).dep), vT, .int .i64 0, .int .i64 0] 37) ?_ ?_
    ·have hok9 := posD_at hp9 (i := i) (by omega)
     obtain ⟨Y26, hW⟩ : ∃ W, wr24.drew = W := ⟨_, rfl⟩
     have hb : Below wr24.heap.size wr24 Y26 := hW ▸ below_drew (Below.refl _ _)
     replace HB := over HB hb
     replace HT := HT.below hb
     replace HD := HD.below hb
     replace KM2 := KM2.below hb
     replace KM4 := KM4.below hb
     replace KM6 := KM6.below hb
     replace KM8 := KM8.below hb
     replace Q10 := Q10.below hb
     replace Q11 := Q11.below hb
     have z9 := hb.size
     clear hb
     refine sd_begin (fun W => Cb W (w.heap.size) (iK k x) 30 ∧ Cb W (W1.heap.size) (rK ty st orr F.length cr oa l.length ca) 34 ∧ Cb W (W3.heap.size) nZS 37 ∧ Cb W (W7.heap.size) (tK (x.tl.getD ty.toNat ty0) (va ty.toNat) (vb ty.toNat)) 80 ∧ Cb W (q10) #[.int .i64 (((crs x ty st l).sfK R i).p), .int .i64 (((crs x ty st l).sfK R i).t), .int .i64 (((crs x ty st l).sfK R i).d), .int .i64 (((crs x ty st l).sfK R i).m)] 143 ∧ Cb W (Y20.heap.size) #[.bool (R.getD 0 false), .int .i64 (((crs x ty st l).lg R 0).dep), vT, .int .i64 0, .int .i64 0] 37 ∧ Rw W b o 2 (vF l) l.length oa ∧ Rw W bR qR 1 (bF R) R.length oR ∧ Rw W bt qt 14 (tyF x.tl va vb) x.tl.length k.o2 ∧ True) (by kernel_rfl) (by rw [hW]; exact ⟨KM2, KM4, KM6, KM8, Q10, Q11, (hl.below HB), (hR.below HB), (hTy.below HB), trivial⟩) ?_
     rw [hW]
     clear hW
     refine Zt 0 rfl rfl (.agg (iK k x)) (fun w9 h9 => ex_load rfl h9.1 (by kernel_rfl) Tryz.underlying30 rfl (by kernel_rfl)) ⟨KM2, KM4, KM6, KM8, Q10, Q11, (hl.below HB), (hR.below HB), (hTy.below HB), trivial⟩ ?_
     refine Zu 1 rfl rfl (pt W1.heap.size 3) ⟨KM2, KM4, KM6, KM8, Q10, Q11, (hl.below HB), (hR.below HB), (hTy.below HB), trivial⟩ ?_
     refine Zt 2 rfl rfl (.slice oa l.length ca) (fun w9 h9 => el (h9.2.1.cell 3 rfl) Tryz.underlying32) ⟨KM2, KM4, KM6, KM8, Q10, Q11, (hl.below HB), (hR.below HB), (hTy.below HB), trivial⟩ ?_
     refine Zu 3 rfl rfl (.int .i64 ((i : Nat) : Int)) ⟨KM2, KM4, KM6, KM8, Q10, Q11, (hl.below HB), (hR.below HB), (hTy.below HB), trivial⟩ ?_
     refine Zt 4 rfl rfl (pt b (o + i * 2)) (fun w9 h9 => ex_indexO (q := o) (m := l.length) (c := ca) (k := i) (s := 2) rfl (by kernel_rfl) (h9.2.2.2.2.2.2.1.oa (k := i) (by omega)) (by kernel_rfl) Tryz.underlying32 (by kernel_rfl) (by omega) (by omega)) ⟨KM2, KM4, KM6, KM8, Q10, Q11, (hl.below HB), (hR.below HB), (hTy.below HB), trivial⟩ ?_
     refine Zt 5 rfl rfl (.agg #[.int .i64 ((l.getD i (0, false)).1), .bool (l.getD i (0, false)).2]) (fun w9 h9 => ex_loadR rfl (h9.2.2.2.2.2.2.1.range (k := i) (by omega)) (by kernel_rfl) Tryz.underlying82 rfl (by kernel_rfl)) ⟨KM2, KM4, KM6, KM8, Q10, Q11, (hl.below HB), (hR.below HB), (hTy.below HB), trivial⟩ ?_
     refine sd_all [6, 10] (by kernel_rfl) (by decide) ?_
     refine sd_call (i := 6) rfl (by kernel_rfl) rfl rfl ((by have h8 := refStop_n k x (l.getD i (0, false)).1 (l.getD i (0, false)).2 Y26 (hI.below HB); rw [stR_stop hok9, hok9, ← crs_at x ty st (by omega)] at h8; exact h8)) (by kernel_rfl) ?_ ?_
     ·rintro e W27 ⟨rfl, hb⟩
      replace HB := over HB hb
      replace HT := HT.below hb
      replace HD := HD.below hb
      replace KM2 := KM2.below hb
      replace KM4 := KM4.below hb
      replace KM6 := KM6.below hb
      replace KM8 := KM8.below hb
      replace Q10 := Q10.below hb
      replace Q11 := Q11.below hb
      have z10 := hb.size
      clear hb
      refine ⟨_, rfl, ⟨KM2, KM4, KM6, KM8, Q10, Q11, (hl.below HB), (hR.below HB), (hTy.below HB), trivial⟩, ?_⟩
      refine Zu 7 rfl rfl (.tuple #[.agg (pK ((crs x ty st l).S.getD (i + 1) st0)), .bool true]) ⟨KM2, KM4, KM6, KM8, Q10, Q11, (hl.below HB), (hR.below HB), (hTy.below HB), trivial⟩ ?_
      refine Zu 8 rfl rfl (.agg (pK ((crs x ty st l).S.getD (i + 1) st0))) ⟨KM2, KM4, KM6, KM8, Q10, Q11, (hl.below HB), (hR.below HB), (hTy.below HB), trivial⟩ ?_
      refine Zu 9 rfl rfl (.bool true) ⟨KM2, KM4, KM6, KM8, Q10, Q11, (hl.below HB), (hR.below HB), (hTy.below HB), trivial⟩ ?_
      refine sd_all [10] (by kernel_rfl) (by decide) ?_
      refine sd_mem (i := 10) rfl (by kernel_rfl) rfl rfl (pt W27.heap.size 0) (W27.alloc (.cells nZ4 76)) (by kernel_rfl) ⟨(KM2.below (below_alloc W27 (.cells nZ4 76))), (KM4.below (below_alloc W27 (.cells nZ4 76))), (KM6.below (below_alloc W27 (.cells nZ4 76))), (KM8.below (below_alloc W27 (.cells nZ4 76))), (Q10.below (below_alloc W27 (.cells nZ4 76))), (Q11.below (below_alloc W27 (.cells nZ4 76))), ((hl.below HB).below (below_alloc W27 (.cells nZ4 76))), ((hR.below HB).below (below_alloc W27 (.cells nZ4 76))), ((hTy.below HB).below (below_alloc W27 (.cells nZ4 76))), trivial⟩ ?_ AllReadyH.nil
      obtain ⟨W28, hW, hb, hq⟩ := laidA W27 nZ4 76
      rw [hW]
      replace HB := over HB hb
      replace HT := HT.below hb
      replace HD := HD.below hb
      replace KM2 := KM2.below hb
      replace KM4 := KM4.below hb
      replace KM6 := KM6.below hb
      replace KM8 := KM8.below hb
      replace Q10 := Q10.below hb
      replace Q11 := Q11.below hb
      have z11 := hb.size
      have M29 := hq
      have yM29 := hq.lt
      clear hq hb hW
      refine sd_all [11] (by kernel_rfl) (by decide) ?_
      refine sd_do (i := 11) rfl (by kernel_rfl) rfl (W28.setRow (W27.heap.size) (pK ((crs x ty st l).S.getD (i + 1) st0))) (ex_store (cells := (pK ((crs x ty st l).S.getD (i + 1) st0))) rfl M29 (by kernel_rfl) (by kernel_rfl) (by kernel_rfl) (by kernel_rfl) (by kernel_rfl)) ⟨(KM2.kept (grown_row _ _ _) (by omega)), (KM4.kept (grown_row _ _ _) (by omega)), (KM6.kept (grown_row _ _ _) (by omega)), (KM8.kept (grown_row _ _ _) (by omega)), (Q10.kept (grown_row _ _ _) (by omega)), (Q11.kept (grown_row _ _ _) (by omega)), (hl.below (HB.grown (grown_row _ _ _) (by omega) (oG (by omega)))), (hR.below (HB.grown (grown_row _ _ _) (by omega) (oG (by omega)))), (hTy.below (HB.grown (grown_row _ _ _) (by omega) (oG (by omega)))), trivial⟩ ?_ AllReadyH.nil
      obtain ⟨W30, hW⟩ : ∃ W, W28.setRow (W27.heap.size) (pK ((crs x ty st l).S.getD (i + 1) st0)) = W := ⟨_, rfl⟩
      have hg : W28.grownBy W30 (some (W27.heap.size)) := hW ▸ grown_row _ _ _
      have hq : Cb W30 (W27.heap.size) (pK ((crs x ty st l).S.getD (i + 1) st0)) 76 := hW ▸ Cb.row M29 _
      rw [hW]
      replace HB := HB.grown hg (by omega) (oG (by omega))
      replace HT := own_grown HT hg (fun g8 e8 e9 => by have h7 := hoT g8 e8; simp only [Option.some.injEq] at e9; omega)
      replace HD := own_grown HD hg (fun g8 e8 e9 => by have h7 := hoD g8 e8; simp only [Option.some.injEq] at e9; omega)
      replace KM2 := KM2.kept hg (by omega)
      replace KM4 := KM4.kept hg (by omega)
      replace KM6 := KM6.kept hg (by omega)
      replace KM8 := KM8.kept hg (by omega)
      replace Q10 := Q10.kept hg (by omega)
      replace Q11 := Q11.kept hg (by omega)
      have z12 := hg.size
      replace M29 := hq
      clear hq hg hW
      refine Zu 12 rfl rfl (.bool true) ⟨KM2, KM4, KM6, KM8, Q10, Q11, (hl.below HB), (hR.below HB), (hTy.below HB), trivial⟩ ?_
      refine sd_done (by kernel_rfl) ?_
      refine Yo ?_
      exact ⟨W27.heap.size, ⟨M29, by show _ ≤ _; omega, by show _ ≤ _; omega, HB, HT, HD, KM2, KM4, KM6, KM8, Q10, Q11⟩, fr_less (by kernel_rfl)⟩
     refine sd_mem (i := 10) rfl (by kernel_rfl) rfl rfl (pt Y26.heap.size 0) (Y26.alloc (.cells nZ4 76)) (by kernel_rfl) ⟨(KM2.below (below_alloc Y26 (.cells nZ4 76))), (KM4.below (below_alloc Y26 (.cells nZ4 76))), (KM6.below (below_alloc Y26 (.cells nZ4 76))), (KM8.below (below_alloc Y26 (.cells nZ4 76))), (Q10.below (below_alloc Y26 (.cells nZ4 76))), (Q11.below (below_alloc Y26 (.cells nZ4 76))), ((hl.below HB).below (below_alloc Y26 (.cells nZ4 76))), ((hR.below HB).below (below_alloc Y26 (.cells nZ4 76))), ((hTy.below HB).below (below_alloc Y26 (.cells nZ4 76))), trivial⟩ ?_ AllReadyH.nil
     obtain ⟨W31, hW, hb, hq⟩ := laidA Y26 nZ4 76
     rw [hW]
     replace HB := over HB hb
     replace HT := HT.below hb
     replace HD := HD.below hb
     replace KM2 := KM2.below hb
     replace KM4 := KM4.below hb
     replace KM6 := KM6.below hb
     replace KM8 := KM8.below hb
     replace Q10 := Q10.below hb
     replace Q11 := Q11.below hb
     have z10 := hb.size
     have M32 := hq
     have yM32 := hq.lt
     clear hq hb hW
     refine sd_all [6] (by kernel_rfl) (by decide) ?_
     refine sd_call (i := 6) rfl (by kernel_rfl) rfl rfl ((by have h8 := refStop_n k x (l.getD i (0, false)).1 (l.getD i (0, false)).2 W31 (hI.below HB); rw [stR_stop hok9, hok9, ← crs_at x ty st (by omega)] at h8; exact h8)) (by kernel_rfl) ?_ AllReadyH.nil
     rintro e W33 ⟨rfl, hb⟩
     replace HB := over HB hb
     replace HT := HT.below hb
     replace HD := HD.below hb
     replace KM2 := KM2.below hb
     replace KM4 := KM4.below hb
     replace KM6 := KM6.below hb
     replace KM8 := KM8.below hb
     replace Q10 := Q10.below hb
     replace Q11 := Q11.below hb
     replace M32 := M32.below hb
     have z11 := hb.size
     clear hb
     refine ⟨_, rfl, ⟨KM2, KM4, KM6, KM8, Q10, Q11, (hl.below HB), (hR.below HB), (hTy.below HB), trivial⟩, ?_⟩
     refine Zu 7 rfl rfl (.tuple #[.agg (pK ((crs x ty st l).S.getD (i + 1) st0)), .bool true]) ⟨KM2, KM4, KM6, KM8, Q10, Q11, (hl.below HB), (hR.below HB), (hTy.below HB), trivial⟩ ?_
     refine Zu 8 rfl rfl (.agg (pK ((crs x ty st l).S.getD (i + 1) st0))) ⟨KM2, KM4, KM6, KM8, Q10, Q11, (hl.below HB), (hR.below HB), (hTy.below HB), trivial⟩ ?_
     refine Zu 9 rfl rfl (.bool true) ⟨KM2, KM4, KM6, KM8, Q10, Q11, (hl.below HB), (hR.below HB), (hTy.below HB), trivial⟩ ?_
     refine sd_all [11] (by kernel_rfl) (by decide) ?_
     refine sd_do (i := 11) rfl (by kernel_rfl) rfl (W33.setRow (Y26.heap.size) (pK ((crs x ty st l).S.getD (i + 1) st0))) (ex_store (cells := (pK ((crs x ty st l).S.getD (i + 1) st0))) rfl M32 (by kernel_rfl) (by kernel_rfl) (by kernel_rfl) (by kernel_rfl) (by kernel_rfl)) ⟨(KM2.kept (grown_row _ _ _) (by omega)), (KM4.kept (grown_row _ _ _) (by omega)), (KM6.kept (grown_row _ _ _) (by omega)), (KM8.kept (grown_row _ _ _) (by omega)), (Q10.kept (grown_row _ _ _) (by omega)), (Q11.kept (grown_row _ _ _) (by omega)), (hl.below (HB.grown (grown_row _ _ _) (by omega) (oG (by omega)))), (hR.below (HB.grown (grown_row _ _ _) (by omega) (oG (by omega)))), (hTy.below (HB.grown (grown_row _ _ _) (by omega) (oG (by omega)))), trivial⟩ ?_ AllReadyH.nil
     obtain ⟨W34, hW⟩ : ∃ W, W33.setRow (Y26.heap.size) (pK ((crs x ty st l).S.getD (i + 1) st0)) = W := ⟨_, rfl⟩
     have hg : W33.grownBy W34 (some (Y26.heap.size)) := hW ▸ grown_row _ _ _
     have hq : Cb W34 (Y26.heap.size) (pK ((crs x ty st l).S.getD (i + 1) st0)) 76 := hW ▸ Cb.row M32 _
     rw [hW]
     replace HB := HB.grown hg (by omega) (oG (by omega))
     replace HT := own_grown HT hg (fun g8 e8 e9 => by have h7 := hoT g8 e8; simp only [Option.some.injEq] at e9; omega)
     replace HD := own_grown HD hg (fun g8 e8 e9 => by have h7 := hoD g8 e8; simp only [Option.some.injEq] at e9; omega)
     replace KM2 := KM2.kept hg (by omega)
     replace KM4 := KM4.kept hg (by omega)
     replace KM6 := KM6.kept hg (by omega)
     replace KM8 := KM8.kept hg (by omega)
     replace Q10 := Q10.kept hg (by omega)
     replace Q11 := Q11.kept hg (by omega)
     have z12 := hg.size
     replace M32 := hq
     clear hq hg hW
     refine Zu 12 rfl rfl (.bool true) ⟨KM2, KM4, KM6, KM8, Q10, Q11, (hl.below HB), (hR.below HB), (hTy.below HB), trivial⟩ ?_
     refine sd_done (by kernel_rfl) ?_
     refine Yo ?_
     exact ⟨Y26.heap.size, ⟨M32, by show _ ≤ _; omega, by show _ ≤ _; omega, HB, HT, HD, KM2, KM4, KM6, KM8, Q10, Q11⟩, fr_less (by kernel_rfl)⟩
    clear HB HT HD KM2 KM4 KM6 KM8 Q10 Q11
    rintro q14 g' wr25 ⟨Nq14, hq14, hsq14, HB, HT, HD, KM2, KM4, KM6, KM8, Q10, Q11⟩
    have yNq14 := Nq14.lt
    refine Ys ?_
    have hdn := CrT.dn_bd hc (R := R) i (by omega) hrun
    have hgd := CrT.gD_bd hc (R.getD i false) (don := ((crs x ty st l).dn R i).1) ⟨hdn.1, hdn.2.1⟩
    have hmb0 := CrT.mil_bd hc i (by omega) hrun
    have hsf : (0 ≤ ((crs x ty st l).sfK R i).t ∧ ((crs x ty st l).sfK R i).t ≤ 1000000) ∧ (0 ≤ ((crs x ty st l).sfK R i).d ∧ ((crs x ty st l).sfK R i).d ≤ 1000000) ∧ (0 ≤ ((crs x ty st l).sfK R i).m ∧ ((crs x ty st l).sfK R i).m ≤ 1000000000) := by
     refine ⟨by show 0 ≤ (crs x ty st l).gD _ _ ∧ (crs x ty st l).gD _ _ ≤ 1000000; omega, ?_, by show 0 ≤ (crs x ty st l).mil R i ∧ (crs x ty st l).mil R i ≤ 1000000000; omega⟩
     show 0 ≤ CrT.gS _ _ ∧ CrT.gS _ _ ≤ 1000000
     unfold CrT.gS
     split <;> omega
    refine Yr (Zw rfl (.agg (iK k x)) (ex_load rfl KM2 (by kernel_rfl) Tryz.underlying30 rfl (by kernel_rfl)) (Zw rfl (.agg (tK (x.tl.getD ty.toNat ty0) (va ty.toNat) (vb ty.toNat))) (ex_load rfl KM8 (by kernel_rfl) Tryz.underlying80 rfl (by kernel_rfl)) (Zw rfl (.agg #[.int .i64 (((crs x ty st l).sfK R i).p), .int .i64 (((crs x ty st l).sfK R i).t), .int .i64 (((crs x ty st l).sfK R i).d), .int .i64 (((crs x ty st l).sfK R i).m)]) (ex_load rfl Q10 (by kernel_rfl) Tryz.underlying143 rfl (by kernel_rfl)) (Zv rfl (pt q14 0) (Zw rfl (.int .i64 (((crs x ty st l).S.getD (i + 1) st0).p)) (el (Nq14.cell 0 rfl) Tryz.underlying3) (Zv rfl (pt q14 2) (Zw rfl (.int .i64 (((crs x ty st l).S.getD (i + 1) st0).c)) (el (Nq14.cell 2 rfl) Tryz.underlying3) ?_)))))))
    have e1 : stpE x (x.tl.getD ty.toNat ty0) ((crs x ty st l).sfK R i) ((crs x ty st l).S.getD (i + 1) st0).p ((crs x ty st l).S.getD (i + 1) st0).c 14 = ((crs x ty st l).er R i) := by
     have h7 := CrT.stp_err x ty st l R i 14 (by unfold CrT.late; rw [if_neg (by omega)])
     skip
     exact h7
    have e2 : stpS x (x.tl.getD ty.toNat ty0) ((crs x ty st l).sfK R i) ((crs x ty st l).S.getD (i + 1) st0).p = ⟨((crs x ty st l).S.getD (i + 1) st0).p, ((crs x ty st l).lg R i).arr, ((crs x ty st l).lg R i).sin, (crs x ty st l).mil R (i + 1)⟩ := by
     have h7 := CrT.stp_sf x ty st l R i
     skip
     exact h7
    refine Zc rfl (by have h8 := refStep_n k x hal hN (x.tl.getD ty.toNat ty0) (va ty.toNat) (vb ty.toNat) ((crs x ty st l).sfK R i) ((crs x ty st l).S.getD (i + 1) st0).p ((crs x ty st l).S.getD (i + 1) st0).c 14 (by decide) hsf.1 hsf.2.1 hsf.2.2 wr25 (hI.below HB); rw [e1, e2] at h8; exact h8) ?_
    rintro e W35 ⟨hcs, hb⟩
    replace HB := over HB hb
    replace HT := HT.below hb
    replace HD := HD.below hb
    replace KM2 := KM2.below hb
    replace KM4 := KM4.below hb
    replace KM6 := KM6.below hb
    replace KM8 := KM8.below hb
    replace Q10 := Q10.below hb
    replace Q11 := Q11.below hb
    replace Nq14 := Nq14.below hb
    have z9 := hb.size
    clear hb
    rcases hcs with ⟨z, hz, hz0, rfl⟩ | ⟨hz, rfl⟩
    ·refine ⟨_, rfl, ?_⟩
     refine Zv rfl (.tuple #[.agg #[.int .i64 (((crs x ty st l).sfK R i).p), .int .i64 (((crs x ty st l).sfK R i).t), .int .i64 (((crs x ty st l).sfK R i).d), .int .i64 (((crs x ty st l).sfK R i).m)], .int .i64 z]) (Zv rfl (.agg #[.int .i64 (((crs x ty st l).sfK R i).p), .int .i64 (((crs x ty st l).sfK R i).t), .int .i64 (((crs x ty st l).sfK R i).d), .int .i64 (((crs x ty st l).sfK R i).m)]) (Zv rfl (.int .i64 z) ?_))
     obtain ⟨W37, hW, hb, hq⟩ := laidV W35 nZ4 #[.int .i64 (((crs x ty st l).sfK R i).p), .int .i64 (((crs x ty st l).sfK R i).t), .int .i64 (((crs x ty st l).sfK R i).d), .int .i64 (((crs x ty st l).sfK R i).m)] 143
     refine sx_mem (by kernel_rfl) rfl rfl (pt W35.heap.size 0) (W35.alloc (.cells nZ4 143)) (by kernel_rfl) ?_
     refine Zs (cells := #[.int .i64 (((crs x ty st l).sfK R i).p), .int .i64 (((crs x ty st l).sfK R i).t), .int .i64 (((crs x ty st l).sfK R i).d), .int .i64 (((crs x ty st l).sfK R i).m)]) rfl rfl (Cb.made W35 nZ4 143) ?_
     rw [hW]
     replace HB := over HB hb
     replace HT := HT.below hb
     replace HD := HD.below hb
     replace KM6 := KM6.below hb
     have z10 := hb.size
     have yM36 := hq.lt
     clear hq hb hW
     refine Zv rfl (.int .i64 z) (Yn (Yo (Ys (Yq (Zv rfl (.int .i64 z) (Zb rfl ((z : Int) != (0 : Int)) true (bne_iff_ne.2 (by omega)) (Yn (Yo (sx_true (by kernel_rfl) (Yq (Zv rfl (.agg nZS) (Zv rfl (.int .i64 z) ?_))))))))))))
     refine Zr (cells := nZS) rfl rfl KM6 (fun W38 hg hq => ?_)
     replace HB := HB.grown hg (by omega) (oG (by omega))
     replace HT := own_grown HT hg (fun g8 e8 e9 => by have h7 := hoT g8 e8; simp only [Option.some.injEq] at e9; omega)
     replace HD := own_grown HD hg (fun g8 e8 e9 => by have h7 := hoD g8 e8; simp only [Option.some.injEq] at e9; omega)
     have z11 := hg.size
     replace KM6 := hq
     clear hq hg
     refine Zv rfl (.slice none 0 0) (Zv rfl (.int .i64 z) (Yn (Yo (wp_ret (sx_rs ?_)))))
     refine sx_rb ?_
     refine sx_rs (sx_rs ?_)
     refine sx_rb ?_
     refine sx_rs ?_
     have h5 := CrT.run_stop hrun (show (crs x ty st l).er R i ≠ 0 by rw [hz]; exact hz0) (crs x ty st l).n (by omega)
     have h9 : runE x ty st l R = z := by rw [runE_yes hp9 (by omega), h5, hz]
     have h8 : runS x ty st l R = sh0 := runS_no (by rw [h9]; exact hz0)
     have h7 : runD x ty st l R = [] := by unfold runD; rw [h9, if_neg hz0]
     exact sx_retctt (v' := .slice none 0 0) (v2 := .int .i64 z) KM6 rfl rfl rfl rfl (by kernel_rfl) (by kernel_rfl) (by kernel_rfl) Tryz.underlying37 rfl (by kernel_rfl) ⟨none, 0, 0, 0, none, 0, 0, 0, by rw [h9, h8, h7]; rfl, by rw [h8]; exact rw_sh0 _, by rw [h7]; exact fun i hi => absurd hi (Nat.not_lt_zero i), fun i hi => by rw [h8] at hi; exact absurd hi (Nat.not_lt_zero i), HB⟩
    have hrun1 := bd_run hrun hz
    have hlg := CrT.lg_ok hc (m := i + 1) (by omega) hrun1 (Nat.lt_succ_self i)
    have hmb := CrT.mil_bd hc (i + 1) (by omega) hrun1
    refine ⟨_, rfl, ?_⟩
    refine Zv rfl (.tuple #[.agg #[.int .i64 (((crs x ty st l).S.getD (i + 1) st0).p), .int .i64 (((crs x ty st l).lg R i).arr), .int .i64 (((crs x ty st l).lg R i).sin), .int .i64 ((crs x ty st l).mil R (i + 1))], .int .i64 0]) (Zv rfl (.agg #[.int .i64 (((crs x ty st l).S.getD (i + 1) st0).p), .int .i64 (((crs x ty st l).lg R i).arr), .int .i64 (((crs x ty st l).lg R i).sin), .int .i64 ((crs x ty st l).mil R (i + 1))]) (Zv rfl (.int .i64 0) ?_))
    obtain ⟨W40, hW⟩ : ∃ W, (W35.alloc (.cells nZ4 143)).setRow W35.heap.size #[.int .i64 (((crs x ty st l).S.getD (i + 1) st0).p), .int .i64 (((crs x ty st l).lg R i).arr), .int .i64 (((crs x ty st l).lg R i).sin), .int .i64 ((crs x ty st l).mil R (i + 1))] = W := ⟨_, rfl⟩
    have hb := hW ▸ below_var W35 (.cells nZ4 143) #[.int .i64 (((crs x ty st l).S.getD (i + 1) st0).p), .int .i64 (((crs x ty st l).lg R i).arr), .int .i64 (((crs x ty st l).lg R i).sin), .int .i64 ((crs x ty st l).mil R (i + 1))]
    have hq : Cb W40 W35.heap.size #[.int .i64 (((crs x ty st l).S.getD (i + 1) st0).p), .int .i64 (((crs x ty st l).lg R i).arr), .int .i64 (((crs x ty st l).lg R i).sin), .int .i64 ((crs x ty st l).mil R (i + 1))] 143 := hW ▸ Cb.row (Cb.made W35 nZ4 143) _
    refine sx_mem (by kernel_rfl) rfl rfl (pt W35.heap.size 0) (W35.alloc (.cells nZ4 143)) (by kernel_rfl) ?_
    refine Zs (cells := #[.int .i64 (((crs x ty st l).S.getD (i + 1) st0).p), .int .i64 (((crs x ty st l).lg R i).arr), .int .i64 (((crs x ty st l).lg R i).sin), .int .i64 ((crs x ty st l).mil R (i + 1))]) rfl rfl (Cb.made W35 nZ4 143) ?_
    rw [hW]
    replace HB := over HB hb
    replace HT := HT.below hb
    replace HD := HD.below hb
    replace KM2 := KM2.below hb
    replace KM4 := KM4.below hb
    replace KM6 := KM6.below hb
    replace KM8 := KM8.below hb
    replace Q10 := Q10.below hb
    replace Q11 := Q11.below hb
    replace Nq14 := Nq14.below hb
    have z10 := hb.size
    have M39 := hq
    have yM39 := hq.lt
    clear hq hb hW
    refine Zv rfl (.int .i64 0) (Yn (Yo (Ys (Yq (Zv rfl (.int .i64 0) (Zv rfl (.bool false) (Yn (Yo (sx_false (by kernel_rfl) (wp_skip (Yo (Yq (Zv rfl (vD) (Zv rfl (pt W35.heap.size 2) (Zw rfl (.int .i64 (((crs x ty st l).lg R i).sin)) (el (M39.cell 2 rfl) Tryz.underlying3) ?_)))))))))))))))
    obtain ⟨W41, hW, hb, hq⟩ := laidA W40 #[.int .i64 (((crs x ty st l).lg R i).sin)] 3
    refine sx_mem (by kernel_rfl) rfl rfl (.slice (some ⟨W40.heap.size, 0, none⟩) 1 1) W41 (by rw [← hW]; kernel_rfl) ?_
    replace HB := over HB hb
    replace HT := HT.below hb
    replace HD := HD.below hb
    replace KM2 := KM2.below hb
    replace KM4 := KM4.below hb
    replace KM6 := KM6.below hb
    replace KM8 := KM8.below hb
    replace Q10 := Q10.below hb
    replace Q11 := Q11.below hb
    replace Nq14 := Nq14.below hb
    replace M39 := M39.below hb
    have z11 := hb.size
    have M42 := hq
    have yM42 := hq.lt
    clear hq hb hW
    obtain ⟨v8, W43, h9, hg9, hb, hgr, hwhv8⟩ := ap_o (P := Tryz.prog) (t := 42) (ty := 42) (z := .int .i64 0) (bytes := 8) (x := (((crs x ty st l).lg R i).sin : Int)) inRow Tryz.underlying42 (by kernel_rfl) rfl (by decide) (by decide) HD M42 rfl (by omega) (by rw [CrT.snL_len]; omega)
    refine sx_mem (by kernel_rfl) rfl rfl v8 W43 (ex_append rfl (by kernel_rfl) (by kernel_rfl) h9) ?_
    replace HB := HB.trans (hb.mono (by omega))
    replace HT := own_grown HT hgr (fun g8 e8 e9 => hne g8 e8 e9)
    replace KM2 := KM2.grownO hgr (fun e9 => by have h8 := hoD _ e9; omega)
    replace KM4 := KM4.grownO hgr (fun e9 => by have h8 := hoD _ e9; omega)
    replace KM6 := KM6.grownO hgr (fun e9 => by have h8 := hoD _ e9; omega)
    replace KM8 := KM8.grownO hgr (fun e9 => by have h8 := hoD _ e9; omega)
    replace Q10 := Q10.grownO hgr (fun e9 => by have h8 := hoD _ e9; omega)
    replace Q11 := Q11.grownO hgr (fun e9 => by have h8 := hoD _ e9; omega)
    replace Nq14 := Nq14.grownO hgr (fun e9 => by have h8 := hoD _ e9; omega)
    replace M39 := M39.grownO hgr (fun e9 => by have h8 := hoD _ e9; omega)
    have zW43 := hb.size
    have HD := hg9
    clear hg9 hb h9 hgr
    have hq8 : ∀ g, v8.ownBlock = some g → W23.heap.size ≤ g ∧ (g < wr24.heap.size ∨ g = W41.heap.size) := fun g e => by
     rcases hwhv8 with h | h
     ·rw [h] at e; have := hoD g e; omega
     ·rw [h] at e; simp only [Option.some.injEq] at e; omega
    replace hne : ∀ g, vT.ownBlock = some g → ¬ v8.ownBlock = some g := fun g e1 e2 => by
     rcases hwhv8 with h | h
     ·rw [h] at e2; exact hne g e1 e2
     ·rw [h] at e2; simp only [Option.some.injEq] at e2; have := hoT g e1; omega
    have hoD8 : ∀ g, v8.ownBlock = some g → g < W43.heap.size := fun g e => (HD.blk e).2
    refine Zv rfl (v8) (Yn (Yo (Ys ?_)))
    obtain ⟨Y44, hW⟩ : ∃ W, W43.drew = W := ⟨_, rfl⟩
    have hb : Below W43.heap.size W43 Y44 := hW ▸ below_drew (Below.refl _ _)
    replace HB := over HB hb
    replace HT := HT.below hb
    replace KM2 := KM2.below hb
    replace KM4 := KM4.below hb
    replace KM6 := KM6.below hb
    replace KM8 := KM8.below hb
    replace Q10 := Q10.below hb
    replace Q11 := Q11.below hb
    replace Nq14 := Nq14.below hb
    replace M39 := M39.below hb
    replace HD := HD.below hb
    have z12 := hb.size
    clear hb
    refine sd_begin (fun W => Cb W (w.heap.size) (iK k x) 30 ∧ Cb W (W1.heap.size) (rK ty st orr F.length cr oa l.length ca) 34 ∧ Cb W (W3.heap.size) nZS 37 ∧ Cb W (W7.heap.size) (tK (x.tl.getD ty.toNat ty0) (va ty.toNat) (vb ty.toNat)) 80 ∧ Cb W (q10) #[.int .i64 (((crs x ty st l).sfK R i).p), .int .i64 (((crs x ty st l).sfK R i).t), .int .i64 (((crs x ty st l).sfK R i).d), .int .i64 (((crs x ty st l).sfK R i).m)] 143 ∧ Cb W (Y20.heap.size) #[.bool (R.getD 0 false), .int .i64 (((crs x ty st l).lg R 0).dep), vT, .int .i64 0, .int .i64 0] 37 ∧ Cb W (q14) (pK ((crs x ty st l).S.getD (i + 1) st0)) 76 ∧ Cb W (W35.heap.size) #[.int .i64 (((crs x ty st l).S.getD (i + 1) st0).p), .int .i64 (((crs x ty st l).lg R i).arr), .int .i64 (((crs x ty st l).lg R i).sin), .int .i64 ((crs x ty st l).mil R (i + 1))] 143 ∧ Rw W b o 2 (vF l) l.length oa ∧ Rw W bR qR 1 (bF R) R.length oR ∧ Rw W bt qt 14 (tyF x.tl va vb) x.tl.length k.o2 ∧ True) (by kernel_rfl) (by rw [hW]; exact ⟨KM2, KM4, KM6, KM8, Q10, Q11, Nq14, M39, (hl.below HB), (hR.below HB), (hTy.below HB), trivial⟩) ?_
    rw [hW]
    clear hW
    refine Zu 0 rfl rfl (pt W35.heap.size 1) ⟨KM2, KM4, KM6, KM8, Q10, Q11, Nq14, M39, (hl.below HB), (hR.below HB), (hTy.below HB), trivial⟩ ?_
    refine Zt 1 rfl rfl (.int .i64 (((crs x ty st l).lg R i).arr)) (fun w9 h9 => el (h9.2.2.2.2.2.2.2.1.cell 1 rfl) Tryz.underlying3) ⟨KM2, KM4, KM6, KM8, Q10, Q11, Nq14, M39, (hl.below HB), (hR.below HB), (hTy.below HB), trivial⟩ ?_
    refine Zu 2 rfl rfl (pt W35.heap.size 1) ⟨KM2, KM4, KM6, KM8, Q10, Q11, Nq14, M39, (hl.below HB), (hR.below HB), (hTy.below HB), trivial⟩ ?_
    refine Zt 3 rfl rfl (.int .i64 (((crs x ty st l).lg R i).arr)) (fun w9 h9 => el (h9.2.2.2.2.2.2.2.1.cell 1 rfl) Tryz.underlying3) ⟨KM2, KM4, KM6, KM8, Q10, Q11, Nq14, M39, (hl.below HB), (hR.below HB), (hTy.below HB), trivial⟩ ?_
    refine Zu 4 rfl rfl (pt q14 1) ⟨KM2, KM4, KM6, KM8, Q10, Q11, Nq14, M39, (hl.below HB), (hR.below HB), (hTy.below HB), trivial⟩ ?_
    refine Zt 5 rfl rfl (.int .i64 (((crs x ty st l).S.getD (i + 1) st0).o)) (fun w9 h9 => el (h9.2.2.2.2.2.2.1.cell 1 rfl) Tryz.underlying3) ⟨KM2, KM4, KM6, KM8, Q10, Q11, Nq14, M39, (hl.below HB), (hR.below HB), (hTy.below HB), trivial⟩ ?_
    refine Zu 6 rfl rfl (.int .i64 (((crs x ty st l).lg R i).beg)) ⟨KM2, KM4, KM6, KM8, Q10, Q11, Nq14, M39, (hl.below HB), (hR.below HB), (hTy.below HB), trivial⟩ ?_
    refine Zu 7 rfl rfl (.slice oR R.length cR) ⟨KM2, KM4, KM6, KM8, Q10, Q11, Nq14, M39, (hl.below HB), (hR.below HB), (hTy.below HB), trivial⟩ ?_
    refine Zu 8 rfl rfl (.int .i64 ((i : Nat) : Int)) ⟨KM2, KM4, KM6, KM8, Q10, Q11, Nq14, M39, (hl.below HB), (hR.below HB), (hTy.below HB), trivial⟩ ?_
    refine Zt 9 rfl rfl (.int .i64 ((i + 1 : Nat) : Int)) (fun w9 _ => ex_int .i64 (IntKind.i64.wrap (((i : Nat) : Int) + 1)) (((i + 1 : Nat) : Int)) (by kernel_rfl) (by rw [IntKind.wrap_i64]; omega)) ⟨KM2, KM4, KM6, KM8, Q10, Q11, Nq14, M39, (hl.below HB), (hR.below HB), (hTy.below HB), trivial⟩ ?_
    refine Zt 10 rfl rfl (pt bR (qR + (i + 1) * 1)) (fun w9 h9 => ex_indexO (q := qR) (m := R.length) (c := cR) (k := i + 1) (s := 1) rfl (by kernel_rfl) (h9.2.2.2.2.2.2.2.2.2.1.oa (k := i + 1) (by omega)) (by kernel_rfl) Tryz.underlying31 (by kernel_rfl) (by omega) (by omega)) ⟨KM2, KM4, KM6, KM8, Q10, Q11, Nq14, M39, (hl.below HB), (hR.below HB), (hTy.below HB), trivial⟩ ?_
    refine Zt 11 rfl rfl (.bool (R.getD (i + 1) false)) (fun w9 h9 => el (h9.2.2.2.2.2.2.2.2.2.1.cell (k := i + 1) (by omega) 0 rfl) Tryz.underlying4) ⟨KM2, KM4, KM6, KM8, Q10, Q11, Nq14, M39, (hl.below HB), (hR.below HB), (hTy.below HB), trivial⟩ ?_
    refine Zu 12 rfl rfl (.agg #[.int .i64 (((crs x ty st l).lg R i).arr), .int .i64 (((crs x ty st l).lg R i).beg), .int .i64 0, .bool (R.getD (i + 1) false)]) ⟨KM2, KM4, KM6, KM8, Q10, Q11, Nq14, M39, (hl.below HB), (hR.below HB), (hTy.below HB), trivial⟩ ?_
    refine sd_all [13] (by kernel_rfl) (by decide) ?_
    refine sd_mem (i := 13) rfl (by kernel_rfl) rfl rfl (pt Y44.heap.size 0) (Y44.alloc (.cells nZM 61)) (by kernel_rfl) ⟨(KM2.below (below_alloc Y44 (.cells nZM 61))), (KM4.below (below_alloc Y44 (.cells nZM 61))), (KM6.below (below_alloc Y44 (.cells nZM 61))), (KM8.below (below_alloc Y44 (.cells nZM 61))), (Q10.below (below_alloc Y44 (.cells nZM 61))), (Q11.below (below_alloc Y44 (.cells nZM 61))), (Nq14.below (below_alloc Y44 (.cells nZM 61))), (M39.below (below_alloc Y44 (.cells nZM 61))), ((hl.below HB).below (below_alloc Y44 (.cells nZM 61))), ((hR.below HB).below (below_alloc Y44 (.cells nZM 61))), ((hTy.below HB).below (below_alloc Y44 (.cells nZM 61))), trivial⟩ ?_ AllReadyH.nil
    obtain ⟨W45, hW, hb, hq⟩ := laidA Y44 nZM 61
    rw [hW]
    replace HB := over HB hb
    replace HT := HT.below hb
    replace KM2 := KM2.below hb
    replace KM4 := KM4.below hb
    replace KM6 := KM6.below hb
    replace KM8 := KM8.below hb
    replace Q10 := Q10.below hb
    replace Q11 := Q11.below hb
    replace Nq14 := Nq14.below hb
    replace M39 := M39.below hb
    replace HD := HD.below hb
    have z13 := hb.size
    have M46 := hq
    have yM46 := hq.lt
    clear hq hb hW
    refine sd_all [14] (by kernel_rfl) (by decide) ?_
    refine sd_do (i := 14) rfl (by kernel_rfl) rfl (W45.setRow (Y44.heap.size) #[.int .i64 (((crs x ty st l).lg R i).arr), .int .i64 (((crs x ty st l).lg R i).beg), .int .i64 0, .bool (R.getD (i + 1) false)]) (ex_store (cells := #[.int .i64 (((crs x ty st l).lg R i).arr), .int .i64 (((crs x ty st l).lg R i).beg), .int .i64 0, .bool (R.getD (i + 1) false)]) rfl M46 (by kernel_rfl) (by kernel_rfl) (by kernel_rfl) (by kernel_rfl) (by kernel_rfl)) ⟨(KM2.kept (grown_row _ _ _) (by omega)), (KM4.kept (grown_row _ _ _) (by omega)), (KM6.kept (grown_row _ _ _) (by omega)), (KM8.kept (grown_row _ _ _) (by omega)), (Q10.kept (grown_row _ _ _) (by omega)), (Q11.kept (grown_row _ _ _) (by omega)), (Nq14.kept (grown_row _ _ _) (by omega)), (M39.kept (grown_row _ _ _) (by omega)), (hl.below (HB.grown (grown_row _ _ _) (by omega) (oG (by omega)))), (hR.below (HB.grown (grown_row _ _ _) (by omega) (oG (by omega)))), (hTy.below (HB.grown (grown_row _ _ _) (by omega) (oG (by omega)))), trivial⟩ ?_ AllReadyH.nil
    obtain ⟨W47, hW⟩ : ∃ W, W45.setRow (Y44.heap.size) #[.int .i64 (((crs x ty st l).lg R i).arr), .int .i64 (((crs x ty st l).lg R i).beg), .int .i64 0, .bool (R.getD (i + 1) false)] = W := ⟨_, rfl⟩
    have hg : W45.grownBy W47 (some (Y44.heap.size)) := hW ▸ grown_row _ _ _
    have hq : Cb W47 (Y44.heap.size) #[.int .i64 (((crs x ty st l).lg R i).arr), .int .i64 (((crs x ty st l).lg R i).beg), .int .i64 0, .bool (R.getD (i + 1) false)] 61 := hW ▸ Cb.row M46 _
    rw [hW]
    replace HB := HB.grown hg (by omega) (oG (by omega))
    replace HT := own_grown HT hg (fun g8 e8 e9 => by have h7 := hoT g8 e8; simp only [Option.some.injEq] at e9; omega)
    replace KM2 := KM2.kept hg (by omega)
    replace KM4 := KM4.kept hg (by omega)
    replace KM6 := KM6.kept hg (by omega)
    replace KM8 := KM8.kept hg (by omega)
    replace Q10 := Q10.kept hg (by omega)
    replace Q11 := Q11.kept hg (by omega)
    replace Nq14 := Nq14.kept hg (by omega)
    replace M39 := M39.kept hg (by omega)
    replace HD := own_grown HD hg (fun g8 e8 e9 => by have h7 := hq8 g8 e8; have h6 := hoD8 g8 e8; simp only [Option.some.injEq] at e9; omega)
    have z14 := hg.size
    replace M46 := hq
    clear hq hg hW
    refine sd_done (by kernel_rfl) ?_
    refine Yo (Ys ?_)
    have hst9 := hc.st (i + 1) (by omega)
    refine Yr (Zv rfl (pt Y44.heap.size 1) (Zw rfl (.int .i64 (((crs x ty st l).lg R i).beg)) (el (M46.cell 1 rfl) Tryz.underlying3) (Zv rfl (pt q14 3) (Zw rfl (.int .i64 (((crs x ty st l).S.getD (i + 1) st0).s)) (el (Nq14.cell 3 rfl) Tryz.underlying3) (Zi rfl (IntKind.i64.wrap (((crs x ty st l).lg R i).beg + ((crs x ty st l).S.getD (i + 1) st0).s)) (((crs x ty st l).lg R i).don) (by rw [IntKind.wrap_i64]; show _ = ((crs x ty st l).lg R i).beg + ((crs x ty st l).S.getD (i + 1) st0).s; omega) (Zv rfl (pt W35.heap.size 1) ?_))))))
    refine sx_do (by kernel_rfl) rfl _ (ex_storeC (k := 1) (old := .int .i64 (((crs x ty st l).lg R i).arr)) (v := .int .i64 (((crs x ty st l).lg R i).don)) rfl M39 (by kernel_rfl) (by kernel_rfl) (by kernel_rfl) (by kernel_rfl) (by kernel_rfl)) ?_
    obtain ⟨W48, hW⟩ : ∃ W, W47.setCell ⟨W35.heap.size, 1, none⟩ (.int .i64 (((crs x ty st l).lg R i).don)) = W := ⟨_, rfl⟩
    have hg : W47.grownBy W48 (some (W35.heap.size)) := hW ▸ grown_set _ _ _ _
    have hq : Cb W48 (W35.heap.size) #[.int .i64 (((crs x ty st l).S.getD (i + 1) st0).p), .int .i64 (((crs x ty st l).lg R i).don), .int .i64 (((crs x ty st l).lg R i).sin), .int .i64 ((crs x ty st l).mil R (i + 1))] 143 := hW ▸ M39.set 1 (.int .i64 (((crs x ty st l).lg R i).don))
    rw [hW]
    replace HB := HB.grown hg (by omega) (oG (by omega))
    replace HT := own_grown HT hg (fun g8 e8 e9 => by have h7 := hoT g8 e8; simp only [Option.some.injEq] at e9; omega)
    replace KM2 := KM2.kept hg (by omega)
    replace KM4 := KM4.kept hg (by omega)
    replace KM6 := KM6.kept hg (by omega)
    replace KM8 := KM8.kept hg (by omega)
    replace Q10 := Q10.kept hg (by omega)
    replace Q11 := Q11.kept hg (by omega)
    replace Nq14 := Nq14.kept hg (by omega)
    replace HD := own_grown HD hg (fun g8 e8 e9 => by have h7 := hq8 g8 e8; have h6 := hoD8 g8 e8; simp only [Option.some.injEq] at e9; omega)
    replace M46 := M46.kept hg (by omega)
    have z15 := hg.size
    replace M39 := hq
    clear hq hg hW
    refine Yn (Yo (Ys ?_))
    obtain ⟨Y49, hW⟩ : ∃ W, W48.drew = W := ⟨_, rfl⟩
    have hb : Below W48.heap.size W48 Y49 := hW ▸ below_drew (Below.refl _ _)
    replace HB := over HB hb
    replace HT := HT.below hb
    replace KM2 := KM2.below hb
    replace KM4 := KM4.below hb
    replace KM6 := KM6.below hb
    replace KM8 := KM8.below hb
    replace Q10 := Q10.below hb
    replace Q11 := Q11.below hb
    replace Nq14 := Nq14.below hb
    replace M39 := M39.below hb
    replace HD := HD.below hb
    replace M46 := M46.below hb
    have z16 := hb.size
    clear hb
    refine sd_begin (fun W => Cb W (w.heap.size) (iK k x) 30 ∧ Cb W (W1.heap.size) (rK ty st orr F.length cr oa l.length ca) 34 ∧ Cb W (W3.heap.size) nZS 37 ∧ Cb W (W7.heap.size) (tK (x.tl.getD ty.toNat ty0) (va ty.toNat) (vb ty.toNat)) 80 ∧ Cb W (Y20.heap.size) #[.bool (R.getD 0 false), .int .i64 (((crs x ty st l).lg R 0).dep), vT, .int .i64 0, .int .i64 0] 37 ∧ Cb W (q14) (pK ((crs x ty st l).S.getD (i + 1) st0)) 76 ∧ Cb W (W35.heap.size) #[.int .i64 (((crs x ty st l).S.getD (i + 1) st0).p), .int .i64 (((crs x ty st l).lg R i).don), .int .i64 (((crs x ty st l).lg R i).sin), .int .i64 ((crs x ty st l).mil R (i + 1))] 143 ∧ Cb W (Y44.heap.size) #[.int .i64 (((crs x ty st l).lg R i).arr), .int .i64 (((crs x ty st l).lg R i).beg), .int .i64 0, .bool (R.getD (i + 1) false)] 61 ∧ Rw W b o 2 (vF l) l.length oa ∧ Rw W bR qR 1 (bF R) R.length oR ∧ Rw W bt qt 14 (tyF x.tl va vb) x.tl.length k.o2 ∧ True) (by kernel_rfl) (by rw [hW]; exact ⟨KM2, KM4, KM6, KM8, Q11, Nq14, M39, M46, (hl.below HB), (hR.below HB), (hTy.below HB), trivial⟩) ?_
    rw [hW]
    clear hW
    refine Zt 0 rfl rfl (.agg (tK (x.tl.getD ty.toNat ty0) (va ty.toNat) (vb ty.toNat))) (fun w9 h9 => ex_load rfl h9.2.2.2.1 (by kernel_rfl) Tryz.underlying80 rfl (by kernel_rfl)) ⟨KM2, KM4, KM6, KM8, Q11, Nq14, M39, M46, (hl.below HB), (hR.below HB), (hTy.below HB), trivial⟩ ?_
    refine Zt 1 rfl rfl (.agg #[.int .i64 (((crs x ty st l).S.getD (i + 1) st0).p), .int .i64 (((crs x ty st l).lg R i).don), .int .i64 (((crs x ty st l).lg R i).sin), .int .i64 ((crs x ty st l).mil R (i + 1))]) (fun w9 h9 => ex_load rfl h9.2.2.2.2.2.2.1 (by kernel_rfl) Tryz.underlying143 rfl (by kernel_rfl)) ⟨KM2, KM4, KM6, KM8, Q11, Nq14, M39, M46, (hl.below HB), (hR.below HB), (hTy.below HB), trivial⟩ ?_
    refine Zu 2 rfl rfl (.slice oR R.length cR) ⟨KM2, KM4, KM6, KM8, Q11, Nq14, M39, M46, (hl.below HB), (hR.below HB), (hTy.below HB), trivial⟩ ?_
    refine Zu 3 rfl rfl (.int .i64 ((i : Nat) : Int)) ⟨KM2, KM4, KM6, KM8, Q11, Nq14, M39, M46, (hl.below HB), (hR.below HB), (hTy.below HB), trivial⟩ ?_
    refine Zt 4 rfl rfl (.int .i64 ((i + 1 : Nat) : Int)) (fun w9 _ => ex_int .i64 (IntKind.i64.wrap (((i : Nat) : Int) + 1)) (((i + 1 : Nat) : Int)) (by kernel_rfl) (by rw [IntKind.wrap_i64]; omega)) ⟨KM2, KM4, KM6, KM8, Q11, Nq14, M39, M46, (hl.below HB), (hR.below HB), (hTy.below HB), trivial⟩ ?_
    refine Zt 5 rfl rfl (pt bR (qR + (i + 1) * 1)) (fun w9 h9 => ex_indexO (q := qR) (m := R.length) (c := cR) (k := i + 1) (s := 1) rfl (by kernel_rfl) (h9.2.2.2.2.2.2.2.2.2.1.oa (k := i + 1) (by omega)) (by kernel_rfl) Tryz.underlying31 (by kernel_rfl) (by omega) (by omega)) ⟨KM2, KM4, KM6, KM8, Q11, Nq14, M39, M46, (hl.below HB), (hR.below HB), (hTy.below HB), trivial⟩ ?_
    refine Zt 6 rfl rfl (.bool (R.getD (i + 1) false)) (fun w9 h9 => el (h9.2.2.2.2.2.2.2.2.2.1.cell (k := i + 1) (by omega) 0 rfl) Tryz.underlying4) ⟨KM2, KM4, KM6, KM8, Q11, Nq14, M39, M46, (hl.below HB), (hR.below HB), (hTy.below HB), trivial⟩ ?_
    refine sd_all [7] (by kernel_rfl) (by decide) ?_
    refine sd_call (i := 7) rfl (by kernel_rfl) rfl rfl ((by have h8 := refRest_n (x.tl.getD ty.toNat ty0) (va ty.toNat) (vb ty.toNat) ⟨((crs x ty st l).S.getD (i + 1) st0).p, ((crs x ty st l).lg R i).don, ((crs x ty st l).lg R i).sin, (crs x ty st l).mil R (i + 1)⟩ (R.getD (i + 1) false) hrst (by show 0 ≤ ((crs x ty st l).lg R i).don ∧ ((crs x ty st l).lg R i).don ≤ 1000000; omega) Y49; rw [show rstS (x.tl.getD ty.toNat ty0) ⟨((crs x ty st l).S.getD (i + 1) st0).p, ((crs x ty st l).lg R i).don, ((crs x ty st l).lg R i).sin, (crs x ty st l).mil R (i + 1)⟩ (R.getD (i + 1) false) = (crs x ty st l).sfK R (i + 1) from CrT.rst_sf (crs x ty st l) R i] at h8; exact h8)) (by kernel_rfl) ?_ AllReadyH.nil
    rintro e W50 ⟨rfl, hb⟩
    replace HB := over HB hb
    replace HT := HT.below hb
    replace KM2 := KM2.below hb
    replace KM4 := KM4.below hb
    replace KM6 := KM6.below hb
    replace KM8 := KM8.below hb
    replace Q10 := Q10.below hb
    replace Q11 := Q11.below hb
    replace Nq14 := Nq14.below hb
    replace M39 := M39.below hb
    replace HD := HD.below hb
    replace M46 := M46.below hb
    have z17 := hb.size
    clear hb
    refine ⟨_, rfl, ⟨KM2, KM4, KM6, KM8, Q11, Nq14, M39, M46, (hl.below HB), (hR.below HB), (hTy.below HB), trivial⟩, ?_⟩
    refine sd_all [8] (by kernel_rfl) (by decide) ?_
    refine sd_do (i := 8) rfl (by kernel_rfl) rfl (W50.setRow (q10) #[.int .i64 (((crs x ty st l).sfK R (i + 1)).p), .int .i64 (((crs x ty st l).sfK R (i + 1)).t), .int .i64 (((crs x ty st l).sfK R (i + 1)).d), .int .i64 (((crs x ty st l).sfK R (i + 1)).m)]) (ex_store (cells := #[.int .i64 (((crs x ty st l).sfK R (i + 1)).p), .int .i64 (((crs x ty st l).sfK R (i + 1)).t), .int .i64 (((crs x ty st l).sfK R (i + 1)).d), .int .i64 (((crs x ty st l).sfK R (i + 1)).m)]) rfl Q10 (by kernel_rfl) (by kernel_rfl) (by kernel_rfl) (by kernel_rfl) (by kernel_rfl)) ⟨(KM2.kept (grown_row _ _ _) (by omega)), (KM4.kept (grown_row _ _ _) (by omega)), (KM6.kept (grown_row _ _ _) (by omega)), (KM8.kept (grown_row _ _ _) (by omega)), (Q11.kept (grown_row _ _ _) (by omega)), (Nq14.kept (grown_row _ _ _) (by omega)), (M39.kept (grown_row _ _ _) (by omega)), (M46.kept (grown_row _ _ _) (by omega)), (hl.below (HB.grown (grown_row _ _ _) (by omega) (oG (by omega)))), (hR.below (HB.grown (grown_row _ _ _) (by omega) (oG (by omega)))), (hTy.below (HB.grown (grown_row _ _ _) (by omega) (oG (by omega)))), trivial⟩ ?_ AllReadyH.nil
    obtain ⟨W51, hW⟩ : ∃ W, W50.setRow (q10) #[.int .i64 (((crs x ty st l).sfK R (i + 1)).p), .int .i64 (((crs x ty st l).sfK R (i + 1)).t), .int .i64 (((crs x ty st l).sfK R (i + 1)).d), .int .i64 (((crs x ty st l).sfK R (i + 1)).m)] = W := ⟨_, rfl⟩
    have hg : W50.grownBy W51 (some (q10)) := hW ▸ grown_row _ _ _
    have hq : Cb W51 (q10) #[.int .i64 (((crs x ty st l).sfK R (i + 1)).p), .int .i64 (((crs x ty st l).sfK R (i + 1)).t), .int .i64 (((crs x ty st l).sfK R (i + 1)).d), .int .i64 (((crs x ty st l).sfK R (i + 1)).m)] 143 := hW ▸ Cb.row Q10 _
    rw [hW]
    replace HB := HB.grown hg (by omega) (oG (by omega))
    replace HT := own_grown HT hg (fun g8 e8 e9 => by have h7 := hoT g8 e8; simp only [Option.some.injEq] at e9; omega)
    replace KM2 := KM2.kept hg (by omega)
    replace KM4 := KM4.kept hg (by omega)
    replace KM6 := KM6.kept hg (by omega)
    replace KM8 := KM8.kept hg (by omega)
    replace Q11 := Q11.kept hg (by omega)
    replace HD := own_grown HD hg (fun g8 e8 e9 => by have h7 := hq8 g8 e8; have h6 := hoD8 g8 e8; simp only [Option.some.injEq] at e9; omega)
    replace M46 := M46.kept hg (by omega)
    have z18 := hg.size
    replace Q10 := hq
    clear hq hg hW
    refine sd_done (by kernel_rfl) ?_
    refine Yo (Yq (Zv rfl (pt q10 1) (Zw rfl (.int .i64 (((crs x ty st l).sfK R (i + 1)).t)) (el (Q10.cell 1 rfl) Tryz.underlying3) (Zv rfl (pt Y44.heap.size 2) ?_))))
    refine sx_do (by kernel_rfl) rfl _ (ex_storeC (k := 2) (old := .int .i64 0) (v := .int .i64 (((crs x ty st l).sfK R (i + 1)).t)) rfl M46 (by kernel_rfl) (by kernel_rfl) (by kernel_rfl) (by kernel_rfl) (by kernel_rfl)) ?_
    obtain ⟨W52, hW⟩ : ∃ W, W51.setCell ⟨Y44.heap.size, 2, none⟩ (.int .i64 (((crs x ty st l).sfK R (i + 1)).t)) = W := ⟨_, rfl⟩
    have hg : W51.grownBy W52 (some (Y44.heap.size)) := hW ▸ grown_set _ _ _ _
    have hq : Cb W52 (Y44.heap.size) #[.int .i64 (((crs x ty st l).lg R i).arr), .int .i64 (((crs x ty st l).lg R i).beg), .int .i64 (((crs x ty st l).sfK R (i + 1)).t), .bool (R.getD (i + 1) false)] 61 := hW ▸ M46.set 2 (.int .i64 (((crs x ty st l).sfK R (i + 1)).t))
    rw [hW]
    replace HB := HB.grown hg (by omega) (oG (by omega))
    replace HT := own_grown HT hg (fun g8 e8 e9 => by have h7 := hoT g8 e8; simp only [Option.some.injEq] at e9; omega)
    replace KM2 := KM2.kept hg (by omega)
    replace KM4 := KM4.kept hg (by omega)
    replace KM6 := KM6.kept hg (by omega)
    replace KM8 := KM8.kept hg (by omega)
    replace Q10 := Q10.kept hg (by omega)
    replace Q11 := Q11.kept hg (by omega)
    replace HD := own_grown HD hg (fun g8 e8 e9 => by have h7 := hq8 g8 e8; have h6 := hoD8 g8 e8; simp only [Option.some.injEq] at e9; omega)
    have z19 := hg.size
    replace M46 := hq
    clear hq hg hW
    refine Yn (Yo (Yr (Zv rfl (pt Y20.heap.size 2) (Zw rfl (vT) (el (Q11.cell 2 rfl) Tryz.underlying35) (Zw rfl (.agg #[.int .i64 (((crs x ty st l).lg R i).arr), .int .i64 (((crs x ty st l).lg R i).beg), .int .i64 (((crs x ty st l).sfK R (i + 1)).t), .bool (R.getD (i + 1) false)]) (ex_load rfl M46 (by kernel_rfl) Tryz.underlying61 rfl (by kernel_rfl)) ?_)))))
    obtain ⟨W53, hW, hb, hq⟩ := laidA W52 #[.int .i64 (((crs x ty st l).lg R i).arr), .int .i64 (((crs x ty st l).lg R i).beg), .int .i64 (((crs x ty st l).sfK R (i + 1)).t), .bool (R.getD (i + 1) false)] 61
    refine sx_mem (by kernel_rfl) rfl rfl (.slice (some ⟨W52.heap.size, 0, none⟩) 1 1) W53 (by rw [← hW]; kernel_rfl) ?_
    replace HB := over HB hb
    replace HT := HT.below hb
    replace KM2 := KM2.below hb
    replace KM4 := KM4.below hb
    replace KM6 := KM6.below hb
    replace KM8 := KM8.below hb
    replace Q10 := Q10.below hb
    replace Q11 := Q11.below hb
    replace HD := HD.below hb
    have z20 := hb.size
    have M54 := hq
    have yM54 := hq.lt
    clear hq hb hW
    obtain ⟨v9, W55, h9, hg9, hb, hgr, hwhv9⟩ := ap_o (P := Tryz.prog) (t := 35) (ty := 35) (z := tmZ) (bytes := 32) (x := (crs x ty st l).tm R i) tmRow Tryz.underlying35 (by kernel_rfl) rfl (by decide) (by decide) HT M54 rfl (by omega) (by rw [CrT.tmL_len]; omega)
    refine sx_mem (by kernel_rfl) rfl rfl v9 W55 (ex_append rfl (by kernel_rfl) (by kernel_rfl) h9) ?_
    replace HB := HB.trans (hb.mono (by omega))
    replace KM2 := KM2.grownO hgr (fun e9 => by have h8 := hoT _ e9; omega)
    replace KM4 := KM4.grownO hgr (fun e9 => by have h8 := hoT _ e9; omega)
    replace KM6 := KM6.grownO hgr (fun e9 => by have h8 := hoT _ e9; omega)
    replace KM8 := KM8.grownO hgr (fun e9 => by have h8 := hoT _ e9; omega)
    replace Q10 := Q10.grownO hgr (fun e9 => by have h8 := hoT _ e9; omega)
    replace Q11 := Q11.grownO hgr (fun e9 => by have h8 := hoT _ e9; omega)
    replace HD := own_grown HD hgr (fun g8 e8 e9 => hne g8 e9 e8)
    have zW55 := hb.size
    have HT := hg9
    clear hg9 hb h9 hgr
    have hq9 : ∀ g, v9.ownBlock = some g → W23.heap.size ≤ g ∧ (g < wr24.heap.size ∨ g = W53.heap.size) := fun g e => by
     rcases hwhv9 with h | h
     ·rw [h] at e; have := hoT g e; omega
     ·rw [h] at e; simp only [Option.some.injEq] at e; omega
    have hoT9 : ∀ g, v9.ownBlock = some g → g < W55.heap.size := fun g e => (HT.blk e).2
    have hne9 : ∀ g, v9.ownBlock = some g → ¬ v8.ownBlock = some g := fun g e1 e2 => by
     rcases hwhv9 with h | h
     ·rw [h] at e1; exact hne g e1 e2
     ·rw [h] at e1; simp only [Option.some.injEq] at e1; have := hoD8 g e2; omega
    have hf9 := Ol.form HT
    obtain ⟨oz, cz, hz9⟩ := hf9
    subst hz9
    refine Zv rfl (pt Y20.heap.size 2) ?_
    refine sx_do (by kernel_rfl) rfl _ (ex_storeC (k := 2) (old := vT) (v := .slice oz ((crs x ty st l).tmL R i ++ [(crs x ty st l).tm R i]).length cz) rfl Q11 (by kernel_rfl) (by kernel_rfl) (by kernel_rfl) (by kernel_rfl) (by kernel_rfl)) ?_
    obtain ⟨W56, hW⟩ : ∃ W, W55.setCell ⟨Y20.heap.size, 2, none⟩ (.slice oz ((crs x ty st l).tmL R i ++ [(crs x ty st l).tm R i]).length cz) = W := ⟨_, rfl⟩
    have hg : W55.grownBy W56 (some (Y20.heap.size)) := hW ▸ grown_set _ _ _ _
    have hq : Cb W56 (Y20.heap.size) #[.bool (R.getD 0 false), .int .i64 (((crs x ty st l).lg R 0).dep), .slice oz ((crs x ty st l).tmL R i ++ [(crs x ty st l).tm R i]).length cz, .int .i64 0, .int .i64 0] 37 := hW ▸ Q11.set 2 (.slice oz ((crs x ty st l).tmL R i ++ [(crs x ty st l).tm R i]).length cz)
    rw [hW]
    replace HB := HB.grown hg (by omega) (oG (by omega))
    replace KM2 := KM2.kept hg (by omega)
    replace KM4 := KM4.kept hg (by omega)
    replace KM6 := KM6.kept hg (by omega)
    replace KM8 := KM8.kept hg (by omega)
    replace Q10 := Q10.kept hg (by omega)
    replace HD := own_grown HD hg (fun g8 e8 e9 => by have h7 := hq8 g8 e8; have h6 := hoD8 g8 e8; simp only [Option.some.injEq] at e9; omega)
    replace HT := own_grown HT hg (fun g8 e8 e9 => by have h7 := hq9 g8 e8; have h6 := hoT9 g8 e8; simp only [Option.some.injEq] at e9; omega)
    have z21 := hg.size
    replace Q11 := hq
    clear hq hg hW
    refine Yn ?_
    refine sx_in ?_
    refine Yo (Yr (Zv rfl (.int .i64 ((i : Nat) : Int)) (Zi rfl (IntKind.i64.wrap (((i : Nat) : Int) + 1)) (((i + 1 : Nat) : Int)) (by rw [IntKind.wrap_i64]; omega) (Zv rfl (.int .i64 ((i + 1 : Nat) : Int)) (Yn (Yo ?_))))))
    exact sx_again (l.length - (i + 1)) (i + 1, .slice oz ((crs x ty st l).tmL R i ++ [(crs x ty st l).tm R i]).length cz, v8) (by omega) (by kernel_rfl) ⟨by show i + 1 ≤ _; omega, Nat.le_refl _, hrun1, by show Ol tmE 61 4 _ _ _ ((crs x ty st l).tmL R (i + 1)); rw [CrT.tmL_succ]; exact HT, by show Ol inE 3 1 _ _ v8 ((crs x ty st l).snL R (i + 1)); rw [CrT.snL_succ]; exact HD, hne9, Q10, Q11, HB, by show _ ≤ _; omega, KM2, KM4, KM6, KM8⟩
   refine Zb rfl (decide (((i : Nat) : Int) < ((l.length : Nat) : Int))) false (decide_eq_false (by omega)) (Yn (Yo (sx_false (by kernel_rfl) (wp_exit ?_))))
   refine sx_es ?_
   refine sx_es ?_
   refine sx_out ?_
   refine Yo (Ys ?_)
   have hi9 : i = l.length := by omega
   have hS9 : (crs x ty st l).S.getD (i + 1) st0 = ⟨(x.tl.getD ty.toNat ty0).to, 0, (x.tl.getD ty.toNat ty0).cls, 0⟩ := by rw [hi9]; exact crs_endS x ty st l
   have hdn := CrT.dn_bd hc (R := R) i (by omega) hrun
   have hgd := CrT.gD_bd hc (R.getD i false) (don := ((crs x ty st l).dn R i).1) ⟨hdn.1, hdn.2.1⟩
   have hmb0 := CrT.mil_bd hc i (by omega) hrun
   have hsf : (0 ≤ ((crs x ty st l).sfK R i).t ∧ ((crs x ty st l).sfK R i).t ≤ 1000000) ∧ (0 ≤ ((crs x ty st l).sfK R i).d ∧ ((crs x ty st l).sfK R i).d ≤ 1000000) ∧ (0 ≤ ((crs x ty st l).sfK R i).m ∧ ((crs x ty st l).sfK R i).m ≤ 1000000000) := by
    refine ⟨by show 0 ≤ (crs x ty st l).gD _ _ ∧ (crs x ty st l).gD _ _ ≤ 1000000; omega, ?_, by show 0 ≤ (crs x ty st l).mil R i ∧ (crs x ty st l).mil R i ≤ 1000000000; omega⟩
    show 0 ≤ CrT.gS _ _ ∧ CrT.gS _ _ ≤ 1000000
    unfold CrT.gS
    split <;> omega
   have hf9 := Ol.form HT
   obtain ⟨oz, cz, hz9⟩ := hf9
   subst hz9
   refine Yr (Zw rfl (.agg (iK k x)) (ex_load rfl KM2 (by kernel_rfl) Tryz.underlying30 rfl (by kernel_rfl)) (Zw rfl (.agg (tK (x.tl.getD ty.toNat ty0) (va ty.toNat) (vb ty.toNat))) (ex_load rfl KM8 (by kernel_rfl) Tryz.underlying80 rfl (by kernel_rfl)) (Zw rfl (.agg #[.int .i64 (((crs x ty st l).sfK R i).p), .int .i64 (((crs x ty st l).sfK R i).t), .int .i64 (((crs x ty st l).sfK R i).d), .int .i64 (((crs x ty st l).sfK R i).m)]) (ex_load rfl Q10 (by kernel_rfl) Tryz.underlying143 rfl (by kernel_rfl)) (Zv rfl (pt W7.heap.size 3) (Zw rfl (.int .i64 ((x.tl.getD ty.toNat ty0).to)) (el (KM8.cell 3 rfl) Tryz.underlying3) (Zv rfl (pt W7.heap.size 8) (Zw rfl (.int .i64 ((x.tl.getD ty.toNat ty0).cls)) (el (KM8.cell 8 rfl) Tryz.underlying3) ?_)))))))
   have e1 : stpE x (x.tl.getD ty.toNat ty0) ((crs x ty st l).sfK R i) (x.tl.getD ty.toNat ty0).to (x.tl.getD ty.toNat ty0).cls 15 = ((crs x ty st l).er R i) := by
    have h7 := CrT.stp_err x ty st l R i 15 (by unfold CrT.late; rw [if_pos (by omega)])
    rw [hS9] at h7
    exact h7
   have e2 : stpS x (x.tl.getD ty.toNat ty0) ((crs x ty st l).sfK R i) (x.tl.getD ty.toNat ty0).to = ⟨(x.tl.getD ty.toNat ty0).to, ((crs x ty st l).lg R i).arr, ((crs x ty st l).lg R i).sin, (crs x ty st l).mil R (i + 1)⟩ := by
    have h7 := CrT.stp_sf x ty st l R i
    rw [hS9] at h7
    exact h7
   refine Zc rfl (by have h8 := refStep_n k x hal hN (x.tl.getD ty.toNat ty0) (va ty.toNat) (vb ty.toNat) ((crs x ty st l).sfK R i) (x.tl.getD ty.toNat ty0).to (x.tl.getD ty.toNat ty0).cls 15 (by decide) hsf.1 hsf.2.1 hsf.2.2 wr24 (hI.below HB); rw [e1, e2] at h8; exact h8) ?_
   rintro e W57 ⟨hcs, hb⟩
   replace HB := over HB hb
   replace HT := HT.below hb
   replace HD := HD.below hb
   replace KM6 := KM6.below hb
   replace Q11 := Q11.below hb
   have z9 := hb.size
   clear hb
   rcases hcs with ⟨z, hz, hz0, rfl⟩ | ⟨hz, rfl⟩
   ·refine ⟨_, rfl, ?_⟩
    refine Zv rfl (.tuple #[.agg #[.int .i64 (((crs x ty st l).sfK R i).p), .int .i64 (((crs x ty st l).sfK R i).t), .int .i64 (((crs x ty st l).sfK R i).d), .int .i64 (((crs x ty st l).sfK R i).m)], .int .i64 z]) (Zv rfl (.agg #[.int .i64 (((crs x ty st l).sfK R i).p), .int .i64 (((crs x ty st l).sfK R i).t), .int .i64 (((crs x ty st l).sfK R i).d), .int .i64 (((crs x ty st l).sfK R i).m)]) (Zv rfl (.int .i64 z) ?_))
    obtain ⟨W59, hW, hb, hq⟩ := laidV W57 nZ4 #[.int .i64 (((crs x ty st l).sfK R i).p), .int .i64 (((crs x ty st l).sfK R i).t), .int .i64 (((crs x ty st l).sfK R i).d), .int .i64 (((crs x ty st l).sfK R i).m)] 143
    refine sx_mem (by kernel_rfl) rfl rfl (pt W57.heap.size 0) (W57.alloc (.cells nZ4 143)) (by kernel_rfl) ?_
    refine Zs (cells := #[.int .i64 (((crs x ty st l).sfK R i).p), .int .i64 (((crs x ty st l).sfK R i).t), .int .i64 (((crs x ty st l).sfK R i).d), .int .i64 (((crs x ty st l).sfK R i).m)]) rfl rfl (Cb.made W57 nZ4 143) ?_
    rw [hW]
    replace HB := over HB hb
    replace HT := HT.below hb
    replace HD := HD.below hb
    replace KM6 := KM6.below hb
    have z10 := hb.size
    have yM58 := hq.lt
    clear hq hb hW
    refine Zv rfl (.int .i64 z) (Yn (Yo (Ys (Yq (Zv rfl (.int .i64 z) (Zb rfl ((z : Int) != (0 : Int)) true (bne_iff_ne.2 (by omega)) (Yn (Yo (sx_true (by kernel_rfl) (Yq (Zv rfl (.agg nZS) (Zv rfl (.int .i64 z) ?_))))))))))))
    refine Zr (cells := nZS) rfl rfl KM6 (fun W60 hg hq => ?_)
    replace HB := HB.grown hg (by omega) (oG (by omega))
    replace HT := own_grown HT hg (fun g8 e8 e9 => by have h7 := hoT g8 e8; simp only [Option.some.injEq] at e9; omega)
    replace HD := own_grown HD hg (fun g8 e8 e9 => by have h7 := hoD g8 e8; simp only [Option.some.injEq] at e9; omega)
    have z11 := hg.size
    replace KM6 := hq
    clear hq hg
    refine Zv rfl (.slice none 0 0) (Zv rfl (.int .i64 z) (Yn (Yo (wp_ret (sx_rs ?_)))))
    have h5 := CrT.run_stop hrun (show (crs x ty st l).er R i ≠ 0 by rw [hz]; exact hz0) (crs x ty st l).n (by omega)
    have h9 : runE x ty st l R = z := by rw [runE_yes hp9 (by omega), h5, hz]
    have h8 : runS x ty st l R = sh0 := runS_no (by rw [h9]; exact hz0)
    have h7 : runD x ty st l R = [] := by unfold runD; rw [h9, if_neg hz0]
    exact sx_retctt (v' := .slice none 0 0) (v2 := .int .i64 z) KM6 rfl rfl rfl rfl (by kernel_rfl) (by kernel_rfl) (by kernel_rfl) Tryz.underlying37 rfl (by kernel_rfl) ⟨none, 0, 0, 0, none, 0, 0, 0, by rw [h9, h8, h7]; rfl, by rw [h8]; exact rw_sh0 _, by rw [h7]; exact fun i hi => absurd hi (Nat.not_lt_zero i), fun i hi => by rw [h8] at hi; exact absurd hi (Nat.not_lt_zero i), HB⟩
   have hrun1 := bd_run hrun hz
   have hlg := CrT.lg_ok hc (m := i + 1) (by omega) hrun1 (Nat.lt_succ_self i)
   have hmb := CrT.mil_bd hc (i + 1) (by omega) hrun1
   refine ⟨_, rfl, ?_⟩
   refine Zv rfl (.tuple #[.agg #[.int .i64 ((x.tl.getD ty.toNat ty0).to), .int .i64 (((crs x ty st l).lg R i).arr), .int .i64 (((crs x ty st l).lg R i).sin), .int .i64 ((crs x ty st l).mil R (i + 1))], .int .i64 0]) (Zv rfl (.agg #[.int .i64 ((x.tl.getD ty.toNat ty0).to), .int .i64 (((crs x ty st l).lg R i).arr), .int .i64 (((crs x ty st l).lg R i).sin), .int .i64 ((crs x ty st l).mil R (i + 1))]) (Zv rfl (.int .i64 0) ?_))
   obtain ⟨W62, hW, hb, hq⟩ := laidV W57 nZ4 #[.int .i64 ((x.tl.getD ty.toNat ty0).to), .int .i64 (((crs x ty st l).lg R i).arr), .int .i64 (((crs x ty st l).lg R i).sin), .int .i64 ((crs x ty st l).mil R (i + 1))] 143
   refine sx_mem (by kernel_rfl) rfl rfl (pt W57.heap.size 0) (W57.alloc (.cells nZ4 143)) (by kernel_rfl) ?_
   refine Zs (cells := #[.int .i64 ((x.tl.getD ty.toNat ty0).to), .int .i64 (((crs x ty st l).lg R i).arr), .int .i64 (((crs x ty st l).lg R i).sin), .int .i64 ((crs x ty st l).mil R (i + 1))]) rfl rfl (Cb.made W57 nZ4 143) ?_
   rw [hW]
   replace HB := over HB hb
   replace HT := HT.below hb
   replace HD := HD.below hb
   replace KM6 := KM6.below hb
   replace Q11 := Q11.below hb
   have z10 := hb.size
   have M61 := hq
   have yM61 := hq.lt
   clear hq hb hW
   refine Zv rfl (.int .i64 0) (Yn (Yo (Ys (Yq (Zv rfl (.int .i64 0) (Zv rfl (.bool false) (Yn (Yo (sx_false (by kernel_rfl) (wp_skip (Yo (Yq (Zv rfl (vD) (Zv rfl (pt W57.heap.size 2) (Zw rfl (.int .i64 (((crs x ty st l).lg R i).sin)) (el (M61.cell 2 rfl) Tryz.underlying3) ?_)))))))))))))))
   obtain ⟨W63, hW, hb, hq⟩ := laidA W62 #[.int .i64 (((crs x ty st l).lg R i).sin)] 3
   refine sx_mem (by kernel_rfl) rfl rfl (.slice (some ⟨W62.heap.size, 0, none⟩) 1 1) W63 (by rw [← hW]; kernel_rfl) ?_
   replace HB := over HB hb
   replace HT := HT.below hb
   replace HD := HD.below hb
   replace KM6 := KM6.below hb
   replace Q11 := Q11.below hb
   replace M61 := M61.below hb
   have z11 := hb.size
   have M64 := hq
   have yM64 := hq.lt
   clear hq hb hW
   obtain ⟨v8, W65, h9, hg9, hb, hgr, hwhv8⟩ := ap_o (P := Tryz.prog) (t := 42) (ty := 42) (z := .int .i64 0) (bytes := 8) (x := (((crs x ty st l).lg R i).sin : Int)) inRow Tryz.underlying42 (by kernel_rfl) rfl (by decide) (by decide) HD M64 rfl (by omega) (by rw [CrT.snL_len]; omega)
   refine sx_mem (by kernel_rfl) rfl rfl v8 W65 (ex_append rfl (by kernel_rfl) (by kernel_rfl) h9) ?_
   replace HB := HB.trans (hb.mono (by omega))
   replace HT := own_grown HT hgr (fun g8 e8 e9 => hne g8 e8 e9)
   replace KM6 := KM6.grownO hgr (fun e9 => by have h8 := hoD _ e9; omega)
   replace Q11 := Q11.grownO hgr (fun e9 => by have h8 := hoD _ e9; omega)
   replace M61 := M61.grownO hgr (fun e9 => by have h8 := hoD _ e9; omega)
   have zW65 := hb.size
   have HD := hg9
   clear hg9 hb h9 hgr
   have hq8 : ∀ g, v8.ownBlock = some g → W23.heap.size ≤ g ∧ (g < wr24.heap.size ∨ g = W63.heap.size) := fun g e => by
    rcases hwhv8 with h | h
    ·rw [h] at e; have := hoD g e; omega
    ·rw [h] at e; simp only [Option.some.injEq] at e; omega
   replace hne : ∀ g, (Value.slice oz ((crs x ty st l).tmL R i).length cz).ownBlock = some g → ¬ v8.ownBlock = some g := fun g e1 e2 => by
    rcases hwhv8 with h | h
    ·rw [h] at e2; exact hne g e1 e2
    ·rw [h] at e2; simp only [Option.some.injEq] at e2; have := hoT g e1; omega
   have hoD8 : ∀ g, v8.ownBlock = some g → g < W65.heap.size := fun g e => (HD.blk e).2
   refine Zv rfl (v8) (Yn (Yo (Yq (Zv rfl (pt W57.heap.size 1) (Zw rfl (.int .i64 (((crs x ty st l).lg R i).arr)) (el (M61.cell 1 rfl) Tryz.underlying3) (Zv rfl (pt Y20.heap.size 3) ?_))))))
   refine sx_do (by kernel_rfl) rfl _ (ex_storeC (k := 3) (old := .int .i64 0) (v := .int .i64 (((crs x ty st l).lg R i).arr)) rfl Q11 (by kernel_rfl) (by kernel_rfl) (by kernel_rfl) (by kernel_rfl) (by kernel_rfl)) ?_
   obtain ⟨W66, hW⟩ : ∃ W, W65.setCell ⟨Y20.heap.size, 3, none⟩ (.int .i64 (((crs x ty st l).lg R i).arr)) = W := ⟨_, rfl⟩
   have hg : W65.grownBy W66 (some (Y20.heap.size)) := hW ▸ grown_set _ _ _ _
   have hq : Cb W66 (Y20.heap.size) #[.bool (R.getD 0 false), .int .i64 (((crs x ty st l).lg R 0).dep), .slice oz ((crs x ty st l).tmL R i).length cz, .int .i64 (((crs x ty st l).lg R i).arr), .int .i64 0] 37 := hW ▸ Q11.set 3 (.int .i64 (((crs x ty st l).lg R i).arr))
   rw [hW]
   replace HB := HB.grown hg (by omega) (oG (by omega))
   replace HT := own_grown HT hg (fun g8 e8 e9 => by have h7 := hoT g8 e8; simp only [Option.some.injEq] at e9; omega)
   replace KM6 := KM6.kept hg (by omega)
   replace M61 := M61.kept hg (by omega)
   replace HD := own_grown HD hg (fun g8 e8 e9 => by have h7 := hq8 g8 e8; have h6 := hoD8 g8 e8; simp only [Option.some.injEq] at e9; omega)
   have z12 := hg.size
   replace Q11 := hq
   clear hq hg hW
   refine Yn (Yo (Yq (Zv rfl (pt W57.heap.size 3) (Zw rfl (.int .i64 ((crs x ty st l).mil R (i + 1))) (el (M61.cell 3 rfl) Tryz.underlying3) (Zv rfl (pt Y20.heap.size 4) ?_)))))
   refine sx_do (by kernel_rfl) rfl _ (ex_storeC (k := 4) (old := .int .i64 0) (v := .int .i64 ((crs x ty st l).mil R (i + 1))) rfl Q11 (by kernel_rfl) (by kernel_rfl) (by kernel_rfl) (by kernel_rfl) (by kernel_rfl)) ?_
   obtain ⟨W67, hW⟩ : ∃ W, W66.setCell ⟨Y20.heap.size, 4, none⟩ (.int .i64 ((crs x ty st l).mil R (i + 1))) = W := ⟨_, rfl⟩
   have hg : W66.grownBy W67 (some (Y20.heap.size)) := hW ▸ grown_set _ _ _ _
   have hq : Cb W67 (Y20.heap.size) #[.bool (R.getD 0 false), .int .i64 (((crs x ty st l).lg R 0).dep), .slice oz ((crs x ty st l).tmL R i).length cz, .int .i64 (((crs x ty st l).lg R i).arr), .int .i64 ((crs x ty st l).mil R (i + 1))] 37 := hW ▸ Q11.set 4 (.int .i64 ((crs x ty st l).mil R (i + 1)))
   rw [hW]
   replace HB := HB.grown hg (by omega) (oG (by omega))
   replace HT := own_grown HT hg (fun g8 e8 e9 => by have h7 := hoT g8 e8; simp only [Option.some.injEq] at e9; omega)
   replace KM6 := KM6.kept hg (by omega)
   replace HD := own_grown HD hg (fun g8 e8 e9 => by have h7 := hq8 g8 e8; have h6 := hoD8 g8 e8; simp only [Option.some.injEq] at e9; omega)
   have z13 := hg.size
   replace Q11 := hq
   clear hq hg hW
   refine Yn (Yo (Yq (Zw rfl (.agg #[.bool (R.getD 0 false), .int .i64 (((crs x ty st l).lg R 0).dep), .slice oz ((crs x ty st l).tmL R i).length cz, .int .i64 (((crs x ty st l).lg R i).arr), .int .i64 ((crs x ty st l).mil R (i + 1))]) (ex_load rfl Q11 (by kernel_rfl) Tryz.underlying37 rfl (by kernel_rfl)) (Zv rfl (v8) ?_))))
   refine Zr (cells := #[.bool (R.getD 0 false), .int .i64 (((crs x ty st l).lg R 0).dep), .slice oz ((crs x ty st l).tmL R i).length cz, .int .i64 (((crs x ty st l).lg R i).arr), .int .i64 ((crs x ty st l).mil R (i + 1))]) rfl rfl KM6 (fun W68 hg hq => ?_)
   replace HB := HB.grown hg (by omega) (oG (by omega))
   replace HT := own_grown HT hg (fun g8 e8 e9 => by have h7 := hoT g8 e8; simp only [Option.some.injEq] at e9; omega)
   replace HD := own_grown HD hg (fun g8 e8 e9 => by have h7 := hq8 g8 e8; have h6 := hoD8 g8 e8; simp only [Option.some.injEq] at e9; omega)
   have z14 := hg.size
   replace KM6 := hq
   clear hq hg
   refine Zv rfl (v8) (Zv rfl (.int .i64 0) (Yn (Yo (wp_ret ?_))))
   have hni : (crs x ty st l).n = i + 1 := by omega
   have h9 : runE x ty st l R = 0 := by rw [runE_yes hp9 (by omega), hni]; exact hrun1
   have h8 : runS x ty st l R = (crs x ty st l).sheet R := if_pos h9
   have h7 : runD x ty st l R = (crs x ty st l).snL R (i + 1) := by unfold runD; rw [if_pos h9, hni]
   have h6 : ((crs x ty st l).sheet R).T = (crs x ty st l).tmL R i := by show (List.range ((crs x ty st l).n - 1)).map ((crs x ty st l).tm R) = _; rw [hni]; rfl
   have hD2 := Ol.form HD
   obtain ⟨od, cd, rfl⟩ := hD2
   obtain ⟨b9, q9, hr9, hb9⟩ := Ol.rwB tmRow tm0 HT
   obtain ⟨bd, qd, hrd9⟩ := Ol.rw inRow 0 HD
   exact sx_retctt (v' := .slice od ((crs x ty st l).snL R i ++ [((crs x ty st l).lg R i).sin]).length cd) (v2 := .int .i64 0) KM6 rfl rfl rfl rfl (by kernel_rfl) (by kernel_rfl) (by kernel_rfl) Tryz.underlying37 rfl (by kernel_rfl) ⟨oz, cz, b9, q9, od, cd, bd, qd, by rw [h9, h8, h7, CrT.snL_succ]; unfold shC; rw [h6]; show Ending.returned (.tuple #[.agg #[_, _, _, _, .int .i64 ((crs x ty st l).mil R (i + 1))], _, _]) = .returned (.tuple #[.agg #[_, _, _, .int .i64 ((crs x ty st l).lg R ((crs x ty st l).n - 1)).arr, .int .i64 ((crs x ty st l).mil R (crs x ty st l).n)], _, _]); rw [hni]; rfl, by rw [h8, h6]; exact hr9, by rw [h7, CrT.snL_succ]; exact hrd9, fun i hi => by rw [h8, h6] at hi; have h4 := hb9 i hi; omega, HB⟩
  refine Zb rfl ((((R.length : Nat) : Int) : Int) != (((l.length + 1 : Nat) : Int) : Int)) true (bne_iff_ne.2 (by omega)) (Zv rfl (.bool true) (Yn (Yo (sx_true (by kernel_rfl) (Yq (Zv rfl (.agg nZS) ?_))))))
  refine Zr (cells := nZS) rfl rfl M6 (fun W69 hg hq => ?_)
  replace HB := HB.grown hg (by omega) (oG (by omega))
  have z5 := hg.size
  replace M6 := hq
  clear hq hg
  refine Zv rfl (.slice none 0 0) (Zv rfl (.int .i64 2) (Yn (Yo (wp_ret (sx_rs ?_)))))
  have h6 := runE_no (x := x) (ty := ty) (st := st) (l := l) (R := R) (.inr (by omega))
  have h9 := h6.1
  have h8 := h6.2
  have h7 : runD x ty st l R = [] := by unfold runD; rw [h9, if_neg (by decide)]
  exact sx_retctt (v' := .slice none 0 0) (v2 := .int .i64 2) M6 rfl rfl rfl rfl (by kernel_rfl) (by kernel_rfl) (by kernel_rfl) Tryz.underlying37 rfl (by kernel_rfl) ⟨none, 0, 0, 0, none, 0, 0, 0, by rw [h9, h8, h7]; rfl, by rw [h8]; exact rw_sh0 _, by rw [h7]; exact fun i hi => absurd hi (Nat.not_lt_zero i), fun i hi => by rw [h8] at hi; exact absurd hi (Nat.not_lt_zero i), HB⟩
 refine Zd rfl ((by have h8 := refPoss_n k x ty st orr oa cr ca b o l F W5 (hI.below HB) (hl.below HB); rw [show posD x.tl x.ol ty st l = false by simpa using C1] at h8; exact h8)) (fun W70 hb z4 => ?_)
 replace HB := over HB hb
 replace M6 := M6.below hb
 clear hb
 refine Zv rfl (.bool true) (Zv rfl (.bool true) (Zk rfl (Zk rfl (Zk rfl (Zk rfl (Zk rfl (Zk rfl (Zk rfl (Zv rfl (.bool true) (Yn (Yo (sx_true (by kernel_rfl) ?_))))))))))))
 refine Yq (Zv rfl (.agg nZS) ?_)
 refine Zr (cells := nZS) rfl rfl M6 (fun W71 hg hq => ?_)
 replace HB := HB.grown hg (by omega) (oG (by omega))
 have z5 := hg.size
 replace M6 := hq
 clear hq hg
 refine Zv rfl (.slice none 0 0) (Zv rfl (.int .i64 2) (Yn (Yo (wp_ret (sx_rs ?_)))))
 have h6 := runE_no (x := x) (ty := ty) (st := st) (l := l) (R := R) (.inl (by simpa using C1))
 have h9 := h6.1
 have h8 := h6.2
 have h7 : runD x ty st l R = [] := by unfold runD; rw [h9, if_neg (by decide)]
 exact sx_retctt (v' := .slice none 0 0) (v2 := .int .i64 2) M6 rfl rfl rfl rfl (by kernel_rfl) (by kernel_rfl) (by kernel_rfl) Tryz.underlying37 rfl (by kernel_rfl) ⟨none, 0, 0, 0, none, 0, 0, 0, by rw [h9, h8, h7]; rfl, by rw [h8]; exact rw_sh0 _, by rw [h7]; exact fun i hi => absurd hi (Nat.not_lt_zero i), fun i hi => by rw [h8] at hi; exact absurd hi (Nat.not_lt_zero i), HB⟩

end Go.Proofs.YtomebalolmabnaaGreatDoor.T



