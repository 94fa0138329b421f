/-
  DERIVED. GN: a part of the base of layer 13 (made by pack.py).
-/
import Derived.Test.YtomebalolmabnaaDoorGA
import Derived.Test.YtomebalolmabnaaDoorGM
import Derived.Test.YtomebalolmabnaaDoorGE
/-! The specification of schedules: possible routes (by gen_fb.py). -/
namespace Go.Proofs.YtomebalolmabnaaDoor.T
open Go.RowKit
set_option maxRecDepth 8000
attribute [local irreducible] wpList Code.wp wpAnyH

theorem refPoss_n (k : Iv) (x : InT) (ty st : Int) (orr oa : Option Addr) (cr ca b o : Nat) (l : List (Int × Bool)) (F : List Bool) (w : World) (hI : Ins w k x) (hl : Rw w b o 2 (vF l) l.length oa) : Calls Tryd.prog 32 #[.agg (iK k x), .agg (rK ty st orr F.length cr oa l.length ca)] w fun e w' => e = .returned (.bool (posD x.tl x.ol ty st l)) ∧ Below w.heap.size w w' := by
 have HB : Below w.heap.size w w := Below.refl _ _
 refine sx_enter Tryd.func32 rfl [(0, .agg (iK k x)), (1, .agg (rK ty st orr F.length cr oa l.length ca))] (by kernel_rfl) ?_
 refine wp_seq (wp_region_lit ?_)
 obtain ⟨W1, hW, hb, hq⟩ := laidA w (iK k x) 30
 refine sx_mem (by kernel_rfl) rfl rfl (.pointer (some ⟨w.heap.size, 0, none⟩)) W1 (by rw [← hW]; kernel_rfl) ?_
 replace HB := over HB hb
 have z1 := hb.size
 have M2 := hq
 have yM2 := hq.lt
 clear hq hb hW
 obtain ⟨W3, hW, hb, hq⟩ := laidA W1 (rK ty st orr F.length cr oa l.length ca) 34
 refine sx_mem (by kernel_rfl) rfl rfl (.pointer (some ⟨W1.heap.size, 0, none⟩)) W3 (by rw [← hW]; kernel_rfl) ?_
 replace HB := over HB hb
 replace M2 := M2.below hb
 have z2 := hb.size
 have M4 := hq
 have yM4 := hq.lt
 clear hq hb hW
 refine Zv rfl (.bool false) ?_
 refine wpList_nil (sx_norm (wp_seq (wp_seq (wp_region_lit ?_))))
 refine Zv rfl (.pointer (some ⟨W1.heap.size, 0, none⟩)) ?_
 refine Zw rfl (.int .i64 ty) (el (M4.cell 0 rfl) Tryd.underlying3) ?_
 by_cases C1 : ty < 0
 ·refine Zb rfl (decide (ty < 0)) true (decide_eq_true (by omega)) ?_
  refine Zv rfl (.bool true) ?_
  refine Zk rfl ?_
  refine Zk rfl ?_
  refine Zk rfl ?_
  refine Zk rfl ?_
  refine Zk rfl ?_
  refine Zk rfl ?_
  refine Zv rfl (.bool true) ?_
  refine Zv rfl (.bool true) ?_
  refine Zk rfl ?_
  refine Zk rfl ?_
  refine Zk rfl ?_
  refine Zv rfl (.bool true) ?_
  refine Zv rfl (.bool true) ?_
  refine Zk rfl ?_
  refine Zk rfl ?_
  refine Zk rfl ?_
  refine Zv rfl (.bool true) ?_
  refine Zv rfl (.bool true) ?_
  refine Zk rfl ?_
  refine Zk rfl ?_
  refine Zk rfl ?_
  refine Zk rfl ?_
  refine Zv rfl (.bool true) ?_
  refine wpList_nil (sx_norm ?_)
  refine sx_true (by kernel_rfl) ?_
  refine wp_seq (wp_region_lit ?_)
  refine Zv rfl (.bool false) ?_
  refine wpList_nil (sx_norm (wp_ret (sx_rs ?_)))
  refine sx_ret1 (.bool false) rfl rfl (by kernel_rfl) ⟨by rw [posD_no (by omega)], HB⟩
 refine Zb rfl (decide (ty < 0)) false (decide_eq_false (by omega)) ?_
 refine Zv rfl (.bool false) ?_
 refine Zv rfl (.pointer (some ⟨W1.heap.size, 0, none⟩)) ?_
 refine Zw rfl (.int .i64 ty) (el (M4.cell 0 rfl) Tryd.underlying3) ?_
 refine Zv rfl (.pointer (some ⟨w.heap.size, 2, none⟩)) ?_
 refine Zw rfl (.slice k.o2 x.tl.length k.c2) (el (M2.cell 2 rfl) Tryd.underlying26) ?_
 refine Zv rfl (.int .i64 ((x.tl.length : Nat) : Int)) ?_
 by_cases C2 : ty ≥ ((x.tl.length : Nat) : Int)
 ·refine Zb rfl (decide (ty ≥ ((x.tl.length : Nat) : Int))) true (decide_eq_true (by omega)) ?_
  refine Zv rfl (.bool true) ?_
  refine Zv rfl (.bool true) ?_
  refine Zk rfl ?_
  refine Zk rfl ?_
  refine Zk rfl ?_
  refine Zv rfl (.bool true) ?_
  refine Zv rfl (.bool true) ?_
  refine Zk rfl ?_
  refine Zk rfl ?_
  refine Zk rfl ?_
  refine Zv rfl (.bool true) ?_
  refine Zv rfl (.bool true) ?_
  refine Zk rfl ?_
  refine Zk rfl ?_
  refine Zk rfl ?_
  refine Zk rfl ?_
  refine Zv rfl (.bool true) ?_
  refine wpList_nil (sx_norm ?_)
  refine sx_true (by kernel_rfl) ?_
  refine wp_seq (wp_region_lit ?_)
  refine Zv rfl (.bool false) ?_
  refine wpList_nil (sx_norm (wp_ret (sx_rs ?_)))
  refine sx_ret1 (.bool false) rfl rfl (by kernel_rfl) ⟨by rw [posD_no (by omega)], HB⟩
 refine Zb rfl (decide (ty ≥ ((x.tl.length : Nat) : Int))) false (decide_eq_false (by omega)) ?_
 refine Zv rfl (.bool false) ?_
 refine Zv rfl (.bool false) ?_
 refine Zv rfl (.pointer (some ⟨W1.heap.size, 1, none⟩)) ?_
 refine Zw rfl (.int .i64 st) (el (M4.cell 1 rfl) Tryd.underlying3) ?_
 by_cases C3 : st < 0
 ·refine Zb rfl (decide (st < 0)) true (decide_eq_true (by omega)) ?_
  refine Zv rfl (.bool true) ?_
  refine Zv rfl (.bool true) ?_
  refine Zk rfl ?_
  refine Zk rfl ?_
  refine Zk rfl ?_
  refine Zv rfl (.bool true) ?_
  refine Zv rfl (.bool true) ?_
  refine Zk rfl ?_
  refine Zk rfl ?_
  refine Zk rfl ?_
  refine Zk rfl ?_
  refine Zv rfl (.bool true) ?_
  refine wpList_nil (sx_norm ?_)
  refine sx_true (by kernel_rfl) ?_
  refine wp_seq (wp_region_lit ?_)
  refine Zv rfl (.bool false) ?_
  refine wpList_nil (sx_norm (wp_ret (sx_rs ?_)))
  refine sx_ret1 (.bool false) rfl rfl (by kernel_rfl) ⟨by rw [posD_no (by omega)], HB⟩
 refine Zb rfl (decide (st < 0)) false (decide_eq_false (by omega)) ?_
 refine Zv rfl (.bool false) ?_
 refine Zv rfl (.bool false) ?_
 refine Zv rfl (.pointer (some ⟨W1.heap.size, 1, none⟩)) ?_
 refine Zw rfl (.int .i64 st) (el (M4.cell 1 rfl) Tryd.underlying3) ?_
 by_cases C4 : st > 4096
 ·refine Zb rfl (decide (st > 4096)) true (decide_eq_true (by omega)) ?_
  refine Zv rfl (.bool true) ?_
  refine Zv rfl (.bool true) ?_
  refine Zk rfl ?_
  refine Zk rfl ?_
  refine Zk rfl ?_
  refine Zk rfl ?_
  refine Zv rfl (.bool true) ?_
  refine wpList_nil (sx_norm ?_)
  refine sx_true (by kernel_rfl) ?_
  refine wp_seq (wp_region_lit ?_)
  refine Zv rfl (.bool false) ?_
  refine wpList_nil (sx_norm (wp_ret (sx_rs ?_)))
  refine sx_ret1 (.bool false) rfl rfl (by kernel_rfl) ⟨by rw [posD_no (by omega)], HB⟩
 refine Zb rfl (decide (st > 4096)) false (decide_eq_false (by omega)) ?_
 refine Zv rfl (.bool false) ?_
 refine Zv rfl (.bool false) ?_
 refine Zv rfl (.pointer (some ⟨W1.heap.size, 3, none⟩)) ?_
 refine Zw rfl (.slice oa l.length ca) (el (M4.cell 3 rfl) Tryd.underlying32) ?_
 refine Zv rfl (.int .i64 ((l.length : Nat) : Int)) ?_
 by_cases C5 : l.length > 20
 ·refine Zb rfl (decide (((l.length : Nat) : Int) > 20)) true (decide_eq_true (by omega)) ?_
  refine Zv rfl (.bool true) ?_
  refine wpList_nil (sx_norm ?_)
  refine sx_true (by kernel_rfl) ?_
  refine wp_seq (wp_region_lit ?_)
  refine Zv rfl (.bool false) ?_
  refine wpList_nil (sx_norm (wp_ret (sx_rs ?_)))
  refine sx_ret1 (.bool false) rfl rfl (by kernel_rfl) ⟨by rw [posD_no (by omega)], HB⟩
 refine Zb rfl (decide (((l.length : Nat) : Int) > 20)) false (decide_eq_false (by omega)) ?_
 refine Zv rfl (.bool false) ?_
 refine wpList_nil (sx_norm ?_)
 refine sx_false (by kernel_rfl) ?_
 refine wp_skip (sx_norm (wp_seq (wp_seq (wp_region_lit ?_))))
 refine Zv rfl (.int .i64 0) ?_
 refine wpList_nil (sx_norm (wp_block ?_))
 refine sx_loop (fun i : Nat => [(0, .agg (iK k x)), (1, .agg (rK ty st orr F.length cr oa l.length ca)), (2, .pointer (some ⟨w.heap.size, 0, none⟩)), (3, .pointer (some ⟨W1.heap.size, 0, none⟩)), (5, .int .i64 ((i : Nat) : Int)), (8, .pointer (some ⟨W1.heap.size, 0, none⟩)), (9, .int .i64 ty), (10, .bool false), (11, .bool false), (12, .pointer (some ⟨W1.heap.size, 0, none⟩)), (13, .int .i64 ty), (14, .pointer (some ⟨w.heap.size, 2, none⟩)), (15, .slice k.o2 x.tl.length k.c2), (16, .int .i64 ((x.tl.length : Nat) : Int)), (17, .bool false), (18, .bool false), (19, .bool false), (20, .pointer (some ⟨W1.heap.size, 1, none⟩)), (21, .int .i64 st), (22, .bool false), (23, .bool false), (24, .bool false), (25, .pointer (some ⟨W1.heap.size, 1, none⟩)), (26, .int .i64 st), (27, .bool false), (28, .bool false), (29, .bool false), (30, .pointer (some ⟨W1.heap.size, 3, none⟩)), (31, .slice oa l.length ca), (32, .int .i64 ((l.length : Nat) : Int)), (33, .bool false), (34, .bool false)]) (fun gg i wr => i ≤ l.length ∧ l.length - i ≤ gg ∧ stopsOk x.ol (l.take i) = true ∧ Below W3.heap.size W3 wr) (l.length) (0) (by kernel_rfl) ⟨Nat.zero_le _, Nat.le_refl _, rfl, Below.refl _ _⟩ ?_
 rintro gg i g' wr5 ⟨hi, hg, hso, hbl⟩
 replace HB := over HB hbl
 replace M2 := M2.below hbl
 replace M4 := M4.below hbl
 have z3 := hbl.size
 have HL := hbl
 clear hbl
 refine wp_seq (wp_seq (wp_region_lit ?_))
 refine Zv rfl (.int .i64 ((i : Nat) : Int)) ?_
 refine Zv rfl (.pointer (some ⟨W1.heap.size, 3, none⟩)) ?_
 refine Zw rfl (.slice oa l.length ca) (el (M4.cell 3 rfl) Tryd.underlying32) ?_
 refine Zv rfl (.int .i64 ((l.length : Nat) : Int)) ?_
 by_cases C6 : i < l.length
 ·refine Zb rfl (decide (((i : Nat) : Int) < ((l.length : Nat) : Int))) true (decide_eq_true (by omega)) ?_
  refine wpList_nil (sx_norm ?_)
  refine sx_true (by kernel_rfl) ?_
  refine wp_skip (sx_norm (wp_seq (wp_block (wp_seq ?_))))
  by_cases C7 : okR x.ol (l.getD i (0, false)).1 (l.getD i (0, false)).2 = true
  ·obtain ⟨Y6, hW⟩ : ∃ W, wr5.drew = W := ⟨_, rfl⟩
   have hb : Below wr5.heap.size wr5 Y6 := hW ▸ below_drew (Below.refl _ _)
   replace HB := over HB hb
   replace M2 := M2.below hb
   replace M4 := M4.below hb
   replace HL := over HL hb
   have z4 := hb.size
   clear hb
   refine sd_begin (fun W => Cb W (w.heap.size) (iK k x) 30 ∧ Cb W (W1.heap.size) (rK ty st orr F.length cr oa l.length ca) 34 ∧ Rw W b o 2 (vF l) l.length oa ∧ True) (by kernel_rfl) (by rw [hW]; exact ⟨M2, M4, (hl.below HB), trivial⟩) ?_
   rw [hW]
   clear hW
   refine Zt 0 rfl rfl (.agg (iK k x)) (fun w9 h9 => ex_load rfl h9.1 (by kernel_rfl) Tryd.underlying30 rfl (by kernel_rfl)) ⟨M2, M4, (hl.below HB), trivial⟩ ?_
   refine Zu 1 rfl rfl (.pointer (some ⟨W1.heap.size, 3, none⟩)) ⟨M2, M4, (hl.below HB), trivial⟩ ?_
   refine Zt 2 rfl rfl (.slice oa l.length ca) (fun w9 h9 => el (h9.2.1.cell 3 rfl) Tryd.underlying32) ⟨M2, M4, (hl.below HB), trivial⟩ ?_
   refine Zu 3 rfl rfl (.int .i64 ((i : Nat) : Int)) ⟨M2, M4, (hl.below HB), trivial⟩ ?_
   refine Zt 4 rfl rfl (.pointer (some ⟨b, o + i * 2, none⟩)) (fun w9 h9 => ex_indexO (q := o) (m := l.length) (c := ca) (k := i) (s := 2) rfl (by kernel_rfl) (h9.2.2.1.oa (k := i) (by omega)) (by kernel_rfl) Tryd.underlying32 (by kernel_rfl) (by omega) (by omega)) ⟨M2, M4, (hl.below HB), trivial⟩ ?_
   refine Zt 5 rfl rfl (.agg #[.int .i64 ((l.getD i (0, false)).1), .bool (l.getD i (0, false)).2]) (fun w9 h9 => ex_loadR rfl (h9.2.2.1.range (k := i) (by omega)) (by kernel_rfl) Tryd.underlying97 rfl (by kernel_rfl)) ⟨M2, M4, (hl.below HB), trivial⟩ ?_
   refine sd_all [6, 10] (by kernel_rfl) (by decide) ?_
   refine sd_call (i := 6) rfl (by kernel_rfl) rfl rfl ((by have h8 := refStop_n k x (l.getD i (0, false)).1 (l.getD i (0, false)).2 Y6 (hI.below HB); rw [show okR x.ol (l.getD i (0, false)).1 (l.getD i (0, false)).2 = true by simpa using C7] at h8; exact h8)) (by kernel_rfl) ?_ ?_
   ·rintro e W7 ⟨rfl, hb⟩
    replace HB := over HB hb
    replace M2 := M2.below hb
    replace M4 := M4.below hb
    replace HL := over HL hb
    have z5 := hb.size
    clear hb
    refine ⟨_, rfl, ⟨M2, M4, (hl.below HB), trivial⟩, ?_⟩
    refine Zu 7 rfl rfl (.tuple #[.agg #[.int .i64 ((stR x.ol (l.getD i (0, false)).1 (l.getD i (0, false)).2).p), .int .i64 ((stR x.ol (l.getD i (0, false)).1 (l.getD i (0, false)).2).o), .int .i64 ((stR x.ol (l.getD i (0, false)).1 (l.getD i (0, false)).2).c), .int .i64 ((stR x.ol (l.getD i (0, false)).1 (l.getD i (0, false)).2).s)], .bool true]) ⟨M2, M4, (hl.below HB), trivial⟩ ?_
    refine Zu 8 rfl rfl (.agg #[.int .i64 ((stR x.ol (l.getD i (0, false)).1 (l.getD i (0, false)).2).p), .int .i64 ((stR x.ol (l.getD i (0, false)).1 (l.getD i (0, false)).2).o), .int .i64 ((stR x.ol (l.getD i (0, false)).1 (l.getD i (0, false)).2).c), .int .i64 ((stR x.ol (l.getD i (0, false)).1 (l.getD i (0, false)).2).s)]) ⟨M2, M4, (hl.below HB), trivial⟩ ?_
    refine Zu 9 rfl rfl (.bool true) ⟨M2, M4, (hl.below HB), trivial⟩ ?_
    refine sd_all [10] (by kernel_rfl) (by decide) ?_
    refine sd_mem (i := 10) rfl (by kernel_rfl) rfl rfl (.pointer (some ⟨W7.heap.size, 0, none⟩)) (W7.alloc (.cells #[.int .i64 0, .int .i64 0, .int .i64 0, .int .i64 0] 91)) (by kernel_rfl) ⟨(M2.below (below_alloc W7 (.cells #[.int .i64 0, .int .i64 0, .int .i64 0, .int .i64 0] 91))), (M4.below (below_alloc W7 (.cells #[.int .i64 0, .int .i64 0, .int .i64 0, .int .i64 0] 91))), ((hl.below HB).below (below_alloc W7 (.cells #[.int .i64 0, .int .i64 0, .int .i64 0, .int .i64 0] 91))), trivial⟩ ?_ AllReadyH.nil
    obtain ⟨W8, hW, hb, hq⟩ := laidA W7 #[.int .i64 0, .int .i64 0, .int .i64 0, .int .i64 0] 91
    rw [hW]
    replace HB := over HB hb
    replace M2 := M2.below hb
    replace M4 := M4.below hb
    replace HL := over HL hb
    have z6 := hb.size
    have M9 := hq
    have yM9 := hq.lt
    clear hq hb hW
    refine sd_all [11] (by kernel_rfl) (by decide) ?_
    refine sd_do (i := 11) rfl (by kernel_rfl) rfl (W8.setRow (W7.heap.size) #[.int .i64 ((stR x.ol (l.getD i (0, false)).1 (l.getD i (0, false)).2).p), .int .i64 ((stR x.ol (l.getD i (0, false)).1 (l.getD i (0, false)).2).o), .int .i64 ((stR x.ol (l.getD i (0, false)).1 (l.getD i (0, false)).2).c), .int .i64 ((stR x.ol (l.getD i (0, false)).1 (l.getD i (0, false)).2).s)]) (ex_store (cells := #[.int .i64 ((stR x.ol (l.getD i (0, false)).1 (l.getD i (0, false)).2).p), .int .i64 ((stR x.ol (l.getD i (0, false)).1 (l.getD i (0, false)).2).o), .int .i64 ((stR x.ol (l.getD i (0, false)).1 (l.getD i (0, false)).2).c), .int .i64 ((stR x.ol (l.getD i (0, false)).1 (l.getD i (0, false)).2).s)]) rfl M9 (by kernel_rfl) (by kernel_rfl) (by kernel_rfl) (by kernel_rfl) (by kernel_rfl)) ⟨(M2.kept (grown_row _ _ _) (by omega)), (M4.kept (grown_row _ _ _) (by omega)), (hl.below (HB.grown (grown_row _ _ _) (by omega) (fun x e => by simp only [Option.some.injEq] at e; omega))), trivial⟩ ?_ AllReadyH.nil
    obtain ⟨W10, hW⟩ : ∃ W, W8.setRow (W7.heap.size) #[.int .i64 ((stR x.ol (l.getD i (0, false)).1 (l.getD i (0, false)).2).p), .int .i64 ((stR x.ol (l.getD i (0, false)).1 (l.getD i (0, false)).2).o), .int .i64 ((stR x.ol (l.getD i (0, false)).1 (l.getD i (0, false)).2).c), .int .i64 ((stR x.ol (l.getD i (0, false)).1 (l.getD i (0, false)).2).s)] = W := ⟨_, rfl⟩
    have hg : W8.grownBy W10 (some (W7.heap.size)) := hW ▸ grown_row _ _ _
    have hq : Cb W10 (W7.heap.size) #[.int .i64 ((stR x.ol (l.getD i (0, false)).1 (l.getD i (0, false)).2).p), .int .i64 ((stR x.ol (l.getD i (0, false)).1 (l.getD i (0, false)).2).o), .int .i64 ((stR x.ol (l.getD i (0, false)).1 (l.getD i (0, false)).2).c), .int .i64 ((stR x.ol (l.getD i (0, false)).1 (l.getD i (0, false)).2).s)] 91 := hW ▸ Cb.row M9 _
    rw [hW]
    replace HB := HB.grown hg (by omega) (fun x e => by simp only [Option.some.injEq] at e; omega)
    replace M2 := M2.kept hg (by omega)
    replace M4 := M4.kept hg (by omega)
    replace HL := HL.grown hg (by omega) (fun x e => by simp only [Option.some.injEq] at e; omega)
    have z7 := hg.size
    replace M9 := hq
    clear hq hg hW
    refine Zu 12 rfl rfl (.bool true) ⟨M2, M4, (hl.below HB), trivial⟩ ?_
    refine sd_done (by kernel_rfl) ?_
    refine sx_norm (wp_seq (wp_region_lit ?_))
    refine Zv rfl (.bool true) ?_
    refine Zv rfl (.bool false) ?_
    refine wpList_nil (sx_norm ?_)
    refine sx_false (by kernel_rfl) ?_
    refine wp_skip ?_
    refine sx_in ?_
    refine sx_norm (wp_region_lit ?_)
    refine Zv rfl (.int .i64 ((i : Nat) : Int)) ?_
    refine sx_int (by kernel_rfl) rfl rfl .i64 (IntKind.i64.wrap (((i : Nat) : Int) + 1)) (((i + 1 : Nat) : Int)) (by kernel_rfl) (by rw [IntKind.wrap_i64]; omega) ?_
    refine Zv rfl (.int .i64 ((i + 1 : Nat) : Int)) ?_
    refine wpList_nil (sx_norm ?_)
    exact sx_again (l.length - (i + 1)) (i + 1) (by omega) (by kernel_rfl) ⟨by omega, Nat.le_refl _, stopsOk_take (by omega) hso (of_decide_eq_true (by rw [← okR_stop]; assumption)), HL⟩
   refine sd_mem (i := 10) rfl (by kernel_rfl) rfl rfl (.pointer (some ⟨Y6.heap.size, 0, none⟩)) (Y6.alloc (.cells #[.int .i64 0, .int .i64 0, .int .i64 0, .int .i64 0] 91)) (by kernel_rfl) ⟨(M2.below (below_alloc Y6 (.cells #[.int .i64 0, .int .i64 0, .int .i64 0, .int .i64 0] 91))), (M4.below (below_alloc Y6 (.cells #[.int .i64 0, .int .i64 0, .int .i64 0, .int .i64 0] 91))), ((hl.below HB).below (below_alloc Y6 (.cells #[.int .i64 0, .int .i64 0, .int .i64 0, .int .i64 0] 91))), trivial⟩ ?_ AllReadyH.nil
   obtain ⟨W11, hW, hb, hq⟩ := laidA Y6 #[.int .i64 0, .int .i64 0, .int .i64 0, .int .i64 0] 91
   rw [hW]
   replace HB := over HB hb
   replace M2 := M2.below hb
   replace M4 := M4.below hb
   replace HL := over HL hb
   have z5 := hb.size
   have M12 := hq
   have yM12 := hq.lt
   clear hq hb hW
   refine sd_all [6] (by kernel_rfl) (by decide) ?_
   refine sd_call (i := 6) rfl (by kernel_rfl) rfl rfl ((by have h8 := refStop_n k x (l.getD i (0, false)).1 (l.getD i (0, false)).2 W11 (hI.below HB); rw [show okR x.ol (l.getD i (0, false)).1 (l.getD i (0, false)).2 = true by simpa using C7] at h8; exact h8)) (by kernel_rfl) ?_ AllReadyH.nil
   rintro e W13 ⟨rfl, hb⟩
   replace HB := over HB hb
   replace M2 := M2.below hb
   replace M4 := M4.below hb
   replace HL := over HL hb
   replace M12 := M12.below hb
   have z6 := hb.size
   clear hb
   refine ⟨_, rfl, ⟨M2, M4, (hl.below HB), trivial⟩, ?_⟩
   refine Zu 7 rfl rfl (.tuple #[.agg #[.int .i64 ((stR x.ol (l.getD i (0, false)).1 (l.getD i (0, false)).2).p), .int .i64 ((stR x.ol (l.getD i (0, false)).1 (l.getD i (0, false)).2).o), .int .i64 ((stR x.ol (l.getD i (0, false)).1 (l.getD i (0, false)).2).c), .int .i64 ((stR x.ol (l.getD i (0, false)).1 (l.getD i (0, false)).2).s)], .bool true]) ⟨M2, M4, (hl.below HB), trivial⟩ ?_
   refine Zu 8 rfl rfl (.agg #[.int .i64 ((stR x.ol (l.getD i (0, false)).1 (l.getD i (0, false)).2).p), .int .i64 ((stR x.ol (l.getD i (0, false)).1 (l.getD i (0, false)).2).o), .int .i64 ((stR x.ol (l.getD i (0, false)).1 (l.getD i (0, false)).2).c), .int .i64 ((stR x.ol (l.getD i (0, false)).1 (l.getD i (0, false)).2).s)]) ⟨M2, M4, (hl.below HB), trivial⟩ ?_
   refine Zu 9 rfl rfl (.bool true) ⟨M2, M4, (hl.below HB), trivial⟩ ?_
   refine sd_all [11] (by kernel_rfl) (by decide) ?_
   refine sd_do (i := 11) rfl (by kernel_rfl) rfl (W13.setRow (Y6.heap.size) #[.int .i64 ((stR x.ol (l.getD i (0, false)).1 (l.getD i (0, false)).2).p), .int .i64 ((stR x.ol (l.getD i (0, false)).1 (l.getD i (0, false)).2).o), .int .i64 ((stR x.ol (l.getD i (0, false)).1 (l.getD i (0, false)).2).c), .int .i64 ((stR x.ol (l.getD i (0, false)).1 (l.getD i (0, false)).2).s)]) (ex_store (cells := #[.int .i64 ((stR x.ol (l.getD i (0, false)).1 (l.getD i (0, false)).2).p), .int .i64 ((stR x.ol (l.getD i (0, false)).1 (l.getD i (0, false)).2).o), .int .i64 ((stR x.ol (l.getD i (0, false)).1 (l.getD i (0, false)).2).c), .int .i64 ((stR x.ol (l.getD i (0, false)).1 (l.getD i (0, false)).2).s)]) rfl M12 (by kernel_rfl) (by kernel_rfl) (by kernel_rfl) (by kernel_rfl) (by kernel_rfl)) ⟨(M2.kept (grown_row _ _ _) (by omega)), (M4.kept (grown_row _ _ _) (by omega)), (hl.below (HB.grown (grown_row _ _ _) (by omega) (fun x e => by simp only [Option.some.injEq] at e; omega))), trivial⟩ ?_ AllReadyH.nil
   obtain ⟨W14, hW⟩ : ∃ W, W13.setRow (Y6.heap.size) #[.int .i64 ((stR x.ol (l.getD i (0, false)).1 (l.getD i (0, false)).2).p), .int .i64 ((stR x.ol (l.getD i (0, false)).1 (l.getD i (0, false)).2).o), .int .i64 ((stR x.ol (l.getD i (0, false)).1 (l.getD i (0, false)).2).c), .int .i64 ((stR x.ol (l.getD i (0, false)).1 (l.getD i (0, false)).2).s)] = W := ⟨_, rfl⟩
   have hg : W13.grownBy W14 (some (Y6.heap.size)) := hW ▸ grown_row _ _ _
   have hq : Cb W14 (Y6.heap.size) #[.int .i64 ((stR x.ol (l.getD i (0, false)).1 (l.getD i (0, false)).2).p), .int .i64 ((stR x.ol (l.getD i (0, false)).1 (l.getD i (0, false)).2).o), .int .i64 ((stR x.ol (l.getD i (0, false)).1 (l.getD i (0, false)).2).c), .int .i64 ((stR x.ol (l.getD i (0, false)).1 (l.getD i (0, false)).2).s)] 91 := hW ▸ Cb.row M12 _
   rw [hW]
   replace HB := HB.grown hg (by omega) (fun x e => by simp only [Option.some.injEq] at e; omega)
   replace M2 := M2.kept hg (by omega)
   replace M4 := M4.kept hg (by omega)
   replace HL := HL.grown hg (by omega) (fun x e => by simp only [Option.some.injEq] at e; omega)
   have z7 := hg.size
   replace M12 := hq
   clear hq hg hW
   refine Zu 12 rfl rfl (.bool true) ⟨M2, M4, (hl.below HB), trivial⟩ ?_
   refine sd_done (by kernel_rfl) ?_
   refine sx_norm (wp_seq (wp_region_lit ?_))
   refine Zv rfl (.bool true) ?_
   refine Zv rfl (.bool false) ?_
   refine wpList_nil (sx_norm ?_)
   refine sx_false (by kernel_rfl) ?_
   refine wp_skip ?_
   refine sx_in ?_
   refine sx_norm (wp_region_lit ?_)
   refine Zv rfl (.int .i64 ((i : Nat) : Int)) ?_
   refine sx_int (by kernel_rfl) rfl rfl .i64 (IntKind.i64.wrap (((i : Nat) : Int) + 1)) (((i + 1 : Nat) : Int)) (by kernel_rfl) (by rw [IntKind.wrap_i64]; omega) ?_
   refine Zv rfl (.int .i64 ((i + 1 : Nat) : Int)) ?_
   refine wpList_nil (sx_norm ?_)
   exact sx_again (l.length - (i + 1)) (i + 1) (by omega) (by kernel_rfl) ⟨by omega, Nat.le_refl _, stopsOk_take (by omega) hso (of_decide_eq_true (by rw [← okR_stop]; assumption)), HL⟩
  obtain ⟨Y15, hW⟩ : ∃ W, wr5.drew = W := ⟨_, rfl⟩
  have hb : Below wr5.heap.size wr5 Y15 := hW ▸ below_drew (Below.refl _ _)
  replace HB := over HB hb
  replace M2 := M2.below hb
  replace M4 := M4.below hb
  replace HL := over HL hb
  have z4 := hb.size
  clear hb
  refine sd_begin (fun W => Cb W (w.heap.size) (iK k x) 30 ∧ Cb W (W1.heap.size) (rK ty st orr F.length cr oa l.length ca) 34 ∧ Rw W b o 2 (vF l) l.length oa ∧ True) (by kernel_rfl) (by rw [hW]; exact ⟨M2, M4, (hl.below HB), trivial⟩) ?_
  rw [hW]
  clear hW
  refine Zt 0 rfl rfl (.agg (iK k x)) (fun w9 h9 => ex_load rfl h9.1 (by kernel_rfl) Tryd.underlying30 rfl (by kernel_rfl)) ⟨M2, M4, (hl.below HB), trivial⟩ ?_
  refine Zu 1 rfl rfl (.pointer (some ⟨W1.heap.size, 3, none⟩)) ⟨M2, M4, (hl.below HB), trivial⟩ ?_
  refine Zt 2 rfl rfl (.slice oa l.length ca) (fun w9 h9 => el (h9.2.1.cell 3 rfl) Tryd.underlying32) ⟨M2, M4, (hl.below HB), trivial⟩ ?_
  refine Zu 3 rfl rfl (.int .i64 ((i : Nat) : Int)) ⟨M2, M4, (hl.below HB), trivial⟩ ?_
  refine Zt 4 rfl rfl (.pointer (some ⟨b, o + i * 2, none⟩)) (fun w9 h9 => ex_indexO (q := o) (m := l.length) (c := ca) (k := i) (s := 2) rfl (by kernel_rfl) (h9.2.2.1.oa (k := i) (by omega)) (by kernel_rfl) Tryd.underlying32 (by kernel_rfl) (by omega) (by omega)) ⟨M2, M4, (hl.below HB), trivial⟩ ?_
  refine Zt 5 rfl rfl (.agg #[.int .i64 ((l.getD i (0, false)).1), .bool (l.getD i (0, false)).2]) (fun w9 h9 => ex_loadR rfl (h9.2.2.1.range (k := i) (by omega)) (by kernel_rfl) Tryd.underlying97 rfl (by kernel_rfl)) ⟨M2, M4, (hl.below HB), trivial⟩ ?_
  refine sd_all [6, 10] (by kernel_rfl) (by decide) ?_
  refine sd_call (i := 6) rfl (by kernel_rfl) rfl rfl ((by have h8 := refStop_n k x (l.getD i (0, false)).1 (l.getD i (0, false)).2 Y15 (hI.below HB); rw [show okR x.ol (l.getD i (0, false)).1 (l.getD i (0, false)).2 = false by simpa using C7] at h8; exact h8)) (by kernel_rfl) ?_ ?_
  ·rintro e W16 ⟨rfl, hb⟩
   replace HB := over HB hb
   replace M2 := M2.below hb
   replace M4 := M4.below hb
   replace HL := over HL hb
   have z5 := hb.size
   clear hb
   refine ⟨_, rfl, ⟨M2, M4, (hl.below HB), trivial⟩, ?_⟩
   refine Zu 7 rfl rfl (.tuple #[.agg #[.int .i64 ((stR x.ol (l.getD i (0, false)).1 (l.getD i (0, false)).2).p), .int .i64 ((stR x.ol (l.getD i (0, false)).1 (l.getD i (0, false)).2).o), .int .i64 ((stR x.ol (l.getD i (0, false)).1 (l.getD i (0, false)).2).c), .int .i64 ((stR x.ol (l.getD i (0, false)).1 (l.getD i (0, false)).2).s)], .bool false]) ⟨M2, M4, (hl.below HB), trivial⟩ ?_
   refine Zu 8 rfl rfl (.agg #[.int .i64 ((stR x.ol (l.getD i (0, false)).1 (l.getD i (0, false)).2).p), .int .i64 ((stR x.ol (l.getD i (0, false)).1 (l.getD i (0, false)).2).o), .int .i64 ((stR x.ol (l.getD i (0, false)).1 (l.getD i (0, false)).2).c), .int .i64 ((stR x.ol (l.getD i (0, false)).1 (l.getD i (0, false)).2).s)]) ⟨M2, M4, (hl.below HB), trivial⟩ ?_
   refine Zu 9 rfl rfl (.bool false) ⟨M2, M4, (hl.below HB), trivial⟩ ?_
   refine sd_all [10] (by kernel_rfl) (by decide) ?_
   refine sd_mem (i := 10) rfl (by kernel_rfl) rfl rfl (.pointer (some ⟨W16.heap.size, 0, none⟩)) (W16.alloc (.cells #[.int .i64 0, .int .i64 0, .int .i64 0, .int .i64 0] 91)) (by kernel_rfl) ⟨(M2.below (below_alloc W16 (.cells #[.int .i64 0, .int .i64 0, .int .i64 0, .int .i64 0] 91))), (M4.below (below_alloc W16 (.cells #[.int .i64 0, .int .i64 0, .int .i64 0, .int .i64 0] 91))), ((hl.below HB).below (below_alloc W16 (.cells #[.int .i64 0, .int .i64 0, .int .i64 0, .int .i64 0] 91))), trivial⟩ ?_ AllReadyH.nil
   obtain ⟨W17, hW, hb, hq⟩ := laidA W16 #[.int .i64 0, .int .i64 0, .int .i64 0, .int .i64 0] 91
   rw [hW]
   replace HB := over HB hb
   replace M2 := M2.below hb
   replace M4 := M4.below hb
   replace HL := over HL hb
   have z6 := hb.size
   have M18 := hq
   have yM18 := hq.lt
   clear hq hb hW
   refine sd_all [11] (by kernel_rfl) (by decide) ?_
   refine sd_do (i := 11) rfl (by kernel_rfl) rfl (W17.setRow (W16.heap.size) #[.int .i64 ((stR x.ol (l.getD i (0, false)).1 (l.getD i (0, false)).2).p), .int .i64 ((stR x.ol (l.getD i (0, false)).1 (l.getD i (0, false)).2).o), .int .i64 ((stR x.ol (l.getD i (0, false)).1 (l.getD i (0, false)).2).c), .int .i64 ((stR x.ol (l.getD i (0, false)).1 (l.getD i (0, false)).2).s)]) (ex_store (cells := #[.int .i64 ((stR x.ol (l.getD i (0, false)).1 (l.getD i (0, false)).2).p), .int .i64 ((stR x.ol (l.getD i (0, false)).1 (l.getD i (0, false)).2).o), .int .i64 ((stR x.ol (l.getD i (0, false)).1 (l.getD i (0, false)).2).c), .int .i64 ((stR x.ol (l.getD i (0, false)).1 (l.getD i (0, false)).2).s)]) rfl M18 (by kernel_rfl) (by kernel_rfl) (by kernel_rfl) (by kernel_rfl) (by kernel_rfl)) ⟨(M2.kept (grown_row _ _ _) (by omega)), (M4.kept (grown_row _ _ _) (by omega)), (hl.below (HB.grown (grown_row _ _ _) (by omega) (fun x e => by simp only [Option.some.injEq] at e; omega))), trivial⟩ ?_ AllReadyH.nil
   obtain ⟨W19, hW⟩ : ∃ W, W17.setRow (W16.heap.size) #[.int .i64 ((stR x.ol (l.getD i (0, false)).1 (l.getD i (0, false)).2).p), .int .i64 ((stR x.ol (l.getD i (0, false)).1 (l.getD i (0, false)).2).o), .int .i64 ((stR x.ol (l.getD i (0, false)).1 (l.getD i (0, false)).2).c), .int .i64 ((stR x.ol (l.getD i (0, false)).1 (l.getD i (0, false)).2).s)] = W := ⟨_, rfl⟩
   have hg : W17.grownBy W19 (some (W16.heap.size)) := hW ▸ grown_row _ _ _
   have hq : Cb W19 (W16.heap.size) #[.int .i64 ((stR x.ol (l.getD i (0, false)).1 (l.getD i (0, false)).2).p), .int .i64 ((stR x.ol (l.getD i (0, false)).1 (l.getD i (0, false)).2).o), .int .i64 ((stR x.ol (l.getD i (0, false)).1 (l.getD i (0, false)).2).c), .int .i64 ((stR x.ol (l.getD i (0, false)).1 (l.getD i (0, false)).2).s)] 91 := hW ▸ Cb.row M18 _
   rw [hW]
   replace HB := HB.grown hg (by omega) (fun x e => by simp only [Option.some.injEq] at e; omega)
   replace M2 := M2.kept hg (by omega)
   replace M4 := M4.kept hg (by omega)
   replace HL := HL.grown hg (by omega) (fun x e => by simp only [Option.some.injEq] at e; omega)
   have z7 := hg.size
   replace M18 := hq
   clear hq hg hW
   refine Zu 12 rfl rfl (.bool false) ⟨M2, M4, (hl.below HB), trivial⟩ ?_
   refine sd_done (by kernel_rfl) ?_
   refine sx_norm (wp_seq (wp_region_lit ?_))
   refine Zv rfl (.bool false) ?_
   refine Zv rfl (.bool true) ?_
   refine wpList_nil (sx_norm ?_)
   refine sx_true (by kernel_rfl) ?_
   refine wp_seq (wp_region_lit ?_)
   refine Zv rfl (.bool false) ?_
   refine wpList_nil (sx_norm (wp_ret ?_))
   refine sx_rb ?_
   refine sx_rs (sx_rs ?_)
   refine sx_rb ?_
   refine sx_rs ?_
   refine sx_ret1 (.bool false) rfl rfl (by kernel_rfl) ⟨by rw [posD_no (.inr (.inr (.inr (.inr (.inr (stopsOk_no (k := i) (by omega) (fun h => (by assumption : ¬ okR x.ol (l.getD i (0, false)).1 (l.getD i (0, false)).2 = true) (by rw [okR_stop]; exact decide_eq_true h))))))))], HB⟩
  refine sd_mem (i := 10) rfl (by kernel_rfl) rfl rfl (.pointer (some ⟨Y15.heap.size, 0, none⟩)) (Y15.alloc (.cells #[.int .i64 0, .int .i64 0, .int .i64 0, .int .i64 0] 91)) (by kernel_rfl) ⟨(M2.below (below_alloc Y15 (.cells #[.int .i64 0, .int .i64 0, .int .i64 0, .int .i64 0] 91))), (M4.below (below_alloc Y15 (.cells #[.int .i64 0, .int .i64 0, .int .i64 0, .int .i64 0] 91))), ((hl.below HB).below (below_alloc Y15 (.cells #[.int .i64 0, .int .i64 0, .int .i64 0, .int .i64 0] 91))), trivial⟩ ?_ AllReadyH.nil
  obtain ⟨W20, hW, hb, hq⟩ := laidA Y15 #[.int .i64 0, .int .i64 0, .int .i64 0, .int .i64 0] 91
  rw [hW]
  replace HB := over HB hb
  replace M2 := M2.below hb
  replace M4 := M4.below hb
  replace HL := over HL hb
  have z5 := hb.size
  have M21 := hq
  have yM21 := hq.lt
  clear hq hb hW
  refine sd_all [6] (by kernel_rfl) (by decide) ?_
  refine sd_call (i := 6) rfl (by kernel_rfl) rfl rfl ((by have h8 := refStop_n k x (l.getD i (0, false)).1 (l.getD i (0, false)).2 W20 (hI.below HB); rw [show okR x.ol (l.getD i (0, false)).1 (l.getD i (0, false)).2 = false by simpa using C7] at h8; exact h8)) (by kernel_rfl) ?_ AllReadyH.nil
  rintro e W22 ⟨rfl, hb⟩
  replace HB := over HB hb
  replace M2 := M2.below hb
  replace M4 := M4.below hb
  replace HL := over HL hb
  replace M21 := M21.below hb
  have z6 := hb.size
  clear hb
  refine ⟨_, rfl, ⟨M2, M4, (hl.below HB), trivial⟩, ?_⟩
  refine Zu 7 rfl rfl (.tuple #[.agg #[.int .i64 ((stR x.ol (l.getD i (0, false)).1 (l.getD i (0, false)).2).p), .int .i64 ((stR x.ol (l.getD i (0, false)).1 (l.getD i (0, false)).2).o), .int .i64 ((stR x.ol (l.getD i (0, false)).1 (l.getD i (0, false)).2).c), .int .i64 ((stR x.ol (l.getD i (0, false)).1 (l.getD i (0, false)).2).s)], .bool false]) ⟨M2, M4, (hl.below HB), trivial⟩ ?_
  refine Zu 8 rfl rfl (.agg #[.int .i64 ((stR x.ol (l.getD i (0, false)).1 (l.getD i (0, false)).2).p), .int .i64 ((stR x.ol (l.getD i (0, false)).1 (l.getD i (0, false)).2).o), .int .i64 ((stR x.ol (l.getD i (0, false)).1 (l.getD i (0, false)).2).c), .int .i64 ((stR x.ol (l.getD i (0, false)).1 (l.getD i (0, false)).2).s)]) ⟨M2, M4, (hl.below HB), trivial⟩ ?_
  refine Zu 9 rfl rfl (.bool false) ⟨M2, M4, (hl.below HB), trivial⟩ ?_
  refine sd_all [11] (by kernel_rfl) (by decide) ?_
  refine sd_do (i := 11) rfl (by kernel_rfl) rfl (W22.setRow (Y15.heap.size) #[.int .i64 ((stR x.ol (l.getD i (0, false)).1 (l.getD i (0, false)).2).p), .int .i64 ((stR x.ol (l.getD i (0, false)).1 (l.getD i (0, false)).2).o), .int .i64 ((stR x.ol (l.getD i (0, false)).1 (l.getD i (0, false)).2).c), .int .i64 ((stR x.ol (l.getD i (0, false)).1 (l.getD i (0, false)).2).s)]) (ex_store (cells := #[.int .i64 ((stR x.ol (l.getD i (0, false)).1 (l.getD i (0, false)).2).p), .int .i64 ((stR x.ol (l.getD i (0, false)).1 (l.getD i (0, false)).2).o), .int .i64 ((stR x.ol (l.getD i (0, false)).1 (l.getD i (0, false)).2).c), .int .i64 ((stR x.ol (l.getD i (0, false)).1 (l.getD i (0, false)).2).s)]) rfl M21 (by kernel_rfl) (by kernel_rfl) (by kernel_rfl) (by kernel_rfl) (by kernel_rfl)) ⟨(M2.kept (grown_row _ _ _) (by omega)), (M4.kept (grown_row _ _ _) (by omega)), (hl.below (HB.grown (grown_row _ _ _) (by omega) (fun x e => by simp only [Option.some.injEq] at e; omega))), trivial⟩ ?_ AllReadyH.nil
  obtain ⟨W23, hW⟩ : ∃ W, W22.setRow (Y15.heap.size) #[.int .i64 ((stR x.ol (l.getD i (0, false)).1 (l.getD i (0, false)).2).p), .int .i64 ((stR x.ol (l.getD i (0, false)).1 (l.getD i (0, false)).2).o), .int .i64 ((stR x.ol (l.getD i (0, false)).1 (l.getD i (0, false)).2).c), .int .i64 ((stR x.ol (l.getD i (0, false)).1 (l.getD i (0, false)).2).s)] = W := ⟨_, rfl⟩
  have hg : W22.grownBy W23 (some (Y15.heap.size)) := hW ▸ grown_row _ _ _
  have hq : Cb W23 (Y15.heap.size) #[.int .i64 ((stR x.ol (l.getD i (0, false)).1 (l.getD i (0, false)).2).p), .int .i64 ((stR x.ol (l.getD i (0, false)).1 (l.getD i (0, false)).2).o), .int .i64 ((stR x.ol (l.getD i (0, false)).1 (l.getD i (0, false)).2).c), .int .i64 ((stR x.ol (l.getD i (0, false)).1 (l.getD i (0, false)).2).s)] 91 := hW ▸ Cb.row M21 _
  rw [hW]
  replace HB := HB.grown hg (by omega) (fun x e => by simp only [Option.some.injEq] at e; omega)
  replace M2 := M2.kept hg (by omega)
  replace M4 := M4.kept hg (by omega)
  replace HL := HL.grown hg (by omega) (fun x e => by simp only [Option.some.injEq] at e; omega)
  have z7 := hg.size
  replace M21 := hq
  clear hq hg hW
  refine Zu 12 rfl rfl (.bool false) ⟨M2, M4, (hl.below HB), trivial⟩ ?_
  refine sd_done (by kernel_rfl) ?_
  refine sx_norm (wp_seq (wp_region_lit ?_))
  refine Zv rfl (.bool false) ?_
  refine Zv rfl (.bool true) ?_
  refine wpList_nil (sx_norm ?_)
  refine sx_true (by kernel_rfl) ?_
  refine wp_seq (wp_region_lit ?_)
  refine Zv rfl (.bool false) ?_
  refine wpList_nil (sx_norm (wp_ret ?_))
  refine sx_rb ?_
  refine sx_rs (sx_rs ?_)
  refine sx_rb ?_
  refine sx_rs ?_
  refine sx_ret1 (.bool false) rfl rfl (by kernel_rfl) ⟨by rw [posD_no (.inr (.inr (.inr (.inr (.inr (stopsOk_no (k := i) (by omega) (fun h => (by assumption : ¬ okR x.ol (l.getD i (0, false)).1 (l.getD i (0, false)).2 = true) (by rw [okR_stop]; exact decide_eq_true h))))))))], HB⟩
 refine Zb rfl (decide (((i : Nat) : Int) < ((l.length : Nat) : Int))) false (decide_eq_false (by omega)) ?_
 refine wpList_nil (sx_norm ?_)
 refine sx_false (by kernel_rfl) ?_
 refine wp_exit ?_
 refine sx_es ?_
 refine sx_es ?_
 refine sx_out ?_
 refine sx_norm (wp_seq (wp_region_lit ?_))
 refine Zv rfl (.bool true) ?_
 refine wpList_nil (sx_norm (wp_ret ?_))
 have hi9 : i = l.length := by omega
 subst hi9
 rw [List.take_length] at hso
 refine sx_ret1 (.bool true) rfl rfl (by kernel_rfl) ⟨by rw [posD_yes (by omega) (by omega) (by omega) (by omega) (by omega) hso], HB⟩

end Go.Proofs.YtomebalolmabnaaDoor.T



/-! The stops of a course (by gen_lb.py). -/
namespace Go.Proofs.YtomebalolmabnaaDoor.T
open Go.RowKit
set_option maxRecDepth 8000
attribute [local irreducible] wpList Code.wp wpAnyH

theorem runS_no {x : InT} {ty st : Int} {l : List (Int × Bool)} {R : List Bool} (h : ¬ runE x ty st l R = 0) : runS x ty st l R = sh0 := if_neg h
theorem posD_ty {tl : List TyT} {ol : List OrT} {ty st : Int} {l : List (Int × Bool)} (h : posD tl ol ty st l = true) : 0 ≤ ty ∧ ty < tl.length ∧ 0 ≤ st ∧ st ≤ 4096 := by
 unfold posD at h
 simp only [Bool.and_eq_true, decide_eq_true_eq] at h
 exact ⟨h.1.1.1.1.1, h.1.1.1.1.2, h.1.1.1.2, h.1.1.2⟩
theorem posD_at {tl : List TyT} {ol : List OrT} {ty st : Int} {l : List (Int × Bool)} (h : posD tl ol ty st l = true) {i : Nat} (hi : i < l.length) : okR ol (l.getD i (0, false)).1 (l.getD i (0, false)).2 = true := by
 unfold posD at h
 simp only [Bool.and_eq_true, decide_eq_true_eq] at h
 have h1 := List.all_eq_true.1 h.2 _ (getD_mem (d := (0, false)) hi)
 rw [okR_stop]
 exact h1
theorem crs_at (x : InT) (ty st : Int) {l : List (Int × Bool)} {i : Nat} (hi : i < l.length) : (crs x ty st l).S.getD (i + 1) st0 = stopV x.ol (l.getD i (0, false)).1 (l.getD i (0, false)).2 := by
 show (crsS _ x.ol l).getD (i + 1) st0 = _
 unfold crsS
 rw [List.getD_eq_getElem?_getD, List.getElem?_append_left (by simp; omega), List.getElem?_cons_succ, List.getElem?_map, List.getD_eq_getElem?_getD, List.getElem?_eq_getElem hi]
 rfl
theorem beg_is (c : CrT) (R : List Bool) (i : Nat) : (c.lg R i).beg = if (c.lg R i).arr < (c.S.getD (i + 1) st0).o then (c.S.getD (i + 1) st0).o else (c.lg R i).arr := rfl
end Go.Proofs.YtomebalolmabnaaDoor.T



