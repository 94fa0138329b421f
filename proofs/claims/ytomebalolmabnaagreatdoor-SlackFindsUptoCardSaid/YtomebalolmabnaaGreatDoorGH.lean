/-
  DERIVED. GH: a part of the base of layer 13 (made by pack.py).
-/
import Derived.Test.YtomebalolmabnaaGreatDoorGA
import Derived.Test.YtomebalolmabnaaGreatDoorGG
import Derived.Test.YtomebalolmabnaaGreatDoorGD
import Derived.Test.YtomebalolmabnaaGreatDoorHS
import Derived.Test.YtomebalolmabnaaGreatDoorGB
/-! The specification of schedules: possible routes (by gen_fb.py). -/
namespace Go.Proofs.YtomebalolmabnaaGreatDoor.T
open Go.RowKit
set_option maxRecDepth 8000
attribute [local irreducible] wpList Code.wp wpAnyH

theorem refPoss_n (k : Iv) (x : InT) (ty st : Int) (orr oa : Option Addr) (cr ca b o : Nat) (l : List (Int × Bool)) (F : List Bool) (w : World) (hI : Ins w k x) (hl : Rw w b o 2 (vF l) l.length oa) : Calls Tryz.prog 50 #[.agg (iK k x), .agg (rK ty st orr F.length cr oa l.length ca)] w fun e w' => e = .returned (.bool (posD x.tl x.ol ty st l)) ∧ Below w.heap.size w w' := by
 have HB : Below w.heap.size w w := Below.refl _ _
 refine sx_enter Tryz.func50 rfl [(0, .agg (iK k x)), (1, .agg (rK ty st orr F.length cr oa l.length ca))] (by kernel_rfl) ?_
 refine Yq ?_
 refine Za rfl (iK k x) 30 (fun W1 hb M2 z1 yM2 => ?_)
 replace HB := over HB hb
 clear hb
 refine Za rfl (rK ty st orr F.length cr oa l.length ca) 34 (fun W3 hb M4 z2 yM4 => ?_)
 replace HB := over HB hb
 replace M2 := M2.below hb
 clear hb
 refine Zv rfl (.bool false) (Yn (Yo (Ys (Yq (Zv rfl (pt W1.heap.size 0) (Zw rfl (.int .i64 ty) (el (M4.cell 0 rfl) Tryz.underlying3) ?_))))))
 by_cases C1 : ty < 0
 ·refine Zb rfl (decide (ty < 0)) true (decide_eq_true (by omega)) (Zv rfl (.bool true) (Zk rfl (Zk rfl (Zk rfl (Zk rfl (Zk rfl (Zk rfl (Zv rfl (.bool true) (Zv rfl (.bool true) (Zk rfl (Zk rfl ?_)))))))))))
  refine Zk rfl (Zv rfl (.bool true) (Zv rfl (.bool true) (Zk rfl (Zk rfl (Zk rfl (Zv rfl (.bool true) (Zv rfl (.bool true) (Zk rfl (Zk rfl (Zk rfl (Zk rfl ?_)))))))))))
  refine Zv rfl (.bool true) (Yn (Yo (sx_true (by kernel_rfl) (Yq (Zv rfl (.bool false) (Yn (Yo (wp_ret (sx_rs ?_)))))))))
  refine sx_ret1 (.bool false) rfl rfl (by kernel_rfl) ⟨by rw [posD_no (by omega)], HB⟩
 refine Zb rfl (decide (ty < 0)) false (decide_eq_false (by omega)) (Zv rfl (.bool false) (Zv rfl (pt W1.heap.size 0) (Zw rfl (.int .i64 ty) (el (M4.cell 0 rfl) Tryz.underlying3) (Zv rfl (pt w.heap.size 2) (Zw rfl (.slice k.o2 x.tl.length k.c2) (el (M2.cell 2 rfl) Tryz.underlying26) (Zv rfl (.int .i64 ((x.tl.length : Nat) : Int)) ?_))))))
 by_cases C2 : ty ≥ ((x.tl.length : Nat) : Int)
 ·refine Zb rfl (decide (ty ≥ ((x.tl.length : Nat) : Int))) true (decide_eq_true (by omega)) (Zv rfl (.bool true) (Zv rfl (.bool true) (Zk rfl (Zk rfl (Zk rfl (Zv rfl (.bool true) (Zv rfl (.bool true) (Zk rfl (Zk rfl (Zk rfl (Zv rfl (.bool true) ?_)))))))))))
  refine Zv rfl (.bool true) (Zk rfl (Zk rfl (Zk rfl (Zk rfl (Zv rfl (.bool true) (Yn (Yo (sx_true (by kernel_rfl) (Yq (Zv rfl (.bool false) (Yn (Yo (wp_ret (sx_rs ?_))))))))))))))
  refine sx_ret1 (.bool false) rfl rfl (by kernel_rfl) ⟨by rw [posD_no (by omega)], HB⟩
 refine Zb rfl (decide (ty ≥ ((x.tl.length : Nat) : Int))) false (decide_eq_false (by omega)) (Zv rfl (.bool false) (Zv rfl (.bool false) (Zv rfl (pt W1.heap.size 1) (Zw rfl (.int .i64 st) (el (M4.cell 1 rfl) Tryz.underlying3) ?_))))
 by_cases C3 : st < 0
 ·refine Zb rfl (decide (st < 0)) true (decide_eq_true (by omega)) (Zv rfl (.bool true) (Zv rfl (.bool true) (Zk rfl (Zk rfl (Zk rfl (Zv rfl (.bool true) (Zv rfl (.bool true) (Zk rfl (Zk rfl (Zk rfl (Zk rfl ?_)))))))))))
  refine Zv rfl (.bool true) (Yn (Yo (sx_true (by kernel_rfl) (Yq (Zv rfl (.bool false) (Yn (Yo (wp_ret (sx_rs ?_)))))))))
  refine sx_ret1 (.bool false) rfl rfl (by kernel_rfl) ⟨by rw [posD_no (by omega)], HB⟩
 refine Zb rfl (decide (st < 0)) false (decide_eq_false (by omega)) (Zv rfl (.bool false) (Zv rfl (.bool false) (Zv rfl (pt W1.heap.size 1) (Zw rfl (.int .i64 st) (el (M4.cell 1 rfl) Tryz.underlying3) ?_))))
 by_cases C4 : st > 4096
 ·refine Zb rfl (decide (st > 4096)) true (decide_eq_true (by omega)) (Zv rfl (.bool true) (Zv rfl (.bool true) (Zk rfl (Zk rfl (Zk rfl (Zk rfl (Zv rfl (.bool true) (Yn (Yo (sx_true (by kernel_rfl) (Yq (Zv rfl (.bool false) ?_))))))))))))
  refine Yn (Yo (wp_ret (sx_rs ?_)))
  refine sx_ret1 (.bool false) rfl rfl (by kernel_rfl) ⟨by rw [posD_no (by omega)], HB⟩
 refine Zb rfl (decide (st > 4096)) false (decide_eq_false (by omega)) (Zv rfl (.bool false) (Zv rfl (.bool false) (Zv rfl (pt W1.heap.size 3) (Zw rfl (.slice oa l.length ca) (el (M4.cell 3 rfl) Tryz.underlying32) (Zv rfl (.int .i64 ((l.length : Nat) : Int)) ?_)))))
 by_cases C5 : l.length > 20
 ·refine Zb rfl (decide (((l.length : Nat) : Int) > 20)) true (decide_eq_true (by omega)) (Zv rfl (.bool true) (Yn (Yo (sx_true (by kernel_rfl) (Yq (Zv rfl (.bool false) (Yn (Yo (wp_ret (sx_rs ?_))))))))))
  refine sx_ret1 (.bool false) rfl rfl (by kernel_rfl) ⟨by rw [posD_no (by omega)], HB⟩
 refine Zb rfl (decide (((l.length : Nat) : Int) > 20)) false (decide_eq_false (by omega)) (Zv rfl (.bool false) (Yn (Yo (sx_false (by kernel_rfl) (wp_skip (Yo (Ys (Yq (Zv rfl (.int .i64 0) (Yn (Yo (wp_block ?_))))))))))))
 refine sx_loop (fun i : Nat => [(0, .agg (iK k x)), (1, .agg (rK ty st orr F.length cr oa l.length ca)), (2, .pointer (some ⟨w.heap.size, 0, none⟩)), (3, .pointer (some ⟨W1.heap.size, 0, none⟩)), (5, .int .i64 ((i : Nat) : Int)), (8, .pointer (some ⟨W1.heap.size, 0, none⟩)), (9, .int .i64 ty), (10, .bool false), (11, .bool false), (12, .pointer (some ⟨W1.heap.size, 0, none⟩)), (13, .int .i64 ty), (14, .pointer (some ⟨w.heap.size, 2, none⟩)), (15, .slice k.o2 x.tl.length k.c2), (16, .int .i64 ((x.tl.length : Nat) : Int)), (17, .bool false), (18, .bool false), (19, .bool false), (20, .pointer (some ⟨W1.heap.size, 1, none⟩)), (21, .int .i64 st), (22, .bool false), (23, .bool false), (24, .bool false), (25, .pointer (some ⟨W1.heap.size, 1, none⟩)), (26, .int .i64 st), (27, .bool false), (28, .bool false), (29, .bool false), (30, .pointer (some ⟨W1.heap.size, 3, none⟩)), (31, .slice oa l.length ca), (32, .int .i64 ((l.length : Nat) : Int)), (33, .bool false), (34, .bool false)]) (fun gg i wr => i ≤ l.length ∧ l.length - i ≤ gg ∧ stopsOk x.ol (l.take i) = true ∧ Below W3.heap.size W3 wr) (l.length) (0) (by kernel_rfl) ⟨Nat.zero_le _, Nat.le_refl _, rfl, Below.refl _ _⟩ ?_
 rintro gg i g' wr5 ⟨hi, hg, hso, hbl⟩
 replace HB := over HB hbl
 replace M2 := M2.below hbl
 replace M4 := M4.below hbl
 have z3 := hbl.size
 have HL := hbl
 clear hbl
 refine Ys (Yq (Zv rfl (.int .i64 ((i : Nat) : Int)) (Zv rfl (pt W1.heap.size 3) (Zw rfl (.slice oa l.length ca) (el (M4.cell 3 rfl) Tryz.underlying32) (Zv rfl (.int .i64 ((l.length : Nat) : Int)) ?_)))))
 by_cases C6 : i < l.length
 ·refine Zb rfl (decide (((i : Nat) : Int) < ((l.length : Nat) : Int))) true (decide_eq_true (by omega)) (Yn (Yo (sx_true (by kernel_rfl) (wp_skip (Yo (Ys (wp_block (Ys ?_))))))))
  by_cases C7 : okR x.ol (l.getD i (0, false)).1 (l.getD i (0, false)).2 = true
  ·obtain ⟨Y6, hW⟩ : ∃ W, wr5.drew = W := ⟨_, rfl⟩
   have hb : Below wr5.heap.size wr5 Y6 := hW ▸ below_drew (Below.refl _ _)
   replace HB := over HB hb
   replace M2 := M2.below hb
   replace M4 := M4.below hb
   replace HL := over HL hb
   have z4 := hb.size
   clear hb
   refine sd_begin (fun W => Cb W (w.heap.size) (iK k x) 30 ∧ Cb W (W1.heap.size) (rK ty st orr F.length cr oa l.length ca) 34 ∧ Rw W b o 2 (vF l) l.length oa ∧ True) (by kernel_rfl) (by rw [hW]; exact ⟨M2, M4, (hl.below HB), trivial⟩) ?_
   rw [hW]
   clear hW
   refine Zt 0 rfl rfl (.agg (iK k x)) (fun w9 h9 => ex_load rfl h9.1 (by kernel_rfl) Tryz.underlying30 rfl (by kernel_rfl)) ⟨M2, M4, (hl.below HB), trivial⟩ ?_
   refine Zu 1 rfl rfl (pt W1.heap.size 3) ⟨M2, M4, (hl.below HB), trivial⟩ ?_
   refine Zt 2 rfl rfl (.slice oa l.length ca) (fun w9 h9 => el (h9.2.1.cell 3 rfl) Tryz.underlying32) ⟨M2, M4, (hl.below HB), trivial⟩ ?_
   refine Zu 3 rfl rfl (.int .i64 ((i : Nat) : Int)) ⟨M2, M4, (hl.below HB), trivial⟩ ?_
   refine Zt 4 rfl rfl (pt b (o + i * 2)) (fun w9 h9 => ex_indexO (q := o) (m := l.length) (c := ca) (k := i) (s := 2) rfl (by kernel_rfl) (h9.2.2.1.oa (k := i) (by omega)) (by kernel_rfl) Tryz.underlying32 (by kernel_rfl) (by omega) (by omega)) ⟨M2, M4, (hl.below HB), trivial⟩ ?_
   refine Zt 5 rfl rfl (.agg #[.int .i64 ((l.getD i (0, false)).1), .bool (l.getD i (0, false)).2]) (fun w9 h9 => ex_loadR rfl (h9.2.2.1.range (k := i) (by omega)) (by kernel_rfl) Tryz.underlying82 rfl (by kernel_rfl)) ⟨M2, M4, (hl.below HB), trivial⟩ ?_
   refine sd_all [6, 10] (by kernel_rfl) (by decide) ?_
   refine sd_call (i := 6) rfl (by kernel_rfl) rfl rfl ((by have h8 := refStop_n k x (l.getD i (0, false)).1 (l.getD i (0, false)).2 Y6 (hI.below HB); rw [show okR x.ol (l.getD i (0, false)).1 (l.getD i (0, false)).2 = true by simpa using C7] at h8; exact h8)) (by kernel_rfl) ?_ ?_
   ·rintro e W7 ⟨rfl, hb⟩
    replace HB := over HB hb
    replace M2 := M2.below hb
    replace M4 := M4.below hb
    replace HL := over HL hb
    have z5 := hb.size
    clear hb
    refine ⟨_, rfl, ⟨M2, M4, (hl.below HB), trivial⟩, ?_⟩
    refine Zu 7 rfl rfl (.tuple #[.agg (pK (stR x.ol (l.getD i (0, false)).1 (l.getD i (0, false)).2)), .bool true]) ⟨M2, M4, (hl.below HB), trivial⟩ ?_
    refine Zu 8 rfl rfl (.agg (pK (stR x.ol (l.getD i (0, false)).1 (l.getD i (0, false)).2))) ⟨M2, M4, (hl.below HB), trivial⟩ ?_
    refine Zu 9 rfl rfl (.bool true) ⟨M2, M4, (hl.below HB), trivial⟩ ?_
    refine sd_all [10] (by kernel_rfl) (by decide) ?_
    refine sd_mem (i := 10) rfl (by kernel_rfl) rfl rfl (pt W7.heap.size 0) (W7.alloc (.cells nZ4 76)) (by kernel_rfl) ⟨(M2.below (below_alloc W7 (.cells nZ4 76))), (M4.below (below_alloc W7 (.cells nZ4 76))), ((hl.below HB).below (below_alloc W7 (.cells nZ4 76))), trivial⟩ ?_ AllReadyH.nil
    obtain ⟨W8, hW, hb, hq⟩ := laidA W7 nZ4 76
    rw [hW]
    replace HB := over HB hb
    replace M2 := M2.below hb
    replace M4 := M4.below hb
    replace HL := over HL hb
    have z6 := hb.size
    have M9 := hq
    have yM9 := hq.lt
    clear hq hb hW
    refine sd_all [11] (by kernel_rfl) (by decide) ?_
    refine sd_do (i := 11) rfl (by kernel_rfl) rfl (W8.setRow (W7.heap.size) (pK (stR x.ol (l.getD i (0, false)).1 (l.getD i (0, false)).2))) (ex_store (cells := (pK (stR x.ol (l.getD i (0, false)).1 (l.getD i (0, false)).2))) rfl M9 (by kernel_rfl) (by kernel_rfl) (by kernel_rfl) (by kernel_rfl) (by kernel_rfl)) ⟨(M2.kept (grown_row _ _ _) (by omega)), (M4.kept (grown_row _ _ _) (by omega)), (hl.below (HB.grown (grown_row _ _ _) (by omega) (oG (by omega)))), trivial⟩ ?_ AllReadyH.nil
    obtain ⟨W10, hW⟩ : ∃ W, W8.setRow (W7.heap.size) (pK (stR x.ol (l.getD i (0, false)).1 (l.getD i (0, false)).2)) = W := ⟨_, rfl⟩
    have hg : W8.grownBy W10 (some (W7.heap.size)) := hW ▸ grown_row _ _ _
    have hq : Cb W10 (W7.heap.size) (pK (stR x.ol (l.getD i (0, false)).1 (l.getD i (0, false)).2)) 76 := hW ▸ Cb.row M9 _
    rw [hW]
    replace HB := HB.grown hg (by omega) (oG (by omega))
    replace M2 := M2.kept hg (by omega)
    replace M4 := M4.kept hg (by omega)
    replace HL := HL.grown hg (by omega) (oG (by omega))
    have z7 := hg.size
    replace M9 := hq
    clear hq hg hW
    refine Zu 12 rfl rfl (.bool true) ⟨M2, M4, (hl.below HB), trivial⟩ ?_
    refine sd_done (by kernel_rfl) ?_
    refine Yo (Yq (Zv rfl (.bool true) (Zv rfl (.bool false) (Yn (Yo (sx_false (by kernel_rfl) (wp_skip ?_)))))))
    refine sx_in ?_
    refine Yo (Yr (Zv rfl (.int .i64 ((i : Nat) : Int)) (Zi rfl (IntKind.i64.wrap (((i : Nat) : Int) + 1)) (((i + 1 : Nat) : Int)) (by rw [IntKind.wrap_i64]; omega) (Zv rfl (.int .i64 ((i + 1 : Nat) : Int)) (Yn (Yo ?_))))))
    exact sx_again (l.length - (i + 1)) (i + 1) (by omega) (by kernel_rfl) ⟨by omega, Nat.le_refl _, stopsOk_take (by omega) hso (of_decide_eq_true (by rw [← okR_stop]; assumption)), HL⟩
   refine sd_mem (i := 10) rfl (by kernel_rfl) rfl rfl (pt Y6.heap.size 0) (Y6.alloc (.cells nZ4 76)) (by kernel_rfl) ⟨(M2.below (below_alloc Y6 (.cells nZ4 76))), (M4.below (below_alloc Y6 (.cells nZ4 76))), ((hl.below HB).below (below_alloc Y6 (.cells nZ4 76))), trivial⟩ ?_ AllReadyH.nil
   obtain ⟨W11, hW, hb, hq⟩ := laidA Y6 nZ4 76
   rw [hW]
   replace HB := over HB hb
   replace M2 := M2.below hb
   replace M4 := M4.below hb
   replace HL := over HL hb
   have z5 := hb.size
   have M12 := hq
   have yM12 := hq.lt
   clear hq hb hW
   refine sd_all [6] (by kernel_rfl) (by decide) ?_
   refine sd_call (i := 6) rfl (by kernel_rfl) rfl rfl ((by have h8 := refStop_n k x (l.getD i (0, false)).1 (l.getD i (0, false)).2 W11 (hI.below HB); rw [show okR x.ol (l.getD i (0, false)).1 (l.getD i (0, false)).2 = true by simpa using C7] at h8; exact h8)) (by kernel_rfl) ?_ AllReadyH.nil
   rintro e W13 ⟨rfl, hb⟩
   replace HB := over HB hb
   replace M2 := M2.below hb
   replace M4 := M4.below hb
   replace HL := over HL hb
   replace M12 := M12.below hb
   have z6 := hb.size
   clear hb
   refine ⟨_, rfl, ⟨M2, M4, (hl.below HB), trivial⟩, ?_⟩
   refine Zu 7 rfl rfl (.tuple #[.agg (pK (stR x.ol (l.getD i (0, false)).1 (l.getD i (0, false)).2)), .bool true]) ⟨M2, M4, (hl.below HB), trivial⟩ ?_
   refine Zu 8 rfl rfl (.agg (pK (stR x.ol (l.getD i (0, false)).1 (l.getD i (0, false)).2))) ⟨M2, M4, (hl.below HB), trivial⟩ ?_
   refine Zu 9 rfl rfl (.bool true) ⟨M2, M4, (hl.below HB), trivial⟩ ?_
   refine sd_all [11] (by kernel_rfl) (by decide) ?_
   refine sd_do (i := 11) rfl (by kernel_rfl) rfl (W13.setRow (Y6.heap.size) (pK (stR x.ol (l.getD i (0, false)).1 (l.getD i (0, false)).2))) (ex_store (cells := (pK (stR x.ol (l.getD i (0, false)).1 (l.getD i (0, false)).2))) rfl M12 (by kernel_rfl) (by kernel_rfl) (by kernel_rfl) (by kernel_rfl) (by kernel_rfl)) ⟨(M2.kept (grown_row _ _ _) (by omega)), (M4.kept (grown_row _ _ _) (by omega)), (hl.below (HB.grown (grown_row _ _ _) (by omega) (oG (by omega)))), trivial⟩ ?_ AllReadyH.nil
   obtain ⟨W14, hW⟩ : ∃ W, W13.setRow (Y6.heap.size) (pK (stR x.ol (l.getD i (0, false)).1 (l.getD i (0, false)).2)) = W := ⟨_, rfl⟩
   have hg : W13.grownBy W14 (some (Y6.heap.size)) := hW ▸ grown_row _ _ _
   have hq : Cb W14 (Y6.heap.size) (pK (stR x.ol (l.getD i (0, false)).1 (l.getD i (0, false)).2)) 76 := hW ▸ Cb.row M12 _
   rw [hW]
   replace HB := HB.grown hg (by omega) (oG (by omega))
   replace M2 := M2.kept hg (by omega)
   replace M4 := M4.kept hg (by omega)
   replace HL := HL.grown hg (by omega) (oG (by omega))
   have z7 := hg.size
   replace M12 := hq
   clear hq hg hW
   refine Zu 12 rfl rfl (.bool true) ⟨M2, M4, (hl.below HB), trivial⟩ ?_
   refine sd_done (by kernel_rfl) ?_
   refine Yo (Yq (Zv rfl (.bool true) (Zv rfl (.bool false) (Yn (Yo (sx_false (by kernel_rfl) (wp_skip ?_)))))))
   refine sx_in ?_
   refine Yo (Yr (Zv rfl (.int .i64 ((i : Nat) : Int)) (Zi rfl (IntKind.i64.wrap (((i : Nat) : Int) + 1)) (((i + 1 : Nat) : Int)) (by rw [IntKind.wrap_i64]; omega) (Zv rfl (.int .i64 ((i + 1 : Nat) : Int)) (Yn (Yo ?_))))))
   exact sx_again (l.length - (i + 1)) (i + 1) (by omega) (by kernel_rfl) ⟨by omega, Nat.le_refl _, stopsOk_take (by omega) hso (of_decide_eq_true (by rw [← okR_stop]; assumption)), HL⟩
  obtain ⟨Y15, hW⟩ : ∃ W, wr5.drew = W := ⟨_, rfl⟩
  have hb : Below wr5.heap.size wr5 Y15 := hW ▸ below_drew (Below.refl _ _)
  replace HB := over HB hb
  replace M2 := M2.below hb
  replace M4 := M4.below hb
  replace HL := over HL hb
  have z4 := hb.size
  clear hb
  refine sd_begin (fun W => Cb W (w.heap.size) (iK k x) 30 ∧ Cb W (W1.heap.size) (rK ty st orr F.length cr oa l.length ca) 34 ∧ Rw W b o 2 (vF l) l.length oa ∧ True) (by kernel_rfl) (by rw [hW]; exact ⟨M2, M4, (hl.below HB), trivial⟩) ?_
  rw [hW]
  clear hW
  refine Zt 0 rfl rfl (.agg (iK k x)) (fun w9 h9 => ex_load rfl h9.1 (by kernel_rfl) Tryz.underlying30 rfl (by kernel_rfl)) ⟨M2, M4, (hl.below HB), trivial⟩ ?_
  refine Zu 1 rfl rfl (pt W1.heap.size 3) ⟨M2, M4, (hl.below HB), trivial⟩ ?_
  refine Zt 2 rfl rfl (.slice oa l.length ca) (fun w9 h9 => el (h9.2.1.cell 3 rfl) Tryz.underlying32) ⟨M2, M4, (hl.below HB), trivial⟩ ?_
  refine Zu 3 rfl rfl (.int .i64 ((i : Nat) : Int)) ⟨M2, M4, (hl.below HB), trivial⟩ ?_
  refine Zt 4 rfl rfl (pt b (o + i * 2)) (fun w9 h9 => ex_indexO (q := o) (m := l.length) (c := ca) (k := i) (s := 2) rfl (by kernel_rfl) (h9.2.2.1.oa (k := i) (by omega)) (by kernel_rfl) Tryz.underlying32 (by kernel_rfl) (by omega) (by omega)) ⟨M2, M4, (hl.below HB), trivial⟩ ?_
  refine Zt 5 rfl rfl (.agg #[.int .i64 ((l.getD i (0, false)).1), .bool (l.getD i (0, false)).2]) (fun w9 h9 => ex_loadR rfl (h9.2.2.1.range (k := i) (by omega)) (by kernel_rfl) Tryz.underlying82 rfl (by kernel_rfl)) ⟨M2, M4, (hl.below HB), trivial⟩ ?_
  refine sd_all [6, 10] (by kernel_rfl) (by decide) ?_
  refine sd_call (i := 6) rfl (by kernel_rfl) rfl rfl ((by have h8 := refStop_n k x (l.getD i (0, false)).1 (l.getD i (0, false)).2 Y15 (hI.below HB); rw [show okR x.ol (l.getD i (0, false)).1 (l.getD i (0, false)).2 = false by simpa using C7] at h8; exact h8)) (by kernel_rfl) ?_ ?_
  ·rintro e W16 ⟨rfl, hb⟩
   replace HB := over HB hb
   replace M2 := M2.below hb
   replace M4 := M4.below hb
   replace HL := over HL hb
   have z5 := hb.size
   clear hb
   refine ⟨_, rfl, ⟨M2, M4, (hl.below HB), trivial⟩, ?_⟩
   refine Zu 7 rfl rfl (.tuple #[.agg (pK (stR x.ol (l.getD i (0, false)).1 (l.getD i (0, false)).2)), .bool false]) ⟨M2, M4, (hl.below HB), trivial⟩ ?_
   refine Zu 8 rfl rfl (.agg (pK (stR x.ol (l.getD i (0, false)).1 (l.getD i (0, false)).2))) ⟨M2, M4, (hl.below HB), trivial⟩ ?_
   refine Zu 9 rfl rfl (.bool false) ⟨M2, M4, (hl.below HB), trivial⟩ ?_
   refine sd_all [10] (by kernel_rfl) (by decide) ?_
   refine sd_mem (i := 10) rfl (by kernel_rfl) rfl rfl (pt W16.heap.size 0) (W16.alloc (.cells nZ4 76)) (by kernel_rfl) ⟨(M2.below (below_alloc W16 (.cells nZ4 76))), (M4.below (below_alloc W16 (.cells nZ4 76))), ((hl.below HB).below (below_alloc W16 (.cells nZ4 76))), trivial⟩ ?_ AllReadyH.nil
   obtain ⟨W17, hW, hb, hq⟩ := laidA W16 nZ4 76
   rw [hW]
   replace HB := over HB hb
   replace M2 := M2.below hb
   replace M4 := M4.below hb
   replace HL := over HL hb
   have z6 := hb.size
   have M18 := hq
   have yM18 := hq.lt
   clear hq hb hW
   refine sd_all [11] (by kernel_rfl) (by decide) ?_
   refine sd_do (i := 11) rfl (by kernel_rfl) rfl (W17.setRow (W16.heap.size) (pK (stR x.ol (l.getD i (0, false)).1 (l.getD i (0, false)).2))) (ex_store (cells := (pK (stR x.ol (l.getD i (0, false)).1 (l.getD i (0, false)).2))) rfl M18 (by kernel_rfl) (by kernel_rfl) (by kernel_rfl) (by kernel_rfl) (by kernel_rfl)) ⟨(M2.kept (grown_row _ _ _) (by omega)), (M4.kept (grown_row _ _ _) (by omega)), (hl.below (HB.grown (grown_row _ _ _) (by omega) (oG (by omega)))), trivial⟩ ?_ AllReadyH.nil
   obtain ⟨W19, hW⟩ : ∃ W, W17.setRow (W16.heap.size) (pK (stR x.ol (l.getD i (0, false)).1 (l.getD i (0, false)).2)) = W := ⟨_, rfl⟩
   have hg : W17.grownBy W19 (some (W16.heap.size)) := hW ▸ grown_row _ _ _
   have hq : Cb W19 (W16.heap.size) (pK (stR x.ol (l.getD i (0, false)).1 (l.getD i (0, false)).2)) 76 := hW ▸ Cb.row M18 _
   rw [hW]
   replace HB := HB.grown hg (by omega) (oG (by omega))
   replace M2 := M2.kept hg (by omega)
   replace M4 := M4.kept hg (by omega)
   replace HL := HL.grown hg (by omega) (oG (by omega))
   have z7 := hg.size
   replace M18 := hq
   clear hq hg hW
   refine Zu 12 rfl rfl (.bool false) ⟨M2, M4, (hl.below HB), trivial⟩ ?_
   refine sd_done (by kernel_rfl) ?_
   refine Yo (Yq (Zv rfl (.bool false) (Zv rfl (.bool true) (Yn (Yo (sx_true (by kernel_rfl) (Yq (Zv rfl (.bool false) (Yn (Yo (wp_ret ?_)))))))))))
   refine sx_rb ?_
   refine sx_rs (sx_rs ?_)
   refine sx_rb ?_
   refine sx_rs ?_
   refine sx_ret1 (.bool false) rfl rfl (by kernel_rfl) ⟨by rw [posD_no (.inr (.inr (.inr (.inr (.inr (stopsOk_no (k := i) (by omega) (fun h => (by assumption : ¬ okR x.ol (l.getD i (0, false)).1 (l.getD i (0, false)).2 = true) (by rw [okR_stop]; exact decide_eq_true h))))))))], HB⟩
  refine sd_mem (i := 10) rfl (by kernel_rfl) rfl rfl (pt Y15.heap.size 0) (Y15.alloc (.cells nZ4 76)) (by kernel_rfl) ⟨(M2.below (below_alloc Y15 (.cells nZ4 76))), (M4.below (below_alloc Y15 (.cells nZ4 76))), ((hl.below HB).below (below_alloc Y15 (.cells nZ4 76))), trivial⟩ ?_ AllReadyH.nil
  obtain ⟨W20, hW, hb, hq⟩ := laidA Y15 nZ4 76
  rw [hW]
  replace HB := over HB hb
  replace M2 := M2.below hb
  replace M4 := M4.below hb
  replace HL := over HL hb
  have z5 := hb.size
  have M21 := hq
  have yM21 := hq.lt
  clear hq hb hW
  refine sd_all [6] (by kernel_rfl) (by decide) ?_
  refine sd_call (i := 6) rfl (by kernel_rfl) rfl rfl ((by have h8 := refStop_n k x (l.getD i (0, false)).1 (l.getD i (0, false)).2 W20 (hI.below HB); rw [show okR x.ol (l.getD i (0, false)).1 (l.getD i (0, false)).2 = false by simpa using C7] at h8; exact h8)) (by kernel_rfl) ?_ AllReadyH.nil
  rintro e W22 ⟨rfl, hb⟩
  replace HB := over HB hb
  replace M2 := M2.below hb
  replace M4 := M4.below hb
  replace HL := over HL hb
  replace M21 := M21.below hb
  have z6 := hb.size
  clear hb
  refine ⟨_, rfl, ⟨M2, M4, (hl.below HB), trivial⟩, ?_⟩
  refine Zu 7 rfl rfl (.tuple #[.agg (pK (stR x.ol (l.getD i (0, false)).1 (l.getD i (0, false)).2)), .bool false]) ⟨M2, M4, (hl.below HB), trivial⟩ ?_
  refine Zu 8 rfl rfl (.agg (pK (stR x.ol (l.getD i (0, false)).1 (l.getD i (0, false)).2))) ⟨M2, M4, (hl.below HB), trivial⟩ ?_
  refine Zu 9 rfl rfl (.bool false) ⟨M2, M4, (hl.below HB), trivial⟩ ?_
  refine sd_all [11] (by kernel_rfl) (by decide) ?_
  refine sd_do (i := 11) rfl (by kernel_rfl) rfl (W22.setRow (Y15.heap.size) (pK (stR x.ol (l.getD i (0, false)).1 (l.getD i (0, false)).2))) (ex_store (cells := (pK (stR x.ol (l.getD i (0, false)).1 (l.getD i (0, false)).2))) rfl M21 (by kernel_rfl) (by kernel_rfl) (by kernel_rfl) (by kernel_rfl) (by kernel_rfl)) ⟨(M2.kept (grown_row _ _ _) (by omega)), (M4.kept (grown_row _ _ _) (by omega)), (hl.below (HB.grown (grown_row _ _ _) (by omega) (oG (by omega)))), trivial⟩ ?_ AllReadyH.nil
  obtain ⟨W23, hW⟩ : ∃ W, W22.setRow (Y15.heap.size) (pK (stR x.ol (l.getD i (0, false)).1 (l.getD i (0, false)).2)) = W := ⟨_, rfl⟩
  have hg : W22.grownBy W23 (some (Y15.heap.size)) := hW ▸ grown_row _ _ _
  have hq : Cb W23 (Y15.heap.size) (pK (stR x.ol (l.getD i (0, false)).1 (l.getD i (0, false)).2)) 76 := hW ▸ Cb.row M21 _
  rw [hW]
  replace HB := HB.grown hg (by omega) (oG (by omega))
  replace M2 := M2.kept hg (by omega)
  replace M4 := M4.kept hg (by omega)
  replace HL := HL.grown hg (by omega) (oG (by omega))
  have z7 := hg.size
  replace M21 := hq
  clear hq hg hW
  refine Zu 12 rfl rfl (.bool false) ⟨M2, M4, (hl.below HB), trivial⟩ ?_
  refine sd_done (by kernel_rfl) ?_
  refine Yo (Yq (Zv rfl (.bool false) (Zv rfl (.bool true) (Yn (Yo (sx_true (by kernel_rfl) (Yq (Zv rfl (.bool false) (Yn (Yo (wp_ret ?_)))))))))))
  refine sx_rb ?_
  refine sx_rs (sx_rs ?_)
  refine sx_rb ?_
  refine sx_rs ?_
  refine sx_ret1 (.bool false) rfl rfl (by kernel_rfl) ⟨by rw [posD_no (.inr (.inr (.inr (.inr (.inr (stopsOk_no (k := i) (by omega) (fun h => (by assumption : ¬ okR x.ol (l.getD i (0, false)).1 (l.getD i (0, false)).2 = true) (by rw [okR_stop]; exact decide_eq_true h))))))))], HB⟩
 refine Zb rfl (decide (((i : Nat) : Int) < ((l.length : Nat) : Int))) false (decide_eq_false (by omega)) (Yn (Yo (sx_false (by kernel_rfl) (wp_exit ?_))))
 refine sx_es ?_
 refine sx_es ?_
 refine sx_out ?_
 refine Yo (Yq (Zv rfl (.bool true) (Yn (Yo (wp_ret ?_)))))
 have hi9 : i = l.length := by omega
 subst hi9
 rw [List.take_length] at hso
 refine sx_ret1 (.bool true) rfl rfl (by kernel_rfl) ⟨by rw [posD_yes (by omega) (by omega) (by omega) (by omega) (by omega) hso], HB⟩

end Go.Proofs.YtomebalolmabnaaGreatDoor.T



/-! The stops of a course (by gen_lb.py). -/
namespace Go.Proofs.YtomebalolmabnaaGreatDoor.T
open Go.RowKit
set_option maxRecDepth 8000
attribute [local irreducible] wpList Code.wp wpAnyH

theorem runS_no {x : InT} {ty st : Int} {l : List (Int × Bool)} {R : List Bool} (h : ¬ runE x ty st l R = 0) : runS x ty st l R = sh0 := if_neg h
theorem posD_ty {tl : List TyT} {ol : List OrT} {ty st : Int} {l : List (Int × Bool)} (h : posD tl ol ty st l = true) : 0 ≤ ty ∧ ty < tl.length ∧ 0 ≤ st ∧ st ≤ 4096 := by
 unfold posD at h
 simp only [Bool.and_eq_true, decide_eq_true_eq] at h
 exact ⟨h.1.1.1.1.1, h.1.1.1.1.2, h.1.1.1.2, h.1.1.2⟩
theorem posD_at {tl : List TyT} {ol : List OrT} {ty st : Int} {l : List (Int × Bool)} (h : posD tl ol ty st l = true) {i : Nat} (hi : i < l.length) : okR ol (l.getD i (0, false)).1 (l.getD i (0, false)).2 = true := by
 unfold posD at h
 simp only [Bool.and_eq_true, decide_eq_true_eq] at h
 have h1 := List.all_eq_true.1 h.2 _ (getD_mem (d := (0, false)) hi)
 rw [okR_stop]
 exact h1
theorem okR_in {ol : List OrT} {i : Int} {d : Bool} (h : okR ol i d = true) : 0 ≤ i ∧ i.toNat < ol.length ∧ stopV ol i d = stQ (ol.getD i.toNat or0) d := by
 have h0 := h
 unfold okR at h
 simp only [Bool.and_eq_true, decide_eq_true_eq] at h
 have h1 := h.1
 unfold inR at h1
 simp only [Bool.and_eq_true, decide_eq_true_eq] at h1
 refine ⟨h1.1, by omega, ?_⟩
 rw [← stR_stop h0]
 unfold stR
 rw [if_pos h.1]
theorem crs_at (x : InT) (ty st : Int) {l : List (Int × Bool)} {i : Nat} (hi : i < l.length) : (crs x ty st l).S.getD (i + 1) st0 = stopV x.ol (l.getD i (0, false)).1 (l.getD i (0, false)).2 := by
 show (crsS _ x.ol l).getD (i + 1) st0 = _
 unfold crsS
 rw [List.getD_eq_getElem?_getD, List.getElem?_append_left (by simp; omega), List.getElem?_cons_succ, List.getElem?_map, List.getD_eq_getElem?_getD, List.getElem?_eq_getElem hi]
 rfl
end Go.Proofs.YtomebalolmabnaaGreatDoor.T



/-! The specification of schedules: ways, steps, rests (by gen_fc.py). -/
namespace Go.Proofs.YtomebalolmabnaaGreatDoor.T
open Go.RowKit
set_option maxRecDepth 8000
attribute [local irreducible] wpList Code.wp wpAnyH

theorem sx_ret3 {P : Program} {n : Nat} {g : Nat → Value} {l : List (Nat × Value)} {w : World} {fn : Func} {R : Ending → World → Prop} {t u x : Nat} (v v' v2 : Value) (hf : fn.results = #[.tmp t, .tmp u, .tmp x]) (hk : Nat.blt t n = true) (hk' : Nat.blt u n = true) (hk2 : Nat.blt x n = true) (hv : slotV g l t = v) (hv' : slotV g l u = v') (hv2 : slotV g l x = v2) (hR : R (.returned (.tuple #[v, v', v2])) w) : bodyPost P fn R .ret (fr n g l) w := by
 have hs : (fr n g l).tmps[t]?.getD undef = v := by
  rw [← Array.getD_eq_getD_getElem?]
  exact (slot_get hk).trans hv
 have hs' : (fr n g l).tmps[u]?.getD undef = v' := by
  rw [← Array.getD_eq_getD_getElem?]
  exact (slot_get hk').trans hv'
 have hs2 : (fr n g l).tmps[x]?.getD undef = v2 := by
  rw [← Array.getD_eq_getD_getElem?]
  exact (slot_get hk2).trans hv2
 refine bodyPost_ret (v := .tuple #[v, v', v2]) ?_ rfl hR
 unfold results
 simp only [hf]
 simp [hs, hs', hs2]
theorem refWay_n (k : Iv) (x : InT) (hal : x.al.length ≤ 1000000000) (hN : NetOk x.pl x.al) (pr f t d : Int) (hd0 : 0 ≤ d) (hd1 : d ≤ 1073741824) (w : World) (hI : Ins w k x) : Calls Tryz.prog 90 #[.agg (iK k x), .int .i64 pr, .int .i64 f, .int .i64 t, .int .i64 d] w fun e w' => e = .returned (.tuple #[.int .i64 (goV x.pl.length x.al pr f t d).1, .int .i64 (goV x.pl.length x.al pr f t d).2.1, .bool (decide ((goV x.pl.length x.al pr f t d).2.2 = 0))]) ∧ Below w.heap.size w w' := by
 have HB : Below w.heap.size w w := Below.refl _ _
 refine sx_enter Tryz.func90 rfl [(0, .agg (iK k x)), (1, .int .i64 pr), (2, .int .i64 f), (3, .int .i64 t), (4, .int .i64 d)] (by kernel_rfl) ?_
 refine Yq ?_
 refine Za rfl (iK k x) 30 (fun W1 hb M2 z1 yM2 => ?_)
 replace HB := over HB hb
 clear hb
 refine Zv rfl (.int .i64 0) (Zv rfl (.int .i64 0) (Zv rfl (.bool false) (Yn (Yo (Yq (Zv rfl (pt w.heap.size 0) (Zw rfl (.agg #[.slice k.o0 x.pl.length k.c0, .slice k.o1 x.al.length k.c1]) (ex_mid (q := 0) rfl M2 [.slice k.o0 x.pl.length k.c0, .slice k.o1 x.al.length k.c1] (by kernel_rfl) Tryz.underlying25 rfl (by kernel_rfl) rfl) (Zv rfl (.int .i64 pr) (Zv rfl (.int .i64 f) (Zv rfl (.int .i64 t) (Zv rfl (.int .i64 d) ?_)))))))))))
 refine Zd rfl (refGo_n (.slice k.o0 x.pl.length k.c0) (.slice k.o1 x.al.length k.c1) x.pl x.al pr f t d hal hN hd0 hd1 W1 (hI.below HB).h0 (hI.below HB).h1) (fun W3 hb z2 => ?_)
 replace HB := over HB hb
 clear hb
 refine Zv rfl (.tuple #[.int .i64 ((goV x.pl.length x.al pr f t d).1), .int .i64 ((goV x.pl.length x.al pr f t d).2.1), .int .i64 ((goV x.pl.length x.al pr f t d).2.2)]) (Zv rfl (.int .i64 ((goV x.pl.length x.al pr f t d).1)) (Zv rfl (.int .i64 ((goV x.pl.length x.al pr f t d).2.1)) (Zv rfl (.int .i64 ((goV x.pl.length x.al pr f t d).2.2)) (Zv rfl (.int .i64 ((goV x.pl.length x.al pr f t d).1)) (Zv rfl (.int .i64 ((goV x.pl.length x.al pr f t d).2.1)) (Zv rfl (.int .i64 ((goV x.pl.length x.al pr f t d).2.2)) (Yn (Yo (Yq (Zv rfl (.int .i64 ((goV x.pl.length x.al pr f t d).1)) (Zv rfl (.int .i64 ((goV x.pl.length x.al pr f t d).2.1)) (Zv rfl (.int .i64 ((goV x.pl.length x.al pr f t d).2.2)) (Zv rfl (.bool (((goV x.pl.length x.al pr f t d).2.2 : Int) == (0 : Int))) ?_)))))))))))))
 refine Zv rfl (.int .i64 ((goV x.pl.length x.al pr f t d).1)) (Zv rfl (.int .i64 ((goV x.pl.length x.al pr f t d).2.1)) (Zv rfl (.bool (((goV x.pl.length x.al pr f t d).2.2 : Int) == (0 : Int))) (Yn (Yo (wp_ret ?_)))))
 exact sx_ret3 (.int .i64 ((goV x.pl.length x.al pr f t d).1)) (.int .i64 ((goV x.pl.length x.al pr f t d).2.1)) (.bool (((goV x.pl.length x.al pr f t d).2.2 : Int) == (0 : Int))) rfl rfl rfl rfl (by kernel_rfl) (by kernel_rfl) (by kernel_rfl) ⟨by rw [show decide ((goV x.pl.length x.al pr f t d).2.2 = 0) = (((goV x.pl.length x.al pr f t d).2.2 : Int) == 0) by rw [Bool.eq_iff_iff, decide_eq_true_iff, beq_iff_eq]], HB⟩
structure SfT where
 p : Int
 t : Int
 d : Int
 m : Int
def sfV (s : SfT) : Value := .agg #[.int .i64 s.p, .int .i64 s.t, .int .i64 s.d, .int .i64 s.m]
def rstS (t : TyT) (s : SfT) (r : Bool) : SfT := if r = true then ⟨s.p, s.t + t.rst, 0, s.m⟩ else s
theorem refRest_n (a : TyT) (va : Option Addr) (vb : Nat) (s : SfT) (r : Bool) (hr : 0 ≤ a.rst ∧ a.rst ≤ 4096) (hs : 0 ≤ s.t ∧ s.t ≤ 1000000) (w : World) : Calls Tryz.prog 77 #[.agg (tK a va vb), .agg #[.int .i64 s.p, .int .i64 s.t, .int .i64 s.d, .int .i64 s.m], .bool r] w fun e w' => e = .returned (sfV (rstS a s r)) ∧ Below w.heap.size w w' := by
 cases r with
 | false =>
  have HB : Below w.heap.size w w := Below.refl _ _
  refine sx_enter Tryz.func77 rfl [(0, .agg (tK a va vb)), (1, .agg #[.int .i64 s.p, .int .i64 s.t, .int .i64 s.d, .int .i64 s.m]), (2, .bool false)] (by kernel_rfl) ?_
  refine Yq ?_
  refine Za rfl (tK a va vb) 80 (fun W1 hb M2 z1 yM2 => ?_)
  replace HB := over HB hb
  clear hb
  refine Za rfl #[.int .i64 s.p, .int .i64 s.t, .int .i64 s.d, .int .i64 s.m] 143 (fun W3 hb M4 z2 yM4 => ?_)
  replace HB := over HB hb
  clear hb
  refine Za rfl nZ4 143 (fun W5 hb M6 z3 yM6 => ?_)
  replace HB := over HB hb
  replace M4 := M4.below hb
  clear hb
  refine Yn (Yo (Ys (Yq (Zv rfl (.bool false) (Yn (Yo (sx_false (by kernel_rfl) (wp_skip (Yo (Yq (Zw rfl (.agg #[.int .i64 s.p, .int .i64 s.t, .int .i64 s.d, .int .i64 s.m]) (ex_load rfl M4 (by kernel_rfl) Tryz.underlying143 rfl (by kernel_rfl)) ?_)))))))))))
  refine Zr (cells := #[.int .i64 s.p, .int .i64 s.t, .int .i64 s.d, .int .i64 s.m]) rfl rfl M6 (fun W7 hg hq => ?_)
  replace HB := HB.grown hg (by omega) (oG (by omega))
  have z4 := hg.size
  replace M6 := hq
  clear hq hg
  refine Yn (Yo (wp_ret ?_))
  exact sx_retc M6 rfl rfl (by kernel_rfl) Tryz.underlying143 rfl (by kernel_rfl) ⟨rfl, HB⟩
 | true =>
  have HB : Below w.heap.size w w := Below.refl _ _
  refine sx_enter Tryz.func77 rfl [(0, .agg (tK a va vb)), (1, .agg #[.int .i64 s.p, .int .i64 s.t, .int .i64 s.d, .int .i64 s.m]), (2, .bool true)] (by kernel_rfl) ?_
  refine Yq ?_
  refine Za rfl (tK a va vb) 80 (fun W1 hb M2 z1 yM2 => ?_)
  replace HB := over HB hb
  clear hb
  refine Za rfl #[.int .i64 s.p, .int .i64 s.t, .int .i64 s.d, .int .i64 s.m] 143 (fun W3 hb M4 z2 yM4 => ?_)
  replace HB := over HB hb
  replace M2 := M2.below hb
  clear hb
  refine Za rfl nZ4 143 (fun W5 hb M6 z3 yM6 => ?_)
  replace HB := over HB hb
  replace M2 := M2.below hb
  replace M4 := M4.below hb
  clear hb
  refine Yn (Yo (Ys (Yq (Zv rfl (.bool true) (Yn (Yo (sx_true (by kernel_rfl) (Yq (Zv rfl (pt W1.heap.size 1) (Zw rfl (.int .i64 s.t) (el (M4.cell 1 rfl) Tryz.underlying3) (Zv rfl (pt w.heap.size 10) (Zw rfl (.int .i64 a.rst) (el (M2.cell 10 rfl) Tryz.underlying3) (Zi rfl (IntKind.i64.wrap (s.t + a.rst)) ((s.t + a.rst)) (by rw [IntKind.wrap_i64]; omega) (Zv rfl (pt W1.heap.size 1) ?_))))))))))))))
  refine sx_do (by kernel_rfl) rfl _ (ex_storeC (k := 1) (old := .int .i64 s.t) (v := .int .i64 (s.t + a.rst)) rfl M4 (by kernel_rfl) (by kernel_rfl) (by kernel_rfl) (by kernel_rfl) (by kernel_rfl)) ?_
  obtain ⟨W7, hW⟩ : ∃ W, W5.setCell ⟨W1.heap.size, 1, none⟩ (.int .i64 (s.t + a.rst)) = W := ⟨_, rfl⟩
  have hg : W5.grownBy W7 (some (W1.heap.size)) := hW ▸ grown_set _ _ _ _
  have hq : Cb W7 (W1.heap.size) #[.int .i64 s.p, .int .i64 (s.t + a.rst), .int .i64 s.d, .int .i64 s.m] 143 := hW ▸ M4.set 1 (.int .i64 (s.t + a.rst))
  rw [hW]
  replace HB := HB.grown hg (by omega) (oG (by omega))
  replace M6 := M6.kept hg (by omega)
  have z4 := hg.size
  replace M4 := hq
  clear hq hg hW
  refine Yn (Yo (Yr (Zv rfl (pt W1.heap.size 2) ?_)))
  refine sx_do (by kernel_rfl) rfl _ (ex_storeC (k := 2) (old := .int .i64 s.d) (v := .int .i64 0) rfl M4 (by kernel_rfl) (by kernel_rfl) (by kernel_rfl) (by kernel_rfl) (by kernel_rfl)) ?_
  obtain ⟨W8, hW⟩ : ∃ W, W7.setCell ⟨W1.heap.size, 2, none⟩ (.int .i64 0) = W := ⟨_, rfl⟩
  have hg : W7.grownBy W8 (some (W1.heap.size)) := hW ▸ grown_set _ _ _ _
  have hq : Cb W8 (W1.heap.size) #[.int .i64 s.p, .int .i64 (s.t + a.rst), .int .i64 0, .int .i64 s.m] 143 := hW ▸ M4.set 2 (.int .i64 0)
  rw [hW]
  replace HB := HB.grown hg (by omega) (oG (by omega))
  replace M6 := M6.kept hg (by omega)
  have z5 := hg.size
  replace M4 := hq
  clear hq hg hW
  refine Yn (Yo (Yq (Zw rfl (.agg #[.int .i64 s.p, .int .i64 (s.t + a.rst), .int .i64 0, .int .i64 s.m]) (ex_load rfl M4 (by kernel_rfl) Tryz.underlying143 rfl (by kernel_rfl)) ?_)))
  refine Zr (cells := #[.int .i64 s.p, .int .i64 (s.t + a.rst), .int .i64 0, .int .i64 s.m]) rfl rfl M6 (fun W9 hg hq => ?_)
  replace HB := HB.grown hg (by omega) (oG (by omega))
  have z6 := hg.size
  replace M6 := hq
  clear hq hg
  refine Yn (Yo (wp_ret ?_))
  exact sx_retc M6 rfl rfl (by kernel_rfl) Tryz.underlying143 rfl (by kernel_rfl) ⟨rfl, HB⟩
def stpE (x : InT) (a : TyT) (s : SfT) (u cl late : Int) : Int := if (goV x.pl.length x.al a.prof s.p u s.t).2.2 ≠ 0 then 12 else if cl < (goV x.pl.length x.al a.prof s.p u s.t).1 then late else if a.drv < s.d + ((goV x.pl.length x.al a.prof s.p u s.t).1 - s.t) then 16 else 0
def stpS (x : InT) (a : TyT) (s : SfT) (u : Int) : SfT := ⟨u, (goV x.pl.length x.al a.prof s.p u s.t).1, s.d + ((goV x.pl.length x.al a.prof s.p u s.t).1 - s.t), s.m + (goV x.pl.length x.al a.prof s.p u s.t).2.1⟩
theorem refStep_n (k : Iv) (x : InT) (hal : x.al.length ≤ 1000000000) (hN : NetOk x.pl x.al) (a : TyT) (va : Option Addr) (vb : Nat) (s : SfT) (u cl late : Int) (hlate : ¬ late = 0) (hst : 0 ≤ s.t ∧ s.t ≤ 1000000) (hsd : 0 ≤ s.d ∧ s.d ≤ 1000000) (hsm : 0 ≤ s.m ∧ s.m ≤ 1000000000) (w : World) (hI : Ins w k x) : Calls Tryz.prog 78 #[.agg (iK k x), .agg (tK a va vb), .agg #[.int .i64 s.p, .int .i64 s.t, .int .i64 s.d, .int .i64 s.m], .int .i64 u, .int .i64 cl, .int .i64 late] w fun e w' => ((∃ z, stpE x a s u cl late = z ∧ ¬ z = 0 ∧ e = .returned (.tuple #[sfV s, .int .i64 z])) ∨ (stpE x a s u cl late = 0 ∧ e = .returned (.tuple #[sfV (stpS x a s u), .int .i64 0]))) ∧ Below w.heap.size w w' := by
 have HB : Below w.heap.size w w := Below.refl _ _
 refine sx_enter Tryz.func78 rfl [(0, .agg (iK k x)), (1, .agg (tK a va vb)), (2, .agg #[.int .i64 s.p, .int .i64 s.t, .int .i64 s.d, .int .i64 s.m]), (3, .int .i64 u), (4, .int .i64 cl), (5, .int .i64 late)] (by kernel_rfl) ?_
 refine Yq ?_
 refine Za rfl (iK k x) 30 (fun W1 hb M2 z1 yM2 => ?_)
 replace HB := over HB hb
 clear hb
 refine Za rfl (tK a va vb) 80 (fun W3 hb M4 z2 yM4 => ?_)
 replace HB := over HB hb
 replace M2 := M2.below hb
 clear hb
 refine Za rfl #[.int .i64 s.p, .int .i64 s.t, .int .i64 s.d, .int .i64 s.m] 143 (fun W5 hb M6 z3 yM6 => ?_)
 replace HB := over HB hb
 replace M2 := M2.below hb
 replace M4 := M4.below hb
 clear hb
 refine Za rfl nZ4 143 (fun W7 hb M8 z4 yM8 => ?_)
 replace HB := over HB hb
 replace M2 := M2.below hb
 replace M4 := M4.below hb
 replace M6 := M6.below hb
 clear hb
 refine Zv rfl (.int .i64 0) (Yn (Yo (Yq (Zw rfl (.agg (iK k x)) (ex_load rfl M2 (by kernel_rfl) Tryz.underlying30 rfl (by kernel_rfl)) (Zv rfl (pt W1.heap.size 6) (Zw rfl (.int .i64 a.prof) (el (M4.cell 6 rfl) Tryz.underlying3) (Zv rfl (pt W3.heap.size 0) (Zw rfl (.int .i64 s.p) (el (M6.cell 0 rfl) Tryz.underlying3) (Zv rfl (.int .i64 u) (Zv rfl (pt W3.heap.size 1) (Zw rfl (.int .i64 s.t) (el (M6.cell 1 rfl) Tryz.underlying3) ?_)))))))))))
 by_cases C1 : (goV x.pl.length x.al a.prof s.p u s.t).2.2 = 0
 ·refine Zd rfl ((by have h8 := refWay_n k x hal hN a.prof s.p u s.t (by omega) (by omega) W7 (hI.below HB); rw [decide_eq_true C1] at h8; exact h8)) (fun W9 hb z5 => ?_)
  replace HB := over HB hb
  replace M4 := M4.below hb
  replace M6 := M6.below hb
  replace M8 := M8.below hb
  clear hb
  have hgb := CrT.goV_bd hN (show 0 ≤ s.t by omega) C1
  refine Zv rfl (.tuple #[.int .i64 ((goV x.pl.length x.al a.prof s.p u s.t).1), .int .i64 ((goV x.pl.length x.al a.prof s.p u s.t).2.1), .bool true]) (Zv rfl (.int .i64 ((goV x.pl.length x.al a.prof s.p u s.t).1)) (Zv rfl (.int .i64 ((goV x.pl.length x.al a.prof s.p u s.t).2.1)) (Zv rfl (.bool true) (Zv rfl (.int .i64 ((goV x.pl.length x.al a.prof s.p u s.t).1)) (Zv rfl (.int .i64 ((goV x.pl.length x.al a.prof s.p u s.t).2.1)) (Zv rfl (.bool true) (Yn (Yo (Ys (Yq (Zv rfl (.bool true) (Zv rfl (.bool false) (Yn (Yo (sx_false (by kernel_rfl) ?_)))))))))))))))
  refine wp_skip (Yo (Ys (Yq (Zv rfl (.int .i64 ((goV x.pl.length x.al a.prof s.p u s.t).1)) (Zv rfl (.int .i64 cl) ?_)))))
  by_cases C2 : (goV x.pl.length x.al a.prof s.p u s.t).1 > cl
  ·refine Zb rfl (decide ((goV x.pl.length x.al a.prof s.p u s.t).1 > cl)) true (decide_eq_true (by omega)) (Yn (Yo (sx_true (by kernel_rfl) (Yq (Zw rfl (.agg #[.int .i64 s.p, .int .i64 s.t, .int .i64 s.d, .int .i64 s.m]) (ex_load rfl M6 (by kernel_rfl) Tryz.underlying143 rfl (by kernel_rfl)) (Zv rfl (.int .i64 late) ?_))))))
   refine Zr (cells := #[.int .i64 s.p, .int .i64 s.t, .int .i64 s.d, .int .i64 s.m]) rfl rfl M8 (fun W10 hg hq => ?_)
   replace HB := HB.grown hg (by omega) (oG (by omega))
   have z6 := hg.size
   replace M8 := hq
   clear hq hg
   refine Zv rfl (.int .i64 late) (Yn (Yo (wp_ret (sx_rs ?_))))
   exact sx_retct (v' := .int .i64 late) M8 rfl rfl rfl (by kernel_rfl) (by kernel_rfl) Tryz.underlying143 rfl (by kernel_rfl) ⟨.inl ⟨late, by unfold stpE; rw [if_neg (fun h => h (by assumption)), if_pos (by omega)], by exact hlate, rfl⟩, HB⟩
  refine Zb rfl (decide ((goV x.pl.length x.al a.prof s.p u s.t).1 > cl)) false (decide_eq_false (by omega)) (Yn (Yo (sx_false (by kernel_rfl) (wp_skip (Yo (Yq (Zv rfl (.int .i64 u) (Zv rfl (.int .i64 ((goV x.pl.length x.al a.prof s.p u s.t).1)) (Zv rfl (pt W3.heap.size 2) (Zw rfl (.int .i64 s.d) (el (M6.cell 2 rfl) Tryz.underlying3) (Zv rfl (.int .i64 ((goV x.pl.length x.al a.prof s.p u s.t).1)) (Zi rfl (IntKind.i64.wrap (s.d + (goV x.pl.length x.al a.prof s.p u s.t).1)) ((s.d + (goV x.pl.length x.al a.prof s.p u s.t).1)) (by rw [IntKind.wrap_i64]; omega) (Zv rfl (pt W3.heap.size 1) (Zw rfl (.int .i64 s.t) (el (M6.cell 1 rfl) Tryz.underlying3) ?_))))))))))))))
  refine Zi rfl (IntKind.i64.wrap ((s.d + (goV x.pl.length x.al a.prof s.p u s.t).1) - s.t)) ((s.d + ((goV x.pl.length x.al a.prof s.p u s.t).1 - s.t))) (by rw [IntKind.wrap_i64]; omega) (Zv rfl (pt W3.heap.size 3) (Zw rfl (.int .i64 s.m) (el (M6.cell 3 rfl) Tryz.underlying3) (Zv rfl (.int .i64 ((goV x.pl.length x.al a.prof s.p u s.t).2.1)) (Zi rfl (IntKind.i64.wrap (s.m + (goV x.pl.length x.al a.prof s.p u s.t).2.1)) ((s.m + (goV x.pl.length x.al a.prof s.p u s.t).2.1)) (by rw [IntKind.wrap_i64]; omega) (Zv rfl (.agg #[.int .i64 u, .int .i64 ((goV x.pl.length x.al a.prof s.p u s.t).1), .int .i64 (s.d + ((goV x.pl.length x.al a.prof s.p u s.t).1 - s.t)), .int .i64 (s.m + (goV x.pl.length x.al a.prof s.p u s.t).2.1)]) ?_)))))
  obtain ⟨W12, hW, hb, hq⟩ := laidV W9 nZ4 #[.int .i64 u, .int .i64 ((goV x.pl.length x.al a.prof s.p u s.t).1), .int .i64 (s.d + ((goV x.pl.length x.al a.prof s.p u s.t).1 - s.t)), .int .i64 (s.m + (goV x.pl.length x.al a.prof s.p u s.t).2.1)] 143
  refine sx_mem (by kernel_rfl) rfl rfl (pt W9.heap.size 0) (W9.alloc (.cells nZ4 143)) (by kernel_rfl) ?_
  refine Zs (cells := #[.int .i64 u, .int .i64 ((goV x.pl.length x.al a.prof s.p u s.t).1), .int .i64 (s.d + ((goV x.pl.length x.al a.prof s.p u s.t).1 - s.t)), .int .i64 (s.m + (goV x.pl.length x.al a.prof s.p u s.t).2.1)]) rfl rfl (Cb.made W9 nZ4 143) ?_
  rw [hW]
  replace HB := over HB hb
  replace M4 := M4.below hb
  replace M6 := M6.below hb
  replace M8 := M8.below hb
  have z6 := hb.size
  have M11 := hq
  have yM11 := hq.lt
  clear hq hb hW
  refine Yn (Yo (Ys (Yq (Zv rfl (pt W9.heap.size 2) (Zw rfl (.int .i64 (s.d + ((goV x.pl.length x.al a.prof s.p u s.t).1 - s.t))) (el (M11.cell 2 rfl) Tryz.underlying3) (Zv rfl (pt W1.heap.size 9) (Zw rfl (.int .i64 a.drv) (el (M4.cell 9 rfl) Tryz.underlying3) ?_)))))))
  by_cases C3 : (s.d + ((goV x.pl.length x.al a.prof s.p u s.t).1 - s.t)) > a.drv
  ·refine Zb rfl (decide ((s.d + ((goV x.pl.length x.al a.prof s.p u s.t).1 - s.t)) > a.drv)) true (decide_eq_true (by omega)) (Yn (Yo (sx_true (by kernel_rfl) (Yq (Zw rfl (.agg #[.int .i64 s.p, .int .i64 s.t, .int .i64 s.d, .int .i64 s.m]) (ex_load rfl M6 (by kernel_rfl) Tryz.underlying143 rfl (by kernel_rfl)) ?_)))))
   refine Zr (cells := #[.int .i64 s.p, .int .i64 s.t, .int .i64 s.d, .int .i64 s.m]) rfl rfl M8 (fun W13 hg hq => ?_)
   replace HB := HB.grown hg (by omega) (oG (by omega))
   have z7 := hg.size
   replace M8 := hq
   clear hq hg
   refine Zv rfl (.int .i64 16) (Yn (Yo (wp_ret (sx_rs ?_))))
   exact sx_retct (v' := .int .i64 16) M8 rfl rfl rfl (by kernel_rfl) (by kernel_rfl) Tryz.underlying143 rfl (by kernel_rfl) ⟨.inl ⟨16, by unfold stpE; rw [if_neg (fun h => h (by assumption)), if_neg (by omega), if_pos (by omega)], by decide, rfl⟩, HB⟩
  refine Zb rfl (decide ((s.d + ((goV x.pl.length x.al a.prof s.p u s.t).1 - s.t)) > a.drv)) false (decide_eq_false (by omega)) (Yn (Yo (sx_false (by kernel_rfl) (wp_skip (Yo (Yq (Zw rfl (.agg #[.int .i64 u, .int .i64 ((goV x.pl.length x.al a.prof s.p u s.t).1), .int .i64 (s.d + ((goV x.pl.length x.al a.prof s.p u s.t).1 - s.t)), .int .i64 (s.m + (goV x.pl.length x.al a.prof s.p u s.t).2.1)]) (ex_load rfl M11 (by kernel_rfl) Tryz.underlying143 rfl (by kernel_rfl)) ?_)))))))
  refine Zr (cells := #[.int .i64 u, .int .i64 ((goV x.pl.length x.al a.prof s.p u s.t).1), .int .i64 (s.d + ((goV x.pl.length x.al a.prof s.p u s.t).1 - s.t)), .int .i64 (s.m + (goV x.pl.length x.al a.prof s.p u s.t).2.1)]) rfl rfl M8 (fun W14 hg hq => ?_)
  replace HB := HB.grown hg (by omega) (oG (by omega))
  have z7 := hg.size
  replace M8 := hq
  clear hq hg
  refine Zv rfl (.int .i64 0) (Yn (Yo (wp_ret ?_)))
  exact sx_retct (v' := .int .i64 0) M8 rfl rfl rfl (by kernel_rfl) (by kernel_rfl) Tryz.underlying143 rfl (by kernel_rfl) ⟨.inr ⟨by unfold stpE; rw [if_neg (fun h => h (by assumption)), if_neg (by omega), if_neg (by omega)], rfl⟩, HB⟩
 refine Zd rfl ((by have h8 := refWay_n k x hal hN a.prof s.p u s.t (by omega) (by omega) W7 (hI.below HB); rw [decide_eq_false C1] at h8; exact h8)) (fun W15 hb z5 => ?_)
 replace HB := over HB hb
 replace M6 := M6.below hb
 replace M8 := M8.below hb
 clear hb
 refine Zv rfl (.tuple #[.int .i64 ((goV x.pl.length x.al a.prof s.p u s.t).1), .int .i64 ((goV x.pl.length x.al a.prof s.p u s.t).2.1), .bool false]) (Zv rfl (.int .i64 ((goV x.pl.length x.al a.prof s.p u s.t).1)) (Zv rfl (.int .i64 ((goV x.pl.length x.al a.prof s.p u s.t).2.1)) (Zv rfl (.bool false) (Zv rfl (.int .i64 ((goV x.pl.length x.al a.prof s.p u s.t).1)) (Zv rfl (.int .i64 ((goV x.pl.length x.al a.prof s.p u s.t).2.1)) (Zv rfl (.bool false) (Yn (Yo (Ys (Yq (Zv rfl (.bool false) (Zv rfl (.bool true) (Yn (Yo (sx_true (by kernel_rfl) ?_)))))))))))))))
 refine Yq (Zw rfl (.agg #[.int .i64 s.p, .int .i64 s.t, .int .i64 s.d, .int .i64 s.m]) (ex_load rfl M6 (by kernel_rfl) Tryz.underlying143 rfl (by kernel_rfl)) ?_)
 refine Zr (cells := #[.int .i64 s.p, .int .i64 s.t, .int .i64 s.d, .int .i64 s.m]) rfl rfl M8 (fun W16 hg hq => ?_)
 replace HB := HB.grown hg (by omega) (oG (by omega))
 have z6 := hg.size
 replace M8 := hq
 clear hq hg
 refine Zv rfl (.int .i64 12) (Yn (Yo (wp_ret (sx_rs ?_))))
 exact sx_retct (v' := .int .i64 12) M8 rfl rfl rfl (by kernel_rfl) (by kernel_rfl) Tryz.underlying143 rfl (by kernel_rfl) ⟨.inl ⟨12, by unfold stpE; rw [if_pos (by assumption)], by decide, rfl⟩, HB⟩

end Go.Proofs.YtomebalolmabnaaGreatDoor.T



