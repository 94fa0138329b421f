/-
  DERIVED. Kb: a part of the base of layer 13 (made by pack.py).
-/
import Derived.Test.YtomebalolmabnaaGreatDoorGA
import Derived.Test.YtomebalolmabnaaGreatDoorJf
import Derived.Test.YtomebalolmabnaaGreatDoorKa
/-! The specification of slack: visited, arrival (by gen_kb.py). -/
namespace Go.Proofs.YtomebalolmabnaaGreatDoor.T
open Go.RowKit
set_option maxRecDepth 8000
attribute [local irreducible] wpList Code.wp wpAnyH

theorem sx_retcct {P : Program} {n : Nat} {g : Nat → Value} {l : List (Nat × Value)} {w : World} {fn : Func} {R : Ending → World → Prop} {t u x : Nat} {ty uy : TypeId} {q p : Nat} {cs ds : Array Value} {tq tp : TypeId} {dd de : TypeDesc} {v2 : Value} (hg : Cb w q cs tq) (hg' : Cb w p ds tp) (hf : fn.results = #[.cell t ty, .cell u uy, .tmp x]) (hk : Nat.blt t n = true) (hk' : Nat.blt u n = true) (hk2 : Nat.blt x n = true) (hv : slotV g l t = .pointer (some ⟨q, 0, none⟩)) (hv' : slotV g l u = .pointer (some ⟨p, 0, none⟩)) (hv2 : slotV g l x = v2)
  (hu : P.underlying ty = some dd) (hdd : (match dd with | .struct _ | .array _ _ => true | _ => false) = true) (hi : (P.info? ty).map (·.size) = some cs.size) (hu' : P.underlying uy = some de) (hde : (match de with | .struct _ | .array _ _ => true | _ => false) = true) (hi' : (P.info? uy).map (·.size) = some ds.size) (hR : R (.returned (.tuple #[.agg cs, .agg ds, v2])) w) : bodyPost P fn R .ret (fr n g l) w := by
 have hs : (fr n g l).tmps[t]?.getD undef = .pointer (some ⟨q, 0, none⟩) := by
  rw [← Array.getD_eq_getD_getElem?]
  exact (slot_get hk).trans hv
 have hs' : (fr n g l).tmps[u]?.getD undef = .pointer (some ⟨p, 0, none⟩) := by
  rw [← Array.getD_eq_getD_getElem?]
  exact (slot_get hk').trans hv'
 have hs2 : (fr n g l).tmps[x]?.getD undef = v2 := by
  rw [← Array.getD_eq_getD_getElem?]
  exact (slot_get hk2).trans hv2
 have hrun := run_loadVar_row w q tq ty cs (0, 0) dd hg hu hdd hi
 have hrun' := run_loadVar_row w p tp uy ds (0, 0) de hg' hu' hde hi'
 refine bodyPost_ret (v := .tuple #[.agg cs, .agg ds, v2]) ?_ rfl hR
 unfold results
 simp only [hf]
 simp [hs, hs', hs2, hrun, hrun', asAddr]
theorem visited19_n (k : Iv) (x : InT) (hxl : x.ol.length ≤ 1000000) (ty st : Int) (orr oa oS : Option Addr) (cr ca cS b o bS qS : Nat) (l : List (Int × Bool)) (F : List Bool) (S : ShT) (hc : (crs x ty st l).Ok) (hp9 : posD x.tl x.ol ty st l = true) (hTl : S.T.length = l.length) (_hrun : (crs x ty st l).run S.rts (crs x ty st l).n = 0) (hsh : (crs x ty st l).sheet S.rts = S) (w : World) (hI : Ins w k x) (hl : Rw w b o 2 (vF l) l.length oa) (hST : Rw w bS qS 4 (fun k => tmE (S.T.getD k tm0)) S.T.length oS) (i : Nat) (hil : i < l.length) (P D N a : Int) (hD : 0 ≤ D ∧ D ≤ 1000000) (hN : 0 ≤ N ∧ N ≤ 1000000) (ha : 0 ≤ a ∧ a ≤ 1000000) : Calls Tryz.prog 35 #[.agg (iK k x), .agg (rK ty st orr F.length cr oa l.length ca), .agg (sK S oS cS), .int .i64 ((i : Nat) : Int), .agg #[.int .i64 P, .int .i64 D, .int .i64 N], .int .i64 a] w fun e w' => e = .returned (.tuple #[.agg (if ((crs x ty st l).arE i a (N + a - D)) = 0 then #[.int .i64 a, .int .i64 ((crs x ty st l).bgA i a), .int .i64 (((crs x ty st l).onA S.rts i a (N + a - D)).dep), .bool (S.rts.getD (i + 1) false)] else nZM), .agg (if ((crs x ty st l).arE i a (N + a - D)) = 0 then #[.int .i64 ((crs x ty st l).S.getD (i + 1) st0).p, .int .i64 ((crs x ty st l).onA S.rts i a (N + a - D)).dep, .int .i64 (CrT.gS (N + a - D) (S.rts.getD (i + 1) false))] else nZ3), .int .i64 ((crs x ty st l).arE i a (N + a - D))]) ∧ Below w.heap.size w w' := by
 have HB : Below w.heap.size w w := Below.refl _ _
 have hn9 : (crs x ty st l).n = l.length + 1 := crs_n x ty st l
 obtain ⟨hy1, hy2, -, -⟩ := posD_ty hp9
 have hl20 := posD_len hp9
 have hyt : ((ty.toNat : Nat) : Int) = ty := Int.toNat_of_nonneg hy1
 have hrst : 0 ≤ (x.tl.getD ty.toNat ty0).rst ∧ (x.tl.getD ty.toNat ty0).rst ≤ 4096 := hc.rst
 have hdrv : 1 ≤ (x.tl.getD ty.toNat ty0).drv ∧ (x.tl.getD ty.toNat ty0).drv ≤ 4096 := hc.drv
 obtain ⟨bt, qt, va, vb, hTy⟩ := hI.h2.rw
 have hTm : Rw w bS qS 4 (fun i1 => tmE ((crs x ty st l).tm S.rts i1)) S.T.length oS := Rw.ext hST (fun i hi => by have h8 := tms_at (crs x ty st l) S.rts (show i < (crs x ty st l).n - 1 by omega); rw [hsh] at h8; rw [h8])
 have hst := hc.st (i + 1) (by show i + 1 < (crsS _ _ _).length; rw [crsS_len]; omega)
 have hla : (crs x ty st l).late (i + 1) = 14 := by
  unfold CrT.late
  rw [if_neg (by show ¬ i + 1 + 1 = (crsS _ _ _).length; rw [crsS_len]; omega)]
 refine sx_enter Tryz.func35 rfl [(0, .agg (iK k x)), (1, .agg (rK ty st orr F.length cr oa l.length ca)), (2, .agg (sK S oS cS)), (3, .int .i64 ((i : Nat) : Int)), (4, .agg #[.int .i64 P, .int .i64 D, .int .i64 N]), (5, .int .i64 a)] (by kernel_rfl) ?_
 refine Yq ?_
 refine Za rfl (iK k x) 30 (fun W1 hb M2 z1 yM2 => ?_)
 replace HB := over HB hb
 clear hb
 refine Za rfl (rK ty st orr F.length cr oa l.length ca) 34 (fun W3 hb M4 z2 yM4 => ?_)
 replace HB := over HB hb
 replace M2 := M2.below hb
 clear hb
 refine Za rfl (sK S oS cS) 37 (fun W5 hb M6 z3 yM6 => ?_)
 replace HB := over HB hb
 replace M2 := M2.below hb
 replace M4 := M4.below hb
 clear hb
 refine Za rfl #[.int .i64 P, .int .i64 D, .int .i64 N] 89 (fun W7 hb M8 z4 yM8 => ?_)
 replace HB := over HB hb
 replace M2 := M2.below hb
 replace M4 := M4.below hb
 replace M6 := M6.below hb
 clear hb
 refine Za rfl nZM 61 (fun W9 hb M10 z5 yM10 => ?_)
 replace HB := over HB hb
 replace M2 := M2.below hb
 replace M4 := M4.below hb
 replace M6 := M6.below hb
 replace M8 := M8.below hb
 clear hb
 refine Za rfl nZ3 89 (fun W11 hb M12 z6 yM12 => ?_)
 replace HB := over HB hb
 replace M2 := M2.below hb
 replace M4 := M4.below hb
 replace M6 := M6.below hb
 replace M8 := M8.below hb
 replace M10 := M10.below hb
 clear hb
 refine Zv rfl (.int .i64 0) (Yn (Yo (Yq (Zv rfl (pt w.heap.size 2) (Zw rfl (.slice k.o2 x.tl.length k.c2) (el (M2.cell 2 rfl) Tryz.underlying26) (Zv rfl (pt W1.heap.size 0) (Zw rfl (.int .i64 ty) (el (M4.cell 0 rfl) Tryz.underlying3) (Zw rfl (pt bt (qt + (ty.toNat) * 14)) (ex_indexO (q := qt) (m := x.tl.length) (c := k.c2) (k := ty.toNat) (s := 14) rfl (by kernel_rfl) ((hTy.below HB).oa (k := ty.toNat) (by omega)) (by rw [hyt]; kernel_rfl) Tryz.underlying26 (by kernel_rfl) (by omega) (by omega)) (Zw rfl (.agg (tK (x.tl.getD ty.toNat ty0) (va ty.toNat) (vb ty.toNat))) (ex_loadR rfl ((hTy.below HB).range (k := ty.toNat) (by omega)) (by kernel_rfl) Tryz.underlying80 rfl (by kernel_rfl)) ?_)))))))))
 obtain ⟨W14, hW⟩ : ∃ W, (W11.alloc (.cells nZT 80)).setRow W11.heap.size (tK (x.tl.getD ty.toNat ty0) (va ty.toNat) (vb ty.toNat)) = W := ⟨_, rfl⟩
 have hb := hW ▸ below_var W11 (.cells nZT 80) (tK (x.tl.getD ty.toNat ty0) (va ty.toNat) (vb ty.toNat))
 have hq : Cb W14 W11.heap.size (tK (x.tl.getD ty.toNat ty0) (va ty.toNat) (vb ty.toNat)) 80 := hW ▸ Cb.row (Cb.made W11 nZT 80) _
 refine sx_mem (by kernel_rfl) rfl rfl (pt W11.heap.size 0) (W11.alloc (.cells nZT 80)) (by kernel_rfl) ?_
 refine Zs (cells := (tK (x.tl.getD ty.toNat ty0) (va ty.toNat) (vb ty.toNat))) rfl rfl (Cb.made W11 nZT 80) ?_
 rw [hW]
 replace HB := over HB hb
 replace M2 := M2.below hb
 replace M4 := M4.below hb
 replace M6 := M6.below hb
 replace M8 := M8.below hb
 replace M10 := M10.below hb
 replace M12 := M12.below hb
 have z7 := hb.size
 have M13 := hq
 have yM13 := hq.lt
 clear hq hb hW
 refine Yn (Yo ?_)
 refine sx_cut (fun q16 : Nat => [(0, .agg (iK k x)), (1, .agg (rK ty st orr F.length cr oa l.length ca)), (2, .agg (sK S oS cS)), (3, .int .i64 ((i : Nat) : Int)), (4, .agg #[.int .i64 P, .int .i64 D, .int .i64 N]), (5, .int .i64 a), (6, .pointer (some ⟨w.heap.size, 0, none⟩)), (7, .pointer (some ⟨W1.heap.size, 0, none⟩)), (8, .pointer (some ⟨W3.heap.size, 0, none⟩)), (10, .pointer (some ⟨W5.heap.size, 0, none⟩)), (12, .pointer (some ⟨W7.heap.size, 0, none⟩)), (13, .pointer (some ⟨W9.heap.size, 0, none⟩)), (14, .int .i64 0), (15, .pointer (some ⟨W11.heap.size, 0, none⟩)), (16, .pointer (some ⟨q16, 0, none⟩)), (17, .int .i64 0), (22, .pointer (some ⟨w.heap.size, 2, none⟩)), (23, .slice k.o2 x.tl.length k.c2), (24, .pointer (some ⟨W1.heap.size, 0, none⟩)), (25, .int .i64 ty), (26, .pointer (some ⟨bt, qt + (ty.toNat) * 14, none⟩)), (27, .agg (tK (x.tl.getD ty.toNat ty0) (va ty.toNat) (vb ty.toNat)))]) (fun q16 wr => Cb wr q16 (pK ((crs x ty st l).S.getD (i + 1) st0)) 76 ∧ W14.heap.size ≤ q16 ∧ W14.heap.size ≤ wr.heap.size ∧ Below w.heap.size w wr ∧ Cb wr (w.heap.size) (iK k x) 30 ∧ Cb wr (W1.heap.size) (rK ty st orr F.length cr oa l.length ca) 34 ∧ Cb wr (W3.heap.size) (sK S oS cS) 37 ∧ Cb wr (W5.heap.size) #[.int .i64 P, .int .i64 D, .int .i64 N] 89 ∧ Cb wr (W7.heap.size) nZM 61 ∧ Cb wr (W9.heap.size) nZ3 89 ∧ Cb wr (W11.heap.size) (tK (x.tl.getD ty.toNat ty0) (va ty.toNat) (vb ty.toNat)) 80) ?_ ?_
 ·obtain ⟨Y16, hW⟩ : ∃ W, W14.drew = W := ⟨_, rfl⟩
  have hb : Below W14.heap.size W14 Y16 := hW ▸ below_drew (Below.refl _ _)
  replace HB := over HB hb
  replace M2 := M2.below hb
  replace M4 := M4.below hb
  replace M6 := M6.below hb
  replace M8 := M8.below hb
  replace M10 := M10.below hb
  replace M12 := M12.below hb
  replace M13 := M13.below hb
  have z8 := hb.size
  clear hb
  refine sd_begin (fun W => Cb W (w.heap.size) (iK k x) 30 ∧ Cb W (W1.heap.size) (rK ty st orr F.length cr oa l.length ca) 34 ∧ Cb W (W3.heap.size) (sK S oS cS) 37 ∧ Cb W (W5.heap.size) #[.int .i64 P, .int .i64 D, .int .i64 N] 89 ∧ Cb W (W7.heap.size) nZM 61 ∧ Cb W (W9.heap.size) nZ3 89 ∧ Cb W (W11.heap.size) (tK (x.tl.getD ty.toNat ty0) (va ty.toNat) (vb ty.toNat)) 80 ∧ Rw W bt qt 14 (tyF x.tl va vb) x.tl.length k.o2 ∧ Rw W b o 2 (vF l) l.length oa ∧ Rw W bS qS 4 (fun i1 => tmE ((crs x ty st l).tm S.rts i1)) S.T.length oS ∧ True) (by kernel_rfl) (by rw [hW]; exact ⟨M2, M4, M6, M8, M10, M12, M13, (hTy.below HB), (hl.below HB), (hTm.below HB), trivial⟩) ?_
  rw [hW]
  clear hW
  refine Zu 0 rfl rfl (pt w.heap.size 3) ⟨M2, M4, M6, M8, M10, M12, M13, (hTy.below HB), (hl.below HB), (hTm.below HB), trivial⟩ ?_
  refine Zt 1 rfl rfl (.slice k.o3 x.ol.length k.c3) (fun w9 h9 => el (h9.1.cell 3 rfl) Tryz.underlying27) ⟨M2, M4, M6, M8, M10, M12, M13, (hTy.below HB), (hl.below HB), (hTm.below HB), trivial⟩ ?_
  refine Zu 2 rfl rfl (pt W1.heap.size 3) ⟨M2, M4, M6, M8, M10, M12, M13, (hTy.below HB), (hl.below HB), (hTm.below HB), trivial⟩ ?_
  refine Zt 3 rfl rfl (.slice oa l.length ca) (fun w9 h9 => el (h9.2.1.cell 3 rfl) Tryz.underlying32) ⟨M2, M4, M6, M8, M10, M12, M13, (hTy.below HB), (hl.below HB), (hTm.below HB), trivial⟩ ?_
  refine Zu 4 rfl rfl (.int .i64 ((i : Nat) : Int)) ⟨M2, M4, M6, M8, M10, M12, M13, (hTy.below HB), (hl.below HB), (hTm.below HB), trivial⟩ ?_
  refine Zt 5 rfl rfl (pt b (o + i * 2)) (fun w9 h9 => ex_indexO (q := o) (m := l.length) (c := ca) (k := i) (s := 2) rfl (by kernel_rfl) (h9.2.2.2.2.2.2.2.2.1.oa (k := i) (by omega)) (by kernel_rfl) Tryz.underlying32 (by kernel_rfl) (by omega) (by omega)) ⟨M2, M4, M6, M8, M10, M12, M13, (hTy.below HB), (hl.below HB), (hTm.below HB), trivial⟩ ?_
  refine Zt 6 rfl rfl (.agg #[.int .i64 ((l.getD i (0, false)).1), .bool (l.getD i (0, false)).2]) (fun w9 h9 => ex_loadR rfl (h9.2.2.2.2.2.2.2.2.1.range (k := i) (by omega)) (by kernel_rfl) Tryz.underlying82 rfl (by kernel_rfl)) ⟨M2, M4, M6, M8, M10, M12, M13, (hTy.below HB), (hl.below HB), (hTm.below HB), trivial⟩ ?_
  refine sd_all [7, 11] (by kernel_rfl) (by decide) ?_
  refine sd_call (i := 7) rfl (by kernel_rfl) rfl rfl (stop19_n k x hxl ty st l hp9 i hil Y16 (hI.below HB)) (by kernel_rfl) ?_ ?_
  ·rintro e W17 ⟨rfl, hb⟩
   replace HB := over HB hb
   replace M2 := M2.below hb
   replace M4 := M4.below hb
   replace M6 := M6.below hb
   replace M8 := M8.below hb
   replace M10 := M10.below hb
   replace M12 := M12.below hb
   replace M13 := M13.below hb
   have z9 := hb.size
   clear hb
   refine ⟨_, rfl, ⟨M2, M4, M6, M8, M10, M12, M13, (hTy.below HB), (hl.below HB), (hTm.below HB), trivial⟩, ?_⟩
   refine Zu 8 rfl rfl (.tuple #[.agg (pK ((crs x ty st l).S.getD (i + 1) st0)), .int .i64 0]) ⟨M2, M4, M6, M8, M10, M12, M13, (hTy.below HB), (hl.below HB), (hTm.below HB), trivial⟩ ?_
   refine Zu 9 rfl rfl (.agg (pK ((crs x ty st l).S.getD (i + 1) st0))) ⟨M2, M4, M6, M8, M10, M12, M13, (hTy.below HB), (hl.below HB), (hTm.below HB), trivial⟩ ?_
   refine Zu 10 rfl rfl (.int .i64 0) ⟨M2, M4, M6, M8, M10, M12, M13, (hTy.below HB), (hl.below HB), (hTm.below HB), trivial⟩ ?_
   refine sd_all [11] (by kernel_rfl) (by decide) ?_
   refine sd_mem (i := 11) rfl (by kernel_rfl) rfl rfl (pt W17.heap.size 0) (W17.alloc (.cells nZ4 76)) (by kernel_rfl) ⟨(M2.below (below_alloc W17 (.cells nZ4 76))), (M4.below (below_alloc W17 (.cells nZ4 76))), (M6.below (below_alloc W17 (.cells nZ4 76))), (M8.below (below_alloc W17 (.cells nZ4 76))), (M10.below (below_alloc W17 (.cells nZ4 76))), (M12.below (below_alloc W17 (.cells nZ4 76))), (M13.below (below_alloc W17 (.cells nZ4 76))), ((hTy.below HB).below (below_alloc W17 (.cells nZ4 76))), ((hl.below HB).below (below_alloc W17 (.cells nZ4 76))), ((hTm.below HB).below (below_alloc W17 (.cells nZ4 76))), trivial⟩ ?_ AllReadyH.nil
   obtain ⟨W18, hW, hb, hq⟩ := laidA W17 nZ4 76
   rw [hW]
   replace HB := over HB hb
   replace M2 := M2.below hb
   replace M4 := M4.below hb
   replace M6 := M6.below hb
   replace M8 := M8.below hb
   replace M10 := M10.below hb
   replace M12 := M12.below hb
   replace M13 := M13.below hb
   have z10 := hb.size
   have M19 := hq
   have yM19 := hq.lt
   clear hq hb hW
   refine sd_all [12] (by kernel_rfl) (by decide) ?_
   refine sd_do (i := 12) rfl (by kernel_rfl) rfl (W18.setRow (W17.heap.size) (pK ((crs x ty st l).S.getD (i + 1) st0))) (ex_store (cells := (pK ((crs x ty st l).S.getD (i + 1) st0))) rfl M19 (by kernel_rfl) (by kernel_rfl) (by kernel_rfl) (by kernel_rfl) (by kernel_rfl)) ⟨(M2.kept (grown_row _ _ _) (by omega)), (M4.kept (grown_row _ _ _) (by omega)), (M6.kept (grown_row _ _ _) (by omega)), (M8.kept (grown_row _ _ _) (by omega)), (M10.kept (grown_row _ _ _) (by omega)), (M12.kept (grown_row _ _ _) (by omega)), (M13.kept (grown_row _ _ _) (by omega)), (hTy.below (HB.grown (grown_row _ _ _) (by omega) (oG (by omega)))), (hl.below (HB.grown (grown_row _ _ _) (by omega) (oG (by omega)))), (hTm.below (HB.grown (grown_row _ _ _) (by omega) (oG (by omega)))), trivial⟩ ?_ AllReadyH.nil
   obtain ⟨W20, hW⟩ : ∃ W, W18.setRow (W17.heap.size) (pK ((crs x ty st l).S.getD (i + 1) st0)) = W := ⟨_, rfl⟩
   have hg : W18.grownBy W20 (some (W17.heap.size)) := hW ▸ grown_row _ _ _
   have hq : Cb W20 (W17.heap.size) (pK ((crs x ty st l).S.getD (i + 1) st0)) 76 := hW ▸ Cb.row M19 _
   rw [hW]
   replace HB := HB.grown hg (by omega) (oG (by omega))
   replace M2 := M2.kept hg (by omega)
   replace M4 := M4.kept hg (by omega)
   replace M6 := M6.kept hg (by omega)
   replace M8 := M8.kept hg (by omega)
   replace M10 := M10.kept hg (by omega)
   replace M12 := M12.kept hg (by omega)
   replace M13 := M13.kept hg (by omega)
   have z11 := hg.size
   replace M19 := hq
   clear hq hg hW
   refine Zu 13 rfl rfl (.int .i64 0) ⟨M2, M4, M6, M8, M10, M12, M13, (hTy.below HB), (hl.below HB), (hTm.below HB), trivial⟩ ?_
   refine sd_done (by kernel_rfl) ?_
   refine Yo ?_
   exact ⟨W17.heap.size, ⟨M19, by show _ ≤ _; omega, by show _ ≤ _; omega, HB, M2, M4, M6, M8, M10, M12, M13⟩, fr_less (by kernel_rfl)⟩
  refine sd_mem (i := 11) rfl (by kernel_rfl) rfl rfl (pt Y16.heap.size 0) (Y16.alloc (.cells nZ4 76)) (by kernel_rfl) ⟨(M2.below (below_alloc Y16 (.cells nZ4 76))), (M4.below (below_alloc Y16 (.cells nZ4 76))), (M6.below (below_alloc Y16 (.cells nZ4 76))), (M8.below (below_alloc Y16 (.cells nZ4 76))), (M10.below (below_alloc Y16 (.cells nZ4 76))), (M12.below (below_alloc Y16 (.cells nZ4 76))), (M13.below (below_alloc Y16 (.cells nZ4 76))), ((hTy.below HB).below (below_alloc Y16 (.cells nZ4 76))), ((hl.below HB).below (below_alloc Y16 (.cells nZ4 76))), ((hTm.below HB).below (below_alloc Y16 (.cells nZ4 76))), trivial⟩ ?_ AllReadyH.nil
  obtain ⟨W21, hW, hb, hq⟩ := laidA Y16 nZ4 76
  rw [hW]
  replace HB := over HB hb
  replace M2 := M2.below hb
  replace M4 := M4.below hb
  replace M6 := M6.below hb
  replace M8 := M8.below hb
  replace M10 := M10.below hb
  replace M12 := M12.below hb
  replace M13 := M13.below hb
  have z9 := hb.size
  have M22 := hq
  have yM22 := hq.lt
  clear hq hb hW
  refine sd_all [7] (by kernel_rfl) (by decide) ?_
  refine sd_call (i := 7) rfl (by kernel_rfl) rfl rfl (stop19_n k x hxl ty st l hp9 i hil W21 (hI.below HB)) (by kernel_rfl) ?_ AllReadyH.nil
  rintro e W23 ⟨rfl, hb⟩
  replace HB := over HB hb
  replace M2 := M2.below hb
  replace M4 := M4.below hb
  replace M6 := M6.below hb
  replace M8 := M8.below hb
  replace M10 := M10.below hb
  replace M12 := M12.below hb
  replace M13 := M13.below hb
  replace M22 := M22.below hb
  have z10 := hb.size
  clear hb
  refine ⟨_, rfl, ⟨M2, M4, M6, M8, M10, M12, M13, (hTy.below HB), (hl.below HB), (hTm.below HB), trivial⟩, ?_⟩
  refine Zu 8 rfl rfl (.tuple #[.agg (pK ((crs x ty st l).S.getD (i + 1) st0)), .int .i64 0]) ⟨M2, M4, M6, M8, M10, M12, M13, (hTy.below HB), (hl.below HB), (hTm.below HB), trivial⟩ ?_
  refine Zu 9 rfl rfl (.agg (pK ((crs x ty st l).S.getD (i + 1) st0))) ⟨M2, M4, M6, M8, M10, M12, M13, (hTy.below HB), (hl.below HB), (hTm.below HB), trivial⟩ ?_
  refine Zu 10 rfl rfl (.int .i64 0) ⟨M2, M4, M6, M8, M10, M12, M13, (hTy.below HB), (hl.below HB), (hTm.below HB), trivial⟩ ?_
  refine sd_all [12] (by kernel_rfl) (by decide) ?_
  refine sd_do (i := 12) rfl (by kernel_rfl) rfl (W23.setRow (Y16.heap.size) (pK ((crs x ty st l).S.getD (i + 1) st0))) (ex_store (cells := (pK ((crs x ty st l).S.getD (i + 1) st0))) rfl M22 (by kernel_rfl) (by kernel_rfl) (by kernel_rfl) (by kernel_rfl) (by kernel_rfl)) ⟨(M2.kept (grown_row _ _ _) (by omega)), (M4.kept (grown_row _ _ _) (by omega)), (M6.kept (grown_row _ _ _) (by omega)), (M8.kept (grown_row _ _ _) (by omega)), (M10.kept (grown_row _ _ _) (by omega)), (M12.kept (grown_row _ _ _) (by omega)), (M13.kept (grown_row _ _ _) (by omega)), (hTy.below (HB.grown (grown_row _ _ _) (by omega) (oG (by omega)))), (hl.below (HB.grown (grown_row _ _ _) (by omega) (oG (by omega)))), (hTm.below (HB.grown (grown_row _ _ _) (by omega) (oG (by omega)))), trivial⟩ ?_ AllReadyH.nil
  obtain ⟨W24, hW⟩ : ∃ W, W23.setRow (Y16.heap.size) (pK ((crs x ty st l).S.getD (i + 1) st0)) = W := ⟨_, rfl⟩
  have hg : W23.grownBy W24 (some (Y16.heap.size)) := hW ▸ grown_row _ _ _
  have hq : Cb W24 (Y16.heap.size) (pK ((crs x ty st l).S.getD (i + 1) st0)) 76 := hW ▸ Cb.row M22 _
  rw [hW]
  replace HB := HB.grown hg (by omega) (oG (by omega))
  replace M2 := M2.kept hg (by omega)
  replace M4 := M4.kept hg (by omega)
  replace M6 := M6.kept hg (by omega)
  replace M8 := M8.kept hg (by omega)
  replace M10 := M10.kept hg (by omega)
  replace M12 := M12.kept hg (by omega)
  replace M13 := M13.kept hg (by omega)
  have z11 := hg.size
  replace M22 := hq
  clear hq hg hW
  refine Zu 13 rfl rfl (.int .i64 0) ⟨M2, M4, M6, M8, M10, M12, M13, (hTy.below HB), (hl.below HB), (hTm.below HB), trivial⟩ ?_
  refine sd_done (by kernel_rfl) ?_
  refine Yo ?_
  exact ⟨Y16.heap.size, ⟨M22, by show _ ≤ _; omega, by show _ ≤ _; omega, HB, M2, M4, M6, M8, M10, M12, M13⟩, fr_less (by kernel_rfl)⟩
 clear HB M2 M4 M6 M8 M10 M12 M13
 rintro q16 g' wr15 ⟨Nq16, hq16, hsq16, HB, M2, M4, M6, M8, M10, M12, M13⟩
 have yNq16 := Nq16.lt
 refine Yq (Zw rfl (.agg (pK ((crs x ty st l).S.getD (i + 1) st0))) (ex_load rfl Nq16 (by kernel_rfl) Tryz.underlying76 rfl (by kernel_rfl)) (Zv rfl (.int .i64 a) ?_))
 by_cases C1 : ((crs x ty st l).S.getD (i + 1) st0).c < a
 ·refine Zd rfl ((by have h8 := begin08_n ((crs x ty st l).S.getD (i + 1) st0).p ((crs x ty st l).S.getD (i + 1) st0).o ((crs x ty st l).S.getD (i + 1) st0).c ((crs x ty st l).S.getD (i + 1) st0).s a wr15; rw [if_pos C1, if_pos C1] at h8; exact h8)) (fun W25 hb z8 => ?_)
  replace HB := over HB hb
  replace M10 := M10.below hb
  replace M12 := M12.below hb
  clear hb
  refine Zv rfl (.tuple #[.int .i64 0, .int .i64 14]) (Zv rfl (.int .i64 0) (Zv rfl (.int .i64 14) (Zv rfl (.int .i64 0) (Zv rfl (.int .i64 14) (Yn (Yo (Ys (Yq (Zv rfl (.int .i64 14) (Zv rfl (.bool true) (Yn (Yo (sx_true (by kernel_rfl) (Yq (Zv rfl (.agg nZM) ?_)))))))))))))))
  refine Zv rfl (.agg nZ3) (Zv rfl (.int .i64 14) ?_)
  refine Zr (cells := nZM) rfl rfl M10 (fun W26 hg hq => ?_)
  replace HB := HB.grown hg (by omega) (oG (by omega))
  replace M12 := M12.kept hg (by omega)
  have z9 := hg.size
  replace M10 := hq
  clear hq hg
  refine Zr (cells := nZ3) rfl rfl M12 (fun W27 hg hq => ?_)
  replace HB := HB.grown hg (by omega) (oG (by omega))
  replace M10 := M10.kept hg (by omega)
  have z10 := hg.size
  replace M12 := hq
  clear hq hg
  refine Zv rfl (.int .i64 14) (Yn (Yo (wp_ret (sx_rs ?_))))
  have hae : ((crs x ty st l).arE i a (N + a - D)) = 14 := by unfold CrT.arE; rw [if_pos (by assumption), hla]
  exact sx_retcct (v2 := .int .i64 14) M10 M12 rfl rfl rfl rfl (by kernel_rfl) (by kernel_rfl) (by kernel_rfl) Tryz.underlying61 rfl (by kernel_rfl) Tryz.underlying89 rfl (by kernel_rfl) ⟨by rw [hae]; rfl, HB⟩
 refine Zd rfl ((show Calls Tryz.prog 56 _ wr15 (fun e w' => e = .returned (.tuple #[.int .i64 ((crs x ty st l).bgA i a), .int .i64 0]) ∧ Below wr15.heap.size wr15 w') from by have h8 := begin08_n ((crs x ty st l).S.getD (i + 1) st0).p ((crs x ty st l).S.getD (i + 1) st0).o ((crs x ty st l).S.getD (i + 1) st0).c ((crs x ty st l).S.getD (i + 1) st0).s a wr15; rw [if_neg C1, if_neg C1] at h8; exact h8)) (fun W28 hb z8 => ?_)
 replace HB := over HB hb
 replace M2 := M2.below hb
 replace M4 := M4.below hb
 replace M6 := M6.below hb
 replace M8 := M8.below hb
 replace M10 := M10.below hb
 replace M12 := M12.below hb
 replace M13 := M13.below hb
 replace Nq16 := Nq16.below hb
 clear hb
 refine Zv rfl (.tuple #[.int .i64 ((crs x ty st l).bgA i a), .int .i64 0]) (Zv rfl (.int .i64 ((crs x ty st l).bgA i a)) (Zv rfl (.int .i64 0) (Zv rfl (.int .i64 ((crs x ty st l).bgA i a)) (Zv rfl (.int .i64 0) (Yn (Yo (Ys (Yq (Zv rfl (.int .i64 0) (Zv rfl (.bool false) (Yn (Yo (sx_false (by kernel_rfl) (wp_skip (Yo (Yq (Zv rfl (pt W5.heap.size 2) ?_)))))))))))))))))
 refine Zw rfl (.int .i64 N) (el (M8.cell 2 rfl) Tryz.underlying3) (Zv rfl (.int .i64 a) (Zi rfl (IntKind.i64.wrap (N + a)) ((N + a)) (by rw [IntKind.wrap_i64]; omega) (Zv rfl (pt W5.heap.size 1) (Zw rfl (.int .i64 D) (el (M8.cell 1 rfl) Tryz.underlying3) (Zi rfl (IntKind.i64.wrap ((N + a) - D)) ((N + a - D)) (by rw [IntKind.wrap_i64]; omega) (Zv rfl (.int .i64 (N + a - D)) (Yn (Yo (Ys (Yq (Zv rfl (.int .i64 (N + a - D)) (Zv rfl (pt W11.heap.size 9) (Zw rfl (.int .i64 ((x.tl.getD ty.toNat ty0).drv)) (el (M13.cell 9 rfl) Tryz.underlying3) ?_)))))))))))))
 by_cases C2 : (N + a - D) > (x.tl.getD ty.toNat ty0).drv
 ·refine Zb rfl (decide ((N + a - D) > (x.tl.getD ty.toNat ty0).drv)) true (decide_eq_true (by omega)) (Yn (Yo (sx_true (by kernel_rfl) (Yq (Zv rfl (.agg nZM) (Zv rfl (.agg nZ3) ?_))))))
  refine Zr (cells := nZM) rfl rfl M10 (fun W29 hg hq => ?_)
  replace HB := HB.grown hg (by omega) (oG (by omega))
  replace M12 := M12.kept hg (by omega)
  have z9 := hg.size
  replace M10 := hq
  clear hq hg
  refine Zr (cells := nZ3) rfl rfl M12 (fun W30 hg hq => ?_)
  replace HB := HB.grown hg (by omega) (oG (by omega))
  replace M10 := M10.kept hg (by omega)
  have z10 := hg.size
  replace M12 := hq
  clear hq hg
  refine Zv rfl (.int .i64 16) (Yn (Yo (wp_ret (sx_rs ?_))))
  have hae : ((crs x ty st l).arE i a (N + a - D)) = 16 := by unfold CrT.arE; rw [if_neg (by assumption), if_pos (show (crs x ty st l).ty.drv < N + a - D from (by omega : (x.tl.getD ty.toNat ty0).drv < N + a - D))]
  exact sx_retcct (v2 := .int .i64 16) M10 M12 rfl rfl rfl rfl (by kernel_rfl) (by kernel_rfl) (by kernel_rfl) Tryz.underlying61 rfl (by kernel_rfl) Tryz.underlying89 rfl (by kernel_rfl) ⟨by rw [hae]; rfl, HB⟩
 refine Zb rfl (decide ((N + a - D) > (x.tl.getD ty.toNat ty0).drv)) false (decide_eq_false (by omega)) (Yn (Yo (sx_false (by kernel_rfl) (wp_skip (Yo (Ys ?_))))))
 have hae : ((crs x ty st l).arE i a (N + a - D)) = 0 := by unfold CrT.arE; rw [if_neg (by assumption), if_neg (show ¬ (crs x ty st l).ty.drv < N + a - D from (by omega : ¬ (x.tl.getD ty.toNat ty0).drv < N + a - D))]
 have hbg := CrT.bgA_bd hc (k := i) (a := a) (by show i + 1 < (crsS _ _ _).length; rw [crsS_len]; omega) ha.1 (by omega)
 have hdp : ((crs x ty st l).onA S.rts i a (N + a - D)).dep = if (S.rts.getD (i + 1) false) = true then (crs x ty st l).dnA i a + (x.tl.getD ty.toNat ty0).rst else (crs x ty st l).dnA i a := rfl
 have hgs : CrT.gS (N + a - D) (S.rts.getD (i + 1) false) = if (S.rts.getD (i + 1) false) = true then 0 else N + a - D := rfl
 refine Yr (Zv rfl (.int .i64 ((crs x ty st l).bgA i a)) (Zv rfl (pt q16 3) (Zw rfl (.int .i64 (((crs x ty st l).S.getD (i + 1) st0).s)) (el (Nq16.cell 3 rfl) Tryz.underlying3) (Zi rfl (IntKind.i64.wrap (((crs x ty st l).bgA i a) + ((crs x ty st l).S.getD (i + 1) st0).s)) (((crs x ty st l).dnA i a)) (by have h9 : (crs x ty st l).dnA i a = ((crs x ty st l).bgA i a) + ((crs x ty st l).S.getD (i + 1) st0).s := rfl; rw [IntKind.wrap_i64]; omega) (Zv rfl (.int .i64 ((crs x ty st l).dnA i a)) (Yn (Yo ?_)))))))
 refine sx_cut (fun _ : Unit => [(0, .agg (iK k x)), (1, .agg (rK ty st orr F.length cr oa l.length ca)), (2, .agg (sK S oS cS)), (3, .int .i64 ((i : Nat) : Int)), (4, .agg #[.int .i64 P, .int .i64 D, .int .i64 N]), (5, .int .i64 a), (6, .pointer (some ⟨w.heap.size, 0, none⟩)), (7, .pointer (some ⟨W1.heap.size, 0, none⟩)), (8, .pointer (some ⟨W3.heap.size, 0, none⟩)), (10, .pointer (some ⟨W5.heap.size, 0, none⟩)), (12, .pointer (some ⟨W7.heap.size, 0, none⟩)), (13, .pointer (some ⟨W9.heap.size, 0, none⟩)), (14, .int .i64 0), (15, .pointer (some ⟨W11.heap.size, 0, none⟩)), (16, .pointer (some ⟨q16, 0, none⟩)), (17, .int .i64 0), (18, .int .i64 ((crs x ty st l).bgA i a)), (19, .int .i64 0), (20, .int .i64 (CrT.gS (N + a - D) (S.rts.getD (i + 1) false))), (21, .int .i64 (((crs x ty st l).onA S.rts i a (N + a - D)).dep)), (22, .pointer (some ⟨w.heap.size, 2, none⟩)), (23, .slice k.o2 x.tl.length k.c2), (24, .pointer (some ⟨W1.heap.size, 0, none⟩)), (25, .int .i64 ty), (26, .pointer (some ⟨bt, qt + (ty.toNat) * 14, none⟩)), (27, .agg (tK (x.tl.getD ty.toNat ty0) (va ty.toNat) (vb ty.toNat))), (39, .tuple #[.int .i64 ((crs x ty st l).bgA i a), .int .i64 0]), (40, .agg (pK ((crs x ty st l).S.getD (i + 1) st0))), (41, .int .i64 a), (42, .tuple #[.int .i64 ((crs x ty st l).bgA i a), .int .i64 0]), (43, .int .i64 ((crs x ty st l).bgA i a)), (44, .int .i64 0), (45, .int .i64 0), (46, .bool false), (50, .pointer (some ⟨W5.heap.size, 2, none⟩)), (51, .int .i64 N), (52, .int .i64 a), (53, .int .i64 (N + a)), (54, .pointer (some ⟨W5.heap.size, 1, none⟩)), (55, .int .i64 D), (56, .int .i64 (N + a - D)), (57, .int .i64 (N + a - D)), (58, .pointer (some ⟨W11.heap.size, 9, none⟩)), (59, .int .i64 ((x.tl.getD ty.toNat ty0).drv)), (60, .bool false), (63, .int .i64 ((crs x ty st l).bgA i a)), (64, .pointer (some ⟨q16, 3, none⟩)), (65, .int .i64 (((crs x ty st l).S.getD (i + 1) st0).s)), (66, .int .i64 ((crs x ty st l).dnA i a))]) (fun _ wr => W28.heap.size ≤ wr.heap.size ∧ Below w.heap.size w wr ∧ Cb wr (w.heap.size) (iK k x) 30 ∧ Cb wr (W1.heap.size) (rK ty st orr F.length cr oa l.length ca) 34 ∧ Cb wr (W3.heap.size) (sK S oS cS) 37 ∧ Cb wr (W5.heap.size) #[.int .i64 P, .int .i64 D, .int .i64 N] 89 ∧ Cb wr (W7.heap.size) nZM 61 ∧ Cb wr (W9.heap.size) nZ3 89 ∧ Cb wr (W11.heap.size) (tK (x.tl.getD ty.toNat ty0) (va ty.toNat) (vb ty.toNat)) 80 ∧ Cb wr (q16) (pK ((crs x ty st l).S.getD (i + 1) st0)) 76) ?_ ?_
 ·refine Yq (Zv rfl (pt W3.heap.size 2) (Zw rfl (.slice oS S.T.length cS) (el (M6.cell 2 rfl) Tryz.underlying35) (Zv rfl (.int .i64 ((i : Nat) : Int)) (Zw rfl (pt bS (qS + i * 4)) (ex_indexO (q := qS) (m := S.T.length) (c := cS) (k := i) (s := 4) rfl (by kernel_rfl) ((hTm.below HB).oa (k := i) (by omega)) (by kernel_rfl) Tryz.underlying35 (by kernel_rfl) (by omega) (by omega)) (Zv rfl (pt bS (qS + i * 4 + 3)) (Zw rfl (.bool (S.rts.getD (i + 1) false)) (el ((hTm.below HB).cell (k := i) (by omega) 3 (v := .bool (S.rts.getD (i + 1) false)) rfl) Tryz.underlying4) (Yn (Yo ?_))))))))
  by_cases C3 : (S.rts.getD (i + 1) false) = true
  ·refine sx_true (by show Value.bool (S.rts.getD (i + 1) false) = .bool true; rw [C3]) (Ys ?_)
   rw [if_pos C3] at hdp hgs
   refine Yr (Zv rfl (.int .i64 ((crs x ty st l).dnA i a)) (Zv rfl (pt W11.heap.size 10) (Zw rfl (.int .i64 ((x.tl.getD ty.toNat ty0).rst)) (el (M13.cell 10 rfl) Tryz.underlying3) (Zi rfl (IntKind.i64.wrap (((crs x ty st l).dnA i a) + (x.tl.getD ty.toNat ty0).rst)) (((crs x ty st l).onA S.rts i a (N + a - D)).dep) (by rw [IntKind.wrap_i64]; omega) (Zv rfl (.int .i64 (((crs x ty st l).onA S.rts i a (N + a - D)).dep)) (Yn (Yo (Yr (Zv rfl (.int .i64 0) (Yn (Yo ?_)))))))))))
   refine ⟨(), ⟨by show _ ≤ _; omega, HB, M2, M4, M6, M8, M10, M12, M13, Nq16⟩, ?_⟩
   rw [show (CrT.gS (N + a - D) (S.rts.getD (i + 1) false)) = 0 from (by first | exact hgs | rw [hgs, if_neg (by assumption)])]
   exact fr_less (by kernel_rfl)
  refine sx_false (by show Value.bool (S.rts.getD (i + 1) false) = .bool false; rw [show (S.rts.getD (i + 1) false) = false by simpa using C3]) (wp_skip (Yo ?_))
  refine ⟨(), ⟨by show _ ≤ _; omega, HB, M2, M4, M6, M8, M10, M12, M13, Nq16⟩, ?_⟩
  rw [show (((crs x ty st l).onA S.rts i a (N + a - D)).dep) = ((crs x ty st l).dnA i a) from (by first | exact hdp | rw [hdp, if_neg (by assumption)]), show (CrT.gS (N + a - D) (S.rts.getD (i + 1) false)) = (N + a - D) from (by first | exact hgs | rw [hgs, if_neg (by assumption)])]
  exact fr_less (by kernel_rfl)
 clear HB M2 M4 M6 M8 M10 M12 M13 Nq16
 rintro - g' wr31 ⟨hzwr31, HB, M2, M4, M6, M8, M10, M12, M13, Nq16⟩
 refine Ys ?_
 obtain ⟨Y32, hW⟩ : ∃ W, wr31.drew = W := ⟨_, rfl⟩
 have hb : Below wr31.heap.size wr31 Y32 := hW ▸ below_drew (Below.refl _ _)
 replace HB := over HB hb
 replace M2 := M2.below hb
 replace M4 := M4.below hb
 replace M6 := M6.below hb
 replace M8 := M8.below hb
 replace M10 := M10.below hb
 replace M12 := M12.below hb
 replace M13 := M13.below hb
 replace Nq16 := Nq16.below hb
 have z9 := hb.size
 clear hb
 refine sd_begin (fun W => Cb W (w.heap.size) (iK k x) 30 ∧ Cb W (W1.heap.size) (rK ty st orr F.length cr oa l.length ca) 34 ∧ Cb W (W3.heap.size) (sK S oS cS) 37 ∧ Cb W (W5.heap.size) #[.int .i64 P, .int .i64 D, .int .i64 N] 89 ∧ Cb W (W11.heap.size) (tK (x.tl.getD ty.toNat ty0) (va ty.toNat) (vb ty.toNat)) 80 ∧ Cb W (q16) (pK ((crs x ty st l).S.getD (i + 1) st0)) 76 ∧ Rw W bt qt 14 (tyF x.tl va vb) x.tl.length k.o2 ∧ Rw W b o 2 (vF l) l.length oa ∧ Rw W bS qS 4 (fun i1 => tmE ((crs x ty st l).tm S.rts i1)) S.T.length oS ∧ True) (by kernel_rfl) (by rw [hW]; exact ⟨M2, M4, M6, M8, M13, Nq16, (hTy.below HB), (hl.below HB), (hTm.below HB), trivial⟩) ?_
 rw [hW]
 clear hW
 refine Zu 0 rfl rfl (.int .i64 a) ⟨M2, M4, M6, M8, M13, Nq16, (hTy.below HB), (hl.below HB), (hTm.below HB), trivial⟩ ?_
 refine Zu 1 rfl rfl (.int .i64 ((crs x ty st l).bgA i a)) ⟨M2, M4, M6, M8, M13, Nq16, (hTy.below HB), (hl.below HB), (hTm.below HB), trivial⟩ ?_
 refine Zu 2 rfl rfl (.int .i64 (((crs x ty st l).onA S.rts i a (N + a - D)).dep)) ⟨M2, M4, M6, M8, M13, Nq16, (hTy.below HB), (hl.below HB), (hTm.below HB), trivial⟩ ?_
 refine Zu 3 rfl rfl (pt W3.heap.size 2) ⟨M2, M4, M6, M8, M13, Nq16, (hTy.below HB), (hl.below HB), (hTm.below HB), trivial⟩ ?_
 refine Zt 4 rfl rfl (.slice oS S.T.length cS) (fun w9 h9 => el (h9.2.2.1.cell 2 rfl) Tryz.underlying35) ⟨M2, M4, M6, M8, M13, Nq16, (hTy.below HB), (hl.below HB), (hTm.below HB), trivial⟩ ?_
 refine Zu 5 rfl rfl (.int .i64 ((i : Nat) : Int)) ⟨M2, M4, M6, M8, M13, Nq16, (hTy.below HB), (hl.below HB), (hTm.below HB), trivial⟩ ?_
 refine Zt 6 rfl rfl (pt bS (qS + i * 4)) (fun w9 h9 => ex_indexO (q := qS) (m := S.T.length) (c := cS) (k := i) (s := 4) rfl (by kernel_rfl) (h9.2.2.2.2.2.2.2.2.1.oa (k := i) (by omega)) (by kernel_rfl) Tryz.underlying35 (by kernel_rfl) (by omega) (by omega)) ⟨M2, M4, M6, M8, M13, Nq16, (hTy.below HB), (hl.below HB), (hTm.below HB), trivial⟩ ?_
 refine Zu 7 rfl rfl (pt bS (qS + i * 4 + 3)) ⟨M2, M4, M6, M8, M13, Nq16, (hTy.below HB), (hl.below HB), (hTm.below HB), trivial⟩ ?_
 refine Zt 8 rfl rfl (.bool (S.rts.getD (i + 1) false)) (fun w9 h9 => el (h9.2.2.2.2.2.2.2.2.1.cell (k := i) (by omega) 3 (v := .bool (S.rts.getD (i + 1) false)) rfl) Tryz.underlying4) ⟨M2, M4, M6, M8, M13, Nq16, (hTy.below HB), (hl.below HB), (hTm.below HB), trivial⟩ ?_
 refine Zu 9 rfl rfl (.agg #[.int .i64 a, .int .i64 ((crs x ty st l).bgA i a), .int .i64 (((crs x ty st l).onA S.rts i a (N + a - D)).dep), .bool (S.rts.getD (i + 1) false)]) ⟨M2, M4, M6, M8, M13, Nq16, (hTy.below HB), (hl.below HB), (hTm.below HB), trivial⟩ ?_
 refine Zu 10 rfl rfl (pt q16 0) ⟨M2, M4, M6, M8, M13, Nq16, (hTy.below HB), (hl.below HB), (hTm.below HB), trivial⟩ ?_
 refine Zt 11 rfl rfl (.int .i64 (((crs x ty st l).S.getD (i + 1) st0).p)) (fun w9 h9 => el (h9.2.2.2.2.2.1.cell 0 rfl) Tryz.underlying3) ⟨M2, M4, M6, M8, M13, Nq16, (hTy.below HB), (hl.below HB), (hTm.below HB), trivial⟩ ?_
 refine Zu 12 rfl rfl (.int .i64 (((crs x ty st l).onA S.rts i a (N + a - D)).dep)) ⟨M2, M4, M6, M8, M13, Nq16, (hTy.below HB), (hl.below HB), (hTm.below HB), trivial⟩ ?_
 refine Zu 13 rfl rfl (.int .i64 (CrT.gS (N + a - D) (S.rts.getD (i + 1) false))) ⟨M2, M4, M6, M8, M13, Nq16, (hTy.below HB), (hl.below HB), (hTm.below HB), trivial⟩ ?_
 refine Zu 14 rfl rfl (.agg #[.int .i64 (((crs x ty st l).S.getD (i + 1) st0).p), .int .i64 (((crs x ty st l).onA S.rts i a (N + a - D)).dep), .int .i64 (CrT.gS (N + a - D) (S.rts.getD (i + 1) false))]) ⟨M2, M4, M6, M8, M13, Nq16, (hTy.below HB), (hl.below HB), (hTm.below HB), trivial⟩ ?_
 refine sd_all [15] (by kernel_rfl) (by decide) ?_
 refine sd_do (i := 15) rfl (by kernel_rfl) rfl (Y32.setRow (W7.heap.size) #[.int .i64 a, .int .i64 ((crs x ty st l).bgA i a), .int .i64 (((crs x ty st l).onA S.rts i a (N + a - D)).dep), .bool (S.rts.getD (i + 1) false)]) (ex_store (cells := #[.int .i64 a, .int .i64 ((crs x ty st l).bgA i a), .int .i64 (((crs x ty st l).onA S.rts i a (N + a - D)).dep), .bool (S.rts.getD (i + 1) false)]) rfl M10 (by kernel_rfl) (by kernel_rfl) (by kernel_rfl) (by kernel_rfl) (by kernel_rfl)) ⟨(M2.kept (grown_row _ _ _) (by omega)), (M4.kept (grown_row _ _ _) (by omega)), (M6.kept (grown_row _ _ _) (by omega)), (M8.kept (grown_row _ _ _) (by omega)), (M13.kept (grown_row _ _ _) (by omega)), (Nq16.kept (grown_row _ _ _) (by omega)), (hTy.below (HB.grown (grown_row _ _ _) (by omega) (oG (by omega)))), (hl.below (HB.grown (grown_row _ _ _) (by omega) (oG (by omega)))), (hTm.below (HB.grown (grown_row _ _ _) (by omega) (oG (by omega)))), trivial⟩ ?_ AllReadyH.nil
 obtain ⟨W33, hW⟩ : ∃ W, Y32.setRow (W7.heap.size) #[.int .i64 a, .int .i64 ((crs x ty st l).bgA i a), .int .i64 (((crs x ty st l).onA S.rts i a (N + a - D)).dep), .bool (S.rts.getD (i + 1) false)] = W := ⟨_, rfl⟩
 have hg : Y32.grownBy W33 (some (W7.heap.size)) := hW ▸ grown_row _ _ _
 have hq : Cb W33 (W7.heap.size) #[.int .i64 a, .int .i64 ((crs x ty st l).bgA i a), .int .i64 (((crs x ty st l).onA S.rts i a (N + a - D)).dep), .bool (S.rts.getD (i + 1) false)] 61 := hW ▸ Cb.row M10 _
 rw [hW]
 replace HB := HB.grown hg (by omega) (oG (by omega))
 replace M2 := M2.kept hg (by omega)
 replace M4 := M4.kept hg (by omega)
 replace M6 := M6.kept hg (by omega)
 replace M8 := M8.kept hg (by omega)
 replace M12 := M12.kept hg (by omega)
 replace M13 := M13.kept hg (by omega)
 replace Nq16 := Nq16.kept hg (by omega)
 have z10 := hg.size
 replace M10 := hq
 clear hq hg hW
 refine sd_all [16] (by kernel_rfl) (by decide) ?_
 refine sd_do (i := 16) rfl (by kernel_rfl) rfl (W33.setRow (W9.heap.size) #[.int .i64 (((crs x ty st l).S.getD (i + 1) st0).p), .int .i64 (((crs x ty st l).onA S.rts i a (N + a - D)).dep), .int .i64 (CrT.gS (N + a - D) (S.rts.getD (i + 1) false))]) (ex_store (cells := #[.int .i64 (((crs x ty st l).S.getD (i + 1) st0).p), .int .i64 (((crs x ty st l).onA S.rts i a (N + a - D)).dep), .int .i64 (CrT.gS (N + a - D) (S.rts.getD (i + 1) false))]) rfl M12 (by kernel_rfl) (by kernel_rfl) (by kernel_rfl) (by kernel_rfl) (by kernel_rfl)) ⟨(M2.kept (grown_row _ _ _) (by omega)), (M4.kept (grown_row _ _ _) (by omega)), (M6.kept (grown_row _ _ _) (by omega)), (M8.kept (grown_row _ _ _) (by omega)), (M13.kept (grown_row _ _ _) (by omega)), (Nq16.kept (grown_row _ _ _) (by omega)), (hTy.below (HB.grown (grown_row _ _ _) (by omega) (oG (by omega)))), (hl.below (HB.grown (grown_row _ _ _) (by omega) (oG (by omega)))), (hTm.below (HB.grown (grown_row _ _ _) (by omega) (oG (by omega)))), trivial⟩ ?_ AllReadyH.nil
 obtain ⟨W34, hW⟩ : ∃ W, W33.setRow (W9.heap.size) #[.int .i64 (((crs x ty st l).S.getD (i + 1) st0).p), .int .i64 (((crs x ty st l).onA S.rts i a (N + a - D)).dep), .int .i64 (CrT.gS (N + a - D) (S.rts.getD (i + 1) false))] = W := ⟨_, rfl⟩
 have hg : W33.grownBy W34 (some (W9.heap.size)) := hW ▸ grown_row _ _ _
 have hq : Cb W34 (W9.heap.size) #[.int .i64 (((crs x ty st l).S.getD (i + 1) st0).p), .int .i64 (((crs x ty st l).onA S.rts i a (N + a - D)).dep), .int .i64 (CrT.gS (N + a - D) (S.rts.getD (i + 1) false))] 89 := hW ▸ Cb.row M12 _
 rw [hW]
 replace HB := HB.grown hg (by omega) (oG (by omega))
 replace M2 := M2.kept hg (by omega)
 replace M4 := M4.kept hg (by omega)
 replace M6 := M6.kept hg (by omega)
 replace M8 := M8.kept hg (by omega)
 replace M10 := M10.kept hg (by omega)
 replace M13 := M13.kept hg (by omega)
 replace Nq16 := Nq16.kept hg (by omega)
 have z11 := hg.size
 replace M12 := hq
 clear hq hg hW
 refine Zu 17 rfl rfl (.int .i64 0) ⟨M2, M4, M6, M8, M13, Nq16, (hTy.below HB), (hl.below HB), (hTm.below HB), trivial⟩ ?_
 refine sd_done (by kernel_rfl) ?_
 refine Yo (wp_ret ?_)
 exact sx_retcct (v2 := .int .i64 0) M10 M12 rfl rfl rfl rfl (by kernel_rfl) (by kernel_rfl) (by kernel_rfl) Tryz.underlying61 rfl (by kernel_rfl) Tryz.underlying89 rfl (by kernel_rfl) ⟨by rw [hae]; rfl, HB⟩
theorem arrival19_n (k : Iv) (x : InT) (hxl : x.ol.length ≤ 1000000) (ty st : Int) (orr oa : Option Addr) (cr ca b o : Nat) (l : List (Int × Bool)) (F : List Bool) (hc : (crs x ty st l).Ok) (hp9 : posD x.tl x.ol ty st l = true) (w : World) (hI : Ins w k x) (hl : Rw w b o 2 (vF l) l.length oa) (i : Nat) (hil : i ≤ l.length) (D N : Int) (hD : 0 ≤ D ∧ D ≤ 1000000) : Calls Tryz.prog 36 #[.agg (iK k x), .agg (rK ty st orr F.length cr oa l.length ca), .agg #[.int .i64 (((crs x ty st l).S.getD i st0).p), .int .i64 D, .int .i64 N], .int .i64 ((i : Nat) : Int)] w fun e w' => e = .returned (.tuple #[.int .i64 (goV x.pl.length x.al (x.tl.getD ty.toNat ty0).prof ((crs x ty st l).S.getD i st0).p ((crs x ty st l).S.getD (i + 1) st0).p D).1, .int .i64 (goV x.pl.length x.al (x.tl.getD ty.toNat ty0).prof ((crs x ty st l).S.getD i st0).p ((crs x ty st l).S.getD (i + 1) st0).p D).2.2]) ∧ Below w.heap.size w w' := by
 have HB : Below w.heap.size w w := Below.refl _ _
 have hn9 : (crs x ty st l).n = l.length + 1 := crs_n x ty st l
 obtain ⟨hy1, hy2, -, -⟩ := posD_ty hp9
 have hl20 := posD_len hp9
 have hyt : ((ty.toNat : Nat) : Int) = ty := Int.toNat_of_nonneg hy1
 have hrst : 0 ≤ (x.tl.getD ty.toNat ty0).rst ∧ (x.tl.getD ty.toNat ty0).rst ≤ 4096 := hc.rst
 have hdrv : 1 ≤ (x.tl.getD ty.toNat ty0).drv ∧ (x.tl.getD ty.toNat ty0).drv ≤ 4096 := hc.drv
 obtain ⟨bt, qt, va, vb, hTy⟩ := hI.h2.rw
 refine sx_enter Tryz.func36 rfl [(0, .agg (iK k x)), (1, .agg (rK ty st orr F.length cr oa l.length ca)), (2, .agg #[.int .i64 (((crs x ty st l).S.getD i st0).p), .int .i64 D, .int .i64 N]), (3, .int .i64 ((i : Nat) : Int))] (by kernel_rfl) ?_
 refine Yq ?_
 refine Za rfl (iK k x) 30 (fun W1 hb M2 z1 yM2 => ?_)
 replace HB := over HB hb
 clear hb
 refine Za rfl (rK ty st orr F.length cr oa l.length ca) 34 (fun W3 hb M4 z2 yM4 => ?_)
 replace HB := over HB hb
 replace M2 := M2.below hb
 clear hb
 refine Za rfl #[.int .i64 (((crs x ty st l).S.getD i st0).p), .int .i64 D, .int .i64 N] 89 (fun W5 hb M6 z3 yM6 => ?_)
 replace HB := over HB hb
 replace M2 := M2.below hb
 replace M4 := M4.below hb
 clear hb
 refine Zv rfl (.int .i64 0) (Zv rfl (.int .i64 0) (Yn (Yo (Yq (Zv rfl (pt w.heap.size 2) (Zw rfl (.slice k.o2 x.tl.length k.c2) (el (M2.cell 2 rfl) Tryz.underlying26) (Zv rfl (pt W1.heap.size 0) (Zw rfl (.int .i64 ty) (el (M4.cell 0 rfl) Tryz.underlying3) (Zw rfl (pt bt (qt + (ty.toNat) * 14)) (ex_indexO (q := qt) (m := x.tl.length) (c := k.c2) (k := ty.toNat) (s := 14) rfl (by kernel_rfl) ((hTy.below HB).oa (k := ty.toNat) (by omega)) (by rw [hyt]; kernel_rfl) Tryz.underlying26 (by kernel_rfl) (by omega) (by omega)) (Zw rfl (.agg (tK (x.tl.getD ty.toNat ty0) (va ty.toNat) (vb ty.toNat))) (ex_loadR rfl ((hTy.below HB).range (k := ty.toNat) (by omega)) (by kernel_rfl) Tryz.underlying80 rfl (by kernel_rfl)) ?_))))))))))
 obtain ⟨W8, hW⟩ : ∃ W, (W5.alloc (.cells nZT 80)).setRow W5.heap.size (tK (x.tl.getD ty.toNat ty0) (va ty.toNat) (vb ty.toNat)) = W := ⟨_, rfl⟩
 have hb := hW ▸ below_var W5 (.cells nZT 80) (tK (x.tl.getD ty.toNat ty0) (va ty.toNat) (vb ty.toNat))
 have hq : Cb W8 W5.heap.size (tK (x.tl.getD ty.toNat ty0) (va ty.toNat) (vb ty.toNat)) 80 := hW ▸ Cb.row (Cb.made W5 nZT 80) _
 refine sx_mem (by kernel_rfl) rfl rfl (pt W5.heap.size 0) (W5.alloc (.cells nZT 80)) (by kernel_rfl) ?_
 refine Zs (cells := (tK (x.tl.getD ty.toNat ty0) (va ty.toNat) (vb ty.toNat))) rfl rfl (Cb.made W5 nZT 80) ?_
 rw [hW]
 replace HB := over HB hb
 replace M2 := M2.below hb
 replace M4 := M4.below hb
 replace M6 := M6.below hb
 have z4 := hb.size
 have M7 := hq
 have yM7 := hq.lt
 clear hq hb hW
 refine Yn (Yo (Yq (Zv rfl (pt W5.heap.size 3) (Zw rfl (.int .i64 ((x.tl.getD ty.toNat ty0).to)) (el (M7.cell 3 rfl) Tryz.underlying3) (Zv rfl (.int .i64 ((x.tl.getD ty.toNat ty0).to)) (Yn (Yo ?_)))))))
 have hse : l.length ≤ i → (x.tl.getD ty.toNat ty0).to = ((crs x ty st l).S.getD (i + 1) st0).p := fun h => by rw [show i + 1 = l.length + 1 by omega, crs_endJ]
 refine sx_cut (fun _ : Unit => [(0, .agg (iK k x)), (1, .agg (rK ty st orr F.length cr oa l.length ca)), (2, .agg #[.int .i64 (((crs x ty st l).S.getD i st0).p), .int .i64 D, .int .i64 N]), (3, .int .i64 ((i : Nat) : Int)), (4, .pointer (some ⟨w.heap.size, 0, none⟩)), (5, .pointer (some ⟨W1.heap.size, 0, none⟩)), (6, .pointer (some ⟨W3.heap.size, 0, none⟩)), (8, .int .i64 0), (9, .int .i64 0), (10, .pointer (some ⟨W5.heap.size, 0, none⟩)), (11, .int .i64 (((crs x ty st l).S.getD (i + 1) st0).p)), (15, .pointer (some ⟨w.heap.size, 2, none⟩)), (16, .slice k.o2 x.tl.length k.c2), (17, .pointer (some ⟨W1.heap.size, 0, none⟩)), (18, .int .i64 ty), (19, .pointer (some ⟨bt, qt + (ty.toNat) * 14, none⟩)), (20, .agg (tK (x.tl.getD ty.toNat ty0) (va ty.toNat) (vb ty.toNat))), (21, .pointer (some ⟨W5.heap.size, 3, none⟩)), (22, .int .i64 ((x.tl.getD ty.toNat ty0).to))]) (fun _ wr => W8.heap.size ≤ wr.heap.size ∧ Below w.heap.size w wr ∧ Cb wr (w.heap.size) (iK k x) 30 ∧ Cb wr (W1.heap.size) (rK ty st orr F.length cr oa l.length ca) 34 ∧ Cb wr (W3.heap.size) #[.int .i64 (((crs x ty st l).S.getD i st0).p), .int .i64 D, .int .i64 N] 89 ∧ Cb wr (W5.heap.size) (tK (x.tl.getD ty.toNat ty0) (va ty.toNat) (vb ty.toNat)) 80) ?_ ?_
 ·refine Yq (Zv rfl (.int .i64 ((i : Nat) : Int)) (Zv rfl (pt W1.heap.size 3) (Zw rfl (.slice oa l.length ca) (el (M4.cell 3 rfl) Tryz.underlying32) (Zv rfl (.int .i64 ((l.length : Nat) : Int)) ?_))))
  by_cases C1 : i < l.length
  ·refine Zb rfl (decide (((i : Nat) : Int) < ((l.length : Nat) : Int))) true (decide_eq_true (by omega)) (Yn (Yo (sx_true (by kernel_rfl) ?_)))
   obtain ⟨Y10, hW⟩ : ∃ W, W8.drew = W := ⟨_, rfl⟩
   have hb : Below W8.heap.size W8 Y10 := hW ▸ below_drew (Below.refl _ _)
   replace HB := over HB hb
   replace M2 := M2.below hb
   replace M4 := M4.below hb
   replace M6 := M6.below hb
   replace M7 := M7.below hb
   have z5 := hb.size
   clear hb
   refine sd_begin (fun W => Cb W (w.heap.size) (iK k x) 30 ∧ Cb W (W1.heap.size) (rK ty st orr F.length cr oa l.length ca) 34 ∧ Cb W (W3.heap.size) #[.int .i64 (((crs x ty st l).S.getD i st0).p), .int .i64 D, .int .i64 N] 89 ∧ Cb W (W5.heap.size) (tK (x.tl.getD ty.toNat ty0) (va ty.toNat) (vb ty.toNat)) 80 ∧ Rw W bt qt 14 (tyF x.tl va vb) x.tl.length k.o2 ∧ Rw W b o 2 (vF l) l.length oa ∧ True) (by kernel_rfl) (by rw [hW]; exact ⟨M2, M4, M6, M7, (hTy.below HB), (hl.below HB), trivial⟩) ?_
   rw [hW]
   clear hW
   refine Zt 0 rfl rfl (.agg (iK k x)) (fun w9 h9 => ex_load rfl h9.1 (by kernel_rfl) Tryz.underlying30 rfl (by kernel_rfl)) ⟨M2, M4, M6, M7, (hTy.below HB), (hl.below HB), trivial⟩ ?_
   refine Zu 1 rfl rfl (pt W1.heap.size 3) ⟨M2, M4, M6, M7, (hTy.below HB), (hl.below HB), trivial⟩ ?_
   refine Zt 2 rfl rfl (.slice oa l.length ca) (fun w9 h9 => el (h9.2.1.cell 3 rfl) Tryz.underlying32) ⟨M2, M4, M6, M7, (hTy.below HB), (hl.below HB), trivial⟩ ?_
   refine Zu 3 rfl rfl (.int .i64 ((i : Nat) : Int)) ⟨M2, M4, M6, M7, (hTy.below HB), (hl.below HB), trivial⟩ ?_
   refine Zt 4 rfl rfl (pt b (o + i * 2)) (fun w9 h9 => ex_indexO (q := o) (m := l.length) (c := ca) (k := i) (s := 2) rfl (by kernel_rfl) (h9.2.2.2.2.2.1.oa (k := i) (by omega)) (by kernel_rfl) Tryz.underlying32 (by kernel_rfl) (by omega) (by omega)) ⟨M2, M4, M6, M7, (hTy.below HB), (hl.below HB), trivial⟩ ?_
   refine Zt 5 rfl rfl (.agg #[.int .i64 ((l.getD i (0, false)).1), .bool (l.getD i (0, false)).2]) (fun w9 h9 => ex_loadR rfl (h9.2.2.2.2.2.1.range (k := i) (by omega)) (by kernel_rfl) Tryz.underlying82 rfl (by kernel_rfl)) ⟨M2, M4, M6, M7, (hTy.below HB), (hl.below HB), trivial⟩ ?_
   refine sd_all [6] (by kernel_rfl) (by decide) ?_
   refine sd_call (i := 6) rfl (by kernel_rfl) rfl rfl (place19_n k x hxl ty st l hp9 i (by omega) Y10 (hI.below HB)) (by kernel_rfl) ?_ AllReadyH.nil
   rintro e W11 ⟨rfl, hb⟩
   replace HB := over HB hb
   replace M2 := M2.below hb
   replace M4 := M4.below hb
   replace M6 := M6.below hb
   replace M7 := M7.below hb
   have z6 := hb.size
   clear hb
   refine ⟨_, rfl, ⟨M2, M4, M6, M7, (hTy.below HB), (hl.below HB), trivial⟩, ?_⟩
   refine Zu 7 rfl rfl (.int .i64 (((crs x ty st l).S.getD (i + 1) st0).p)) ⟨M2, M4, M6, M7, (hTy.below HB), (hl.below HB), trivial⟩ ?_
   refine sd_done (by kernel_rfl) ?_
   refine Yo ?_
   exact ⟨(), ⟨by show _ ≤ _; omega, HB, M2, M4, M6, M7⟩, fr_less (by kernel_rfl)⟩
  refine Zb rfl (decide (((i : Nat) : Int) < ((l.length : Nat) : Int))) false (decide_eq_false (by omega)) (Yn (Yo (sx_false (by kernel_rfl) (wp_skip (Yo ?_)))))
  refine ⟨(), ⟨by show _ ≤ _; omega, HB, M2, M4, M6, M7⟩, ?_⟩
  rw [show (((crs x ty st l).S.getD (i + 1) st0).p) = ((x.tl.getD ty.toNat ty0).to) from (hse (by omega)).symm]
  exact fr_less (by kernel_rfl)
 clear HB M2 M4 M6 M7
 rintro - g' wr9 ⟨hzwr9, HB, M2, M4, M6, M7⟩
 refine Yq (Zv rfl (pt w.heap.size 0) (Zw rfl (.agg #[.slice k.o0 x.pl.length k.c0, .slice k.o1 x.al.length k.c1]) (ex_mid (q := 0) rfl M2 [.slice k.o0 x.pl.length k.c0, .slice k.o1 x.al.length k.c1] (by kernel_rfl) Tryz.underlying25 rfl (by kernel_rfl) rfl) (Zv rfl (pt W5.heap.size 6) (Zw rfl (.int .i64 ((x.tl.getD ty.toNat ty0).prof)) (el (M7.cell 6 rfl) Tryz.underlying3) (Zv rfl (pt W3.heap.size 0) (Zw rfl (.int .i64 (((crs x ty st l).S.getD i st0).p)) (el (M6.cell 0 rfl) Tryz.underlying3) (Zv rfl (.int .i64 (((crs x ty st l).S.getD (i + 1) st0).p)) (Zv rfl (pt W3.heap.size 1) (Zw rfl (.int .i64 D) (el (M6.cell 1 rfl) Tryz.underlying3) ?_)))))))))
 refine Zd rfl ((show Calls Tryz.prog 57 #[.agg #[.slice k.o0 x.pl.length k.c0, .slice k.o1 x.al.length k.c1], .int .i64 (x.tl.getD ty.toNat ty0).prof, .int .i64 ((crs x ty st l).S.getD i st0).p, .int .i64 ((crs x ty st l).S.getD (i + 1) st0).p, .int .i64 D] wr9 (GoP (goV x.pl.length x.al (x.tl.getD ty.toNat ty0).prof ((crs x ty st l).S.getD i st0).p ((crs x ty st l).S.getD (i + 1) st0).p D) wr9) from refGo_n (.slice k.o0 x.pl.length k.c0) (.slice k.o1 x.al.length k.c1) x.pl x.al (x.tl.getD ty.toNat ty0).prof ((crs x ty st l).S.getD i st0).p ((crs x ty st l).S.getD (i + 1) st0).p D (by have := hc.al; show x.al.length ≤ _; exact Nat.le_trans this (by decide)) hc.net (by omega) (by omega) wr9 (hI.below HB).h0 (hI.below HB).h1)) (fun W12 hb z5 => ?_)
 replace HB := over HB hb
 clear hb
 refine Zv rfl (.tuple #[.int .i64 ((goV x.pl.length x.al (x.tl.getD ty.toNat ty0).prof ((crs x ty st l).S.getD i st0).p ((crs x ty st l).S.getD (i + 1) st0).p D).1), .int .i64 ((goV x.pl.length x.al (x.tl.getD ty.toNat ty0).prof ((crs x ty st l).S.getD i st0).p ((crs x ty st l).S.getD (i + 1) st0).p D).2.1), .int .i64 ((goV x.pl.length x.al (x.tl.getD ty.toNat ty0).prof ((crs x ty st l).S.getD i st0).p ((crs x ty st l).S.getD (i + 1) st0).p D).2.2)]) (Zv rfl (.int .i64 ((goV x.pl.length x.al (x.tl.getD ty.toNat ty0).prof ((crs x ty st l).S.getD i st0).p ((crs x ty st l).S.getD (i + 1) st0).p D).1)) (Zv rfl (.int .i64 ((goV x.pl.length x.al (x.tl.getD ty.toNat ty0).prof ((crs x ty st l).S.getD i st0).p ((crs x ty st l).S.getD (i + 1) st0).p D).2.1)) (Zv rfl (.int .i64 ((goV x.pl.length x.al (x.tl.getD ty.toNat ty0).prof ((crs x ty st l).S.getD i st0).p ((crs x ty st l).S.getD (i + 1) st0).p D).2.2)) (Zv rfl (.int .i64 ((goV x.pl.length x.al (x.tl.getD ty.toNat ty0).prof ((crs x ty st l).S.getD i st0).p ((crs x ty st l).S.getD (i + 1) st0).p D).1)) (Zv rfl (.int .i64 ((goV x.pl.length x.al (x.tl.getD ty.toNat ty0).prof ((crs x ty st l).S.getD i st0).p ((crs x ty st l).S.getD (i + 1) st0).p D).2.1)) (Zv rfl (.int .i64 ((goV x.pl.length x.al (x.tl.getD ty.toNat ty0).prof ((crs x ty st l).S.getD i st0).p ((crs x ty st l).S.getD (i + 1) st0).p D).2.2)) (Yn (Yo (Yq (Zv rfl (.int .i64 ((goV x.pl.length x.al (x.tl.getD ty.toNat ty0).prof ((crs x ty st l).S.getD i st0).p ((crs x ty st l).S.getD (i + 1) st0).p D).1)) (Zv rfl (.int .i64 ((goV x.pl.length x.al (x.tl.getD ty.toNat ty0).prof ((crs x ty st l).S.getD i st0).p ((crs x ty st l).S.getD (i + 1) st0).p D).2.2)) (Zv rfl (.int .i64 ((goV x.pl.length x.al (x.tl.getD ty.toNat ty0).prof ((crs x ty st l).S.getD i st0).p ((crs x ty st l).S.getD (i + 1) st0).p D).1)) (Zv rfl (.int .i64 ((goV x.pl.length x.al (x.tl.getD ty.toNat ty0).prof ((crs x ty st l).S.getD i st0).p ((crs x ty st l).S.getD (i + 1) st0).p D).2.2)) ?_)))))))))))))
 refine Yn (Yo (wp_ret ?_))
 exact sx_ret2 (.int .i64 ((goV x.pl.length x.al (x.tl.getD ty.toNat ty0).prof ((crs x ty st l).S.getD i st0).p ((crs x ty st l).S.getD (i + 1) st0).p D).1)) (.int .i64 ((goV x.pl.length x.al (x.tl.getD ty.toNat ty0).prof ((crs x ty st l).S.getD i st0).p ((crs x ty st l).S.getD (i + 1) st0).p D).2.2)) rfl rfl rfl (by kernel_rfl) (by kernel_rfl) ⟨rfl, HB⟩

end Go.Proofs.YtomebalolmabnaaGreatDoor.T



