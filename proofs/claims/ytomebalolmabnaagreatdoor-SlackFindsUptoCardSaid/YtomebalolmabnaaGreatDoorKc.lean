/-
  DERIVED. Kc: a part of the base of layer 13 (made by pack.py).
-/
import Derived.Test.YtomebalolmabnaaGreatDoorGA
import Derived.Test.YtomebalolmabnaaGreatDoorJa
import Derived.Test.YtomebalolmabnaaGreatDoorGQ
import Derived.Test.YtomebalolmabnaaGreatDoorKb
/-! The specification of slack: the schedule with a delay (by gen_kc.py). -/
namespace Go.Proofs.YtomebalolmabnaaGreatDoor.T
open Go.RowKit
set_option maxRecDepth 8000
attribute [local irreducible] wpList Code.wp wpAnyH

namespace CrT
def tmX (c : CrT) (R : List Bool) (k : Nat) (a s : Int) (i : Nat) : List TmT := (c.tmB R k a s i).take (k + i)
section
variable {c : CrT} {R : List Bool} {k : Nat} {a s : Int} {i : Nat}
theorem tmX_len (h : k + i ≤ c.n - 1) : (c.tmX R k a s i).length = k + i := by unfold tmX; rw [List.length_take, tmB_len]; omega
theorem tmX_at {j : Nat} (h : j < k + i) : (c.tmX R k a s i).getD j tm0 = (c.tmB R k a s i).getD j tm0 := by unfold tmX; rw [List.getD_eq_getElem?_getD, List.getElem?_take, if_pos h, ← List.getD_eq_getElem?_getD]
theorem tmX_all (h : k + i = c.n - 1) : c.tmX R k a s i = c.tmB R k a s i := by unfold tmX; exact List.take_of_length_le (by rw [tmB_len]; omega)
theorem tmX_succ (h : k + i < c.n - 1) : c.tmX R k a s (i + 1) = c.tmX R k a s i ++ [c.tmA R k a s i] := by
 have h1 := tmX_len (c := c) (R := R) (a := a) (s := s) (k := k) (i := i) (by omega)
 have h2 := tmX_len (c := c) (R := R) (a := a) (s := s) (k := k) (i := i + 1) (by omega)
 apply ext_getD (d := tm0)
 ·rw [List.length_append, h1, h2]; rfl
 intro j hj
 rw [h2] at hj
 rw [tmX_at hj, tmB_at (by omega), List.getD_eq_getElem?_getD, List.getElem?_append, h1]
 by_cases h3 : j < k + i
 ·rw [if_pos h3, ← List.getD_eq_getElem?_getD, tmX_at h3, tmB_at (by omega)]
  by_cases h4 : k ≤ j
  ·rw [if_pos ⟨h4, by omega⟩, if_pos ⟨h4, h3⟩]
  ·rw [if_neg (fun h => h4 h.1), if_neg (fun h => h4 h.1)]
 ·rw [if_neg h3, if_pos ⟨by omega, by omega⟩, show j - (k + i) = 0 by omega, show j - k = i by omega]
  rfl
end
end CrT
set_option maxHeartbeats 8000000 in
theorem later19_c (k : Iv) (x : InT) (hxl : x.ol.length ≤ 1000000) (ty st : Int) (orr oa oS : Option Addr) (cr ca cS b o bS qS : Nat) (l : List (Int × Bool)) (F : List Bool) (S : ShT) (hc : (crs x ty st l).Ok) (hp9 : posD x.tl x.ol ty st l = true) (hTl : S.T.length = l.length) (hrun : (crs x ty st l).run S.rts (crs x ty st l).n = 0) (hsh : (crs x ty st l).sheet S.rts = S) (w : World) (hI : Ins w k x) (hl : Rw w b o 2 (vF l) l.length oa) (hST : Rw w bS qS 4 (fun k => tmE (S.T.getD k tm0)) S.T.length oS) (hcS : S.T.length ≤ cS) (a : Nat) (ha : a ≤ l.length) (t p9 u9 : Int) (ht : 0 ≤ t ∧ t ≤ 100000) (hp : p9 = (((crs x ty st l).lg S.rts a).arr + t)) (hu : u9 = (((crs x ty st l).lg S.rts a).sin + t)) : Calls Tryz.prog 20 #[.agg (iK k x), .agg (rK ty st orr F.length cr oa l.length ca), .agg (sK S oS cS), .int .i64 ((a : Nat) : Int), .int .i64 t] w (ShP (if (crs x ty st l).ra S.rts a p9 u9 ((crs x ty st l).n - a) = 0 then (crs x ty st l).afS S.rts a p9 u9 else sh0) ((crs x ty st l).ra S.rts a p9 u9 ((crs x ty st l).n - a)) w) := by
 have HB : Below w.heap.size w w := Below.refl _ _
 have hn9 : (crs x ty st l).n = l.length + 1 := crs_n x ty st l
 obtain ⟨hy1, hy2, -, -⟩ := posD_ty hp9
 have hl20 := posD_len hp9
 have hyt : ((ty.toNat : Nat) : Int) = ty := Int.toNat_of_nonneg hy1
 have hrst : 0 ≤ (x.tl.getD ty.toNat ty0).rst ∧ (x.tl.getD ty.toNat ty0).rst ≤ 4096 := hc.rst
 have hdrv : 1 ≤ (x.tl.getD ty.toNat ty0).drv ∧ (x.tl.getD ty.toNat ty0).drv ≤ 4096 := hc.drv
 obtain ⟨bt, qt, va, vb, hTy⟩ := hI.h2.rw
 have hTm : Rw w bS qS 4 (fun i1 => tmE ((crs x ty st l).tm S.rts i1)) S.T.length oS := Rw.ext hST (fun i hi => by have h8 := tms_at (crs x ty st l) S.rts (show i < (crs x ty st l).n - 1 by omega); rw [hsh] at h8; rw [h8])
 have hse9 : S.e = ((crs x ty st l).lg S.rts ((crs x ty st l).n - 1)).arr := (congrArg ShT.e hsh).symm
 have hla := CrT.lg_arr hc hrun (k := a) (by omega)
 have hle : 0 ≤ S.e ∧ S.e ≤ 4096 := by
  have := CrT.lg_arr hc hrun (k := (crs x ty st l).n - 1) (by omega)
  omega
 refine sx_enter Tryz.func20 rfl [(0, .agg (iK k x)), (1, .agg (rK ty st orr F.length cr oa l.length ca)), (2, .agg (sK S oS cS)), (3, .int .i64 ((a : Nat) : Int)), (4, .int .i64 t)] (by kernel_rfl) ?_
 refine Yq ?_
 refine Za rfl (iK k x) 30 (fun W1 hb M2 z1 yM2 => ?_)
 replace HB := over HB hb
 clear hb
 refine Za rfl (rK ty st orr F.length cr oa l.length ca) 34 (fun W3 hb M4 z2 yM4 => ?_)
 replace HB := over HB hb
 replace M2 := M2.below hb
 clear hb
 refine Za rfl (sK S oS cS) 37 (fun W5 hb M6 z3 yM6 => ?_)
 replace HB := over HB hb
 replace M2 := M2.below hb
 replace M4 := M4.below hb
 clear hb
 refine Za rfl nZS 37 (fun W7 hb M8 z4 yM8 => ?_)
 replace HB := over HB hb
 replace M2 := M2.below hb
 replace M4 := M4.below hb
 replace M6 := M6.below hb
 clear hb
 refine Zv rfl (.int .i64 0) (Yn (Yo (Yq (Zv rfl (pt w.heap.size 2) (Zw rfl (.slice k.o2 x.tl.length k.c2) (el (M2.cell 2 rfl) Tryz.underlying26) (Zv rfl (pt W1.heap.size 0) (Zw rfl (.int .i64 ty) (el (M4.cell 0 rfl) Tryz.underlying3) (Zw rfl (pt bt (qt + (ty.toNat) * 14)) (ex_indexO (q := qt) (m := x.tl.length) (c := k.c2) (k := ty.toNat) (s := 14) rfl (by kernel_rfl) ((hTy.below HB).oa (k := ty.toNat) (by omega)) (by rw [hyt]; kernel_rfl) Tryz.underlying26 (by kernel_rfl) (by omega) (by omega)) (Zw rfl (.agg (tK (x.tl.getD ty.toNat ty0) (va ty.toNat) (vb ty.toNat))) (ex_loadR rfl ((hTy.below HB).range (k := ty.toNat) (by omega)) (by kernel_rfl) Tryz.underlying80 rfl (by kernel_rfl)) ?_)))))))))
 obtain ⟨W10, hW⟩ : ∃ W, (W7.alloc (.cells nZT 80)).setRow W7.heap.size (tK (x.tl.getD ty.toNat ty0) (va ty.toNat) (vb ty.toNat)) = W := ⟨_, rfl⟩
 have hb := hW ▸ below_var W7 (.cells nZT 80) (tK (x.tl.getD ty.toNat ty0) (va ty.toNat) (vb ty.toNat))
 have hq : Cb W10 W7.heap.size (tK (x.tl.getD ty.toNat ty0) (va ty.toNat) (vb ty.toNat)) 80 := hW ▸ Cb.row (Cb.made W7 nZT 80) _
 refine sx_mem (by kernel_rfl) rfl rfl (pt W7.heap.size 0) (W7.alloc (.cells nZT 80)) (by kernel_rfl) ?_
 refine Zs (cells := (tK (x.tl.getD ty.toNat ty0) (va ty.toNat) (vb ty.toNat))) rfl rfl (Cb.made W7 nZT 80) ?_
 rw [hW]
 replace HB := over HB hb
 replace M2 := M2.below hb
 replace M4 := M4.below hb
 replace M6 := M6.below hb
 replace M8 := M8.below hb
 have z5 := hb.size
 have M9 := hq
 have yM9 := hq.lt
 clear hq hb hW
 refine Yn (Yo (Yq (Zv rfl (pt W1.heap.size 3) (Zw rfl (.slice oa l.length ca) (el (M4.cell 3 rfl) Tryz.underlying32) (Zv rfl (.int .i64 ((l.length : Nat) : Int)) (Zv rfl (.int .i64 ((l.length : Nat) : Int)) (Yn (Yo (Yq (Zv rfl (pt W3.heap.size 0) (Zw rfl (.bool S.r) (el (M6.cell 0 rfl) Tryz.underlying4) (Zv rfl (pt W3.heap.size 1) (Zw rfl (.int .i64 S.d) (el (M6.cell 1 rfl) Tryz.underlying3) (Zv rfl (pt W3.heap.size 4) (Zw rfl (.int .i64 S.m) (el (M6.cell 4 rfl) Tryz.underlying3) ?_)))))))))))))))
 refine Zv rfl (.agg #[.bool S.r, .int .i64 S.d, .slice none 0 0, .int .i64 0, .int .i64 S.m]) ?_
 obtain ⟨W12, hW, hb, hq⟩ := laidV W10 nZS #[.bool S.r, .int .i64 S.d, .slice none 0 0, .int .i64 0, .int .i64 S.m] 37
 refine sx_mem (by kernel_rfl) rfl rfl (pt W10.heap.size 0) (W10.alloc (.cells nZS 37)) (by kernel_rfl) ?_
 refine Zs (cells := #[.bool S.r, .int .i64 S.d, .slice none 0 0, .int .i64 0, .int .i64 S.m]) rfl rfl (Cb.made W10 nZS 37) ?_
 rw [hW]
 replace HB := over HB hb
 replace M2 := M2.below hb
 replace M4 := M4.below hb
 replace M6 := M6.below hb
 replace M8 := M8.below hb
 replace M9 := M9.below hb
 have z6 := hb.size
 have M11 := hq
 have yM11 := hq.lt
 clear hq hb hW
 refine Yn (Yo (Ys ?_))
 obtain ⟨Y13, hW⟩ : ∃ W, W12.drew = W := ⟨_, rfl⟩
 have hb : Below W12.heap.size W12 Y13 := hW ▸ below_drew (Below.refl _ _)
 replace HB := over HB hb
 replace M2 := M2.below hb
 replace M4 := M4.below hb
 replace M6 := M6.below hb
 replace M8 := M8.below hb
 replace M9 := M9.below hb
 replace M11 := M11.below hb
 have z7 := hb.size
 clear hb
 refine sd_begin (fun W => Cb W (W3.heap.size) (sK S oS cS) 37 ∧ True) (by kernel_rfl) (by rw [hW]; exact ⟨M6, trivial⟩) ?_
 rw [hW]
 clear hW
 refine Zu 0 rfl rfl (pt W10.heap.size 2) ⟨M6, trivial⟩ ?_
 refine Zu 2 rfl rfl (pt W3.heap.size 2) ⟨M6, trivial⟩ ?_
 refine Zt 3 rfl rfl (.slice oS S.T.length cS) (fun w9 h9 => el (h9.1.cell 2 rfl) Tryz.underlying35) ⟨M6, trivial⟩ ?_
 refine Zu 4 rfl rfl (.int .i64 ((a : Nat) : Int)) ⟨M6, trivial⟩ ?_
 refine Zt 5 rfl rfl (.slice oS a cS) (fun w9 h9 => ex_sliceA (m := S.T.length) (c := cS) (k := a) (s := 4) rfl rfl (by kernel_rfl) (by omega) Tryz.underlying35 (by kernel_rfl)) ⟨M6, trivial⟩ ?_
 refine sd_all [1] (by kernel_rfl) (by decide) ?_
 refine sd_mem (i := 1) rfl (by kernel_rfl) rfl rfl (.slice none 0 0) Y13 (el (M11.cell 2 rfl) Tryz.underlying35) ⟨M6, trivial⟩ ?_ AllReadyH.nil
 refine sd_all [6] (by kernel_rfl) (by decide) ?_
 have hXl0 := CrT.tmX_len (c := (crs x ty st l)) (R := S.rts) (k := a) (a := p9) (s := u9) (i := 0) (by omega)
 have hM : Rw Y13 bS qS 4 (fun k1 => tmE (((crs x ty st l).tmX S.rts a p9 u9 0).getD k1 tm0)) ((crs x ty st l).tmX S.rts a p9 u9 0).length oS := Rw.ext (show Rw Y13 bS qS 4 (fun i1 => tmE ((crs x ty st l).tm S.rts i1)) ((crs x ty st l).tmX S.rts a p9 u9 0).length oS from fun i hi => (hTm.below HB) i (by omega)) (fun i hi => by rw [CrT.tmX_at (by omega), CrT.tmB_at (by omega), if_neg (by omega)])
 obtain ⟨vT, W14, h9, hg9, hb⟩ := ap_nil (P := Tryz.prog) (t := 35) (ty := 35) (z := tmZ) (bytes := 32) (c := cS) tmRow tm0 Tryz.underlying35 (by kernel_rfl) rfl (by decide) (by decide) hM (by omega)
 rw [show ((crs x ty st l).tmX S.rts a p9 u9 0).length = a by omega] at h9
 refine sd_mem (i := 6) rfl (by kernel_rfl) rfl rfl vT W14 (ex_append rfl (by kernel_rfl) (by kernel_rfl) h9) ⟨(M6.below hb), trivial⟩ ?_ AllReadyH.nil
 replace HB := over HB hb
 replace M2 := M2.below hb
 replace M4 := M4.below hb
 replace M6 := M6.below hb
 replace M8 := M8.below hb
 replace M9 := M9.below hb
 replace M11 := M11.below hb
 have z8 := hb.size
 have HT := hg9
 have hoT0 : ∀ g, vT.ownBlock = some g → _ := fun g e => HT.blk e
 clear hb h9 hM hg9
 obtain ⟨oT, cT, rfl⟩ := Ol.form HT
 refine Zu 7 rfl rfl (pt W10.heap.size 2) ⟨M6, trivial⟩ ?_
 refine sd_all [8] (by kernel_rfl) (by decide) ?_
 refine sd_do (i := 8) rfl (by kernel_rfl) rfl (W14.setCell ⟨W10.heap.size, 2, none⟩ (.slice oT ((crs x ty st l).tmX S.rts a p9 u9 0).length cT)) (ex_storeC (k := 2) (old := .slice none 0 0) rfl M11 (by kernel_rfl) (by kernel_rfl) (by kernel_rfl) (by kernel_rfl) (by kernel_rfl)) ⟨(M6.kept (grown_set W14 (W10.heap.size) 2 (.slice oT ((crs x ty st l).tmX S.rts a p9 u9 0).length cT)) (by omega)), trivial⟩ ?_ AllReadyH.nil
 obtain ⟨W15, hW⟩ : ∃ W, W14.setCell ⟨W10.heap.size, 2, none⟩ (.slice oT ((crs x ty st l).tmX S.rts a p9 u9 0).length cT) = W := ⟨_, rfl⟩
 have hg : W14.grownBy W15 (some (W10.heap.size)) := hW ▸ grown_set _ _ _ _
 have hq : Cb W15 (W10.heap.size) #[.bool S.r, .int .i64 S.d, .slice oT ((crs x ty st l).tmX S.rts a p9 u9 0).length cT, .int .i64 0, .int .i64 S.m] 37 := hW ▸ M11.set 2 (.slice oT ((crs x ty st l).tmX S.rts a p9 u9 0).length cT)
 rw [hW]
 replace HB := HB.grown hg (by omega) (oG (by omega))
 replace M2 := M2.kept hg (by omega)
 replace M4 := M4.kept hg (by omega)
 replace M6 := M6.kept hg (by omega)
 replace M8 := M8.kept hg (by omega)
 replace M9 := M9.kept hg (by omega)
 replace HT := own_grown HT hg (fun g8 e8 e9 => by have h7 := hoT0 g8 e8; simp only [Option.some.injEq] at e9; omega)
 have z9 := hg.size
 replace M11 := hq
 clear hq hg hW
 refine sd_done (by kernel_rfl) ?_
 refine Yo (Yq (Zw rfl (.agg (iK k x)) (ex_load rfl M2 (by kernel_rfl) Tryz.underlying30 rfl (by kernel_rfl)) (Zw rfl (.agg (rK ty st orr F.length cr oa l.length ca)) (ex_load rfl M4 (by kernel_rfl) Tryz.underlying34 rfl (by kernel_rfl)) (Zw rfl (.agg (sK S oS cS)) (ex_load rfl M6 (by kernel_rfl) Tryz.underlying37 rfl (by kernel_rfl)) (Zv rfl (.int .i64 ((a : Nat) : Int)) ?_)))))
 refine Zd rfl (ahead19_n k x hxl ty st orr oa oS cr ca cS b o bS qS l F S hc hp9 hTl hrun hsh W15 (hI.below HB) (hl.below HB) (hST.below HB) a ha) (fun W16 hb z10 => ?_)
 replace HB := over HB hb
 replace M2 := M2.below hb
 replace M4 := M4.below hb
 replace M6 := M6.below hb
 replace M8 := M8.below hb
 replace M9 := M9.below hb
 replace M11 := M11.below hb
 replace HT := HT.below hb
 clear hb
 obtain ⟨W18, hW, hb, hq⟩ := laidV W16 nZ3 #[.int .i64 (((crs x ty st l).S.getD a st0).p), .int .i64 (((crs x ty st l).lg S.rts a).dep), .int .i64 (CrT.gS ((crs x ty st l).dn S.rts a).2 (S.rts.getD a false))] 89
 refine sx_mem (by kernel_rfl) rfl rfl (pt W16.heap.size 0) (W16.alloc (.cells nZ3 89)) (by kernel_rfl) ?_
 refine Zs (cells := #[.int .i64 (((crs x ty st l).S.getD a st0).p), .int .i64 (((crs x ty st l).lg S.rts a).dep), .int .i64 (CrT.gS ((crs x ty st l).dn S.rts a).2 (S.rts.getD a false))]) rfl rfl (Cb.made W16 nZ3 89) ?_
 rw [hW]
 replace HB := over HB hb
 replace M2 := M2.below hb
 replace M4 := M4.below hb
 replace M6 := M6.below hb
 replace M8 := M8.below hb
 replace M9 := M9.below hb
 replace M11 := M11.below hb
 replace HT := HT.below hb
 have z11 := hb.size
 have M17 := hq
 have yM17 := hq.lt
 clear hq hb hW
 refine Yn (Yo (Yq (Zv rfl (pt W3.heap.size 3) (Zw rfl (.int .i64 S.e) (el (M6.cell 3 rfl) Tryz.underlying3) (Zv rfl (.int .i64 t) (Zi rfl (IntKind.i64.wrap (S.e + t)) ((S.e + t)) (by rw [IntKind.wrap_i64]; omega) (Zv rfl (.int .i64 (S.e + t)) (Yn (Yo ?_)))))))))
 refine sx_cut (fun _ : Unit => [(0, .agg (iK k x)), (1, .agg (rK ty st orr F.length cr oa l.length ca)), (2, .agg (sK S oS cS)), (3, .int .i64 ((a : Nat) : Int)), (4, .int .i64 t), (5, .pointer (some ⟨w.heap.size, 0, none⟩)), (6, .pointer (some ⟨W1.heap.size, 0, none⟩)), (7, .pointer (some ⟨W3.heap.size, 0, none⟩)), (10, .pointer (some ⟨W5.heap.size, 0, none⟩)), (11, .int .i64 0), (12, .pointer (some ⟨W7.heap.size, 0, none⟩)), (13, .int .i64 ((l.length : Nat) : Int)), (14, .pointer (some ⟨W10.heap.size, 0, none⟩)), (15, .pointer (some ⟨W16.heap.size, 0, none⟩)), (16, .int .i64 p9), (22, .pointer (some ⟨w.heap.size, 2, none⟩)), (23, .slice k.o2 x.tl.length k.c2), (24, .pointer (some ⟨W1.heap.size, 0, none⟩)), (25, .int .i64 ty), (26, .pointer (some ⟨bt, qt + (ty.toNat) * 14, none⟩)), (27, .agg (tK (x.tl.getD ty.toNat ty0) (va ty.toNat) (vb ty.toNat))), (28, .pointer (some ⟨W1.heap.size, 3, none⟩)), (29, .slice oa l.length ca), (30, .int .i64 ((l.length : Nat) : Int)), (31, .pointer (some ⟨W3.heap.size, 0, none⟩)), (32, .bool S.r), (33, .pointer (some ⟨W3.heap.size, 1, none⟩)), (34, .int .i64 S.d), (35, .pointer (some ⟨W3.heap.size, 4, none⟩)), (36, .int .i64 S.m), (37, .agg #[.bool S.r, .int .i64 S.d, .slice none 0 0, .int .i64 0, .int .i64 S.m]), (38, .pointer (some ⟨W10.heap.size, 2, none⟩)), (39, .slice none 0 0), (40, .pointer (some ⟨W3.heap.size, 2, none⟩)), (41, .slice oS S.T.length cS), (42, .int .i64 ((a : Nat) : Int)), (43, .slice oS a cS), (44, .slice oT ((crs x ty st l).tmX S.rts a p9 u9 0).length cT), (45, .pointer (some ⟨W10.heap.size, 2, none⟩)), (46, .agg (iK k x)), (47, .agg (rK ty st orr F.length cr oa l.length ca)), (48, .agg (sK S oS cS)), (49, .int .i64 ((a : Nat) : Int)), (50, .agg #[.int .i64 (((crs x ty st l).S.getD a st0).p), .int .i64 (((crs x ty st l).lg S.rts a).dep), .int .i64 (CrT.gS ((crs x ty st l).dn S.rts a).2 (S.rts.getD a false))]), (51, .pointer (some ⟨W3.heap.size, 3, none⟩)), (52, .int .i64 S.e), (53, .int .i64 t), (54, .int .i64 (S.e + t))]) (fun _ wr => W18.heap.size ≤ wr.heap.size ∧ Below w.heap.size w wr ∧ Cb wr (w.heap.size) (iK k x) 30 ∧ Cb wr (W1.heap.size) (rK ty st orr F.length cr oa l.length ca) 34 ∧ Cb wr (W3.heap.size) (sK S oS cS) 37 ∧ Cb wr (W5.heap.size) nZS 37 ∧ Cb wr (W7.heap.size) (tK (x.tl.getD ty.toNat ty0) (va ty.toNat) (vb ty.toNat)) 80 ∧ Cb wr (W10.heap.size) #[.bool S.r, .int .i64 S.d, .slice oT ((crs x ty st l).tmX S.rts a p9 u9 0).length cT, .int .i64 0, .int .i64 S.m] 37 ∧ Ol tmE 61 4 Y13.heap.size wr (.slice oT ((crs x ty st l).tmX S.rts a p9 u9 0).length cT) ((crs x ty st l).tmX S.rts a p9 u9 0) ∧ Cb wr (W16.heap.size) #[.int .i64 (((crs x ty st l).S.getD a st0).p), .int .i64 (((crs x ty st l).lg S.rts a).dep), .int .i64 (CrT.gS ((crs x ty st l).dn S.rts a).2 (S.rts.getD a false))] 89) ?_ ?_
 ·refine Yq (Zv rfl (.int .i64 ((a : Nat) : Int)) (Zv rfl (.int .i64 ((l.length : Nat) : Int)) ?_))
  by_cases C1 : a < l.length
  ·refine Zb rfl (decide (((a : Nat) : Int) < ((l.length : Nat) : Int))) true (decide_eq_true (by omega)) (Yn (Yo (sx_true (by kernel_rfl) (Yr (Zv rfl (pt W3.heap.size 2) (Zw rfl (.slice oS S.T.length cS) (el (M6.cell 2 rfl) Tryz.underlying35) (Zv rfl (.int .i64 ((a : Nat) : Int)) (Zw rfl (pt bS (qS + a * 4)) (ex_indexO (q := qS) (m := S.T.length) (c := cS) (k := a) (s := 4) rfl (by kernel_rfl) ((hTm.below HB).oa (k := a) (by omega)) (by kernel_rfl) Tryz.underlying35 (by kernel_rfl) (by omega) (by omega)) (Zv rfl (pt bS (qS + a * 4)) (Zw rfl (.int .i64 (((crs x ty st l).lg S.rts a).arr)) (el ((hTm.below HB).cell (k := a) (by omega) 0 rfl) Tryz.underlying3) (Zv rfl (.int .i64 t) (Zi rfl (IntKind.i64.wrap (((crs x ty st l).lg S.rts a).arr + t)) ((((crs x ty st l).lg S.rts a).arr + t)) (by rw [IntKind.wrap_i64]; omega) ?_))))))))))))
   refine Zv rfl (.int .i64 (((crs x ty st l).lg S.rts a).arr + t)) (Yn (Yo ?_))
   refine ⟨(), ⟨by show _ ≤ _; omega, HB, M2, M4, M6, M8, M9, M11, HT, M17⟩, ?_⟩
   rw [show p9 = (((crs x ty st l).lg S.rts a).arr + t) from (by first | exact hp | rw [hp, hse9, show (crs x ty st l).n - 1 = a by omega])]
   exact fr_less (by kernel_rfl)
  refine Zb rfl (decide (((a : Nat) : Int) < ((l.length : Nat) : Int))) false (decide_eq_false (by omega)) (Yn (Yo (sx_false (by kernel_rfl) (wp_skip (Yo ?_)))))
  refine ⟨(), ⟨by show _ ≤ _; omega, HB, M2, M4, M6, M8, M9, M11, HT, M17⟩, ?_⟩
  rw [show p9 = (S.e + t) from (by first | exact hp | rw [hp, hse9, show (crs x ty st l).n - 1 = a by omega])]
  exact fr_less (by kernel_rfl)
 clear HB M2 M4 M6 M8 M9 M11 HT M17
 rintro - g' wr19 ⟨hzwr19, HB, M2, M4, M6, M8, M9, M11, HT, M17⟩
 refine Ys (Yq (Zv rfl (.int .i64 ((a : Nat) : Int)) (Zv rfl (.int .i64 ((a : Nat) : Int)) (Yn (Yo (wp_block ?_))))))
 have hlo := CrT.lg_ok hc (Nat.le_refl _) hrun (show a < (crs x ty st l).n by omega)
 have hdb := CrT.dn_bd hc (R := S.rts) a (by omega) (CrT.run_le hrun (by omega))
 have hgd := CrT.gD_bd hc (S.rts.getD a false) ⟨hdb.1, hdb.2.1⟩
 have hdp : 0 ≤ ((crs x ty st l).lg S.rts a).dep ∧ ((crs x ty st l).lg S.rts a).dep ≤ 12288 := hgd
 have hgb0 := CrT.goV_bd hc.net hgd.1 hlo.1
 have hda : ((crs x ty st l).lg S.rts a).dep ≤ ((crs x ty st l).lg S.rts a).arr := hgb0.1
 have hgs : 0 ≤ (CrT.gS ((crs x ty st l).dn S.rts a).2 (S.rts.getD a false)) ∧ (CrT.gS ((crs x ty st l).dn S.rts a).2 (S.rts.getD a false)) ≤ 4096 := by unfold CrT.gS; split <;> omega
 have hsn : ((crs x ty st l).lg S.rts a).sin = (CrT.gS ((crs x ty st l).dn S.rts a).2 (S.rts.getD a false)) + (((crs x ty st l).lg S.rts a).arr - ((crs x ty st l).lg S.rts a).dep) := rfl
 refine sx_loop (fun x9 : Nat × Value × Int × Int => [(0, .agg (iK k x)), (1, .agg (rK ty st orr F.length cr oa l.length ca)), (2, .agg (sK S oS cS)), (3, .int .i64 ((a : Nat) : Int)), (4, .int .i64 t), (5, .pointer (some ⟨w.heap.size, 0, none⟩)), (6, .pointer (some ⟨W1.heap.size, 0, none⟩)), (7, .pointer (some ⟨W3.heap.size, 0, none⟩)), (10, .pointer (some ⟨W5.heap.size, 0, none⟩)), (12, .pointer (some ⟨W7.heap.size, 0, none⟩)), (13, .int .i64 ((l.length : Nat) : Int)), (14, .pointer (some ⟨W10.heap.size, 0, none⟩)), (15, .pointer (some ⟨W16.heap.size, 0, none⟩)), (16, .int .i64 (((crs x ty st l).stA S.rts a p9 u9 x9.1).1)), (17, .int .i64 (((a + x9.1) : Nat) : Int)), (22, .pointer (some ⟨w.heap.size, 2, none⟩)), (23, .slice k.o2 x.tl.length k.c2), (24, .pointer (some ⟨W1.heap.size, 0, none⟩)), (25, .int .i64 ty), (26, .pointer (some ⟨bt, qt + (ty.toNat) * 14, none⟩)), (27, .agg (tK (x.tl.getD ty.toNat ty0) (va ty.toNat) (vb ty.toNat))), (28, .pointer (some ⟨W1.heap.size, 3, none⟩)), (29, .slice oa l.length ca), (30, .int .i64 ((l.length : Nat) : Int)), (31, .pointer (some ⟨W3.heap.size, 0, none⟩)), (32, .bool S.r), (33, .pointer (some ⟨W3.heap.size, 1, none⟩)), (34, .int .i64 S.d), (35, .pointer (some ⟨W3.heap.size, 4, none⟩)), (36, .int .i64 S.m), (37, .agg #[.bool S.r, .int .i64 S.d, .slice none 0 0, .int .i64 0, .int .i64 S.m]), (38, .pointer (some ⟨W10.heap.size, 2, none⟩)), (39, .slice none 0 0), (40, .pointer (some ⟨W3.heap.size, 2, none⟩)), (41, .slice oS S.T.length cS), (42, .int .i64 ((a : Nat) : Int)), (43, .slice oS a cS), (44, .slice oT ((crs x ty st l).tmX S.rts a p9 u9 0).length cT), (45, .pointer (some ⟨W10.heap.size, 2, none⟩)), (46, .agg (iK k x)), (47, .agg (rK ty st orr F.length cr oa l.length ca)), (48, .agg (sK S oS cS)), (49, .int .i64 ((a : Nat) : Int)), (50, .agg #[.int .i64 (((crs x ty st l).S.getD a st0).p), .int .i64 (((crs x ty st l).lg S.rts a).dep), .int .i64 (CrT.gS ((crs x ty st l).dn S.rts a).2 (S.rts.getD a false))]), (51, .pointer (some ⟨W3.heap.size, 3, none⟩)), (52, .int .i64 S.e), (53, .int .i64 t), (54, .int .i64 (S.e + t)), (66, .int .i64 ((a : Nat) : Int))]) (fun gg x9 wr => a + x9.1 ≤ l.length ∧ l.length - (a + x9.1) ≤ gg ∧ (crs x ty st l).ra S.rts a p9 u9 x9.1 = 0 ∧ x9.2.2.2 + ((crs x ty st l).stA S.rts a p9 u9 x9.1).1 - x9.2.2.1 = ((crs x ty st l).stA S.rts a p9 u9 x9.1).2 ∧ (0 ≤ x9.2.2.1 ∧ x9.2.2.1 ≤ 1000000) ∧ (0 ≤ x9.2.2.2 ∧ x9.2.2.2 ≤ 1000000) ∧ (0 ≤ ((crs x ty st l).stA S.rts a p9 u9 x9.1).1 ∧ ((crs x ty st l).stA S.rts a p9 u9 x9.1).1 ≤ 1000000) ∧ x9.2.2.1 ≤ ((crs x ty st l).stA S.rts a p9 u9 x9.1).1 ∧ Ol tmE 61 4 Y13.heap.size wr x9.2.1 ((crs x ty st l).tmX S.rts a p9 u9 x9.1) ∧ (∀ g, x9.2.1.ownBlock = some g → ¬ g = W16.heap.size) ∧ Cb wr (W10.heap.size) #[.bool S.r, .int .i64 S.d, x9.2.1, .int .i64 0, .int .i64 S.m] 37 ∧ Cb wr (W16.heap.size) #[.int .i64 ((crs x ty st l).S.getD (a + x9.1) st0).p, .int .i64 x9.2.2.1, .int .i64 x9.2.2.2] 89 ∧ Below w.heap.size w wr ∧ wr19.heap.size ≤ wr.heap.size ∧ Cb wr (w.heap.size) (iK k x) 30 ∧ Cb wr (W1.heap.size) (rK ty st orr F.length cr oa l.length ca) 34 ∧ Cb wr (W3.heap.size) (sK S oS cS) 37 ∧ Cb wr (W5.heap.size) nZS 37 ∧ Cb wr (W7.heap.size) (tK (x.tl.getD ty.toNat ty0) (va ty.toNat) (vb ty.toNat)) 80) (l.length - a) ((0, .slice oT ((crs x ty st l).tmX S.rts a p9 u9 0).length cT, ((crs x ty st l).lg S.rts a).dep, (CrT.gS ((crs x ty st l).dn S.rts a).2 (S.rts.getD a false)))) (by kernel_rfl) ⟨by show a + 0 ≤ _; omega, by show l.length - (a + 0) ≤ _; omega, rfl, (by show (CrT.gS ((crs x ty st l).dn S.rts a).2 (S.rts.getD a false)) + p9 - ((crs x ty st l).lg S.rts a).dep = u9; omega), (by show 0 ≤ ((crs x ty st l).lg S.rts a).dep ∧ ((crs x ty st l).lg S.rts a).dep ≤ _; omega), (by show 0 ≤ (CrT.gS ((crs x ty st l).dn S.rts a).2 (S.rts.getD a false)) ∧ (CrT.gS ((crs x ty st l).dn S.rts a).2 (S.rts.getD a false)) ≤ _; omega), (by show 0 ≤ p9 ∧ p9 ≤ _; omega), (by show ((crs x ty st l).lg S.rts a).dep ≤ p9; omega), HT, (fun g e => by have h8 := hoT0 g e; omega), M11, M17, HB, Nat.le_refl _, M2, M4, M6, M8, M9⟩ ?_
 rintro gg ⟨i, vL, D, N⟩ g' wr20 ⟨hi, hg, hra, hsI, hD, hN, hA, hDA, HT, hne, Q14, Q15, HB, hzz, KM2, KM4, KM6, KM8, KM9⟩
 dsimp only at hi hg hra hsI hD hN hA hDA HT hne Q14 Q15 HB hzz KM2 KM4 KM6 KM8 KM9
 have yKM2 := KM2.lt
 have yKM4 := KM4.lt
 have yKM6 := KM6.lt
 have yKM8 := KM8.lt
 have yKM9 := KM9.lt
 have yQ14 := Q14.lt
 have yQ15 := Q15.lt
 have hoT : ∀ g, vL.ownBlock = some g → _ := fun g e => And.intro (HT.blk e) (hne g e)
 refine Ys (Yq (Zv rfl (.int .i64 (((a + i) : Nat) : Int)) (Zv rfl (.int .i64 ((l.length : Nat) : Int)) ?_)))
 by_cases C2 : (a + i) < l.length
 ·refine Zb rfl (decide ((((a + i) : Nat) : Int) < ((l.length : Nat) : Int))) true (decide_eq_true (by omega)) (Yn (Yo (sx_true (by kernel_rfl) (wp_skip (Yo (Ys (wp_block (Yq (Zw rfl (.agg (iK k x)) (ex_load rfl KM2 (by kernel_rfl) Tryz.underlying30 rfl (by kernel_rfl)) (Zw rfl (.agg (rK ty st orr F.length cr oa l.length ca)) (ex_load rfl KM4 (by kernel_rfl) Tryz.underlying34 rfl (by kernel_rfl)) (Zw rfl (.agg (sK S oS cS)) (ex_load rfl KM6 (by kernel_rfl) Tryz.underlying37 rfl (by kernel_rfl)) (Zv rfl (.int .i64 (((a + i) : Nat) : Int)) (Zw rfl (.agg #[.int .i64 (((crs x ty st l).S.getD (a + i) st0).p), .int .i64 D, .int .i64 N]) (ex_load rfl Q15 (by kernel_rfl) Tryz.underlying89 rfl (by kernel_rfl)) (Zv rfl (.int .i64 (((crs x ty st l).stA S.rts a p9 u9 i).1)) ?_))))))))))))))
  by_cases C3 : ((crs x ty st l).arE (a + i) ((crs x ty st l).stA S.rts a p9 u9 i).1 ((crs x ty st l).stA S.rts a p9 u9 i).2) = 0
  ·refine Zd rfl ((by have h8 := visited19_n k x hxl ty st orr oa oS cr ca cS b o bS qS l F S hc hp9 hTl hrun hsh wr20 (hI.below HB) (hl.below HB) (hST.below HB) (a + i) (by omega) ((crs x ty st l).S.getD (a + i) st0).p D N ((crs x ty st l).stA S.rts a p9 u9 i).1 hD hN hA; rw [hsI, if_pos C3, if_pos C3, C3] at h8; exact h8)) (fun W21 hb z12 => ?_)
   replace HB := over HB hb
   replace HT := HT.below hb
   replace KM2 := KM2.below hb
   replace KM4 := KM4.below hb
   replace KM6 := KM6.below hb
   replace KM8 := KM8.below hb
   replace KM9 := KM9.below hb
   replace Q14 := Q14.below hb
   replace Q15 := Q15.below hb
   clear hb
   have hra1 : (crs x ty st l).ra S.rts a p9 u9 (i + 1) = 0 := by rw [CrT.ra_succ, hra, if_neg (fun h => h rfl)]; exact C3
   have hao := CrT.arE_ok C3
   refine Zv rfl (.tuple #[.agg #[.int .i64 (((crs x ty st l).stA S.rts a p9 u9 i).1), .int .i64 ((crs x ty st l).bgA (a + i) ((crs x ty st l).stA S.rts a p9 u9 i).1), .int .i64 (((crs x ty st l).onA S.rts (a + i) ((crs x ty st l).stA S.rts a p9 u9 i).1 ((crs x ty st l).stA S.rts a p9 u9 i).2).dep), .bool (S.rts.getD (a + i + 1) false)], .agg #[.int .i64 (((crs x ty st l).S.getD (a + i + 1) st0).p), .int .i64 (((crs x ty st l).onA S.rts (a + i) ((crs x ty st l).stA S.rts a p9 u9 i).1 ((crs x ty st l).stA S.rts a p9 u9 i).2).dep), .int .i64 (CrT.gS ((crs x ty st l).stA S.rts a p9 u9 i).2 (S.rts.getD (a + i + 1) false))], .int .i64 0]) (Zv rfl (.agg #[.int .i64 (((crs x ty st l).stA S.rts a p9 u9 i).1), .int .i64 ((crs x ty st l).bgA (a + i) ((crs x ty st l).stA S.rts a p9 u9 i).1), .int .i64 (((crs x ty st l).onA S.rts (a + i) ((crs x ty st l).stA S.rts a p9 u9 i).1 ((crs x ty st l).stA S.rts a p9 u9 i).2).dep), .bool (S.rts.getD (a + i + 1) false)]) (Zv rfl (.agg #[.int .i64 (((crs x ty st l).S.getD (a + i + 1) st0).p), .int .i64 (((crs x ty st l).onA S.rts (a + i) ((crs x ty st l).stA S.rts a p9 u9 i).1 ((crs x ty st l).stA S.rts a p9 u9 i).2).dep), .int .i64 (CrT.gS ((crs x ty st l).stA S.rts a p9 u9 i).2 (S.rts.getD (a + i + 1) false))]) (Zv rfl (.int .i64 0) ?_)))
   refine Za rfl nZM 61 (fun W22 hb M23 z13 yM23 => ?_)
   replace HB := over HB hb
   replace HT := HT.below hb
   replace KM2 := KM2.below hb
   replace KM4 := KM4.below hb
   replace KM6 := KM6.below hb
   replace KM8 := KM8.below hb
   replace KM9 := KM9.below hb
   replace Q14 := Q14.below hb
   replace Q15 := Q15.below hb
   clear hb
   refine Za rfl nZ3 89 (fun W24 hb M25 z14 yM25 => ?_)
   replace HB := over HB hb
   replace HT := HT.below hb
   replace KM2 := KM2.below hb
   replace KM4 := KM4.below hb
   replace KM6 := KM6.below hb
   replace KM8 := KM8.below hb
   replace KM9 := KM9.below hb
   replace Q14 := Q14.below hb
   replace Q15 := Q15.below hb
   replace M23 := M23.below hb
   clear hb
   refine Zr (cells := #[.int .i64 (((crs x ty st l).stA S.rts a p9 u9 i).1), .int .i64 ((crs x ty st l).bgA (a + i) ((crs x ty st l).stA S.rts a p9 u9 i).1), .int .i64 (((crs x ty st l).onA S.rts (a + i) ((crs x ty st l).stA S.rts a p9 u9 i).1 ((crs x ty st l).stA S.rts a p9 u9 i).2).dep), .bool (S.rts.getD (a + i + 1) false)]) rfl rfl M23 (fun W26 hg hq => ?_)
   replace HB := HB.grown hg (by omega) (oG (by omega))
   replace HT := own_grown HT hg (fun g8 e8 e9 => by have h7 := hoT g8 e8; simp only [Option.some.injEq] at e9; omega)
   replace KM2 := KM2.kept hg (by omega)
   replace KM4 := KM4.kept hg (by omega)
   replace KM6 := KM6.kept hg (by omega)
   replace KM8 := KM8.kept hg (by omega)
   replace KM9 := KM9.kept hg (by omega)
   replace Q14 := Q14.kept hg (by omega)
   replace Q15 := Q15.kept hg (by omega)
   replace M25 := M25.kept hg (by omega)
   have z15 := hg.size
   replace M23 := hq
   clear hq hg
   refine Zr (cells := #[.int .i64 (((crs x ty st l).S.getD (a + i + 1) st0).p), .int .i64 (((crs x ty st l).onA S.rts (a + i) ((crs x ty st l).stA S.rts a p9 u9 i).1 ((crs x ty st l).stA S.rts a p9 u9 i).2).dep), .int .i64 (CrT.gS ((crs x ty st l).stA S.rts a p9 u9 i).2 (S.rts.getD (a + i + 1) false))]) rfl rfl M25 (fun W27 hg hq => ?_)
   replace HB := HB.grown hg (by omega) (oG (by omega))
   replace HT := own_grown HT hg (fun g8 e8 e9 => by have h7 := hoT g8 e8; simp only [Option.some.injEq] at e9; omega)
   replace KM2 := KM2.kept hg (by omega)
   replace KM4 := KM4.kept hg (by omega)
   replace KM6 := KM6.kept hg (by omega)
   replace KM8 := KM8.kept hg (by omega)
   replace KM9 := KM9.kept hg (by omega)
   replace Q14 := Q14.kept hg (by omega)
   replace Q15 := Q15.kept hg (by omega)
   replace M23 := M23.kept hg (by omega)
   have z16 := hg.size
   replace M25 := hq
   clear hq hg
   refine Zv rfl (.int .i64 0) (Yn (Yo (Ys (Yq (Zv rfl (.int .i64 0) (Zv rfl (.bool false) (Yn (Yo (sx_false (by kernel_rfl) (wp_skip (Yo (Yq (Zv rfl (pt W10.heap.size 2) (Zw rfl (vL) (el (Q14.cell 2 rfl) Tryz.underlying35) (Zw rfl (.agg #[.int .i64 (((crs x ty st l).stA S.rts a p9 u9 i).1), .int .i64 ((crs x ty st l).bgA (a + i) ((crs x ty st l).stA S.rts a p9 u9 i).1), .int .i64 (((crs x ty st l).onA S.rts (a + i) ((crs x ty st l).stA S.rts a p9 u9 i).1 ((crs x ty st l).stA S.rts a p9 u9 i).2).dep), .bool (S.rts.getD (a + i + 1) false)]) (ex_load rfl M23 (by kernel_rfl) Tryz.underlying61 rfl (by kernel_rfl)) ?_)))))))))))))))
   obtain ⟨W28, hW, hb, hq⟩ := laidA W27 #[.int .i64 (((crs x ty st l).stA S.rts a p9 u9 i).1), .int .i64 ((crs x ty st l).bgA (a + i) ((crs x ty st l).stA S.rts a p9 u9 i).1), .int .i64 (((crs x ty st l).onA S.rts (a + i) ((crs x ty st l).stA S.rts a p9 u9 i).1 ((crs x ty st l).stA S.rts a p9 u9 i).2).dep), .bool (S.rts.getD (a + i + 1) false)] 61
   refine sx_mem (by kernel_rfl) rfl rfl (.slice (some ⟨W27.heap.size, 0, none⟩) 1 1) W28 (by rw [← hW]; kernel_rfl) ?_
   replace HB := over HB hb
   replace HT := HT.below hb
   replace KM2 := KM2.below hb
   replace KM4 := KM4.below hb
   replace KM6 := KM6.below hb
   replace KM8 := KM8.below hb
   replace KM9 := KM9.below hb
   replace Q14 := Q14.below hb
   replace Q15 := Q15.below hb
   replace M25 := M25.below hb
   have z17 := hb.size
   have M29 := hq
   have yM29 := hq.lt
   clear hq hb hW
   have hXl := CrT.tmX_len (c := (crs x ty st l)) (R := S.rts) (k := a) (a := p9) (s := u9) (i := i) (by omega)
   obtain ⟨v9, W30, h9, hg9, hb, hgr, hwh⟩ := ap_o (P := Tryz.prog) (t := 35) (ty := 35) (z := tmZ) (bytes := 32) (x := (crs x ty st l).tmA S.rts a p9 u9 i) tmRow Tryz.underlying35 (by kernel_rfl) rfl (by decide) (by decide) HT M29 rfl (by omega) (by omega)
   refine sx_mem (by kernel_rfl) rfl rfl v9 W30 (ex_append rfl (by kernel_rfl) (by kernel_rfl) h9) ?_
   replace HB := HB.trans (hb.mono (by omega))
   replace KM2 := KM2.grownO hgr (fun e9 => by have h8 := hoT _ e9; omega)
   replace KM4 := KM4.grownO hgr (fun e9 => by have h8 := hoT _ e9; omega)
   replace KM6 := KM6.grownO hgr (fun e9 => by have h8 := hoT _ e9; omega)
   replace KM8 := KM8.grownO hgr (fun e9 => by have h8 := hoT _ e9; omega)
   replace KM9 := KM9.grownO hgr (fun e9 => by have h8 := hoT _ e9; omega)
   replace Q14 := Q14.grownO hgr (fun e9 => by have h8 := hoT _ e9; omega)
   replace Q15 := Q15.grownO hgr (fun e9 => by have h8 := hoT _ e9; omega)
   replace M25 := M25.grownO hgr (fun e9 => by have h8 := hoT _ e9; omega)
   have zW30 := hb.size
   have HT := hg9
   have hoT9 : ∀ g, v9.ownBlock = some g → Y13.heap.size ≤ g ∧ g < W30.heap.size ∧ ¬ g = W16.heap.size := fun g e => by
    have h8 := HT.blk e
    rcases hwh with h | h
    ·rw [h] at e; have := hoT g e; omega
    ·rw [h] at e; simp only [Option.some.injEq] at e; omega
   clear hg9 hb h9 hgr hwh
   obtain ⟨oy, cy, rfl⟩ := Ol.form HT
   refine Zv rfl (pt W10.heap.size 2) ?_
   refine sx_do (by kernel_rfl) rfl _ (ex_storeC (k := 2) (old := vL) (v := .slice oy (((crs x ty st l).tmX S.rts a p9 u9 i) ++ [(crs x ty st l).tmA S.rts a p9 u9 i]).length cy) rfl Q14 (by kernel_rfl) (by kernel_rfl) (by kernel_rfl) (by kernel_rfl) (by kernel_rfl)) ?_
   obtain ⟨W31, hW⟩ : ∃ W, W30.setCell ⟨W10.heap.size, 2, none⟩ (.slice oy (((crs x ty st l).tmX S.rts a p9 u9 i) ++ [(crs x ty st l).tmA S.rts a p9 u9 i]).length cy) = W := ⟨_, rfl⟩
   have hg : W30.grownBy W31 (some (W10.heap.size)) := hW ▸ grown_set _ _ _ _
   have hq : Cb W31 (W10.heap.size) #[.bool S.r, .int .i64 S.d, .slice oy (((crs x ty st l).tmX S.rts a p9 u9 i) ++ [(crs x ty st l).tmA S.rts a p9 u9 i]).length cy, .int .i64 0, .int .i64 S.m] 37 := hW ▸ Q14.set 2 (.slice oy (((crs x ty st l).tmX S.rts a p9 u9 i) ++ [(crs x ty st l).tmA S.rts a p9 u9 i]).length cy)
   rw [hW]
   replace HB := HB.grown hg (by omega) (oG (by omega))
   replace KM2 := KM2.kept hg (by omega)
   replace KM4 := KM4.kept hg (by omega)
   replace KM6 := KM6.kept hg (by omega)
   replace KM8 := KM8.kept hg (by omega)
   replace KM9 := KM9.kept hg (by omega)
   replace Q15 := Q15.kept hg (by omega)
   replace M25 := M25.kept hg (by omega)
   replace HT := own_grown HT hg (fun g8 e8 e9 => by have h7 := hoT9 g8 e8; simp only [Option.some.injEq] at e9; omega)
   have z18 := hg.size
   replace Q14 := hq
   clear hq hg hW
   refine Yn (Yo (Yq (Zw rfl (.agg #[.int .i64 (((crs x ty st l).S.getD (a + i + 1) st0).p), .int .i64 (((crs x ty st l).onA S.rts (a + i) ((crs x ty st l).stA S.rts a p9 u9 i).1 ((crs x ty st l).stA S.rts a p9 u9 i).2).dep), .int .i64 (CrT.gS ((crs x ty st l).stA S.rts a p9 u9 i).2 (S.rts.getD (a + i + 1) false))]) (ex_load rfl M25 (by kernel_rfl) Tryz.underlying89 rfl (by kernel_rfl)) ?_)))
   refine Zr (cells := #[.int .i64 (((crs x ty st l).S.getD (a + i + 1) st0).p), .int .i64 (((crs x ty st l).onA S.rts (a + i) ((crs x ty st l).stA S.rts a p9 u9 i).1 ((crs x ty st l).stA S.rts a p9 u9 i).2).dep), .int .i64 (CrT.gS ((crs x ty st l).stA S.rts a p9 u9 i).2 (S.rts.getD (a + i + 1) false))]) rfl rfl Q15 (fun W32 hg hq => ?_)
   replace HB := HB.grown hg (by omega) (oG (by omega))
   replace KM2 := KM2.kept hg (by omega)
   replace KM4 := KM4.kept hg (by omega)
   replace KM6 := KM6.kept hg (by omega)
   replace KM8 := KM8.kept hg (by omega)
   replace KM9 := KM9.kept hg (by omega)
   replace Q14 := Q14.kept hg (by omega)
   replace HT := own_grown HT hg (fun g8 e8 e9 => by have h7 := hoT9 g8 e8; simp only [Option.some.injEq] at e9; omega)
   have z19 := hg.size
   replace Q15 := hq
   clear hq hg
   refine Yn (Yo (Yq (Zw rfl (.agg (iK k x)) (ex_load rfl KM2 (by kernel_rfl) Tryz.underlying30 rfl (by kernel_rfl)) (Zw rfl (.agg (rK ty st orr F.length cr oa l.length ca)) (ex_load rfl KM4 (by kernel_rfl) Tryz.underlying34 rfl (by kernel_rfl)) (Zw rfl (.agg #[.int .i64 (((crs x ty st l).S.getD (a + i + 1) st0).p), .int .i64 (((crs x ty st l).onA S.rts (a + i) ((crs x ty st l).stA S.rts a p9 u9 i).1 ((crs x ty st l).stA S.rts a p9 u9 i).2).dep), .int .i64 (CrT.gS ((crs x ty st l).stA S.rts a p9 u9 i).2 (S.rts.getD (a + i + 1) false))]) (ex_load rfl Q15 (by kernel_rfl) Tryz.underlying89 rfl (by kernel_rfl)) (Zv rfl (.int .i64 (((a + i) : Nat) : Int)) (Zi rfl (IntKind.i64.wrap ((((a + i) : Nat) : Int) + 1)) ((((a + i) + 1 : Nat) : Int)) (by rw [IntKind.wrap_i64]; omega) ?_)))))))
   have honb := CrT.onA_bd hc (R := S.rts) (k := a + i) (a := ((crs x ty st l).stA S.rts a p9 u9 i).1) (s := ((crs x ty st l).stA S.rts a p9 u9 i).2) hrun (by omega) (by omega) hao.1
   have hgb : ((crs x ty st l).stA S.rts a p9 u9 i).2 ≤ (x.tl.getD ty.toNat ty0).drv := hao.2
   have hgs9 : 0 ≤ (CrT.gS ((crs x ty st l).stA S.rts a p9 u9 i).2 (S.rts.getD (a + i + 1) false)) ∧ (CrT.gS ((crs x ty st l).stA S.rts a p9 u9 i).2 (S.rts.getD (a + i + 1) false)) ≤ 4096 := by unfold CrT.gS; split <;> omega
   refine sx_call (by kernel_rfl) rfl rfl ((by
    have h8 := arrival19_n k x hxl ty st orr oa cr ca b o l F hc hp9 W32 (hI.below HB) (hl.below HB) (a + i + 1) (by omega) ((crs x ty st l).onA S.rts (a + i) ((crs x ty st l).stA S.rts a p9 u9 i).1 ((crs x ty st l).stA S.rts a p9 u9 i).2).dep (CrT.gS ((crs x ty st l).stA S.rts a p9 u9 i).2 (S.rts.getD (a + i + 1) false)) (by omega)
    have e1 : (goV x.pl.length x.al (x.tl.getD ty.toNat ty0).prof ((crs x ty st l).S.getD (a + i + 1) st0).p ((crs x ty st l).S.getD (a + i + 1 + 1) st0).p ((crs x ty st l).onA S.rts (a + i) ((crs x ty st l).stA S.rts a p9 u9 i).1 ((crs x ty st l).stA S.rts a p9 u9 i).2).dep).2.2 = 0 := honb.1
    have e2 : (goV x.pl.length x.al (x.tl.getD ty.toNat ty0).prof ((crs x ty st l).S.getD (a + i + 1) st0).p ((crs x ty st l).S.getD (a + i + 1 + 1) st0).p ((crs x ty st l).onA S.rts (a + i) ((crs x ty st l).stA S.rts a p9 u9 i).1 ((crs x ty st l).stA S.rts a p9 u9 i).2).dep).1 = ((crs x ty st l).onA S.rts (a + i) ((crs x ty st l).stA S.rts a p9 u9 i).1 ((crs x ty st l).stA S.rts a p9 u9 i).2).arr := rfl
    rw [e1, e2] at h8
    exact h8)) (by kernel_rfl) ?_
   rintro e W33 ⟨rfl, hb⟩
   replace HB := over HB hb
   replace KM2 := KM2.below hb
   replace KM4 := KM4.below hb
   replace KM6 := KM6.below hb
   replace KM8 := KM8.below hb
   replace KM9 := KM9.below hb
   replace Q14 := Q14.below hb
   replace Q15 := Q15.below hb
   replace HT := HT.below hb
   have z20 := hb.size
   clear hb
   refine ⟨_, rfl, ?_⟩
   refine Zv rfl (.tuple #[.int .i64 (((crs x ty st l).onA S.rts (a + i) ((crs x ty st l).stA S.rts a p9 u9 i).1 ((crs x ty st l).stA S.rts a p9 u9 i).2).arr), .int .i64 0]) (Zv rfl (.int .i64 (((crs x ty st l).onA S.rts (a + i) ((crs x ty st l).stA S.rts a p9 u9 i).1 ((crs x ty st l).stA S.rts a p9 u9 i).2).arr)) (Zv rfl (.int .i64 0) (Zv rfl (.int .i64 (((crs x ty st l).onA S.rts (a + i) ((crs x ty st l).stA S.rts a p9 u9 i).1 ((crs x ty st l).stA S.rts a p9 u9 i).2).arr)) (Zv rfl (.int .i64 0) (Yn (Yo (Ys (Yq (Zv rfl (.int .i64 0) (Zv rfl (.bool false) (Yn (Yo (sx_false (by kernel_rfl) (wp_skip (Yo (Yr (Zv rfl (.int .i64 (((crs x ty st l).onA S.rts (a + i) ((crs x ty st l).stA S.rts a p9 u9 i).1 ((crs x ty st l).stA S.rts a p9 u9 i).2).arr)) ?_)))))))))))))))))
   refine Zv rfl (.int .i64 (((crs x ty st l).onA S.rts (a + i) ((crs x ty st l).stA S.rts a p9 u9 i).1 ((crs x ty st l).stA S.rts a p9 u9 i).2).arr)) (Yn ?_)
   refine sx_in ?_
   refine Yo (Yr (Zv rfl (.int .i64 (((a + i) : Nat) : Int)) (Zi rfl (IntKind.i64.wrap ((((a + i) : Nat) : Int) + 1)) ((((a + i) + 1 : Nat) : Int)) (by rw [IntKind.wrap_i64]; omega) (Zv rfl (.int .i64 (((a + i) + 1 : Nat) : Int)) (Yn (Yo ?_))))))
   exact sx_again (l.length - (a + (i + 1))) (i + 1, .slice oy (((crs x ty st l).tmX S.rts a p9 u9 i) ++ [(crs x ty st l).tmA S.rts a p9 u9 i]).length cy, ((crs x ty st l).onA S.rts (a + i) ((crs x ty st l).stA S.rts a p9 u9 i).1 ((crs x ty st l).stA S.rts a p9 u9 i).2).dep, (CrT.gS ((crs x ty st l).stA S.rts a p9 u9 i).2 (S.rts.getD (a + i + 1) false))) (by omega) (by kernel_rfl) ⟨by show a + (i + 1) ≤ _; omega, Nat.le_refl _, hra1, (by show (CrT.gS ((crs x ty st l).stA S.rts a p9 u9 i).2 (S.rts.getD (a + i + 1) false)) + ((crs x ty st l).onA S.rts (a + i) ((crs x ty st l).stA S.rts a p9 u9 i).1 ((crs x ty st l).stA S.rts a p9 u9 i).2).arr - ((crs x ty st l).onA S.rts (a + i) ((crs x ty st l).stA S.rts a p9 u9 i).1 ((crs x ty st l).stA S.rts a p9 u9 i).2).dep = (CrT.gS ((crs x ty st l).stA S.rts a p9 u9 i).2 (S.rts.getD (a + i + 1) false)) + (((crs x ty st l).onA S.rts (a + i) ((crs x ty st l).stA S.rts a p9 u9 i).1 ((crs x ty st l).stA S.rts a p9 u9 i).2).arr - ((crs x ty st l).onA S.rts (a + i) ((crs x ty st l).stA S.rts a p9 u9 i).1 ((crs x ty st l).stA S.rts a p9 u9 i).2).dep); omega), (by show 0 ≤ ((crs x ty st l).onA S.rts (a + i) ((crs x ty st l).stA S.rts a p9 u9 i).1 ((crs x ty st l).stA S.rts a p9 u9 i).2).dep ∧ ((crs x ty st l).onA S.rts (a + i) ((crs x ty st l).stA S.rts a p9 u9 i).1 ((crs x ty st l).stA S.rts a p9 u9 i).2).dep ≤ _; omega), (by show 0 ≤ (CrT.gS ((crs x ty st l).stA S.rts a p9 u9 i).2 (S.rts.getD (a + i + 1) false)) ∧ (CrT.gS ((crs x ty st l).stA S.rts a p9 u9 i).2 (S.rts.getD (a + i + 1) false)) ≤ _; omega), (by show 0 ≤ ((crs x ty st l).onA S.rts (a + i) ((crs x ty st l).stA S.rts a p9 u9 i).1 ((crs x ty st l).stA S.rts a p9 u9 i).2).arr ∧ ((crs x ty st l).onA S.rts (a + i) ((crs x ty st l).stA S.rts a p9 u9 i).1 ((crs x ty st l).stA S.rts a p9 u9 i).2).arr ≤ _; omega), (by show ((crs x ty st l).onA S.rts (a + i) ((crs x ty st l).stA S.rts a p9 u9 i).1 ((crs x ty st l).stA S.rts a p9 u9 i).2).dep ≤ ((crs x ty st l).onA S.rts (a + i) ((crs x ty st l).stA S.rts a p9 u9 i).1 ((crs x ty st l).stA S.rts a p9 u9 i).2).arr; omega), (by show Ol tmE 61 4 _ _ _ ((crs x ty st l).tmX S.rts a p9 u9 (i + 1)); rw [CrT.tmX_succ (by omega)]; exact HT), (fun g e => (hoT9 g e).2.2), Q14, Q15, HB, (by show _ ≤ _; omega), KM2, KM4, KM6, KM8, KM9⟩
  refine Zd rfl ((by have h8 := visited19_n k x hxl ty st orr oa oS cr ca cS b o bS qS l F S hc hp9 hTl hrun hsh wr20 (hI.below HB) (hl.below HB) (hST.below HB) (a + i) (by omega) ((crs x ty st l).S.getD (a + i) st0).p D N ((crs x ty st l).stA S.rts a p9 u9 i).1 hD hN hA; rw [hsI, if_neg C3, if_neg C3] at h8; exact h8)) (fun W34 hb z12 => ?_)
  replace HB := over HB hb
  replace HT := HT.below hb
  replace KM8 := KM8.below hb
  clear hb
  have hre := CrT.ra_stop hra C3 ((crs x ty st l).n - a) (by omega)
  refine Zv rfl (.tuple #[.agg nZM, .agg nZ3, .int .i64 ((crs x ty st l).arE (a + i) ((crs x ty st l).stA S.rts a p9 u9 i).1 ((crs x ty st l).stA S.rts a p9 u9 i).2)]) (Zv rfl (.agg nZM) (Zv rfl (.agg nZ3) (Zv rfl (.int .i64 ((crs x ty st l).arE (a + i) ((crs x ty st l).stA S.rts a p9 u9 i).1 ((crs x ty st l).stA S.rts a p9 u9 i).2)) ?_)))
  refine Za rfl nZM 61 (fun W35 hb M36 z13 yM36 => ?_)
  replace HB := over HB hb
  replace HT := HT.below hb
  replace KM8 := KM8.below hb
  clear hb
  refine Za rfl nZ3 89 (fun W37 hb M38 z14 yM38 => ?_)
  replace HB := over HB hb
  replace HT := HT.below hb
  replace KM8 := KM8.below hb
  replace M36 := M36.below hb
  clear hb
  refine Zr (cells := nZM) rfl rfl M36 (fun W39 hg hq => ?_)
  replace HB := HB.grown hg (by omega) (oG (by omega))
  replace HT := own_grown HT hg (fun g8 e8 e9 => by have h7 := hoT g8 e8; simp only [Option.some.injEq] at e9; omega)
  replace KM8 := KM8.kept hg (by omega)
  replace M38 := M38.kept hg (by omega)
  have z15 := hg.size
  replace M36 := hq
  clear hq hg
  refine Zr (cells := nZ3) rfl rfl M38 (fun W40 hg hq => ?_)
  replace HB := HB.grown hg (by omega) (oG (by omega))
  replace HT := own_grown HT hg (fun g8 e8 e9 => by have h7 := hoT g8 e8; simp only [Option.some.injEq] at e9; omega)
  replace KM8 := KM8.kept hg (by omega)
  have z16 := hg.size
  replace M38 := hq
  clear hq hg
  refine Zv rfl (.int .i64 ((crs x ty st l).arE (a + i) ((crs x ty st l).stA S.rts a p9 u9 i).1 ((crs x ty st l).stA S.rts a p9 u9 i).2)) (Yn (Yo (Ys (Yq (Zv rfl (.int .i64 ((crs x ty st l).arE (a + i) ((crs x ty st l).stA S.rts a p9 u9 i).1 ((crs x ty st l).stA S.rts a p9 u9 i).2)) (Zb rfl ((((crs x ty st l).arE (a + i) ((crs x ty st l).stA S.rts a p9 u9 i).1 ((crs x ty st l).stA S.rts a p9 u9 i).2) : Int) != (0 : Int)) true (bne_iff_ne.2 (by omega)) (Yn (Yo (sx_true (by kernel_rfl) (Yq (Zv rfl (.agg nZS) (Zv rfl (.int .i64 ((crs x ty st l).arE (a + i) ((crs x ty st l).stA S.rts a p9 u9 i).1 ((crs x ty st l).stA S.rts a p9 u9 i).2)) ?_))))))))))))
  refine Zr (cells := nZS) rfl rfl KM8 (fun W41 hg hq => ?_)
  replace HB := HB.grown hg (by omega) (oG (by omega))
  replace HT := own_grown HT hg (fun g8 e8 e9 => by have h7 := hoT g8 e8; simp only [Option.some.injEq] at e9; omega)
  have z17 := hg.size
  replace KM8 := hq
  clear hq hg
  refine Zv rfl (.int .i64 ((crs x ty st l).arE (a + i) ((crs x ty st l).stA S.rts a p9 u9 i).1 ((crs x ty st l).stA S.rts a p9 u9 i).2)) (Yn (Yo (wp_ret (sx_rs ?_))))
  refine sx_rb ?_
  refine sx_rs (sx_rs ?_)
  refine sx_rb ?_
  refine sx_rs ?_
  have h9 : (crs x ty st l).ra S.rts a p9 u9 ((crs x ty st l).n - a) = ((crs x ty st l).arE (a + i) ((crs x ty st l).stA S.rts a p9 u9 i).1 ((crs x ty st l).stA S.rts a p9 u9 i).2) := hre
  have h8 : ¬ (crs x ty st l).ra S.rts a p9 u9 ((crs x ty st l).n - a) = 0 := by rw [h9]; assumption
  exact sx_retct (v' := .int .i64 ((crs x ty st l).arE (a + i) ((crs x ty st l).stA S.rts a p9 u9 i).1 ((crs x ty st l).stA S.rts a p9 u9 i).2)) KM8 rfl rfl rfl (by kernel_rfl) (by kernel_rfl) Tryz.underlying37 rfl (by kernel_rfl) ⟨none, 0, 0, 0, by rw [if_neg h8, h9]; rfl, by rw [if_neg h8]; exact rw_sh0 _, fun i hi => by rw [if_neg h8] at hi; exact absurd hi (Nat.not_lt_zero i), HB⟩
 refine Zb rfl (decide ((((a + i) : Nat) : Int) < ((l.length : Nat) : Int))) false (decide_eq_false (by omega)) (Yn (Yo (sx_false (by kernel_rfl) (wp_exit ?_))))
 refine sx_es ?_
 refine sx_es ?_
 refine sx_out ?_
 refine Yo (Ys (Ys ?_))
 have hil : a + i = l.length := by omega
 have hS9 : (crs x ty st l).S.getD (a + i + 1) st0 = ⟨(x.tl.getD ty.toNat ty0).to, 0, (x.tl.getD ty.toNat ty0).cls, 0⟩ := by rw [hil]; exact crs_endS x ty st l
 have hni : (crs x ty st l).n - a = i + 1 := by omega
 have hcl9 : ((crs x ty st l).S.getD (a + i + 1) st0).c = (x.tl.getD ty.toNat ty0).cls := by rw [hS9]
 refine Yr (Zv rfl (.int .i64 (((crs x ty st l).stA S.rts a p9 u9 i).1)) (Zv rfl (pt W7.heap.size 8) (Zw rfl (.int .i64 ((x.tl.getD ty.toNat ty0).cls)) (el (KM9.cell 8 rfl) Tryz.underlying3) ?_)))
 by_cases C4 : ((crs x ty st l).stA S.rts a p9 u9 i).1 > (x.tl.getD ty.toNat ty0).cls
 ·refine Zb rfl (decide (((crs x ty st l).stA S.rts a p9 u9 i).1 > (x.tl.getD ty.toNat ty0).cls)) true (decide_eq_true (by omega)) (Yn (Yo (sx_true (by kernel_rfl) (Yq (Zv rfl (.agg nZS) ?_)))))
  refine Zr (cells := nZS) rfl rfl KM8 (fun W42 hg hq => ?_)
  replace HB := HB.grown hg (by omega) (oG (by omega))
  replace HT := own_grown HT hg (fun g8 e8 e9 => by have h7 := hoT g8 e8; simp only [Option.some.injEq] at e9; omega)
  have z12 := hg.size
  replace KM8 := hq
  clear hq hg
  refine Zv rfl (.int .i64 15) (Yn (Yo (wp_ret (sx_rs ?_))))
  have hl9 : (crs x ty st l).late (a + i + 1) = 15 := by unfold CrT.late; rw [if_pos (by show a + i + 1 + 1 = (crsS _ _ _).length; rw [crsS_len]; omega)]
  have h9 : (crs x ty st l).ra S.rts a p9 u9 ((crs x ty st l).n - a) = 15 := by
   rw [hni, CrT.ra_succ, hra, if_neg (fun h => h rfl)]
   unfold CrT.arE
   rw [if_pos (by rw [hcl9]; omega)]; exact hl9
  have h8 : ¬ (crs x ty st l).ra S.rts a p9 u9 ((crs x ty st l).n - a) = 0 := by rw [h9]; decide
  exact sx_retct (v' := .int .i64 15) KM8 rfl rfl rfl (by kernel_rfl) (by kernel_rfl) Tryz.underlying37 rfl (by kernel_rfl) ⟨none, 0, 0, 0, by rw [if_neg h8, h9]; rfl, by rw [if_neg h8]; exact rw_sh0 _, fun i hi => by rw [if_neg h8] at hi; exact absurd hi (Nat.not_lt_zero i), HB⟩
 refine Zb rfl (decide (((crs x ty st l).stA S.rts a p9 u9 i).1 > (x.tl.getD ty.toNat ty0).cls)) false (decide_eq_false (by omega)) (Yn (Yo (sx_false (by kernel_rfl) (wp_skip (Yo (Ys (Yq (Zv rfl (pt W16.heap.size 2) (Zw rfl (.int .i64 N) (el (Q15.cell 2 rfl) Tryz.underlying3) (Zv rfl (.int .i64 (((crs x ty st l).stA S.rts a p9 u9 i).1)) (Zi rfl (IntKind.i64.wrap (N + ((crs x ty st l).stA S.rts a p9 u9 i).1)) ((N + ((crs x ty st l).stA S.rts a p9 u9 i).1)) (by rw [IntKind.wrap_i64]; omega) (Zv rfl (pt W16.heap.size 1) (Zw rfl (.int .i64 D) (el (Q15.cell 1 rfl) Tryz.underlying3) (Zi rfl (IntKind.i64.wrap ((N + ((crs x ty st l).stA S.rts a p9 u9 i).1) - D)) (((N + ((crs x ty st l).stA S.rts a p9 u9 i).1) - D)) (by rw [IntKind.wrap_i64]; omega) (Zv rfl (pt W7.heap.size 9) ?_)))))))))))))))
 refine Zw rfl (.int .i64 ((x.tl.getD ty.toNat ty0).drv)) (el (KM9.cell 9 rfl) Tryz.underlying3) ?_
 by_cases C5 : ((N + ((crs x ty st l).stA S.rts a p9 u9 i).1) - D) > (x.tl.getD ty.toNat ty0).drv
 ·refine Zb rfl (decide (((N + ((crs x ty st l).stA S.rts a p9 u9 i).1) - D) > (x.tl.getD ty.toNat ty0).drv)) true (decide_eq_true (by omega)) (Yn (Yo (sx_true (by kernel_rfl) (Yq (Zv rfl (.agg nZS) ?_)))))
  refine Zr (cells := nZS) rfl rfl KM8 (fun W43 hg hq => ?_)
  replace HB := HB.grown hg (by omega) (oG (by omega))
  replace HT := own_grown HT hg (fun g8 e8 e9 => by have h7 := hoT g8 e8; simp only [Option.some.injEq] at e9; omega)
  have z12 := hg.size
  replace KM8 := hq
  clear hq hg
  refine Zv rfl (.int .i64 16) (Yn (Yo (wp_ret (sx_rs ?_))))
  have h9 : (crs x ty st l).ra S.rts a p9 u9 ((crs x ty st l).n - a) = 16 := by
   rw [hni, CrT.ra_succ, hra, if_neg (fun h => h rfl)]
   unfold CrT.arE
   rw [if_neg (by rw [hcl9]; omega), if_pos (show (crs x ty st l).ty.drv < ((crs x ty st l).stA S.rts a p9 u9 i).2 from (by omega : (x.tl.getD ty.toNat ty0).drv < ((crs x ty st l).stA S.rts a p9 u9 i).2))]
  have h8 : ¬ (crs x ty st l).ra S.rts a p9 u9 ((crs x ty st l).n - a) = 0 := by rw [h9]; decide
  exact sx_retct (v' := .int .i64 16) KM8 rfl rfl rfl (by kernel_rfl) (by kernel_rfl) Tryz.underlying37 rfl (by kernel_rfl) ⟨none, 0, 0, 0, by rw [if_neg h8, h9]; rfl, by rw [if_neg h8]; exact rw_sh0 _, fun i hi => by rw [if_neg h8] at hi; exact absurd hi (Nat.not_lt_zero i), HB⟩
 refine Zb rfl (decide (((N + ((crs x ty st l).stA S.rts a p9 u9 i).1) - D) > (x.tl.getD ty.toNat ty0).drv)) false (decide_eq_false (by omega)) (Yn (Yo (sx_false (by kernel_rfl) (wp_skip (Yo (Ys ?_))))))
 obtain ⟨oz, cz, rfl⟩ := Ol.form HT
 refine Yr (Zv rfl (.int .i64 (((crs x ty st l).stA S.rts a p9 u9 i).1)) (Zv rfl (pt W10.heap.size 3) ?_))
 refine sx_do (by kernel_rfl) rfl _ (ex_storeC (k := 3) (old := .int .i64 0) (v := .int .i64 (((crs x ty st l).stA S.rts a p9 u9 i).1)) rfl Q14 (by kernel_rfl) (by kernel_rfl) (by kernel_rfl) (by kernel_rfl) (by kernel_rfl)) ?_
 obtain ⟨W44, hW⟩ : ∃ W, wr20.setCell ⟨W10.heap.size, 3, none⟩ (.int .i64 (((crs x ty st l).stA S.rts a p9 u9 i).1)) = W := ⟨_, rfl⟩
 have hg : wr20.grownBy W44 (some (W10.heap.size)) := hW ▸ grown_set _ _ _ _
 have hq : Cb W44 (W10.heap.size) #[.bool S.r, .int .i64 S.d, .slice oz ((crs x ty st l).tmX S.rts a p9 u9 i).length cz, .int .i64 (((crs x ty st l).stA S.rts a p9 u9 i).1), .int .i64 S.m] 37 := hW ▸ Q14.set 3 (.int .i64 (((crs x ty st l).stA S.rts a p9 u9 i).1))
 rw [hW]
 replace HB := HB.grown hg (by omega) (oG (by omega))
 replace HT := own_grown HT hg (fun g8 e8 e9 => by have h7 := hoT g8 e8; simp only [Option.some.injEq] at e9; omega)
 replace KM8 := KM8.kept hg (by omega)
 have z12 := hg.size
 replace Q14 := hq
 clear hq hg hW
 refine Yn (Yo (Yq (Zw rfl (.agg #[.bool S.r, .int .i64 S.d, .slice oz ((crs x ty st l).tmX S.rts a p9 u9 i).length cz, .int .i64 (((crs x ty st l).stA S.rts a p9 u9 i).1), .int .i64 S.m]) (ex_load rfl Q14 (by kernel_rfl) Tryz.underlying37 rfl (by kernel_rfl)) ?_)))
 refine Zr (cells := #[.bool S.r, .int .i64 S.d, .slice oz ((crs x ty st l).tmX S.rts a p9 u9 i).length cz, .int .i64 (((crs x ty st l).stA S.rts a p9 u9 i).1), .int .i64 S.m]) rfl rfl KM8 (fun W45 hg hq => ?_)
 replace HB := HB.grown hg (by omega) (oG (by omega))
 replace HT := own_grown HT hg (fun g8 e8 e9 => by have h7 := hoT g8 e8; simp only [Option.some.injEq] at e9; omega)
 have z13 := hg.size
 replace KM8 := hq
 clear hq hg
 refine Zv rfl (.int .i64 0) (Yn (Yo (wp_ret ?_)))
 obtain ⟨bz, qz, hrz, hbz⟩ := Ol.rwB tmRow tm0 HT
 have h8 : (crs x ty st l).ra S.rts a p9 u9 ((crs x ty st l).n - a) = 0 := by
  rw [hni, CrT.ra_succ, hra, if_neg (fun h => h rfl)]
  unfold CrT.arE
  rw [if_neg (by rw [hcl9]; omega), if_neg (show ¬ (crs x ty st l).ty.drv < ((crs x ty st l).stA S.rts a p9 u9 i).2 from (by omega : ¬ (x.tl.getD ty.toNat ty0).drv < ((crs x ty st l).stA S.rts a p9 u9 i).2))]
 obtain rfl : i = (crs x ty st l).n - 1 - a := by omega
 have hX := CrT.tmX_all (c := (crs x ty st l)) (R := S.rts) (k := a) (a := p9) (s := u9) (i := (crs x ty st l).n - 1 - a) (by omega)
 have hr1 : S.r = S.rts.getD 0 false := (congrArg ShT.r hsh).symm
 have hd1 : S.d = ((crs x ty st l).lg S.rts 0).dep := (congrArg ShT.d hsh).symm
 have hm1 : S.m = (crs x ty st l).mil S.rts (crs x ty st l).n := (congrArg ShT.m hsh).symm
 rw [hX] at hrz hbz
 exact sx_retct (v' := .int .i64 0) KM8 rfl rfl rfl (by kernel_rfl) (by kernel_rfl) Tryz.underlying37 rfl (by kernel_rfl) ⟨oz, cz, bz, qz, by rw [if_pos h8, h8, hX, hr1, hd1, hm1]; rfl, by rw [if_pos h8]; exact hrz, fun i hi => by rw [if_pos h8] at hi; have h7 := hbz i hi; omega, HB⟩

theorem later19_n (k : Iv) (x : InT) (hxl : x.ol.length ≤ 1000000) (ty st : Int) (orr oa oS : Option Addr) (cr ca cS b o bS qS : Nat) (l : List (Int × Bool)) (F : List Bool) (S : ShT) (hc : (crs x ty st l).Ok) (hp9 : posD x.tl x.ol ty st l = true) (hTl : S.T.length = l.length) (hrun : (crs x ty st l).run S.rts (crs x ty st l).n = 0) (hsh : (crs x ty st l).sheet S.rts = S) (w : World) (hI : Ins w k x) (hl : Rw w b o 2 (vF l) l.length oa) (hST : Rw w bS qS 4 (fun k => tmE (S.T.getD k tm0)) S.T.length oS) (hcS : S.T.length ≤ cS) (a : Nat) (ha : a ≤ l.length) (t : Int) (ht : 0 ≤ t ∧ t ≤ 100000) : Calls Tryz.prog 20 #[.agg (iK k x), .agg (rK ty st orr F.length cr oa l.length ca), .agg (sK S oS cS), .int .i64 ((a : Nat) : Int), .int .i64 t] w (ShP (if (crs x ty st l).ra S.rts a (((crs x ty st l).lg S.rts a).arr + t) (((crs x ty st l).lg S.rts a).sin + t) ((crs x ty st l).n - a) = 0 then (crs x ty st l).afS S.rts a (((crs x ty st l).lg S.rts a).arr + t) (((crs x ty st l).lg S.rts a).sin + t) else sh0) ((crs x ty st l).ra S.rts a (((crs x ty st l).lg S.rts a).arr + t) (((crs x ty st l).lg S.rts a).sin + t) ((crs x ty st l).n - a)) w) := later19_c k x hxl ty st orr oa oS cr ca cS b o bS qS l F S hc hp9 hTl hrun hsh w hI hl hST hcS a ha t _ _ ht rfl rfl

end Go.Proofs.YtomebalolmabnaaGreatDoor.T



