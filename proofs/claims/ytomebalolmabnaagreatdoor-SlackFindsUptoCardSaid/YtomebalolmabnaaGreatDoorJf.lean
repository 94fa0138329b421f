/-
  DERIVED. Jf: a part of the base of layer 13 (made by pack.py).
-/
import Derived.Test.YtomebalolmabnaaGreatDoorGH
import Derived.Test.YtomebalolmabnaaGreatDoorJd
import Derived.Test.YtomebalolmabnaaGreatDoorGA
import Derived.Test.YtomebalolmabnaaGreatDoorGF
import Derived.Test.YtomebalolmabnaaGreatDoorJe
/-! The walks of slack: stopOf, courseOf (by gen_jf.py). -/
namespace Go.Proofs.YtomebalolmabnaaGreatDoor.T
open Go.RowKit
set_option maxRecDepth 8000
attribute [local irreducible] wpList Code.wp wpAnyH

def stK (c : CrT) (j : Nat) : List StT := (List.range j).map fun i => c.S.getD (i + 1) st0
theorem stK_len (c : CrT) (j : Nat) : (stK c j).length = j := by unfold stK; simp
theorem stK_more (c : CrT) (j : Nat) : stK c (j + 1) = stK c j ++ [c.S.getD (j + 1) st0] := by unfold stK; rw [List.range_succ, List.map_append]; rfl
theorem stK_at {c : CrT} {j i : Nat} (h : i < j) : (stK c j).getD i st0 = c.S.getD (i + 1) st0 := by unfold stK; rw [List.getD_eq_getElem?_getD, List.getElem?_map, List.getElem?_range h]; rfl
theorem crs_endJ (x : InT) (ty st : Int) (l : List (Int × Bool)) : (crs x ty st l).S.getD (l.length + 1) st0 = ⟨(x.tl.getD ty.toNat ty0).to, 0, (x.tl.getD ty.toNat ty0).cls, 0⟩ := by
 show (crsS _ x.ol l).getD (l.length + 1) st0 = _
 unfold crsS
 rw [List.getD_eq_getElem?_getD, List.getElem?_append_right (by simp)]
 simp
theorem chk_is {x : InT} {ty st : Int} {l : List (Int × Bool)} {F : List Bool} {S : ShT} (h : chkE x ty st l F S = 0) : posD x.tl x.ol ty st l = true ∧ S.T.length = l.length ∧ (crs x ty st l).run S.rts (crs x ty st l).n = 0 ∧ (crs x ty st l).sheet S.rts = S ∧ sinS x ty st l F S = ((crs x ty st l).legs S.rts (crs x ty st l).n).map (·.sin) := by
 have h0 := h
 unfold chkE at h
 split at h
 ·rename_i h1
  split at h
  ·split at h
   ·rename_i h2 h3
    split at h
    ·rename_i h4
     exact ⟨h1.1, h1.2.2, h3, h4, by unfold sinS chkL; rw [if_pos h0]⟩
    ·cases h
   ·rename_i h3; exact absurd h h3
  ·cases h
 ·cases h
theorem sin_at {x : InT} {ty st : Int} {l : List (Int × Bool)} {F : List Bool} {S : ShT} (h : chkE x ty st l F S = 0) : (sinS x ty st l F S).length = l.length + 1 ∧ ∀ i, i < l.length + 1 → (sinS x ty st l F S).getD i 0 = ((crs x ty st l).lg S.rts i).sin := by
 have h5 := (chk_is h).2.2.2.2
 have hn := crs_n x ty st l
 rw [h5]
 refine ⟨by rw [List.length_map, CrT.legs_len, hn], fun i hi => ?_⟩
 have h7 : i < ((crs x ty st l).legs S.rts (crs x ty st l).n).length := by rw [CrT.legs_len]; omega
 have h6 : ((crs x ty st l).legs S.rts (crs x ty st l).n)[i]? = some (((crs x ty st l).legs S.rts (crs x ty st l).n).getD i leg0) := by
  rw [List.getD_eq_getElem?_getD, List.getElem?_eq_getElem h7]
  rfl
 rw [List.getD_eq_getElem?_getD, List.getElem?_map, h6, CrT.legs_at _ _ (by omega)]
 rfl
theorem stopOf_true (O : OrT) (vl : Value) (w : World) : Calls Tryz.prog 31 #[.agg #[.string O.name, vl, .int .i64 O.pp, .int .i64 O.po, .int .i64 O.pc, .int .i64 O.ps, .int .i64 O.dp, .int .i64 O.dd, .int .i64 O.dc, .int .i64 O.ds, .int .i64 O.sk, .int .i64 O.pen, .int .i64 O.spl, .int .i64 O.las, .int .i64 O.now, .bool O.off], .bool true] w fun e w' => e = .returned (.agg (pK (stQ O true))) ∧ Below w.heap.size w w' := by
 have HB : Below w.heap.size w w := Below.refl _ _
 refine sx_enter Tryz.func31 rfl [(0, .agg #[.string O.name, vl, .int .i64 O.pp, .int .i64 O.po, .int .i64 O.pc, .int .i64 O.ps, .int .i64 O.dp, .int .i64 O.dd, .int .i64 O.dc, .int .i64 O.ds, .int .i64 O.sk, .int .i64 O.pen, .int .i64 O.spl, .int .i64 O.las, .int .i64 O.now, .bool O.off]), (1, .bool true)] (by kernel_rfl) ?_
 refine Yq ?_
 refine Za rfl #[.string O.name, vl, .int .i64 O.pp, .int .i64 O.po, .int .i64 O.pc, .int .i64 O.ps, .int .i64 O.dp, .int .i64 O.dd, .int .i64 O.dc, .int .i64 O.ds, .int .i64 O.sk, .int .i64 O.pen, .int .i64 O.spl, .int .i64 O.las, .int .i64 O.now, .bool O.off] 78 (fun W1 hb M2 z1 yM2 => ?_)
 replace HB := over HB hb
 clear hb
 refine Za rfl nZ4 76 (fun W3 hb M4 z2 yM4 => ?_)
 replace HB := over HB hb
 replace M2 := M2.below hb
 clear hb
 refine Yn (Yo (Ys (Yq (Zv rfl (.bool true) (Yn (Yo (sx_true (by kernel_rfl) (Yq (Zv rfl (pt w.heap.size 6) (Zw rfl (.agg #[.int .i64 O.dp, .int .i64 O.dd, .int .i64 O.dc, .int .i64 O.ds]) (ex_mid (q := 6) rfl M2 [.int .i64 O.dp, .int .i64 O.dd, .int .i64 O.dc, .int .i64 O.ds] (by kernel_rfl) Tryz.underlying76 rfl (by kernel_rfl) rfl) ?_))))))))))
 refine Zr (cells := #[.int .i64 O.dp, .int .i64 O.dd, .int .i64 O.dc, .int .i64 O.ds]) rfl rfl M4 (fun W5 hg hq => ?_)
 replace HB := HB.grown hg (by omega) (oG (by omega))
 have z3 := hg.size
 replace M4 := hq
 clear hq hg
 refine Yn (Yo (wp_ret (sx_rs ?_)))
 exact sx_retc M4 rfl rfl rfl Tryz.underlying76 rfl (by kernel_rfl) ⟨rfl, HB⟩

theorem stopOf_false (O : OrT) (vl : Value) (w : World) : Calls Tryz.prog 31 #[.agg #[.string O.name, vl, .int .i64 O.pp, .int .i64 O.po, .int .i64 O.pc, .int .i64 O.ps, .int .i64 O.dp, .int .i64 O.dd, .int .i64 O.dc, .int .i64 O.ds, .int .i64 O.sk, .int .i64 O.pen, .int .i64 O.spl, .int .i64 O.las, .int .i64 O.now, .bool O.off], .bool false] w fun e w' => e = .returned (.agg (pK (stQ O false))) ∧ Below w.heap.size w w' := by
 have HB : Below w.heap.size w w := Below.refl _ _
 refine sx_enter Tryz.func31 rfl [(0, .agg #[.string O.name, vl, .int .i64 O.pp, .int .i64 O.po, .int .i64 O.pc, .int .i64 O.ps, .int .i64 O.dp, .int .i64 O.dd, .int .i64 O.dc, .int .i64 O.ds, .int .i64 O.sk, .int .i64 O.pen, .int .i64 O.spl, .int .i64 O.las, .int .i64 O.now, .bool O.off]), (1, .bool false)] (by kernel_rfl) ?_
 refine Yq ?_
 refine Za rfl #[.string O.name, vl, .int .i64 O.pp, .int .i64 O.po, .int .i64 O.pc, .int .i64 O.ps, .int .i64 O.dp, .int .i64 O.dd, .int .i64 O.dc, .int .i64 O.ds, .int .i64 O.sk, .int .i64 O.pen, .int .i64 O.spl, .int .i64 O.las, .int .i64 O.now, .bool O.off] 78 (fun W1 hb M2 z1 yM2 => ?_)
 replace HB := over HB hb
 clear hb
 refine Za rfl nZ4 76 (fun W3 hb M4 z2 yM4 => ?_)
 replace HB := over HB hb
 replace M2 := M2.below hb
 clear hb
 refine Yn (Yo (Ys (Yq (Zv rfl (.bool false) (Yn (Yo (sx_false (by kernel_rfl) (wp_skip (Yo (Yq (Zv rfl (pt w.heap.size 2) (Zw rfl (.agg #[.int .i64 O.pp, .int .i64 O.po, .int .i64 O.pc, .int .i64 O.ps]) (ex_mid (q := 2) rfl M2 [.int .i64 O.pp, .int .i64 O.po, .int .i64 O.pc, .int .i64 O.ps] (by kernel_rfl) Tryz.underlying76 rfl (by kernel_rfl) rfl) ?_))))))))))))
 refine Zr (cells := #[.int .i64 O.pp, .int .i64 O.po, .int .i64 O.pc, .int .i64 O.ps]) rfl rfl M4 (fun W5 hg hq => ?_)
 replace HB := HB.grown hg (by omega) (oG (by omega))
 have z3 := hg.size
 replace M4 := hq
 clear hq hg
 refine Yn (Yo (wp_ret ?_))
 exact sx_retc M4 rfl rfl rfl Tryz.underlying76 rfl (by kernel_rfl) ⟨rfl, HB⟩

theorem stopOf_n (O : OrT) (vl : Value) (d : Bool) (w : World) : Calls Tryz.prog 31 #[.agg #[.string O.name, vl, .int .i64 O.pp, .int .i64 O.po, .int .i64 O.pc, .int .i64 O.ps, .int .i64 O.dp, .int .i64 O.dd, .int .i64 O.dc, .int .i64 O.ds, .int .i64 O.sk, .int .i64 O.pen, .int .i64 O.spl, .int .i64 O.las, .int .i64 O.now, .bool O.off], .bool d] w fun e w' => e = .returned (.agg (pK (stQ O d))) ∧ Below w.heap.size w w' := by
 cases d
 ·exact stopOf_false O vl w
 ·exact stopOf_true O vl w
theorem scourseOf_n (k : Iv) (x : InT) (ty st : Int) (orr oa oS : Option Addr) (cr ca cS b o bf qf bS qS : Nat) (l : List (Int × Bool)) (F : List Bool) (S : ShT) (lS : S.T.length ≤ 300000) (hok : posD x.tl x.ol ty st l = true → (crs x ty st l).Ok) (w : World) (hI : Ins w k x) (hT : Tab w) (hl : Rw w b o 2 (vF l) l.length oa) (hFx : Rw w bf qf 1 (bF F) F.length orr) (hST : Rw w bS qS 4 (fun k => tmE (S.T.getD k tm0)) S.T.length oS) : Calls Tryz.prog 17 #[.agg (iK k x), .agg (rK ty st orr F.length cr oa l.length ca), .agg (sK S oS cS)] w fun e w' => ((¬ (chkE x ty st l F S) = 0 ∧ e = .returned (.tuple #[.pointer none, .int .i64 (chkE x ty st l F S)])) ∨ ∃ K q, (chkE x ty st l F S) = 0 ∧ e = .returned (.tuple #[.pointer (some ⟨q, 0, none⟩), .int .i64 0]) ∧ Scr w' (crs x ty st l) S.rts K q) ∧ Below w.heap.size w w' := by
 have HB : Below w.heap.size w w := Below.refl _ _
 obtain ⟨bt, qt, va, vb, hTy⟩ := hI.h2.rw
 obtain ⟨bo, qo, vo, hO⟩ := hI.h3.rw
 refine sx_enter Tryz.func17 rfl [(0, .agg (iK k x)), (1, .agg (rK ty st orr F.length cr oa l.length ca)), (2, .agg (sK S oS cS))] (by kernel_rfl) ?_
 refine Yq ?_
 refine Za rfl (iK k x) 30 (fun W1 hb M2 z1 yM2 => ?_)
 replace HB := over HB hb
 clear hb
 refine Za rfl (rK ty st orr F.length cr oa l.length ca) 34 (fun W3 hb M4 z2 yM4 => ?_)
 replace HB := over HB hb
 replace M2 := M2.below hb
 clear hb
 refine Za rfl (sK S oS cS) 37 (fun W5 hb M6 z3 yM6 => ?_)
 replace HB := over HB hb
 replace M2 := M2.below hb
 replace M4 := M4.below hb
 clear hb
 refine Zv rfl (.pointer none) (Zv rfl (.int .i64 0) (Yn (Yo (Yq (Zw rfl (.agg (iK k x)) (ex_load rfl M2 (by kernel_rfl) Tryz.underlying30 rfl (by kernel_rfl)) (Zw rfl (.agg (rK ty st orr F.length cr oa l.length ca)) (ex_load rfl M4 (by kernel_rfl) Tryz.underlying34 rfl (by kernel_rfl)) (Zw rfl (.agg (sK S oS cS)) (ex_load rfl M6 (by kernel_rfl) Tryz.underlying37 rfl (by kernel_rfl)) ?_)))))))
 by_cases C1 : (chkE x ty st l F S) = 0
 ·refine Zc rfl ((by have h8 := drvSince_n k x ty st orr oa oS cr ca cS b o bf qf bS qS l F S lS hok W5 (hI.below HB) (hT.belowD HB) (hl.below HB) (hFx.below HB) (hST.below HB); rw [C1] at h8; exact h8)) ?_
  rintro e W7 ⟨oD, cD, bD, qD, rfl, hD9, hb⟩
  replace HB := over HB hb
  replace M2 := M2.below hb
  replace M4 := M4.below hb
  replace M6 := M6.below hb
  have z4 := hb.size
  clear hb
  refine ⟨_, rfl, ?_⟩
  obtain ⟨hp9, hTl, hrun, hsh, -⟩ := chk_is C1
  obtain ⟨hsl, hsa⟩ := sin_at C1
  have hc := hok hp9
  have hn9 : (crs x ty st l).n = l.length + 1 := crs_n x ty st l
  obtain ⟨hy1, hy2, -, -⟩ := posD_ty hp9
  have hl20 := posD_len hp9
  have hyt : ((ty.toNat : Nat) : Int) = ty := Int.toNat_of_nonneg hy1
  obtain ⟨v0, hv0⟩ : ∃ v, W7 = v := ⟨_, rfl⟩
  have hDv := hv0 ▸ hD9
  have HV : Below v0.heap.size v0 W7 := by rw [hv0]; exact Below.refl _ _
  have hvs : v0.heap.size = W7.heap.size := by rw [hv0]
  clear hD9
  refine Zv rfl (.tuple #[.slice oD (sinS x ty st l F S).length cD, .int .i64 0]) (Zv rfl (.slice oD (sinS x ty st l F S).length cD) (Zv rfl (.int .i64 0) (Zv rfl (.slice oD (sinS x ty st l F S).length cD) (Zv rfl (.int .i64 0) (Yn (Yo (Ys (Yq (Zv rfl (.int .i64 0) (Zv rfl (.bool false) (Yn (Yo (sx_false (by kernel_rfl) (wp_skip (Yo (Yq (Zv rfl (pt w.heap.size 2) ?_)))))))))))))))))
  refine Zw rfl (.slice k.o2 x.tl.length k.c2) (el (M2.cell 2 rfl) Tryz.underlying26) (Zv rfl (pt W1.heap.size 0) (Zw rfl (.int .i64 ty) (el (M4.cell 0 rfl) Tryz.underlying3) (Zw rfl (pt bt (qt + (ty.toNat) * 14)) (ex_indexO (q := qt) (m := x.tl.length) (c := k.c2) (k := ty.toNat) (s := 14) rfl (by kernel_rfl) ((hTy.below HB).oa (k := ty.toNat) (by omega)) (by rw [hyt]; kernel_rfl) Tryz.underlying26 (by kernel_rfl) (by omega) (by omega)) (Zw rfl (.agg (tK (x.tl.getD ty.toNat ty0) (va ty.toNat) (vb ty.toNat))) (ex_loadR rfl ((hTy.below HB).range (k := ty.toNat) (by omega)) (by kernel_rfl) Tryz.underlying80 rfl (by kernel_rfl)) ?_))))
  obtain ⟨W9, hW⟩ : ∃ W, (W7.alloc (.cells nZT 80)).setRow W7.heap.size (tK (x.tl.getD ty.toNat ty0) (va ty.toNat) (vb ty.toNat)) = W := ⟨_, rfl⟩
  have hb := hW ▸ below_var W7 (.cells nZT 80) (tK (x.tl.getD ty.toNat ty0) (va ty.toNat) (vb ty.toNat))
  have hq : Cb W9 W7.heap.size (tK (x.tl.getD ty.toNat ty0) (va ty.toNat) (vb ty.toNat)) 80 := hW ▸ Cb.row (Cb.made W7 nZT 80) _
  refine sx_mem (by kernel_rfl) rfl rfl (pt W7.heap.size 0) (W7.alloc (.cells nZT 80)) (by kernel_rfl) ?_
  refine Zs (cells := (tK (x.tl.getD ty.toNat ty0) (va ty.toNat) (vb ty.toNat))) rfl rfl (Cb.made W7 nZT 80) ?_
  rw [hW]
  replace HB := over HB hb
  replace M2 := M2.below hb
  replace M4 := M4.below hb
  replace M6 := M6.below hb
  replace HV := over HV hb
  have z5 := hb.size
  have M8 := hq
  have yM8 := hq.lt
  clear hq hb hW
  refine Yn (Yo (Yq (Zv rfl (.slice oD (sinS x ty st l F S).length cD) (Zv rfl (.int .i64 (((sinS x ty st l F S).length : Nat) : Int)) ?_))))
  obtain ⟨W10, hW, hb, hq⟩ := laidA W9 (madeCells stZ.cells ((sinS x ty st l F S).length * 4)) 76
  have HG : Ol stE 76 4 W9.heap.size W10 (.slice (some ⟨W9.heap.size, 0, none⟩) 0 (sinS x ty st l F S).length) [] := Ol.made0 hq (Nat.le_refl _) (by omega)
  refine sx_mem (by kernel_rfl) rfl rfl (.slice (some ⟨W9.heap.size, 0, none⟩) 0 (sinS x ty st l F S).length) W10 (by rw [← hW]; exact ex_make0 (e := 76) (sz := 4) (z := stZ) (bytes := 32) rfl (by kernel_rfl) (by kernel_rfl) Tryz.underlying83 (by kernel_rfl) (by decide) (by omega)) ?_
  replace HB := over HB hb
  replace M2 := M2.below hb
  replace M4 := M4.below hb
  replace M6 := M6.below hb
  replace HV := over HV hb
  replace M8 := M8.below hb
  have z6 := hb.size
  clear hb hW hq
  refine Zv rfl (.slice (some ⟨W9.heap.size, 0, none⟩) 0 (sinS x ty st l F S).length) (Yn (Yo (Ys (Yq (Zv rfl (pt W1.heap.size 3) (Zw rfl (.slice oa l.length ca) (el (M4.cell 3 rfl) Tryz.underlying32) (Zv rfl (.int .i64 ((l.length : Nat) : Int)) (Zv rfl (.int .i64 0) (Yn (Yo (wp_block ?_)))))))))))
  refine sx_loop (fun x9 : Nat × Value => [(0, .agg (iK k x)), (1, .agg (rK ty st orr F.length cr oa l.length ca)), (2, .agg (sK S oS cS)), (3, .pointer (some ⟨w.heap.size, 0, none⟩)), (4, .pointer (some ⟨W1.heap.size, 0, none⟩)), (5, .pointer (some ⟨W3.heap.size, 0, none⟩)), (6, .pointer none), (7, .int .i64 0), (8, .slice oD (sinS x ty st l F S).length cD), (9, .int .i64 0), (10, .pointer (some ⟨W7.heap.size, 0, none⟩)), (11, x9.2), (14, .tuple #[.slice oD (sinS x ty st l F S).length cD, .int .i64 0]), (15, .agg (iK k x)), (16, .agg (rK ty st orr F.length cr oa l.length ca)), (17, .agg (sK S oS cS)), (18, .tuple #[.slice oD (sinS x ty st l F S).length cD, .int .i64 0]), (19, .slice oD (sinS x ty st l F S).length cD), (20, .int .i64 0), (21, .int .i64 0), (22, .bool false), (24, .pointer (some ⟨w.heap.size, 2, none⟩)), (25, .slice k.o2 x.tl.length k.c2), (26, .pointer (some ⟨W1.heap.size, 0, none⟩)), (27, .int .i64 ty), (28, .pointer (some ⟨bt, qt + (ty.toNat) * 14, none⟩)), (29, .agg (tK (x.tl.getD ty.toNat ty0) (va ty.toNat) (vb ty.toNat))), (30, .slice oD (sinS x ty st l F S).length cD), (31, .int .i64 (((sinS x ty st l F S).length : Nat) : Int)), (32, .slice (some ⟨W9.heap.size, 0, none⟩) 0 (sinS x ty st l F S).length), (33, .pointer (some ⟨W1.heap.size, 3, none⟩)), (34, .slice oa l.length ca), (35, .int .i64 ((l.length : Nat) : Int)), (36, .int .i64 ((x9.1 : Nat) : Int))]) (fun gg x9 wr => x9.1 ≤ l.length ∧ l.length - x9.1 ≤ gg ∧ Ol stE 76 4 W9.heap.size wr x9.2 (stK (crs x ty st l) x9.1) ∧ Below W9.heap.size W10 wr) (l.length) ((0, .slice (some ⟨W9.heap.size, 0, none⟩) 0 (sinS x ty st l F S).length)) (by kernel_rfl) ⟨Nat.zero_le _, Nat.le_refl _, HG, Below.refl _ _⟩ ?_
  rintro gg ⟨j, v11⟩ g' wr11 ⟨hj, hg, HG, hbl⟩
  dsimp only at hj hg HG hbl
  replace HB := HB.trans (hbl.mono (by omega))
  replace M2 := M2.belowB (by omega) hbl
  replace M4 := M4.belowB (by omega) hbl
  replace M6 := M6.belowB (by omega) hbl
  replace HV := HV.trans (hbl.mono (by omega))
  replace M8 := M8.belowB (by omega) hbl
  have z7 := hbl.size
  have HL := hbl
  clear hbl
  have hoT : ∀ g, v11.ownBlock = some g → _ := fun g e => HG.blk e
  refine Yq ?_
  by_cases C2 : j < l.length
  ·refine Zb rfl (decide (((j : Nat) : Int) < ((l.length : Nat) : Int))) true (decide_eq_true (by omega)) (Yn (Yo (Ys (sx_true (by kernel_rfl) (wp_skip (Yo (Ys (wp_block (Yq (Zw rfl (pt b (o + j * 2)) (ex_indexO (q := o) (m := l.length) (c := ca) (k := j) (s := 2) rfl (by kernel_rfl) ((hl.below HB).oa (k := j) (by omega)) (by kernel_rfl) Tryz.underlying32 (by kernel_rfl) (by omega) (by omega)) (Zw rfl (.agg #[.int .i64 ((l.getD j (0, false)).1), .bool (l.getD j (0, false)).2]) (ex_loadR rfl ((hl.below HB).range (k := j) (by omega)) (by kernel_rfl) Tryz.underlying82 rfl (by kernel_rfl)) ?_)))))))))))
   obtain ⟨W13, hW, hb, hq⟩ := laidV wr11 #[.int .i64 0, .bool false] #[.int .i64 ((l.getD j (0, false)).1), .bool (l.getD j (0, false)).2] 82
   refine sx_mem (by kernel_rfl) rfl rfl (pt wr11.heap.size 0) (wr11.alloc (.cells #[.int .i64 0, .bool false] 82)) (by kernel_rfl) ?_
   refine Zs (cells := #[.int .i64 ((l.getD j (0, false)).1), .bool (l.getD j (0, false)).2]) rfl rfl (Cb.made wr11 #[.int .i64 0, .bool false] 82) ?_
   rw [hW]
   replace HB := over HB hb
   replace M2 := M2.below hb
   replace M4 := M4.below hb
   replace M6 := M6.below hb
   replace HV := over HV hb
   replace M8 := M8.below hb
   replace HL := HL.trans (hb.mono (by omega))
   replace HG := HG.below hb
   have z8 := hb.size
   have M12 := hq
   have yM12 := hq.lt
   clear hq hb hW
   refine Yn (Yo ?_)
   have hok9 := posD_at hp9 (i := j) (by omega)
   obtain ⟨ho1, ho2, ho3⟩ := okR_in hok9
   have hcj : (crs x ty st l).S.getD (j + 1) st0 = stQ (x.ol.getD (l.getD j (0, false)).1.toNat or0) (l.getD j (0, false)).2 := by rw [crs_at x ty st (by omega), ho3]
   have hyo : (((l.getD j (0, false)).1.toNat : Nat) : Int) = (l.getD j (0, false)).1 := Int.toNat_of_nonneg ho1
   obtain ⟨Y14, hW⟩ : ∃ W, W13.drew = W := ⟨_, rfl⟩
   have hb : Below W13.heap.size W13 Y14 := hW ▸ below_drew (Below.refl _ _)
   replace HB := over HB hb
   replace M2 := M2.below hb
   replace M4 := M4.below hb
   replace M6 := M6.below hb
   replace HV := over HV hb
   replace M8 := M8.below hb
   replace HL := HL.trans (hb.mono (by omega))
   replace HG := HG.below hb
   replace M12 := M12.below hb
   have z9 := hb.size
   clear hb
   refine sd_begin (fun W => Cb W (w.heap.size) (iK k x) 30 ∧ Cb W (W1.heap.size) (rK ty st orr F.length cr oa l.length ca) 34 ∧ Cb W (W3.heap.size) (sK S oS cS) 37 ∧ Cb W (W7.heap.size) (tK (x.tl.getD ty.toNat ty0) (va ty.toNat) (vb ty.toNat)) 80 ∧ Cb W (wr11.heap.size) #[.int .i64 ((l.getD j (0, false)).1), .bool (l.getD j (0, false)).2] 82 ∧ Rw W b o 2 (vF l) l.length oa ∧ Rw W bo qo 16 (oF x.ol vo) x.ol.length k.o3 ∧ Rw W bt qt 14 (tyF x.tl va vb) x.tl.length k.o2 ∧ True) (by kernel_rfl) (by rw [hW]; exact ⟨M2, M4, M6, M8, M12, (hl.below HB), (hO.below HB), (hTy.below HB), trivial⟩) ?_
   rw [hW]
   clear hW
   refine Zu 0 rfl rfl (v11) ⟨M2, M4, M6, M8, M12, (hl.below HB), (hO.below HB), (hTy.below HB), trivial⟩ ?_
   refine Zu 1 rfl rfl (pt w.heap.size 3) ⟨M2, M4, M6, M8, M12, (hl.below HB), (hO.below HB), (hTy.below HB), trivial⟩ ?_
   refine Zt 2 rfl rfl (.slice k.o3 x.ol.length k.c3) (fun w9 h9 => el (h9.1.cell 3 rfl) Tryz.underlying27) ⟨M2, M4, M6, M8, M12, (hl.below HB), (hO.below HB), (hTy.below HB), trivial⟩ ?_
   refine Zu 3 rfl rfl (pt wr11.heap.size 0) ⟨M2, M4, M6, M8, M12, (hl.below HB), (hO.below HB), (hTy.below HB), trivial⟩ ?_
   refine Zt 4 rfl rfl (.int .i64 ((l.getD j (0, false)).1)) (fun w9 h9 => el (h9.2.2.2.2.1.cell 0 rfl) Tryz.underlying3) ⟨M2, M4, M6, M8, M12, (hl.below HB), (hO.below HB), (hTy.below HB), trivial⟩ ?_
   refine Zt 5 rfl rfl (.pointer (some ⟨bo, qo + ((l.getD j (0, false)).1.toNat) * 16, none⟩)) (fun w9 h9 => ex_indexO (q := qo) (m := x.ol.length) (c := k.c3) (k := (l.getD j (0, false)).1.toNat) (s := 16) rfl (by kernel_rfl) (h9.2.2.2.2.2.2.1.oa (k := (l.getD j (0, false)).1.toNat) (by omega)) (by rw [hyo]; kernel_rfl) Tryz.underlying27 (by kernel_rfl) (by omega) (by omega)) ⟨M2, M4, M6, M8, M12, (hl.below HB), (hO.below HB), (hTy.below HB), trivial⟩ ?_
   refine Zt 6 rfl rfl (.agg #[.string (x.ol.getD ((l.getD j (0, false)).1.toNat) or0).name, (vo ((l.getD j (0, false)).1.toNat)), .int .i64 ((x.ol.getD ((l.getD j (0, false)).1.toNat) or0).pp), .int .i64 ((x.ol.getD ((l.getD j (0, false)).1.toNat) or0).po), .int .i64 ((x.ol.getD ((l.getD j (0, false)).1.toNat) or0).pc), .int .i64 ((x.ol.getD ((l.getD j (0, false)).1.toNat) or0).ps), .int .i64 ((x.ol.getD ((l.getD j (0, false)).1.toNat) or0).dp), .int .i64 ((x.ol.getD ((l.getD j (0, false)).1.toNat) or0).dd), .int .i64 ((x.ol.getD ((l.getD j (0, false)).1.toNat) or0).dc), .int .i64 ((x.ol.getD ((l.getD j (0, false)).1.toNat) or0).ds), .int .i64 ((x.ol.getD ((l.getD j (0, false)).1.toNat) or0).sk), .int .i64 ((x.ol.getD ((l.getD j (0, false)).1.toNat) or0).pen), .int .i64 ((x.ol.getD ((l.getD j (0, false)).1.toNat) or0).spl), .int .i64 ((x.ol.getD ((l.getD j (0, false)).1.toNat) or0).las), .int .i64 ((x.ol.getD ((l.getD j (0, false)).1.toNat) or0).now), .bool (x.ol.getD ((l.getD j (0, false)).1.toNat) or0).off]) (fun w9 h9 => ex_loadR rfl (h9.2.2.2.2.2.2.1.range (k := (l.getD j (0, false)).1.toNat) (by omega)) (by kernel_rfl) Tryz.underlying78 rfl (by kernel_rfl)) ⟨M2, M4, M6, M8, M12, (hl.below HB), (hO.below HB), (hTy.below HB), trivial⟩ ?_
   refine Zu 7 rfl rfl (pt wr11.heap.size 1) ⟨M2, M4, M6, M8, M12, (hl.below HB), (hO.below HB), (hTy.below HB), trivial⟩ ?_
   refine Zt 8 rfl rfl (.bool (l.getD j (0, false)).2) (fun w9 h9 => el (h9.2.2.2.2.1.cell 1 rfl) Tryz.underlying4) ⟨M2, M4, M6, M8, M12, (hl.below HB), (hO.below HB), (hTy.below HB), trivial⟩ ?_
   refine sd_all [9] (by kernel_rfl) (by decide) ?_
   refine sd_call (i := 9) rfl (by kernel_rfl) rfl rfl ((by have h8 := stopOf_n (x.ol.getD (l.getD j (0, false)).1.toNat or0) (vo (l.getD j (0, false)).1.toNat) (l.getD j (0, false)).2 Y14; rw [← hcj] at h8; exact h8)) (by kernel_rfl) ?_ AllReadyH.nil
   rintro e W15 ⟨rfl, hb⟩
   replace HB := over HB hb
   replace M2 := M2.below hb
   replace M4 := M4.below hb
   replace M6 := M6.below hb
   replace HV := over HV hb
   replace M8 := M8.below hb
   replace HL := HL.trans (hb.mono (by omega))
   replace HG := HG.below hb
   replace M12 := M12.below hb
   have z10 := hb.size
   clear hb
   refine ⟨_, rfl, ⟨M2, M4, M6, M8, M12, (hl.below HB), (hO.below HB), (hTy.below HB), trivial⟩, ?_⟩
   refine sd_all [10] (by kernel_rfl) (by decide) ?_
   refine sd_mem (i := 10) rfl (by kernel_rfl) rfl rfl (.slice (some ⟨W15.heap.size, 0, none⟩) 1 1) (W15.alloc (.cells (pK ((crs x ty st l).S.getD (j + 1) st0)) 76)) (by kernel_rfl) ⟨(M2.below (below_alloc W15 (.cells (pK ((crs x ty st l).S.getD (j + 1) st0)) 76))), (M4.below (below_alloc W15 (.cells (pK ((crs x ty st l).S.getD (j + 1) st0)) 76))), (M6.below (below_alloc W15 (.cells (pK ((crs x ty st l).S.getD (j + 1) st0)) 76))), (M8.below (below_alloc W15 (.cells (pK ((crs x ty st l).S.getD (j + 1) st0)) 76))), (M12.below (below_alloc W15 (.cells (pK ((crs x ty st l).S.getD (j + 1) st0)) 76))), ((hl.below HB).below (below_alloc W15 (.cells (pK ((crs x ty st l).S.getD (j + 1) st0)) 76))), ((hO.below HB).below (below_alloc W15 (.cells (pK ((crs x ty st l).S.getD (j + 1) st0)) 76))), ((hTy.below HB).below (below_alloc W15 (.cells (pK ((crs x ty st l).S.getD (j + 1) st0)) 76))), trivial⟩ ?_ AllReadyH.nil
   obtain ⟨W16, hW, hb, hq⟩ := laidA W15 (pK ((crs x ty st l).S.getD (j + 1) st0)) 76
   rw [hW]
   replace HB := over HB hb
   replace M2 := M2.below hb
   replace M4 := M4.below hb
   replace M6 := M6.below hb
   replace HV := over HV hb
   replace M8 := M8.below hb
   replace HL := HL.trans (hb.mono (by omega))
   replace HG := HG.below hb
   replace M12 := M12.below hb
   have z11 := hb.size
   have M17 := hq
   have yM17 := hq.lt
   clear hq hb hW
   refine sd_all [11] (by kernel_rfl) (by decide) ?_
   obtain ⟨v19, W18, h9, hg9, hb, hgr, -⟩ := ap_o (P := Tryz.prog) (t := 83) (ty := 83) (z := stZ) (bytes := 32) (x := ((crs x ty st l).S.getD (j + 1) st0)) stRow Tryz.underlying83 (by kernel_rfl) rfl (by decide) (by decide) HG M17 rfl (by omega) (by rw [stK_len]; omega)
   have HB9 := HB.trans (hb.mono (by omega))
   refine sd_mem (i := 11) rfl (by kernel_rfl) rfl rfl (v19) W18 (ex_append rfl (by kernel_rfl) (by kernel_rfl) h9) ⟨(M2.grownO hgr (fun e9 => by have h8 := hoT _ e9; omega)), (M4.grownO hgr (fun e9 => by have h8 := hoT _ e9; omega)), (M6.grownO hgr (fun e9 => by have h8 := hoT _ e9; omega)), (M8.grownO hgr (fun e9 => by have h8 := hoT _ e9; omega)), (M12.grownO hgr (fun e9 => by have h8 := hoT _ e9; omega)), (hl.below HB9), (hO.below HB9), (hTy.below HB9), trivial⟩ ?_ AllReadyH.nil
   replace HB := HB9
   replace M2 := M2.grownO hgr (fun e9 => by have h8 := hoT _ e9; omega)
   replace M4 := M4.grownO hgr (fun e9 => by have h8 := hoT _ e9; omega)
   replace M6 := M6.grownO hgr (fun e9 => by have h8 := hoT _ e9; omega)
   replace HV := HV.trans (hb.mono (by omega))
   replace M8 := M8.grownO hgr (fun e9 => by have h8 := hoT _ e9; omega)
   replace HL := HL.trans (hb.mono (by omega))
   replace M12 := M12.grownO hgr (fun e9 => by have h8 := hoT _ e9; omega)
   have zW18 := hb.size
   have HG := hg9
   clear hg9 hb h9 HB9
   refine Zu 12 rfl rfl (v19) ⟨M2, M4, M6, M8, M12, (hl.below HB), (hO.below HB), (hTy.below HB), trivial⟩ ?_
   refine sd_done (by kernel_rfl) ?_
   refine sx_in ?_
   refine Yo (Yr (Zi rfl (IntKind.i64.wrap (((j : Nat) : Int) + 1)) (((j + 1 : Nat) : Int)) (by rw [IntKind.wrap_i64]; omega) (Zv rfl (.int .i64 ((j + 1 : Nat) : Int)) (Yn (Yo ?_)))))
   exact sx_again (l.length - (j + 1)) (j + 1, v19) (by omega) (by kernel_rfl) ⟨by show j + 1 ≤ _; omega, Nat.le_refl _, by show Ol stE 76 4 _ _ _ (stK (crs x ty st l) (j + 1)); rw [stK_more]; exact HG, HL⟩
  refine Zb rfl (decide (((j : Nat) : Int) < ((l.length : Nat) : Int))) false (decide_eq_false (by omega)) (Yn (Yo (Ys (sx_false (by kernel_rfl) (wp_exit ?_)))))
  refine sx_es ?_
  refine sx_es ?_
  refine sx_out ?_
  refine Yo (Yq (Zv rfl (v11) (Zv rfl (pt W7.heap.size 3) (Zw rfl (.int .i64 ((x.tl.getD ty.toNat ty0).to)) (el (M8.cell 3 rfl) Tryz.underlying3) (Zv rfl (pt W7.heap.size 8) (Zw rfl (.int .i64 ((x.tl.getD ty.toNat ty0).cls)) (el (M8.cell 8 rfl) Tryz.underlying3) (Zv rfl (.agg #[.int .i64 ((x.tl.getD ty.toNat ty0).to), .int .i64 0, .int .i64 ((x.tl.getD ty.toNat ty0).cls), .int .i64 0]) ?_)))))))
  obtain ⟨W20, hW, hb, hq⟩ := laidA wr11 #[.int .i64 ((x.tl.getD ty.toNat ty0).to), .int .i64 0, .int .i64 ((x.tl.getD ty.toNat ty0).cls), .int .i64 0] 76
  refine sx_mem (by kernel_rfl) rfl rfl (.slice (some ⟨wr11.heap.size, 0, none⟩) 1 1) W20 (by rw [← hW]; kernel_rfl) ?_
  replace HB := over HB hb
  replace M2 := M2.below hb
  replace M6 := M6.below hb
  replace HV := over HV hb
  replace M8 := M8.below hb
  replace HL := HL.trans (hb.mono (by omega))
  replace HG := HG.below hb
  have z8 := hb.size
  have M21 := hq
  have yM21 := hq.lt
  clear hq hb hW
  obtain ⟨v23, W22, h9, hg9, hb, -, -⟩ := ap_o (P := Tryz.prog) (t := 83) (ty := 83) (z := stZ) (bytes := 32) (x := ((crs x ty st l).S.getD (l.length + 1) st0)) stRow Tryz.underlying83 (by kernel_rfl) rfl (by decide) (by decide) HG M21 (by rw [crs_endJ]; rfl) (by omega) (by rw [stK_len]; omega)
  rw [show l.length = j by omega, ← stK_more] at hg9
  obtain ⟨o9, c9, hv9⟩ := Ol.form hg9
  subst hv9
  refine sx_mem (by kernel_rfl) rfl rfl (.slice o9 (stK (crs x ty st l) (j + 1)).length c9) W22 (ex_append rfl (by kernel_rfl) (by kernel_rfl) h9) ?_
  replace HB := HB.trans (hb.mono (by omega))
  replace M2 := M2.belowB (by omega) hb
  replace M6 := M6.belowB (by omega) hb
  replace HV := HV.trans (hb.mono (by omega))
  replace M8 := M8.belowB (by omega) hb
  replace HL := HL.trans (hb.mono (by omega))
  have z9 := hb.size
  have HG := hg9
  clear hg9 hb h9
  refine Zv rfl (.slice o9 (stK (crs x ty st l) (j + 1)).length c9) (Yn (Yo (Yq (Zv rfl (pt w.heap.size 0) (Zw rfl (.agg #[.slice k.o0 x.pl.length k.c0, .slice k.o1 x.al.length k.c1]) (ex_mid (q := 0) rfl M2 [.slice k.o0 x.pl.length k.c0, .slice k.o1 x.al.length k.c1] (by kernel_rfl) Tryz.underlying25 rfl (by kernel_rfl) rfl) (Zw rfl (.agg (tK (x.tl.getD ty.toNat ty0) (va ty.toNat) (vb ty.toNat))) (ex_load rfl M8 (by kernel_rfl) Tryz.underlying80 rfl (by kernel_rfl)) (Zw rfl (.agg (sK S oS cS)) (ex_load rfl M6 (by kernel_rfl) Tryz.underlying37 rfl (by kernel_rfl)) (Zv rfl (.slice o9 (stK (crs x ty st l) (j + 1)).length c9) (Zv rfl (.slice oD (sinS x ty st l F S).length cD) (Zv rfl (.agg #[.slice k.o0 x.pl.length k.c0, .slice k.o1 x.al.length k.c1, .string (x.tl.getD ty.toNat ty0).name, .int .i64 ((x.tl.getD ty.toNat ty0).count), .int .i64 ((x.tl.getD ty.toNat ty0).fr), .int .i64 ((x.tl.getD ty.toNat ty0).to), .slice (va ty.toNat) (x.tl.getD ty.toNat ty0).cap.length (vb ty.toNat), .int .i64 ((x.tl.getD ty.toNat ty0).skills), .int .i64 ((x.tl.getD ty.toNat ty0).prof), .int .i64 ((x.tl.getD ty.toNat ty0).opn), .int .i64 ((x.tl.getD ty.toNat ty0).cls), .int .i64 ((x.tl.getD ty.toNat ty0).drv), .int .i64 ((x.tl.getD ty.toNat ty0).rst), .int .i64 ((x.tl.getD ty.toNat ty0).fix), .int .i64 ((x.tl.getD ty.toNat ty0).pm), .int .i64 ((x.tl.getD ty.toNat ty0).pt), .bool S.r, .int .i64 S.d, .slice oS S.T.length cS, .int .i64 S.e, .int .i64 S.m, .slice o9 (stK (crs x ty st l) (j + 1)).length c9, .slice oD (sinS x ty st l F S).length cD]) ?_))))))))))
  refine Za rfl #[.slice k.o0 x.pl.length k.c0, .slice k.o1 x.al.length k.c1, .string (x.tl.getD ty.toNat ty0).name, .int .i64 ((x.tl.getD ty.toNat ty0).count), .int .i64 ((x.tl.getD ty.toNat ty0).fr), .int .i64 ((x.tl.getD ty.toNat ty0).to), .slice (va ty.toNat) (x.tl.getD ty.toNat ty0).cap.length (vb ty.toNat), .int .i64 ((x.tl.getD ty.toNat ty0).skills), .int .i64 ((x.tl.getD ty.toNat ty0).prof), .int .i64 ((x.tl.getD ty.toNat ty0).opn), .int .i64 ((x.tl.getD ty.toNat ty0).cls), .int .i64 ((x.tl.getD ty.toNat ty0).drv), .int .i64 ((x.tl.getD ty.toNat ty0).rst), .int .i64 ((x.tl.getD ty.toNat ty0).fix), .int .i64 ((x.tl.getD ty.toNat ty0).pm), .int .i64 ((x.tl.getD ty.toNat ty0).pt), .bool S.r, .int .i64 S.d, .slice oS S.T.length cS, .int .i64 S.e, .int .i64 S.m, .slice o9 (stK (crs x ty st l) (j + 1)).length c9, .slice oD (sinS x ty st l F S).length cD] 86 (fun W24 hb M25 z10 yM25 => ?_)
  replace HB := over HB hb
  replace HV := over HV hb
  replace HL := HL.trans (hb.mono (by omega))
  replace HG := HG.below hb
  clear hb
  refine Zv rfl (pt W22.heap.size 0) (Zv rfl (.int .i64 0) (Yn (Yo (wp_ret ?_))))
  obtain rfl : j = l.length := by omega
  obtain ⟨b9, q9, hrw9⟩ := Ol.rw stRow st0 HG
  have hkl := stK_len (crs x ty st l) (l.length + 1)
  rw [hkl] at hrw9
  have e2 : ((crs x ty st l).sheet S.rts).d = S.d := by rw [hsh]
  have e4 : ((crs x ty st l).sheet S.rts).e = S.e := by rw [hsh]
  have e5 : ((crs x ty st l).sheet S.rts).m = S.m := by rw [hsh]
  have e3 : S.T.length = (crs x ty st l).n - 1 := by omega
  have hSt : Rw W24 b9 q9 4 (fun i => sF (crs x ty st l).S (i + 1)) (crs x ty st l).n o9 := by
   rw [hn9]
   exact Rw.ext hrw9 (fun i hi => by rw [stK_at hi]; rfl)
  have hTm : Rw W24 bS qS 4 (fun i => tmE ((crs x ty st l).tm S.rts i)) ((crs x ty st l).n - 1) oS := by
   rw [← e3]
   exact Rw.ext (hST.below HB) (fun i hi => by have h8 := tms_at (crs x ty st l) S.rts (show i < (crs x ty st l).n - 1 by omega); rw [hsh] at h8; rw [h8])
  have hSn : Rw W24 bD qD 1 (fun i => inE ((crs x ty st l).lg S.rts i).sin) (crs x ty st l).n oD := by
   rw [hn9, ← hsl]
   exact Rw.ext (hDv.below HV) (fun i hi => by rw [hsa i (by omega)])
  have hM : Cb W24 (W22.heap.size) (SV.cells ⟨k.o0, k.c0, k.o1, k.c1, va ty.toNat, vb ty.toNat, o9, c9, b9, q9, oS, cS, bS, qS, oD, cD, bD, qD⟩ (crs x ty st l) S.rts) 86 := by
   have h8 := M25
   rw [hkl, hsl, e3, ← e2, ← e4, ← e5, ← hn9] at h8
   exact h8
  refine sx_ret2 (pt W22.heap.size 0) (.int .i64 0) rfl rfl rfl (by kernel_rfl) (by kernel_rfl) ⟨.inr ⟨⟨k.o0, k.c0, k.o1, k.c1, va ty.toNat, vb ty.toNat, o9, c9, b9, q9, oS, cS, bS, qS, oD, cD, bD, qD⟩, W22.heap.size, C1, rfl, ⟨hM, hSt, hTm, hSn, (hI.below HB).h0, (hI.below HB).h1, hT.belowD HB⟩⟩, HB⟩
 refine Zc rfl (drvSince_n k x ty st orr oa oS cr ca cS b o bf qf bS qS l F S lS hok W5 (hI.below HB) (hT.belowD HB) (hl.below HB) (hFx.below HB) (hST.below HB)) ?_
 rintro e W26 ⟨oD, cD, bD, qD, rfl, hD9, hb⟩
 replace HB := over HB hb
 have z4 := hb.size
 clear hb
 refine ⟨_, rfl, ?_⟩
 refine Zv rfl (.tuple #[.slice oD (sinS x ty st l F S).length cD, .int .i64 (chkE x ty st l F S)]) (Zv rfl (.slice oD (sinS x ty st l F S).length cD) (Zv rfl (.int .i64 (chkE x ty st l F S)) (Zv rfl (.slice oD (sinS x ty st l F S).length cD) (Zv rfl (.int .i64 (chkE x ty st l F S)) (Yn (Yo (Ys (Yq (Zv rfl (.int .i64 (chkE x ty st l F S)) (Zb rfl (((chkE x ty st l F S) : Int) != (0 : Int)) true (bne_iff_ne.2 (by omega)) (Yn (Yo (sx_true (by kernel_rfl) (Yq (Zv rfl (.int .i64 (chkE x ty st l F S)) ?_)))))))))))))))
 refine Zv rfl (.pointer none) (Zv rfl (.int .i64 (chkE x ty st l F S)) (Yn (Yo (wp_ret (sx_rs ?_)))))
 refine sx_ret2 (.pointer none) (.int .i64 (chkE x ty st l F S)) rfl rfl rfl (by kernel_rfl) (by kernel_rfl) ⟨.inl ⟨by assumption, rfl⟩, HB⟩

end Go.Proofs.YtomebalolmabnaaGreatDoor.T



