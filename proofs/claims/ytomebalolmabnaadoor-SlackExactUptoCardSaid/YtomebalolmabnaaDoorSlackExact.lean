/-
  DERIVED. SlackExact: a part of the base of layer 13 (made by pack.py).
-/
import Derived.Test.YtomebalolmabnaaDoorGG
import Derived.Test.YtomebalolmabnaaDoorGA
import Derived.Test.YtomebalolmabnaaDoorJi
/-! SlackExact: its walk (by gen_jk.py). -/
namespace Go.Proofs.YtomebalolmabnaaDoor.T
open Go.RowKit
set_option maxRecDepth 8000
attribute [local irreducible] wpList Code.wp wpAnyH

theorem aft_ok {x : InT} {ty st : Int} {l : List (Int × Bool)} {F : List Bool} {S : ShT} (h : (chkE x ty st l F S) = 0) {i : Nat} (hi : i < l.length + 1) {te : Int} (h0 : 0 ≤ te) (h1 : te ≤ 4096) : aftE x ty st l F S ((i : Nat) : Int) te = 0 ↔ (crs x ty st l).okD S.rts i te := by
 rw [aftE_r h (by omega), Int.toNat_natCast]
 rfl
theorem slk_at {x : InT} {ty st : Int} {l : List (Int × Bool)} {F : List Bool} {S : ShT} (h : (chkE x ty st l F S) = 0) : (slkL x ty st l F S).length = l.length + 1 ∧ ∀ i, i < l.length + 1 → (slkL x ty st l F S).getD i 0 = (((crs x ty st l).sl S.rts i : Nat) : Int) := by
 have e : (slkL x ty st l F S) = (crs x ty st l).slL S.rts := if_pos h
 have hn := crs_n x ty st l
 rw [e]
 exact ⟨by rw [CrT.slL_len, hn], fun i hi => CrT.slL_at (by omega)⟩
theorem slackExact_walk (k : Iv) (x : InT) (hx : InU x) (ty st : Int) (orr oa oS : Option Addr) (cr ca cS b o bf qf bS qS : Nat) (l : List (Int × Bool)) (F : List Bool) (S : ShT) (lS : S.T.length ≤ 300000) (te : Int) (w : World) (hT : Tab w) (hI : Ins w k x) (hl : Rw w b o 2 (vF l) l.length oa) (hFx : Rw w bf qf 1 (bF F) F.length orr) (hST : Rw w bS qS 4 (fun k => tmE (S.T.getD k tm0)) S.T.length oS) : Calls Tryd.prog 3 #[.agg #[.slice k.o0 x.pl.length k.c0, .slice k.o1 x.al.length k.c1, .slice k.o2 x.tl.length k.c2, .slice k.o3 x.ol.length k.c3, .slice k.o4 x.ap.length k.c4, .slice k.o5 x.be.length k.c5, .int .i64 ty, .int .i64 st, .slice orr F.length cr, .slice oa l.length ca, .bool S.r, .int .i64 S.d, .slice oS S.T.length cS, .int .i64 S.e, .int .i64 S.m], .int .i64 te] w fun e w' => e = .returned (.bool true) ∧ Below w.heap.size w w' := by
 have HB : Below w.heap.size w w := Below.refl _ _
 refine sx_enter Tryd.func3 rfl [(0, .agg #[.slice k.o0 x.pl.length k.c0, .slice k.o1 x.al.length k.c1, .slice k.o2 x.tl.length k.c2, .slice k.o3 x.ol.length k.c3, .slice k.o4 x.ap.length k.c4, .slice k.o5 x.be.length k.c5, .int .i64 ty, .int .i64 st, .slice orr F.length cr, .slice oa l.length ca, .bool S.r, .int .i64 S.d, .slice oS S.T.length cS, .int .i64 S.e, .int .i64 S.m]), (1, .int .i64 te)] (by kernel_rfl) ?_
 refine wp_seq (wp_region_lit ?_)
 obtain ⟨W1, hW, hb, hq⟩ := laidA w #[.slice k.o0 x.pl.length k.c0, .slice k.o1 x.al.length k.c1, .slice k.o2 x.tl.length k.c2, .slice k.o3 x.ol.length k.c3, .slice k.o4 x.ap.length k.c4, .slice k.o5 x.be.length k.c5, .int .i64 ty, .int .i64 st, .slice orr F.length cr, .slice oa l.length ca, .bool S.r, .int .i64 S.d, .slice oS S.T.length cS, .int .i64 S.e, .int .i64 S.m] 39
 refine sx_mem (by kernel_rfl) rfl rfl (.pointer (some ⟨w.heap.size, 0, none⟩)) W1 (by rw [← hW]; kernel_rfl) ?_
 replace HB := over HB hb
 have z1 := hb.size
 have M2 := hq
 have yM2 := hq.lt
 clear hq hb hW
 refine Zv rfl (.bool false) ?_
 refine wpList_nil (sx_norm (wp_seq (wp_seq (wp_region_lit ?_))))
 refine Zw rfl (.agg #[.slice k.o0 x.pl.length k.c0, .slice k.o1 x.al.length k.c1, .slice k.o2 x.tl.length k.c2, .slice k.o3 x.ol.length k.c3, .slice k.o4 x.ap.length k.c4, .slice k.o5 x.be.length k.c5, .int .i64 ty, .int .i64 st, .slice orr F.length cr, .slice oa l.length ca, .bool S.r, .int .i64 S.d, .slice oS S.T.length cS, .int .i64 S.e, .int .i64 S.m]) (ex_load rfl M2 (by kernel_rfl) Tryd.underlying39 rfl (by kernel_rfl)) ?_
 by_cases C1 : fewB x l F S = true
 ·refine sx_call (by kernel_rfl) rfl rfl ((by have h8 := few_n k x hx ty st orr oa oS cr ca cS l F S W1 (hI.below HB); rw [C1] at h8; exact h8)) (by kernel_rfl) ?_
  rintro e W3 ⟨rfl, hb⟩
  replace HB := over HB hb
  replace M2 := M2.below hb
  have z2 := hb.size
  clear hb
  refine ⟨_, rfl, ?_⟩
  have hin : inF x = [] := few_is C1
  refine Zv rfl (.bool false) ?_
  refine wpList_nil (sx_norm ?_)
  refine sx_false (by kernel_rfl) ?_
  refine wp_skip (sx_norm (wp_seq (wp_region_lit ?_)))
  refine Zv rfl (.pointer (some ⟨w.heap.size, 0, none⟩)) ?_
  refine Zw rfl (.agg (iK k x)) (ex_mid (q := 0) rfl M2 [.slice k.o0 x.pl.length k.c0, .slice k.o1 x.al.length k.c1, .slice k.o2 x.tl.length k.c2, .slice k.o3 x.ol.length k.c3, .slice k.o4 x.ap.length k.c4, .slice k.o5 x.be.length k.c5] (by kernel_rfl) Tryd.underlying30 rfl (by kernel_rfl) rfl) ?_
  refine Zv rfl (.pointer (some ⟨w.heap.size, 6, none⟩)) ?_
  refine Zw rfl (.agg (rK ty st orr F.length cr oa l.length ca)) (ex_mid (q := 6) rfl M2 [.int .i64 ty, .int .i64 st, .slice orr F.length cr, .slice oa l.length ca] (by kernel_rfl) Tryd.underlying34 rfl (by kernel_rfl) rfl) ?_
  refine Zv rfl (.pointer (some ⟨w.heap.size, 10, none⟩)) ?_
  refine Zw rfl (.agg #[.bool S.r, .int .i64 S.d, .slice oS S.T.length cS, .int .i64 S.e, .int .i64 S.m]) (ex_mid (q := 10) rfl M2 [.bool S.r, .int .i64 S.d, .slice oS S.T.length cS, .int .i64 S.e, .int .i64 S.m] (by kernel_rfl) Tryd.underlying37 rfl (by kernel_rfl) rfl) ?_
  by_cases C2 : (chkE x ty st l F S) = 0
  ·have zk9 := HB.size
   refine sx_call (by kernel_rfl) rfl rfl ((by have h8 := sSlack_n k x ty st orr oa oS cr ca cS b o bf qf bS qS l F S lS (fun hp => crs_ok hin hx.al hp) W3 (hI.below HB) (hT.belowD HB) (hl.below HB) (hFx.below HB) (hST.below HB); rw [C2] at h8; exact h8)) (by kernel_rfl) ?_
   rintro e W4 ⟨oL, cL, bL, qL, rfl, hL, hL8, hb⟩
   have hL7 : ∀ i, i < (slkL x ty st l F S).length → bL < W4.heap.size := fun i hi => hL.lt hi
   replace HB := over HB hb
   replace M2 := M2.below hb
   have z3 := hb.size
   clear hb
   refine ⟨_, rfl, ?_⟩
   obtain ⟨hp9, hTl, hrun, hsh, -⟩ := chk_is C2
   obtain ⟨hsl, hsa⟩ := slk_at C2
   have hck := C2
   have hc := crs_ok hin hx.al hp9
   have hn9 : (crs x ty st l).n = l.length + 1 := crs_n x ty st l
   have hl20 := posD_len hp9
   refine Zv rfl (.tuple #[.slice oL (slkL x ty st l F S).length cL, .int .i64 0]) ?_
   refine Zv rfl (.slice oL (slkL x ty st l F S).length cL) ?_
   refine Zv rfl (.int .i64 0) ?_
   refine Zv rfl (.slice oL (slkL x ty st l F S).length cL) ?_
   refine Zv rfl (.int .i64 0) ?_
   refine wpList_nil (sx_norm (wp_seq (wp_seq (wp_region_lit ?_))))
   refine Zv rfl (.int .i64 0) ?_
   refine Zv rfl (.bool false) ?_
   refine wpList_nil (sx_norm ?_)
   refine sx_false (by kernel_rfl) ?_
   refine wp_skip (sx_norm (wp_seq (wp_seq (wp_region_lit ?_))))
   refine Zv rfl (.slice oL (slkL x ty st l F S).length cL) ?_
   refine Zv rfl (.int .i64 (((slkL x ty st l F S).length : Nat) : Int)) ?_
   refine Zv rfl (.pointer (some ⟨w.heap.size, 6, none⟩)) ?_
   refine Zv rfl (.pointer (some ⟨w.heap.size, 9, none⟩)) ?_
   refine Zw rfl (.slice oa l.length ca) (el (M2.cell 9 rfl) Tryd.underlying32) ?_
   refine Zv rfl (.int .i64 ((l.length : Nat) : Int)) ?_
   refine sx_int (by kernel_rfl) rfl rfl .i64 (IntKind.i64.wrap (((l.length : Nat) : Int) + 1)) (((l.length + 1 : Nat) : Int)) (by kernel_rfl) (by rw [IntKind.wrap_i64]; omega) ?_
   refine Zb rfl (((((slkL x ty st l F S).length : Nat) : Int) : Int) != (((l.length + 1 : Nat) : Int) : Int)) false (by rw [bne_eq_false_iff_eq]; omega) ?_
   refine wpList_nil (sx_norm ?_)
   refine sx_false (by kernel_rfl) ?_
   refine wp_skip (sx_norm (wp_seq (wp_seq (wp_region_lit ?_))))
   refine Zv rfl (.int .i64 0) ?_
   refine wpList_nil (sx_norm (wp_block ?_))
   have zq2 := HB.size
   refine sx_loop (fun i : Nat => [(0, .agg #[.slice k.o0 x.pl.length k.c0, .slice k.o1 x.al.length k.c1, .slice k.o2 x.tl.length k.c2, .slice k.o3 x.ol.length k.c3, .slice k.o4 x.ap.length k.c4, .slice k.o5 x.be.length k.c5, .int .i64 ty, .int .i64 st, .slice orr F.length cr, .slice oa l.length ca, .bool S.r, .int .i64 S.d, .slice oS S.T.length cS, .int .i64 S.e, .int .i64 S.m]), (1, .int .i64 te), (2, .pointer (some ⟨w.heap.size, 0, none⟩)), (5, .slice oL (slkL x ty st l F S).length cL), (6, .int .i64 0), (7, .int .i64 ((i : Nat) : Int)), (14, .agg #[.slice k.o0 x.pl.length k.c0, .slice k.o1 x.al.length k.c1, .slice k.o2 x.tl.length k.c2, .slice k.o3 x.ol.length k.c3, .slice k.o4 x.ap.length k.c4, .slice k.o5 x.be.length k.c5, .int .i64 ty, .int .i64 st, .slice orr F.length cr, .slice oa l.length ca, .bool S.r, .int .i64 S.d, .slice oS S.T.length cS, .int .i64 S.e, .int .i64 S.m]), (15, .bool true), (16, .bool false), (18, .tuple #[.slice oL (slkL x ty st l F S).length cL, .int .i64 0]), (19, .pointer (some ⟨w.heap.size, 0, none⟩)), (20, .agg (iK k x)), (21, .pointer (some ⟨w.heap.size, 6, none⟩)), (22, .agg (rK ty st orr F.length cr oa l.length ca)), (23, .pointer (some ⟨w.heap.size, 10, none⟩)), (24, .agg #[.bool S.r, .int .i64 S.d, .slice oS S.T.length cS, .int .i64 S.e, .int .i64 S.m]), (25, .tuple #[.slice oL (slkL x ty st l F S).length cL, .int .i64 0]), (26, .slice oL (slkL x ty st l F S).length cL), (27, .int .i64 0), (28, .int .i64 0), (29, .bool false), (36, .slice oL (slkL x ty st l F S).length cL), (37, .int .i64 (((slkL x ty st l F S).length : Nat) : Int)), (38, .pointer (some ⟨w.heap.size, 6, none⟩)), (39, .pointer (some ⟨w.heap.size, 9, none⟩)), (40, .slice oa l.length ca), (41, .int .i64 ((l.length : Nat) : Int)), (42, .int .i64 ((l.length + 1 : Nat) : Int)), (43, .bool false)]) (fun gg i wr => i ≤ l.length + 1 ∧ l.length + 1 - i ≤ gg ∧ Cb wr (w.heap.size) #[.slice k.o0 x.pl.length k.c0, .slice k.o1 x.al.length k.c1, .slice k.o2 x.tl.length k.c2, .slice k.o3 x.ol.length k.c3, .slice k.o4 x.ap.length k.c4, .slice k.o5 x.be.length k.c5, .int .i64 ty, .int .i64 st, .slice orr F.length cr, .slice oa l.length ca, .bool S.r, .int .i64 S.d, .slice oS S.T.length cS, .int .i64 S.e, .int .i64 S.m] 39 ∧ Rw wr bL qL 1 (fun k1 => inE ((slkL x ty st l F S).getD k1 0)) (slkL x ty st l F S).length oL ∧ Below w.heap.size w wr ∧ w.heap.size < wr.heap.size) (l.length + 1) (0) (by kernel_rfl) ⟨Nat.zero_le _, Nat.le_refl _, M2, hL, HB, by omega⟩ ?_
   rintro gg i g' wr5 ⟨hi, hg, K2, hL, HB, hq9⟩
   refine wp_seq (wp_seq ?_)
   have yK2 := K2.lt
   have zhb := HB.size
   have hL7 : ∀ i, i < (slkL x ty st l F S).length → bL < wr5.heap.size := fun i hi => hL.lt hi
   refine wp_region_lit ?_
   refine Zv rfl (.int .i64 ((i : Nat) : Int)) ?_
   refine Zv rfl (.slice oL (slkL x ty st l F S).length cL) ?_
   refine Zv rfl (.int .i64 (((slkL x ty st l F S).length : Nat) : Int)) ?_
   by_cases C3 : i < (slkL x ty st l F S).length
   ·refine Zb rfl (decide (((i : Nat) : Int) < (((slkL x ty st l F S).length : Nat) : Int))) true (decide_eq_true (by omega)) ?_
    refine wpList_nil (sx_norm ?_)
    refine sx_true (by kernel_rfl) ?_
    refine wp_skip (sx_norm (wp_seq (wp_block ?_)))
    have hil : i < l.length + 1 := by omega
    have hli := hsa i hil
    have hss := CrT.sl_is hc hrun (k := i) (by omega)
    have h0P : (aftE x ty st l F S ((i : Nat) : Int) ((slkL x ty st l F S).getD i 0)) = 0 := (aft_ok hck hil (by omega) (by omega)).2 (by rw [hli]; exact (hss.1 _ (by omega)))
    refine sx_cut (fun u : Unit => [(0, .agg #[.slice k.o0 x.pl.length k.c0, .slice k.o1 x.al.length k.c1, .slice k.o2 x.tl.length k.c2, .slice k.o3 x.ol.length k.c3, .slice k.o4 x.ap.length k.c4, .slice k.o5 x.be.length k.c5, .int .i64 ty, .int .i64 st, .slice orr F.length cr, .slice oa l.length ca, .bool S.r, .int .i64 S.d, .slice oS S.T.length cS, .int .i64 S.e, .int .i64 S.m]), (1, .int .i64 te), (2, .pointer (some ⟨w.heap.size, 0, none⟩)), (5, .slice oL (slkL x ty st l F S).length cL), (6, .int .i64 0), (7, .int .i64 ((i : Nat) : Int)), (9, .int .i64 0), (14, .agg #[.slice k.o0 x.pl.length k.c0, .slice k.o1 x.al.length k.c1, .slice k.o2 x.tl.length k.c2, .slice k.o3 x.ol.length k.c3, .slice k.o4 x.ap.length k.c4, .slice k.o5 x.be.length k.c5, .int .i64 ty, .int .i64 st, .slice orr F.length cr, .slice oa l.length ca, .bool S.r, .int .i64 S.d, .slice oS S.T.length cS, .int .i64 S.e, .int .i64 S.m]), (15, .bool true), (16, .bool false), (18, .tuple #[.slice oL (slkL x ty st l F S).length cL, .int .i64 0]), (19, .pointer (some ⟨w.heap.size, 0, none⟩)), (20, .agg (iK k x)), (21, .pointer (some ⟨w.heap.size, 6, none⟩)), (22, .agg (rK ty st orr F.length cr oa l.length ca)), (23, .pointer (some ⟨w.heap.size, 10, none⟩)), (24, .agg #[.bool S.r, .int .i64 S.d, .slice oS S.T.length cS, .int .i64 S.e, .int .i64 S.m]), (25, .tuple #[.slice oL (slkL x ty st l F S).length cL, .int .i64 0]), (26, .slice oL (slkL x ty st l F S).length cL), (27, .int .i64 0), (28, .int .i64 0), (29, .bool false), (36, .slice oL (slkL x ty st l F S).length cL), (37, .int .i64 (((slkL x ty st l F S).length : Nat) : Int)), (38, .pointer (some ⟨w.heap.size, 6, none⟩)), (39, .pointer (some ⟨w.heap.size, 9, none⟩)), (40, .slice oa l.length ca), (41, .int .i64 ((l.length : Nat) : Int)), (42, .int .i64 ((l.length + 1 : Nat) : Int)), (43, .bool false), (44, .int .i64 ((i : Nat) : Int)), (45, .slice oL (slkL x ty st l F S).length cL), (46, .int .i64 (((slkL x ty st l F S).length : Nat) : Int)), (47, .bool true)]) (fun u wr => Cb wr (w.heap.size) #[.slice k.o0 x.pl.length k.c0, .slice k.o1 x.al.length k.c1, .slice k.o2 x.tl.length k.c2, .slice k.o3 x.ol.length k.c3, .slice k.o4 x.ap.length k.c4, .slice k.o5 x.be.length k.c5, .int .i64 ty, .int .i64 st, .slice orr F.length cr, .slice oa l.length ca, .bool S.r, .int .i64 S.d, .slice oS S.T.length cS, .int .i64 S.e, .int .i64 S.m] 39 ∧ Rw wr bL qL 1 (fun k1 => inE ((slkL x ty st l F S).getD k1 0)) (slkL x ty st l F S).length oL ∧ Below w.heap.size w wr ∧ w.heap.size < wr.heap.size) ?_ ?_
    ·obtain ⟨Y7, hW⟩ : ∃ W, wr5.drew = W := ⟨_, rfl⟩
     have hb : Below wr5.heap.size wr5 Y7 := hW ▸ below_drew (Below.refl _ _)
     replace HB := over HB hb
     replace K2 := K2.below hb
     replace hL := hL.below hb
     have z4 := hb.size
     clear hb
     refine sd_begin (fun W => Cb W (w.heap.size) #[.slice k.o0 x.pl.length k.c0, .slice k.o1 x.al.length k.c1, .slice k.o2 x.tl.length k.c2, .slice k.o3 x.ol.length k.c3, .slice k.o4 x.ap.length k.c4, .slice k.o5 x.be.length k.c5, .int .i64 ty, .int .i64 st, .slice orr F.length cr, .slice oa l.length ca, .bool S.r, .int .i64 S.d, .slice oS S.T.length cS, .int .i64 S.e, .int .i64 S.m] 39 ∧ Rw W bL qL 1 (fun k1 => inE ((slkL x ty st l F S).getD k1 0)) ((slkL x ty st l F S).length) oL ∧ True) (by kernel_rfl) (by rw [hW]; exact ⟨K2, hL, trivial⟩) ?_
     rw [hW]
     clear hW
     refine Zu 0 rfl rfl (.pointer (some ⟨w.heap.size, 0, none⟩)) ⟨K2, hL, trivial⟩ ?_
     refine Zt 1 rfl rfl (.agg (iK k x)) (fun w9 h9 => ex_mid (q := 0) rfl h9.1 [.slice k.o0 x.pl.length k.c0, .slice k.o1 x.al.length k.c1, .slice k.o2 x.tl.length k.c2, .slice k.o3 x.ol.length k.c3, .slice k.o4 x.ap.length k.c4, .slice k.o5 x.be.length k.c5] (by kernel_rfl) Tryd.underlying30 rfl (by kernel_rfl) rfl) ⟨K2, hL, trivial⟩ ?_
     refine Zu 2 rfl rfl (.pointer (some ⟨w.heap.size, 6, none⟩)) ⟨K2, hL, trivial⟩ ?_
     refine Zt 3 rfl rfl (.agg (rK ty st orr F.length cr oa l.length ca)) (fun w9 h9 => ex_mid (q := 6) rfl h9.1 [.int .i64 ty, .int .i64 st, .slice orr F.length cr, .slice oa l.length ca] (by kernel_rfl) Tryd.underlying34 rfl (by kernel_rfl) rfl) ⟨K2, hL, trivial⟩ ?_
     refine Zu 4 rfl rfl (.pointer (some ⟨w.heap.size, 10, none⟩)) ⟨K2, hL, trivial⟩ ?_
     refine Zt 5 rfl rfl (.agg #[.bool S.r, .int .i64 S.d, .slice oS S.T.length cS, .int .i64 S.e, .int .i64 S.m]) (fun w9 h9 => ex_mid (q := 10) rfl h9.1 [.bool S.r, .int .i64 S.d, .slice oS S.T.length cS, .int .i64 S.e, .int .i64 S.m] (by kernel_rfl) Tryd.underlying37 rfl (by kernel_rfl) rfl) ⟨K2, hL, trivial⟩ ?_
     refine Zu 6 rfl rfl (.int .i64 ((i : Nat) : Int)) ⟨K2, hL, trivial⟩ ?_
     refine Zu 7 rfl rfl (.slice oL (slkL x ty st l F S).length cL) ⟨K2, hL, trivial⟩ ?_
     refine Zu 8 rfl rfl (.int .i64 ((i : Nat) : Int)) ⟨K2, hL, trivial⟩ ?_
     refine Zt 9 rfl rfl (.pointer (some ⟨bL, qL + i * 1, none⟩)) (fun w9 h9 => ex_indexO (q := qL) (m := (slkL x ty st l F S).length) (c := cL) (k := i) (s := 1) rfl (by kernel_rfl) (h9.2.1.oa (k := i) (by omega)) (by kernel_rfl) Tryd.underlying42 (by kernel_rfl) (by omega) (by omega)) ⟨K2, hL, trivial⟩ ?_
     refine Zt 10 rfl rfl (.int .i64 ((slkL x ty st l F S).getD i 0)) (fun w9 h9 => el (h9.2.1.cell (k := i) (by omega) 0 rfl) Tryd.underlying3) ⟨K2, hL, trivial⟩ ?_
     refine sd_all [11, 15] (by kernel_rfl) (by decide) ?_
     refine sd_call (i := 11) rfl (by kernel_rfl) rfl rfl ((by have h8 := sAfter_n k x ty st orr oa oS cr ca cS b o bf qf bS qS l F S lS (fun hp => crs_ok hin hx.al hp) Y7 (hI.below HB) (hT.belowD HB) (hl.below HB) (hFx.below HB) (hST.below HB) ((i : Nat) : Int) ((slkL x ty st l F S).getD i 0); rw [h0P] at h8; exact h8)) (by kernel_rfl) ?_ ?_
     ·rintro e W8 ⟨oP, cP, bP, qP, rfl, -, -, hb⟩
      replace HB := over HB hb
      replace K2 := K2.below hb
      replace hL := hL.below hb
      have z5 := hb.size
      clear hb
      refine ⟨_, rfl, ⟨K2, hL, trivial⟩, ?_⟩
      refine Zu 12 rfl rfl (.tuple #[.agg #[.bool (aftS x ty st l F S ((i : Nat) : Int) ((slkL x ty st l F S).getD i 0)).r, .int .i64 ((aftS x ty st l F S ((i : Nat) : Int) ((slkL x ty st l F S).getD i 0)).d), .slice oP (aftS x ty st l F S ((i : Nat) : Int) ((slkL x ty st l F S).getD i 0)).T.length cP, .int .i64 ((aftS x ty st l F S ((i : Nat) : Int) ((slkL x ty st l F S).getD i 0)).e), .int .i64 ((aftS x ty st l F S ((i : Nat) : Int) ((slkL x ty st l F S).getD i 0)).m)], .int .i64 0]) ⟨K2, hL, trivial⟩ ?_
      refine Zu 13 rfl rfl (.agg #[.bool (aftS x ty st l F S ((i : Nat) : Int) ((slkL x ty st l F S).getD i 0)).r, .int .i64 ((aftS x ty st l F S ((i : Nat) : Int) ((slkL x ty st l F S).getD i 0)).d), .slice oP (aftS x ty st l F S ((i : Nat) : Int) ((slkL x ty st l F S).getD i 0)).T.length cP, .int .i64 ((aftS x ty st l F S ((i : Nat) : Int) ((slkL x ty st l F S).getD i 0)).e), .int .i64 ((aftS x ty st l F S ((i : Nat) : Int) ((slkL x ty st l F S).getD i 0)).m)]) ⟨K2, hL, trivial⟩ ?_
      refine Zu 14 rfl rfl (.int .i64 0) ⟨K2, hL, trivial⟩ ?_
      refine sd_all [15] (by kernel_rfl) (by decide) ?_
      refine sd_mem (i := 15) rfl (by kernel_rfl) rfl rfl (.pointer (some ⟨W8.heap.size, 0, none⟩)) (W8.alloc (.cells #[.bool false, .int .i64 0, .slice none 0 0, .int .i64 0, .int .i64 0] 37)) (by kernel_rfl) ⟨(K2.below (below_alloc W8 (.cells #[.bool false, .int .i64 0, .slice none 0 0, .int .i64 0, .int .i64 0] 37))), (hL.below (below_alloc W8 (.cells #[.bool false, .int .i64 0, .slice none 0 0, .int .i64 0, .int .i64 0] 37))), trivial⟩ ?_ AllReadyH.nil
      obtain ⟨W9, hW, hb, hq⟩ := laidA W8 #[.bool false, .int .i64 0, .slice none 0 0, .int .i64 0, .int .i64 0] 37
      rw [hW]
      replace HB := over HB hb
      replace K2 := K2.below hb
      replace hL := hL.below hb
      have z6 := hb.size
      have M10 := hq
      have yM10 := hq.lt
      clear hq hb hW
      refine sd_all [16] (by kernel_rfl) (by decide) ?_
      refine sd_do (i := 16) rfl (by kernel_rfl) rfl (W9.setRow (W8.heap.size) #[.bool (aftS x ty st l F S ((i : Nat) : Int) ((slkL x ty st l F S).getD i 0)).r, .int .i64 ((aftS x ty st l F S ((i : Nat) : Int) ((slkL x ty st l F S).getD i 0)).d), .slice oP (aftS x ty st l F S ((i : Nat) : Int) ((slkL x ty st l F S).getD i 0)).T.length cP, .int .i64 ((aftS x ty st l F S ((i : Nat) : Int) ((slkL x ty st l F S).getD i 0)).e), .int .i64 ((aftS x ty st l F S ((i : Nat) : Int) ((slkL x ty st l F S).getD i 0)).m)]) (ex_store (cells := #[.bool (aftS x ty st l F S ((i : Nat) : Int) ((slkL x ty st l F S).getD i 0)).r, .int .i64 ((aftS x ty st l F S ((i : Nat) : Int) ((slkL x ty st l F S).getD i 0)).d), .slice oP (aftS x ty st l F S ((i : Nat) : Int) ((slkL x ty st l F S).getD i 0)).T.length cP, .int .i64 ((aftS x ty st l F S ((i : Nat) : Int) ((slkL x ty st l F S).getD i 0)).e), .int .i64 ((aftS x ty st l F S ((i : Nat) : Int) ((slkL x ty st l F S).getD i 0)).m)]) rfl M10 (by kernel_rfl) (by kernel_rfl) (by kernel_rfl) (by kernel_rfl) (by kernel_rfl)) ⟨(K2.kept (grown_row _ _ _) (by omega)), (hL.kept (grown_row _ _ _) (fun i hi => by have h8 := hL7 i hi; omega)), trivial⟩ ?_ AllReadyH.nil
      obtain ⟨W11, hW⟩ : ∃ W, W9.setRow (W8.heap.size) #[.bool (aftS x ty st l F S ((i : Nat) : Int) ((slkL x ty st l F S).getD i 0)).r, .int .i64 ((aftS x ty st l F S ((i : Nat) : Int) ((slkL x ty st l F S).getD i 0)).d), .slice oP (aftS x ty st l F S ((i : Nat) : Int) ((slkL x ty st l F S).getD i 0)).T.length cP, .int .i64 ((aftS x ty st l F S ((i : Nat) : Int) ((slkL x ty st l F S).getD i 0)).e), .int .i64 ((aftS x ty st l F S ((i : Nat) : Int) ((slkL x ty st l F S).getD i 0)).m)] = W := ⟨_, rfl⟩
      have hg : W9.grownBy W11 (some (W8.heap.size)) := hW ▸ grown_row _ _ _
      have hq : Cb W11 (W8.heap.size) #[.bool (aftS x ty st l F S ((i : Nat) : Int) ((slkL x ty st l F S).getD i 0)).r, .int .i64 ((aftS x ty st l F S ((i : Nat) : Int) ((slkL x ty st l F S).getD i 0)).d), .slice oP (aftS x ty st l F S ((i : Nat) : Int) ((slkL x ty st l F S).getD i 0)).T.length cP, .int .i64 ((aftS x ty st l F S ((i : Nat) : Int) ((slkL x ty st l F S).getD i 0)).e), .int .i64 ((aftS x ty st l F S ((i : Nat) : Int) ((slkL x ty st l F S).getD i 0)).m)] 37 := hW ▸ Cb.row M10 _
      rw [hW]
      replace HB := HB.grown hg (by omega) (fun x e => by simp only [Option.some.injEq] at e; omega)
      replace K2 := K2.kept hg (by omega)
      replace hL := hL.kept hg (fun i hi => by have h8 := hL7 i hi; omega)
      have z7 := hg.size
      replace M10 := hq
      clear hq hg hW
      refine Zu 17 rfl rfl (.int .i64 0) ⟨K2, hL, trivial⟩ ?_
      refine sd_done (by kernel_rfl) ?_
      refine sx_norm ?_
      exact ⟨(), ⟨K2, hL, HB, by have h8 := HB.size; omega⟩, fr_less (by kernel_rfl)⟩
     refine sd_mem (i := 15) rfl (by kernel_rfl) rfl rfl (.pointer (some ⟨Y7.heap.size, 0, none⟩)) (Y7.alloc (.cells #[.bool false, .int .i64 0, .slice none 0 0, .int .i64 0, .int .i64 0] 37)) (by kernel_rfl) ⟨(K2.below (below_alloc Y7 (.cells #[.bool false, .int .i64 0, .slice none 0 0, .int .i64 0, .int .i64 0] 37))), (hL.below (below_alloc Y7 (.cells #[.bool false, .int .i64 0, .slice none 0 0, .int .i64 0, .int .i64 0] 37))), trivial⟩ ?_ AllReadyH.nil
     obtain ⟨W12, hW, hb, hq⟩ := laidA Y7 #[.bool false, .int .i64 0, .slice none 0 0, .int .i64 0, .int .i64 0] 37
     rw [hW]
     replace HB := over HB hb
     replace K2 := K2.below hb
     replace hL := hL.below hb
     have z5 := hb.size
     have M13 := hq
     have yM13 := hq.lt
     clear hq hb hW
     refine sd_all [11] (by kernel_rfl) (by decide) ?_
     refine sd_call (i := 11) rfl (by kernel_rfl) rfl rfl ((by have h8 := sAfter_n k x ty st orr oa oS cr ca cS b o bf qf bS qS l F S lS (fun hp => crs_ok hin hx.al hp) W12 (hI.below HB) (hT.belowD HB) (hl.below HB) (hFx.below HB) (hST.below HB) ((i : Nat) : Int) ((slkL x ty st l F S).getD i 0); rw [h0P] at h8; exact h8)) (by kernel_rfl) ?_ AllReadyH.nil
     rintro e W14 ⟨oP, cP, bP, qP, rfl, -, -, hb⟩
     replace HB := over HB hb
     replace K2 := K2.below hb
     replace hL := hL.below hb
     replace M13 := M13.below hb
     have z6 := hb.size
     clear hb
     refine ⟨_, rfl, ⟨K2, hL, trivial⟩, ?_⟩
     refine Zu 12 rfl rfl (.tuple #[.agg #[.bool (aftS x ty st l F S ((i : Nat) : Int) ((slkL x ty st l F S).getD i 0)).r, .int .i64 ((aftS x ty st l F S ((i : Nat) : Int) ((slkL x ty st l F S).getD i 0)).d), .slice oP (aftS x ty st l F S ((i : Nat) : Int) ((slkL x ty st l F S).getD i 0)).T.length cP, .int .i64 ((aftS x ty st l F S ((i : Nat) : Int) ((slkL x ty st l F S).getD i 0)).e), .int .i64 ((aftS x ty st l F S ((i : Nat) : Int) ((slkL x ty st l F S).getD i 0)).m)], .int .i64 0]) ⟨K2, hL, trivial⟩ ?_
     refine Zu 13 rfl rfl (.agg #[.bool (aftS x ty st l F S ((i : Nat) : Int) ((slkL x ty st l F S).getD i 0)).r, .int .i64 ((aftS x ty st l F S ((i : Nat) : Int) ((slkL x ty st l F S).getD i 0)).d), .slice oP (aftS x ty st l F S ((i : Nat) : Int) ((slkL x ty st l F S).getD i 0)).T.length cP, .int .i64 ((aftS x ty st l F S ((i : Nat) : Int) ((slkL x ty st l F S).getD i 0)).e), .int .i64 ((aftS x ty st l F S ((i : Nat) : Int) ((slkL x ty st l F S).getD i 0)).m)]) ⟨K2, hL, trivial⟩ ?_
     refine Zu 14 rfl rfl (.int .i64 0) ⟨K2, hL, trivial⟩ ?_
     refine sd_all [16] (by kernel_rfl) (by decide) ?_
     refine sd_do (i := 16) rfl (by kernel_rfl) rfl (W14.setRow (Y7.heap.size) #[.bool (aftS x ty st l F S ((i : Nat) : Int) ((slkL x ty st l F S).getD i 0)).r, .int .i64 ((aftS x ty st l F S ((i : Nat) : Int) ((slkL x ty st l F S).getD i 0)).d), .slice oP (aftS x ty st l F S ((i : Nat) : Int) ((slkL x ty st l F S).getD i 0)).T.length cP, .int .i64 ((aftS x ty st l F S ((i : Nat) : Int) ((slkL x ty st l F S).getD i 0)).e), .int .i64 ((aftS x ty st l F S ((i : Nat) : Int) ((slkL x ty st l F S).getD i 0)).m)]) (ex_store (cells := #[.bool (aftS x ty st l F S ((i : Nat) : Int) ((slkL x ty st l F S).getD i 0)).r, .int .i64 ((aftS x ty st l F S ((i : Nat) : Int) ((slkL x ty st l F S).getD i 0)).d), .slice oP (aftS x ty st l F S ((i : Nat) : Int) ((slkL x ty st l F S).getD i 0)).T.length cP, .int .i64 ((aftS x ty st l F S ((i : Nat) : Int) ((slkL x ty st l F S).getD i 0)).e), .int .i64 ((aftS x ty st l F S ((i : Nat) : Int) ((slkL x ty st l F S).getD i 0)).m)]) rfl M13 (by kernel_rfl) (by kernel_rfl) (by kernel_rfl) (by kernel_rfl) (by kernel_rfl)) ⟨(K2.kept (grown_row _ _ _) (by omega)), (hL.kept (grown_row _ _ _) (fun i hi => by have h8 := hL7 i hi; omega)), trivial⟩ ?_ AllReadyH.nil
     obtain ⟨W15, hW⟩ : ∃ W, W14.setRow (Y7.heap.size) #[.bool (aftS x ty st l F S ((i : Nat) : Int) ((slkL x ty st l F S).getD i 0)).r, .int .i64 ((aftS x ty st l F S ((i : Nat) : Int) ((slkL x ty st l F S).getD i 0)).d), .slice oP (aftS x ty st l F S ((i : Nat) : Int) ((slkL x ty st l F S).getD i 0)).T.length cP, .int .i64 ((aftS x ty st l F S ((i : Nat) : Int) ((slkL x ty st l F S).getD i 0)).e), .int .i64 ((aftS x ty st l F S ((i : Nat) : Int) ((slkL x ty st l F S).getD i 0)).m)] = W := ⟨_, rfl⟩
     have hg : W14.grownBy W15 (some (Y7.heap.size)) := hW ▸ grown_row _ _ _
     have hq : Cb W15 (Y7.heap.size) #[.bool (aftS x ty st l F S ((i : Nat) : Int) ((slkL x ty st l F S).getD i 0)).r, .int .i64 ((aftS x ty st l F S ((i : Nat) : Int) ((slkL x ty st l F S).getD i 0)).d), .slice oP (aftS x ty st l F S ((i : Nat) : Int) ((slkL x ty st l F S).getD i 0)).T.length cP, .int .i64 ((aftS x ty st l F S ((i : Nat) : Int) ((slkL x ty st l F S).getD i 0)).e), .int .i64 ((aftS x ty st l F S ((i : Nat) : Int) ((slkL x ty st l F S).getD i 0)).m)] 37 := hW ▸ Cb.row M13 _
     rw [hW]
     replace HB := HB.grown hg (by omega) (fun x e => by simp only [Option.some.injEq] at e; omega)
     replace K2 := K2.kept hg (by omega)
     replace hL := hL.kept hg (fun i hi => by have h8 := hL7 i hi; omega)
     have z7 := hg.size
     replace M13 := hq
     clear hq hg hW
     refine Zu 17 rfl rfl (.int .i64 0) ⟨K2, hL, trivial⟩ ?_
     refine sd_done (by kernel_rfl) ?_
     refine sx_norm ?_
     exact ⟨(), ⟨K2, hL, HB, by have h8 := HB.size; omega⟩, fr_less (by kernel_rfl)⟩
    rintro u g' wr6 ⟨K2, hL, HB, hq9⟩
    refine sx_cut (fun u : Unit => [(0, .agg #[.slice k.o0 x.pl.length k.c0, .slice k.o1 x.al.length k.c1, .slice k.o2 x.tl.length k.c2, .slice k.o3 x.ol.length k.c3, .slice k.o4 x.ap.length k.c4, .slice k.o5 x.be.length k.c5, .int .i64 ty, .int .i64 st, .slice orr F.length cr, .slice oa l.length ca, .bool S.r, .int .i64 S.d, .slice oS S.T.length cS, .int .i64 S.e, .int .i64 S.m]), (1, .int .i64 te), (2, .pointer (some ⟨w.heap.size, 0, none⟩)), (5, .slice oL (slkL x ty st l F S).length cL), (6, .int .i64 0), (7, .int .i64 ((i : Nat) : Int)), (9, .int .i64 0), (11, .int .i64 (aftE x ty st l F S ((i : Nat) : Int) (((slkL x ty st l F S).getD i 0) + 1))), (14, .agg #[.slice k.o0 x.pl.length k.c0, .slice k.o1 x.al.length k.c1, .slice k.o2 x.tl.length k.c2, .slice k.o3 x.ol.length k.c3, .slice k.o4 x.ap.length k.c4, .slice k.o5 x.be.length k.c5, .int .i64 ty, .int .i64 st, .slice orr F.length cr, .slice oa l.length ca, .bool S.r, .int .i64 S.d, .slice oS S.T.length cS, .int .i64 S.e, .int .i64 S.m]), (15, .bool true), (16, .bool false), (18, .tuple #[.slice oL (slkL x ty st l F S).length cL, .int .i64 0]), (19, .pointer (some ⟨w.heap.size, 0, none⟩)), (20, .agg (iK k x)), (21, .pointer (some ⟨w.heap.size, 6, none⟩)), (22, .agg (rK ty st orr F.length cr oa l.length ca)), (23, .pointer (some ⟨w.heap.size, 10, none⟩)), (24, .agg #[.bool S.r, .int .i64 S.d, .slice oS S.T.length cS, .int .i64 S.e, .int .i64 S.m]), (25, .tuple #[.slice oL (slkL x ty st l F S).length cL, .int .i64 0]), (26, .slice oL (slkL x ty st l F S).length cL), (27, .int .i64 0), (28, .int .i64 0), (29, .bool false), (36, .slice oL (slkL x ty st l F S).length cL), (37, .int .i64 (((slkL x ty st l F S).length : Nat) : Int)), (38, .pointer (some ⟨w.heap.size, 6, none⟩)), (39, .pointer (some ⟨w.heap.size, 9, none⟩)), (40, .slice oa l.length ca), (41, .int .i64 ((l.length : Nat) : Int)), (42, .int .i64 ((l.length + 1 : Nat) : Int)), (43, .bool false), (44, .int .i64 ((i : Nat) : Int)), (45, .slice oL (slkL x ty st l F S).length cL), (46, .int .i64 (((slkL x ty st l F S).length : Nat) : Int)), (47, .bool true)]) (fun u wr => Cb wr (w.heap.size) #[.slice k.o0 x.pl.length k.c0, .slice k.o1 x.al.length k.c1, .slice k.o2 x.tl.length k.c2, .slice k.o3 x.ol.length k.c3, .slice k.o4 x.ap.length k.c4, .slice k.o5 x.be.length k.c5, .int .i64 ty, .int .i64 st, .slice orr F.length cr, .slice oa l.length ca, .bool S.r, .int .i64 S.d, .slice oS S.T.length cS, .int .i64 S.e, .int .i64 S.m] 39 ∧ Rw wr bL qL 1 (fun k1 => inE ((slkL x ty st l F S).getD k1 0)) (slkL x ty st l F S).length oL ∧ Below w.heap.size w wr ∧ w.heap.size < wr.heap.size) ?_ ?_
    ·have yK2 := K2.lt
     have zhb := HB.size
     have hL7 : ∀ i, i < (slkL x ty st l F S).length → bL < wr6.heap.size := fun i hi => hL.lt hi
     obtain ⟨Y17, hW⟩ : ∃ W, wr6.drew = W := ⟨_, rfl⟩
     have hb : Below wr6.heap.size wr6 Y17 := hW ▸ below_drew (Below.refl _ _)
     replace HB := over HB hb
     replace K2 := K2.below hb
     replace hL := hL.below hb
     have z4 := hb.size
     clear hb
     refine sd_begin (fun W => Cb W (w.heap.size) #[.slice k.o0 x.pl.length k.c0, .slice k.o1 x.al.length k.c1, .slice k.o2 x.tl.length k.c2, .slice k.o3 x.ol.length k.c3, .slice k.o4 x.ap.length k.c4, .slice k.o5 x.be.length k.c5, .int .i64 ty, .int .i64 st, .slice orr F.length cr, .slice oa l.length ca, .bool S.r, .int .i64 S.d, .slice oS S.T.length cS, .int .i64 S.e, .int .i64 S.m] 39 ∧ Rw W bL qL 1 (fun k1 => inE ((slkL x ty st l F S).getD k1 0)) ((slkL x ty st l F S).length) oL ∧ True) (by kernel_rfl) (by rw [hW]; exact ⟨K2, hL, trivial⟩) ?_
     rw [hW]
     clear hW
     refine Zu 0 rfl rfl (.pointer (some ⟨w.heap.size, 0, none⟩)) ⟨K2, hL, trivial⟩ ?_
     refine Zt 1 rfl rfl (.agg (iK k x)) (fun w9 h9 => ex_mid (q := 0) rfl h9.1 [.slice k.o0 x.pl.length k.c0, .slice k.o1 x.al.length k.c1, .slice k.o2 x.tl.length k.c2, .slice k.o3 x.ol.length k.c3, .slice k.o4 x.ap.length k.c4, .slice k.o5 x.be.length k.c5] (by kernel_rfl) Tryd.underlying30 rfl (by kernel_rfl) rfl) ⟨K2, hL, trivial⟩ ?_
     refine Zu 2 rfl rfl (.pointer (some ⟨w.heap.size, 6, none⟩)) ⟨K2, hL, trivial⟩ ?_
     refine Zt 3 rfl rfl (.agg (rK ty st orr F.length cr oa l.length ca)) (fun w9 h9 => ex_mid (q := 6) rfl h9.1 [.int .i64 ty, .int .i64 st, .slice orr F.length cr, .slice oa l.length ca] (by kernel_rfl) Tryd.underlying34 rfl (by kernel_rfl) rfl) ⟨K2, hL, trivial⟩ ?_
     refine Zu 4 rfl rfl (.pointer (some ⟨w.heap.size, 10, none⟩)) ⟨K2, hL, trivial⟩ ?_
     refine Zt 5 rfl rfl (.agg #[.bool S.r, .int .i64 S.d, .slice oS S.T.length cS, .int .i64 S.e, .int .i64 S.m]) (fun w9 h9 => ex_mid (q := 10) rfl h9.1 [.bool S.r, .int .i64 S.d, .slice oS S.T.length cS, .int .i64 S.e, .int .i64 S.m] (by kernel_rfl) Tryd.underlying37 rfl (by kernel_rfl) rfl) ⟨K2, hL, trivial⟩ ?_
     refine Zu 6 rfl rfl (.int .i64 ((i : Nat) : Int)) ⟨K2, hL, trivial⟩ ?_
     refine Zu 7 rfl rfl (.slice oL (slkL x ty st l F S).length cL) ⟨K2, hL, trivial⟩ ?_
     refine Zu 8 rfl rfl (.int .i64 ((i : Nat) : Int)) ⟨K2, hL, trivial⟩ ?_
     refine Zt 9 rfl rfl (.pointer (some ⟨bL, qL + i * 1, none⟩)) (fun w9 h9 => ex_indexO (q := qL) (m := (slkL x ty st l F S).length) (c := cL) (k := i) (s := 1) rfl (by kernel_rfl) (h9.2.1.oa (k := i) (by omega)) (by kernel_rfl) Tryd.underlying42 (by kernel_rfl) (by omega) (by omega)) ⟨K2, hL, trivial⟩ ?_
     refine Zt 10 rfl rfl (.int .i64 ((slkL x ty st l F S).getD i 0)) (fun w9 h9 => el (h9.2.1.cell (k := i) (by omega) 0 rfl) Tryd.underlying3) ⟨K2, hL, trivial⟩ ?_
     refine Zt 11 rfl rfl (.int .i64 (((slkL x ty st l F S).getD i 0) + 1)) (fun w9 _ => ex_int .i64 (IntKind.i64.wrap (((slkL x ty st l F S).getD i 0) + 1)) ((((slkL x ty st l F S).getD i 0) + 1)) (by kernel_rfl) (by rw [IntKind.wrap_i64]; omega)) ⟨K2, hL, trivial⟩ ?_
     refine sd_all [12, 16] (by kernel_rfl) (by decide) ?_
     refine sd_call (i := 12) rfl (by kernel_rfl) rfl rfl ((by have h8 := sAfter_n k x ty st orr oa oS cr ca cS b o bf qf bS qS l F S lS (fun hp => crs_ok hin hx.al hp) Y17 (hI.below HB) (hT.belowD HB) (hl.below HB) (hFx.below HB) (hST.below HB) ((i : Nat) : Int) (((slkL x ty st l F S).getD i 0) + 1); exact h8)) (by kernel_rfl) ?_ ?_
     ·rintro e W18 ⟨oQ, cQ, bQ, qQ, rfl, -, -, hb⟩
      replace HB := over HB hb
      replace K2 := K2.below hb
      replace hL := hL.below hb
      have z5 := hb.size
      clear hb
      refine ⟨_, rfl, ⟨K2, hL, trivial⟩, ?_⟩
      refine Zu 13 rfl rfl (.tuple #[.agg #[.bool (aftS x ty st l F S ((i : Nat) : Int) (((slkL x ty st l F S).getD i 0) + 1)).r, .int .i64 ((aftS x ty st l F S ((i : Nat) : Int) (((slkL x ty st l F S).getD i 0) + 1)).d), .slice oQ (aftS x ty st l F S ((i : Nat) : Int) (((slkL x ty st l F S).getD i 0) + 1)).T.length cQ, .int .i64 ((aftS x ty st l F S ((i : Nat) : Int) (((slkL x ty st l F S).getD i 0) + 1)).e), .int .i64 ((aftS x ty st l F S ((i : Nat) : Int) (((slkL x ty st l F S).getD i 0) + 1)).m)], .int .i64 (aftE x ty st l F S ((i : Nat) : Int) (((slkL x ty st l F S).getD i 0) + 1))]) ⟨K2, hL, trivial⟩ ?_
      refine Zu 14 rfl rfl (.agg #[.bool (aftS x ty st l F S ((i : Nat) : Int) (((slkL x ty st l F S).getD i 0) + 1)).r, .int .i64 ((aftS x ty st l F S ((i : Nat) : Int) (((slkL x ty st l F S).getD i 0) + 1)).d), .slice oQ (aftS x ty st l F S ((i : Nat) : Int) (((slkL x ty st l F S).getD i 0) + 1)).T.length cQ, .int .i64 ((aftS x ty st l F S ((i : Nat) : Int) (((slkL x ty st l F S).getD i 0) + 1)).e), .int .i64 ((aftS x ty st l F S ((i : Nat) : Int) (((slkL x ty st l F S).getD i 0) + 1)).m)]) ⟨K2, hL, trivial⟩ ?_
      refine Zu 15 rfl rfl (.int .i64 (aftE x ty st l F S ((i : Nat) : Int) (((slkL x ty st l F S).getD i 0) + 1))) ⟨K2, hL, trivial⟩ ?_
      refine sd_all [16] (by kernel_rfl) (by decide) ?_
      refine sd_mem (i := 16) rfl (by kernel_rfl) rfl rfl (.pointer (some ⟨W18.heap.size, 0, none⟩)) (W18.alloc (.cells #[.bool false, .int .i64 0, .slice none 0 0, .int .i64 0, .int .i64 0] 37)) (by kernel_rfl) ⟨(K2.below (below_alloc W18 (.cells #[.bool false, .int .i64 0, .slice none 0 0, .int .i64 0, .int .i64 0] 37))), (hL.below (below_alloc W18 (.cells #[.bool false, .int .i64 0, .slice none 0 0, .int .i64 0, .int .i64 0] 37))), trivial⟩ ?_ AllReadyH.nil
      obtain ⟨W19, hW, hb, hq⟩ := laidA W18 #[.bool false, .int .i64 0, .slice none 0 0, .int .i64 0, .int .i64 0] 37
      rw [hW]
      replace HB := over HB hb
      replace K2 := K2.below hb
      replace hL := hL.below hb
      have z6 := hb.size
      have M20 := hq
      have yM20 := hq.lt
      clear hq hb hW
      refine sd_all [17] (by kernel_rfl) (by decide) ?_
      refine sd_do (i := 17) rfl (by kernel_rfl) rfl (W19.setRow (W18.heap.size) #[.bool (aftS x ty st l F S ((i : Nat) : Int) (((slkL x ty st l F S).getD i 0) + 1)).r, .int .i64 ((aftS x ty st l F S ((i : Nat) : Int) (((slkL x ty st l F S).getD i 0) + 1)).d), .slice oQ (aftS x ty st l F S ((i : Nat) : Int) (((slkL x ty st l F S).getD i 0) + 1)).T.length cQ, .int .i64 ((aftS x ty st l F S ((i : Nat) : Int) (((slkL x ty st l F S).getD i 0) + 1)).e), .int .i64 ((aftS x ty st l F S ((i : Nat) : Int) (((slkL x ty st l F S).getD i 0) + 1)).m)]) (ex_store (cells := #[.bool (aftS x ty st l F S ((i : Nat) : Int) (((slkL x ty st l F S).getD i 0) + 1)).r, .int .i64 ((aftS x ty st l F S ((i : Nat) : Int) (((slkL x ty st l F S).getD i 0) + 1)).d), .slice oQ (aftS x ty st l F S ((i : Nat) : Int) (((slkL x ty st l F S).getD i 0) + 1)).T.length cQ, .int .i64 ((aftS x ty st l F S ((i : Nat) : Int) (((slkL x ty st l F S).getD i 0) + 1)).e), .int .i64 ((aftS x ty st l F S ((i : Nat) : Int) (((slkL x ty st l F S).getD i 0) + 1)).m)]) rfl M20 (by kernel_rfl) (by kernel_rfl) (by kernel_rfl) (by kernel_rfl) (by kernel_rfl)) ⟨(K2.kept (grown_row _ _ _) (by omega)), (hL.kept (grown_row _ _ _) (fun i hi => by have h8 := hL7 i hi; omega)), trivial⟩ ?_ AllReadyH.nil
      obtain ⟨W21, hW⟩ : ∃ W, W19.setRow (W18.heap.size) #[.bool (aftS x ty st l F S ((i : Nat) : Int) (((slkL x ty st l F S).getD i 0) + 1)).r, .int .i64 ((aftS x ty st l F S ((i : Nat) : Int) (((slkL x ty st l F S).getD i 0) + 1)).d), .slice oQ (aftS x ty st l F S ((i : Nat) : Int) (((slkL x ty st l F S).getD i 0) + 1)).T.length cQ, .int .i64 ((aftS x ty st l F S ((i : Nat) : Int) (((slkL x ty st l F S).getD i 0) + 1)).e), .int .i64 ((aftS x ty st l F S ((i : Nat) : Int) (((slkL x ty st l F S).getD i 0) + 1)).m)] = W := ⟨_, rfl⟩
      have hg : W19.grownBy W21 (some (W18.heap.size)) := hW ▸ grown_row _ _ _
      have hq : Cb W21 (W18.heap.size) #[.bool (aftS x ty st l F S ((i : Nat) : Int) (((slkL x ty st l F S).getD i 0) + 1)).r, .int .i64 ((aftS x ty st l F S ((i : Nat) : Int) (((slkL x ty st l F S).getD i 0) + 1)).d), .slice oQ (aftS x ty st l F S ((i : Nat) : Int) (((slkL x ty st l F S).getD i 0) + 1)).T.length cQ, .int .i64 ((aftS x ty st l F S ((i : Nat) : Int) (((slkL x ty st l F S).getD i 0) + 1)).e), .int .i64 ((aftS x ty st l F S ((i : Nat) : Int) (((slkL x ty st l F S).getD i 0) + 1)).m)] 37 := hW ▸ Cb.row M20 _
      rw [hW]
      replace HB := HB.grown hg (by omega) (fun x e => by simp only [Option.some.injEq] at e; omega)
      replace K2 := K2.kept hg (by omega)
      replace hL := hL.kept hg (fun i hi => by have h8 := hL7 i hi; omega)
      have z7 := hg.size
      replace M20 := hq
      clear hq hg hW
      refine Zu 18 rfl rfl (.int .i64 (aftE x ty st l F S ((i : Nat) : Int) (((slkL x ty st l F S).getD i 0) + 1))) ⟨K2, hL, trivial⟩ ?_
      refine sd_done (by kernel_rfl) ?_
      refine sx_norm ?_
      exact ⟨(), ⟨K2, hL, HB, by have h8 := HB.size; omega⟩, fr_less (by kernel_rfl)⟩
     refine sd_mem (i := 16) rfl (by kernel_rfl) rfl rfl (.pointer (some ⟨Y17.heap.size, 0, none⟩)) (Y17.alloc (.cells #[.bool false, .int .i64 0, .slice none 0 0, .int .i64 0, .int .i64 0] 37)) (by kernel_rfl) ⟨(K2.below (below_alloc Y17 (.cells #[.bool false, .int .i64 0, .slice none 0 0, .int .i64 0, .int .i64 0] 37))), (hL.below (below_alloc Y17 (.cells #[.bool false, .int .i64 0, .slice none 0 0, .int .i64 0, .int .i64 0] 37))), trivial⟩ ?_ AllReadyH.nil
     obtain ⟨W22, hW, hb, hq⟩ := laidA Y17 #[.bool false, .int .i64 0, .slice none 0 0, .int .i64 0, .int .i64 0] 37
     rw [hW]
     replace HB := over HB hb
     replace K2 := K2.below hb
     replace hL := hL.below hb
     have z5 := hb.size
     have M23 := hq
     have yM23 := hq.lt
     clear hq hb hW
     refine sd_all [12] (by kernel_rfl) (by decide) ?_
     refine sd_call (i := 12) rfl (by kernel_rfl) rfl rfl ((by have h8 := sAfter_n k x ty st orr oa oS cr ca cS b o bf qf bS qS l F S lS (fun hp => crs_ok hin hx.al hp) W22 (hI.below HB) (hT.belowD HB) (hl.below HB) (hFx.below HB) (hST.below HB) ((i : Nat) : Int) (((slkL x ty st l F S).getD i 0) + 1); exact h8)) (by kernel_rfl) ?_ AllReadyH.nil
     rintro e W24 ⟨oQ, cQ, bQ, qQ, rfl, -, -, hb⟩
     replace HB := over HB hb
     replace K2 := K2.below hb
     replace hL := hL.below hb
     replace M23 := M23.below hb
     have z6 := hb.size
     clear hb
     refine ⟨_, rfl, ⟨K2, hL, trivial⟩, ?_⟩
     refine Zu 13 rfl rfl (.tuple #[.agg #[.bool (aftS x ty st l F S ((i : Nat) : Int) (((slkL x ty st l F S).getD i 0) + 1)).r, .int .i64 ((aftS x ty st l F S ((i : Nat) : Int) (((slkL x ty st l F S).getD i 0) + 1)).d), .slice oQ (aftS x ty st l F S ((i : Nat) : Int) (((slkL x ty st l F S).getD i 0) + 1)).T.length cQ, .int .i64 ((aftS x ty st l F S ((i : Nat) : Int) (((slkL x ty st l F S).getD i 0) + 1)).e), .int .i64 ((aftS x ty st l F S ((i : Nat) : Int) (((slkL x ty st l F S).getD i 0) + 1)).m)], .int .i64 (aftE x ty st l F S ((i : Nat) : Int) (((slkL x ty st l F S).getD i 0) + 1))]) ⟨K2, hL, trivial⟩ ?_
     refine Zu 14 rfl rfl (.agg #[.bool (aftS x ty st l F S ((i : Nat) : Int) (((slkL x ty st l F S).getD i 0) + 1)).r, .int .i64 ((aftS x ty st l F S ((i : Nat) : Int) (((slkL x ty st l F S).getD i 0) + 1)).d), .slice oQ (aftS x ty st l F S ((i : Nat) : Int) (((slkL x ty st l F S).getD i 0) + 1)).T.length cQ, .int .i64 ((aftS x ty st l F S ((i : Nat) : Int) (((slkL x ty st l F S).getD i 0) + 1)).e), .int .i64 ((aftS x ty st l F S ((i : Nat) : Int) (((slkL x ty st l F S).getD i 0) + 1)).m)]) ⟨K2, hL, trivial⟩ ?_
     refine Zu 15 rfl rfl (.int .i64 (aftE x ty st l F S ((i : Nat) : Int) (((slkL x ty st l F S).getD i 0) + 1))) ⟨K2, hL, trivial⟩ ?_
     refine sd_all [17] (by kernel_rfl) (by decide) ?_
     refine sd_do (i := 17) rfl (by kernel_rfl) rfl (W24.setRow (Y17.heap.size) #[.bool (aftS x ty st l F S ((i : Nat) : Int) (((slkL x ty st l F S).getD i 0) + 1)).r, .int .i64 ((aftS x ty st l F S ((i : Nat) : Int) (((slkL x ty st l F S).getD i 0) + 1)).d), .slice oQ (aftS x ty st l F S ((i : Nat) : Int) (((slkL x ty st l F S).getD i 0) + 1)).T.length cQ, .int .i64 ((aftS x ty st l F S ((i : Nat) : Int) (((slkL x ty st l F S).getD i 0) + 1)).e), .int .i64 ((aftS x ty st l F S ((i : Nat) : Int) (((slkL x ty st l F S).getD i 0) + 1)).m)]) (ex_store (cells := #[.bool (aftS x ty st l F S ((i : Nat) : Int) (((slkL x ty st l F S).getD i 0) + 1)).r, .int .i64 ((aftS x ty st l F S ((i : Nat) : Int) (((slkL x ty st l F S).getD i 0) + 1)).d), .slice oQ (aftS x ty st l F S ((i : Nat) : Int) (((slkL x ty st l F S).getD i 0) + 1)).T.length cQ, .int .i64 ((aftS x ty st l F S ((i : Nat) : Int) (((slkL x ty st l F S).getD i 0) + 1)).e), .int .i64 ((aftS x ty st l F S ((i : Nat) : Int) (((slkL x ty st l F S).getD i 0) + 1)).m)]) rfl M23 (by kernel_rfl) (by kernel_rfl) (by kernel_rfl) (by kernel_rfl) (by kernel_rfl)) ⟨(K2.kept (grown_row _ _ _) (by omega)), (hL.kept (grown_row _ _ _) (fun i hi => by have h8 := hL7 i hi; omega)), trivial⟩ ?_ AllReadyH.nil
     obtain ⟨W25, hW⟩ : ∃ W, W24.setRow (Y17.heap.size) #[.bool (aftS x ty st l F S ((i : Nat) : Int) (((slkL x ty st l F S).getD i 0) + 1)).r, .int .i64 ((aftS x ty st l F S ((i : Nat) : Int) (((slkL x ty st l F S).getD i 0) + 1)).d), .slice oQ (aftS x ty st l F S ((i : Nat) : Int) (((slkL x ty st l F S).getD i 0) + 1)).T.length cQ, .int .i64 ((aftS x ty st l F S ((i : Nat) : Int) (((slkL x ty st l F S).getD i 0) + 1)).e), .int .i64 ((aftS x ty st l F S ((i : Nat) : Int) (((slkL x ty st l F S).getD i 0) + 1)).m)] = W := ⟨_, rfl⟩
     have hg : W24.grownBy W25 (some (Y17.heap.size)) := hW ▸ grown_row _ _ _
     have hq : Cb W25 (Y17.heap.size) #[.bool (aftS x ty st l F S ((i : Nat) : Int) (((slkL x ty st l F S).getD i 0) + 1)).r, .int .i64 ((aftS x ty st l F S ((i : Nat) : Int) (((slkL x ty st l F S).getD i 0) + 1)).d), .slice oQ (aftS x ty st l F S ((i : Nat) : Int) (((slkL x ty st l F S).getD i 0) + 1)).T.length cQ, .int .i64 ((aftS x ty st l F S ((i : Nat) : Int) (((slkL x ty st l F S).getD i 0) + 1)).e), .int .i64 ((aftS x ty st l F S ((i : Nat) : Int) (((slkL x ty st l F S).getD i 0) + 1)).m)] 37 := hW ▸ Cb.row M23 _
     rw [hW]
     replace HB := HB.grown hg (by omega) (fun x e => by simp only [Option.some.injEq] at e; omega)
     replace K2 := K2.kept hg (by omega)
     replace hL := hL.kept hg (fun i hi => by have h8 := hL7 i hi; omega)
     have z7 := hg.size
     replace M23 := hq
     clear hq hg hW
     refine Zu 18 rfl rfl (.int .i64 (aftE x ty st l F S ((i : Nat) : Int) (((slkL x ty st l F S).getD i 0) + 1))) ⟨K2, hL, trivial⟩ ?_
     refine sd_done (by kernel_rfl) ?_
     refine sx_norm ?_
     exact ⟨(), ⟨K2, hL, HB, by have h8 := HB.size; omega⟩, fr_less (by kernel_rfl)⟩
    rintro u g' wr16 ⟨K2, hL, HB, hq9⟩
    refine wp_seq (wp_seq ?_)
    have yK2 := K2.lt
    have zhb := HB.size
    have hL7 : ∀ i, i < (slkL x ty st l F S).length → bL < wr16.heap.size := fun i hi => hL.lt hi
    have hg2 : ((slkL x ty st l F S).getD i 0) < 4096 → ¬ (aftE x ty st l F S ((i : Nat) : Int) (((slkL x ty st l F S).getD i 0) + 1)) = 0 := fun h h9 => by
     have h7 := (aft_ok hck hil (by omega) (by omega)).1 h9
     rw [hli] at h7
     exact hss.2.2 h7
    refine wp_region_lit ?_
    refine Zv rfl (.slice oL (slkL x ty st l F S).length cL) ?_
    refine Zv rfl (.int .i64 ((i : Nat) : Int)) ?_
    refine Zw rfl (.pointer (some ⟨bL, qL + i * 1, none⟩)) (ex_indexO (q := qL) (m := (slkL x ty st l F S).length) (c := cL) (k := i) (s := 1) rfl (by kernel_rfl) (hL.oa (k := i) (by omega)) (by kernel_rfl) Tryd.underlying42 (by kernel_rfl) (by omega) (by omega)) ?_
    refine Zw rfl (.int .i64 ((slkL x ty st l F S).getD i 0)) (el (hL.cell (k := i) (by omega) 0 rfl) Tryd.underlying3) ?_
    refine Zb rfl (decide (((slkL x ty st l F S).getD i 0) < 0)) false (decide_eq_false (by omega)) ?_
    refine Zv rfl (.bool false) ?_
    refine Zv rfl (.int .i64 0) ?_
    refine Zv rfl (.bool false) ?_
    refine Zv rfl (.bool false) ?_
    refine Zv rfl (.bool false) ?_
    refine Zv rfl (.slice oL (slkL x ty st l F S).length cL) ?_
    refine Zv rfl (.int .i64 ((i : Nat) : Int)) ?_
    refine Zw rfl (.pointer (some ⟨bL, qL + i * 1, none⟩)) (ex_indexO (q := qL) (m := (slkL x ty st l F S).length) (c := cL) (k := i) (s := 1) rfl (by kernel_rfl) (hL.oa (k := i) (by omega)) (by kernel_rfl) Tryd.underlying42 (by kernel_rfl) (by omega) (by omega)) ?_
    refine Zw rfl (.int .i64 ((slkL x ty st l F S).getD i 0)) (el (hL.cell (k := i) (by omega) 0 rfl) Tryd.underlying3) ?_
    by_cases C4 : ((slkL x ty st l F S).getD i 0) < 4096
    ·refine Zb rfl (decide (((slkL x ty st l F S).getD i 0) < 4096)) true (decide_eq_true (by omega)) ?_
     refine Zv rfl (.bool true) ?_
     refine Zv rfl (.int .i64 (aftE x ty st l F S ((i : Nat) : Int) (((slkL x ty st l F S).getD i 0) + 1))) ?_
     refine Zb rfl (((aftE x ty st l F S ((i : Nat) : Int) (((slkL x ty st l F S).getD i 0) + 1)) : Int) == (0 : Int)) false (beq_eq_false_iff_ne.2 (hg2 (by omega))) ?_
     refine Zv rfl (.bool false) ?_
     refine Zv rfl (.bool false) ?_
     refine wpList_nil (sx_norm ?_)
     refine sx_false (by kernel_rfl) ?_
     refine wp_skip (sx_norm (wp_seq (wp_region_lit ?_)))
     refine Zv rfl (.int .i64 te) ?_
     by_cases C5 : te ≥ 0
     ·refine Zb rfl (decide (te ≥ 0)) true (decide_eq_true (by omega)) ?_
      refine Zv rfl (.bool true) ?_
      refine Zv rfl (.int .i64 te) ?_
      refine Zv rfl (.slice oL (slkL x ty st l F S).length cL) ?_
      refine Zv rfl (.int .i64 ((i : Nat) : Int)) ?_
      refine Zw rfl (.pointer (some ⟨bL, qL + i * 1, none⟩)) (ex_indexO (q := qL) (m := (slkL x ty st l F S).length) (c := cL) (k := i) (s := 1) rfl (by kernel_rfl) (hL.oa (k := i) (by omega)) (by kernel_rfl) Tryd.underlying42 (by kernel_rfl) (by omega) (by omega)) ?_
      refine Zw rfl (.int .i64 ((slkL x ty st l F S).getD i 0)) (el (hL.cell (k := i) (by omega) 0 rfl) Tryd.underlying3) ?_
      by_cases C6 : te ≤ ((slkL x ty st l F S).getD i 0)
      ·refine Zb rfl (decide (te ≤ ((slkL x ty st l F S).getD i 0))) true (decide_eq_true (by omega)) ?_
       refine Zv rfl (.bool true) ?_
       refine wpList_nil (sx_norm ?_)
       refine sx_true (by kernel_rfl) ?_
       refine wp_seq ?_
       have hlt9 : te = (((te.toNat : Nat)) : Int) := (Int.toNat_of_nonneg (by omega)).symm
       have hlt8 : te.toNat ≤ (crs x ty st l).sl S.rts i := by omega
       refine wp_region_lit ?_
       refine Zv rfl (.pointer (some ⟨w.heap.size, 0, none⟩)) ?_
       refine Zw rfl (.agg (iK k x)) (ex_mid (q := 0) rfl K2 [.slice k.o0 x.pl.length k.c0, .slice k.o1 x.al.length k.c1, .slice k.o2 x.tl.length k.c2, .slice k.o3 x.ol.length k.c3, .slice k.o4 x.ap.length k.c4, .slice k.o5 x.be.length k.c5] (by kernel_rfl) Tryd.underlying30 rfl (by kernel_rfl) rfl) ?_
       refine Zv rfl (.pointer (some ⟨w.heap.size, 6, none⟩)) ?_
       refine Zw rfl (.agg (rK ty st orr F.length cr oa l.length ca)) (ex_mid (q := 6) rfl K2 [.int .i64 ty, .int .i64 st, .slice orr F.length cr, .slice oa l.length ca] (by kernel_rfl) Tryd.underlying34 rfl (by kernel_rfl) rfl) ?_
       refine Zv rfl (.pointer (some ⟨w.heap.size, 10, none⟩)) ?_
       refine Zw rfl (.agg #[.bool S.r, .int .i64 S.d, .slice oS S.T.length cS, .int .i64 S.e, .int .i64 S.m]) (ex_mid (q := 10) rfl K2 [.bool S.r, .int .i64 S.d, .slice oS S.T.length cS, .int .i64 S.e, .int .i64 S.m] (by kernel_rfl) Tryd.underlying37 rfl (by kernel_rfl) rfl) ?_
       refine Zv rfl (.int .i64 ((i : Nat) : Int)) ?_
       refine Zv rfl (.int .i64 te) ?_
       have h0U : (aftE x ty st l F S ((i : Nat) : Int) te) = 0 := (aft_ok hck hil (by omega) (by omega)).2 (by rw [hlt9]; exact (hss.1 _ (by omega)))
       refine sx_call (by kernel_rfl) rfl rfl ((by have h8 := sAfter_n k x ty st orr oa oS cr ca cS b o bf qf bS qS l F S lS (fun hp => crs_ok hin hx.al hp) wr16 (hI.below HB) (hT.belowD HB) (hl.below HB) (hFx.below HB) (hST.below HB) ((i : Nat) : Int) te; rw [h0U] at h8; exact h8)) (by kernel_rfl) ?_
       rintro e W26 ⟨oU, cU, bU, qU, rfl, -, -, hb⟩
       replace HB := over HB hb
       replace K2 := K2.below hb
       replace hL := hL.below hb
       have z4 := hb.size
       clear hb
       refine ⟨_, rfl, ?_⟩
       refine Zv rfl (.tuple #[.agg #[.bool (aftS x ty st l F S ((i : Nat) : Int) te).r, .int .i64 ((aftS x ty st l F S ((i : Nat) : Int) te).d), .slice oU (aftS x ty st l F S ((i : Nat) : Int) te).T.length cU, .int .i64 ((aftS x ty st l F S ((i : Nat) : Int) te).e), .int .i64 ((aftS x ty st l F S ((i : Nat) : Int) te).m)], .int .i64 0]) ?_
       refine Zv rfl (.agg #[.bool (aftS x ty st l F S ((i : Nat) : Int) te).r, .int .i64 ((aftS x ty st l F S ((i : Nat) : Int) te).d), .slice oU (aftS x ty st l F S ((i : Nat) : Int) te).T.length cU, .int .i64 ((aftS x ty st l F S ((i : Nat) : Int) te).e), .int .i64 ((aftS x ty st l F S ((i : Nat) : Int) te).m)]) ?_
       refine Zv rfl (.int .i64 0) ?_
       obtain ⟨W28, hW⟩ : ∃ W, (W26.alloc (.cells #[.bool false, .int .i64 0, .slice none 0 0, .int .i64 0, .int .i64 0] 37)).setRow W26.heap.size #[.bool (aftS x ty st l F S ((i : Nat) : Int) te).r, .int .i64 ((aftS x ty st l F S ((i : Nat) : Int) te).d), .slice oU (aftS x ty st l F S ((i : Nat) : Int) te).T.length cU, .int .i64 ((aftS x ty st l F S ((i : Nat) : Int) te).e), .int .i64 ((aftS x ty st l F S ((i : Nat) : Int) te).m)] = W := ⟨_, rfl⟩
       have hb := hW ▸ below_var W26 (.cells #[.bool false, .int .i64 0, .slice none 0 0, .int .i64 0, .int .i64 0] 37) #[.bool (aftS x ty st l F S ((i : Nat) : Int) te).r, .int .i64 ((aftS x ty st l F S ((i : Nat) : Int) te).d), .slice oU (aftS x ty st l F S ((i : Nat) : Int) te).T.length cU, .int .i64 ((aftS x ty st l F S ((i : Nat) : Int) te).e), .int .i64 ((aftS x ty st l F S ((i : Nat) : Int) te).m)]
       have hq : Cb W28 W26.heap.size #[.bool (aftS x ty st l F S ((i : Nat) : Int) te).r, .int .i64 ((aftS x ty st l F S ((i : Nat) : Int) te).d), .slice oU (aftS x ty st l F S ((i : Nat) : Int) te).T.length cU, .int .i64 ((aftS x ty st l F S ((i : Nat) : Int) te).e), .int .i64 ((aftS x ty st l F S ((i : Nat) : Int) te).m)] 37 := hW ▸ Cb.row (Cb.made W26 #[.bool false, .int .i64 0, .slice none 0 0, .int .i64 0, .int .i64 0] 37) _
       refine sx_mem (by kernel_rfl) rfl rfl (.pointer (some ⟨W26.heap.size, 0, none⟩)) (W26.alloc (.cells #[.bool false, .int .i64 0, .slice none 0 0, .int .i64 0, .int .i64 0] 37)) (by kernel_rfl) ?_
       refine Zs (cells := #[.bool (aftS x ty st l F S ((i : Nat) : Int) te).r, .int .i64 ((aftS x ty st l F S ((i : Nat) : Int) te).d), .slice oU (aftS x ty st l F S ((i : Nat) : Int) te).T.length cU, .int .i64 ((aftS x ty st l F S ((i : Nat) : Int) te).e), .int .i64 ((aftS x ty st l F S ((i : Nat) : Int) te).m)]) rfl rfl (Cb.made W26 #[.bool false, .int .i64 0, .slice none 0 0, .int .i64 0, .int .i64 0] 37) ?_
       rw [hW]
       replace HB := over HB hb
       replace K2 := K2.below hb
       replace hL := hL.below hb
       have z5 := hb.size
       have M27 := hq
       have yM27 := hq.lt
       clear hq hb hW
       refine Zv rfl (.int .i64 0) ?_
       refine wpList_nil (sx_norm (wp_seq (wp_region_lit ?_)))
       refine Zv rfl (.int .i64 0) ?_
       refine Zv rfl (.bool false) ?_
       refine wpList_nil (sx_norm ?_)
       refine sx_false (by kernel_rfl) ?_
       refine wp_skip ?_
       refine sx_in ?_
       refine sx_norm (wp_region_lit ?_)
       refine Zv rfl (.int .i64 ((i : Nat) : Int)) ?_
       refine sx_int (by kernel_rfl) rfl rfl .i64 (IntKind.i64.wrap (((i : Nat) : Int) + 1)) (((i + 1 : Nat) : Int)) (by kernel_rfl) (by rw [IntKind.wrap_i64]; omega) ?_
       refine Zv rfl (.int .i64 ((i + 1 : Nat) : Int)) ?_
       refine wpList_nil (sx_norm ?_)
       exact sx_again (l.length + 1 - (i + 1)) (i + 1) (by omega) (by kernel_rfl) ⟨by omega, Nat.le_refl _, K2, hL, HB, by have h8 := HB.size; omega⟩
      refine Zb rfl (decide (te ≤ ((slkL x ty st l F S).getD i 0))) false (decide_eq_false (by omega)) ?_
      refine Zv rfl (.bool false) ?_
      refine wpList_nil (sx_norm ?_)
      refine sx_false (by kernel_rfl) ?_
      refine wp_skip ?_
      refine sx_in ?_
      refine sx_norm (wp_region_lit ?_)
      refine Zv rfl (.int .i64 ((i : Nat) : Int)) ?_
      refine sx_int (by kernel_rfl) rfl rfl .i64 (IntKind.i64.wrap (((i : Nat) : Int) + 1)) (((i + 1 : Nat) : Int)) (by kernel_rfl) (by rw [IntKind.wrap_i64]; omega) ?_
      refine Zv rfl (.int .i64 ((i + 1 : Nat) : Int)) ?_
      refine wpList_nil (sx_norm ?_)
      exact sx_again (l.length + 1 - (i + 1)) (i + 1) (by omega) (by kernel_rfl) ⟨by omega, Nat.le_refl _, K2, hL, HB, by have h8 := HB.size; omega⟩
     refine Zb rfl (decide (te ≥ 0)) false (decide_eq_false (by omega)) ?_
     refine Zv rfl (.bool false) ?_
     refine Zk rfl ?_
     refine Zk rfl ?_
     refine Zk rfl ?_
     refine Zk rfl ?_
     refine Zk rfl ?_
     refine Zk rfl ?_
     refine Zv rfl (.bool false) ?_
     refine wpList_nil (sx_norm ?_)
     refine sx_false (by kernel_rfl) ?_
     refine wp_skip ?_
     refine sx_in ?_
     refine sx_norm (wp_region_lit ?_)
     refine Zv rfl (.int .i64 ((i : Nat) : Int)) ?_
     refine sx_int (by kernel_rfl) rfl rfl .i64 (IntKind.i64.wrap (((i : Nat) : Int) + 1)) (((i + 1 : Nat) : Int)) (by kernel_rfl) (by rw [IntKind.wrap_i64]; omega) ?_
     refine Zv rfl (.int .i64 ((i + 1 : Nat) : Int)) ?_
     refine wpList_nil (sx_norm ?_)
     exact sx_again (l.length + 1 - (i + 1)) (i + 1) (by omega) (by kernel_rfl) ⟨by omega, Nat.le_refl _, K2, hL, HB, by have h8 := HB.size; omega⟩
    refine Zb rfl (decide (((slkL x ty st l F S).getD i 0) < 4096)) false (decide_eq_false (by omega)) ?_
    refine Zv rfl (.bool false) ?_
    refine Zk rfl ?_
    refine Zk rfl ?_
    refine Zv rfl (.bool false) ?_
    refine Zv rfl (.bool false) ?_
    refine wpList_nil (sx_norm ?_)
    refine sx_false (by kernel_rfl) ?_
    refine wp_skip (sx_norm (wp_seq (wp_region_lit ?_)))
    refine Zv rfl (.int .i64 te) ?_
    by_cases C7 : te ≥ 0
    ·refine Zb rfl (decide (te ≥ 0)) true (decide_eq_true (by omega)) ?_
     refine Zv rfl (.bool true) ?_
     refine Zv rfl (.int .i64 te) ?_
     refine Zv rfl (.slice oL (slkL x ty st l F S).length cL) ?_
     refine Zv rfl (.int .i64 ((i : Nat) : Int)) ?_
     refine Zw rfl (.pointer (some ⟨bL, qL + i * 1, none⟩)) (ex_indexO (q := qL) (m := (slkL x ty st l F S).length) (c := cL) (k := i) (s := 1) rfl (by kernel_rfl) (hL.oa (k := i) (by omega)) (by kernel_rfl) Tryd.underlying42 (by kernel_rfl) (by omega) (by omega)) ?_
     refine Zw rfl (.int .i64 ((slkL x ty st l F S).getD i 0)) (el (hL.cell (k := i) (by omega) 0 rfl) Tryd.underlying3) ?_
     by_cases C8 : te ≤ ((slkL x ty st l F S).getD i 0)
     ·refine Zb rfl (decide (te ≤ ((slkL x ty st l F S).getD i 0))) true (decide_eq_true (by omega)) ?_
      refine Zv rfl (.bool true) ?_
      refine wpList_nil (sx_norm ?_)
      refine sx_true (by kernel_rfl) ?_
      refine wp_seq ?_
      have hlt9 : te = (((te.toNat : Nat)) : Int) := (Int.toNat_of_nonneg (by omega)).symm
      have hlt8 : te.toNat ≤ (crs x ty st l).sl S.rts i := by omega
      refine wp_region_lit ?_
      refine Zv rfl (.pointer (some ⟨w.heap.size, 0, none⟩)) ?_
      refine Zw rfl (.agg (iK k x)) (ex_mid (q := 0) rfl K2 [.slice k.o0 x.pl.length k.c0, .slice k.o1 x.al.length k.c1, .slice k.o2 x.tl.length k.c2, .slice k.o3 x.ol.length k.c3, .slice k.o4 x.ap.length k.c4, .slice k.o5 x.be.length k.c5] (by kernel_rfl) Tryd.underlying30 rfl (by kernel_rfl) rfl) ?_
      refine Zv rfl (.pointer (some ⟨w.heap.size, 6, none⟩)) ?_
      refine Zw rfl (.agg (rK ty st orr F.length cr oa l.length ca)) (ex_mid (q := 6) rfl K2 [.int .i64 ty, .int .i64 st, .slice orr F.length cr, .slice oa l.length ca] (by kernel_rfl) Tryd.underlying34 rfl (by kernel_rfl) rfl) ?_
      refine Zv rfl (.pointer (some ⟨w.heap.size, 10, none⟩)) ?_
      refine Zw rfl (.agg #[.bool S.r, .int .i64 S.d, .slice oS S.T.length cS, .int .i64 S.e, .int .i64 S.m]) (ex_mid (q := 10) rfl K2 [.bool S.r, .int .i64 S.d, .slice oS S.T.length cS, .int .i64 S.e, .int .i64 S.m] (by kernel_rfl) Tryd.underlying37 rfl (by kernel_rfl) rfl) ?_
      refine Zv rfl (.int .i64 ((i : Nat) : Int)) ?_
      refine Zv rfl (.int .i64 te) ?_
      have h0U : (aftE x ty st l F S ((i : Nat) : Int) te) = 0 := (aft_ok hck hil (by omega) (by omega)).2 (by rw [hlt9]; exact (hss.1 _ (by omega)))
      refine sx_call (by kernel_rfl) rfl rfl ((by have h8 := sAfter_n k x ty st orr oa oS cr ca cS b o bf qf bS qS l F S lS (fun hp => crs_ok hin hx.al hp) wr16 (hI.below HB) (hT.belowD HB) (hl.below HB) (hFx.below HB) (hST.below HB) ((i : Nat) : Int) te; rw [h0U] at h8; exact h8)) (by kernel_rfl) ?_
      rintro e W29 ⟨oU, cU, bU, qU, rfl, -, -, hb⟩
      replace HB := over HB hb
      replace K2 := K2.below hb
      replace hL := hL.below hb
      have z4 := hb.size
      clear hb
      refine ⟨_, rfl, ?_⟩
      refine Zv rfl (.tuple #[.agg #[.bool (aftS x ty st l F S ((i : Nat) : Int) te).r, .int .i64 ((aftS x ty st l F S ((i : Nat) : Int) te).d), .slice oU (aftS x ty st l F S ((i : Nat) : Int) te).T.length cU, .int .i64 ((aftS x ty st l F S ((i : Nat) : Int) te).e), .int .i64 ((aftS x ty st l F S ((i : Nat) : Int) te).m)], .int .i64 0]) ?_
      refine Zv rfl (.agg #[.bool (aftS x ty st l F S ((i : Nat) : Int) te).r, .int .i64 ((aftS x ty st l F S ((i : Nat) : Int) te).d), .slice oU (aftS x ty st l F S ((i : Nat) : Int) te).T.length cU, .int .i64 ((aftS x ty st l F S ((i : Nat) : Int) te).e), .int .i64 ((aftS x ty st l F S ((i : Nat) : Int) te).m)]) ?_
      refine Zv rfl (.int .i64 0) ?_
      obtain ⟨W31, hW⟩ : ∃ W, (W29.alloc (.cells #[.bool false, .int .i64 0, .slice none 0 0, .int .i64 0, .int .i64 0] 37)).setRow W29.heap.size #[.bool (aftS x ty st l F S ((i : Nat) : Int) te).r, .int .i64 ((aftS x ty st l F S ((i : Nat) : Int) te).d), .slice oU (aftS x ty st l F S ((i : Nat) : Int) te).T.length cU, .int .i64 ((aftS x ty st l F S ((i : Nat) : Int) te).e), .int .i64 ((aftS x ty st l F S ((i : Nat) : Int) te).m)] = W := ⟨_, rfl⟩
      have hb := hW ▸ below_var W29 (.cells #[.bool false, .int .i64 0, .slice none 0 0, .int .i64 0, .int .i64 0] 37) #[.bool (aftS x ty st l F S ((i : Nat) : Int) te).r, .int .i64 ((aftS x ty st l F S ((i : Nat) : Int) te).d), .slice oU (aftS x ty st l F S ((i : Nat) : Int) te).T.length cU, .int .i64 ((aftS x ty st l F S ((i : Nat) : Int) te).e), .int .i64 ((aftS x ty st l F S ((i : Nat) : Int) te).m)]
      have hq : Cb W31 W29.heap.size #[.bool (aftS x ty st l F S ((i : Nat) : Int) te).r, .int .i64 ((aftS x ty st l F S ((i : Nat) : Int) te).d), .slice oU (aftS x ty st l F S ((i : Nat) : Int) te).T.length cU, .int .i64 ((aftS x ty st l F S ((i : Nat) : Int) te).e), .int .i64 ((aftS x ty st l F S ((i : Nat) : Int) te).m)] 37 := hW ▸ Cb.row (Cb.made W29 #[.bool false, .int .i64 0, .slice none 0 0, .int .i64 0, .int .i64 0] 37) _
      refine sx_mem (by kernel_rfl) rfl rfl (.pointer (some ⟨W29.heap.size, 0, none⟩)) (W29.alloc (.cells #[.bool false, .int .i64 0, .slice none 0 0, .int .i64 0, .int .i64 0] 37)) (by kernel_rfl) ?_
      refine Zs (cells := #[.bool (aftS x ty st l F S ((i : Nat) : Int) te).r, .int .i64 ((aftS x ty st l F S ((i : Nat) : Int) te).d), .slice oU (aftS x ty st l F S ((i : Nat) : Int) te).T.length cU, .int .i64 ((aftS x ty st l F S ((i : Nat) : Int) te).e), .int .i64 ((aftS x ty st l F S ((i : Nat) : Int) te).m)]) rfl rfl (Cb.made W29 #[.bool false, .int .i64 0, .slice none 0 0, .int .i64 0, .int .i64 0] 37) ?_
      rw [hW]
      replace HB := over HB hb
      replace K2 := K2.below hb
      replace hL := hL.below hb
      have z5 := hb.size
      have M30 := hq
      have yM30 := hq.lt
      clear hq hb hW
      refine Zv rfl (.int .i64 0) ?_
      refine wpList_nil (sx_norm (wp_seq (wp_region_lit ?_)))
      refine Zv rfl (.int .i64 0) ?_
      refine Zv rfl (.bool false) ?_
      refine wpList_nil (sx_norm ?_)
      refine sx_false (by kernel_rfl) ?_
      refine wp_skip ?_
      refine sx_in ?_
      refine sx_norm (wp_region_lit ?_)
      refine Zv rfl (.int .i64 ((i : Nat) : Int)) ?_
      refine sx_int (by kernel_rfl) rfl rfl .i64 (IntKind.i64.wrap (((i : Nat) : Int) + 1)) (((i + 1 : Nat) : Int)) (by kernel_rfl) (by rw [IntKind.wrap_i64]; omega) ?_
      refine Zv rfl (.int .i64 ((i + 1 : Nat) : Int)) ?_
      refine wpList_nil (sx_norm ?_)
      exact sx_again (l.length + 1 - (i + 1)) (i + 1) (by omega) (by kernel_rfl) ⟨by omega, Nat.le_refl _, K2, hL, HB, by have h8 := HB.size; omega⟩
     refine Zb rfl (decide (te ≤ ((slkL x ty st l F S).getD i 0))) false (decide_eq_false (by omega)) ?_
     refine Zv rfl (.bool false) ?_
     refine wpList_nil (sx_norm ?_)
     refine sx_false (by kernel_rfl) ?_
     refine wp_skip ?_
     refine sx_in ?_
     refine sx_norm (wp_region_lit ?_)
     refine Zv rfl (.int .i64 ((i : Nat) : Int)) ?_
     refine sx_int (by kernel_rfl) rfl rfl .i64 (IntKind.i64.wrap (((i : Nat) : Int) + 1)) (((i + 1 : Nat) : Int)) (by kernel_rfl) (by rw [IntKind.wrap_i64]; omega) ?_
     refine Zv rfl (.int .i64 ((i + 1 : Nat) : Int)) ?_
     refine wpList_nil (sx_norm ?_)
     exact sx_again (l.length + 1 - (i + 1)) (i + 1) (by omega) (by kernel_rfl) ⟨by omega, Nat.le_refl _, K2, hL, HB, by have h8 := HB.size; omega⟩
    refine Zb rfl (decide (te ≥ 0)) false (decide_eq_false (by omega)) ?_
    refine Zv rfl (.bool false) ?_
    refine Zk rfl ?_
    refine Zk rfl ?_
    refine Zk rfl ?_
    refine Zk rfl ?_
    refine Zk rfl ?_
    refine Zk rfl ?_
    refine Zv rfl (.bool false) ?_
    refine wpList_nil (sx_norm ?_)
    refine sx_false (by kernel_rfl) ?_
    refine wp_skip ?_
    refine sx_in ?_
    refine sx_norm (wp_region_lit ?_)
    refine Zv rfl (.int .i64 ((i : Nat) : Int)) ?_
    refine sx_int (by kernel_rfl) rfl rfl .i64 (IntKind.i64.wrap (((i : Nat) : Int) + 1)) (((i + 1 : Nat) : Int)) (by kernel_rfl) (by rw [IntKind.wrap_i64]; omega) ?_
    refine Zv rfl (.int .i64 ((i + 1 : Nat) : Int)) ?_
    refine wpList_nil (sx_norm ?_)
    exact sx_again (l.length + 1 - (i + 1)) (i + 1) (by omega) (by kernel_rfl) ⟨by omega, Nat.le_refl _, K2, hL, HB, by have h8 := HB.size; omega⟩
   refine Zb rfl (decide (((i : Nat) : Int) < (((slkL x ty st l F S).length : Nat) : Int))) false (decide_eq_false (by omega)) ?_
   refine wpList_nil (sx_norm ?_)
   refine sx_false (by kernel_rfl) ?_
   refine wp_exit ?_
   refine sx_es ?_
   refine sx_es ?_
   refine sx_out ?_
   refine sx_norm (wp_seq (wp_region_lit ?_))
   refine sx_call (by kernel_rfl) rfl rfl (awake19_n wr5 (hT.belowD HB)) (by kernel_rfl) ?_
   rintro e W32 ⟨rfl, hb⟩
   replace HB := over HB hb
   replace K2 := K2.below hb
   replace hL := hL.below hb
   have z4 := hb.size
   clear hb
   refine ⟨_, rfl, ?_⟩
   refine Zv rfl (.bool true) ?_
   refine wpList_nil (sx_norm (wp_ret ?_))
   exact sx_ret1 (.bool true) rfl rfl (by kernel_rfl) ⟨rfl, HB⟩
  have zk9 := HB.size
  refine sx_call (by kernel_rfl) rfl rfl ((by have h8 := sSlack_n k x ty st orr oa oS cr ca cS b o bf qf bS qS l F S lS (fun hp => crs_ok hin hx.al hp) W3 (hI.below HB) (hT.belowD HB) (hl.below HB) (hFx.below HB) (hST.below HB); exact h8)) (by kernel_rfl) ?_
  rintro e W33 ⟨oL, cL, bL, qL, rfl, hL, hL8, hb⟩
  have hL7 : ∀ i, i < (slkL x ty st l F S).length → bL < W33.heap.size := fun i hi => hL.lt hi
  replace HB := over HB hb
  replace M2 := M2.below hb
  have z3 := hb.size
  clear hb
  refine ⟨_, rfl, ?_⟩
  have hsl : (slkL x ty st l F S).length = 0 := by rw [show (slkL x ty st l F S) = [] from if_neg C2]; rfl
  refine Zv rfl (.tuple #[.slice oL (slkL x ty st l F S).length cL, .int .i64 (chkE x ty st l F S)]) ?_
  refine Zv rfl (.slice oL (slkL x ty st l F S).length cL) ?_
  refine Zv rfl (.int .i64 (chkE x ty st l F S)) ?_
  refine Zv rfl (.slice oL (slkL x ty st l F S).length cL) ?_
  refine Zv rfl (.int .i64 (chkE x ty st l F S)) ?_
  refine wpList_nil (sx_norm (wp_seq (wp_seq (wp_region_lit ?_))))
  refine Zv rfl (.int .i64 (chkE x ty st l F S)) ?_
  refine Zb rfl (((chkE x ty st l F S) : Int) != (0 : Int)) true (bne_iff_ne.2 (by omega)) ?_
  refine wpList_nil (sx_norm ?_)
  refine sx_true (by kernel_rfl) ?_
  refine wp_seq (wp_region_lit ?_)
  refine Zv rfl (.slice oL (slkL x ty st l F S).length cL) ?_
  refine Zv rfl (.int .i64 (((slkL x ty st l F S).length : Nat) : Int)) ?_
  refine Zb rfl (((((slkL x ty st l F S).length : Nat) : Int) : Int) == (0 : Int)) true (beq_iff_eq.2 (by omega)) ?_
  refine Zv rfl (.bool true) ?_
  refine sx_call (by kernel_rfl) rfl rfl (awake19_n W33 (hT.belowD HB)) (by kernel_rfl) ?_
  rintro e W34 ⟨rfl, hb⟩
  replace HB := over HB hb
  replace M2 := M2.below hb
  replace hL := hL.below hb
  have z4 := hb.size
  clear hb
  refine ⟨_, rfl, ?_⟩
  refine Zv rfl (.bool true) ?_
  refine Zv rfl (.bool true) ?_
  refine wpList_nil (sx_norm (wp_ret (sx_rs ?_)))
  exact sx_ret1 (.bool true) rfl rfl (by kernel_rfl) ⟨rfl, HB⟩
 refine sx_call (by kernel_rfl) rfl rfl ((by have h8 := few_n k x hx ty st orr oa oS cr ca cS l F S W1 (hI.below HB); rw [show fewB x l F S = false by simpa using C1] at h8; exact h8)) (by kernel_rfl) ?_
 rintro e W35 ⟨rfl, hb⟩
 replace HB := over HB hb
 replace M2 := M2.below hb
 have z2 := hb.size
 clear hb
 refine ⟨_, rfl, ?_⟩
 refine Zv rfl (.bool true) ?_
 refine wpList_nil (sx_norm ?_)
 refine sx_true (by kernel_rfl) ?_
 refine wp_seq (wp_region_lit ?_)
 refine sx_call (by kernel_rfl) rfl rfl (awake19_n W35 (hT.belowD HB)) (by kernel_rfl) ?_
 rintro e W36 ⟨rfl, hb⟩
 replace HB := over HB hb
 replace M2 := M2.below hb
 have z3 := hb.size
 clear hb
 refine ⟨_, rfl, ?_⟩
 refine Zv rfl (.bool true) ?_
 refine wpList_nil (sx_norm (wp_ret (sx_rs ?_)))
 exact sx_ret1 (.bool true) rfl rfl (by kernel_rfl) ⟨rfl, HB⟩

end Go.Proofs.YtomebalolmabnaaDoor.T



