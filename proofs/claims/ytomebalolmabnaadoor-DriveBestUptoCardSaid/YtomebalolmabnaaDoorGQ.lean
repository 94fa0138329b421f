/-
  DERIVED. GQ: a part of the base of layer 13 (made by pack.py).
-/
import Derived.Test.YtomebalolmabnaaDoorGA
import Derived.Test.YtomebalolmabnaaDoorFd
import Derived.Test.YtomebalolmabnaaDoorGG
import Derived.Test.YtomebalolmabnaaDoorFc
import Derived.Test.YtomebalolmabnaaDoorDl
import Derived.Test.YtomebalolmabnaaDoorGK
import Derived.Test.YtomebalolmabnaaDoorGM
import Derived.Test.YtomebalolmabnaaDoorGN
/-! The specification of schedules: Run, Same (by gen_fe.py). -/
namespace Go.Proofs.YtomebalolmabnaaDoor.T
open Go.RowKit
set_option maxRecDepth 8000
attribute [local irreducible] wpList Code.wp wpAnyH

theorem refRunR_n (k : Iv) (x : InT) (hal : x.al.length ≤ 1000000000) (ty st : Int) (orr oa : Option Addr) (cr ca b o : Nat) (l : List (Int × Bool)) (F : List Bool) (hok : posD x.tl x.ol ty st l = true → (crs x ty st l).Ok) (R : List Bool) (oR : Option Addr) (cR bR qR : Nat) (w : World) (hI : Ins w k x) (hl : Rw w b o 2 (vF l) l.length oa) (hR : Rw w bR qR 1 (bF R) R.length oR) : Calls Tryd.prog 33 #[.agg (iK k x), .agg (rK ty st orr F.length cr oa l.length ca), .slice oR R.length cR] w fun e w' => ∃ o9 c9 b9 q9, e = .returned (.tuple #[.agg (shC (runS x ty st l R) o9 c9), .int .i64 (runE x ty st l R)]) ∧ Rw w' b9 q9 4 (fun k => tmE ((runS x ty st l R).T.getD k tm0)) (runS x ty st l R).T.length o9 ∧ (∀ i, i < (runS x ty st l R).T.length → w.heap.size ≤ b9) ∧ Below w.heap.size w w' := by
 have HB : Below w.heap.size w w := Below.refl _ _
 refine sx_enter Tryd.func33 rfl [(0, .agg (iK k x)), (1, .agg (rK ty st orr F.length cr oa l.length ca)), (2, .slice oR R.length cR)] (by kernel_rfl) ?_
 refine wp_seq (wp_region_lit ?_)
 obtain ⟨W1, hW, hb, hq⟩ := laidA w (iK k x) 30
 refine sx_mem (by kernel_rfl) rfl rfl (.pointer (some ⟨w.heap.size, 0, none⟩)) W1 (by rw [← hW]; kernel_rfl) ?_
 replace HB := over HB hb
 have z1 := hb.size
 have M2 := hq
 have yM2 := hq.lt
 clear hq hb hW
 obtain ⟨W3, hW, hb, hq⟩ := laidA W1 (rK ty st orr F.length cr oa l.length ca) 34
 refine sx_mem (by kernel_rfl) rfl rfl (.pointer (some ⟨W1.heap.size, 0, none⟩)) W3 (by rw [← hW]; kernel_rfl) ?_
 replace HB := over HB hb
 replace M2 := M2.below hb
 have z2 := hb.size
 have M4 := hq
 have yM4 := hq.lt
 clear hq hb hW
 obtain ⟨W5, hW, hb, hq⟩ := laidA W3 #[.bool false, .int .i64 0, .slice none 0 0, .int .i64 0, .int .i64 0] 37
 refine sx_mem (by kernel_rfl) rfl rfl (.pointer (some ⟨W3.heap.size, 0, none⟩)) W5 (by rw [← hW]; kernel_rfl) ?_
 replace HB := over HB hb
 replace M2 := M2.below hb
 replace M4 := M4.below hb
 have z3 := hb.size
 have M6 := hq
 have yM6 := hq.lt
 clear hq hb hW
 refine Zv rfl (.int .i64 0) ?_
 refine wpList_nil (sx_norm (wp_seq (wp_region_lit ?_)))
 refine Zw rfl (.agg (iK k x)) (ex_load rfl M2 (by kernel_rfl) Tryd.underlying30 rfl (by kernel_rfl)) ?_
 refine Zw rfl (.agg (rK ty st orr F.length cr oa l.length ca)) (ex_load rfl M4 (by kernel_rfl) Tryd.underlying34 rfl (by kernel_rfl)) ?_
 refine Zv rfl (.slice oR R.length cR) ?_
 have zS9 := HB.size
 refine sx_call (by kernel_rfl) rfl rfl (refRun_n k x hal ty st orr oa cr ca b o l F hok R oR cR bR qR W5 (hI.below HB) (hl.below HB) (hR.below HB)) (by kernel_rfl) ?_
 rintro e W7 ⟨o9, c9, b9, q9, od, cd, bd, qd, rfl, hS9, -, hlthS9, hb⟩
 replace HB := over HB hb
 replace M2 := M2.below hb
 replace M4 := M4.below hb
 replace M6 := M6.below hb
 have z4 := hb.size
 clear hb
 refine ⟨_, rfl, ?_⟩
 refine Zv rfl (.tuple #[.agg #[.bool (runS x ty st l R).r, .int .i64 ((runS x ty st l R).d), .slice o9 (runS x ty st l R).T.length c9, .int .i64 ((runS x ty st l R).e), .int .i64 ((runS x ty st l R).m)], .slice od (runD x ty st l R).length cd, .int .i64 (runE x ty st l R)]) ?_
 refine Zv rfl (.agg #[.bool (runS x ty st l R).r, .int .i64 ((runS x ty st l R).d), .slice o9 (runS x ty st l R).T.length c9, .int .i64 ((runS x ty st l R).e), .int .i64 ((runS x ty st l R).m)]) ?_
 refine Zv rfl (.slice od (runD x ty st l R).length cd) ?_
 refine Zv rfl (.int .i64 (runE x ty st l R)) ?_
 obtain ⟨W9, hW, hb, hq⟩ := laidV W7 #[.bool false, .int .i64 0, .slice none 0 0, .int .i64 0, .int .i64 0] #[.bool (runS x ty st l R).r, .int .i64 ((runS x ty st l R).d), .slice o9 (runS x ty st l R).T.length c9, .int .i64 ((runS x ty st l R).e), .int .i64 ((runS x ty st l R).m)] 37
 refine sx_mem (by kernel_rfl) rfl rfl (.pointer (some ⟨W7.heap.size, 0, none⟩)) (W7.alloc (.cells #[.bool false, .int .i64 0, .slice none 0 0, .int .i64 0, .int .i64 0] 37)) (by kernel_rfl) ?_
 refine Zs (cells := #[.bool (runS x ty st l R).r, .int .i64 ((runS x ty st l R).d), .slice o9 (runS x ty st l R).T.length c9, .int .i64 ((runS x ty st l R).e), .int .i64 ((runS x ty st l R).m)]) rfl rfl (Cb.made W7 #[.bool false, .int .i64 0, .slice none 0 0, .int .i64 0, .int .i64 0] 37) ?_
 rw [hW]
 replace HB := over HB hb
 replace M2 := M2.below hb
 replace M4 := M4.below hb
 replace M6 := M6.below hb
 replace hS9 := hS9.below hb
 have z5 := hb.size
 have M8 := hq
 have yM8 := hq.lt
 clear hq hb hW
 refine Zv rfl (.slice od (runD x ty st l R).length cd) ?_
 refine Zv rfl (.int .i64 (runE x ty st l R)) ?_
 refine wpList_nil (sx_norm (wp_seq (wp_region_lit ?_)))
 refine Zw rfl (.agg #[.bool (runS x ty st l R).r, .int .i64 ((runS x ty st l R).d), .slice o9 (runS x ty st l R).T.length c9, .int .i64 ((runS x ty st l R).e), .int .i64 ((runS x ty st l R).m)]) (ex_load rfl M8 (by kernel_rfl) Tryd.underlying37 rfl (by kernel_rfl)) ?_
 refine Zv rfl (.int .i64 (runE x ty st l R)) ?_
 refine Zr (cells := #[.bool (runS x ty st l R).r, .int .i64 ((runS x ty st l R).d), .slice o9 (runS x ty st l R).T.length c9, .int .i64 ((runS x ty st l R).e), .int .i64 ((runS x ty st l R).m)]) rfl rfl M6 (fun W10 hg hq => ?_)
 replace HB := HB.grown hg (by omega) (fun x e => by simp only [Option.some.injEq] at e; omega)
 replace M2 := M2.kept hg (by omega)
 replace M4 := M4.kept hg (by omega)
 replace hS9 := hS9.kept hg (fun i hi => by have h8 := hlthS9 i hi; omega)
 replace M8 := M8.kept hg (by omega)
 have z6 := hg.size
 replace M6 := hq
 clear hq hg
 refine Zv rfl (.int .i64 (runE x ty st l R)) ?_
 refine wpList_nil (sx_norm (wp_ret ?_))
 exact sx_retct (v' := .int .i64 (runE x ty st l R)) M6 rfl rfl rfl (by kernel_rfl) (by kernel_rfl) Tryd.underlying37 rfl (by kernel_rfl) ⟨o9, c9, b9, q9, rfl, hS9, fun i hi => by have h8 := hlthS9 i hi; omega, HB⟩
theorem refSame_n18 (S R : ShT) (oS oR : Option Addr) (cS cR bS qS bR qR : Nat) (lS : S.T.length ≤ 1000000) (w : World) (hS : Rw w bS qS 4 (fun k => tmE (S.T.getD k tm0)) S.T.length oS) (hR : Rw w bR qR 4 (fun k => tmE (R.T.getD k tm0)) R.T.length oR) : Calls Tryd.prog 15 #[.agg #[.bool S.r, .int .i64 S.d, .slice oS S.T.length cS, .int .i64 S.e, .int .i64 S.m], .agg #[.bool R.r, .int .i64 R.d, .slice oR R.T.length cR, .int .i64 R.e, .int .i64 R.m]] w fun e w' => e = .returned (.bool (decide (S = R))) ∧ Below w.heap.size w w' := by
 have HB : Below w.heap.size w w := Below.refl _ _
 refine sx_enter Tryd.func15 rfl [(0, .agg #[.bool S.r, .int .i64 S.d, .slice oS S.T.length cS, .int .i64 S.e, .int .i64 S.m]), (1, .agg #[.bool R.r, .int .i64 R.d, .slice oR R.T.length cR, .int .i64 R.e, .int .i64 R.m])] (by kernel_rfl) ?_
 refine wp_seq (wp_region_lit ?_)
 obtain ⟨W1, hW, hb, hq⟩ := laidA w #[.bool S.r, .int .i64 S.d, .slice oS S.T.length cS, .int .i64 S.e, .int .i64 S.m] 37
 refine sx_mem (by kernel_rfl) rfl rfl (.pointer (some ⟨w.heap.size, 0, none⟩)) W1 (by rw [← hW]; kernel_rfl) ?_
 replace HB := over HB hb
 have z1 := hb.size
 have M2 := hq
 have yM2 := hq.lt
 clear hq hb hW
 obtain ⟨W3, hW, hb, hq⟩ := laidA W1 #[.bool R.r, .int .i64 R.d, .slice oR R.T.length cR, .int .i64 R.e, .int .i64 R.m] 37
 refine sx_mem (by kernel_rfl) rfl rfl (.pointer (some ⟨W1.heap.size, 0, none⟩)) W3 (by rw [← hW]; kernel_rfl) ?_
 replace HB := over HB hb
 replace M2 := M2.below hb
 have z2 := hb.size
 have M4 := hq
 have yM4 := hq.lt
 clear hq hb hW
 refine Zv rfl (.bool false) ?_
 refine wpList_nil (sx_norm (wp_seq (wp_seq (wp_region_lit ?_))))
 refine Zv rfl (.pointer (some ⟨w.heap.size, 0, none⟩)) ?_
 refine Zw rfl (.bool S.r) (el (M2.cell 0 rfl) Tryd.underlying4) ?_
 refine Zv rfl (.pointer (some ⟨W1.heap.size, 0, none⟩)) ?_
 refine Zw rfl (.bool R.r) (el (M4.cell 0 rfl) Tryd.underlying4) ?_
 by_cases C1 : S.r = R.r
 ·refine Zb rfl ((S.r != R.r)) false (by rw [C1]; exact bne_self_eq_false _) ?_
  refine Zv rfl (.bool false) ?_
  refine Zv rfl (.pointer (some ⟨w.heap.size, 1, none⟩)) ?_
  refine Zw rfl (.int .i64 S.d) (el (M2.cell 1 rfl) Tryd.underlying3) ?_
  refine Zv rfl (.pointer (some ⟨W1.heap.size, 1, none⟩)) ?_
  refine Zw rfl (.int .i64 R.d) (el (M4.cell 1 rfl) Tryd.underlying3) ?_
  by_cases C2 : S.d = R.d
  ·refine Zb rfl ((S.d : Int) != (R.d : Int)) false (by rw [bne_eq_false_iff_eq]; omega) ?_
   refine Zv rfl (.bool false) ?_
   refine Zv rfl (.bool false) ?_
   refine Zv rfl (.pointer (some ⟨w.heap.size, 3, none⟩)) ?_
   refine Zw rfl (.int .i64 S.e) (el (M2.cell 3 rfl) Tryd.underlying3) ?_
   refine Zv rfl (.pointer (some ⟨W1.heap.size, 3, none⟩)) ?_
   refine Zw rfl (.int .i64 R.e) (el (M4.cell 3 rfl) Tryd.underlying3) ?_
   by_cases C3 : S.e = R.e
   ·refine Zb rfl ((S.e : Int) != (R.e : Int)) false (by rw [bne_eq_false_iff_eq]; omega) ?_
    refine Zv rfl (.bool false) ?_
    refine Zv rfl (.bool false) ?_
    refine Zv rfl (.pointer (some ⟨w.heap.size, 4, none⟩)) ?_
    refine Zw rfl (.int .i64 S.m) (el (M2.cell 4 rfl) Tryd.underlying3) ?_
    refine Zv rfl (.pointer (some ⟨W1.heap.size, 4, none⟩)) ?_
    refine Zw rfl (.int .i64 R.m) (el (M4.cell 4 rfl) Tryd.underlying3) ?_
    by_cases C4 : S.m = R.m
    ·refine Zb rfl ((S.m : Int) != (R.m : Int)) false (by rw [bne_eq_false_iff_eq]; omega) ?_
     refine Zv rfl (.bool false) ?_
     refine Zv rfl (.bool false) ?_
     refine Zv rfl (.pointer (some ⟨w.heap.size, 2, none⟩)) ?_
     refine Zw rfl (.slice oS S.T.length cS) (el (M2.cell 2 rfl) Tryd.underlying35) ?_
     refine Zv rfl (.int .i64 ((S.T.length : Nat) : Int)) ?_
     refine Zv rfl (.pointer (some ⟨W1.heap.size, 2, none⟩)) ?_
     refine Zw rfl (.slice oR R.T.length cR) (el (M4.cell 2 rfl) Tryd.underlying35) ?_
     refine Zv rfl (.int .i64 ((R.T.length : Nat) : Int)) ?_
     by_cases C5 : S.T.length = R.T.length
     ·refine Zb rfl ((((S.T.length : Nat) : Int) : Int) != (((R.T.length : Nat) : Int) : Int)) false (by rw [bne_eq_false_iff_eq]; omega) ?_
      refine Zv rfl (.bool false) ?_
      refine wpList_nil (sx_norm ?_)
      refine sx_false (by kernel_rfl) ?_
      refine wp_skip (sx_norm (wp_seq (wp_seq (wp_region_lit ?_))))
      refine Zv rfl (.int .i64 0) ?_
      refine wpList_nil (sx_norm (wp_block ?_))
      refine sx_loop (fun j : Nat => [(0, .agg #[.bool S.r, .int .i64 S.d, .slice oS S.T.length cS, .int .i64 S.e, .int .i64 S.m]), (1, .agg #[.bool R.r, .int .i64 R.d, .slice oR R.T.length cR, .int .i64 R.e, .int .i64 R.m]), (2, .pointer (some ⟨w.heap.size, 0, none⟩)), (3, .pointer (some ⟨W1.heap.size, 0, none⟩)), (5, .int .i64 ((j : Nat) : Int)), (6, .pointer (some ⟨w.heap.size, 0, none⟩)), (7, .bool S.r), (8, .pointer (some ⟨W1.heap.size, 0, none⟩)), (9, .bool R.r), (10, .bool false), (11, .bool false), (12, .pointer (some ⟨w.heap.size, 1, none⟩)), (13, .int .i64 S.d), (14, .pointer (some ⟨W1.heap.size, 1, none⟩)), (15, .int .i64 R.d), (16, .bool false), (17, .bool false), (18, .bool false), (19, .pointer (some ⟨w.heap.size, 3, none⟩)), (20, .int .i64 S.e), (21, .pointer (some ⟨W1.heap.size, 3, none⟩)), (22, .int .i64 R.e), (23, .bool false), (24, .bool false), (25, .bool false), (26, .pointer (some ⟨w.heap.size, 4, none⟩)), (27, .int .i64 S.m), (28, .pointer (some ⟨W1.heap.size, 4, none⟩)), (29, .int .i64 R.m), (30, .bool false), (31, .bool false), (32, .bool false), (33, .pointer (some ⟨w.heap.size, 2, none⟩)), (34, .slice oS S.T.length cS), (35, .int .i64 ((S.T.length : Nat) : Int)), (36, .pointer (some ⟨W1.heap.size, 2, none⟩)), (37, .slice oR R.T.length cR), (38, .int .i64 ((R.T.length : Nat) : Int)), (39, .bool false), (40, .bool false)]) (fun gg j wr => j ≤ S.T.length ∧ S.T.length - j ≤ gg ∧ (∀ i, i < j → S.T.getD i tm0 = R.T.getD i tm0) ∧ Below W3.heap.size W3 wr) (S.T.length) (0) (by kernel_rfl) ⟨Nat.zero_le _, Nat.le_refl _, (fun i hi => absurd hi (Nat.not_lt_zero i)), Below.refl _ _⟩ ?_
      rintro gg j g' wr5 ⟨hj, hg, hJ, hbl⟩
      replace HB := over HB hbl
      replace M2 := M2.below hbl
      replace M4 := M4.below hbl
      have z3 := hbl.size
      have HL := hbl
      clear hbl
      refine wp_seq (wp_seq (wp_region_lit ?_))
      refine Zv rfl (.int .i64 ((j : Nat) : Int)) ?_
      refine Zv rfl (.pointer (some ⟨w.heap.size, 2, none⟩)) ?_
      refine Zw rfl (.slice oS S.T.length cS) (el (M2.cell 2 rfl) Tryd.underlying35) ?_
      refine Zv rfl (.int .i64 ((S.T.length : Nat) : Int)) ?_
      by_cases C6 : j < S.T.length
      ·refine Zb rfl (decide (((j : Nat) : Int) < ((S.T.length : Nat) : Int))) true (decide_eq_true (by omega)) ?_
       refine wpList_nil (sx_norm ?_)
       refine sx_true (by kernel_rfl) ?_
       refine wp_skip (sx_norm (wp_seq (wp_block (wp_seq ?_))))
       obtain ⟨Y6, hW⟩ : ∃ W, wr5.drew = W := ⟨_, rfl⟩
       have hb : Below wr5.heap.size wr5 Y6 := hW ▸ below_drew (Below.refl _ _)
       replace HB := over HB hb
       replace M2 := M2.below hb
       replace M4 := M4.below hb
       replace HL := over HL hb
       have z4 := hb.size
       clear hb
       refine sd_begin (fun W => Cb W (w.heap.size) #[.bool S.r, .int .i64 S.d, .slice oS S.T.length cS, .int .i64 S.e, .int .i64 S.m] 37 ∧ Cb W (W1.heap.size) #[.bool R.r, .int .i64 R.d, .slice oR R.T.length cR, .int .i64 R.e, .int .i64 R.m] 37 ∧ Rw W bS qS 4 (fun k => tmE (S.T.getD k tm0)) S.T.length oS ∧ Rw W bR qR 4 (fun k => tmE (R.T.getD k tm0)) R.T.length oR ∧ True) (by kernel_rfl) (by rw [hW]; exact ⟨M2, M4, (hS.below HB), (hR.below HB), trivial⟩) ?_
       rw [hW]
       clear hW
       refine Zu 0 rfl rfl (.pointer (some ⟨w.heap.size, 2, none⟩)) ⟨M2, M4, (hS.below HB), (hR.below HB), trivial⟩ ?_
       refine Zt 1 rfl rfl (.slice oS S.T.length cS) (fun w9 h9 => el (h9.1.cell 2 rfl) Tryd.underlying35) ⟨M2, M4, (hS.below HB), (hR.below HB), trivial⟩ ?_
       refine Zu 2 rfl rfl (.int .i64 ((j : Nat) : Int)) ⟨M2, M4, (hS.below HB), (hR.below HB), trivial⟩ ?_
       refine Zt 3 rfl rfl (.pointer (some ⟨bS, qS + j * 4, none⟩)) (fun w9 h9 => ex_indexO (q := qS) (m := S.T.length) (c := cS) (k := j) (s := 4) rfl (by kernel_rfl) (h9.2.2.1.oa (k := j) (by omega)) (by kernel_rfl) Tryd.underlying35 (by kernel_rfl) (by omega) (by omega)) ⟨M2, M4, (hS.below HB), (hR.below HB), trivial⟩ ?_
       refine Zt 4 rfl rfl (.agg #[.int .i64 ((S.T.getD j tm0).a), .int .i64 ((S.T.getD j tm0).b), .int .i64 ((S.T.getD j tm0).d), .bool (S.T.getD j tm0).r]) (fun w9 h9 => ex_loadR rfl (h9.2.2.1.range (k := j) (by omega)) (by kernel_rfl) Tryd.underlying51 rfl (by kernel_rfl)) ⟨M2, M4, (hS.below HB), (hR.below HB), trivial⟩ ?_
       refine Zu 5 rfl rfl (.pointer (some ⟨W1.heap.size, 2, none⟩)) ⟨M2, M4, (hS.below HB), (hR.below HB), trivial⟩ ?_
       refine Zt 6 rfl rfl (.slice oR R.T.length cR) (fun w9 h9 => el (h9.2.1.cell 2 rfl) Tryd.underlying35) ⟨M2, M4, (hS.below HB), (hR.below HB), trivial⟩ ?_
       refine Zu 7 rfl rfl (.int .i64 ((j : Nat) : Int)) ⟨M2, M4, (hS.below HB), (hR.below HB), trivial⟩ ?_
       refine Zt 8 rfl rfl (.pointer (some ⟨bR, qR + j * 4, none⟩)) (fun w9 h9 => ex_indexO (q := qR) (m := R.T.length) (c := cR) (k := j) (s := 4) rfl (by kernel_rfl) (h9.2.2.2.1.oa (k := j) (by omega)) (by kernel_rfl) Tryd.underlying35 (by kernel_rfl) (by omega) (by omega)) ⟨M2, M4, (hS.below HB), (hR.below HB), trivial⟩ ?_
       refine Zt 9 rfl rfl (.agg #[.int .i64 ((R.T.getD j tm0).a), .int .i64 ((R.T.getD j tm0).b), .int .i64 ((R.T.getD j tm0).d), .bool (R.T.getD j tm0).r]) (fun w9 h9 => ex_loadR rfl (h9.2.2.2.1.range (k := j) (by omega)) (by kernel_rfl) Tryd.underlying51 rfl (by kernel_rfl)) ⟨M2, M4, (hS.below HB), (hR.below HB), trivial⟩ ?_
       by_cases C7 : (S.T.getD j tm0).a = (R.T.getD j tm0).a ∧ (S.T.getD j tm0).b = (R.T.getD j tm0).b ∧ (S.T.getD j tm0).d = (R.T.getD j tm0).d ∧ (S.T.getD j tm0).r = (R.T.getD j tm0).r
       ·refine Zt 10 rfl rfl (.bool false) (fun w9 h9 => ex_bool (!((S.T.getD j tm0).a == (R.T.getD j tm0).a && (S.T.getD j tm0).b == (R.T.getD j tm0).b && (S.T.getD j tm0).d == (R.T.getD j tm0).d && (S.T.getD j tm0).r == (R.T.getD j tm0).r)) false (ex_neqT rfl (by kernel_rfl) (by kernel_rfl)) (by rw [eqv_t C7]; rfl)) ⟨M2, M4, (hS.below HB), (hR.below HB), trivial⟩ ?_
        refine sd_done (by kernel_rfl) ?_
        refine sx_norm ?_
        refine sx_false (by kernel_rfl) ?_
        refine wp_skip ?_
        refine sx_in ?_
        refine sx_norm (wp_region_lit ?_)
        refine Zv rfl (.int .i64 ((j : Nat) : Int)) ?_
        refine sx_int (by kernel_rfl) rfl rfl .i64 (IntKind.i64.wrap (((j : Nat) : Int) + 1)) (((j + 1 : Nat) : Int)) (by kernel_rfl) (by rw [IntKind.wrap_i64]; omega) ?_
        refine Zv rfl (.int .i64 ((j + 1 : Nat) : Int)) ?_
        refine wpList_nil (sx_norm ?_)
        exact sx_again (S.T.length - (j + 1)) (j + 1) (by omega) (by kernel_rfl) ⟨by omega, Nat.le_refl _, ext_more hJ (tm_ext (by assumption)), HL⟩
       refine Zt 10 rfl rfl (.bool true) (fun w9 h9 => ex_bool (!((S.T.getD j tm0).a == (R.T.getD j tm0).a && (S.T.getD j tm0).b == (R.T.getD j tm0).b && (S.T.getD j tm0).d == (R.T.getD j tm0).d && (S.T.getD j tm0).r == (R.T.getD j tm0).r)) true (ex_neqT rfl (by kernel_rfl) (by kernel_rfl)) (by rw [eqv_f C7]; rfl)) ⟨M2, M4, (hS.below HB), (hR.below HB), trivial⟩ ?_
       refine sd_done (by kernel_rfl) ?_
       refine sx_norm ?_
       refine sx_true (by kernel_rfl) ?_
       refine wp_seq (wp_region_lit ?_)
       refine Zv rfl (.bool false) ?_
       refine wpList_nil (sx_norm (wp_ret ?_))
       refine sx_rb ?_
       refine sx_rs (sx_rs ?_)
       refine sx_rb ?_
       refine sx_rs ?_
       refine sx_ret1 (.bool false) rfl rfl (by kernel_rfl) ⟨by rw [decide_eq_false (fun h => absurd (by rw [h]; exact ⟨rfl, rfl, rfl, rfl⟩) (by assumption : ¬ ((S.T.getD j tm0).a = (R.T.getD j tm0).a ∧ (S.T.getD j tm0).b = (R.T.getD j tm0).b ∧ (S.T.getD j tm0).d = (R.T.getD j tm0).d ∧ (S.T.getD j tm0).r = (R.T.getD j tm0).r)))], HB⟩
      refine Zb rfl (decide (((j : Nat) : Int) < ((S.T.length : Nat) : Int))) false (decide_eq_false (by omega)) ?_
      refine wpList_nil (sx_norm ?_)
      refine sx_false (by kernel_rfl) ?_
      refine wp_exit ?_
      refine sx_es ?_
      refine sx_es ?_
      refine sx_out ?_
      refine sx_norm (wp_seq (wp_region_lit ?_))
      refine Zv rfl (.bool true) ?_
      refine wpList_nil (sx_norm (wp_ret ?_))
      refine sx_ret1 (.bool true) rfl rfl (by kernel_rfl) ⟨by rw [decide_eq_true (sh_ext ⟨by assumption, by assumption, by assumption, by assumption, ext_getD (d := tm0) (by assumption) (fun i hi => hJ i (by omega))⟩)], HB⟩
     refine Zb rfl ((((S.T.length : Nat) : Int) : Int) != (((R.T.length : Nat) : Int) : Int)) true (bne_iff_ne.2 (by omega)) ?_
     refine Zv rfl (.bool true) ?_
     refine wpList_nil (sx_norm ?_)
     refine sx_true (by kernel_rfl) ?_
     refine wp_seq (wp_region_lit ?_)
     refine Zv rfl (.bool false) ?_
     refine wpList_nil (sx_norm (wp_ret (sx_rs ?_)))
     refine sx_ret1 (.bool false) rfl rfl (by kernel_rfl) ⟨by rw [decide_eq_false (fun h => by subst h; first | (exact absurd rfl (by assumption)) | simp_all)], HB⟩
    refine Zb rfl ((S.m : Int) != (R.m : Int)) true (bne_iff_ne.2 (by omega)) ?_
    refine Zv rfl (.bool true) ?_
    refine Zv rfl (.bool true) ?_
    refine Zk rfl ?_
    refine Zk rfl ?_
    refine Zk rfl ?_
    refine Zk rfl ?_
    refine Zk rfl ?_
    refine Zk rfl ?_
    refine Zk rfl ?_
    refine Zv rfl (.bool true) ?_
    refine wpList_nil (sx_norm ?_)
    refine sx_true (by kernel_rfl) ?_
    refine wp_seq (wp_region_lit ?_)
    refine Zv rfl (.bool false) ?_
    refine wpList_nil (sx_norm (wp_ret (sx_rs ?_)))
    refine sx_ret1 (.bool false) rfl rfl (by kernel_rfl) ⟨by rw [decide_eq_false (fun h => by subst h; first | (exact absurd rfl (by assumption)) | simp_all)], HB⟩
   refine Zb rfl ((S.e : Int) != (R.e : Int)) true (bne_iff_ne.2 (by omega)) ?_
   refine Zv rfl (.bool true) ?_
   refine Zv rfl (.bool true) ?_
   refine Zk rfl ?_
   refine Zk rfl ?_
   refine Zk rfl ?_
   refine Zk rfl ?_
   refine Zk rfl ?_
   refine Zv rfl (.bool true) ?_
   refine Zv rfl (.bool true) ?_
   refine Zk rfl ?_
   refine Zk rfl ?_
   refine Zk rfl ?_
   refine Zk rfl ?_
   refine Zk rfl ?_
   refine Zk rfl ?_
   refine Zk rfl ?_
   refine Zv rfl (.bool true) ?_
   refine wpList_nil (sx_norm ?_)
   refine sx_true (by kernel_rfl) ?_
   refine wp_seq (wp_region_lit ?_)
   refine Zv rfl (.bool false) ?_
   refine wpList_nil (sx_norm (wp_ret (sx_rs ?_)))
   refine sx_ret1 (.bool false) rfl rfl (by kernel_rfl) ⟨by rw [decide_eq_false (fun h => by subst h; first | (exact absurd rfl (by assumption)) | simp_all)], HB⟩
  refine Zb rfl ((S.d : Int) != (R.d : Int)) true (bne_iff_ne.2 (by omega)) ?_
  refine Zv rfl (.bool true) ?_
  refine Zv rfl (.bool true) ?_
  refine Zk rfl ?_
  refine Zk rfl ?_
  refine Zk rfl ?_
  refine Zk rfl ?_
  refine Zk rfl ?_
  refine Zv rfl (.bool true) ?_
  refine Zv rfl (.bool true) ?_
  refine Zk rfl ?_
  refine Zk rfl ?_
  refine Zk rfl ?_
  refine Zk rfl ?_
  refine Zk rfl ?_
  refine Zv rfl (.bool true) ?_
  refine Zv rfl (.bool true) ?_
  refine Zk rfl ?_
  refine Zk rfl ?_
  refine Zk rfl ?_
  refine Zk rfl ?_
  refine Zk rfl ?_
  refine Zk rfl ?_
  refine Zk rfl ?_
  refine Zv rfl (.bool true) ?_
  refine wpList_nil (sx_norm ?_)
  refine sx_true (by kernel_rfl) ?_
  refine wp_seq (wp_region_lit ?_)
  refine Zv rfl (.bool false) ?_
  refine wpList_nil (sx_norm (wp_ret (sx_rs ?_)))
  refine sx_ret1 (.bool false) rfl rfl (by kernel_rfl) ⟨by rw [decide_eq_false (fun h => by subst h; first | (exact absurd rfl (by assumption)) | simp_all)], HB⟩
 refine Zb rfl ((S.r != R.r)) true (bne_iff_ne.2 C1) ?_
 refine Zv rfl (.bool true) ?_
 refine Zk rfl ?_
 refine Zk rfl ?_
 refine Zk rfl ?_
 refine Zk rfl ?_
 refine Zk rfl ?_
 refine Zv rfl (.bool true) ?_
 refine Zv rfl (.bool true) ?_
 refine Zk rfl ?_
 refine Zk rfl ?_
 refine Zk rfl ?_
 refine Zk rfl ?_
 refine Zk rfl ?_
 refine Zv rfl (.bool true) ?_
 refine Zv rfl (.bool true) ?_
 refine Zk rfl ?_
 refine Zk rfl ?_
 refine Zk rfl ?_
 refine Zk rfl ?_
 refine Zk rfl ?_
 refine Zv rfl (.bool true) ?_
 refine Zv rfl (.bool true) ?_
 refine Zk rfl ?_
 refine Zk rfl ?_
 refine Zk rfl ?_
 refine Zk rfl ?_
 refine Zk rfl ?_
 refine Zk rfl ?_
 refine Zk rfl ?_
 refine Zv rfl (.bool true) ?_
 refine wpList_nil (sx_norm ?_)
 refine sx_true (by kernel_rfl) ?_
 refine wp_seq (wp_region_lit ?_)
 refine Zv rfl (.bool false) ?_
 refine wpList_nil (sx_norm (wp_ret (sx_rs ?_)))
 refine sx_ret1 (.bool false) rfl rfl (by kernel_rfl) ⟨by rw [decide_eq_false (fun h => by subst h; first | (exact absurd rfl (by assumption)) | simp_all)], HB⟩

end Go.Proofs.YtomebalolmabnaaDoor.T



/-! What is found is possible, and ends first. -/
namespace Go.Proofs.YtomebalolmabnaaDoor.T
open Go.RowKit
set_option maxRecDepth 8000

namespace CrT
def endV (c : CrT) (R : List Bool) : Nat → Nat → Int → Int → Int
 | 0, _, don, _ => don
 | m + 1, k, don, sin => endV c R m (k + 1) (c.leg k don sin (R.getD k false)).don (c.leg k don sin (R.getD k false)).sin
def feas (c : CrT) (R : List Bool) : Nat → Nat → Int → Int → Prop
 | 0, _, _, _ => True
 | m + 1, k, don, sin => c.err k don sin (R.getD k false) = 0 ∧ feas c R m (k + 1) (c.leg k don sin (R.getD k false)).don (c.leg k don sin (R.getD k false)).sin
def endF (c : CrT) : Nat → Nat → Int → Int
 | 0, _, don => don
 | m + 1, k, don => endF c m (k + 1) (c.leg k don 0 false).don
section
variable {c : CrT} (hn : NetOk c.pl c.al) (hr : 0 ≤ c.ty.rst)
include hn hr
theorem leg_le {k : Nat} {d d' s s' : Int} {r r' : Bool} (hd : d ≤ d') (h : r = true → r' = true) : (c.leg k d s r).arr ≤ (c.leg k d' s' r').arr ∧ (c.leg k d s r).don ≤ (c.leg k d' s' r').don ∧ (c.go k d r).2.2 = (c.go k d' r').2.2 := by
 have hg : c.gD d r ≤ c.gD d' r' := by
  unfold gD
  cases r <;> cases r' <;> simp at h ⊢ <;> omega
 have hm := goV_mono hn (pr := c.ty.prof) (f := (c.S.getD k st0).p) (t := (c.S.getD (k + 1) st0).p) hg
 have h1 : (c.go k d r).1 ≤ (c.go k d' r').1 := hm.2.2
 refine ⟨h1, ?_, hm.1⟩
 have hb : c.beg k d r ≤ c.beg k d' r' := by unfold beg; split <;> split <;> omega
 show c.beg k d r + (c.S.getD (k + 1) st0).s ≤ c.beg k d' r' + (c.S.getD (k + 1) st0).s
 omega
theorem endF_le (R : List Bool) : ∀ (m k : Nat) (d d' s : Int), d ≤ d' → c.endF m k d ≤ c.endV R m k d' s
 | 0, _, _, _, _, h => h
 | m + 1, k, d, d', s, h => endF_le R m (k + 1) _ _ _ (leg_le hn hr h (fun h => by cases h)).2.1
theorem dn_le {R R' : List Bool} (h : ∀ i, R.getD i false = true → R'.getD i false = true) : ∀ k, (c.dn R k).1 ≤ (c.dn R' k).1
 | 0 => Int.le_refl _
 | k + 1 => (leg_le hn hr (k := k) (s := (c.dn R k).2) (s' := (c.dn R' k).2) (dn_le h k) (h k)).2.1
end
theorem endF_sin (c : CrT) (m k : Nat) (don sin : Int) : c.endF (m + 1) k don = c.endF m (k + 1) (c.leg k don sin false).don := rfl
theorem free_end {c : CrT} {F : List Bool} : ∀ (m k : Nat) (don sin : Int), (c.best F m k don sin).f = true → (c.best F m k don sin).p = true ∧ (c.best F m k don sin).e = c.endF m k don
 | 0, _, _, _, _ => ⟨rfl, rfl⟩
 | m + 1, k, don, sin, h => by
  have hI := foldB_inv (st := stB c (c.best F m (k + 1)) k don sin) (fun b => b.f = true → b.p = true ∧ b.e = c.endF (m + 1) k don) (CrT.opts F k) ch0 (fun h => by cases h) (fun b r _ hb => by
   unfold stB
   split
   ·split
    ·intro hf
     simp only [Bool.and_eq_true] at hf
     have hr : r = false := by simpa using hf.2
     subst hr
     exact ⟨rfl, (free_end m (k + 1) _ _ hf.1).2⟩
    ·exact hb
   ·exact hb)
  rw [← c.best_succ] at hI
  exact hI h
end CrT
theorem foldB_min {c : CrT} {nx : Int → Int → ChT} {k : Nat} {don sin : Int} {r : Bool} (h0 : c.err k don sin r = 0) (hp : (nx (c.leg k don sin r).don (c.leg k don sin r).sin).p = true) : ∀ (O : List Bool) (b : ChT), (r ∈ O ∨ (b.p = true ∧ b.e ≤ (nx (c.leg k don sin r).don (c.leg k don sin r).sin).e)) →
  (foldB (stB c nx k don sin) O b).f = true ∨ ((foldB (stB c nx k don sin) O b).p = true ∧ (foldB (stB c nx k don sin) O b).e ≤ (nx (c.leg k don sin r).don (c.leg k don sin r).sin).e)
 | [], b, h => by
  rcases h with h | h
  ·cases h
  ·exact .inr h
 | q :: O, b, h => by
  show (if (stB c nx k don sin b q).f = true then stB c nx k don sin b q else foldB (stB c nx k don sin) O (stB c nx k don sin b q)).f = true ∨ ((if (stB c nx k don sin b q).f = true then stB c nx k don sin b q else foldB (stB c nx k don sin) O (stB c nx k don sin b q)).p = true ∧ (if (stB c nx k don sin b q).f = true then stB c nx k don sin b q else foldB (stB c nx k don sin) O (stB c nx k don sin b q)).e ≤ _)
  by_cases hf : (stB c nx k don sin b q).f = true
  ·rw [if_pos hf]; exact .inl hf
  ·rw [if_neg hf]
   refine foldB_min h0 hp O _ ?_
   have hkeep : b.p = true ∧ b.e ≤ (nx (c.leg k don sin r).don (c.leg k don sin r).sin).e → (stB c nx k don sin b q).p = true ∧ (stB c nx k don sin b q).e ≤ (nx (c.leg k don sin r).don (c.leg k don sin r).sin).e := fun hb => by
    unfold stB
    split
    ·split
     ·rename_i h2
      rcases h2.2 with h3 | h3
      ·rw [hb.1] at h3; cases h3
      ·exact ⟨rfl, Int.le_trans (Int.le_of_lt h3) hb.2⟩
     ·exact hb
    ·exact hb
   rcases h with h | h
   ·rcases List.mem_cons.1 h with h | h
    ·subst h
     right
     unfold stB
     rw [if_pos h0]
     split
     ·exact ⟨rfl, Int.le_refl _⟩
     ·rename_i h2
      have h3 : ¬ (b.p = false ∨ (nx (c.leg k don sin r).don (c.leg k don sin r).sin).e < b.e) := fun h => h2 ⟨hp, h⟩
      refine ⟨?_, ?_⟩
      ·cases hb : b.p
       ·exact absurd (.inl hb) h3
       ·rfl
      ·have : ¬ (nx (c.leg k don sin r).don (c.leg k don sin r).sin).e < b.e := fun h => h3 (.inr h)
       omega
    ·exact .inl h
   ·exact .inr (hkeep h)
namespace CrT
theorem best_least {c : CrT} (hn : NetOk c.pl c.al) (hr : 0 ≤ c.ty.rst) {F R : List Bool} (hO : ∀ i, R.getD i false ∈ opts F i) : ∀ (m k : Nat) (don sin : Int), c.feas R m k don sin → (c.best F m k don sin).p = true ∧ (c.best F m k don sin).e ≤ c.endV R m k don sin
 | 0, _, _, _, _ => ⟨rfl, Int.le_refl _⟩
 | m + 1, k, don, sin, h => by
  obtain ⟨h1, h2⟩ := h
  have ih := best_least hn hr hO m (k + 1) _ _ h2
  have hf := foldB_min (nx := c.best F m (k + 1)) h1 ih.1 (opts F k) ch0 (.inl (hO k))
  rw [← c.best_succ] at hf
  rcases hf with hf | hf
  ·have h3 := free_end (m + 1) k don sin hf
   exact ⟨h3.1, by rw [h3.2]; exact endF_le hn hr R (m + 1) k don don sin (Int.le_refl _)⟩
  ·exact ⟨hf.1, Int.le_trans hf.2 ih.2⟩
theorem feas_run {c : CrT} {R : List Bool} (h : c.run R c.n = 0) : ∀ (m k : Nat), k + m = c.n → c.feas R m k (c.dn R k).1 (c.dn R k).2 ∧ c.endV R m k (c.dn R k).1 (c.dn R k).2 = (c.dn R c.n).1
 | 0, k, hk => ⟨trivial, by show (c.dn R k).1 = _; rw [show k = c.n by omega]⟩
 | m + 1, k, hk => by
  have ih := feas_run h m (k + 1) (by omega)
  exact ⟨⟨run_er h (by omega), ih.1⟩, ih.2⟩
end CrT
end Go.Proofs.YtomebalolmabnaaDoor.T



/-! The best schedule is valid, and none ends earlier. -/
namespace Go.Proofs.YtomebalolmabnaaDoor.T
open Go.RowKit
set_option maxRecDepth 8000

theorem crs_endS' (x : InT) (ty st : Int) (l : List (Int × Bool)) : (crs x ty st l).S.getD (l.length + 1) st0 = ⟨(x.tl.getD ty.toNat ty0).to, 0, (x.tl.getD ty.toNat ty0).cls, 0⟩ := by
 show (crsS _ x.ol l).getD (l.length + 1) st0 = _
 unfold crsS
 rw [List.getD_eq_getElem?_getD, List.getElem?_append_right (by simp)]
 simp
theorem bs0_at {F : List Bool} {N i : Nat} : (bs0 F N).getD i false = if i < F.length then F.getD i false else false := by
 unfold bs0
 split
 ·rename_i h
  rw [List.getD_eq_getElem?_getD, List.getElem?_append_left h, List.getD_eq_getElem?_getD]
 ·rename_i h
  rw [List.getD_eq_getElem?_getD, List.getElem?_append_right (by omega), List.getElem?_replicate]
  split <;> rfl
theorem run_first {c : CrT} {R : List Bool} : ∀ m, c.run R m ≠ 0 → ∃ k, k < m ∧ c.run R k = 0 ∧ c.er R k = c.run R m
 | 0, h => absurd rfl h
 | m + 1, h => by
  by_cases h1 : c.run R m = 0
  ·exact ⟨m, Nat.lt_succ_self m, h1, by rw [CrT.run_succ, if_neg (fun h => h h1)]⟩
  ·obtain ⟨k, hk, h2, h3⟩ := run_first m h1
   exact ⟨k, by omega, h2, by rw [h3, CrT.run_succ, if_pos h1]⟩
theorem best_first {x : InT} (hin : inF x = []) (hal : x.al.length ≤ 1000000) {ty st : Int} {l : List (Int × Bool)} {F R : List Bool} (hFR : F.length ≤ R.length) (hF : ∀ i, i < F.length → R.getD i false = F.getD i false) (h : runE x ty st l R = 0) : bestE x ty st l F = 0 ∧ (bestS x ty st l F).e ≤ (runS x ty st l R).e := by
 obtain ⟨hS, hp, hRl, hr0⟩ := runS_is h
 have hc := crs_ok hin hal hp
 have hn9 := crs_n x ty st l
 have hE := bestE_yes (F := F) hp (by omega)
 have hne := hc.net
 have hrs := hc.rst.1
 have hO : ∀ i, R.getD i false ∈ CrT.opts F i := fun i => by
  unfold CrT.opts
  split
  ·rename_i hi; rw [hF i hi]; simp
  ·cases R.getD i false <;> simp
 have hle : ∀ i, (bs0 F (crs x ty st l).n).getD i false = true → R.getD i false = true := fun i hi => by
  rw [bs0_at] at hi
  split at hi
  ·rename_i h1; rw [hF i h1]; exact hi
  ·cases hi
 have hdn := CrT.dn_le hne hrs hle
 have fin : ∀ B, (crs x ty st l).bsR F = B → (crs x ty st l).run B (crs x ty st l).n = 0 → ((crs x ty st l).lg B l.length).arr ≤ ((crs x ty st l).lg R l.length).arr → bestE x ty st l F = 0 ∧ (bestS x ty st l F).e ≤ (runS x ty st l R).e := fun B hB h0 ha => by
  have h1 : bestE x ty st l F = 0 := by rw [hE, hB]; exact h0
  refine ⟨h1, ?_⟩
  have h2 : bestS x ty st l F = (crs x ty st l).sheet B := by unfold bestS; rw [if_pos h1, hB]
  rw [h2, hS]
  show ((crs x ty st l).lg B ((crs x ty st l).n - 1)).arr ≤ ((crs x ty st l).lg R ((crs x ty st l).n - 1)).arr
  rw [show (crs x ty st l).n - 1 = l.length by omega]
  exact ha
 by_cases hb : (crs x ty st l).run (bs0 F (crs x ty st l).n) (crs x ty st l).n = 0
 ·exact fin _ (if_neg (fun h => by rw [hb] at h; cases h.1)) hb (CrT.leg_le hne hrs (hdn l.length) (hle l.length)).1
 ·obtain ⟨k, hk, hk0, hke⟩ := run_first _ hb
  have hkr := CrT.run_er hr0 hk
  have hll := CrT.leg_le hne hrs (k := k) (s := ((crs x ty st l).dn (bs0 F (crs x ty st l).n) k).2) (s' := ((crs x ty st l).dn R k).2) (hdn k) (hle k)
  have hlo := CrT.lg_ok hc (Nat.le_refl _) hr0 hk
  have h16 : (crs x ty st l).run (bs0 F (crs x ty st l).n) (crs x ty st l).n = 16 := by
   rw [← hke] at hb ⊢
   unfold CrT.er CrT.err at hb ⊢
   rw [if_neg (fun h => h (hll.2.2.trans hlo.1))] at hb ⊢
   have ha : ¬ ((crs x ty st l).S.getD (k + 1) st0).c < ((crs x ty st l).go k ((crs x ty st l).dn (bs0 F (crs x ty st l).n) k).1 ((bs0 F (crs x ty st l).n).getD k false)).1 := by
    have h1 : ((crs x ty st l).go k ((crs x ty st l).dn (bs0 F (crs x ty st l).n) k).1 ((bs0 F (crs x ty st l).n).getD k false)).1 ≤ ((crs x ty st l).lg R k).arr := hll.1
    have h2 := hlo.2.1
    omega
   rw [if_neg ha] at hb ⊢
   split
   ·rfl
   ·rename_i h1; rw [if_neg h1] at hb; exact absurd rfl hb
  have hfe := CrT.feas_run hr0 (crs x ty st l).n 0 (by omega)
  have hbl := CrT.best_least hne hrs hO (crs x ty st l).n 0 (crs x ty st l).rd 0 hfe.1
  have hpp := hbl.1
  have hfp := CrT.fnd_p hpp (Nat.le_refl _)
  have hB : (crs x ty st l).bsR F = (crs x ty st l).fnd F := if_pos ⟨h16, hpp⟩
  refine fin _ hB hfp.1 ?_
  have he1 : ((crs x ty st l).dn ((crs x ty st l).fnd F) (crs x ty st l).n).1 ≤ ((crs x ty st l).dn R (crs x ty st l).n).1 := by
   have h1 := hfp.2.2
   rw [Nat.sub_self] at h1
   have h2 : ((crs x ty st l).dn ((crs x ty st l).fnd F) (crs x ty st l).n).1 = ((crs x ty st l).best F (crs x ty st l).n 0 (crs x ty st l).rd 0).e := h1
   have h3 := hbl.2
   have h4 : (crs x ty st l).endV R (crs x ty st l).n 0 (crs x ty st l).rd 0 = ((crs x ty st l).dn R (crs x ty st l).n).1 := hfe.2
   omega
  rw [hn9] at he1
  have hd : ∀ B : List Bool, ((crs x ty st l).dn B (l.length + 1)).1 = (if ((crs x ty st l).lg B l.length).arr < 0 then 0 else ((crs x ty st l).lg B l.length).arr) + 0 := fun B => by
   have h1 : ((crs x ty st l).dn B (l.length + 1)).1 = ((crs x ty st l).lg B l.length).beg + ((crs x ty st l).S.getD (l.length + 1) st0).s := rfl
   rw [h1, beg_is, crs_endS']
  rw [hd, hd] at he1
  have h9 := CrT.lg_ok hc (Nat.le_refl _) hr0 (show l.length < (crs x ty st l).n by omega)
  have hdb := CrT.dn_bd hc (R := R) l.length (by omega) (CrT.run_le hr0 (by omega))
  have hgd := CrT.gD_bd hc (R.getD l.length false) ⟨hdb.1, hdb.2.1⟩
  have h10 : 0 ≤ ((crs x ty st l).lg R l.length).dep := hgd.1
  have h11 := h9.2.2.1
  split at he1 <;> split at he1 <;> omega
end Go.Proofs.YtomebalolmabnaaDoor.T



/-! Of all lists of rests that are possible, the first of least end is the one that is found. -/
namespace Go.Proofs.YtomebalolmabnaaDoor.T
open Go.RowKit
set_option maxRecDepth 8000

def cmb (en : List Bool → Int) : Option (List Bool) → Option (List Bool) → Option (List Bool)
 | none, x => x
 | some a, none => some a
 | some a, some b => if en b < en a then some b else some a
def mstep (ok : List Bool → Bool) (en : List Bool → Int) (acc : Option (List Bool)) (r : List Bool) : Option (List Bool) := if ok r = true then cmb en acc (some r) else acc
def minL (ok : List Bool → Bool) (en : List Bool → Int) (L : List (List Bool)) : Option (List Bool) := L.foldl (mstep ok en) none
theorem cmb_none (en : List Bool → Int) (a : Option (List Bool)) : cmb en a none = a := by cases a <;> rfl
theorem cmb_assoc (en : List Bool → Int) (a b c : Option (List Bool)) : cmb en (cmb en a b) c = cmb en a (cmb en b c) := by
 cases a with
 | none => rfl
 | some a =>
  cases b with
  | none => rw [cmb_none]; rfl
  | some b =>
   cases c with
   | none => rw [cmb_none, cmb_none]
   | some c =>
    unfold cmb
    by_cases h1 : en b < en a <;> by_cases h2 : en c < en b <;> by_cases h3 : en c < en a <;> simp [h1, h2, h3] <;> omega
theorem fold_cmb (ok : List Bool → Bool) (en : List Bool → Int) : ∀ (L : List (List Bool)) (acc : Option (List Bool)), L.foldl (mstep ok en) acc = cmb en acc (minL ok en L)
 | [], acc => (cmb_none en acc).symm
 | r :: L, acc => by
  show L.foldl (mstep ok en) (mstep ok en acc r) = cmb en acc (L.foldl (mstep ok en) (mstep ok en none r))
  rw [fold_cmb ok en L (mstep ok en acc r), fold_cmb ok en L (mstep ok en none r)]
  unfold mstep
  split
  ·rw [← cmb_assoc]; rfl
  ·rfl
theorem minL_app (ok : List Bool → Bool) (en : List Bool → Int) (L M : List (List Bool)) : minL ok en (L ++ M) = cmb en (minL ok en L) (minL ok en M) := by
 unfold minL
 rw [List.foldl_append, fold_cmb]
 rfl
theorem minL_no {ok : List Bool → Bool} {en : List Bool → Int} : ∀ {L : List (List Bool)}, (∀ r ∈ L, ok r = false) → minL ok en L = none
 | [], _ => rfl
 | r :: L, h => by
  show L.foldl (mstep ok en) (mstep ok en none r) = none
  unfold mstep
  rw [h r (by simp), if_neg (by decide)]
  exact minL_no (fun q hq => h q (by simp [hq]))
theorem minL_map {ok ok' : List Bool → Bool} {en en' : List Bool → Int} {r : Bool} (h1 : ∀ s, ok (r :: s) = ok' s) (h2 : ∀ s, en (r :: s) = en' s) : ∀ L : List (List Bool), minL ok en (L.map (r :: ·)) = (minL ok' en' L).map (r :: ·) := by
 have hc : ∀ a b : Option (List Bool), cmb en (a.map (r :: ·)) (b.map (r :: ·)) = (cmb en' a b).map (r :: ·) := fun a b => by
  cases a with
  | none => rfl
  | some a =>
   cases b with
   | none => rfl
   | some b =>
    show (if en (r :: b) < en (r :: a) then some (r :: b) else some (r :: a)) = (if en' b < en' a then some b else some a).map (r :: ·)
    rw [h2, h2]
    split <;> rfl
 have hf : ∀ (L : List (List Bool)) (acc : Option (List Bool)), (L.map (r :: ·)).foldl (mstep ok en) (acc.map (r :: ·)) = (L.foldl (mstep ok' en') acc).map (r :: ·) := by
  intro L
  induction L with
  | nil => intro acc; rfl
  | cons s L ih =>
   intro acc
   show (L.map (r :: ·)).foldl (mstep ok en) (mstep ok en (acc.map (r :: ·)) (r :: s)) = (L.foldl (mstep ok' en') (mstep ok' en' acc s)).map (r :: ·)
   rw [← ih]
   congr 1
   unfold mstep
   rw [h1]
   split
   ·exact hc acc (some s)
   ·rfl
 exact fun L => hf L none
namespace CrT
def fe (c : CrT) : List Bool → Nat → Int → Int → Bool
 | [], _, _, _ => true
 | r :: s, k, d, t => decide (c.err k d t r = 0) && fe c s (k + 1) (c.leg k d t r).don (c.leg k d t r).sin
def en (c : CrT) : List Bool → Nat → Int → Int → Int
 | [], _, d, _ => d
 | r :: s, k, d, t => en c s (k + 1) (c.leg k d t r).don (c.leg k d t r).sin
def ls (F : List Bool) : Nat → Nat → List (List Bool)
 | 0, _ => [[]]
 | m + 1, k => (opts F k).flatMap fun r => (ls F m (k + 1)).map (r :: ·)
theorem en_ge {c : CrT} (hn : NetOk c.pl c.al) (hr : 0 ≤ c.ty.rst) : ∀ (s : List Bool) (k : Nat) (d d' t : Int), d ≤ d' → c.endF s.length k d ≤ c.en s k d' t
 | [], _, _, _, _, h => h
 | r :: s, k, d, d', t, h => en_ge hn hr s (k + 1) _ _ _ (leg_le hn hr (s := 0) h (fun h => by cases h)).2.1
theorem ls_len (F : List Bool) : ∀ (m k : Nat), ∀ s ∈ ls F m k, s.length = m
 | 0, _, s, h => by rw [show s = [] by simpa [ls] using h]; rfl
 | m + 1, k, s, h => by
  unfold ls at h
  obtain ⟨r, -, h⟩ := List.mem_flatMap.1 h
  obtain ⟨q, hq, rfl⟩ := List.mem_map.1 h
  rw [List.length_cons, ls_len F m (k + 1) q hq]
theorem minL_mem {ok : List Bool → Bool} {en : List Bool → Int} : ∀ (L : List (List Bool)) (r : List Bool), minL ok en L = some r → r ∈ L := by
 have hf : ∀ (L : List (List Bool)) (acc : Option (List Bool)) (r : List Bool), L.foldl (mstep ok en) acc = some r → r ∈ L ∨ acc = some r := by
  intro L
  induction L with
  | nil => intro acc r h; exact .inr h
  | cons s L ih =>
   intro acc r h
   rcases ih _ _ h with h | h
   ·exact .inl (by simp [h])
   ·unfold mstep at h
    split at h
    ·cases acc with
     | none => exact .inl (by simp [cmb] at h; simp [h])
     | some a =>
      unfold cmb at h
      simp only at h
      split at h
      ·exact .inl (by simp at h; simp [h])
      ·exact .inr h
    ·exact .inr h
 intro L r h
 rcases hf L none r h with h | h
 ·exact h
 ·cases h
theorem min_best {c : CrT} (hn : NetOk c.pl c.al) (hr : 0 ≤ c.ty.rst) {F : List Bool} : ∀ (m k : Nat) (d t : Int), minL (fun s => c.fe s k d t) (fun s => c.en s k d t) (ls F m k) = (if (c.best F m k d t).p = true then some (c.wy F m k d t) else none) ∧ ((c.best F m k d t).p = true → c.en (c.wy F m k d t) k d t = (c.best F m k d t).e)
 | 0, k, d, t => ⟨rfl, fun _ => rfl⟩
 | m + 1, k, d, t => by
  have one : ∀ r, minL (fun s => c.fe s k d t) (fun s => c.en s k d t) ((ls F m (k + 1)).map (r :: ·)) = if c.err k d t r = 0 ∧ (c.best F m (k + 1) (c.leg k d t r).don (c.leg k d t r).sin).p = true then some (r :: c.wy F m (k + 1) (c.leg k d t r).don (c.leg k d t r).sin) else none := fun r => by
   by_cases h : c.err k d t r = 0
   ·rw [minL_map (ok' := fun s => c.fe s (k + 1) (c.leg k d t r).don (c.leg k d t r).sin) (en' := fun s => c.en s (k + 1) (c.leg k d t r).don (c.leg k d t r).sin) (fun s => by show (decide _ && _) = _; rw [decide_eq_true h]; rfl) (fun s => rfl), (min_best hn hr m (k + 1) _ _).1]
    by_cases h2 : (c.best F m (k + 1) (c.leg k d t r).don (c.leg k d t r).sin).p = true
    ·rw [if_pos h2, if_pos ⟨h, h2⟩]; rfl
    ·rw [if_neg h2, if_neg (fun h => h2 h.2)]; rfl
   ·rw [if_neg (fun h9 => h h9.1)]
    exact minL_no (fun s hs => by
     obtain ⟨q, -, rfl⟩ := List.mem_map.1 hs
     show (decide _ && _) = _
     rw [decide_eq_false h]; rfl)
  have hen : ∀ r, (c.best F m (k + 1) (c.leg k d t r).don (c.leg k d t r).sin).p = true → c.en (r :: c.wy F m (k + 1) (c.leg k d t r).don (c.leg k d t r).sin) k d t = (c.best F m (k + 1) (c.leg k d t r).don (c.leg k d t r).sin).e := fun r h => (min_best hn hr m (k + 1) _ _).2 h
  have hwy : (c.best F (m + 1) k d t).p = true → c.wy F (m + 1) k d t = (c.best F (m + 1) k d t).r :: c.wy F m (k + 1) (c.leg k d t (c.best F (m + 1) k d t).r).don (c.leg k d t (c.best F (m + 1) k d t).r).sin := fun _ => rfl
  refine ⟨?_, fun h => ?_⟩
  ·show minL _ _ ((opts F k).flatMap _) = _
   by_cases hk : k < F.length
   ·have ho : opts F k = [F.getD k false] := if_pos hk
    have hb : c.best F (m + 1) k d t = stB c (c.best F m (k + 1)) k d t ch0 (F.getD k false) := by
     rw [best_succ, ho]
     show (if _ then _ else _) = _
     split <;> rfl
    rw [ho]
    simp only [List.flatMap_cons, List.flatMap_nil, List.append_nil]
    rw [one]
    show _ = if (c.best F (m + 1) k d t).p = true then some ((c.best F (m + 1) k d t).r :: c.wy F m (k + 1) (c.leg k d t (c.best F (m + 1) k d t).r).don (c.leg k d t (c.best F (m + 1) k d t).r).sin) else none
    by_cases h : c.err k d t (F.getD k false) = 0 ∧ (c.best F m (k + 1) (c.leg k d t (F.getD k false)).don (c.leg k d t (F.getD k false)).sin).p = true
    ·have hb2 : c.best F (m + 1) k d t = ⟨true, (c.best F m (k + 1) (c.leg k d t (F.getD k false)).don (c.leg k d t (F.getD k false)).sin).e, F.getD k false, (c.best F m (k + 1) (c.leg k d t (F.getD k false)).don (c.leg k d t (F.getD k false)).sin).f && !F.getD k false⟩ := by
      rw [hb]; unfold stB; rw [if_pos h.1, if_pos ⟨h.2, .inl rfl⟩]
     rw [if_pos h, hb2, if_pos rfl]
    ·have hb2 : c.best F (m + 1) k d t = ch0 := by
      rw [hb]; unfold stB
      split
      ·rename_i h1; rw [if_neg (fun h9 => h ⟨h1, h9.1⟩)]
      ·rfl
     rw [if_neg h, hb2, if_neg (by decide)]
   ·have ho : opts F k = [false, true] := if_neg hk
    rw [ho]
    simp only [List.flatMap_cons, List.flatMap_nil, List.append_nil]
    rw [minL_app, one, one]
    have hb : c.best F (m + 1) k d t = if (stB c (c.best F m (k + 1)) k d t ch0 false).f = true then stB c (c.best F m (k + 1)) k d t ch0 false else stB c (c.best F m (k + 1)) k d t (stB c (c.best F m (k + 1)) k d t ch0 false) true := by
     rw [best_succ, ho]
     show (if _ then _ else (if _ then _ else _)) = _
     split
     ·rfl
     ·split <;> rfl
    show _ = if (c.best F (m + 1) k d t).p = true then some ((c.best F (m + 1) k d t).r :: c.wy F m (k + 1) (c.leg k d t (c.best F (m + 1) k d t).r).don (c.leg k d t (c.best F (m + 1) k d t).r).sin) else none
    by_cases h0 : c.err k d t false = 0 ∧ (c.best F m (k + 1) (c.leg k d t false).don (c.leg k d t false).sin).p = true
    ·have hs0 : stB c (c.best F m (k + 1)) k d t ch0 false = ⟨true, (c.best F m (k + 1) (c.leg k d t false).don (c.leg k d t false).sin).e, false, (c.best F m (k + 1) (c.leg k d t false).don (c.leg k d t false).sin).f && !false⟩ := by
      unfold stB; rw [if_pos h0.1, if_pos ⟨h0.2, .inl rfl⟩]
     rw [if_pos h0]
     rw [hs0] at hb
     by_cases h1 : c.err k d t true = 0 ∧ (c.best F m (k + 1) (c.leg k d t true).don (c.leg k d t true).sin).p = true
     ·rw [if_pos h1]
      have e0 := hen false h0.2
      have e1 := hen true h1.2
      unfold cmb
      simp only
      by_cases hlt : (c.best F m (k + 1) (c.leg k d t true).don (c.leg k d t true).sin).e < (c.best F m (k + 1) (c.leg k d t false).don (c.leg k d t false).sin).e
      ·have hnf : ¬ ((c.best F m (k + 1) (c.leg k d t false).don (c.leg k d t false).sin).f && !false) = true := fun hf => by
        have h2 := (free_end m (k + 1) _ _ (by simpa using hf)).2
        have h3 := en_ge hn hr (true :: c.wy F m (k + 1) (c.leg k d t true).don (c.leg k d t true).sin) k d d t (Int.le_refl _)
        rw [e1, List.length_cons, wy_len, endF_sin c m k d t] at h3
        omega
       have hs1 : stB c (c.best F m (k + 1)) k d t ⟨true, (c.best F m (k + 1) (c.leg k d t false).don (c.leg k d t false).sin).e, false, (c.best F m (k + 1) (c.leg k d t false).don (c.leg k d t false).sin).f && !false⟩ true = ⟨true, (c.best F m (k + 1) (c.leg k d t true).don (c.leg k d t true).sin).e, true, (c.best F m (k + 1) (c.leg k d t true).don (c.leg k d t true).sin).f && !true⟩ := by
        unfold stB; rw [if_pos h1.1, if_pos ⟨h1.2, .inr hlt⟩]
       rw [if_neg hnf, hs1] at hb
       rw [hb, if_pos rfl, if_pos (by rw [e0, e1]; exact hlt)]
      ·have hs1 : stB c (c.best F m (k + 1)) k d t ⟨true, (c.best F m (k + 1) (c.leg k d t false).don (c.leg k d t false).sin).e, false, (c.best F m (k + 1) (c.leg k d t false).don (c.leg k d t false).sin).f && !false⟩ true = ⟨true, (c.best F m (k + 1) (c.leg k d t false).don (c.leg k d t false).sin).e, false, (c.best F m (k + 1) (c.leg k d t false).don (c.leg k d t false).sin).f && !false⟩ := by
        unfold stB
        rw [if_pos h1.1, if_neg (fun h9 => by
         rcases h9.2 with h | h
         ·cases h
         ·exact hlt h)]
       rw [hs1, ite_self] at hb
       rw [hb, if_pos rfl, if_neg (by rw [e0, e1]; exact hlt)]
     ·have hs1 : stB c (c.best F m (k + 1)) k d t ⟨true, (c.best F m (k + 1) (c.leg k d t false).don (c.leg k d t false).sin).e, false, (c.best F m (k + 1) (c.leg k d t false).don (c.leg k d t false).sin).f && !false⟩ true = ⟨true, (c.best F m (k + 1) (c.leg k d t false).don (c.leg k d t false).sin).e, false, (c.best F m (k + 1) (c.leg k d t false).don (c.leg k d t false).sin).f && !false⟩ := by
       unfold stB
       split
       ·rename_i h2; rw [if_neg (fun h9 => h1 ⟨h2, h9.1⟩)]
       ·rfl
      rw [hs1, ite_self] at hb
      rw [if_neg h1, cmb_none, hb, if_pos rfl]
    ·have hs0 : stB c (c.best F m (k + 1)) k d t ch0 false = ch0 := by
      unfold stB
      split
      ·rename_i h2; rw [if_neg (fun h9 => h0 ⟨h2, h9.1⟩)]
      ·rfl
     rw [hs0, if_neg (by decide)] at hb
     rw [if_neg h0]
     by_cases h1 : c.err k d t true = 0 ∧ (c.best F m (k + 1) (c.leg k d t true).don (c.leg k d t true).sin).p = true
     ·have hs1 : stB c (c.best F m (k + 1)) k d t ch0 true = ⟨true, (c.best F m (k + 1) (c.leg k d t true).don (c.leg k d t true).sin).e, true, (c.best F m (k + 1) (c.leg k d t true).don (c.leg k d t true).sin).f && !true⟩ := by
       unfold stB; rw [if_pos h1.1, if_pos ⟨h1.2, .inl rfl⟩]
      rw [hs1] at hb
      rw [if_pos h1, hb, if_pos rfl]
      rfl
     ·have hs1 : stB c (c.best F m (k + 1)) k d t ch0 true = ch0 := by
       unfold stB
       split
       ·rename_i h2; rw [if_neg (fun h9 => h1 ⟨h2, h9.1⟩)]
       ·rfl
      rw [hs1] at hb
      rw [if_neg h1, hb, if_neg (by decide)]
      rfl
  ·have h5 := best_step h
   show c.en ((c.best F (m + 1) k d t).r :: c.wy F m (k + 1) (c.leg k d t (c.best F (m + 1) k d t).r).don (c.leg k d t (c.best F (m + 1) k d t).r).sin) k d t = _
   rw [h5.2.2.2]
   exact (min_best hn hr m (k + 1) _ _).2 h5.2.2.1
end CrT
end Go.Proofs.YtomebalolmabnaaDoor.T



