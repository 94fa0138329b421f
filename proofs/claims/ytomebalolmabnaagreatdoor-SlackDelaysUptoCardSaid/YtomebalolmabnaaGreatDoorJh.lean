/-
  DERIVED. Jh: a part of the base of layer 13 (made by pack.py).
-/
import Derived.Test.YtomebalolmabnaaGreatDoorGF
import Derived.Test.YtomebalolmabnaaGreatDoorJg
import Derived.Test.YtomebalolmabnaaGreatDoorGA
import Derived.Test.YtomebalolmabnaaGreatDoorJe
/-! The laws of slack: numbers, sheets, few (by gen_jh.py). -/
namespace Go.Proofs.YtomebalolmabnaaGreatDoor.T
open Go.RowKit
set_option maxRecDepth 8000
attribute [local irreducible] wpList Code.wp wpAnyH

theorem numbers_n (A B : List Int) (oA oB : Option Addr) (cA cB bA qA bB qB : Nat) (lA : A.length ≤ 1000000) (w : World) (hA : Rw w bA qA 1 (fun k => inE (A.getD k 0)) A.length oA) (hB2 : Rw w bB qB 1 (fun k => inE (B.getD k 0)) B.length oB) : Calls Tryz.prog 11 #[.slice oA A.length cA, .slice oB B.length cB] w fun e w' => e = .returned (.bool (decide (A = B))) ∧ Below w.heap.size w w' := by
 have HB : Below w.heap.size w w := Below.refl _ _
 refine sx_enter Tryz.func11 rfl [(0, .slice oA A.length cA), (1, .slice oB B.length cB)] (by kernel_rfl) ?_
 refine Yq (Zv rfl (.bool false) (Yn (Yo (Ys (Yq (Zv rfl (.slice oA A.length cA) (Zv rfl (.int .i64 ((A.length : Nat) : Int)) (Zv rfl (.slice oB B.length cB) (Zv rfl (.int .i64 ((B.length : Nat) : Int)) ?_)))))))))
 by_cases C1 : A.length = B.length
 ·refine Zb rfl ((((A.length : Nat) : Int) : Int) != (((B.length : Nat) : Int) : Int)) false (by rw [bne_eq_false_iff_eq]; omega) (Yn (Yo (sx_false (by kernel_rfl) (wp_skip (Yo (Ys (Yq (Zv rfl (.int .i64 0) (Yn (Yo (wp_block ?_)))))))))))
  refine sx_loop (fun j : Nat => [(0, .slice oA A.length cA), (1, .slice oB B.length cB), (5, .int .i64 ((j : Nat) : Int)), (6, .slice oA A.length cA), (7, .int .i64 ((A.length : Nat) : Int)), (8, .slice oB B.length cB), (9, .int .i64 ((B.length : Nat) : Int)), (10, .bool false)]) (fun gg j wr => j ≤ A.length ∧ A.length - j ≤ gg ∧ (∀ i, i < j → A.getD i 0 = B.getD i 0) ∧ Below w.heap.size w wr) (A.length) (0) (by kernel_rfl) ⟨Nat.zero_le _, Nat.le_refl _, (fun i hi => absurd hi (Nat.not_lt_zero i)), Below.refl _ _⟩ ?_
  rintro gg j g' wr1 ⟨hj, hg, hJ, hbl⟩
  replace HB := over HB hbl
  have z1 := hbl.size
  have HL := hbl
  clear hbl
  refine Ys (Yq (Zv rfl (.int .i64 ((j : Nat) : Int)) (Zv rfl (.slice oA A.length cA) (Zv rfl (.int .i64 ((A.length : Nat) : Int)) ?_))))
  by_cases C2 : j < A.length
  ·refine Zb rfl (decide (((j : Nat) : Int) < ((A.length : Nat) : Int))) true (decide_eq_true (by omega)) (Yn (Yo (sx_true (by kernel_rfl) (wp_skip (Yo (Ys (wp_block (Ys ?_))))))))
   obtain ⟨Y2, hW⟩ : ∃ W, wr1.drew = W := ⟨_, rfl⟩
   have hb : Below wr1.heap.size wr1 Y2 := hW ▸ below_drew (Below.refl _ _)
   replace HB := over HB hb
   replace HL := over HL hb
   have z2 := hb.size
   clear hb
   refine sd_begin (fun W => Rw W bA qA 1 (fun k1 => inE (A.getD k1 0)) A.length oA ∧ Rw W bB qB 1 (fun k1 => inE (B.getD k1 0)) B.length oB ∧ True) (by kernel_rfl) (by rw [hW]; exact ⟨(hA.below HB), (hB2.below HB), trivial⟩) ?_
   rw [hW]
   clear hW
   refine Zu 0 rfl rfl (.slice oA A.length cA) ⟨(hA.below HB), (hB2.below HB), trivial⟩ ?_
   refine Zu 1 rfl rfl (.int .i64 ((j : Nat) : Int)) ⟨(hA.below HB), (hB2.below HB), trivial⟩ ?_
   refine Zt 2 rfl rfl (.pointer (some ⟨bA, qA + j * 1, none⟩)) (fun w9 h9 => ex_indexO (q := qA) (m := A.length) (c := cA) (k := j) (s := 1) rfl (by kernel_rfl) (h9.1.oa (k := j) (by omega)) (by kernel_rfl) Tryz.underlying42 (by kernel_rfl) (by omega) (by omega)) ⟨(hA.below HB), (hB2.below HB), trivial⟩ ?_
   refine Zt 3 rfl rfl (.int .i64 (A.getD j 0)) (fun w9 h9 => el (h9.1.cell (k := j) (by omega) 0 rfl) Tryz.underlying3) ⟨(hA.below HB), (hB2.below HB), trivial⟩ ?_
   refine Zu 4 rfl rfl (.slice oB B.length cB) ⟨(hA.below HB), (hB2.below HB), trivial⟩ ?_
   refine Zu 5 rfl rfl (.int .i64 ((j : Nat) : Int)) ⟨(hA.below HB), (hB2.below HB), trivial⟩ ?_
   refine Zt 6 rfl rfl (.pointer (some ⟨bB, qB + j * 1, none⟩)) (fun w9 h9 => ex_indexO (q := qB) (m := B.length) (c := cB) (k := j) (s := 1) rfl (by kernel_rfl) (h9.2.1.oa (k := j) (by omega)) (by kernel_rfl) Tryz.underlying42 (by kernel_rfl) (by omega) (by omega)) ⟨(hA.below HB), (hB2.below HB), trivial⟩ ?_
   refine Zt 7 rfl rfl (.int .i64 (B.getD j 0)) (fun w9 h9 => el (h9.2.1.cell (k := j) (by omega) 0 rfl) Tryz.underlying3) ⟨(hA.below HB), (hB2.below HB), trivial⟩ ?_
   by_cases C3 : (A.getD j 0) = (B.getD j 0)
   ·refine Zt 8 rfl rfl (.bool false) (fun w9 _ => ex_bool (((A.getD j 0) : Int) != ((B.getD j 0) : Int)) false (by kernel_rfl) (by rw [bne_eq_false_iff_eq]; omega)) ⟨(hA.below HB), (hB2.below HB), trivial⟩ ?_
    refine sd_done (by kernel_rfl) ?_
    refine Yo (sx_false (by kernel_rfl) (wp_skip ?_))
    refine sx_in ?_
    refine Yo (Yr (Zv rfl (.int .i64 ((j : Nat) : Int)) (Zi rfl (IntKind.i64.wrap (((j : Nat) : Int) + 1)) (((j + 1 : Nat) : Int)) (by rw [IntKind.wrap_i64]; omega) (Zv rfl (.int .i64 ((j + 1 : Nat) : Int)) (Yn (Yo ?_))))))
    exact sx_again (A.length - (j + 1)) (j + 1) (by omega) (by kernel_rfl) ⟨by omega, Nat.le_refl _, ext_more hJ (by assumption), HL⟩
   refine Zt 8 rfl rfl (.bool true) (fun w9 _ => ex_bool (((A.getD j 0) : Int) != ((B.getD j 0) : Int)) true (by kernel_rfl) (bne_iff_ne.2 (by omega))) ⟨(hA.below HB), (hB2.below HB), trivial⟩ ?_
   refine sd_done (by kernel_rfl) ?_
   refine Yo (sx_true (by kernel_rfl) (Yq (Zv rfl (.bool false) (Yn (Yo (wp_ret ?_))))))
   refine sx_rb ?_
   refine sx_rs (sx_rs ?_)
   refine sx_rb ?_
   refine sx_rs ?_
   refine sx_ret1 (.bool false) rfl rfl (by kernel_rfl) ⟨by rw [decide_eq_false (fun h => absurd (by rw [h]) (by assumption : ¬ (A.getD j 0) = (B.getD j 0)))], HB⟩
  refine Zb rfl (decide (((j : Nat) : Int) < ((A.length : Nat) : Int))) false (decide_eq_false (by omega)) (Yn (Yo (sx_false (by kernel_rfl) (wp_exit ?_))))
  refine sx_es ?_
  refine sx_es ?_
  refine sx_out ?_
  refine Yo (Yq (Zv rfl (.bool true) (Yn (Yo (wp_ret ?_)))))
  refine sx_ret1 (.bool true) rfl rfl (by kernel_rfl) ⟨by rw [decide_eq_true (ext_getD (d := 0) (by assumption) (fun i hi => hJ i (by omega)))], HB⟩
 refine Zb rfl ((((A.length : Nat) : Int) : Int) != (((B.length : Nat) : Int) : Int)) true (bne_iff_ne.2 (by omega)) (Yn (Yo (sx_true (by kernel_rfl) (Yq (Zv rfl (.bool false) (Yn (Yo (wp_ret (sx_rs ?_)))))))))
 refine sx_ret1 (.bool false) rfl rfl (by kernel_rfl) ⟨by rw [decide_eq_false (fun h => by subst h; exact absurd rfl (by assumption))], HB⟩
theorem sheets_n (S R : ShT) (oS oR : Option Addr) (cS cR bS qS bR qR : Nat) (lS : S.T.length ≤ 1000000) (lR : R.T.length ≤ 1000000) (w : World) (hS : Rw w bS qS 4 (fun k => tmE (S.T.getD k tm0)) S.T.length oS) (hR : Rw w bR qR 4 (fun k => tmE (R.T.getD k tm0)) R.T.length oR) : Calls Tryz.prog 14 #[.agg (sK S oS cS), .agg (sK R oR cR)] w fun e w' => e = .returned (.bool (decide (S = R))) ∧ Below w.heap.size w w' := by
 have HB : Below w.heap.size w w := Below.refl _ _
 refine sx_enter Tryz.func14 rfl [(0, .agg (sK S oS cS)), (1, .agg (sK R oR cR))] (by kernel_rfl) ?_
 refine Yq ?_
 refine Za rfl (sK S oS cS) 37 (fun W1 hb M2 z1 yM2 => ?_)
 replace HB := over HB hb
 clear hb
 refine Za rfl (sK R oR cR) 37 (fun W3 hb M4 z2 yM4 => ?_)
 replace HB := over HB hb
 replace M2 := M2.below hb
 clear hb
 refine Zv rfl (.bool false) (Yn (Yo (Ys (Yq (Zv rfl (.pointer (some ⟨w.heap.size, 0, none⟩)) (Zw rfl (.bool S.r) (el (M2.cell 0 rfl) Tryz.underlying4) (Zv rfl (.pointer (some ⟨W1.heap.size, 0, none⟩)) (Zw rfl (.bool R.r) (el (M4.cell 0 rfl) Tryz.underlying4) ?_))))))))
 by_cases C1 : S.r = R.r
 ·refine Zb rfl ((S.r != R.r)) false (by rw [C1]; exact bne_self_eq_false _) (Zv rfl (.bool false) (Zv rfl (.pointer (some ⟨w.heap.size, 1, none⟩)) (Zw rfl (.int .i64 S.d) (el (M2.cell 1 rfl) Tryz.underlying3) (Zv rfl (.pointer (some ⟨W1.heap.size, 1, none⟩)) (Zw rfl (.int .i64 R.d) (el (M4.cell 1 rfl) Tryz.underlying3) ?_)))))
  by_cases C2 : S.d = R.d
  ·refine Zb rfl ((S.d : Int) != (R.d : Int)) false (by rw [bne_eq_false_iff_eq]; omega) (Zv rfl (.bool false) (Zv rfl (.bool false) (Zv rfl (.pointer (some ⟨w.heap.size, 3, none⟩)) (Zw rfl (.int .i64 S.e) (el (M2.cell 3 rfl) Tryz.underlying3) (Zv rfl (.pointer (some ⟨W1.heap.size, 3, none⟩)) (Zw rfl (.int .i64 R.e) (el (M4.cell 3 rfl) Tryz.underlying3) ?_))))))
   by_cases C3 : S.e = R.e
   ·refine Zb rfl ((S.e : Int) != (R.e : Int)) false (by rw [bne_eq_false_iff_eq]; omega) (Zv rfl (.bool false) (Zv rfl (.bool false) (Zv rfl (.pointer (some ⟨w.heap.size, 4, none⟩)) (Zw rfl (.int .i64 S.m) (el (M2.cell 4 rfl) Tryz.underlying3) (Zv rfl (.pointer (some ⟨W1.heap.size, 4, none⟩)) (Zw rfl (.int .i64 R.m) (el (M4.cell 4 rfl) Tryz.underlying3) ?_))))))
    by_cases C4 : S.m = R.m
    ·refine Zb rfl ((S.m : Int) != (R.m : Int)) false (by rw [bne_eq_false_iff_eq]; omega) (Zv rfl (.bool false) (Zv rfl (.bool false) (Zv rfl (.pointer (some ⟨w.heap.size, 2, none⟩)) (Zw rfl (.slice oS S.T.length cS) (el (M2.cell 2 rfl) Tryz.underlying35) (Zv rfl (.int .i64 ((S.T.length : Nat) : Int)) (Zv rfl (.pointer (some ⟨W1.heap.size, 2, none⟩)) (Zw rfl (.slice oR R.T.length cR) (el (M4.cell 2 rfl) Tryz.underlying35) (Zv rfl (.int .i64 ((R.T.length : Nat) : Int)) ?_))))))))
     by_cases C5 : S.T.length = R.T.length
     ·refine Zb rfl ((((S.T.length : Nat) : Int) : Int) != (((R.T.length : Nat) : Int) : Int)) false (by rw [bne_eq_false_iff_eq]; omega) (Zv rfl (.bool false) (Yn (Yo (sx_false (by kernel_rfl) (wp_skip (Yo (Ys (Yq (Zv rfl (.int .i64 0) (Yn (Yo (wp_block ?_))))))))))))
      refine sx_loop (fun j : Nat => [(0, .agg (sK S oS cS)), (1, .agg (sK R oR cR)), (2, .pointer (some ⟨w.heap.size, 0, none⟩)), (3, .pointer (some ⟨W1.heap.size, 0, none⟩)), (5, .int .i64 ((j : Nat) : Int)), (6, .pointer (some ⟨w.heap.size, 0, none⟩)), (7, .bool S.r), (8, .pointer (some ⟨W1.heap.size, 0, none⟩)), (9, .bool R.r), (10, .bool false), (11, .bool false), (12, .pointer (some ⟨w.heap.size, 1, none⟩)), (13, .int .i64 S.d), (14, .pointer (some ⟨W1.heap.size, 1, none⟩)), (15, .int .i64 R.d), (16, .bool false), (17, .bool false), (18, .bool false), (19, .pointer (some ⟨w.heap.size, 3, none⟩)), (20, .int .i64 S.e), (21, .pointer (some ⟨W1.heap.size, 3, none⟩)), (22, .int .i64 R.e), (23, .bool false), (24, .bool false), (25, .bool false), (26, .pointer (some ⟨w.heap.size, 4, none⟩)), (27, .int .i64 S.m), (28, .pointer (some ⟨W1.heap.size, 4, none⟩)), (29, .int .i64 R.m), (30, .bool false), (31, .bool false), (32, .bool false), (33, .pointer (some ⟨w.heap.size, 2, none⟩)), (34, .slice oS S.T.length cS), (35, .int .i64 ((S.T.length : Nat) : Int)), (36, .pointer (some ⟨W1.heap.size, 2, none⟩)), (37, .slice oR R.T.length cR), (38, .int .i64 ((R.T.length : Nat) : Int)), (39, .bool false), (40, .bool false)]) (fun gg j wr => j ≤ S.T.length ∧ S.T.length - j ≤ gg ∧ (∀ i, i < j → S.T.getD i tm0 = R.T.getD i tm0) ∧ Below W3.heap.size W3 wr) (S.T.length) (0) (by kernel_rfl) ⟨Nat.zero_le _, Nat.le_refl _, (fun i hi => absurd hi (Nat.not_lt_zero i)), Below.refl _ _⟩ ?_
      rintro gg j g' wr5 ⟨hj, hg, hJ, hbl⟩
      replace HB := over HB hbl
      replace M2 := M2.below hbl
      replace M4 := M4.below hbl
      have z3 := hbl.size
      have HL := hbl
      clear hbl
      refine Ys (Yq (Zv rfl (.int .i64 ((j : Nat) : Int)) (Zv rfl (.pointer (some ⟨w.heap.size, 2, none⟩)) (Zw rfl (.slice oS S.T.length cS) (el (M2.cell 2 rfl) Tryz.underlying35) (Zv rfl (.int .i64 ((S.T.length : Nat) : Int)) ?_)))))
      by_cases C6 : j < S.T.length
      ·refine Zb rfl (decide (((j : Nat) : Int) < ((S.T.length : Nat) : Int))) true (decide_eq_true (by omega)) (Yn (Yo (sx_true (by kernel_rfl) (wp_skip (Yo (Ys (wp_block (Ys ?_))))))))
       obtain ⟨Y6, hW⟩ : ∃ W, wr5.drew = W := ⟨_, rfl⟩
       have hb : Below wr5.heap.size wr5 Y6 := hW ▸ below_drew (Below.refl _ _)
       replace HB := over HB hb
       replace M2 := M2.below hb
       replace M4 := M4.below hb
       replace HL := over HL hb
       have z4 := hb.size
       clear hb
       refine sd_begin (fun W => Cb W (w.heap.size) (sK S oS cS) 37 ∧ Cb W (W1.heap.size) (sK R oR cR) 37 ∧ Rw W bS qS 4 (fun k => tmE (S.T.getD k tm0)) S.T.length oS ∧ Rw W bR qR 4 (fun k => tmE (R.T.getD k tm0)) R.T.length oR ∧ True) (by kernel_rfl) (by rw [hW]; exact ⟨M2, M4, (hS.below HB), (hR.below HB), trivial⟩) ?_
       rw [hW]
       clear hW
       refine Zu 0 rfl rfl (.pointer (some ⟨w.heap.size, 2, none⟩)) ⟨M2, M4, (hS.below HB), (hR.below HB), trivial⟩ ?_
       refine Zt 1 rfl rfl (.slice oS S.T.length cS) (fun w9 h9 => el (h9.1.cell 2 rfl) Tryz.underlying35) ⟨M2, M4, (hS.below HB), (hR.below HB), trivial⟩ ?_
       refine Zu 2 rfl rfl (.int .i64 ((j : Nat) : Int)) ⟨M2, M4, (hS.below HB), (hR.below HB), trivial⟩ ?_
       refine Zt 3 rfl rfl (.pointer (some ⟨bS, qS + j * 4, none⟩)) (fun w9 h9 => ex_indexO (q := qS) (m := S.T.length) (c := cS) (k := j) (s := 4) rfl (by kernel_rfl) (h9.2.2.1.oa (k := j) (by omega)) (by kernel_rfl) Tryz.underlying35 (by kernel_rfl) (by omega) (by omega)) ⟨M2, M4, (hS.below HB), (hR.below HB), trivial⟩ ?_
       refine Zt 4 rfl rfl (.agg #[.int .i64 ((S.T.getD j tm0).a), .int .i64 ((S.T.getD j tm0).b), .int .i64 ((S.T.getD j tm0).d), .bool (S.T.getD j tm0).r]) (fun w9 h9 => ex_loadR rfl (h9.2.2.1.range (k := j) (by omega)) (by kernel_rfl) Tryz.underlying61 rfl (by kernel_rfl)) ⟨M2, M4, (hS.below HB), (hR.below HB), trivial⟩ ?_
       refine Zu 5 rfl rfl (.pointer (some ⟨W1.heap.size, 2, none⟩)) ⟨M2, M4, (hS.below HB), (hR.below HB), trivial⟩ ?_
       refine Zt 6 rfl rfl (.slice oR R.T.length cR) (fun w9 h9 => el (h9.2.1.cell 2 rfl) Tryz.underlying35) ⟨M2, M4, (hS.below HB), (hR.below HB), trivial⟩ ?_
       refine Zu 7 rfl rfl (.int .i64 ((j : Nat) : Int)) ⟨M2, M4, (hS.below HB), (hR.below HB), trivial⟩ ?_
       refine Zt 8 rfl rfl (.pointer (some ⟨bR, qR + j * 4, none⟩)) (fun w9 h9 => ex_indexO (q := qR) (m := R.T.length) (c := cR) (k := j) (s := 4) rfl (by kernel_rfl) (h9.2.2.2.1.oa (k := j) (by omega)) (by kernel_rfl) Tryz.underlying35 (by kernel_rfl) (by omega) (by omega)) ⟨M2, M4, (hS.below HB), (hR.below HB), trivial⟩ ?_
       refine Zt 9 rfl rfl (.agg #[.int .i64 ((R.T.getD j tm0).a), .int .i64 ((R.T.getD j tm0).b), .int .i64 ((R.T.getD j tm0).d), .bool (R.T.getD j tm0).r]) (fun w9 h9 => ex_loadR rfl (h9.2.2.2.1.range (k := j) (by omega)) (by kernel_rfl) Tryz.underlying61 rfl (by kernel_rfl)) ⟨M2, M4, (hS.below HB), (hR.below HB), trivial⟩ ?_
       by_cases C7 : (S.T.getD j tm0).a = (R.T.getD j tm0).a ∧ (S.T.getD j tm0).b = (R.T.getD j tm0).b ∧ (S.T.getD j tm0).d = (R.T.getD j tm0).d ∧ (S.T.getD j tm0).r = (R.T.getD j tm0).r
       ·refine Zt 10 rfl rfl (.bool false) (fun w9 h9 => ex_bool (!((S.T.getD j tm0).a == (R.T.getD j tm0).a && (S.T.getD j tm0).b == (R.T.getD j tm0).b && (S.T.getD j tm0).d == (R.T.getD j tm0).d && (S.T.getD j tm0).r == (R.T.getD j tm0).r)) false (ex_neqT rfl (by kernel_rfl) (by kernel_rfl)) (by rw [eqv_t C7]; rfl)) ⟨M2, M4, (hS.below HB), (hR.below HB), trivial⟩ ?_
        refine sd_done (by kernel_rfl) ?_
        refine Yo (sx_false (by kernel_rfl) (wp_skip ?_))
        refine sx_in ?_
        refine Yo (Yr (Zv rfl (.int .i64 ((j : Nat) : Int)) (Zi rfl (IntKind.i64.wrap (((j : Nat) : Int) + 1)) (((j + 1 : Nat) : Int)) (by rw [IntKind.wrap_i64]; omega) (Zv rfl (.int .i64 ((j + 1 : Nat) : Int)) (Yn (Yo ?_))))))
        exact sx_again (S.T.length - (j + 1)) (j + 1) (by omega) (by kernel_rfl) ⟨by omega, Nat.le_refl _, ext_more hJ (tm_ext (by assumption)), HL⟩
       refine Zt 10 rfl rfl (.bool true) (fun w9 h9 => ex_bool (!((S.T.getD j tm0).a == (R.T.getD j tm0).a && (S.T.getD j tm0).b == (R.T.getD j tm0).b && (S.T.getD j tm0).d == (R.T.getD j tm0).d && (S.T.getD j tm0).r == (R.T.getD j tm0).r)) true (ex_neqT rfl (by kernel_rfl) (by kernel_rfl)) (by rw [eqv_f C7]; rfl)) ⟨M2, M4, (hS.below HB), (hR.below HB), trivial⟩ ?_
       refine sd_done (by kernel_rfl) ?_
       refine Yo (sx_true (by kernel_rfl) (Yq (Zv rfl (.bool false) (Yn (Yo (wp_ret ?_))))))
       refine sx_rb ?_
       refine sx_rs (sx_rs ?_)
       refine sx_rb ?_
       refine sx_rs ?_
       refine sx_ret1 (.bool false) rfl rfl (by kernel_rfl) ⟨by rw [decide_eq_false (fun h => absurd (by rw [h]; exact ⟨rfl, rfl, rfl, rfl⟩) (by assumption : ¬ ((S.T.getD j tm0).a = (R.T.getD j tm0).a ∧ (S.T.getD j tm0).b = (R.T.getD j tm0).b ∧ (S.T.getD j tm0).d = (R.T.getD j tm0).d ∧ (S.T.getD j tm0).r = (R.T.getD j tm0).r)))], HB⟩
      refine Zb rfl (decide (((j : Nat) : Int) < ((S.T.length : Nat) : Int))) false (decide_eq_false (by omega)) (Yn (Yo (sx_false (by kernel_rfl) (wp_exit ?_))))
      refine sx_es ?_
      refine sx_es ?_
      refine sx_out ?_
      refine Yo (Yq (Zv rfl (.bool true) (Yn (Yo (wp_ret ?_)))))
      refine sx_ret1 (.bool true) rfl rfl (by kernel_rfl) ⟨by rw [decide_eq_true (sh_ext ⟨by assumption, by assumption, by assumption, by assumption, ext_getD (d := tm0) (by assumption) (fun i hi => hJ i (by omega))⟩)], HB⟩
     refine Zb rfl ((((S.T.length : Nat) : Int) : Int) != (((R.T.length : Nat) : Int) : Int)) true (bne_iff_ne.2 (by omega)) (Zv rfl (.bool true) (Yn (Yo (sx_true (by kernel_rfl) (Yq (Zv rfl (.bool false) (Yn (Yo (wp_ret (sx_rs ?_))))))))))
     refine sx_ret1 (.bool false) rfl rfl (by kernel_rfl) ⟨by rw [decide_eq_false (fun h => by subst h; first | (exact absurd rfl (by assumption)) | simp_all)], HB⟩
    refine Zb rfl ((S.m : Int) != (R.m : Int)) true (bne_iff_ne.2 (by omega)) (Zv rfl (.bool true) (Zv rfl (.bool true) (Zk rfl (Zk rfl (Zk rfl (Zk rfl (Zk rfl (Zk rfl (Zk rfl (Zv rfl (.bool true) (Yn (Yo ?_))))))))))))
    refine sx_true (by kernel_rfl) (Yq (Zv rfl (.bool false) (Yn (Yo (wp_ret (sx_rs ?_))))))
    refine sx_ret1 (.bool false) rfl rfl (by kernel_rfl) ⟨by rw [decide_eq_false (fun h => by subst h; first | (exact absurd rfl (by assumption)) | simp_all)], HB⟩
   refine Zb rfl ((S.e : Int) != (R.e : Int)) true (bne_iff_ne.2 (by omega)) (Zv rfl (.bool true) (Zv rfl (.bool true) (Zk rfl (Zk rfl (Zk rfl (Zk rfl (Zk rfl (Zv rfl (.bool true) (Zv rfl (.bool true) (Zk rfl (Zk rfl ?_)))))))))))
   refine Zk rfl (Zk rfl (Zk rfl (Zk rfl (Zk rfl (Zv rfl (.bool true) (Yn (Yo (sx_true (by kernel_rfl) (Yq (Zv rfl (.bool false) (Yn (Yo (wp_ret (sx_rs ?_))))))))))))))
   refine sx_ret1 (.bool false) rfl rfl (by kernel_rfl) ⟨by rw [decide_eq_false (fun h => by subst h; first | (exact absurd rfl (by assumption)) | simp_all)], HB⟩
  refine Zb rfl ((S.d : Int) != (R.d : Int)) true (bne_iff_ne.2 (by omega)) (Zv rfl (.bool true) (Zv rfl (.bool true) (Zk rfl (Zk rfl (Zk rfl (Zk rfl (Zk rfl (Zv rfl (.bool true) (Zv rfl (.bool true) (Zk rfl (Zk rfl ?_)))))))))))
  refine Zk rfl (Zk rfl (Zk rfl (Zv rfl (.bool true) (Zv rfl (.bool true) (Zk rfl (Zk rfl (Zk rfl (Zk rfl (Zk rfl (Zk rfl (Zk rfl ?_)))))))))))
  refine Zv rfl (.bool true) (Yn (Yo (sx_true (by kernel_rfl) (Yq (Zv rfl (.bool false) (Yn (Yo (wp_ret (sx_rs ?_)))))))))
  refine sx_ret1 (.bool false) rfl rfl (by kernel_rfl) ⟨by rw [decide_eq_false (fun h => by subst h; first | (exact absurd rfl (by assumption)) | simp_all)], HB⟩
 refine Zb rfl ((S.r != R.r)) true (bne_iff_ne.2 C1) (Zv rfl (.bool true) (Zk rfl (Zk rfl (Zk rfl (Zk rfl (Zk rfl (Zv rfl (.bool true) (Zv rfl (.bool true) (Zk rfl (Zk rfl (Zk rfl ?_)))))))))))
 refine Zk rfl (Zk rfl (Zv rfl (.bool true) (Zv rfl (.bool true) (Zk rfl (Zk rfl (Zk rfl (Zk rfl (Zk rfl (Zv rfl (.bool true) (Zv rfl (.bool true) (Zk rfl ?_)))))))))))
 refine Zk rfl (Zk rfl (Zk rfl (Zk rfl (Zk rfl (Zk rfl (Zv rfl (.bool true) (Yn (Yo (sx_true (by kernel_rfl) (Yq (Zv rfl (.bool false) (Yn (Yo (wp_ret (sx_rs ?_)))))))))))))))
 refine sx_ret1 (.bool false) rfl rfl (by kernel_rfl) ⟨by rw [decide_eq_false (fun h => by subst h; first | (exact absurd rfl (by assumption)) | simp_all)], HB⟩
def fewB (x : InT) (l : List (Int × Bool)) (F : List Bool) (S : ShT) : Bool := decide (x.ol.length ≤ 4) && decide (l.length ≤ 10) && decide (S.T.length ≤ 12) && decide (F.length ≤ 12) && decide ((inF x).length = 0)
theorem few_is {x : InT} {l : List (Int × Bool)} {F : List Bool} {S : ShT} (h : fewB x l F S = true) : inF x = [] := by
 unfold fewB at h
 simp only [Bool.and_eq_true, decide_eq_true_eq] at h
 exact List.length_eq_zero_iff.1 h.2
theorem few_n (k : Iv) (x : InT) (hx : InU x) (ty st : Int) (orr oa oS : Option Addr) (cr ca cS : Nat) (l : List (Int × Bool)) (F : List Bool) (S : ShT) (w : World) (hI : Ins w k x) : Calls Tryz.prog 5 #[.agg #[.slice k.o0 x.pl.length k.c0, .slice k.o1 x.al.length k.c1, .slice k.o2 x.tl.length k.c2, .slice k.o3 x.ol.length k.c3, .slice k.o4 x.ap.length k.c4, .slice k.o5 x.be.length k.c5, .int .i64 ty, .int .i64 st, .slice orr F.length cr, .slice oa l.length ca, .bool S.r, .int .i64 S.d, .slice oS S.T.length cS, .int .i64 S.e, .int .i64 S.m]] w fun e w' => e = .returned (.bool (fewB x l F S)) ∧ Below w.heap.size w w' := by
 have HB : Below w.heap.size w w := Below.refl _ _
 refine sx_enter Tryz.func5 rfl [(0, .agg #[.slice k.o0 x.pl.length k.c0, .slice k.o1 x.al.length k.c1, .slice k.o2 x.tl.length k.c2, .slice k.o3 x.ol.length k.c3, .slice k.o4 x.ap.length k.c4, .slice k.o5 x.be.length k.c5, .int .i64 ty, .int .i64 st, .slice orr F.length cr, .slice oa l.length ca, .bool S.r, .int .i64 S.d, .slice oS S.T.length cS, .int .i64 S.e, .int .i64 S.m])] (by kernel_rfl) ?_
 refine Yq ?_
 refine Za rfl #[.slice k.o0 x.pl.length k.c0, .slice k.o1 x.al.length k.c1, .slice k.o2 x.tl.length k.c2, .slice k.o3 x.ol.length k.c3, .slice k.o4 x.ap.length k.c4, .slice k.o5 x.be.length k.c5, .int .i64 ty, .int .i64 st, .slice orr F.length cr, .slice oa l.length ca, .bool S.r, .int .i64 S.d, .slice oS S.T.length cS, .int .i64 S.e, .int .i64 S.m] 39 (fun W1 hb M2 z1 yM2 => ?_)
 replace HB := over HB hb
 clear hb
 refine Zv rfl (.bool false) (Yn (Yo (Yq (Zv rfl (.pointer (some ⟨w.heap.size, 0, none⟩)) (Zv rfl (.pointer (some ⟨w.heap.size, 3, none⟩)) (Zw rfl (.slice k.o3 x.ol.length k.c3) (el (M2.cell 3 rfl) Tryz.underlying27) (Zv rfl (.int .i64 ((x.ol.length : Nat) : Int)) ?_)))))))
 by_cases C1 : x.ol.length ≤ 4
 ·refine Zb rfl (decide (((x.ol.length : Nat) : Int) ≤ 4)) true (decide_eq_true (by omega)) (Zv rfl (.bool true) (Zv rfl (.pointer (some ⟨w.heap.size, 6, none⟩)) (Zv rfl (.pointer (some ⟨w.heap.size, 9, none⟩)) (Zw rfl (.slice oa l.length ca) (el (M2.cell 9 rfl) Tryz.underlying32) (Zv rfl (.int .i64 ((l.length : Nat) : Int)) ?_)))))
  by_cases C2 : l.length ≤ 10
  ·refine Zb rfl (decide (((l.length : Nat) : Int) ≤ 10)) true (decide_eq_true (by omega)) (Zv rfl (.bool true) (Zv rfl (.bool true) (Zv rfl (.pointer (some ⟨w.heap.size, 10, none⟩)) (Zv rfl (.pointer (some ⟨w.heap.size, 12, none⟩)) (Zw rfl (.slice oS S.T.length cS) (el (M2.cell 12 rfl) Tryz.underlying35) (Zv rfl (.int .i64 ((S.T.length : Nat) : Int)) ?_))))))
   by_cases C3 : S.T.length ≤ 12
   ·refine Zb rfl (decide (((S.T.length : Nat) : Int) ≤ 12)) true (decide_eq_true (by omega)) (Zv rfl (.bool true) (Zv rfl (.bool true) (Zv rfl (.pointer (some ⟨w.heap.size, 6, none⟩)) (Zv rfl (.pointer (some ⟨w.heap.size, 8, none⟩)) (Zw rfl (.slice orr F.length cr) (el (M2.cell 8 rfl) Tryz.underlying31) (Zv rfl (.int .i64 ((F.length : Nat) : Int)) ?_))))))
    by_cases C4 : F.length ≤ 12
    ·refine Zb rfl (decide (((F.length : Nat) : Int) ≤ 12)) true (decide_eq_true (by omega)) (Zv rfl (.bool true) (Zv rfl (.bool true) (Zv rfl (.pointer (some ⟨w.heap.size, 0, none⟩)) (Zw rfl (.agg (iK k x)) (ex_mid (q := 0) rfl M2 [.slice k.o0 x.pl.length k.c0, .slice k.o1 x.al.length k.c1, .slice k.o2 x.tl.length k.c2, .slice k.o3 x.ol.length k.c3, .slice k.o4 x.ap.length k.c4, .slice k.o5 x.be.length k.c5] (by kernel_rfl) Tryz.underlying30 rfl (by kernel_rfl) rfl) ?_))))
     refine Zc rfl (refInstU_n k.o0 k.o1 k.o2 k.o3 k.o4 k.o5 k.c0 k.c1 k.c2 k.c3 k.c4 k.c5 x hx W1 (hI.below HB).h0 (hI.below HB).h1 (hI.below HB).h2 (hI.below HB).h3 (hI.below HB).h4 (hI.below HB).h5) ?_
     rintro e W3 ⟨oq, cq, rfl, -, hb⟩
     replace HB := over HB hb
     have z2 := hb.size
     clear hb
     refine ⟨_, rfl, ?_⟩
     refine Zv rfl (.int .i64 (((inF x).length : Nat) : Int)) ?_
     by_cases C5 : (inF x).length = 0
     ·refine Zb rfl (((((inF x).length : Nat) : Int) : Int) == (0 : Int)) true (beq_iff_eq.2 (by omega)) (Zv rfl (.bool true) (Zv rfl (.bool true) (Yn (Yo (wp_ret ?_)))))
      refine sx_ret1 (.bool true) rfl rfl (by kernel_rfl) ⟨by unfold fewB; rw [decide_eq_true C1, decide_eq_true C2, decide_eq_true C3, decide_eq_true C4, decide_eq_true C5]; simp, HB⟩
     refine Zb rfl (((((inF x).length : Nat) : Int) : Int) == (0 : Int)) false (beq_eq_false_iff_ne.2 (by omega)) (Zv rfl (.bool false) (Zv rfl (.bool false) (Yn (Yo (wp_ret ?_)))))
     refine sx_ret1 (.bool false) rfl rfl (by kernel_rfl) ⟨by unfold fewB; rw [decide_eq_true C1, decide_eq_true C2, decide_eq_true C3, decide_eq_true C4, decide_eq_false C5]; simp, HB⟩
    refine Zb rfl (decide (((F.length : Nat) : Int) ≤ 12)) false (decide_eq_false (by omega)) (Zv rfl (.bool false) (Zv rfl (.bool false) (Zk rfl (Zk rfl (Zk rfl (Zk rfl (Zk rfl (Zv rfl (.bool false) (Zv rfl (.bool false) (Yn (Yo (wp_ret ?_))))))))))))
    refine sx_ret1 (.bool false) rfl rfl (by kernel_rfl) ⟨by unfold fewB; rw [decide_eq_true C1, decide_eq_true C2, decide_eq_true C3, decide_eq_false C4]; simp, HB⟩
   refine Zb rfl (decide (((S.T.length : Nat) : Int) ≤ 12)) false (decide_eq_false (by omega)) (Zv rfl (.bool false) (Zv rfl (.bool false) (Zk rfl (Zk rfl (Zk rfl (Zk rfl (Zk rfl (Zv rfl (.bool false) (Zv rfl (.bool false) (Zk rfl (Zk rfl ?_)))))))))))
   refine Zk rfl (Zk rfl (Zk rfl (Zv rfl (.bool false) (Zv rfl (.bool false) (Yn (Yo (wp_ret ?_)))))))
   refine sx_ret1 (.bool false) rfl rfl (by kernel_rfl) ⟨by unfold fewB; rw [decide_eq_true C1, decide_eq_true C2, decide_eq_false C3]; simp, HB⟩
  refine Zb rfl (decide (((l.length : Nat) : Int) ≤ 10)) false (decide_eq_false (by omega)) (Zv rfl (.bool false) (Zv rfl (.bool false) (Zk rfl (Zk rfl (Zk rfl (Zk rfl (Zk rfl (Zv rfl (.bool false) (Zv rfl (.bool false) (Zk rfl (Zk rfl ?_)))))))))))
  refine Zk rfl (Zk rfl (Zk rfl (Zv rfl (.bool false) (Zv rfl (.bool false) (Zk rfl (Zk rfl (Zk rfl (Zk rfl (Zk rfl (Zv rfl (.bool false) (Zv rfl (.bool false) ?_)))))))))))
  refine Yn (Yo (wp_ret ?_))
  refine sx_ret1 (.bool false) rfl rfl (by kernel_rfl) ⟨by unfold fewB; rw [decide_eq_true C1, decide_eq_false C2]; simp, HB⟩
 refine Zb rfl (decide (((x.ol.length : Nat) : Int) ≤ 4)) false (decide_eq_false (by omega)) (Zv rfl (.bool false) (Zk rfl (Zk rfl (Zk rfl (Zk rfl (Zk rfl (Zv rfl (.bool false) (Zv rfl (.bool false) (Zk rfl (Zk rfl (Zk rfl ?_)))))))))))
 refine Zk rfl (Zk rfl (Zv rfl (.bool false) (Zv rfl (.bool false) (Zk rfl (Zk rfl (Zk rfl (Zk rfl (Zk rfl (Zv rfl (.bool false) (Zv rfl (.bool false) (Zk rfl ?_)))))))))))
 refine Zk rfl (Zk rfl (Zk rfl (Zk rfl (Zv rfl (.bool false) (Zv rfl (.bool false) (Yn (Yo (wp_ret ?_))))))))
 refine sx_ret1 (.bool false) rfl rfl (by kernel_rfl) ⟨by unfold fewB; rw [decide_eq_false C1]; simp, HB⟩

end Go.Proofs.YtomebalolmabnaaGreatDoor.T



