/-
  DERIVED. Fe: a part of the base of layer 13 (made by pack.py).
-/
import Derived.Test.YtnapmildbodigaaDoorGA
import Derived.Test.YtnapmildbodigaaDoorDn
import Derived.Test.YtnapmildbodigaaDoorFc
/-! The specification of schedules: Run, Same (by gen_fe.py). -/
namespace Go.Proofs.YtnapmildbodigaaDoor.T
open Go.RowKit
set_option maxRecDepth 8000
attribute [local irreducible] wpList Code.wp wpAnyH

theorem refSame_n18 (S R : ShT) (oS oR : Option Addr) (cS cR bS qS bR qR : Nat) (lS : S.T.length ≤ 1000000) (w : World) (hS : Rw w bS qS 4 (fun k => tmE (S.T.getD k tm0)) S.T.length oS) (hR : Rw w bR qR 4 (fun k => tmE (R.T.getD k tm0)) R.T.length oR) : Calls Tryd.prog 13 #[.agg #[.bool S.r, .int .i64 S.d, .slice oS S.T.length cS, .int .i64 S.e, .int .i64 S.m], .agg #[.bool R.r, .int .i64 R.d, .slice oR R.T.length cR, .int .i64 R.e, .int .i64 R.m]] w fun e w' => e = .returned (.bool (decide (S = R))) ∧ Below w.heap.size w w' := by
 have HB : Below w.heap.size w w := Below.refl _ _
 refine sx_enter Tryd.func13 rfl [(0, .agg #[.bool S.r, .int .i64 S.d, .slice oS S.T.length cS, .int .i64 S.e, .int .i64 S.m]), (1, .agg #[.bool R.r, .int .i64 R.d, .slice oR R.T.length cR, .int .i64 R.e, .int .i64 R.m])] (by kernel_rfl) ?_
 refine wp_seq ?_
 refine wp_region_lit ?_
 obtain ⟨W1, hW, hb, hq⟩ := laidA w #[.bool S.r, .int .i64 S.d, .slice oS S.T.length cS, .int .i64 S.e, .int .i64 S.m] 39
 refine sx_mem (by kernel_rfl) rfl rfl (.pointer (some ⟨w.heap.size, 0, none⟩)) W1 (by rw [← hW]; kernel_rfl) ?_
 replace HB := over HB hb
 have z1 := hb.size
 have M2 := hq
 have yM2 := hq.lt
 clear hq hb hW
 obtain ⟨W3, hW, hb, hq⟩ := laidA W1 #[.bool R.r, .int .i64 R.d, .slice oR R.T.length cR, .int .i64 R.e, .int .i64 R.m] 39
 refine sx_mem (by kernel_rfl) rfl rfl (.pointer (some ⟨W1.heap.size, 0, none⟩)) W3 (by rw [← hW]; kernel_rfl) ?_
 replace HB := over HB hb
 replace M2 := M2.below hb
 have z2 := hb.size
 have M4 := hq
 have yM4 := hq.lt
 clear hq hb hW
 refine Zv rfl (.bool false) ?_
 refine wpList_nil ?_
 refine sx_norm ?_
 refine wp_seq ?_
 refine wp_seq ?_
 refine wp_region_lit ?_
 refine Zv rfl (.pointer (some ⟨w.heap.size, 0, none⟩)) ?_
 refine Zw rfl (.bool S.r) (el (M2.cell 0 rfl) Tryd.underlying4) ?_
 refine Zv rfl (.pointer (some ⟨W1.heap.size, 0, none⟩)) ?_
 refine Zw rfl (.bool R.r) (el (M4.cell 0 rfl) Tryd.underlying4) ?_
 by_cases C1 : S.r = R.r
 ·refine Zb rfl ((S.r != R.r)) false (by rw [C1]; exact bne_self_eq_false _) ?_
  refine Zv rfl (.bool false) ?_
  refine Zv rfl (.pointer (some ⟨w.heap.size, 1, none⟩)) ?_
  refine Zw rfl (.int .i64 S.d) (el (M2.cell 1 rfl) Tryd.underlying3) ?_
  refine Zv rfl (.pointer (some ⟨W1.heap.size, 1, none⟩)) ?_
  refine Zw rfl (.int .i64 R.d) (el (M4.cell 1 rfl) Tryd.underlying3) ?_
  by_cases C2 : S.d = R.d
  ·refine Zb rfl ((S.d : Int) != (R.d : Int)) false (by rw [bne_eq_false_iff_eq]; omega) ?_
   refine Zv rfl (.bool false) ?_
   refine Zv rfl (.bool false) ?_
   refine Zv rfl (.pointer (some ⟨w.heap.size, 3, none⟩)) ?_
   refine Zw rfl (.int .i64 S.e) (el (M2.cell 3 rfl) Tryd.underlying3) ?_
   refine Zv rfl (.pointer (some ⟨W1.heap.size, 3, none⟩)) ?_
   refine Zw rfl (.int .i64 R.e) (el (M4.cell 3 rfl) Tryd.underlying3) ?_
   by_cases C3 : S.e = R.e
   ·refine Zb rfl ((S.e : Int) != (R.e : Int)) false (by rw [bne_eq_false_iff_eq]; omega) ?_
    refine Zv rfl (.bool false) ?_
    refine Zv rfl (.bool false) ?_
    refine Zv rfl (.pointer (some ⟨w.heap.size, 4, none⟩)) ?_
    refine Zw rfl (.int .i64 S.m) (el (M2.cell 4 rfl) Tryd.underlying3) ?_
    refine Zv rfl (.pointer (some ⟨W1.heap.size, 4, none⟩)) ?_
    refine Zw rfl (.int .i64 R.m) (el (M4.cell 4 rfl) Tryd.underlying3) ?_
    by_cases C4 : S.m = R.m
    ·refine Zb rfl ((S.m : Int) != (R.m : Int)) false (by rw [bne_eq_false_iff_eq]; omega) ?_
     refine Zv rfl (.bool false) ?_
     refine Zv rfl (.bool false) ?_
     refine Zv rfl (.pointer (some ⟨w.heap.size, 2, none⟩)) ?_
     refine Zw rfl (.slice oS S.T.length cS) (el (M2.cell 2 rfl) Tryd.underlying37) ?_
     refine Zv rfl (.int .i64 ((S.T.length : Nat) : Int)) ?_
     refine Zv rfl (.pointer (some ⟨W1.heap.size, 2, none⟩)) ?_
     refine Zw rfl (.slice oR R.T.length cR) (el (M4.cell 2 rfl) Tryd.underlying37) ?_
     refine Zv rfl (.int .i64 ((R.T.length : Nat) : Int)) ?_
     by_cases C5 : S.T.length = R.T.length
     ·refine Zb rfl ((((S.T.length : Nat) : Int) : Int) != (((R.T.length : Nat) : Int) : Int)) false (by rw [bne_eq_false_iff_eq]; omega) ?_
      refine Zv rfl (.bool false) ?_
      refine wpList_nil ?_
      refine sx_norm ?_
      refine sx_false (by kernel_rfl) ?_
      refine wp_skip ?_
      refine sx_norm ?_
      refine wp_seq ?_
      refine wp_seq ?_
      refine wp_region_lit ?_
      refine Zv rfl (.int .i64 0) ?_
      refine wpList_nil ?_
      refine sx_norm ?_
      refine wp_block ?_
      refine sx_loop (fun j : Nat => [(0, .agg #[.bool S.r, .int .i64 S.d, .slice oS S.T.length cS, .int .i64 S.e, .int .i64 S.m]), (1, .agg #[.bool R.r, .int .i64 R.d, .slice oR R.T.length cR, .int .i64 R.e, .int .i64 R.m]), (2, .pointer (some ⟨w.heap.size, 0, none⟩)), (3, .pointer (some ⟨W1.heap.size, 0, none⟩)), (5, .int .i64 ((j : Nat) : Int)), (6, .pointer (some ⟨w.heap.size, 0, none⟩)), (7, .bool S.r), (8, .pointer (some ⟨W1.heap.size, 0, none⟩)), (9, .bool R.r), (10, .bool false), (11, .bool false), (12, .pointer (some ⟨w.heap.size, 1, none⟩)), (13, .int .i64 S.d), (14, .pointer (some ⟨W1.heap.size, 1, none⟩)), (15, .int .i64 R.d), (16, .bool false), (17, .bool false), (18, .bool false), (19, .pointer (some ⟨w.heap.size, 3, none⟩)), (20, .int .i64 S.e), (21, .pointer (some ⟨W1.heap.size, 3, none⟩)), (22, .int .i64 R.e), (23, .bool false), (24, .bool false), (25, .bool false), (26, .pointer (some ⟨w.heap.size, 4, none⟩)), (27, .int .i64 S.m), (28, .pointer (some ⟨W1.heap.size, 4, none⟩)), (29, .int .i64 R.m), (30, .bool false), (31, .bool false), (32, .bool false), (33, .pointer (some ⟨w.heap.size, 2, none⟩)), (34, .slice oS S.T.length cS), (35, .int .i64 ((S.T.length : Nat) : Int)), (36, .pointer (some ⟨W1.heap.size, 2, none⟩)), (37, .slice oR R.T.length cR), (38, .int .i64 ((R.T.length : Nat) : Int)), (39, .bool false), (40, .bool false)]) (fun gg j wr => j ≤ S.T.length ∧ S.T.length - j ≤ gg ∧ (∀ i, i < j → S.T.getD i tm0 = R.T.getD i tm0) ∧ Below W3.heap.size W3 wr) (S.T.length) (0) (by kernel_rfl) ⟨Nat.zero_le _, Nat.le_refl _, (fun i hi => absurd hi (Nat.not_lt_zero i)), Below.refl _ _⟩ ?_
      rintro gg j g' wr5 ⟨hj, hg, hJ, hbl⟩
      replace HB := over HB hbl
      replace M2 := M2.below hbl
      replace M4 := M4.below hbl
      have z3 := hbl.size
      have HL := hbl
      clear hbl
      refine wp_seq ?_
      refine wp_seq ?_
      refine wp_region_lit ?_
      refine Zv rfl (.int .i64 ((j : Nat) : Int)) ?_
      refine Zv rfl (.pointer (some ⟨w.heap.size, 2, none⟩)) ?_
      refine Zw rfl (.slice oS S.T.length cS) (el (M2.cell 2 rfl) Tryd.underlying37) ?_
      refine Zv rfl (.int .i64 ((S.T.length : Nat) : Int)) ?_
      by_cases C6 : j < S.T.length
      ·refine Zb rfl (decide (((j : Nat) : Int) < ((S.T.length : Nat) : Int))) true (decide_eq_true (by omega)) ?_
       refine wpList_nil ?_
       refine sx_norm ?_
       refine sx_true (by kernel_rfl) ?_
       refine wp_skip ?_
       refine sx_norm ?_
       refine wp_seq ?_
       refine wp_block ?_
       refine wp_seq ?_
       obtain ⟨Y6, hW⟩ : ∃ W, wr5.drew = W := ⟨_, rfl⟩
       have hb : Below wr5.heap.size wr5 Y6 := hW ▸ below_drew (Below.refl _ _)
       replace HB := over HB hb
       replace M2 := M2.below hb
       replace M4 := M4.below hb
       replace HL := over HL hb
       have z4 := hb.size
       clear hb
       refine sd_begin (fun W => Cb W (w.heap.size) #[.bool S.r, .int .i64 S.d, .slice oS S.T.length cS, .int .i64 S.e, .int .i64 S.m] 39 ∧ Cb W (W1.heap.size) #[.bool R.r, .int .i64 R.d, .slice oR R.T.length cR, .int .i64 R.e, .int .i64 R.m] 39 ∧ Rw W bS qS 4 (fun k => tmE (S.T.getD k tm0)) S.T.length oS ∧ Rw W bR qR 4 (fun k => tmE (R.T.getD k tm0)) R.T.length oR ∧ True) (by kernel_rfl) (by rw [hW]; exact ⟨M2, M4, (hS.below HB), (hR.below HB), trivial⟩) ?_
       rw [hW]
       clear hW
       refine Zu 0 rfl rfl (.pointer (some ⟨w.heap.size, 2, none⟩)) ⟨M2, M4, (hS.below HB), (hR.below HB), trivial⟩ ?_
       refine Zt 1 rfl rfl (.slice oS S.T.length cS) (fun w9 h9 => el (h9.1.cell 2 rfl) Tryd.underlying37) ⟨M2, M4, (hS.below HB), (hR.below HB), trivial⟩ ?_
       refine Zu 2 rfl rfl (.int .i64 ((j : Nat) : Int)) ⟨M2, M4, (hS.below HB), (hR.below HB), trivial⟩ ?_
       refine Zt 3 rfl rfl (.pointer (some ⟨bS, qS + j * 4, none⟩)) (fun w9 h9 => ex_indexO (q := qS) (m := S.T.length) (c := cS) (k := j) (s := 4) rfl (by kernel_rfl) (h9.2.2.1.oa (k := j) (by omega)) (by kernel_rfl) Tryd.underlying37 (by kernel_rfl) (by omega) (by omega)) ⟨M2, M4, (hS.below HB), (hR.below HB), trivial⟩ ?_
       refine Zt 4 rfl rfl (.agg #[.int .i64 ((S.T.getD j tm0).a), .int .i64 ((S.T.getD j tm0).b), .int .i64 ((S.T.getD j tm0).d), .bool (S.T.getD j tm0).r]) (fun w9 h9 => ex_loadR rfl (h9.2.2.1.range (k := j) (by omega)) (by kernel_rfl) Tryd.underlying53 rfl (by kernel_rfl)) ⟨M2, M4, (hS.below HB), (hR.below HB), trivial⟩ ?_
       refine Zu 5 rfl rfl (.pointer (some ⟨W1.heap.size, 2, none⟩)) ⟨M2, M4, (hS.below HB), (hR.below HB), trivial⟩ ?_
       refine Zt 6 rfl rfl (.slice oR R.T.length cR) (fun w9 h9 => el (h9.2.1.cell 2 rfl) Tryd.underlying37) ⟨M2, M4, (hS.below HB), (hR.below HB), trivial⟩ ?_
       refine Zu 7 rfl rfl (.int .i64 ((j : Nat) : Int)) ⟨M2, M4, (hS.below HB), (hR.below HB), trivial⟩ ?_
       refine Zt 8 rfl rfl (.pointer (some ⟨bR, qR + j * 4, none⟩)) (fun w9 h9 => ex_indexO (q := qR) (m := R.T.length) (c := cR) (k := j) (s := 4) rfl (by kernel_rfl) (h9.2.2.2.1.oa (k := j) (by omega)) (by kernel_rfl) Tryd.underlying37 (by kernel_rfl) (by omega) (by omega)) ⟨M2, M4, (hS.below HB), (hR.below HB), trivial⟩ ?_
       refine Zt 9 rfl rfl (.agg #[.int .i64 ((R.T.getD j tm0).a), .int .i64 ((R.T.getD j tm0).b), .int .i64 ((R.T.getD j tm0).d), .bool (R.T.getD j tm0).r]) (fun w9 h9 => ex_loadR rfl (h9.2.2.2.1.range (k := j) (by omega)) (by kernel_rfl) Tryd.underlying53 rfl (by kernel_rfl)) ⟨M2, M4, (hS.below HB), (hR.below HB), trivial⟩ ?_
       by_cases C7 : (S.T.getD j tm0).a = (R.T.getD j tm0).a ∧ (S.T.getD j tm0).b = (R.T.getD j tm0).b ∧ (S.T.getD j tm0).d = (R.T.getD j tm0).d ∧ (S.T.getD j tm0).r = (R.T.getD j tm0).r
       ·refine Zt 10 rfl rfl (.bool false) (fun w9 h9 => ex_bool (!((S.T.getD j tm0).a == (R.T.getD j tm0).a && (S.T.getD j tm0).b == (R.T.getD j tm0).b && (S.T.getD j tm0).d == (R.T.getD j tm0).d && (S.T.getD j tm0).r == (R.T.getD j tm0).r)) false (ex_neqT rfl (by kernel_rfl) (by kernel_rfl)) (by rw [eqv_t C7]; rfl)) ⟨M2, M4, (hS.below HB), (hR.below HB), trivial⟩ ?_
        refine sd_done (by kernel_rfl) ?_
        refine sx_norm ?_
        refine sx_false (by kernel_rfl) ?_
        refine wp_skip ?_
        refine sx_in ?_
        refine sx_norm ?_
        refine wp_region_lit ?_
        refine Zv rfl (.int .i64 ((j : Nat) : Int)) ?_
        refine sx_int (by kernel_rfl) rfl rfl .i64 (IntKind.i64.wrap (((j : Nat) : Int) + 1)) (((j + 1 : Nat) : Int)) (by kernel_rfl) (by rw [IntKind.wrap_i64]; omega) ?_
        refine Zv rfl (.int .i64 ((j + 1 : Nat) : Int)) ?_
        refine wpList_nil ?_
        refine sx_norm ?_
        exact sx_again (S.T.length - (j + 1)) (j + 1) (by omega) (by kernel_rfl) ⟨by omega, Nat.le_refl _, ext_more hJ (tm_ext (by assumption)), HL⟩
       refine Zt 10 rfl rfl (.bool true) (fun w9 h9 => ex_bool (!((S.T.getD j tm0).a == (R.T.getD j tm0).a && (S.T.getD j tm0).b == (R.T.getD j tm0).b && (S.T.getD j tm0).d == (R.T.getD j tm0).d && (S.T.getD j tm0).r == (R.T.getD j tm0).r)) true (ex_neqT rfl (by kernel_rfl) (by kernel_rfl)) (by rw [eqv_f C7]; rfl)) ⟨M2, M4, (hS.below HB), (hR.below HB), trivial⟩ ?_
       refine sd_done (by kernel_rfl) ?_
       refine sx_norm ?_
       refine sx_true (by kernel_rfl) ?_
       refine wp_seq ?_
       refine wp_region_lit ?_
       refine Zv rfl (.bool false) ?_
       refine wpList_nil ?_
       refine sx_norm ?_
       refine wp_ret ?_
       refine sx_rb ?_
       refine sx_rs ?_
       refine sx_rs ?_
       refine sx_rb ?_
       refine sx_rs ?_
       refine sx_ret1 (.bool false) rfl rfl (by kernel_rfl) ⟨by rw [decide_eq_false (fun h => absurd (by rw [h]; exact ⟨rfl, rfl, rfl, rfl⟩) (by assumption : ¬ ((S.T.getD j tm0).a = (R.T.getD j tm0).a ∧ (S.T.getD j tm0).b = (R.T.getD j tm0).b ∧ (S.T.getD j tm0).d = (R.T.getD j tm0).d ∧ (S.T.getD j tm0).r = (R.T.getD j tm0).r)))], HB⟩
      refine Zb rfl (decide (((j : Nat) : Int) < ((S.T.length : Nat) : Int))) false (decide_eq_false (by omega)) ?_
      refine wpList_nil ?_
      refine sx_norm ?_
      refine sx_false (by kernel_rfl) ?_
      refine wp_exit ?_
      refine sx_es ?_
      refine sx_es ?_
      refine sx_out ?_
      refine sx_norm ?_
      refine wp_seq ?_
      refine wp_region_lit ?_
      refine Zv rfl (.bool true) ?_
      refine wpList_nil ?_
      refine sx_norm ?_
      refine wp_ret ?_
      refine sx_ret1 (.bool true) rfl rfl (by kernel_rfl) ⟨by rw [decide_eq_true (sh_ext ⟨by assumption, by assumption, by assumption, by assumption, ext_getD (d := tm0) (by assumption) (fun i hi => hJ i (by omega))⟩)], HB⟩
     refine Zb rfl ((((S.T.length : Nat) : Int) : Int) != (((R.T.length : Nat) : Int) : Int)) true (bne_iff_ne.2 (by omega)) ?_
     refine Zv rfl (.bool true) ?_
     refine wpList_nil ?_
     refine sx_norm ?_
     refine sx_true (by kernel_rfl) ?_
     refine wp_seq ?_
     refine wp_region_lit ?_
     refine Zv rfl (.bool false) ?_
     refine wpList_nil ?_
     refine sx_norm ?_
     refine wp_ret ?_
     refine sx_rs ?_
     refine sx_ret1 (.bool false) rfl rfl (by kernel_rfl) ⟨by rw [decide_eq_false (fun h => by subst h; first | (exact absurd rfl (by assumption)) | simp_all)], HB⟩
    refine Zb rfl ((S.m : Int) != (R.m : Int)) true (bne_iff_ne.2 (by omega)) ?_
    refine Zv rfl (.bool true) ?_
    refine Zv rfl (.bool true) ?_
    refine Zk rfl ?_
    refine Zk rfl ?_
    refine Zk rfl ?_
    refine Zk rfl ?_
    refine Zk rfl ?_
    refine Zk rfl ?_
    refine Zk rfl ?_
    refine Zv rfl (.bool true) ?_
    refine wpList_nil ?_
    refine sx_norm ?_
    refine sx_true (by kernel_rfl) ?_
    refine wp_seq ?_
    refine wp_region_lit ?_
    refine Zv rfl (.bool false) ?_
    refine wpList_nil ?_
    refine sx_norm ?_
    refine wp_ret ?_
    refine sx_rs ?_
    refine sx_ret1 (.bool false) rfl rfl (by kernel_rfl) ⟨by rw [decide_eq_false (fun h => by subst h; first | (exact absurd rfl (by assumption)) | simp_all)], HB⟩
   refine Zb rfl ((S.e : Int) != (R.e : Int)) true (bne_iff_ne.2 (by omega)) ?_
   refine Zv rfl (.bool true) ?_
   refine Zv rfl (.bool true) ?_
   refine Zk rfl ?_
   refine Zk rfl ?_
   refine Zk rfl ?_
   refine Zk rfl ?_
   refine Zk rfl ?_
   refine Zv rfl (.bool true) ?_
   refine Zv rfl (.bool true) ?_
   refine Zk rfl ?_
   refine Zk rfl ?_
   refine Zk rfl ?_
   refine Zk rfl ?_
   refine Zk rfl ?_
   refine Zk rfl ?_
   refine Zk rfl ?_
   refine Zv rfl (.bool true) ?_
   refine wpList_nil ?_
   refine sx_norm ?_
   refine sx_true (by kernel_rfl) ?_
   refine wp_seq ?_
   refine wp_region_lit ?_
   refine Zv rfl (.bool false) ?_
   refine wpList_nil ?_
   refine sx_norm ?_
   refine wp_ret ?_
   refine sx_rs ?_
   refine sx_ret1 (.bool false) rfl rfl (by kernel_rfl) ⟨by rw [decide_eq_false (fun h => by subst h; first | (exact absurd rfl (by assumption)) | simp_all)], HB⟩
  refine Zb rfl ((S.d : Int) != (R.d : Int)) true (bne_iff_ne.2 (by omega)) ?_
  refine Zv rfl (.bool true) ?_
  refine Zv rfl (.bool true) ?_
  refine Zk rfl ?_
  refine Zk rfl ?_
  refine Zk rfl ?_
  refine Zk rfl ?_
  refine Zk rfl ?_
  refine Zv rfl (.bool true) ?_
  refine Zv rfl (.bool true) ?_
  refine Zk rfl ?_
  refine Zk rfl ?_
  refine Zk rfl ?_
  refine Zk rfl ?_
  refine Zk rfl ?_
  refine Zv rfl (.bool true) ?_
  refine Zv rfl (.bool true) ?_
  refine Zk rfl ?_
  refine Zk rfl ?_
  refine Zk rfl ?_
  refine Zk rfl ?_
  refine Zk rfl ?_
  refine Zk rfl ?_
  refine Zk rfl ?_
  refine Zv rfl (.bool true) ?_
  refine wpList_nil ?_
  refine sx_norm ?_
  refine sx_true (by kernel_rfl) ?_
  refine wp_seq ?_
  refine wp_region_lit ?_
  refine Zv rfl (.bool false) ?_
  refine wpList_nil ?_
  refine sx_norm ?_
  refine wp_ret ?_
  refine sx_rs ?_
  refine sx_ret1 (.bool false) rfl rfl (by kernel_rfl) ⟨by rw [decide_eq_false (fun h => by subst h; first | (exact absurd rfl (by assumption)) | simp_all)], HB⟩
 refine Zb rfl ((S.r != R.r)) true (bne_iff_ne.2 C1) ?_
 refine Zv rfl (.bool true) ?_
 refine Zk rfl ?_
 refine Zk rfl ?_
 refine Zk rfl ?_
 refine Zk rfl ?_
 refine Zk rfl ?_
 refine Zv rfl (.bool true) ?_
 refine Zv rfl (.bool true) ?_
 refine Zk rfl ?_
 refine Zk rfl ?_
 refine Zk rfl ?_
 refine Zk rfl ?_
 refine Zk rfl ?_
 refine Zv rfl (.bool true) ?_
 refine Zv rfl (.bool true) ?_
 refine Zk rfl ?_
 refine Zk rfl ?_
 refine Zk rfl ?_
 refine Zk rfl ?_
 refine Zk rfl ?_
 refine Zv rfl (.bool true) ?_
 refine Zv rfl (.bool true) ?_
 refine Zk rfl ?_
 refine Zk rfl ?_
 refine Zk rfl ?_
 refine Zk rfl ?_
 refine Zk rfl ?_
 refine Zk rfl ?_
 refine Zk rfl ?_
 refine Zv rfl (.bool true) ?_
 refine wpList_nil ?_
 refine sx_norm ?_
 refine sx_true (by kernel_rfl) ?_
 refine wp_seq ?_
 refine wp_region_lit ?_
 refine Zv rfl (.bool false) ?_
 refine wpList_nil ?_
 refine sx_norm ?_
 refine wp_ret ?_
 refine sx_rs ?_
 refine sx_ret1 (.bool false) rfl rfl (by kernel_rfl) ⟨by rw [decide_eq_false (fun h => by subst h; first | (exact absurd rfl (by assumption)) | simp_all)], HB⟩

end Go.Proofs.YtnapmildbodigaaDoor.T


