/-
  DERIVED. SequenceFinds: a part of the base of layer 13 (made by pack.py).
-/
import Derived.Test.YtoliacfpjhanlaaGJ
import Derived.Test.YtoliacfpjhanlaaGK
import Derived.Test.YtoliacfpjhanlaaGL
/-! The walk of the law SequenceFinds (by gen_ve.py). -/
namespace Go.Proofs.Ytoliacfpjhanlaa.T
open Go.RowKit
set_option maxRecDepth 8000
attribute [local irreducible] wpList Code.wp wpAnyH

theorem ordN_le (l : List (Int × Bool)) {ol : List OrT} {ap be : List (Int × Int)} (hn : ol.length ≤ 10) (hra : U.Rt ol.length ap) (hr : U.Rt ol.length be) (h : chkR ol ap be l = 0) : -9223372036854775808 ≤ ordN l ∧ ordN l ≤ 9223372036854775807 := by
  obtain ⟨s, e, -, hk⟩ := chk_okay hn hra hr h
  have h1 := hk.lt
  have h2 := U.pow_le hn
  omega
theorem up_at {f : List (List (Int × Bool))} (h : f.Pairwise fun a b => lessL a b = true) {i j : Nat} (hij : i < j) (hj : j < f.length) : lessL (f.getD i []) (f.getD j []) = true := by
  have h1 := List.pairwise_iff_getElem.1 h i j (by omega) hj hij
  rw [List.getD_eq_getElem?_getD, List.getD_eq_getElem?_getD, List.getElem?_eq_getElem (by omega), List.getElem?_eq_getElem hj]
  exact h1
theorem found_more {l : List (Int × Bool)} {f : List (List (Int × Bool))} {i : Nat} (hi : i < f.length) : decide (l ∈ f.take (i + 1)) = (decide (l ∈ f.take i) || decide (f.getD i [] = l)) := by
  rw [take_more (d := []) hi, Bool.eq_iff_iff, decide_eq_true_iff, Bool.or_eq_true, decide_eq_true_iff, decide_eq_true_iff, List.mem_append, List.mem_singleton]
  exact ⟨fun h => h.imp_right Eq.symm, fun h => h.imp_right Eq.symm⟩
theorem ord_pos2 {ol : List OrT} (hn : ol.length ≤ 10) {l : List (Int × Bool)} (hex : Ex ol.length l) : ordE l = 0 := by
  have hb := ordB_ex hn hex
  unfold ordE
  rw [hb, if_pos rfl]
theorem sequenceFinds_walk (k : Iv) (x : InT) (hv : InV x) (ty st : Int) (orr oa : Option Addr) (nr cr c b o : Nat) (l : List (Int × Bool)) (w : World) (hI : Ins w k x) (hl : Rw w b o 2 (vF l) l.length oa) : Calls Try.prog 6 #[.agg #[.slice k.o0 x.pl.length k.c0, .slice k.o1 x.al.length k.c1, .slice k.o2 x.tl.length k.c2, .slice k.o3 x.ol.length k.c3, .slice k.o4 x.ap.length k.c4, .slice k.o5 x.be.length k.c5], .agg #[.int .i64 ty, .int .i64 st, .slice orr nr cr, .slice oa l.length c]] w fun e w' => e = .returned (.bool true) ∧ Below w.heap.size w w' := by
  have HB : Below w.heap.size w w := Below.refl _ _
  refine sx_enter Try.func6 rfl [(0, .agg #[.slice k.o0 x.pl.length k.c0, .slice k.o1 x.al.length k.c1, .slice k.o2 x.tl.length k.c2, .slice k.o3 x.ol.length k.c3, .slice k.o4 x.ap.length k.c4, .slice k.o5 x.be.length k.c5]), (1, .agg #[.int .i64 ty, .int .i64 st, .slice orr nr cr, .slice oa l.length c])] (by kernel_rfl) ?_
  refine wp_seq ?_
  refine wp_region_lit ?_
  obtain ⟨W1, hW⟩ : ∃ W, w.alloc (.cells #[.slice k.o0 x.pl.length k.c0, .slice k.o1 x.al.length k.c1, .slice k.o2 x.tl.length k.c2, .slice k.o3 x.ol.length k.c3, .slice k.o4 x.ap.length k.c4, .slice k.o5 x.be.length k.c5] 30) = W := ⟨_, rfl⟩
  have hb := hW ▸ below_alloc w (.cells #[.slice k.o0 x.pl.length k.c0, .slice k.o1 x.al.length k.c1, .slice k.o2 x.tl.length k.c2, .slice k.o3 x.ol.length k.c3, .slice k.o4 x.ap.length k.c4, .slice k.o5 x.be.length k.c5] 30)
  have hq : Cb W1 w.heap.size #[.slice k.o0 x.pl.length k.c0, .slice k.o1 x.al.length k.c1, .slice k.o2 x.tl.length k.c2, .slice k.o3 x.ol.length k.c3, .slice k.o4 x.ap.length k.c4, .slice k.o5 x.be.length k.c5] 30 := hW ▸ Cb.made w #[.slice k.o0 x.pl.length k.c0, .slice k.o1 x.al.length k.c1, .slice k.o2 x.tl.length k.c2, .slice k.o3 x.ol.length k.c3, .slice k.o4 x.ap.length k.c4, .slice k.o5 x.be.length k.c5] 30
  refine sx_mem (by kernel_rfl) rfl rfl (.pointer (some ⟨w.heap.size, 0, none⟩)) W1 (by rw [← hW]; kernel_rfl) ?_
  replace HB := over HB hb
  have z1 := hb.size
  have M2 := hq
  have yM2 := hq.lt
  clear hq hb hW
  obtain ⟨W3, hW⟩ : ∃ W, W1.alloc (.cells #[.int .i64 ty, .int .i64 st, .slice orr nr cr, .slice oa l.length c] 34) = W := ⟨_, rfl⟩
  have hb := hW ▸ below_alloc W1 (.cells #[.int .i64 ty, .int .i64 st, .slice orr nr cr, .slice oa l.length c] 34)
  have hq : Cb W3 W1.heap.size #[.int .i64 ty, .int .i64 st, .slice orr nr cr, .slice oa l.length c] 34 := hW ▸ Cb.made W1 #[.int .i64 ty, .int .i64 st, .slice orr nr cr, .slice oa l.length c] 34
  refine sx_mem (by kernel_rfl) rfl rfl (.pointer (some ⟨W1.heap.size, 0, none⟩)) W3 (by rw [← hW]; kernel_rfl) ?_
  replace HB := over HB hb
  replace M2 := M2.below hb
  have z2 := hb.size
  have M4 := hq
  have yM4 := hq.lt
  clear hq hb hW
  refine sx_val (by kernel_rfl) rfl rfl (.bool false) (by kernel_rfl) ?_
  refine wpList_nil ?_
  refine sx_norm ?_
  refine wp_seq ?_
  refine wp_seq ?_
  refine wp_region_lit ?_
  refine sx_val (by kernel_rfl) rfl rfl (.agg #[.slice k.o0 x.pl.length k.c0, .slice k.o1 x.al.length k.c1, .slice k.o2 x.tl.length k.c2, .slice k.o3 x.ol.length k.c3, .slice k.o4 x.ap.length k.c4, .slice k.o5 x.be.length k.c5]) (ex_load rfl M2 (by kernel_rfl) Try.underlying30 rfl (by kernel_rfl)) ?_
  by_cases C1 : (fewB x) = true
  · refine sx_call (by kernel_rfl) rfl rfl ((by have h8 := few_n k x hv W3 (hI.below HB); rw [show (fewB x) = true by simpa using C1] at h8; exact h8)) (by kernel_rfl) ?_
    rintro e W5 ⟨rfl, hb⟩
    replace HB := over HB hb
    replace M2 := M2.below hb
    replace M4 := M4.below hb
    have z3 := hb.size
    clear hb
    refine ⟨_, rfl, ?_⟩
    refine sx_val (by kernel_rfl) rfl rfl (.bool false) (by kernel_rfl) ?_
    refine sx_val (by kernel_rfl) rfl rfl (.bool false) (by kernel_rfl) ?_
    refine sx_val (by kernel_rfl) rfl rfl (.pointer (some ⟨W1.heap.size, 3, none⟩)) (by kernel_rfl) ?_
    refine sx_val (by kernel_rfl) rfl rfl (.slice oa l.length c) (ex_load1 rfl (M4.cell 3 rfl) (by kernel_rfl) Try.underlying32 rfl) ?_
    refine sx_val (by kernel_rfl) rfl rfl (.int .i64 ((l.length : Nat) : Int)) (by kernel_rfl) ?_
    by_cases C2 : l.length > 12
    · refine sx_bool (by kernel_rfl) rfl rfl (decide (((l.length : Nat) : Int) > 12)) true (by kernel_rfl) (decide_eq_true (by omega)) ?_
      refine sx_val (by kernel_rfl) rfl rfl (.bool true) (by kernel_rfl) ?_
      refine sx_val (by kernel_rfl) rfl rfl (.bool true) (by kernel_rfl) ?_
      refine sx_skip (by kernel_rfl) rfl rfl ?_
      refine sx_skip (by kernel_rfl) rfl rfl ?_
      refine sx_skip (by kernel_rfl) rfl rfl ?_
      refine sx_skip (by kernel_rfl) rfl rfl ?_
      refine sx_val (by kernel_rfl) rfl rfl (.bool true) (by kernel_rfl) ?_
      refine wpList_nil ?_
      refine sx_norm ?_
      refine sx_true (by kernel_rfl) ?_
      refine wp_seq ?_
      refine wp_region_lit ?_
      refine sx_call (by kernel_rfl) rfl rfl (awake16_n W5) (by kernel_rfl) ?_
      rintro e W6 ⟨rfl, hb⟩
      replace HB := over HB hb
      replace M2 := M2.below hb
      replace M4 := M4.below hb
      have z4 := hb.size
      clear hb
      refine ⟨_, rfl, ?_⟩
      refine sx_val (by kernel_rfl) rfl rfl (.bool true) (by kernel_rfl) ?_
      refine wpList_nil ?_
      refine sx_norm ?_
      refine wp_ret ?_
      refine sx_rs ?_
      exact sx_ret1 (.bool true) rfl rfl (by kernel_rfl) ⟨rfl, HB⟩
    refine sx_bool (by kernel_rfl) rfl rfl (decide (((l.length : Nat) : Int) > 12)) false (by kernel_rfl) (decide_eq_false (by omega)) ?_
    refine sx_val (by kernel_rfl) rfl rfl (.bool false) (by kernel_rfl) ?_
    refine sx_val (by kernel_rfl) rfl rfl (.bool false) (by kernel_rfl) ?_
    refine sx_val (by kernel_rfl) rfl rfl (.agg #[.slice k.o0 x.pl.length k.c0, .slice k.o1 x.al.length k.c1, .slice k.o2 x.tl.length k.c2, .slice k.o3 x.ol.length k.c3, .slice k.o4 x.ap.length k.c4, .slice k.o5 x.be.length k.c5]) (ex_load rfl M2 (by kernel_rfl) Try.underlying30 rfl (by kernel_rfl)) ?_
    refine sx_val (by kernel_rfl) rfl rfl (.agg #[.int .i64 ty, .int .i64 st, .slice orr nr cr, .slice oa l.length c]) (ex_load rfl M4 (by kernel_rfl) Try.underlying34 rfl (by kernel_rfl)) ?_
    have hq := few_ok (x := x) (by assumption)
    have hq1 := hq.1
    have hq5 := hq.2.2.2.2.1
    have hq6 := hq.2.2.2.2.2
    refine sx_call (by kernel_rfl) rfl rfl ((by have h8 := check16_n k.o0 k.o1 k.o2 k.o3 k.o4 k.o5 x.pl.length x.al.length x.tl.length k.c0 k.c1 k.c2 k.c3 k.c4 k.c5 x.ol x.ap x.be (by omega) hq.2.2.1 (by omega) hq.2.2.2.1 (by omega) W5 (hI.below HB).h3 (hI.below HB).h4 (hI.below HB).h5 ty st orr oa nr cr c b o l (by omega) (hl.below HB); rw [chk_is hq.2.1 (by omega) hq.2.2.1 hq.2.2.2.1 l] at h8; exact h8)) (by kernel_rfl) ?_
    rintro e W7 ⟨rfl, hb⟩
    replace HB := over HB hb
    replace M2 := M2.below hb
    replace M4 := M4.below hb
    have z4 := hb.size
    clear hb
    refine ⟨_, rfl, ?_⟩
    by_cases C3 : (chkR x.ol x.ap x.be l) = 0
    · refine sx_bool (by kernel_rfl) rfl rfl (((chkR x.ol x.ap x.be l) : Int) != (0 : Int)) false (by kernel_rfl) (by rw [bne_eq_false_iff_eq]; omega) ?_
      refine sx_val (by kernel_rfl) rfl rfl (.bool false) (by kernel_rfl) ?_
      refine wpList_nil ?_
      refine sx_norm ?_
      refine sx_false (by kernel_rfl) ?_
      refine wp_skip ?_
      refine sx_norm ?_
      refine wp_seq ?_
      have hc0 : chkR x.ol x.ap x.be l = 0 := by assumption
      have hex := (chk_ok hc0).2.1
      have hE0 := (ord_pos2 (by omega) hex)
      have hzN := ordN_le l (by omega) hq.2.2.1 hq.2.2.2.1 hc0
      have hfd := find_ok hq.2.1 (by omega) hq.2.2.1 hq.2.2.2.1 (by omega) hc0
      refine wp_region_lit ?_
      refine sx_val (by kernel_rfl) rfl rfl (.agg #[.int .i64 ty, .int .i64 st, .slice orr nr cr, .slice oa l.length c]) (ex_load rfl M4 (by kernel_rfl) Try.underlying34 rfl (by kernel_rfl)) ?_
      refine sx_call (by kernel_rfl) rfl rfl ((by have h8 := orders_n ty st orr oa nr cr c b o l (by omega) W7 (hl.below HB); rw [hE0] at h8; exact h8)) (by kernel_rfl) ?_
      rintro e W8 ⟨rfl, hb⟩
      replace HB := over HB hb
      replace M2 := M2.below hb
      replace M4 := M4.below hb
      have z5 := hb.size
      clear hb
      refine ⟨_, rfl, ?_⟩
      refine sx_val (by kernel_rfl) rfl rfl (.tuple #[.int .i64 (ordN l), .int .i64 0]) (by kernel_rfl) ?_
      refine sx_val (by kernel_rfl) rfl rfl (.int .i64 (ordN l)) (by kernel_rfl) ?_
      refine sx_val (by kernel_rfl) rfl rfl (.int .i64 0) (by kernel_rfl) ?_
      refine sx_val (by kernel_rfl) rfl rfl (.int .i64 (ordN l)) (by kernel_rfl) ?_
      refine sx_val (by kernel_rfl) rfl rfl (.int .i64 0) (by kernel_rfl) ?_
      refine wpList_nil ?_
      refine sx_norm ?_
      refine wp_seq ?_
      refine wp_region_lit ?_
      refine sx_val (by kernel_rfl) rfl rfl (.agg #[.slice k.o0 x.pl.length k.c0, .slice k.o1 x.al.length k.c1, .slice k.o2 x.tl.length k.c2, .slice k.o3 x.ol.length k.c3, .slice k.o4 x.ap.length k.c4, .slice k.o5 x.be.length k.c5]) (ex_load rfl M2 (by kernel_rfl) Try.underlying30 rfl (by kernel_rfl)) ?_
      refine sx_val (by kernel_rfl) rfl rfl (.int .i64 (ordN l)) (by kernel_rfl) ?_
      refine sx_call (by kernel_rfl) rfl rfl ((by have h8 := all16_n k.o0 k.o1 k.o2 k.o3 k.o4 k.o5 x.pl.length x.al.length x.tl.length k.c0 k.c1 k.c2 k.c3 k.c4 k.c5 x.ol x.ap x.be (by omega) hq.2.2.1 (by omega) hq.2.2.2.1 (by omega) (ordN l) hzN W8 (hI.below HB).h3 (hI.below HB).h4 (hI.below HB).h5; rw [hfd.1] at h8; exact h8)) (by kernel_rfl) ?_
      rintro e W9 ⟨va, vsa, rfl, hfa, hea, hb⟩
      obtain ⟨oaa, caa, hva⟩ := Fo.form hfa
      subst hva
      replace HB := over HB hb
      replace M2 := M2.below hb
      replace M4 := M4.below hb
      have z6 := hb.size
      clear hb
      refine ⟨_, rfl, ?_⟩
      obtain ⟨pa9, qa9, hwa⟩ := fo_rw hfa
      have hvl := hea.len
      have hsl := allS_len (ordN l) x.ol x.ap x.be
      refine sx_val (by kernel_rfl) rfl rfl (.tuple #[.slice oaa vsa.length caa, .int .i64 0]) (by kernel_rfl) ?_
      refine sx_val (by kernel_rfl) rfl rfl (.slice oaa vsa.length caa) (by kernel_rfl) ?_
      refine sx_val (by kernel_rfl) rfl rfl (.int .i64 0) (by kernel_rfl) ?_
      refine sx_val (by kernel_rfl) rfl rfl (.slice oaa vsa.length caa) (by kernel_rfl) ?_
      refine sx_val (by kernel_rfl) rfl rfl (.int .i64 0) (by kernel_rfl) ?_
      refine wpList_nil ?_
      refine sx_norm ?_
      refine wp_seq ?_
      refine wp_seq ?_
      refine wp_region_lit ?_
      refine sx_val (by kernel_rfl) rfl rfl (.int .i64 0) (by kernel_rfl) ?_
      refine sx_val (by kernel_rfl) rfl rfl (.bool false) (by kernel_rfl) ?_
      refine sx_val (by kernel_rfl) rfl rfl (.bool false) (by kernel_rfl) ?_
      refine sx_val (by kernel_rfl) rfl rfl (.int .i64 0) (by kernel_rfl) ?_
      refine sx_val (by kernel_rfl) rfl rfl (.bool false) (by kernel_rfl) ?_
      refine sx_val (by kernel_rfl) rfl rfl (.bool false) (by kernel_rfl) ?_
      refine wpList_nil ?_
      refine sx_norm ?_
      refine sx_false (by kernel_rfl) ?_
      refine wp_skip ?_
      refine sx_norm ?_
      refine wp_seq ?_
      refine wp_region_lit ?_
      refine sx_val (by kernel_rfl) rfl rfl (.bool false) (by kernel_rfl) ?_
      refine wpList_nil ?_
      refine sx_norm ?_
      refine wp_seq ?_
      refine wp_seq ?_
      refine wp_region_lit ?_
      refine sx_val (by kernel_rfl) rfl rfl (.int .i64 0) (by kernel_rfl) ?_
      refine wpList_nil ?_
      refine sx_norm ?_
      refine wp_block ?_
      refine sx_loop (fun x9 : Nat × Bool => [(0, .agg #[.slice k.o0 x.pl.length k.c0, .slice k.o1 x.al.length k.c1, .slice k.o2 x.tl.length k.c2, .slice k.o3 x.ol.length k.c3, .slice k.o4 x.ap.length k.c4, .slice k.o5 x.be.length k.c5]), (1, .agg #[.int .i64 ty, .int .i64 st, .slice orr nr cr, .slice oa l.length c]), (2, .pointer (some ⟨w.heap.size, 0, none⟩)), (3, .pointer (some ⟨W1.heap.size, 0, none⟩)), (5, .int .i64 (ordN l)), (6, .int .i64 0), (7, .slice oaa vsa.length caa), (8, .int .i64 0), (9, .bool x9.2), (10, .int .i64 ((x9.1 : Nat) : Int)), (13, .agg #[.slice k.o0 x.pl.length k.c0, .slice k.o1 x.al.length k.c1, .slice k.o2 x.tl.length k.c2, .slice k.o3 x.ol.length k.c3, .slice k.o4 x.ap.length k.c4, .slice k.o5 x.be.length k.c5]), (14, .bool true), (15, .bool false), (16, .bool false), (17, .pointer (some ⟨W1.heap.size, 3, none⟩)), (18, .slice oa l.length c), (19, .int .i64 ((l.length : Nat) : Int)), (20, .bool false), (21, .bool false), (22, .bool false), (23, .agg #[.slice k.o0 x.pl.length k.c0, .slice k.o1 x.al.length k.c1, .slice k.o2 x.tl.length k.c2, .slice k.o3 x.ol.length k.c3, .slice k.o4 x.ap.length k.c4, .slice k.o5 x.be.length k.c5]), (24, .agg #[.int .i64 ty, .int .i64 st, .slice orr nr cr, .slice oa l.length c]), (25, .int .i64 (chkR x.ol x.ap x.be l)), (26, .bool false), (27, .bool false), (29, .tuple #[.int .i64 (ordN l), .int .i64 0]), (30, .agg #[.int .i64 ty, .int .i64 st, .slice orr nr cr, .slice oa l.length c]), (31, .tuple #[.int .i64 (ordN l), .int .i64 0]), (32, .int .i64 (ordN l)), (33, .int .i64 0), (34, .tuple #[.slice oaa vsa.length caa, .int .i64 0]), (35, .agg #[.slice k.o0 x.pl.length k.c0, .slice k.o1 x.al.length k.c1, .slice k.o2 x.tl.length k.c2, .slice k.o3 x.ol.length k.c3, .slice k.o4 x.ap.length k.c4, .slice k.o5 x.be.length k.c5]), (36, .int .i64 (ordN l)), (37, .tuple #[.slice oaa vsa.length caa, .int .i64 0]), (38, .slice oaa vsa.length caa), (39, .int .i64 0), (40, .int .i64 0), (41, .bool false), (42, .bool false), (43, .int .i64 0), (44, .bool false), (45, .bool false)]) (fun gg x9 wr => x9.1 ≤ vsa.length ∧ vsa.length - x9.1 ≤ gg ∧ x9.2 = decide (l ∈ (allS (ordN l) x.ol x.ap x.be).take x9.1) ∧ Below W9.heap.size W9 wr) (vsa.length) ((0, false)) (by kernel_rfl) ⟨Nat.zero_le _, Nat.le_refl _, rfl, Below.refl _ _⟩ ?_
      rintro gg ⟨i, fd⟩ g' wr10 ⟨hj, hg, hfd9, hbl⟩
      dsimp only at hj hg hfd9 hbl
      replace HB := over HB hbl
      replace M2 := M2.below hbl
      replace M4 := M4.below hbl
      replace hfa := own_below hfa hbl
      replace hea := hea.below hbl
      replace hwa := hwa.below hbl
      have z7 := hbl.size
      have HL := hbl
      clear hbl
      refine wp_seq ?_
      refine wp_seq ?_
      refine wp_region_lit ?_
      refine sx_val (by kernel_rfl) rfl rfl (.int .i64 ((i : Nat) : Int)) (by kernel_rfl) ?_
      refine sx_val (by kernel_rfl) rfl rfl (.slice oaa vsa.length caa) (by kernel_rfl) ?_
      refine sx_val (by kernel_rfl) rfl rfl (.int .i64 ((vsa.length : Nat) : Int)) (by kernel_rfl) ?_
      by_cases C4 : i < vsa.length
      · refine sx_bool (by kernel_rfl) rfl rfl (decide (((i : Nat) : Int) < ((vsa.length : Nat) : Int))) true (by kernel_rfl) (decide_eq_true (by omega)) ?_
        refine wpList_nil ?_
        refine sx_norm ?_
        refine sx_true (by kernel_rfl) ?_
        refine wp_skip ?_
        refine sx_norm ?_
        refine wp_seq ?_
        refine wp_block ?_
        refine wp_seq ?_
        obtain ⟨b1, cc1, e1, hr1, -⟩ := hea.at_ i (by omega)
        have hmu : (allS (ordN l) x.ol x.ap x.be).getD i [] ∈ (allS (ordN l) x.ol x.ap x.be) := getD_mem (by omega)
        have hu1 := hfd.2.1 _ hmu
        have hu9 := allS_lens hq.2.1 (by omega) hq.2.2.2.1 hzN.2 _ hmu
        refine wp_region_lit ?_
        refine sx_val (by kernel_rfl) rfl rfl (.slice oaa vsa.length caa) (by kernel_rfl) ?_
        refine sx_val (by kernel_rfl) rfl rfl (.int .i64 ((i : Nat) : Int)) (by kernel_rfl) ?_
        refine sx_val (by kernel_rfl) rfl rfl (.pointer (some ⟨pa9, qa9 + i * 1, none⟩)) (ex_indexO (q := qa9) (m := vsa.length) (c := caa) (k := i) (s := 1) rfl (by kernel_rfl) (hwa.oa (k := i) (by omega)) (by kernel_rfl) Try.underlying40 (by kernel_rfl) (by omega) (by omega)) ?_
        refine sx_val (by kernel_rfl) rfl rfl (.slice (some ⟨b1, 0, none⟩) ((allS (ordN l) x.ol x.ap x.be).getD i []).length cc1) (ex_load1 rfl (by have h8 := hwa.cell (k := i) (by omega) 0 rfl; rw [e1] at h8; exact h8) (by kernel_rfl) Try.underlying32 rfl) ?_
        refine sx_val (by kernel_rfl) rfl rfl (.agg #[.int .i64 0, .int .i64 0, .slice none 0 0, .slice (some ⟨b1, 0, none⟩) ((allS (ordN l) x.ol x.ap x.be).getD i []).length cc1]) (by kernel_rfl) ?_
        refine sx_call (by kernel_rfl) rfl rfl ((by have h8 := orders_n 0 0 none (some ⟨b1, 0, none⟩) 0 0 cc1 b1 0 ((allS (ordN l) x.ol x.ap x.be).getD i []) (by omega) wr10 hr1; rw [hu1.2.1, hu1.2.2] at h8; exact h8)) (by kernel_rfl) ?_
        rintro e W11 ⟨rfl, hb⟩
        replace HB := over HB hb
        replace M2 := M2.below hb
        replace M4 := M4.below hb
        replace hfa := own_below hfa hb
        replace hea := hea.below hb
        replace hwa := hwa.below hb
        replace HL := over HL hb
        replace hr1 := hr1.below hb
        have z8 := hb.size
        clear hb
        refine ⟨_, rfl, ?_⟩
        refine sx_val (by kernel_rfl) rfl rfl (.tuple #[.int .i64 (ordN l), .int .i64 0]) (by kernel_rfl) ?_
        refine sx_val (by kernel_rfl) rfl rfl (.int .i64 (ordN l)) (by kernel_rfl) ?_
        refine sx_val (by kernel_rfl) rfl rfl (.int .i64 0) (by kernel_rfl) ?_
        refine sx_val (by kernel_rfl) rfl rfl (.int .i64 (ordN l)) (by kernel_rfl) ?_
        refine sx_val (by kernel_rfl) rfl rfl (.int .i64 0) (by kernel_rfl) ?_
        refine wpList_nil ?_
        refine sx_norm ?_
        refine wp_seq ?_
        refine wp_seq ?_
        obtain ⟨Y12, hW⟩ : ∃ W, W11.drew = W := ⟨_, rfl⟩
        have hb : Below W11.heap.size W11 Y12 := hW ▸ below_drew (Below.refl _ _)
        replace HB := over HB hb
        replace M2 := M2.below hb
        replace M4 := M4.below hb
        replace hfa := own_below hfa hb
        replace hea := hea.below hb
        replace hwa := hwa.below hb
        replace HL := over HL hb
        replace hr1 := hr1.below hb
        have z9 := hb.size
        clear hb
        refine sd_begin (fun W => Cb W (w.heap.size) #[.slice k.o0 x.pl.length k.c0, .slice k.o1 x.al.length k.c1, .slice k.o2 x.tl.length k.c2, .slice k.o3 x.ol.length k.c3, .slice k.o4 x.ap.length k.c4, .slice k.o5 x.be.length k.c5] 30 ∧ Cb W (W1.heap.size) #[.int .i64 ty, .int .i64 st, .slice orr nr cr, .slice oa l.length c] 34 ∧ Rw W pa9 qa9 1 (fun k => [vsa.getD k undef]) vsa.length oaa ∧ Rw W b1 0 2 (vF ((allS (ordN l) x.ol x.ap x.be).getD i [])) (((allS (ordN l) x.ol x.ap x.be).getD i []).length) (some ⟨b1, 0, none⟩) ∧ Rw W b o 2 (vF l) l.length oa ∧ True) (by kernel_rfl) (by rw [hW]; exact ⟨M2, M4, hwa, hr1, (hl.below HB), trivial⟩) ?_
        rw [hW]
        clear hW
        refine sd_take 0 rfl (by kernel_rfl) (by kernel_rfl) (by kernel_rfl) (by kernel_rfl) rfl rfl (.int .i64 0) (fun w9 _ => by kernel_rfl) (fun _ _ _ h => h) ⟨M2, M4, hwa, hr1, (hl.below HB), trivial⟩ ?_
        refine sd_take 1 rfl (by kernel_rfl) (by kernel_rfl) (by kernel_rfl) (by kernel_rfl) rfl rfl (.bool false) (fun w9 _ => by kernel_rfl) (fun _ _ _ h => h) ⟨M2, M4, hwa, hr1, (hl.below HB), trivial⟩ ?_
        refine sd_take 2 rfl (by kernel_rfl) (by kernel_rfl) (by kernel_rfl) (by kernel_rfl) rfl rfl (.bool false) (fun w9 _ => by kernel_rfl) (fun _ _ _ h => h) ⟨M2, M4, hwa, hr1, (hl.below HB), trivial⟩ ?_
        refine sd_take 3 rfl (by kernel_rfl) (by kernel_rfl) (by kernel_rfl) (by kernel_rfl) rfl rfl (.int .i64 (ordN l)) (fun w9 _ => by kernel_rfl) (fun _ _ _ h => h) ⟨M2, M4, hwa, hr1, (hl.below HB), trivial⟩ ?_
        refine sd_take 4 rfl (by kernel_rfl) (by kernel_rfl) (by kernel_rfl) (by kernel_rfl) rfl rfl (.int .i64 (ordN l)) (fun w9 _ => by kernel_rfl) (fun _ _ _ h => h) ⟨M2, M4, hwa, hr1, (hl.below HB), trivial⟩ ?_
        refine sd_take 5 rfl (by kernel_rfl) (by kernel_rfl) (by kernel_rfl) (by kernel_rfl) rfl rfl (.bool false) (fun w9 _ => ex_bool (((ordN l) : Int) != ((ordN l) : Int)) false (by kernel_rfl) (by simp)) (fun _ _ _ h => h) ⟨M2, M4, hwa, hr1, (hl.below HB), trivial⟩ ?_
        refine sd_take 6 rfl (by kernel_rfl) (by kernel_rfl) (by kernel_rfl) (by kernel_rfl) rfl rfl (.bool false) (fun w9 _ => by kernel_rfl) (fun _ _ _ h => h) ⟨M2, M4, hwa, hr1, (hl.below HB), trivial⟩ ?_
        refine sd_take 7 rfl (by kernel_rfl) (by kernel_rfl) (by kernel_rfl) (by kernel_rfl) rfl rfl (.bool false) (fun w9 _ => by kernel_rfl) (fun _ _ _ h => h) ⟨M2, M4, hwa, hr1, (hl.below HB), trivial⟩ ?_
        refine sd_take 8 rfl (by kernel_rfl) (by kernel_rfl) (by kernel_rfl) (by kernel_rfl) rfl rfl (.agg #[.slice k.o0 x.pl.length k.c0, .slice k.o1 x.al.length k.c1, .slice k.o2 x.tl.length k.c2, .slice k.o3 x.ol.length k.c3, .slice k.o4 x.ap.length k.c4, .slice k.o5 x.be.length k.c5]) (fun w9 h9 => ex_load rfl h9.1 (by kernel_rfl) Try.underlying30 rfl (by kernel_rfl)) (fun _ _ _ h => h) ⟨M2, M4, hwa, hr1, (hl.below HB), trivial⟩ ?_
        refine sd_take 9 rfl (by kernel_rfl) (by kernel_rfl) (by kernel_rfl) (by kernel_rfl) rfl rfl (.slice oaa vsa.length caa) (fun w9 _ => by kernel_rfl) (fun _ _ _ h => h) ⟨M2, M4, hwa, hr1, (hl.below HB), trivial⟩ ?_
        refine sd_take 10 rfl (by kernel_rfl) (by kernel_rfl) (by kernel_rfl) (by kernel_rfl) rfl rfl (.int .i64 ((i : Nat) : Int)) (fun w9 _ => by kernel_rfl) (fun _ _ _ h => h) ⟨M2, M4, hwa, hr1, (hl.below HB), trivial⟩ ?_
        refine sd_take 11 rfl (by kernel_rfl) (by kernel_rfl) (by kernel_rfl) (by kernel_rfl) rfl rfl (.pointer (some ⟨pa9, qa9 + i * 1, none⟩)) (fun w9 h9 => ex_indexO (q := qa9) (m := vsa.length) (c := caa) (k := i) (s := 1) rfl (by kernel_rfl) (h9.2.2.1.oa (k := i) (by omega)) (by kernel_rfl) Try.underlying40 (by kernel_rfl) (by omega) (by omega)) (fun _ _ _ h => h) ⟨M2, M4, hwa, hr1, (hl.below HB), trivial⟩ ?_
        refine sd_take 12 rfl (by kernel_rfl) (by kernel_rfl) (by kernel_rfl) (by kernel_rfl) rfl rfl (.slice (some ⟨b1, 0, none⟩) ((allS (ordN l) x.ol x.ap x.be).getD i []).length cc1) (fun w9 h9 => ex_load1 rfl (by have h8 := h9.2.2.1.cell (k := i) (by omega) 0 rfl; rw [e1] at h8; exact h8) (by kernel_rfl) Try.underlying32 rfl) (fun _ _ _ h => h) ⟨M2, M4, hwa, hr1, (hl.below HB), trivial⟩ ?_
        refine sd_take 13 rfl (by kernel_rfl) (by kernel_rfl) (by kernel_rfl) (by kernel_rfl) rfl rfl (.agg #[.int .i64 0, .int .i64 0, .slice none 0 0, .slice (some ⟨b1, 0, none⟩) ((allS (ordN l) x.ol x.ap x.be).getD i []).length cc1]) (fun w9 _ => by kernel_rfl) (fun _ _ _ h => h) ⟨M2, M4, hwa, hr1, (hl.below HB), trivial⟩ ?_
        refine sd_all [14] (by kernel_rfl) (by decide) ?_
        refine sd_call (i := 14) rfl (by kernel_rfl) rfl rfl ((by have h8 := check16_n k.o0 k.o1 k.o2 k.o3 k.o4 k.o5 x.pl.length x.al.length x.tl.length k.c0 k.c1 k.c2 k.c3 k.c4 k.c5 x.ol x.ap x.be (by omega) hq.2.2.1 (by omega) hq.2.2.2.1 (by omega) Y12 (hI.below HB).h3 (hI.below HB).h4 (hI.below HB).h5 0 0 none (some ⟨b1, 0, none⟩) 0 0 cc1 b1 0 ((allS (ordN l) x.ol x.ap x.be).getD i []) (by omega) hr1; rw [chk_is hq.2.1 (by omega) hq.2.2.1 hq.2.2.2.1, hu1.1] at h8; exact h8)) (by kernel_rfl) ?_ AllReadyH.nil
        rintro e W13 ⟨rfl, hb⟩
        replace HB := over HB hb
        replace M2 := M2.below hb
        replace M4 := M4.below hb
        replace hfa := own_below hfa hb
        replace hea := hea.below hb
        replace hwa := hwa.below hb
        replace HL := over HL hb
        replace hr1 := hr1.below hb
        have z10 := hb.size
        clear hb
        refine ⟨_, rfl, ⟨M2, M4, hwa, hr1, (hl.below HB), trivial⟩, ?_⟩
        refine sd_take 15 rfl (by kernel_rfl) (by kernel_rfl) (by kernel_rfl) (by kernel_rfl) rfl rfl (.bool false) (fun w9 _ => by kernel_rfl) (fun _ _ _ h => h) ⟨M2, M4, hwa, hr1, (hl.below HB), trivial⟩ ?_
        refine sd_take 16 rfl (by kernel_rfl) (by kernel_rfl) (by kernel_rfl) (by kernel_rfl) rfl rfl (.bool false) (fun w9 _ => by kernel_rfl) (fun _ _ _ h => h) ⟨M2, M4, hwa, hr1, (hl.below HB), trivial⟩ ?_
        refine sd_take 17 rfl (by kernel_rfl) (by kernel_rfl) (by kernel_rfl) (by kernel_rfl) rfl rfl (.bool false) (fun w9 _ => by kernel_rfl) (fun _ _ _ h => h) ⟨M2, M4, hwa, hr1, (hl.below HB), trivial⟩ ?_
        refine sd_take 18 rfl (by kernel_rfl) (by kernel_rfl) (by kernel_rfl) (by kernel_rfl) rfl rfl (.int .i64 ((i : Nat) : Int)) (fun w9 _ => by kernel_rfl) (fun _ _ _ h => h) ⟨M2, M4, hwa, hr1, (hl.below HB), trivial⟩ ?_
        by_cases C5 : i > 0
        · refine sd_take 19 rfl (by kernel_rfl) (by kernel_rfl) (by kernel_rfl) (by kernel_rfl) rfl rfl (.bool true) (fun w9 _ => ex_bool (decide (((i : Nat) : Int) > 0)) true (by kernel_rfl) (decide_eq_true (by omega))) (fun _ _ _ h => h) ⟨M2, M4, hwa, hr1, (hl.below HB), trivial⟩ ?_
          refine sd_take 20 rfl (by kernel_rfl) (by kernel_rfl) (by kernel_rfl) (by kernel_rfl) rfl rfl (.bool true) (fun w9 _ => by kernel_rfl) (fun _ _ _ h => h) ⟨M2, M4, hwa, hr1, (hl.below HB), trivial⟩ ?_
          refine sd_take 21 rfl (by kernel_rfl) (by kernel_rfl) (by kernel_rfl) (by kernel_rfl) rfl rfl (.slice oaa vsa.length caa) (fun w9 _ => by kernel_rfl) (fun _ _ _ h => h) ⟨M2, M4, hwa, hr1, (hl.below HB), trivial⟩ ?_
          refine sd_take 22 rfl (by kernel_rfl) (by kernel_rfl) (by kernel_rfl) (by kernel_rfl) rfl rfl (.int .i64 ((i : Nat) : Int)) (fun w9 _ => by kernel_rfl) (fun _ _ _ h => h) ⟨M2, M4, hwa, hr1, (hl.below HB), trivial⟩ ?_
          obtain ⟨b0, cc0, e0, hr0, -⟩ := hea.at_ (i - 1) (by omega)
          have hu8 := allS_lens (ap := x.ap) hq.2.1 (by omega) hq.2.2.2.1 hzN.2 ((allS (ordN l) x.ol x.ap x.be).getD (i - 1) []) (getD_mem (by omega))
          refine sd_take 23 rfl (by kernel_rfl) (by kernel_rfl) (by kernel_rfl) (by kernel_rfl) rfl rfl (.int .i64 ((i - 1 : Nat) : Int)) (fun w9 _ => ex_int .i64 (IntKind.i64.wrap (((i : Nat) : Int) - 1)) (((i - 1 : Nat) : Int)) (by kernel_rfl) (by rw [IntKind.wrap_i64]; omega)) (fun _ _ _ h => h) ⟨M2, M4, hwa, hr1, (hl.below HB), trivial⟩ ?_
          refine sd_take 24 rfl (by kernel_rfl) (by kernel_rfl) (by kernel_rfl) (by kernel_rfl) rfl rfl (.pointer (some ⟨pa9, qa9 + (i - 1) * 1, none⟩)) (fun w9 h9 => ex_indexO (q := qa9) (m := vsa.length) (c := caa) (k := i - 1) (s := 1) rfl (by kernel_rfl) (h9.2.2.1.oa (k := i - 1) (by omega)) (by kernel_rfl) Try.underlying40 (by kernel_rfl) (by omega) (by omega)) (fun _ _ _ h => h) ⟨M2, M4, hwa, hr1, (hl.below HB), trivial⟩ ?_
          refine sd_take 25 rfl (by kernel_rfl) (by kernel_rfl) (by kernel_rfl) (by kernel_rfl) rfl rfl (.slice (some ⟨b0, 0, none⟩) ((allS (ordN l) x.ol x.ap x.be).getD (i - 1) []).length cc0) (fun w9 h9 => ex_load1 rfl (by have h8 := h9.2.2.1.cell (k := i - 1) (by omega) 0 rfl; rw [e0] at h8; exact h8) (by kernel_rfl) Try.underlying32 rfl) (fun _ _ _ h => h) ⟨M2, M4, hwa, hr1, (hl.below HB), trivial⟩ ?_
          refine sd_take 26 rfl (by kernel_rfl) (by kernel_rfl) (by kernel_rfl) (by kernel_rfl) rfl rfl (.slice oaa vsa.length caa) (fun w9 _ => by kernel_rfl) (fun _ _ _ h => h) ⟨M2, M4, hwa, hr1, (hl.below HB), trivial⟩ ?_
          refine sd_take 27 rfl (by kernel_rfl) (by kernel_rfl) (by kernel_rfl) (by kernel_rfl) rfl rfl (.int .i64 ((i : Nat) : Int)) (fun w9 _ => by kernel_rfl) (fun _ _ _ h => h) ⟨M2, M4, hwa, hr1, (hl.below HB), trivial⟩ ?_
          refine sd_take 28 rfl (by kernel_rfl) (by kernel_rfl) (by kernel_rfl) (by kernel_rfl) rfl rfl (.pointer (some ⟨pa9, qa9 + i * 1, none⟩)) (fun w9 h9 => ex_indexO (q := qa9) (m := vsa.length) (c := caa) (k := i) (s := 1) rfl (by kernel_rfl) (h9.2.2.1.oa (k := i) (by omega)) (by kernel_rfl) Try.underlying40 (by kernel_rfl) (by omega) (by omega)) (fun _ _ _ h => h) ⟨M2, M4, hwa, hr1, (hl.below HB), trivial⟩ ?_
          refine sd_take 29 rfl (by kernel_rfl) (by kernel_rfl) (by kernel_rfl) (by kernel_rfl) rfl rfl (.slice (some ⟨b1, 0, none⟩) ((allS (ordN l) x.ol x.ap x.be).getD i []).length cc1) (fun w9 h9 => ex_load1 rfl (by have h8 := h9.2.2.1.cell (k := i) (by omega) 0 rfl; rw [e1] at h8; exact h8) (by kernel_rfl) Try.underlying32 rfl) (fun _ _ _ h => h) ⟨M2, M4, hwa, hr1, (hl.below HB), trivial⟩ ?_
          refine sd_all [30] (by kernel_rfl) (by decide) ?_
          refine sd_call (i := 30) rfl (by kernel_rfl) rfl rfl ((by have h8 := less_n (some ⟨b0, 0, none⟩) (some ⟨b1, 0, none⟩) cc0 cc1 b0 0 b1 0 ((allS (ordN l) x.ol x.ap x.be).getD (i - 1) []) ((allS (ordN l) x.ol x.ap x.be).getD i []) (by omega) (by omega) W13 hr0 hr1; rw [up_at hfd.2.2.1 (show i - 1 < i by omega) (by omega)] at h8; exact h8)) (by kernel_rfl) ?_ AllReadyH.nil
          rintro e W14 ⟨rfl, hb⟩
          replace HB := over HB hb
          replace M2 := M2.below hb
          replace M4 := M4.below hb
          replace hfa := own_below hfa hb
          replace hea := hea.below hb
          replace hwa := hwa.below hb
          replace HL := over HL hb
          replace hr1 := hr1.below hb
          replace hr0 := hr0.below hb
          have z11 := hb.size
          clear hb
          refine ⟨_, rfl, ⟨M2, M4, hwa, hr1, (hl.below HB), trivial⟩, ?_⟩
          refine sd_take 31 rfl (by kernel_rfl) (by kernel_rfl) (by kernel_rfl) (by kernel_rfl) rfl rfl (.bool false) (fun w9 _ => by kernel_rfl) (fun _ _ _ h => h) ⟨M2, M4, hwa, hr1, (hl.below HB), trivial⟩ ?_
          refine sd_take 32 rfl (by kernel_rfl) (by kernel_rfl) (by kernel_rfl) (by kernel_rfl) rfl rfl (.bool false) (fun w9 _ => by kernel_rfl) (fun _ _ _ h => h) ⟨M2, M4, hwa, hr1, (hl.below HB), trivial⟩ ?_
          refine sd_take 33 rfl (by kernel_rfl) (by kernel_rfl) (by kernel_rfl) (by kernel_rfl) rfl rfl (.bool false) (fun w9 _ => by kernel_rfl) (fun _ _ _ h => h) ⟨M2, M4, hwa, hr1, (hl.below HB), trivial⟩ ?_
          refine sd_done (by kernel_rfl) ?_
          refine sx_norm ?_
          refine sx_false (by kernel_rfl) ?_
          refine wp_skip ?_
          refine sx_norm ?_
          obtain ⟨Y15, hW⟩ : ∃ W, W14.drew = W := ⟨_, rfl⟩
          have hb : Below W14.heap.size W14 Y15 := hW ▸ below_drew (Below.refl _ _)
          replace HB := over HB hb
          replace M2 := M2.below hb
          replace M4 := M4.below hb
          replace hfa := own_below hfa hb
          replace hea := hea.below hb
          replace hwa := hwa.below hb
          replace HL := over HL hb
          replace hr1 := hr1.below hb
          replace hr0 := hr0.below hb
          have z12 := hb.size
          clear hb
          refine sd_begin (fun W => Cb W (w.heap.size) #[.slice k.o0 x.pl.length k.c0, .slice k.o1 x.al.length k.c1, .slice k.o2 x.tl.length k.c2, .slice k.o3 x.ol.length k.c3, .slice k.o4 x.ap.length k.c4, .slice k.o5 x.be.length k.c5] 30 ∧ Cb W (W1.heap.size) #[.int .i64 ty, .int .i64 st, .slice orr nr cr, .slice oa l.length c] 34 ∧ Rw W pa9 qa9 1 (fun k => [vsa.getD k undef]) vsa.length oaa ∧ Rw W b1 0 2 (vF ((allS (ordN l) x.ol x.ap x.be).getD i [])) (((allS (ordN l) x.ol x.ap x.be).getD i []).length) (some ⟨b1, 0, none⟩) ∧ Rw W b o 2 (vF l) l.length oa ∧ True) (by kernel_rfl) (by rw [hW]; exact ⟨M2, M4, hwa, hr1, (hl.below HB), trivial⟩) ?_
          rw [hW]
          clear hW
          by_cases C6 : fd = true
          · subst C6
            refine sd_take 0 rfl (by kernel_rfl) (by kernel_rfl) (by kernel_rfl) (by kernel_rfl) rfl rfl (.bool true) (fun w9 _ => by kernel_rfl) (fun _ _ _ h => h) ⟨M2, M4, hwa, hr1, (hl.below HB), trivial⟩ ?_
            refine sd_take 1 rfl (by kernel_rfl) (by kernel_rfl) (by kernel_rfl) (by kernel_rfl) rfl rfl (.bool true) (fun w9 _ => by kernel_rfl) (fun _ _ _ h => h) ⟨M2, M4, hwa, hr1, (hl.below HB), trivial⟩ ?_
            refine sd_pass 2 rfl (by kernel_rfl) (by kernel_rfl) (by kernel_rfl) (by kernel_rfl) rfl rfl (fun _ _ _ h => h) ⟨M2, M4, hwa, hr1, (hl.below HB), trivial⟩ ?_
            refine sd_pass 3 rfl (by kernel_rfl) (by kernel_rfl) (by kernel_rfl) (by kernel_rfl) rfl rfl (fun _ _ _ h => h) ⟨M2, M4, hwa, hr1, (hl.below HB), trivial⟩ ?_
            refine sd_pass 4 rfl (by kernel_rfl) (by kernel_rfl) (by kernel_rfl) (by kernel_rfl) rfl rfl (fun _ _ _ h => h) ⟨M2, M4, hwa, hr1, (hl.below HB), trivial⟩ ?_
            refine sd_pass 5 rfl (by kernel_rfl) (by kernel_rfl) (by kernel_rfl) (by kernel_rfl) rfl rfl (fun _ _ _ h => h) ⟨M2, M4, hwa, hr1, (hl.below HB), trivial⟩ ?_
            refine sd_pass 6 rfl (by kernel_rfl) (by kernel_rfl) (by kernel_rfl) (by kernel_rfl) rfl rfl (fun _ _ _ h => h) ⟨M2, M4, hwa, hr1, (hl.below HB), trivial⟩ ?_
            refine sd_pass 7 rfl (by kernel_rfl) (by kernel_rfl) (by kernel_rfl) (by kernel_rfl) rfl rfl (fun _ _ _ h => h) ⟨M2, M4, hwa, hr1, (hl.below HB), trivial⟩ ?_
            refine sd_pass 8 rfl (by kernel_rfl) (by kernel_rfl) (by kernel_rfl) (by kernel_rfl) rfl rfl (fun _ _ _ h => h) ⟨M2, M4, hwa, hr1, (hl.below HB), trivial⟩ ?_
            refine sd_take 9 rfl (by kernel_rfl) (by kernel_rfl) (by kernel_rfl) (by kernel_rfl) rfl rfl (.bool true) (fun w9 _ => by kernel_rfl) (fun _ _ _ h => h) ⟨M2, M4, hwa, hr1, (hl.below HB), trivial⟩ ?_
            refine sd_take 10 rfl (by kernel_rfl) (by kernel_rfl) (by kernel_rfl) (by kernel_rfl) rfl rfl (.bool true) (fun w9 _ => by kernel_rfl) (fun _ _ _ h => h) ⟨M2, M4, hwa, hr1, (hl.below HB), trivial⟩ ?_
            refine sd_done (by kernel_rfl) ?_
            refine sx_in ?_
            refine sx_norm ?_
            refine wp_region_lit ?_
            refine sx_val (by kernel_rfl) rfl rfl (.int .i64 ((i : Nat) : Int)) (by kernel_rfl) ?_
            refine sx_int (by kernel_rfl) rfl rfl .i64 (IntKind.i64.wrap (((i : Nat) : Int) + 1)) (((i + 1 : Nat) : Int)) (by kernel_rfl) (by rw [IntKind.wrap_i64]; omega) ?_
            refine sx_val (by kernel_rfl) rfl rfl (.int .i64 ((i + 1 : Nat) : Int)) (by kernel_rfl) ?_
            refine wpList_nil ?_
            refine sx_norm ?_
            exact sx_again (vsa.length - (i + 1)) (i + 1, true) (by omega) (by kernel_rfl) ⟨by show i + 1 ≤ _; omega, Nat.le_refl _, (by rw [found_more (by omega), ← hfd9]; rfl), HL⟩
          have c2 : fd = false := by simpa using C6
          subst c2
          refine sd_take 0 rfl (by kernel_rfl) (by kernel_rfl) (by kernel_rfl) (by kernel_rfl) rfl rfl (.bool false) (fun w9 _ => by kernel_rfl) (fun _ _ _ h => h) ⟨M2, M4, hwa, hr1, (hl.below HB), trivial⟩ ?_
          refine sd_take 1 rfl (by kernel_rfl) (by kernel_rfl) (by kernel_rfl) (by kernel_rfl) rfl rfl (.bool false) (fun w9 _ => by kernel_rfl) (fun _ _ _ h => h) ⟨M2, M4, hwa, hr1, (hl.below HB), trivial⟩ ?_
          refine sd_take 2 rfl (by kernel_rfl) (by kernel_rfl) (by kernel_rfl) (by kernel_rfl) rfl rfl (.slice oaa vsa.length caa) (fun w9 _ => by kernel_rfl) (fun _ _ _ h => h) ⟨M2, M4, hwa, hr1, (hl.below HB), trivial⟩ ?_
          refine sd_take 3 rfl (by kernel_rfl) (by kernel_rfl) (by kernel_rfl) (by kernel_rfl) rfl rfl (.int .i64 ((i : Nat) : Int)) (fun w9 _ => by kernel_rfl) (fun _ _ _ h => h) ⟨M2, M4, hwa, hr1, (hl.below HB), trivial⟩ ?_
          refine sd_take 4 rfl (by kernel_rfl) (by kernel_rfl) (by kernel_rfl) (by kernel_rfl) rfl rfl (.pointer (some ⟨pa9, qa9 + i * 1, none⟩)) (fun w9 h9 => ex_indexO (q := qa9) (m := vsa.length) (c := caa) (k := i) (s := 1) rfl (by kernel_rfl) (h9.2.2.1.oa (k := i) (by omega)) (by kernel_rfl) Try.underlying40 (by kernel_rfl) (by omega) (by omega)) (fun _ _ _ h => h) ⟨M2, M4, hwa, hr1, (hl.below HB), trivial⟩ ?_
          refine sd_take 5 rfl (by kernel_rfl) (by kernel_rfl) (by kernel_rfl) (by kernel_rfl) rfl rfl (.slice (some ⟨b1, 0, none⟩) ((allS (ordN l) x.ol x.ap x.be).getD i []).length cc1) (fun w9 h9 => ex_load1 rfl (by have h8 := h9.2.2.1.cell (k := i) (by omega) 0 rfl; rw [e1] at h8; exact h8) (by kernel_rfl) Try.underlying32 rfl) (fun _ _ _ h => h) ⟨M2, M4, hwa, hr1, (hl.below HB), trivial⟩ ?_
          refine sd_take 6 rfl (by kernel_rfl) (by kernel_rfl) (by kernel_rfl) (by kernel_rfl) rfl rfl (.pointer (some ⟨W1.heap.size, 3, none⟩)) (fun w9 _ => by kernel_rfl) (fun _ _ _ h => h) ⟨M2, M4, hwa, hr1, (hl.below HB), trivial⟩ ?_
          refine sd_take 7 rfl (by kernel_rfl) (by kernel_rfl) (by kernel_rfl) (by kernel_rfl) rfl rfl (.slice oa l.length c) (fun w9 h9 => ex_load1 rfl (h9.2.1.cell 3 rfl) (by kernel_rfl) Try.underlying32 rfl) (fun _ _ _ h => h) ⟨M2, M4, hwa, hr1, (hl.below HB), trivial⟩ ?_
          refine sd_all [8] (by kernel_rfl) (by decide) ?_
          refine sd_call (i := 8) rfl (by kernel_rfl) rfl rfl (same16_n (some ⟨b1, 0, none⟩) oa cc1 c b1 0 b o ((allS (ordN l) x.ol x.ap x.be).getD i []) l (by omega) (by omega) Y15 hr1 (hl.below HB)) (by kernel_rfl) ?_ AllReadyH.nil
          rintro e W16 ⟨rfl, hb⟩
          replace HB := over HB hb
          replace M2 := M2.below hb
          replace M4 := M4.below hb
          replace hfa := own_below hfa hb
          replace hea := hea.below hb
          replace hwa := hwa.below hb
          replace HL := over HL hb
          replace hr1 := hr1.below hb
          replace hr0 := hr0.below hb
          have z13 := hb.size
          clear hb
          refine ⟨_, rfl, ⟨M2, M4, hwa, hr1, (hl.below HB), trivial⟩, ?_⟩
          refine sd_take 9 rfl (by kernel_rfl) (by kernel_rfl) (by kernel_rfl) (by kernel_rfl) rfl rfl (.bool (decide ((allS (ordN l) x.ol x.ap x.be).getD i [] = l))) (fun w9 _ => by kernel_rfl) (fun _ _ _ h => h) ⟨M2, M4, hwa, hr1, (hl.below HB), trivial⟩ ?_
          refine sd_take 10 rfl (by kernel_rfl) (by kernel_rfl) (by kernel_rfl) (by kernel_rfl) rfl rfl (.bool (decide ((allS (ordN l) x.ol x.ap x.be).getD i [] = l))) (fun w9 _ => by kernel_rfl) (fun _ _ _ h => h) ⟨M2, M4, hwa, hr1, (hl.below HB), trivial⟩ ?_
          refine sd_done (by kernel_rfl) ?_
          refine sx_in ?_
          refine sx_norm ?_
          refine wp_region_lit ?_
          refine sx_val (by kernel_rfl) rfl rfl (.int .i64 ((i : Nat) : Int)) (by kernel_rfl) ?_
          refine sx_int (by kernel_rfl) rfl rfl .i64 (IntKind.i64.wrap (((i : Nat) : Int) + 1)) (((i + 1 : Nat) : Int)) (by kernel_rfl) (by rw [IntKind.wrap_i64]; omega) ?_
          refine sx_val (by kernel_rfl) rfl rfl (.int .i64 ((i + 1 : Nat) : Int)) (by kernel_rfl) ?_
          refine wpList_nil ?_
          refine sx_norm ?_
          exact sx_again (vsa.length - (i + 1)) (i + 1, decide ((allS (ordN l) x.ol x.ap x.be).getD i [] = l)) (by omega) (by kernel_rfl) ⟨by show i + 1 ≤ _; omega, Nat.le_refl _, (by rw [found_more (by omega), ← hfd9]; rfl), HL⟩
        refine sd_take 19 rfl (by kernel_rfl) (by kernel_rfl) (by kernel_rfl) (by kernel_rfl) rfl rfl (.bool false) (fun w9 _ => ex_bool (decide (((i : Nat) : Int) > 0)) false (by kernel_rfl) (decide_eq_false (by omega))) (fun _ _ _ h => h) ⟨M2, M4, hwa, hr1, (hl.below HB), trivial⟩ ?_
        refine sd_take 20 rfl (by kernel_rfl) (by kernel_rfl) (by kernel_rfl) (by kernel_rfl) rfl rfl (.bool false) (fun w9 _ => by kernel_rfl) (fun _ _ _ h => h) ⟨M2, M4, hwa, hr1, (hl.below HB), trivial⟩ ?_
        refine sd_pass 21 rfl (by kernel_rfl) (by kernel_rfl) (by kernel_rfl) (by kernel_rfl) rfl rfl (fun _ _ _ h => h) ⟨M2, M4, hwa, hr1, (hl.below HB), trivial⟩ ?_
        refine sd_pass 22 rfl (by kernel_rfl) (by kernel_rfl) (by kernel_rfl) (by kernel_rfl) rfl rfl (fun _ _ _ h => h) ⟨M2, M4, hwa, hr1, (hl.below HB), trivial⟩ ?_
        refine sd_pass 23 rfl (by kernel_rfl) (by kernel_rfl) (by kernel_rfl) (by kernel_rfl) rfl rfl (fun _ _ _ h => h) ⟨M2, M4, hwa, hr1, (hl.below HB), trivial⟩ ?_
        refine sd_pass 24 rfl (by kernel_rfl) (by kernel_rfl) (by kernel_rfl) (by kernel_rfl) rfl rfl (fun _ _ _ h => h) ⟨M2, M4, hwa, hr1, (hl.below HB), trivial⟩ ?_
        refine sd_pass 25 rfl (by kernel_rfl) (by kernel_rfl) (by kernel_rfl) (by kernel_rfl) rfl rfl (fun _ _ _ h => h) ⟨M2, M4, hwa, hr1, (hl.below HB), trivial⟩ ?_
        refine sd_pass 26 rfl (by kernel_rfl) (by kernel_rfl) (by kernel_rfl) (by kernel_rfl) rfl rfl (fun _ _ _ h => h) ⟨M2, M4, hwa, hr1, (hl.below HB), trivial⟩ ?_
        refine sd_pass 27 rfl (by kernel_rfl) (by kernel_rfl) (by kernel_rfl) (by kernel_rfl) rfl rfl (fun _ _ _ h => h) ⟨M2, M4, hwa, hr1, (hl.below HB), trivial⟩ ?_
        refine sd_pass 28 rfl (by kernel_rfl) (by kernel_rfl) (by kernel_rfl) (by kernel_rfl) rfl rfl (fun _ _ _ h => h) ⟨M2, M4, hwa, hr1, (hl.below HB), trivial⟩ ?_
        refine sd_pass 29 rfl (by kernel_rfl) (by kernel_rfl) (by kernel_rfl) (by kernel_rfl) rfl rfl (fun _ _ _ h => h) ⟨M2, M4, hwa, hr1, (hl.below HB), trivial⟩ ?_
        refine sd_pass 30 rfl (by kernel_rfl) (by kernel_rfl) (by kernel_rfl) (by kernel_rfl) rfl rfl (fun _ _ _ h => h) ⟨M2, M4, hwa, hr1, (hl.below HB), trivial⟩ ?_
        refine sd_pass 31 rfl (by kernel_rfl) (by kernel_rfl) (by kernel_rfl) (by kernel_rfl) rfl rfl (fun _ _ _ h => h) ⟨M2, M4, hwa, hr1, (hl.below HB), trivial⟩ ?_
        refine sd_take 32 rfl (by kernel_rfl) (by kernel_rfl) (by kernel_rfl) (by kernel_rfl) rfl rfl (.bool false) (fun w9 _ => by kernel_rfl) (fun _ _ _ h => h) ⟨M2, M4, hwa, hr1, (hl.below HB), trivial⟩ ?_
        refine sd_take 33 rfl (by kernel_rfl) (by kernel_rfl) (by kernel_rfl) (by kernel_rfl) rfl rfl (.bool false) (fun w9 _ => by kernel_rfl) (fun _ _ _ h => h) ⟨M2, M4, hwa, hr1, (hl.below HB), trivial⟩ ?_
        refine sd_done (by kernel_rfl) ?_
        refine sx_norm ?_
        refine sx_false (by kernel_rfl) ?_
        refine wp_skip ?_
        refine sx_norm ?_
        obtain ⟨Y17, hW⟩ : ∃ W, W13.drew = W := ⟨_, rfl⟩
        have hb : Below W13.heap.size W13 Y17 := hW ▸ below_drew (Below.refl _ _)
        replace HB := over HB hb
        replace M2 := M2.below hb
        replace M4 := M4.below hb
        replace hfa := own_below hfa hb
        replace hea := hea.below hb
        replace hwa := hwa.below hb
        replace HL := over HL hb
        replace hr1 := hr1.below hb
        have z11 := hb.size
        clear hb
        refine sd_begin (fun W => Cb W (w.heap.size) #[.slice k.o0 x.pl.length k.c0, .slice k.o1 x.al.length k.c1, .slice k.o2 x.tl.length k.c2, .slice k.o3 x.ol.length k.c3, .slice k.o4 x.ap.length k.c4, .slice k.o5 x.be.length k.c5] 30 ∧ Cb W (W1.heap.size) #[.int .i64 ty, .int .i64 st, .slice orr nr cr, .slice oa l.length c] 34 ∧ Rw W pa9 qa9 1 (fun k => [vsa.getD k undef]) vsa.length oaa ∧ Rw W b1 0 2 (vF ((allS (ordN l) x.ol x.ap x.be).getD i [])) (((allS (ordN l) x.ol x.ap x.be).getD i []).length) (some ⟨b1, 0, none⟩) ∧ Rw W b o 2 (vF l) l.length oa ∧ True) (by kernel_rfl) (by rw [hW]; exact ⟨M2, M4, hwa, hr1, (hl.below HB), trivial⟩) ?_
        rw [hW]
        clear hW
        by_cases C7 : fd = true
        · subst C7
          refine sd_take 0 rfl (by kernel_rfl) (by kernel_rfl) (by kernel_rfl) (by kernel_rfl) rfl rfl (.bool true) (fun w9 _ => by kernel_rfl) (fun _ _ _ h => h) ⟨M2, M4, hwa, hr1, (hl.below HB), trivial⟩ ?_
          refine sd_take 1 rfl (by kernel_rfl) (by kernel_rfl) (by kernel_rfl) (by kernel_rfl) rfl rfl (.bool true) (fun w9 _ => by kernel_rfl) (fun _ _ _ h => h) ⟨M2, M4, hwa, hr1, (hl.below HB), trivial⟩ ?_
          refine sd_pass 2 rfl (by kernel_rfl) (by kernel_rfl) (by kernel_rfl) (by kernel_rfl) rfl rfl (fun _ _ _ h => h) ⟨M2, M4, hwa, hr1, (hl.below HB), trivial⟩ ?_
          refine sd_pass 3 rfl (by kernel_rfl) (by kernel_rfl) (by kernel_rfl) (by kernel_rfl) rfl rfl (fun _ _ _ h => h) ⟨M2, M4, hwa, hr1, (hl.below HB), trivial⟩ ?_
          refine sd_pass 4 rfl (by kernel_rfl) (by kernel_rfl) (by kernel_rfl) (by kernel_rfl) rfl rfl (fun _ _ _ h => h) ⟨M2, M4, hwa, hr1, (hl.below HB), trivial⟩ ?_
          refine sd_pass 5 rfl (by kernel_rfl) (by kernel_rfl) (by kernel_rfl) (by kernel_rfl) rfl rfl (fun _ _ _ h => h) ⟨M2, M4, hwa, hr1, (hl.below HB), trivial⟩ ?_
          refine sd_pass 6 rfl (by kernel_rfl) (by kernel_rfl) (by kernel_rfl) (by kernel_rfl) rfl rfl (fun _ _ _ h => h) ⟨M2, M4, hwa, hr1, (hl.below HB), trivial⟩ ?_
          refine sd_pass 7 rfl (by kernel_rfl) (by kernel_rfl) (by kernel_rfl) (by kernel_rfl) rfl rfl (fun _ _ _ h => h) ⟨M2, M4, hwa, hr1, (hl.below HB), trivial⟩ ?_
          refine sd_pass 8 rfl (by kernel_rfl) (by kernel_rfl) (by kernel_rfl) (by kernel_rfl) rfl rfl (fun _ _ _ h => h) ⟨M2, M4, hwa, hr1, (hl.below HB), trivial⟩ ?_
          refine sd_take 9 rfl (by kernel_rfl) (by kernel_rfl) (by kernel_rfl) (by kernel_rfl) rfl rfl (.bool true) (fun w9 _ => by kernel_rfl) (fun _ _ _ h => h) ⟨M2, M4, hwa, hr1, (hl.below HB), trivial⟩ ?_
          refine sd_take 10 rfl (by kernel_rfl) (by kernel_rfl) (by kernel_rfl) (by kernel_rfl) rfl rfl (.bool true) (fun w9 _ => by kernel_rfl) (fun _ _ _ h => h) ⟨M2, M4, hwa, hr1, (hl.below HB), trivial⟩ ?_
          refine sd_done (by kernel_rfl) ?_
          refine sx_in ?_
          refine sx_norm ?_
          refine wp_region_lit ?_
          refine sx_val (by kernel_rfl) rfl rfl (.int .i64 ((i : Nat) : Int)) (by kernel_rfl) ?_
          refine sx_int (by kernel_rfl) rfl rfl .i64 (IntKind.i64.wrap (((i : Nat) : Int) + 1)) (((i + 1 : Nat) : Int)) (by kernel_rfl) (by rw [IntKind.wrap_i64]; omega) ?_
          refine sx_val (by kernel_rfl) rfl rfl (.int .i64 ((i + 1 : Nat) : Int)) (by kernel_rfl) ?_
          refine wpList_nil ?_
          refine sx_norm ?_
          exact sx_again (vsa.length - (i + 1)) (i + 1, true) (by omega) (by kernel_rfl) ⟨by show i + 1 ≤ _; omega, Nat.le_refl _, (by rw [found_more (by omega), ← hfd9]; rfl), HL⟩
        have c2 : fd = false := by simpa using C7
        subst c2
        refine sd_take 0 rfl (by kernel_rfl) (by kernel_rfl) (by kernel_rfl) (by kernel_rfl) rfl rfl (.bool false) (fun w9 _ => by kernel_rfl) (fun _ _ _ h => h) ⟨M2, M4, hwa, hr1, (hl.below HB), trivial⟩ ?_
        refine sd_take 1 rfl (by kernel_rfl) (by kernel_rfl) (by kernel_rfl) (by kernel_rfl) rfl rfl (.bool false) (fun w9 _ => by kernel_rfl) (fun _ _ _ h => h) ⟨M2, M4, hwa, hr1, (hl.below HB), trivial⟩ ?_
        refine sd_take 2 rfl (by kernel_rfl) (by kernel_rfl) (by kernel_rfl) (by kernel_rfl) rfl rfl (.slice oaa vsa.length caa) (fun w9 _ => by kernel_rfl) (fun _ _ _ h => h) ⟨M2, M4, hwa, hr1, (hl.below HB), trivial⟩ ?_
        refine sd_take 3 rfl (by kernel_rfl) (by kernel_rfl) (by kernel_rfl) (by kernel_rfl) rfl rfl (.int .i64 ((i : Nat) : Int)) (fun w9 _ => by kernel_rfl) (fun _ _ _ h => h) ⟨M2, M4, hwa, hr1, (hl.below HB), trivial⟩ ?_
        refine sd_take 4 rfl (by kernel_rfl) (by kernel_rfl) (by kernel_rfl) (by kernel_rfl) rfl rfl (.pointer (some ⟨pa9, qa9 + i * 1, none⟩)) (fun w9 h9 => ex_indexO (q := qa9) (m := vsa.length) (c := caa) (k := i) (s := 1) rfl (by kernel_rfl) (h9.2.2.1.oa (k := i) (by omega)) (by kernel_rfl) Try.underlying40 (by kernel_rfl) (by omega) (by omega)) (fun _ _ _ h => h) ⟨M2, M4, hwa, hr1, (hl.below HB), trivial⟩ ?_
        refine sd_take 5 rfl (by kernel_rfl) (by kernel_rfl) (by kernel_rfl) (by kernel_rfl) rfl rfl (.slice (some ⟨b1, 0, none⟩) ((allS (ordN l) x.ol x.ap x.be).getD i []).length cc1) (fun w9 h9 => ex_load1 rfl (by have h8 := h9.2.2.1.cell (k := i) (by omega) 0 rfl; rw [e1] at h8; exact h8) (by kernel_rfl) Try.underlying32 rfl) (fun _ _ _ h => h) ⟨M2, M4, hwa, hr1, (hl.below HB), trivial⟩ ?_
        refine sd_take 6 rfl (by kernel_rfl) (by kernel_rfl) (by kernel_rfl) (by kernel_rfl) rfl rfl (.pointer (some ⟨W1.heap.size, 3, none⟩)) (fun w9 _ => by kernel_rfl) (fun _ _ _ h => h) ⟨M2, M4, hwa, hr1, (hl.below HB), trivial⟩ ?_
        refine sd_take 7 rfl (by kernel_rfl) (by kernel_rfl) (by kernel_rfl) (by kernel_rfl) rfl rfl (.slice oa l.length c) (fun w9 h9 => ex_load1 rfl (h9.2.1.cell 3 rfl) (by kernel_rfl) Try.underlying32 rfl) (fun _ _ _ h => h) ⟨M2, M4, hwa, hr1, (hl.below HB), trivial⟩ ?_
        refine sd_all [8] (by kernel_rfl) (by decide) ?_
        refine sd_call (i := 8) rfl (by kernel_rfl) rfl rfl (same16_n (some ⟨b1, 0, none⟩) oa cc1 c b1 0 b o ((allS (ordN l) x.ol x.ap x.be).getD i []) l (by omega) (by omega) Y17 hr1 (hl.below HB)) (by kernel_rfl) ?_ AllReadyH.nil
        rintro e W18 ⟨rfl, hb⟩
        replace HB := over HB hb
        replace M2 := M2.below hb
        replace M4 := M4.below hb
        replace hfa := own_below hfa hb
        replace hea := hea.below hb
        replace hwa := hwa.below hb
        replace HL := over HL hb
        replace hr1 := hr1.below hb
        have z12 := hb.size
        clear hb
        refine ⟨_, rfl, ⟨M2, M4, hwa, hr1, (hl.below HB), trivial⟩, ?_⟩
        refine sd_take 9 rfl (by kernel_rfl) (by kernel_rfl) (by kernel_rfl) (by kernel_rfl) rfl rfl (.bool (decide ((allS (ordN l) x.ol x.ap x.be).getD i [] = l))) (fun w9 _ => by kernel_rfl) (fun _ _ _ h => h) ⟨M2, M4, hwa, hr1, (hl.below HB), trivial⟩ ?_
        refine sd_take 10 rfl (by kernel_rfl) (by kernel_rfl) (by kernel_rfl) (by kernel_rfl) rfl rfl (.bool (decide ((allS (ordN l) x.ol x.ap x.be).getD i [] = l))) (fun w9 _ => by kernel_rfl) (fun _ _ _ h => h) ⟨M2, M4, hwa, hr1, (hl.below HB), trivial⟩ ?_
        refine sd_done (by kernel_rfl) ?_
        refine sx_in ?_
        refine sx_norm ?_
        refine wp_region_lit ?_
        refine sx_val (by kernel_rfl) rfl rfl (.int .i64 ((i : Nat) : Int)) (by kernel_rfl) ?_
        refine sx_int (by kernel_rfl) rfl rfl .i64 (IntKind.i64.wrap (((i : Nat) : Int) + 1)) (((i + 1 : Nat) : Int)) (by kernel_rfl) (by rw [IntKind.wrap_i64]; omega) ?_
        refine sx_val (by kernel_rfl) rfl rfl (.int .i64 ((i + 1 : Nat) : Int)) (by kernel_rfl) ?_
        refine wpList_nil ?_
        refine sx_norm ?_
        exact sx_again (vsa.length - (i + 1)) (i + 1, decide ((allS (ordN l) x.ol x.ap x.be).getD i [] = l)) (by omega) (by kernel_rfl) ⟨by show i + 1 ≤ _; omega, Nat.le_refl _, (by rw [found_more (by omega), ← hfd9]; rfl), HL⟩
      refine sx_bool (by kernel_rfl) rfl rfl (decide (((i : Nat) : Int) < ((vsa.length : Nat) : Int))) false (by kernel_rfl) (decide_eq_false (by omega)) ?_
      refine wpList_nil ?_
      refine sx_norm ?_
      refine sx_false (by kernel_rfl) ?_
      refine wp_exit ?_
      refine sx_es ?_
      refine sx_es ?_
      refine sx_out ?_
      refine sx_norm ?_
      refine wp_seq ?_
      have hi9 : i = (allS (ordN l) x.ol x.ap x.be).length := by omega
      rw [hi9, List.take_length, decide_eq_true hfd.2.2.2] at hfd9
      subst hfd9
      refine wp_region_lit ?_
      refine sx_val (by kernel_rfl) rfl rfl (.bool true) (by kernel_rfl) ?_
      refine sx_val (by kernel_rfl) rfl rfl (.bool true) (by kernel_rfl) ?_
      refine sx_call (by kernel_rfl) rfl rfl (awake16_n wr10) (by kernel_rfl) ?_
      rintro e W19 ⟨rfl, hb⟩
      replace HB := over HB hb
      replace M2 := M2.below hb
      replace M4 := M4.below hb
      replace hfa := own_below hfa hb
      replace hea := hea.below hb
      replace hwa := hwa.below hb
      replace HL := over HL hb
      have z8 := hb.size
      clear hb
      refine ⟨_, rfl, ?_⟩
      refine sx_val (by kernel_rfl) rfl rfl (.bool true) (by kernel_rfl) ?_
      refine sx_val (by kernel_rfl) rfl rfl (.bool true) (by kernel_rfl) ?_
      refine wpList_nil ?_
      refine sx_norm ?_
      refine wp_ret ?_
      exact sx_ret1 (.bool true) rfl rfl (by kernel_rfl) ⟨rfl, HB⟩
    refine sx_bool (by kernel_rfl) rfl rfl (((chkR x.ol x.ap x.be l) : Int) != (0 : Int)) true (by kernel_rfl) (bne_iff_ne.2 (by omega)) ?_
    refine sx_val (by kernel_rfl) rfl rfl (.bool true) (by kernel_rfl) ?_
    refine wpList_nil ?_
    refine sx_norm ?_
    refine sx_true (by kernel_rfl) ?_
    refine wp_seq ?_
    refine wp_region_lit ?_
    refine sx_call (by kernel_rfl) rfl rfl (awake16_n W7) (by kernel_rfl) ?_
    rintro e W20 ⟨rfl, hb⟩
    replace HB := over HB hb
    replace M2 := M2.below hb
    replace M4 := M4.below hb
    have z5 := hb.size
    clear hb
    refine ⟨_, rfl, ?_⟩
    refine sx_val (by kernel_rfl) rfl rfl (.bool true) (by kernel_rfl) ?_
    refine wpList_nil ?_
    refine sx_norm ?_
    refine wp_ret ?_
    refine sx_rs ?_
    exact sx_ret1 (.bool true) rfl rfl (by kernel_rfl) ⟨rfl, HB⟩
  refine sx_call (by kernel_rfl) rfl rfl ((by have h8 := few_n k x hv W3 (hI.below HB); rw [show (fewB x) = false by simpa using C1] at h8; exact h8)) (by kernel_rfl) ?_
  rintro e W21 ⟨rfl, hb⟩
  replace HB := over HB hb
  replace M2 := M2.below hb
  replace M4 := M4.below hb
  have z3 := hb.size
  clear hb
  refine ⟨_, rfl, ?_⟩
  refine sx_val (by kernel_rfl) rfl rfl (.bool true) (by kernel_rfl) ?_
  refine sx_val (by kernel_rfl) rfl rfl (.bool true) (by kernel_rfl) ?_
  refine sx_skip (by kernel_rfl) rfl rfl ?_
  refine sx_skip (by kernel_rfl) rfl rfl ?_
  refine sx_skip (by kernel_rfl) rfl rfl ?_
  refine sx_skip (by kernel_rfl) rfl rfl ?_
  refine sx_val (by kernel_rfl) rfl rfl (.bool true) (by kernel_rfl) ?_
  refine sx_val (by kernel_rfl) rfl rfl (.bool true) (by kernel_rfl) ?_
  refine sx_skip (by kernel_rfl) rfl rfl ?_
  refine sx_skip (by kernel_rfl) rfl rfl ?_
  refine sx_skip (by kernel_rfl) rfl rfl ?_
  refine sx_skip (by kernel_rfl) rfl rfl ?_
  refine sx_val (by kernel_rfl) rfl rfl (.bool true) (by kernel_rfl) ?_
  refine wpList_nil ?_
  refine sx_norm ?_
  refine sx_true (by kernel_rfl) ?_
  refine wp_seq ?_
  refine wp_region_lit ?_
  refine sx_call (by kernel_rfl) rfl rfl (awake16_n W21) (by kernel_rfl) ?_
  rintro e W22 ⟨rfl, hb⟩
  replace HB := over HB hb
  replace M2 := M2.below hb
  replace M4 := M4.below hb
  have z4 := hb.size
  clear hb
  refine ⟨_, rfl, ?_⟩
  refine sx_val (by kernel_rfl) rfl rfl (.bool true) (by kernel_rfl) ?_
  refine wpList_nil ?_
  refine sx_norm ?_
  refine wp_ret ?_
  refine sx_rs ?_
  exact sx_ret1 (.bool true) rfl rfl (by kernel_rfl) ⟨rfl, HB⟩

end Go.Proofs.Ytoliacfpjhanlaa.T


