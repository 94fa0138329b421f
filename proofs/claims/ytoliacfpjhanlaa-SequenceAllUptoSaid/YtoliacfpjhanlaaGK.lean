/-
  DERIVED. GK: a part of the base of layer 13 (made by pack.py).
-/
import Derived.Test.YtoliacfpjhanlaaGJ
/-! The specification of sequences: ready, paired, apart, before (by gen_ub.py). -/
namespace Go.Proofs.Ytoliacfpjhanlaa.T
open Go.RowKit
set_option maxRecDepth 8000
attribute [local irreducible] wpList Code.wp wpAnyH

theorem visR_len (ol : List OrT) (k : Nat) : (visR ol k).length ≤ 2 := by
  unfold visR
  rw [List.length_append]
  split <;> split <;> simp
theorem allP_take {α : Type} {p : α → Bool} {l : List α} {d : α} {j : Nat} (hj : j < l.length) (h : (l.take j).all p = true) (h2 : p (l.getD j d) = true) : (l.take (j + 1)).all p = true := by
  rw [take_more (d := d) hj, List.all_append, h, List.all_cons, List.all_nil, h2]
  rfl
theorem allP_no {α : Type} {p : α → Bool} {l : List α} {d : α} {j : Nat} (hj : j < l.length) (h2 : p (l.getD j d) = false) : l.all p = false := by
  rw [List.all_eq_false]
  exact ⟨_, getD_mem hj, by rw [h2]; decide⟩
theorem allP_end {α : Type} {p : α → Bool} {l : List α} {j : Nat} (hj : l.length ≤ j) (h : (l.take j).all p = true) : l.all p = true := by rwa [List.take_of_length_le hj] at h
/-- are all visits of the orders before order k in l? -/
def rdyP (ol : List OrT) (l : List (Int × Bool)) (k : Nat) (p : Int × Int) : Bool := !decide (U.pb p = k) || conV l (visR ol (U.pa p))
def rdyB (ol : List OrT) (be : List (Int × Int)) (l : List (Int × Bool)) (k : Nat) : Bool := be.all (rdyP ol l k)
theorem refReady_n (o0 o1 o2 o3 o4 o5 : Option Addr) (n0 n1 n2 n4 c0 c1 c2 c3 c4 c5 : Nat) (ol : List OrT) (be : List (Int × Int)) (hn : ol.length ≤ 10) (hr : U.Rt ol.length be) (hl : be.length ≤ 1000000) (w : World) (hos : Os w (.slice o3 ol.length c3) ol) (hps : Ps w (.slice o5 be.length c5) be) (k : Nat) (l : List (Int × Bool)) (ll : l.length ≤ 1000000) (oa : Option Addr) (c b o : Nat) (hv : Rw w b o 2 (vF l) l.length oa) : Calls Try.prog 46 #[.agg #[.slice o0 n0 c0, .slice o1 n1 c1, .slice o2 n2 c2, .slice o3 ol.length c3, .slice o4 n4 c4, .slice o5 be.length c5], .int .i64 ((k : Nat) : Int), .slice oa l.length c] w fun e w' => e = .returned (.bool (rdyB ol be l k)) ∧ Below w.heap.size w w' := by
  have HB : Below w.heap.size w w := Below.refl _ _
  obtain ⟨b5, q5, hpr⟩ := Ps.rw hr hps
  refine sx_enter Try.func46 rfl [(0, .agg #[.slice o0 n0 c0, .slice o1 n1 c1, .slice o2 n2 c2, .slice o3 ol.length c3, .slice o4 n4 c4, .slice o5 be.length c5]), (1, .int .i64 ((k : Nat) : Int)), (2, .slice oa l.length c)] (by kernel_rfl) ?_
  refine wp_seq ?_
  refine wp_region_lit ?_
  obtain ⟨W1, hW⟩ : ∃ W, w.alloc (.cells #[.slice o0 n0 c0, .slice o1 n1 c1, .slice o2 n2 c2, .slice o3 ol.length c3, .slice o4 n4 c4, .slice o5 be.length c5] 30) = W := ⟨_, rfl⟩
  have hb := hW ▸ below_alloc w (.cells #[.slice o0 n0 c0, .slice o1 n1 c1, .slice o2 n2 c2, .slice o3 ol.length c3, .slice o4 n4 c4, .slice o5 be.length c5] 30)
  have hq : Cb W1 w.heap.size #[.slice o0 n0 c0, .slice o1 n1 c1, .slice o2 n2 c2, .slice o3 ol.length c3, .slice o4 n4 c4, .slice o5 be.length c5] 30 := hW ▸ Cb.made w #[.slice o0 n0 c0, .slice o1 n1 c1, .slice o2 n2 c2, .slice o3 ol.length c3, .slice o4 n4 c4, .slice o5 be.length c5] 30
  refine sx_mem (by kernel_rfl) rfl rfl (.pointer (some ⟨w.heap.size, 0, none⟩)) W1 (by rw [← hW]; kernel_rfl) ?_
  replace HB := over HB hb
  have z1 := hb.size
  have M2 := hq
  have yM2 := hq.lt
  clear hq hb hW
  refine sx_val (by kernel_rfl) rfl rfl (.bool false) (by kernel_rfl) ?_
  refine wpList_nil ?_
  refine sx_norm ?_
  refine wp_seq ?_
  refine wp_seq ?_
  refine wp_region_lit ?_
  refine sx_val (by kernel_rfl) rfl rfl (.int .i64 0) (by kernel_rfl) ?_
  refine wpList_nil ?_
  refine sx_norm ?_
  refine wp_block ?_
  refine sx_loop (fun j : Nat => [(0, .agg #[.slice o0 n0 c0, .slice o1 n1 c1, .slice o2 n2 c2, .slice o3 ol.length c3, .slice o4 n4 c4, .slice o5 be.length c5]), (1, .int .i64 ((k : Nat) : Int)), (2, .slice oa l.length c), (3, .pointer (some ⟨w.heap.size, 0, none⟩)), (7, .int .i64 ((j : Nat) : Int))]) (fun gg j wr => j ≤ be.length ∧ be.length - j ≤ gg ∧ (be.take j).all (rdyP ol l k) = true ∧ Below W1.heap.size W1 wr) (be.length) (0) (by kernel_rfl) ⟨Nat.zero_le _, Nat.le_refl _, rfl, Below.refl _ _⟩ ?_
  rintro gg j g' wr3 ⟨hj, hg, hI, hbl⟩
  replace HB := over HB hbl
  replace M2 := M2.below hbl
  have z2 := hbl.size
  have HL := hbl
  clear hbl
  refine wp_seq ?_
  refine wp_seq ?_
  refine wp_region_lit ?_
  refine sx_val (by kernel_rfl) rfl rfl (.int .i64 ((j : Nat) : Int)) (by kernel_rfl) ?_
  refine sx_val (by kernel_rfl) rfl rfl (.pointer (some ⟨w.heap.size, 5, none⟩)) (by kernel_rfl) ?_
  refine sx_val (by kernel_rfl) rfl rfl (.slice o5 be.length c5) (ex_load1 rfl (M2.cell 5 rfl) (by kernel_rfl) Try.underlying28 rfl) ?_
  refine sx_val (by kernel_rfl) rfl rfl (.int .i64 ((be.length : Nat) : Int)) (by kernel_rfl) ?_
  by_cases C1 : j < be.length
  · refine sx_bool (by kernel_rfl) rfl rfl (decide (((j : Nat) : Int) < ((be.length : Nat) : Int))) true (by kernel_rfl) (decide_eq_true (by omega)) ?_
    refine wpList_nil ?_
    refine sx_norm ?_
    refine sx_true (by kernel_rfl) ?_
    refine wp_skip ?_
    refine sx_norm ?_
    refine wp_seq ?_
    refine wp_block ?_
    refine wp_seq ?_
    have hrt := U.getD_rt hr (k := j) (by omega)
    have hpa := hrt.1
    have hpb := hrt.2.1
    clear hrt
    refine wp_region_lit ?_
    refine sx_val (by kernel_rfl) rfl rfl (.pointer (some ⟨w.heap.size, 5, none⟩)) (by kernel_rfl) ?_
    refine sx_val (by kernel_rfl) rfl rfl (.slice o5 be.length c5) (ex_load1 rfl (M2.cell 5 rfl) (by kernel_rfl) Try.underlying28 rfl) ?_
    refine sx_val (by kernel_rfl) rfl rfl (.int .i64 ((j : Nat) : Int)) (by kernel_rfl) ?_
    refine sx_val (by kernel_rfl) rfl rfl (.pointer (some ⟨b5, q5 + j * 2, none⟩)) (ex_indexO (q := q5) (m := be.length) (c := c5) (k := j) (s := 2) rfl (by kernel_rfl) ((hpr.below HB).oa (k := j) (by omega)) (by kernel_rfl) Try.underlying28 (by kernel_rfl) (by omega) (by omega)) ?_
    refine sx_val (by kernel_rfl) rfl rfl (.pointer (some ⟨b5, q5 + j * 2, none⟩)) (by kernel_rfl) ?_
    refine sx_val (by kernel_rfl) rfl rfl (.int .i64 ((U.pa (be.getD j (0, 0)) : Nat) : Int)) (ex_load1 rfl ((hpr.below HB).cell (k := j) (by omega) 0 rfl) (by kernel_rfl) Try.underlying3 rfl) ?_
    refine sx_val (by kernel_rfl) rfl rfl (.int .i64 ((U.pa (be.getD j (0, 0)) : Nat) : Int)) (by kernel_rfl) ?_
    refine wpList_nil ?_
    refine sx_norm ?_
    refine wp_seq ?_
    refine wp_region_lit ?_
    refine sx_val (by kernel_rfl) rfl rfl (.pointer (some ⟨w.heap.size, 5, none⟩)) (by kernel_rfl) ?_
    refine sx_val (by kernel_rfl) rfl rfl (.slice o5 be.length c5) (ex_load1 rfl (M2.cell 5 rfl) (by kernel_rfl) Try.underlying28 rfl) ?_
    refine sx_val (by kernel_rfl) rfl rfl (.int .i64 ((j : Nat) : Int)) (by kernel_rfl) ?_
    refine sx_val (by kernel_rfl) rfl rfl (.pointer (some ⟨b5, q5 + j * 2, none⟩)) (ex_indexO (q := q5) (m := be.length) (c := c5) (k := j) (s := 2) rfl (by kernel_rfl) ((hpr.below HB).oa (k := j) (by omega)) (by kernel_rfl) Try.underlying28 (by kernel_rfl) (by omega) (by omega)) ?_
    refine sx_val (by kernel_rfl) rfl rfl (.pointer (some ⟨b5, q5 + j * 2 + 1, none⟩)) (by kernel_rfl) ?_
    refine sx_val (by kernel_rfl) rfl rfl (.int .i64 ((U.pb (be.getD j (0, 0)) : Nat) : Int)) (ex_load1 rfl ((hpr.below HB).cell (k := j) (by omega) 1 rfl) (by kernel_rfl) Try.underlying3 rfl) ?_
    refine sx_val (by kernel_rfl) rfl rfl (.int .i64 ((k : Nat) : Int)) (by kernel_rfl) ?_
    by_cases C2 : U.pb (be.getD j (0, 0)) = k
    · refine sx_bool (by kernel_rfl) rfl rfl ((((U.pb (be.getD j (0, 0)) : Nat) : Int) : Int) == (((k : Nat) : Int) : Int)) true (by kernel_rfl) (beq_iff_eq.2 (by omega)) ?_
      refine sx_val (by kernel_rfl) rfl rfl (.bool true) (by kernel_rfl) ?_
      refine sx_val (by kernel_rfl) rfl rfl (.int .i64 ((U.pa (be.getD j (0, 0)) : Nat) : Int)) (by kernel_rfl) ?_
      refine sx_bool (by kernel_rfl) rfl rfl (decide (((U.pa (be.getD j (0, 0)) : Nat) : Int) < 0)) false (by kernel_rfl) (decide_eq_false (by omega)) ?_
      refine sx_val (by kernel_rfl) rfl rfl (.bool false) (by kernel_rfl) ?_
      refine sx_val (by kernel_rfl) rfl rfl (.int .i64 ((U.pa (be.getD j (0, 0)) : Nat) : Int)) (by kernel_rfl) ?_
      refine sx_val (by kernel_rfl) rfl rfl (.pointer (some ⟨w.heap.size, 3, none⟩)) (by kernel_rfl) ?_
      refine sx_val (by kernel_rfl) rfl rfl (.slice o3 ol.length c3) (ex_load1 rfl (M2.cell 3 rfl) (by kernel_rfl) Try.underlying27 rfl) ?_
      refine sx_val (by kernel_rfl) rfl rfl (.int .i64 ((ol.length : Nat) : Int)) (by kernel_rfl) ?_
      refine sx_bool (by kernel_rfl) rfl rfl (decide (((U.pa (be.getD j (0, 0)) : Nat) : Int) ≥ ((ol.length : Nat) : Int))) false (by kernel_rfl) (decide_eq_false (by omega)) ?_
      refine sx_val (by kernel_rfl) rfl rfl (.bool false) (by kernel_rfl) ?_
      refine sx_val (by kernel_rfl) rfl rfl (.bool false) (by kernel_rfl) ?_
      refine sx_val (by kernel_rfl) rfl rfl (.slice oa l.length c) (by kernel_rfl) ?_
      refine sx_val (by kernel_rfl) rfl rfl (.agg #[.slice o0 n0 c0, .slice o1 n1 c1, .slice o2 n2 c2, .slice o3 ol.length c3, .slice o4 n4 c4, .slice o5 be.length c5]) (ex_load rfl M2 (by kernel_rfl) Try.underlying30 rfl (by kernel_rfl)) ?_
      refine sx_val (by kernel_rfl) rfl rfl (.int .i64 ((U.pa (be.getD j (0, 0)) : Nat) : Int)) (by kernel_rfl) ?_
      refine sx_call (by kernel_rfl) rfl rfl (refVisits_n o0 o1 o2 o3 o4 o5 n0 n1 n2 n4 be.length c0 c1 c2 c3 c4 c5 ol (U.pa (be.getD j (0, 0))) hpa hn wr3 (hos.below HB)) (by kernel_rfl) ?_
      rintro e W4 ⟨oa91, c91, rfl, ⟨hvs91, -, -⟩, hb⟩
      replace HB := over HB hb
      replace M2 := M2.below hb
      replace HL := over HL hb
      have z3 := hb.size
      clear hb
      refine ⟨_, rfl, ?_⟩
      obtain ⟨bv91, qv91, hvr91⟩ := hvs91.rw2
      clear hvs91
      by_cases C3 : (conV l (visR ol (U.pa (be.getD j (0, 0))))) = true
      · refine sx_call (by kernel_rfl) rfl rfl ((by have h8 := refContains_n l ll oa c b o (visR ol (U.pa (be.getD j (0, 0)))) (Nat.le_trans (visR_len _ _) (by decide)) oa91 c91 bv91 qv91 W4 (hv.below HB) hvr91; rw [show (conV l (visR ol (U.pa (be.getD j (0, 0))))) = true by simpa using C3] at h8; exact h8)) (by kernel_rfl) ?_
        rintro e W5 ⟨rfl, hb⟩
        replace HB := over HB hb
        replace M2 := M2.below hb
        replace HL := over HL hb
        replace hvr91 := hvr91.below hb
        have z4 := hb.size
        clear hb
        refine ⟨_, rfl, ?_⟩
        refine sx_val (by kernel_rfl) rfl rfl (.bool false) (by kernel_rfl) ?_
        refine sx_val (by kernel_rfl) rfl rfl (.bool false) (by kernel_rfl) ?_
        refine sx_val (by kernel_rfl) rfl rfl (.bool false) (by kernel_rfl) ?_
        refine wpList_nil ?_
        refine sx_norm ?_
        refine sx_false (by kernel_rfl) ?_
        refine wp_skip ?_
        refine sx_in ?_
        refine sx_norm ?_
        refine wp_region_lit ?_
        refine sx_val (by kernel_rfl) rfl rfl (.int .i64 ((j : Nat) : Int)) (by kernel_rfl) ?_
        refine sx_int (by kernel_rfl) rfl rfl .i64 (IntKind.i64.wrap (((j : Nat) : Int) + 1)) (((j + 1 : Nat) : Int)) (by kernel_rfl) (by rw [IntKind.wrap_i64]; omega) ?_
        refine sx_val (by kernel_rfl) rfl rfl (.int .i64 ((j + 1 : Nat) : Int)) (by kernel_rfl) ?_
        refine wpList_nil ?_
        refine sx_norm ?_
        exact sx_again (be.length - (j + 1)) (j + 1) (by omega) (by kernel_rfl) ⟨by omega, Nat.le_refl _, allP_take (d := (0, 0)) (by omega) hI (by unfold rdyP; first | (rw [decide_eq_false (by assumption)]; rfl) | (rw [show conV l _ = true by assumption, Bool.or_true])), HL⟩
      refine sx_call (by kernel_rfl) rfl rfl ((by have h8 := refContains_n l ll oa c b o (visR ol (U.pa (be.getD j (0, 0)))) (Nat.le_trans (visR_len _ _) (by decide)) oa91 c91 bv91 qv91 W4 (hv.below HB) hvr91; rw [show (conV l (visR ol (U.pa (be.getD j (0, 0))))) = false by simpa using C3] at h8; exact h8)) (by kernel_rfl) ?_
      rintro e W6 ⟨rfl, hb⟩
      replace HB := over HB hb
      replace M2 := M2.below hb
      replace HL := over HL hb
      replace hvr91 := hvr91.below hb
      have z4 := hb.size
      clear hb
      refine ⟨_, rfl, ?_⟩
      refine sx_val (by kernel_rfl) rfl rfl (.bool true) (by kernel_rfl) ?_
      refine sx_val (by kernel_rfl) rfl rfl (.bool true) (by kernel_rfl) ?_
      refine sx_val (by kernel_rfl) rfl rfl (.bool true) (by kernel_rfl) ?_
      refine wpList_nil ?_
      refine sx_norm ?_
      refine sx_true (by kernel_rfl) ?_
      refine wp_seq ?_
      refine wp_region_lit ?_
      refine sx_val (by kernel_rfl) rfl rfl (.bool false) (by kernel_rfl) ?_
      refine wpList_nil ?_
      refine sx_norm ?_
      refine wp_ret ?_
      refine sx_rb ?_
      refine sx_rs ?_
      refine sx_rs ?_
      refine sx_rb ?_
      refine sx_rs ?_
      exact sx_ret1 (.bool false) rfl rfl (by kernel_rfl) ⟨ret_bool ((allP_no (d := (0, 0)) (j := j) (by omega) (by unfold rdyP; rw [decide_eq_true (by assumption), show conV l _ = false by simpa using (by assumption : ¬ conV l _ = true)]; rfl))).symm, HB⟩
    refine sx_bool (by kernel_rfl) rfl rfl ((((U.pb (be.getD j (0, 0)) : Nat) : Int) : Int) == (((k : Nat) : Int) : Int)) false (by kernel_rfl) (beq_eq_false_iff_ne.2 (by omega)) ?_
    refine sx_val (by kernel_rfl) rfl rfl (.bool false) (by kernel_rfl) ?_
    refine sx_skip (by kernel_rfl) rfl rfl ?_
    refine sx_skip (by kernel_rfl) rfl rfl ?_
    refine sx_skip (by kernel_rfl) rfl rfl ?_
    refine sx_skip (by kernel_rfl) rfl rfl ?_
    refine sx_skip (by kernel_rfl) rfl rfl ?_
    refine sx_skip (by kernel_rfl) rfl rfl ?_
    refine sx_skip (by kernel_rfl) rfl rfl ?_
    refine sx_skip (by kernel_rfl) rfl rfl ?_
    refine sx_skip (by kernel_rfl) rfl rfl ?_
    refine sx_skip (by kernel_rfl) rfl rfl ?_
    refine sx_skip (by kernel_rfl) rfl rfl ?_
    refine sx_skip (by kernel_rfl) rfl rfl ?_
    refine sx_skip (by kernel_rfl) rfl rfl ?_
    refine sx_skip (by kernel_rfl) rfl rfl ?_
    refine sx_skip (by kernel_rfl) rfl rfl ?_
    refine sx_skip (by kernel_rfl) rfl rfl ?_
    refine sx_skip (by kernel_rfl) rfl rfl ?_
    refine sx_val (by kernel_rfl) rfl rfl (.bool false) (by kernel_rfl) ?_
    refine wpList_nil ?_
    refine sx_norm ?_
    refine sx_false (by kernel_rfl) ?_
    refine wp_skip ?_
    refine sx_in ?_
    refine sx_norm ?_
    refine wp_region_lit ?_
    refine sx_val (by kernel_rfl) rfl rfl (.int .i64 ((j : Nat) : Int)) (by kernel_rfl) ?_
    refine sx_int (by kernel_rfl) rfl rfl .i64 (IntKind.i64.wrap (((j : Nat) : Int) + 1)) (((j + 1 : Nat) : Int)) (by kernel_rfl) (by rw [IntKind.wrap_i64]; omega) ?_
    refine sx_val (by kernel_rfl) rfl rfl (.int .i64 ((j + 1 : Nat) : Int)) (by kernel_rfl) ?_
    refine wpList_nil ?_
    refine sx_norm ?_
    exact sx_again (be.length - (j + 1)) (j + 1) (by omega) (by kernel_rfl) ⟨by omega, Nat.le_refl _, allP_take (d := (0, 0)) (by omega) hI (by unfold rdyP; first | (rw [decide_eq_false (by assumption)]; rfl) | (rw [show conV l _ = true by assumption, Bool.or_true])), HL⟩
  refine sx_bool (by kernel_rfl) rfl rfl (decide (((j : Nat) : Int) < ((be.length : Nat) : Int))) false (by kernel_rfl) (decide_eq_false (by omega)) ?_
  refine wpList_nil ?_
  refine sx_norm ?_
  refine sx_false (by kernel_rfl) ?_
  refine wp_exit ?_
  refine sx_es ?_
  refine sx_es ?_
  refine sx_out ?_
  refine sx_norm ?_
  refine wp_seq ?_
  refine wp_region_lit ?_
  refine sx_val (by kernel_rfl) rfl rfl (.bool true) (by kernel_rfl) ?_
  refine wpList_nil ?_
  refine sx_norm ?_
  refine wp_ret ?_
  exact sx_ret1 (.bool true) rfl rfl (by kernel_rfl) ⟨ret_bool ((allP_end (by omega) hI)).symm, HB⟩

def aptP (z : Int) (p : Int × Int) : Bool := !(hasR z (U.pa p : Nat) && hasR z (U.pb p : Nat))
def aptB (z : Int) (ap : List (Int × Int)) : Bool := ap.all (aptP z)
theorem refApart_n (o0 o1 o2 o3 o4 o5 : Option Addr) (n0 n1 n2 n3 n5 c0 c1 c2 c3 c4 c5 n : Nat) (ap : List (Int × Int)) (hra : U.Rt n ap) (hla : ap.length ≤ 1000000) (z : Int) (w : World) (hpa : Ps w (.slice o4 ap.length c4) ap) : Calls Try.prog 34 #[.agg #[.slice o0 n0 c0, .slice o1 n1 c1, .slice o2 n2 c2, .slice o3 n3 c3, .slice o4 ap.length c4, .slice o5 n5 c5], .int .i64 z] w fun e w' => e = .returned (.bool (aptB z ap)) ∧ Below w.heap.size w w' := by
  have HB : Below w.heap.size w w := Below.refl _ _
  obtain ⟨b4, q4, hpr⟩ := Ps.rw hra hpa
  refine sx_enter Try.func34 rfl [(0, .agg #[.slice o0 n0 c0, .slice o1 n1 c1, .slice o2 n2 c2, .slice o3 n3 c3, .slice o4 ap.length c4, .slice o5 n5 c5]), (1, .int .i64 z)] (by kernel_rfl) ?_
  refine wp_seq ?_
  refine wp_region_lit ?_
  obtain ⟨W1, hW⟩ : ∃ W, w.alloc (.cells #[.slice o0 n0 c0, .slice o1 n1 c1, .slice o2 n2 c2, .slice o3 n3 c3, .slice o4 ap.length c4, .slice o5 n5 c5] 30) = W := ⟨_, rfl⟩
  have hb := hW ▸ below_alloc w (.cells #[.slice o0 n0 c0, .slice o1 n1 c1, .slice o2 n2 c2, .slice o3 n3 c3, .slice o4 ap.length c4, .slice o5 n5 c5] 30)
  have hq : Cb W1 w.heap.size #[.slice o0 n0 c0, .slice o1 n1 c1, .slice o2 n2 c2, .slice o3 n3 c3, .slice o4 ap.length c4, .slice o5 n5 c5] 30 := hW ▸ Cb.made w #[.slice o0 n0 c0, .slice o1 n1 c1, .slice o2 n2 c2, .slice o3 n3 c3, .slice o4 ap.length c4, .slice o5 n5 c5] 30
  refine sx_mem (by kernel_rfl) rfl rfl (.pointer (some ⟨w.heap.size, 0, none⟩)) W1 (by rw [← hW]; kernel_rfl) ?_
  replace HB := over HB hb
  have z1 := hb.size
  have M2 := hq
  have yM2 := hq.lt
  clear hq hb hW
  refine sx_val (by kernel_rfl) rfl rfl (.bool false) (by kernel_rfl) ?_
  refine wpList_nil ?_
  refine sx_norm ?_
  refine wp_seq ?_
  refine wp_seq ?_
  refine wp_region_lit ?_
  refine sx_val (by kernel_rfl) rfl rfl (.int .i64 0) (by kernel_rfl) ?_
  refine wpList_nil ?_
  refine sx_norm ?_
  refine wp_block ?_
  refine sx_loop (fun j : Nat => [(0, .agg #[.slice o0 n0 c0, .slice o1 n1 c1, .slice o2 n2 c2, .slice o3 n3 c3, .slice o4 ap.length c4, .slice o5 n5 c5]), (1, .int .i64 z), (2, .pointer (some ⟨w.heap.size, 0, none⟩)), (5, .int .i64 ((j : Nat) : Int))]) (fun gg j wr => j ≤ ap.length ∧ ap.length - j ≤ gg ∧ (ap.take j).all (aptP z) = true ∧ Below W1.heap.size W1 wr) (ap.length) (0) (by kernel_rfl) ⟨Nat.zero_le _, Nat.le_refl _, rfl, Below.refl _ _⟩ ?_
  rintro gg j g' wr3 ⟨hj, hg, hI, hbl⟩
  replace HB := over HB hbl
  replace M2 := M2.below hbl
  have z2 := hbl.size
  have HL := hbl
  clear hbl
  refine wp_seq ?_
  refine wp_seq ?_
  refine wp_region_lit ?_
  refine sx_val (by kernel_rfl) rfl rfl (.int .i64 ((j : Nat) : Int)) (by kernel_rfl) ?_
  refine sx_val (by kernel_rfl) rfl rfl (.pointer (some ⟨w.heap.size, 4, none⟩)) (by kernel_rfl) ?_
  refine sx_val (by kernel_rfl) rfl rfl (.slice o4 ap.length c4) (ex_load1 rfl (M2.cell 4 rfl) (by kernel_rfl) Try.underlying28 rfl) ?_
  refine sx_val (by kernel_rfl) rfl rfl (.int .i64 ((ap.length : Nat) : Int)) (by kernel_rfl) ?_
  by_cases C1 : j < ap.length
  · refine sx_bool (by kernel_rfl) rfl rfl (decide (((j : Nat) : Int) < ((ap.length : Nat) : Int))) true (by kernel_rfl) (decide_eq_true (by omega)) ?_
    refine wpList_nil ?_
    refine sx_norm ?_
    refine sx_true (by kernel_rfl) ?_
    refine wp_skip ?_
    refine sx_norm ?_
    refine wp_seq ?_
    refine wp_block ?_
    refine wp_seq ?_
    refine wp_region_lit ?_
    refine sx_val (by kernel_rfl) rfl rfl (.int .i64 z) (by kernel_rfl) ?_
    refine sx_val (by kernel_rfl) rfl rfl (.pointer (some ⟨w.heap.size, 4, none⟩)) (by kernel_rfl) ?_
    refine sx_val (by kernel_rfl) rfl rfl (.slice o4 ap.length c4) (ex_load1 rfl (M2.cell 4 rfl) (by kernel_rfl) Try.underlying28 rfl) ?_
    refine sx_val (by kernel_rfl) rfl rfl (.int .i64 ((j : Nat) : Int)) (by kernel_rfl) ?_
    refine sx_val (by kernel_rfl) rfl rfl (.pointer (some ⟨b4, q4 + j * 2, none⟩)) (ex_indexO (q := q4) (m := ap.length) (c := c4) (k := j) (s := 2) rfl (by kernel_rfl) ((hpr.below HB).oa (k := j) (by omega)) (by kernel_rfl) Try.underlying28 (by kernel_rfl) (by omega) (by omega)) ?_
    refine sx_val (by kernel_rfl) rfl rfl (.pointer (some ⟨b4, q4 + j * 2, none⟩)) (by kernel_rfl) ?_
    refine sx_val (by kernel_rfl) rfl rfl (.int .i64 ((U.pa (ap.getD j (0, 0)) : Nat) : Int)) (ex_load1 rfl ((hpr.below HB).cell (k := j) (by omega) 0 rfl) (by kernel_rfl) Try.underlying3 rfl) ?_
    by_cases C2 : hasR z ((U.pa (ap.getD j (0, 0)) : Nat) : Int) = true
    · refine sx_call (by kernel_rfl) rfl rfl ((by have h8 := refHas_n z ((U.pa (ap.getD j (0, 0)) : Nat) : Int) wr3; rw [show hasR z ((U.pa (ap.getD j (0, 0)) : Nat) : Int) = true by simpa using C2] at h8; exact h8)) (by kernel_rfl) ?_
      rintro e w9 ⟨rfl, rfl⟩
      refine ⟨_, rfl, ?_⟩
      refine sx_val (by kernel_rfl) rfl rfl (.bool true) (by kernel_rfl) ?_
      refine sx_val (by kernel_rfl) rfl rfl (.int .i64 z) (by kernel_rfl) ?_
      refine sx_val (by kernel_rfl) rfl rfl (.pointer (some ⟨w.heap.size, 4, none⟩)) (by kernel_rfl) ?_
      refine sx_val (by kernel_rfl) rfl rfl (.slice o4 ap.length c4) (ex_load1 rfl (M2.cell 4 rfl) (by kernel_rfl) Try.underlying28 rfl) ?_
      refine sx_val (by kernel_rfl) rfl rfl (.int .i64 ((j : Nat) : Int)) (by kernel_rfl) ?_
      refine sx_val (by kernel_rfl) rfl rfl (.pointer (some ⟨b4, q4 + j * 2, none⟩)) (ex_indexO (q := q4) (m := ap.length) (c := c4) (k := j) (s := 2) rfl (by kernel_rfl) ((hpr.below HB).oa (k := j) (by omega)) (by kernel_rfl) Try.underlying28 (by kernel_rfl) (by omega) (by omega)) ?_
      refine sx_val (by kernel_rfl) rfl rfl (.pointer (some ⟨b4, q4 + j * 2 + 1, none⟩)) (by kernel_rfl) ?_
      refine sx_val (by kernel_rfl) rfl rfl (.int .i64 ((U.pb (ap.getD j (0, 0)) : Nat) : Int)) (ex_load1 rfl ((hpr.below HB).cell (k := j) (by omega) 1 rfl) (by kernel_rfl) Try.underlying3 rfl) ?_
      by_cases C3 : hasR z ((U.pb (ap.getD j (0, 0)) : Nat) : Int) = true
      · refine sx_call (by kernel_rfl) rfl rfl ((by have h8 := refHas_n z ((U.pb (ap.getD j (0, 0)) : Nat) : Int) wr3; rw [show hasR z ((U.pb (ap.getD j (0, 0)) : Nat) : Int) = true by simpa using C3] at h8; exact h8)) (by kernel_rfl) ?_
        rintro e w9 ⟨rfl, rfl⟩
        refine ⟨_, rfl, ?_⟩
        refine sx_val (by kernel_rfl) rfl rfl (.bool true) (by kernel_rfl) ?_
        refine wpList_nil ?_
        refine sx_norm ?_
        refine sx_true (by kernel_rfl) ?_
        refine wp_seq ?_
        refine wp_region_lit ?_
        refine sx_val (by kernel_rfl) rfl rfl (.bool false) (by kernel_rfl) ?_
        refine wpList_nil ?_
        refine sx_norm ?_
        refine wp_ret ?_
        refine sx_rb ?_
        refine sx_rs ?_
        refine sx_rs ?_
        refine sx_rb ?_
        refine sx_rs ?_
        exact sx_ret1 (.bool false) rfl rfl (by kernel_rfl) ⟨ret_bool ((allP_no (d := (0, 0)) (j := j) (by omega) (by unfold aptP; rw [show hasR z ((U.pa (ap.getD j (0, 0)) : Nat) : Int) = true by assumption, show hasR z ((U.pb (ap.getD j (0, 0)) : Nat) : Int) = true by assumption]; rfl))).symm, HB⟩
      refine sx_call (by kernel_rfl) rfl rfl ((by have h8 := refHas_n z ((U.pb (ap.getD j (0, 0)) : Nat) : Int) wr3; rw [show hasR z ((U.pb (ap.getD j (0, 0)) : Nat) : Int) = false by simpa using C3] at h8; exact h8)) (by kernel_rfl) ?_
      rintro e w9 ⟨rfl, rfl⟩
      refine ⟨_, rfl, ?_⟩
      refine sx_val (by kernel_rfl) rfl rfl (.bool false) (by kernel_rfl) ?_
      refine wpList_nil ?_
      refine sx_norm ?_
      refine sx_false (by kernel_rfl) ?_
      refine wp_skip ?_
      refine sx_in ?_
      refine sx_norm ?_
      refine wp_region_lit ?_
      refine sx_val (by kernel_rfl) rfl rfl (.int .i64 ((j : Nat) : Int)) (by kernel_rfl) ?_
      refine sx_int (by kernel_rfl) rfl rfl .i64 (IntKind.i64.wrap (((j : Nat) : Int) + 1)) (((j + 1 : Nat) : Int)) (by kernel_rfl) (by rw [IntKind.wrap_i64]; omega) ?_
      refine sx_val (by kernel_rfl) rfl rfl (.int .i64 ((j + 1 : Nat) : Int)) (by kernel_rfl) ?_
      refine wpList_nil ?_
      refine sx_norm ?_
      exact sx_again (ap.length - (j + 1)) (j + 1) (by omega) (by kernel_rfl) ⟨by omega, Nat.le_refl _, allP_take (d := (0, 0)) (by omega) hI (by unfold aptP; first | (rw [show hasR z _ = false by simpa using (by assumption : ¬ hasR z _ = true)]; rfl) | (rw [show hasR z ((U.pb (ap.getD j (0, 0)) : Nat) : Int) = false by simpa using (by assumption : ¬ hasR z ((U.pb (ap.getD j (0, 0)) : Nat) : Int) = true), Bool.and_false]; rfl)), HL⟩
    refine sx_call (by kernel_rfl) rfl rfl ((by have h8 := refHas_n z ((U.pa (ap.getD j (0, 0)) : Nat) : Int) wr3; rw [show hasR z ((U.pa (ap.getD j (0, 0)) : Nat) : Int) = false by simpa using C2] at h8; exact h8)) (by kernel_rfl) ?_
    rintro e w9 ⟨rfl, rfl⟩
    refine ⟨_, rfl, ?_⟩
    refine sx_val (by kernel_rfl) rfl rfl (.bool false) (by kernel_rfl) ?_
    refine sx_skip (by kernel_rfl) rfl rfl ?_
    refine sx_skip (by kernel_rfl) rfl rfl ?_
    refine sx_skip (by kernel_rfl) rfl rfl ?_
    refine sx_skip (by kernel_rfl) rfl rfl ?_
    refine sx_skip (by kernel_rfl) rfl rfl ?_
    refine sx_skip (by kernel_rfl) rfl rfl ?_
    refine sx_skip (by kernel_rfl) rfl rfl ?_
    refine sx_skip (by kernel_rfl) rfl rfl ?_
    refine sx_val (by kernel_rfl) rfl rfl (.bool false) (by kernel_rfl) ?_
    refine wpList_nil ?_
    refine sx_norm ?_
    refine sx_false (by kernel_rfl) ?_
    refine wp_skip ?_
    refine sx_in ?_
    refine sx_norm ?_
    refine wp_region_lit ?_
    refine sx_val (by kernel_rfl) rfl rfl (.int .i64 ((j : Nat) : Int)) (by kernel_rfl) ?_
    refine sx_int (by kernel_rfl) rfl rfl .i64 (IntKind.i64.wrap (((j : Nat) : Int) + 1)) (((j + 1 : Nat) : Int)) (by kernel_rfl) (by rw [IntKind.wrap_i64]; omega) ?_
    refine sx_val (by kernel_rfl) rfl rfl (.int .i64 ((j + 1 : Nat) : Int)) (by kernel_rfl) ?_
    refine wpList_nil ?_
    refine sx_norm ?_
    exact sx_again (ap.length - (j + 1)) (j + 1) (by omega) (by kernel_rfl) ⟨by omega, Nat.le_refl _, allP_take (d := (0, 0)) (by omega) hI (by unfold aptP; first | (rw [show hasR z _ = false by simpa using (by assumption : ¬ hasR z _ = true)]; rfl) | (rw [show hasR z ((U.pb (ap.getD j (0, 0)) : Nat) : Int) = false by simpa using (by assumption : ¬ hasR z ((U.pb (ap.getD j (0, 0)) : Nat) : Int) = true), Bool.and_false]; rfl)), HL⟩
  refine sx_bool (by kernel_rfl) rfl rfl (decide (((j : Nat) : Int) < ((ap.length : Nat) : Int))) false (by kernel_rfl) (decide_eq_false (by omega)) ?_
  refine wpList_nil ?_
  refine sx_norm ?_
  refine sx_false (by kernel_rfl) ?_
  refine wp_exit ?_
  refine sx_es ?_
  refine sx_es ?_
  refine sx_out ?_
  refine sx_norm ?_
  refine wp_seq ?_
  refine wp_region_lit ?_
  refine sx_val (by kernel_rfl) rfl rfl (.bool true) (by kernel_rfl) ?_
  refine wpList_nil ?_
  refine sx_norm ?_
  refine wp_ret ?_
  exact sx_ret1 (.bool true) rfl rfl (by kernel_rfl) ⟨ret_bool ((allP_end (by omega) hI)).symm, HB⟩

end Go.Proofs.Ytoliacfpjhanlaa.T


/-! What can follow, as the specification says. -/
namespace Go.Proofs.Ytoliacfpjhanlaa.T
open Go.RowKit
set_option maxRecDepth 8000

/-- what of an order's visits can follow -/
def nx1 (V l : List (Int × Bool)) (k : Nat) : List (Int × Bool) := if idxV l (V.getD k (0, false)) < 0 ∧ (k = 0 ∨ idxV l (V.getD 0 (0, false)) ≥ 0) then [V.getD k (0, false)] else []
def nxV (V l : List (Int × Bool)) : Nat → List (Int × Bool)
  | 0 => []
  | k + 1 => nxV V l k ++ nx1 V l k
def nxO (z : Int) (ol : List OrT) (be : List (Int × Int)) (l : List (Int × Bool)) (i : Nat) : List (Int × Bool) := if hasR z (i : Int) = true ∧ (ol.getD i or0).off = false ∧ rdyB ol be l i = true then nxV (visR ol i) l (visR ol i).length else []
def nxR (z : Int) (ol : List OrT) (be : List (Int × Int)) (l : List (Int × Bool)) : Nat → List (Int × Bool)
  | 0 => []
  | i + 1 => nxR z ol be l i ++ nxO z ol be l i
theorem nxR_succ (z : Int) (ol : List OrT) (be : List (Int × Int)) (l : List (Int × Bool)) (i : Nat) : nxR z ol be l (i + 1) = nxR z ol be l i ++ nxO z ol be l i := rfl
theorem nxV_succ (V l : List (Int × Bool)) (k : Nat) : nxV V l (k + 1) = nxV V l k ++ nx1 V l k := rfl
theorem nx1_len (V l : List (Int × Bool)) (k : Nat) : (nx1 V l k).length ≤ 1 := by unfold nx1; split <;> simp
theorem nxV_len (V l : List (Int × Bool)) : ∀ k, (nxV V l k).length ≤ k
  | 0 => Nat.le_refl _
  | k + 1 => by unfold nxV; rw [List.length_append]; have := nxV_len V l k; have := nx1_len V l k; omega
theorem nxR_len (z : Int) (ol : List OrT) (be : List (Int × Int)) (l : List (Int × Bool)) : ∀ i, (nxR z ol be l i).length ≤ 2 * i
  | 0 => Nat.le_refl _
  | i + 1 => by
    unfold nxR nxO
    rw [List.length_append]
    have h1 := nxR_len z ol be l i
    split
    · have h2 := nxV_len (visR ol i) l (visR ol i).length
      have h3 := visR_len ol i
      omega
    · simp only [List.length_nil]; omega
end Go.Proofs.Ytoliacfpjhanlaa.T


