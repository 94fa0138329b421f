/-
  DERIVED. The specification of sequences: Visits, Index, contains (by gen_ua.py).
-/
import Derived.Test.YtoliacfpjhanlaaSw
namespace Go.Proofs.Ytoliacfpjhanlaa.T
open Go.RowKit
set_option maxRecDepth 8000
attribute [local irreducible] wpList Code.wp wpAnyH

/-- the visits of an order, as the specification says -/
def visR (ol : List OrT) (k : Nat) : List (Int × Bool) := (if (ol.getD k or0).pp = -1 then [] else [((k : Int), false)]) ++ (if (ol.getD k or0).dp = -1 then [] else [((k : Int), true)])
/-- the first index of a visit, or -1 -/
def idxV (l : List (Int × Bool)) (x : Int × Bool) : Int := if x ∈ l then (l.idxOf x : Int) else -1
theorem idxV_no {l : List (Int × Bool)} {x : Int × Bool} {j : Nat} (hj : l.length ≤ j) (h : (l.take j).any (isV x) = false) : idxV l x = -1 := by
  rw [List.take_of_length_le hj, isV_any] at h
  exact if_neg (of_decide_eq_false h)
theorem idxV_yes {l : List (Int × Bool)} {x : Int × Bool} {j : Nat} (hj : j < l.length) (h : (l.take j).any (isV x) = false) (e : isV x (l.getD j (0, false)) = true) : idxV l x = (j : Int) := by
  have e2 : x = l.getD j (0, false) := by
    unfold isV at e
    rw [Bool.and_eq_true, beq_iff_eq, beq_iff_eq] at e
    exact Prod.ext e.1 e.2
  have hm : x ∈ l := e2 ▸ getD_mem hj
  rw [isV_any] at h
  have hn : x ∉ l.take j := of_decide_eq_false h
  unfold idxV
  rw [if_pos hm]
  have h1 : l = l.take j ++ l.drop j := (List.take_append_drop j l).symm
  have h2 : l.drop j = l.getD j (0, false) :: l.drop (j + 1) := drop_more (d := (0, false)) hj
  have h3 : l.idxOf x = j := by
    rw [h1, List.idxOf_append, if_neg hn, h2, List.idxOf_cons, ← e2]
    simp
    omega
  rw [h3]
theorem idxV_lt {l : List (Int × Bool)} {x : Int × Bool} : (idxV l x < 0) ↔ x ∉ l := by
  unfold idxV
  split
  · constructor
    · intro h; omega
    · intro h; contradiction
  · constructor
    · intro _; assumption
    · intro _; omega
def conV (l some : List (Int × Bool)) : Bool := some.all fun v => decide (v ∈ l)
theorem all_take {p : Int × Bool → Bool} {l : List (Int × Bool)} {j : Nat} (hj : j < l.length) (h : (l.take j).all p = true) (h2 : p (l.getD j (0, false)) = true) : (l.take (j + 1)).all p = true := by
  rw [take_more (d := (0, false)) hj, List.all_append, h, List.all_cons, List.all_nil, h2]
  rfl
theorem allV_no {p : Int × Bool → Bool} {l : List (Int × Bool)} {j : Nat} (hj : j < l.length) (h2 : p (l.getD j (0, false)) = false) : l.all p = false := by
  rw [List.all_eq_false]
  exact ⟨_, getD_mem hj, by rw [h2]; decide⟩
theorem all_end {p : Int × Bool → Bool} {l : List (Int × Bool)} {j : Nat} (hj : l.length ≤ j) (h : (l.take j).all p = true) : l.all p = true := by rwa [List.take_of_length_le hj] at h
theorem refIndex_n (x : Int × Bool) (l : List (Int × Bool)) (ll : l.length ≤ 1000000) (oa : Option Addr) (c b o : Nat) (w : World) (hv : Rw w b o 2 (vF l) l.length oa) : Calls Try.prog 22 #[.slice oa l.length c, .agg #[.int .i64 x.1, .bool x.2]] w fun e w' => e = .returned (.int .i64 (idxV l x)) ∧ Below w.heap.size w w' := by
  have HB : Below w.heap.size w w := Below.refl _ _
  refine sx_enter Try.func22 rfl [(0, .slice oa l.length c), (1, .agg #[.int .i64 x.1, .bool x.2])] (by kernel_rfl) ?_
  refine wp_seq ?_
  refine wp_region_lit ?_
  obtain ⟨W1, hW⟩ : ∃ W, w.alloc (.cells #[.int .i64 x.1, .bool x.2] 52) = W := ⟨_, rfl⟩
  have hb := hW ▸ below_alloc w (.cells #[.int .i64 x.1, .bool x.2] 52)
  have hq : Cb W1 w.heap.size #[.int .i64 x.1, .bool x.2] 52 := hW ▸ Cb.made w #[.int .i64 x.1, .bool x.2] 52
  refine sx_mem (by kernel_rfl) rfl rfl (.pointer (some ⟨w.heap.size, 0, none⟩)) W1 (by rw [← hW]; kernel_rfl) ?_
  replace HB := over HB hb
  have z1 := hb.size
  have M2 := hq
  have yM2 := hq.lt
  clear hq hb hW
  refine sx_val (by kernel_rfl) rfl rfl (.int .i64 0) (by kernel_rfl) ?_
  refine wpList_nil ?_
  refine sx_norm ?_
  refine wp_seq ?_
  refine wp_seq ?_
  refine wp_region_lit ?_
  refine sx_val (by kernel_rfl) rfl rfl (.int .i64 0) (by kernel_rfl) ?_
  refine wpList_nil ?_
  refine sx_norm ?_
  refine wp_block ?_
  refine sx_loop (fun j : Nat => [(0, .slice oa l.length c), (1, .agg #[.int .i64 x.1, .bool x.2]), (3, .pointer (some ⟨w.heap.size, 0, none⟩)), (5, .int .i64 ((j : Nat) : Int))]) (fun gg j wr => j ≤ l.length ∧ l.length - j ≤ gg ∧ (l.take j).any (isV x) = false ∧ Below W1.heap.size W1 wr) (l.length) (0) (by kernel_rfl) ⟨Nat.zero_le _, Nat.le_refl _, rfl, Below.refl _ _⟩ ?_
  rintro gg j g' wr3 ⟨hj, hg, hI, hbl⟩
  replace HB := over HB hbl
  replace M2 := M2.below hbl
  have z2 := hbl.size
  have HL := hbl
  clear hbl
  refine wp_seq ?_
  refine wp_seq ?_
  refine wp_region_lit ?_
  refine sx_val (by kernel_rfl) rfl rfl (.int .i64 ((j : Nat) : Int)) (by kernel_rfl) ?_
  refine sx_val (by kernel_rfl) rfl rfl (.slice oa l.length c) (by kernel_rfl) ?_
  refine sx_val (by kernel_rfl) rfl rfl (.int .i64 ((l.length : Nat) : Int)) (by kernel_rfl) ?_
  by_cases C1 : j < l.length
  · refine sx_bool (by kernel_rfl) rfl rfl (decide (((j : Nat) : Int) < ((l.length : Nat) : Int))) true (by kernel_rfl) (decide_eq_true (by omega)) ?_
    refine wpList_nil ?_
    refine sx_norm ?_
    refine sx_true (by kernel_rfl) ?_
    refine wp_skip ?_
    refine sx_norm ?_
    refine wp_seq ?_
    refine wp_block ?_
    refine wp_seq ?_
    obtain ⟨Y4, hW⟩ : ∃ W, wr3.drew = W := ⟨_, rfl⟩
    have hb : Below wr3.heap.size wr3 Y4 := hW ▸ below_drew (Below.refl _ _)
    replace HB := over HB hb
    replace M2 := M2.below hb
    replace HL := over HL hb
    have z3 := hb.size
    clear hb
    refine sd_begin (fun W => Cb W (w.heap.size) #[.int .i64 x.1, .bool x.2] 52 ∧ Rw W b o 2 (vF l) l.length oa ∧ True) (by kernel_rfl) (by rw [hW]; exact ⟨M2, (hv.below HB), trivial⟩) ?_
    rw [hW]
    clear hW
    refine sd_take 0 rfl (by kernel_rfl) (by kernel_rfl) (by kernel_rfl) (by kernel_rfl) rfl rfl (.slice oa l.length c) (fun w9 _ => by kernel_rfl) (fun _ _ _ h => h) ⟨M2, (hv.below HB), trivial⟩ ?_
    refine sd_take 1 rfl (by kernel_rfl) (by kernel_rfl) (by kernel_rfl) (by kernel_rfl) rfl rfl (.int .i64 ((j : Nat) : Int)) (fun w9 _ => by kernel_rfl) (fun _ _ _ h => h) ⟨M2, (hv.below HB), trivial⟩ ?_
    refine sd_take 2 rfl (by kernel_rfl) (by kernel_rfl) (by kernel_rfl) (by kernel_rfl) rfl rfl (.pointer (some ⟨b, o + j * 2, none⟩)) (fun w9 h9 => ex_indexO (q := o) (m := l.length) (c := c) (k := j) (s := 2) rfl (by kernel_rfl) (h9.2.1.oa (k := j) (by omega)) (by kernel_rfl) Try.underlying32 (by kernel_rfl) (by omega) (by omega)) (fun _ _ _ h => h) ⟨M2, (hv.below HB), trivial⟩ ?_
    refine sd_take 3 rfl (by kernel_rfl) (by kernel_rfl) (by kernel_rfl) (by kernel_rfl) rfl rfl (.agg #[.int .i64 ((l.getD j (0, false)).1), .bool (l.getD j (0, false)).2]) (fun w9 h9 => ex_loadR rfl (h9.2.1.range (k := j) (by omega)) (by kernel_rfl) Try.underlying52 rfl (by kernel_rfl)) (fun _ _ _ h => h) ⟨M2, (hv.below HB), trivial⟩ ?_
    refine sd_take 4 rfl (by kernel_rfl) (by kernel_rfl) (by kernel_rfl) (by kernel_rfl) rfl rfl (.agg #[.int .i64 x.1, .bool x.2]) (fun w9 h9 => ex_load rfl h9.1 (by kernel_rfl) Try.underlying52 rfl (by kernel_rfl)) (fun _ _ _ h => h) ⟨M2, (hv.below HB), trivial⟩ ?_
    by_cases C2 : (l.getD j (0, false)).1 = x.1 ∧ (l.getD j (0, false)).2 = x.2
    · refine sd_take 5 rfl (by kernel_rfl) (by kernel_rfl) (by kernel_rfl) (by kernel_rfl) rfl rfl (.bool true) (fun w9 h9 => ex_bool ((l.getD j (0, false)).1 == x.1 && (l.getD j (0, false)).2 == x.2) true (ex_eqlV rfl (by kernel_rfl) (by kernel_rfl)) (by rw [eqv_t C2])) (fun _ _ _ h => h) ⟨M2, (hv.below HB), trivial⟩ ?_
      refine sd_done (by kernel_rfl) ?_
      refine sx_norm ?_
      refine sx_true (by kernel_rfl) ?_
      refine wp_seq ?_
      refine wp_region_lit ?_
      refine sx_val (by kernel_rfl) rfl rfl (.int .i64 ((j : Nat) : Int)) (by kernel_rfl) ?_
      refine sx_val (by kernel_rfl) rfl rfl (.int .i64 ((j : Nat) : Int)) (by kernel_rfl) ?_
      refine wpList_nil ?_
      refine sx_norm ?_
      refine wp_ret ?_
      refine sx_rb ?_
      refine sx_rs ?_
      refine sx_rs ?_
      refine sx_rb ?_
      refine sx_rs ?_
      exact sx_ret1 (.int .i64 ((j : Nat) : Int)) rfl rfl (by kernel_rfl) ⟨ret_int (idxV_yes (by omega) hI (by unfold isV; exact eqv_t ⟨C2.1.symm, C2.2.symm⟩)).symm, HB⟩
    refine sd_take 5 rfl (by kernel_rfl) (by kernel_rfl) (by kernel_rfl) (by kernel_rfl) rfl rfl (.bool false) (fun w9 h9 => ex_bool ((l.getD j (0, false)).1 == x.1 && (l.getD j (0, false)).2 == x.2) false (ex_eqlV rfl (by kernel_rfl) (by kernel_rfl)) (by rw [eqv_f C2])) (fun _ _ _ h => h) ⟨M2, (hv.below HB), trivial⟩ ?_
    refine sd_done (by kernel_rfl) ?_
    refine sx_norm ?_
    refine sx_false (by kernel_rfl) ?_
    refine wp_skip ?_
    refine sx_in ?_
    refine sx_norm ?_
    refine wp_region_lit ?_
    refine sx_val (by kernel_rfl) rfl rfl (.int .i64 ((j : Nat) : Int)) (by kernel_rfl) ?_
    refine sx_int (by kernel_rfl) rfl rfl .i64 (IntKind.i64.wrap (((j : Nat) : Int) + 1)) (((j + 1 : Nat) : Int)) (by kernel_rfl) (by rw [IntKind.wrap_i64]; omega) ?_
    refine sx_val (by kernel_rfl) rfl rfl (.int .i64 ((j + 1 : Nat) : Int)) (by kernel_rfl) ?_
    refine wpList_nil ?_
    refine sx_norm ?_
    exact sx_again (l.length - (j + 1)) (j + 1) (by omega) (by kernel_rfl) ⟨by omega, Nat.le_refl _, any_take (by omega) hI (by unfold isV; exact eqv_f (fun h => C2 ⟨h.1.symm, h.2.symm⟩)), HL⟩
  refine sx_bool (by kernel_rfl) rfl rfl (decide (((j : Nat) : Int) < ((l.length : Nat) : Int))) false (by kernel_rfl) (decide_eq_false (by omega)) ?_
  refine wpList_nil ?_
  refine sx_norm ?_
  refine sx_false (by kernel_rfl) ?_
  refine wp_exit ?_
  refine sx_es ?_
  refine sx_es ?_
  refine sx_out ?_
  refine sx_norm ?_
  refine wp_seq ?_
  refine wp_region_lit ?_
  refine sx_val (by kernel_rfl) rfl rfl (.int .i64 (-1)) (by kernel_rfl) ?_
  refine wpList_nil ?_
  refine sx_norm ?_
  refine wp_ret ?_
  exact sx_ret1 (.int .i64 (-1)) rfl rfl (by kernel_rfl) ⟨ret_int (idxV_no (by omega) hI).symm, HB⟩
theorem refContains_n (l : List (Int × Bool)) (ll : l.length ≤ 1000000) (oa : Option Addr) (c b o : Nat) (m : List (Int × Bool)) (lm : m.length ≤ 1000000) (om : Option Addr) (cm bm qm : Nat) (w : World) (hv : Rw w b o 2 (vF l) l.length oa) (hm : Rw w bm qm 2 (vF m) m.length om) : Calls Try.prog 66 #[.slice oa l.length c, .slice om m.length cm] w fun e w' => e = .returned (.bool (conV l m)) ∧ Below w.heap.size w w' := by
  have HB : Below w.heap.size w w := Below.refl _ _
  refine sx_enter Try.func66 rfl [(0, .slice oa l.length c), (1, .slice om m.length cm)] (by kernel_rfl) ?_
  refine wp_seq ?_
  refine wp_region_lit ?_
  refine sx_val (by kernel_rfl) rfl rfl (.bool false) (by kernel_rfl) ?_
  refine wpList_nil ?_
  refine sx_norm ?_
  refine wp_seq ?_
  refine wp_seq ?_
  refine wp_region_lit ?_
  refine sx_val (by kernel_rfl) rfl rfl (.int .i64 0) (by kernel_rfl) ?_
  refine wpList_nil ?_
  refine sx_norm ?_
  refine wp_block ?_
  refine sx_loop (fun j : Nat => [(0, .slice oa l.length c), (1, .slice om m.length cm), (5, .int .i64 ((j : Nat) : Int))]) (fun gg j wr => j ≤ m.length ∧ m.length - j ≤ gg ∧ (m.take j).all (fun v => decide (v ∈ l)) = true ∧ Below w.heap.size w wr) (m.length) (0) (by kernel_rfl) ⟨Nat.zero_le _, Nat.le_refl _, rfl, Below.refl _ _⟩ ?_
  rintro gg j g' wr1 ⟨hj, hg, hI, hbl⟩
  replace HB := over HB hbl
  have z1 := hbl.size
  have HL := hbl
  clear hbl
  refine wp_seq ?_
  refine wp_seq ?_
  refine wp_region_lit ?_
  refine sx_val (by kernel_rfl) rfl rfl (.int .i64 ((j : Nat) : Int)) (by kernel_rfl) ?_
  refine sx_val (by kernel_rfl) rfl rfl (.slice om m.length cm) (by kernel_rfl) ?_
  refine sx_val (by kernel_rfl) rfl rfl (.int .i64 ((m.length : Nat) : Int)) (by kernel_rfl) ?_
  by_cases C1 : j < m.length
  · refine sx_bool (by kernel_rfl) rfl rfl (decide (((j : Nat) : Int) < ((m.length : Nat) : Int))) true (by kernel_rfl) (decide_eq_true (by omega)) ?_
    refine wpList_nil ?_
    refine sx_norm ?_
    refine sx_true (by kernel_rfl) ?_
    refine wp_skip ?_
    refine sx_norm ?_
    refine wp_seq ?_
    refine wp_block ?_
    refine wp_seq ?_
    refine wp_region_lit ?_
    refine sx_val (by kernel_rfl) rfl rfl (.slice oa l.length c) (by kernel_rfl) ?_
    refine sx_val (by kernel_rfl) rfl rfl (.slice om m.length cm) (by kernel_rfl) ?_
    refine sx_val (by kernel_rfl) rfl rfl (.int .i64 ((j : Nat) : Int)) (by kernel_rfl) ?_
    refine sx_val (by kernel_rfl) rfl rfl (.pointer (some ⟨bm, qm + j * 2, none⟩)) (ex_indexO (q := qm) (m := m.length) (c := cm) (k := j) (s := 2) rfl (by kernel_rfl) ((hm.below HB).oa (k := j) (by omega)) (by kernel_rfl) Try.underlying32 (by kernel_rfl) (by omega) (by omega)) ?_
    refine sx_val (by kernel_rfl) rfl rfl (.agg #[.int .i64 ((m.getD j (0, false)).1), .bool (m.getD j (0, false)).2]) (ex_loadR rfl ((hm.below HB).range (k := j) (by omega)) (by kernel_rfl) Try.underlying52 rfl (by kernel_rfl)) ?_
    refine sx_call (by kernel_rfl) rfl rfl (refIndex_n (m.getD j (0, false)) l ll oa c b o wr1 (hv.below HB)) (by kernel_rfl) ?_
    rintro e W2 ⟨rfl, hb⟩
    replace HB := over HB hb
    replace HL := over HL hb
    have z2 := hb.size
    clear hb
    refine ⟨_, rfl, ?_⟩
    by_cases C2 : (idxV l (m.getD j (0, false))) < 0
    · refine sx_bool (by kernel_rfl) rfl rfl (decide ((idxV l (m.getD j (0, false))) < 0)) true (by kernel_rfl) (decide_eq_true (by omega)) ?_
      refine wpList_nil ?_
      refine sx_norm ?_
      refine sx_true (by kernel_rfl) ?_
      refine wp_seq ?_
      refine wp_region_lit ?_
      refine sx_val (by kernel_rfl) rfl rfl (.bool false) (by kernel_rfl) ?_
      refine wpList_nil ?_
      refine sx_norm ?_
      refine wp_ret ?_
      refine sx_rb ?_
      refine sx_rs ?_
      refine sx_rs ?_
      refine sx_rb ?_
      refine sx_rs ?_
      exact sx_ret1 (.bool false) rfl rfl (by kernel_rfl) ⟨ret_bool ((allV_no (by omega) (decide_eq_false (idxV_lt.1 (by omega))))).symm, HB⟩
    refine sx_bool (by kernel_rfl) rfl rfl (decide ((idxV l (m.getD j (0, false))) < 0)) false (by kernel_rfl) (decide_eq_false (by omega)) ?_
    refine wpList_nil ?_
    refine sx_norm ?_
    refine sx_false (by kernel_rfl) ?_
    refine wp_skip ?_
    refine sx_in ?_
    refine sx_norm ?_
    refine wp_region_lit ?_
    refine sx_val (by kernel_rfl) rfl rfl (.int .i64 ((j : Nat) : Int)) (by kernel_rfl) ?_
    refine sx_int (by kernel_rfl) rfl rfl .i64 (IntKind.i64.wrap (((j : Nat) : Int) + 1)) (((j + 1 : Nat) : Int)) (by kernel_rfl) (by rw [IntKind.wrap_i64]; omega) ?_
    refine sx_val (by kernel_rfl) rfl rfl (.int .i64 ((j + 1 : Nat) : Int)) (by kernel_rfl) ?_
    refine wpList_nil ?_
    refine sx_norm ?_
    exact sx_again (m.length - (j + 1)) (j + 1) (by omega) (by kernel_rfl) ⟨by omega, Nat.le_refl _, all_take (by omega) hI (decide_eq_true (Decidable.of_not_not fun h => absurd (idxV_lt.2 h) (by omega))), HL⟩
  refine sx_bool (by kernel_rfl) rfl rfl (decide (((j : Nat) : Int) < ((m.length : Nat) : Int))) false (by kernel_rfl) (decide_eq_false (by omega)) ?_
  refine wpList_nil ?_
  refine sx_norm ?_
  refine sx_false (by kernel_rfl) ?_
  refine wp_exit ?_
  refine sx_es ?_
  refine sx_es ?_
  refine sx_out ?_
  refine sx_norm ?_
  refine wp_seq ?_
  refine wp_region_lit ?_
  refine sx_val (by kernel_rfl) rfl rfl (.bool true) (by kernel_rfl) ?_
  refine wpList_nil ?_
  refine sx_norm ?_
  refine wp_ret ?_
  exact sx_ret1 (.bool true) rfl rfl (by kernel_rfl) ⟨ret_bool ((all_end (by omega) hI)).symm, HB⟩
theorem refVisits_n (o0 o1 o2 o3 o4 o5 : Option Addr) (n0 n1 n2 n4 n5 c0 c1 c2 c3 c4 c5 : Nat) (ol : List OrT) (k : Nat) (hk : k < ol.length) (_ : ol.length ≤ 10) (w : World) (hos : Os w (.slice o3 ol.length c3) ol) : Calls Try.prog 47 #[.agg #[.slice o0 n0 c0, .slice o1 n1 c1, .slice o2 n2 c2, .slice o3 ol.length c3, .slice o4 n4 c4, .slice o5 n5 c5], .int .i64 ((k : Nat) : Int)] w (VisP (visR ol k) w) := by
  have HB : Below w.heap.size w w := Below.refl _ _
  obtain ⟨b3, q3, vc, hr16⟩ := hos.rw
  refine sx_enter Try.func47 rfl [(0, .agg #[.slice o0 n0 c0, .slice o1 n1 c1, .slice o2 n2 c2, .slice o3 ol.length c3, .slice o4 n4 c4, .slice o5 n5 c5]), (1, .int .i64 ((k : Nat) : Int))] (by kernel_rfl) ?_
  refine wp_seq ?_
  refine wp_region_lit ?_
  obtain ⟨W1, hW⟩ : ∃ W, w.alloc (.cells #[.slice o0 n0 c0, .slice o1 n1 c1, .slice o2 n2 c2, .slice o3 ol.length c3, .slice o4 n4 c4, .slice o5 n5 c5] 30) = W := ⟨_, rfl⟩
  have hb := hW ▸ below_alloc w (.cells #[.slice o0 n0 c0, .slice o1 n1 c1, .slice o2 n2 c2, .slice o3 ol.length c3, .slice o4 n4 c4, .slice o5 n5 c5] 30)
  have hq : Cb W1 w.heap.size #[.slice o0 n0 c0, .slice o1 n1 c1, .slice o2 n2 c2, .slice o3 ol.length c3, .slice o4 n4 c4, .slice o5 n5 c5] 30 := hW ▸ Cb.made w #[.slice o0 n0 c0, .slice o1 n1 c1, .slice o2 n2 c2, .slice o3 ol.length c3, .slice o4 n4 c4, .slice o5 n5 c5] 30
  refine sx_mem (by kernel_rfl) rfl rfl (.pointer (some ⟨w.heap.size, 0, none⟩)) W1 (by rw [← hW]; kernel_rfl) ?_
  replace HB := over HB hb
  have z1 := hb.size
  have M2 := hq
  have yM2 := hq.lt
  clear hq hb hW
  refine sx_val (by kernel_rfl) rfl rfl (.slice none 0 0) (by kernel_rfl) ?_
  refine wpList_nil ?_
  refine sx_norm ?_
  refine wp_seq ?_
  refine wp_region_lit ?_
  refine sx_val (by kernel_rfl) rfl rfl (.slice none 0 0) (by kernel_rfl) ?_
  refine wpList_nil ?_
  refine sx_norm ?_
  refine wp_seq ?_
  refine wp_seq ?_
  have HG : Gw W1.heap.size W1 (.slice none 0 0) [] := Gw.nil _ _
  refine wp_region_lit ?_
  refine sx_val (by kernel_rfl) rfl rfl (.pointer (some ⟨w.heap.size, 3, none⟩)) (by kernel_rfl) ?_
  refine sx_val (by kernel_rfl) rfl rfl (.slice o3 ol.length c3) (ex_load1 rfl (M2.cell 3 rfl) (by kernel_rfl) Try.underlying27 rfl) ?_
  refine sx_val (by kernel_rfl) rfl rfl (.int .i64 ((k : Nat) : Int)) (by kernel_rfl) ?_
  refine sx_val (by kernel_rfl) rfl rfl (.pointer (some ⟨b3, q3 + k * 16, none⟩)) (ex_indexO (q := q3) (m := ol.length) (c := c3) (k := k) (s := 16) rfl (by kernel_rfl) ((hr16.below HB).oa (k := k) (by omega)) (by kernel_rfl) Try.underlying27 (by kernel_rfl) (by omega) (by omega)) ?_
  refine sx_val (by kernel_rfl) rfl rfl (.pointer (some ⟨b3, q3 + k * 16 + 2, none⟩)) (by kernel_rfl) ?_
  refine sx_val (by kernel_rfl) rfl rfl (.pointer (some ⟨b3, q3 + k * 16 + 2, none⟩)) (by kernel_rfl) ?_
  refine sx_val (by kernel_rfl) rfl rfl (.int .i64 ((ol.getD k or0).pp)) (ex_load1 rfl ((hr16.below HB).cell (k := k) (by omega) 2 rfl) (by kernel_rfl) Try.underlying3 rfl) ?_
  by_cases C1 : (ol.getD k or0).pp = (-1)
  · refine sx_bool (by kernel_rfl) rfl rfl (((ol.getD k or0).pp : Int) != ((-1) : Int)) false (by kernel_rfl) (by rw [bne_eq_false_iff_eq]; omega) ?_
    refine wpList_nil ?_
    refine sx_norm ?_
    refine sx_false (by kernel_rfl) ?_
    refine wp_skip ?_
    refine sx_norm ?_
    refine wp_seq ?_
    refine wp_seq ?_
    refine wp_region_lit ?_
    refine sx_val (by kernel_rfl) rfl rfl (.pointer (some ⟨w.heap.size, 3, none⟩)) (by kernel_rfl) ?_
    refine sx_val (by kernel_rfl) rfl rfl (.slice o3 ol.length c3) (ex_load1 rfl (M2.cell 3 rfl) (by kernel_rfl) Try.underlying27 rfl) ?_
    refine sx_val (by kernel_rfl) rfl rfl (.int .i64 ((k : Nat) : Int)) (by kernel_rfl) ?_
    refine sx_val (by kernel_rfl) rfl rfl (.pointer (some ⟨b3, q3 + k * 16, none⟩)) (ex_indexO (q := q3) (m := ol.length) (c := c3) (k := k) (s := 16) rfl (by kernel_rfl) ((hr16.below HB).oa (k := k) (by omega)) (by kernel_rfl) Try.underlying27 (by kernel_rfl) (by omega) (by omega)) ?_
    refine sx_val (by kernel_rfl) rfl rfl (.pointer (some ⟨b3, q3 + k * 16 + 6, none⟩)) (by kernel_rfl) ?_
    refine sx_val (by kernel_rfl) rfl rfl (.pointer (some ⟨b3, q3 + k * 16 + 6, none⟩)) (by kernel_rfl) ?_
    refine sx_val (by kernel_rfl) rfl rfl (.int .i64 ((ol.getD k or0).dp)) (ex_load1 rfl ((hr16.below HB).cell (k := k) (by omega) 6 rfl) (by kernel_rfl) Try.underlying3 rfl) ?_
    by_cases C2 : (ol.getD k or0).dp = (-1)
    · refine sx_bool (by kernel_rfl) rfl rfl (((ol.getD k or0).dp : Int) != ((-1) : Int)) false (by kernel_rfl) (by rw [bne_eq_false_iff_eq]; omega) ?_
      refine wpList_nil ?_
      refine sx_norm ?_
      refine sx_false (by kernel_rfl) ?_
      refine wp_skip ?_
      refine sx_norm ?_
      refine wp_seq ?_
      refine wp_region_lit ?_
      refine sx_val (by kernel_rfl) rfl rfl (.slice none 0 0) (by kernel_rfl) ?_
      refine sx_val (by kernel_rfl) rfl rfl (.slice none 0 0) (by kernel_rfl) ?_
      refine wpList_nil ?_
      refine sx_norm ?_
      refine wp_ret ?_
      refine sx_ret1 (.slice none 0 0) rfl rfl (by kernel_rfl) (visP (HG.ext ?_) HB (by omega))
      unfold visR
      rw [if_pos (by assumption : (ol.getD k or0).pp = -1)]
      rw [if_pos (by assumption : (ol.getD k or0).dp = -1)]
      all_goals rfl
    refine sx_bool (by kernel_rfl) rfl rfl (((ol.getD k or0).dp : Int) != ((-1) : Int)) true (by kernel_rfl) (bne_iff_ne.2 (by omega)) ?_
    refine wpList_nil ?_
    refine sx_norm ?_
    refine sx_true (by kernel_rfl) ?_
    refine wp_region_lit ?_
    refine sx_val (by kernel_rfl) rfl rfl (.slice none 0 0) (by kernel_rfl) ?_
    refine sx_val (by kernel_rfl) rfl rfl (.int .i64 ((k : Nat) : Int)) (by kernel_rfl) ?_
    refine sx_val (by kernel_rfl) rfl rfl (.agg #[.int .i64 ((k : Nat) : Int), .bool true]) (by kernel_rfl) ?_
    obtain ⟨W3, hW⟩ : ∃ W, W1.alloc (.cells #[.int .i64 ((k : Nat) : Int), .bool true] 52) = W := ⟨_, rfl⟩
    have hb := hW ▸ below_alloc W1 (.cells #[.int .i64 ((k : Nat) : Int), .bool true] 52)
    have hq : Cb W3 W1.heap.size #[.int .i64 ((k : Nat) : Int), .bool true] 52 := hW ▸ Cb.made W1 #[.int .i64 ((k : Nat) : Int), .bool true] 52
    refine sx_mem (by kernel_rfl) rfl rfl (.slice (some ⟨W1.heap.size, 0, none⟩) 1 1) W3 (by rw [← hW]; kernel_rfl) ?_
    replace HB := over HB hb
    replace M2 := M2.below hb
    replace HG := HG.frame hb
    have z2 := hb.size
    have M4 := hq
    have yM4 := hq.lt
    clear hq hb hW
    obtain ⟨v5, W6, h7, hg9, hb, -, -⟩ := ap_w 32 HG (lw_cb M4) (by omega) (by simp)
    refine sx_mem (by kernel_rfl) rfl rfl v5 W6 (ex_append rfl (by kernel_rfl) (by kernel_rfl) h7) ?_
    replace HB := HB.trans (hb.mono (by omega))
    replace M2 := M2.belowB (by omega) hb
    have z3 := hb.size
    replace HG := hg9
    clear hg9 hb h7
    refine sx_val (by kernel_rfl) rfl rfl (v5) (by kernel_rfl) ?_
    refine wpList_nil ?_
    refine sx_norm ?_
    refine wp_seq ?_
    refine wp_region_lit ?_
    refine sx_val (by kernel_rfl) rfl rfl (v5) (by kernel_rfl) ?_
    refine sx_val (by kernel_rfl) rfl rfl (v5) (by kernel_rfl) ?_
    refine wpList_nil ?_
    refine sx_norm ?_
    refine wp_ret ?_
    refine sx_ret1 (v5) rfl rfl (by kernel_rfl) (visP (HG.ext ?_) HB (by omega))
    unfold visR
    rw [if_pos (by assumption : (ol.getD k or0).pp = -1)]
    rw [if_neg (by assumption : ¬ (ol.getD k or0).dp = -1)]
    all_goals rfl
  refine sx_bool (by kernel_rfl) rfl rfl (((ol.getD k or0).pp : Int) != ((-1) : Int)) true (by kernel_rfl) (bne_iff_ne.2 (by omega)) ?_
  refine wpList_nil ?_
  refine sx_norm ?_
  refine sx_true (by kernel_rfl) ?_
  refine wp_region_lit ?_
  refine sx_val (by kernel_rfl) rfl rfl (.slice none 0 0) (by kernel_rfl) ?_
  refine sx_val (by kernel_rfl) rfl rfl (.int .i64 ((k : Nat) : Int)) (by kernel_rfl) ?_
  refine sx_val (by kernel_rfl) rfl rfl (.agg #[.int .i64 ((k : Nat) : Int), .bool false]) (by kernel_rfl) ?_
  obtain ⟨W8, hW⟩ : ∃ W, W1.alloc (.cells #[.int .i64 ((k : Nat) : Int), .bool false] 52) = W := ⟨_, rfl⟩
  have hb := hW ▸ below_alloc W1 (.cells #[.int .i64 ((k : Nat) : Int), .bool false] 52)
  have hq : Cb W8 W1.heap.size #[.int .i64 ((k : Nat) : Int), .bool false] 52 := hW ▸ Cb.made W1 #[.int .i64 ((k : Nat) : Int), .bool false] 52
  refine sx_mem (by kernel_rfl) rfl rfl (.slice (some ⟨W1.heap.size, 0, none⟩) 1 1) W8 (by rw [← hW]; kernel_rfl) ?_
  replace HB := over HB hb
  replace M2 := M2.below hb
  replace HG := HG.frame hb
  have z2 := hb.size
  have M9 := hq
  have yM9 := hq.lt
  clear hq hb hW
  obtain ⟨v10, W11, h12, hg9, hb, -, -⟩ := ap_w 32 HG (lw_cb M9) (by omega) (by simp)
  refine sx_mem (by kernel_rfl) rfl rfl v10 W11 (ex_append rfl (by kernel_rfl) (by kernel_rfl) h12) ?_
  replace HB := HB.trans (hb.mono (by omega))
  replace M2 := M2.belowB (by omega) hb
  have z3 := hb.size
  replace HG := hg9
  clear hg9 hb h12
  refine sx_val (by kernel_rfl) rfl rfl (v10) (by kernel_rfl) ?_
  refine wpList_nil ?_
  refine sx_norm ?_
  refine wp_seq ?_
  refine wp_seq ?_
  refine wp_region_lit ?_
  refine sx_val (by kernel_rfl) rfl rfl (.pointer (some ⟨w.heap.size, 3, none⟩)) (by kernel_rfl) ?_
  refine sx_val (by kernel_rfl) rfl rfl (.slice o3 ol.length c3) (ex_load1 rfl (M2.cell 3 rfl) (by kernel_rfl) Try.underlying27 rfl) ?_
  refine sx_val (by kernel_rfl) rfl rfl (.int .i64 ((k : Nat) : Int)) (by kernel_rfl) ?_
  refine sx_val (by kernel_rfl) rfl rfl (.pointer (some ⟨b3, q3 + k * 16, none⟩)) (ex_indexO (q := q3) (m := ol.length) (c := c3) (k := k) (s := 16) rfl (by kernel_rfl) ((hr16.below HB).oa (k := k) (by omega)) (by kernel_rfl) Try.underlying27 (by kernel_rfl) (by omega) (by omega)) ?_
  refine sx_val (by kernel_rfl) rfl rfl (.pointer (some ⟨b3, q3 + k * 16 + 6, none⟩)) (by kernel_rfl) ?_
  refine sx_val (by kernel_rfl) rfl rfl (.pointer (some ⟨b3, q3 + k * 16 + 6, none⟩)) (by kernel_rfl) ?_
  refine sx_val (by kernel_rfl) rfl rfl (.int .i64 ((ol.getD k or0).dp)) (ex_load1 rfl ((hr16.below HB).cell (k := k) (by omega) 6 rfl) (by kernel_rfl) Try.underlying3 rfl) ?_
  by_cases C3 : (ol.getD k or0).dp = (-1)
  · refine sx_bool (by kernel_rfl) rfl rfl (((ol.getD k or0).dp : Int) != ((-1) : Int)) false (by kernel_rfl) (by rw [bne_eq_false_iff_eq]; omega) ?_
    refine wpList_nil ?_
    refine sx_norm ?_
    refine sx_false (by kernel_rfl) ?_
    refine wp_skip ?_
    refine sx_norm ?_
    refine wp_seq ?_
    refine wp_region_lit ?_
    refine sx_val (by kernel_rfl) rfl rfl (v10) (by kernel_rfl) ?_
    refine sx_val (by kernel_rfl) rfl rfl (v10) (by kernel_rfl) ?_
    refine wpList_nil ?_
    refine sx_norm ?_
    refine wp_ret ?_
    refine sx_ret1 (v10) rfl rfl (by kernel_rfl) (visP (HG.ext ?_) HB (by omega))
    unfold visR
    rw [if_neg (by assumption : ¬ (ol.getD k or0).pp = -1)]
    rw [if_pos (by assumption : (ol.getD k or0).dp = -1)]
    all_goals rfl
  refine sx_bool (by kernel_rfl) rfl rfl (((ol.getD k or0).dp : Int) != ((-1) : Int)) true (by kernel_rfl) (bne_iff_ne.2 (by omega)) ?_
  refine wpList_nil ?_
  refine sx_norm ?_
  refine sx_true (by kernel_rfl) ?_
  refine wp_region_lit ?_
  refine sx_val (by kernel_rfl) rfl rfl (v10) (by kernel_rfl) ?_
  refine sx_val (by kernel_rfl) rfl rfl (.int .i64 ((k : Nat) : Int)) (by kernel_rfl) ?_
  refine sx_val (by kernel_rfl) rfl rfl (.agg #[.int .i64 ((k : Nat) : Int), .bool true]) (by kernel_rfl) ?_
  obtain ⟨W13, hW⟩ : ∃ W, W11.alloc (.cells #[.int .i64 ((k : Nat) : Int), .bool true] 52) = W := ⟨_, rfl⟩
  have hb := hW ▸ below_alloc W11 (.cells #[.int .i64 ((k : Nat) : Int), .bool true] 52)
  have hq : Cb W13 W11.heap.size #[.int .i64 ((k : Nat) : Int), .bool true] 52 := hW ▸ Cb.made W11 #[.int .i64 ((k : Nat) : Int), .bool true] 52
  refine sx_mem (by kernel_rfl) rfl rfl (.slice (some ⟨W11.heap.size, 0, none⟩) 1 1) W13 (by rw [← hW]; kernel_rfl) ?_
  replace HB := over HB hb
  replace M2 := M2.below hb
  replace HG := HG.frame hb
  have z4 := hb.size
  have M14 := hq
  have yM14 := hq.lt
  clear hq hb hW
  obtain ⟨v15, W16, h17, hg9, hb, -, -⟩ := ap_w 32 HG (lw_cb M14) (by omega) (by simp)
  refine sx_mem (by kernel_rfl) rfl rfl v15 W16 (ex_append rfl (by kernel_rfl) (by kernel_rfl) h17) ?_
  replace HB := HB.trans (hb.mono (by omega))
  replace M2 := M2.belowB (by omega) hb
  have z5 := hb.size
  replace HG := hg9
  clear hg9 hb h17
  refine sx_val (by kernel_rfl) rfl rfl (v15) (by kernel_rfl) ?_
  refine wpList_nil ?_
  refine sx_norm ?_
  refine wp_seq ?_
  refine wp_region_lit ?_
  refine sx_val (by kernel_rfl) rfl rfl (v15) (by kernel_rfl) ?_
  refine sx_val (by kernel_rfl) rfl rfl (v15) (by kernel_rfl) ?_
  refine wpList_nil ?_
  refine sx_norm ?_
  refine wp_ret ?_
  refine sx_ret1 (v15) rfl rfl (by kernel_rfl) (visP (HG.ext ?_) HB (by omega))
  unfold visR
  rw [if_neg (by assumption : ¬ (ol.getD k or0).pp = -1)]
  rw [if_neg (by assumption : ¬ (ol.getD k or0).dp = -1)]
  all_goals rfl

theorem refVisitsI_n (o0 o1 o2 o3 o4 o5 : Option Addr) (n0 n1 n2 n4 n5 c0 c1 c2 c3 c4 c5 : Nat) (ol : List OrT) (i : Int) (h0 : 0 ≤ i) (h1 : i < ol.length) (hn : ol.length ≤ 10) (w : World) (hos : Os w (.slice o3 ol.length c3) ol) : Calls Try.prog 47 #[.agg #[.slice o0 n0 c0, .slice o1 n1 c1, .slice o2 n2 c2, .slice o3 ol.length c3, .slice o4 n4 c4, .slice o5 n5 c5], .int .i64 i] w (VisP (visR ol i.toNat) w) := by
  obtain ⟨k, rfl⟩ := Int.eq_ofNat_of_zero_le h0
  exact refVisits_n o0 o1 o2 o3 o4 o5 n0 n1 n2 n4 n5 c0 c1 c2 c3 c4 c5 ol k (by omega) hn w hos

end Go.Proofs.Ytoliacfpjhanlaa.T

