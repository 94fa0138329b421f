/-
  DERIVED. The specification of sequences: paired, before (by gen_uc.py).
-/
import Derived.Test.YtoliacfpjhanlaaUb
namespace Go.Proofs.Ytoliacfpjhanlaa.T
open Go.RowKit
set_option maxRecDepth 8000
attribute [local irreducible] wpList Code.wp wpAnyH

def NoB (l : List (Int × Bool)) (a b : Int) : Prop := ∀ j, j < l.length → ∀ k, k < j → ¬ ((l.getD j (0, false)).1 = a ∧ (l.getD k (0, false)).1 = b)
instance (l : List (Int × Bool)) (a b : Int) : Decidable (NoB l a b) := by unfold NoB; infer_instance
def befP (z : Int) (l : List (Int × Bool)) (p : Int × Int) : Bool := !hasR z (U.pb p : Nat) || (hasR z (U.pa p : Nat) && decide (NoB l (U.pa p : Nat) (U.pb p : Nat)))
def befL (z : Int) (be : List (Int × Int)) (l : List (Int × Bool)) : Bool := be.all (befP z l)
theorem nob_end {l : List (Int × Bool)} {a b : Int} {i : Nat} (hi : l.length ≤ i) (h : ∀ x, x < i → ∀ y, y < x → ¬ ((l.getD x (0, false)).1 = a ∧ (l.getD y (0, false)).1 = b)) : NoB l a b := fun j hj => h j (by omega)
theorem nob_more {l : List (Int × Bool)} {a b : Int} {i m : Nat} (h : ∀ x, x < i → ∀ y, y < x → ¬ ((l.getD x (0, false)).1 = a ∧ (l.getD y (0, false)).1 = b)) (hm : i ≤ m) (k : ∀ y, y < m → ¬ ((l.getD i (0, false)).1 = a ∧ (l.getD y (0, false)).1 = b)) : ∀ x, x < i + 1 → ∀ y, y < x → ¬ ((l.getD x (0, false)).1 = a ∧ (l.getD y (0, false)).1 = b) := fun x hx y hy => by
  rcases Nat.lt_succ_iff_lt_or_eq.1 hx with h1 | h1
  · exact h x h1 y hy
  · subst h1
    exact k y (by omega)
theorem nob_one {l : List (Int × Bool)} {a b : Int} {i m : Nat} (k : ∀ y, y < m → ¬ ((l.getD i (0, false)).1 = a ∧ (l.getD y (0, false)).1 = b)) (h : ¬ ((l.getD i (0, false)).1 = a ∧ (l.getD m (0, false)).1 = b)) : ∀ y, y < m + 1 → ¬ ((l.getD i (0, false)).1 = a ∧ (l.getD y (0, false)).1 = b) := fun y hy => by
  rcases Nat.lt_succ_iff_lt_or_eq.1 hy with h1 | h1
  · exact k y h1
  · subst h1
    exact h
theorem nob_no {l : List (Int × Bool)} {a b : Int} {i m : Nat} (hi : i < l.length) (hm : m < i) (h1 : (l.getD i (0, false)).1 = a) (h2 : (l.getD m (0, false)).1 = b) : ¬ NoB l a b := fun h => h i hi m hm ⟨h1, h2⟩
theorem refBefore_n (o0 o1 o2 o3 o4 o5 : Option Addr) (n0 n1 n2 n4 c0 c1 c2 c3 c4 c5 : Nat) (ol : List OrT) (be : List (Int × Int)) (_ : ol.length ≤ 10) (hr : U.Rt ol.length be) (hl : be.length ≤ 1000000) (z : Int) (w : World) (_ : Os w (.slice o3 ol.length c3) ol) (hps : Ps w (.slice o5 be.length c5) be) (l : List (Int × Bool)) (ll : l.length ≤ 1000000) (oa : Option Addr) (c b o : Nat) (hv : Rw w b o 2 (vF l) l.length oa) : Calls Try.prog 35 #[.agg #[.slice o0 n0 c0, .slice o1 n1 c1, .slice o2 n2 c2, .slice o3 ol.length c3, .slice o4 n4 c4, .slice o5 be.length c5], .int .i64 z, .slice oa l.length c] w fun e w' => e = .returned (.bool (befL z be l)) ∧ Below w.heap.size w w' := by
  have HB : Below w.heap.size w w := Below.refl _ _
  obtain ⟨b5, q5, hpr⟩ := Ps.rw hr hps
  refine sx_enter Try.func35 rfl [(0, .agg #[.slice o0 n0 c0, .slice o1 n1 c1, .slice o2 n2 c2, .slice o3 ol.length c3, .slice o4 n4 c4, .slice o5 be.length c5]), (1, .int .i64 z), (2, .slice oa l.length c)] (by kernel_rfl) ?_
  refine wp_seq ?_
  refine wp_region_lit ?_
  obtain ⟨W1, hW⟩ : ∃ W, w.alloc (.cells #[.slice o0 n0 c0, .slice o1 n1 c1, .slice o2 n2 c2, .slice o3 ol.length c3, .slice o4 n4 c4, .slice o5 be.length c5] 30) = W := ⟨_, rfl⟩
  have hb := hW ▸ below_alloc w (.cells #[.slice o0 n0 c0, .slice o1 n1 c1, .slice o2 n2 c2, .slice o3 ol.length c3, .slice o4 n4 c4, .slice o5 be.length c5] 30)
  have hq : Cb W1 w.heap.size #[.slice o0 n0 c0, .slice o1 n1 c1, .slice o2 n2 c2, .slice o3 ol.length c3, .slice o4 n4 c4, .slice o5 be.length c5] 30 := hW ▸ Cb.made w #[.slice o0 n0 c0, .slice o1 n1 c1, .slice o2 n2 c2, .slice o3 ol.length c3, .slice o4 n4 c4, .slice o5 be.length c5] 30
  refine sx_mem (by kernel_rfl) rfl rfl (.pointer (some ⟨w.heap.size, 0, none⟩)) W1 (by rw [← hW]; kernel_rfl) ?_
  replace HB := over HB hb
  have z1 := hb.size
  have M2 := hq
  have yM2 := hq.lt
  clear hq hb hW
  refine sx_val (by kernel_rfl) rfl rfl (.bool false) (by kernel_rfl) ?_
  refine wpList_nil ?_
  refine sx_norm ?_
  refine wp_seq ?_
  refine wp_seq ?_
  refine wp_region_lit ?_
  refine sx_val (by kernel_rfl) rfl rfl (.int .i64 0) (by kernel_rfl) ?_
  refine wpList_nil ?_
  refine sx_norm ?_
  refine wp_block ?_
  refine sx_loop (fun j : Nat => [(0, .agg #[.slice o0 n0 c0, .slice o1 n1 c1, .slice o2 n2 c2, .slice o3 ol.length c3, .slice o4 n4 c4, .slice o5 be.length c5]), (1, .int .i64 z), (2, .slice oa l.length c), (3, .pointer (some ⟨w.heap.size, 0, none⟩)), (7, .int .i64 ((j : Nat) : Int))]) (fun gg j wr => j ≤ be.length ∧ be.length - j ≤ gg ∧ (be.take j).all (befP z l) = true ∧ Below W1.heap.size W1 wr) (be.length) (0) (by kernel_rfl) ⟨Nat.zero_le _, Nat.le_refl _, rfl, Below.refl _ _⟩ ?_
  rintro gg j g' wr3 ⟨hj, hg, hI, hbl⟩
  replace HB := over HB hbl
  replace M2 := M2.below hbl
  have z2 := hbl.size
  have HL := hbl
  clear hbl
  refine wp_seq ?_
  refine wp_seq ?_
  refine wp_region_lit ?_
  refine sx_val (by kernel_rfl) rfl rfl (.int .i64 ((j : Nat) : Int)) (by kernel_rfl) ?_
  refine sx_val (by kernel_rfl) rfl rfl (.pointer (some ⟨w.heap.size, 5, none⟩)) (by kernel_rfl) ?_
  refine sx_val (by kernel_rfl) rfl rfl (.slice o5 be.length c5) (ex_load1 rfl (M2.cell 5 rfl) (by kernel_rfl) Try.underlying28 rfl) ?_
  refine sx_val (by kernel_rfl) rfl rfl (.int .i64 ((be.length : Nat) : Int)) (by kernel_rfl) ?_
  by_cases C1 : j < be.length
  · refine sx_bool (by kernel_rfl) rfl rfl (decide (((j : Nat) : Int) < ((be.length : Nat) : Int))) true (by kernel_rfl) (decide_eq_true (by omega)) ?_
    refine wpList_nil ?_
    refine sx_norm ?_
    refine sx_true (by kernel_rfl) ?_
    refine wp_skip ?_
    refine sx_norm ?_
    refine wp_seq ?_
    refine wp_block ?_
    refine wp_seq ?_
    refine wp_region_lit ?_
    refine sx_val (by kernel_rfl) rfl rfl (.pointer (some ⟨w.heap.size, 5, none⟩)) (by kernel_rfl) ?_
    refine sx_val (by kernel_rfl) rfl rfl (.slice o5 be.length c5) (ex_load1 rfl (M2.cell 5 rfl) (by kernel_rfl) Try.underlying28 rfl) ?_
    refine sx_val (by kernel_rfl) rfl rfl (.int .i64 ((j : Nat) : Int)) (by kernel_rfl) ?_
    refine sx_val (by kernel_rfl) rfl rfl (.pointer (some ⟨b5, q5 + j * 2, none⟩)) (ex_indexO (q := q5) (m := be.length) (c := c5) (k := j) (s := 2) rfl (by kernel_rfl) ((hpr.below HB).oa (k := j) (by omega)) (by kernel_rfl) Try.underlying28 (by kernel_rfl) (by omega) (by omega)) ?_
    refine sx_val (by kernel_rfl) rfl rfl (.pointer (some ⟨b5, q5 + j * 2, none⟩)) (by kernel_rfl) ?_
    refine sx_val (by kernel_rfl) rfl rfl (.int .i64 ((U.pa (be.getD j (0, 0)) : Nat) : Int)) (ex_load1 rfl ((hpr.below HB).cell (k := j) (by omega) 0 rfl) (by kernel_rfl) Try.underlying3 rfl) ?_
    refine sx_val (by kernel_rfl) rfl rfl (.int .i64 ((U.pa (be.getD j (0, 0)) : Nat) : Int)) (by kernel_rfl) ?_
    refine wpList_nil ?_
    refine sx_norm ?_
    refine wp_seq ?_
    refine wp_region_lit ?_
    refine sx_val (by kernel_rfl) rfl rfl (.pointer (some ⟨w.heap.size, 5, none⟩)) (by kernel_rfl) ?_
    refine sx_val (by kernel_rfl) rfl rfl (.slice o5 be.length c5) (ex_load1 rfl (M2.cell 5 rfl) (by kernel_rfl) Try.underlying28 rfl) ?_
    refine sx_val (by kernel_rfl) rfl rfl (.int .i64 ((j : Nat) : Int)) (by kernel_rfl) ?_
    refine sx_val (by kernel_rfl) rfl rfl (.pointer (some ⟨b5, q5 + j * 2, none⟩)) (ex_indexO (q := q5) (m := be.length) (c := c5) (k := j) (s := 2) rfl (by kernel_rfl) ((hpr.below HB).oa (k := j) (by omega)) (by kernel_rfl) Try.underlying28 (by kernel_rfl) (by omega) (by omega)) ?_
    refine sx_val (by kernel_rfl) rfl rfl (.pointer (some ⟨b5, q5 + j * 2 + 1, none⟩)) (by kernel_rfl) ?_
    refine sx_val (by kernel_rfl) rfl rfl (.int .i64 ((U.pb (be.getD j (0, 0)) : Nat) : Int)) (ex_load1 rfl ((hpr.below HB).cell (k := j) (by omega) 1 rfl) (by kernel_rfl) Try.underlying3 rfl) ?_
    refine sx_val (by kernel_rfl) rfl rfl (.int .i64 ((U.pb (be.getD j (0, 0)) : Nat) : Int)) (by kernel_rfl) ?_
    refine wpList_nil ?_
    refine sx_norm ?_
    refine wp_seq ?_
    refine wp_seq ?_
    refine wp_region_lit ?_
    refine sx_val (by kernel_rfl) rfl rfl (.int .i64 z) (by kernel_rfl) ?_
    refine sx_val (by kernel_rfl) rfl rfl (.int .i64 ((U.pb (be.getD j (0, 0)) : Nat) : Int)) (by kernel_rfl) ?_
    by_cases C2 : hasR z ((U.pb (be.getD j (0, 0)) : Nat) : Int) = true
    · refine sx_call (by kernel_rfl) rfl rfl ((by have h8 := refHas_n z ((U.pb (be.getD j (0, 0)) : Nat) : Int) wr3; rw [show hasR z ((U.pb (be.getD j (0, 0)) : Nat) : Int) = true by simpa using C2] at h8; exact h8)) (by kernel_rfl) ?_
      rintro e w9 ⟨rfl, rfl⟩
      refine ⟨_, rfl, ?_⟩
      refine sx_val (by kernel_rfl) rfl rfl (.bool false) (by kernel_rfl) ?_
      refine wpList_nil ?_
      refine sx_norm ?_
      refine sx_false (by kernel_rfl) ?_
      refine wp_skip ?_
      refine sx_norm ?_
      refine wp_seq ?_
      refine wp_seq ?_
      refine wp_region_lit ?_
      refine sx_val (by kernel_rfl) rfl rfl (.int .i64 z) (by kernel_rfl) ?_
      refine sx_val (by kernel_rfl) rfl rfl (.int .i64 ((U.pa (be.getD j (0, 0)) : Nat) : Int)) (by kernel_rfl) ?_
      by_cases C3 : hasR z ((U.pa (be.getD j (0, 0)) : Nat) : Int) = true
      · refine sx_call (by kernel_rfl) rfl rfl ((by have h8 := refHas_n z ((U.pa (be.getD j (0, 0)) : Nat) : Int) wr3; rw [show hasR z ((U.pa (be.getD j (0, 0)) : Nat) : Int) = true by simpa using C3] at h8; exact h8)) (by kernel_rfl) ?_
        rintro e w9 ⟨rfl, rfl⟩
        refine ⟨_, rfl, ?_⟩
        refine sx_val (by kernel_rfl) rfl rfl (.bool false) (by kernel_rfl) ?_
        refine wpList_nil ?_
        refine sx_norm ?_
        refine sx_false (by kernel_rfl) ?_
        refine wp_skip ?_
        refine sx_norm ?_
        refine wp_seq ?_
        refine wp_region_lit ?_
        refine sx_val (by kernel_rfl) rfl rfl (.int .i64 0) (by kernel_rfl) ?_
        refine wpList_nil ?_
        refine sx_norm ?_
        refine wp_block ?_
        refine sx_loop (fun i : Nat => [(0, .agg #[.slice o0 n0 c0, .slice o1 n1 c1, .slice o2 n2 c2, .slice o3 ol.length c3, .slice o4 n4 c4, .slice o5 be.length c5]), (1, .int .i64 z), (2, .slice oa l.length c), (3, .pointer (some ⟨w.heap.size, 0, none⟩)), (7, .int .i64 ((j : Nat) : Int)), (8, .int .i64 ((U.pa (be.getD j (0, 0)) : Nat) : Int)), (9, .int .i64 ((U.pb (be.getD j (0, 0)) : Nat) : Int)), (10, .int .i64 ((i : Nat) : Int)), (12, .int .i64 ((j : Nat) : Int)), (13, .pointer (some ⟨w.heap.size, 5, none⟩)), (14, .slice o5 be.length c5), (15, .int .i64 ((be.length : Nat) : Int)), (16, .bool true), (19, .pointer (some ⟨w.heap.size, 5, none⟩)), (20, .slice o5 be.length c5), (21, .int .i64 ((j : Nat) : Int)), (22, .pointer (some ⟨b5, q5 + j * 2, none⟩)), (23, .pointer (some ⟨b5, q5 + j * 2, none⟩)), (24, .int .i64 ((U.pa (be.getD j (0, 0)) : Nat) : Int)), (25, .pointer (some ⟨w.heap.size, 5, none⟩)), (26, .slice o5 be.length c5), (27, .int .i64 ((j : Nat) : Int)), (28, .pointer (some ⟨b5, q5 + j * 2, none⟩)), (29, .pointer (some ⟨b5, q5 + j * 2 + 1, none⟩)), (30, .int .i64 ((U.pb (be.getD j (0, 0)) : Nat) : Int)), (31, .int .i64 z), (32, .int .i64 ((U.pb (be.getD j (0, 0)) : Nat) : Int)), (33, .bool true), (34, .bool false), (35, .int .i64 z), (36, .int .i64 ((U.pa (be.getD j (0, 0)) : Nat) : Int)), (37, .bool true), (38, .bool false)]) (fun gg i wr => i ≤ l.length ∧ l.length - i ≤ gg ∧ (∀ x, x < i → ∀ y, y < x → ¬ ((l.getD x (0, false)).1 = (((U.pa (be.getD j (0, 0))) : Nat) : Int) ∧ (l.getD y (0, false)).1 = (((U.pb (be.getD j (0, 0))) : Nat) : Int))) ∧ Below wr3.heap.size wr3 wr) (l.length) (0) (by kernel_rfl) ⟨Nat.zero_le _, Nat.le_refl _, fun x hx => absurd hx (Nat.not_lt_zero x), Below.refl _ _⟩ ?_
        rintro gg i g' wr4 ⟨hi, hg2, hN, hbl⟩
        replace HB := over HB hbl
        replace M2 := M2.below hbl
        replace HL := over HL hbl
        have z3 := hbl.size
        have HL2 := hbl
        clear hbl
        refine wp_seq ?_
        refine wp_seq ?_
        refine wp_region_lit ?_
        refine sx_val (by kernel_rfl) rfl rfl (.int .i64 ((i : Nat) : Int)) (by kernel_rfl) ?_
        refine sx_val (by kernel_rfl) rfl rfl (.slice oa l.length c) (by kernel_rfl) ?_
        refine sx_val (by kernel_rfl) rfl rfl (.int .i64 ((l.length : Nat) : Int)) (by kernel_rfl) ?_
        by_cases C4 : i < l.length
        · refine sx_bool (by kernel_rfl) rfl rfl (decide (((i : Nat) : Int) < ((l.length : Nat) : Int))) true (by kernel_rfl) (decide_eq_true (by omega)) ?_
          refine wpList_nil ?_
          refine sx_norm ?_
          refine sx_true (by kernel_rfl) ?_
          refine wp_skip ?_
          refine sx_norm ?_
          refine wp_seq ?_
          refine wp_block ?_
          refine wp_seq ?_
          refine wp_region_lit ?_
          refine sx_val (by kernel_rfl) rfl rfl (.int .i64 0) (by kernel_rfl) ?_
          refine wpList_nil ?_
          refine sx_norm ?_
          refine wp_block ?_
          refine sx_loop (fun m : Nat => [(0, .agg #[.slice o0 n0 c0, .slice o1 n1 c1, .slice o2 n2 c2, .slice o3 ol.length c3, .slice o4 n4 c4, .slice o5 be.length c5]), (1, .int .i64 z), (2, .slice oa l.length c), (3, .pointer (some ⟨w.heap.size, 0, none⟩)), (7, .int .i64 ((j : Nat) : Int)), (8, .int .i64 ((U.pa (be.getD j (0, 0)) : Nat) : Int)), (9, .int .i64 ((U.pb (be.getD j (0, 0)) : Nat) : Int)), (10, .int .i64 ((i : Nat) : Int)), (11, .int .i64 ((m : Nat) : Int)), (12, .int .i64 ((j : Nat) : Int)), (13, .pointer (some ⟨w.heap.size, 5, none⟩)), (14, .slice o5 be.length c5), (15, .int .i64 ((be.length : Nat) : Int)), (16, .bool true), (19, .pointer (some ⟨w.heap.size, 5, none⟩)), (20, .slice o5 be.length c5), (21, .int .i64 ((j : Nat) : Int)), (22, .pointer (some ⟨b5, q5 + j * 2, none⟩)), (23, .pointer (some ⟨b5, q5 + j * 2, none⟩)), (24, .int .i64 ((U.pa (be.getD j (0, 0)) : Nat) : Int)), (25, .pointer (some ⟨w.heap.size, 5, none⟩)), (26, .slice o5 be.length c5), (27, .int .i64 ((j : Nat) : Int)), (28, .pointer (some ⟨b5, q5 + j * 2, none⟩)), (29, .pointer (some ⟨b5, q5 + j * 2 + 1, none⟩)), (30, .int .i64 ((U.pb (be.getD j (0, 0)) : Nat) : Int)), (31, .int .i64 z), (32, .int .i64 ((U.pb (be.getD j (0, 0)) : Nat) : Int)), (33, .bool true), (34, .bool false), (35, .int .i64 z), (36, .int .i64 ((U.pa (be.getD j (0, 0)) : Nat) : Int)), (37, .bool true), (38, .bool false), (39, .int .i64 ((i : Nat) : Int)), (40, .slice oa l.length c), (41, .int .i64 ((l.length : Nat) : Int)), (42, .bool true)]) (fun gg m wr => m ≤ i ∧ i - m ≤ gg ∧ (∀ y, y < m → ¬ ((l.getD i (0, false)).1 = (((U.pa (be.getD j (0, 0))) : Nat) : Int) ∧ (l.getD y (0, false)).1 = (((U.pb (be.getD j (0, 0))) : Nat) : Int))) ∧ Below wr4.heap.size wr4 wr) (i) (0) (by kernel_rfl) ⟨Nat.zero_le _, Nat.le_refl _, fun y hy => absurd hy (Nat.not_lt_zero y), Below.refl _ _⟩ ?_
          rintro gg m g' wr5 ⟨hm, hg3, hK, hbl⟩
          replace HB := over HB hbl
          replace M2 := M2.below hbl
          replace HL := over HL hbl
          replace HL2 := over HL2 hbl
          have z4 := hbl.size
          have HL3 := hbl
          clear hbl
          refine wp_seq ?_
          refine wp_seq ?_
          refine wp_region_lit ?_
          refine sx_val (by kernel_rfl) rfl rfl (.int .i64 ((m : Nat) : Int)) (by kernel_rfl) ?_
          refine sx_val (by kernel_rfl) rfl rfl (.int .i64 ((i : Nat) : Int)) (by kernel_rfl) ?_
          by_cases C5 : m < i
          · refine sx_bool (by kernel_rfl) rfl rfl (decide (((m : Nat) : Int) < ((i : Nat) : Int))) true (by kernel_rfl) (decide_eq_true (by omega)) ?_
            refine wpList_nil ?_
            refine sx_norm ?_
            refine sx_true (by kernel_rfl) ?_
            refine wp_skip ?_
            refine sx_norm ?_
            refine wp_seq ?_
            refine wp_block ?_
            refine wp_seq ?_
            refine wp_region_lit ?_
            refine sx_val (by kernel_rfl) rfl rfl (.slice oa l.length c) (by kernel_rfl) ?_
            refine sx_val (by kernel_rfl) rfl rfl (.int .i64 ((i : Nat) : Int)) (by kernel_rfl) ?_
            refine sx_val (by kernel_rfl) rfl rfl (.pointer (some ⟨b, o + i * 2, none⟩)) (ex_indexO (q := o) (m := l.length) (c := c) (k := i) (s := 2) rfl (by kernel_rfl) ((hv.below HB).oa (k := i) (by omega)) (by kernel_rfl) Try.underlying32 (by kernel_rfl) (by omega) (by omega)) ?_
            refine sx_val (by kernel_rfl) rfl rfl (.pointer (some ⟨b, o + i * 2, none⟩)) (by kernel_rfl) ?_
            refine sx_val (by kernel_rfl) rfl rfl (.int .i64 ((l.getD i (0, false)).1)) (ex_load1 rfl ((hv.below HB).cell (k := i) (by omega) 0 rfl) (by kernel_rfl) Try.underlying3 rfl) ?_
            refine sx_val (by kernel_rfl) rfl rfl (.int .i64 ((U.pa (be.getD j (0, 0)) : Nat) : Int)) (by kernel_rfl) ?_
            by_cases C6 : (l.getD i (0, false)).1 = ((U.pa (be.getD j (0, 0)) : Nat) : Int)
            · refine sx_bool (by kernel_rfl) rfl rfl (((l.getD i (0, false)).1 : Int) == (((U.pa (be.getD j (0, 0)) : Nat) : Int) : Int)) true (by kernel_rfl) (beq_iff_eq.2 (by omega)) ?_
              refine sx_val (by kernel_rfl) rfl rfl (.bool true) (by kernel_rfl) ?_
              refine sx_val (by kernel_rfl) rfl rfl (.slice oa l.length c) (by kernel_rfl) ?_
              refine sx_val (by kernel_rfl) rfl rfl (.int .i64 ((m : Nat) : Int)) (by kernel_rfl) ?_
              refine sx_val (by kernel_rfl) rfl rfl (.pointer (some ⟨b, o + m * 2, none⟩)) (ex_indexO (q := o) (m := l.length) (c := c) (k := m) (s := 2) rfl (by kernel_rfl) ((hv.below HB).oa (k := m) (by omega)) (by kernel_rfl) Try.underlying32 (by kernel_rfl) (by omega) (by omega)) ?_
              refine sx_val (by kernel_rfl) rfl rfl (.pointer (some ⟨b, o + m * 2, none⟩)) (by kernel_rfl) ?_
              refine sx_val (by kernel_rfl) rfl rfl (.int .i64 ((l.getD m (0, false)).1)) (ex_load1 rfl ((hv.below HB).cell (k := m) (by omega) 0 rfl) (by kernel_rfl) Try.underlying3 rfl) ?_
              refine sx_val (by kernel_rfl) rfl rfl (.int .i64 ((U.pb (be.getD j (0, 0)) : Nat) : Int)) (by kernel_rfl) ?_
              by_cases C7 : (l.getD m (0, false)).1 = ((U.pb (be.getD j (0, 0)) : Nat) : Int)
              · refine sx_bool (by kernel_rfl) rfl rfl (((l.getD m (0, false)).1 : Int) == (((U.pb (be.getD j (0, 0)) : Nat) : Int) : Int)) true (by kernel_rfl) (beq_iff_eq.2 (by omega)) ?_
                refine sx_val (by kernel_rfl) rfl rfl (.bool true) (by kernel_rfl) ?_
                refine wpList_nil ?_
                refine sx_norm ?_
                refine sx_true (by kernel_rfl) ?_
                refine wp_seq ?_
                refine wp_region_lit ?_
                refine sx_val (by kernel_rfl) rfl rfl (.bool false) (by kernel_rfl) ?_
                refine wpList_nil ?_
                refine sx_norm ?_
                refine wp_ret ?_
                refine sx_rb ?_
                refine sx_rs ?_
                refine sx_rs ?_
                refine sx_rb ?_
                refine sx_rb ?_
                refine sx_rs ?_
                refine sx_rs ?_
                refine sx_rb ?_
                refine sx_rb ?_
                refine sx_rs ?_
                refine sx_rs ?_
                refine sx_rb ?_
                refine sx_rs ?_
                exact sx_ret1 (.bool false) rfl rfl (by kernel_rfl) ⟨ret_bool (allP_no (d := (0, 0)) (j := j) (by omega) (by unfold befP; rw [show hasR z ((U.pb (be.getD j (0, 0)) : Nat) : Int) = true by assumption, show hasR z ((U.pa (be.getD j (0, 0)) : Nat) : Int) = true by assumption, decide_eq_false (nob_no (i := i) (m := m) (by omega) (by omega) (by assumption) (by assumption))]; rfl)).symm, HB⟩
              refine sx_bool (by kernel_rfl) rfl rfl (((l.getD m (0, false)).1 : Int) == (((U.pb (be.getD j (0, 0)) : Nat) : Int) : Int)) false (by kernel_rfl) (beq_eq_false_iff_ne.2 (by omega)) ?_
              refine sx_val (by kernel_rfl) rfl rfl (.bool false) (by kernel_rfl) ?_
              refine wpList_nil ?_
              refine sx_norm ?_
              refine sx_false (by kernel_rfl) ?_
              refine wp_skip ?_
              refine sx_in ?_
              refine sx_norm ?_
              refine wp_region_lit ?_
              refine sx_val (by kernel_rfl) rfl rfl (.int .i64 ((m : Nat) : Int)) (by kernel_rfl) ?_
              refine sx_int (by kernel_rfl) rfl rfl .i64 (IntKind.i64.wrap (((m : Nat) : Int) + 1)) (((m + 1 : Nat) : Int)) (by kernel_rfl) (by rw [IntKind.wrap_i64]; omega) ?_
              refine sx_val (by kernel_rfl) rfl rfl (.int .i64 ((m + 1 : Nat) : Int)) (by kernel_rfl) ?_
              refine wpList_nil ?_
              refine sx_norm ?_
              exact sx_again (i - (m + 1)) (m + 1) (by omega) (by kernel_rfl) ⟨by omega, Nat.le_refl _, nob_one hK (by first | exact fun h8 => absurd h8.1 (by omega) | exact fun h8 => absurd h8.2 (by omega)), HL3⟩
            refine sx_bool (by kernel_rfl) rfl rfl (((l.getD i (0, false)).1 : Int) == (((U.pa (be.getD j (0, 0)) : Nat) : Int) : Int)) false (by kernel_rfl) (beq_eq_false_iff_ne.2 (by omega)) ?_
            refine sx_val (by kernel_rfl) rfl rfl (.bool false) (by kernel_rfl) ?_
            refine sx_skip (by kernel_rfl) rfl rfl ?_
            refine sx_skip (by kernel_rfl) rfl rfl ?_
            refine sx_skip (by kernel_rfl) rfl rfl ?_
            refine sx_skip (by kernel_rfl) rfl rfl ?_
            refine sx_skip (by kernel_rfl) rfl rfl ?_
            refine sx_skip (by kernel_rfl) rfl rfl ?_
            refine sx_skip (by kernel_rfl) rfl rfl ?_
            refine sx_val (by kernel_rfl) rfl rfl (.bool false) (by kernel_rfl) ?_
            refine wpList_nil ?_
            refine sx_norm ?_
            refine sx_false (by kernel_rfl) ?_
            refine wp_skip ?_
            refine sx_in ?_
            refine sx_norm ?_
            refine wp_region_lit ?_
            refine sx_val (by kernel_rfl) rfl rfl (.int .i64 ((m : Nat) : Int)) (by kernel_rfl) ?_
            refine sx_int (by kernel_rfl) rfl rfl .i64 (IntKind.i64.wrap (((m : Nat) : Int) + 1)) (((m + 1 : Nat) : Int)) (by kernel_rfl) (by rw [IntKind.wrap_i64]; omega) ?_
            refine sx_val (by kernel_rfl) rfl rfl (.int .i64 ((m + 1 : Nat) : Int)) (by kernel_rfl) ?_
            refine wpList_nil ?_
            refine sx_norm ?_
            exact sx_again (i - (m + 1)) (m + 1) (by omega) (by kernel_rfl) ⟨by omega, Nat.le_refl _, nob_one hK (by first | exact fun h8 => absurd h8.1 (by omega) | exact fun h8 => absurd h8.2 (by omega)), HL3⟩
          refine sx_bool (by kernel_rfl) rfl rfl (decide (((m : Nat) : Int) < ((i : Nat) : Int))) false (by kernel_rfl) (decide_eq_false (by omega)) ?_
          refine wpList_nil ?_
          refine sx_norm ?_
          refine sx_false (by kernel_rfl) ?_
          refine wp_exit ?_
          refine sx_es ?_
          refine sx_es ?_
          refine sx_out ?_
          refine sx_in ?_
          refine sx_norm ?_
          refine wp_region_lit ?_
          refine sx_val (by kernel_rfl) rfl rfl (.int .i64 ((i : Nat) : Int)) (by kernel_rfl) ?_
          refine sx_int (by kernel_rfl) rfl rfl .i64 (IntKind.i64.wrap (((i : Nat) : Int) + 1)) (((i + 1 : Nat) : Int)) (by kernel_rfl) (by rw [IntKind.wrap_i64]; omega) ?_
          refine sx_val (by kernel_rfl) rfl rfl (.int .i64 ((i + 1 : Nat) : Int)) (by kernel_rfl) ?_
          refine wpList_nil ?_
          refine sx_norm ?_
          exact sx_again (l.length - (i + 1)) (i + 1) (by omega) (by kernel_rfl) ⟨by omega, Nat.le_refl _, nob_more hN (by omega) hK, HL2⟩
        refine sx_bool (by kernel_rfl) rfl rfl (decide (((i : Nat) : Int) < ((l.length : Nat) : Int))) false (by kernel_rfl) (decide_eq_false (by omega)) ?_
        refine wpList_nil ?_
        refine sx_norm ?_
        refine sx_false (by kernel_rfl) ?_
        refine wp_exit ?_
        refine sx_es ?_
        refine sx_es ?_
        refine sx_out ?_
        refine sx_in ?_
        refine sx_norm ?_
        refine wp_region_lit ?_
        refine sx_val (by kernel_rfl) rfl rfl (.int .i64 ((j : Nat) : Int)) (by kernel_rfl) ?_
        refine sx_int (by kernel_rfl) rfl rfl .i64 (IntKind.i64.wrap (((j : Nat) : Int) + 1)) (((j + 1 : Nat) : Int)) (by kernel_rfl) (by rw [IntKind.wrap_i64]; omega) ?_
        refine sx_val (by kernel_rfl) rfl rfl (.int .i64 ((j + 1 : Nat) : Int)) (by kernel_rfl) ?_
        refine wpList_nil ?_
        refine sx_norm ?_
        exact sx_again (be.length - (j + 1)) (j + 1) (by omega) (by kernel_rfl) ⟨by omega, Nat.le_refl _, allP_take (d := (0, 0)) (by omega) hI (by unfold befP; first | (rw [show hasR z ((U.pb (be.getD j (0, 0)) : Nat) : Int) = false by simpa using (by assumption : ¬ hasR z ((U.pb (be.getD j (0, 0)) : Nat) : Int) = true)]; rfl) | (rw [show hasR z ((U.pb (be.getD j (0, 0)) : Nat) : Int) = true by assumption, show hasR z ((U.pa (be.getD j (0, 0)) : Nat) : Int) = true by assumption, decide_eq_true (nob_end (by omega) hN)]; rfl)), HL⟩
      refine sx_call (by kernel_rfl) rfl rfl ((by have h8 := refHas_n z ((U.pa (be.getD j (0, 0)) : Nat) : Int) wr3; rw [show hasR z ((U.pa (be.getD j (0, 0)) : Nat) : Int) = false by simpa using C3] at h8; exact h8)) (by kernel_rfl) ?_
      rintro e w9 ⟨rfl, rfl⟩
      refine ⟨_, rfl, ?_⟩
      refine sx_val (by kernel_rfl) rfl rfl (.bool true) (by kernel_rfl) ?_
      refine wpList_nil ?_
      refine sx_norm ?_
      refine sx_true (by kernel_rfl) ?_
      refine wp_seq ?_
      refine wp_region_lit ?_
      refine sx_val (by kernel_rfl) rfl rfl (.bool false) (by kernel_rfl) ?_
      refine wpList_nil ?_
      refine sx_norm ?_
      refine wp_ret ?_
      refine sx_rs ?_
      refine sx_rb ?_
      refine sx_rs ?_
      refine sx_rs ?_
      refine sx_rb ?_
      refine sx_rs ?_
      exact sx_ret1 (.bool false) rfl rfl (by kernel_rfl) ⟨ret_bool (allP_no (d := (0, 0)) (j := j) (by omega) (by unfold befP; rw [show hasR z ((U.pb (be.getD j (0, 0)) : Nat) : Int) = true by assumption, show hasR z ((U.pa (be.getD j (0, 0)) : Nat) : Int) = false by simpa using (by assumption : ¬ hasR z ((U.pa (be.getD j (0, 0)) : Nat) : Int) = true)]; rfl)).symm, HB⟩
    refine sx_call (by kernel_rfl) rfl rfl ((by have h8 := refHas_n z ((U.pb (be.getD j (0, 0)) : Nat) : Int) wr3; rw [show hasR z ((U.pb (be.getD j (0, 0)) : Nat) : Int) = false by simpa using C2] at h8; exact h8)) (by kernel_rfl) ?_
    rintro e w9 ⟨rfl, rfl⟩
    refine ⟨_, rfl, ?_⟩
    refine sx_val (by kernel_rfl) rfl rfl (.bool true) (by kernel_rfl) ?_
    refine wpList_nil ?_
    refine sx_norm ?_
    refine sx_true (by kernel_rfl) ?_
    refine wp_exit ?_
    refine sx_es ?_
    refine sx_out ?_
    refine sx_norm ?_
    refine wp_region_lit ?_
    refine sx_val (by kernel_rfl) rfl rfl (.int .i64 ((j : Nat) : Int)) (by kernel_rfl) ?_
    refine sx_int (by kernel_rfl) rfl rfl .i64 (IntKind.i64.wrap (((j : Nat) : Int) + 1)) (((j + 1 : Nat) : Int)) (by kernel_rfl) (by rw [IntKind.wrap_i64]; omega) ?_
    refine sx_val (by kernel_rfl) rfl rfl (.int .i64 ((j + 1 : Nat) : Int)) (by kernel_rfl) ?_
    refine wpList_nil ?_
    refine sx_norm ?_
    exact sx_again (be.length - (j + 1)) (j + 1) (by omega) (by kernel_rfl) ⟨by omega, Nat.le_refl _, allP_take (d := (0, 0)) (by omega) hI (by unfold befP; first | (rw [show hasR z ((U.pb (be.getD j (0, 0)) : Nat) : Int) = false by simpa using (by assumption : ¬ hasR z ((U.pb (be.getD j (0, 0)) : Nat) : Int) = true)]; rfl) | (rw [show hasR z ((U.pb (be.getD j (0, 0)) : Nat) : Int) = true by assumption, show hasR z ((U.pa (be.getD j (0, 0)) : Nat) : Int) = true by assumption, decide_eq_true (nob_end (by omega) hN)]; rfl)), HL⟩
  refine sx_bool (by kernel_rfl) rfl rfl (decide (((j : Nat) : Int) < ((be.length : Nat) : Int))) false (by kernel_rfl) (decide_eq_false (by omega)) ?_
  refine wpList_nil ?_
  refine sx_norm ?_
  refine sx_false (by kernel_rfl) ?_
  refine wp_exit ?_
  refine sx_es ?_
  refine sx_es ?_
  refine sx_out ?_
  refine sx_norm ?_
  refine wp_seq ?_
  refine wp_region_lit ?_
  refine sx_val (by kernel_rfl) rfl rfl (.bool true) (by kernel_rfl) ?_
  refine wpList_nil ?_
  refine sx_norm ?_
  refine wp_ret ?_
  exact sx_ret1 (.bool true) rfl rfl (by kernel_rfl) ⟨ret_bool (allP_end (by omega) hI).symm, HB⟩

end Go.Proofs.Ytoliacfpjhanlaa.T

