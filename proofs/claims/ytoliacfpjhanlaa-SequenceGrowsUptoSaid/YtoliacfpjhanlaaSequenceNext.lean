/-
  DERIVED. SequenceNext: a part of the base of layer 13 (made by pack.py).
-/
import Derived.Test.YtoliacfpjhanlaaSe
import Derived.Test.YtoliacfpjhanlaaUd
import Derived.Test.YtoliacfpjhanlaaSqChk
import Derived.Test.YtoliacfpjhanlaaSqArgs2
import Derived.Test.YtoliacfpjhanlaaSequenceChecks
/-! The specification's Same. -/
namespace Go.Proofs.Ytoliacfpjhanlaa.T
open Go.RowKit
set_option maxRecDepth 8000
attribute [local irreducible] wpList Code.wp wpAnyH

theorem refSame16_n (aa ab : Option Addr) (ca cb pa qa pb qb : Nat) (a b : List (Int × Bool)) (la : a.length ≤ 1000000) (lb : b.length ≤ 1000000) (w : World) (hra : Rw w pa qa 2 (vF a) a.length aa) (hrb : Rw w pb qb 2 (vF b) b.length ab) : Calls Try.prog 16 #[.slice aa a.length ca, .slice ab b.length cb] w fun e w' => e = .returned (.bool (decide (a = b))) ∧ Below w.heap.size w w' := by
  have HB : Below w.heap.size w w := Below.refl _ _
  refine sx_enter Try.func16 rfl [(0, .slice aa a.length ca), (1, .slice ab b.length cb)] (by kernel_rfl) ?_
  refine wp_seq ?_
  refine wp_region_lit ?_
  refine sx_val (by kernel_rfl) rfl rfl (.bool false) (by kernel_rfl) ?_
  refine wpList_nil ?_
  refine sx_norm ?_
  refine wp_seq ?_
  refine wp_seq ?_
  refine wp_region_lit ?_
  refine sx_val (by kernel_rfl) rfl rfl (.slice aa a.length ca) (by kernel_rfl) ?_
  refine sx_val (by kernel_rfl) rfl rfl (.int .i64 ((a.length : Nat) : Int)) (by kernel_rfl) ?_
  refine sx_val (by kernel_rfl) rfl rfl (.slice ab b.length cb) (by kernel_rfl) ?_
  refine sx_val (by kernel_rfl) rfl rfl (.int .i64 ((b.length : Nat) : Int)) (by kernel_rfl) ?_
  by_cases C1 : a.length = b.length
  · refine sx_bool (by kernel_rfl) rfl rfl ((((a.length : Nat) : Int) : Int) != (((b.length : Nat) : Int) : Int)) false (by kernel_rfl) (by rw [bne_eq_false_iff_eq]; omega) ?_
    refine wpList_nil ?_
    refine sx_norm ?_
    refine sx_false (by kernel_rfl) ?_
    refine wp_skip ?_
    refine sx_norm ?_
    refine wp_seq ?_
    refine wp_seq ?_
    refine wp_region_lit ?_
    refine sx_val (by kernel_rfl) rfl rfl (.int .i64 0) (by kernel_rfl) ?_
    refine wpList_nil ?_
    refine sx_norm ?_
    refine wp_block ?_
    refine sx_loop (fun j : Nat => [(0, .slice aa a.length ca), (1, .slice ab b.length cb), (5, .int .i64 ((j : Nat) : Int)), (6, .slice aa a.length ca), (7, .int .i64 ((a.length : Nat) : Int)), (8, .slice ab b.length cb), (9, .int .i64 ((b.length : Nat) : Int)), (10, .bool false)]) (fun gg j wr => j ≤ a.length ∧ a.length - j ≤ gg ∧ a.take j = b.take j ∧ Below w.heap.size w wr) (a.length) (0) (by kernel_rfl) ⟨Nat.zero_le _, Nat.le_refl _, rfl, Below.refl _ _⟩ ?_
    rintro gg j g' wr ⟨hj, hg, hI, hbl⟩
    replace HB := over HB hbl
    have z1 := hbl.size
    have HL := hbl
    clear hbl
    refine wp_seq ?_
    refine wp_seq ?_
    refine wp_region_lit ?_
    refine sx_val (by kernel_rfl) rfl rfl (.int .i64 ((j : Nat) : Int)) (by kernel_rfl) ?_
    refine sx_val (by kernel_rfl) rfl rfl (.slice aa a.length ca) (by kernel_rfl) ?_
    refine sx_val (by kernel_rfl) rfl rfl (.int .i64 ((a.length : Nat) : Int)) (by kernel_rfl) ?_
    by_cases C2 : j < a.length
    · refine sx_bool (by kernel_rfl) rfl rfl (decide (((j : Nat) : Int) < ((a.length : Nat) : Int))) true (by kernel_rfl) (decide_eq_true (by omega)) ?_
      refine wpList_nil ?_
      refine sx_norm ?_
      refine sx_true (by kernel_rfl) ?_
      refine wp_skip ?_
      refine sx_norm ?_
      refine wp_seq ?_
      refine wp_block ?_
      refine wp_seq ?_
      obtain ⟨Y1, hW⟩ : ∃ W, wr.drew = W := ⟨_, rfl⟩
      have hb : Below wr.heap.size wr Y1 := hW ▸ below_drew (Below.refl _ _)
      replace HB := over HB hb
      replace HL := over HL hb
      have z2 := hb.size
      clear hb
      refine sd_begin (fun W => Rw W pa qa 2 (vF a) a.length aa ∧ Rw W pb qb 2 (vF b) b.length ab ∧ True) (by kernel_rfl) (by rw [hW]; exact ⟨(hra.below HB), (hrb.below HB), trivial⟩) ?_
      rw [hW]
      clear hW
      refine sd_take 0 rfl (by kernel_rfl) (by kernel_rfl) (by kernel_rfl) (by kernel_rfl) rfl rfl (.slice aa a.length ca) (fun w9 _ => by kernel_rfl) (fun _ _ _ h => h) ⟨(hra.below HB), (hrb.below HB), trivial⟩ ?_
      refine sd_take 1 rfl (by kernel_rfl) (by kernel_rfl) (by kernel_rfl) (by kernel_rfl) rfl rfl (.int .i64 ((j : Nat) : Int)) (fun w9 _ => by kernel_rfl) (fun _ _ _ h => h) ⟨(hra.below HB), (hrb.below HB), trivial⟩ ?_
      refine sd_take 2 rfl (by kernel_rfl) (by kernel_rfl) (by kernel_rfl) (by kernel_rfl) rfl rfl (.pointer (some ⟨pa, qa + j * 2, none⟩)) (fun w9 h9 => ex_indexO (q := qa) (m := a.length) (c := ca) (k := j) (s := 2) rfl (by kernel_rfl) (h9.1.oa (k := j) (by omega)) (by kernel_rfl) Try.underlying32 (by kernel_rfl) (by omega) (by omega)) (fun _ _ _ h => h) ⟨(hra.below HB), (hrb.below HB), trivial⟩ ?_
      refine sd_take 3 rfl (by kernel_rfl) (by kernel_rfl) (by kernel_rfl) (by kernel_rfl) rfl rfl (.agg #[.int .i64 ((a.getD j (0, false)).1), .bool (a.getD j (0, false)).2]) (fun w9 h9 => ex_loadR rfl (h9.1.range (k := j) (by omega)) (by kernel_rfl) Try.underlying52 rfl (by kernel_rfl)) (fun _ _ _ h => h) ⟨(hra.below HB), (hrb.below HB), trivial⟩ ?_
      refine sd_take 4 rfl (by kernel_rfl) (by kernel_rfl) (by kernel_rfl) (by kernel_rfl) rfl rfl (.slice ab b.length cb) (fun w9 _ => by kernel_rfl) (fun _ _ _ h => h) ⟨(hra.below HB), (hrb.below HB), trivial⟩ ?_
      refine sd_take 5 rfl (by kernel_rfl) (by kernel_rfl) (by kernel_rfl) (by kernel_rfl) rfl rfl (.int .i64 ((j : Nat) : Int)) (fun w9 _ => by kernel_rfl) (fun _ _ _ h => h) ⟨(hra.below HB), (hrb.below HB), trivial⟩ ?_
      refine sd_take 6 rfl (by kernel_rfl) (by kernel_rfl) (by kernel_rfl) (by kernel_rfl) rfl rfl (.pointer (some ⟨pb, qb + j * 2, none⟩)) (fun w9 h9 => ex_indexO (q := qb) (m := b.length) (c := cb) (k := j) (s := 2) rfl (by kernel_rfl) (h9.2.1.oa (k := j) (by omega)) (by kernel_rfl) Try.underlying32 (by kernel_rfl) (by omega) (by omega)) (fun _ _ _ h => h) ⟨(hra.below HB), (hrb.below HB), trivial⟩ ?_
      refine sd_take 7 rfl (by kernel_rfl) (by kernel_rfl) (by kernel_rfl) (by kernel_rfl) rfl rfl (.agg #[.int .i64 ((b.getD j (0, false)).1), .bool (b.getD j (0, false)).2]) (fun w9 h9 => ex_loadR rfl (h9.2.1.range (k := j) (by omega)) (by kernel_rfl) Try.underlying52 rfl (by kernel_rfl)) (fun _ _ _ h => h) ⟨(hra.below HB), (hrb.below HB), trivial⟩ ?_
      by_cases C3 : (a.getD j (0, false)).1 = (b.getD j (0, false)).1 ∧ (a.getD j (0, false)).2 = (b.getD j (0, false)).2
      · refine sd_take 8 rfl (by kernel_rfl) (by kernel_rfl) (by kernel_rfl) (by kernel_rfl) rfl rfl (.bool false) (fun w9 h9 => ex_bool (!((a.getD j (0, false)).1 == (b.getD j (0, false)).1 && (a.getD j (0, false)).2 == (b.getD j (0, false)).2)) false (ex_neqV rfl (by kernel_rfl) (by kernel_rfl)) (by rw [eqv_t C3]; rfl)) (fun _ _ _ h => h) ⟨(hra.below HB), (hrb.below HB), trivial⟩ ?_
        refine sd_done (by kernel_rfl) ?_
        refine sx_norm ?_
        refine sx_false (by kernel_rfl) ?_
        refine wp_skip ?_
        refine sx_in ?_
        refine sx_norm ?_
        refine wp_region_lit ?_
        refine sx_val (by kernel_rfl) rfl rfl (.int .i64 ((j : Nat) : Int)) (by kernel_rfl) ?_
        refine sx_int (by kernel_rfl) rfl rfl .i64 (IntKind.i64.wrap (((j : Nat) : Int) + 1)) (((j + 1 : Nat) : Int)) (by kernel_rfl) (by rw [IntKind.wrap_i64]; omega) ?_
        refine sx_val (by kernel_rfl) rfl rfl (.int .i64 ((j + 1 : Nat) : Int)) (by kernel_rfl) ?_
        refine wpList_nil ?_
        refine sx_norm ?_
        exact sx_again (a.length - (j + 1)) (j + 1) (by omega) (by kernel_rfl) ⟨by omega, Nat.le_refl _, take_same (by omega) (by omega) hI (by assumption), HL⟩
      refine sd_take 8 rfl (by kernel_rfl) (by kernel_rfl) (by kernel_rfl) (by kernel_rfl) rfl rfl (.bool true) (fun w9 h9 => ex_bool (!((a.getD j (0, false)).1 == (b.getD j (0, false)).1 && (a.getD j (0, false)).2 == (b.getD j (0, false)).2)) true (ex_neqV rfl (by kernel_rfl) (by kernel_rfl)) (by rw [eqv_f C3]; rfl)) (fun _ _ _ h => h) ⟨(hra.below HB), (hrb.below HB), trivial⟩ ?_
      refine sd_done (by kernel_rfl) ?_
      refine sx_norm ?_
      refine sx_true (by kernel_rfl) ?_
      refine wp_seq ?_
      refine wp_region_lit ?_
      refine sx_val (by kernel_rfl) rfl rfl (.bool false) (by kernel_rfl) ?_
      refine wpList_nil ?_
      refine sx_norm ?_
      refine wp_ret ?_
      refine sx_rb ?_
      refine sx_rs ?_
      refine sx_rs ?_
      refine sx_rb ?_
      refine sx_rs ?_
      exact sx_ret1 (.bool false) rfl rfl (by kernel_rfl) ⟨ret_bool (decide_eq_false (by first | exact sameL_ne (by assumption) | (intro h9; subst h9; omega))).symm, HB⟩
    refine sx_bool (by kernel_rfl) rfl rfl (decide (((j : Nat) : Int) < ((a.length : Nat) : Int))) false (by kernel_rfl) (decide_eq_false (by omega)) ?_
    refine wpList_nil ?_
    refine sx_norm ?_
    refine sx_false (by kernel_rfl) ?_
    refine wp_exit ?_
    refine sx_es ?_
    refine sx_es ?_
    refine sx_out ?_
    refine sx_norm ?_
    refine wp_seq ?_
    refine wp_region_lit ?_
    refine sx_val (by kernel_rfl) rfl rfl (.bool true) (by kernel_rfl) ?_
    refine wpList_nil ?_
    refine sx_norm ?_
    refine wp_ret ?_
    exact sx_ret1 (.bool true) rfl rfl (by kernel_rfl) ⟨ret_bool (decide_eq_true (take_end (by omega) (by omega) hI)).symm, HB⟩
  refine sx_bool (by kernel_rfl) rfl rfl ((((a.length : Nat) : Int) : Int) != (((b.length : Nat) : Int) : Int)) true (by kernel_rfl) (bne_iff_ne.2 (by omega)) ?_
  refine wpList_nil ?_
  refine sx_norm ?_
  refine sx_true (by kernel_rfl) ?_
  refine wp_seq ?_
  refine wp_region_lit ?_
  refine sx_val (by kernel_rfl) rfl rfl (.bool false) (by kernel_rfl) ?_
  refine wpList_nil ?_
  refine sx_norm ?_
  refine wp_ret ?_
  refine sx_rs ?_
  exact sx_ret1 (.bool false) rfl rfl (by kernel_rfl) ⟨ret_bool (decide_eq_false (by first | exact sameL_ne (by assumption) | (intro h9; subst h9; omega))).symm, HB⟩
end Go.Proofs.Ytoliacfpjhanlaa.T

/-! What can follow, as the specification says. -/
namespace Go.Proofs.Ytoliacfpjhanlaa.T
open Go.RowKit
set_option maxRecDepth 8000

/-- what of an order's visits can follow -/
def nx1 (V l : List (Int × Bool)) (k : Nat) : List (Int × Bool) := if idxV l (V.getD k (0, false)) < 0 ∧ (k = 0 ∨ idxV l (V.getD 0 (0, false)) ≥ 0) then [V.getD k (0, false)] else []
def nxV (V l : List (Int × Bool)) : Nat → List (Int × Bool)
  | 0 => []
  | k + 1 => nxV V l k ++ nx1 V l k
def nxO (z : Int) (ol : List OrT) (be : List (Int × Int)) (l : List (Int × Bool)) (i : Nat) : List (Int × Bool) := if hasR z (i : Int) = true ∧ (ol.getD i or0).off = false ∧ rdyB ol be l i = true then nxV (visR ol i) l (visR ol i).length else []
def nxR (z : Int) (ol : List OrT) (be : List (Int × Int)) (l : List (Int × Bool)) : Nat → List (Int × Bool)
  | 0 => []
  | i + 1 => nxR z ol be l i ++ nxO z ol be l i
theorem nxR_succ (z : Int) (ol : List OrT) (be : List (Int × Int)) (l : List (Int × Bool)) (i : Nat) : nxR z ol be l (i + 1) = nxR z ol be l i ++ nxO z ol be l i := rfl
theorem nxV_succ (V l : List (Int × Bool)) (k : Nat) : nxV V l (k + 1) = nxV V l k ++ nx1 V l k := rfl
theorem nx1_len (V l : List (Int × Bool)) (k : Nat) : (nx1 V l k).length ≤ 1 := by unfold nx1; split <;> simp
theorem nxV_len (V l : List (Int × Bool)) : ∀ k, (nxV V l k).length ≤ k
  | 0 => Nat.le_refl _
  | k + 1 => by unfold nxV; rw [List.length_append]; have := nxV_len V l k; have := nx1_len V l k; omega
theorem nxR_len (z : Int) (ol : List OrT) (be : List (Int × Int)) (l : List (Int × Bool)) : ∀ i, (nxR z ol be l i).length ≤ 2 * i
  | 0 => Nat.le_refl _
  | i + 1 => by
    unfold nxR nxO
    rw [List.length_append]
    have h1 := nxR_len z ol be l i
    split
    · have h2 := nxV_len (visR ol i) l (visR ol i).length
      have h3 := visR_len ol i
      omega
    · simp only [List.length_nil]; omega
end Go.Proofs.Ytoliacfpjhanlaa.T

/-! The specification of sequences: Next (by gen_ug.py). -/
namespace Go.Proofs.Ytoliacfpjhanlaa.T
open Go.RowKit
set_option maxRecDepth 8000
attribute [local irreducible] wpList Code.wp wpAnyH

theorem refNext_n (o0 o1 o2 o3 o4 o5 : Option Addr) (n0 n1 n2 n4 c0 c1 c2 c3 c4 c5 : Nat) (ol : List OrT) (be : List (Int × Int)) (hn : ol.length ≤ 10) (hr : U.Rt ol.length be) (hl : be.length ≤ 1000000) (z : Int) (w : World) (hos : Os w (.slice o3 ol.length c3) ol) (hps : Ps w (.slice o5 be.length c5) be) (l : List (Int × Bool)) (ll : l.length ≤ 1000000) (oa : Option Addr) (c b o : Nat) (hv : Rw w b o 2 (vF l) l.length oa) : Calls Try.prog 18 #[.agg #[.slice o0 n0 c0, .slice o1 n1 c1, .slice o2 n2 c2, .slice o3 ol.length c3, .slice o4 n4 c4, .slice o5 be.length c5], .int .i64 z, .slice oa l.length c] w (VisP (nxR z ol be l ol.length) w) := by
  have HB : Below w.heap.size w w := Below.refl _ _
  obtain ⟨b3, q3, vc, hr16⟩ := hos.rw
  refine sx_enter Try.func18 rfl [(0, .agg #[.slice o0 n0 c0, .slice o1 n1 c1, .slice o2 n2 c2, .slice o3 ol.length c3, .slice o4 n4 c4, .slice o5 be.length c5]), (1, .int .i64 z), (2, .slice oa l.length c)] (by kernel_rfl) ?_
  refine wp_seq ?_
  refine wp_region_lit ?_
  obtain ⟨W1, hW⟩ : ∃ W, w.alloc (.cells #[.slice o0 n0 c0, .slice o1 n1 c1, .slice o2 n2 c2, .slice o3 ol.length c3, .slice o4 n4 c4, .slice o5 be.length c5] 30) = W := ⟨_, rfl⟩
  have hb := hW ▸ below_alloc w (.cells #[.slice o0 n0 c0, .slice o1 n1 c1, .slice o2 n2 c2, .slice o3 ol.length c3, .slice o4 n4 c4, .slice o5 be.length c5] 30)
  have hq : Cb W1 w.heap.size #[.slice o0 n0 c0, .slice o1 n1 c1, .slice o2 n2 c2, .slice o3 ol.length c3, .slice o4 n4 c4, .slice o5 be.length c5] 30 := hW ▸ Cb.made w #[.slice o0 n0 c0, .slice o1 n1 c1, .slice o2 n2 c2, .slice o3 ol.length c3, .slice o4 n4 c4, .slice o5 be.length c5] 30
  refine sx_mem (by kernel_rfl) rfl rfl (.pointer (some ⟨w.heap.size, 0, none⟩)) W1 (by rw [← hW]; kernel_rfl) ?_
  replace HB := over HB hb
  have z1 := hb.size
  have M2 := hq
  have yM2 := hq.lt
  clear hq hb hW
  refine sx_val (by kernel_rfl) rfl rfl (.slice none 0 0) (by kernel_rfl) ?_
  refine wpList_nil ?_
  refine sx_norm ?_
  refine wp_seq ?_
  refine wp_region_lit ?_
  refine sx_val (by kernel_rfl) rfl rfl (.slice none 0 0) (by kernel_rfl) ?_
  refine wpList_nil ?_
  refine sx_norm ?_
  refine wp_seq ?_
  refine wp_seq ?_
  refine wp_region_lit ?_
  refine sx_val (by kernel_rfl) rfl rfl (.int .i64 0) (by kernel_rfl) ?_
  refine wpList_nil ?_
  refine sx_norm ?_
  refine wp_block ?_
  have HG : Gw W1.heap.size W1 (.slice none 0 0) [] := Gw.nil _ _
  refine sx_loop (fun x9 : Nat × Value => [(0, .agg #[.slice o0 n0 c0, .slice o1 n1 c1, .slice o2 n2 c2, .slice o3 ol.length c3, .slice o4 n4 c4, .slice o5 be.length c5]), (1, .int .i64 z), (2, .slice oa l.length c), (3, .pointer (some ⟨w.heap.size, 0, none⟩)), (6, .slice none 0 0), (7, x9.2), (8, .int .i64 ((x9.1 : Nat) : Int))]) (fun gg x9 wr => x9.1 ≤ ol.length ∧ ol.length - x9.1 ≤ gg ∧ Gw W1.heap.size wr x9.2 (nxR z ol be l x9.1) ∧ Below W1.heap.size W1 wr) (ol.length) ((0, .slice none 0 0)) (by kernel_rfl) ⟨Nat.zero_le _, Nat.le_refl _, HG, Below.refl _ _⟩ ?_
  rintro gg ⟨i, v7⟩ g' wr3 ⟨hi, hg, HG, hbl⟩
  dsimp only at hi hg HG hbl
  replace HB := HB.trans (hbl.mono (by omega))
  replace M2 := M2.belowB (by omega) hbl
  have z2 := hbl.size
  have HL := hbl
  clear hbl
  refine wp_seq ?_
  refine wp_seq ?_
  refine wp_region_lit ?_
  refine sx_val (by kernel_rfl) rfl rfl (.int .i64 ((i : Nat) : Int)) (by kernel_rfl) ?_
  refine sx_val (by kernel_rfl) rfl rfl (.pointer (some ⟨w.heap.size, 3, none⟩)) (by kernel_rfl) ?_
  refine sx_val (by kernel_rfl) rfl rfl (.slice o3 ol.length c3) (ex_load1 rfl (M2.cell 3 rfl) (by kernel_rfl) Try.underlying27 rfl) ?_
  refine sx_val (by kernel_rfl) rfl rfl (.int .i64 ((ol.length : Nat) : Int)) (by kernel_rfl) ?_
  by_cases C1 : i < ol.length
  · refine sx_bool (by kernel_rfl) rfl rfl (decide (((i : Nat) : Int) < ((ol.length : Nat) : Int))) true (by kernel_rfl) (decide_eq_true (by omega)) ?_
    refine wpList_nil ?_
    refine sx_norm ?_
    refine sx_true (by kernel_rfl) ?_
    refine wp_skip ?_
    refine sx_norm ?_
    refine wp_seq ?_
    refine wp_block ?_
    refine wp_seq ?_
    refine wp_seq ?_
    have hik : i < ol.length := by omega
    have hvl := visR_len ol i
    refine wp_region_lit ?_
    refine sx_val (by kernel_rfl) rfl rfl (.int .i64 z) (by kernel_rfl) ?_
    refine sx_val (by kernel_rfl) rfl rfl (.int .i64 ((i : Nat) : Int)) (by kernel_rfl) ?_
    by_cases C2 : hasR z ((i : Nat) : Int) = true
    · refine sx_call (by kernel_rfl) rfl rfl ((by have h8 := refHas_n z ((i : Nat) : Int) wr3; rw [show hasR z ((i : Nat) : Int) = true by simpa using C2] at h8; exact h8)) (by kernel_rfl) ?_
      rintro e w9 ⟨rfl, rfl⟩
      refine ⟨_, rfl, ?_⟩
      refine sx_val (by kernel_rfl) rfl rfl (.bool false) (by kernel_rfl) ?_
      refine sx_val (by kernel_rfl) rfl rfl (.bool false) (by kernel_rfl) ?_
      refine sx_val (by kernel_rfl) rfl rfl (.pointer (some ⟨w.heap.size, 3, none⟩)) (by kernel_rfl) ?_
      refine sx_val (by kernel_rfl) rfl rfl (.slice o3 ol.length c3) (ex_load1 rfl (M2.cell 3 rfl) (by kernel_rfl) Try.underlying27 rfl) ?_
      refine sx_val (by kernel_rfl) rfl rfl (.int .i64 ((i : Nat) : Int)) (by kernel_rfl) ?_
      refine sx_val (by kernel_rfl) rfl rfl (.pointer (some ⟨b3, q3 + i * 16, none⟩)) (ex_indexO (q := q3) (m := ol.length) (c := c3) (k := i) (s := 16) rfl (by kernel_rfl) ((hr16.below HB).oa (k := i) (by omega)) (by kernel_rfl) Try.underlying27 (by kernel_rfl) (by omega) (by omega)) ?_
      refine sx_val (by kernel_rfl) rfl rfl (.pointer (some ⟨b3, q3 + i * 16 + 15, none⟩)) (by kernel_rfl) ?_
      by_cases C3 : (ol.getD i or0).off = true
      · refine sx_val (by kernel_rfl) rfl rfl (.bool true) (ex_load1 (v := .bool true) rfl (by have h8 := (hr16.below HB).cell (k := i) (by omega) 15 rfl; rw [show (ol.getD i or0).off = true by simpa using C3] at h8; exact h8) (by kernel_rfl) Try.underlying4 rfl) ?_
        refine sx_val (by kernel_rfl) rfl rfl (.bool true) (by kernel_rfl) ?_
        refine sx_val (by kernel_rfl) rfl rfl (.bool true) (by kernel_rfl) ?_
        refine sx_skip (by kernel_rfl) rfl rfl ?_
        refine sx_skip (by kernel_rfl) rfl rfl ?_
        refine sx_skip (by kernel_rfl) rfl rfl ?_
        refine sx_skip (by kernel_rfl) rfl rfl ?_
        refine sx_skip (by kernel_rfl) rfl rfl ?_
        refine sx_val (by kernel_rfl) rfl rfl (.bool true) (by kernel_rfl) ?_
        refine wpList_nil ?_
        refine sx_norm ?_
        refine sx_true (by kernel_rfl) ?_
        refine wp_exit ?_
        refine sx_es ?_
        refine sx_out ?_
        refine sx_norm ?_
        refine wp_region_lit ?_
        refine sx_val (by kernel_rfl) rfl rfl (.int .i64 ((i : Nat) : Int)) (by kernel_rfl) ?_
        refine sx_int (by kernel_rfl) rfl rfl .i64 (IntKind.i64.wrap (((i : Nat) : Int) + 1)) (((i + 1 : Nat) : Int)) (by kernel_rfl) (by rw [IntKind.wrap_i64]; omega) ?_
        refine sx_val (by kernel_rfl) rfl rfl (.int .i64 ((i + 1 : Nat) : Int)) (by kernel_rfl) ?_
        refine wpList_nil ?_
        refine sx_norm ?_
        refine sx_again (ol.length - (i + 1)) (i + 1, v7) (by omega) (by kernel_rfl) ⟨by show i + 1 ≤ _; omega, Nat.le_refl _, HG.ext ?_, HL⟩
        show _ = nxR z ol be l (i + 1)
        rw [nxR_succ]
        unfold nxO
        rw [if_neg (by rintro ⟨h7, h8, h9⟩; first | exact absurd h7 (by assumption) | exact Bool.noConfusion (h8.symm.trans (by assumption : (ol.getD i or0).off = true)) | exact absurd h9 (by assumption)), List.append_nil]
      refine sx_val (by kernel_rfl) rfl rfl (.bool false) (ex_load1 (v := .bool false) rfl (by have h8 := (hr16.below HB).cell (k := i) (by omega) 15 rfl; rw [show (ol.getD i or0).off = false by simpa using C3] at h8; exact h8) (by kernel_rfl) Try.underlying4 rfl) ?_
      refine sx_val (by kernel_rfl) rfl rfl (.bool false) (by kernel_rfl) ?_
      refine sx_val (by kernel_rfl) rfl rfl (.bool false) (by kernel_rfl) ?_
      refine sx_val (by kernel_rfl) rfl rfl (.agg #[.slice o0 n0 c0, .slice o1 n1 c1, .slice o2 n2 c2, .slice o3 ol.length c3, .slice o4 n4 c4, .slice o5 be.length c5]) (ex_load rfl M2 (by kernel_rfl) Try.underlying30 rfl (by kernel_rfl)) ?_
      refine sx_val (by kernel_rfl) rfl rfl (.int .i64 ((i : Nat) : Int)) (by kernel_rfl) ?_
      refine sx_val (by kernel_rfl) rfl rfl (.slice oa l.length c) (by kernel_rfl) ?_
      by_cases C4 : (rdyB ol be l i) = true
      · refine sx_call (by kernel_rfl) rfl rfl ((by have h8 := refReady_n o0 o1 o2 o3 o4 o5 n0 n1 n2 n4 c0 c1 c2 c3 c4 c5 ol be hn hr hl wr3 (hos.below HB) (hps.below HB) i l ll oa c b o (hv.below HB); rw [show (rdyB ol be l i) = true by simpa using C4] at h8; exact h8)) (by kernel_rfl) ?_
        rintro e W4 ⟨rfl, hb⟩
        replace HB := over HB hb
        replace M2 := M2.below hb
        replace HL := HL.trans (hb.mono (by omega))
        replace HG := HG.frame hb
        have z3 := hb.size
        clear hb
        refine ⟨_, rfl, ?_⟩
        refine sx_val (by kernel_rfl) rfl rfl (.bool false) (by kernel_rfl) ?_
        refine sx_val (by kernel_rfl) rfl rfl (.bool false) (by kernel_rfl) ?_
        refine wpList_nil ?_
        refine sx_norm ?_
        refine sx_false (by kernel_rfl) ?_
        refine wp_skip ?_
        refine sx_norm ?_
        refine wp_seq ?_
        refine wp_region_lit ?_
        refine sx_val (by kernel_rfl) rfl rfl (.agg #[.slice o0 n0 c0, .slice o1 n1 c1, .slice o2 n2 c2, .slice o3 ol.length c3, .slice o4 n4 c4, .slice o5 be.length c5]) (ex_load rfl M2 (by kernel_rfl) Try.underlying30 rfl (by kernel_rfl)) ?_
        refine sx_val (by kernel_rfl) rfl rfl (.int .i64 ((i : Nat) : Int)) (by kernel_rfl) ?_
        have HGz := HG
        refine sx_call (by kernel_rfl) rfl rfl (refVisits_n o0 o1 o2 o3 o4 o5 n0 n1 n2 n4 be.length c0 c1 c2 c3 c4 c5 ol i hik hn W4 (hos.below HB)) (by kernel_rfl) ?_
        rintro e W5 ⟨oa91, c91, rfl, ⟨hvs91, hgv91, -⟩, hb⟩
        replace HB := over HB hb
        replace M2 := M2.below hb
        replace HL := HL.trans (hb.mono (by omega))
        replace HG := HG.frame hb
        have z4 := hb.size
        clear hb
        refine ⟨_, rfl, ?_⟩
        obtain ⟨bv91, qv91, hvr91⟩ := hvs91.rw2
        have hbv91 : ∀ k9, k9 < (visR ol i).length → W4.heap.size ≤ bv91 ∧ bv91 < W5.heap.size := fun k9 hk9 => ⟨hgv91.blk bv91 (by rw [hvr91.oa hk9]; rfl), hvr91.lt hk9⟩
        have hub91 : ∀ b9, Value.ownBlock v7 = some b9 → b9 < W4.heap.size ∨ W5.heap.size ≤ b9 := fun b9 e9 => .inl (by have h8 := Gw.lt HGz e9; omega)
        clear hvs91 hgv91 HGz
        refine sx_val (by kernel_rfl) rfl rfl (.slice oa91 (visR ol i).length c91) (by kernel_rfl) ?_
        refine wpList_nil ?_
        refine sx_norm ?_
        refine wp_seq ?_
        refine wp_region_lit ?_
        refine sx_val (by kernel_rfl) rfl rfl (.int .i64 0) (by kernel_rfl) ?_
        refine wpList_nil ?_
        refine sx_norm ?_
        refine wp_block ?_
        have HG2 : Gw W1.heap.size W5 v7 (nxR z ol be l i ++ nxV (visR ol i) l 0) := HG.ext (List.append_nil _).symm
        refine sx_loop (fun x9 : Nat × Value => [(0, .agg #[.slice o0 n0 c0, .slice o1 n1 c1, .slice o2 n2 c2, .slice o3 ol.length c3, .slice o4 n4 c4, .slice o5 be.length c5]), (1, .int .i64 z), (2, .slice oa l.length c), (3, .pointer (some ⟨w.heap.size, 0, none⟩)), (6, .slice none 0 0), (7, x9.2), (8, .int .i64 ((i : Nat) : Int)), (9, .slice oa91 (visR ol i).length c91), (10, .int .i64 ((x9.1 : Nat) : Int)), (11, .int .i64 ((i : Nat) : Int)), (12, .pointer (some ⟨w.heap.size, 3, none⟩)), (13, .slice o3 ol.length c3), (14, .int .i64 ((ol.length : Nat) : Int)), (15, .bool true), (18, .int .i64 z), (19, .int .i64 ((i : Nat) : Int)), (20, .bool true), (21, .bool false), (22, .bool false), (23, .pointer (some ⟨w.heap.size, 3, none⟩)), (24, .slice o3 ol.length c3), (25, .int .i64 ((i : Nat) : Int)), (26, .pointer (some ⟨b3, q3 + i * 16, none⟩)), (27, .pointer (some ⟨b3, q3 + i * 16 + 15, none⟩)), (28, .bool false), (29, .bool false), (30, .bool false), (31, .agg #[.slice o0 n0 c0, .slice o1 n1 c1, .slice o2 n2 c2, .slice o3 ol.length c3, .slice o4 n4 c4, .slice o5 be.length c5]), (32, .int .i64 ((i : Nat) : Int)), (33, .slice oa l.length c), (34, .bool true), (35, .bool false), (36, .bool false), (37, .agg #[.slice o0 n0 c0, .slice o1 n1 c1, .slice o2 n2 c2, .slice o3 ol.length c3, .slice o4 n4 c4, .slice o5 be.length c5]), (38, .int .i64 ((i : Nat) : Int)), (39, .slice oa91 (visR ol i).length c91)]) (fun gg x9 wr => x9.1 ≤ (visR ol i).length ∧ (visR ol i).length - x9.1 ≤ gg ∧ Gw W1.heap.size wr x9.2 (nxR z ol be l i ++ nxV (visR ol i) l x9.1) ∧ (∀ b9, Value.ownBlock x9.2 = some b9 → b9 < W4.heap.size ∨ W5.heap.size ≤ b9) ∧ Rw wr bv91 qv91 2 (vF (visR ol i)) (visR ol i).length oa91 ∧ Below W1.heap.size W5 wr) ((visR ol i).length) ((0, v7)) (by kernel_rfl) ⟨Nat.zero_le _, Nat.le_refl _, HG2, hub91, hvr91, Below.refl _ _⟩ ?_
        rintro gg ⟨m, u7⟩ g' wr6 ⟨hm, hg2, HG, hub, hvr91, hbl⟩
        dsimp only at hm hg2 HG hub hvr91 hbl
        replace HB := HB.trans (hbl.mono (by omega))
        replace M2 := M2.belowB (by omega) hbl
        replace HL := HL.trans (hbl.mono (by omega))
        have z5 := hbl.size
        have HL2 := hbl
        clear hbl
        refine wp_seq ?_
        refine wp_seq ?_
        refine wp_region_lit ?_
        refine sx_val (by kernel_rfl) rfl rfl (.int .i64 ((m : Nat) : Int)) (by kernel_rfl) ?_
        refine sx_val (by kernel_rfl) rfl rfl (.slice oa91 (visR ol i).length c91) (by kernel_rfl) ?_
        refine sx_val (by kernel_rfl) rfl rfl (.int .i64 (((visR ol i).length : Nat) : Int)) (by kernel_rfl) ?_
        by_cases C5 : m < (visR ol i).length
        · refine sx_bool (by kernel_rfl) rfl rfl (decide (((m : Nat) : Int) < (((visR ol i).length : Nat) : Int))) true (by kernel_rfl) (decide_eq_true (by omega)) ?_
          refine wpList_nil ?_
          refine sx_norm ?_
          refine sx_true (by kernel_rfl) ?_
          refine wp_skip ?_
          refine sx_norm ?_
          refine wp_seq ?_
          refine wp_block ?_
          refine wp_seq ?_
          refine wp_region_lit ?_
          refine sx_val (by kernel_rfl) rfl rfl (.slice oa l.length c) (by kernel_rfl) ?_
          refine sx_val (by kernel_rfl) rfl rfl (.slice oa91 (visR ol i).length c91) (by kernel_rfl) ?_
          refine sx_val (by kernel_rfl) rfl rfl (.int .i64 ((m : Nat) : Int)) (by kernel_rfl) ?_
          refine sx_val (by kernel_rfl) rfl rfl (.pointer (some ⟨bv91, qv91 + m * 2, none⟩)) (ex_indexO (q := qv91) (m := (visR ol i).length) (c := c91) (k := m) (s := 2) rfl (by kernel_rfl) (hvr91.oa (k := m) (by omega)) (by kernel_rfl) Try.underlying32 (by kernel_rfl) (by omega) (by omega)) ?_
          refine sx_val (by kernel_rfl) rfl rfl (.agg #[.int .i64 (((visR ol i).getD m (0, false)).1), .bool ((visR ol i).getD m (0, false)).2]) (ex_loadR rfl (hvr91.range (k := m) (by omega)) (by kernel_rfl) Try.underlying52 rfl (by kernel_rfl)) ?_
          refine sx_call (by kernel_rfl) rfl rfl (refIndex_n ((visR ol i).getD m (0, false)) l ll oa c b o wr6 (hv.below HB)) (by kernel_rfl) ?_
          rintro e W7 ⟨rfl, hb⟩
          replace HB := over HB hb
          replace M2 := M2.below hb
          replace HL := HL.trans (hb.mono (by omega))
          replace HL2 := HL2.trans (hb.mono (by omega))
          replace HG := HG.frame hb
          replace hvr91 := hvr91.below hb
          have z6 := hb.size
          clear hb
          refine ⟨_, rfl, ?_⟩
          by_cases C6 : (idxV l ((visR ol i).getD m (0, false))) < 0
          · refine sx_bool (by kernel_rfl) rfl rfl (decide ((idxV l ((visR ol i).getD m (0, false))) < 0)) true (by kernel_rfl) (decide_eq_true (by omega)) ?_
            refine sx_val (by kernel_rfl) rfl rfl (.bool true) (by kernel_rfl) ?_
            refine sx_val (by kernel_rfl) rfl rfl (.int .i64 ((m : Nat) : Int)) (by kernel_rfl) ?_
            by_cases C7 : m = 0
            · refine sx_bool (by kernel_rfl) rfl rfl ((((m : Nat) : Int) : Int) == (0 : Int)) true (by kernel_rfl) (beq_iff_eq.2 (by omega)) ?_
              refine sx_val (by kernel_rfl) rfl rfl (.bool true) (by kernel_rfl) ?_
              refine sx_skip (by kernel_rfl) rfl rfl ?_
              refine sx_skip (by kernel_rfl) rfl rfl ?_
              refine sx_skip (by kernel_rfl) rfl rfl ?_
              refine sx_skip (by kernel_rfl) rfl rfl ?_
              refine sx_skip (by kernel_rfl) rfl rfl ?_
              refine sx_skip (by kernel_rfl) rfl rfl ?_
              refine sx_val (by kernel_rfl) rfl rfl (.bool true) (by kernel_rfl) ?_
              refine sx_val (by kernel_rfl) rfl rfl (.bool true) (by kernel_rfl) ?_
              refine wpList_nil ?_
              refine sx_norm ?_
              refine sx_true (by kernel_rfl) ?_
              refine wp_region_lit ?_
              refine sx_val (by kernel_rfl) rfl rfl (u7) (by kernel_rfl) ?_
              refine sx_val (by kernel_rfl) rfl rfl (.slice oa91 (visR ol i).length c91) (by kernel_rfl) ?_
              refine sx_val (by kernel_rfl) rfl rfl (.int .i64 ((m : Nat) : Int)) (by kernel_rfl) ?_
              refine sx_val (by kernel_rfl) rfl rfl (.pointer (some ⟨bv91, qv91 + m * 2, none⟩)) (ex_indexO (q := qv91) (m := (visR ol i).length) (c := c91) (k := m) (s := 2) rfl (by kernel_rfl) (hvr91.oa (k := m) (by omega)) (by kernel_rfl) Try.underlying32 (by kernel_rfl) (by omega) (by omega)) ?_
              refine sx_val (by kernel_rfl) rfl rfl (.agg #[.int .i64 (((visR ol i).getD m (0, false)).1), .bool ((visR ol i).getD m (0, false)).2]) (ex_loadR rfl (hvr91.range (k := m) (by omega)) (by kernel_rfl) Try.underlying52 rfl (by kernel_rfl)) ?_
              obtain ⟨W8, hW⟩ : ∃ W, W7.alloc (.cells #[.int .i64 (((visR ol i).getD m (0, false)).1), .bool ((visR ol i).getD m (0, false)).2] 52) = W := ⟨_, rfl⟩
              have hb := hW ▸ below_alloc W7 (.cells #[.int .i64 (((visR ol i).getD m (0, false)).1), .bool ((visR ol i).getD m (0, false)).2] 52)
              have hq : Cb W8 W7.heap.size #[.int .i64 (((visR ol i).getD m (0, false)).1), .bool ((visR ol i).getD m (0, false)).2] 52 := hW ▸ Cb.made W7 #[.int .i64 (((visR ol i).getD m (0, false)).1), .bool ((visR ol i).getD m (0, false)).2] 52
              refine sx_mem (by kernel_rfl) rfl rfl (.slice (some ⟨W7.heap.size, 0, none⟩) 1 1) W8 (by rw [← hW]; kernel_rfl) ?_
              replace HB := over HB hb
              replace M2 := M2.below hb
              replace HL := HL.trans (hb.mono (by omega))
              replace HL2 := HL2.trans (hb.mono (by omega))
              replace HG := HG.frame hb
              replace hvr91 := hvr91.below hb
              have z7 := hb.size
              have M9 := hq
              have yM9 := hq.lt
              clear hq hb hW
              obtain ⟨v10, W11, h12, hg9, hb, hgr, hown⟩ := ap_w 32 HG (lw_cb M9) (by omega) (by have h8 := nxR_len z ol be l i; have h7 := nxV_len (visR ol i) l m; simp only [List.length_append, List.length_cons, List.length_nil]; omega)
              have hvk := hvr91.grownO hgr (fun k9 hk9 e9 => by have h8 := hbv91 k9 hk9; have h7 := hub _ e9; omega)
              have hub2 : ∀ b9, Value.ownBlock v10 = some b9 → b9 < W4.heap.size ∨ W5.heap.size ≤ b9 := fun b9 e9 => by
                rcases hown with h8 | h8
                · exact hub b9 (h8 ▸ e9)
                · rw [h8] at e9; simp only [Option.some.injEq] at e9; omega
              replace hub := hub2
              clear hub2 hown
              refine sx_mem (by kernel_rfl) rfl rfl v10 W11 (ex_append rfl (by kernel_rfl) (by kernel_rfl) h12) ?_
              replace HB := HB.trans (hb.mono (by omega))
              replace M2 := M2.belowB (by omega) hb
              replace HL := HL.trans (hb.mono (by omega))
              replace HL2 := HL2.trans (hb.mono (by omega))
              have z8 := hb.size
              have HG := hg9
              clear hg9 hb hgr h12
              have hvr91 := hvk
              clear hvk
              refine sx_val (by kernel_rfl) rfl rfl (v10) (by kernel_rfl) ?_
              refine wpList_nil ?_
              refine sx_in ?_
              refine sx_norm ?_
              refine wp_region_lit ?_
              refine sx_val (by kernel_rfl) rfl rfl (.int .i64 ((m : Nat) : Int)) (by kernel_rfl) ?_
              refine sx_int (by kernel_rfl) rfl rfl .i64 (IntKind.i64.wrap (((m : Nat) : Int) + 1)) (((m + 1 : Nat) : Int)) (by kernel_rfl) (by rw [IntKind.wrap_i64]; omega) ?_
              refine sx_val (by kernel_rfl) rfl rfl (.int .i64 ((m + 1 : Nat) : Int)) (by kernel_rfl) ?_
              refine wpList_nil ?_
              refine sx_norm ?_
              refine sx_again ((visR ol i).length - (m + 1)) (m + 1, v10) (by omega) (by kernel_rfl) ⟨by show m + 1 ≤ _; omega, Nat.le_refl _, HG.ext ?_, hub, hvr91, HL2⟩
              show _ = nxR z ol be l i ++ nxV (visR ol i) l (m + 1)
              rw [nxV_succ]
              unfold nx1
              rw [if_pos ⟨by assumption, by first | exact .inl (by omega) | exact .inr (by omega)⟩, List.append_assoc]
            refine sx_bool (by kernel_rfl) rfl rfl ((((m : Nat) : Int) : Int) == (0 : Int)) false (by kernel_rfl) (beq_eq_false_iff_ne.2 (by omega)) ?_
            refine sx_val (by kernel_rfl) rfl rfl (.bool false) (by kernel_rfl) ?_
            refine sx_val (by kernel_rfl) rfl rfl (.slice oa l.length c) (by kernel_rfl) ?_
            refine sx_val (by kernel_rfl) rfl rfl (.slice oa91 (visR ol i).length c91) (by kernel_rfl) ?_
            refine sx_val (by kernel_rfl) rfl rfl (.pointer (some ⟨bv91, qv91 + 0 * 2, none⟩)) (ex_indexO (q := qv91) (m := (visR ol i).length) (c := c91) (k := 0) (s := 2) rfl (by kernel_rfl) (hvr91.oa (k := 0) (by omega)) (by kernel_rfl) Try.underlying32 (by kernel_rfl) (by omega) (by omega)) ?_
            refine sx_val (by kernel_rfl) rfl rfl (.agg #[.int .i64 (((visR ol i).getD 0 (0, false)).1), .bool ((visR ol i).getD 0 (0, false)).2]) (ex_loadR rfl (hvr91.range (k := 0) (by omega)) (by kernel_rfl) Try.underlying52 rfl (by kernel_rfl)) ?_
            refine sx_call (by kernel_rfl) rfl rfl (refIndex_n ((visR ol i).getD 0 (0, false)) l ll oa c b o W7 (hv.below HB)) (by kernel_rfl) ?_
            rintro e W13 ⟨rfl, hb⟩
            replace HB := over HB hb
            replace M2 := M2.below hb
            replace HL := HL.trans (hb.mono (by omega))
            replace HL2 := HL2.trans (hb.mono (by omega))
            replace HG := HG.frame hb
            replace hvr91 := hvr91.below hb
            have z7 := hb.size
            clear hb
            refine ⟨_, rfl, ?_⟩
            by_cases C8 : (idxV l ((visR ol i).getD 0 (0, false))) ≥ 0
            · refine sx_bool (by kernel_rfl) rfl rfl (decide ((idxV l ((visR ol i).getD 0 (0, false))) ≥ 0)) true (by kernel_rfl) (decide_eq_true (by omega)) ?_
              refine sx_val (by kernel_rfl) rfl rfl (.bool true) (by kernel_rfl) ?_
              refine sx_val (by kernel_rfl) rfl rfl (.bool true) (by kernel_rfl) ?_
              refine wpList_nil ?_
              refine sx_norm ?_
              refine sx_true (by kernel_rfl) ?_
              refine wp_region_lit ?_
              refine sx_val (by kernel_rfl) rfl rfl (u7) (by kernel_rfl) ?_
              refine sx_val (by kernel_rfl) rfl rfl (.slice oa91 (visR ol i).length c91) (by kernel_rfl) ?_
              refine sx_val (by kernel_rfl) rfl rfl (.int .i64 ((m : Nat) : Int)) (by kernel_rfl) ?_
              refine sx_val (by kernel_rfl) rfl rfl (.pointer (some ⟨bv91, qv91 + m * 2, none⟩)) (ex_indexO (q := qv91) (m := (visR ol i).length) (c := c91) (k := m) (s := 2) rfl (by kernel_rfl) (hvr91.oa (k := m) (by omega)) (by kernel_rfl) Try.underlying32 (by kernel_rfl) (by omega) (by omega)) ?_
              refine sx_val (by kernel_rfl) rfl rfl (.agg #[.int .i64 (((visR ol i).getD m (0, false)).1), .bool ((visR ol i).getD m (0, false)).2]) (ex_loadR rfl (hvr91.range (k := m) (by omega)) (by kernel_rfl) Try.underlying52 rfl (by kernel_rfl)) ?_
              obtain ⟨W14, hW⟩ : ∃ W, W13.alloc (.cells #[.int .i64 (((visR ol i).getD m (0, false)).1), .bool ((visR ol i).getD m (0, false)).2] 52) = W := ⟨_, rfl⟩
              have hb := hW ▸ below_alloc W13 (.cells #[.int .i64 (((visR ol i).getD m (0, false)).1), .bool ((visR ol i).getD m (0, false)).2] 52)
              have hq : Cb W14 W13.heap.size #[.int .i64 (((visR ol i).getD m (0, false)).1), .bool ((visR ol i).getD m (0, false)).2] 52 := hW ▸ Cb.made W13 #[.int .i64 (((visR ol i).getD m (0, false)).1), .bool ((visR ol i).getD m (0, false)).2] 52
              refine sx_mem (by kernel_rfl) rfl rfl (.slice (some ⟨W13.heap.size, 0, none⟩) 1 1) W14 (by rw [← hW]; kernel_rfl) ?_
              replace HB := over HB hb
              replace M2 := M2.below hb
              replace HL := HL.trans (hb.mono (by omega))
              replace HL2 := HL2.trans (hb.mono (by omega))
              replace HG := HG.frame hb
              replace hvr91 := hvr91.below hb
              have z8 := hb.size
              have M15 := hq
              have yM15 := hq.lt
              clear hq hb hW
              obtain ⟨v16, W17, h18, hg9, hb, hgr, hown⟩ := ap_w 32 HG (lw_cb M15) (by omega) (by have h8 := nxR_len z ol be l i; have h7 := nxV_len (visR ol i) l m; simp only [List.length_append, List.length_cons, List.length_nil]; omega)
              have hvk := hvr91.grownO hgr (fun k9 hk9 e9 => by have h8 := hbv91 k9 hk9; have h7 := hub _ e9; omega)
              have hub2 : ∀ b9, Value.ownBlock v16 = some b9 → b9 < W4.heap.size ∨ W5.heap.size ≤ b9 := fun b9 e9 => by
                rcases hown with h8 | h8
                · exact hub b9 (h8 ▸ e9)
                · rw [h8] at e9; simp only [Option.some.injEq] at e9; omega
              replace hub := hub2
              clear hub2 hown
              refine sx_mem (by kernel_rfl) rfl rfl v16 W17 (ex_append rfl (by kernel_rfl) (by kernel_rfl) h18) ?_
              replace HB := HB.trans (hb.mono (by omega))
              replace M2 := M2.belowB (by omega) hb
              replace HL := HL.trans (hb.mono (by omega))
              replace HL2 := HL2.trans (hb.mono (by omega))
              have z9 := hb.size
              have HG := hg9
              clear hg9 hb hgr h18
              have hvr91 := hvk
              clear hvk
              refine sx_val (by kernel_rfl) rfl rfl (v16) (by kernel_rfl) ?_
              refine wpList_nil ?_
              refine sx_in ?_
              refine sx_norm ?_
              refine wp_region_lit ?_
              refine sx_val (by kernel_rfl) rfl rfl (.int .i64 ((m : Nat) : Int)) (by kernel_rfl) ?_
              refine sx_int (by kernel_rfl) rfl rfl .i64 (IntKind.i64.wrap (((m : Nat) : Int) + 1)) (((m + 1 : Nat) : Int)) (by kernel_rfl) (by rw [IntKind.wrap_i64]; omega) ?_
              refine sx_val (by kernel_rfl) rfl rfl (.int .i64 ((m + 1 : Nat) : Int)) (by kernel_rfl) ?_
              refine wpList_nil ?_
              refine sx_norm ?_
              refine sx_again ((visR ol i).length - (m + 1)) (m + 1, v16) (by omega) (by kernel_rfl) ⟨by show m + 1 ≤ _; omega, Nat.le_refl _, HG.ext ?_, hub, hvr91, HL2⟩
              show _ = nxR z ol be l i ++ nxV (visR ol i) l (m + 1)
              rw [nxV_succ]
              unfold nx1
              rw [if_pos ⟨by assumption, by first | exact .inl (by omega) | exact .inr (by omega)⟩, List.append_assoc]
            refine sx_bool (by kernel_rfl) rfl rfl (decide ((idxV l ((visR ol i).getD 0 (0, false))) ≥ 0)) false (by kernel_rfl) (decide_eq_false (by omega)) ?_
            refine sx_val (by kernel_rfl) rfl rfl (.bool false) (by kernel_rfl) ?_
            refine sx_val (by kernel_rfl) rfl rfl (.bool false) (by kernel_rfl) ?_
            refine wpList_nil ?_
            refine sx_norm ?_
            refine sx_false (by kernel_rfl) ?_
            refine wp_skip ?_
            refine sx_in ?_
            refine sx_norm ?_
            refine wp_region_lit ?_
            refine sx_val (by kernel_rfl) rfl rfl (.int .i64 ((m : Nat) : Int)) (by kernel_rfl) ?_
            refine sx_int (by kernel_rfl) rfl rfl .i64 (IntKind.i64.wrap (((m : Nat) : Int) + 1)) (((m + 1 : Nat) : Int)) (by kernel_rfl) (by rw [IntKind.wrap_i64]; omega) ?_
            refine sx_val (by kernel_rfl) rfl rfl (.int .i64 ((m + 1 : Nat) : Int)) (by kernel_rfl) ?_
            refine wpList_nil ?_
            refine sx_norm ?_
            refine sx_again ((visR ol i).length - (m + 1)) (m + 1, u7) (by omega) (by kernel_rfl) ⟨by show m + 1 ≤ _; omega, Nat.le_refl _, HG.ext ?_, hub, hvr91, HL2⟩
            show _ = nxR z ol be l i ++ nxV (visR ol i) l (m + 1)
            rw [nxV_succ]
            unfold nx1
            rw [if_neg (by rintro ⟨h8, h9 | h9⟩ <;> omega), List.append_nil]
          refine sx_bool (by kernel_rfl) rfl rfl (decide ((idxV l ((visR ol i).getD m (0, false))) < 0)) false (by kernel_rfl) (decide_eq_false (by omega)) ?_
          refine sx_val (by kernel_rfl) rfl rfl (.bool false) (by kernel_rfl) ?_
          refine sx_skip (by kernel_rfl) rfl rfl ?_
          refine sx_skip (by kernel_rfl) rfl rfl ?_
          refine sx_skip (by kernel_rfl) rfl rfl ?_
          refine sx_skip (by kernel_rfl) rfl rfl ?_
          refine sx_skip (by kernel_rfl) rfl rfl ?_
          refine sx_skip (by kernel_rfl) rfl rfl ?_
          refine sx_skip (by kernel_rfl) rfl rfl ?_
          refine sx_skip (by kernel_rfl) rfl rfl ?_
          refine sx_skip (by kernel_rfl) rfl rfl ?_
          refine sx_skip (by kernel_rfl) rfl rfl ?_
          refine sx_val (by kernel_rfl) rfl rfl (.bool false) (by kernel_rfl) ?_
          refine wpList_nil ?_
          refine sx_norm ?_
          refine sx_false (by kernel_rfl) ?_
          refine wp_skip ?_
          refine sx_in ?_
          refine sx_norm ?_
          refine wp_region_lit ?_
          refine sx_val (by kernel_rfl) rfl rfl (.int .i64 ((m : Nat) : Int)) (by kernel_rfl) ?_
          refine sx_int (by kernel_rfl) rfl rfl .i64 (IntKind.i64.wrap (((m : Nat) : Int) + 1)) (((m + 1 : Nat) : Int)) (by kernel_rfl) (by rw [IntKind.wrap_i64]; omega) ?_
          refine sx_val (by kernel_rfl) rfl rfl (.int .i64 ((m + 1 : Nat) : Int)) (by kernel_rfl) ?_
          refine wpList_nil ?_
          refine sx_norm ?_
          refine sx_again ((visR ol i).length - (m + 1)) (m + 1, u7) (by omega) (by kernel_rfl) ⟨by show m + 1 ≤ _; omega, Nat.le_refl _, HG.ext ?_, hub, hvr91, HL2⟩
          show _ = nxR z ol be l i ++ nxV (visR ol i) l (m + 1)
          rw [nxV_succ]
          unfold nx1
          rw [if_neg (by rintro ⟨h8, h9 | h9⟩ <;> omega), List.append_nil]
        refine sx_bool (by kernel_rfl) rfl rfl (decide (((m : Nat) : Int) < (((visR ol i).length : Nat) : Int))) false (by kernel_rfl) (decide_eq_false (by omega)) ?_
        refine wpList_nil ?_
        refine sx_norm ?_
        refine sx_false (by kernel_rfl) ?_
        refine wp_exit ?_
        refine sx_es ?_
        refine sx_es ?_
        refine sx_out ?_
        refine sx_in ?_
        refine sx_norm ?_
        refine wp_region_lit ?_
        refine sx_val (by kernel_rfl) rfl rfl (.int .i64 ((i : Nat) : Int)) (by kernel_rfl) ?_
        refine sx_int (by kernel_rfl) rfl rfl .i64 (IntKind.i64.wrap (((i : Nat) : Int) + 1)) (((i + 1 : Nat) : Int)) (by kernel_rfl) (by rw [IntKind.wrap_i64]; omega) ?_
        refine sx_val (by kernel_rfl) rfl rfl (.int .i64 ((i + 1 : Nat) : Int)) (by kernel_rfl) ?_
        refine wpList_nil ?_
        refine sx_norm ?_
        refine sx_again (ol.length - (i + 1)) (i + 1, u7) (by omega) (by kernel_rfl) ⟨by show i + 1 ≤ _; omega, Nat.le_refl _, HG.ext ?_, HL⟩
        show _ = nxR z ol be l (i + 1)
        rw [nxR_succ]
        unfold nxO
        rw [if_pos ⟨by assumption, by simpa using (by assumption : ¬ (ol.getD i or0).off = true), by assumption⟩, show m = (visR ol i).length by omega]
      refine sx_call (by kernel_rfl) rfl rfl ((by have h8 := refReady_n o0 o1 o2 o3 o4 o5 n0 n1 n2 n4 c0 c1 c2 c3 c4 c5 ol be hn hr hl wr3 (hos.below HB) (hps.below HB) i l ll oa c b o (hv.below HB); rw [show (rdyB ol be l i) = false by simpa using C4] at h8; exact h8)) (by kernel_rfl) ?_
      rintro e W19 ⟨rfl, hb⟩
      replace HB := over HB hb
      replace M2 := M2.below hb
      replace HL := HL.trans (hb.mono (by omega))
      replace HG := HG.frame hb
      have z3 := hb.size
      clear hb
      refine ⟨_, rfl, ?_⟩
      refine sx_val (by kernel_rfl) rfl rfl (.bool true) (by kernel_rfl) ?_
      refine sx_val (by kernel_rfl) rfl rfl (.bool true) (by kernel_rfl) ?_
      refine wpList_nil ?_
      refine sx_norm ?_
      refine sx_true (by kernel_rfl) ?_
      refine wp_exit ?_
      refine sx_es ?_
      refine sx_out ?_
      refine sx_norm ?_
      refine wp_region_lit ?_
      refine sx_val (by kernel_rfl) rfl rfl (.int .i64 ((i : Nat) : Int)) (by kernel_rfl) ?_
      refine sx_int (by kernel_rfl) rfl rfl .i64 (IntKind.i64.wrap (((i : Nat) : Int) + 1)) (((i + 1 : Nat) : Int)) (by kernel_rfl) (by rw [IntKind.wrap_i64]; omega) ?_
      refine sx_val (by kernel_rfl) rfl rfl (.int .i64 ((i + 1 : Nat) : Int)) (by kernel_rfl) ?_
      refine wpList_nil ?_
      refine sx_norm ?_
      refine sx_again (ol.length - (i + 1)) (i + 1, v7) (by omega) (by kernel_rfl) ⟨by show i + 1 ≤ _; omega, Nat.le_refl _, HG.ext ?_, HL⟩
      show _ = nxR z ol be l (i + 1)
      rw [nxR_succ]
      unfold nxO
      rw [if_neg (by rintro ⟨h7, h8, h9⟩; first | exact absurd h7 (by assumption) | exact Bool.noConfusion (h8.symm.trans (by assumption : (ol.getD i or0).off = true)) | exact absurd h9 (by assumption)), List.append_nil]
    refine sx_call (by kernel_rfl) rfl rfl ((by have h8 := refHas_n z ((i : Nat) : Int) wr3; rw [show hasR z ((i : Nat) : Int) = false by simpa using C2] at h8; exact h8)) (by kernel_rfl) ?_
    rintro e w9 ⟨rfl, rfl⟩
    refine ⟨_, rfl, ?_⟩
    refine sx_val (by kernel_rfl) rfl rfl (.bool true) (by kernel_rfl) ?_
    refine sx_val (by kernel_rfl) rfl rfl (.bool true) (by kernel_rfl) ?_
    refine sx_skip (by kernel_rfl) rfl rfl ?_
    refine sx_skip (by kernel_rfl) rfl rfl ?_
    refine sx_skip (by kernel_rfl) rfl rfl ?_
    refine sx_skip (by kernel_rfl) rfl rfl ?_
    refine sx_skip (by kernel_rfl) rfl rfl ?_
    refine sx_skip (by kernel_rfl) rfl rfl ?_
    refine sx_val (by kernel_rfl) rfl rfl (.bool true) (by kernel_rfl) ?_
    refine sx_val (by kernel_rfl) rfl rfl (.bool true) (by kernel_rfl) ?_
    refine sx_skip (by kernel_rfl) rfl rfl ?_
    refine sx_skip (by kernel_rfl) rfl rfl ?_
    refine sx_skip (by kernel_rfl) rfl rfl ?_
    refine sx_skip (by kernel_rfl) rfl rfl ?_
    refine sx_skip (by kernel_rfl) rfl rfl ?_
    refine sx_val (by kernel_rfl) rfl rfl (.bool true) (by kernel_rfl) ?_
    refine wpList_nil ?_
    refine sx_norm ?_
    refine sx_true (by kernel_rfl) ?_
    refine wp_exit ?_
    refine sx_es ?_
    refine sx_out ?_
    refine sx_norm ?_
    refine wp_region_lit ?_
    refine sx_val (by kernel_rfl) rfl rfl (.int .i64 ((i : Nat) : Int)) (by kernel_rfl) ?_
    refine sx_int (by kernel_rfl) rfl rfl .i64 (IntKind.i64.wrap (((i : Nat) : Int) + 1)) (((i + 1 : Nat) : Int)) (by kernel_rfl) (by rw [IntKind.wrap_i64]; omega) ?_
    refine sx_val (by kernel_rfl) rfl rfl (.int .i64 ((i + 1 : Nat) : Int)) (by kernel_rfl) ?_
    refine wpList_nil ?_
    refine sx_norm ?_
    refine sx_again (ol.length - (i + 1)) (i + 1, v7) (by omega) (by kernel_rfl) ⟨by show i + 1 ≤ _; omega, Nat.le_refl _, HG.ext ?_, HL⟩
    show _ = nxR z ol be l (i + 1)
    rw [nxR_succ]
    unfold nxO
    rw [if_neg (by rintro ⟨h7, h8, h9⟩; first | exact absurd h7 (by assumption) | exact Bool.noConfusion (h8.symm.trans (by assumption : (ol.getD i or0).off = true)) | exact absurd h9 (by assumption)), List.append_nil]
  refine sx_bool (by kernel_rfl) rfl rfl (decide (((i : Nat) : Int) < ((ol.length : Nat) : Int))) false (by kernel_rfl) (decide_eq_false (by omega)) ?_
  refine wpList_nil ?_
  refine sx_norm ?_
  refine sx_false (by kernel_rfl) ?_
  refine wp_exit ?_
  refine sx_es ?_
  refine sx_es ?_
  refine sx_out ?_
  refine sx_norm ?_
  refine wp_seq ?_
  refine wp_region_lit ?_
  refine sx_val (by kernel_rfl) rfl rfl (v7) (by kernel_rfl) ?_
  refine sx_val (by kernel_rfl) rfl rfl (v7) (by kernel_rfl) ?_
  refine wpList_nil ?_
  refine sx_norm ?_
  refine wp_ret ?_
  have hi9 : i = ol.length := by omega
  rw [hi9] at HG
  exact sx_ret1 v7 rfl rfl (by kernel_rfl) (visP HG HB (by omega))

end Go.Proofs.Ytoliacfpjhanlaa.T

/-! The visits that can follow are the specification's. -/
namespace Go.Proofs.Ytoliacfpjhanlaa.T
open Go.RowKit
set_option maxRecDepth 8000

theorem and_zero (a b : Nat) : a &&& b = 0 ↔ ∀ k, S.has a k = true → S.has b k = false := by
  constructor
  · intro h k h1
    cases h2 : S.has b k
    · rfl
    · have h3 : Nat.testBit (a &&& b) k = true := by rw [Nat.testBit_and, ← U.has_bit, ← U.has_bit, h1, h2]; rfl
      rw [h, Nat.zero_testBit] at h3
      cases h3
  · intro h
    apply Nat.eq_of_testBit_eq
    intro k
    rw [Nat.testBit_and, Nat.zero_testBit, ← U.has_bit, ← U.has_bit]
    cases h1 : S.has a k
    · rfl
    · rw [h k h1]; rfl
theorem has_wWK (z : Int) (ol : List OrT) (i : Nat) : ∀ k, S.has (wWK z ol k) i = (decide (i < k) && (hasZ z i && !(ol.getD i or0).off))
  | 0 => by
    have : wWK z ol 0 = 0 := rfl
    rw [this, U.has_zero, decide_eq_false (Nat.not_lt_zero i)]
    rfl
  | k + 1 => by
    have ih := has_wWK z ol i k
    unfold wWK
    by_cases e : i = k
    · subst e
      rw [decide_eq_false (Nat.lt_irrefl i), Bool.false_and] at ih
      rw [decide_eq_true (Nat.lt_succ_self i), Bool.true_and]
      split
      · rename_i h
        rw [U.has_or, ih, U.has_pow, decide_eq_true rfl, h.1, h.2]
        rfl
      · rename_i h
        rw [ih]
        cases h1 : hasZ z i
        · rfl
        · cases h2 : (ol.getD i or0).off
          · exact absurd ⟨h1, h2⟩ h
          · rfl
    · have e2 : decide (i < k + 1) = decide (i < k) := by
        rw [decide_eq_decide]; omega
      rw [e2]
      split
      · rw [U.has_or, ih, U.has_pow, decide_eq_false e, Bool.or_false]
      · exact ih
theorem has_foldP (i : Nat) : ∀ (V : List (Int × Bool)) (p : Nat × Nat), S.has (V.foldl withP p).1 i = (S.has p.1 i || V.any fun v => !v.2 && decide (i = v.1.toNat)) ∧ S.has (V.foldl withP p).2 i = (S.has p.2 i || V.any fun v => v.2 && decide (i = v.1.toNat))
  | [], p => ⟨by simp, by simp⟩
  | v :: V, p => by
    have ih := has_foldP i V (withP p v)
    rw [List.foldl_cons, List.any_cons, List.any_cons, ih.1, ih.2]
    unfold withP
    cases h : v.2
    · rw [if_neg (by decide)]
      simp only [U.has_or, U.has_pow, Bool.not_false, Bool.true_and, Bool.false_and, Bool.false_or, Bool.or_assoc, and_self]
    · rw [if_pos rfl]
      simp only [U.has_or, U.has_pow, Bool.not_true, Bool.true_and, Bool.false_and, Bool.false_or, Bool.or_assoc, and_self]
theorem any_num {ol : List OrT} {k i : Nat} (b : Bool) : ((visL ol (k : Int)).any fun v => (v.2 == b) && decide (i = v.1.toNat)) = (decide (i = k) && decide (((k : Int), b) ∈ visL ol (k : Int))) := by
  rw [Bool.eq_iff_iff, List.any_eq_true, Bool.and_eq_true, decide_eq_true_iff, decide_eq_true_iff]
  constructor
  · rintro ⟨v, hv, h⟩
    rw [Bool.and_eq_true, beq_iff_eq, decide_eq_true_iff] at h
    have hn := vis_num ol k v hv
    have e : ((k : Int), b) = v := Prod.ext hn.symm h.1.symm
    refine ⟨by rw [h.2, hn]; simp, ?_⟩
    rw [e]
    exact hv
  · rintro ⟨h1, h2⟩
    exact ⟨_, h2, by rw [h1]; simp⟩
theorem has_wPK (ol : List OrT) (i : Nat) : ∀ k, S.has (wPK ol k).1 i = (decide (i < k) && decide (((i : Int), false) ∈ visL ol (i : Int))) ∧ S.has (wPK ol k).2 i = (decide (i < k) && decide (((i : Int), true) ∈ visL ol (i : Int)))
  | 0 => by
    have e : wPK ol 0 = (0, 0) := rfl
    rw [e, U.has_zero, decide_eq_false (Nat.not_lt_zero i)]
    exact ⟨rfl, rfl⟩
  | k + 1 => by
    have ih := has_wPK ol i k
    have e : wPK ol (k + 1) = (visL ol (k : Int)).foldl withP (wPK ol k) := rfl
    have f1 : ((visL ol (k : Int)).any fun v => !v.2 && decide (i = v.1.toNat)) = (decide (i = k) && decide (((k : Int), false) ∈ visL ol (k : Int))) := by
      rw [← any_num false]
      congr 1
      funext v
      cases v.2 <;> rfl
    have f2 : ((visL ol (k : Int)).any fun v => v.2 && decide (i = v.1.toNat)) = (decide (i = k) && decide (((k : Int), true) ∈ visL ol (k : Int))) := by
      rw [← any_num true]
      congr 1
      funext v
      cases v.2 <;> rfl
    have hf := has_foldP i (visL ol (k : Int)) (wPK ol k)
    rw [e, hf.1, hf.2, ih.1, ih.2, f1, f2]
    by_cases e1 : i = k
    · subst e1
      rw [decide_eq_false (Nat.lt_irrefl i), decide_eq_true rfl, decide_eq_true (Nat.lt_succ_self i)]
      simp
    · have e2 : decide (i < k + 1) = decide (i < k) := by
        rw [decide_eq_decide]; omega
      rw [e2, decide_eq_false e1]
      simp
theorem has_foldD (i : Nat) : ∀ (l : List (Int × Bool)) (p : Nat × Nat), S.has (l.foldl stepD p).1 i = (S.has p.1 i || l.any fun v => num62 v.1 && (!v.2 && decide (i = v.1.toNat))) ∧ S.has (l.foldl stepD p).2 i = (S.has p.2 i || l.any fun v => num62 v.1 && (v.2 && decide (i = v.1.toNat)))
  | [], p => ⟨by simp, by simp⟩
  | v :: l, p => by
    have ih := has_foldD i l (stepD p v)
    rw [List.foldl_cons, List.any_cons, List.any_cons, ih.1, ih.2]
    unfold stepD
    cases h : num62 v.1
    · rw [if_neg (by decide)]
      simp
    · rw [if_pos rfl]
      unfold withP
      cases h : v.2
      · rw [if_neg (by decide)]
        simp only [U.has_or, U.has_pow, Bool.not_false, Bool.true_and, Bool.false_and, Bool.false_or, Bool.or_assoc, and_self]
      · rw [if_pos rfl]
        simp only [U.has_or, U.has_pow, Bool.not_true, Bool.true_and, Bool.false_and, Bool.false_or, Bool.or_assoc, and_self]
theorem has_done {l : List (Int × Bool)} {i : Nat} (hi : i ≤ 62) : S.has (doneL l).1 i = decide (((i : Int), false) ∈ l) ∧ S.has (doneL l).2 i = decide (((i : Int), true) ∈ l) := by
  have h := has_foldD i l (0, 0)
  have e : doneL l = l.foldl stepD (0, 0) := rfl
  have hn : num62 (i : Int) = true := by unfold num62; rw [decide_eq_true (by omega), decide_eq_true (by omega)]; rfl
  have key : ∀ v : Int × Bool, num62 v.1 = true → i = v.1.toNat → v.1 = (i : Int) := fun v h1 h2 => by
    unfold num62 at h1
    rw [Bool.and_eq_true, decide_eq_true_iff, decide_eq_true_iff] at h1
    omega
  rw [e, h.1, h.2]
  constructor
  · rw [U.has_zero, Bool.false_or, Bool.eq_iff_iff, List.any_eq_true, decide_eq_true_iff]
    constructor
    · rintro ⟨v, hv, h⟩
      simp only [Bool.and_eq_true, Bool.not_eq_true', decide_eq_true_eq] at h
      have e : ((i : Int), false) = v := Prod.ext (key v h.1 h.2.2).symm h.2.1.symm
      rw [e]
      exact hv
    · intro h
      exact ⟨_, h, by simp [hn]⟩
  · rw [U.has_zero, Bool.false_or, Bool.eq_iff_iff, List.any_eq_true, decide_eq_true_iff]
    constructor
    · rintro ⟨v, hv, h⟩
      simp only [Bool.and_eq_true, decide_eq_true_eq] at h
      have e : ((i : Int), true) = v := Prod.ext (key v h.1 h.2.2).symm h.2.1.symm
      rw [e]
      exact hv
    · intro h
      exact ⟨_, h, by simp [hn]⟩
theorem has_wAK {n : Nat} {be : List (Int × Int)} (hr : U.Rt n be) (i k : Nat) (hi : i < n) : ∀ m, m ≤ be.length → S.has ((wAK n be m).getD i 0) k = (be.take m).any fun p => decide (U.pb p = i) && decide (k = U.pa p)
  | 0, _ => by
    have : (wAK n be 0).getD i 0 = 0 := by
      unfold wAK
      rw [List.getD_eq_getElem?_getD, List.getElem?_replicate]
      split <;> rfl
    rw [this, U.has_zero]
    rfl
  | m + 1, h => by
    have ih := has_wAK hr i k hi m (by omega)
    rw [take_more (d := (0, 0)) (by omega), List.any_append, List.any_cons, List.any_nil, Bool.or_false, ← ih]
    have hrt := U.getD_rt hr (k := m) (by omega)
    have e : wAK n be (m + 1) = (wAK n be m).set (U.pb (be.getD m (0, 0))) ((wAK n be m).getD (U.pb (be.getD m (0, 0))) 0 ||| 2 ^ U.pa (be.getD m (0, 0))) := rfl
    rw [e, List.getD_eq_getElem?_getD, List.getElem?_set]
    by_cases hp : U.pb (be.getD m (0, 0)) = i
    · rw [if_pos hp, if_pos (by rw [wAK_len]; exact hrt.2.1), decide_eq_true hp, Bool.true_and, hp]
      show S.has ((wAK n be m).getD i 0 ||| 2 ^ U.pa (be.getD m (0, 0))) k = _
      rw [U.has_or, U.has_pow]
    · rw [if_neg hp, decide_eq_false hp, Bool.false_and, Bool.or_false, ← List.getD_eq_getElem?_getD]
section
variable {z : Int} {ol : List OrT} {be : List (Int × Int)} {l : List (Int × Bool)}
/-- which orders have a visit that is not done -/
theorem left_is (ok : Okv ol) (hn : ol.length ≤ 10) (hr : U.Rt ol.length be) {k : Nat} (hk : k < ol.length) :
    S.has ((waysF z ol be).und (doneL l)) k = (decide (((k : Int), false) ∈ visR ol k) && !decide (((k : Int), false) ∈ l)) ∧ S.has ((waysF z ol be).left (doneL l)) k = !conV l (visR ol k) := by
  have hw := ways_b (z := z) (show ol.length ≤ 63 by omega) hr
  have hd : (doneL l).1 < 2 ^ 63 ∧ (doneL l).2 < 2 ^ 63 := done_lt l (0, 0) (by decide) (by decide)
  have hP := has_wPK ol k ol.length
  have hD := has_done (l := l) (i := k) (by omega)
  rw [visL_is ok hk, decide_eq_true hk, Bool.true_and, Bool.true_and] at hP
  have e1 : S.has ((waysF z ol be).und (doneL l)) k = (decide (((k : Int), false) ∈ visR ol k) && !decide (((k : Int), false) ∈ l)) := by
    unfold WaT.und
    rw [U.has_minus hw.p hd.1]
    show (S.has (wPK ol ol.length).1 k && !S.has (doneL l).1 k) = _
    rw [hP.1, hD.1]
  refine ⟨e1, ?_⟩
  unfold WaT.left
  rw [U.has_or, e1, U.has_minus hw.d hd.2]
  show (_ || (S.has (wPK ol ol.length).2 k && !S.has (doneL l).2 k)) = _
  rw [hP.2, hD.2]
  unfold conV
  rcases visR_form ok hk with e | e | e
  · rw [e]
    simp only [List.all_cons, List.all_nil, Bool.and_true, List.mem_cons, true_or, or_true, decide_true, Bool.true_and, Bool.not_and]
  · rw [e]
    simp
  · rw [e]
    simp
/-- the orders before an order are done -/
theorem rdy_is (ok : Okv ol) (hn : ol.length ≤ 10) (hr : U.Rt ol.length be) {i : Nat} (hi : i < ol.length) : (waysF z ol be).A.getD i 0 &&& (waysF z ol be).left (doneL l) = 0 ↔ rdyB ol be l i = true := by
  have hA : ∀ k, S.has ((waysF z ol be).A.getD i 0) k = be.any fun p => decide (U.pb p = i) && decide (k = U.pa p) := fun k => by
    have h := has_wAK hr i k hi be.length (Nat.le_refl _)
    rwa [List.take_length] at h
  rw [and_zero]
  unfold rdyB
  rw [List.all_eq_true]
  constructor
  · intro h p hp
    unfold rdyP
    have hrt := hr.a hp
    by_cases hb : U.pb p = i
    · have h1 := h (U.pa p) (by rw [hA, List.any_eq_true]; exact ⟨p, hp, by rw [decide_eq_true hb, decide_eq_true rfl]; rfl⟩)
      rw [(left_is ok hn hr hrt.1).2] at h1
      rw [decide_eq_true hb]
      simpa using h1
    · rw [decide_eq_false hb]
      rfl
  · intro h k hk
    rw [hA, List.any_eq_true] at hk
    obtain ⟨p, hp, hpk⟩ := hk
    rw [Bool.and_eq_true, decide_eq_true_iff, decide_eq_true_iff] at hpk
    have hrt := hr.a hp
    have h1 := h p hp
    unfold rdyP at h1
    rw [decide_eq_true hpk.1] at h1
    rw [hpk.2, (left_is ok hn hr hrt.1).2]
    simpa using h1
theorem nx1_no {V : List (Int × Bool)} {k : Nat} (h : ¬ (idxV l (V.getD k (0, false)) < 0 ∧ (k = 0 ∨ idxV l (V.getD 0 (0, false)) ≥ 0))) : nx1 V l k = [] := if_neg h
theorem nx1_yes {V : List (Int × Bool)} {k : Nat} (h : idxV l (V.getD k (0, false)) < 0 ∧ (k = 0 ∨ idxV l (V.getD 0 (0, false)) ≥ 0)) : nx1 V l k = [V.getD k (0, false)] := if_pos h
theorem nxV_is (ok : Okv ol) {i : Nat} (hi : i < ol.length) : nxV (visR ol i) l (visR ol i).length = if conV l (visR ol i) = true then [] else [((i : Int), !(decide (((i : Int), false) ∈ visR ol i) && !decide (((i : Int), false) ∈ l)))] := by
  have m0 := idxV_lt (l := l) (x := ((i : Int), false))
  have m1 := idxV_lt (l := l) (x := ((i : Int), true))
  rcases visR_form ok hi with e | e | e
  · rw [e]
    show ([] ++ nx1 [((i : Int), false), ((i : Int), true)] l 0) ++ nx1 [((i : Int), false), ((i : Int), true)] l 1 = _
    by_cases h0 : ((i : Int), false) ∈ l
    · have h2 : ¬ idxV l ((i : Int), false) < 0 := fun h => m0.1 h h0
      rw [nx1_no (V := [((i : Int), false), ((i : Int), true)]) (k := 0) (fun h => h2 h.1)]
      by_cases h1 : ((i : Int), true) ∈ l
      · rw [nx1_no (V := [((i : Int), false), ((i : Int), true)]) (k := 1) (fun h => m1.1 h.1 h1)]
        unfold conV
        simp [h0, h1]
      · rw [nx1_yes (V := [((i : Int), false), ((i : Int), true)]) (k := 1) ⟨m1.2 h1, .inr (Int.not_lt.1 h2)⟩]
        unfold conV
        simp [h0, h1]
    · have h2 : idxV l ((i : Int), false) < 0 := m0.2 h0
      rw [nx1_yes (V := [((i : Int), false), ((i : Int), true)]) (k := 0) ⟨h2, .inl rfl⟩, nx1_no (V := [((i : Int), false), ((i : Int), true)]) (k := 1) (fun h => h.2.elim (fun h => by cases h) (fun h => absurd h2 (Int.not_lt.2 h)))]
      unfold conV
      simp [h0]
  · rw [e]
    show [] ++ nx1 [((i : Int), false)] l 0 = _
    by_cases h0 : ((i : Int), false) ∈ l
    · rw [nx1_no (V := [((i : Int), false)]) (k := 0) (fun h => m0.1 h.1 h0)]
      unfold conV
      simp [h0]
    · rw [nx1_yes (V := [((i : Int), false)]) (k := 0) ⟨m0.2 h0, .inl rfl⟩]
      unfold conV
      simp [h0]
  · rw [e]
    show [] ++ nx1 [((i : Int), true)] l 0 = _
    by_cases h0 : ((i : Int), true) ∈ l
    · rw [nx1_no (V := [((i : Int), true)]) (k := 0) (fun h => m1.1 h.1 h0)]
      unfold conV
      simp [h0]
    · rw [nx1_yes (V := [((i : Int), true)]) (k := 0) ⟨m1.2 h0, .inl rfl⟩]
      unfold conV
      simp [h0]
theorem next_one (ok : Okv ol) (hn : ol.length ≤ 10) (hr : U.Rt ol.length be) (hz : 0 ≤ z) {i : Nat} (hi : i < ol.length) :
    nxt1 (waysF z ol be).W ((waysF z ol be).und (doneL l)) ((waysF z ol be).left (doneL l)) (waysF z ol be).A i = nxO z ol be l i := by
  have hl := left_is (z := z) (l := l) ok hn hr hi
  have hrd := rdy_is (z := z) (l := l) ok hn hr hi
  have hW := has_wWK z ol i ol.length
  rw [decide_eq_true hi, Bool.true_and] at hW
  have hR : hasR z (i : Int) = hasZ z i := by
    unfold hasR num62
    rw [decide_eq_true hz, decide_eq_true (by omega), decide_eq_true (by omega), Int.toNat_natCast]
    rfl
  have hW2 : S.has (waysF z ol be).W i = (hasZ z i && !(ol.getD i or0).off) := hW
  have hc : (S.has ((waysF z ol be).W &&& (waysF z ol be).left (doneL l)) i = true ∧ (waysF z ol be).A.getD i 0 &&& (waysF z ol be).left (doneL l) = 0) ↔ (hasR z (i : Int) = true ∧ (ol.getD i or0).off = false ∧ rdyB ol be l i = true) ∧ conV l (visR ol i) = false := by
    rw [hrd, U.has_bit, Nat.testBit_and, ← U.has_bit, ← U.has_bit, hl.2, hW2, hR]
    cases hasZ z i <;> cases (ol.getD i or0).off <;> cases rdyB ol be l i <;> cases conV l (visR ol i) <;> simp
  unfold nxt1 nxO
  rw [hl.1, nxV_is ok hi]
  by_cases h1 : hasR z (i : Int) = true ∧ (ol.getD i or0).off = false ∧ rdyB ol be l i = true
  · rw [if_pos h1]
    by_cases h2 : conV l (visR ol i) = true
    · rw [if_neg (fun h => by rw [(hc.1 h).2] at h2; cases h2), if_pos h2]
    · rw [if_pos (hc.2 ⟨h1, by simpa using h2⟩), if_neg h2]
  · rw [if_neg (fun h => h1 (hc.1 h).1), if_neg h1]
theorem next_is (ok : Okv ol) (hn : ol.length ≤ 10) (hr : U.Rt ol.length be) (hz : 0 ≤ z) (l : List (Int × Bool)) : nextS z ol be l = nxR z ol be l ol.length := by
  have key : ∀ k, k ≤ ol.length → nxtK (waysF z ol be).W ((waysF z ol be).und (doneL l)) ((waysF z ol be).left (doneL l)) (waysF z ol be).A k = nxR z ol be l k := by
    intro k
    induction k with
    | zero => intro _; rfl
    | succ k ih =>
      intro h
      unfold nxtK nxR
      rw [ih (by omega), next_one ok hn hr hz (by omega)]
  have hA : (waysF z ol be).A.length = ol.length := wAK_len _ _ _
  unfold nextS nextW
  rw [hA]
  exact key _ (Nat.le_refl _)
end
end Go.Proofs.Ytoliacfpjhanlaa.T

/-! Slices of visits as arguments (over an instance's). -/
namespace Go.Proofs.Ytoliacfpjhanlaa.T
open Go.Joins Go.ChangeShapes Go.WideShapes Go.ChangeAt Go.RowKit Go.Deep
set_option maxRecDepth 8000

theorem arg_visits16 {H : Type} {enc : TypeId × Value → H} {W : World} {base : Nat} {v : Value} {d : DataW H} {p : List MemPlace}
    (hv : Value.okWide Try.prog W .any base 32 v) (h : DataW.Trod enc Try.prog W 0 (fun _ => true) true 32 v d p) (hlt : ∀ x ∈ p, x.block < W.heap.size) :
    ∃ (oa : Option Addr) (c b o : Nat) (l : List (Int × Bool)), v = .slice oa l.length c ∧ Rw W b o 2 (vF l) l.length oa := by
  obtain ⟨a0, len, cap, rfl⟩ := okWide_slice Try.underlying32 hv
  obtain ⟨fuel, hf⟩ := h
  have hf2 : DataW.trod enc Try.prog W 0 (fun _ => true) true fuel 32 [.slice a0 len cap] = some (d, p) := hf
  exact visits_of hf2 hlt
end Go.Proofs.Ytoliacfpjhanlaa.T

/-! The walk of the law SequenceNext (by gen_uh.py). -/
namespace Go.Proofs.Ytoliacfpjhanlaa.T
open Go.RowKit
set_option maxRecDepth 8000
attribute [local irreducible] wpList Code.wp wpAnyH

theorem sequenceNext_walk (k : Iv) (x : InT) (hv : InV x) (z : Int) (oa : Option Addr) (c b o : Nat) (l : List (Int × Bool)) (w : World) (hI : Ins w k x) (hl : Rw w b o 2 (vF l) l.length oa) : Calls Try.prog 5 #[.agg #[.slice k.o0 x.pl.length k.c0, .slice k.o1 x.al.length k.c1, .slice k.o2 x.tl.length k.c2, .slice k.o3 x.ol.length k.c3, .slice k.o4 x.ap.length k.c4, .slice k.o5 x.be.length k.c5], .int .i64 z, .slice oa l.length c] w fun e w' => e = .returned (.bool true) ∧ Below w.heap.size w w' := by
  have HB : Below w.heap.size w w := Below.refl _ _
  refine sx_enter Try.func5 rfl [(0, .agg #[.slice k.o0 x.pl.length k.c0, .slice k.o1 x.al.length k.c1, .slice k.o2 x.tl.length k.c2, .slice k.o3 x.ol.length k.c3, .slice k.o4 x.ap.length k.c4, .slice k.o5 x.be.length k.c5]), (1, .int .i64 z), (2, .slice oa l.length c)] (by kernel_rfl) ?_
  refine wp_seq ?_
  refine wp_region_lit ?_
  obtain ⟨W1, hW⟩ : ∃ W, w.alloc (.cells #[.slice k.o0 x.pl.length k.c0, .slice k.o1 x.al.length k.c1, .slice k.o2 x.tl.length k.c2, .slice k.o3 x.ol.length k.c3, .slice k.o4 x.ap.length k.c4, .slice k.o5 x.be.length k.c5] 30) = W := ⟨_, rfl⟩
  have hb := hW ▸ below_alloc w (.cells #[.slice k.o0 x.pl.length k.c0, .slice k.o1 x.al.length k.c1, .slice k.o2 x.tl.length k.c2, .slice k.o3 x.ol.length k.c3, .slice k.o4 x.ap.length k.c4, .slice k.o5 x.be.length k.c5] 30)
  have hq : Cb W1 w.heap.size #[.slice k.o0 x.pl.length k.c0, .slice k.o1 x.al.length k.c1, .slice k.o2 x.tl.length k.c2, .slice k.o3 x.ol.length k.c3, .slice k.o4 x.ap.length k.c4, .slice k.o5 x.be.length k.c5] 30 := hW ▸ Cb.made w #[.slice k.o0 x.pl.length k.c0, .slice k.o1 x.al.length k.c1, .slice k.o2 x.tl.length k.c2, .slice k.o3 x.ol.length k.c3, .slice k.o4 x.ap.length k.c4, .slice k.o5 x.be.length k.c5] 30
  refine sx_mem (by kernel_rfl) rfl rfl (.pointer (some ⟨w.heap.size, 0, none⟩)) W1 (by rw [← hW]; kernel_rfl) ?_
  replace HB := over HB hb
  have z1 := hb.size
  have M2 := hq
  have yM2 := hq.lt
  clear hq hb hW
  refine sx_val (by kernel_rfl) rfl rfl (.bool false) (by kernel_rfl) ?_
  refine wpList_nil ?_
  refine sx_norm ?_
  refine wp_seq ?_
  refine wp_seq ?_
  refine wp_region_lit ?_
  refine sx_val (by kernel_rfl) rfl rfl (.agg #[.slice k.o0 x.pl.length k.c0, .slice k.o1 x.al.length k.c1, .slice k.o2 x.tl.length k.c2, .slice k.o3 x.ol.length k.c3, .slice k.o4 x.ap.length k.c4, .slice k.o5 x.be.length k.c5]) (ex_load rfl M2 (by kernel_rfl) Try.underlying30 rfl (by kernel_rfl)) ?_
  by_cases C1 : (fewB x) = true
  · refine sx_call (by kernel_rfl) rfl rfl ((by have h8 := few_n k x hv W1 (hI.below HB); rw [show (fewB x) = true by simpa using C1] at h8; exact h8)) (by kernel_rfl) ?_
    rintro e W3 ⟨rfl, hb⟩
    replace HB := over HB hb
    replace M2 := M2.below hb
    have z2 := hb.size
    clear hb
    refine ⟨_, rfl, ?_⟩
    refine sx_val (by kernel_rfl) rfl rfl (.bool false) (by kernel_rfl) ?_
    refine sx_val (by kernel_rfl) rfl rfl (.bool false) (by kernel_rfl) ?_
    refine sx_val (by kernel_rfl) rfl rfl (.slice oa l.length c) (by kernel_rfl) ?_
    refine sx_val (by kernel_rfl) rfl rfl (.int .i64 ((l.length : Nat) : Int)) (by kernel_rfl) ?_
    by_cases C2 : l.length > 12
    · refine sx_bool (by kernel_rfl) rfl rfl (decide (((l.length : Nat) : Int) > 12)) true (by kernel_rfl) (decide_eq_true (by omega)) ?_
      refine sx_val (by kernel_rfl) rfl rfl (.bool true) (by kernel_rfl) ?_
      refine sx_val (by kernel_rfl) rfl rfl (.bool true) (by kernel_rfl) ?_
      refine sx_skip (by kernel_rfl) rfl rfl ?_
      refine sx_skip (by kernel_rfl) rfl rfl ?_
      refine sx_val (by kernel_rfl) rfl rfl (.bool true) (by kernel_rfl) ?_
      refine wpList_nil ?_
      refine sx_norm ?_
      refine sx_true (by kernel_rfl) ?_
      refine wp_seq ?_
      refine wp_region_lit ?_
      refine sx_call (by kernel_rfl) rfl rfl (awake16_n W3) (by kernel_rfl) ?_
      rintro e W4 ⟨rfl, hb⟩
      replace HB := over HB hb
      replace M2 := M2.below hb
      have z3 := hb.size
      clear hb
      refine ⟨_, rfl, ?_⟩
      refine sx_val (by kernel_rfl) rfl rfl (.bool true) (by kernel_rfl) ?_
      refine wpList_nil ?_
      refine sx_norm ?_
      refine wp_ret ?_
      refine sx_rs ?_
      exact sx_ret1 (.bool true) rfl rfl (by kernel_rfl) ⟨rfl, HB⟩
    refine sx_bool (by kernel_rfl) rfl rfl (decide (((l.length : Nat) : Int) > 12)) false (by kernel_rfl) (decide_eq_false (by omega)) ?_
    refine sx_val (by kernel_rfl) rfl rfl (.bool false) (by kernel_rfl) ?_
    refine sx_val (by kernel_rfl) rfl rfl (.bool false) (by kernel_rfl) ?_
    refine sx_val (by kernel_rfl) rfl rfl (.int .i64 z) (by kernel_rfl) ?_
    by_cases C3 : z < 0
    · refine sx_bool (by kernel_rfl) rfl rfl (decide (z < 0)) true (by kernel_rfl) (decide_eq_true (by omega)) ?_
      refine sx_val (by kernel_rfl) rfl rfl (.bool true) (by kernel_rfl) ?_
      refine wpList_nil ?_
      refine sx_norm ?_
      refine sx_true (by kernel_rfl) ?_
      refine wp_seq ?_
      refine wp_region_lit ?_
      refine sx_call (by kernel_rfl) rfl rfl (awake16_n W3) (by kernel_rfl) ?_
      rintro e W5 ⟨rfl, hb⟩
      replace HB := over HB hb
      replace M2 := M2.below hb
      have z3 := hb.size
      clear hb
      refine ⟨_, rfl, ?_⟩
      refine sx_val (by kernel_rfl) rfl rfl (.bool true) (by kernel_rfl) ?_
      refine wpList_nil ?_
      refine sx_norm ?_
      refine wp_ret ?_
      refine sx_rs ?_
      exact sx_ret1 (.bool true) rfl rfl (by kernel_rfl) ⟨rfl, HB⟩
    refine sx_bool (by kernel_rfl) rfl rfl (decide (z < 0)) false (by kernel_rfl) (decide_eq_false (by omega)) ?_
    refine sx_val (by kernel_rfl) rfl rfl (.bool false) (by kernel_rfl) ?_
    refine wpList_nil ?_
    refine sx_norm ?_
    refine sx_false (by kernel_rfl) ?_
    refine wp_skip ?_
    refine sx_norm ?_
    refine wp_seq ?_
    have hq := few_ok (x := x) (by assumption)
    have hq1 := hq.1
    have hq6 := hq.2.2.2.2.2
    have hnx : (nxR z x.ol x.be l x.ol.length).length ≤ 1000000 := by have h8 := nxR_len z x.ol x.be l x.ol.length; omega
    obtain ⟨Y6, hW⟩ : ∃ W, W3.drew = W := ⟨_, rfl⟩
    have hb : Below W3.heap.size W3 Y6 := hW ▸ below_drew (Below.refl _ _)
    replace HB := over HB hb
    replace M2 := M2.below hb
    have z3 := hb.size
    clear hb
    refine sd_begin (fun W => Cb W (w.heap.size) #[.slice k.o0 x.pl.length k.c0, .slice k.o1 x.al.length k.c1, .slice k.o2 x.tl.length k.c2, .slice k.o3 x.ol.length k.c3, .slice k.o4 x.ap.length k.c4, .slice k.o5 x.be.length k.c5] 30 ∧ True) (by kernel_rfl) (by rw [hW]; exact ⟨M2, trivial⟩) ?_
    rw [hW]
    clear hW
    refine sd_take 0 rfl (by kernel_rfl) (by kernel_rfl) (by kernel_rfl) (by kernel_rfl) rfl rfl (.agg #[.slice k.o0 x.pl.length k.c0, .slice k.o1 x.al.length k.c1, .slice k.o2 x.tl.length k.c2, .slice k.o3 x.ol.length k.c3, .slice k.o4 x.ap.length k.c4, .slice k.o5 x.be.length k.c5]) (fun w9 h9 => ex_load rfl h9.1 (by kernel_rfl) Try.underlying30 rfl (by kernel_rfl)) (fun _ _ _ h => h) ⟨M2, trivial⟩ ?_
    refine sd_take 1 rfl (by kernel_rfl) (by kernel_rfl) (by kernel_rfl) (by kernel_rfl) rfl rfl (.int .i64 z) (fun w9 _ => by kernel_rfl) (fun _ _ _ h => h) ⟨M2, trivial⟩ ?_
    refine sd_take 2 rfl (by kernel_rfl) (by kernel_rfl) (by kernel_rfl) (by kernel_rfl) rfl rfl (.slice oa l.length c) (fun w9 _ => by kernel_rfl) (fun _ _ _ h => h) ⟨M2, trivial⟩ ?_
    refine sd_take 4 rfl (by kernel_rfl) (by kernel_rfl) (by kernel_rfl) (by kernel_rfl) rfl rfl (.agg #[.slice k.o0 x.pl.length k.c0, .slice k.o1 x.al.length k.c1, .slice k.o2 x.tl.length k.c2, .slice k.o3 x.ol.length k.c3, .slice k.o4 x.ap.length k.c4, .slice k.o5 x.be.length k.c5]) (fun w9 h9 => ex_load rfl h9.1 (by kernel_rfl) Try.underlying30 rfl (by kernel_rfl)) (fun _ _ _ h => h) ⟨M2, trivial⟩ ?_
    refine sd_take 5 rfl (by kernel_rfl) (by kernel_rfl) (by kernel_rfl) (by kernel_rfl) rfl rfl (.int .i64 z) (fun w9 _ => by kernel_rfl) (fun _ _ _ h => h) ⟨M2, trivial⟩ ?_
    refine sd_take 6 rfl (by kernel_rfl) (by kernel_rfl) (by kernel_rfl) (by kernel_rfl) rfl rfl (.slice oa l.length c) (fun w9 _ => by kernel_rfl) (fun _ _ _ h => h) ⟨M2, trivial⟩ ?_
    refine sd_all [3] (by kernel_rfl) (by decide) ?_
    refine sd_call (i := 3) rfl (by kernel_rfl) rfl rfl ((by have h8 := nextTop_n k.o0 k.o1 k.o2 k.o3 k.o4 k.o5 x.pl.length x.al.length x.tl.length x.ap.length k.c0 k.c1 k.c2 k.c3 k.c4 k.c5 x.ol x.be (by omega) hq.2.2.2.1 (by omega) Y6 (hI.below HB).h3 (hI.below HB).h5 z l (by omega) oa c b o (hl.below HB); rw [next_is hq.2.1 (by omega) hq.2.2.2.1 (by omega) l] at h8; exact h8)) (by kernel_rfl) ?_ AllReadyH.nil
    rintro e W7 ⟨oa91, c91, rfl, ⟨hvs91, -, -⟩, hb⟩
    replace HB := over HB hb
    replace M2 := M2.below hb
    have z4 := hb.size
    clear hb
    refine ⟨_, rfl, ⟨M2, trivial⟩, ?_⟩
    obtain ⟨bv91, qv91, hvr91⟩ := hvs91.rw2
    clear hvs91
    refine sd_all [7] (by kernel_rfl) (by decide) ?_
    refine sd_call (i := 7) rfl (by kernel_rfl) rfl rfl (refNext_n k.o0 k.o1 k.o2 k.o3 k.o4 k.o5 x.pl.length x.al.length x.tl.length x.ap.length k.c0 k.c1 k.c2 k.c3 k.c4 k.c5 x.ol x.be (by omega) hq.2.2.2.1 (by omega) z W7 (hI.below HB).h3 (hI.below HB).h5 l (by omega) oa c b o (hl.below HB)) (by kernel_rfl) ?_ AllReadyH.nil
    rintro e W8 ⟨oa92, c92, rfl, ⟨hvs92, -, -⟩, hb⟩
    replace HB := over HB hb
    replace M2 := M2.below hb
    replace hvr91 := hvr91.below hb
    have z5 := hb.size
    clear hb
    refine ⟨_, rfl, ⟨M2, trivial⟩, ?_⟩
    obtain ⟨bv92, qv92, hvr92⟩ := hvs92.rw2
    clear hvs92
    refine sd_all [8] (by kernel_rfl) (by decide) ?_
    refine sd_call (i := 8) rfl (by kernel_rfl) rfl rfl ((by have h8 := refSame16_n oa91 oa92 c91 c92 bv91 qv91 bv92 qv92 (nxR z x.ol x.be l x.ol.length) (nxR z x.ol x.be l x.ol.length) hnx hnx W8 hvr91 hvr92; rw [decide_eq_true (rfl : (nxR z x.ol x.be l x.ol.length) = (nxR z x.ol x.be l x.ol.length))] at h8; exact h8)) (by kernel_rfl) ?_ AllReadyH.nil
    rintro e W9 ⟨rfl, hb⟩
    replace HB := over HB hb
    replace M2 := M2.below hb
    replace hvr91 := hvr91.below hb
    replace hvr92 := hvr92.below hb
    have z6 := hb.size
    clear hb
    refine ⟨_, rfl, ⟨M2, trivial⟩, ?_⟩
    refine sd_take 9 rfl (by kernel_rfl) (by kernel_rfl) (by kernel_rfl) (by kernel_rfl) rfl rfl (.bool true) (fun w9 _ => by kernel_rfl) (fun _ _ _ h => h) ⟨M2, trivial⟩ ?_
    refine sd_all [10] (by kernel_rfl) (by decide) ?_
    refine sd_call (i := 10) rfl (by kernel_rfl) rfl rfl (awake16_n W9) (by kernel_rfl) ?_ AllReadyH.nil
    rintro e W10 ⟨rfl, hb⟩
    replace HB := over HB hb
    replace M2 := M2.below hb
    replace hvr91 := hvr91.below hb
    replace hvr92 := hvr92.below hb
    have z7 := hb.size
    clear hb
    refine ⟨_, rfl, ⟨M2, trivial⟩, ?_⟩
    refine sd_take 11 rfl (by kernel_rfl) (by kernel_rfl) (by kernel_rfl) (by kernel_rfl) rfl rfl (.bool true) (fun w9 _ => by kernel_rfl) (fun _ _ _ h => h) ⟨M2, trivial⟩ ?_
    refine sd_take 12 rfl (by kernel_rfl) (by kernel_rfl) (by kernel_rfl) (by kernel_rfl) rfl rfl (.bool true) (fun w9 _ => by kernel_rfl) (fun _ _ _ h => h) ⟨M2, trivial⟩ ?_
    refine sd_done (by kernel_rfl) ?_
    refine sx_norm ?_
    refine wp_ret ?_
    exact sx_ret1 (.bool true) rfl rfl (by kernel_rfl) ⟨rfl, HB⟩
  refine sx_call (by kernel_rfl) rfl rfl ((by have h8 := few_n k x hv W1 (hI.below HB); rw [show (fewB x) = false by simpa using C1] at h8; exact h8)) (by kernel_rfl) ?_
  rintro e W11 ⟨rfl, hb⟩
  replace HB := over HB hb
  replace M2 := M2.below hb
  have z2 := hb.size
  clear hb
  refine ⟨_, rfl, ?_⟩
  refine sx_val (by kernel_rfl) rfl rfl (.bool true) (by kernel_rfl) ?_
  refine sx_val (by kernel_rfl) rfl rfl (.bool true) (by kernel_rfl) ?_
  refine sx_skip (by kernel_rfl) rfl rfl ?_
  refine sx_skip (by kernel_rfl) rfl rfl ?_
  refine sx_skip (by kernel_rfl) rfl rfl ?_
  refine sx_val (by kernel_rfl) rfl rfl (.bool true) (by kernel_rfl) ?_
  refine sx_val (by kernel_rfl) rfl rfl (.bool true) (by kernel_rfl) ?_
  refine sx_skip (by kernel_rfl) rfl rfl ?_
  refine sx_skip (by kernel_rfl) rfl rfl ?_
  refine sx_val (by kernel_rfl) rfl rfl (.bool true) (by kernel_rfl) ?_
  refine wpList_nil ?_
  refine sx_norm ?_
  refine sx_true (by kernel_rfl) ?_
  refine wp_seq ?_
  refine wp_region_lit ?_
  refine sx_call (by kernel_rfl) rfl rfl (awake16_n W11) (by kernel_rfl) ?_
  rintro e W12 ⟨rfl, hb⟩
  replace HB := over HB hb
  replace M2 := M2.below hb
  have z3 := hb.size
  clear hb
  refine ⟨_, rfl, ?_⟩
  refine sx_val (by kernel_rfl) rfl rfl (.bool true) (by kernel_rfl) ?_
  refine wpList_nil ?_
  refine sx_norm ?_
  refine wp_ret ?_
  refine sx_rs ?_
  exact sx_ret1 (.bool true) rfl rfl (by kernel_rfl) ⟨rfl, HB⟩

end Go.Proofs.Ytoliacfpjhanlaa.T

