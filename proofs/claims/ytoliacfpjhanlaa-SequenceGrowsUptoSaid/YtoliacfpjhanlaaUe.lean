/-
  DERIVED. Ue: a part of the base of layer 13 (made by pack.py).
-/
import Derived.Test.YtoliacfpjhanlaaSn
import Derived.Test.YtoliacfpjhanlaaUc
import Derived.Test.YtoliacfpjhanlaaUd
/-! The specification of sequences: Check (by gen_ue.py). -/
namespace Go.Proofs.Ytoliacfpjhanlaa.T
open Go.RowKit
set_option maxRecDepth 8000
attribute [local irreducible] wpList Code.wp wpAnyH

/-- the error of a route's visits, as the specification says -/
def chkR (ol : List OrT) (ap be : List (Int × Int)) (l : List (Int × Bool)) : Int :=
  if l.any (goneV ol.length) = true then 2 else if ordE l ≠ 0 ∨ l.length = 0 then 2 else if l.any (offV ol) = true then 9 else if ¬ (∀ i, i < l.length → idxV l (l.getD i (0, false)) = (i : Int)) then 6
    else if prdB ol l = false then 19 else if aptB (ordN l) ap = false then 20 else if befL (ordN l) be l = false then 21 else 0
theorem one_more {l : List (Int × Bool)} {j : Nat} (h : ∀ i, i < j → idxV l (l.getD i (0, false)) = (i : Int)) (k : idxV l (l.getD j (0, false)) = (j : Int)) : ∀ i, i < j + 1 → idxV l (l.getD i (0, false)) = (i : Int) := fun i hi => by
  rcases Nat.lt_succ_iff_lt_or_eq.1 hi with h1 | h1
  · exact h i h1
  · subst h1
    exact k
theorem refCheck16_n (o0 o1 o2 o3 o4 o5 : Option Addr) (n0 n1 n2 c0 c1 c2 c3 c4 c5 : Nat) (ol : List OrT) (ap be : List (Int × Int)) (hn : ol.length ≤ 10) (hra : U.Rt ol.length ap) (hla : ap.length ≤ 1000000) (hr : U.Rt ol.length be) (hl : be.length ≤ 1000000) (w : World) (hos : Os w (.slice o3 ol.length c3) ol) (hpa : Ps w (.slice o4 ap.length c4) ap) (hps : Ps w (.slice o5 be.length c5) be) (ty st : Int) (orr oa : Option Addr) (nr cr c b o : Nat) (l : List (Int × Bool)) (ll : l.length ≤ 1000000) (hv : Rw w b o 2 (vF l) l.length oa) : Calls Try.prog 12 #[.agg #[.slice o0 n0 c0, .slice o1 n1 c1, .slice o2 n2 c2, .slice o3 ol.length c3, .slice o4 ap.length c4, .slice o5 be.length c5], .agg #[.int .i64 ty, .int .i64 st, .slice orr nr cr, .slice oa l.length c]] w fun e w' => e = .returned (.int .i64 (chkR ol ap be l)) ∧ Below w.heap.size w w' := by
  have HB : Below w.heap.size w w := Below.refl _ _
  obtain ⟨b3, q3, vc, hr16⟩ := hos.rw
  refine sx_enter Try.func12 rfl [(0, .agg #[.slice o0 n0 c0, .slice o1 n1 c1, .slice o2 n2 c2, .slice o3 ol.length c3, .slice o4 ap.length c4, .slice o5 be.length c5]), (1, .agg #[.int .i64 ty, .int .i64 st, .slice orr nr cr, .slice oa l.length c])] (by kernel_rfl) ?_
  refine wp_seq ?_
  refine wp_region_lit ?_
  obtain ⟨W1, hW⟩ : ∃ W, w.alloc (.cells #[.slice o0 n0 c0, .slice o1 n1 c1, .slice o2 n2 c2, .slice o3 ol.length c3, .slice o4 ap.length c4, .slice o5 be.length c5] 30) = W := ⟨_, rfl⟩
  have hb := hW ▸ below_alloc w (.cells #[.slice o0 n0 c0, .slice o1 n1 c1, .slice o2 n2 c2, .slice o3 ol.length c3, .slice o4 ap.length c4, .slice o5 be.length c5] 30)
  have hq : Cb W1 w.heap.size #[.slice o0 n0 c0, .slice o1 n1 c1, .slice o2 n2 c2, .slice o3 ol.length c3, .slice o4 ap.length c4, .slice o5 be.length c5] 30 := hW ▸ Cb.made w #[.slice o0 n0 c0, .slice o1 n1 c1, .slice o2 n2 c2, .slice o3 ol.length c3, .slice o4 ap.length c4, .slice o5 be.length c5] 30
  refine sx_mem (by kernel_rfl) rfl rfl (.pointer (some ⟨w.heap.size, 0, none⟩)) W1 (by rw [← hW]; kernel_rfl) ?_
  replace HB := over HB hb
  have z1 := hb.size
  have M2 := hq
  have yM2 := hq.lt
  clear hq hb hW
  obtain ⟨W3, hW⟩ : ∃ W, W1.alloc (.cells #[.int .i64 ty, .int .i64 st, .slice orr nr cr, .slice oa l.length c] 34) = W := ⟨_, rfl⟩
  have hb := hW ▸ below_alloc W1 (.cells #[.int .i64 ty, .int .i64 st, .slice orr nr cr, .slice oa l.length c] 34)
  have hq : Cb W3 W1.heap.size #[.int .i64 ty, .int .i64 st, .slice orr nr cr, .slice oa l.length c] 34 := hW ▸ Cb.made W1 #[.int .i64 ty, .int .i64 st, .slice orr nr cr, .slice oa l.length c] 34
  refine sx_mem (by kernel_rfl) rfl rfl (.pointer (some ⟨W1.heap.size, 0, none⟩)) W3 (by rw [← hW]; kernel_rfl) ?_
  replace HB := over HB hb
  replace M2 := M2.below hb
  have z2 := hb.size
  have M4 := hq
  have yM4 := hq.lt
  clear hq hb hW
  refine sx_val (by kernel_rfl) rfl rfl (.int .i64 0) (by kernel_rfl) ?_
  refine wpList_nil ?_
  refine sx_norm ?_
  refine wp_seq ?_
  refine wp_region_lit ?_
  refine sx_val (by kernel_rfl) rfl rfl (.pointer (some ⟨W1.heap.size, 3, none⟩)) (by kernel_rfl) ?_
  refine sx_val (by kernel_rfl) rfl rfl (.slice oa l.length c) (ex_load1 rfl (M4.cell 3 rfl) (by kernel_rfl) Try.underlying32 rfl) ?_
  refine sx_val (by kernel_rfl) rfl rfl (.slice oa l.length c) (by kernel_rfl) ?_
  refine wpList_nil ?_
  refine sx_norm ?_
  refine wp_seq ?_
  refine wp_seq ?_
  refine wp_region_lit ?_
  refine sx_val (by kernel_rfl) rfl rfl (.int .i64 0) (by kernel_rfl) ?_
  refine wpList_nil ?_
  refine sx_norm ?_
  refine wp_block ?_
  refine sx_loop (fun j : Nat => [(0, .agg #[.slice o0 n0 c0, .slice o1 n1 c1, .slice o2 n2 c2, .slice o3 ol.length c3, .slice o4 ap.length c4, .slice o5 be.length c5]), (1, .agg #[.int .i64 ty, .int .i64 st, .slice orr nr cr, .slice oa l.length c]), (2, .pointer (some ⟨w.heap.size, 0, none⟩)), (3, .pointer (some ⟨W1.heap.size, 0, none⟩)), (5, .slice oa l.length c), (6, .int .i64 ((j : Nat) : Int)), (11, .pointer (some ⟨W1.heap.size, 3, none⟩)), (12, .slice oa l.length c)]) (fun gg j wr => j ≤ l.length ∧ l.length - j ≤ gg ∧ ((l.take j).any (goneV ol.length) = false) ∧ Below W3.heap.size W3 wr) (l.length) (0) (by kernel_rfl) ⟨Nat.zero_le _, Nat.le_refl _, rfl, Below.refl _ _⟩ ?_
  rintro gg j g' wr5 ⟨hj, hg, hG, hbl⟩
  replace HB := over HB hbl
  replace M2 := M2.below hbl
  replace M4 := M4.below hbl
  have z3 := hbl.size
  have HL := hbl
  clear hbl
  refine wp_seq ?_
  refine wp_seq ?_
  refine wp_region_lit ?_
  refine sx_val (by kernel_rfl) rfl rfl (.int .i64 ((j : Nat) : Int)) (by kernel_rfl) ?_
  refine sx_val (by kernel_rfl) rfl rfl (.slice oa l.length c) (by kernel_rfl) ?_
  refine sx_val (by kernel_rfl) rfl rfl (.int .i64 ((l.length : Nat) : Int)) (by kernel_rfl) ?_
  by_cases C1 : j < l.length
  · refine sx_bool (by kernel_rfl) rfl rfl (decide (((j : Nat) : Int) < ((l.length : Nat) : Int))) true (by kernel_rfl) (decide_eq_true (by omega)) ?_
    refine wpList_nil ?_
    refine sx_norm ?_
    refine sx_true (by kernel_rfl) ?_
    refine wp_skip ?_
    refine sx_norm ?_
    refine wp_seq ?_
    refine wp_block ?_
    refine wp_seq ?_
    obtain ⟨Y6, hW⟩ : ∃ W, wr5.drew = W := ⟨_, rfl⟩
    have hb : Below wr5.heap.size wr5 Y6 := hW ▸ below_drew (Below.refl _ _)
    replace HB := over HB hb
    replace M2 := M2.below hb
    replace M4 := M4.below hb
    replace HL := over HL hb
    have z4 := hb.size
    clear hb
    refine sd_begin (fun W => Cb W (w.heap.size) #[.slice o0 n0 c0, .slice o1 n1 c1, .slice o2 n2 c2, .slice o3 ol.length c3, .slice o4 ap.length c4, .slice o5 be.length c5] 30 ∧ Cb W (W1.heap.size) #[.int .i64 ty, .int .i64 st, .slice orr nr cr, .slice oa l.length c] 34 ∧ Rw W b o 2 (vF l) l.length oa ∧ Rw W b3 q3 16 (oF ol vc) ol.length o3 ∧ True) (by kernel_rfl) (by rw [hW]; exact ⟨M2, M4, (hv.below HB), (hr16.below HB), trivial⟩) ?_
    rw [hW]
    clear hW
    refine sd_take 0 rfl (by kernel_rfl) (by kernel_rfl) (by kernel_rfl) (by kernel_rfl) rfl rfl (.slice oa l.length c) (fun w9 _ => by kernel_rfl) (fun _ _ _ h => h) ⟨M2, M4, (hv.below HB), (hr16.below HB), trivial⟩ ?_
    refine sd_take 1 rfl (by kernel_rfl) (by kernel_rfl) (by kernel_rfl) (by kernel_rfl) rfl rfl (.int .i64 ((j : Nat) : Int)) (fun w9 _ => by kernel_rfl) (fun _ _ _ h => h) ⟨M2, M4, (hv.below HB), (hr16.below HB), trivial⟩ ?_
    refine sd_take 2 rfl (by kernel_rfl) (by kernel_rfl) (by kernel_rfl) (by kernel_rfl) rfl rfl (.pointer (some ⟨b, o + j * 2, none⟩)) (fun w9 h9 => ex_indexO (q := o) (m := l.length) (c := c) (k := j) (s := 2) rfl (by kernel_rfl) (h9.2.2.1.oa (k := j) (by omega)) (by kernel_rfl) Try.underlying32 (by kernel_rfl) (by omega) (by omega)) (fun _ _ _ h => h) ⟨M2, M4, (hv.below HB), (hr16.below HB), trivial⟩ ?_
    refine sd_take 3 rfl (by kernel_rfl) (by kernel_rfl) (by kernel_rfl) (by kernel_rfl) rfl rfl (.pointer (some ⟨b, o + j * 2, none⟩)) (fun w9 _ => by kernel_rfl) (fun _ _ _ h => h) ⟨M2, M4, (hv.below HB), (hr16.below HB), trivial⟩ ?_
    refine sd_take 4 rfl (by kernel_rfl) (by kernel_rfl) (by kernel_rfl) (by kernel_rfl) rfl rfl (.int .i64 ((l.getD j (0, false)).1)) (fun w9 h9 => ex_load1 rfl (h9.2.2.1.cell (k := j) (by omega) 0 rfl) (by kernel_rfl) Try.underlying3 rfl) (fun _ _ _ h => h) ⟨M2, M4, (hv.below HB), (hr16.below HB), trivial⟩ ?_
    by_cases C2 : (l.getD j (0, false)).1 < 0
    · refine sd_take 5 rfl (by kernel_rfl) (by kernel_rfl) (by kernel_rfl) (by kernel_rfl) rfl rfl (.bool true) (fun w9 _ => ex_bool (decide ((l.getD j (0, false)).1 < 0)) true (by kernel_rfl) (decide_eq_true (by omega))) (fun _ _ _ h => h) ⟨M2, M4, (hv.below HB), (hr16.below HB), trivial⟩ ?_
      refine sd_take 6 rfl (by kernel_rfl) (by kernel_rfl) (by kernel_rfl) (by kernel_rfl) rfl rfl (.bool true) (fun w9 _ => by kernel_rfl) (fun _ _ _ h => h) ⟨M2, M4, (hv.below HB), (hr16.below HB), trivial⟩ ?_
      refine sd_pass 7 rfl (by kernel_rfl) (by kernel_rfl) (by kernel_rfl) (by kernel_rfl) rfl rfl (fun _ _ _ h => h) ⟨M2, M4, (hv.below HB), (hr16.below HB), trivial⟩ ?_
      refine sd_pass 8 rfl (by kernel_rfl) (by kernel_rfl) (by kernel_rfl) (by kernel_rfl) rfl rfl (fun _ _ _ h => h) ⟨M2, M4, (hv.below HB), (hr16.below HB), trivial⟩ ?_
      refine sd_pass 9 rfl (by kernel_rfl) (by kernel_rfl) (by kernel_rfl) (by kernel_rfl) rfl rfl (fun _ _ _ h => h) ⟨M2, M4, (hv.below HB), (hr16.below HB), trivial⟩ ?_
      refine sd_pass 10 rfl (by kernel_rfl) (by kernel_rfl) (by kernel_rfl) (by kernel_rfl) rfl rfl (fun _ _ _ h => h) ⟨M2, M4, (hv.below HB), (hr16.below HB), trivial⟩ ?_
      refine sd_pass 11 rfl (by kernel_rfl) (by kernel_rfl) (by kernel_rfl) (by kernel_rfl) rfl rfl (fun _ _ _ h => h) ⟨M2, M4, (hv.below HB), (hr16.below HB), trivial⟩ ?_
      refine sd_pass 12 rfl (by kernel_rfl) (by kernel_rfl) (by kernel_rfl) (by kernel_rfl) rfl rfl (fun _ _ _ h => h) ⟨M2, M4, (hv.below HB), (hr16.below HB), trivial⟩ ?_
      refine sd_pass 13 rfl (by kernel_rfl) (by kernel_rfl) (by kernel_rfl) (by kernel_rfl) rfl rfl (fun _ _ _ h => h) ⟨M2, M4, (hv.below HB), (hr16.below HB), trivial⟩ ?_
      refine sd_pass 14 rfl (by kernel_rfl) (by kernel_rfl) (by kernel_rfl) (by kernel_rfl) rfl rfl (fun _ _ _ h => h) ⟨M2, M4, (hv.below HB), (hr16.below HB), trivial⟩ ?_
      refine sd_pass 15 rfl (by kernel_rfl) (by kernel_rfl) (by kernel_rfl) (by kernel_rfl) rfl rfl (fun _ _ _ h => h) ⟨M2, M4, (hv.below HB), (hr16.below HB), trivial⟩ ?_
      refine sd_take 16 rfl (by kernel_rfl) (by kernel_rfl) (by kernel_rfl) (by kernel_rfl) rfl rfl (.bool true) (fun w9 _ => by kernel_rfl) (fun _ _ _ h => h) ⟨M2, M4, (hv.below HB), (hr16.below HB), trivial⟩ ?_
      refine sd_done (by kernel_rfl) ?_
      refine sx_norm ?_
      refine sx_true (by kernel_rfl) ?_
      refine wp_seq ?_
      refine wp_region_lit ?_
      refine sx_val (by kernel_rfl) rfl rfl (.int .i64 2) (by kernel_rfl) ?_
      refine wpList_nil ?_
      refine sx_norm ?_
      refine wp_ret ?_
      refine sx_rb ?_
      refine sx_rs ?_
      refine sx_rs ?_
      refine sx_rb ?_
      refine sx_rs ?_
      refine sx_ret1 (.int .i64 2) rfl rfl (by kernel_rfl) ⟨ret_int ?_, HB⟩
      unfold chkR
      rw [if_pos (any_some (j := j) (by omega) (by unfold goneV; first | (rw [decide_eq_true (by omega : (l.getD j (0, false)).1 < 0)]; rfl) | (rw [decide_eq_true (by omega : ((ol.length : Nat) : Int) ≤ (l.getD j (0, false)).1), Bool.or_true])))]
    refine sd_take 5 rfl (by kernel_rfl) (by kernel_rfl) (by kernel_rfl) (by kernel_rfl) rfl rfl (.bool false) (fun w9 _ => ex_bool (decide ((l.getD j (0, false)).1 < 0)) false (by kernel_rfl) (decide_eq_false (by omega))) (fun _ _ _ h => h) ⟨M2, M4, (hv.below HB), (hr16.below HB), trivial⟩ ?_
    refine sd_take 6 rfl (by kernel_rfl) (by kernel_rfl) (by kernel_rfl) (by kernel_rfl) rfl rfl (.bool false) (fun w9 _ => by kernel_rfl) (fun _ _ _ h => h) ⟨M2, M4, (hv.below HB), (hr16.below HB), trivial⟩ ?_
    refine sd_take 7 rfl (by kernel_rfl) (by kernel_rfl) (by kernel_rfl) (by kernel_rfl) rfl rfl (.slice oa l.length c) (fun w9 _ => by kernel_rfl) (fun _ _ _ h => h) ⟨M2, M4, (hv.below HB), (hr16.below HB), trivial⟩ ?_
    refine sd_take 8 rfl (by kernel_rfl) (by kernel_rfl) (by kernel_rfl) (by kernel_rfl) rfl rfl (.int .i64 ((j : Nat) : Int)) (fun w9 _ => by kernel_rfl) (fun _ _ _ h => h) ⟨M2, M4, (hv.below HB), (hr16.below HB), trivial⟩ ?_
    refine sd_take 9 rfl (by kernel_rfl) (by kernel_rfl) (by kernel_rfl) (by kernel_rfl) rfl rfl (.pointer (some ⟨b, o + j * 2, none⟩)) (fun w9 h9 => ex_indexO (q := o) (m := l.length) (c := c) (k := j) (s := 2) rfl (by kernel_rfl) (h9.2.2.1.oa (k := j) (by omega)) (by kernel_rfl) Try.underlying32 (by kernel_rfl) (by omega) (by omega)) (fun _ _ _ h => h) ⟨M2, M4, (hv.below HB), (hr16.below HB), trivial⟩ ?_
    refine sd_take 10 rfl (by kernel_rfl) (by kernel_rfl) (by kernel_rfl) (by kernel_rfl) rfl rfl (.pointer (some ⟨b, o + j * 2, none⟩)) (fun w9 _ => by kernel_rfl) (fun _ _ _ h => h) ⟨M2, M4, (hv.below HB), (hr16.below HB), trivial⟩ ?_
    refine sd_take 11 rfl (by kernel_rfl) (by kernel_rfl) (by kernel_rfl) (by kernel_rfl) rfl rfl (.int .i64 ((l.getD j (0, false)).1)) (fun w9 h9 => ex_load1 rfl (h9.2.2.1.cell (k := j) (by omega) 0 rfl) (by kernel_rfl) Try.underlying3 rfl) (fun _ _ _ h => h) ⟨M2, M4, (hv.below HB), (hr16.below HB), trivial⟩ ?_
    refine sd_take 12 rfl (by kernel_rfl) (by kernel_rfl) (by kernel_rfl) (by kernel_rfl) rfl rfl (.pointer (some ⟨w.heap.size, 3, none⟩)) (fun w9 _ => by kernel_rfl) (fun _ _ _ h => h) ⟨M2, M4, (hv.below HB), (hr16.below HB), trivial⟩ ?_
    refine sd_take 13 rfl (by kernel_rfl) (by kernel_rfl) (by kernel_rfl) (by kernel_rfl) rfl rfl (.slice o3 ol.length c3) (fun w9 h9 => ex_load1 rfl (h9.1.cell 3 rfl) (by kernel_rfl) Try.underlying27 rfl) (fun _ _ _ h => h) ⟨M2, M4, (hv.below HB), (hr16.below HB), trivial⟩ ?_
    refine sd_take 14 rfl (by kernel_rfl) (by kernel_rfl) (by kernel_rfl) (by kernel_rfl) rfl rfl (.int .i64 ((ol.length : Nat) : Int)) (fun w9 _ => by kernel_rfl) (fun _ _ _ h => h) ⟨M2, M4, (hv.below HB), (hr16.below HB), trivial⟩ ?_
    by_cases C3 : (l.getD j (0, false)).1 ≥ ((ol.length : Nat) : Int)
    · refine sd_take 15 rfl (by kernel_rfl) (by kernel_rfl) (by kernel_rfl) (by kernel_rfl) rfl rfl (.bool true) (fun w9 _ => ex_bool (decide ((l.getD j (0, false)).1 ≥ ((ol.length : Nat) : Int))) true (by kernel_rfl) (decide_eq_true (by omega))) (fun _ _ _ h => h) ⟨M2, M4, (hv.below HB), (hr16.below HB), trivial⟩ ?_
      refine sd_take 16 rfl (by kernel_rfl) (by kernel_rfl) (by kernel_rfl) (by kernel_rfl) rfl rfl (.bool true) (fun w9 _ => by kernel_rfl) (fun _ _ _ h => h) ⟨M2, M4, (hv.below HB), (hr16.below HB), trivial⟩ ?_
      refine sd_done (by kernel_rfl) ?_
      refine sx_norm ?_
      refine sx_true (by kernel_rfl) ?_
      refine wp_seq ?_
      refine wp_region_lit ?_
      refine sx_val (by kernel_rfl) rfl rfl (.int .i64 2) (by kernel_rfl) ?_
      refine wpList_nil ?_
      refine sx_norm ?_
      refine wp_ret ?_
      refine sx_rb ?_
      refine sx_rs ?_
      refine sx_rs ?_
      refine sx_rb ?_
      refine sx_rs ?_
      refine sx_ret1 (.int .i64 2) rfl rfl (by kernel_rfl) ⟨ret_int ?_, HB⟩
      unfold chkR
      rw [if_pos (any_some (j := j) (by omega) (by unfold goneV; first | (rw [decide_eq_true (by omega : (l.getD j (0, false)).1 < 0)]; rfl) | (rw [decide_eq_true (by omega : ((ol.length : Nat) : Int) ≤ (l.getD j (0, false)).1), Bool.or_true])))]
    refine sd_take 15 rfl (by kernel_rfl) (by kernel_rfl) (by kernel_rfl) (by kernel_rfl) rfl rfl (.bool false) (fun w9 _ => ex_bool (decide ((l.getD j (0, false)).1 ≥ ((ol.length : Nat) : Int))) false (by kernel_rfl) (decide_eq_false (by omega))) (fun _ _ _ h => h) ⟨M2, M4, (hv.below HB), (hr16.below HB), trivial⟩ ?_
    refine sd_take 16 rfl (by kernel_rfl) (by kernel_rfl) (by kernel_rfl) (by kernel_rfl) rfl rfl (.bool false) (fun w9 _ => by kernel_rfl) (fun _ _ _ h => h) ⟨M2, M4, (hv.below HB), (hr16.below HB), trivial⟩ ?_
    refine sd_done (by kernel_rfl) ?_
    refine sx_norm ?_
    refine sx_false (by kernel_rfl) ?_
    refine wp_skip ?_
    refine sx_in ?_
    refine sx_norm ?_
    refine wp_region_lit ?_
    refine sx_val (by kernel_rfl) rfl rfl (.int .i64 ((j : Nat) : Int)) (by kernel_rfl) ?_
    refine sx_int (by kernel_rfl) rfl rfl .i64 (IntKind.i64.wrap (((j : Nat) : Int) + 1)) (((j + 1 : Nat) : Int)) (by kernel_rfl) (by rw [IntKind.wrap_i64]; omega) ?_
    refine sx_val (by kernel_rfl) rfl rfl (.int .i64 ((j + 1 : Nat) : Int)) (by kernel_rfl) ?_
    refine wpList_nil ?_
    refine sx_norm ?_
    exact sx_again (l.length - (j + 1)) (j + 1) (by omega) (by kernel_rfl) ⟨by omega, Nat.le_refl _, any_take (by omega) hG (by unfold goneV; rw [decide_eq_false (by omega), decide_eq_false (by omega)]; rfl), HL⟩
  refine sx_bool (by kernel_rfl) rfl rfl (decide (((j : Nat) : Int) < ((l.length : Nat) : Int))) false (by kernel_rfl) (decide_eq_false (by omega)) ?_
  refine wpList_nil ?_
  refine sx_norm ?_
  refine sx_false (by kernel_rfl) ?_
  refine wp_exit ?_
  refine sx_es ?_
  refine sx_es ?_
  refine sx_out ?_
  refine sx_norm ?_
  refine wp_seq ?_
  have hG9 : l.any (goneV ol.length) = false := any_none (by omega) hG
  have hex : Ex ol.length l := gone_ex (by rw [hG9]; decide)
  refine wp_region_lit ?_
  refine sx_val (by kernel_rfl) rfl rfl (.agg #[.int .i64 ty, .int .i64 st, .slice orr nr cr, .slice oa l.length c]) (ex_load rfl M4 (by kernel_rfl) Try.underlying34 rfl (by kernel_rfl)) ?_
  refine sx_call (by kernel_rfl) rfl rfl (refOrders16_n ty st orr oa nr cr c b o l ll wr5 (hv.below HB)) (by kernel_rfl) ?_
  rintro e W7 ⟨rfl, hb⟩
  replace HB := over HB hb
  replace M2 := M2.below hb
  replace M4 := M4.below hb
  have z4 := hb.size
  clear hb
  refine ⟨_, rfl, ?_⟩
  refine sx_val (by kernel_rfl) rfl rfl (.tuple #[.int .i64 (ordN l), .int .i64 (ordE l)]) (by kernel_rfl) ?_
  refine sx_val (by kernel_rfl) rfl rfl (.int .i64 (ordN l)) (by kernel_rfl) ?_
  refine sx_val (by kernel_rfl) rfl rfl (.int .i64 (ordE l)) (by kernel_rfl) ?_
  refine sx_val (by kernel_rfl) rfl rfl (.int .i64 (ordN l)) (by kernel_rfl) ?_
  refine sx_val (by kernel_rfl) rfl rfl (.int .i64 (ordE l)) (by kernel_rfl) ?_
  refine wpList_nil ?_
  refine sx_norm ?_
  refine wp_seq ?_
  refine wp_seq ?_
  refine wp_region_lit ?_
  refine sx_val (by kernel_rfl) rfl rfl (.int .i64 (ordE l)) (by kernel_rfl) ?_
  by_cases C4 : (ordE l) = 0
  · refine sx_bool (by kernel_rfl) rfl rfl (((ordE l) : Int) != (0 : Int)) false (by kernel_rfl) (by rw [bne_eq_false_iff_eq]; omega) ?_
    refine sx_val (by kernel_rfl) rfl rfl (.bool false) (by kernel_rfl) ?_
    refine sx_val (by kernel_rfl) rfl rfl (.slice oa l.length c) (by kernel_rfl) ?_
    refine sx_val (by kernel_rfl) rfl rfl (.int .i64 ((l.length : Nat) : Int)) (by kernel_rfl) ?_
    by_cases C5 : l.length = 0
    · refine sx_bool (by kernel_rfl) rfl rfl ((((l.length : Nat) : Int) : Int) == (0 : Int)) true (by kernel_rfl) (beq_iff_eq.2 (by omega)) ?_
      refine sx_val (by kernel_rfl) rfl rfl (.bool true) (by kernel_rfl) ?_
      refine wpList_nil ?_
      refine sx_norm ?_
      refine sx_true (by kernel_rfl) ?_
      refine wp_seq ?_
      refine wp_region_lit ?_
      refine sx_val (by kernel_rfl) rfl rfl (.int .i64 2) (by kernel_rfl) ?_
      refine wpList_nil ?_
      refine sx_norm ?_
      refine wp_ret ?_
      refine sx_rs ?_
      refine sx_ret1 (.int .i64 2) rfl rfl (by kernel_rfl) ⟨ret_int ?_, HB⟩
      unfold chkR
      rw [if_neg (by rw [hG9]; decide), if_pos (by first | exact .inr (by omega) | exact .inl (by assumption))]
    refine sx_bool (by kernel_rfl) rfl rfl ((((l.length : Nat) : Int) : Int) == (0 : Int)) false (by kernel_rfl) (beq_eq_false_iff_ne.2 (by omega)) ?_
    refine sx_val (by kernel_rfl) rfl rfl (.bool false) (by kernel_rfl) ?_
    refine wpList_nil ?_
    refine sx_norm ?_
    refine sx_false (by kernel_rfl) ?_
    refine wp_skip ?_
    refine sx_norm ?_
    refine wp_seq ?_
    refine wp_seq ?_
    refine wp_region_lit ?_
    refine sx_val (by kernel_rfl) rfl rfl (.int .i64 0) (by kernel_rfl) ?_
    refine wpList_nil ?_
    refine sx_norm ?_
    refine wp_block ?_
    refine sx_loop (fun u : Nat => [(0, .agg #[.slice o0 n0 c0, .slice o1 n1 c1, .slice o2 n2 c2, .slice o3 ol.length c3, .slice o4 ap.length c4, .slice o5 be.length c5]), (1, .agg #[.int .i64 ty, .int .i64 st, .slice orr nr cr, .slice oa l.length c]), (2, .pointer (some ⟨w.heap.size, 0, none⟩)), (3, .pointer (some ⟨W1.heap.size, 0, none⟩)), (5, .slice oa l.length c), (6, .int .i64 ((j : Nat) : Int)), (7, .int .i64 (ordN l)), (8, .int .i64 (ordE l)), (9, .int .i64 ((u : Nat) : Int)), (11, .pointer (some ⟨W1.heap.size, 3, none⟩)), (12, .slice oa l.length c), (13, .int .i64 ((j : Nat) : Int)), (14, .slice oa l.length c), (15, .int .i64 ((l.length : Nat) : Int)), (16, .bool false), (36, .tuple #[.int .i64 (ordN l), .int .i64 (ordE l)]), (37, .agg #[.int .i64 ty, .int .i64 st, .slice orr nr cr, .slice oa l.length c]), (38, .tuple #[.int .i64 (ordN l), .int .i64 (ordE l)]), (39, .int .i64 (ordN l)), (40, .int .i64 (ordE l)), (41, .int .i64 (ordE l)), (42, .bool false), (43, .bool false), (44, .slice oa l.length c), (45, .int .i64 ((l.length : Nat) : Int)), (46, .bool false), (47, .bool false)]) (fun gg u wr => u ≤ l.length ∧ l.length - u ≤ gg ∧ ((l.take u).any (offV ol) = false) ∧ Below W7.heap.size W7 wr) (l.length) (0) (by kernel_rfl) ⟨Nat.zero_le _, Nat.le_refl _, rfl, Below.refl _ _⟩ ?_
    rintro gg u g' wr8 ⟨hj, hg, hF, hbl⟩
    replace HB := over HB hbl
    replace M2 := M2.below hbl
    replace M4 := M4.below hbl
    have z5 := hbl.size
    have HL2 := hbl
    clear hbl
    refine wp_seq ?_
    refine wp_seq ?_
    refine wp_region_lit ?_
    refine sx_val (by kernel_rfl) rfl rfl (.int .i64 ((u : Nat) : Int)) (by kernel_rfl) ?_
    refine sx_val (by kernel_rfl) rfl rfl (.slice oa l.length c) (by kernel_rfl) ?_
    refine sx_val (by kernel_rfl) rfl rfl (.int .i64 ((l.length : Nat) : Int)) (by kernel_rfl) ?_
    by_cases C6 : u < l.length
    · refine sx_bool (by kernel_rfl) rfl rfl (decide (((u : Nat) : Int) < ((l.length : Nat) : Int))) true (by kernel_rfl) (decide_eq_true (by omega)) ?_
      refine wpList_nil ?_
      refine sx_norm ?_
      refine sx_true (by kernel_rfl) ?_
      refine wp_skip ?_
      refine sx_norm ?_
      refine wp_seq ?_
      refine wp_block ?_
      refine wp_seq ?_
      have hx9 := hex u (by omega)
      obtain ⟨k9, hk9⟩ := Int.eq_ofNat_of_zero_le hx9.1
      have hk8 : k9 < ol.length := by omega
      obtain ⟨Y9, hW⟩ : ∃ W, wr8.drew = W := ⟨_, rfl⟩
      have hb : Below wr8.heap.size wr8 Y9 := hW ▸ below_drew (Below.refl _ _)
      replace HB := over HB hb
      replace M2 := M2.below hb
      replace M4 := M4.below hb
      replace HL2 := over HL2 hb
      have z6 := hb.size
      clear hb
      refine sd_begin (fun W => Cb W (w.heap.size) #[.slice o0 n0 c0, .slice o1 n1 c1, .slice o2 n2 c2, .slice o3 ol.length c3, .slice o4 ap.length c4, .slice o5 be.length c5] 30 ∧ Cb W (W1.heap.size) #[.int .i64 ty, .int .i64 st, .slice orr nr cr, .slice oa l.length c] 34 ∧ Rw W b o 2 (vF l) l.length oa ∧ Rw W b3 q3 16 (oF ol vc) ol.length o3 ∧ True) (by kernel_rfl) (by rw [hW]; exact ⟨M2, M4, (hv.below HB), (hr16.below HB), trivial⟩) ?_
      rw [hW]
      clear hW
      refine sd_take 0 rfl (by kernel_rfl) (by kernel_rfl) (by kernel_rfl) (by kernel_rfl) rfl rfl (.pointer (some ⟨w.heap.size, 3, none⟩)) (fun w9 _ => by kernel_rfl) (fun _ _ _ h => h) ⟨M2, M4, (hv.below HB), (hr16.below HB), trivial⟩ ?_
      refine sd_take 1 rfl (by kernel_rfl) (by kernel_rfl) (by kernel_rfl) (by kernel_rfl) rfl rfl (.slice o3 ol.length c3) (fun w9 h9 => ex_load1 rfl (h9.1.cell 3 rfl) (by kernel_rfl) Try.underlying27 rfl) (fun _ _ _ h => h) ⟨M2, M4, (hv.below HB), (hr16.below HB), trivial⟩ ?_
      refine sd_take 2 rfl (by kernel_rfl) (by kernel_rfl) (by kernel_rfl) (by kernel_rfl) rfl rfl (.slice oa l.length c) (fun w9 _ => by kernel_rfl) (fun _ _ _ h => h) ⟨M2, M4, (hv.below HB), (hr16.below HB), trivial⟩ ?_
      refine sd_take 3 rfl (by kernel_rfl) (by kernel_rfl) (by kernel_rfl) (by kernel_rfl) rfl rfl (.int .i64 ((u : Nat) : Int)) (fun w9 _ => by kernel_rfl) (fun _ _ _ h => h) ⟨M2, M4, (hv.below HB), (hr16.below HB), trivial⟩ ?_
      refine sd_take 4 rfl (by kernel_rfl) (by kernel_rfl) (by kernel_rfl) (by kernel_rfl) rfl rfl (.pointer (some ⟨b, o + u * 2, none⟩)) (fun w9 h9 => ex_indexO (q := o) (m := l.length) (c := c) (k := u) (s := 2) rfl (by kernel_rfl) (h9.2.2.1.oa (k := u) (by omega)) (by kernel_rfl) Try.underlying32 (by kernel_rfl) (by omega) (by omega)) (fun _ _ _ h => h) ⟨M2, M4, (hv.below HB), (hr16.below HB), trivial⟩ ?_
      refine sd_take 5 rfl (by kernel_rfl) (by kernel_rfl) (by kernel_rfl) (by kernel_rfl) rfl rfl (.pointer (some ⟨b, o + u * 2, none⟩)) (fun w9 _ => by kernel_rfl) (fun _ _ _ h => h) ⟨M2, M4, (hv.below HB), (hr16.below HB), trivial⟩ ?_
      refine sd_take 6 rfl (by kernel_rfl) (by kernel_rfl) (by kernel_rfl) (by kernel_rfl) rfl rfl (.int .i64 ((l.getD u (0, false)).1)) (fun w9 h9 => ex_load1 rfl (h9.2.2.1.cell (k := u) (by omega) 0 rfl) (by kernel_rfl) Try.underlying3 rfl) (fun _ _ _ h => h) ⟨M2, M4, (hv.below HB), (hr16.below HB), trivial⟩ ?_
      refine sd_take 7 rfl (by kernel_rfl) (by kernel_rfl) (by kernel_rfl) (by kernel_rfl) rfl rfl (.pointer (some ⟨b3, q3 + k9 * 16, none⟩)) (fun w9 h9 => ex_indexO (q := q3) (m := ol.length) (c := c3) (k := k9) (s := 16) rfl (by kernel_rfl) (h9.2.2.2.1.oa (k := k9) (by omega)) (by rw [← hk9]; kernel_rfl) Try.underlying27 (by kernel_rfl) (by omega) (by omega)) (fun _ _ _ h => h) ⟨M2, M4, (hv.below HB), (hr16.below HB), trivial⟩ ?_
      refine sd_take 8 rfl (by kernel_rfl) (by kernel_rfl) (by kernel_rfl) (by kernel_rfl) rfl rfl (.pointer (some ⟨b3, q3 + k9 * 16 + 15, none⟩)) (fun w9 _ => by kernel_rfl) (fun _ _ _ h => h) ⟨M2, M4, (hv.below HB), (hr16.below HB), trivial⟩ ?_
      by_cases C7 : (ol.getD k9 or0).off = true
      · refine sd_take 9 rfl (by kernel_rfl) (by kernel_rfl) (by kernel_rfl) (by kernel_rfl) rfl rfl (.bool true) (fun w9 h9 => ex_load1 (v := .bool true) rfl (by have h8 := h9.2.2.2.1.cell (k := k9) (by omega) 15 rfl; rw [show (ol.getD k9 or0).off = true by simpa using C7] at h8; exact h8) (by kernel_rfl) Try.underlying4 rfl) (fun _ _ _ h => h) ⟨M2, M4, (hv.below HB), (hr16.below HB), trivial⟩ ?_
        refine sd_done (by kernel_rfl) ?_
        refine sx_norm ?_
        refine sx_true (by kernel_rfl) ?_
        refine wp_seq ?_
        refine wp_region_lit ?_
        refine sx_val (by kernel_rfl) rfl rfl (.int .i64 9) (by kernel_rfl) ?_
        refine wpList_nil ?_
        refine sx_norm ?_
        refine wp_ret ?_
        refine sx_rb ?_
        refine sx_rs ?_
        refine sx_rs ?_
        refine sx_rb ?_
        refine sx_rs ?_
        refine sx_ret1 (.int .i64 9) rfl rfl (by kernel_rfl) ⟨ret_int ?_, HB⟩
        unfold chkR
        rw [if_neg (by rw [hG9]; decide), if_neg (by omega), if_pos (any_some (j := u) (by omega) (by unfold offV; rw [hk9]; assumption))]
      refine sd_take 9 rfl (by kernel_rfl) (by kernel_rfl) (by kernel_rfl) (by kernel_rfl) rfl rfl (.bool false) (fun w9 h9 => ex_load1 (v := .bool false) rfl (by have h8 := h9.2.2.2.1.cell (k := k9) (by omega) 15 rfl; rw [show (ol.getD k9 or0).off = false by simpa using C7] at h8; exact h8) (by kernel_rfl) Try.underlying4 rfl) (fun _ _ _ h => h) ⟨M2, M4, (hv.below HB), (hr16.below HB), trivial⟩ ?_
      refine sd_done (by kernel_rfl) ?_
      refine sx_norm ?_
      refine sx_false (by kernel_rfl) ?_
      refine wp_skip ?_
      refine sx_in ?_
      refine sx_norm ?_
      refine wp_region_lit ?_
      refine sx_val (by kernel_rfl) rfl rfl (.int .i64 ((u : Nat) : Int)) (by kernel_rfl) ?_
      refine sx_int (by kernel_rfl) rfl rfl .i64 (IntKind.i64.wrap (((u : Nat) : Int) + 1)) (((u + 1 : Nat) : Int)) (by kernel_rfl) (by rw [IntKind.wrap_i64]; omega) ?_
      refine sx_val (by kernel_rfl) rfl rfl (.int .i64 ((u + 1 : Nat) : Int)) (by kernel_rfl) ?_
      refine wpList_nil ?_
      refine sx_norm ?_
      exact sx_again (l.length - (u + 1)) (u + 1) (by omega) (by kernel_rfl) ⟨by omega, Nat.le_refl _, any_take (by omega) hF (by unfold offV; rw [hk9]; simpa using (by assumption : ¬ (ol.getD k9 or0).off = true)), HL2⟩
    refine sx_bool (by kernel_rfl) rfl rfl (decide (((u : Nat) : Int) < ((l.length : Nat) : Int))) false (by kernel_rfl) (decide_eq_false (by omega)) ?_
    refine wpList_nil ?_
    refine sx_norm ?_
    refine sx_false (by kernel_rfl) ?_
    refine wp_exit ?_
    refine sx_es ?_
    refine sx_es ?_
    refine sx_out ?_
    refine sx_norm ?_
    refine wp_seq ?_
    refine wp_seq ?_
    have hF9 : l.any (offV ol) = false := any_none (by omega) hF
    refine wp_region_lit ?_
    refine sx_val (by kernel_rfl) rfl rfl (.int .i64 0) (by kernel_rfl) ?_
    refine wpList_nil ?_
    refine sx_norm ?_
    refine wp_block ?_
    refine sx_loop (fun v : Nat => [(0, .agg #[.slice o0 n0 c0, .slice o1 n1 c1, .slice o2 n2 c2, .slice o3 ol.length c3, .slice o4 ap.length c4, .slice o5 be.length c5]), (1, .agg #[.int .i64 ty, .int .i64 st, .slice orr nr cr, .slice oa l.length c]), (2, .pointer (some ⟨w.heap.size, 0, none⟩)), (3, .pointer (some ⟨W1.heap.size, 0, none⟩)), (5, .slice oa l.length c), (6, .int .i64 ((j : Nat) : Int)), (7, .int .i64 (ordN l)), (8, .int .i64 (ordE l)), (9, .int .i64 ((u : Nat) : Int)), (10, .int .i64 ((v : Nat) : Int)), (11, .pointer (some ⟨W1.heap.size, 3, none⟩)), (12, .slice oa l.length c), (13, .int .i64 ((j : Nat) : Int)), (14, .slice oa l.length c), (15, .int .i64 ((l.length : Nat) : Int)), (16, .bool false), (36, .tuple #[.int .i64 (ordN l), .int .i64 (ordE l)]), (37, .agg #[.int .i64 ty, .int .i64 st, .slice orr nr cr, .slice oa l.length c]), (38, .tuple #[.int .i64 (ordN l), .int .i64 (ordE l)]), (39, .int .i64 (ordN l)), (40, .int .i64 (ordE l)), (41, .int .i64 (ordE l)), (42, .bool false), (43, .bool false), (44, .slice oa l.length c), (45, .int .i64 ((l.length : Nat) : Int)), (46, .bool false), (47, .bool false), (48, .int .i64 ((u : Nat) : Int)), (49, .slice oa l.length c), (50, .int .i64 ((l.length : Nat) : Int)), (51, .bool false)]) (fun gg v wr => v ≤ l.length ∧ l.length - v ≤ gg ∧ (∀ i, i < v → idxV l (l.getD i (0, false)) = (i : Int)) ∧ Below wr8.heap.size wr8 wr) (l.length) (0) (by kernel_rfl) ⟨Nat.zero_le _, Nat.le_refl _, fun i hi => absurd hi (Nat.not_lt_zero i), Below.refl _ _⟩ ?_
    rintro gg v g' wr10 ⟨hj, hg, hO, hbl⟩
    replace HB := over HB hbl
    replace M2 := M2.below hbl
    replace M4 := M4.below hbl
    replace HL2 := over HL2 hbl
    have z6 := hbl.size
    have HL3 := hbl
    clear hbl
    refine wp_seq ?_
    refine wp_seq ?_
    refine wp_region_lit ?_
    refine sx_val (by kernel_rfl) rfl rfl (.int .i64 ((v : Nat) : Int)) (by kernel_rfl) ?_
    refine sx_val (by kernel_rfl) rfl rfl (.slice oa l.length c) (by kernel_rfl) ?_
    refine sx_val (by kernel_rfl) rfl rfl (.int .i64 ((l.length : Nat) : Int)) (by kernel_rfl) ?_
    by_cases C8 : v < l.length
    · refine sx_bool (by kernel_rfl) rfl rfl (decide (((v : Nat) : Int) < ((l.length : Nat) : Int))) true (by kernel_rfl) (decide_eq_true (by omega)) ?_
      refine wpList_nil ?_
      refine sx_norm ?_
      refine sx_true (by kernel_rfl) ?_
      refine wp_skip ?_
      refine sx_norm ?_
      refine wp_seq ?_
      refine wp_block ?_
      refine wp_seq ?_
      refine wp_region_lit ?_
      refine sx_val (by kernel_rfl) rfl rfl (.slice oa l.length c) (by kernel_rfl) ?_
      refine sx_val (by kernel_rfl) rfl rfl (.slice oa l.length c) (by kernel_rfl) ?_
      refine sx_val (by kernel_rfl) rfl rfl (.int .i64 ((v : Nat) : Int)) (by kernel_rfl) ?_
      refine sx_val (by kernel_rfl) rfl rfl (.pointer (some ⟨b, o + v * 2, none⟩)) (ex_indexO (q := o) (m := l.length) (c := c) (k := v) (s := 2) rfl (by kernel_rfl) ((hv.below HB).oa (k := v) (by omega)) (by kernel_rfl) Try.underlying32 (by kernel_rfl) (by omega) (by omega)) ?_
      refine sx_val (by kernel_rfl) rfl rfl (.agg #[.int .i64 ((l.getD v (0, false)).1), .bool (l.getD v (0, false)).2]) (ex_loadR rfl ((hv.below HB).range (k := v) (by omega)) (by kernel_rfl) Try.underlying52 rfl (by kernel_rfl)) ?_
      refine sx_call (by kernel_rfl) rfl rfl (refIndex_n (l.getD v (0, false)) l ll oa c b o wr10 (hv.below HB)) (by kernel_rfl) ?_
      rintro e W11 ⟨rfl, hb⟩
      replace HB := over HB hb
      replace M2 := M2.below hb
      replace M4 := M4.below hb
      replace HL2 := over HL2 hb
      replace HL3 := over HL3 hb
      have z7 := hb.size
      clear hb
      refine ⟨_, rfl, ?_⟩
      refine sx_val (by kernel_rfl) rfl rfl (.int .i64 ((v : Nat) : Int)) (by kernel_rfl) ?_
      by_cases C9 : (idxV l (l.getD v (0, false))) = ((v : Nat) : Int)
      · refine sx_bool (by kernel_rfl) rfl rfl (((idxV l (l.getD v (0, false))) : Int) != (((v : Nat) : Int) : Int)) false (by kernel_rfl) (by rw [bne_eq_false_iff_eq]; omega) ?_
        refine wpList_nil ?_
        refine sx_norm ?_
        refine sx_false (by kernel_rfl) ?_
        refine wp_skip ?_
        refine sx_in ?_
        refine sx_norm ?_
        refine wp_region_lit ?_
        refine sx_val (by kernel_rfl) rfl rfl (.int .i64 ((v : Nat) : Int)) (by kernel_rfl) ?_
        refine sx_int (by kernel_rfl) rfl rfl .i64 (IntKind.i64.wrap (((v : Nat) : Int) + 1)) (((v + 1 : Nat) : Int)) (by kernel_rfl) (by rw [IntKind.wrap_i64]; omega) ?_
        refine sx_val (by kernel_rfl) rfl rfl (.int .i64 ((v + 1 : Nat) : Int)) (by kernel_rfl) ?_
        refine wpList_nil ?_
        refine sx_norm ?_
        exact sx_again (l.length - (v + 1)) (v + 1) (by omega) (by kernel_rfl) ⟨by omega, Nat.le_refl _, one_more hO (by omega), HL3⟩
      refine sx_bool (by kernel_rfl) rfl rfl (((idxV l (l.getD v (0, false))) : Int) != (((v : Nat) : Int) : Int)) true (by kernel_rfl) (bne_iff_ne.2 (by omega)) ?_
      refine wpList_nil ?_
      refine sx_norm ?_
      refine sx_true (by kernel_rfl) ?_
      refine wp_seq ?_
      refine wp_region_lit ?_
      refine sx_val (by kernel_rfl) rfl rfl (.int .i64 6) (by kernel_rfl) ?_
      refine wpList_nil ?_
      refine sx_norm ?_
      refine wp_ret ?_
      refine sx_rb ?_
      refine sx_rs ?_
      refine sx_rs ?_
      refine sx_rb ?_
      refine sx_rs ?_
      refine sx_ret1 (.int .i64 6) rfl rfl (by kernel_rfl) ⟨ret_int ?_, HB⟩
      unfold chkR
      rw [if_neg (by rw [hG9]; decide), if_neg (by omega), if_neg (by rw [hF9]; decide), if_pos (fun h9 => absurd (h9 v (by omega)) (by omega))]
    refine sx_bool (by kernel_rfl) rfl rfl (decide (((v : Nat) : Int) < ((l.length : Nat) : Int))) false (by kernel_rfl) (decide_eq_false (by omega)) ?_
    refine wpList_nil ?_
    refine sx_norm ?_
    refine sx_false (by kernel_rfl) ?_
    refine wp_exit ?_
    refine sx_es ?_
    refine sx_es ?_
    refine sx_out ?_
    refine sx_norm ?_
    refine wp_seq ?_
    refine wp_seq ?_
    have hO9 : ∀ i, i < l.length → idxV l (l.getD i (0, false)) = (i : Int) := fun i hi => hO i (by omega)
    refine wp_region_lit ?_
    refine sx_val (by kernel_rfl) rfl rfl (.agg #[.slice o0 n0 c0, .slice o1 n1 c1, .slice o2 n2 c2, .slice o3 ol.length c3, .slice o4 ap.length c4, .slice o5 be.length c5]) (ex_load rfl M2 (by kernel_rfl) Try.underlying30 rfl (by kernel_rfl)) ?_
    refine sx_val (by kernel_rfl) rfl rfl (.slice oa l.length c) (by kernel_rfl) ?_
    by_cases C10 : (prdB ol l) = true
    · refine sx_call (by kernel_rfl) rfl rfl ((by have h8 := refPaired_n o0 o1 o2 o3 o4 o5 n0 n1 n2 ap.length be.length c0 c1 c2 c3 c4 c5 ol hn l ll oa c b o hex wr10 (hos.below HB) (hv.below HB); rw [show (prdB ol l) = true by simpa using C10] at h8; exact h8)) (by kernel_rfl) ?_
      rintro e W12 ⟨rfl, hb⟩
      replace HB := over HB hb
      replace M2 := M2.below hb
      replace M4 := M4.below hb
      replace HL2 := over HL2 hb
      replace HL3 := over HL3 hb
      have z7 := hb.size
      clear hb
      refine ⟨_, rfl, ?_⟩
      refine sx_val (by kernel_rfl) rfl rfl (.bool false) (by kernel_rfl) ?_
      refine wpList_nil ?_
      refine sx_norm ?_
      refine sx_false (by kernel_rfl) ?_
      refine wp_skip ?_
      refine sx_norm ?_
      refine wp_seq ?_
      refine wp_seq ?_
      refine wp_region_lit ?_
      refine sx_val (by kernel_rfl) rfl rfl (.agg #[.slice o0 n0 c0, .slice o1 n1 c1, .slice o2 n2 c2, .slice o3 ol.length c3, .slice o4 ap.length c4, .slice o5 be.length c5]) (ex_load rfl M2 (by kernel_rfl) Try.underlying30 rfl (by kernel_rfl)) ?_
      refine sx_val (by kernel_rfl) rfl rfl (.int .i64 (ordN l)) (by kernel_rfl) ?_
      by_cases C11 : (aptB (ordN l) ap) = true
      · refine sx_call (by kernel_rfl) rfl rfl ((by have h8 := refApart_n o0 o1 o2 o3 o4 o5 n0 n1 n2 ol.length be.length c0 c1 c2 c3 c4 c5 ol.length ap hra hla (ordN l) W12 (hpa.below HB); rw [show (aptB (ordN l) ap) = true by simpa using C11] at h8; exact h8)) (by kernel_rfl) ?_
        rintro e W13 ⟨rfl, hb⟩
        replace HB := over HB hb
        replace M2 := M2.below hb
        replace M4 := M4.below hb
        replace HL2 := over HL2 hb
        replace HL3 := over HL3 hb
        have z8 := hb.size
        clear hb
        refine ⟨_, rfl, ?_⟩
        refine sx_val (by kernel_rfl) rfl rfl (.bool false) (by kernel_rfl) ?_
        refine wpList_nil ?_
        refine sx_norm ?_
        refine sx_false (by kernel_rfl) ?_
        refine wp_skip ?_
        refine sx_norm ?_
        refine wp_seq ?_
        refine wp_seq ?_
        refine wp_region_lit ?_
        refine sx_val (by kernel_rfl) rfl rfl (.agg #[.slice o0 n0 c0, .slice o1 n1 c1, .slice o2 n2 c2, .slice o3 ol.length c3, .slice o4 ap.length c4, .slice o5 be.length c5]) (ex_load rfl M2 (by kernel_rfl) Try.underlying30 rfl (by kernel_rfl)) ?_
        refine sx_val (by kernel_rfl) rfl rfl (.int .i64 (ordN l)) (by kernel_rfl) ?_
        refine sx_val (by kernel_rfl) rfl rfl (.slice oa l.length c) (by kernel_rfl) ?_
        by_cases C12 : (befL (ordN l) be l) = true
        · refine sx_call (by kernel_rfl) rfl rfl ((by have h8 := refBefore_n o0 o1 o2 o3 o4 o5 n0 n1 n2 ap.length c0 c1 c2 c3 c4 c5 ol be hn hr hl (ordN l) W13 (hos.below HB) (hps.below HB) l ll oa c b o (hv.below HB); rw [show (befL (ordN l) be l) = true by simpa using C12] at h8; exact h8)) (by kernel_rfl) ?_
          rintro e W14 ⟨rfl, hb⟩
          replace HB := over HB hb
          replace M2 := M2.below hb
          replace M4 := M4.below hb
          replace HL2 := over HL2 hb
          replace HL3 := over HL3 hb
          have z9 := hb.size
          clear hb
          refine ⟨_, rfl, ?_⟩
          refine sx_val (by kernel_rfl) rfl rfl (.bool false) (by kernel_rfl) ?_
          refine wpList_nil ?_
          refine sx_norm ?_
          refine sx_false (by kernel_rfl) ?_
          refine wp_skip ?_
          refine sx_norm ?_
          refine wp_seq ?_
          refine wp_region_lit ?_
          refine sx_val (by kernel_rfl) rfl rfl (.int .i64 0) (by kernel_rfl) ?_
          refine wpList_nil ?_
          refine sx_norm ?_
          refine wp_ret ?_
          refine sx_ret1 (.int .i64 0) rfl rfl (by kernel_rfl) ⟨ret_int ?_, HB⟩
          unfold chkR
          rw [if_neg (by rw [hG9]; decide), if_neg (by omega), if_neg (by rw [hF9]; decide), if_neg (fun h9 => h9 hO9), if_neg (by rw [show (prdB ol l) = true by assumption]; decide), if_neg (by rw [show (aptB (ordN l) ap) = true by assumption]; decide), if_neg (by rw [show (befL (ordN l) be l) = true by assumption]; decide)]
        refine sx_call (by kernel_rfl) rfl rfl ((by have h8 := refBefore_n o0 o1 o2 o3 o4 o5 n0 n1 n2 ap.length c0 c1 c2 c3 c4 c5 ol be hn hr hl (ordN l) W13 (hos.below HB) (hps.below HB) l ll oa c b o (hv.below HB); rw [show (befL (ordN l) be l) = false by simpa using C12] at h8; exact h8)) (by kernel_rfl) ?_
        rintro e W15 ⟨rfl, hb⟩
        replace HB := over HB hb
        replace M2 := M2.below hb
        replace M4 := M4.below hb
        replace HL2 := over HL2 hb
        replace HL3 := over HL3 hb
        have z9 := hb.size
        clear hb
        refine ⟨_, rfl, ?_⟩
        refine sx_val (by kernel_rfl) rfl rfl (.bool true) (by kernel_rfl) ?_
        refine wpList_nil ?_
        refine sx_norm ?_
        refine sx_true (by kernel_rfl) ?_
        refine wp_seq ?_
        refine wp_region_lit ?_
        refine sx_val (by kernel_rfl) rfl rfl (.int .i64 21) (by kernel_rfl) ?_
        refine wpList_nil ?_
        refine sx_norm ?_
        refine wp_ret ?_
        refine sx_rs ?_
        refine sx_ret1 (.int .i64 21) rfl rfl (by kernel_rfl) ⟨ret_int ?_, HB⟩
        unfold chkR
        rw [if_neg (by rw [hG9]; decide), if_neg (by omega), if_neg (by rw [hF9]; decide), if_neg (fun h9 => h9 hO9), if_neg (by rw [show (prdB ol l) = true by assumption]; decide), if_neg (by rw [show (aptB (ordN l) ap) = true by assumption]; decide), if_pos (by simpa using (by assumption : ¬ (befL (ordN l) be l) = true))]
      refine sx_call (by kernel_rfl) rfl rfl ((by have h8 := refApart_n o0 o1 o2 o3 o4 o5 n0 n1 n2 ol.length be.length c0 c1 c2 c3 c4 c5 ol.length ap hra hla (ordN l) W12 (hpa.below HB); rw [show (aptB (ordN l) ap) = false by simpa using C11] at h8; exact h8)) (by kernel_rfl) ?_
      rintro e W16 ⟨rfl, hb⟩
      replace HB := over HB hb
      replace M2 := M2.below hb
      replace M4 := M4.below hb
      replace HL2 := over HL2 hb
      replace HL3 := over HL3 hb
      have z8 := hb.size
      clear hb
      refine ⟨_, rfl, ?_⟩
      refine sx_val (by kernel_rfl) rfl rfl (.bool true) (by kernel_rfl) ?_
      refine wpList_nil ?_
      refine sx_norm ?_
      refine sx_true (by kernel_rfl) ?_
      refine wp_seq ?_
      refine wp_region_lit ?_
      refine sx_val (by kernel_rfl) rfl rfl (.int .i64 20) (by kernel_rfl) ?_
      refine wpList_nil ?_
      refine sx_norm ?_
      refine wp_ret ?_
      refine sx_rs ?_
      refine sx_ret1 (.int .i64 20) rfl rfl (by kernel_rfl) ⟨ret_int ?_, HB⟩
      unfold chkR
      rw [if_neg (by rw [hG9]; decide), if_neg (by omega), if_neg (by rw [hF9]; decide), if_neg (fun h9 => h9 hO9), if_neg (by rw [show (prdB ol l) = true by assumption]; decide), if_pos (by simpa using (by assumption : ¬ (aptB (ordN l) ap) = true))]
    refine sx_call (by kernel_rfl) rfl rfl ((by have h8 := refPaired_n o0 o1 o2 o3 o4 o5 n0 n1 n2 ap.length be.length c0 c1 c2 c3 c4 c5 ol hn l ll oa c b o hex wr10 (hos.below HB) (hv.below HB); rw [show (prdB ol l) = false by simpa using C10] at h8; exact h8)) (by kernel_rfl) ?_
    rintro e W17 ⟨rfl, hb⟩
    replace HB := over HB hb
    replace M2 := M2.below hb
    replace M4 := M4.below hb
    replace HL2 := over HL2 hb
    replace HL3 := over HL3 hb
    have z7 := hb.size
    clear hb
    refine ⟨_, rfl, ?_⟩
    refine sx_val (by kernel_rfl) rfl rfl (.bool true) (by kernel_rfl) ?_
    refine wpList_nil ?_
    refine sx_norm ?_
    refine sx_true (by kernel_rfl) ?_
    refine wp_seq ?_
    refine wp_region_lit ?_
    refine sx_val (by kernel_rfl) rfl rfl (.int .i64 19) (by kernel_rfl) ?_
    refine wpList_nil ?_
    refine sx_norm ?_
    refine wp_ret ?_
    refine sx_rs ?_
    refine sx_ret1 (.int .i64 19) rfl rfl (by kernel_rfl) ⟨ret_int ?_, HB⟩
    unfold chkR
    rw [if_neg (by rw [hG9]; decide), if_neg (by omega), if_neg (by rw [hF9]; decide), if_neg (fun h9 => h9 hO9), if_pos (by simpa using (by assumption : ¬ (prdB ol l) = true))]
  refine sx_bool (by kernel_rfl) rfl rfl (((ordE l) : Int) != (0 : Int)) true (by kernel_rfl) (bne_iff_ne.2 (by omega)) ?_
  refine sx_val (by kernel_rfl) rfl rfl (.bool true) (by kernel_rfl) ?_
  refine sx_skip (by kernel_rfl) rfl rfl ?_
  refine sx_skip (by kernel_rfl) rfl rfl ?_
  refine sx_skip (by kernel_rfl) rfl rfl ?_
  refine sx_val (by kernel_rfl) rfl rfl (.bool true) (by kernel_rfl) ?_
  refine wpList_nil ?_
  refine sx_norm ?_
  refine sx_true (by kernel_rfl) ?_
  refine wp_seq ?_
  refine wp_region_lit ?_
  refine sx_val (by kernel_rfl) rfl rfl (.int .i64 2) (by kernel_rfl) ?_
  refine wpList_nil ?_
  refine sx_norm ?_
  refine wp_ret ?_
  refine sx_rs ?_
  refine sx_ret1 (.int .i64 2) rfl rfl (by kernel_rfl) ⟨ret_int ?_, HB⟩
  unfold chkR
  rw [if_neg (by rw [hG9]; decide), if_pos (by first | exact .inr (by omega) | exact .inl (by assumption))]

end Go.Proofs.Ytoliacfpjhanlaa.T


