/-
  DERIVED. Se: a part of the base of layer 13 (made by pack.py).
-/
import Derived.Test.YtoliacfpjhanlaaSb
import Derived.Test.YtoliacfpjhanlaaSc
/-! Less and Same, of sequence and of its specification; the orders of the specification (by gen_sd.py). -/
namespace Go.Proofs.Ytoliacfpjhanlaa.T
open Go.RowKit
set_option maxRecDepth 8000
attribute [local irreducible] wpList Code.wp wpAnyH

/-! ### sequences are compared -/
def cmpL : List (Int × Bool) → List (Int × Bool) → Int
  | [], [] => 0
  | [], _ :: _ => -1
  | _ :: _, [] => 1
  | x :: a, y :: b => if cmpV x y = 0 then cmpL a b else cmpV x y
theorem cmpL_gt {a b : List (Int × Bool)} {j : Nat} (ha : j < a.length) (hb : b.length ≤ j) : cmpL (a.drop j) (b.drop j) = 1 := by
  rw [drop_more (d := (0, false)) ha, List.drop_of_length_le hb]
  rfl
theorem cmpL_ne {a b : List (Int × Bool)} {j : Nat} (ha : j < a.length) (hb : j < b.length) (h : cmpV (a.getD j (0, false)) (b.getD j (0, false)) ≠ 0) : cmpL (a.drop j) (b.drop j) = cmpV (a.getD j (0, false)) (b.getD j (0, false)) := by
  rw [drop_more (d := (0, false)) ha, drop_more (d := (0, false)) hb, cmpL, if_neg h]
theorem cmpL_eq {a b : List (Int × Bool)} {j : Nat} (ha : j < a.length) (hb : j < b.length) (h : cmpV (a.getD j (0, false)) (b.getD j (0, false)) = 0) : cmpL (a.drop j) (b.drop j) = cmpL (a.drop (j + 1)) (b.drop (j + 1)) := by
  rw [drop_more (d := (0, false)) ha, drop_more (d := (0, false)) hb, cmpL, if_pos h]
theorem cmpL_lt {a b : List (Int × Bool)} {j : Nat} (ha : a.length ≤ j) (hb : j < b.length) : cmpL (a.drop j) (b.drop j) = -1 := by
  rw [drop_more (d := (0, false)) hb, List.drop_of_length_le ha]
  rfl
theorem cmpL_z {a b : List (Int × Bool)} {j : Nat} (ha : a.length ≤ j) (hb : b.length ≤ j) : cmpL (a.drop j) (b.drop j) = 0 := by
  rw [List.drop_of_length_le hb, List.drop_of_length_le ha]
  rfl
def lessL (a b : List (Int × Bool)) : Bool := decide (cmpL a b < 0)
theorem compareFunc_n (aa ab : Option Addr) (ca cb pa qa pb qb : Nat) (a b : List (Int × Bool)) (la : a.length ≤ 1000000) (_ : b.length ≤ 1000000) (w : World) (hra : Rw w pa qa 2 (vF a) a.length aa) (hrb : Rw w pb qb 2 (vF b) b.length ab) : Calls Try.prog 48 #[.slice aa a.length ca, .slice ab b.length cb, .func (.func 49) #[] #[]] w fun e w' => e = .returned (.int .i64 (cmpL a b)) ∧ Below w.heap.size w w' := by
  have HB : Below w.heap.size w w := Below.refl _ _
  refine sx_enter Try.func48 rfl [(0, .slice aa a.length ca), (1, .slice ab b.length cb), (2, .func (.func 49) #[] #[])] (by kernel_rfl) ?_
  refine wp_seq ?_
  refine wp_region_lit ?_
  refine sx_val (by kernel_rfl) rfl rfl (.int .i64 0) (by kernel_rfl) ?_
  refine wpList_nil ?_
  refine sx_norm ?_
  refine wp_seq ?_
  refine wp_seq ?_
  refine wp_region_lit ?_
  refine sx_val (by kernel_rfl) rfl rfl (.slice aa a.length ca) (by kernel_rfl) ?_
  refine sx_val (by kernel_rfl) rfl rfl (.int .i64 ((a.length : Nat) : Int)) (by kernel_rfl) ?_
  refine sx_val (by kernel_rfl) rfl rfl (.int .i64 0) (by kernel_rfl) ?_
  refine wpList_nil ?_
  refine sx_norm ?_
  refine wp_block ?_
  refine sx_loop (fun j : Nat => [(0, .slice aa a.length ca), (1, .slice ab b.length cb), (2, .func (.func 49) #[] #[]), (11, .slice aa a.length ca), (12, .int .i64 ((a.length : Nat) : Int)), (13, .int .i64 ((j : Nat) : Int))]) (fun gg j wr => j ≤ a.length ∧ j ≤ b.length ∧ a.length - j ≤ gg ∧ cmpL (a.drop j) (b.drop j) = cmpL a b ∧ Below w.heap.size w wr) (a.length) (0) (by kernel_rfl) ⟨Nat.zero_le _, Nat.zero_le _, Nat.le_refl _, rfl, Below.refl _ _⟩ ?_
  rintro gg j g' wr ⟨hj, hj2, hg, hI, hbl⟩
  replace HB := over HB hbl
  have z1 := hbl.size
  have HL := hbl
  clear hbl
  refine wp_seq ?_
  refine wp_region_lit ?_
  by_cases C1 : j < a.length
  · refine sx_bool (by kernel_rfl) rfl rfl (decide (((j : Nat) : Int) < ((a.length : Nat) : Int))) true (by kernel_rfl) (decide_eq_true (by omega)) ?_
    refine wpList_nil ?_
    refine sx_norm ?_
    refine wp_seq ?_
    refine sx_true (by kernel_rfl) ?_
    refine wp_skip ?_
    refine sx_norm ?_
    refine wp_seq ?_
    refine wp_block ?_
    refine wp_seq ?_
    refine wp_region_lit ?_
    refine sx_val (by kernel_rfl) rfl rfl (.int .i64 ((j : Nat) : Int)) (by kernel_rfl) ?_
    refine sx_val (by kernel_rfl) rfl rfl (.pointer (some ⟨pa, qa + j * 2, none⟩)) (ex_indexO (q := qa) (m := a.length) (c := ca) (k := j) (s := 2) rfl (by kernel_rfl) ((hra.below HB).oa (k := j) (by omega)) (by kernel_rfl) Try.underlying32 (by kernel_rfl) (by omega) (by omega)) ?_
    refine sx_val (by kernel_rfl) rfl rfl (.agg #[.int .i64 ((a.getD j (0, false)).1), .bool (a.getD j (0, false)).2]) (ex_loadR rfl ((hra.below HB).range (k := j) (by omega)) (by kernel_rfl) Try.underlying52 rfl (by kernel_rfl)) ?_
    obtain ⟨W1, hW⟩ : ∃ W, wr.alloc (.cells #[.int .i64 0, .bool false] 52) = W := ⟨_, rfl⟩
    have hb := hW ▸ below_alloc wr (.cells #[.int .i64 0, .bool false] 52)
    have hq : Cb W1 wr.heap.size #[.int .i64 0, .bool false] 52 := hW ▸ Cb.made wr #[.int .i64 0, .bool false] 52
    refine sx_mem (by kernel_rfl) rfl rfl (.pointer (some ⟨wr.heap.size, 0, none⟩)) W1 (by rw [← hW]; kernel_rfl) ?_
    replace HB := over HB hb
    replace HL := over HL hb
    have z2 := hb.size
    have M2 := hq
    have yM2 := hq.lt
    clear hq hb hW
    refine sx_val (by kernel_rfl) rfl rfl (.int .i64 ((j : Nat) : Int)) (by kernel_rfl) ?_
    refine sx_store (cells := #[.int .i64 ((a.getD j (0, false)).1), .bool (a.getD j (0, false)).2]) (by kernel_rfl) rfl rfl M2 (by kernel_rfl) (by kernel_rfl) (by kernel_rfl) (by kernel_rfl) (by kernel_rfl) ?_
    obtain ⟨W3, hW⟩ : ∃ W, W1.setRow (wr.heap.size) #[.int .i64 ((a.getD j (0, false)).1), .bool (a.getD j (0, false)).2] = W := ⟨_, rfl⟩
    have hg : W1.grownBy W3 (some (wr.heap.size)) := hW ▸ grown_row _ _ _
    have hq : Cb W3 (wr.heap.size) #[.int .i64 ((a.getD j (0, false)).1), .bool (a.getD j (0, false)).2] 52 := hW ▸ Cb.row M2 _
    rw [hW]
    replace HB := HB.grown hg (by omega) (fun x e => by simp only [Option.some.injEq] at e; omega)
    replace HL := HL.grown hg (by omega) (fun x e => by simp only [Option.some.injEq] at e; omega)
    have z3 := hg.size
    replace M2 := hq
    clear hq hg hW
    refine wpList_nil ?_
    refine sx_norm ?_
    refine wp_seq ?_
    refine wp_seq ?_
    refine wp_region_lit ?_
    refine sx_val (by kernel_rfl) rfl rfl (.int .i64 ((j : Nat) : Int)) (by kernel_rfl) ?_
    refine sx_val (by kernel_rfl) rfl rfl (.slice ab b.length cb) (by kernel_rfl) ?_
    refine sx_val (by kernel_rfl) rfl rfl (.int .i64 ((b.length : Nat) : Int)) (by kernel_rfl) ?_
    by_cases C2 : j ≥ b.length
    · refine sx_bool (by kernel_rfl) rfl rfl (decide (((j : Nat) : Int) ≥ ((b.length : Nat) : Int))) true (by kernel_rfl) (decide_eq_true (by omega)) ?_
      refine wpList_nil ?_
      refine sx_norm ?_
      refine sx_true (by kernel_rfl) ?_
      refine wp_seq ?_
      refine wp_region_lit ?_
      refine sx_val (by kernel_rfl) rfl rfl (.int .i64 1) (by kernel_rfl) ?_
      refine wpList_nil ?_
      refine sx_norm ?_
      refine wp_ret ?_
      refine sx_rs ?_
      refine sx_rb ?_
      refine sx_rs ?_
      refine sx_rs ?_
      refine sx_rb ?_
      refine sx_rs ?_
      exact sx_ret1 (.int .i64 1) rfl rfl (by kernel_rfl) ⟨ret_int ((cmpL_gt (by omega) (by omega)).symm.trans hI), HB⟩
    refine sx_bool (by kernel_rfl) rfl rfl (decide (((j : Nat) : Int) ≥ ((b.length : Nat) : Int))) false (by kernel_rfl) (decide_eq_false (by omega)) ?_
    refine wpList_nil ?_
    refine sx_norm ?_
    refine sx_false (by kernel_rfl) ?_
    refine wp_skip ?_
    refine sx_norm ?_
    refine wp_seq ?_
    refine wp_region_lit ?_
    refine sx_val (by kernel_rfl) rfl rfl (.slice ab b.length cb) (by kernel_rfl) ?_
    refine sx_val (by kernel_rfl) rfl rfl (.int .i64 ((j : Nat) : Int)) (by kernel_rfl) ?_
    refine sx_val (by kernel_rfl) rfl rfl (.pointer (some ⟨pb, qb + j * 2, none⟩)) (ex_indexO (q := qb) (m := b.length) (c := cb) (k := j) (s := 2) rfl (by kernel_rfl) ((hrb.below HB).oa (k := j) (by omega)) (by kernel_rfl) Try.underlying32 (by kernel_rfl) (by omega) (by omega)) ?_
    refine sx_val (by kernel_rfl) rfl rfl (.agg #[.int .i64 ((b.getD j (0, false)).1), .bool (b.getD j (0, false)).2]) (ex_loadR rfl ((hrb.below HB).range (k := j) (by omega)) (by kernel_rfl) Try.underlying52 rfl (by kernel_rfl)) ?_
    obtain ⟨W4, hW⟩ : ∃ W, W3.alloc (.cells #[.int .i64 0, .bool false] 52) = W := ⟨_, rfl⟩
    have hb := hW ▸ below_alloc W3 (.cells #[.int .i64 0, .bool false] 52)
    have hq : Cb W4 W3.heap.size #[.int .i64 0, .bool false] 52 := hW ▸ Cb.made W3 #[.int .i64 0, .bool false] 52
    refine sx_mem (by kernel_rfl) rfl rfl (.pointer (some ⟨W3.heap.size, 0, none⟩)) W4 (by rw [← hW]; kernel_rfl) ?_
    replace HB := over HB hb
    replace HL := over HL hb
    replace M2 := M2.below hb
    have z4 := hb.size
    have M5 := hq
    have yM5 := hq.lt
    clear hq hb hW
    refine sx_store (cells := #[.int .i64 ((b.getD j (0, false)).1), .bool (b.getD j (0, false)).2]) (by kernel_rfl) rfl rfl M5 (by kernel_rfl) (by kernel_rfl) (by kernel_rfl) (by kernel_rfl) (by kernel_rfl) ?_
    obtain ⟨W6, hW⟩ : ∃ W, W4.setRow (W3.heap.size) #[.int .i64 ((b.getD j (0, false)).1), .bool (b.getD j (0, false)).2] = W := ⟨_, rfl⟩
    have hg : W4.grownBy W6 (some (W3.heap.size)) := hW ▸ grown_row _ _ _
    have hq : Cb W6 (W3.heap.size) #[.int .i64 ((b.getD j (0, false)).1), .bool (b.getD j (0, false)).2] 52 := hW ▸ Cb.row M5 _
    rw [hW]
    replace HB := HB.grown hg (by omega) (fun x e => by simp only [Option.some.injEq] at e; omega)
    replace HL := HL.grown hg (by omega) (fun x e => by simp only [Option.some.injEq] at e; omega)
    replace M2 := M2.kept hg (by omega)
    have z5 := hg.size
    replace M5 := hq
    clear hq hg hW
    refine wpList_nil ?_
    refine sx_norm ?_
    refine wp_seq ?_
    refine wp_region_lit ?_
    refine sx_val (by kernel_rfl) rfl rfl (.func (.func 49) #[] #[]) (by kernel_rfl) ?_
    refine sx_val (by kernel_rfl) rfl rfl (.agg #[.int .i64 ((a.getD j (0, false)).1), .bool (a.getD j (0, false)).2]) (ex_load rfl M2 (by kernel_rfl) Try.underlying52 rfl (by kernel_rfl)) ?_
    refine sx_val (by kernel_rfl) rfl rfl (.agg #[.int .i64 ((b.getD j (0, false)).1), .bool (b.getD j (0, false)).2]) (ex_load rfl M5 (by kernel_rfl) Try.underlying52 rfl (by kernel_rfl)) ?_
    refine sx_call (by kernel_rfl) rfl rfl (compare_n (a.getD j (0, false)) (b.getD j (0, false)) W6) (by kernel_rfl) ?_
    rintro e W7 ⟨rfl, hb⟩
    replace HB := over HB hb
    replace HL := over HL hb
    replace M2 := M2.below hb
    replace M5 := M5.below hb
    have z6 := hb.size
    clear hb
    refine ⟨_, rfl, ?_⟩
    refine sx_val (by kernel_rfl) rfl rfl (.int .i64 (cmpV (a.getD j (0, false)) (b.getD j (0, false)))) (by kernel_rfl) ?_
    refine wpList_nil ?_
    refine sx_norm ?_
    refine wp_seq ?_
    refine wp_region_lit ?_
    refine sx_val (by kernel_rfl) rfl rfl (.int .i64 (cmpV (a.getD j (0, false)) (b.getD j (0, false)))) (by kernel_rfl) ?_
    by_cases C3 : (cmpV (a.getD j (0, false)) (b.getD j (0, false))) = 0
    · refine sx_bool (by kernel_rfl) rfl rfl (((cmpV (a.getD j (0, false)) (b.getD j (0, false))) : Int) != (0 : Int)) false (by kernel_rfl) (by rw [bne_eq_false_iff_eq]; omega) ?_
      refine wpList_nil ?_
      refine sx_norm ?_
      refine sx_false (by kernel_rfl) ?_
      refine wp_skip ?_
      refine sx_in ?_
      refine sx_norm ?_
      refine wp_region_lit ?_
      refine sx_int (by kernel_rfl) rfl rfl .i64 (IntKind.i64.wrap (((j : Nat) : Int) + 1)) (((j + 1 : Nat) : Int)) (by kernel_rfl) (by rw [IntKind.wrap_i64]; omega) ?_
      refine sx_val (by kernel_rfl) rfl rfl (.int .i64 ((j + 1 : Nat) : Int)) (by kernel_rfl) ?_
      refine wpList_nil ?_
      refine sx_norm ?_
      exact sx_again (a.length - (j + 1)) (j + 1) (by omega) (by kernel_rfl) ⟨by omega, by omega, Nat.le_refl _, (cmpL_eq (by omega) (by omega) (by omega)).symm.trans hI, HL⟩
    refine sx_bool (by kernel_rfl) rfl rfl (((cmpV (a.getD j (0, false)) (b.getD j (0, false))) : Int) != (0 : Int)) true (by kernel_rfl) (bne_iff_ne.2 (by omega)) ?_
    refine wpList_nil ?_
    refine sx_norm ?_
    refine sx_true (by kernel_rfl) ?_
    refine wp_seq ?_
    refine wp_region_lit ?_
    refine sx_val (by kernel_rfl) rfl rfl (.int .i64 (cmpV (a.getD j (0, false)) (b.getD j (0, false)))) (by kernel_rfl) ?_
    refine sx_val (by kernel_rfl) rfl rfl (.int .i64 (cmpV (a.getD j (0, false)) (b.getD j (0, false)))) (by kernel_rfl) ?_
    refine wpList_nil ?_
    refine sx_norm ?_
    refine wp_ret ?_
    refine sx_rb ?_
    refine sx_rs ?_
    refine sx_rs ?_
    refine sx_rb ?_
    refine sx_rs ?_
    exact sx_ret1 (.int .i64 (cmpV (a.getD j (0, false)) (b.getD j (0, false)))) rfl rfl (by kernel_rfl) ⟨ret_int ((cmpL_ne (by omega) (by omega) (by omega)).symm.trans hI), HB⟩
  refine sx_bool (by kernel_rfl) rfl rfl (decide (((j : Nat) : Int) < ((a.length : Nat) : Int))) false (by kernel_rfl) (decide_eq_false (by omega)) ?_
  refine wpList_nil ?_
  refine sx_norm ?_
  refine wp_seq ?_
  refine sx_false (by kernel_rfl) ?_
  refine wp_exit ?_
  refine sx_es ?_
  refine sx_es ?_
  refine sx_out ?_
  refine sx_norm ?_
  refine wp_seq ?_
  refine wp_seq ?_
  refine wp_region_lit ?_
  refine sx_val (by kernel_rfl) rfl rfl (.slice aa a.length ca) (by kernel_rfl) ?_
  refine sx_val (by kernel_rfl) rfl rfl (.int .i64 ((a.length : Nat) : Int)) (by kernel_rfl) ?_
  refine sx_val (by kernel_rfl) rfl rfl (.slice ab b.length cb) (by kernel_rfl) ?_
  refine sx_val (by kernel_rfl) rfl rfl (.int .i64 ((b.length : Nat) : Int)) (by kernel_rfl) ?_
  by_cases C4 : a.length < b.length
  · refine sx_bool (by kernel_rfl) rfl rfl (decide (((a.length : Nat) : Int) < ((b.length : Nat) : Int))) true (by kernel_rfl) (decide_eq_true (by omega)) ?_
    refine wpList_nil ?_
    refine sx_norm ?_
    refine sx_true (by kernel_rfl) ?_
    refine wp_seq ?_
    refine wp_region_lit ?_
    refine sx_val (by kernel_rfl) rfl rfl (.int .i64 (-1)) (by kernel_rfl) ?_
    refine wpList_nil ?_
    refine sx_norm ?_
    refine wp_ret ?_
    refine sx_rs ?_
    exact sx_ret1 (.int .i64 (-1)) rfl rfl (by kernel_rfl) ⟨ret_int ((cmpL_lt (by omega) (by omega)).symm.trans hI), HB⟩
  refine sx_bool (by kernel_rfl) rfl rfl (decide (((a.length : Nat) : Int) < ((b.length : Nat) : Int))) false (by kernel_rfl) (decide_eq_false (by omega)) ?_
  refine wpList_nil ?_
  refine sx_norm ?_
  refine sx_false (by kernel_rfl) ?_
  refine wp_skip ?_
  refine sx_norm ?_
  refine wp_seq ?_
  refine wp_region_lit ?_
  refine sx_val (by kernel_rfl) rfl rfl (.int .i64 0) (by kernel_rfl) ?_
  refine wpList_nil ?_
  refine sx_norm ?_
  refine wp_ret ?_
  exact sx_ret1 (.int .i64 0) rfl rfl (by kernel_rfl) ⟨ret_int ((cmpL_z (by omega) (by omega)).symm.trans hI), HB⟩
theorem less_n (aa ab : Option Addr) (ca cb pa qa pb qb : Nat) (a b : List (Int × Bool)) (la : a.length ≤ 1000000) (lb : b.length ≤ 1000000) (w : World) (hra : Rw w pa qa 2 (vF a) a.length aa) (hrb : Rw w pb qb 2 (vF b) b.length ab) : Calls Try.prog 20 #[.slice aa a.length ca, .slice ab b.length cb] w fun e w' => e = .returned (.bool (lessL a b)) ∧ Below w.heap.size w w' := by
  have HB : Below w.heap.size w w := Below.refl _ _
  refine sx_enter Try.func20 rfl [(0, .slice aa a.length ca), (1, .slice ab b.length cb)] (by kernel_rfl) ?_
  refine wp_seq ?_
  refine wp_region_lit ?_
  refine sx_val (by kernel_rfl) rfl rfl (.bool false) (by kernel_rfl) ?_
  refine wpList_nil ?_
  refine sx_norm ?_
  refine wp_seq ?_
  refine wp_region_lit ?_
  refine sx_val (by kernel_rfl) rfl rfl (.slice aa a.length ca) (by kernel_rfl) ?_
  refine sx_val (by kernel_rfl) rfl rfl (.slice ab b.length cb) (by kernel_rfl) ?_
  refine sx_call (by kernel_rfl) rfl rfl (compareFunc_n aa ab ca cb pa qa pb qb a b la lb w (hra.below HB) (hrb.below HB)) (by kernel_rfl) ?_
  rintro e W1 ⟨rfl, hb⟩
  replace HB := over HB hb
  have z1 := hb.size
  clear hb
  refine ⟨_, rfl, ?_⟩
  refine sx_val (by kernel_rfl) rfl rfl (.bool (decide ((cmpL a b) < 0))) (by kernel_rfl) ?_
  refine sx_val (by kernel_rfl) rfl rfl (.bool (decide ((cmpL a b) < 0))) (by kernel_rfl) ?_
  refine wpList_nil ?_
  refine sx_norm ?_
  refine wp_ret ?_
  exact sx_ret1 (.bool (decide ((cmpL a b) < 0))) rfl rfl (by kernel_rfl) ⟨rfl, HB⟩
theorem sameL_ne {a b : List (Int × Bool)} {j : Nat} (h : ¬ ((a.getD j (0, false)).1 = (b.getD j (0, false)).1 ∧ (a.getD j (0, false)).2 = (b.getD j (0, false)).2)) : a ≠ b := fun e => h (by rw [e]; exact ⟨rfl, rfl⟩)
theorem take_same {a b : List (Int × Bool)} {j : Nat} (ha : j < a.length) (hb : j < b.length) (ht : a.take j = b.take j) (h : (a.getD j (0, false)).1 = (b.getD j (0, false)).1 ∧ (a.getD j (0, false)).2 = (b.getD j (0, false)).2) : a.take (j + 1) = b.take (j + 1) := by
  rw [take_more (d := (0, false)) ha, take_more (d := (0, false)) hb, ht, Prod.ext h.1 h.2]
theorem take_end {a b : List (Int × Bool)} {j : Nat} (ha : a.length ≤ j) (hl : a.length = b.length) (ht : a.take j = b.take j) : a = b := by
  rwa [List.take_of_length_le ha, List.take_of_length_le (by omega)] at ht
theorem equalV_n (aa ab : Option Addr) (ca cb pa qa pb qb : Nat) (a b : List (Int × Bool)) (la : a.length ≤ 1000000) (lb : b.length ≤ 1000000) (w : World) (hra : Rw w pa qa 2 (vF a) a.length aa) (hrb : Rw w pb qb 2 (vF b) b.length ab) : Calls Try.prog 50 #[.slice aa a.length ca, .slice ab b.length cb] w fun e w' => e = .returned (.bool (decide (a = b))) ∧ Below w.heap.size w w' := by
  have HB : Below w.heap.size w w := Below.refl _ _
  refine sx_enter Try.func50 rfl [(0, .slice aa a.length ca), (1, .slice ab b.length cb)] (by kernel_rfl) ?_
  refine wp_seq ?_
  refine wp_region_lit ?_
  refine sx_val (by kernel_rfl) rfl rfl (.bool false) (by kernel_rfl) ?_
  refine wpList_nil ?_
  refine sx_norm ?_
  refine wp_seq ?_
  refine wp_seq ?_
  refine wp_region_lit ?_
  refine sx_val (by kernel_rfl) rfl rfl (.slice aa a.length ca) (by kernel_rfl) ?_
  refine sx_val (by kernel_rfl) rfl rfl (.int .i64 ((a.length : Nat) : Int)) (by kernel_rfl) ?_
  refine sx_val (by kernel_rfl) rfl rfl (.slice ab b.length cb) (by kernel_rfl) ?_
  refine sx_val (by kernel_rfl) rfl rfl (.int .i64 ((b.length : Nat) : Int)) (by kernel_rfl) ?_
  by_cases C1 : a.length = b.length
  · refine sx_bool (by kernel_rfl) rfl rfl ((((a.length : Nat) : Int) : Int) != (((b.length : Nat) : Int) : Int)) false (by kernel_rfl) (by rw [bne_eq_false_iff_eq]; omega) ?_
    refine wpList_nil ?_
    refine sx_norm ?_
    refine sx_false (by kernel_rfl) ?_
    refine wp_skip ?_
    refine sx_norm ?_
    refine wp_seq ?_
    refine wp_seq ?_
    refine wp_region_lit ?_
    refine sx_val (by kernel_rfl) rfl rfl (.slice aa a.length ca) (by kernel_rfl) ?_
    refine sx_val (by kernel_rfl) rfl rfl (.int .i64 ((a.length : Nat) : Int)) (by kernel_rfl) ?_
    refine sx_val (by kernel_rfl) rfl rfl (.int .i64 0) (by kernel_rfl) ?_
    refine wpList_nil ?_
    refine sx_norm ?_
    refine wp_block ?_
    refine sx_loop (fun j : Nat => [(0, .slice aa a.length ca), (1, .slice ab b.length cb), (6, .slice aa a.length ca), (7, .int .i64 ((a.length : Nat) : Int)), (8, .slice ab b.length cb), (9, .int .i64 ((b.length : Nat) : Int)), (10, .bool false), (11, .slice aa a.length ca), (12, .int .i64 ((a.length : Nat) : Int)), (13, .int .i64 ((j : Nat) : Int))]) (fun gg j wr => j ≤ a.length ∧ a.length - j ≤ gg ∧ a.take j = b.take j ∧ Below w.heap.size w wr) (a.length) (0) (by kernel_rfl) ⟨Nat.zero_le _, Nat.le_refl _, rfl, Below.refl _ _⟩ ?_
    rintro gg j g' wr ⟨hj, hg, hI, hbl⟩
    replace HB := over HB hbl
    have z1 := hbl.size
    have HL := hbl
    clear hbl
    refine wp_seq ?_
    refine wp_region_lit ?_
    by_cases C2 : j < a.length
    · refine sx_bool (by kernel_rfl) rfl rfl (decide (((j : Nat) : Int) < ((a.length : Nat) : Int))) true (by kernel_rfl) (decide_eq_true (by omega)) ?_
      refine wpList_nil ?_
      refine sx_norm ?_
      refine wp_seq ?_
      refine sx_true (by kernel_rfl) ?_
      refine wp_skip ?_
      refine sx_norm ?_
      refine wp_seq ?_
      refine wp_block ?_
      refine wp_seq ?_
      refine wp_region_lit ?_
      refine sx_val (by kernel_rfl) rfl rfl (.int .i64 ((j : Nat) : Int)) (by kernel_rfl) ?_
      refine sx_val (by kernel_rfl) rfl rfl (.int .i64 ((j : Nat) : Int)) (by kernel_rfl) ?_
      refine wpList_nil ?_
      refine sx_norm ?_
      refine wp_seq ?_
      obtain ⟨Y1, hW⟩ : ∃ W, wr.drew = W := ⟨_, rfl⟩
      have hb : Below wr.heap.size wr Y1 := hW ▸ below_drew (Below.refl _ _)
      replace HB := over HB hb
      replace HL := over HL hb
      have z2 := hb.size
      clear hb
      refine sd_begin (fun W => Rw W pa qa 2 (vF a) a.length aa ∧ Rw W pb qb 2 (vF b) b.length ab ∧ True) (by kernel_rfl) (by rw [hW]; exact ⟨(hra.below HB), (hrb.below HB), trivial⟩) ?_
      rw [hW]
      clear hW
      refine sd_take 0 rfl (by kernel_rfl) (by kernel_rfl) (by kernel_rfl) (by kernel_rfl) rfl rfl (.slice aa a.length ca) (fun w9 _ => by kernel_rfl) (fun _ _ _ h => h) ⟨(hra.below HB), (hrb.below HB), trivial⟩ ?_
      refine sd_take 1 rfl (by kernel_rfl) (by kernel_rfl) (by kernel_rfl) (by kernel_rfl) rfl rfl (.int .i64 ((j : Nat) : Int)) (fun w9 _ => by kernel_rfl) (fun _ _ _ h => h) ⟨(hra.below HB), (hrb.below HB), trivial⟩ ?_
      refine sd_take 2 rfl (by kernel_rfl) (by kernel_rfl) (by kernel_rfl) (by kernel_rfl) rfl rfl (.pointer (some ⟨pa, qa + j * 2, none⟩)) (fun w9 h9 => ex_indexO (q := qa) (m := a.length) (c := ca) (k := j) (s := 2) rfl (by kernel_rfl) (h9.1.oa (k := j) (by omega)) (by kernel_rfl) Try.underlying32 (by kernel_rfl) (by omega) (by omega)) (fun _ _ _ h => h) ⟨(hra.below HB), (hrb.below HB), trivial⟩ ?_
      refine sd_take 3 rfl (by kernel_rfl) (by kernel_rfl) (by kernel_rfl) (by kernel_rfl) rfl rfl (.agg #[.int .i64 ((a.getD j (0, false)).1), .bool (a.getD j (0, false)).2]) (fun w9 h9 => ex_loadR rfl (h9.1.range (k := j) (by omega)) (by kernel_rfl) Try.underlying52 rfl (by kernel_rfl)) (fun _ _ _ h => h) ⟨(hra.below HB), (hrb.below HB), trivial⟩ ?_
      refine sd_take 4 rfl (by kernel_rfl) (by kernel_rfl) (by kernel_rfl) (by kernel_rfl) rfl rfl (.slice ab b.length cb) (fun w9 _ => by kernel_rfl) (fun _ _ _ h => h) ⟨(hra.below HB), (hrb.below HB), trivial⟩ ?_
      refine sd_take 5 rfl (by kernel_rfl) (by kernel_rfl) (by kernel_rfl) (by kernel_rfl) rfl rfl (.int .i64 ((j : Nat) : Int)) (fun w9 _ => by kernel_rfl) (fun _ _ _ h => h) ⟨(hra.below HB), (hrb.below HB), trivial⟩ ?_
      refine sd_take 6 rfl (by kernel_rfl) (by kernel_rfl) (by kernel_rfl) (by kernel_rfl) rfl rfl (.pointer (some ⟨pb, qb + j * 2, none⟩)) (fun w9 h9 => ex_indexO (q := qb) (m := b.length) (c := cb) (k := j) (s := 2) rfl (by kernel_rfl) (h9.2.1.oa (k := j) (by omega)) (by kernel_rfl) Try.underlying32 (by kernel_rfl) (by omega) (by omega)) (fun _ _ _ h => h) ⟨(hra.below HB), (hrb.below HB), trivial⟩ ?_
      refine sd_take 7 rfl (by kernel_rfl) (by kernel_rfl) (by kernel_rfl) (by kernel_rfl) rfl rfl (.agg #[.int .i64 ((b.getD j (0, false)).1), .bool (b.getD j (0, false)).2]) (fun w9 h9 => ex_loadR rfl (h9.2.1.range (k := j) (by omega)) (by kernel_rfl) Try.underlying52 rfl (by kernel_rfl)) (fun _ _ _ h => h) ⟨(hra.below HB), (hrb.below HB), trivial⟩ ?_
      by_cases C3 : (a.getD j (0, false)).1 = (b.getD j (0, false)).1 ∧ (a.getD j (0, false)).2 = (b.getD j (0, false)).2
      · refine sd_take 8 rfl (by kernel_rfl) (by kernel_rfl) (by kernel_rfl) (by kernel_rfl) rfl rfl (.bool false) (fun w9 h9 => ex_bool (!((a.getD j (0, false)).1 == (b.getD j (0, false)).1 && (a.getD j (0, false)).2 == (b.getD j (0, false)).2)) false (ex_neqV rfl (by kernel_rfl) (by kernel_rfl)) (by rw [eqv_t C3]; rfl)) (fun _ _ _ h => h) ⟨(hra.below HB), (hrb.below HB), trivial⟩ ?_
        refine sd_done (by kernel_rfl) ?_
        refine sx_norm ?_
        refine sx_false (by kernel_rfl) ?_
        refine wp_skip ?_
        refine sx_in ?_
        refine sx_norm ?_
        refine wp_region_lit ?_
        refine sx_int (by kernel_rfl) rfl rfl .i64 (IntKind.i64.wrap (((j : Nat) : Int) + 1)) (((j + 1 : Nat) : Int)) (by kernel_rfl) (by rw [IntKind.wrap_i64]; omega) ?_
        refine sx_val (by kernel_rfl) rfl rfl (.int .i64 ((j + 1 : Nat) : Int)) (by kernel_rfl) ?_
        refine wpList_nil ?_
        refine sx_norm ?_
        exact sx_again (a.length - (j + 1)) (j + 1) (by omega) (by kernel_rfl) ⟨by omega, Nat.le_refl _, take_same (by omega) (by omega) hI (by assumption), HL⟩
      refine sd_take 8 rfl (by kernel_rfl) (by kernel_rfl) (by kernel_rfl) (by kernel_rfl) rfl rfl (.bool true) (fun w9 h9 => ex_bool (!((a.getD j (0, false)).1 == (b.getD j (0, false)).1 && (a.getD j (0, false)).2 == (b.getD j (0, false)).2)) true (ex_neqV rfl (by kernel_rfl) (by kernel_rfl)) (by rw [eqv_f C3]; rfl)) (fun _ _ _ h => h) ⟨(hra.below HB), (hrb.below HB), trivial⟩ ?_
      refine sd_done (by kernel_rfl) ?_
      refine sx_norm ?_
      refine sx_true (by kernel_rfl) ?_
      refine wp_seq ?_
      refine wp_region_lit ?_
      refine sx_val (by kernel_rfl) rfl rfl (.bool false) (by kernel_rfl) ?_
      refine wpList_nil ?_
      refine sx_norm ?_
      refine wp_ret ?_
      refine sx_rb ?_
      refine sx_rs ?_
      refine sx_rs ?_
      refine sx_rb ?_
      refine sx_rs ?_
      exact sx_ret1 (.bool false) rfl rfl (by kernel_rfl) ⟨ret_bool (decide_eq_false (by first | exact sameL_ne (by assumption) | (intro h9; subst h9; omega))).symm, HB⟩
    refine sx_bool (by kernel_rfl) rfl rfl (decide (((j : Nat) : Int) < ((a.length : Nat) : Int))) false (by kernel_rfl) (decide_eq_false (by omega)) ?_
    refine wpList_nil ?_
    refine sx_norm ?_
    refine wp_seq ?_
    refine sx_false (by kernel_rfl) ?_
    refine wp_exit ?_
    refine sx_es ?_
    refine sx_es ?_
    refine sx_out ?_
    refine sx_norm ?_
    refine wp_seq ?_
    refine wp_region_lit ?_
    refine sx_val (by kernel_rfl) rfl rfl (.bool true) (by kernel_rfl) ?_
    refine wpList_nil ?_
    refine sx_norm ?_
    refine wp_ret ?_
    exact sx_ret1 (.bool true) rfl rfl (by kernel_rfl) ⟨ret_bool (decide_eq_true (take_end (by omega) (by omega) hI)).symm, HB⟩
  refine sx_bool (by kernel_rfl) rfl rfl ((((a.length : Nat) : Int) : Int) != (((b.length : Nat) : Int) : Int)) true (by kernel_rfl) (bne_iff_ne.2 (by omega)) ?_
  refine wpList_nil ?_
  refine sx_norm ?_
  refine sx_true (by kernel_rfl) ?_
  refine wp_seq ?_
  refine wp_region_lit ?_
  refine sx_val (by kernel_rfl) rfl rfl (.bool false) (by kernel_rfl) ?_
  refine wpList_nil ?_
  refine sx_norm ?_
  refine wp_ret ?_
  refine sx_rs ?_
  exact sx_ret1 (.bool false) rfl rfl (by kernel_rfl) ⟨ret_bool (decide_eq_false (by first | exact sameL_ne (by assumption) | (intro h9; subst h9; omega))).symm, HB⟩
theorem same16_n (aa ab : Option Addr) (ca cb pa qa pb qb : Nat) (a b : List (Int × Bool)) (la : a.length ≤ 1000000) (lb : b.length ≤ 1000000) (w : World) (hra : Rw w pa qa 2 (vF a) a.length aa) (hrb : Rw w pb qb 2 (vF b) b.length ab) : Calls Try.prog 21 #[.slice aa a.length ca, .slice ab b.length cb] w fun e w' => e = .returned (.bool (decide (a = b))) ∧ Below w.heap.size w w' := by
  have HB : Below w.heap.size w w := Below.refl _ _
  refine sx_enter Try.func21 rfl [(0, .slice aa a.length ca), (1, .slice ab b.length cb)] (by kernel_rfl) ?_
  refine wp_seq ?_
  refine wp_region_lit ?_
  refine sx_val (by kernel_rfl) rfl rfl (.bool false) (by kernel_rfl) ?_
  refine wpList_nil ?_
  refine sx_norm ?_
  refine wp_seq ?_
  refine wp_region_lit ?_
  refine sx_val (by kernel_rfl) rfl rfl (.slice aa a.length ca) (by kernel_rfl) ?_
  refine sx_val (by kernel_rfl) rfl rfl (.slice ab b.length cb) (by kernel_rfl) ?_
  refine sx_call (by kernel_rfl) rfl rfl (equalV_n aa ab ca cb pa qa pb qb a b la lb w (hra.below HB) (hrb.below HB)) (by kernel_rfl) ?_
  rintro e W1 ⟨rfl, hb⟩
  replace HB := over HB hb
  have z1 := hb.size
  clear hb
  refine ⟨_, rfl, ?_⟩
  refine sx_val (by kernel_rfl) rfl rfl (.bool (decide (a = b))) (by kernel_rfl) ?_
  refine wpList_nil ?_
  refine sx_norm ?_
  refine wp_ret ?_
  exact sx_ret1 (.bool (decide (a = b))) rfl rfl (by kernel_rfl) ⟨rfl, HB⟩
theorem has_def (m k : Nat) : S.has m k = hasZ (m : Int) k := by
  unfold S.has hasZ
  have : ((m : Int) / 2 ^ k % 2) = ((m / 2 ^ k % 2 : Nat) : Int) := by simp
  rw [this]
  by_cases h : m / 2 ^ k % 2 = 1
  · rw [h]; rfl
  · have h2 : m / 2 ^ k % 2 = 0 := by omega
    rw [h2]; rfl
theorem num62_no {x : Int} (h : x < 0 ∨ 62 < x) : num62 x = false := by
  unfold num62
  rcases h with h | h
  · rw [decide_eq_false (by omega)]; rfl
  · rw [decide_eq_false (show ¬ x ≤ 62 by omega), Bool.and_false]
theorem hasR_nat (m : Nat) (x : Int) (hx : num62 x = true) : hasR (m : Int) x = S.has m x.toNat := by
  unfold hasR
  rw [hx, has_def, decide_eq_true (Int.natCast_nonneg m), Bool.true_and, Bool.true_and]
theorem or_set {m k : Nat} (h : S.has m k = true) : m ||| 2 ^ k = m := U.has_ext fun i => by
  rw [U.has_or, U.has_pow]
  by_cases e : i = k
  · subst e; rw [h]; simp
  · simp [e]
theorem or_new {m k : Nat} (h : S.has m k = false) : m ||| 2 ^ k = m + 2 ^ k := U.has_ext fun i => by
  rw [U.has_or, U.has_pow, U.has_add h]
theorem refOrders16_n (ty st : Int) (orr oa : Option Addr) (nr cr c b o : Nat) (l : List (Int × Bool)) (hl : l.length ≤ 1000000) (w : World) (hv : Rw w b o 2 (vF l) l.length oa) : Calls Try.prog 23 #[.agg #[.int .i64 ty, .int .i64 st, .slice orr nr cr, .slice oa l.length c]] w fun e w' => e = .returned (.tuple #[.int .i64 (ordN l), .int .i64 (ordE l)]) ∧ Below w.heap.size w w' := by
  have HB : Below w.heap.size w w := Below.refl _ _
  refine sx_enter Try.func23 rfl [(0, .agg #[.int .i64 ty, .int .i64 st, .slice orr nr cr, .slice oa l.length c])] (by kernel_rfl) ?_
  refine wp_seq ?_
  refine wp_region_lit ?_
  obtain ⟨W1, hW⟩ : ∃ W, w.alloc (.cells #[.int .i64 ty, .int .i64 st, .slice orr nr cr, .slice oa l.length c] 34) = W := ⟨_, rfl⟩
  have hb := hW ▸ below_alloc w (.cells #[.int .i64 ty, .int .i64 st, .slice orr nr cr, .slice oa l.length c] 34)
  have hq : Cb W1 w.heap.size #[.int .i64 ty, .int .i64 st, .slice orr nr cr, .slice oa l.length c] 34 := hW ▸ Cb.made w #[.int .i64 ty, .int .i64 st, .slice orr nr cr, .slice oa l.length c] 34
  refine sx_mem (by kernel_rfl) rfl rfl (.pointer (some ⟨w.heap.size, 0, none⟩)) W1 (by rw [← hW]; kernel_rfl) ?_
  replace HB := over HB hb
  have z1 := hb.size
  have M2 := hq
  have yM2 := hq.lt
  clear hq hb hW
  refine sx_val (by kernel_rfl) rfl rfl (.int .i64 0) (by kernel_rfl) ?_
  refine sx_val (by kernel_rfl) rfl rfl (.int .i64 0) (by kernel_rfl) ?_
  refine wpList_nil ?_
  refine sx_norm ?_
  refine wp_seq ?_
  refine wp_region_lit ?_
  refine sx_val (by kernel_rfl) rfl rfl (.int .i64 0) (by kernel_rfl) ?_
  refine wpList_nil ?_
  refine sx_norm ?_
  refine wp_seq ?_
  refine wp_seq ?_
  refine wp_region_lit ?_
  refine sx_val (by kernel_rfl) rfl rfl (.int .i64 0) (by kernel_rfl) ?_
  refine wpList_nil ?_
  refine sx_norm ?_
  refine wp_block ?_
  refine sx_loop (fun x9 : Nat × Nat => [(0, .agg #[.int .i64 ty, .int .i64 st, .slice orr nr cr, .slice oa l.length c]), (1, .pointer (some ⟨w.heap.size, 0, none⟩)), (4, .int .i64 ((x9.2 : Nat) : Int)), (5, .int .i64 ((x9.1 : Nat) : Int))]) (fun gg x9 wr => x9.1 ≤ l.length ∧ l.length - x9.1 ≤ gg ∧ x9.2 = ordK l x9.1 ∧ (∀ i, i < x9.1 → num62 (l.getD i (0, false)).1 = true) ∧ Below W1.heap.size W1 wr) (l.length) ((0, 0)) (by kernel_rfl) ⟨Nat.zero_le _, Nat.le_refl _, rfl, fun i hi => absurd hi (Nat.not_lt_zero _), Below.refl _ _⟩ ?_
  rintro gg ⟨j, m⟩ g' wr ⟨hj, hg, hm, hn, hbl⟩
  dsimp only at hj hg hm hn hbl
  replace HB := over HB hbl
  replace M2 := M2.below hbl
  have z2 := hbl.size
  have HL := hbl
  clear hbl
  have hk63 := ordK_lt' hj hn
  rw [← hm] at hk63
  refine wp_seq ?_
  refine wp_seq ?_
  refine wp_region_lit ?_
  refine sx_val (by kernel_rfl) rfl rfl (.int .i64 ((j : Nat) : Int)) (by kernel_rfl) ?_
  refine sx_val (by kernel_rfl) rfl rfl (.pointer (some ⟨w.heap.size, 3, none⟩)) (by kernel_rfl) ?_
  refine sx_val (by kernel_rfl) rfl rfl (.slice oa l.length c) (ex_load1 rfl (M2.cell 3 rfl) (by kernel_rfl) Try.underlying32 rfl) ?_
  refine sx_val (by kernel_rfl) rfl rfl (.int .i64 ((l.length : Nat) : Int)) (by kernel_rfl) ?_
  by_cases C1 : j < l.length
  · refine sx_bool (by kernel_rfl) rfl rfl (decide (((j : Nat) : Int) < ((l.length : Nat) : Int))) true (by kernel_rfl) (decide_eq_true (by omega)) ?_
    refine wpList_nil ?_
    refine sx_norm ?_
    refine sx_true (by kernel_rfl) ?_
    refine wp_skip ?_
    refine sx_norm ?_
    refine wp_seq ?_
    refine wp_block ?_
    refine wp_seq ?_
    refine wp_region_lit ?_
    refine sx_val (by kernel_rfl) rfl rfl (.pointer (some ⟨w.heap.size, 3, none⟩)) (by kernel_rfl) ?_
    refine sx_val (by kernel_rfl) rfl rfl (.slice oa l.length c) (ex_load1 rfl (M2.cell 3 rfl) (by kernel_rfl) Try.underlying32 rfl) ?_
    refine sx_val (by kernel_rfl) rfl rfl (.int .i64 ((j : Nat) : Int)) (by kernel_rfl) ?_
    refine sx_val (by kernel_rfl) rfl rfl (.pointer (some ⟨b, o + j * 2, none⟩)) (ex_indexO (q := o) (m := l.length) (c := c) (k := j) (s := 2) rfl (by kernel_rfl) ((hv.below HB).oa (k := j) (by omega)) (by kernel_rfl) Try.underlying32 (by kernel_rfl) (by omega) (by omega)) ?_
    refine sx_val (by kernel_rfl) rfl rfl (.pointer (some ⟨b, o + j * 2, none⟩)) (by kernel_rfl) ?_
    refine sx_val (by kernel_rfl) rfl rfl (.int .i64 ((l.getD j (0, false)).1)) (ex_load1 rfl ((hv.below HB).cell (k := j) (by omega) 0 rfl) (by kernel_rfl) Try.underlying3 rfl) ?_
    refine sx_val (by kernel_rfl) rfl rfl (.int .i64 ((l.getD j (0, false)).1)) (by kernel_rfl) ?_
    refine wpList_nil ?_
    refine sx_norm ?_
    refine wp_seq ?_
    refine wp_seq ?_
    refine wp_region_lit ?_
    refine sx_val (by kernel_rfl) rfl rfl (.int .i64 ((l.getD j (0, false)).1)) (by kernel_rfl) ?_
    by_cases C2 : (l.getD j (0, false)).1 < 0
    · refine sx_bool (by kernel_rfl) rfl rfl (decide ((l.getD j (0, false)).1 < 0)) true (by kernel_rfl) (decide_eq_true (by omega)) ?_
      refine sx_val (by kernel_rfl) rfl rfl (.bool true) (by kernel_rfl) ?_
      refine sx_skip (by kernel_rfl) rfl rfl ?_
      refine sx_skip (by kernel_rfl) rfl rfl ?_
      refine sx_val (by kernel_rfl) rfl rfl (.bool true) (by kernel_rfl) ?_
      refine wpList_nil ?_
      refine sx_norm ?_
      refine sx_true (by kernel_rfl) ?_
      refine wp_seq ?_
      refine wp_region_lit ?_
      refine sx_val (by kernel_rfl) rfl rfl (.int .i64 0) (by kernel_rfl) ?_
      refine sx_val (by kernel_rfl) rfl rfl (.int .i64 2) (by kernel_rfl) ?_
      refine wpList_nil ?_
      refine sx_norm ?_
      refine wp_ret ?_
      refine sx_rs ?_
      refine sx_rb ?_
      refine sx_rs ?_
      refine sx_rs ?_
      refine sx_rb ?_
      refine sx_rs ?_
      refine sx_ret2 (.int .i64 0) (.int .i64 2) rfl rfl rfl (by kernel_rfl) (by kernel_rfl) ⟨?_, HB⟩
      unfold ordE ordN
      rw [ordB_not (j := j) (by omega) (num62_no (by omega))]
      rfl
    refine sx_bool (by kernel_rfl) rfl rfl (decide ((l.getD j (0, false)).1 < 0)) false (by kernel_rfl) (decide_eq_false (by omega)) ?_
    refine sx_val (by kernel_rfl) rfl rfl (.bool false) (by kernel_rfl) ?_
    refine sx_val (by kernel_rfl) rfl rfl (.int .i64 ((l.getD j (0, false)).1)) (by kernel_rfl) ?_
    by_cases C3 : (l.getD j (0, false)).1 > 62
    · refine sx_bool (by kernel_rfl) rfl rfl (decide ((l.getD j (0, false)).1 > 62)) true (by kernel_rfl) (decide_eq_true (by omega)) ?_
      refine sx_val (by kernel_rfl) rfl rfl (.bool true) (by kernel_rfl) ?_
      refine wpList_nil ?_
      refine sx_norm ?_
      refine sx_true (by kernel_rfl) ?_
      refine wp_seq ?_
      refine wp_region_lit ?_
      refine sx_val (by kernel_rfl) rfl rfl (.int .i64 0) (by kernel_rfl) ?_
      refine sx_val (by kernel_rfl) rfl rfl (.int .i64 2) (by kernel_rfl) ?_
      refine wpList_nil ?_
      refine sx_norm ?_
      refine wp_ret ?_
      refine sx_rs ?_
      refine sx_rb ?_
      refine sx_rs ?_
      refine sx_rs ?_
      refine sx_rb ?_
      refine sx_rs ?_
      refine sx_ret2 (.int .i64 0) (.int .i64 2) rfl rfl rfl (by kernel_rfl) (by kernel_rfl) ⟨?_, HB⟩
      unfold ordE ordN
      rw [ordB_not (j := j) (by omega) (num62_no (by omega))]
      rfl
    refine sx_bool (by kernel_rfl) rfl rfl (decide ((l.getD j (0, false)).1 > 62)) false (by kernel_rfl) (decide_eq_false (by omega)) ?_
    refine sx_val (by kernel_rfl) rfl rfl (.bool false) (by kernel_rfl) ?_
    refine wpList_nil ?_
    refine sx_norm ?_
    refine sx_false (by kernel_rfl) ?_
    refine wp_skip ?_
    refine sx_norm ?_
    refine wp_seq ?_
    refine wp_region_lit ?_
    refine sx_val (by kernel_rfl) rfl rfl (.int .i64 ((m : Nat) : Int)) (by kernel_rfl) ?_
    refine sx_val (by kernel_rfl) rfl rfl (.int .i64 ((l.getD j (0, false)).1)) (by kernel_rfl) ?_
    have N1 : num62 (l.getD j (0, false)).1 = true := by unfold num62; rw [decide_eq_true (by omega), decide_eq_true (by omega)]; rfl
    by_cases C4 : hasR ((m : Nat) : Int) ((l.getD j (0, false)).1) = true
    · refine sx_call (by kernel_rfl) rfl rfl ((by have h8 := refHas_n ((m : Nat) : Int) ((l.getD j (0, false)).1) wr; rw [show hasR ((m : Nat) : Int) ((l.getD j (0, false)).1) = true by simpa using C4] at h8; exact h8)) (by kernel_rfl) ?_
      rintro e w9 ⟨rfl, rfl⟩
      refine ⟨_, rfl, ?_⟩
      refine sx_val (by kernel_rfl) rfl rfl (.bool false) (by kernel_rfl) ?_
      refine wpList_nil ?_
      refine sx_norm ?_
      refine sx_false (by kernel_rfl) ?_
      refine wp_skip ?_
      refine sx_in ?_
      refine sx_norm ?_
      refine wp_region_lit ?_
      refine sx_val (by kernel_rfl) rfl rfl (.int .i64 ((j : Nat) : Int)) (by kernel_rfl) ?_
      refine sx_int (by kernel_rfl) rfl rfl .i64 (IntKind.i64.wrap (((j : Nat) : Int) + 1)) (((j + 1 : Nat) : Int)) (by kernel_rfl) (by rw [IntKind.wrap_i64]; omega) ?_
      refine sx_val (by kernel_rfl) rfl rfl (.int .i64 ((j + 1 : Nat) : Int)) (by kernel_rfl) ?_
      refine wpList_nil ?_
      refine sx_norm ?_
      have HS : S.has m (l.getD j (0, false)).1.toNat = true := by rw [← hasR_nat m _ N1]; first | assumption | simpa using (by assumption : ¬ (hasR _ _ = true))
      exact sx_again (l.length - (j + 1)) (j + 1, m) (by omega) (by kernel_rfl) ⟨by show j + 1 ≤ _; omega, Nat.le_refl _, (by rw [ordK_more (by omega), ← hm]; exact (or_set HS).symm), fun i hi => by rcases Nat.lt_succ_iff_lt_or_eq.1 hi with h | h; exact hn i h; subst h; exact N1, HL⟩
    refine sx_call (by kernel_rfl) rfl rfl ((by have h8 := refHas_n ((m : Nat) : Int) ((l.getD j (0, false)).1) wr; rw [show hasR ((m : Nat) : Int) ((l.getD j (0, false)).1) = false by simpa using C4] at h8; exact h8)) (by kernel_rfl) ?_
    rintro e w9 ⟨rfl, rfl⟩
    refine ⟨_, rfl, ?_⟩
    refine sx_val (by kernel_rfl) rfl rfl (.bool true) (by kernel_rfl) ?_
    refine wpList_nil ?_
    refine sx_norm ?_
    refine sx_true (by kernel_rfl) ?_
    refine wp_region_lit ?_
    refine sx_val (by kernel_rfl) rfl rfl (.int .i64 ((m : Nat) : Int)) (by kernel_rfl) ?_
    refine sx_val (by kernel_rfl) rfl rfl (.int .i64 ((l.getD j (0, false)).1)) (by kernel_rfl) ?_
    have N1 : num62 (l.getD j (0, false)).1 = true := by unfold num62; rw [decide_eq_true (by omega), decide_eq_true (by omega)]; rfl
    have hkx : (l.getD j (0, false)).1 = (((l.getD j (0, false)).1.toNat : Nat) : Int) ∧ (l.getD j (0, false)).1.toNat ≤ 62 := by omega
    have hpw := Nat.pow_le_pow_right (show 0 < 2 by decide) hkx.2
    refine sx_int (by kernel_rfl) rfl rfl .u64 (IntKind.u64.wrap (l.getD j (0, false)).1) ((((l.getD j (0, false)).1.toNat : Nat) : Int)) (by kernel_rfl) (by rw [IntKind.wrap_u64]; omega) ?_
    refine sx_val (by kernel_rfl) rfl rfl (.int .i64 ((2 ^ (l.getD j (0, false)).1.toNat : Nat) : Int)) (ex_shl rfl .u64 1 (l.getD j (0, false)).1.toNat _ (by kernel_rfl) (by kernel_rfl) hkx.2 (by rw [Int.one_mul, show ((2 : Int) ^ (l.getD j (0, false)).1.toNat) = ((2 ^ (l.getD j (0, false)).1.toNat : Nat) : Int) by simp]; exact S.wrap_n _ (by omega))) ?_
    refine sx_int (by kernel_rfl) rfl rfl .i64 (IntKind.i64.wrap (((m : Nat) : Int) + ((2 ^ (l.getD j (0, false)).1.toNat : Nat) : Int))) (((m + 2 ^ (l.getD j (0, false)).1.toNat : Nat) : Int)) (by kernel_rfl) (by have h7 : m + 2 ^ (l.getD j (0, false)).1.toNat < 2 ^ 63 := (by rw [← or_new (by rw [← hasR_nat m _ N1]; simpa using (by assumption : ¬ (hasR _ _ = true)))]; exact Nat.or_lt_two_pow hk63 (Nat.pow_lt_pow_right (by omega) (by omega))); rw [← Int.natCast_add]; exact S.wrap_n _ h7) ?_
    refine sx_val (by kernel_rfl) rfl rfl (.int .i64 ((m + 2 ^ (l.getD j (0, false)).1.toNat : Nat) : Int)) (by kernel_rfl) ?_
    refine wpList_nil ?_
    refine sx_in ?_
    refine sx_norm ?_
    refine wp_region_lit ?_
    refine sx_val (by kernel_rfl) rfl rfl (.int .i64 ((j : Nat) : Int)) (by kernel_rfl) ?_
    refine sx_int (by kernel_rfl) rfl rfl .i64 (IntKind.i64.wrap (((j : Nat) : Int) + 1)) (((j + 1 : Nat) : Int)) (by kernel_rfl) (by rw [IntKind.wrap_i64]; omega) ?_
    refine sx_val (by kernel_rfl) rfl rfl (.int .i64 ((j + 1 : Nat) : Int)) (by kernel_rfl) ?_
    refine wpList_nil ?_
    refine sx_norm ?_
    have HS : S.has m (l.getD j (0, false)).1.toNat = false := by rw [← hasR_nat m _ N1]; first | assumption | simpa using (by assumption : ¬ (hasR _ _ = true))
    exact sx_again (l.length - (j + 1)) (j + 1, m + 2 ^ (l.getD j (0, false)).1.toNat) (by omega) (by kernel_rfl) ⟨by show j + 1 ≤ _; omega, Nat.le_refl _, (by rw [ordK_more (by omega), ← hm]; exact (or_new HS).symm), fun i hi => by rcases Nat.lt_succ_iff_lt_or_eq.1 hi with h | h; exact hn i h; subst h; exact N1, HL⟩
  refine sx_bool (by kernel_rfl) rfl rfl (decide (((j : Nat) : Int) < ((l.length : Nat) : Int))) false (by kernel_rfl) (decide_eq_false (by omega)) ?_
  refine wpList_nil ?_
  refine sx_norm ?_
  refine sx_false (by kernel_rfl) ?_
  refine wp_exit ?_
  refine sx_es ?_
  refine sx_es ?_
  refine sx_out ?_
  refine sx_norm ?_
  refine wp_seq ?_
  refine wp_region_lit ?_
  refine sx_val (by kernel_rfl) rfl rfl (.int .i64 ((m : Nat) : Int)) (by kernel_rfl) ?_
  refine sx_val (by kernel_rfl) rfl rfl (.int .i64 ((m : Nat) : Int)) (by kernel_rfl) ?_
  refine sx_val (by kernel_rfl) rfl rfl (.int .i64 0) (by kernel_rfl) ?_
  refine wpList_nil ?_
  refine sx_norm ?_
  refine wp_ret ?_
  refine sx_ret2 (.int .i64 ((m : Nat) : Int)) (.int .i64 0) rfl rfl rfl (by kernel_rfl) (by kernel_rfl) ⟨?_, HB⟩
  obtain rfl : j = l.length := by omega
  unfold ordE ordN
  rw [ordB_all hn, hm]
  rfl

end Go.Proofs.Ytoliacfpjhanlaa.T


