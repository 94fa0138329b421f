/-
  DERIVED. GB: a part of the base of layer 13 (made by pack.py).
-/
import Derived.Test.YtoliacfpjhanlaaGA
/-! Less and Same, of sequence and of its specification; the orders of the specification (by gen_sd.py). -/
namespace Go.Proofs.Ytoliacfpjhanlaa.T
open Go.RowKit
set_option maxRecDepth 8000
attribute [local irreducible] wpList Code.wp wpAnyH

/-! ### sequences are compared -/
def cmpL : List (Int × Bool) → List (Int × Bool) → Int
  | [], [] => 0
  | [], _ :: _ => -1
  | _ :: _, [] => 1
  | x :: a, y :: b => if cmpV x y = 0 then cmpL a b else cmpV x y
theorem cmpL_gt {a b : List (Int × Bool)} {j : Nat} (ha : j < a.length) (hb : b.length ≤ j) : cmpL (a.drop j) (b.drop j) = 1 := by
  rw [drop_more (d := (0, false)) ha, List.drop_of_length_le hb]
  rfl
theorem cmpL_ne {a b : List (Int × Bool)} {j : Nat} (ha : j < a.length) (hb : j < b.length) (h : cmpV (a.getD j (0, false)) (b.getD j (0, false)) ≠ 0) : cmpL (a.drop j) (b.drop j) = cmpV (a.getD j (0, false)) (b.getD j (0, false)) := by
  rw [drop_more (d := (0, false)) ha, drop_more (d := (0, false)) hb, cmpL, if_neg h]
theorem cmpL_eq {a b : List (Int × Bool)} {j : Nat} (ha : j < a.length) (hb : j < b.length) (h : cmpV (a.getD j (0, false)) (b.getD j (0, false)) = 0) : cmpL (a.drop j) (b.drop j) = cmpL (a.drop (j + 1)) (b.drop (j + 1)) := by
  rw [drop_more (d := (0, false)) ha, drop_more (d := (0, false)) hb, cmpL, if_pos h]
theorem cmpL_lt {a b : List (Int × Bool)} {j : Nat} (ha : a.length ≤ j) (hb : j < b.length) : cmpL (a.drop j) (b.drop j) = -1 := by
  rw [drop_more (d := (0, false)) hb, List.drop_of_length_le ha]
  rfl
theorem cmpL_z {a b : List (Int × Bool)} {j : Nat} (ha : a.length ≤ j) (hb : b.length ≤ j) : cmpL (a.drop j) (b.drop j) = 0 := by
  rw [List.drop_of_length_le hb, List.drop_of_length_le ha]
  rfl
def lessL (a b : List (Int × Bool)) : Bool := decide (cmpL a b < 0)
theorem cmpV_z {x y : Int × Bool} : cmpV x y = 0 ↔ x = y := by
  obtain ⟨x1, x2⟩ := x
  obtain ⟨y1, y2⟩ := y
  unfold cmpV
  simp only [Prod.mk.injEq]
  split
  · constructor
    · intro h; omega
    · rintro ⟨h1, -⟩; omega
  · split
    · constructor
      · intro h; omega
      · rintro ⟨h1, -⟩; omega
    · split
      · rename_i h; exact ⟨fun _ => ⟨by omega, h⟩, fun _ => rfl⟩
      · rename_i h
        constructor
        · split <;> intro h9 <;> omega
        · rintro ⟨-, h2⟩; exact absurd h2 h
theorem compareFunc_n (aa ab : Option Addr) (ca cb pa qa pb qb : Nat) (a b : List (Int × Bool)) (la : a.length ≤ 1000000) (_ : b.length ≤ 1000000) (w : World) (hra : Rw w pa qa 2 (vF a) a.length aa) (hrb : Rw w pb qb 2 (vF b) b.length ab) : Calls Try.prog 48 #[.slice aa a.length ca, .slice ab b.length cb, .func (.func 49) #[] #[]] w fun e w' => e = .returned (.int .i64 (cmpL a b)) ∧ Below w.heap.size w w' := by
  have HB : Below w.heap.size w w := Below.refl _ _
  refine sx_enter Try.func48 rfl [(0, .slice aa a.length ca), (1, .slice ab b.length cb), (2, .func (.func 49) #[] #[])] (by kernel_rfl) ?_
  refine wp_seq ?_
  refine wp_region_lit ?_
  refine sx_val (by kernel_rfl) rfl rfl (.int .i64 0) (by kernel_rfl) ?_
  refine wpList_nil ?_
  refine sx_norm ?_
  refine wp_seq ?_
  refine wp_seq ?_
  refine wp_region_lit ?_
  refine sx_val (by kernel_rfl) rfl rfl (.slice aa a.length ca) (by kernel_rfl) ?_
  refine sx_val (by kernel_rfl) rfl rfl (.int .i64 ((a.length : Nat) : Int)) (by kernel_rfl) ?_
  refine sx_val (by kernel_rfl) rfl rfl (.int .i64 0) (by kernel_rfl) ?_
  refine wpList_nil ?_
  refine sx_norm ?_
  refine wp_block ?_
  refine sx_loop (fun j : Nat => [(0, .slice aa a.length ca), (1, .slice ab b.length cb), (2, .func (.func 49) #[] #[]), (11, .slice aa a.length ca), (12, .int .i64 ((a.length : Nat) : Int)), (13, .int .i64 ((j : Nat) : Int))]) (fun gg j wr => j ≤ a.length ∧ j ≤ b.length ∧ a.length - j ≤ gg ∧ cmpL (a.drop j) (b.drop j) = cmpL a b ∧ Below w.heap.size w wr) (a.length) (0) (by kernel_rfl) ⟨Nat.zero_le _, Nat.zero_le _, Nat.le_refl _, rfl, Below.refl _ _⟩ ?_
  rintro gg j g' wr ⟨hj, hj2, hg, hI, hbl⟩
  replace HB := over HB hbl
  have z1 := hbl.size
  have HL := hbl
  clear hbl
  refine wp_seq ?_
  refine wp_region_lit ?_
  by_cases C1 : j < a.length
  · refine sx_bool (by kernel_rfl) rfl rfl (decide (((j : Nat) : Int) < ((a.length : Nat) : Int))) true (by kernel_rfl) (decide_eq_true (by omega)) ?_
    refine wpList_nil ?_
    refine sx_norm ?_
    refine wp_seq ?_
    refine sx_true (by kernel_rfl) ?_
    refine wp_skip ?_
    refine sx_norm ?_
    refine wp_seq ?_
    refine wp_block ?_
    refine wp_seq ?_
    refine wp_region_lit ?_
    refine sx_val (by kernel_rfl) rfl rfl (.int .i64 ((j : Nat) : Int)) (by kernel_rfl) ?_
    refine sx_val (by kernel_rfl) rfl rfl (.pointer (some ⟨pa, qa + j * 2, none⟩)) (ex_indexO (q := qa) (m := a.length) (c := ca) (k := j) (s := 2) rfl (by kernel_rfl) ((hra.below HB).oa (k := j) (by omega)) (by kernel_rfl) Try.underlying32 (by kernel_rfl) (by omega) (by omega)) ?_
    refine sx_val (by kernel_rfl) rfl rfl (.agg #[.int .i64 ((a.getD j (0, false)).1), .bool (a.getD j (0, false)).2]) (ex_loadR rfl ((hra.below HB).range (k := j) (by omega)) (by kernel_rfl) Try.underlying52 rfl (by kernel_rfl)) ?_
    obtain ⟨W1, hW⟩ : ∃ W, wr.alloc (.cells #[.int .i64 0, .bool false] 52) = W := ⟨_, rfl⟩
    have hb := hW ▸ below_alloc wr (.cells #[.int .i64 0, .bool false] 52)
    have hq : Cb W1 wr.heap.size #[.int .i64 0, .bool false] 52 := hW ▸ Cb.made wr #[.int .i64 0, .bool false] 52
    refine sx_mem (by kernel_rfl) rfl rfl (.pointer (some ⟨wr.heap.size, 0, none⟩)) W1 (by rw [← hW]; kernel_rfl) ?_
    replace HB := over HB hb
    replace HL := over HL hb
    have z2 := hb.size
    have M2 := hq
    have yM2 := hq.lt
    clear hq hb hW
    refine sx_val (by kernel_rfl) rfl rfl (.int .i64 ((j : Nat) : Int)) (by kernel_rfl) ?_
    refine sx_store (cells := #[.int .i64 ((a.getD j (0, false)).1), .bool (a.getD j (0, false)).2]) (by kernel_rfl) rfl rfl M2 (by kernel_rfl) (by kernel_rfl) (by kernel_rfl) (by kernel_rfl) (by kernel_rfl) ?_
    obtain ⟨W3, hW⟩ : ∃ W, W1.setRow (wr.heap.size) #[.int .i64 ((a.getD j (0, false)).1), .bool (a.getD j (0, false)).2] = W := ⟨_, rfl⟩
    have hg : W1.grownBy W3 (some (wr.heap.size)) := hW ▸ grown_row _ _ _
    have hq : Cb W3 (wr.heap.size) #[.int .i64 ((a.getD j (0, false)).1), .bool (a.getD j (0, false)).2] 52 := hW ▸ Cb.row M2 _
    rw [hW]
    replace HB := HB.grown hg (by omega) (fun x e => by simp only [Option.some.injEq] at e; omega)
    replace HL := HL.grown hg (by omega) (fun x e => by simp only [Option.some.injEq] at e; omega)
    have z3 := hg.size
    replace M2 := hq
    clear hq hg hW
    refine wpList_nil ?_
    refine sx_norm ?_
    refine wp_seq ?_
    refine wp_seq ?_
    refine wp_region_lit ?_
    refine sx_val (by kernel_rfl) rfl rfl (.int .i64 ((j : Nat) : Int)) (by kernel_rfl) ?_
    refine sx_val (by kernel_rfl) rfl rfl (.slice ab b.length cb) (by kernel_rfl) ?_
    refine sx_val (by kernel_rfl) rfl rfl (.int .i64 ((b.length : Nat) : Int)) (by kernel_rfl) ?_
    by_cases C2 : j ≥ b.length
    · refine sx_bool (by kernel_rfl) rfl rfl (decide (((j : Nat) : Int) ≥ ((b.length : Nat) : Int))) true (by kernel_rfl) (decide_eq_true (by omega)) ?_
      refine wpList_nil ?_
      refine sx_norm ?_
      refine sx_true (by kernel_rfl) ?_
      refine wp_seq ?_
      refine wp_region_lit ?_
      refine sx_val (by kernel_rfl) rfl rfl (.int .i64 1) (by kernel_rfl) ?_
      refine wpList_nil ?_
      refine sx_norm ?_
      refine wp_ret ?_
      refine sx_rs ?_
      refine sx_rb ?_
      refine sx_rs ?_
      refine sx_rs ?_
      refine sx_rb ?_
      refine sx_rs ?_
      exact sx_ret1 (.int .i64 1) rfl rfl (by kernel_rfl) ⟨ret_int ((cmpL_gt (by omega) (by omega)).symm.trans hI), HB⟩
    refine sx_bool (by kernel_rfl) rfl rfl (decide (((j : Nat) : Int) ≥ ((b.length : Nat) : Int))) false (by kernel_rfl) (decide_eq_false (by omega)) ?_
    refine wpList_nil ?_
    refine sx_norm ?_
    refine sx_false (by kernel_rfl) ?_
    refine wp_skip ?_
    refine sx_norm ?_
    refine wp_seq ?_
    refine wp_region_lit ?_
    refine sx_val (by kernel_rfl) rfl rfl (.slice ab b.length cb) (by kernel_rfl) ?_
    refine sx_val (by kernel_rfl) rfl rfl (.int .i64 ((j : Nat) : Int)) (by kernel_rfl) ?_
    refine sx_val (by kernel_rfl) rfl rfl (.pointer (some ⟨pb, qb + j * 2, none⟩)) (ex_indexO (q := qb) (m := b.length) (c := cb) (k := j) (s := 2) rfl (by kernel_rfl) ((hrb.below HB).oa (k := j) (by omega)) (by kernel_rfl) Try.underlying32 (by kernel_rfl) (by omega) (by omega)) ?_
    refine sx_val (by kernel_rfl) rfl rfl (.agg #[.int .i64 ((b.getD j (0, false)).1), .bool (b.getD j (0, false)).2]) (ex_loadR rfl ((hrb.below HB).range (k := j) (by omega)) (by kernel_rfl) Try.underlying52 rfl (by kernel_rfl)) ?_
    obtain ⟨W4, hW⟩ : ∃ W, W3.alloc (.cells #[.int .i64 0, .bool false] 52) = W := ⟨_, rfl⟩
    have hb := hW ▸ below_alloc W3 (.cells #[.int .i64 0, .bool false] 52)
    have hq : Cb W4 W3.heap.size #[.int .i64 0, .bool false] 52 := hW ▸ Cb.made W3 #[.int .i64 0, .bool false] 52
    refine sx_mem (by kernel_rfl) rfl rfl (.pointer (some ⟨W3.heap.size, 0, none⟩)) W4 (by rw [← hW]; kernel_rfl) ?_
    replace HB := over HB hb
    replace HL := over HL hb
    replace M2 := M2.below hb
    have z4 := hb.size
    have M5 := hq
    have yM5 := hq.lt
    clear hq hb hW
    refine sx_store (cells := #[.int .i64 ((b.getD j (0, false)).1), .bool (b.getD j (0, false)).2]) (by kernel_rfl) rfl rfl M5 (by kernel_rfl) (by kernel_rfl) (by kernel_rfl) (by kernel_rfl) (by kernel_rfl) ?_
    obtain ⟨W6, hW⟩ : ∃ W, W4.setRow (W3.heap.size) #[.int .i64 ((b.getD j (0, false)).1), .bool (b.getD j (0, false)).2] = W := ⟨_, rfl⟩
    have hg : W4.grownBy W6 (some (W3.heap.size)) := hW ▸ grown_row _ _ _
    have hq : Cb W6 (W3.heap.size) #[.int .i64 ((b.getD j (0, false)).1), .bool (b.getD j (0, false)).2] 52 := hW ▸ Cb.row M5 _
    rw [hW]
    replace HB := HB.grown hg (by omega) (fun x e => by simp only [Option.some.injEq] at e; omega)
    replace HL := HL.grown hg (by omega) (fun x e => by simp only [Option.some.injEq] at e; omega)
    replace M2 := M2.kept hg (by omega)
    have z5 := hg.size
    replace M5 := hq
    clear hq hg hW
    refine wpList_nil ?_
    refine sx_norm ?_
    refine wp_seq ?_
    refine wp_region_lit ?_
    refine sx_val (by kernel_rfl) rfl rfl (.func (.func 49) #[] #[]) (by kernel_rfl) ?_
    refine sx_val (by kernel_rfl) rfl rfl (.agg #[.int .i64 ((a.getD j (0, false)).1), .bool (a.getD j (0, false)).2]) (ex_load rfl M2 (by kernel_rfl) Try.underlying52 rfl (by kernel_rfl)) ?_
    refine sx_val (by kernel_rfl) rfl rfl (.agg #[.int .i64 ((b.getD j (0, false)).1), .bool (b.getD j (0, false)).2]) (ex_load rfl M5 (by kernel_rfl) Try.underlying52 rfl (by kernel_rfl)) ?_
    refine sx_call (by kernel_rfl) rfl rfl (compare_n (a.getD j (0, false)) (b.getD j (0, false)) W6) (by kernel_rfl) ?_
    rintro e W7 ⟨rfl, hb⟩
    replace HB := over HB hb
    replace HL := over HL hb
    replace M2 := M2.below hb
    replace M5 := M5.below hb
    have z6 := hb.size
    clear hb
    refine ⟨_, rfl, ?_⟩
    refine sx_val (by kernel_rfl) rfl rfl (.int .i64 (cmpV (a.getD j (0, false)) (b.getD j (0, false)))) (by kernel_rfl) ?_
    refine wpList_nil ?_
    refine sx_norm ?_
    refine wp_seq ?_
    refine wp_region_lit ?_
    refine sx_val (by kernel_rfl) rfl rfl (.int .i64 (cmpV (a.getD j (0, false)) (b.getD j (0, false)))) (by kernel_rfl) ?_
    by_cases C3 : (cmpV (a.getD j (0, false)) (b.getD j (0, false))) = 0
    · refine sx_bool (by kernel_rfl) rfl rfl (((cmpV (a.getD j (0, false)) (b.getD j (0, false))) : Int) != (0 : Int)) false (by kernel_rfl) (by rw [bne_eq_false_iff_eq]; omega) ?_
      refine wpList_nil ?_
      refine sx_norm ?_
      refine sx_false (by kernel_rfl) ?_
      refine wp_skip ?_
      refine sx_in ?_
      refine sx_norm ?_
      refine wp_region_lit ?_
      refine sx_int (by kernel_rfl) rfl rfl .i64 (IntKind.i64.wrap (((j : Nat) : Int) + 1)) (((j + 1 : Nat) : Int)) (by kernel_rfl) (by rw [IntKind.wrap_i64]; omega) ?_
      refine sx_val (by kernel_rfl) rfl rfl (.int .i64 ((j + 1 : Nat) : Int)) (by kernel_rfl) ?_
      refine wpList_nil ?_
      refine sx_norm ?_
      exact sx_again (a.length - (j + 1)) (j + 1) (by omega) (by kernel_rfl) ⟨by omega, by omega, Nat.le_refl _, (cmpL_eq (by omega) (by omega) (by omega)).symm.trans hI, HL⟩
    refine sx_bool (by kernel_rfl) rfl rfl (((cmpV (a.getD j (0, false)) (b.getD j (0, false))) : Int) != (0 : Int)) true (by kernel_rfl) (bne_iff_ne.2 (by omega)) ?_
    refine wpList_nil ?_
    refine sx_norm ?_
    refine sx_true (by kernel_rfl) ?_
    refine wp_seq ?_
    refine wp_region_lit ?_
    refine sx_val (by kernel_rfl) rfl rfl (.int .i64 (cmpV (a.getD j (0, false)) (b.getD j (0, false)))) (by kernel_rfl) ?_
    refine sx_val (by kernel_rfl) rfl rfl (.int .i64 (cmpV (a.getD j (0, false)) (b.getD j (0, false)))) (by kernel_rfl) ?_
    refine wpList_nil ?_
    refine sx_norm ?_
    refine wp_ret ?_
    refine sx_rb ?_
    refine sx_rs ?_
    refine sx_rs ?_
    refine sx_rb ?_
    refine sx_rs ?_
    exact sx_ret1 (.int .i64 (cmpV (a.getD j (0, false)) (b.getD j (0, false)))) rfl rfl (by kernel_rfl) ⟨ret_int ((cmpL_ne (by omega) (by omega) (by omega)).symm.trans hI), HB⟩
  refine sx_bool (by kernel_rfl) rfl rfl (decide (((j : Nat) : Int) < ((a.length : Nat) : Int))) false (by kernel_rfl) (decide_eq_false (by omega)) ?_
  refine wpList_nil ?_
  refine sx_norm ?_
  refine wp_seq ?_
  refine sx_false (by kernel_rfl) ?_
  refine wp_exit ?_
  refine sx_es ?_
  refine sx_es ?_
  refine sx_out ?_
  refine sx_norm ?_
  refine wp_seq ?_
  refine wp_seq ?_
  refine wp_region_lit ?_
  refine sx_val (by kernel_rfl) rfl rfl (.slice aa a.length ca) (by kernel_rfl) ?_
  refine sx_val (by kernel_rfl) rfl rfl (.int .i64 ((a.length : Nat) : Int)) (by kernel_rfl) ?_
  refine sx_val (by kernel_rfl) rfl rfl (.slice ab b.length cb) (by kernel_rfl) ?_
  refine sx_val (by kernel_rfl) rfl rfl (.int .i64 ((b.length : Nat) : Int)) (by kernel_rfl) ?_
  by_cases C4 : a.length < b.length
  · refine sx_bool (by kernel_rfl) rfl rfl (decide (((a.length : Nat) : Int) < ((b.length : Nat) : Int))) true (by kernel_rfl) (decide_eq_true (by omega)) ?_
    refine wpList_nil ?_
    refine sx_norm ?_
    refine sx_true (by kernel_rfl) ?_
    refine wp_seq ?_
    refine wp_region_lit ?_
    refine sx_val (by kernel_rfl) rfl rfl (.int .i64 (-1)) (by kernel_rfl) ?_
    refine wpList_nil ?_
    refine sx_norm ?_
    refine wp_ret ?_
    refine sx_rs ?_
    exact sx_ret1 (.int .i64 (-1)) rfl rfl (by kernel_rfl) ⟨ret_int ((cmpL_lt (by omega) (by omega)).symm.trans hI), HB⟩
  refine sx_bool (by kernel_rfl) rfl rfl (decide (((a.length : Nat) : Int) < ((b.length : Nat) : Int))) false (by kernel_rfl) (decide_eq_false (by omega)) ?_
  refine wpList_nil ?_
  refine sx_norm ?_
  refine sx_false (by kernel_rfl) ?_
  refine wp_skip ?_
  refine sx_norm ?_
  refine wp_seq ?_
  refine wp_region_lit ?_
  refine sx_val (by kernel_rfl) rfl rfl (.int .i64 0) (by kernel_rfl) ?_
  refine wpList_nil ?_
  refine sx_norm ?_
  refine wp_ret ?_
  exact sx_ret1 (.int .i64 0) rfl rfl (by kernel_rfl) ⟨ret_int ((cmpL_z (by omega) (by omega)).symm.trans hI), HB⟩
theorem less_n (aa ab : Option Addr) (ca cb pa qa pb qb : Nat) (a b : List (Int × Bool)) (la : a.length ≤ 1000000) (lb : b.length ≤ 1000000) (w : World) (hra : Rw w pa qa 2 (vF a) a.length aa) (hrb : Rw w pb qb 2 (vF b) b.length ab) : Calls Try.prog 20 #[.slice aa a.length ca, .slice ab b.length cb] w fun e w' => e = .returned (.bool (lessL a b)) ∧ Below w.heap.size w w' := by
  have HB : Below w.heap.size w w := Below.refl _ _
  refine sx_enter Try.func20 rfl [(0, .slice aa a.length ca), (1, .slice ab b.length cb)] (by kernel_rfl) ?_
  refine wp_seq ?_
  refine wp_region_lit ?_
  refine sx_val (by kernel_rfl) rfl rfl (.bool false) (by kernel_rfl) ?_
  refine wpList_nil ?_
  refine sx_norm ?_
  refine wp_seq ?_
  refine wp_region_lit ?_
  refine sx_val (by kernel_rfl) rfl rfl (.slice aa a.length ca) (by kernel_rfl) ?_
  refine sx_val (by kernel_rfl) rfl rfl (.slice ab b.length cb) (by kernel_rfl) ?_
  refine sx_call (by kernel_rfl) rfl rfl (compareFunc_n aa ab ca cb pa qa pb qb a b la lb w (hra.below HB) (hrb.below HB)) (by kernel_rfl) ?_
  rintro e W1 ⟨rfl, hb⟩
  replace HB := over HB hb
  have z1 := hb.size
  clear hb
  refine ⟨_, rfl, ?_⟩
  refine sx_val (by kernel_rfl) rfl rfl (.bool (decide ((cmpL a b) < 0))) (by kernel_rfl) ?_
  refine sx_val (by kernel_rfl) rfl rfl (.bool (decide ((cmpL a b) < 0))) (by kernel_rfl) ?_
  refine wpList_nil ?_
  refine sx_norm ?_
  refine wp_ret ?_
  exact sx_ret1 (.bool (decide ((cmpL a b) < 0))) rfl rfl (by kernel_rfl) ⟨rfl, HB⟩
theorem sameL_ne {a b : List (Int × Bool)} {j : Nat} (h : ¬ ((a.getD j (0, false)).1 = (b.getD j (0, false)).1 ∧ (a.getD j (0, false)).2 = (b.getD j (0, false)).2)) : a ≠ b := fun e => h (by rw [e]; exact ⟨rfl, rfl⟩)
theorem take_same {a b : List (Int × Bool)} {j : Nat} (ha : j < a.length) (hb : j < b.length) (ht : a.take j = b.take j) (h : (a.getD j (0, false)).1 = (b.getD j (0, false)).1 ∧ (a.getD j (0, false)).2 = (b.getD j (0, false)).2) : a.take (j + 1) = b.take (j + 1) := by
  rw [take_more (d := (0, false)) ha, take_more (d := (0, false)) hb, ht, Prod.ext h.1 h.2]
theorem take_end {a b : List (Int × Bool)} {j : Nat} (ha : a.length ≤ j) (hl : a.length = b.length) (ht : a.take j = b.take j) : a = b := by
  rwa [List.take_of_length_le ha, List.take_of_length_le (by omega)] at ht
theorem equalV_n (aa ab : Option Addr) (ca cb pa qa pb qb : Nat) (a b : List (Int × Bool)) (la : a.length ≤ 1000000) (lb : b.length ≤ 1000000) (w : World) (hra : Rw w pa qa 2 (vF a) a.length aa) (hrb : Rw w pb qb 2 (vF b) b.length ab) : Calls Try.prog 50 #[.slice aa a.length ca, .slice ab b.length cb] w fun e w' => e = .returned (.bool (decide (a = b))) ∧ Below w.heap.size w w' := by
  have HB : Below w.heap.size w w := Below.refl _ _
  refine sx_enter Try.func50 rfl [(0, .slice aa a.length ca), (1, .slice ab b.length cb)] (by kernel_rfl) ?_
  refine wp_seq ?_
  refine wp_region_lit ?_
  refine sx_val (by kernel_rfl) rfl rfl (.bool false) (by kernel_rfl) ?_
  refine wpList_nil ?_
  refine sx_norm ?_
  refine wp_seq ?_
  refine wp_seq ?_
  refine wp_region_lit ?_
  refine sx_val (by kernel_rfl) rfl rfl (.slice aa a.length ca) (by kernel_rfl) ?_
  refine sx_val (by kernel_rfl) rfl rfl (.int .i64 ((a.length : Nat) : Int)) (by kernel_rfl) ?_
  refine sx_val (by kernel_rfl) rfl rfl (.slice ab b.length cb) (by kernel_rfl) ?_
  refine sx_val (by kernel_rfl) rfl rfl (.int .i64 ((b.length : Nat) : Int)) (by kernel_rfl) ?_
  by_cases C1 : a.length = b.length
  · refine sx_bool (by kernel_rfl) rfl rfl ((((a.length : Nat) : Int) : Int) != (((b.length : Nat) : Int) : Int)) false (by kernel_rfl) (by rw [bne_eq_false_iff_eq]; omega) ?_
    refine wpList_nil ?_
    refine sx_norm ?_
    refine sx_false (by kernel_rfl) ?_
    refine wp_skip ?_
    refine sx_norm ?_
    refine wp_seq ?_
    refine wp_seq ?_
    refine wp_region_lit ?_
    refine sx_val (by kernel_rfl) rfl rfl (.slice aa a.length ca) (by kernel_rfl) ?_
    refine sx_val (by kernel_rfl) rfl rfl (.int .i64 ((a.length : Nat) : Int)) (by kernel_rfl) ?_
    refine sx_val (by kernel_rfl) rfl rfl (.int .i64 0) (by kernel_rfl) ?_
    refine wpList_nil ?_
    refine sx_norm ?_
    refine wp_block ?_
    refine sx_loop (fun j : Nat => [(0, .slice aa a.length ca), (1, .slice ab b.length cb), (6, .slice aa a.length ca), (7, .int .i64 ((a.length : Nat) : Int)), (8, .slice ab b.length cb), (9, .int .i64 ((b.length : Nat) : Int)), (10, .bool false), (11, .slice aa a.length ca), (12, .int .i64 ((a.length : Nat) : Int)), (13, .int .i64 ((j : Nat) : Int))]) (fun gg j wr => j ≤ a.length ∧ a.length - j ≤ gg ∧ a.take j = b.take j ∧ Below w.heap.size w wr) (a.length) (0) (by kernel_rfl) ⟨Nat.zero_le _, Nat.le_refl _, rfl, Below.refl _ _⟩ ?_
    rintro gg j g' wr ⟨hj, hg, hI, hbl⟩
    replace HB := over HB hbl
    have z1 := hbl.size
    have HL := hbl
    clear hbl
    refine wp_seq ?_
    refine wp_region_lit ?_
    by_cases C2 : j < a.length
    · refine sx_bool (by kernel_rfl) rfl rfl (decide (((j : Nat) : Int) < ((a.length : Nat) : Int))) true (by kernel_rfl) (decide_eq_true (by omega)) ?_
      refine wpList_nil ?_
      refine sx_norm ?_
      refine wp_seq ?_
      refine sx_true (by kernel_rfl) ?_
      refine wp_skip ?_
      refine sx_norm ?_
      refine wp_seq ?_
      refine wp_block ?_
      refine wp_seq ?_
      refine wp_region_lit ?_
      refine sx_val (by kernel_rfl) rfl rfl (.int .i64 ((j : Nat) : Int)) (by kernel_rfl) ?_
      refine sx_val (by kernel_rfl) rfl rfl (.int .i64 ((j : Nat) : Int)) (by kernel_rfl) ?_
      refine wpList_nil ?_
      refine sx_norm ?_
      refine wp_seq ?_
      obtain ⟨Y1, hW⟩ : ∃ W, wr.drew = W := ⟨_, rfl⟩
      have hb : Below wr.heap.size wr Y1 := hW ▸ below_drew (Below.refl _ _)
      replace HB := over HB hb
      replace HL := over HL hb
      have z2 := hb.size
      clear hb
      refine sd_begin (fun W => Rw W pa qa 2 (vF a) a.length aa ∧ Rw W pb qb 2 (vF b) b.length ab ∧ True) (by kernel_rfl) (by rw [hW]; exact ⟨(hra.below HB), (hrb.below HB), trivial⟩) ?_
      rw [hW]
      clear hW
      refine sd_take 0 rfl (by kernel_rfl) (by kernel_rfl) (by kernel_rfl) (by kernel_rfl) rfl rfl (.slice aa a.length ca) (fun w9 _ => by kernel_rfl) (fun _ _ _ h => h) ⟨(hra.below HB), (hrb.below HB), trivial⟩ ?_
      refine sd_take 1 rfl (by kernel_rfl) (by kernel_rfl) (by kernel_rfl) (by kernel_rfl) rfl rfl (.int .i64 ((j : Nat) : Int)) (fun w9 _ => by kernel_rfl) (fun _ _ _ h => h) ⟨(hra.below HB), (hrb.below HB), trivial⟩ ?_
      refine sd_take 2 rfl (by kernel_rfl) (by kernel_rfl) (by kernel_rfl) (by kernel_rfl) rfl rfl (.pointer (some ⟨pa, qa + j * 2, none⟩)) (fun w9 h9 => ex_indexO (q := qa) (m := a.length) (c := ca) (k := j) (s := 2) rfl (by kernel_rfl) (h9.1.oa (k := j) (by omega)) (by kernel_rfl) Try.underlying32 (by kernel_rfl) (by omega) (by omega)) (fun _ _ _ h => h) ⟨(hra.below HB), (hrb.below HB), trivial⟩ ?_
      refine sd_take 3 rfl (by kernel_rfl) (by kernel_rfl) (by kernel_rfl) (by kernel_rfl) rfl rfl (.agg #[.int .i64 ((a.getD j (0, false)).1), .bool (a.getD j (0, false)).2]) (fun w9 h9 => ex_loadR rfl (h9.1.range (k := j) (by omega)) (by kernel_rfl) Try.underlying52 rfl (by kernel_rfl)) (fun _ _ _ h => h) ⟨(hra.below HB), (hrb.below HB), trivial⟩ ?_
      refine sd_take 4 rfl (by kernel_rfl) (by kernel_rfl) (by kernel_rfl) (by kernel_rfl) rfl rfl (.slice ab b.length cb) (fun w9 _ => by kernel_rfl) (fun _ _ _ h => h) ⟨(hra.below HB), (hrb.below HB), trivial⟩ ?_
      refine sd_take 5 rfl (by kernel_rfl) (by kernel_rfl) (by kernel_rfl) (by kernel_rfl) rfl rfl (.int .i64 ((j : Nat) : Int)) (fun w9 _ => by kernel_rfl) (fun _ _ _ h => h) ⟨(hra.below HB), (hrb.below HB), trivial⟩ ?_
      refine sd_take 6 rfl (by kernel_rfl) (by kernel_rfl) (by kernel_rfl) (by kernel_rfl) rfl rfl (.pointer (some ⟨pb, qb + j * 2, none⟩)) (fun w9 h9 => ex_indexO (q := qb) (m := b.length) (c := cb) (k := j) (s := 2) rfl (by kernel_rfl) (h9.2.1.oa (k := j) (by omega)) (by kernel_rfl) Try.underlying32 (by kernel_rfl) (by omega) (by omega)) (fun _ _ _ h => h) ⟨(hra.below HB), (hrb.below HB), trivial⟩ ?_
      refine sd_take 7 rfl (by kernel_rfl) (by kernel_rfl) (by kernel_rfl) (by kernel_rfl) rfl rfl (.agg #[.int .i64 ((b.getD j (0, false)).1), .bool (b.getD j (0, false)).2]) (fun w9 h9 => ex_loadR rfl (h9.2.1.range (k := j) (by omega)) (by kernel_rfl) Try.underlying52 rfl (by kernel_rfl)) (fun _ _ _ h => h) ⟨(hra.below HB), (hrb.below HB), trivial⟩ ?_
      by_cases C3 : (a.getD j (0, false)).1 = (b.getD j (0, false)).1 ∧ (a.getD j (0, false)).2 = (b.getD j (0, false)).2
      · refine sd_take 8 rfl (by kernel_rfl) (by kernel_rfl) (by kernel_rfl) (by kernel_rfl) rfl rfl (.bool false) (fun w9 h9 => ex_bool (!((a.getD j (0, false)).1 == (b.getD j (0, false)).1 && (a.getD j (0, false)).2 == (b.getD j (0, false)).2)) false (ex_neqV rfl (by kernel_rfl) (by kernel_rfl)) (by rw [eqv_t C3]; rfl)) (fun _ _ _ h => h) ⟨(hra.below HB), (hrb.below HB), trivial⟩ ?_
        refine sd_done (by kernel_rfl) ?_
        refine sx_norm ?_
        refine sx_false (by kernel_rfl) ?_
        refine wp_skip ?_
        refine sx_in ?_
        refine sx_norm ?_
        refine wp_region_lit ?_
        refine sx_int (by kernel_rfl) rfl rfl .i64 (IntKind.i64.wrap (((j : Nat) : Int) + 1)) (((j + 1 : Nat) : Int)) (by kernel_rfl) (by rw [IntKind.wrap_i64]; omega) ?_
        refine sx_val (by kernel_rfl) rfl rfl (.int .i64 ((j + 1 : Nat) : Int)) (by kernel_rfl) ?_
        refine wpList_nil ?_
        refine sx_norm ?_
        exact sx_again (a.length - (j + 1)) (j + 1) (by omega) (by kernel_rfl) ⟨by omega, Nat.le_refl _, take_same (by omega) (by omega) hI (by assumption), HL⟩
      refine sd_take 8 rfl (by kernel_rfl) (by kernel_rfl) (by kernel_rfl) (by kernel_rfl) rfl rfl (.bool true) (fun w9 h9 => ex_bool (!((a.getD j (0, false)).1 == (b.getD j (0, false)).1 && (a.getD j (0, false)).2 == (b.getD j (0, false)).2)) true (ex_neqV rfl (by kernel_rfl) (by kernel_rfl)) (by rw [eqv_f C3]; rfl)) (fun _ _ _ h => h) ⟨(hra.below HB), (hrb.below HB), trivial⟩ ?_
      refine sd_done (by kernel_rfl) ?_
      refine sx_norm ?_
      refine sx_true (by kernel_rfl) ?_
      refine wp_seq ?_
      refine wp_region_lit ?_
      refine sx_val (by kernel_rfl) rfl rfl (.bool false) (by kernel_rfl) ?_
      refine wpList_nil ?_
      refine sx_norm ?_
      refine wp_ret ?_
      refine sx_rb ?_
      refine sx_rs ?_
      refine sx_rs ?_
      refine sx_rb ?_
      refine sx_rs ?_
      exact sx_ret1 (.bool false) rfl rfl (by kernel_rfl) ⟨ret_bool (decide_eq_false (by first | exact sameL_ne (by assumption) | (intro h9; subst h9; omega))).symm, HB⟩
    refine sx_bool (by kernel_rfl) rfl rfl (decide (((j : Nat) : Int) < ((a.length : Nat) : Int))) false (by kernel_rfl) (decide_eq_false (by omega)) ?_
    refine wpList_nil ?_
    refine sx_norm ?_
    refine wp_seq ?_
    refine sx_false (by kernel_rfl) ?_
    refine wp_exit ?_
    refine sx_es ?_
    refine sx_es ?_
    refine sx_out ?_
    refine sx_norm ?_
    refine wp_seq ?_
    refine wp_region_lit ?_
    refine sx_val (by kernel_rfl) rfl rfl (.bool true) (by kernel_rfl) ?_
    refine wpList_nil ?_
    refine sx_norm ?_
    refine wp_ret ?_
    exact sx_ret1 (.bool true) rfl rfl (by kernel_rfl) ⟨ret_bool (decide_eq_true (take_end (by omega) (by omega) hI)).symm, HB⟩
  refine sx_bool (by kernel_rfl) rfl rfl ((((a.length : Nat) : Int) : Int) != (((b.length : Nat) : Int) : Int)) true (by kernel_rfl) (bne_iff_ne.2 (by omega)) ?_
  refine wpList_nil ?_
  refine sx_norm ?_
  refine sx_true (by kernel_rfl) ?_
  refine wp_seq ?_
  refine wp_region_lit ?_
  refine sx_val (by kernel_rfl) rfl rfl (.bool false) (by kernel_rfl) ?_
  refine wpList_nil ?_
  refine sx_norm ?_
  refine wp_ret ?_
  refine sx_rs ?_
  exact sx_ret1 (.bool false) rfl rfl (by kernel_rfl) ⟨ret_bool (decide_eq_false (by first | exact sameL_ne (by assumption) | (intro h9; subst h9; omega))).symm, HB⟩
theorem same16_n (aa ab : Option Addr) (ca cb pa qa pb qb : Nat) (a b : List (Int × Bool)) (la : a.length ≤ 1000000) (lb : b.length ≤ 1000000) (w : World) (hra : Rw w pa qa 2 (vF a) a.length aa) (hrb : Rw w pb qb 2 (vF b) b.length ab) : Calls Try.prog 21 #[.slice aa a.length ca, .slice ab b.length cb] w fun e w' => e = .returned (.bool (decide (a = b))) ∧ Below w.heap.size w w' := by
  have HB : Below w.heap.size w w := Below.refl _ _
  refine sx_enter Try.func21 rfl [(0, .slice aa a.length ca), (1, .slice ab b.length cb)] (by kernel_rfl) ?_
  refine wp_seq ?_
  refine wp_region_lit ?_
  refine sx_val (by kernel_rfl) rfl rfl (.bool false) (by kernel_rfl) ?_
  refine wpList_nil ?_
  refine sx_norm ?_
  refine wp_seq ?_
  refine wp_region_lit ?_
  refine sx_val (by kernel_rfl) rfl rfl (.slice aa a.length ca) (by kernel_rfl) ?_
  refine sx_val (by kernel_rfl) rfl rfl (.slice ab b.length cb) (by kernel_rfl) ?_
  refine sx_call (by kernel_rfl) rfl rfl (equalV_n aa ab ca cb pa qa pb qb a b la lb w (hra.below HB) (hrb.below HB)) (by kernel_rfl) ?_
  rintro e W1 ⟨rfl, hb⟩
  replace HB := over HB hb
  have z1 := hb.size
  clear hb
  refine ⟨_, rfl, ?_⟩
  refine sx_val (by kernel_rfl) rfl rfl (.bool (decide (a = b))) (by kernel_rfl) ?_
  refine wpList_nil ?_
  refine sx_norm ?_
  refine wp_ret ?_
  exact sx_ret1 (.bool (decide (a = b))) rfl rfl (by kernel_rfl) ⟨rfl, HB⟩
theorem has_def (m k : Nat) : S.has m k = hasZ (m : Int) k := by
  unfold S.has hasZ
  have : ((m : Int) / 2 ^ k % 2) = ((m / 2 ^ k % 2 : Nat) : Int) := by simp
  rw [this]
  by_cases h : m / 2 ^ k % 2 = 1
  · rw [h]; rfl
  · have h2 : m / 2 ^ k % 2 = 0 := by omega
    rw [h2]; rfl
end Go.Proofs.Ytoliacfpjhanlaa.T


/-! The progress of a sequence (by gen_sf.py). -/
namespace Go.Proofs.Ytoliacfpjhanlaa.T
open Go.RowKit
set_option maxRecDepth 8000
attribute [local irreducible] wpList Code.wp wpAnyH

def withP (p : Nat × Nat) (v : Int × Bool) : Nat × Nat := if v.2 then (p.1, p.2 ||| 2 ^ v.1.toNat) else (p.1 ||| 2 ^ v.1.toNat, p.2)
theorem with_n (p : Nat × Nat) (v : Int × Bool) (h1 : p.1 < 2 ^ 63) (h2 : p.2 < 2 ^ 63) (hx : num62 v.1 = true) (w : World) : Calls Try.prog 41 #[.agg #[.int .i64 ((p.1 : Nat) : Int), .int .i64 ((p.2 : Nat) : Int)], .agg #[.int .i64 v.1, .bool v.2]] w fun e w' => e = .returned (.agg #[.int .i64 ((withP p v).1 : Nat), .int .i64 ((withP p v).2 : Nat)]) ∧ Below w.heap.size w w' := by
  have HB : Below w.heap.size w w := Below.refl _ _
  refine sx_enter Try.func41 rfl [(0, .agg #[.int .i64 ((p.1 : Nat) : Int), .int .i64 ((p.2 : Nat) : Int)]), (1, .agg #[.int .i64 v.1, .bool v.2])] (by kernel_rfl) ?_
  refine wp_seq ?_
  refine wp_region_lit ?_
  obtain ⟨W1, hW⟩ : ∃ W, w.alloc (.cells #[.int .i64 ((p.1 : Nat) : Int), .int .i64 ((p.2 : Nat) : Int)] 72) = W := ⟨_, rfl⟩
  have hb := hW ▸ below_alloc w (.cells #[.int .i64 ((p.1 : Nat) : Int), .int .i64 ((p.2 : Nat) : Int)] 72)
  have hq : Cb W1 w.heap.size #[.int .i64 ((p.1 : Nat) : Int), .int .i64 ((p.2 : Nat) : Int)] 72 := hW ▸ Cb.made w #[.int .i64 ((p.1 : Nat) : Int), .int .i64 ((p.2 : Nat) : Int)] 72
  refine sx_mem (by kernel_rfl) rfl rfl (.pointer (some ⟨w.heap.size, 0, none⟩)) W1 (by rw [← hW]; kernel_rfl) ?_
  replace HB := over HB hb
  have z1 := hb.size
  have M2 := hq
  have yM2 := hq.lt
  clear hq hb hW
  obtain ⟨W3, hW⟩ : ∃ W, W1.alloc (.cells #[.int .i64 v.1, .bool v.2] 52) = W := ⟨_, rfl⟩
  have hb := hW ▸ below_alloc W1 (.cells #[.int .i64 v.1, .bool v.2] 52)
  have hq : Cb W3 W1.heap.size #[.int .i64 v.1, .bool v.2] 52 := hW ▸ Cb.made W1 #[.int .i64 v.1, .bool v.2] 52
  refine sx_mem (by kernel_rfl) rfl rfl (.pointer (some ⟨W1.heap.size, 0, none⟩)) W3 (by rw [← hW]; kernel_rfl) ?_
  replace HB := over HB hb
  replace M2 := M2.below hb
  have z2 := hb.size
  have M4 := hq
  have yM4 := hq.lt
  clear hq hb hW
  obtain ⟨W5, hW⟩ : ∃ W, W3.alloc (.cells #[.int .i64 0, .int .i64 0] 72) = W := ⟨_, rfl⟩
  have hb := hW ▸ below_alloc W3 (.cells #[.int .i64 0, .int .i64 0] 72)
  have hq : Cb W5 W3.heap.size #[.int .i64 0, .int .i64 0] 72 := hW ▸ Cb.made W3 #[.int .i64 0, .int .i64 0] 72
  refine sx_mem (by kernel_rfl) rfl rfl (.pointer (some ⟨W3.heap.size, 0, none⟩)) W5 (by rw [← hW]; kernel_rfl) ?_
  replace HB := over HB hb
  replace M2 := M2.below hb
  replace M4 := M4.below hb
  have z3 := hb.size
  have M6 := hq
  have yM6 := hq.lt
  clear hq hb hW
  refine wpList_nil ?_
  refine sx_norm ?_
  refine wp_seq ?_
  refine wp_seq ?_
  refine wp_region_lit ?_
  refine sx_val (by kernel_rfl) rfl rfl (.pointer (some ⟨W1.heap.size, 1, none⟩)) (by kernel_rfl) ?_
  by_cases C1 : v.2 = true
  · refine sx_val (by kernel_rfl) rfl rfl (.bool true) (ex_load1 (v := .bool true) rfl (by have h8 := M4.cell 1 rfl; rw [show v.2 = true by simpa using C1] at h8; exact h8) (by kernel_rfl) Try.underlying4 rfl) ?_
    refine wpList_nil ?_
    refine sx_norm ?_
    refine sx_true (by kernel_rfl) ?_
    obtain ⟨Y7, hW⟩ : ∃ W, W5.drew = W := ⟨_, rfl⟩
    have hb : Below W5.heap.size W5 Y7 := hW ▸ below_drew (Below.refl _ _)
    replace HB := over HB hb
    replace M2 := M2.below hb
    replace M4 := M4.below hb
    replace M6 := M6.below hb
    have z4 := hb.size
    clear hb
    refine sd_begin (fun W => Cb W (W1.heap.size) #[.int .i64 v.1, .bool v.2] 52 ∧ True) (by kernel_rfl) (by rw [hW]; exact ⟨M4, trivial⟩) ?_
    rw [hW]
    clear hW
    refine sd_take 0 rfl (by kernel_rfl) (by kernel_rfl) (by kernel_rfl) (by kernel_rfl) rfl rfl (.pointer (some ⟨w.heap.size, 1, none⟩)) (fun w9 _ => by kernel_rfl) (fun _ _ _ h => h) ⟨M4, trivial⟩ ?_
    refine sd_take 2 rfl (by kernel_rfl) (by kernel_rfl) (by kernel_rfl) (by kernel_rfl) rfl rfl (.pointer (some ⟨W1.heap.size, 0, none⟩)) (fun w9 _ => by kernel_rfl) (fun _ _ _ h => h) ⟨M4, trivial⟩ ?_
    refine sd_take 3 rfl (by kernel_rfl) (by kernel_rfl) (by kernel_rfl) (by kernel_rfl) rfl rfl (.int .i64 v.1) (fun w9 h9 => ex_load1 rfl (h9.1.cell 0 rfl) (by kernel_rfl) Try.underlying3 rfl) (fun _ _ _ h => h) ⟨M4, trivial⟩ ?_
    have hkx : v.1 = ((v.1.toNat : Nat) : Int) ∧ v.1.toNat ≤ 62 := by have N2 := hx; unfold num62 at N2; rw [Bool.and_eq_true, decide_eq_true_eq, decide_eq_true_eq] at N2; omega
    refine sd_take 4 rfl (by kernel_rfl) (by kernel_rfl) (by kernel_rfl) (by kernel_rfl) rfl rfl (.int .i64 (IntKind.i64.wrap (1 * 2 ^ v.1.toNat))) (fun w9 h9 => ex_shl rfl .i64 1 v.1.toNat _ (by kernel_rfl) (by rw [← hkx.1]; kernel_rfl) hkx.2 rfl) (fun _ _ _ h => h) ⟨M4, trivial⟩ ?_
    refine sd_all [1] (by kernel_rfl) (by decide) ?_
    refine sd_mem (i := 1) rfl (by kernel_rfl) rfl rfl (.int .i64 ((p.2 : Nat) : Int)) Y7 (ex_load1 rfl (M2.cell 1 rfl) (by kernel_rfl) Try.underlying3 rfl) ⟨M4, trivial⟩ ?_ AllReadyH.nil
    refine sd_take 5 rfl (by kernel_rfl) (by kernel_rfl) (by kernel_rfl) (by kernel_rfl) rfl rfl (.int .i64 ((p.2 ||| 2 ^ v.1.toNat : Nat) : Int)) (fun w9 _ => ex_int .i64 (bits .or .i64 ((p.2 : Nat) : Int) (IntKind.i64.wrap (1 * 2 ^ v.1.toNat))) (((p.2 ||| 2 ^ v.1.toNat : Nat) : Int)) (by kernel_rfl) (or_shl _ _ h2 hx)) (fun _ _ _ h => h) ⟨M4, trivial⟩ ?_
    refine sd_take 6 rfl (by kernel_rfl) (by kernel_rfl) (by kernel_rfl) (by kernel_rfl) rfl rfl (.pointer (some ⟨w.heap.size, 1, none⟩)) (fun w9 _ => by kernel_rfl) (fun _ _ _ h => h) ⟨M4, trivial⟩ ?_
    refine sd_all [7] (by kernel_rfl) (by decide) ?_
    refine sd_do (i := 7) rfl (by kernel_rfl) rfl (Y7.setCell ⟨w.heap.size, 1, none⟩ (.int .i64 ((p.2 ||| 2 ^ v.1.toNat : Nat) : Int))) (ex_storeC (k := 1) (old := .int .i64 ((p.2 : Nat) : Int)) rfl M2 (by kernel_rfl) (by kernel_rfl) (by kernel_rfl) (by kernel_rfl) (by kernel_rfl)) ⟨(M4.kept (grown_set Y7 (w.heap.size) 1 (.int .i64 ((p.2 ||| 2 ^ v.1.toNat : Nat) : Int))) (by omega)), trivial⟩ ?_ AllReadyH.nil
    obtain ⟨W8, hW⟩ : ∃ W, Y7.setCell ⟨w.heap.size, 1, none⟩ (.int .i64 ((p.2 ||| 2 ^ v.1.toNat : Nat) : Int)) = W := ⟨_, rfl⟩
    have hg : Y7.grownBy W8 (some (w.heap.size)) := hW ▸ grown_set _ _ _ _
    have hq : Cb W8 (w.heap.size) #[.int .i64 ((p.1 : Nat) : Int), .int .i64 ((p.2 ||| 2 ^ v.1.toNat : Nat) : Int)] 72 := hW ▸ M2.set 1 (.int .i64 ((p.2 ||| 2 ^ v.1.toNat : Nat) : Int))
    rw [hW]
    replace HB := HB.grown hg (by omega) (fun x e => by simp only [Option.some.injEq] at e; omega)
    replace M4 := M4.kept hg (by omega)
    replace M6 := M6.kept hg (by omega)
    have z5 := hg.size
    replace M2 := hq
    clear hq hg hW
    refine sd_done (by kernel_rfl) ?_
    refine sx_norm ?_
    refine wp_seq ?_
    refine wp_region_lit ?_
    refine sx_val (by kernel_rfl) rfl rfl (.agg #[.int .i64 ((p.1 : Nat) : Int), .int .i64 ((p.2 ||| 2 ^ v.1.toNat : Nat) : Int)]) (ex_load rfl M2 (by kernel_rfl) Try.underlying72 rfl (by kernel_rfl)) ?_
    refine sx_store (cells := #[.int .i64 ((p.1 : Nat) : Int), .int .i64 ((p.2 ||| 2 ^ v.1.toNat : Nat) : Int)]) (by kernel_rfl) rfl rfl M6 (by kernel_rfl) (by kernel_rfl) (by kernel_rfl) (by kernel_rfl) (by kernel_rfl) ?_
    obtain ⟨W9, hW⟩ : ∃ W, W8.setRow (W3.heap.size) #[.int .i64 ((p.1 : Nat) : Int), .int .i64 ((p.2 ||| 2 ^ v.1.toNat : Nat) : Int)] = W := ⟨_, rfl⟩
    have hg : W8.grownBy W9 (some (W3.heap.size)) := hW ▸ grown_row _ _ _
    have hq : Cb W9 (W3.heap.size) #[.int .i64 ((p.1 : Nat) : Int), .int .i64 ((p.2 ||| 2 ^ v.1.toNat : Nat) : Int)] 72 := hW ▸ Cb.row M6 _
    rw [hW]
    replace HB := HB.grown hg (by omega) (fun x e => by simp only [Option.some.injEq] at e; omega)
    replace M2 := M2.kept hg (by omega)
    replace M4 := M4.kept hg (by omega)
    have z6 := hg.size
    replace M6 := hq
    clear hq hg hW
    refine wpList_nil ?_
    refine sx_norm ?_
    refine wp_ret ?_
    exact sx_retc M6 rfl rfl (by kernel_rfl) Try.underlying72 rfl (by kernel_rfl) ⟨by unfold withP; simp [C1], HB⟩
  refine sx_val (by kernel_rfl) rfl rfl (.bool false) (ex_load1 (v := .bool false) rfl (by have h8 := M4.cell 1 rfl; rw [show v.2 = false by simpa using C1] at h8; exact h8) (by kernel_rfl) Try.underlying4 rfl) ?_
  refine wpList_nil ?_
  refine sx_norm ?_
  refine sx_false (by kernel_rfl) ?_
  obtain ⟨Y10, hW⟩ : ∃ W, W5.drew = W := ⟨_, rfl⟩
  have hb : Below W5.heap.size W5 Y10 := hW ▸ below_drew (Below.refl _ _)
  replace HB := over HB hb
  replace M2 := M2.below hb
  replace M4 := M4.below hb
  replace M6 := M6.below hb
  have z4 := hb.size
  clear hb
  refine sd_begin (fun W => Cb W (W1.heap.size) #[.int .i64 v.1, .bool v.2] 52 ∧ True) (by kernel_rfl) (by rw [hW]; exact ⟨M4, trivial⟩) ?_
  rw [hW]
  clear hW
  refine sd_take 0 rfl (by kernel_rfl) (by kernel_rfl) (by kernel_rfl) (by kernel_rfl) rfl rfl (.pointer (some ⟨w.heap.size, 0, none⟩)) (fun w9 _ => by kernel_rfl) (fun _ _ _ h => h) ⟨M4, trivial⟩ ?_
  refine sd_take 2 rfl (by kernel_rfl) (by kernel_rfl) (by kernel_rfl) (by kernel_rfl) rfl rfl (.pointer (some ⟨W1.heap.size, 0, none⟩)) (fun w9 _ => by kernel_rfl) (fun _ _ _ h => h) ⟨M4, trivial⟩ ?_
  refine sd_take 3 rfl (by kernel_rfl) (by kernel_rfl) (by kernel_rfl) (by kernel_rfl) rfl rfl (.int .i64 v.1) (fun w9 h9 => ex_load1 rfl (h9.1.cell 0 rfl) (by kernel_rfl) Try.underlying3 rfl) (fun _ _ _ h => h) ⟨M4, trivial⟩ ?_
  have hkx : v.1 = ((v.1.toNat : Nat) : Int) ∧ v.1.toNat ≤ 62 := by have N2 := hx; unfold num62 at N2; rw [Bool.and_eq_true, decide_eq_true_eq, decide_eq_true_eq] at N2; omega
  refine sd_take 4 rfl (by kernel_rfl) (by kernel_rfl) (by kernel_rfl) (by kernel_rfl) rfl rfl (.int .i64 (IntKind.i64.wrap (1 * 2 ^ v.1.toNat))) (fun w9 h9 => ex_shl rfl .i64 1 v.1.toNat _ (by kernel_rfl) (by rw [← hkx.1]; kernel_rfl) hkx.2 rfl) (fun _ _ _ h => h) ⟨M4, trivial⟩ ?_
  refine sd_all [1] (by kernel_rfl) (by decide) ?_
  refine sd_mem (i := 1) rfl (by kernel_rfl) rfl rfl (.int .i64 ((p.1 : Nat) : Int)) Y10 (ex_load1 rfl (M2.cell 0 rfl) (by kernel_rfl) Try.underlying3 rfl) ⟨M4, trivial⟩ ?_ AllReadyH.nil
  refine sd_take 5 rfl (by kernel_rfl) (by kernel_rfl) (by kernel_rfl) (by kernel_rfl) rfl rfl (.int .i64 ((p.1 ||| 2 ^ v.1.toNat : Nat) : Int)) (fun w9 _ => ex_int .i64 (bits .or .i64 ((p.1 : Nat) : Int) (IntKind.i64.wrap (1 * 2 ^ v.1.toNat))) (((p.1 ||| 2 ^ v.1.toNat : Nat) : Int)) (by kernel_rfl) (or_shl _ _ h1 hx)) (fun _ _ _ h => h) ⟨M4, trivial⟩ ?_
  refine sd_take 6 rfl (by kernel_rfl) (by kernel_rfl) (by kernel_rfl) (by kernel_rfl) rfl rfl (.pointer (some ⟨w.heap.size, 0, none⟩)) (fun w9 _ => by kernel_rfl) (fun _ _ _ h => h) ⟨M4, trivial⟩ ?_
  refine sd_all [7] (by kernel_rfl) (by decide) ?_
  refine sd_do (i := 7) rfl (by kernel_rfl) rfl (Y10.setCell ⟨w.heap.size, 0, none⟩ (.int .i64 ((p.1 ||| 2 ^ v.1.toNat : Nat) : Int))) (ex_storeC (k := 0) (old := .int .i64 ((p.1 : Nat) : Int)) rfl M2 (by kernel_rfl) (by kernel_rfl) (by kernel_rfl) (by kernel_rfl) (by kernel_rfl)) ⟨(M4.kept (grown_set Y10 (w.heap.size) 0 (.int .i64 ((p.1 ||| 2 ^ v.1.toNat : Nat) : Int))) (by omega)), trivial⟩ ?_ AllReadyH.nil
  obtain ⟨W11, hW⟩ : ∃ W, Y10.setCell ⟨w.heap.size, 0, none⟩ (.int .i64 ((p.1 ||| 2 ^ v.1.toNat : Nat) : Int)) = W := ⟨_, rfl⟩
  have hg : Y10.grownBy W11 (some (w.heap.size)) := hW ▸ grown_set _ _ _ _
  have hq : Cb W11 (w.heap.size) #[.int .i64 ((p.1 ||| 2 ^ v.1.toNat : Nat) : Int), .int .i64 ((p.2 : Nat) : Int)] 72 := hW ▸ M2.set 0 (.int .i64 ((p.1 ||| 2 ^ v.1.toNat : Nat) : Int))
  rw [hW]
  replace HB := HB.grown hg (by omega) (fun x e => by simp only [Option.some.injEq] at e; omega)
  replace M4 := M4.kept hg (by omega)
  replace M6 := M6.kept hg (by omega)
  have z5 := hg.size
  replace M2 := hq
  clear hq hg hW
  refine sd_done (by kernel_rfl) ?_
  refine sx_norm ?_
  refine wp_seq ?_
  refine wp_region_lit ?_
  refine sx_val (by kernel_rfl) rfl rfl (.agg #[.int .i64 ((p.1 ||| 2 ^ v.1.toNat : Nat) : Int), .int .i64 ((p.2 : Nat) : Int)]) (ex_load rfl M2 (by kernel_rfl) Try.underlying72 rfl (by kernel_rfl)) ?_
  refine sx_store (cells := #[.int .i64 ((p.1 ||| 2 ^ v.1.toNat : Nat) : Int), .int .i64 ((p.2 : Nat) : Int)]) (by kernel_rfl) rfl rfl M6 (by kernel_rfl) (by kernel_rfl) (by kernel_rfl) (by kernel_rfl) (by kernel_rfl) ?_
  obtain ⟨W12, hW⟩ : ∃ W, W11.setRow (W3.heap.size) #[.int .i64 ((p.1 ||| 2 ^ v.1.toNat : Nat) : Int), .int .i64 ((p.2 : Nat) : Int)] = W := ⟨_, rfl⟩
  have hg : W11.grownBy W12 (some (W3.heap.size)) := hW ▸ grown_row _ _ _
  have hq : Cb W12 (W3.heap.size) #[.int .i64 ((p.1 ||| 2 ^ v.1.toNat : Nat) : Int), .int .i64 ((p.2 : Nat) : Int)] 72 := hW ▸ Cb.row M6 _
  rw [hW]
  replace HB := HB.grown hg (by omega) (fun x e => by simp only [Option.some.injEq] at e; omega)
  replace M2 := M2.kept hg (by omega)
  replace M4 := M4.kept hg (by omega)
  have z6 := hg.size
  replace M6 := hq
  clear hq hg hW
  refine wpList_nil ?_
  refine sx_norm ?_
  refine wp_ret ?_
  exact sx_retc M6 rfl rfl (by kernel_rfl) Try.underlying72 rfl (by kernel_rfl) ⟨by unfold withP; simp [C1], HB⟩

end Go.Proofs.Ytoliacfpjhanlaa.T


