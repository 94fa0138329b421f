/-
  DERIVED. Sc: a part of the base of layer 13 (made by pack.py).
-/
import Derived.Test.YtoliacfpjhanlaaHO
import Derived.Test.YtoliacfpjhanlaaSa
/-! Orders, Less, Same, of sequence and of its specification (by gen_sc.py). -/
namespace Go.Proofs.Ytoliacfpjhanlaa.T
open Go.RowKit
set_option maxRecDepth 8000
attribute [local irreducible] wpList Code.wp wpAnyH

def vF (l : List (Int × Bool)) (k : Nat) : List Value := [vE (l.getD k (0, false)), vA (l.getD k (0, false))]
theorem Vs.rw {w : World} {v : Value} {l : List (Int × Bool)} (h : Vs w v l) : ∃ oa c b o, v = .slice oa l.length c ∧ Rw w b o 2 (vF l) l.length oa := Sl.rw h
/-! ### the orders of visits -/
def ordK (l : List (Int × Bool)) (j : Nat) : Nat := (l.take j).foldl (fun m v => m ||| 2 ^ v.1.toNat) 0
def ordB (l : List (Int × Bool)) : Bool := l.all fun v => num62 v.1
def ordN (l : List (Int × Bool)) : Int := if ordB l then (ordK l l.length : Nat) else 0
def ordE (l : List (Int × Bool)) : Int := if ordB l then 0 else 2
theorem ordK_more {l : List (Int × Bool)} {j : Nat} (h : j < l.length) : ordK l (j + 1) = ordK l j ||| 2 ^ (l.getD j (0, false)).1.toNat := by
  unfold ordK
  rw [take_more (d := (0, false)) h, List.foldl_append]
  rfl
theorem ordK_lt {l : List (Int × Bool)} (hb : ∀ i, i < l.length → num62 (l.getD i (0, false)).1 = true) : ∀ j, j ≤ l.length → ordK l j < 2 ^ 63
  | 0, _ => by unfold ordK; simp
  | j + 1, h => by
    rw [ordK_more (by omega)]
    have h1 := hb j (by omega)
    unfold num62 at h1
    rw [Bool.and_eq_true, decide_eq_true_eq, decide_eq_true_eq] at h1
    exact Nat.or_lt_two_pow (ordK_lt hb j (by omega)) (Nat.pow_lt_pow_right (by omega) (by omega))
theorem ordK_lt' {l : List (Int × Bool)} {j : Nat} (hj : j ≤ l.length) (hb : ∀ i, i < j → num62 (l.getD i (0, false)).1 = true) : ordK l j < 2 ^ 63 := by
  have h1 : (l.take j).length = j := by rw [List.length_take]; omega
  have h := ordK_lt (l := l.take j) (fun i hi => by
    rw [h1] at hi
    rw [List.getD_eq_getElem?_getD, List.getElem?_take, if_pos hi, ← List.getD_eq_getElem?_getD]
    exact hb i hi) j (by omega)
  unfold ordK at h ⊢
  rwa [List.take_take, Nat.min_self] at h
theorem ordB_all {l : List (Int × Bool)} (hb : ∀ i, i < l.length → num62 (l.getD i (0, false)).1 = true) : ordB l = true := by
  unfold ordB
  rw [List.all_eq_true]
  intro x hx
  obtain ⟨i, hi, rfl⟩ := List.getElem_of_mem hx
  have := hb i hi
  rwa [List.getD_eq_getElem?_getD, List.getElem?_eq_getElem hi] at this
theorem ordB_not {l : List (Int × Bool)} {j : Nat} (hj : j < l.length) (hb : num62 (l.getD j (0, false)).1 = false) : ordB l = false := by
  cases h : ordB l
  · rfl
  · unfold ordB at h
    rw [List.all_eq_true] at h
    rw [h _ (getD_mem hj)] at hb; cases hb
theorem or_shl (m : Nat) (x : Int) (hm : m < 2 ^ 63) (hx : num62 x = true) : bits .or .i64 (m : Int) (IntKind.i64.wrap (1 * 2 ^ x.toNat)) = ((m ||| 2 ^ x.toNat : Nat) : Int) := by
  unfold num62 at hx
  rw [Bool.and_eq_true, decide_eq_true_eq, decide_eq_true_eq] at hx
  rw [Int.one_mul]
  have h := or_bit m x.toNat hm (by omega)
  unfold wrap64 at h
  rw [IntKind.wrap_i64]
  exact h
theorem orders_n (ty st : Int) (orr oa : Option Addr) (nr cr c b o : Nat) (l : List (Int × Bool)) (hl : l.length ≤ 1000000) (w : World) (hv : Rw w b o 2 (vF l) l.length oa) : Calls Try.prog 19 #[.agg #[.int .i64 ty, .int .i64 st, .slice orr nr cr, .slice oa l.length c]] w fun e w' => e = .returned (.tuple #[.int .i64 (ordN l), .int .i64 (ordE l)]) ∧ Below w.heap.size w w' := by
  have HB : Below w.heap.size w w := Below.refl _ _
  refine sx_enter Try.func19 rfl [(0, .agg #[.int .i64 ty, .int .i64 st, .slice orr nr cr, .slice oa l.length c])] (by kernel_rfl) ?_
  refine wp_seq ?_
  refine wp_region_lit ?_
  obtain ⟨W1, hW⟩ : ∃ W, w.alloc (.cells #[.int .i64 ty, .int .i64 st, .slice orr nr cr, .slice oa l.length c] 34) = W := ⟨_, rfl⟩
  have hb := hW ▸ below_alloc w (.cells #[.int .i64 ty, .int .i64 st, .slice orr nr cr, .slice oa l.length c] 34)
  have hq : Cb W1 w.heap.size #[.int .i64 ty, .int .i64 st, .slice orr nr cr, .slice oa l.length c] 34 := hW ▸ Cb.made w #[.int .i64 ty, .int .i64 st, .slice orr nr cr, .slice oa l.length c] 34
  refine sx_mem (by kernel_rfl) rfl rfl (.pointer (some ⟨w.heap.size, 0, none⟩)) W1 (by rw [← hW]; kernel_rfl) ?_
  replace HB := over HB hb
  have z1 := hb.size
  have M2 := hq
  have yM2 := hq.lt
  clear hq hb hW
  refine sx_val (by kernel_rfl) rfl rfl (.int .i64 0) (by kernel_rfl) ?_
  refine sx_val (by kernel_rfl) rfl rfl (.int .i64 0) (by kernel_rfl) ?_
  refine wpList_nil ?_
  refine sx_norm ?_
  refine wp_seq ?_
  refine wp_region_lit ?_
  refine sx_val (by kernel_rfl) rfl rfl (.int .i64 0) (by kernel_rfl) ?_
  refine wpList_nil ?_
  refine sx_norm ?_
  refine wp_seq ?_
  refine wp_seq ?_
  refine wp_region_lit ?_
  refine sx_val (by kernel_rfl) rfl rfl (.pointer (some ⟨w.heap.size, 3, none⟩)) (by kernel_rfl) ?_
  refine sx_val (by kernel_rfl) rfl rfl (.slice oa l.length c) (ex_load1 rfl (M2.cell 3 rfl) (by kernel_rfl) Try.underlying32 rfl) ?_
  refine sx_val (by kernel_rfl) rfl rfl (.int .i64 ((l.length : Nat) : Int)) (by kernel_rfl) ?_
  refine sx_val (by kernel_rfl) rfl rfl (.int .i64 0) (by kernel_rfl) ?_
  refine wpList_nil ?_
  refine sx_norm ?_
  refine wp_block ?_
  refine sx_loop (fun j : Nat => [(0, .agg #[.int .i64 ty, .int .i64 st, .slice orr nr cr, .slice oa l.length c]), (1, .pointer (some ⟨w.heap.size, 0, none⟩)), (4, .int .i64 ((ordK l j : Nat) : Int)), (7, .pointer (some ⟨w.heap.size, 3, none⟩)), (8, .slice oa l.length c), (9, .int .i64 ((l.length : Nat) : Int)), (10, .int .i64 ((j : Nat) : Int))]) (fun gg j wr => j ≤ l.length ∧ l.length - j ≤ gg ∧ (∀ i, i < j → num62 (l.getD i (0, false)).1 = true) ∧ Below W1.heap.size W1 wr) (l.length) (0) (by kernel_rfl) ⟨Nat.zero_le _, Nat.le_refl _, fun i hi => absurd hi (Nat.not_lt_zero _), Below.refl _ _⟩ ?_
  rintro gg j g' wr ⟨hj, hg, hn, hbl⟩
  replace HB := over HB hbl
  replace M2 := M2.below hbl
  have z2 := hbl.size
  have HL := hbl
  clear hbl
  have hk63 := ordK_lt' hj hn
  refine wp_seq ?_
  refine wp_region_lit ?_
  by_cases C1 : j < l.length
  · refine sx_bool (by kernel_rfl) rfl rfl (decide (((j : Nat) : Int) < ((l.length : Nat) : Int))) true (by kernel_rfl) (decide_eq_true (by omega)) ?_
    refine wpList_nil ?_
    refine sx_norm ?_
    refine wp_seq ?_
    refine sx_true (by kernel_rfl) ?_
    refine wp_skip ?_
    refine sx_norm ?_
    refine wp_seq ?_
    refine wp_block ?_
    refine wp_seq ?_
    refine wp_region_lit ?_
    refine sx_val (by kernel_rfl) rfl rfl (.pointer (some ⟨b, o + j * 2, none⟩)) (ex_indexO (q := o) (m := l.length) (c := c) (k := j) (s := 2) rfl (by kernel_rfl) ((hv.below HB).oa (k := j) (by omega)) (by kernel_rfl) Try.underlying32 (by kernel_rfl) (by omega) (by omega)) ?_
    refine sx_val (by kernel_rfl) rfl rfl (.agg #[.int .i64 ((l.getD j (0, false)).1), .bool (l.getD j (0, false)).2]) (ex_loadR rfl ((hv.below HB).range (k := j) (by omega)) (by kernel_rfl) Try.underlying52 rfl (by kernel_rfl)) ?_
    obtain ⟨W3, hW⟩ : ∃ W, wr.alloc (.cells #[.int .i64 0, .bool false] 52) = W := ⟨_, rfl⟩
    have hb := hW ▸ below_alloc wr (.cells #[.int .i64 0, .bool false] 52)
    have hq : Cb W3 wr.heap.size #[.int .i64 0, .bool false] 52 := hW ▸ Cb.made wr #[.int .i64 0, .bool false] 52
    refine sx_mem (by kernel_rfl) rfl rfl (.pointer (some ⟨wr.heap.size, 0, none⟩)) W3 (by rw [← hW]; kernel_rfl) ?_
    replace HB := over HB hb
    replace M2 := M2.below hb
    replace HL := over HL hb
    have z3 := hb.size
    have M4 := hq
    have yM4 := hq.lt
    clear hq hb hW
    refine sx_store (cells := #[.int .i64 ((l.getD j (0, false)).1), .bool (l.getD j (0, false)).2]) (by kernel_rfl) rfl rfl M4 (by kernel_rfl) (by kernel_rfl) (by kernel_rfl) (by kernel_rfl) (by kernel_rfl) ?_
    obtain ⟨W5, hW⟩ : ∃ W, W3.setRow (wr.heap.size) #[.int .i64 ((l.getD j (0, false)).1), .bool (l.getD j (0, false)).2] = W := ⟨_, rfl⟩
    have hg : W3.grownBy W5 (some (wr.heap.size)) := hW ▸ grown_row _ _ _
    have hq : Cb W5 (wr.heap.size) #[.int .i64 ((l.getD j (0, false)).1), .bool (l.getD j (0, false)).2] 52 := hW ▸ Cb.row M4 _
    rw [hW]
    replace HB := HB.grown hg (by omega) (fun x e => by simp only [Option.some.injEq] at e; omega)
    replace M2 := M2.kept hg (by omega)
    replace HL := HL.grown hg (by omega) (fun x e => by simp only [Option.some.injEq] at e; omega)
    have z4 := hg.size
    replace M4 := hq
    clear hq hg hW
    refine wpList_nil ?_
    refine sx_norm ?_
    refine wp_seq ?_
    refine wp_seq ?_
    refine wp_region_lit ?_
    refine sx_val (by kernel_rfl) rfl rfl (.pointer (some ⟨wr.heap.size, 0, none⟩)) (by kernel_rfl) ?_
    refine sx_val (by kernel_rfl) rfl rfl (.int .i64 ((l.getD j (0, false)).1)) (ex_load1 rfl (M4.cell 0 rfl) (by kernel_rfl) Try.underlying3 rfl) ?_
    by_cases C2 : num62 ((l.getD j (0, false)).1) = true
    · refine sx_call (by kernel_rfl) rfl rfl ((by have h8 := isNumber_n ((l.getD j (0, false)).1) W5; rw [show num62 ((l.getD j (0, false)).1) = true by simpa using C2] at h8; exact h8)) (by kernel_rfl) ?_
      rintro e w9 ⟨rfl, rfl⟩
      refine ⟨_, rfl, ?_⟩
      refine sx_val (by kernel_rfl) rfl rfl (.bool false) (by kernel_rfl) ?_
      refine wpList_nil ?_
      refine sx_norm ?_
      refine sx_false (by kernel_rfl) ?_
      refine wp_skip ?_
      refine sx_norm ?_
      refine wp_region_lit ?_
      refine sx_val (by kernel_rfl) rfl rfl (.int .i64 ((ordK l j : Nat) : Int)) (by kernel_rfl) ?_
      refine sx_val (by kernel_rfl) rfl rfl (.pointer (some ⟨wr.heap.size, 0, none⟩)) (by kernel_rfl) ?_
      refine sx_val (by kernel_rfl) rfl rfl (.int .i64 ((l.getD j (0, false)).1)) (ex_load1 rfl (M4.cell 0 rfl) (by kernel_rfl) Try.underlying3 rfl) ?_
      have N1 : num62 (l.getD j (0, false)).1 = true := C2
      have hkx : (l.getD j (0, false)).1 = (((l.getD j (0, false)).1.toNat : Nat) : Int) ∧ (l.getD j (0, false)).1.toNat ≤ 62 := by unfold num62 at N1; rw [Bool.and_eq_true, decide_eq_true_eq, decide_eq_true_eq] at N1; omega
      refine sx_val (by kernel_rfl) rfl rfl (.int .i64 (IntKind.i64.wrap (1 * 2 ^ (l.getD j (0, false)).1.toNat))) (ex_shl rfl .i64 1 (l.getD j (0, false)).1.toNat _ (by kernel_rfl) (by rw [← hkx.1]; kernel_rfl) hkx.2 rfl) ?_
      refine sx_int (by kernel_rfl) rfl rfl .i64 (bits .or .i64 ((ordK l j : Nat) : Int) (IntKind.i64.wrap (1 * 2 ^ (l.getD j (0, false)).1.toNat))) (((ordK l (j + 1) : Nat) : Int)) (by kernel_rfl) (by rw [ordK_more (by omega)]; exact or_shl _ _ hk63 N1) ?_
      refine sx_val (by kernel_rfl) rfl rfl (.int .i64 ((ordK l (j + 1) : Nat) : Int)) (by kernel_rfl) ?_
      refine wpList_nil ?_
      refine sx_in ?_
      refine sx_norm ?_
      refine wp_region_lit ?_
      refine sx_int (by kernel_rfl) rfl rfl .i64 (IntKind.i64.wrap (((j : Nat) : Int) + 1)) (((j + 1 : Nat) : Int)) (by kernel_rfl) (by rw [IntKind.wrap_i64]; omega) ?_
      refine sx_val (by kernel_rfl) rfl rfl (.int .i64 ((j + 1 : Nat) : Int)) (by kernel_rfl) ?_
      refine wpList_nil ?_
      refine sx_norm ?_
      exact sx_again (l.length - (j + 1)) (j + 1) (by omega) (by kernel_rfl) ⟨by omega, Nat.le_refl _, fun i hi => by rcases Nat.lt_succ_iff_lt_or_eq.1 hi with h | h; exact hn i h; subst h; exact N1, HL⟩
    refine sx_call (by kernel_rfl) rfl rfl ((by have h8 := isNumber_n ((l.getD j (0, false)).1) W5; rw [show num62 ((l.getD j (0, false)).1) = false by simpa using C2] at h8; exact h8)) (by kernel_rfl) ?_
    rintro e w9 ⟨rfl, rfl⟩
    refine ⟨_, rfl, ?_⟩
    refine sx_val (by kernel_rfl) rfl rfl (.bool true) (by kernel_rfl) ?_
    refine wpList_nil ?_
    refine sx_norm ?_
    refine sx_true (by kernel_rfl) ?_
    refine wp_seq ?_
    refine wp_region_lit ?_
    refine sx_val (by kernel_rfl) rfl rfl (.int .i64 0) (by kernel_rfl) ?_
    refine sx_val (by kernel_rfl) rfl rfl (.int .i64 2) (by kernel_rfl) ?_
    refine wpList_nil ?_
    refine sx_norm ?_
    refine wp_ret ?_
    refine sx_rs ?_
    refine sx_rb ?_
    refine sx_rs ?_
    refine sx_rs ?_
    refine sx_rb ?_
    refine sx_rs ?_
    refine sx_ret2 (.int .i64 0) (.int .i64 2) rfl rfl rfl (by kernel_rfl) (by kernel_rfl) ⟨?_, HB⟩
    unfold ordE ordN
    rw [ordB_not (by omega) (by simpa using C2)]
    rfl
  refine sx_bool (by kernel_rfl) rfl rfl (decide (((j : Nat) : Int) < ((l.length : Nat) : Int))) false (by kernel_rfl) (decide_eq_false (by omega)) ?_
  refine wpList_nil ?_
  refine sx_norm ?_
  refine wp_seq ?_
  refine sx_false (by kernel_rfl) ?_
  refine wp_exit ?_
  refine sx_es ?_
  refine sx_es ?_
  refine sx_out ?_
  refine sx_norm ?_
  refine wp_seq ?_
  refine wp_region_lit ?_
  refine sx_val (by kernel_rfl) rfl rfl (.int .i64 ((ordK l j : Nat) : Int)) (by kernel_rfl) ?_
  refine sx_val (by kernel_rfl) rfl rfl (.int .i64 ((ordK l j : Nat) : Int)) (by kernel_rfl) ?_
  refine sx_val (by kernel_rfl) rfl rfl (.int .i64 0) (by kernel_rfl) ?_
  refine wpList_nil ?_
  refine sx_norm ?_
  refine wp_ret ?_
  refine sx_ret2 (.int .i64 ((ordK l j : Nat) : Int)) (.int .i64 0) rfl rfl rfl (by kernel_rfl) (by kernel_rfl) ⟨?_, HB⟩
  obtain rfl : j = l.length := by omega
  unfold ordE ordN
  rw [ordB_all hn]
  rfl

end Go.Proofs.Ytoliacfpjhanlaa.T


