/-
  DERIVED. Sl: a part of the base of layer 13 (made by pack.py).
-/
import Derived.Test.YtoliacfpjhanlaaGC
/-! Tours: the positions of visits (by gen_sl.py). -/
namespace Go.Proofs.Ytoliacfpjhanlaa.T
open Go.RowKit
set_option maxRecDepth 8000
attribute [local irreducible] wpList Code.wp wpAnyH

def pOff (v : Int × Bool) : Nat := v.1.toNat * 2 + (if v.2 then 1 else 0)
def posT (T : List Nat) (v : Int × Bool) : Nat := T.getD (pOff v) 0
def Ex (n : Nat) (l : List (Int × Bool)) : Prop := ∀ i, i < l.length → 0 ≤ (l.getD i (0, false)).1 ∧ (l.getD i (0, false)).1 < n
theorem pOff_lt {n : Nat} {v : Int × Bool} (h : 0 ≤ v.1 ∧ v.1 < n) : pOff v < n * 2 := by
  unfold pOff
  split <;> omega
def trK (n : Nat) (l : List (Int × Bool)) : Nat → List Nat
  | 0 => List.replicate (n * 2) 0
  | j + 1 => (trK n l j).set (pOff (l.getD j (0, false))) (j + 1)
theorem trK_len (n : Nat) (l : List (Int × Bool)) : ∀ j, (trK n l j).length = n * 2
  | 0 => by unfold trK; simp
  | j + 1 => by unfold trK; rw [List.length_set]; exact trK_len n l j
theorem trK_le (n : Nat) (l : List (Int × Bool)) : ∀ j i, (trK n l j).getD i 0 ≤ j
  | 0, i => by
    unfold trK
    rw [List.getD_eq_getElem?_getD, List.getElem?_replicate]
    split <;> simp
  | j + 1, i => by
    have ih := trK_le n l j i
    unfold trK
    rw [List.getD_eq_getElem?_getD, List.getElem?_set]
    rw [List.getD_eq_getElem?_getD] at ih
    split
    · split <;> simp
    · omega
def Once (n : Nat) (l : List (Int × Bool)) (j : Nat) : Prop := ∀ i, i < j → posT (trK n l i) (l.getD i (0, false)) = 0
def inTurnB (T : List Nat) : List (Int × Bool) → Nat → Bool
  | [], _ => true
  | v :: r, last => decide (last < posT T v) && inTurnB T r (posT T v)
theorem inTurn_no {T : List Nat} {l : List (Int × Bool)} {j last : Nat} (hj : j < l.length) (h : posT T (l.getD j (0, false)) ≤ last) : inTurnB T (l.drop j) last = false := by
  rw [drop_more (d := (0, false)) hj, inTurnB, decide_eq_false (by omega), Bool.false_and]
theorem inTurn_go {T : List Nat} {l : List (Int × Bool)} {j last : Nat} (hj : j < l.length) (h : ¬ posT T (l.getD j (0, false)) ≤ last) : inTurnB T (l.drop j) last = inTurnB T (l.drop (j + 1)) (posT T (l.getD j (0, false))) := by
  rw [drop_more (d := (0, false)) hj, inTurnB, decide_eq_true (by omega), Bool.true_and]
theorem inTurn_end {T : List Nat} {l : List (Int × Bool)} {j last : Nat} (hj : l.length ≤ j) : inTurnB T (l.drop j) last = true := by
  rw [List.drop_of_length_le hj]
  rfl
def hasT (T : List Nat) (k : Nat) : Bool := decide (0 < T.getD (k * 2) 0) || decide (0 < T.getD (k * 2 + 1) 0)
theorem madeP (k : Nat) : madeCells #[.int .i64 0, .int .i64 0] (k * 2) = nC (List.replicate (k * 2) 0) := by
  apply Array.ext'
  unfold madeCells nC
  simp only [Array.toList_map, Array.toList_range, List.map_replicate]
  refine List.ext_getElem (by simp) fun i h1 h2 => ?_
  have h3 : i % 2 = 0 ∨ i % 2 = 1 := by omega
  rcases h3 with h3 | h3 <;> simp [h3]
theorem infoST : (Try.prog.info? 118).map (fun i => (i.zero, i.size, i.bytes)) = some (some (.agg #[.int .i64 0, .int .i64 0]), 2, 16) := by kernel_rfl
theorem ex_makeP {o : Oper} {n : Nat} {g : Nat → Value} {l : List (Nat × Value)} {w : World} {x y : Operand} (ho : o.op = .makeSlice 59 x y) {k : Nat} (hx : ev n g l x = .int .i64 k) (hy : ev n g l y = .int .i64 k) (hk : k ≤ 1000000) :
    (execOp (ev n g l) o).run Try.prog w = .ok (.value (.slice (some ⟨w.heap.size, 0, none⟩) k k)) (w.alloc (.cells (nC (List.replicate (k * 2) 0)) 118)) := by
  obtain ⟨i, hi, hzz⟩ := Option.map_eq_some_iff.1 infoST
  simp only [Prod.mk.injEq] at hzz
  obtain ⟨hz, hs, hb⟩ := hzz
  have hr := run_make (P := Try.prog) w 59 118 i _ Try.underlying59 hi hz .i64 .i64 k k (by omega) (Int.le_refl _) (by rw [hb]; omega) (by omega)
  rw [hs, Int.toNat_natCast] at hr
  have hm : madeCells (Value.agg #[.int .i64 0, .int .i64 0]).cells (k * 2) = nC (List.replicate (k * 2) 0) := madeP k
  rw [hm] at hr
  unfold execOp
  simp only [ho, hx, hy, hr, Sem.run_bind, Sem.run_pure, Result.andThen_ok]
theorem position_n (q ct n : Nat) (v : Int × Bool) (hv : 0 ≤ v.1 ∧ v.1 < n) (w : World) : Calls Try.prog 61 #[.slice (some ⟨q, 0, none⟩) n ct, .agg #[.int .i64 v.1, .bool v.2]] w fun e w' => e = .returned (.pointer (some ⟨q, pOff v, none⟩)) ∧ Below w.heap.size w w' := by
  have HB : Below w.heap.size w w := Below.refl _ _
  obtain ⟨k, hk⟩ := Int.eq_ofNat_of_zero_le hv.1
  have hkn : k < n := by omega
  refine sx_enter Try.func61 rfl [(0, .slice (some ⟨q, 0, none⟩) n ct), (1, .agg #[.int .i64 v.1, .bool v.2])] (by kernel_rfl) ?_
  refine wp_seq ?_
  refine wp_region_lit ?_
  obtain ⟨W1, hW⟩ : ∃ W, w.alloc (.cells #[.int .i64 v.1, .bool v.2] 52) = W := ⟨_, rfl⟩
  have hb := hW ▸ below_alloc w (.cells #[.int .i64 v.1, .bool v.2] 52)
  have hq : Cb W1 w.heap.size #[.int .i64 v.1, .bool v.2] 52 := hW ▸ Cb.made w #[.int .i64 v.1, .bool v.2] 52
  refine sx_mem (by kernel_rfl) rfl rfl (.pointer (some ⟨w.heap.size, 0, none⟩)) W1 (by rw [← hW]; kernel_rfl) ?_
  replace HB := over HB hb
  have z1 := hb.size
  have M2 := hq
  have yM2 := hq.lt
  clear hq hb hW
  refine sx_val (by kernel_rfl) rfl rfl (.pointer none) (by kernel_rfl) ?_
  refine wpList_nil ?_
  refine sx_norm ?_
  refine wp_seq ?_
  refine wp_seq ?_
  refine wp_region_lit ?_
  refine sx_val (by kernel_rfl) rfl rfl (.pointer (some ⟨w.heap.size, 1, none⟩)) (by kernel_rfl) ?_
  by_cases C1 : v.2 = true
  · refine sx_val (by kernel_rfl) rfl rfl (.bool true) (ex_load1 (v := .bool true) rfl (by have h8 := M2.cell 1 rfl; rw [show v.2 = true by simpa using C1] at h8; exact h8) (by kernel_rfl) Try.underlying4 rfl) ?_
    refine wpList_nil ?_
    refine sx_norm ?_
    refine sx_true (by kernel_rfl) ?_
    refine wp_seq ?_
    refine wp_region_lit ?_
    refine sx_val (by kernel_rfl) rfl rfl (.slice (some ⟨q, 0, none⟩) n ct) (by kernel_rfl) ?_
    refine sx_val (by kernel_rfl) rfl rfl (.pointer (some ⟨w.heap.size, 0, none⟩)) (by kernel_rfl) ?_
    refine sx_val (by kernel_rfl) rfl rfl (.int .i64 v.1) (ex_load1 rfl (M2.cell 0 rfl) (by kernel_rfl) Try.underlying3 rfl) ?_
    refine sx_val (by kernel_rfl) rfl rfl (.pointer (some ⟨q, 0 + k * 2, none⟩)) (ex_indexO (oa := some ⟨q, 0, none⟩) (q := 0) (m := n) (c := ct) (k := k) (s := 2) rfl (by kernel_rfl) rfl (by rw [← hk]; kernel_rfl) Try.underlying59 (by kernel_rfl) (by omega) (by omega)) ?_
    refine sx_val (by kernel_rfl) rfl rfl (.pointer (some ⟨q, 0 + k * 2 + 1, none⟩)) (by kernel_rfl) ?_
    refine sx_val (by kernel_rfl) rfl rfl (.pointer (some ⟨q, 0 + k * 2 + 1, none⟩)) (by kernel_rfl) ?_
    refine wpList_nil ?_
    refine sx_norm ?_
    refine wp_ret ?_
    refine sx_rs ?_
    exact sx_ret1 (.pointer (some ⟨q, 0 + k * 2 + 1, none⟩)) rfl rfl (by kernel_rfl) ⟨by unfold pOff; rw [hk]; simp [C1], HB⟩
  refine sx_val (by kernel_rfl) rfl rfl (.bool false) (ex_load1 (v := .bool false) rfl (by have h8 := M2.cell 1 rfl; rw [show v.2 = false by simpa using C1] at h8; exact h8) (by kernel_rfl) Try.underlying4 rfl) ?_
  refine wpList_nil ?_
  refine sx_norm ?_
  refine sx_false (by kernel_rfl) ?_
  refine wp_skip ?_
  refine sx_norm ?_
  refine wp_seq ?_
  refine wp_region_lit ?_
  refine sx_val (by kernel_rfl) rfl rfl (.slice (some ⟨q, 0, none⟩) n ct) (by kernel_rfl) ?_
  refine sx_val (by kernel_rfl) rfl rfl (.pointer (some ⟨w.heap.size, 0, none⟩)) (by kernel_rfl) ?_
  refine sx_val (by kernel_rfl) rfl rfl (.int .i64 v.1) (ex_load1 rfl (M2.cell 0 rfl) (by kernel_rfl) Try.underlying3 rfl) ?_
  refine sx_val (by kernel_rfl) rfl rfl (.pointer (some ⟨q, 0 + k * 2, none⟩)) (ex_indexO (oa := some ⟨q, 0, none⟩) (q := 0) (m := n) (c := ct) (k := k) (s := 2) rfl (by kernel_rfl) rfl (by rw [← hk]; kernel_rfl) Try.underlying59 (by kernel_rfl) (by omega) (by omega)) ?_
  refine sx_val (by kernel_rfl) rfl rfl (.pointer (some ⟨q, 0 + k * 2, none⟩)) (by kernel_rfl) ?_
  refine sx_val (by kernel_rfl) rfl rfl (.pointer (some ⟨q, 0 + k * 2, none⟩)) (by kernel_rfl) ?_
  refine wpList_nil ?_
  refine sx_norm ?_
  refine wp_ret ?_
  exact sx_ret1 (.pointer (some ⟨q, 0 + k * 2, none⟩)) rfl rfl (by kernel_rfl) ⟨by unfold pOff; rw [hk]; simp [C1], HB⟩
theorem tourOf_n (n : Nat) (hn : n ≤ 1000000) (l : List (Int × Bool)) (ll : l.length ≤ 1000000) (hex : Ex n l) (oa : Option Addr) (c b o : Nat) (w : World) (hv : Rw w b o 2 (vF l) l.length oa) : Calls Try.prog 29 #[.int .i64 ((n : Nat) : Int), .slice oa l.length c] w fun e w' => ((e = .returned (.tuple #[.slice none 0 0, .bool true]) ∧ ¬ Once n l l.length) ∨ (∃ q ct, e = .returned (.tuple #[.slice (some ⟨q, 0, none⟩) n ct, .bool false]) ∧ Cb w' q (nC (trK n l l.length)) 118 ∧ Once n l l.length)) ∧ Below w.heap.size w w' := by
  have HB : Below w.heap.size w w := Below.refl _ _
  refine sx_enter Try.func29 rfl [(0, .int .i64 ((n : Nat) : Int)), (1, .slice oa l.length c)] (by kernel_rfl) ?_
  refine wp_seq ?_
  refine wp_region_lit ?_
  refine sx_val (by kernel_rfl) rfl rfl (.slice none 0 0) (by kernel_rfl) ?_
  refine sx_val (by kernel_rfl) rfl rfl (.bool false) (by kernel_rfl) ?_
  refine wpList_nil ?_
  refine sx_norm ?_
  refine wp_seq ?_
  refine wp_region_lit ?_
  refine sx_val (by kernel_rfl) rfl rfl (.int .i64 ((n : Nat) : Int)) (by kernel_rfl) ?_
  obtain ⟨W1, hW⟩ : ∃ W, w.alloc (.cells (nC (List.replicate (n * 2) 0)) 118) = W := ⟨_, rfl⟩
  have hb := hW ▸ below_alloc w (.cells (nC (List.replicate (n * 2) 0)) 118)
  have hq : Cb W1 w.heap.size (nC (List.replicate (n * 2) 0)) 118 := by rw [← hW]; exact Cb.made _ _ _
  refine sx_mem (by kernel_rfl) rfl rfl (.slice (some ⟨w.heap.size, 0, none⟩) n n) W1 (by rw [← hW]; exact ex_makeP rfl (by kernel_rfl) (by kernel_rfl) (by omega)) ?_
  replace HB := over HB hb
  have z1 := hb.size
  have NT := hq
  have yNT := hq.lt
  clear hq hb hW
  refine sx_val (by kernel_rfl) rfl rfl (.slice (some ⟨w.heap.size, 0, none⟩) n n) (by kernel_rfl) ?_
  refine wpList_nil ?_
  refine sx_norm ?_
  refine wp_seq ?_
  refine wp_seq ?_
  refine wp_region_lit ?_
  refine sx_val (by kernel_rfl) rfl rfl (.slice oa l.length c) (by kernel_rfl) ?_
  refine sx_val (by kernel_rfl) rfl rfl (.int .i64 ((l.length : Nat) : Int)) (by kernel_rfl) ?_
  refine sx_val (by kernel_rfl) rfl rfl (.int .i64 0) (by kernel_rfl) ?_
  refine wpList_nil ?_
  refine sx_norm ?_
  refine wp_block ?_
  refine sx_loop (fun j : Nat => [(0, .int .i64 ((n : Nat) : Int)), (1, .slice oa l.length c), (6, .slice (some ⟨w.heap.size, 0, none⟩) n n), (10, .int .i64 ((n : Nat) : Int)), (11, .slice (some ⟨w.heap.size, 0, none⟩) n n), (12, .slice oa l.length c), (13, .int .i64 ((l.length : Nat) : Int)), (14, .int .i64 ((j : Nat) : Int))]) (fun gg j wr => j ≤ l.length ∧ l.length - j ≤ gg ∧ Cb wr w.heap.size (nC (trK n l j)) 118 ∧ Once n l j ∧ Below w.heap.size W1 wr) (l.length) (0) (by kernel_rfl) ⟨Nat.zero_le _, Nat.le_refl _, NT, fun i hi => absurd hi (Nat.not_lt_zero _), Below.refl _ _⟩ ?_
  rintro gg j g' wr2 ⟨hj, hg, NT, ho, hbl⟩
  replace HB := HB.trans (hbl.mono (by omega))
  have z2 := hbl.size
  have HL := hbl
  clear hbl
  refine wp_seq ?_
  refine wp_region_lit ?_
  by_cases C1 : j < l.length
  · refine sx_bool (by kernel_rfl) rfl rfl (decide (((j : Nat) : Int) < ((l.length : Nat) : Int))) true (by kernel_rfl) (decide_eq_true (by omega)) ?_
    refine wpList_nil ?_
    refine sx_norm ?_
    refine wp_seq ?_
    refine sx_true (by kernel_rfl) ?_
    refine wp_skip ?_
    refine sx_norm ?_
    refine wp_seq ?_
    refine wp_block ?_
    refine wp_seq ?_
    refine wp_region_lit ?_
    refine sx_val (by kernel_rfl) rfl rfl (.int .i64 ((j : Nat) : Int)) (by kernel_rfl) ?_
    refine sx_val (by kernel_rfl) rfl rfl (.pointer (some ⟨b, o + j * 2, none⟩)) (ex_indexO (q := o) (m := l.length) (c := c) (k := j) (s := 2) rfl (by kernel_rfl) ((hv.below HB).oa (k := j) (by omega)) (by kernel_rfl) Try.underlying32 (by kernel_rfl) (by omega) (by omega)) ?_
    refine sx_val (by kernel_rfl) rfl rfl (.agg #[.int .i64 ((l.getD j (0, false)).1), .bool (l.getD j (0, false)).2]) (ex_loadR rfl ((hv.below HB).range (k := j) (by omega)) (by kernel_rfl) Try.underlying52 rfl (by kernel_rfl)) ?_
    obtain ⟨W4, hW⟩ : ∃ W, (wr2.alloc (.cells #[.int .i64 0, .bool false] 52)).setRow wr2.heap.size #[.int .i64 ((l.getD j (0, false)).1), .bool (l.getD j (0, false)).2] = W := ⟨_, rfl⟩
    have hb := hW ▸ below_var wr2 (.cells #[.int .i64 0, .bool false] 52) #[.int .i64 ((l.getD j (0, false)).1), .bool (l.getD j (0, false)).2]
    have hq : Cb W4 wr2.heap.size #[.int .i64 ((l.getD j (0, false)).1), .bool (l.getD j (0, false)).2] 52 := hW ▸ Cb.row (Cb.made wr2 #[.int .i64 0, .bool false] 52) _
    refine sx_mem (by kernel_rfl) rfl rfl (.pointer (some ⟨wr2.heap.size, 0, none⟩)) (wr2.alloc (.cells #[.int .i64 0, .bool false] 52)) (by kernel_rfl) ?_
    refine sx_val (by kernel_rfl) rfl rfl (.int .i64 ((j : Nat) : Int)) (by kernel_rfl) ?_
    refine sx_store (cells := #[.int .i64 ((l.getD j (0, false)).1), .bool (l.getD j (0, false)).2]) (by kernel_rfl) rfl rfl (Cb.made wr2 #[.int .i64 0, .bool false] 52) (by kernel_rfl) (by kernel_rfl) (by kernel_rfl) (by kernel_rfl) (by kernel_rfl) ?_
    rw [hW]
    replace HB := over HB hb
    replace HL := HL.trans (hb.mono (by omega))
    replace NT := NT.below hb
    have z3 := hb.size
    have M3 := hq
    have yM3 := hq.lt
    clear hq hb hW
    refine wpList_nil ?_
    refine sx_norm ?_
    refine wp_seq ?_
    refine wp_region_lit ?_
    refine sx_val (by kernel_rfl) rfl rfl (.slice (some ⟨w.heap.size, 0, none⟩) n n) (by kernel_rfl) ?_
    refine sx_val (by kernel_rfl) rfl rfl (.agg #[.int .i64 ((l.getD j (0, false)).1), .bool (l.getD j (0, false)).2]) (ex_load rfl M3 (by kernel_rfl) Try.underlying52 rfl (by kernel_rfl)) ?_
    refine sx_call (by kernel_rfl) rfl rfl (position_n w.heap.size n n (l.getD j (0, false)) (hex j (by omega)) W4) (by kernel_rfl) ?_
    rintro e W5 ⟨rfl, hb⟩
    replace HB := over HB hb
    replace HL := HL.trans (hb.mono (by omega))
    replace NT := NT.below hb
    replace M3 := M3.below hb
    have z4 := hb.size
    clear hb
    refine ⟨_, rfl, ?_⟩
    refine sx_val (by kernel_rfl) rfl rfl (.pointer (some ⟨w.heap.size, pOff (l.getD j (0, false)), none⟩)) (by kernel_rfl) ?_
    refine wpList_nil ?_
    refine sx_norm ?_
    refine wp_seq ?_
    refine wp_seq ?_
    refine wp_region_lit ?_
    refine sx_val (by kernel_rfl) rfl rfl (.pointer (some ⟨w.heap.size, pOff (l.getD j (0, false)), none⟩)) (by kernel_rfl) ?_
    refine sx_val (by kernel_rfl) rfl rfl (.pointer (some ⟨w.heap.size, pOff (l.getD j (0, false)), none⟩)) (by kernel_rfl) ?_
    have hpl := pOff_lt (hex j (by omega))
    have hple := trK_le n l j (pOff (l.getD j (0, false)))
    refine sx_val (by kernel_rfl) rfl rfl (.int .i64 (((trK n l j).getD (pOff (l.getD j (0, false))) 0 : Nat) : Int)) (ex_load1 rfl (NT.cell (pOff (l.getD j (0, false))) (nC_at (by rw [trK_len]; exact hpl))) (by kernel_rfl) Try.underlying3 rfl) ?_
    by_cases C2 : (trK n l j).getD (pOff (l.getD j (0, false))) 0 > 0
    · refine sx_bool (by kernel_rfl) rfl rfl (decide ((((trK n l j).getD (pOff (l.getD j (0, false))) 0 : Nat) : Int) > 0)) true (by kernel_rfl) (decide_eq_true (by omega)) ?_
      refine wpList_nil ?_
      refine sx_norm ?_
      refine sx_true (by kernel_rfl) ?_
      refine wp_seq ?_
      refine wp_region_lit ?_
      refine sx_val (by kernel_rfl) rfl rfl (.slice none 0 0) (by kernel_rfl) ?_
      refine sx_val (by kernel_rfl) rfl rfl (.bool true) (by kernel_rfl) ?_
      refine wpList_nil ?_
      refine sx_norm ?_
      refine wp_ret ?_
      refine sx_rs ?_
      refine sx_rb ?_
      refine sx_rs ?_
      refine sx_rs ?_
      refine sx_rb ?_
      refine sx_rs ?_
      exact sx_ret2 (.slice none 0 0) (.bool true) rfl rfl rfl (by kernel_rfl) (by kernel_rfl) ⟨.inl ⟨rfl, fun h9 => by have h8 := h9 j (by omega); unfold posT at h8; omega⟩, HB⟩
    refine sx_bool (by kernel_rfl) rfl rfl (decide ((((trK n l j).getD (pOff (l.getD j (0, false))) 0 : Nat) : Int) > 0)) false (by kernel_rfl) (decide_eq_false (by omega)) ?_
    refine wpList_nil ?_
    refine sx_norm ?_
    refine sx_false (by kernel_rfl) ?_
    refine wp_skip ?_
    refine sx_norm ?_
    refine wp_region_lit ?_
    refine sx_val (by kernel_rfl) rfl rfl (.pointer (some ⟨w.heap.size, pOff (l.getD j (0, false)), none⟩)) (by kernel_rfl) ?_
    refine sx_val (by kernel_rfl) rfl rfl (.int .i64 ((j : Nat) : Int)) (by kernel_rfl) ?_
    refine sx_int (by kernel_rfl) rfl rfl .i64 (IntKind.i64.wrap (((j : Nat) : Int) + 1)) (((j + 1 : Nat) : Int)) (by kernel_rfl) (by rw [IntKind.wrap_i64]; omega) ?_
    refine sx_val (by kernel_rfl) rfl rfl (.pointer (some ⟨w.heap.size, pOff (l.getD j (0, false)), none⟩)) (by kernel_rfl) ?_
    refine sx_do (by kernel_rfl) rfl _ (ex_store1 (v := .int .i64 ((j + 1 : Nat) : Int)) rfl (NT.cell (pOff (l.getD j (0, false))) (nC_at (by rw [trK_len]; exact hpl))) (NT.f _) rfl (by kernel_rfl) (by kernel_rfl) (by kernel_rfl)) ?_
    obtain ⟨W6, hW⟩ : ∃ W, W5.setCell ⟨w.heap.size, pOff (l.getD j (0, false)), none⟩ (.int .i64 ((j + 1 : Nat) : Int)) = W := ⟨_, rfl⟩
    have hg : W5.grownBy W6 (some (w.heap.size)) := hW ▸ grown_set _ _ _ _
    have hq : Cb W6 (w.heap.size) (nC (trK n l (j + 1))) 118 := by
      have h8 := NT.set (pOff (l.getD j (0, false))) (.int .i64 ((j + 1 : Nat) : Int))
      rw [hW, nC_set] at h8
      exact h8
    rw [hW]
    replace HB := HB.grown hg (by omega) (fun x e => by simp only [Option.some.injEq] at e; omega)
    replace HL := HL.grown hg (by omega) (fun x e => by simp only [Option.some.injEq] at e; omega)
    replace M3 := M3.kept hg (by omega)
    have z5 := hg.size
    replace NT := hq
    clear hq hg hW
    refine wpList_nil ?_
    refine sx_in ?_
    refine sx_norm ?_
    refine wp_region_lit ?_
    refine sx_int (by kernel_rfl) rfl rfl .i64 (IntKind.i64.wrap (((j : Nat) : Int) + 1)) (((j + 1 : Nat) : Int)) (by kernel_rfl) (by rw [IntKind.wrap_i64]; omega) ?_
    refine sx_val (by kernel_rfl) rfl rfl (.int .i64 ((j + 1 : Nat) : Int)) (by kernel_rfl) ?_
    refine wpList_nil ?_
    refine sx_norm ?_
    exact sx_again (l.length - (j + 1)) (j + 1) (by omega) (by kernel_rfl) ⟨by omega, Nat.le_refl _, NT, fun i hi => by rcases Nat.lt_succ_iff_lt_or_eq.1 hi with h | h; exact ho i h; subst h; show (trK n l i).getD _ 0 = 0; omega, HL⟩
  refine sx_bool (by kernel_rfl) rfl rfl (decide (((j : Nat) : Int) < ((l.length : Nat) : Int))) false (by kernel_rfl) (decide_eq_false (by omega)) ?_
  refine wpList_nil ?_
  refine sx_norm ?_
  refine wp_seq ?_
  refine sx_false (by kernel_rfl) ?_
  refine wp_exit ?_
  refine sx_es ?_
  refine sx_es ?_
  refine sx_out ?_
  refine sx_norm ?_
  refine wp_seq ?_
  refine wp_region_lit ?_
  refine sx_val (by kernel_rfl) rfl rfl (.slice (some ⟨w.heap.size, 0, none⟩) n n) (by kernel_rfl) ?_
  refine sx_val (by kernel_rfl) rfl rfl (.slice (some ⟨w.heap.size, 0, none⟩) n n) (by kernel_rfl) ?_
  refine sx_val (by kernel_rfl) rfl rfl (.bool false) (by kernel_rfl) ?_
  refine wpList_nil ?_
  refine sx_norm ?_
  refine wp_ret ?_
  have hj9 : j = l.length := by omega
  rw [hj9] at NT ho
  exact sx_ret2 (.slice (some ⟨w.heap.size, 0, none⟩) n n) (.bool false) rfl rfl rfl (by kernel_rfl) (by kernel_rfl) ⟨.inr ⟨_, _, rfl, NT, ho⟩, HB⟩
theorem inTurn_n (q ct n : Nat) (T : List Nat) (hTl : T.length = n * 2) (l : List (Int × Bool)) (ll : l.length ≤ 1000000) (hex : Ex n l) (oa : Option Addr) (c b o : Nat) (w : World) (hT : Cb w q (nC T) 118) (hv : Rw w b o 2 (vF l) l.length oa) : Calls Try.prog 64 #[.slice (some ⟨q, 0, none⟩) n ct, .slice oa l.length c] w fun e w' => e = .returned (.bool (inTurnB T l 0)) ∧ Below w.heap.size w w' := by
  have HB : Below w.heap.size w w := Below.refl _ _
  refine sx_enter Try.func64 rfl [(0, .slice (some ⟨q, 0, none⟩) n ct), (1, .slice oa l.length c)] (by kernel_rfl) ?_
  refine wp_seq ?_
  refine wp_region_lit ?_
  refine sx_val (by kernel_rfl) rfl rfl (.bool false) (by kernel_rfl) ?_
  refine wpList_nil ?_
  refine sx_norm ?_
  refine wp_seq ?_
  refine wp_region_lit ?_
  refine sx_val (by kernel_rfl) rfl rfl (.int .i64 0) (by kernel_rfl) ?_
  refine wpList_nil ?_
  refine sx_norm ?_
  refine wp_seq ?_
  refine wp_seq ?_
  refine wp_region_lit ?_
  refine sx_val (by kernel_rfl) rfl rfl (.slice oa l.length c) (by kernel_rfl) ?_
  refine sx_val (by kernel_rfl) rfl rfl (.int .i64 ((l.length : Nat) : Int)) (by kernel_rfl) ?_
  refine sx_val (by kernel_rfl) rfl rfl (.int .i64 0) (by kernel_rfl) ?_
  refine wpList_nil ?_
  refine sx_norm ?_
  refine wp_block ?_
  refine sx_loop (fun x9 : Nat × Nat => [(0, .slice (some ⟨q, 0, none⟩) n ct), (1, .slice oa l.length c), (5, .int .i64 ((x9.2 : Nat) : Int)), (9, .slice oa l.length c), (10, .int .i64 ((l.length : Nat) : Int)), (11, .int .i64 ((x9.1 : Nat) : Int))]) (fun gg x9 wr => x9.1 ≤ l.length ∧ l.length - x9.1 ≤ gg ∧ inTurnB T (l.drop x9.1) x9.2 = inTurnB T l 0 ∧ Below w.heap.size w wr) (l.length) ((0, 0)) (by kernel_rfl) ⟨Nat.zero_le _, Nat.le_refl _, rfl, Below.refl _ _⟩ ?_
  rintro gg ⟨j, m⟩ g' wr1 ⟨hj, hg, hI, hbl⟩
  dsimp only at hj hg hI hbl
  replace HB := over HB hbl
  have z1 := hbl.size
  have HL := hbl
  clear hbl
  refine wp_seq ?_
  refine wp_region_lit ?_
  by_cases C1 : j < l.length
  · refine sx_bool (by kernel_rfl) rfl rfl (decide (((j : Nat) : Int) < ((l.length : Nat) : Int))) true (by kernel_rfl) (decide_eq_true (by omega)) ?_
    refine wpList_nil ?_
    refine sx_norm ?_
    refine wp_seq ?_
    refine sx_true (by kernel_rfl) ?_
    refine wp_skip ?_
    refine sx_norm ?_
    refine wp_seq ?_
    refine wp_block ?_
    refine wp_seq ?_
    refine wp_region_lit ?_
    refine sx_val (by kernel_rfl) rfl rfl (.pointer (some ⟨b, o + j * 2, none⟩)) (ex_indexO (q := o) (m := l.length) (c := c) (k := j) (s := 2) rfl (by kernel_rfl) ((hv.below HB).oa (k := j) (by omega)) (by kernel_rfl) Try.underlying32 (by kernel_rfl) (by omega) (by omega)) ?_
    refine sx_val (by kernel_rfl) rfl rfl (.agg #[.int .i64 ((l.getD j (0, false)).1), .bool (l.getD j (0, false)).2]) (ex_loadR rfl ((hv.below HB).range (k := j) (by omega)) (by kernel_rfl) Try.underlying52 rfl (by kernel_rfl)) ?_
    obtain ⟨W3, hW⟩ : ∃ W, (wr1.alloc (.cells #[.int .i64 0, .bool false] 52)).setRow wr1.heap.size #[.int .i64 ((l.getD j (0, false)).1), .bool (l.getD j (0, false)).2] = W := ⟨_, rfl⟩
    have hb := hW ▸ below_var wr1 (.cells #[.int .i64 0, .bool false] 52) #[.int .i64 ((l.getD j (0, false)).1), .bool (l.getD j (0, false)).2]
    have hq : Cb W3 wr1.heap.size #[.int .i64 ((l.getD j (0, false)).1), .bool (l.getD j (0, false)).2] 52 := hW ▸ Cb.row (Cb.made wr1 #[.int .i64 0, .bool false] 52) _
    refine sx_mem (by kernel_rfl) rfl rfl (.pointer (some ⟨wr1.heap.size, 0, none⟩)) (wr1.alloc (.cells #[.int .i64 0, .bool false] 52)) (by kernel_rfl) ?_
    refine sx_store (cells := #[.int .i64 ((l.getD j (0, false)).1), .bool (l.getD j (0, false)).2]) (by kernel_rfl) rfl rfl (Cb.made wr1 #[.int .i64 0, .bool false] 52) (by kernel_rfl) (by kernel_rfl) (by kernel_rfl) (by kernel_rfl) (by kernel_rfl) ?_
    rw [hW]
    replace HB := over HB hb
    replace HL := over HL hb
    have z2 := hb.size
    have M2 := hq
    have yM2 := hq.lt
    clear hq hb hW
    refine wpList_nil ?_
    refine sx_norm ?_
    refine wp_seq ?_
    refine wp_region_lit ?_
    refine sx_val (by kernel_rfl) rfl rfl (.slice (some ⟨q, 0, none⟩) n ct) (by kernel_rfl) ?_
    refine sx_val (by kernel_rfl) rfl rfl (.agg #[.int .i64 ((l.getD j (0, false)).1), .bool (l.getD j (0, false)).2]) (ex_load rfl M2 (by kernel_rfl) Try.underlying52 rfl (by kernel_rfl)) ?_
    refine sx_call (by kernel_rfl) rfl rfl (position_n q ct n (l.getD j (0, false)) (hex j (by omega)) W3) (by kernel_rfl) ?_
    rintro e W4 ⟨rfl, hb⟩
    replace HB := over HB hb
    replace HL := over HL hb
    replace M2 := M2.below hb
    have z3 := hb.size
    clear hb
    refine ⟨_, rfl, ?_⟩
    refine sx_val (by kernel_rfl) rfl rfl (.pointer (some ⟨q, pOff (l.getD j (0, false)), none⟩)) (by kernel_rfl) ?_
    have hpl := pOff_lt (hex j (by omega))
    refine sx_val (by kernel_rfl) rfl rfl (.int .i64 ((posT T (l.getD j (0, false)) : Nat) : Int)) (ex_load1 rfl ((hT.below HB).cell (pOff (l.getD j (0, false))) (nC_at (by omega))) (by kernel_rfl) Try.underlying3 rfl) ?_
    refine sx_val (by kernel_rfl) rfl rfl (.int .i64 ((posT T (l.getD j (0, false)) : Nat) : Int)) (by kernel_rfl) ?_
    refine wpList_nil ?_
    refine sx_norm ?_
    refine wp_seq ?_
    refine wp_seq ?_
    refine wp_region_lit ?_
    refine sx_val (by kernel_rfl) rfl rfl (.int .i64 ((posT T (l.getD j (0, false)) : Nat) : Int)) (by kernel_rfl) ?_
    refine sx_val (by kernel_rfl) rfl rfl (.int .i64 ((m : Nat) : Int)) (by kernel_rfl) ?_
    by_cases C2 : posT T (l.getD j (0, false)) ≤ m
    · refine sx_bool (by kernel_rfl) rfl rfl (decide (((posT T (l.getD j (0, false)) : Nat) : Int) ≤ ((m : Nat) : Int))) true (by kernel_rfl) (decide_eq_true (by omega)) ?_
      refine wpList_nil ?_
      refine sx_norm ?_
      refine sx_true (by kernel_rfl) ?_
      refine wp_seq ?_
      refine wp_region_lit ?_
      refine sx_val (by kernel_rfl) rfl rfl (.bool false) (by kernel_rfl) ?_
      refine wpList_nil ?_
      refine sx_norm ?_
      refine wp_ret ?_
      refine sx_rs ?_
      refine sx_rb ?_
      refine sx_rs ?_
      refine sx_rs ?_
      refine sx_rb ?_
      refine sx_rs ?_
      exact sx_ret1 (.bool false) rfl rfl (by kernel_rfl) ⟨ret_bool ((inTurn_no (by omega) (by omega)).symm.trans hI), HB⟩
    refine sx_bool (by kernel_rfl) rfl rfl (decide (((posT T (l.getD j (0, false)) : Nat) : Int) ≤ ((m : Nat) : Int))) false (by kernel_rfl) (decide_eq_false (by omega)) ?_
    refine wpList_nil ?_
    refine sx_norm ?_
    refine sx_false (by kernel_rfl) ?_
    refine wp_skip ?_
    refine sx_norm ?_
    refine wp_region_lit ?_
    refine sx_val (by kernel_rfl) rfl rfl (.int .i64 ((posT T (l.getD j (0, false)) : Nat) : Int)) (by kernel_rfl) ?_
    refine sx_val (by kernel_rfl) rfl rfl (.int .i64 ((posT T (l.getD j (0, false)) : Nat) : Int)) (by kernel_rfl) ?_
    refine wpList_nil ?_
    refine sx_in ?_
    refine sx_norm ?_
    refine wp_region_lit ?_
    refine sx_int (by kernel_rfl) rfl rfl .i64 (IntKind.i64.wrap (((j : Nat) : Int) + 1)) (((j + 1 : Nat) : Int)) (by kernel_rfl) (by rw [IntKind.wrap_i64]; omega) ?_
    refine sx_val (by kernel_rfl) rfl rfl (.int .i64 ((j + 1 : Nat) : Int)) (by kernel_rfl) ?_
    refine wpList_nil ?_
    refine sx_norm ?_
    exact sx_again (l.length - (j + 1)) (j + 1, posT T (l.getD j (0, false))) (by omega) (by kernel_rfl) ⟨by show j + 1 ≤ _; omega, Nat.le_refl _, (inTurn_go (by omega) (by assumption)).symm.trans hI, HL⟩
  refine sx_bool (by kernel_rfl) rfl rfl (decide (((j : Nat) : Int) < ((l.length : Nat) : Int))) false (by kernel_rfl) (decide_eq_false (by omega)) ?_
  refine wpList_nil ?_
  refine sx_norm ?_
  refine wp_seq ?_
  refine sx_false (by kernel_rfl) ?_
  refine wp_exit ?_
  refine sx_es ?_
  refine sx_es ?_
  refine sx_out ?_
  refine sx_norm ?_
  refine wp_seq ?_
  refine wp_region_lit ?_
  refine sx_val (by kernel_rfl) rfl rfl (.bool true) (by kernel_rfl) ?_
  refine wpList_nil ?_
  refine sx_norm ?_
  refine wp_ret ?_
  exact sx_ret1 (.bool true) rfl rfl (by kernel_rfl) ⟨ret_bool ((inTurn_end (by omega)).symm.trans hI), HB⟩
theorem hasT_n (q ct n : Nat) (T : List Nat) (hTl : T.length = n * 2) (k : Nat) (hk : k < n) (w : World) (hT : Cb w q (nC T) 118) : Calls Try.prog 65 #[.slice (some ⟨q, 0, none⟩) n ct, .int .i64 ((k : Nat) : Int)] w fun e w' => e = .returned (.bool (hasT T k)) ∧ w = w' := by
  have HB : Below w.heap.size w w := Below.refl _ _
  refine sx_enter Try.func65 rfl [(0, .slice (some ⟨q, 0, none⟩) n ct), (1, .int .i64 ((k : Nat) : Int))] (by kernel_rfl) ?_
  refine wp_seq ?_
  refine wp_region_lit ?_
  refine sx_val (by kernel_rfl) rfl rfl (.bool false) (by kernel_rfl) ?_
  refine wpList_nil ?_
  refine sx_norm ?_
  refine wp_seq ?_
  refine wp_region_lit ?_
  refine sx_val (by kernel_rfl) rfl rfl (.int .i64 ((k : Nat) : Int)) (by kernel_rfl) ?_
  refine sx_bool (by kernel_rfl) rfl rfl (decide (0 ≤ ((k : Nat) : Int))) true (by kernel_rfl) (decide_eq_true (by omega)) ?_
  refine sx_val (by kernel_rfl) rfl rfl (.bool true) (by kernel_rfl) ?_
  refine sx_val (by kernel_rfl) rfl rfl (.int .i64 ((k : Nat) : Int)) (by kernel_rfl) ?_
  refine sx_val (by kernel_rfl) rfl rfl (.slice (some ⟨q, 0, none⟩) n ct) (by kernel_rfl) ?_
  refine sx_val (by kernel_rfl) rfl rfl (.int .i64 ((n : Nat) : Int)) (by kernel_rfl) ?_
  refine sx_bool (by kernel_rfl) rfl rfl (decide (((k : Nat) : Int) < ((n : Nat) : Int))) true (by kernel_rfl) (decide_eq_true (by omega)) ?_
  refine sx_val (by kernel_rfl) rfl rfl (.bool true) (by kernel_rfl) ?_
  refine sx_val (by kernel_rfl) rfl rfl (.bool true) (by kernel_rfl) ?_
  refine sx_val (by kernel_rfl) rfl rfl (.slice (some ⟨q, 0, none⟩) n ct) (by kernel_rfl) ?_
  refine sx_val (by kernel_rfl) rfl rfl (.int .i64 ((k : Nat) : Int)) (by kernel_rfl) ?_
  refine sx_val (by kernel_rfl) rfl rfl (.pointer (some ⟨q, 0 + k * 2, none⟩)) (ex_indexO (oa := some ⟨q, 0, none⟩) (q := 0) (m := n) (c := ct) (k := k) (s := 2) rfl (by kernel_rfl) rfl (by kernel_rfl) Try.underlying59 (by kernel_rfl) (by omega) (by omega)) ?_
  refine sx_val (by kernel_rfl) rfl rfl (.pointer (some ⟨q, 0 + k * 2, none⟩)) (by kernel_rfl) ?_
  refine sx_val (by kernel_rfl) rfl rfl (.int .i64 ((T.getD (k * 2) 0 : Nat) : Int)) (ex_load1 rfl (show World.cell? w ⟨q, 0 + k * 2, none⟩ = _ by rw [Nat.zero_add]; exact hT.cell (k * 2) (nC_at (by omega))) (by kernel_rfl) Try.underlying3 rfl) ?_
  by_cases C1 : T.getD (k * 2) 0 > 0
  · refine sx_bool (by kernel_rfl) rfl rfl (decide (((T.getD (k * 2) 0 : Nat) : Int) > 0)) true (by kernel_rfl) (decide_eq_true (by omega)) ?_
    refine sx_val (by kernel_rfl) rfl rfl (.bool true) (by kernel_rfl) ?_
    refine sx_skip (by kernel_rfl) rfl rfl ?_
    refine sx_skip (by kernel_rfl) rfl rfl ?_
    refine sx_skip (by kernel_rfl) rfl rfl ?_
    refine sx_skip (by kernel_rfl) rfl rfl ?_
    refine sx_skip (by kernel_rfl) rfl rfl ?_
    refine sx_skip (by kernel_rfl) rfl rfl ?_
    refine sx_val (by kernel_rfl) rfl rfl (.bool true) (by kernel_rfl) ?_
    refine sx_val (by kernel_rfl) rfl rfl (.bool true) (by kernel_rfl) ?_
    refine sx_val (by kernel_rfl) rfl rfl (.bool true) (by kernel_rfl) ?_
    refine wpList_nil ?_
    refine sx_norm ?_
    refine wp_ret ?_
    exact sx_ret1 (.bool true) rfl rfl (by kernel_rfl) ⟨ret_bool (by unfold hasT; first | (rw [decide_eq_true (by omega)]; rfl) | (rw [decide_eq_false (by omega), decide_eq_true (by omega)]; rfl) | (rw [decide_eq_false (by omega), decide_eq_false (by omega)]; rfl)), rfl⟩
  refine sx_bool (by kernel_rfl) rfl rfl (decide (((T.getD (k * 2) 0 : Nat) : Int) > 0)) false (by kernel_rfl) (decide_eq_false (by omega)) ?_
  refine sx_val (by kernel_rfl) rfl rfl (.bool false) (by kernel_rfl) ?_
  refine sx_val (by kernel_rfl) rfl rfl (.slice (some ⟨q, 0, none⟩) n ct) (by kernel_rfl) ?_
  refine sx_val (by kernel_rfl) rfl rfl (.int .i64 ((k : Nat) : Int)) (by kernel_rfl) ?_
  refine sx_val (by kernel_rfl) rfl rfl (.pointer (some ⟨q, 0 + k * 2, none⟩)) (ex_indexO (oa := some ⟨q, 0, none⟩) (q := 0) (m := n) (c := ct) (k := k) (s := 2) rfl (by kernel_rfl) rfl (by kernel_rfl) Try.underlying59 (by kernel_rfl) (by omega) (by omega)) ?_
  refine sx_val (by kernel_rfl) rfl rfl (.pointer (some ⟨q, 0 + k * 2 + 1, none⟩)) (by kernel_rfl) ?_
  refine sx_val (by kernel_rfl) rfl rfl (.int .i64 ((T.getD (k * 2 + 1) 0 : Nat) : Int)) (ex_load1 rfl (show World.cell? w ⟨q, 0 + k * 2 + 1, none⟩ = _ by rw [show 0 + k * 2 + 1 = k * 2 + 1 by omega]; exact hT.cell (k * 2 + 1) (nC_at (by omega))) (by kernel_rfl) Try.underlying3 rfl) ?_
  by_cases C2 : T.getD (k * 2 + 1) 0 > 0
  · refine sx_bool (by kernel_rfl) rfl rfl (decide (((T.getD (k * 2 + 1) 0 : Nat) : Int) > 0)) true (by kernel_rfl) (decide_eq_true (by omega)) ?_
    refine sx_val (by kernel_rfl) rfl rfl (.bool true) (by kernel_rfl) ?_
    refine sx_val (by kernel_rfl) rfl rfl (.bool true) (by kernel_rfl) ?_
    refine sx_val (by kernel_rfl) rfl rfl (.bool true) (by kernel_rfl) ?_
    refine wpList_nil ?_
    refine sx_norm ?_
    refine wp_ret ?_
    exact sx_ret1 (.bool true) rfl rfl (by kernel_rfl) ⟨ret_bool (by unfold hasT; first | (rw [decide_eq_true (by omega)]; rfl) | (rw [decide_eq_false (by omega), decide_eq_true (by omega)]; rfl) | (rw [decide_eq_false (by omega), decide_eq_false (by omega)]; rfl)), rfl⟩
  refine sx_bool (by kernel_rfl) rfl rfl (decide (((T.getD (k * 2 + 1) 0 : Nat) : Int) > 0)) false (by kernel_rfl) (decide_eq_false (by omega)) ?_
  refine sx_val (by kernel_rfl) rfl rfl (.bool false) (by kernel_rfl) ?_
  refine sx_val (by kernel_rfl) rfl rfl (.bool false) (by kernel_rfl) ?_
  refine sx_val (by kernel_rfl) rfl rfl (.bool false) (by kernel_rfl) ?_
  refine wpList_nil ?_
  refine sx_norm ?_
  refine wp_ret ?_
  exact sx_ret1 (.bool false) rfl rfl (by kernel_rfl) ⟨ret_bool (by unfold hasT; first | (rw [decide_eq_true (by omega)]; rfl) | (rw [decide_eq_false (by omega), decide_eq_true (by omega)]; rfl) | (rw [decide_eq_false (by omega), decide_eq_false (by omega)]; rfl)), rfl⟩

end Go.Proofs.Ytoliacfpjhanlaa.T


