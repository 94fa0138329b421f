/-
  DERIVED. GC: a part of the base of layer 13 (made by pack.py).
-/
import Derived.Test.YtoliacfpjhanlaaGB
import Derived.Laws.IdiomCopy
import Derived.Deep.OwnRows
/-! What can follow: ways.next (by gen_sg.py). -/
namespace Go.Proofs.Ytoliacfpjhanlaa.T
open Go.RowKit
set_option maxRecDepth 8000
attribute [local irreducible] wpList Code.wp wpAnyH

theorem Cb.belowB {w w' : World} {q B : Nat} {cs : Array Value} {t : TypeId} (h : Cb w q cs t) (hq : q < B) (hb : Below B w w') : Cb w' q cs t := (hb.block q hq).trans h
theorem Rw.belowB {w w' : World} {b o sz B : Nat} {E : Nat → List Value} {n : Nat} {oa : Option Addr} (h : Rw w b o sz E n oa) (hq : ∀ k, k < n → b < B) (hb : Below B w w') : Rw w' b o sz E n oa := fun k hk => by
  obtain ⟨h1, h2, h3⟩ := h k hk
  exact ⟨h1, Nat.lt_of_lt_of_le h2 hb.size, fun j v hj => (hb.cell (p := ⟨b, _, none⟩) (hq k hk)).trans (h3 j v hj)⟩
theorem lw_cb {w : World} {q : Nat} {x : Int} {s : Bool} (h : Cb w q #[.int .i64 x, .bool s] 52) : Lw w (.slice (some ⟨q, 0, none⟩) 1 1) [(x, s)] := by
  refine ⟨some ⟨q, 0, none⟩, 1, rfl, ⟨some ⟨q, 0, none⟩, 1, rfl, fun i hi => ⟨q, 0, rfl, h.lt, ?_⟩⟩, fun h => by cases h⟩
  match i, hi with
  | 0, _ => exact ⟨h.cell 0 rfl, h.cell 1 rfl⟩
def nF (l : List Nat) (k : Nat) : List Value := [Value.int .i64 ((l.getD k 0 : Nat) : Int)]
theorem seqHasN_n (m k : Nat) (hk : k ≤ 62) (w : World) : Calls Try.prog 72 #[.int .i64 ((m : Nat) : Int), .int .i64 ((k : Nat) : Int)] w fun e w' => e = .returned (.bool (S.has m k)) ∧ w = w' := by
  rw [has_def]
  exact seqHas_n (m : Int) k hk w
/-! ### what can follow -/
def nxt1 (W und left : Nat) (A : List Nat) (k : Nat) : List (Int × Bool) := if S.has (W &&& left) k = true ∧ A.getD k 0 &&& left = 0 then [((k : Int), !S.has und k)] else []
def nxtK (W und left : Nat) (A : List Nat) : Nat → List (Int × Bool)
  | 0 => []
  | k + 1 => nxtK W und left A k ++ nxt1 W und left A k
theorem nxtK_len (W und left : Nat) (A : List Nat) : ∀ k, (nxtK W und left A k).length ≤ k
  | 0 => Nat.le_refl _
  | k + 1 => by
    unfold nxtK
    rw [List.length_append]
    have := nxtK_len W und left A k
    have h2 : (nxt1 W und left A k).length ≤ 1 := by unfold nxt1; split <;> simp
    omega
/-- the ways: the orders that are wanted, all that is to be done, what is ahead -/
structure WaT where
  W : Nat
  P : Nat
  D : Nat
  A : List Nat
/-- not great -/
structure WaT.B (x : WaT) : Prop where
  w : x.W < 9223372036854775808
  p : x.P < 9223372036854775808
  d : x.D < 9223372036854775808
  l : x.A.length ≤ 63
  a : ∀ i, i < x.A.length → x.A.getD i 0 < 9223372036854775808
def WaT.und (x : WaT) (done : Nat × Nat) : Nat := U.minus x.P done.1
def WaT.left (x : WaT) (done : Nat × Nat) : Nat := x.und done ||| U.minus x.D done.2
def nextW (x : WaT) (done : Nat × Nat) : List (Int × Bool) := nxtK x.W (x.und done) (x.left done) x.A x.A.length
theorem next_n (x : WaT) (hx : x.B) (p : Nat × Nat) (h1 : p.1 < 9223372036854775808) (h2 : p.2 < 9223372036854775808) (oa : Option Addr) (c b o : Nat) (w : World) (hv : Rw w b o 1 (nF x.A) x.A.length oa) : Calls Try.prog 39 #[.agg #[.int .i64 ((x.W : Nat) : Int), .int .i64 ((x.P : Nat) : Int), .int .i64 ((x.D : Nat) : Int), .slice oa x.A.length c], .agg #[.int .i64 ((p.1 : Nat) : Int), .int .i64 ((p.2 : Nat) : Int)]] w (VisP (nextW x p) w) := by
  have HB : Below w.heap.size w w := Below.refl _ _
  obtain ⟨hW, hP, hD, hl, hA⟩ := hx
  have hu : x.und p < 9223372036854775808 := Nat.lt_of_le_of_lt (U.minus_le _ _) hP
  have hm : U.minus x.D p.2 < 9223372036854775808 := Nat.lt_of_le_of_lt (U.minus_le _ _) hD
  have hlf : x.left p < 9223372036854775808 := Nat.or_lt_two_pow (n := 63) hu hm
  refine sx_enter Try.func39 rfl [(0, .agg #[.int .i64 ((x.W : Nat) : Int), .int .i64 ((x.P : Nat) : Int), .int .i64 ((x.D : Nat) : Int), .slice oa x.A.length c]), (1, .agg #[.int .i64 ((p.1 : Nat) : Int), .int .i64 ((p.2 : Nat) : Int)])] (by kernel_rfl) ?_
  refine wp_seq ?_
  refine wp_region_lit ?_
  obtain ⟨W1, hW⟩ : ∃ W, w.alloc (.cells #[.int .i64 ((x.W : Nat) : Int), .int .i64 ((x.P : Nat) : Int), .int .i64 ((x.D : Nat) : Int), .slice oa x.A.length c] 74) = W := ⟨_, rfl⟩
  have hb := hW ▸ below_alloc w (.cells #[.int .i64 ((x.W : Nat) : Int), .int .i64 ((x.P : Nat) : Int), .int .i64 ((x.D : Nat) : Int), .slice oa x.A.length c] 74)
  have hq : Cb W1 w.heap.size #[.int .i64 ((x.W : Nat) : Int), .int .i64 ((x.P : Nat) : Int), .int .i64 ((x.D : Nat) : Int), .slice oa x.A.length c] 74 := hW ▸ Cb.made w #[.int .i64 ((x.W : Nat) : Int), .int .i64 ((x.P : Nat) : Int), .int .i64 ((x.D : Nat) : Int), .slice oa x.A.length c] 74
  refine sx_mem (by kernel_rfl) rfl rfl (.pointer (some ⟨w.heap.size, 0, none⟩)) W1 (by rw [← hW]; kernel_rfl) ?_
  replace HB := over HB hb
  have z1 := hb.size
  have M2 := hq
  have yM2 := hq.lt
  clear hq hb hW
  obtain ⟨W3, hW⟩ : ∃ W, W1.alloc (.cells #[.int .i64 ((p.1 : Nat) : Int), .int .i64 ((p.2 : Nat) : Int)] 72) = W := ⟨_, rfl⟩
  have hb := hW ▸ below_alloc W1 (.cells #[.int .i64 ((p.1 : Nat) : Int), .int .i64 ((p.2 : Nat) : Int)] 72)
  have hq : Cb W3 W1.heap.size #[.int .i64 ((p.1 : Nat) : Int), .int .i64 ((p.2 : Nat) : Int)] 72 := hW ▸ Cb.made W1 #[.int .i64 ((p.1 : Nat) : Int), .int .i64 ((p.2 : Nat) : Int)] 72
  refine sx_mem (by kernel_rfl) rfl rfl (.pointer (some ⟨W1.heap.size, 0, none⟩)) W3 (by rw [← hW]; kernel_rfl) ?_
  replace HB := over HB hb
  replace M2 := M2.below hb
  have z2 := hb.size
  have M4 := hq
  have yM4 := hq.lt
  clear hq hb hW
  refine sx_val (by kernel_rfl) rfl rfl (.slice none 0 0) (by kernel_rfl) ?_
  refine wpList_nil ?_
  refine sx_norm ?_
  refine wp_seq ?_
  refine wp_region_lit ?_
  refine sx_val (by kernel_rfl) rfl rfl (.slice none 0 0) (by kernel_rfl) ?_
  refine wpList_nil ?_
  refine sx_norm ?_
  refine wp_seq ?_
  refine wp_region_lit ?_
  refine sx_val (by kernel_rfl) rfl rfl (.pointer (some ⟨w.heap.size, 1, none⟩)) (by kernel_rfl) ?_
  refine sx_val (by kernel_rfl) rfl rfl (.pointer (some ⟨w.heap.size, 1, none⟩)) (by kernel_rfl) ?_
  refine sx_val (by kernel_rfl) rfl rfl (.int .i64 ((x.P : Nat) : Int)) (ex_load1 rfl (M2.cell 1 rfl) (by kernel_rfl) Try.underlying3 rfl) ?_
  refine sx_val (by kernel_rfl) rfl rfl (.pointer (some ⟨W1.heap.size, 0, none⟩)) (by kernel_rfl) ?_
  refine sx_val (by kernel_rfl) rfl rfl (.int .i64 ((p.1 : Nat) : Int)) (ex_load1 rfl (M4.cell 0 rfl) (by kernel_rfl) Try.underlying3 rfl) ?_
  refine sx_int (by kernel_rfl) rfl rfl .i64 (bits .andNot .i64 ((x.P : Nat) : Int) ((p.1 : Nat) : Int)) (((x.und p : Nat) : Int)) (by kernel_rfl) (i_minus _ _ (by omega) (by omega)) ?_
  refine sx_val (by kernel_rfl) rfl rfl (.int .i64 ((x.und p : Nat) : Int)) (by kernel_rfl) ?_
  refine wpList_nil ?_
  refine sx_norm ?_
  refine wp_seq ?_
  refine wp_region_lit ?_
  refine sx_val (by kernel_rfl) rfl rfl (.int .i64 ((x.und p : Nat) : Int)) (by kernel_rfl) ?_
  refine sx_val (by kernel_rfl) rfl rfl (.pointer (some ⟨w.heap.size, 1, none⟩)) (by kernel_rfl) ?_
  refine sx_val (by kernel_rfl) rfl rfl (.pointer (some ⟨w.heap.size, 2, none⟩)) (by kernel_rfl) ?_
  refine sx_val (by kernel_rfl) rfl rfl (.int .i64 ((x.D : Nat) : Int)) (ex_load1 rfl (M2.cell 2 rfl) (by kernel_rfl) Try.underlying3 rfl) ?_
  refine sx_val (by kernel_rfl) rfl rfl (.pointer (some ⟨W1.heap.size, 1, none⟩)) (by kernel_rfl) ?_
  refine sx_val (by kernel_rfl) rfl rfl (.int .i64 ((p.2 : Nat) : Int)) (ex_load1 rfl (M4.cell 1 rfl) (by kernel_rfl) Try.underlying3 rfl) ?_
  refine sx_int (by kernel_rfl) rfl rfl .i64 (bits .andNot .i64 ((x.D : Nat) : Int) ((p.2 : Nat) : Int)) (((U.minus x.D p.2 : Nat) : Int)) (by kernel_rfl) (i_minus _ _ (by omega) (by omega)) ?_
  refine sx_int (by kernel_rfl) rfl rfl .i64 (bits .or .i64 ((x.und p : Nat) : Int) ((U.minus x.D p.2 : Nat) : Int)) (((x.left p : Nat) : Int)) (by kernel_rfl) (S.i64_or _ _ (by omega) (by omega)) ?_
  refine sx_val (by kernel_rfl) rfl rfl (.int .i64 ((x.left p : Nat) : Int)) (by kernel_rfl) ?_
  refine wpList_nil ?_
  refine sx_norm ?_
  refine wp_seq ?_
  refine wp_seq ?_
  refine wp_region_lit ?_
  refine sx_val (by kernel_rfl) rfl rfl (.pointer (some ⟨w.heap.size, 3, none⟩)) (by kernel_rfl) ?_
  refine sx_val (by kernel_rfl) rfl rfl (.slice oa x.A.length c) (ex_load1 rfl (M2.cell 3 rfl) (by kernel_rfl) Try.underlying64 rfl) ?_
  refine sx_val (by kernel_rfl) rfl rfl (.int .i64 ((x.A.length : Nat) : Int)) (by kernel_rfl) ?_
  refine sx_val (by kernel_rfl) rfl rfl (.int .i64 0) (by kernel_rfl) ?_
  refine wpList_nil ?_
  refine sx_norm ?_
  refine wp_block ?_
  have HG : Gw W3.heap.size W3 (.slice none 0 0) [] := Gw.nil _ _
  refine sx_loop (fun x9 : Nat × Value => [(0, .agg #[.int .i64 ((x.W : Nat) : Int), .int .i64 ((x.P : Nat) : Int), .int .i64 ((x.D : Nat) : Int), .slice oa x.A.length c]), (1, .agg #[.int .i64 ((p.1 : Nat) : Int), .int .i64 ((p.2 : Nat) : Int)]), (2, .pointer (some ⟨w.heap.size, 0, none⟩)), (3, .pointer (some ⟨W1.heap.size, 0, none⟩)), (4, .slice none 0 0), (5, x9.2), (6, .int .i64 ((x.und p : Nat) : Int)), (7, .int .i64 ((x.left p : Nat) : Int)), (10, .pointer (some ⟨w.heap.size, 1, none⟩)), (11, .pointer (some ⟨w.heap.size, 1, none⟩)), (12, .int .i64 ((x.P : Nat) : Int)), (13, .pointer (some ⟨W1.heap.size, 0, none⟩)), (14, .int .i64 ((p.1 : Nat) : Int)), (15, .int .i64 ((x.und p : Nat) : Int)), (16, .int .i64 ((x.und p : Nat) : Int)), (17, .pointer (some ⟨w.heap.size, 1, none⟩)), (18, .pointer (some ⟨w.heap.size, 2, none⟩)), (19, .int .i64 ((x.D : Nat) : Int)), (20, .pointer (some ⟨W1.heap.size, 1, none⟩)), (21, .int .i64 ((p.2 : Nat) : Int)), (22, .int .i64 ((U.minus x.D p.2 : Nat) : Int)), (23, .int .i64 ((x.left p : Nat) : Int)), (24, .pointer (some ⟨w.heap.size, 3, none⟩)), (25, .slice oa x.A.length c), (26, .int .i64 ((x.A.length : Nat) : Int)), (27, .int .i64 ((x9.1 : Nat) : Int))]) (fun gg x9 wr => x9.1 ≤ x.A.length ∧ x.A.length - x9.1 ≤ gg ∧ Gw W3.heap.size wr x9.2 (nxtK x.W (x.und p) (x.left p) x.A x9.1) ∧ Below W3.heap.size W3 wr) (x.A.length) ((0, .slice none 0 0)) (by kernel_rfl) ⟨Nat.zero_le _, Nat.le_refl _, HG, Below.refl _ _⟩ ?_
  rintro gg ⟨j, v5⟩ g' wr ⟨hj, hg, HG, hbl⟩
  dsimp only at hj hg HG hbl
  replace HB := over HB hbl
  replace M2 := M2.below hbl
  replace M4 := M4.below hbl
  have z3 := hbl.size
  have HL := hbl
  clear hbl
  refine wp_seq ?_
  refine wp_region_lit ?_
  by_cases C1 : j < x.A.length
  · refine sx_bool (by kernel_rfl) rfl rfl (decide (((j : Nat) : Int) < ((x.A.length : Nat) : Int))) true (by kernel_rfl) (decide_eq_true (by omega)) ?_
    refine wpList_nil ?_
    refine sx_norm ?_
    refine wp_seq ?_
    refine sx_true (by kernel_rfl) ?_
    refine wp_skip ?_
    refine sx_norm ?_
    refine wp_seq ?_
    refine wp_block ?_
    refine wp_seq ?_
    refine wp_region_lit ?_
    refine sx_val (by kernel_rfl) rfl rfl (.int .i64 ((j : Nat) : Int)) (by kernel_rfl) ?_
    refine sx_val (by kernel_rfl) rfl rfl (.pointer (some ⟨b, o + j * 1, none⟩)) (ex_indexO (q := o) (m := x.A.length) (c := c) (k := j) (s := 1) rfl (by kernel_rfl) ((hv.below HB).oa (k := j) (by omega)) (by kernel_rfl) Try.underlying64 (by kernel_rfl) (by omega) (by omega)) ?_
    refine sx_val (by kernel_rfl) rfl rfl (.int .i64 ((x.A.getD j 0 : Nat) : Int)) (ex_load1 rfl ((hv.below HB).cell (k := j) (by omega) 0 rfl) (by kernel_rfl) Try.underlying3 rfl) ?_
    refine sx_val (by kernel_rfl) rfl rfl (.int .i64 ((j : Nat) : Int)) (by kernel_rfl) ?_
    refine sx_val (by kernel_rfl) rfl rfl (.int .i64 ((x.A.getD j 0 : Nat) : Int)) (by kernel_rfl) ?_
    refine wpList_nil ?_
    refine sx_norm ?_
    refine wp_seq ?_
    refine wp_region_lit ?_
    refine sx_val (by kernel_rfl) rfl rfl (.pointer (some ⟨w.heap.size, 0, none⟩)) (by kernel_rfl) ?_
    refine sx_val (by kernel_rfl) rfl rfl (.int .i64 ((x.W : Nat) : Int)) (ex_load1 rfl (M2.cell 0 rfl) (by kernel_rfl) Try.underlying3 rfl) ?_
    refine sx_val (by kernel_rfl) rfl rfl (.int .i64 ((x.left p : Nat) : Int)) (by kernel_rfl) ?_
    refine sx_int (by kernel_rfl) rfl rfl .i64 (bits .and .i64 ((x.W : Nat) : Int) ((x.left p : Nat) : Int)) (((x.W &&& (x.left p) : Nat) : Int)) (by kernel_rfl) (S.i64_and _ _ (by omega) (by omega)) ?_
    refine sx_val (by kernel_rfl) rfl rfl (.int .i64 ((j : Nat) : Int)) (by kernel_rfl) ?_
    by_cases C2 : S.has (x.W &&& (x.left p)) j = true
    · refine sx_call (by kernel_rfl) rfl rfl ((by have h8 := seqHasN_n (x.W &&& (x.left p)) j (by omega) wr; rw [show S.has (x.W &&& (x.left p)) j = true by simpa using C2] at h8; exact h8)) (by kernel_rfl) ?_
      rintro e w9 ⟨rfl, rfl⟩
      refine ⟨_, rfl, ?_⟩
      refine sx_val (by kernel_rfl) rfl rfl (.bool true) (by kernel_rfl) ?_
      refine sx_val (by kernel_rfl) rfl rfl (.int .i64 ((x.A.getD j 0 : Nat) : Int)) (by kernel_rfl) ?_
      refine sx_val (by kernel_rfl) rfl rfl (.int .i64 ((x.left p : Nat) : Int)) (by kernel_rfl) ?_
      have haj := hA j (by omega)
      refine sx_int (by kernel_rfl) rfl rfl .i64 (bits .and .i64 ((x.A.getD j 0 : Nat) : Int) ((x.left p : Nat) : Int)) ((((x.A.getD j 0) &&& (x.left p) : Nat) : Int)) (by kernel_rfl) (S.i64_and _ _ (by omega) (by omega)) ?_
      by_cases C3 : (x.A.getD j 0) &&& (x.left p) = 0
      · refine sx_bool (by kernel_rfl) rfl rfl (((((x.A.getD j 0) &&& (x.left p) : Nat) : Int) : Int) == (0 : Int)) true (by kernel_rfl) (beq_iff_eq.2 (by omega)) ?_
        refine sx_val (by kernel_rfl) rfl rfl (.bool true) (by kernel_rfl) ?_
        refine wpList_nil ?_
        refine sx_norm ?_
        refine sx_true (by kernel_rfl) ?_
        refine wp_region_lit ?_
        refine sx_val (by kernel_rfl) rfl rfl (v5) (by kernel_rfl) ?_
        refine sx_val (by kernel_rfl) rfl rfl (.int .i64 ((j : Nat) : Int)) (by kernel_rfl) ?_
        refine sx_val (by kernel_rfl) rfl rfl (.int .i64 ((x.und p : Nat) : Int)) (by kernel_rfl) ?_
        refine sx_val (by kernel_rfl) rfl rfl (.int .i64 ((j : Nat) : Int)) (by kernel_rfl) ?_
        refine sx_call (by kernel_rfl) rfl rfl (seqHasN_n (x.und p) j (by omega) wr) (by kernel_rfl) ?_
        rintro e w9 ⟨rfl, rfl⟩
        refine ⟨_, rfl, ?_⟩
        refine sx_val (by kernel_rfl) rfl rfl (.bool (!(S.has (x.und p) j))) (by kernel_rfl) ?_
        refine sx_val (by kernel_rfl) rfl rfl (.agg #[.int .i64 ((j : Nat) : Int), .bool (!(S.has (x.und p) j))]) (by kernel_rfl) ?_
        obtain ⟨W5, hW⟩ : ∃ W, wr.alloc (.cells #[.int .i64 ((j : Nat) : Int), .bool (!(S.has (x.und p) j))] 52) = W := ⟨_, rfl⟩
        have hb := hW ▸ below_alloc wr (.cells #[.int .i64 ((j : Nat) : Int), .bool (!(S.has (x.und p) j))] 52)
        have hq : Cb W5 wr.heap.size #[.int .i64 ((j : Nat) : Int), .bool (!(S.has (x.und p) j))] 52 := hW ▸ Cb.made wr #[.int .i64 ((j : Nat) : Int), .bool (!(S.has (x.und p) j))] 52
        refine sx_mem (by kernel_rfl) rfl rfl (.slice (some ⟨wr.heap.size, 0, none⟩) 1 1) W5 (by rw [← hW]; kernel_rfl) ?_
        replace HB := over HB hb
        replace M2 := M2.below hb
        replace M4 := M4.below hb
        replace HL := over HL hb
        replace HG := HG.frame hb
        have z4 := hb.size
        have M6 := hq
        have yM6 := hq.lt
        clear hq hb hW
        obtain ⟨v7, W8, h9, hg9, hb, -, -⟩ := ap_w 32 HG (lw_cb M6) (by omega) (by have h8 := nxtK_len x.W (x.und p) (x.left p) x.A j; simp only [List.length_cons, List.length_nil]; omega)
        refine sx_mem (by kernel_rfl) rfl rfl v7 W8 (ex_append rfl (by kernel_rfl) (by kernel_rfl) h9) ?_
        replace HB := HB.trans (hb.mono (by omega))
        replace M2 := M2.belowB (by omega) hb
        replace M4 := M4.belowB (by omega) hb
        replace HL := HL.trans (hb.mono (by omega))
        have z5 := hb.size
        replace HG := hg9
        clear hg9 hb h9
        refine sx_val (by kernel_rfl) rfl rfl (v7) (by kernel_rfl) ?_
        refine wpList_nil ?_
        refine sx_in ?_
        refine sx_norm ?_
        refine wp_region_lit ?_
        refine sx_int (by kernel_rfl) rfl rfl .i64 (IntKind.i64.wrap (((j : Nat) : Int) + 1)) (((j + 1 : Nat) : Int)) (by kernel_rfl) (by rw [IntKind.wrap_i64]; omega) ?_
        refine sx_val (by kernel_rfl) rfl rfl (.int .i64 ((j + 1 : Nat) : Int)) (by kernel_rfl) ?_
        refine wpList_nil ?_
        refine sx_norm ?_
        refine sx_again (x.A.length - (j + 1)) (j + 1, v7) (by omega) (by kernel_rfl) ⟨by show j + 1 ≤ _; omega, Nat.le_refl _, ?_, HL⟩
        refine HG.ext ?_
        show _ = nxtK _ _ _ _ (j + 1)
        rw [nxtK]
        unfold nxt1
        rw [if_pos ⟨by assumption, by assumption⟩]
      refine sx_bool (by kernel_rfl) rfl rfl (((((x.A.getD j 0) &&& (x.left p) : Nat) : Int) : Int) == (0 : Int)) false (by kernel_rfl) (beq_eq_false_iff_ne.2 (by omega)) ?_
      refine sx_val (by kernel_rfl) rfl rfl (.bool false) (by kernel_rfl) ?_
      refine wpList_nil ?_
      refine sx_norm ?_
      refine sx_false (by kernel_rfl) ?_
      refine wp_skip ?_
      refine sx_in ?_
      refine sx_norm ?_
      refine wp_region_lit ?_
      refine sx_int (by kernel_rfl) rfl rfl .i64 (IntKind.i64.wrap (((j : Nat) : Int) + 1)) (((j + 1 : Nat) : Int)) (by kernel_rfl) (by rw [IntKind.wrap_i64]; omega) ?_
      refine sx_val (by kernel_rfl) rfl rfl (.int .i64 ((j + 1 : Nat) : Int)) (by kernel_rfl) ?_
      refine wpList_nil ?_
      refine sx_norm ?_
      refine sx_again (x.A.length - (j + 1)) (j + 1, v5) (by omega) (by kernel_rfl) ⟨by show j + 1 ≤ _; omega, Nat.le_refl _, ?_, HL⟩
      refine HG.ext ?_
      show _ = nxtK _ _ _ _ (j + 1)
      rw [nxtK]
      unfold nxt1
      rw [if_neg (by rintro ⟨h8, h9⟩; first | exact absurd h8 (by assumption) | exact absurd h9 (by assumption)), List.append_nil]
    refine sx_call (by kernel_rfl) rfl rfl ((by have h8 := seqHasN_n (x.W &&& (x.left p)) j (by omega) wr; rw [show S.has (x.W &&& (x.left p)) j = false by simpa using C2] at h8; exact h8)) (by kernel_rfl) ?_
    rintro e w9 ⟨rfl, rfl⟩
    refine ⟨_, rfl, ?_⟩
    refine sx_val (by kernel_rfl) rfl rfl (.bool false) (by kernel_rfl) ?_
    refine sx_skip (by kernel_rfl) rfl rfl ?_
    refine sx_skip (by kernel_rfl) rfl rfl ?_
    refine sx_skip (by kernel_rfl) rfl rfl ?_
    refine sx_skip (by kernel_rfl) rfl rfl ?_
    refine sx_val (by kernel_rfl) rfl rfl (.bool false) (by kernel_rfl) ?_
    refine wpList_nil ?_
    refine sx_norm ?_
    refine sx_false (by kernel_rfl) ?_
    refine wp_skip ?_
    refine sx_in ?_
    refine sx_norm ?_
    refine wp_region_lit ?_
    refine sx_int (by kernel_rfl) rfl rfl .i64 (IntKind.i64.wrap (((j : Nat) : Int) + 1)) (((j + 1 : Nat) : Int)) (by kernel_rfl) (by rw [IntKind.wrap_i64]; omega) ?_
    refine sx_val (by kernel_rfl) rfl rfl (.int .i64 ((j + 1 : Nat) : Int)) (by kernel_rfl) ?_
    refine wpList_nil ?_
    refine sx_norm ?_
    refine sx_again (x.A.length - (j + 1)) (j + 1, v5) (by omega) (by kernel_rfl) ⟨by show j + 1 ≤ _; omega, Nat.le_refl _, ?_, HL⟩
    refine HG.ext ?_
    show _ = nxtK _ _ _ _ (j + 1)
    rw [nxtK]
    unfold nxt1
    rw [if_neg (by rintro ⟨h8, h9⟩; first | exact absurd h8 (by assumption) | exact absurd h9 (by assumption)), List.append_nil]
  refine sx_bool (by kernel_rfl) rfl rfl (decide (((j : Nat) : Int) < ((x.A.length : Nat) : Int))) false (by kernel_rfl) (decide_eq_false (by omega)) ?_
  refine wpList_nil ?_
  refine sx_norm ?_
  refine wp_seq ?_
  refine sx_false (by kernel_rfl) ?_
  refine wp_exit ?_
  refine sx_es ?_
  refine sx_es ?_
  refine sx_out ?_
  refine sx_norm ?_
  refine wp_seq ?_
  refine wp_region_lit ?_
  refine sx_val (by kernel_rfl) rfl rfl (v5) (by kernel_rfl) ?_
  refine sx_val (by kernel_rfl) rfl rfl (v5) (by kernel_rfl) ?_
  refine wpList_nil ?_
  refine sx_norm ?_
  refine wp_ret ?_
  have hj9 : j = x.A.length := by omega
  rw [hj9] at HG
  exact sx_ret1 v5 rfl rfl (by kernel_rfl) (visP HG HB (by omega))

end Go.Proofs.Ytoliacfpjhanlaa.T


/-! waysOf (by gen_sh.py). -/
namespace Go.Proofs.Ytoliacfpjhanlaa.T
open Go.RowKit
set_option maxRecDepth 8000
attribute [local irreducible] wpList Code.wp wpAnyH

/-! ### memory -/
theorem Cb.there {w : World} {q p n : Nat} {cs : Array Value} {t : TypeId} (h : Cb w q cs t) (hp : p + n ≤ cs.size) : w.there q p n := fun j hj => by
  refine ⟨?_, h.f _⟩
  rw [h.cell (p + j) (Array.getElem?_eq_getElem (by omega))]
  rfl
theorem Cb.setsN {q : Nat} {t : TypeId} : ∀ (vs : List Value) (w : World) (p : Nat) (cs : Array Value), Cb w q cs t → Cb (w.setCells q p vs) q (setN cs.toList p vs).toArray t
  | [], _, _, _, h => h
  | v :: vs, w, p, cs, h => by
    have h1 := Cb.setsN vs (w.setCell ⟨q, p, none⟩ v) (p + 1) (cs.setIfInBounds p v) (h.set p v)
    rw [Array.toList_setIfInBounds] at h1
    exact h1
theorem grown_sets (q : Nat) : ∀ (vs : List Value) (w : World) (p : Nat), w.grownBy (w.setCells q p vs) (some q)
  | [], w, _ => ⟨rfl, rfl, rfl, Nat.le_refl _, fun _ _ _ => rfl⟩
  | v :: vs, w, p => by
    have h1 := grown_set w q p v
    have h2 := grown_sets q vs (w.setCell ⟨q, p, none⟩ v) (p + 1)
    exact ⟨h2.os.trans h1.os, h2.tape.trans h1.tape, h2.output.trans h1.output, Nat.le_trans h1.size h2.size, fun j hj hne => (h2.block j (Nat.lt_of_lt_of_le hj h1.size) hne).trans (h1.block j hj hne)⟩

section
variable {P : Program} {o : Oper} {n : Nat} {g : Nat → Value} {l : List (Nat × Value)} {w : World}
theorem ex_storeM {ty : TypeId} {x y : Operand} (ho : o.op = .store ty x y) {q p : Nat} {cs cells : Array Value} {t : TypeId} (hg : Cb w q cs t) (hp : p + cells.size ≤ cs.size) (h1 : cells.all (·.oneCell') = true) (hx : ev n g l x = .pointer (some ⟨q, p, none⟩)) (hy : ev n g l y = .agg cells)
    (hi : (P.info? ty).map (·.size) = some cells.size) : (execOp (ev n g l) o).run P w = .ok .skip (w.setCells q p cells.toList) := by
  unfold execOp
  simp only [ho, hx, hy, run_storeAt_mid w q p ty cells (hg.there hp) hi h1, Sem.run_bind, Sem.run_pure, Result.andThen_ok]
theorem ex_make {t : TypeId} {x y : Operand} (ho : o.op = .makeSlice t x y) {k : Nat} {e : TypeId} {z : Value} {bytes : Nat} (hx : ev n g l x = .int .i64 k) (hy : ev n g l y = .int .i64 k) (ht : P.underlying t = some (.slice e)) (hinfo : (P.info? e).map (fun i => (i.zero, i.size, i.bytes)) = some (some z, 1, bytes)) (hz1 : z.cells = #[z])
    (hbytes : bytes * k ≤ 281474976710656) (h63 : k ≤ 9223372036854775807) : (execOp (ev n g l) o).run P w = .ok (.value (.slice (some ⟨w.heap.size, 0, none⟩) k k)) (w.alloc (.cells (madeCells #[z] k) e)) := by
  unfold execOp
  simp only [ho, hx, hy, run_make_row' t e z bytes ht hinfo hz1 .i64 .i64 k hbytes h63 w, Sem.run_bind, Sem.run_pure, Result.andThen_ok]
end
/-- the cells of numbers -/
def nC (l : List Nat) : Array Value := (l.map fun (x : Nat) => Value.int .i64 (x : Int)).toArray
theorem nC_made (k : Nat) : madeCells #[.int .i64 0] k = nC (List.replicate k 0) := by
  apply Array.ext'
  unfold madeCells nC
  simp only [Array.toList_map, Array.toList_range, List.map_replicate]
  refine List.ext_getElem (by simp) fun i h1 h2 => ?_
  simp [Nat.mod_one]
theorem nC_at {l : List Nat} {k : Nat} (h : k < l.length) : (nC l)[k]? = some (.int .i64 ((l.getD k 0 : Nat) : Int)) := by
  unfold nC
  rw [List.getElem?_toArray, List.getElem?_map, List.getD_eq_getElem?_getD, List.getElem?_eq_getElem h]
  rfl
theorem nC_set (l : List Nat) (k x : Nat) : (nC l).setIfInBounds k (.int .i64 ((x : Nat) : Int)) = nC (l.set k x) := by
  apply Array.ext'
  unfold nC
  simp [List.map_set]
theorem Rw.of_nC {w : World} {q : Nat} {l : List Nat} {t : TypeId} (h : Cb w q (nC l) t) : Rw w q 0 1 (nF l) l.length (some ⟨q, 0, none⟩) := fun k hk => by
  refine ⟨rfl, h.lt, fun j v hj => ?_⟩
  unfold nF at hj
  match j, hj with
  | 0, hj =>
    simp only [List.getElem?_cons_zero, Option.some.injEq] at hj
    subst hj
    have := h.cell k (nC_at hk)
    simpa using this
  | j + 1, hj => simp at hj
theorem Vs.rw2 {w : World} {oa : Option Addr} {c : Nat} {l : List (Int × Bool)} (h : Vs w (.slice oa l.length c) l) : ∃ b o, Rw w b o 2 (vF l) l.length oa := by
  obtain ⟨oa', c', b, o, hv, hr⟩ := Vs.rw h
  simp only [Value.slice.injEq] at hv
  obtain ⟨rfl, -, rfl⟩ := hv
  exact ⟨b, o, hr⟩
/-- orders -/
def oF (l : List OrT) (vc : Nat → Value) (k : Nat) : List Value := let a := l.getD k or0; [.string a.name, vc k, .int .i64 a.pp, .int .i64 a.po, .int .i64 a.pc, .int .i64 a.ps, .int .i64 a.dp, .int .i64 a.dd, .int .i64 a.dc, .int .i64 a.ds, .int .i64 a.sk, .int .i64 a.pen, .int .i64 a.spl, .int .i64 a.las, .int .i64 a.now, .bool a.off]
theorem Os.rw {w : World} {oa : Option Addr} {c : Nat} {l : List OrT} (h : Os w (.slice oa l.length c) l) : ∃ b o vc, Rw w b o 16 (oF l vc) l.length oa := by
  obtain ⟨oa', c', hv, h⟩ := h
  simp only [Value.slice.injEq] at hv
  obtain ⟨rfl, -, rfl⟩ := hv
  cases l with
  | nil => exact ⟨0, 0, fun _ => .bool true, fun k hk => by cases hk⟩
  | cons x l =>
    obtain ⟨b, o, -, ha, -⟩ := h 0 (by simp)
    have hex : ∀ i, i < (x :: l).length → ∃ vc, b < w.heap.size ∧ Oc w b (o + i * 16) ((x :: l).getD i or0) vc := fun i hi => by
      obtain ⟨b', o', vc, ha', hl, hc, -⟩ := h i hi
      rw [ha] at ha'
      simp only [Option.some.injEq, Addr.mk.injEq, and_true] at ha'
      obtain ⟨rfl, rfl⟩ := ha'
      exact ⟨vc, hl, hc⟩
    have hvc : ∃ vc : Nat → Value, ∀ i, i < (x :: l).length → b < w.heap.size ∧ Oc w b (o + i * 16) ((x :: l).getD i or0) (vc i) := by
      refine ⟨fun i => if hi : i < (x :: l).length then Classical.choose (hex i hi) else .bool true, fun i hi => ?_⟩
      have h9 := Classical.choose_spec (hex i hi)
      simp only [dif_pos hi]
      exact h9
    obtain ⟨vc, hvc⟩ := hvc
    refine ⟨b, o, vc, fun k hk => ⟨ha, (hvc k hk).1, fun j v hj => ?_⟩⟩
    obtain ⟨-, h0, h1, h2, h3, h4, h5, h6, h7, h8, h9, h10, h11, h12, h13, h14, h15⟩ := hvc k hk
    unfold oF at hj
    simp only at hj
    match j, hj with
    | 0, hj => simp only [List.getElem?_cons_zero, Option.some.injEq] at hj; subst hj; exact h0
    | 1, hj => simp only [List.getElem?_cons_succ, List.getElem?_cons_zero, Option.some.injEq] at hj; subst hj; exact h1
    | 2, hj => simp only [List.getElem?_cons_succ, List.getElem?_cons_zero, Option.some.injEq] at hj; subst hj; exact h2
    | 3, hj => simp only [List.getElem?_cons_succ, List.getElem?_cons_zero, Option.some.injEq] at hj; subst hj; exact h3
    | 4, hj => simp only [List.getElem?_cons_succ, List.getElem?_cons_zero, Option.some.injEq] at hj; subst hj; exact h4
    | 5, hj => simp only [List.getElem?_cons_succ, List.getElem?_cons_zero, Option.some.injEq] at hj; subst hj; exact h5
    | 6, hj => simp only [List.getElem?_cons_succ, List.getElem?_cons_zero, Option.some.injEq] at hj; subst hj; exact h6
    | 7, hj => simp only [List.getElem?_cons_succ, List.getElem?_cons_zero, Option.some.injEq] at hj; subst hj; exact h7
    | 8, hj => simp only [List.getElem?_cons_succ, List.getElem?_cons_zero, Option.some.injEq] at hj; subst hj; exact h8
    | 9, hj => simp only [List.getElem?_cons_succ, List.getElem?_cons_zero, Option.some.injEq] at hj; subst hj; exact h9
    | 10, hj => simp only [List.getElem?_cons_succ, List.getElem?_cons_zero, Option.some.injEq] at hj; subst hj; exact h10
    | 11, hj => simp only [List.getElem?_cons_succ, List.getElem?_cons_zero, Option.some.injEq] at hj; subst hj; exact h11
    | 12, hj => simp only [List.getElem?_cons_succ, List.getElem?_cons_zero, Option.some.injEq] at hj; subst hj; exact h12
    | 13, hj => simp only [List.getElem?_cons_succ, List.getElem?_cons_zero, Option.some.injEq] at hj; subst hj; exact h13
    | 14, hj => simp only [List.getElem?_cons_succ, List.getElem?_cons_zero, Option.some.injEq] at hj; subst hj; exact h14
    | 15, hj => simp only [List.getElem?_cons_succ, List.getElem?_cons_zero, Option.some.injEq] at hj; subst hj; exact h15
    | j + 16, hj => simp at hj
/-- pairs that are right -/
def pF (l : List (Int × Int)) (k : Nat) : List Value := [.int .i64 (U.pa (l.getD k (0, 0)) : Nat), .int .i64 (U.pb (l.getD k (0, 0)) : Nat)]
theorem Ps.rw {w : World} {oa : Option Addr} {c n : Nat} {l : List (Int × Int)} (hr : U.Rt n l) (h : Ps w (.slice oa l.length c) l) : ∃ b o, Rw w b o 2 (pF l) l.length oa := by
  obtain ⟨oa', c', b, o, hv, hw⟩ := Sl.rw h
  simp only [Value.slice.injEq] at hv
  obtain ⟨rfl, -, rfl⟩ := hv
  refine ⟨b, o, fun k hk => ?_⟩
  obtain ⟨h1, h2, h3⟩ := hw k hk
  have h9 := (U.getD_rt hr hk).2.2
  refine ⟨h1, h2, fun j v hj => h3 j v ?_⟩
  rw [← hj]
  have e1 : (l.getD k (0, 0)).1 = ((U.pa (l.getD k (0, 0)) : Nat) : Int) := congrArg Prod.fst h9
  have e2 : (l.getD k (0, 0)).2 = ((U.pb (l.getD k (0, 0)) : Nat) : Int) := congrArg Prod.snd h9
  show [pT _, pA _][j]? = _
  unfold pF pT pA
  rw [e1, e2]
/-! ### the ways -/
def wWK (z : Int) (ol : List OrT) : Nat → Nat
  | 0 => 0
  | k + 1 => if hasZ z k = true ∧ (ol.getD k or0).off = false then wWK z ol k ||| 2 ^ k else wWK z ol k
def wPK (ol : List OrT) : Nat → Nat × Nat
  | 0 => (0, 0)
  | k + 1 => (visL ol (k : Int)).foldl withP (wPK ol k)
def wAK (n : Nat) (be : List (Int × Int)) : Nat → List Nat
  | 0 => List.replicate n 0
  | k + 1 => (wAK n be k).set (U.pb (be.getD k (0, 0))) ((wAK n be k).getD (U.pb (be.getD k (0, 0))) 0 ||| 2 ^ U.pa (be.getD k (0, 0)))
def waysF (z : Int) (ol : List OrT) (be : List (Int × Int)) : WaT := ⟨wWK z ol ol.length, (wPK ol ol.length).1, (wPK ol ol.length).2, wAK ol.length be be.length⟩
theorem wWK_lt (z : Int) (ol : List OrT) : ∀ k, wWK z ol k < 2 ^ k
  | 0 => by unfold wWK; decide
  | k + 1 => by
    have h := wWK_lt z ol k
    have h2 : 2 ^ k < 2 ^ (k + 1) := Nat.pow_lt_pow_right (by omega) (by omega)
    unfold wWK
    split
    · exact Nat.or_lt_two_pow (by omega) h2
    · omega
theorem vis_num (ol : List OrT) (k : Nat) : ∀ v ∈ visL ol (k : Int), v.1 = (k : Int) := by
  intro v hv
  unfold visL at hv
  split at hv
  · unfold visO at hv
    rw [List.mem_append] at hv
    rcases hv with hv | hv <;> split at hv <;> simp_all
  · cases hv
theorem with_lt {n : Nat} {p : Nat × Nat} {v : Int × Bool} (h1 : p.1 < 2 ^ n) (h2 : p.2 < 2 ^ n) (hv : v.1.toNat < n) : (withP p v).1 < 2 ^ n ∧ (withP p v).2 < 2 ^ n := by
  have h3 : 2 ^ v.1.toNat < 2 ^ n := Nat.pow_lt_pow_right (by omega) hv
  unfold withP
  split
  · exact ⟨h1, Nat.or_lt_two_pow h2 h3⟩
  · exact ⟨Nat.or_lt_two_pow h1 h3, h2⟩
theorem fold_lt {n : Nat} : ∀ (l : List (Int × Bool)) (p : Nat × Nat), p.1 < 2 ^ n → p.2 < 2 ^ n → (∀ v ∈ l, v.1.toNat < n) → (l.foldl withP p).1 < 2 ^ n ∧ (l.foldl withP p).2 < 2 ^ n
  | [], _, h1, h2, _ => ⟨h1, h2⟩
  | v :: l, p, h1, h2, h => by
    have h3 := with_lt h1 h2 (h v (List.mem_cons_self ..))
    exact fold_lt l (withP p v) h3.1 h3.2 fun u hu => h u (List.mem_cons_of_mem _ hu)
theorem wPK_lt (ol : List OrT) : ∀ k, (wPK ol k).1 < 2 ^ k ∧ (wPK ol k).2 < 2 ^ k
  | 0 => ⟨by unfold wPK; decide, by unfold wPK; decide⟩
  | k + 1 => by
    have h := wPK_lt ol k
    have h2 : 2 ^ k < 2 ^ (k + 1) := Nat.pow_lt_pow_right (by omega) (by omega)
    unfold wPK
    exact fold_lt _ _ (by omega) (by omega) fun v hv => by rw [vis_num ol k v hv]; simp
theorem wAK_len (n : Nat) (be : List (Int × Int)) : ∀ k, (wAK n be k).length = n
  | 0 => by unfold wAK; simp
  | k + 1 => by unfold wAK; rw [List.length_set]; exact wAK_len n be k
theorem wAK_lt {n : Nat} {be : List (Int × Int)} (hr : U.Rt n be) : ∀ k, k ≤ be.length → ∀ i, i < n → (wAK n be k).getD i 0 < 2 ^ n
  | 0, _, i, hi => by
    unfold wAK
    rw [List.getD_eq_getElem?_getD, List.getElem?_replicate, if_pos hi]
    exact Nat.two_pow_pos n
  | k + 1, h, i, hi => by
    have ih := wAK_lt hr k (by omega)
    have hk := U.getD_rt hr (show k < be.length by omega)
    unfold wAK
    rw [List.getD_eq_getElem?_getD, List.getElem?_set]
    split
    · rw [wAK_len, if_pos (by omega)]
      exact Nat.or_lt_two_pow (ih _ hk.2.1) (Nat.pow_lt_pow_right (by omega) hk.1)
    · rw [← List.getD_eq_getElem?_getD]; exact ih i hi
theorem ways_b {z : Int} {ol : List OrT} {be : List (Int × Int)} (hn : ol.length ≤ 63) (hr : U.Rt ol.length be) : (waysF z ol be).B := by
  have hp : 2 ^ ol.length ≤ 2 ^ 63 := Nat.pow_le_pow_right (by omega) hn
  have h1 := wWK_lt z ol ol.length
  have h2 := wPK_lt ol ol.length
  refine ⟨?_, ?_, ?_, ?_, ?_⟩
  · exact Nat.lt_of_lt_of_le h1 hp
  · exact Nat.lt_of_lt_of_le h2.1 hp
  · exact Nat.lt_of_lt_of_le h2.2 hp
  · show (wAK _ _ _).length ≤ 63; rw [wAK_len]; exact hn
  · intro i hi
    have hi' : i < ol.length := by have := hi; unfold waysF at this; simp only [wAK_len] at this; exact this
    exact Nat.lt_of_lt_of_le (wAK_lt hr be.length (Nat.le_refl _) i hi') hp

end Go.Proofs.Ytoliacfpjhanlaa.T


