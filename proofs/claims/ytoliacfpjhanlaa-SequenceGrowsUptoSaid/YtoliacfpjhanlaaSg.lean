/-
  DERIVED. Sg: a part of the base of layer 13 (made by pack.py).
-/
import Derived.Test.YtoliacfpjhanlaaSe
/-! What can follow: ways.next (by gen_sg.py). -/
namespace Go.Proofs.Ytoliacfpjhanlaa.T
open Go.RowKit
set_option maxRecDepth 8000
attribute [local irreducible] wpList Code.wp wpAnyH

theorem Cb.belowB {w w' : World} {q B : Nat} {cs : Array Value} {t : TypeId} (h : Cb w q cs t) (hq : q < B) (hb : Below B w w') : Cb w' q cs t := (hb.block q hq).trans h
theorem Rw.belowB {w w' : World} {b o sz B : Nat} {E : Nat → List Value} {n : Nat} {oa : Option Addr} (h : Rw w b o sz E n oa) (hq : ∀ k, k < n → b < B) (hb : Below B w w') : Rw w' b o sz E n oa := fun k hk => by
  obtain ⟨h1, h2, h3⟩ := h k hk
  exact ⟨h1, Nat.lt_of_lt_of_le h2 hb.size, fun j v hj => (hb.cell (p := ⟨b, _, none⟩) (hq k hk)).trans (h3 j v hj)⟩
theorem lw_cb {w : World} {q : Nat} {x : Int} {s : Bool} (h : Cb w q #[.int .i64 x, .bool s] 52) : Lw w (.slice (some ⟨q, 0, none⟩) 1 1) [(x, s)] := by
  refine ⟨some ⟨q, 0, none⟩, 1, rfl, ⟨some ⟨q, 0, none⟩, 1, rfl, fun i hi => ⟨q, 0, rfl, h.lt, ?_⟩⟩, fun h => by cases h⟩
  match i, hi with
  | 0, _ => exact ⟨h.cell 0 rfl, h.cell 1 rfl⟩
def nF (l : List Nat) (k : Nat) : List Value := [Value.int .i64 ((l.getD k 0 : Nat) : Int)]
theorem seqHasN_n (m k : Nat) (hk : k ≤ 62) (w : World) : Calls Try.prog 72 #[.int .i64 ((m : Nat) : Int), .int .i64 ((k : Nat) : Int)] w fun e w' => e = .returned (.bool (S.has m k)) ∧ w = w' := by
  rw [has_def]
  exact seqHas_n (m : Int) k hk w
/-! ### what can follow -/
def nxt1 (W und left : Nat) (A : List Nat) (k : Nat) : List (Int × Bool) := if S.has (W &&& left) k = true ∧ A.getD k 0 &&& left = 0 then [((k : Int), !S.has und k)] else []
def nxtK (W und left : Nat) (A : List Nat) : Nat → List (Int × Bool)
  | 0 => []
  | k + 1 => nxtK W und left A k ++ nxt1 W und left A k
theorem nxtK_len (W und left : Nat) (A : List Nat) : ∀ k, (nxtK W und left A k).length ≤ k
  | 0 => Nat.le_refl _
  | k + 1 => by
    unfold nxtK
    rw [List.length_append]
    have := nxtK_len W und left A k
    have h2 : (nxt1 W und left A k).length ≤ 1 := by unfold nxt1; split <;> simp
    omega
/-- the ways: the orders that are wanted, all that is to be done, what is ahead -/
structure WaT where
  W : Nat
  P : Nat
  D : Nat
  A : List Nat
/-- not great -/
structure WaT.B (x : WaT) : Prop where
  w : x.W < 9223372036854775808
  p : x.P < 9223372036854775808
  d : x.D < 9223372036854775808
  l : x.A.length ≤ 63
  a : ∀ i, i < x.A.length → x.A.getD i 0 < 9223372036854775808
def WaT.und (x : WaT) (done : Nat × Nat) : Nat := U.minus x.P done.1
def WaT.left (x : WaT) (done : Nat × Nat) : Nat := x.und done ||| U.minus x.D done.2
def nextW (x : WaT) (done : Nat × Nat) : List (Int × Bool) := nxtK x.W (x.und done) (x.left done) x.A x.A.length
theorem next_n (x : WaT) (hx : x.B) (p : Nat × Nat) (h1 : p.1 < 9223372036854775808) (h2 : p.2 < 9223372036854775808) (oa : Option Addr) (c b o : Nat) (w : World) (hv : Rw w b o 1 (nF x.A) x.A.length oa) : Calls Try.prog 39 #[.agg #[.int .i64 ((x.W : Nat) : Int), .int .i64 ((x.P : Nat) : Int), .int .i64 ((x.D : Nat) : Int), .slice oa x.A.length c], .agg #[.int .i64 ((p.1 : Nat) : Int), .int .i64 ((p.2 : Nat) : Int)]] w (VisP (nextW x p) w) := by
  have HB : Below w.heap.size w w := Below.refl _ _
  obtain ⟨hW, hP, hD, hl, hA⟩ := hx
  have hu : x.und p < 9223372036854775808 := Nat.lt_of_le_of_lt (U.minus_le _ _) hP
  have hm : U.minus x.D p.2 < 9223372036854775808 := Nat.lt_of_le_of_lt (U.minus_le _ _) hD
  have hlf : x.left p < 9223372036854775808 := Nat.or_lt_two_pow (n := 63) hu hm
  refine sx_enter Try.func39 rfl [(0, .agg #[.int .i64 ((x.W : Nat) : Int), .int .i64 ((x.P : Nat) : Int), .int .i64 ((x.D : Nat) : Int), .slice oa x.A.length c]), (1, .agg #[.int .i64 ((p.1 : Nat) : Int), .int .i64 ((p.2 : Nat) : Int)])] (by kernel_rfl) ?_
  refine wp_seq ?_
  refine wp_region_lit ?_
  obtain ⟨W1, hW⟩ : ∃ W, w.alloc (.cells #[.int .i64 ((x.W : Nat) : Int), .int .i64 ((x.P : Nat) : Int), .int .i64 ((x.D : Nat) : Int), .slice oa x.A.length c] 74) = W := ⟨_, rfl⟩
  have hb := hW ▸ below_alloc w (.cells #[.int .i64 ((x.W : Nat) : Int), .int .i64 ((x.P : Nat) : Int), .int .i64 ((x.D : Nat) : Int), .slice oa x.A.length c] 74)
  have hq : Cb W1 w.heap.size #[.int .i64 ((x.W : Nat) : Int), .int .i64 ((x.P : Nat) : Int), .int .i64 ((x.D : Nat) : Int), .slice oa x.A.length c] 74 := hW ▸ Cb.made w #[.int .i64 ((x.W : Nat) : Int), .int .i64 ((x.P : Nat) : Int), .int .i64 ((x.D : Nat) : Int), .slice oa x.A.length c] 74
  refine sx_mem (by kernel_rfl) rfl rfl (.pointer (some ⟨w.heap.size, 0, none⟩)) W1 (by rw [← hW]; kernel_rfl) ?_
  replace HB := over HB hb
  have z1 := hb.size
  have M2 := hq
  have yM2 := hq.lt
  clear hq hb hW
  obtain ⟨W3, hW⟩ : ∃ W, W1.alloc (.cells #[.int .i64 ((p.1 : Nat) : Int), .int .i64 ((p.2 : Nat) : Int)] 72) = W := ⟨_, rfl⟩
  have hb := hW ▸ below_alloc W1 (.cells #[.int .i64 ((p.1 : Nat) : Int), .int .i64 ((p.2 : Nat) : Int)] 72)
  have hq : Cb W3 W1.heap.size #[.int .i64 ((p.1 : Nat) : Int), .int .i64 ((p.2 : Nat) : Int)] 72 := hW ▸ Cb.made W1 #[.int .i64 ((p.1 : Nat) : Int), .int .i64 ((p.2 : Nat) : Int)] 72
  refine sx_mem (by kernel_rfl) rfl rfl (.pointer (some ⟨W1.heap.size, 0, none⟩)) W3 (by rw [← hW]; kernel_rfl) ?_
  replace HB := over HB hb
  replace M2 := M2.below hb
  have z2 := hb.size
  have M4 := hq
  have yM4 := hq.lt
  clear hq hb hW
  refine sx_val (by kernel_rfl) rfl rfl (.slice none 0 0) (by kernel_rfl) ?_
  refine wpList_nil ?_
  refine sx_norm ?_
  refine wp_seq ?_
  refine wp_region_lit ?_
  refine sx_val (by kernel_rfl) rfl rfl (.slice none 0 0) (by kernel_rfl) ?_
  refine wpList_nil ?_
  refine sx_norm ?_
  refine wp_seq ?_
  refine wp_region_lit ?_
  refine sx_val (by kernel_rfl) rfl rfl (.pointer (some ⟨w.heap.size, 1, none⟩)) (by kernel_rfl) ?_
  refine sx_val (by kernel_rfl) rfl rfl (.pointer (some ⟨w.heap.size, 1, none⟩)) (by kernel_rfl) ?_
  refine sx_val (by kernel_rfl) rfl rfl (.int .i64 ((x.P : Nat) : Int)) (ex_load1 rfl (M2.cell 1 rfl) (by kernel_rfl) Try.underlying3 rfl) ?_
  refine sx_val (by kernel_rfl) rfl rfl (.pointer (some ⟨W1.heap.size, 0, none⟩)) (by kernel_rfl) ?_
  refine sx_val (by kernel_rfl) rfl rfl (.int .i64 ((p.1 : Nat) : Int)) (ex_load1 rfl (M4.cell 0 rfl) (by kernel_rfl) Try.underlying3 rfl) ?_
  refine sx_int (by kernel_rfl) rfl rfl .i64 (bits .andNot .i64 ((x.P : Nat) : Int) ((p.1 : Nat) : Int)) (((x.und p : Nat) : Int)) (by kernel_rfl) (i_minus _ _ (by omega) (by omega)) ?_
  refine sx_val (by kernel_rfl) rfl rfl (.int .i64 ((x.und p : Nat) : Int)) (by kernel_rfl) ?_
  refine wpList_nil ?_
  refine sx_norm ?_
  refine wp_seq ?_
  refine wp_region_lit ?_
  refine sx_val (by kernel_rfl) rfl rfl (.int .i64 ((x.und p : Nat) : Int)) (by kernel_rfl) ?_
  refine sx_val (by kernel_rfl) rfl rfl (.pointer (some ⟨w.heap.size, 1, none⟩)) (by kernel_rfl) ?_
  refine sx_val (by kernel_rfl) rfl rfl (.pointer (some ⟨w.heap.size, 2, none⟩)) (by kernel_rfl) ?_
  refine sx_val (by kernel_rfl) rfl rfl (.int .i64 ((x.D : Nat) : Int)) (ex_load1 rfl (M2.cell 2 rfl) (by kernel_rfl) Try.underlying3 rfl) ?_
  refine sx_val (by kernel_rfl) rfl rfl (.pointer (some ⟨W1.heap.size, 1, none⟩)) (by kernel_rfl) ?_
  refine sx_val (by kernel_rfl) rfl rfl (.int .i64 ((p.2 : Nat) : Int)) (ex_load1 rfl (M4.cell 1 rfl) (by kernel_rfl) Try.underlying3 rfl) ?_
  refine sx_int (by kernel_rfl) rfl rfl .i64 (bits .andNot .i64 ((x.D : Nat) : Int) ((p.2 : Nat) : Int)) (((U.minus x.D p.2 : Nat) : Int)) (by kernel_rfl) (i_minus _ _ (by omega) (by omega)) ?_
  refine sx_int (by kernel_rfl) rfl rfl .i64 (bits .or .i64 ((x.und p : Nat) : Int) ((U.minus x.D p.2 : Nat) : Int)) (((x.left p : Nat) : Int)) (by kernel_rfl) (S.i64_or _ _ (by omega) (by omega)) ?_
  refine sx_val (by kernel_rfl) rfl rfl (.int .i64 ((x.left p : Nat) : Int)) (by kernel_rfl) ?_
  refine wpList_nil ?_
  refine sx_norm ?_
  refine wp_seq ?_
  refine wp_seq ?_
  refine wp_region_lit ?_
  refine sx_val (by kernel_rfl) rfl rfl (.pointer (some ⟨w.heap.size, 3, none⟩)) (by kernel_rfl) ?_
  refine sx_val (by kernel_rfl) rfl rfl (.slice oa x.A.length c) (ex_load1 rfl (M2.cell 3 rfl) (by kernel_rfl) Try.underlying64 rfl) ?_
  refine sx_val (by kernel_rfl) rfl rfl (.int .i64 ((x.A.length : Nat) : Int)) (by kernel_rfl) ?_
  refine sx_val (by kernel_rfl) rfl rfl (.int .i64 0) (by kernel_rfl) ?_
  refine wpList_nil ?_
  refine sx_norm ?_
  refine wp_block ?_
  have HG : Gw W3.heap.size W3 (.slice none 0 0) [] := Gw.nil _ _
  refine sx_loop (fun x9 : Nat × Value => [(0, .agg #[.int .i64 ((x.W : Nat) : Int), .int .i64 ((x.P : Nat) : Int), .int .i64 ((x.D : Nat) : Int), .slice oa x.A.length c]), (1, .agg #[.int .i64 ((p.1 : Nat) : Int), .int .i64 ((p.2 : Nat) : Int)]), (2, .pointer (some ⟨w.heap.size, 0, none⟩)), (3, .pointer (some ⟨W1.heap.size, 0, none⟩)), (4, .slice none 0 0), (5, x9.2), (6, .int .i64 ((x.und p : Nat) : Int)), (7, .int .i64 ((x.left p : Nat) : Int)), (10, .pointer (some ⟨w.heap.size, 1, none⟩)), (11, .pointer (some ⟨w.heap.size, 1, none⟩)), (12, .int .i64 ((x.P : Nat) : Int)), (13, .pointer (some ⟨W1.heap.size, 0, none⟩)), (14, .int .i64 ((p.1 : Nat) : Int)), (15, .int .i64 ((x.und p : Nat) : Int)), (16, .int .i64 ((x.und p : Nat) : Int)), (17, .pointer (some ⟨w.heap.size, 1, none⟩)), (18, .pointer (some ⟨w.heap.size, 2, none⟩)), (19, .int .i64 ((x.D : Nat) : Int)), (20, .pointer (some ⟨W1.heap.size, 1, none⟩)), (21, .int .i64 ((p.2 : Nat) : Int)), (22, .int .i64 ((U.minus x.D p.2 : Nat) : Int)), (23, .int .i64 ((x.left p : Nat) : Int)), (24, .pointer (some ⟨w.heap.size, 3, none⟩)), (25, .slice oa x.A.length c), (26, .int .i64 ((x.A.length : Nat) : Int)), (27, .int .i64 ((x9.1 : Nat) : Int))]) (fun gg x9 wr => x9.1 ≤ x.A.length ∧ x.A.length - x9.1 ≤ gg ∧ Gw W3.heap.size wr x9.2 (nxtK x.W (x.und p) (x.left p) x.A x9.1) ∧ Below W3.heap.size W3 wr) (x.A.length) ((0, .slice none 0 0)) (by kernel_rfl) ⟨Nat.zero_le _, Nat.le_refl _, HG, Below.refl _ _⟩ ?_
  rintro gg ⟨j, v5⟩ g' wr ⟨hj, hg, HG, hbl⟩
  dsimp only at hj hg HG hbl
  replace HB := over HB hbl
  replace M2 := M2.below hbl
  replace M4 := M4.below hbl
  have z3 := hbl.size
  have HL := hbl
  clear hbl
  refine wp_seq ?_
  refine wp_region_lit ?_
  by_cases C1 : j < x.A.length
  · refine sx_bool (by kernel_rfl) rfl rfl (decide (((j : Nat) : Int) < ((x.A.length : Nat) : Int))) true (by kernel_rfl) (decide_eq_true (by omega)) ?_
    refine wpList_nil ?_
    refine sx_norm ?_
    refine wp_seq ?_
    refine sx_true (by kernel_rfl) ?_
    refine wp_skip ?_
    refine sx_norm ?_
    refine wp_seq ?_
    refine wp_block ?_
    refine wp_seq ?_
    refine wp_region_lit ?_
    refine sx_val (by kernel_rfl) rfl rfl (.int .i64 ((j : Nat) : Int)) (by kernel_rfl) ?_
    refine sx_val (by kernel_rfl) rfl rfl (.pointer (some ⟨b, o + j * 1, none⟩)) (ex_indexO (q := o) (m := x.A.length) (c := c) (k := j) (s := 1) rfl (by kernel_rfl) ((hv.below HB).oa (k := j) (by omega)) (by kernel_rfl) Try.underlying64 (by kernel_rfl) (by omega) (by omega)) ?_
    refine sx_val (by kernel_rfl) rfl rfl (.int .i64 ((x.A.getD j 0 : Nat) : Int)) (ex_load1 rfl ((hv.below HB).cell (k := j) (by omega) 0 rfl) (by kernel_rfl) Try.underlying3 rfl) ?_
    refine sx_val (by kernel_rfl) rfl rfl (.int .i64 ((j : Nat) : Int)) (by kernel_rfl) ?_
    refine sx_val (by kernel_rfl) rfl rfl (.int .i64 ((x.A.getD j 0 : Nat) : Int)) (by kernel_rfl) ?_
    refine wpList_nil ?_
    refine sx_norm ?_
    refine wp_seq ?_
    refine wp_region_lit ?_
    refine sx_val (by kernel_rfl) rfl rfl (.pointer (some ⟨w.heap.size, 0, none⟩)) (by kernel_rfl) ?_
    refine sx_val (by kernel_rfl) rfl rfl (.int .i64 ((x.W : Nat) : Int)) (ex_load1 rfl (M2.cell 0 rfl) (by kernel_rfl) Try.underlying3 rfl) ?_
    refine sx_val (by kernel_rfl) rfl rfl (.int .i64 ((x.left p : Nat) : Int)) (by kernel_rfl) ?_
    refine sx_int (by kernel_rfl) rfl rfl .i64 (bits .and .i64 ((x.W : Nat) : Int) ((x.left p : Nat) : Int)) (((x.W &&& (x.left p) : Nat) : Int)) (by kernel_rfl) (S.i64_and _ _ (by omega) (by omega)) ?_
    refine sx_val (by kernel_rfl) rfl rfl (.int .i64 ((j : Nat) : Int)) (by kernel_rfl) ?_
    by_cases C2 : S.has (x.W &&& (x.left p)) j = true
    · refine sx_call (by kernel_rfl) rfl rfl ((by have h8 := seqHasN_n (x.W &&& (x.left p)) j (by omega) wr; rw [show S.has (x.W &&& (x.left p)) j = true by simpa using C2] at h8; exact h8)) (by kernel_rfl) ?_
      rintro e w9 ⟨rfl, rfl⟩
      refine ⟨_, rfl, ?_⟩
      refine sx_val (by kernel_rfl) rfl rfl (.bool true) (by kernel_rfl) ?_
      refine sx_val (by kernel_rfl) rfl rfl (.int .i64 ((x.A.getD j 0 : Nat) : Int)) (by kernel_rfl) ?_
      refine sx_val (by kernel_rfl) rfl rfl (.int .i64 ((x.left p : Nat) : Int)) (by kernel_rfl) ?_
      have haj := hA j (by omega)
      refine sx_int (by kernel_rfl) rfl rfl .i64 (bits .and .i64 ((x.A.getD j 0 : Nat) : Int) ((x.left p : Nat) : Int)) ((((x.A.getD j 0) &&& (x.left p) : Nat) : Int)) (by kernel_rfl) (S.i64_and _ _ (by omega) (by omega)) ?_
      by_cases C3 : (x.A.getD j 0) &&& (x.left p) = 0
      · refine sx_bool (by kernel_rfl) rfl rfl (((((x.A.getD j 0) &&& (x.left p) : Nat) : Int) : Int) == (0 : Int)) true (by kernel_rfl) (beq_iff_eq.2 (by omega)) ?_
        refine sx_val (by kernel_rfl) rfl rfl (.bool true) (by kernel_rfl) ?_
        refine wpList_nil ?_
        refine sx_norm ?_
        refine sx_true (by kernel_rfl) ?_
        refine wp_region_lit ?_
        refine sx_val (by kernel_rfl) rfl rfl (v5) (by kernel_rfl) ?_
        refine sx_val (by kernel_rfl) rfl rfl (.int .i64 ((j : Nat) : Int)) (by kernel_rfl) ?_
        refine sx_val (by kernel_rfl) rfl rfl (.int .i64 ((x.und p : Nat) : Int)) (by kernel_rfl) ?_
        refine sx_val (by kernel_rfl) rfl rfl (.int .i64 ((j : Nat) : Int)) (by kernel_rfl) ?_
        refine sx_call (by kernel_rfl) rfl rfl (seqHasN_n (x.und p) j (by omega) wr) (by kernel_rfl) ?_
        rintro e w9 ⟨rfl, rfl⟩
        refine ⟨_, rfl, ?_⟩
        refine sx_val (by kernel_rfl) rfl rfl (.bool (!(S.has (x.und p) j))) (by kernel_rfl) ?_
        refine sx_val (by kernel_rfl) rfl rfl (.agg #[.int .i64 ((j : Nat) : Int), .bool (!(S.has (x.und p) j))]) (by kernel_rfl) ?_
        obtain ⟨W5, hW⟩ : ∃ W, wr.alloc (.cells #[.int .i64 ((j : Nat) : Int), .bool (!(S.has (x.und p) j))] 52) = W := ⟨_, rfl⟩
        have hb := hW ▸ below_alloc wr (.cells #[.int .i64 ((j : Nat) : Int), .bool (!(S.has (x.und p) j))] 52)
        have hq : Cb W5 wr.heap.size #[.int .i64 ((j : Nat) : Int), .bool (!(S.has (x.und p) j))] 52 := hW ▸ Cb.made wr #[.int .i64 ((j : Nat) : Int), .bool (!(S.has (x.und p) j))] 52
        refine sx_mem (by kernel_rfl) rfl rfl (.slice (some ⟨wr.heap.size, 0, none⟩) 1 1) W5 (by rw [← hW]; kernel_rfl) ?_
        replace HB := over HB hb
        replace M2 := M2.below hb
        replace M4 := M4.below hb
        replace HL := over HL hb
        replace HG := HG.frame hb
        have z4 := hb.size
        have M6 := hq
        have yM6 := hq.lt
        clear hq hb hW
        obtain ⟨v7, W8, h9, hg9, hb, -, -⟩ := ap_w 32 HG (lw_cb M6) (by omega) (by have h8 := nxtK_len x.W (x.und p) (x.left p) x.A j; simp only [List.length_cons, List.length_nil]; omega)
        refine sx_mem (by kernel_rfl) rfl rfl v7 W8 (ex_append rfl (by kernel_rfl) (by kernel_rfl) h9) ?_
        replace HB := HB.trans (hb.mono (by omega))
        replace M2 := M2.belowB (by omega) hb
        replace M4 := M4.belowB (by omega) hb
        replace HL := HL.trans (hb.mono (by omega))
        have z5 := hb.size
        replace HG := hg9
        clear hg9 hb h9
        refine sx_val (by kernel_rfl) rfl rfl (v7) (by kernel_rfl) ?_
        refine wpList_nil ?_
        refine sx_in ?_
        refine sx_norm ?_
        refine wp_region_lit ?_
        refine sx_int (by kernel_rfl) rfl rfl .i64 (IntKind.i64.wrap (((j : Nat) : Int) + 1)) (((j + 1 : Nat) : Int)) (by kernel_rfl) (by rw [IntKind.wrap_i64]; omega) ?_
        refine sx_val (by kernel_rfl) rfl rfl (.int .i64 ((j + 1 : Nat) : Int)) (by kernel_rfl) ?_
        refine wpList_nil ?_
        refine sx_norm ?_
        refine sx_again (x.A.length - (j + 1)) (j + 1, v7) (by omega) (by kernel_rfl) ⟨by show j + 1 ≤ _; omega, Nat.le_refl _, ?_, HL⟩
        refine HG.ext ?_
        show _ = nxtK _ _ _ _ (j + 1)
        rw [nxtK]
        unfold nxt1
        rw [if_pos ⟨by assumption, by assumption⟩]
      refine sx_bool (by kernel_rfl) rfl rfl (((((x.A.getD j 0) &&& (x.left p) : Nat) : Int) : Int) == (0 : Int)) false (by kernel_rfl) (beq_eq_false_iff_ne.2 (by omega)) ?_
      refine sx_val (by kernel_rfl) rfl rfl (.bool false) (by kernel_rfl) ?_
      refine wpList_nil ?_
      refine sx_norm ?_
      refine sx_false (by kernel_rfl) ?_
      refine wp_skip ?_
      refine sx_in ?_
      refine sx_norm ?_
      refine wp_region_lit ?_
      refine sx_int (by kernel_rfl) rfl rfl .i64 (IntKind.i64.wrap (((j : Nat) : Int) + 1)) (((j + 1 : Nat) : Int)) (by kernel_rfl) (by rw [IntKind.wrap_i64]; omega) ?_
      refine sx_val (by kernel_rfl) rfl rfl (.int .i64 ((j + 1 : Nat) : Int)) (by kernel_rfl) ?_
      refine wpList_nil ?_
      refine sx_norm ?_
      refine sx_again (x.A.length - (j + 1)) (j + 1, v5) (by omega) (by kernel_rfl) ⟨by show j + 1 ≤ _; omega, Nat.le_refl _, ?_, HL⟩
      refine HG.ext ?_
      show _ = nxtK _ _ _ _ (j + 1)
      rw [nxtK]
      unfold nxt1
      rw [if_neg (by rintro ⟨h8, h9⟩; first | exact absurd h8 (by assumption) | exact absurd h9 (by assumption)), List.append_nil]
    refine sx_call (by kernel_rfl) rfl rfl ((by have h8 := seqHasN_n (x.W &&& (x.left p)) j (by omega) wr; rw [show S.has (x.W &&& (x.left p)) j = false by simpa using C2] at h8; exact h8)) (by kernel_rfl) ?_
    rintro e w9 ⟨rfl, rfl⟩
    refine ⟨_, rfl, ?_⟩
    refine sx_val (by kernel_rfl) rfl rfl (.bool false) (by kernel_rfl) ?_
    refine sx_skip (by kernel_rfl) rfl rfl ?_
    refine sx_skip (by kernel_rfl) rfl rfl ?_
    refine sx_skip (by kernel_rfl) rfl rfl ?_
    refine sx_skip (by kernel_rfl) rfl rfl ?_
    refine sx_val (by kernel_rfl) rfl rfl (.bool false) (by kernel_rfl) ?_
    refine wpList_nil ?_
    refine sx_norm ?_
    refine sx_false (by kernel_rfl) ?_
    refine wp_skip ?_
    refine sx_in ?_
    refine sx_norm ?_
    refine wp_region_lit ?_
    refine sx_int (by kernel_rfl) rfl rfl .i64 (IntKind.i64.wrap (((j : Nat) : Int) + 1)) (((j + 1 : Nat) : Int)) (by kernel_rfl) (by rw [IntKind.wrap_i64]; omega) ?_
    refine sx_val (by kernel_rfl) rfl rfl (.int .i64 ((j + 1 : Nat) : Int)) (by kernel_rfl) ?_
    refine wpList_nil ?_
    refine sx_norm ?_
    refine sx_again (x.A.length - (j + 1)) (j + 1, v5) (by omega) (by kernel_rfl) ⟨by show j + 1 ≤ _; omega, Nat.le_refl _, ?_, HL⟩
    refine HG.ext ?_
    show _ = nxtK _ _ _ _ (j + 1)
    rw [nxtK]
    unfold nxt1
    rw [if_neg (by rintro ⟨h8, h9⟩; first | exact absurd h8 (by assumption) | exact absurd h9 (by assumption)), List.append_nil]
  refine sx_bool (by kernel_rfl) rfl rfl (decide (((j : Nat) : Int) < ((x.A.length : Nat) : Int))) false (by kernel_rfl) (decide_eq_false (by omega)) ?_
  refine wpList_nil ?_
  refine sx_norm ?_
  refine wp_seq ?_
  refine sx_false (by kernel_rfl) ?_
  refine wp_exit ?_
  refine sx_es ?_
  refine sx_es ?_
  refine sx_out ?_
  refine sx_norm ?_
  refine wp_seq ?_
  refine wp_region_lit ?_
  refine sx_val (by kernel_rfl) rfl rfl (v5) (by kernel_rfl) ?_
  refine sx_val (by kernel_rfl) rfl rfl (v5) (by kernel_rfl) ?_
  refine wpList_nil ?_
  refine sx_norm ?_
  refine wp_ret ?_
  have hj9 : j = x.A.length := by omega
  rw [hj9] at HG
  exact sx_ret1 v5 rfl rfl (by kernel_rfl) (visP HG HB (by omega))

end Go.Proofs.Ytoliacfpjhanlaa.T


