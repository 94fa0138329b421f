/-
  DERIVED. Sj: a part of the base of layer 13 (made by pack.py).
-/
import Derived.Test.YtoliacfpjhanlaaSi
/-! The walk of Next (by gen_sj.py). -/
namespace Go.Proofs.Ytoliacfpjhanlaa.T
open Go.RowKit
set_option maxRecDepth 8000
attribute [local irreducible] wpList Code.wp wpAnyH

def stepD (p : Nat × Nat) (v : Int × Bool) : Nat × Nat := if num62 v.1 = true then withP p v else p
def doneL (l : List (Int × Bool)) : Nat × Nat := l.foldl stepD (0, 0)
theorem done_lt : ∀ (l : List (Int × Bool)) (p : Nat × Nat), p.1 < 2 ^ 63 → p.2 < 2 ^ 63 → (l.foldl stepD p).1 < 2 ^ 63 ∧ (l.foldl stepD p).2 < 2 ^ 63
  | [], _, h1, h2 => ⟨h1, h2⟩
  | v :: l, p, h1, h2 => by
    have h3 : (stepD p v).1 < 2 ^ 63 ∧ (stepD p v).2 < 2 ^ 63 := by
      unfold stepD
      split
      · rename_i h
        unfold num62 at h
        rw [Bool.and_eq_true, decide_eq_true_eq, decide_eq_true_eq] at h
        exact with_lt h1 h2 (by omega)
      · exact ⟨h1, h2⟩
    exact done_lt l (stepD p v) h3.1 h3.2
def nextS (z : Int) (ol : List OrT) (be : List (Int × Int)) (l : List (Int × Bool)) : List (Int × Bool) := nextW (waysF z ol be) (doneL l)
theorem nextTop_n (o0 o1 o2 o3 o4 o5 : Option Addr) (n0 n1 n2 n4 c0 c1 c2 c3 c4 c5 : Nat) (ol : List OrT) (be : List (Int × Int)) (hn : ol.length ≤ 10) (hr : U.Rt ol.length be) (hl : be.length ≤ 1000000) (w : World) (hos : Os w (.slice o3 ol.length c3) ol) (hps : Ps w (.slice o5 be.length c5) be) (z : Int) (l : List (Int × Bool)) (ll : l.length ≤ 1000000) (oa : Option Addr) (c b o : Nat) (hv : Rw w b o 2 (vF l) l.length oa) : Calls Try.prog 17 #[.agg #[.slice o0 n0 c0, .slice o1 n1 c1, .slice o2 n2 c2, .slice o3 ol.length c3, .slice o4 n4 c4, .slice o5 be.length c5], .int .i64 z, .slice oa l.length c] w (VisP (nextS z ol be l) w) := by
  have HB : Below w.heap.size w w := Below.refl _ _
  refine sx_enter Try.func17 rfl [(0, .agg #[.slice o0 n0 c0, .slice o1 n1 c1, .slice o2 n2 c2, .slice o3 ol.length c3, .slice o4 n4 c4, .slice o5 be.length c5]), (1, .int .i64 z), (2, .slice oa l.length c)] (by kernel_rfl) ?_
  refine wp_seq ?_
  refine wp_region_lit ?_
  obtain ⟨W1, hW⟩ : ∃ W, w.alloc (.cells #[.slice o0 n0 c0, .slice o1 n1 c1, .slice o2 n2 c2, .slice o3 ol.length c3, .slice o4 n4 c4, .slice o5 be.length c5] 30) = W := ⟨_, rfl⟩
  have hb := hW ▸ below_alloc w (.cells #[.slice o0 n0 c0, .slice o1 n1 c1, .slice o2 n2 c2, .slice o3 ol.length c3, .slice o4 n4 c4, .slice o5 be.length c5] 30)
  have hq : Cb W1 w.heap.size #[.slice o0 n0 c0, .slice o1 n1 c1, .slice o2 n2 c2, .slice o3 ol.length c3, .slice o4 n4 c4, .slice o5 be.length c5] 30 := hW ▸ Cb.made w #[.slice o0 n0 c0, .slice o1 n1 c1, .slice o2 n2 c2, .slice o3 ol.length c3, .slice o4 n4 c4, .slice o5 be.length c5] 30
  refine sx_mem (by kernel_rfl) rfl rfl (.pointer (some ⟨w.heap.size, 0, none⟩)) W1 (by rw [← hW]; kernel_rfl) ?_
  replace HB := over HB hb
  have z1 := hb.size
  have M2 := hq
  have yM2 := hq.lt
  clear hq hb hW
  refine sx_val (by kernel_rfl) rfl rfl (.slice none 0 0) (by kernel_rfl) ?_
  refine wpList_nil ?_
  refine sx_norm ?_
  refine wp_seq ?_
  refine wp_region_lit ?_
  obtain ⟨W3, hW⟩ : ∃ W, W1.alloc (.cells #[.int .i64 0, .int .i64 0] 72) = W := ⟨_, rfl⟩
  have hb := hW ▸ below_alloc W1 (.cells #[.int .i64 0, .int .i64 0] 72)
  have hq : Cb W3 W1.heap.size #[.int .i64 0, .int .i64 0] 72 := hW ▸ Cb.made W1 #[.int .i64 0, .int .i64 0] 72
  refine sx_mem (by kernel_rfl) rfl rfl (.pointer (some ⟨W1.heap.size, 0, none⟩)) W3 (by rw [← hW]; kernel_rfl) ?_
  replace HB := over HB hb
  replace M2 := M2.below hb
  have z2 := hb.size
  have M4 := hq
  have yM4 := hq.lt
  clear hq hb hW
  refine wpList_nil ?_
  refine sx_norm ?_
  refine wp_seq ?_
  refine wp_seq ?_
  refine wp_region_lit ?_
  refine sx_val (by kernel_rfl) rfl rfl (.slice oa l.length c) (by kernel_rfl) ?_
  refine sx_val (by kernel_rfl) rfl rfl (.int .i64 ((l.length : Nat) : Int)) (by kernel_rfl) ?_
  refine sx_val (by kernel_rfl) rfl rfl (.int .i64 0) (by kernel_rfl) ?_
  refine wpList_nil ?_
  refine sx_norm ?_
  refine wp_block ?_
  refine sx_loop (fun x9 : Nat × (Nat × Nat) => [(0, .agg #[.slice o0 n0 c0, .slice o1 n1 c1, .slice o2 n2 c2, .slice o3 ol.length c3, .slice o4 n4 c4, .slice o5 be.length c5]), (1, .int .i64 z), (2, .slice oa l.length c), (3, .pointer (some ⟨w.heap.size, 0, none⟩)), (6, .slice none 0 0), (7, .pointer (some ⟨W1.heap.size, 0, none⟩)), (10, .slice oa l.length c), (11, .int .i64 ((l.length : Nat) : Int)), (12, .int .i64 ((x9.1 : Nat) : Int))]) (fun gg x9 wr => x9.1 ≤ l.length ∧ l.length - x9.1 ≤ gg ∧ Cb wr (W1.heap.size) #[.int .i64 ((x9.2.1 : Nat) : Int), .int .i64 ((x9.2.2 : Nat) : Int)] 72 ∧ x9.2 = (l.take x9.1).foldl stepD (0, 0) ∧ Below W1.heap.size W3 wr) (l.length) ((0, (0, 0))) (by kernel_rfl) ⟨Nat.zero_le _, Nat.le_refl _, M4, rfl, Below.refl _ _⟩ ?_
  rintro gg ⟨j, p⟩ g' wr5 ⟨hj, hg, M4, hp, hbl⟩
  dsimp only at hj hg M4 hp hbl
  replace HB := HB.trans (hbl.mono (by omega))
  replace M2 := M2.belowB (by omega) hbl
  have z3 := hbl.size
  have HL := hbl
  clear hbl
  have hfl := done_lt (l.take j) (0, 0) (by decide) (by decide)
  rw [← hp] at hfl
  refine wp_seq ?_
  refine wp_region_lit ?_
  by_cases C1 : j < l.length
  · refine sx_bool (by kernel_rfl) rfl rfl (decide (((j : Nat) : Int) < ((l.length : Nat) : Int))) true (by kernel_rfl) (decide_eq_true (by omega)) ?_
    refine wpList_nil ?_
    refine sx_norm ?_
    refine wp_seq ?_
    refine sx_true (by kernel_rfl) ?_
    refine wp_skip ?_
    refine sx_norm ?_
    refine wp_seq ?_
    refine wp_block ?_
    refine wp_seq ?_
    refine wp_region_lit ?_
    refine sx_val (by kernel_rfl) rfl rfl (.pointer (some ⟨b, o + j * 2, none⟩)) (ex_indexO (q := o) (m := l.length) (c := c) (k := j) (s := 2) rfl (by kernel_rfl) ((hv.below HB).oa (k := j) (by omega)) (by kernel_rfl) Try.underlying32 (by kernel_rfl) (by omega) (by omega)) ?_
    refine sx_val (by kernel_rfl) rfl rfl (.agg #[.int .i64 ((l.getD j (0, false)).1), .bool (l.getD j (0, false)).2]) (ex_loadR rfl ((hv.below HB).range (k := j) (by omega)) (by kernel_rfl) Try.underlying52 rfl (by kernel_rfl)) ?_
    obtain ⟨W7, hW⟩ : ∃ W, (wr5.alloc (.cells #[.int .i64 0, .bool false] 52)).setRow wr5.heap.size #[.int .i64 ((l.getD j (0, false)).1), .bool (l.getD j (0, false)).2] = W := ⟨_, rfl⟩
    have hb := hW ▸ below_var wr5 (.cells #[.int .i64 0, .bool false] 52) #[.int .i64 ((l.getD j (0, false)).1), .bool (l.getD j (0, false)).2]
    have hq : Cb W7 wr5.heap.size #[.int .i64 ((l.getD j (0, false)).1), .bool (l.getD j (0, false)).2] 52 := hW ▸ Cb.row (Cb.made wr5 #[.int .i64 0, .bool false] 52) _
    refine sx_mem (by kernel_rfl) rfl rfl (.pointer (some ⟨wr5.heap.size, 0, none⟩)) (wr5.alloc (.cells #[.int .i64 0, .bool false] 52)) (by kernel_rfl) ?_
    refine sx_store (cells := #[.int .i64 ((l.getD j (0, false)).1), .bool (l.getD j (0, false)).2]) (by kernel_rfl) rfl rfl (Cb.made wr5 #[.int .i64 0, .bool false] 52) (by kernel_rfl) (by kernel_rfl) (by kernel_rfl) (by kernel_rfl) (by kernel_rfl) ?_
    rw [hW]
    replace HB := over HB hb
    replace M2 := M2.below hb
    replace HL := HL.trans (hb.mono (by omega))
    replace M4 := M4.below hb
    have z4 := hb.size
    have M6 := hq
    have yM6 := hq.lt
    clear hq hb hW
    refine wpList_nil ?_
    refine sx_norm ?_
    refine wp_seq ?_
    refine wp_region_lit ?_
    refine sx_val (by kernel_rfl) rfl rfl (.pointer (some ⟨wr5.heap.size, 0, none⟩)) (by kernel_rfl) ?_
    refine sx_val (by kernel_rfl) rfl rfl (.int .i64 ((l.getD j (0, false)).1)) (ex_load1 rfl (M6.cell 0 rfl) (by kernel_rfl) Try.underlying3 rfl) ?_
    by_cases C2 : num62 ((l.getD j (0, false)).1) = true
    · refine sx_call (by kernel_rfl) rfl rfl ((by have h8 := isNumber_n ((l.getD j (0, false)).1) W7; rw [show num62 ((l.getD j (0, false)).1) = true by simpa using C2] at h8; exact h8)) (by kernel_rfl) ?_
      rintro e w9 ⟨rfl, rfl⟩
      refine ⟨_, rfl, ?_⟩
      refine wpList_nil ?_
      refine sx_norm ?_
      refine sx_true (by kernel_rfl) ?_
      refine wp_region_lit ?_
      refine sx_val (by kernel_rfl) rfl rfl (.agg #[.int .i64 ((p.1 : Nat) : Int), .int .i64 ((p.2 : Nat) : Int)]) (ex_load rfl M4 (by kernel_rfl) Try.underlying72 rfl (by kernel_rfl)) ?_
      refine sx_val (by kernel_rfl) rfl rfl (.agg #[.int .i64 ((l.getD j (0, false)).1), .bool (l.getD j (0, false)).2]) (ex_load rfl M6 (by kernel_rfl) Try.underlying52 rfl (by kernel_rfl)) ?_
      refine sx_call (by kernel_rfl) rfl rfl (with_n p (l.getD j (0, false)) hfl.1 hfl.2 C2 W7) (by kernel_rfl) ?_
      rintro e W8 ⟨rfl, hb⟩
      replace HB := over HB hb
      replace M2 := M2.below hb
      replace HL := HL.trans (hb.mono (by omega))
      replace M4 := M4.below hb
      replace M6 := M6.below hb
      have z5 := hb.size
      clear hb
      refine ⟨_, rfl, ?_⟩
      refine sx_store (cells := #[.int .i64 (((withP p (l.getD j (0, false))).1 : Nat) : Int), .int .i64 (((withP p (l.getD j (0, false))).2 : Nat) : Int)]) (by kernel_rfl) rfl rfl M4 (by kernel_rfl) (by kernel_rfl) (by kernel_rfl) (by kernel_rfl) (by kernel_rfl) ?_
      obtain ⟨W9, hW⟩ : ∃ W, W8.setRow (W1.heap.size) #[.int .i64 (((withP p (l.getD j (0, false))).1 : Nat) : Int), .int .i64 (((withP p (l.getD j (0, false))).2 : Nat) : Int)] = W := ⟨_, rfl⟩
      have hg : W8.grownBy W9 (some (W1.heap.size)) := hW ▸ grown_row _ _ _
      have hq : Cb W9 (W1.heap.size) #[.int .i64 (((withP p (l.getD j (0, false))).1 : Nat) : Int), .int .i64 (((withP p (l.getD j (0, false))).2 : Nat) : Int)] 72 := hW ▸ Cb.row M4 _
      rw [hW]
      replace HB := HB.grown hg (by omega) (fun x e => by simp only [Option.some.injEq] at e; omega)
      replace M2 := M2.kept hg (by omega)
      replace HL := HL.grown hg (by omega) (fun x e => by simp only [Option.some.injEq] at e; omega)
      replace M6 := M6.kept hg (by omega)
      have z6 := hg.size
      replace M4 := hq
      clear hq hg hW
      refine wpList_nil ?_
      refine sx_in ?_
      refine sx_norm ?_
      refine wp_region_lit ?_
      refine sx_int (by kernel_rfl) rfl rfl .i64 (IntKind.i64.wrap (((j : Nat) : Int) + 1)) (((j + 1 : Nat) : Int)) (by kernel_rfl) (by rw [IntKind.wrap_i64]; omega) ?_
      refine sx_val (by kernel_rfl) rfl rfl (.int .i64 ((j + 1 : Nat) : Int)) (by kernel_rfl) ?_
      refine wpList_nil ?_
      refine sx_norm ?_
      refine sx_again (l.length - (j + 1)) (j + 1, withP p (l.getD j (0, false))) (by omega) (by kernel_rfl) ⟨by show j + 1 ≤ _; omega, Nat.le_refl _, M4, ?_, HL⟩
      show _ = (l.take (j + 1)).foldl stepD (0, 0)
      rw [take_more (d := (0, false)) (by omega), List.foldl_append, ← hp]
      show _ = stepD p (l.getD j (0, false))
      unfold stepD
      rw [if_pos (by assumption)]
    refine sx_call (by kernel_rfl) rfl rfl ((by have h8 := isNumber_n ((l.getD j (0, false)).1) W7; rw [show num62 ((l.getD j (0, false)).1) = false by simpa using C2] at h8; exact h8)) (by kernel_rfl) ?_
    rintro e w9 ⟨rfl, rfl⟩
    refine ⟨_, rfl, ?_⟩
    refine wpList_nil ?_
    refine sx_norm ?_
    refine sx_false (by kernel_rfl) ?_
    refine wp_skip ?_
    refine sx_in ?_
    refine sx_norm ?_
    refine wp_region_lit ?_
    refine sx_int (by kernel_rfl) rfl rfl .i64 (IntKind.i64.wrap (((j : Nat) : Int) + 1)) (((j + 1 : Nat) : Int)) (by kernel_rfl) (by rw [IntKind.wrap_i64]; omega) ?_
    refine sx_val (by kernel_rfl) rfl rfl (.int .i64 ((j + 1 : Nat) : Int)) (by kernel_rfl) ?_
    refine wpList_nil ?_
    refine sx_norm ?_
    refine sx_again (l.length - (j + 1)) (j + 1, p) (by omega) (by kernel_rfl) ⟨by show j + 1 ≤ _; omega, Nat.le_refl _, M4, ?_, HL⟩
    show _ = (l.take (j + 1)).foldl stepD (0, 0)
    rw [take_more (d := (0, false)) (by omega), List.foldl_append, ← hp]
    show _ = stepD p (l.getD j (0, false))
    unfold stepD
    rw [if_neg (by assumption)]
  refine sx_bool (by kernel_rfl) rfl rfl (decide (((j : Nat) : Int) < ((l.length : Nat) : Int))) false (by kernel_rfl) (decide_eq_false (by omega)) ?_
  refine wpList_nil ?_
  refine sx_norm ?_
  refine wp_seq ?_
  refine sx_false (by kernel_rfl) ?_
  refine wp_exit ?_
  refine sx_es ?_
  refine sx_es ?_
  refine sx_out ?_
  refine sx_norm ?_
  refine wp_seq ?_
  have hpd : p = doneL l := by rw [hp, List.take_of_length_le (by omega)]; rfl
  have hd := hfl
  rw [hpd] at M4 hd
  obtain ⟨Y10, hW⟩ : ∃ W, wr5.drew = W := ⟨_, rfl⟩
  have hb : Below wr5.heap.size wr5 Y10 := hW ▸ below_drew (Below.refl _ _)
  replace HB := over HB hb
  replace M2 := M2.below hb
  replace HL := HL.trans (hb.mono (by omega))
  replace M4 := M4.below hb
  have z4 := hb.size
  clear hb
  refine sd_begin (fun W => Cb W (w.heap.size) #[.slice o0 n0 c0, .slice o1 n1 c1, .slice o2 n2 c2, .slice o3 ol.length c3, .slice o4 n4 c4, .slice o5 be.length c5] 30 ∧ Cb W (W1.heap.size) #[.int .i64 (((doneL l).1 : Nat) : Int), .int .i64 (((doneL l).2 : Nat) : Int)] 72 ∧ True) (by kernel_rfl) (by rw [hW]; exact ⟨M2, M4, trivial⟩) ?_
  rw [hW]
  clear hW
  refine sd_take 0 rfl (by kernel_rfl) (by kernel_rfl) (by kernel_rfl) (by kernel_rfl) rfl rfl (.agg #[.slice o0 n0 c0, .slice o1 n1 c1, .slice o2 n2 c2, .slice o3 ol.length c3, .slice o4 n4 c4, .slice o5 be.length c5]) (fun w9 h9 => ex_load rfl h9.1 (by kernel_rfl) Try.underlying30 rfl (by kernel_rfl)) (fun _ _ _ h => h) ⟨M2, M4, trivial⟩ ?_
  refine sd_take 1 rfl (by kernel_rfl) (by kernel_rfl) (by kernel_rfl) (by kernel_rfl) rfl rfl (.int .i64 z) (fun w9 _ => by kernel_rfl) (fun _ _ _ h => h) ⟨M2, M4, trivial⟩ ?_
  refine sd_take 3 rfl (by kernel_rfl) (by kernel_rfl) (by kernel_rfl) (by kernel_rfl) rfl rfl (.agg #[.int .i64 (((doneL l).1 : Nat) : Int), .int .i64 (((doneL l).2 : Nat) : Int)]) (fun w9 h9 => ex_load rfl h9.2.1 (by kernel_rfl) Try.underlying72 rfl (by kernel_rfl)) (fun _ _ _ h => h) ⟨M2, M4, trivial⟩ ?_
  refine sd_all [2] (by kernel_rfl) (by decide) ?_
  refine sd_call (i := 2) rfl (by kernel_rfl) rfl rfl (waysOf_n o0 o1 o2 o3 o4 o5 n0 n1 n2 n4 c0 c1 c2 c3 c4 c5 ol be hn hr hl Y10 (hos.below HB) (hps.below HB) z) (by kernel_rfl) ?_ AllReadyH.nil
  rintro e W11 ⟨oa8, c8, b8, q8, rfl, hA8, hb⟩
  replace HB := over HB hb
  replace M2 := M2.below hb
  replace HL := HL.trans (hb.mono (by omega))
  replace M4 := M4.below hb
  have z5 := hb.size
  clear hb
  refine ⟨_, rfl, ⟨M2, M4, trivial⟩, ?_⟩
  refine sd_all [4] (by kernel_rfl) (by decide) ?_
  refine sd_call (i := 4) rfl (by kernel_rfl) rfl rfl (next_n (waysF z ol be) (ways_b (by omega) hr) (doneL l) hd.1 hd.2 oa8 c8 b8 q8 W11 hA8) (by kernel_rfl) ?_ AllReadyH.nil
  rintro e W12 ⟨oan, cn, rfl, ⟨hvn, hgn, hnn⟩, hb⟩
  replace HB := over HB hb
  replace M2 := M2.below hb
  replace HL := HL.trans (hb.mono (by omega))
  replace M4 := M4.below hb
  have z6 := hb.size
  have hzn : w.heap.size ≤ W11.heap.size := by omega
  clear hb
  refine ⟨_, rfl, ⟨M2, M4, trivial⟩, ?_⟩
  refine sd_take 5 rfl (by kernel_rfl) (by kernel_rfl) (by kernel_rfl) (by kernel_rfl) rfl rfl (.slice oan (nextS z ol be l).length cn) (fun w9 _ => by kernel_rfl) (fun _ _ _ h => h) ⟨M2, M4, trivial⟩ ?_
  refine sd_done (by kernel_rfl) ?_
  refine sx_norm ?_
  refine wp_ret ?_
  exact sx_ret1 (.slice oan (nextS z ol be l).length cn) rfl rfl (by kernel_rfl) ⟨oan, cn, rfl, ⟨hvn, Gn.mono hgn hzn, hnn⟩, HB⟩

end Go.Proofs.Ytoliacfpjhanlaa.T


