/-
  DERIVED. GD: a part of the base of layer 13 (made by pack.py).
-/
import Derived.Test.YtoliacfpjhanlaaSi
import Derived.Test.YtoliacfpjhanlaaGC
/-! The walk of Next (by gen_sj.py). -/
namespace Go.Proofs.Ytoliacfpjhanlaa.T
open Go.RowKit
set_option maxRecDepth 8000
attribute [local irreducible] wpList Code.wp wpAnyH

def stepD (p : Nat × Nat) (v : Int × Bool) : Nat × Nat := if num62 v.1 = true then withP p v else p
def doneL (l : List (Int × Bool)) : Nat × Nat := l.foldl stepD (0, 0)
theorem done_lt : ∀ (l : List (Int × Bool)) (p : Nat × Nat), p.1 < 2 ^ 63 → p.2 < 2 ^ 63 → (l.foldl stepD p).1 < 2 ^ 63 ∧ (l.foldl stepD p).2 < 2 ^ 63
  | [], _, h1, h2 => ⟨h1, h2⟩
  | v :: l, p, h1, h2 => by
    have h3 : (stepD p v).1 < 2 ^ 63 ∧ (stepD p v).2 < 2 ^ 63 := by
      unfold stepD
      split
      · rename_i h
        unfold num62 at h
        rw [Bool.and_eq_true, decide_eq_true_eq, decide_eq_true_eq] at h
        exact with_lt h1 h2 (by omega)
      · exact ⟨h1, h2⟩
    exact done_lt l (stepD p v) h3.1 h3.2
def nextS (z : Int) (ol : List OrT) (be : List (Int × Int)) (l : List (Int × Bool)) : List (Int × Bool) := nextW (waysF z ol be) (doneL l)
theorem nextTop_n (o0 o1 o2 o3 o4 o5 : Option Addr) (n0 n1 n2 n4 c0 c1 c2 c3 c4 c5 : Nat) (ol : List OrT) (be : List (Int × Int)) (hn : ol.length ≤ 10) (hr : U.Rt ol.length be) (hl : be.length ≤ 1000000) (w : World) (hos : Os w (.slice o3 ol.length c3) ol) (hps : Ps w (.slice o5 be.length c5) be) (z : Int) (l : List (Int × Bool)) (ll : l.length ≤ 1000000) (oa : Option Addr) (c b o : Nat) (hv : Rw w b o 2 (vF l) l.length oa) : Calls Try.prog 17 #[.agg #[.slice o0 n0 c0, .slice o1 n1 c1, .slice o2 n2 c2, .slice o3 ol.length c3, .slice o4 n4 c4, .slice o5 be.length c5], .int .i64 z, .slice oa l.length c] w (VisP (nextS z ol be l) w) := by
  have HB : Below w.heap.size w w := Below.refl _ _
  refine sx_enter Try.func17 rfl [(0, .agg #[.slice o0 n0 c0, .slice o1 n1 c1, .slice o2 n2 c2, .slice o3 ol.length c3, .slice o4 n4 c4, .slice o5 be.length c5]), (1, .int .i64 z), (2, .slice oa l.length c)] (by kernel_rfl) ?_
  refine wp_seq ?_
  refine wp_region_lit ?_
  obtain ⟨W1, hW⟩ : ∃ W, w.alloc (.cells #[.slice o0 n0 c0, .slice o1 n1 c1, .slice o2 n2 c2, .slice o3 ol.length c3, .slice o4 n4 c4, .slice o5 be.length c5] 30) = W := ⟨_, rfl⟩
  have hb := hW ▸ below_alloc w (.cells #[.slice o0 n0 c0, .slice o1 n1 c1, .slice o2 n2 c2, .slice o3 ol.length c3, .slice o4 n4 c4, .slice o5 be.length c5] 30)
  have hq : Cb W1 w.heap.size #[.slice o0 n0 c0, .slice o1 n1 c1, .slice o2 n2 c2, .slice o3 ol.length c3, .slice o4 n4 c4, .slice o5 be.length c5] 30 := hW ▸ Cb.made w #[.slice o0 n0 c0, .slice o1 n1 c1, .slice o2 n2 c2, .slice o3 ol.length c3, .slice o4 n4 c4, .slice o5 be.length c5] 30
  refine sx_mem (by kernel_rfl) rfl rfl (.pointer (some ⟨w.heap.size, 0, none⟩)) W1 (by rw [← hW]; kernel_rfl) ?_
  replace HB := over HB hb
  have z1 := hb.size
  have M2 := hq
  have yM2 := hq.lt
  clear hq hb hW
  refine sx_val (by kernel_rfl) rfl rfl (.slice none 0 0) (by kernel_rfl) ?_
  refine wpList_nil ?_
  refine sx_norm ?_
  refine wp_seq ?_
  refine wp_region_lit ?_
  obtain ⟨W3, hW⟩ : ∃ W, W1.alloc (.cells #[.int .i64 0, .int .i64 0] 72) = W := ⟨_, rfl⟩
  have hb := hW ▸ below_alloc W1 (.cells #[.int .i64 0, .int .i64 0] 72)
  have hq : Cb W3 W1.heap.size #[.int .i64 0, .int .i64 0] 72 := hW ▸ Cb.made W1 #[.int .i64 0, .int .i64 0] 72
  refine sx_mem (by kernel_rfl) rfl rfl (.pointer (some ⟨W1.heap.size, 0, none⟩)) W3 (by rw [← hW]; kernel_rfl) ?_
  replace HB := over HB hb
  replace M2 := M2.below hb
  have z2 := hb.size
  have M4 := hq
  have yM4 := hq.lt
  clear hq hb hW
  refine wpList_nil ?_
  refine sx_norm ?_
  refine wp_seq ?_
  refine wp_seq ?_
  refine wp_region_lit ?_
  refine sx_val (by kernel_rfl) rfl rfl (.slice oa l.length c) (by kernel_rfl) ?_
  refine sx_val (by kernel_rfl) rfl rfl (.int .i64 ((l.length : Nat) : Int)) (by kernel_rfl) ?_
  refine sx_val (by kernel_rfl) rfl rfl (.int .i64 0) (by kernel_rfl) ?_
  refine wpList_nil ?_
  refine sx_norm ?_
  refine wp_block ?_
  refine sx_loop (fun x9 : Nat × (Nat × Nat) => [(0, .agg #[.slice o0 n0 c0, .slice o1 n1 c1, .slice o2 n2 c2, .slice o3 ol.length c3, .slice o4 n4 c4, .slice o5 be.length c5]), (1, .int .i64 z), (2, .slice oa l.length c), (3, .pointer (some ⟨w.heap.size, 0, none⟩)), (6, .slice none 0 0), (7, .pointer (some ⟨W1.heap.size, 0, none⟩)), (10, .slice oa l.length c), (11, .int .i64 ((l.length : Nat) : Int)), (12, .int .i64 ((x9.1 : Nat) : Int))]) (fun gg x9 wr => x9.1 ≤ l.length ∧ l.length - x9.1 ≤ gg ∧ Cb wr (W1.heap.size) #[.int .i64 ((x9.2.1 : Nat) : Int), .int .i64 ((x9.2.2 : Nat) : Int)] 72 ∧ x9.2 = (l.take x9.1).foldl stepD (0, 0) ∧ Below W1.heap.size W3 wr) (l.length) ((0, (0, 0))) (by kernel_rfl) ⟨Nat.zero_le _, Nat.le_refl _, M4, rfl, Below.refl _ _⟩ ?_
  rintro gg ⟨j, p⟩ g' wr5 ⟨hj, hg, M4, hp, hbl⟩
  dsimp only at hj hg M4 hp hbl
  replace HB := HB.trans (hbl.mono (by omega))
  replace M2 := M2.belowB (by omega) hbl
  have z3 := hbl.size
  have HL := hbl
  clear hbl
  have hfl := done_lt (l.take j) (0, 0) (by decide) (by decide)
  rw [← hp] at hfl
  refine wp_seq ?_
  refine wp_region_lit ?_
  by_cases C1 : j < l.length
  · refine sx_bool (by kernel_rfl) rfl rfl (decide (((j : Nat) : Int) < ((l.length : Nat) : Int))) true (by kernel_rfl) (decide_eq_true (by omega)) ?_
    refine wpList_nil ?_
    refine sx_norm ?_
    refine wp_seq ?_
    refine sx_true (by kernel_rfl) ?_
    refine wp_skip ?_
    refine sx_norm ?_
    refine wp_seq ?_
    refine wp_block ?_
    refine wp_seq ?_
    refine wp_region_lit ?_
    refine sx_val (by kernel_rfl) rfl rfl (.pointer (some ⟨b, o + j * 2, none⟩)) (ex_indexO (q := o) (m := l.length) (c := c) (k := j) (s := 2) rfl (by kernel_rfl) ((hv.below HB).oa (k := j) (by omega)) (by kernel_rfl) Try.underlying32 (by kernel_rfl) (by omega) (by omega)) ?_
    refine sx_val (by kernel_rfl) rfl rfl (.agg #[.int .i64 ((l.getD j (0, false)).1), .bool (l.getD j (0, false)).2]) (ex_loadR rfl ((hv.below HB).range (k := j) (by omega)) (by kernel_rfl) Try.underlying52 rfl (by kernel_rfl)) ?_
    obtain ⟨W7, hW⟩ : ∃ W, (wr5.alloc (.cells #[.int .i64 0, .bool false] 52)).setRow wr5.heap.size #[.int .i64 ((l.getD j (0, false)).1), .bool (l.getD j (0, false)).2] = W := ⟨_, rfl⟩
    have hb := hW ▸ below_var wr5 (.cells #[.int .i64 0, .bool false] 52) #[.int .i64 ((l.getD j (0, false)).1), .bool (l.getD j (0, false)).2]
    have hq : Cb W7 wr5.heap.size #[.int .i64 ((l.getD j (0, false)).1), .bool (l.getD j (0, false)).2] 52 := hW ▸ Cb.row (Cb.made wr5 #[.int .i64 0, .bool false] 52) _
    refine sx_mem (by kernel_rfl) rfl rfl (.pointer (some ⟨wr5.heap.size, 0, none⟩)) (wr5.alloc (.cells #[.int .i64 0, .bool false] 52)) (by kernel_rfl) ?_
    refine sx_store (cells := #[.int .i64 ((l.getD j (0, false)).1), .bool (l.getD j (0, false)).2]) (by kernel_rfl) rfl rfl (Cb.made wr5 #[.int .i64 0, .bool false] 52) (by kernel_rfl) (by kernel_rfl) (by kernel_rfl) (by kernel_rfl) (by kernel_rfl) ?_
    rw [hW]
    replace HB := over HB hb
    replace M2 := M2.below hb
    replace HL := HL.trans (hb.mono (by omega))
    replace M4 := M4.below hb
    have z4 := hb.size
    have M6 := hq
    have yM6 := hq.lt
    clear hq hb hW
    refine wpList_nil ?_
    refine sx_norm ?_
    refine wp_seq ?_
    refine wp_region_lit ?_
    refine sx_val (by kernel_rfl) rfl rfl (.pointer (some ⟨wr5.heap.size, 0, none⟩)) (by kernel_rfl) ?_
    refine sx_val (by kernel_rfl) rfl rfl (.int .i64 ((l.getD j (0, false)).1)) (ex_load1 rfl (M6.cell 0 rfl) (by kernel_rfl) Try.underlying3 rfl) ?_
    by_cases C2 : num62 ((l.getD j (0, false)).1) = true
    · refine sx_call (by kernel_rfl) rfl rfl ((by have h8 := isNumber_n ((l.getD j (0, false)).1) W7; rw [show num62 ((l.getD j (0, false)).1) = true by simpa using C2] at h8; exact h8)) (by kernel_rfl) ?_
      rintro e w9 ⟨rfl, rfl⟩
      refine ⟨_, rfl, ?_⟩
      refine wpList_nil ?_
      refine sx_norm ?_
      refine sx_true (by kernel_rfl) ?_
      refine wp_region_lit ?_
      refine sx_val (by kernel_rfl) rfl rfl (.agg #[.int .i64 ((p.1 : Nat) : Int), .int .i64 ((p.2 : Nat) : Int)]) (ex_load rfl M4 (by kernel_rfl) Try.underlying72 rfl (by kernel_rfl)) ?_
      refine sx_val (by kernel_rfl) rfl rfl (.agg #[.int .i64 ((l.getD j (0, false)).1), .bool (l.getD j (0, false)).2]) (ex_load rfl M6 (by kernel_rfl) Try.underlying52 rfl (by kernel_rfl)) ?_
      refine sx_call (by kernel_rfl) rfl rfl (with_n p (l.getD j (0, false)) hfl.1 hfl.2 C2 W7) (by kernel_rfl) ?_
      rintro e W8 ⟨rfl, hb⟩
      replace HB := over HB hb
      replace M2 := M2.below hb
      replace HL := HL.trans (hb.mono (by omega))
      replace M4 := M4.below hb
      replace M6 := M6.below hb
      have z5 := hb.size
      clear hb
      refine ⟨_, rfl, ?_⟩
      refine sx_store (cells := #[.int .i64 (((withP p (l.getD j (0, false))).1 : Nat) : Int), .int .i64 (((withP p (l.getD j (0, false))).2 : Nat) : Int)]) (by kernel_rfl) rfl rfl M4 (by kernel_rfl) (by kernel_rfl) (by kernel_rfl) (by kernel_rfl) (by kernel_rfl) ?_
      obtain ⟨W9, hW⟩ : ∃ W, W8.setRow (W1.heap.size) #[.int .i64 (((withP p (l.getD j (0, false))).1 : Nat) : Int), .int .i64 (((withP p (l.getD j (0, false))).2 : Nat) : Int)] = W := ⟨_, rfl⟩
      have hg : W8.grownBy W9 (some (W1.heap.size)) := hW ▸ grown_row _ _ _
      have hq : Cb W9 (W1.heap.size) #[.int .i64 (((withP p (l.getD j (0, false))).1 : Nat) : Int), .int .i64 (((withP p (l.getD j (0, false))).2 : Nat) : Int)] 72 := hW ▸ Cb.row M4 _
      rw [hW]
      replace HB := HB.grown hg (by omega) (fun x e => by simp only [Option.some.injEq] at e; omega)
      replace M2 := M2.kept hg (by omega)
      replace HL := HL.grown hg (by omega) (fun x e => by simp only [Option.some.injEq] at e; omega)
      replace M6 := M6.kept hg (by omega)
      have z6 := hg.size
      replace M4 := hq
      clear hq hg hW
      refine wpList_nil ?_
      refine sx_in ?_
      refine sx_norm ?_
      refine wp_region_lit ?_
      refine sx_int (by kernel_rfl) rfl rfl .i64 (IntKind.i64.wrap (((j : Nat) : Int) + 1)) (((j + 1 : Nat) : Int)) (by kernel_rfl) (by rw [IntKind.wrap_i64]; omega) ?_
      refine sx_val (by kernel_rfl) rfl rfl (.int .i64 ((j + 1 : Nat) : Int)) (by kernel_rfl) ?_
      refine wpList_nil ?_
      refine sx_norm ?_
      refine sx_again (l.length - (j + 1)) (j + 1, withP p (l.getD j (0, false))) (by omega) (by kernel_rfl) ⟨by show j + 1 ≤ _; omega, Nat.le_refl _, M4, ?_, HL⟩
      show _ = (l.take (j + 1)).foldl stepD (0, 0)
      rw [take_more (d := (0, false)) (by omega), List.foldl_append, ← hp]
      show _ = stepD p (l.getD j (0, false))
      unfold stepD
      rw [if_pos (by assumption)]
    refine sx_call (by kernel_rfl) rfl rfl ((by have h8 := isNumber_n ((l.getD j (0, false)).1) W7; rw [show num62 ((l.getD j (0, false)).1) = false by simpa using C2] at h8; exact h8)) (by kernel_rfl) ?_
    rintro e w9 ⟨rfl, rfl⟩
    refine ⟨_, rfl, ?_⟩
    refine wpList_nil ?_
    refine sx_norm ?_
    refine sx_false (by kernel_rfl) ?_
    refine wp_skip ?_
    refine sx_in ?_
    refine sx_norm ?_
    refine wp_region_lit ?_
    refine sx_int (by kernel_rfl) rfl rfl .i64 (IntKind.i64.wrap (((j : Nat) : Int) + 1)) (((j + 1 : Nat) : Int)) (by kernel_rfl) (by rw [IntKind.wrap_i64]; omega) ?_
    refine sx_val (by kernel_rfl) rfl rfl (.int .i64 ((j + 1 : Nat) : Int)) (by kernel_rfl) ?_
    refine wpList_nil ?_
    refine sx_norm ?_
    refine sx_again (l.length - (j + 1)) (j + 1, p) (by omega) (by kernel_rfl) ⟨by show j + 1 ≤ _; omega, Nat.le_refl _, M4, ?_, HL⟩
    show _ = (l.take (j + 1)).foldl stepD (0, 0)
    rw [take_more (d := (0, false)) (by omega), List.foldl_append, ← hp]
    show _ = stepD p (l.getD j (0, false))
    unfold stepD
    rw [if_neg (by assumption)]
  refine sx_bool (by kernel_rfl) rfl rfl (decide (((j : Nat) : Int) < ((l.length : Nat) : Int))) false (by kernel_rfl) (decide_eq_false (by omega)) ?_
  refine wpList_nil ?_
  refine sx_norm ?_
  refine wp_seq ?_
  refine sx_false (by kernel_rfl) ?_
  refine wp_exit ?_
  refine sx_es ?_
  refine sx_es ?_
  refine sx_out ?_
  refine sx_norm ?_
  refine wp_seq ?_
  have hpd : p = doneL l := by rw [hp, List.take_of_length_le (by omega)]; rfl
  have hd := hfl
  rw [hpd] at M4 hd
  obtain ⟨Y10, hW⟩ : ∃ W, wr5.drew = W := ⟨_, rfl⟩
  have hb : Below wr5.heap.size wr5 Y10 := hW ▸ below_drew (Below.refl _ _)
  replace HB := over HB hb
  replace M2 := M2.below hb
  replace HL := HL.trans (hb.mono (by omega))
  replace M4 := M4.below hb
  have z4 := hb.size
  clear hb
  refine sd_begin (fun W => Cb W (w.heap.size) #[.slice o0 n0 c0, .slice o1 n1 c1, .slice o2 n2 c2, .slice o3 ol.length c3, .slice o4 n4 c4, .slice o5 be.length c5] 30 ∧ Cb W (W1.heap.size) #[.int .i64 (((doneL l).1 : Nat) : Int), .int .i64 (((doneL l).2 : Nat) : Int)] 72 ∧ True) (by kernel_rfl) (by rw [hW]; exact ⟨M2, M4, trivial⟩) ?_
  rw [hW]
  clear hW
  refine sd_take 0 rfl (by kernel_rfl) (by kernel_rfl) (by kernel_rfl) (by kernel_rfl) rfl rfl (.agg #[.slice o0 n0 c0, .slice o1 n1 c1, .slice o2 n2 c2, .slice o3 ol.length c3, .slice o4 n4 c4, .slice o5 be.length c5]) (fun w9 h9 => ex_load rfl h9.1 (by kernel_rfl) Try.underlying30 rfl (by kernel_rfl)) (fun _ _ _ h => h) ⟨M2, M4, trivial⟩ ?_
  refine sd_take 1 rfl (by kernel_rfl) (by kernel_rfl) (by kernel_rfl) (by kernel_rfl) rfl rfl (.int .i64 z) (fun w9 _ => by kernel_rfl) (fun _ _ _ h => h) ⟨M2, M4, trivial⟩ ?_
  refine sd_take 3 rfl (by kernel_rfl) (by kernel_rfl) (by kernel_rfl) (by kernel_rfl) rfl rfl (.agg #[.int .i64 (((doneL l).1 : Nat) : Int), .int .i64 (((doneL l).2 : Nat) : Int)]) (fun w9 h9 => ex_load rfl h9.2.1 (by kernel_rfl) Try.underlying72 rfl (by kernel_rfl)) (fun _ _ _ h => h) ⟨M2, M4, trivial⟩ ?_
  refine sd_all [2] (by kernel_rfl) (by decide) ?_
  refine sd_call (i := 2) rfl (by kernel_rfl) rfl rfl (waysOf_n o0 o1 o2 o3 o4 o5 n0 n1 n2 n4 c0 c1 c2 c3 c4 c5 ol be hn hr hl Y10 (hos.below HB) (hps.below HB) z) (by kernel_rfl) ?_ AllReadyH.nil
  rintro e W11 ⟨oa8, c8, b8, q8, rfl, hA8, hb⟩
  replace HB := over HB hb
  replace M2 := M2.below hb
  replace HL := HL.trans (hb.mono (by omega))
  replace M4 := M4.below hb
  have z5 := hb.size
  clear hb
  refine ⟨_, rfl, ⟨M2, M4, trivial⟩, ?_⟩
  refine sd_all [4] (by kernel_rfl) (by decide) ?_
  refine sd_call (i := 4) rfl (by kernel_rfl) rfl rfl (next_n (waysF z ol be) (ways_b (by omega) hr) (doneL l) hd.1 hd.2 oa8 c8 b8 q8 W11 hA8) (by kernel_rfl) ?_ AllReadyH.nil
  rintro e W12 ⟨oan, cn, rfl, ⟨hvn, hgn, hnn⟩, hb⟩
  replace HB := over HB hb
  replace M2 := M2.below hb
  replace HL := HL.trans (hb.mono (by omega))
  replace M4 := M4.below hb
  have z6 := hb.size
  have hzn : w.heap.size ≤ W11.heap.size := by omega
  clear hb
  refine ⟨_, rfl, ⟨M2, M4, trivial⟩, ?_⟩
  refine sd_take 5 rfl (by kernel_rfl) (by kernel_rfl) (by kernel_rfl) (by kernel_rfl) rfl rfl (.slice oan (nextS z ol be l).length cn) (fun w9 _ => by kernel_rfl) (fun _ _ _ h => h) ⟨M2, M4, trivial⟩ ?_
  refine sd_done (by kernel_rfl) ?_
  refine sx_norm ?_
  refine wp_ret ?_
  exact sx_ret1 (.slice oan (nextS z ol be l).length cn) rfl rfl (by kernel_rfl) ⟨oan, cn, rfl, ⟨hvn, Gn.mono hgn hzn, hnn⟩, HB⟩

end Go.Proofs.Ytoliacfpjhanlaa.T


/-! The library over visits; whether orders exist, or are cancelled (by gen_sk.py). -/
namespace Go.Proofs.Ytoliacfpjhanlaa.T
open Go.RowKit
set_option maxRecDepth 8000
attribute [local irreducible] wpList Code.wp wpAnyH

theorem any_take {p : Int × Bool → Bool} {l : List (Int × Bool)} {j : Nat} (hj : j < l.length) (h : (l.take j).any p = false) (h2 : p (l.getD j (0, false)) = false) : (l.take (j + 1)).any p = false := by
  rw [take_more (d := (0, false)) hj, List.any_append, h, List.any_cons, List.any_nil, h2]
  rfl
theorem any_some {p : Int × Bool → Bool} {l : List (Int × Bool)} {j : Nat} (hj : j < l.length) (h2 : p (l.getD j (0, false)) = true) : l.any p = true := List.any_eq_true.2 ⟨_, getD_mem hj, h2⟩
theorem any_none {p : Int × Bool → Bool} {l : List (Int × Bool)} {j : Nat} (hj : l.length ≤ j) (h : (l.take j).any p = false) : l.any p = false := by rwa [List.take_of_length_le hj] at h
def isV (x v : Int × Bool) : Bool := x.1 == v.1 && x.2 == v.2
theorem isV_any (x : Int × Bool) (l : List (Int × Bool)) : l.any (isV x) = decide (x ∈ l) := by
  rw [Bool.eq_iff_iff, List.any_eq_true, decide_eq_true_iff]
  constructor
  · rintro ⟨y, hy, h⟩
    unfold isV at h
    rw [Bool.and_eq_true, beq_iff_eq, beq_iff_eq] at h
    rwa [Prod.ext h.1 h.2]
  · exact fun h => ⟨x, h, by unfold isV; simp⟩
def goneV (n : Nat) (v : Int × Bool) : Bool := decide (v.1 < 0) || decide ((n : Int) ≤ v.1)
def offV (ol : List OrT) (v : Int × Bool) : Bool := (ol.getD v.1.toNat or0).off
theorem indexV_n (x : Int × Bool) (l : List (Int × Bool)) (ll : l.length ≤ 1000000) (oa : Option Addr) (c b o : Nat) (w : World) (hv : Rw w b o 2 (vF l) l.length oa) : Calls Try.prog 83 #[.slice oa l.length c, .agg #[.int .i64 x.1, .bool x.2]] w fun e w' => ∃ i, e = .returned (.int .i64 i) ∧ decide (i ≥ 0) = l.any (isV x) ∧ Below w.heap.size w w' := by
  have HB : Below w.heap.size w w := Below.refl _ _
  refine sx_enter Try.func83 rfl [(0, .slice oa l.length c), (1, .agg #[.int .i64 x.1, .bool x.2])] (by kernel_rfl) ?_
  refine wp_seq ?_
  refine wp_region_lit ?_
  obtain ⟨W1, hW⟩ : ∃ W, w.alloc (.cells #[.int .i64 x.1, .bool x.2] 52) = W := ⟨_, rfl⟩
  have hb := hW ▸ below_alloc w (.cells #[.int .i64 x.1, .bool x.2] 52)
  have hq : Cb W1 w.heap.size #[.int .i64 x.1, .bool x.2] 52 := hW ▸ Cb.made w #[.int .i64 x.1, .bool x.2] 52
  refine sx_mem (by kernel_rfl) rfl rfl (.pointer (some ⟨w.heap.size, 0, none⟩)) W1 (by rw [← hW]; kernel_rfl) ?_
  replace HB := over HB hb
  have z1 := hb.size
  have M2 := hq
  have yM2 := hq.lt
  clear hq hb hW
  refine sx_val (by kernel_rfl) rfl rfl (.int .i64 0) (by kernel_rfl) ?_
  refine wpList_nil ?_
  refine sx_norm ?_
  refine wp_seq ?_
  refine wp_seq ?_
  refine wp_region_lit ?_
  refine sx_val (by kernel_rfl) rfl rfl (.slice oa l.length c) (by kernel_rfl) ?_
  refine sx_val (by kernel_rfl) rfl rfl (.int .i64 ((l.length : Nat) : Int)) (by kernel_rfl) ?_
  refine sx_val (by kernel_rfl) rfl rfl (.int .i64 0) (by kernel_rfl) ?_
  refine wpList_nil ?_
  refine sx_norm ?_
  refine wp_block ?_
  refine sx_loop (fun j : Nat => [(0, .slice oa l.length c), (1, .agg #[.int .i64 x.1, .bool x.2]), (3, .pointer (some ⟨w.heap.size, 0, none⟩)), (6, .slice oa l.length c), (7, .int .i64 ((l.length : Nat) : Int)), (8, .int .i64 ((j : Nat) : Int))]) (fun gg j wr => j ≤ l.length ∧ l.length - j ≤ gg ∧ (l.take j).any (isV x) = false ∧ Below W1.heap.size W1 wr) (l.length) (0) (by kernel_rfl) ⟨Nat.zero_le _, Nat.le_refl _, rfl, Below.refl _ _⟩ ?_
  rintro gg j g' wr3 ⟨hj, hg, hI, hbl⟩
  replace HB := over HB hbl
  replace M2 := M2.below hbl
  have z2 := hbl.size
  have HL := hbl
  clear hbl
  refine wp_seq ?_
  refine wp_region_lit ?_
  by_cases C1 : j < l.length
  · refine sx_bool (by kernel_rfl) rfl rfl (decide (((j : Nat) : Int) < ((l.length : Nat) : Int))) true (by kernel_rfl) (decide_eq_true (by omega)) ?_
    refine wpList_nil ?_
    refine sx_norm ?_
    refine wp_seq ?_
    refine sx_true (by kernel_rfl) ?_
    refine wp_skip ?_
    refine sx_norm ?_
    refine wp_seq ?_
    refine wp_block ?_
    refine wp_seq ?_
    refine wp_region_lit ?_
    refine sx_val (by kernel_rfl) rfl rfl (.int .i64 ((j : Nat) : Int)) (by kernel_rfl) ?_
    refine sx_val (by kernel_rfl) rfl rfl (.int .i64 ((j : Nat) : Int)) (by kernel_rfl) ?_
    refine wpList_nil ?_
    refine sx_norm ?_
    refine wp_seq ?_
    obtain ⟨Y4, hW⟩ : ∃ W, wr3.drew = W := ⟨_, rfl⟩
    have hb : Below wr3.heap.size wr3 Y4 := hW ▸ below_drew (Below.refl _ _)
    replace HB := over HB hb
    replace M2 := M2.below hb
    replace HL := over HL hb
    have z3 := hb.size
    clear hb
    refine sd_begin (fun W => Cb W (w.heap.size) #[.int .i64 x.1, .bool x.2] 52 ∧ Rw W b o 2 (vF l) l.length oa ∧ True) (by kernel_rfl) (by rw [hW]; exact ⟨M2, (hv.below HB), trivial⟩) ?_
    rw [hW]
    clear hW
    refine sd_take 0 rfl (by kernel_rfl) (by kernel_rfl) (by kernel_rfl) (by kernel_rfl) rfl rfl (.agg #[.int .i64 x.1, .bool x.2]) (fun w9 h9 => ex_load rfl h9.1 (by kernel_rfl) Try.underlying52 rfl (by kernel_rfl)) (fun _ _ _ h => h) ⟨M2, (hv.below HB), trivial⟩ ?_
    refine sd_take 1 rfl (by kernel_rfl) (by kernel_rfl) (by kernel_rfl) (by kernel_rfl) rfl rfl (.slice oa l.length c) (fun w9 _ => by kernel_rfl) (fun _ _ _ h => h) ⟨M2, (hv.below HB), trivial⟩ ?_
    refine sd_take 2 rfl (by kernel_rfl) (by kernel_rfl) (by kernel_rfl) (by kernel_rfl) rfl rfl (.int .i64 ((j : Nat) : Int)) (fun w9 _ => by kernel_rfl) (fun _ _ _ h => h) ⟨M2, (hv.below HB), trivial⟩ ?_
    refine sd_take 3 rfl (by kernel_rfl) (by kernel_rfl) (by kernel_rfl) (by kernel_rfl) rfl rfl (.pointer (some ⟨b, o + j * 2, none⟩)) (fun w9 h9 => ex_indexO (q := o) (m := l.length) (c := c) (k := j) (s := 2) rfl (by kernel_rfl) (h9.2.1.oa (k := j) (by omega)) (by kernel_rfl) Try.underlying32 (by kernel_rfl) (by omega) (by omega)) (fun _ _ _ h => h) ⟨M2, (hv.below HB), trivial⟩ ?_
    refine sd_take 4 rfl (by kernel_rfl) (by kernel_rfl) (by kernel_rfl) (by kernel_rfl) rfl rfl (.agg #[.int .i64 ((l.getD j (0, false)).1), .bool (l.getD j (0, false)).2]) (fun w9 h9 => ex_loadR rfl (h9.2.1.range (k := j) (by omega)) (by kernel_rfl) Try.underlying52 rfl (by kernel_rfl)) (fun _ _ _ h => h) ⟨M2, (hv.below HB), trivial⟩ ?_
    by_cases C2 : x.1 = (l.getD j (0, false)).1 ∧ x.2 = (l.getD j (0, false)).2
    · refine sd_take 5 rfl (by kernel_rfl) (by kernel_rfl) (by kernel_rfl) (by kernel_rfl) rfl rfl (.bool true) (fun w9 h9 => ex_bool (x.1 == (l.getD j (0, false)).1 && x.2 == (l.getD j (0, false)).2) true (ex_eqlV rfl (by kernel_rfl) (by kernel_rfl)) (by rw [eqv_t C2])) (fun _ _ _ h => h) ⟨M2, (hv.below HB), trivial⟩ ?_
      refine sd_done (by kernel_rfl) ?_
      refine sx_norm ?_
      refine sx_true (by kernel_rfl) ?_
      refine wp_seq ?_
      refine wp_region_lit ?_
      refine sx_val (by kernel_rfl) rfl rfl (.int .i64 ((j : Nat) : Int)) (by kernel_rfl) ?_
      refine sx_val (by kernel_rfl) rfl rfl (.int .i64 ((j : Nat) : Int)) (by kernel_rfl) ?_
      refine wpList_nil ?_
      refine sx_norm ?_
      refine wp_ret ?_
      refine sx_rb ?_
      refine sx_rs ?_
      refine sx_rs ?_
      refine sx_rb ?_
      refine sx_rs ?_
      exact sx_ret1 (.int .i64 ((j : Nat) : Int)) rfl rfl (by kernel_rfl) ⟨_, rfl, by rw [any_some (by omega) (by unfold isV; exact eqv_t C2)]; exact decide_eq_true (by omega), HB⟩
    refine sd_take 5 rfl (by kernel_rfl) (by kernel_rfl) (by kernel_rfl) (by kernel_rfl) rfl rfl (.bool false) (fun w9 h9 => ex_bool (x.1 == (l.getD j (0, false)).1 && x.2 == (l.getD j (0, false)).2) false (ex_eqlV rfl (by kernel_rfl) (by kernel_rfl)) (by rw [eqv_f C2])) (fun _ _ _ h => h) ⟨M2, (hv.below HB), trivial⟩ ?_
    refine sd_done (by kernel_rfl) ?_
    refine sx_norm ?_
    refine sx_false (by kernel_rfl) ?_
    refine wp_skip ?_
    refine sx_in ?_
    refine sx_norm ?_
    refine wp_region_lit ?_
    refine sx_int (by kernel_rfl) rfl rfl .i64 (IntKind.i64.wrap (((j : Nat) : Int) + 1)) (((j + 1 : Nat) : Int)) (by kernel_rfl) (by rw [IntKind.wrap_i64]; omega) ?_
    refine sx_val (by kernel_rfl) rfl rfl (.int .i64 ((j + 1 : Nat) : Int)) (by kernel_rfl) ?_
    refine wpList_nil ?_
    refine sx_norm ?_
    exact sx_again (l.length - (j + 1)) (j + 1) (by omega) (by kernel_rfl) ⟨by omega, Nat.le_refl _, any_take (by omega) hI (by unfold isV; exact eqv_f C2), HL⟩
  refine sx_bool (by kernel_rfl) rfl rfl (decide (((j : Nat) : Int) < ((l.length : Nat) : Int))) false (by kernel_rfl) (decide_eq_false (by omega)) ?_
  refine wpList_nil ?_
  refine sx_norm ?_
  refine wp_seq ?_
  refine sx_false (by kernel_rfl) ?_
  refine wp_exit ?_
  refine sx_es ?_
  refine sx_es ?_
  refine sx_out ?_
  refine sx_norm ?_
  refine wp_seq ?_
  refine wp_region_lit ?_
  refine sx_val (by kernel_rfl) rfl rfl (.int .i64 (-1)) (by kernel_rfl) ?_
  refine wpList_nil ?_
  refine sx_norm ?_
  refine wp_ret ?_
  exact sx_ret1 (.int .i64 (-1)) rfl rfl (by kernel_rfl) ⟨_, rfl, by rw [any_none (by omega) hI]; exact decide_eq_false (by omega), HB⟩
theorem containsV_n (x : Int × Bool) (l : List (Int × Bool)) (ll : l.length ≤ 1000000) (oa : Option Addr) (c b o : Nat) (w : World) (hv : Rw w b o 2 (vF l) l.length oa) : Calls Try.prog 63 #[.slice oa l.length c, .agg #[.int .i64 x.1, .bool x.2]] w fun e w' => e = .returned (.bool (decide (x ∈ l))) ∧ Below w.heap.size w w' := by
  have HB : Below w.heap.size w w := Below.refl _ _
  refine sx_enter Try.func63 rfl [(0, .slice oa l.length c), (1, .agg #[.int .i64 x.1, .bool x.2])] (by kernel_rfl) ?_
  refine wp_seq ?_
  refine wp_region_lit ?_
  obtain ⟨W1, hW⟩ : ∃ W, w.alloc (.cells #[.int .i64 x.1, .bool x.2] 52) = W := ⟨_, rfl⟩
  have hb := hW ▸ below_alloc w (.cells #[.int .i64 x.1, .bool x.2] 52)
  have hq : Cb W1 w.heap.size #[.int .i64 x.1, .bool x.2] 52 := hW ▸ Cb.made w #[.int .i64 x.1, .bool x.2] 52
  refine sx_mem (by kernel_rfl) rfl rfl (.pointer (some ⟨w.heap.size, 0, none⟩)) W1 (by rw [← hW]; kernel_rfl) ?_
  replace HB := over HB hb
  have z1 := hb.size
  have M2 := hq
  have yM2 := hq.lt
  clear hq hb hW
  refine sx_val (by kernel_rfl) rfl rfl (.bool false) (by kernel_rfl) ?_
  refine wpList_nil ?_
  refine sx_norm ?_
  refine wp_seq ?_
  refine wp_region_lit ?_
  refine sx_val (by kernel_rfl) rfl rfl (.slice oa l.length c) (by kernel_rfl) ?_
  refine sx_val (by kernel_rfl) rfl rfl (.agg #[.int .i64 x.1, .bool x.2]) (ex_load rfl M2 (by kernel_rfl) Try.underlying52 rfl (by kernel_rfl)) ?_
  refine sx_call (by kernel_rfl) rfl rfl (indexV_n x l ll oa c b o W1 (hv.below HB)) (by kernel_rfl) ?_
  rintro e W3 ⟨i9, rfl, hi9, hb⟩
  replace HB := over HB hb
  replace M2 := M2.below hb
  have z2 := hb.size
  clear hb
  refine ⟨_, rfl, ?_⟩
  refine sx_val (by kernel_rfl) rfl rfl (.bool (decide (i9 ≥ 0))) (by kernel_rfl) ?_
  refine sx_val (by kernel_rfl) rfl rfl (.bool (decide (i9 ≥ 0))) (by kernel_rfl) ?_
  refine wpList_nil ?_
  refine sx_norm ?_
  refine wp_ret ?_
  exact sx_ret1 (.bool (decide (i9 ≥ 0))) rfl rfl (by kernel_rfl) ⟨ret_bool (hi9.trans (isV_any x l)), HB⟩
theorem gone_n (o3 : Option Addr) (c3 qc : Nat) (ol : List OrT) (v : Int × Bool) (w : World) (hc : Cb w qc #[.slice o3 ol.length c3] 27) : Calls Try.prog 59 #[.agg #[.int .i64 v.1, .bool v.2], .pointer (some ⟨qc, 0, none⟩)] w fun e w' => e = .returned (.bool (goneV ol.length v)) ∧ Below w.heap.size w w' := by
  have HB : Below w.heap.size w w := Below.refl _ _
  refine sx_enter Try.func59 rfl [(0, .agg #[.int .i64 v.1, .bool v.2]), (1, .pointer (some ⟨qc, 0, none⟩))] (by kernel_rfl) ?_
  refine wp_seq ?_
  refine wp_region_lit ?_
  obtain ⟨W1, hW⟩ : ∃ W, w.alloc (.cells #[.int .i64 v.1, .bool v.2] 52) = W := ⟨_, rfl⟩
  have hb := hW ▸ below_alloc w (.cells #[.int .i64 v.1, .bool v.2] 52)
  have hq : Cb W1 w.heap.size #[.int .i64 v.1, .bool v.2] 52 := hW ▸ Cb.made w #[.int .i64 v.1, .bool v.2] 52
  refine sx_mem (by kernel_rfl) rfl rfl (.pointer (some ⟨w.heap.size, 0, none⟩)) W1 (by rw [← hW]; kernel_rfl) ?_
  replace HB := over HB hb
  replace hc := hc.below hb
  have z1 := hb.size
  have M2 := hq
  have yM2 := hq.lt
  clear hq hb hW
  refine sx_val (by kernel_rfl) rfl rfl (.bool false) (by kernel_rfl) ?_
  refine wpList_nil ?_
  refine sx_norm ?_
  refine wp_seq ?_
  refine wp_region_lit ?_
  refine sx_val (by kernel_rfl) rfl rfl (.pointer (some ⟨w.heap.size, 0, none⟩)) (by kernel_rfl) ?_
  refine sx_val (by kernel_rfl) rfl rfl (.int .i64 v.1) (ex_load1 rfl (M2.cell 0 rfl) (by kernel_rfl) Try.underlying3 rfl) ?_
  by_cases C1 : v.1 < 0
  · refine sx_bool (by kernel_rfl) rfl rfl (decide (v.1 < 0)) true (by kernel_rfl) (decide_eq_true (by omega)) ?_
    refine sx_val (by kernel_rfl) rfl rfl (.bool true) (by kernel_rfl) ?_
    refine sx_skip (by kernel_rfl) rfl rfl ?_
    refine sx_skip (by kernel_rfl) rfl rfl ?_
    refine sx_skip (by kernel_rfl) rfl rfl ?_
    refine sx_skip (by kernel_rfl) rfl rfl ?_
    refine sx_skip (by kernel_rfl) rfl rfl ?_
    refine sx_val (by kernel_rfl) rfl rfl (.bool true) (by kernel_rfl) ?_
    refine sx_val (by kernel_rfl) rfl rfl (.bool true) (by kernel_rfl) ?_
    refine wpList_nil ?_
    refine sx_norm ?_
    refine wp_ret ?_
    exact sx_ret1 (.bool true) rfl rfl (by kernel_rfl) ⟨ret_bool (by unfold goneV; simp; try omega), HB⟩
  refine sx_bool (by kernel_rfl) rfl rfl (decide (v.1 < 0)) false (by kernel_rfl) (decide_eq_false (by omega)) ?_
  refine sx_val (by kernel_rfl) rfl rfl (.bool false) (by kernel_rfl) ?_
  refine sx_val (by kernel_rfl) rfl rfl (.pointer (some ⟨w.heap.size, 0, none⟩)) (by kernel_rfl) ?_
  refine sx_val (by kernel_rfl) rfl rfl (.int .i64 v.1) (ex_load1 rfl (M2.cell 0 rfl) (by kernel_rfl) Try.underlying3 rfl) ?_
  refine sx_val (by kernel_rfl) rfl rfl (.slice o3 ol.length c3) (ex_load1 rfl (hc.cell 0 rfl) (by kernel_rfl) Try.underlying27 rfl) ?_
  refine sx_val (by kernel_rfl) rfl rfl (.int .i64 ((ol.length : Nat) : Int)) (by kernel_rfl) ?_
  by_cases C2 : v.1 ≥ ((ol.length : Nat) : Int)
  · refine sx_bool (by kernel_rfl) rfl rfl (decide (v.1 ≥ ((ol.length : Nat) : Int))) true (by kernel_rfl) (decide_eq_true (by omega)) ?_
    refine sx_val (by kernel_rfl) rfl rfl (.bool true) (by kernel_rfl) ?_
    refine sx_val (by kernel_rfl) rfl rfl (.bool true) (by kernel_rfl) ?_
    refine wpList_nil ?_
    refine sx_norm ?_
    refine wp_ret ?_
    exact sx_ret1 (.bool true) rfl rfl (by kernel_rfl) ⟨ret_bool (by unfold goneV; simp; try omega), HB⟩
  refine sx_bool (by kernel_rfl) rfl rfl (decide (v.1 ≥ ((ol.length : Nat) : Int))) false (by kernel_rfl) (decide_eq_false (by omega)) ?_
  refine sx_val (by kernel_rfl) rfl rfl (.bool false) (by kernel_rfl) ?_
  refine sx_val (by kernel_rfl) rfl rfl (.bool false) (by kernel_rfl) ?_
  refine wpList_nil ?_
  refine sx_norm ?_
  refine wp_ret ?_
  exact sx_ret1 (.bool false) rfl rfl (by kernel_rfl) ⟨ret_bool (by unfold goneV; simp; try omega), HB⟩
theorem off_n (o3 : Option Addr) (c3 qc : Nat) (ol : List OrT) (v : Int × Bool) (hv0 : 0 ≤ v.1) (hv1 : v.1 < ol.length) (w : World) (hos : Os w (.slice o3 ol.length c3) ol) (hc : Cb w qc #[.slice o3 ol.length c3] 27) : Calls Try.prog 60 #[.agg #[.int .i64 v.1, .bool v.2], .pointer (some ⟨qc, 0, none⟩)] w fun e w' => e = .returned (.bool (offV ol v)) ∧ Below w.heap.size w w' := by
  have HB : Below w.heap.size w w := Below.refl _ _
  obtain ⟨b3, q3, vc, hr16⟩ := hos.rw
  obtain ⟨k, hk⟩ := Int.eq_ofNat_of_zero_le hv0
  have hkn : k < ol.length := by omega
  refine sx_enter Try.func60 rfl [(0, .agg #[.int .i64 v.1, .bool v.2]), (1, .pointer (some ⟨qc, 0, none⟩))] (by kernel_rfl) ?_
  refine wp_seq ?_
  refine wp_region_lit ?_
  obtain ⟨W1, hW⟩ : ∃ W, w.alloc (.cells #[.int .i64 v.1, .bool v.2] 52) = W := ⟨_, rfl⟩
  have hb := hW ▸ below_alloc w (.cells #[.int .i64 v.1, .bool v.2] 52)
  have hq : Cb W1 w.heap.size #[.int .i64 v.1, .bool v.2] 52 := hW ▸ Cb.made w #[.int .i64 v.1, .bool v.2] 52
  refine sx_mem (by kernel_rfl) rfl rfl (.pointer (some ⟨w.heap.size, 0, none⟩)) W1 (by rw [← hW]; kernel_rfl) ?_
  replace HB := over HB hb
  replace hc := hc.below hb
  have z1 := hb.size
  have M2 := hq
  have yM2 := hq.lt
  clear hq hb hW
  refine sx_val (by kernel_rfl) rfl rfl (.bool false) (by kernel_rfl) ?_
  refine wpList_nil ?_
  refine sx_norm ?_
  refine wp_seq ?_
  refine wp_region_lit ?_
  refine sx_val (by kernel_rfl) rfl rfl (.slice o3 ol.length c3) (ex_load1 rfl (hc.cell 0 rfl) (by kernel_rfl) Try.underlying27 rfl) ?_
  refine sx_val (by kernel_rfl) rfl rfl (.pointer (some ⟨w.heap.size, 0, none⟩)) (by kernel_rfl) ?_
  refine sx_val (by kernel_rfl) rfl rfl (.int .i64 v.1) (ex_load1 rfl (M2.cell 0 rfl) (by kernel_rfl) Try.underlying3 rfl) ?_
  refine sx_val (by kernel_rfl) rfl rfl (.pointer (some ⟨b3, q3 + k * 16, none⟩)) (ex_indexO (q := q3) (m := ol.length) (c := c3) (k := k) (s := 16) rfl (by kernel_rfl) ((hr16.below HB).oa (k := k) (by omega)) (by rw [← hk]; kernel_rfl) Try.underlying27 (by kernel_rfl) (by omega) (by omega)) ?_
  refine sx_val (by kernel_rfl) rfl rfl (.pointer (some ⟨b3, q3 + k * 16 + 15, none⟩)) (by kernel_rfl) ?_
  refine sx_val (by kernel_rfl) rfl rfl (.bool (ol.getD k or0).off) (ex_load1 rfl ((hr16.below HB).cell (k := k) (by omega) 15 rfl) (by kernel_rfl) Try.underlying4 rfl) ?_
  refine sx_val (by kernel_rfl) rfl rfl (.bool (ol.getD k or0).off) (by kernel_rfl) ?_
  refine wpList_nil ?_
  refine sx_norm ?_
  refine wp_ret ?_
  exact sx_ret1 (.bool (ol.getD k or0).off) rfl rfl (by kernel_rfl) ⟨ret_bool (by unfold offV; rw [hk]; rfl), HB⟩
theorem indexFuncG_n (o3 : Option Addr) (c3 qc : Nat) (ol : List OrT) (l : List (Int × Bool)) (ll : l.length ≤ 1000000) (oa : Option Addr) (c b o : Nat)  (w : World) (hv : Rw w b o 2 (vF l) l.length oa) (hc : Cb w qc #[.slice o3 ol.length c3] 27) : Calls Try.prog 81 #[.slice oa l.length c, .func (.func 59) #[] #[.pointer (some ⟨qc, 0, none⟩)]] w fun e w' => ∃ i, e = .returned (.int .i64 i) ∧ decide (i ≥ 0) = l.any (goneV ol.length) ∧ Below w.heap.size w w' := by
  have HB : Below w.heap.size w w := Below.refl _ _
  refine sx_enter Try.func81 rfl [(0, .slice oa l.length c), (1, .func (.func 59) #[] #[.pointer (some ⟨qc, 0, none⟩)])] (by kernel_rfl) ?_
  refine wp_seq ?_
  refine wp_region_lit ?_
  refine sx_val (by kernel_rfl) rfl rfl (.int .i64 0) (by kernel_rfl) ?_
  refine wpList_nil ?_
  refine sx_norm ?_
  refine wp_seq ?_
  refine wp_seq ?_
  refine wp_region_lit ?_
  refine sx_val (by kernel_rfl) rfl rfl (.slice oa l.length c) (by kernel_rfl) ?_
  refine sx_val (by kernel_rfl) rfl rfl (.int .i64 ((l.length : Nat) : Int)) (by kernel_rfl) ?_
  refine sx_val (by kernel_rfl) rfl rfl (.int .i64 0) (by kernel_rfl) ?_
  refine wpList_nil ?_
  refine sx_norm ?_
  refine wp_block ?_
  refine sx_loop (fun j : Nat => [(0, .slice oa l.length c), (1, .func (.func 59) #[] #[.pointer (some ⟨qc, 0, none⟩)]), (6, .slice oa l.length c), (7, .int .i64 ((l.length : Nat) : Int)), (8, .int .i64 ((j : Nat) : Int))]) (fun gg j wr => j ≤ l.length ∧ l.length - j ≤ gg ∧ (l.take j).any (goneV ol.length) = false ∧ Below w.heap.size w wr) (l.length) (0) (by kernel_rfl) ⟨Nat.zero_le _, Nat.le_refl _, rfl, Below.refl _ _⟩ ?_
  rintro gg j g' wr1 ⟨hj, hg, hI, hbl⟩
  replace HB := over HB hbl
  have z1 := hbl.size
  have HL := hbl
  clear hbl
  refine wp_seq ?_
  refine wp_region_lit ?_
  by_cases C1 : j < l.length
  · refine sx_bool (by kernel_rfl) rfl rfl (decide (((j : Nat) : Int) < ((l.length : Nat) : Int))) true (by kernel_rfl) (decide_eq_true (by omega)) ?_
    refine wpList_nil ?_
    refine sx_norm ?_
    refine wp_seq ?_
    refine sx_true (by kernel_rfl) ?_
    refine wp_skip ?_
    refine sx_norm ?_
    refine wp_seq ?_
    refine wp_block ?_
    refine wp_seq ?_
    refine wp_region_lit ?_
    refine sx_val (by kernel_rfl) rfl rfl (.int .i64 ((j : Nat) : Int)) (by kernel_rfl) ?_
    refine sx_val (by kernel_rfl) rfl rfl (.int .i64 ((j : Nat) : Int)) (by kernel_rfl) ?_
    refine wpList_nil ?_
    refine sx_norm ?_
    refine wp_seq ?_
    refine wp_region_lit ?_
    refine sx_val (by kernel_rfl) rfl rfl (.func (.func 59) #[] #[.pointer (some ⟨qc, 0, none⟩)]) (by kernel_rfl) ?_
    refine sx_val (by kernel_rfl) rfl rfl (.slice oa l.length c) (by kernel_rfl) ?_
    refine sx_val (by kernel_rfl) rfl rfl (.int .i64 ((j : Nat) : Int)) (by kernel_rfl) ?_
    refine sx_val (by kernel_rfl) rfl rfl (.pointer (some ⟨b, o + j * 2, none⟩)) (ex_indexO (q := o) (m := l.length) (c := c) (k := j) (s := 2) rfl (by kernel_rfl) ((hv.below HB).oa (k := j) (by omega)) (by kernel_rfl) Try.underlying32 (by kernel_rfl) (by omega) (by omega)) ?_
    refine sx_val (by kernel_rfl) rfl rfl (.agg #[.int .i64 ((l.getD j (0, false)).1), .bool (l.getD j (0, false)).2]) (ex_loadR rfl ((hv.below HB).range (k := j) (by omega)) (by kernel_rfl) Try.underlying52 rfl (by kernel_rfl)) ?_
    by_cases C2 : goneV ol.length (l.getD j (0, false)) = true
    · refine sx_call (by kernel_rfl) rfl rfl ((by have h8 := gone_n o3 c3 qc ol (l.getD j (0, false)) wr1 (hc.below HB); rw [show goneV ol.length (l.getD j (0, false)) = true by simpa using C2] at h8; exact h8)) (by kernel_rfl) ?_
      rintro e W2 ⟨rfl, hb⟩
      replace HB := over HB hb
      replace HL := over HL hb
      have z2 := hb.size
      clear hb
      refine ⟨_, rfl, ?_⟩
      refine wpList_nil ?_
      refine sx_norm ?_
      refine sx_true (by kernel_rfl) ?_
      refine wp_seq ?_
      refine wp_region_lit ?_
      refine sx_val (by kernel_rfl) rfl rfl (.int .i64 ((j : Nat) : Int)) (by kernel_rfl) ?_
      refine sx_val (by kernel_rfl) rfl rfl (.int .i64 ((j : Nat) : Int)) (by kernel_rfl) ?_
      refine wpList_nil ?_
      refine sx_norm ?_
      refine wp_ret ?_
      refine sx_rb ?_
      refine sx_rs ?_
      refine sx_rs ?_
      refine sx_rb ?_
      refine sx_rs ?_
      exact sx_ret1 (.int .i64 ((j : Nat) : Int)) rfl rfl (by kernel_rfl) ⟨_, rfl, by rw [any_some (by omega) C2]; exact decide_eq_true (by omega), HB⟩
    refine sx_call (by kernel_rfl) rfl rfl ((by have h8 := gone_n o3 c3 qc ol (l.getD j (0, false)) wr1 (hc.below HB); rw [show goneV ol.length (l.getD j (0, false)) = false by simpa using C2] at h8; exact h8)) (by kernel_rfl) ?_
    rintro e W3 ⟨rfl, hb⟩
    replace HB := over HB hb
    replace HL := over HL hb
    have z2 := hb.size
    clear hb
    refine ⟨_, rfl, ?_⟩
    refine wpList_nil ?_
    refine sx_norm ?_
    refine sx_false (by kernel_rfl) ?_
    refine wp_skip ?_
    refine sx_in ?_
    refine sx_norm ?_
    refine wp_region_lit ?_
    refine sx_int (by kernel_rfl) rfl rfl .i64 (IntKind.i64.wrap (((j : Nat) : Int) + 1)) (((j + 1 : Nat) : Int)) (by kernel_rfl) (by rw [IntKind.wrap_i64]; omega) ?_
    refine sx_val (by kernel_rfl) rfl rfl (.int .i64 ((j + 1 : Nat) : Int)) (by kernel_rfl) ?_
    refine wpList_nil ?_
    refine sx_norm ?_
    exact sx_again (l.length - (j + 1)) (j + 1) (by omega) (by kernel_rfl) ⟨by omega, Nat.le_refl _, any_take (by omega) hI (by simpa using C2), HL⟩
  refine sx_bool (by kernel_rfl) rfl rfl (decide (((j : Nat) : Int) < ((l.length : Nat) : Int))) false (by kernel_rfl) (decide_eq_false (by omega)) ?_
  refine wpList_nil ?_
  refine sx_norm ?_
  refine wp_seq ?_
  refine sx_false (by kernel_rfl) ?_
  refine wp_exit ?_
  refine sx_es ?_
  refine sx_es ?_
  refine sx_out ?_
  refine sx_norm ?_
  refine wp_seq ?_
  refine wp_region_lit ?_
  refine sx_val (by kernel_rfl) rfl rfl (.int .i64 (-1)) (by kernel_rfl) ?_
  refine wpList_nil ?_
  refine sx_norm ?_
  refine wp_ret ?_
  exact sx_ret1 (.int .i64 (-1)) rfl rfl (by kernel_rfl) ⟨_, rfl, by rw [any_none (by omega) hI]; exact decide_eq_false (by omega), HB⟩
theorem containsFuncG_n (o3 : Option Addr) (c3 qc : Nat) (ol : List OrT) (l : List (Int × Bool)) (ll : l.length ≤ 1000000) (oa : Option Addr) (c b o : Nat)  (w : World) (hv : Rw w b o 2 (vF l) l.length oa) (hc : Cb w qc #[.slice o3 ol.length c3] 27) : Calls Try.prog 58 #[.slice oa l.length c, .func (.func 59) #[] #[.pointer (some ⟨qc, 0, none⟩)]] w fun e w' => e = .returned (.bool (l.any (goneV ol.length))) ∧ Below w.heap.size w w' := by
  have HB : Below w.heap.size w w := Below.refl _ _
  refine sx_enter Try.func58 rfl [(0, .slice oa l.length c), (1, .func (.func 59) #[] #[.pointer (some ⟨qc, 0, none⟩)])] (by kernel_rfl) ?_
  refine wp_seq ?_
  refine wp_region_lit ?_
  refine sx_val (by kernel_rfl) rfl rfl (.bool false) (by kernel_rfl) ?_
  refine wpList_nil ?_
  refine sx_norm ?_
  refine wp_seq ?_
  refine wp_region_lit ?_
  refine sx_val (by kernel_rfl) rfl rfl (.slice oa l.length c) (by kernel_rfl) ?_
  refine sx_val (by kernel_rfl) rfl rfl (.func (.func 59) #[] #[.pointer (some ⟨qc, 0, none⟩)]) (by kernel_rfl) ?_
  refine sx_call (by kernel_rfl) rfl rfl (indexFuncG_n o3 c3 qc ol l ll oa c b o w (hv.below HB) (hc.below HB)) (by kernel_rfl) ?_
  rintro e W1 ⟨i9, rfl, hi9, hb⟩
  replace HB := over HB hb
  have z1 := hb.size
  clear hb
  refine ⟨_, rfl, ?_⟩
  refine sx_val (by kernel_rfl) rfl rfl (.bool (decide (i9 ≥ 0))) (by kernel_rfl) ?_
  refine sx_val (by kernel_rfl) rfl rfl (.bool (decide (i9 ≥ 0))) (by kernel_rfl) ?_
  refine wpList_nil ?_
  refine sx_norm ?_
  refine wp_ret ?_
  exact sx_ret1 (.bool (decide (i9 ≥ 0))) rfl rfl (by kernel_rfl) ⟨ret_bool hi9, HB⟩
theorem allExist_n (o3 : Option Addr) (c3 : Nat) (ol : List OrT) (l : List (Int × Bool)) (ll : l.length ≤ 1000000) (oa : Option Addr) (c b o : Nat)  (w : World) (hv : Rw w b o 2 (vF l) l.length oa) : Calls Try.prog 27 #[.slice o3 ol.length c3, .slice oa l.length c] w fun e w' => e = .returned (.bool (!l.any (goneV ol.length))) ∧ Below w.heap.size w w' := by
  have HB : Below w.heap.size w w := Below.refl _ _
  refine sx_enter Try.func27 rfl [(0, .slice o3 ol.length c3), (1, .slice oa l.length c)] (by kernel_rfl) ?_
  refine wp_seq ?_
  refine wp_region_lit ?_
  obtain ⟨W1, hW⟩ : ∃ W, w.alloc (.cells #[.slice o3 ol.length c3] 27) = W := ⟨_, rfl⟩
  have hb := hW ▸ below_alloc w (.cells #[.slice o3 ol.length c3] 27)
  have hq : Cb W1 w.heap.size #[.slice o3 ol.length c3] 27 := hW ▸ Cb.made w #[.slice o3 ol.length c3] 27
  refine sx_mem (by kernel_rfl) rfl rfl (.pointer (some ⟨w.heap.size, 0, none⟩)) W1 (by rw [← hW]; kernel_rfl) ?_
  replace HB := over HB hb
  have z1 := hb.size
  have M2 := hq
  have yM2 := hq.lt
  clear hq hb hW
  refine sx_val (by kernel_rfl) rfl rfl (.bool false) (by kernel_rfl) ?_
  refine wpList_nil ?_
  refine sx_norm ?_
  refine wp_seq ?_
  refine wp_region_lit ?_
  refine sx_val (by kernel_rfl) rfl rfl (.slice oa l.length c) (by kernel_rfl) ?_
  refine sx_val (by kernel_rfl) rfl rfl (.func (.func 59) #[] #[.pointer (some ⟨w.heap.size, 0, none⟩)]) (by kernel_rfl) ?_
  refine sx_call (by kernel_rfl) rfl rfl (containsFuncG_n o3 c3 (w.heap.size) ol l ll oa c b o W1 (hv.below HB) M2) (by kernel_rfl) ?_
  rintro e W3 ⟨rfl, hb⟩
  replace HB := over HB hb
  replace M2 := M2.below hb
  have z2 := hb.size
  clear hb
  refine ⟨_, rfl, ?_⟩
  refine sx_val (by kernel_rfl) rfl rfl (.bool (!(l.any (goneV ol.length)))) (by kernel_rfl) ?_
  refine sx_val (by kernel_rfl) rfl rfl (.bool (!(l.any (goneV ol.length)))) (by kernel_rfl) ?_
  refine wpList_nil ?_
  refine sx_norm ?_
  refine wp_ret ?_
  exact sx_ret1 (.bool (!(l.any (goneV ol.length)))) rfl rfl (by kernel_rfl) ⟨rfl, HB⟩
theorem indexFuncO_n (o3 : Option Addr) (c3 qc : Nat) (ol : List OrT) (l : List (Int × Bool)) (ll : l.length ≤ 1000000) (oa : Option Addr) (c b o : Nat) (hex : ∀ i, i < l.length → 0 ≤ (l.getD i (0, false)).1 ∧ (l.getD i (0, false)).1 < ol.length) (w : World) (hv : Rw w b o 2 (vF l) l.length oa) (hos : Os w (.slice o3 ol.length c3) ol) (hc : Cb w qc #[.slice o3 ol.length c3] 27) : Calls Try.prog 81 #[.slice oa l.length c, .func (.func 60) #[] #[.pointer (some ⟨qc, 0, none⟩)]] w fun e w' => ∃ i, e = .returned (.int .i64 i) ∧ decide (i ≥ 0) = l.any (offV ol) ∧ Below w.heap.size w w' := by
  have HB : Below w.heap.size w w := Below.refl _ _
  refine sx_enter Try.func81 rfl [(0, .slice oa l.length c), (1, .func (.func 60) #[] #[.pointer (some ⟨qc, 0, none⟩)])] (by kernel_rfl) ?_
  refine wp_seq ?_
  refine wp_region_lit ?_
  refine sx_val (by kernel_rfl) rfl rfl (.int .i64 0) (by kernel_rfl) ?_
  refine wpList_nil ?_
  refine sx_norm ?_
  refine wp_seq ?_
  refine wp_seq ?_
  refine wp_region_lit ?_
  refine sx_val (by kernel_rfl) rfl rfl (.slice oa l.length c) (by kernel_rfl) ?_
  refine sx_val (by kernel_rfl) rfl rfl (.int .i64 ((l.length : Nat) : Int)) (by kernel_rfl) ?_
  refine sx_val (by kernel_rfl) rfl rfl (.int .i64 0) (by kernel_rfl) ?_
  refine wpList_nil ?_
  refine sx_norm ?_
  refine wp_block ?_
  refine sx_loop (fun j : Nat => [(0, .slice oa l.length c), (1, .func (.func 60) #[] #[.pointer (some ⟨qc, 0, none⟩)]), (6, .slice oa l.length c), (7, .int .i64 ((l.length : Nat) : Int)), (8, .int .i64 ((j : Nat) : Int))]) (fun gg j wr => j ≤ l.length ∧ l.length - j ≤ gg ∧ (l.take j).any (offV ol) = false ∧ Below w.heap.size w wr) (l.length) (0) (by kernel_rfl) ⟨Nat.zero_le _, Nat.le_refl _, rfl, Below.refl _ _⟩ ?_
  rintro gg j g' wr1 ⟨hj, hg, hI, hbl⟩
  replace HB := over HB hbl
  have z1 := hbl.size
  have HL := hbl
  clear hbl
  refine wp_seq ?_
  refine wp_region_lit ?_
  by_cases C1 : j < l.length
  · refine sx_bool (by kernel_rfl) rfl rfl (decide (((j : Nat) : Int) < ((l.length : Nat) : Int))) true (by kernel_rfl) (decide_eq_true (by omega)) ?_
    refine wpList_nil ?_
    refine sx_norm ?_
    refine wp_seq ?_
    refine sx_true (by kernel_rfl) ?_
    refine wp_skip ?_
    refine sx_norm ?_
    refine wp_seq ?_
    refine wp_block ?_
    refine wp_seq ?_
    refine wp_region_lit ?_
    refine sx_val (by kernel_rfl) rfl rfl (.int .i64 ((j : Nat) : Int)) (by kernel_rfl) ?_
    refine sx_val (by kernel_rfl) rfl rfl (.int .i64 ((j : Nat) : Int)) (by kernel_rfl) ?_
    refine wpList_nil ?_
    refine sx_norm ?_
    refine wp_seq ?_
    refine wp_region_lit ?_
    refine sx_val (by kernel_rfl) rfl rfl (.func (.func 60) #[] #[.pointer (some ⟨qc, 0, none⟩)]) (by kernel_rfl) ?_
    refine sx_val (by kernel_rfl) rfl rfl (.slice oa l.length c) (by kernel_rfl) ?_
    refine sx_val (by kernel_rfl) rfl rfl (.int .i64 ((j : Nat) : Int)) (by kernel_rfl) ?_
    refine sx_val (by kernel_rfl) rfl rfl (.pointer (some ⟨b, o + j * 2, none⟩)) (ex_indexO (q := o) (m := l.length) (c := c) (k := j) (s := 2) rfl (by kernel_rfl) ((hv.below HB).oa (k := j) (by omega)) (by kernel_rfl) Try.underlying32 (by kernel_rfl) (by omega) (by omega)) ?_
    refine sx_val (by kernel_rfl) rfl rfl (.agg #[.int .i64 ((l.getD j (0, false)).1), .bool (l.getD j (0, false)).2]) (ex_loadR rfl ((hv.below HB).range (k := j) (by omega)) (by kernel_rfl) Try.underlying52 rfl (by kernel_rfl)) ?_
    by_cases C2 : offV ol (l.getD j (0, false)) = true
    · refine sx_call (by kernel_rfl) rfl rfl ((by have h8 := off_n o3 c3 qc ol (l.getD j (0, false)) (hex j (by omega)).1 (hex j (by omega)).2 wr1 (hos.below HB) (hc.below HB); rw [show offV ol (l.getD j (0, false)) = true by simpa using C2] at h8; exact h8)) (by kernel_rfl) ?_
      rintro e W2 ⟨rfl, hb⟩
      replace HB := over HB hb
      replace HL := over HL hb
      have z2 := hb.size
      clear hb
      refine ⟨_, rfl, ?_⟩
      refine wpList_nil ?_
      refine sx_norm ?_
      refine sx_true (by kernel_rfl) ?_
      refine wp_seq ?_
      refine wp_region_lit ?_
      refine sx_val (by kernel_rfl) rfl rfl (.int .i64 ((j : Nat) : Int)) (by kernel_rfl) ?_
      refine sx_val (by kernel_rfl) rfl rfl (.int .i64 ((j : Nat) : Int)) (by kernel_rfl) ?_
      refine wpList_nil ?_
      refine sx_norm ?_
      refine wp_ret ?_
      refine sx_rb ?_
      refine sx_rs ?_
      refine sx_rs ?_
      refine sx_rb ?_
      refine sx_rs ?_
      exact sx_ret1 (.int .i64 ((j : Nat) : Int)) rfl rfl (by kernel_rfl) ⟨_, rfl, by rw [any_some (by omega) C2]; exact decide_eq_true (by omega), HB⟩
    refine sx_call (by kernel_rfl) rfl rfl ((by have h8 := off_n o3 c3 qc ol (l.getD j (0, false)) (hex j (by omega)).1 (hex j (by omega)).2 wr1 (hos.below HB) (hc.below HB); rw [show offV ol (l.getD j (0, false)) = false by simpa using C2] at h8; exact h8)) (by kernel_rfl) ?_
    rintro e W3 ⟨rfl, hb⟩
    replace HB := over HB hb
    replace HL := over HL hb
    have z2 := hb.size
    clear hb
    refine ⟨_, rfl, ?_⟩
    refine wpList_nil ?_
    refine sx_norm ?_
    refine sx_false (by kernel_rfl) ?_
    refine wp_skip ?_
    refine sx_in ?_
    refine sx_norm ?_
    refine wp_region_lit ?_
    refine sx_int (by kernel_rfl) rfl rfl .i64 (IntKind.i64.wrap (((j : Nat) : Int) + 1)) (((j + 1 : Nat) : Int)) (by kernel_rfl) (by rw [IntKind.wrap_i64]; omega) ?_
    refine sx_val (by kernel_rfl) rfl rfl (.int .i64 ((j + 1 : Nat) : Int)) (by kernel_rfl) ?_
    refine wpList_nil ?_
    refine sx_norm ?_
    exact sx_again (l.length - (j + 1)) (j + 1) (by omega) (by kernel_rfl) ⟨by omega, Nat.le_refl _, any_take (by omega) hI (by simpa using C2), HL⟩
  refine sx_bool (by kernel_rfl) rfl rfl (decide (((j : Nat) : Int) < ((l.length : Nat) : Int))) false (by kernel_rfl) (decide_eq_false (by omega)) ?_
  refine wpList_nil ?_
  refine sx_norm ?_
  refine wp_seq ?_
  refine sx_false (by kernel_rfl) ?_
  refine wp_exit ?_
  refine sx_es ?_
  refine sx_es ?_
  refine sx_out ?_
  refine sx_norm ?_
  refine wp_seq ?_
  refine wp_region_lit ?_
  refine sx_val (by kernel_rfl) rfl rfl (.int .i64 (-1)) (by kernel_rfl) ?_
  refine wpList_nil ?_
  refine sx_norm ?_
  refine wp_ret ?_
  exact sx_ret1 (.int .i64 (-1)) rfl rfl (by kernel_rfl) ⟨_, rfl, by rw [any_none (by omega) hI]; exact decide_eq_false (by omega), HB⟩
theorem containsFuncO_n (o3 : Option Addr) (c3 qc : Nat) (ol : List OrT) (l : List (Int × Bool)) (ll : l.length ≤ 1000000) (oa : Option Addr) (c b o : Nat) (hex : ∀ i, i < l.length → 0 ≤ (l.getD i (0, false)).1 ∧ (l.getD i (0, false)).1 < ol.length) (w : World) (hv : Rw w b o 2 (vF l) l.length oa) (hos : Os w (.slice o3 ol.length c3) ol) (hc : Cb w qc #[.slice o3 ol.length c3] 27) : Calls Try.prog 58 #[.slice oa l.length c, .func (.func 60) #[] #[.pointer (some ⟨qc, 0, none⟩)]] w fun e w' => e = .returned (.bool (l.any (offV ol))) ∧ Below w.heap.size w w' := by
  have HB : Below w.heap.size w w := Below.refl _ _
  refine sx_enter Try.func58 rfl [(0, .slice oa l.length c), (1, .func (.func 60) #[] #[.pointer (some ⟨qc, 0, none⟩)])] (by kernel_rfl) ?_
  refine wp_seq ?_
  refine wp_region_lit ?_
  refine sx_val (by kernel_rfl) rfl rfl (.bool false) (by kernel_rfl) ?_
  refine wpList_nil ?_
  refine sx_norm ?_
  refine wp_seq ?_
  refine wp_region_lit ?_
  refine sx_val (by kernel_rfl) rfl rfl (.slice oa l.length c) (by kernel_rfl) ?_
  refine sx_val (by kernel_rfl) rfl rfl (.func (.func 60) #[] #[.pointer (some ⟨qc, 0, none⟩)]) (by kernel_rfl) ?_
  refine sx_call (by kernel_rfl) rfl rfl (indexFuncO_n o3 c3 qc ol l ll oa c b o hex w (hv.below HB) (hos.below HB) (hc.below HB)) (by kernel_rfl) ?_
  rintro e W1 ⟨i9, rfl, hi9, hb⟩
  replace HB := over HB hb
  have z1 := hb.size
  clear hb
  refine ⟨_, rfl, ?_⟩
  refine sx_val (by kernel_rfl) rfl rfl (.bool (decide (i9 ≥ 0))) (by kernel_rfl) ?_
  refine sx_val (by kernel_rfl) rfl rfl (.bool (decide (i9 ≥ 0))) (by kernel_rfl) ?_
  refine wpList_nil ?_
  refine sx_norm ?_
  refine wp_ret ?_
  exact sx_ret1 (.bool (decide (i9 ≥ 0))) rfl rfl (by kernel_rfl) ⟨ret_bool hi9, HB⟩
theorem hasOff_n (o3 : Option Addr) (c3 : Nat) (ol : List OrT) (l : List (Int × Bool)) (ll : l.length ≤ 1000000) (oa : Option Addr) (c b o : Nat) (hex : ∀ i, i < l.length → 0 ≤ (l.getD i (0, false)).1 ∧ (l.getD i (0, false)).1 < ol.length) (w : World) (hv : Rw w b o 2 (vF l) l.length oa) (hos : Os w (.slice o3 ol.length c3) ol) : Calls Try.prog 28 #[.slice o3 ol.length c3, .slice oa l.length c] w fun e w' => e = .returned (.bool (l.any (offV ol))) ∧ Below w.heap.size w w' := by
  have HB : Below w.heap.size w w := Below.refl _ _
  refine sx_enter Try.func28 rfl [(0, .slice o3 ol.length c3), (1, .slice oa l.length c)] (by kernel_rfl) ?_
  refine wp_seq ?_
  refine wp_region_lit ?_
  obtain ⟨W1, hW⟩ : ∃ W, w.alloc (.cells #[.slice o3 ol.length c3] 27) = W := ⟨_, rfl⟩
  have hb := hW ▸ below_alloc w (.cells #[.slice o3 ol.length c3] 27)
  have hq : Cb W1 w.heap.size #[.slice o3 ol.length c3] 27 := hW ▸ Cb.made w #[.slice o3 ol.length c3] 27
  refine sx_mem (by kernel_rfl) rfl rfl (.pointer (some ⟨w.heap.size, 0, none⟩)) W1 (by rw [← hW]; kernel_rfl) ?_
  replace HB := over HB hb
  have z1 := hb.size
  have M2 := hq
  have yM2 := hq.lt
  clear hq hb hW
  refine sx_val (by kernel_rfl) rfl rfl (.bool false) (by kernel_rfl) ?_
  refine wpList_nil ?_
  refine sx_norm ?_
  refine wp_seq ?_
  refine wp_region_lit ?_
  refine sx_val (by kernel_rfl) rfl rfl (.slice oa l.length c) (by kernel_rfl) ?_
  refine sx_val (by kernel_rfl) rfl rfl (.func (.func 60) #[] #[.pointer (some ⟨w.heap.size, 0, none⟩)]) (by kernel_rfl) ?_
  refine sx_call (by kernel_rfl) rfl rfl (containsFuncO_n o3 c3 (w.heap.size) ol l ll oa c b o hex W1 (hv.below HB) (hos.below HB) M2) (by kernel_rfl) ?_
  rintro e W3 ⟨rfl, hb⟩
  replace HB := over HB hb
  replace M2 := M2.below hb
  have z2 := hb.size
  clear hb
  refine ⟨_, rfl, ?_⟩
  refine sx_val (by kernel_rfl) rfl rfl (.bool (l.any (offV ol))) (by kernel_rfl) ?_
  refine wpList_nil ?_
  refine sx_norm ?_
  refine wp_ret ?_
  exact sx_ret1 (.bool (l.any (offV ol))) rfl rfl (by kernel_rfl) ⟨rfl, HB⟩

end Go.Proofs.Ytoliacfpjhanlaa.T


