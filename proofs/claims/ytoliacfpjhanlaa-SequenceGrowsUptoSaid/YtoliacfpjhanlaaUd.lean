/-
  DERIVED. The specification of sequences: paired (by gen_ud.py).
-/
import Derived.Test.YtoliacfpjhanlaaUc
namespace Go.Proofs.Ytoliacfpjhanlaa.T
open Go.RowKit
set_option maxRecDepth 8000
attribute [local irreducible] wpList Code.wp wpAnyH

/-- a visit of the list: it is one of its order's, all of them are in the list, the pickup first -/
def prdP (ol : List OrT) (l : List (Int × Bool)) (v : Int × Bool) : Bool :=
  !decide (idxV (visR ol v.1.toNat) v < 0) && conV l (visR ol v.1.toNat) && !(decide ((visR ol v.1.toNat).length = 2) && decide (idxV l ((visR ol v.1.toNat).getD 0 (0, false)) > idxV l ((visR ol v.1.toNat).getD 1 (0, false))))
def prdB (ol : List OrT) (l : List (Int × Bool)) : Bool := l.all (prdP ol l)
theorem refPaired_n (o0 o1 o2 o3 o4 o5 : Option Addr) (n0 n1 n2 n4 n5 c0 c1 c2 c3 c4 c5 : Nat) (ol : List OrT) (hn : ol.length ≤ 10) (l : List (Int × Bool)) (ll : l.length ≤ 1000000) (oa : Option Addr) (c b o : Nat) (hex : Ex ol.length l) (w : World) (hos : Os w (.slice o3 ol.length c3) ol) (hv : Rw w b o 2 (vF l) l.length oa) : Calls Try.prog 33 #[.agg #[.slice o0 n0 c0, .slice o1 n1 c1, .slice o2 n2 c2, .slice o3 ol.length c3, .slice o4 n4 c4, .slice o5 n5 c5], .slice oa l.length c] w fun e w' => e = .returned (.bool (prdB ol l)) ∧ Below w.heap.size w w' := by
  have HB : Below w.heap.size w w := Below.refl _ _
  refine sx_enter Try.func33 rfl [(0, .agg #[.slice o0 n0 c0, .slice o1 n1 c1, .slice o2 n2 c2, .slice o3 ol.length c3, .slice o4 n4 c4, .slice o5 n5 c5]), (1, .slice oa l.length c)] (by kernel_rfl) ?_
  refine wp_seq ?_
  refine wp_region_lit ?_
  obtain ⟨W1, hW⟩ : ∃ W, w.alloc (.cells #[.slice o0 n0 c0, .slice o1 n1 c1, .slice o2 n2 c2, .slice o3 ol.length c3, .slice o4 n4 c4, .slice o5 n5 c5] 30) = W := ⟨_, rfl⟩
  have hb := hW ▸ below_alloc w (.cells #[.slice o0 n0 c0, .slice o1 n1 c1, .slice o2 n2 c2, .slice o3 ol.length c3, .slice o4 n4 c4, .slice o5 n5 c5] 30)
  have hq : Cb W1 w.heap.size #[.slice o0 n0 c0, .slice o1 n1 c1, .slice o2 n2 c2, .slice o3 ol.length c3, .slice o4 n4 c4, .slice o5 n5 c5] 30 := hW ▸ Cb.made w #[.slice o0 n0 c0, .slice o1 n1 c1, .slice o2 n2 c2, .slice o3 ol.length c3, .slice o4 n4 c4, .slice o5 n5 c5] 30
  refine sx_mem (by kernel_rfl) rfl rfl (.pointer (some ⟨w.heap.size, 0, none⟩)) W1 (by rw [← hW]; kernel_rfl) ?_
  replace HB := over HB hb
  have z1 := hb.size
  have M2 := hq
  have yM2 := hq.lt
  clear hq hb hW
  refine sx_val (by kernel_rfl) rfl rfl (.bool false) (by kernel_rfl) ?_
  refine wpList_nil ?_
  refine sx_norm ?_
  refine wp_seq ?_
  refine wp_seq ?_
  refine wp_region_lit ?_
  refine sx_val (by kernel_rfl) rfl rfl (.int .i64 0) (by kernel_rfl) ?_
  refine wpList_nil ?_
  refine sx_norm ?_
  refine wp_block ?_
  refine sx_loop (fun j : Nat => [(0, .agg #[.slice o0 n0 c0, .slice o1 n1 c1, .slice o2 n2 c2, .slice o3 ol.length c3, .slice o4 n4 c4, .slice o5 n5 c5]), (1, .slice oa l.length c), (2, .pointer (some ⟨w.heap.size, 0, none⟩)), (5, .int .i64 ((j : Nat) : Int))]) (fun gg j wr => j ≤ l.length ∧ l.length - j ≤ gg ∧ (l.take j).all (prdP ol l) = true ∧ Below W1.heap.size W1 wr) (l.length) (0) (by kernel_rfl) ⟨Nat.zero_le _, Nat.le_refl _, rfl, Below.refl _ _⟩ ?_
  rintro gg j g' wr3 ⟨hj, hg, hI, hbl⟩
  replace HB := over HB hbl
  replace M2 := M2.below hbl
  have z2 := hbl.size
  have HL := hbl
  clear hbl
  refine wp_seq ?_
  refine wp_seq ?_
  refine wp_region_lit ?_
  refine sx_val (by kernel_rfl) rfl rfl (.int .i64 ((j : Nat) : Int)) (by kernel_rfl) ?_
  refine sx_val (by kernel_rfl) rfl rfl (.slice oa l.length c) (by kernel_rfl) ?_
  refine sx_val (by kernel_rfl) rfl rfl (.int .i64 ((l.length : Nat) : Int)) (by kernel_rfl) ?_
  by_cases C1 : j < l.length
  · refine sx_bool (by kernel_rfl) rfl rfl (decide (((j : Nat) : Int) < ((l.length : Nat) : Int))) true (by kernel_rfl) (decide_eq_true (by omega)) ?_
    refine wpList_nil ?_
    refine sx_norm ?_
    refine sx_true (by kernel_rfl) ?_
    refine wp_skip ?_
    refine sx_norm ?_
    refine wp_seq ?_
    refine wp_block ?_
    refine wp_seq ?_
    have hx := hex j (by omega)
    obtain ⟨Y4, hW⟩ : ∃ W, wr3.drew = W := ⟨_, rfl⟩
    have hb : Below wr3.heap.size wr3 Y4 := hW ▸ below_drew (Below.refl _ _)
    replace HB := over HB hb
    replace M2 := M2.below hb
    replace HL := over HL hb
    have z3 := hb.size
    clear hb
    refine sd_begin (fun W => Cb W (w.heap.size) #[.slice o0 n0 c0, .slice o1 n1 c1, .slice o2 n2 c2, .slice o3 ol.length c3, .slice o4 n4 c4, .slice o5 n5 c5] 30 ∧ Rw W b o 2 (vF l) l.length oa ∧ True) (by kernel_rfl) (by rw [hW]; exact ⟨M2, (hv.below HB), trivial⟩) ?_
    rw [hW]
    clear hW
    refine sd_take 0 rfl (by kernel_rfl) (by kernel_rfl) (by kernel_rfl) (by kernel_rfl) rfl rfl (.agg #[.slice o0 n0 c0, .slice o1 n1 c1, .slice o2 n2 c2, .slice o3 ol.length c3, .slice o4 n4 c4, .slice o5 n5 c5]) (fun w9 h9 => ex_load rfl h9.1 (by kernel_rfl) Try.underlying30 rfl (by kernel_rfl)) (fun _ _ _ h => h) ⟨M2, (hv.below HB), trivial⟩ ?_
    refine sd_take 1 rfl (by kernel_rfl) (by kernel_rfl) (by kernel_rfl) (by kernel_rfl) rfl rfl (.slice oa l.length c) (fun w9 _ => by kernel_rfl) (fun _ _ _ h => h) ⟨M2, (hv.below HB), trivial⟩ ?_
    refine sd_take 2 rfl (by kernel_rfl) (by kernel_rfl) (by kernel_rfl) (by kernel_rfl) rfl rfl (.int .i64 ((j : Nat) : Int)) (fun w9 _ => by kernel_rfl) (fun _ _ _ h => h) ⟨M2, (hv.below HB), trivial⟩ ?_
    refine sd_take 3 rfl (by kernel_rfl) (by kernel_rfl) (by kernel_rfl) (by kernel_rfl) rfl rfl (.pointer (some ⟨b, o + j * 2, none⟩)) (fun w9 h9 => ex_indexO (q := o) (m := l.length) (c := c) (k := j) (s := 2) rfl (by kernel_rfl) (h9.2.1.oa (k := j) (by omega)) (by kernel_rfl) Try.underlying32 (by kernel_rfl) (by omega) (by omega)) (fun _ _ _ h => h) ⟨M2, (hv.below HB), trivial⟩ ?_
    refine sd_take 4 rfl (by kernel_rfl) (by kernel_rfl) (by kernel_rfl) (by kernel_rfl) rfl rfl (.pointer (some ⟨b, o + j * 2, none⟩)) (fun w9 _ => by kernel_rfl) (fun _ _ _ h => h) ⟨M2, (hv.below HB), trivial⟩ ?_
    refine sd_take 5 rfl (by kernel_rfl) (by kernel_rfl) (by kernel_rfl) (by kernel_rfl) rfl rfl (.int .i64 ((l.getD j (0, false)).1)) (fun w9 h9 => ex_load1 rfl (h9.2.1.cell (k := j) (by omega) 0 rfl) (by kernel_rfl) Try.underlying3 rfl) (fun _ _ _ h => h) ⟨M2, (hv.below HB), trivial⟩ ?_
    refine sd_all [6] (by kernel_rfl) (by decide) ?_
    refine sd_call (i := 6) rfl (by kernel_rfl) rfl rfl (refVisitsI_n o0 o1 o2 o3 o4 o5 n0 n1 n2 n4 n5 c0 c1 c2 c3 c4 c5 ol (l.getD j (0, false)).1 hx.1 hx.2 hn Y4 (hos.below HB)) (by kernel_rfl) ?_ AllReadyH.nil
    rintro e W5 ⟨oa91, c91, rfl, ⟨hvs91, -, -⟩, hb⟩
    replace HB := over HB hb
    replace M2 := M2.below hb
    replace HL := over HL hb
    have z4 := hb.size
    clear hb
    refine ⟨_, rfl, ⟨M2, (hv.below HB), trivial⟩, ?_⟩
    obtain ⟨bv91, qv91, hvr91⟩ := hvs91.rw2
    clear hvs91
    refine sd_take 7 rfl (by kernel_rfl) (by kernel_rfl) (by kernel_rfl) (by kernel_rfl) rfl rfl (.slice oa91 (visR ol (l.getD j (0, false)).1.toNat).length c91) (fun w9 _ => by kernel_rfl) (fun _ _ _ h => h) ⟨M2, (hv.below HB), trivial⟩ ?_
    refine sd_done (by kernel_rfl) ?_
    refine sx_norm ?_
    refine wp_seq ?_
    obtain ⟨Y6, hW⟩ : ∃ W, W5.drew = W := ⟨_, rfl⟩
    have hb : Below W5.heap.size W5 Y6 := hW ▸ below_drew (Below.refl _ _)
    replace HB := over HB hb
    replace M2 := M2.below hb
    replace HL := over HL hb
    replace hvr91 := hvr91.below hb
    have z5 := hb.size
    clear hb
    refine sd_begin (fun W => Cb W (w.heap.size) #[.slice o0 n0 c0, .slice o1 n1 c1, .slice o2 n2 c2, .slice o3 ol.length c3, .slice o4 n4 c4, .slice o5 n5 c5] 30 ∧ Rw W bv91 qv91 2 (vF (visR ol (l.getD j (0, false)).1.toNat)) ((visR ol (l.getD j (0, false)).1.toNat).length) oa91 ∧ Rw W b o 2 (vF l) l.length oa ∧ True) (by kernel_rfl) (by rw [hW]; exact ⟨M2, hvr91, (hv.below HB), trivial⟩) ?_
    rw [hW]
    clear hW
    refine sd_take 0 rfl (by kernel_rfl) (by kernel_rfl) (by kernel_rfl) (by kernel_rfl) rfl rfl (.slice oa91 (visR ol (l.getD j (0, false)).1.toNat).length c91) (fun w9 _ => by kernel_rfl) (fun _ _ _ h => h) ⟨M2, hvr91, (hv.below HB), trivial⟩ ?_
    refine sd_take 1 rfl (by kernel_rfl) (by kernel_rfl) (by kernel_rfl) (by kernel_rfl) rfl rfl (.slice oa l.length c) (fun w9 _ => by kernel_rfl) (fun _ _ _ h => h) ⟨M2, hvr91, (hv.below HB), trivial⟩ ?_
    refine sd_take 2 rfl (by kernel_rfl) (by kernel_rfl) (by kernel_rfl) (by kernel_rfl) rfl rfl (.int .i64 ((j : Nat) : Int)) (fun w9 _ => by kernel_rfl) (fun _ _ _ h => h) ⟨M2, hvr91, (hv.below HB), trivial⟩ ?_
    refine sd_take 3 rfl (by kernel_rfl) (by kernel_rfl) (by kernel_rfl) (by kernel_rfl) rfl rfl (.pointer (some ⟨b, o + j * 2, none⟩)) (fun w9 h9 => ex_indexO (q := o) (m := l.length) (c := c) (k := j) (s := 2) rfl (by kernel_rfl) (h9.2.2.1.oa (k := j) (by omega)) (by kernel_rfl) Try.underlying32 (by kernel_rfl) (by omega) (by omega)) (fun _ _ _ h => h) ⟨M2, hvr91, (hv.below HB), trivial⟩ ?_
    refine sd_take 4 rfl (by kernel_rfl) (by kernel_rfl) (by kernel_rfl) (by kernel_rfl) rfl rfl (.agg #[.int .i64 ((l.getD j (0, false)).1), .bool (l.getD j (0, false)).2]) (fun w9 h9 => ex_loadR rfl (h9.2.2.1.range (k := j) (by omega)) (by kernel_rfl) Try.underlying52 rfl (by kernel_rfl)) (fun _ _ _ h => h) ⟨M2, hvr91, (hv.below HB), trivial⟩ ?_
    refine sd_all [5] (by kernel_rfl) (by decide) ?_
    refine sd_call (i := 5) rfl (by kernel_rfl) rfl rfl (refIndex_n (l.getD j (0, false)) (visR ol (l.getD j (0, false)).1.toNat) (Nat.le_trans (visR_len _ _) (by decide)) oa91 c91 bv91 qv91 Y6 hvr91) (by kernel_rfl) ?_ AllReadyH.nil
    rintro e W7 ⟨rfl, hb⟩
    replace HB := over HB hb
    replace M2 := M2.below hb
    replace HL := over HL hb
    replace hvr91 := hvr91.below hb
    have z6 := hb.size
    clear hb
    refine ⟨_, rfl, ⟨M2, hvr91, (hv.below HB), trivial⟩, ?_⟩
    by_cases C2 : (idxV (visR ol (l.getD j (0, false)).1.toNat) (l.getD j (0, false))) < 0
    · refine sd_take 6 rfl (by kernel_rfl) (by kernel_rfl) (by kernel_rfl) (by kernel_rfl) rfl rfl (.bool true) (fun w9 _ => ex_bool (decide ((idxV (visR ol (l.getD j (0, false)).1.toNat) (l.getD j (0, false))) < 0)) true (by kernel_rfl) (decide_eq_true (by omega))) (fun _ _ _ h => h) ⟨M2, hvr91, (hv.below HB), trivial⟩ ?_
      refine sd_take 7 rfl (by kernel_rfl) (by kernel_rfl) (by kernel_rfl) (by kernel_rfl) rfl rfl (.bool true) (fun w9 _ => by kernel_rfl) (fun _ _ _ h => h) ⟨M2, hvr91, (hv.below HB), trivial⟩ ?_
      refine sd_pass 8 rfl (by kernel_rfl) (by kernel_rfl) (by kernel_rfl) (by kernel_rfl) rfl rfl (fun _ _ _ h => h) ⟨M2, hvr91, (hv.below HB), trivial⟩ ?_
      refine sd_pass 9 rfl (by kernel_rfl) (by kernel_rfl) (by kernel_rfl) (by kernel_rfl) rfl rfl (fun _ _ _ h => h) ⟨M2, hvr91, (hv.below HB), trivial⟩ ?_
      refine sd_pass 10 rfl (by kernel_rfl) (by kernel_rfl) (by kernel_rfl) (by kernel_rfl) rfl rfl (fun _ _ _ h => h) ⟨M2, hvr91, (hv.below HB), trivial⟩ ?_
      refine sd_pass 11 rfl (by kernel_rfl) (by kernel_rfl) (by kernel_rfl) (by kernel_rfl) rfl rfl (fun _ _ _ h => h) ⟨M2, hvr91, (hv.below HB), trivial⟩ ?_
      refine sd_take 12 rfl (by kernel_rfl) (by kernel_rfl) (by kernel_rfl) (by kernel_rfl) rfl rfl (.bool true) (fun w9 _ => by kernel_rfl) (fun _ _ _ h => h) ⟨M2, hvr91, (hv.below HB), trivial⟩ ?_
      refine sd_take 13 rfl (by kernel_rfl) (by kernel_rfl) (by kernel_rfl) (by kernel_rfl) rfl rfl (.bool true) (fun w9 _ => by kernel_rfl) (fun _ _ _ h => h) ⟨M2, hvr91, (hv.below HB), trivial⟩ ?_
      refine sd_pass 14 rfl (by kernel_rfl) (by kernel_rfl) (by kernel_rfl) (by kernel_rfl) rfl rfl (fun _ _ _ h => h) ⟨M2, hvr91, (hv.below HB), trivial⟩ ?_
      refine sd_pass 15 rfl (by kernel_rfl) (by kernel_rfl) (by kernel_rfl) (by kernel_rfl) rfl rfl (fun _ _ _ h => h) ⟨M2, hvr91, (hv.below HB), trivial⟩ ?_
      refine sd_pass 16 rfl (by kernel_rfl) (by kernel_rfl) (by kernel_rfl) (by kernel_rfl) rfl rfl (fun _ _ _ h => h) ⟨M2, hvr91, (hv.below HB), trivial⟩ ?_
      refine sd_pass 17 rfl (by kernel_rfl) (by kernel_rfl) (by kernel_rfl) (by kernel_rfl) rfl rfl (fun _ _ _ h => h) ⟨M2, hvr91, (hv.below HB), trivial⟩ ?_
      refine sd_pass 18 rfl (by kernel_rfl) (by kernel_rfl) (by kernel_rfl) (by kernel_rfl) rfl rfl (fun _ _ _ h => h) ⟨M2, hvr91, (hv.below HB), trivial⟩ ?_
      refine sd_pass 19 rfl (by kernel_rfl) (by kernel_rfl) (by kernel_rfl) (by kernel_rfl) rfl rfl (fun _ _ _ h => h) ⟨M2, hvr91, (hv.below HB), trivial⟩ ?_
      refine sd_pass 20 rfl (by kernel_rfl) (by kernel_rfl) (by kernel_rfl) (by kernel_rfl) rfl rfl (fun _ _ _ h => h) ⟨M2, hvr91, (hv.below HB), trivial⟩ ?_
      refine sd_pass 21 rfl (by kernel_rfl) (by kernel_rfl) (by kernel_rfl) (by kernel_rfl) rfl rfl (fun _ _ _ h => h) ⟨M2, hvr91, (hv.below HB), trivial⟩ ?_
      refine sd_pass 22 rfl (by kernel_rfl) (by kernel_rfl) (by kernel_rfl) (by kernel_rfl) rfl rfl (fun _ _ _ h => h) ⟨M2, hvr91, (hv.below HB), trivial⟩ ?_
      refine sd_pass 23 rfl (by kernel_rfl) (by kernel_rfl) (by kernel_rfl) (by kernel_rfl) rfl rfl (fun _ _ _ h => h) ⟨M2, hvr91, (hv.below HB), trivial⟩ ?_
      refine sd_pass 24 rfl (by kernel_rfl) (by kernel_rfl) (by kernel_rfl) (by kernel_rfl) rfl rfl (fun _ _ _ h => h) ⟨M2, hvr91, (hv.below HB), trivial⟩ ?_
      refine sd_pass 25 rfl (by kernel_rfl) (by kernel_rfl) (by kernel_rfl) (by kernel_rfl) rfl rfl (fun _ _ _ h => h) ⟨M2, hvr91, (hv.below HB), trivial⟩ ?_
      refine sd_pass 26 rfl (by kernel_rfl) (by kernel_rfl) (by kernel_rfl) (by kernel_rfl) rfl rfl (fun _ _ _ h => h) ⟨M2, hvr91, (hv.below HB), trivial⟩ ?_
      refine sd_pass 27 rfl (by kernel_rfl) (by kernel_rfl) (by kernel_rfl) (by kernel_rfl) rfl rfl (fun _ _ _ h => h) ⟨M2, hvr91, (hv.below HB), trivial⟩ ?_
      refine sd_pass 28 rfl (by kernel_rfl) (by kernel_rfl) (by kernel_rfl) (by kernel_rfl) rfl rfl (fun _ _ _ h => h) ⟨M2, hvr91, (hv.below HB), trivial⟩ ?_
      refine sd_pass 29 rfl (by kernel_rfl) (by kernel_rfl) (by kernel_rfl) (by kernel_rfl) rfl rfl (fun _ _ _ h => h) ⟨M2, hvr91, (hv.below HB), trivial⟩ ?_
      refine sd_take 30 rfl (by kernel_rfl) (by kernel_rfl) (by kernel_rfl) (by kernel_rfl) rfl rfl (.bool true) (fun w9 _ => by kernel_rfl) (fun _ _ _ h => h) ⟨M2, hvr91, (hv.below HB), trivial⟩ ?_
      refine sd_done (by kernel_rfl) ?_
      refine sx_norm ?_
      refine sx_true (by kernel_rfl) ?_
      refine wp_seq ?_
      refine wp_region_lit ?_
      refine sx_val (by kernel_rfl) rfl rfl (.bool false) (by kernel_rfl) ?_
      refine wpList_nil ?_
      refine sx_norm ?_
      refine wp_ret ?_
      refine sx_rb ?_
      refine sx_rs ?_
      refine sx_rs ?_
      refine sx_rb ?_
      refine sx_rs ?_
      refine sx_ret1 (.bool false) rfl rfl (by kernel_rfl) ⟨ret_bool (allP_no (d := (0, false)) (j := j) (by omega) ?_).symm, HB⟩
      unfold prdP
      first
        | (rw [decide_eq_true (by assumption : idxV _ _ < 0)]; rfl)
        | (rw [show conV l _ = false by simpa using (by assumption : ¬ conV l _ = true), Bool.and_false]; rfl)
        | (rw [decide_eq_true (by assumption : (visR ol _).length = 2), decide_eq_true (by assumption : idxV l _ > idxV l _), Bool.and_true]; exact Bool.and_false _)
    refine sd_take 6 rfl (by kernel_rfl) (by kernel_rfl) (by kernel_rfl) (by kernel_rfl) rfl rfl (.bool false) (fun w9 _ => ex_bool (decide ((idxV (visR ol (l.getD j (0, false)).1.toNat) (l.getD j (0, false))) < 0)) false (by kernel_rfl) (decide_eq_false (by omega))) (fun _ _ _ h => h) ⟨M2, hvr91, (hv.below HB), trivial⟩ ?_
    refine sd_take 7 rfl (by kernel_rfl) (by kernel_rfl) (by kernel_rfl) (by kernel_rfl) rfl rfl (.bool false) (fun w9 _ => by kernel_rfl) (fun _ _ _ h => h) ⟨M2, hvr91, (hv.below HB), trivial⟩ ?_
    refine sd_take 8 rfl (by kernel_rfl) (by kernel_rfl) (by kernel_rfl) (by kernel_rfl) rfl rfl (.slice oa l.length c) (fun w9 _ => by kernel_rfl) (fun _ _ _ h => h) ⟨M2, hvr91, (hv.below HB), trivial⟩ ?_
    refine sd_take 9 rfl (by kernel_rfl) (by kernel_rfl) (by kernel_rfl) (by kernel_rfl) rfl rfl (.slice oa91 (visR ol (l.getD j (0, false)).1.toNat).length c91) (fun w9 _ => by kernel_rfl) (fun _ _ _ h => h) ⟨M2, hvr91, (hv.below HB), trivial⟩ ?_
    refine sd_all [10] (by kernel_rfl) (by decide) ?_
    by_cases C3 : (conV l (visR ol (l.getD j (0, false)).1.toNat)) = true
    · refine sd_call (i := 10) rfl (by kernel_rfl) rfl rfl ((by have h8 := refContains_n l ll oa c b o (visR ol (l.getD j (0, false)).1.toNat) (Nat.le_trans (visR_len _ _) (by decide)) oa91 c91 bv91 qv91 W7 (hv.below HB) hvr91; rw [show (conV l (visR ol (l.getD j (0, false)).1.toNat)) = true by simpa using C3] at h8; exact h8)) (by kernel_rfl) ?_ AllReadyH.nil
      rintro e W8 ⟨rfl, hb⟩
      replace HB := over HB hb
      replace M2 := M2.below hb
      replace HL := over HL hb
      replace hvr91 := hvr91.below hb
      have z7 := hb.size
      clear hb
      refine ⟨_, rfl, ⟨M2, hvr91, (hv.below HB), trivial⟩, ?_⟩
      refine sd_take 11 rfl (by kernel_rfl) (by kernel_rfl) (by kernel_rfl) (by kernel_rfl) rfl rfl (.bool false) (fun w9 _ => by kernel_rfl) (fun _ _ _ h => h) ⟨M2, hvr91, (hv.below HB), trivial⟩ ?_
      refine sd_take 12 rfl (by kernel_rfl) (by kernel_rfl) (by kernel_rfl) (by kernel_rfl) rfl rfl (.bool false) (fun w9 _ => by kernel_rfl) (fun _ _ _ h => h) ⟨M2, hvr91, (hv.below HB), trivial⟩ ?_
      refine sd_take 13 rfl (by kernel_rfl) (by kernel_rfl) (by kernel_rfl) (by kernel_rfl) rfl rfl (.bool false) (fun w9 _ => by kernel_rfl) (fun _ _ _ h => h) ⟨M2, hvr91, (hv.below HB), trivial⟩ ?_
      refine sd_take 14 rfl (by kernel_rfl) (by kernel_rfl) (by kernel_rfl) (by kernel_rfl) rfl rfl (.slice oa91 (visR ol (l.getD j (0, false)).1.toNat).length c91) (fun w9 _ => by kernel_rfl) (fun _ _ _ h => h) ⟨M2, hvr91, (hv.below HB), trivial⟩ ?_
      refine sd_take 15 rfl (by kernel_rfl) (by kernel_rfl) (by kernel_rfl) (by kernel_rfl) rfl rfl (.int .i64 (((visR ol (l.getD j (0, false)).1.toNat).length : Nat) : Int)) (fun w9 _ => by kernel_rfl) (fun _ _ _ h => h) ⟨M2, hvr91, (hv.below HB), trivial⟩ ?_
      by_cases C4 : (visR ol (l.getD j (0, false)).1.toNat).length = 2
      · refine sd_take 16 rfl (by kernel_rfl) (by kernel_rfl) (by kernel_rfl) (by kernel_rfl) rfl rfl (.bool true) (fun w9 _ => ex_bool (((((visR ol (l.getD j (0, false)).1.toNat).length : Nat) : Int) : Int) == (2 : Int)) true (by kernel_rfl) (beq_iff_eq.2 (by omega))) (fun _ _ _ h => h) ⟨M2, hvr91, (hv.below HB), trivial⟩ ?_
        refine sd_take 17 rfl (by kernel_rfl) (by kernel_rfl) (by kernel_rfl) (by kernel_rfl) rfl rfl (.bool true) (fun w9 _ => by kernel_rfl) (fun _ _ _ h => h) ⟨M2, hvr91, (hv.below HB), trivial⟩ ?_
        refine sd_take 18 rfl (by kernel_rfl) (by kernel_rfl) (by kernel_rfl) (by kernel_rfl) rfl rfl (.slice oa l.length c) (fun w9 _ => by kernel_rfl) (fun _ _ _ h => h) ⟨M2, hvr91, (hv.below HB), trivial⟩ ?_
        refine sd_take 19 rfl (by kernel_rfl) (by kernel_rfl) (by kernel_rfl) (by kernel_rfl) rfl rfl (.slice oa91 (visR ol (l.getD j (0, false)).1.toNat).length c91) (fun w9 _ => by kernel_rfl) (fun _ _ _ h => h) ⟨M2, hvr91, (hv.below HB), trivial⟩ ?_
        refine sd_take 20 rfl (by kernel_rfl) (by kernel_rfl) (by kernel_rfl) (by kernel_rfl) rfl rfl (.pointer (some ⟨bv91, qv91 + 0 * 2, none⟩)) (fun w9 h9 => ex_indexO (q := qv91) (m := (visR ol (l.getD j (0, false)).1.toNat).length) (c := c91) (k := 0) (s := 2) rfl (by kernel_rfl) (h9.2.1.oa (k := 0) (by omega)) (by kernel_rfl) Try.underlying32 (by kernel_rfl) (by omega) (by omega)) (fun _ _ _ h => h) ⟨M2, hvr91, (hv.below HB), trivial⟩ ?_
        refine sd_take 21 rfl (by kernel_rfl) (by kernel_rfl) (by kernel_rfl) (by kernel_rfl) rfl rfl (.agg #[.int .i64 (((visR ol (l.getD j (0, false)).1.toNat).getD 0 (0, false)).1), .bool ((visR ol (l.getD j (0, false)).1.toNat).getD 0 (0, false)).2]) (fun w9 h9 => ex_loadR rfl (h9.2.1.range (k := 0) (by omega)) (by kernel_rfl) Try.underlying52 rfl (by kernel_rfl)) (fun _ _ _ h => h) ⟨M2, hvr91, (hv.below HB), trivial⟩ ?_
        refine sd_take 23 rfl (by kernel_rfl) (by kernel_rfl) (by kernel_rfl) (by kernel_rfl) rfl rfl (.slice oa l.length c) (fun w9 _ => by kernel_rfl) (fun _ _ _ h => h) ⟨M2, hvr91, (hv.below HB), trivial⟩ ?_
        refine sd_take 24 rfl (by kernel_rfl) (by kernel_rfl) (by kernel_rfl) (by kernel_rfl) rfl rfl (.slice oa91 (visR ol (l.getD j (0, false)).1.toNat).length c91) (fun w9 _ => by kernel_rfl) (fun _ _ _ h => h) ⟨M2, hvr91, (hv.below HB), trivial⟩ ?_
        refine sd_take 25 rfl (by kernel_rfl) (by kernel_rfl) (by kernel_rfl) (by kernel_rfl) rfl rfl (.pointer (some ⟨bv91, qv91 + 1 * 2, none⟩)) (fun w9 h9 => ex_indexO (q := qv91) (m := (visR ol (l.getD j (0, false)).1.toNat).length) (c := c91) (k := 1) (s := 2) rfl (by kernel_rfl) (h9.2.1.oa (k := 1) (by omega)) (by kernel_rfl) Try.underlying32 (by kernel_rfl) (by omega) (by omega)) (fun _ _ _ h => h) ⟨M2, hvr91, (hv.below HB), trivial⟩ ?_
        refine sd_take 26 rfl (by kernel_rfl) (by kernel_rfl) (by kernel_rfl) (by kernel_rfl) rfl rfl (.agg #[.int .i64 (((visR ol (l.getD j (0, false)).1.toNat).getD 1 (0, false)).1), .bool ((visR ol (l.getD j (0, false)).1.toNat).getD 1 (0, false)).2]) (fun w9 h9 => ex_loadR rfl (h9.2.1.range (k := 1) (by omega)) (by kernel_rfl) Try.underlying52 rfl (by kernel_rfl)) (fun _ _ _ h => h) ⟨M2, hvr91, (hv.below HB), trivial⟩ ?_
        refine sd_all [22] (by kernel_rfl) (by decide) ?_
        refine sd_call (i := 22) rfl (by kernel_rfl) rfl rfl (refIndex_n ((visR ol (l.getD j (0, false)).1.toNat).getD 0 (0, false)) l ll oa c b o W8 (hv.below HB)) (by kernel_rfl) ?_ AllReadyH.nil
        rintro e W9 ⟨rfl, hb⟩
        replace HB := over HB hb
        replace M2 := M2.below hb
        replace HL := over HL hb
        replace hvr91 := hvr91.below hb
        have z8 := hb.size
        clear hb
        refine ⟨_, rfl, ⟨M2, hvr91, (hv.below HB), trivial⟩, ?_⟩
        refine sd_all [27] (by kernel_rfl) (by decide) ?_
        refine sd_call (i := 27) rfl (by kernel_rfl) rfl rfl (refIndex_n ((visR ol (l.getD j (0, false)).1.toNat).getD 1 (0, false)) l ll oa c b o W9 (hv.below HB)) (by kernel_rfl) ?_ AllReadyH.nil
        rintro e W10 ⟨rfl, hb⟩
        replace HB := over HB hb
        replace M2 := M2.below hb
        replace HL := over HL hb
        replace hvr91 := hvr91.below hb
        have z9 := hb.size
        clear hb
        refine ⟨_, rfl, ⟨M2, hvr91, (hv.below HB), trivial⟩, ?_⟩
        by_cases C5 : (idxV l ((visR ol (l.getD j (0, false)).1.toNat).getD 0 (0, false))) > (idxV l ((visR ol (l.getD j (0, false)).1.toNat).getD 1 (0, false)))
        · refine sd_take 28 rfl (by kernel_rfl) (by kernel_rfl) (by kernel_rfl) (by kernel_rfl) rfl rfl (.bool true) (fun w9 _ => ex_bool (decide ((idxV l ((visR ol (l.getD j (0, false)).1.toNat).getD 0 (0, false))) > (idxV l ((visR ol (l.getD j (0, false)).1.toNat).getD 1 (0, false))))) true (by kernel_rfl) (decide_eq_true (by omega))) (fun _ _ _ h => h) ⟨M2, hvr91, (hv.below HB), trivial⟩ ?_
          refine sd_take 29 rfl (by kernel_rfl) (by kernel_rfl) (by kernel_rfl) (by kernel_rfl) rfl rfl (.bool true) (fun w9 _ => by kernel_rfl) (fun _ _ _ h => h) ⟨M2, hvr91, (hv.below HB), trivial⟩ ?_
          refine sd_take 30 rfl (by kernel_rfl) (by kernel_rfl) (by kernel_rfl) (by kernel_rfl) rfl rfl (.bool true) (fun w9 _ => by kernel_rfl) (fun _ _ _ h => h) ⟨M2, hvr91, (hv.below HB), trivial⟩ ?_
          refine sd_done (by kernel_rfl) ?_
          refine sx_norm ?_
          refine sx_true (by kernel_rfl) ?_
          refine wp_seq ?_
          refine wp_region_lit ?_
          refine sx_val (by kernel_rfl) rfl rfl (.bool false) (by kernel_rfl) ?_
          refine wpList_nil ?_
          refine sx_norm ?_
          refine wp_ret ?_
          refine sx_rb ?_
          refine sx_rs ?_
          refine sx_rs ?_
          refine sx_rb ?_
          refine sx_rs ?_
          refine sx_ret1 (.bool false) rfl rfl (by kernel_rfl) ⟨ret_bool (allP_no (d := (0, false)) (j := j) (by omega) ?_).symm, HB⟩
          unfold prdP
          first
            | (rw [decide_eq_true (by assumption : idxV _ _ < 0)]; rfl)
            | (rw [show conV l _ = false by simpa using (by assumption : ¬ conV l _ = true), Bool.and_false]; rfl)
            | (rw [decide_eq_true (by assumption : (visR ol _).length = 2), decide_eq_true (by assumption : idxV l _ > idxV l _), Bool.and_true]; exact Bool.and_false _)
        refine sd_take 28 rfl (by kernel_rfl) (by kernel_rfl) (by kernel_rfl) (by kernel_rfl) rfl rfl (.bool false) (fun w9 _ => ex_bool (decide ((idxV l ((visR ol (l.getD j (0, false)).1.toNat).getD 0 (0, false))) > (idxV l ((visR ol (l.getD j (0, false)).1.toNat).getD 1 (0, false))))) false (by kernel_rfl) (decide_eq_false (by omega))) (fun _ _ _ h => h) ⟨M2, hvr91, (hv.below HB), trivial⟩ ?_
        refine sd_take 29 rfl (by kernel_rfl) (by kernel_rfl) (by kernel_rfl) (by kernel_rfl) rfl rfl (.bool false) (fun w9 _ => by kernel_rfl) (fun _ _ _ h => h) ⟨M2, hvr91, (hv.below HB), trivial⟩ ?_
        refine sd_take 30 rfl (by kernel_rfl) (by kernel_rfl) (by kernel_rfl) (by kernel_rfl) rfl rfl (.bool false) (fun w9 _ => by kernel_rfl) (fun _ _ _ h => h) ⟨M2, hvr91, (hv.below HB), trivial⟩ ?_
        refine sd_done (by kernel_rfl) ?_
        refine sx_norm ?_
        refine sx_false (by kernel_rfl) ?_
        refine wp_skip ?_
        refine sx_in ?_
        refine sx_norm ?_
        refine wp_region_lit ?_
        refine sx_val (by kernel_rfl) rfl rfl (.int .i64 ((j : Nat) : Int)) (by kernel_rfl) ?_
        refine sx_int (by kernel_rfl) rfl rfl .i64 (IntKind.i64.wrap (((j : Nat) : Int) + 1)) (((j + 1 : Nat) : Int)) (by kernel_rfl) (by rw [IntKind.wrap_i64]; omega) ?_
        refine sx_val (by kernel_rfl) rfl rfl (.int .i64 ((j + 1 : Nat) : Int)) (by kernel_rfl) ?_
        refine wpList_nil ?_
        refine sx_norm ?_
        refine sx_again (l.length - (j + 1)) (j + 1) (by omega) (by kernel_rfl) ⟨by omega, Nat.le_refl _, allP_take (d := (0, false)) (by omega) hI ?_, HL⟩
        unfold prdP
        rw [decide_eq_false (by assumption : ¬ idxV _ _ < 0), show conV l _ = true by assumption]
        first | (rw [decide_eq_false (by assumption : ¬ (visR ol _).length = 2)]; rfl) | (rw [decide_eq_false (by assumption : ¬ idxV l _ > idxV l _), Bool.and_false]; rfl)
      refine sd_take 16 rfl (by kernel_rfl) (by kernel_rfl) (by kernel_rfl) (by kernel_rfl) rfl rfl (.bool false) (fun w9 _ => ex_bool (((((visR ol (l.getD j (0, false)).1.toNat).length : Nat) : Int) : Int) == (2 : Int)) false (by kernel_rfl) (beq_eq_false_iff_ne.2 (by omega))) (fun _ _ _ h => h) ⟨M2, hvr91, (hv.below HB), trivial⟩ ?_
      refine sd_take 17 rfl (by kernel_rfl) (by kernel_rfl) (by kernel_rfl) (by kernel_rfl) rfl rfl (.bool false) (fun w9 _ => by kernel_rfl) (fun _ _ _ h => h) ⟨M2, hvr91, (hv.below HB), trivial⟩ ?_
      refine sd_pass 18 rfl (by kernel_rfl) (by kernel_rfl) (by kernel_rfl) (by kernel_rfl) rfl rfl (fun _ _ _ h => h) ⟨M2, hvr91, (hv.below HB), trivial⟩ ?_
      refine sd_pass 19 rfl (by kernel_rfl) (by kernel_rfl) (by kernel_rfl) (by kernel_rfl) rfl rfl (fun _ _ _ h => h) ⟨M2, hvr91, (hv.below HB), trivial⟩ ?_
      refine sd_pass 20 rfl (by kernel_rfl) (by kernel_rfl) (by kernel_rfl) (by kernel_rfl) rfl rfl (fun _ _ _ h => h) ⟨M2, hvr91, (hv.below HB), trivial⟩ ?_
      refine sd_pass 21 rfl (by kernel_rfl) (by kernel_rfl) (by kernel_rfl) (by kernel_rfl) rfl rfl (fun _ _ _ h => h) ⟨M2, hvr91, (hv.below HB), trivial⟩ ?_
      refine sd_pass 22 rfl (by kernel_rfl) (by kernel_rfl) (by kernel_rfl) (by kernel_rfl) rfl rfl (fun _ _ _ h => h) ⟨M2, hvr91, (hv.below HB), trivial⟩ ?_
      refine sd_pass 23 rfl (by kernel_rfl) (by kernel_rfl) (by kernel_rfl) (by kernel_rfl) rfl rfl (fun _ _ _ h => h) ⟨M2, hvr91, (hv.below HB), trivial⟩ ?_
      refine sd_pass 24 rfl (by kernel_rfl) (by kernel_rfl) (by kernel_rfl) (by kernel_rfl) rfl rfl (fun _ _ _ h => h) ⟨M2, hvr91, (hv.below HB), trivial⟩ ?_
      refine sd_pass 25 rfl (by kernel_rfl) (by kernel_rfl) (by kernel_rfl) (by kernel_rfl) rfl rfl (fun _ _ _ h => h) ⟨M2, hvr91, (hv.below HB), trivial⟩ ?_
      refine sd_pass 26 rfl (by kernel_rfl) (by kernel_rfl) (by kernel_rfl) (by kernel_rfl) rfl rfl (fun _ _ _ h => h) ⟨M2, hvr91, (hv.below HB), trivial⟩ ?_
      refine sd_pass 27 rfl (by kernel_rfl) (by kernel_rfl) (by kernel_rfl) (by kernel_rfl) rfl rfl (fun _ _ _ h => h) ⟨M2, hvr91, (hv.below HB), trivial⟩ ?_
      refine sd_pass 28 rfl (by kernel_rfl) (by kernel_rfl) (by kernel_rfl) (by kernel_rfl) rfl rfl (fun _ _ _ h => h) ⟨M2, hvr91, (hv.below HB), trivial⟩ ?_
      refine sd_take 29 rfl (by kernel_rfl) (by kernel_rfl) (by kernel_rfl) (by kernel_rfl) rfl rfl (.bool false) (fun w9 _ => by kernel_rfl) (fun _ _ _ h => h) ⟨M2, hvr91, (hv.below HB), trivial⟩ ?_
      refine sd_take 30 rfl (by kernel_rfl) (by kernel_rfl) (by kernel_rfl) (by kernel_rfl) rfl rfl (.bool false) (fun w9 _ => by kernel_rfl) (fun _ _ _ h => h) ⟨M2, hvr91, (hv.below HB), trivial⟩ ?_
      refine sd_done (by kernel_rfl) ?_
      refine sx_norm ?_
      refine sx_false (by kernel_rfl) ?_
      refine wp_skip ?_
      refine sx_in ?_
      refine sx_norm ?_
      refine wp_region_lit ?_
      refine sx_val (by kernel_rfl) rfl rfl (.int .i64 ((j : Nat) : Int)) (by kernel_rfl) ?_
      refine sx_int (by kernel_rfl) rfl rfl .i64 (IntKind.i64.wrap (((j : Nat) : Int) + 1)) (((j + 1 : Nat) : Int)) (by kernel_rfl) (by rw [IntKind.wrap_i64]; omega) ?_
      refine sx_val (by kernel_rfl) rfl rfl (.int .i64 ((j + 1 : Nat) : Int)) (by kernel_rfl) ?_
      refine wpList_nil ?_
      refine sx_norm ?_
      refine sx_again (l.length - (j + 1)) (j + 1) (by omega) (by kernel_rfl) ⟨by omega, Nat.le_refl _, allP_take (d := (0, false)) (by omega) hI ?_, HL⟩
      unfold prdP
      rw [decide_eq_false (by assumption : ¬ idxV _ _ < 0), show conV l _ = true by assumption]
      first | (rw [decide_eq_false (by assumption : ¬ (visR ol _).length = 2)]; rfl) | (rw [decide_eq_false (by assumption : ¬ idxV l _ > idxV l _), Bool.and_false]; rfl)
    refine sd_call (i := 10) rfl (by kernel_rfl) rfl rfl ((by have h8 := refContains_n l ll oa c b o (visR ol (l.getD j (0, false)).1.toNat) (Nat.le_trans (visR_len _ _) (by decide)) oa91 c91 bv91 qv91 W7 (hv.below HB) hvr91; rw [show (conV l (visR ol (l.getD j (0, false)).1.toNat)) = false by simpa using C3] at h8; exact h8)) (by kernel_rfl) ?_ AllReadyH.nil
    rintro e W11 ⟨rfl, hb⟩
    replace HB := over HB hb
    replace M2 := M2.below hb
    replace HL := over HL hb
    replace hvr91 := hvr91.below hb
    have z7 := hb.size
    clear hb
    refine ⟨_, rfl, ⟨M2, hvr91, (hv.below HB), trivial⟩, ?_⟩
    refine sd_take 11 rfl (by kernel_rfl) (by kernel_rfl) (by kernel_rfl) (by kernel_rfl) rfl rfl (.bool true) (fun w9 _ => by kernel_rfl) (fun _ _ _ h => h) ⟨M2, hvr91, (hv.below HB), trivial⟩ ?_
    refine sd_take 12 rfl (by kernel_rfl) (by kernel_rfl) (by kernel_rfl) (by kernel_rfl) rfl rfl (.bool true) (fun w9 _ => by kernel_rfl) (fun _ _ _ h => h) ⟨M2, hvr91, (hv.below HB), trivial⟩ ?_
    refine sd_take 13 rfl (by kernel_rfl) (by kernel_rfl) (by kernel_rfl) (by kernel_rfl) rfl rfl (.bool true) (fun w9 _ => by kernel_rfl) (fun _ _ _ h => h) ⟨M2, hvr91, (hv.below HB), trivial⟩ ?_
    refine sd_pass 14 rfl (by kernel_rfl) (by kernel_rfl) (by kernel_rfl) (by kernel_rfl) rfl rfl (fun _ _ _ h => h) ⟨M2, hvr91, (hv.below HB), trivial⟩ ?_
    refine sd_pass 15 rfl (by kernel_rfl) (by kernel_rfl) (by kernel_rfl) (by kernel_rfl) rfl rfl (fun _ _ _ h => h) ⟨M2, hvr91, (hv.below HB), trivial⟩ ?_
    refine sd_pass 16 rfl (by kernel_rfl) (by kernel_rfl) (by kernel_rfl) (by kernel_rfl) rfl rfl (fun _ _ _ h => h) ⟨M2, hvr91, (hv.below HB), trivial⟩ ?_
    refine sd_pass 17 rfl (by kernel_rfl) (by kernel_rfl) (by kernel_rfl) (by kernel_rfl) rfl rfl (fun _ _ _ h => h) ⟨M2, hvr91, (hv.below HB), trivial⟩ ?_
    refine sd_pass 18 rfl (by kernel_rfl) (by kernel_rfl) (by kernel_rfl) (by kernel_rfl) rfl rfl (fun _ _ _ h => h) ⟨M2, hvr91, (hv.below HB), trivial⟩ ?_
    refine sd_pass 19 rfl (by kernel_rfl) (by kernel_rfl) (by kernel_rfl) (by kernel_rfl) rfl rfl (fun _ _ _ h => h) ⟨M2, hvr91, (hv.below HB), trivial⟩ ?_
    refine sd_pass 20 rfl (by kernel_rfl) (by kernel_rfl) (by kernel_rfl) (by kernel_rfl) rfl rfl (fun _ _ _ h => h) ⟨M2, hvr91, (hv.below HB), trivial⟩ ?_
    refine sd_pass 21 rfl (by kernel_rfl) (by kernel_rfl) (by kernel_rfl) (by kernel_rfl) rfl rfl (fun _ _ _ h => h) ⟨M2, hvr91, (hv.below HB), trivial⟩ ?_
    refine sd_pass 22 rfl (by kernel_rfl) (by kernel_rfl) (by kernel_rfl) (by kernel_rfl) rfl rfl (fun _ _ _ h => h) ⟨M2, hvr91, (hv.below HB), trivial⟩ ?_
    refine sd_pass 23 rfl (by kernel_rfl) (by kernel_rfl) (by kernel_rfl) (by kernel_rfl) rfl rfl (fun _ _ _ h => h) ⟨M2, hvr91, (hv.below HB), trivial⟩ ?_
    refine sd_pass 24 rfl (by kernel_rfl) (by kernel_rfl) (by kernel_rfl) (by kernel_rfl) rfl rfl (fun _ _ _ h => h) ⟨M2, hvr91, (hv.below HB), trivial⟩ ?_
    refine sd_pass 25 rfl (by kernel_rfl) (by kernel_rfl) (by kernel_rfl) (by kernel_rfl) rfl rfl (fun _ _ _ h => h) ⟨M2, hvr91, (hv.below HB), trivial⟩ ?_
    refine sd_pass 26 rfl (by kernel_rfl) (by kernel_rfl) (by kernel_rfl) (by kernel_rfl) rfl rfl (fun _ _ _ h => h) ⟨M2, hvr91, (hv.below HB), trivial⟩ ?_
    refine sd_pass 27 rfl (by kernel_rfl) (by kernel_rfl) (by kernel_rfl) (by kernel_rfl) rfl rfl (fun _ _ _ h => h) ⟨M2, hvr91, (hv.below HB), trivial⟩ ?_
    refine sd_pass 28 rfl (by kernel_rfl) (by kernel_rfl) (by kernel_rfl) (by kernel_rfl) rfl rfl (fun _ _ _ h => h) ⟨M2, hvr91, (hv.below HB), trivial⟩ ?_
    refine sd_pass 29 rfl (by kernel_rfl) (by kernel_rfl) (by kernel_rfl) (by kernel_rfl) rfl rfl (fun _ _ _ h => h) ⟨M2, hvr91, (hv.below HB), trivial⟩ ?_
    refine sd_take 30 rfl (by kernel_rfl) (by kernel_rfl) (by kernel_rfl) (by kernel_rfl) rfl rfl (.bool true) (fun w9 _ => by kernel_rfl) (fun _ _ _ h => h) ⟨M2, hvr91, (hv.below HB), trivial⟩ ?_
    refine sd_done (by kernel_rfl) ?_
    refine sx_norm ?_
    refine sx_true (by kernel_rfl) ?_
    refine wp_seq ?_
    refine wp_region_lit ?_
    refine sx_val (by kernel_rfl) rfl rfl (.bool false) (by kernel_rfl) ?_
    refine wpList_nil ?_
    refine sx_norm ?_
    refine wp_ret ?_
    refine sx_rb ?_
    refine sx_rs ?_
    refine sx_rs ?_
    refine sx_rb ?_
    refine sx_rs ?_
    refine sx_ret1 (.bool false) rfl rfl (by kernel_rfl) ⟨ret_bool (allP_no (d := (0, false)) (j := j) (by omega) ?_).symm, HB⟩
    unfold prdP
    first
      | (rw [decide_eq_true (by assumption : idxV _ _ < 0)]; rfl)
      | (rw [show conV l _ = false by simpa using (by assumption : ¬ conV l _ = true), Bool.and_false]; rfl)
      | (rw [decide_eq_true (by assumption : (visR ol _).length = 2), decide_eq_true (by assumption : idxV l _ > idxV l _), Bool.and_true]; exact Bool.and_false _)
  refine sx_bool (by kernel_rfl) rfl rfl (decide (((j : Nat) : Int) < ((l.length : Nat) : Int))) false (by kernel_rfl) (decide_eq_false (by omega)) ?_
  refine wpList_nil ?_
  refine sx_norm ?_
  refine sx_false (by kernel_rfl) ?_
  refine wp_exit ?_
  refine sx_es ?_
  refine sx_es ?_
  refine sx_out ?_
  refine sx_norm ?_
  refine wp_seq ?_
  refine wp_region_lit ?_
  refine sx_val (by kernel_rfl) rfl rfl (.bool true) (by kernel_rfl) ?_
  refine wpList_nil ?_
  refine sx_norm ?_
  refine wp_ret ?_
  exact sx_ret1 (.bool true) rfl rfl (by kernel_rfl) ⟨ret_bool (allP_end (by omega) hI).symm, HB⟩

end Go.Proofs.Ytoliacfpjhanlaa.T

