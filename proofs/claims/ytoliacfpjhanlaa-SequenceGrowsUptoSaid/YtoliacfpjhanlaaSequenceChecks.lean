/-
  DERIVED. SequenceChecks: a part of the base of layer 13 (made by pack.py).
-/
import Derived.Test.YtoliacfpjhanlaaHT
import Derived.Test.YtoliacfpjhanlaaSw
import Derived.Test.YtoliacfpjhanlaaSqChk3
import Derived.Test.YtoliacfpjhanlaaSqArgs2
/-! Few orders, and valid; the law SequenceChecks (by gen_uf.py). -/
namespace Go.Proofs.Ytoliacfpjhanlaa.T
open Go.RowKit
set_option maxRecDepth 8000
attribute [local irreducible] wpList Code.wp wpAnyH

def fewB (x : InT) : Bool := decide (x.ol.length ≤ 4) && decide ((inF x).length = 0)
theorem InV.inU {x : InT} (h : InV x) (h4 : x.ol.length ≤ 4) : InU x :=
  ⟨h.pl, h.al, h.wt, h.tl, fun i hi => Nat.le_trans (h.cap i hi) (by decide), by omega, fun i hi => Nat.le_trans (h.load i hi) (by decide), h.ap, h.be⟩
/-- what is valid: the orders' stops, the pairs -/
theorem few_ok {x : InT} (h : fewB x = true) : x.ol.length ≤ 4 ∧ Okv x.ol ∧ U.Rt x.ol.length x.ap ∧ U.Rt x.ol.length x.be ∧ x.ap.length ≤ 16 ∧ x.be.length ≤ 16 := by
  unfold fewB at h
  rw [Bool.and_eq_true, decide_eq_true_iff, decide_eq_true_iff] at h
  obtain ⟨h4, h0⟩ := h
  obtain ⟨-, -, h1, h2, h3⟩ := inF_nil.1 (List.eq_nil_of_length_eq_zero h0)
  have hor := (orderF_nil.1 h1).2
  have hE : ∀ i, i < x.ol.length → -1 ≤ (x.ol.getD i or0).pp ∧ -1 ≤ (x.ol.getD i or0).dp ∧ ¬ ((x.ol.getD i or0).pp = -1 ∧ (x.ol.getD i or0).dp = -1) := fun i hi => by
    have e9 := hor i hi
    unfold orE at e9
    simp only [List.append_eq_nil_iff, and_assoc] at e9
    obtain ⟨-, -, -, e4, e5, -⟩ := e9
    unfold orE4 at e4
    unfold orE5 at e5
    have e4' : (rgB (-1) (x.pl.length - 1) (x.ol.getD i or0).pp && rgB (-1) (x.pl.length - 1) (x.ol.getD i or0).dp) = true := by
      cases h : (rgB (-1) (x.pl.length - 1) (x.ol.getD i or0).pp && rgB (-1) (x.pl.length - 1) (x.ol.getD i or0).dp)
      · rw [h] at e4; cases e4
      · rfl
    have e5' : (decide ((x.ol.getD i or0).pp = -1) && decide ((x.ol.getD i or0).dp = -1)) = false := by
      cases h : (decide ((x.ol.getD i or0).pp = -1) && decide ((x.ol.getD i or0).dp = -1))
      · rfl
      · rw [h] at e5; cases e5
    unfold rgB at e4'
    simp only [Bool.and_eq_true, decide_eq_true_eq, Bool.and_eq_false_iff, decide_eq_false_iff_not] at e4' e5'
    exact ⟨e4'.1.1, e4'.2.1, fun h => e5'.elim (fun q => q h.1) (fun q => q h.2)⟩
  have hP : ∀ (t : Bool) (l : List (Int × Int)), OkP (x.ol.length : Nat) t l → U.Rt x.ol.length l ∧ l.length ≤ 16 := fun t l hl => ⟨fun p hp => by
    have h9 := hl.2.1 p hp
    unfold badP at h9
    simp only [Bool.or_eq_false_iff, decide_eq_false_iff_not, beq_eq_false_iff_ne] at h9
    omega, hl.1⟩
  exact ⟨h4, ⟨fun k hk => (hE k hk).1, fun k hk => (hE k hk).2.1, fun k hk => (hE k hk).2.2⟩, (hP _ _ h2).1, (hP _ _ h3).1, (hP _ _ h2).2, (hP _ _ h3).2⟩
theorem few_n (k : Iv) (x : InT) (hv : InV x) (w : World) (hI : Ins w k x) : Calls Try.prog 9 #[.agg #[.slice k.o0 x.pl.length k.c0, .slice k.o1 x.al.length k.c1, .slice k.o2 x.tl.length k.c2, .slice k.o3 x.ol.length k.c3, .slice k.o4 x.ap.length k.c4, .slice k.o5 x.be.length k.c5]] w fun e w' => e = .returned (.bool (fewB x)) ∧ Below w.heap.size w w' := by
  have HB : Below w.heap.size w w := Below.refl _ _
  refine sx_enter Try.func9 rfl [(0, .agg #[.slice k.o0 x.pl.length k.c0, .slice k.o1 x.al.length k.c1, .slice k.o2 x.tl.length k.c2, .slice k.o3 x.ol.length k.c3, .slice k.o4 x.ap.length k.c4, .slice k.o5 x.be.length k.c5])] (by kernel_rfl) ?_
  refine wp_seq ?_
  refine wp_region_lit ?_
  obtain ⟨W1, hW⟩ : ∃ W, w.alloc (.cells #[.slice k.o0 x.pl.length k.c0, .slice k.o1 x.al.length k.c1, .slice k.o2 x.tl.length k.c2, .slice k.o3 x.ol.length k.c3, .slice k.o4 x.ap.length k.c4, .slice k.o5 x.be.length k.c5] 30) = W := ⟨_, rfl⟩
  have hb := hW ▸ below_alloc w (.cells #[.slice k.o0 x.pl.length k.c0, .slice k.o1 x.al.length k.c1, .slice k.o2 x.tl.length k.c2, .slice k.o3 x.ol.length k.c3, .slice k.o4 x.ap.length k.c4, .slice k.o5 x.be.length k.c5] 30)
  have hq : Cb W1 w.heap.size #[.slice k.o0 x.pl.length k.c0, .slice k.o1 x.al.length k.c1, .slice k.o2 x.tl.length k.c2, .slice k.o3 x.ol.length k.c3, .slice k.o4 x.ap.length k.c4, .slice k.o5 x.be.length k.c5] 30 := hW ▸ Cb.made w #[.slice k.o0 x.pl.length k.c0, .slice k.o1 x.al.length k.c1, .slice k.o2 x.tl.length k.c2, .slice k.o3 x.ol.length k.c3, .slice k.o4 x.ap.length k.c4, .slice k.o5 x.be.length k.c5] 30
  refine sx_mem (by kernel_rfl) rfl rfl (.pointer (some ⟨w.heap.size, 0, none⟩)) W1 (by rw [← hW]; kernel_rfl) ?_
  replace HB := over HB hb
  have z1 := hb.size
  have M2 := hq
  have yM2 := hq.lt
  clear hq hb hW
  refine sx_val (by kernel_rfl) rfl rfl (.bool false) (by kernel_rfl) ?_
  refine wpList_nil ?_
  refine sx_norm ?_
  refine wp_seq ?_
  refine wp_region_lit ?_
  refine sx_val (by kernel_rfl) rfl rfl (.pointer (some ⟨w.heap.size, 3, none⟩)) (by kernel_rfl) ?_
  refine sx_val (by kernel_rfl) rfl rfl (.slice k.o3 x.ol.length k.c3) (ex_load1 rfl (M2.cell 3 rfl) (by kernel_rfl) Try.underlying27 rfl) ?_
  refine sx_val (by kernel_rfl) rfl rfl (.int .i64 ((x.ol.length : Nat) : Int)) (by kernel_rfl) ?_
  by_cases C1 : x.ol.length ≤ 4
  · refine sx_bool (by kernel_rfl) rfl rfl (decide (((x.ol.length : Nat) : Int) ≤ 4)) true (by kernel_rfl) (decide_eq_true (by omega)) ?_
    refine sx_val (by kernel_rfl) rfl rfl (.bool true) (by kernel_rfl) ?_
    refine sx_val (by kernel_rfl) rfl rfl (.agg #[.slice k.o0 x.pl.length k.c0, .slice k.o1 x.al.length k.c1, .slice k.o2 x.tl.length k.c2, .slice k.o3 x.ol.length k.c3, .slice k.o4 x.ap.length k.c4, .slice k.o5 x.be.length k.c5]) (ex_load rfl M2 (by kernel_rfl) Try.underlying30 rfl (by kernel_rfl)) ?_
    refine sx_call (by kernel_rfl) rfl rfl ((by have h8 := refInstU_n k.o0 k.o1 k.o2 k.o3 k.o4 k.o5 k.c0 k.c1 k.c2 k.c3 k.c4 k.c5 x (hv.inU (by omega)) W1 (hI.below HB).h0 (hI.below HB).h1 (hI.below HB).h2 (hI.below HB).h3 (hI.below HB).h4 (hI.below HB).h5; unfold inV at h8; exact h8)) (by kernel_rfl) ?_
    rintro e W3 ⟨oaf, cf, rfl, -, hb⟩
    replace HB := over HB hb
    replace M2 := M2.below hb
    have z2 := hb.size
    clear hb
    refine ⟨_, rfl, ?_⟩
    refine sx_val (by kernel_rfl) rfl rfl (.int .i64 (((inF x).length : Nat) : Int)) (by kernel_rfl) ?_
    by_cases C2 : (inF x).length = 0
    · refine sx_bool (by kernel_rfl) rfl rfl (((((inF x).length : Nat) : Int) : Int) == (0 : Int)) true (by kernel_rfl) (beq_iff_eq.2 (by omega)) ?_
      refine sx_val (by kernel_rfl) rfl rfl (.bool true) (by kernel_rfl) ?_
      refine sx_val (by kernel_rfl) rfl rfl (.bool true) (by kernel_rfl) ?_
      refine wpList_nil ?_
      refine sx_norm ?_
      refine wp_ret ?_
      exact sx_ret1 (.bool true) rfl rfl (by kernel_rfl) ⟨ret_bool (by unfold fewB; first | (rw [decide_eq_false (by assumption : ¬ x.ol.length ≤ 4)]; rfl) | (rw [decide_eq_true (by assumption : x.ol.length ≤ 4), decide_eq_true (by assumption : (inF x).length = 0)]; rfl) | (rw [decide_eq_true (by assumption : x.ol.length ≤ 4), decide_eq_false (by assumption : ¬ (inF x).length = 0)]; rfl)), HB⟩
    refine sx_bool (by kernel_rfl) rfl rfl (((((inF x).length : Nat) : Int) : Int) == (0 : Int)) false (by kernel_rfl) (beq_eq_false_iff_ne.2 (by omega)) ?_
    refine sx_val (by kernel_rfl) rfl rfl (.bool false) (by kernel_rfl) ?_
    refine sx_val (by kernel_rfl) rfl rfl (.bool false) (by kernel_rfl) ?_
    refine wpList_nil ?_
    refine sx_norm ?_
    refine wp_ret ?_
    exact sx_ret1 (.bool false) rfl rfl (by kernel_rfl) ⟨ret_bool (by unfold fewB; first | (rw [decide_eq_false (by assumption : ¬ x.ol.length ≤ 4)]; rfl) | (rw [decide_eq_true (by assumption : x.ol.length ≤ 4), decide_eq_true (by assumption : (inF x).length = 0)]; rfl) | (rw [decide_eq_true (by assumption : x.ol.length ≤ 4), decide_eq_false (by assumption : ¬ (inF x).length = 0)]; rfl)), HB⟩
  refine sx_bool (by kernel_rfl) rfl rfl (decide (((x.ol.length : Nat) : Int) ≤ 4)) false (by kernel_rfl) (decide_eq_false (by omega)) ?_
  refine sx_val (by kernel_rfl) rfl rfl (.bool false) (by kernel_rfl) ?_
  refine sx_skip (by kernel_rfl) rfl rfl ?_
  refine sx_skip (by kernel_rfl) rfl rfl ?_
  refine sx_skip (by kernel_rfl) rfl rfl ?_
  refine sx_skip (by kernel_rfl) rfl rfl ?_
  refine sx_val (by kernel_rfl) rfl rfl (.bool false) (by kernel_rfl) ?_
  refine sx_val (by kernel_rfl) rfl rfl (.bool false) (by kernel_rfl) ?_
  refine wpList_nil ?_
  refine sx_norm ?_
  refine wp_ret ?_
  exact sx_ret1 (.bool false) rfl rfl (by kernel_rfl) ⟨ret_bool (by unfold fewB; first | (rw [decide_eq_false (by assumption : ¬ x.ol.length ≤ 4)]; rfl) | (rw [decide_eq_true (by assumption : x.ol.length ≤ 4), decide_eq_true (by assumption : (inF x).length = 0)]; rfl) | (rw [decide_eq_true (by assumption : x.ol.length ≤ 4), decide_eq_false (by assumption : ¬ (inF x).length = 0)]; rfl)), HB⟩
theorem sequenceChecks_walk (k : Iv) (x : InT) (hv : InV x) (ty st : Int) (orr oa : Option Addr) (nr cr c b o : Nat) (l : List (Int × Bool)) (w : World) (hI : Ins w k x) (hl : Rw w b o 2 (vF l) l.length oa) : Calls Try.prog 3 #[.agg #[.slice k.o0 x.pl.length k.c0, .slice k.o1 x.al.length k.c1, .slice k.o2 x.tl.length k.c2, .slice k.o3 x.ol.length k.c3, .slice k.o4 x.ap.length k.c4, .slice k.o5 x.be.length k.c5], .agg #[.int .i64 ty, .int .i64 st, .slice orr nr cr, .slice oa l.length c]] w fun e w' => e = .returned (.bool true) ∧ Below w.heap.size w w' := by
  have HB : Below w.heap.size w w := Below.refl _ _
  refine sx_enter Try.func3 rfl [(0, .agg #[.slice k.o0 x.pl.length k.c0, .slice k.o1 x.al.length k.c1, .slice k.o2 x.tl.length k.c2, .slice k.o3 x.ol.length k.c3, .slice k.o4 x.ap.length k.c4, .slice k.o5 x.be.length k.c5]), (1, .agg #[.int .i64 ty, .int .i64 st, .slice orr nr cr, .slice oa l.length c])] (by kernel_rfl) ?_
  refine wp_seq ?_
  refine wp_region_lit ?_
  obtain ⟨W1, hW⟩ : ∃ W, w.alloc (.cells #[.slice k.o0 x.pl.length k.c0, .slice k.o1 x.al.length k.c1, .slice k.o2 x.tl.length k.c2, .slice k.o3 x.ol.length k.c3, .slice k.o4 x.ap.length k.c4, .slice k.o5 x.be.length k.c5] 30) = W := ⟨_, rfl⟩
  have hb := hW ▸ below_alloc w (.cells #[.slice k.o0 x.pl.length k.c0, .slice k.o1 x.al.length k.c1, .slice k.o2 x.tl.length k.c2, .slice k.o3 x.ol.length k.c3, .slice k.o4 x.ap.length k.c4, .slice k.o5 x.be.length k.c5] 30)
  have hq : Cb W1 w.heap.size #[.slice k.o0 x.pl.length k.c0, .slice k.o1 x.al.length k.c1, .slice k.o2 x.tl.length k.c2, .slice k.o3 x.ol.length k.c3, .slice k.o4 x.ap.length k.c4, .slice k.o5 x.be.length k.c5] 30 := hW ▸ Cb.made w #[.slice k.o0 x.pl.length k.c0, .slice k.o1 x.al.length k.c1, .slice k.o2 x.tl.length k.c2, .slice k.o3 x.ol.length k.c3, .slice k.o4 x.ap.length k.c4, .slice k.o5 x.be.length k.c5] 30
  refine sx_mem (by kernel_rfl) rfl rfl (.pointer (some ⟨w.heap.size, 0, none⟩)) W1 (by rw [← hW]; kernel_rfl) ?_
  replace HB := over HB hb
  have z1 := hb.size
  have M2 := hq
  have yM2 := hq.lt
  clear hq hb hW
  obtain ⟨W3, hW⟩ : ∃ W, W1.alloc (.cells #[.int .i64 ty, .int .i64 st, .slice orr nr cr, .slice oa l.length c] 34) = W := ⟨_, rfl⟩
  have hb := hW ▸ below_alloc W1 (.cells #[.int .i64 ty, .int .i64 st, .slice orr nr cr, .slice oa l.length c] 34)
  have hq : Cb W3 W1.heap.size #[.int .i64 ty, .int .i64 st, .slice orr nr cr, .slice oa l.length c] 34 := hW ▸ Cb.made W1 #[.int .i64 ty, .int .i64 st, .slice orr nr cr, .slice oa l.length c] 34
  refine sx_mem (by kernel_rfl) rfl rfl (.pointer (some ⟨W1.heap.size, 0, none⟩)) W3 (by rw [← hW]; kernel_rfl) ?_
  replace HB := over HB hb
  replace M2 := M2.below hb
  have z2 := hb.size
  have M4 := hq
  have yM4 := hq.lt
  clear hq hb hW
  refine sx_val (by kernel_rfl) rfl rfl (.bool false) (by kernel_rfl) ?_
  refine wpList_nil ?_
  refine sx_norm ?_
  refine wp_seq ?_
  refine wp_seq ?_
  refine wp_region_lit ?_
  refine sx_val (by kernel_rfl) rfl rfl (.agg #[.slice k.o0 x.pl.length k.c0, .slice k.o1 x.al.length k.c1, .slice k.o2 x.tl.length k.c2, .slice k.o3 x.ol.length k.c3, .slice k.o4 x.ap.length k.c4, .slice k.o5 x.be.length k.c5]) (ex_load rfl M2 (by kernel_rfl) Try.underlying30 rfl (by kernel_rfl)) ?_
  by_cases C1 : (fewB x) = true
  · refine sx_call (by kernel_rfl) rfl rfl ((by have h8 := few_n k x hv W3 (hI.below HB); rw [show (fewB x) = true by simpa using C1] at h8; exact h8)) (by kernel_rfl) ?_
    rintro e W5 ⟨rfl, hb⟩
    replace HB := over HB hb
    replace M2 := M2.below hb
    replace M4 := M4.below hb
    have z3 := hb.size
    clear hb
    refine ⟨_, rfl, ?_⟩
    refine sx_val (by kernel_rfl) rfl rfl (.bool false) (by kernel_rfl) ?_
    refine sx_val (by kernel_rfl) rfl rfl (.bool false) (by kernel_rfl) ?_
    refine sx_val (by kernel_rfl) rfl rfl (.pointer (some ⟨W1.heap.size, 3, none⟩)) (by kernel_rfl) ?_
    refine sx_val (by kernel_rfl) rfl rfl (.slice oa l.length c) (ex_load1 rfl (M4.cell 3 rfl) (by kernel_rfl) Try.underlying32 rfl) ?_
    refine sx_val (by kernel_rfl) rfl rfl (.int .i64 ((l.length : Nat) : Int)) (by kernel_rfl) ?_
    by_cases C2 : l.length > 12
    · refine sx_bool (by kernel_rfl) rfl rfl (decide (((l.length : Nat) : Int) > 12)) true (by kernel_rfl) (decide_eq_true (by omega)) ?_
      refine sx_val (by kernel_rfl) rfl rfl (.bool true) (by kernel_rfl) ?_
      refine wpList_nil ?_
      refine sx_norm ?_
      refine sx_true (by kernel_rfl) ?_
      refine wp_seq ?_
      refine wp_region_lit ?_
      refine sx_call (by kernel_rfl) rfl rfl (awake16_n W5) (by kernel_rfl) ?_
      rintro e W6 ⟨rfl, hb⟩
      replace HB := over HB hb
      replace M2 := M2.below hb
      replace M4 := M4.below hb
      have z4 := hb.size
      clear hb
      refine ⟨_, rfl, ?_⟩
      refine sx_val (by kernel_rfl) rfl rfl (.bool true) (by kernel_rfl) ?_
      refine wpList_nil ?_
      refine sx_norm ?_
      refine wp_ret ?_
      refine sx_rs ?_
      exact sx_ret1 (.bool true) rfl rfl (by kernel_rfl) ⟨rfl, HB⟩
    refine sx_bool (by kernel_rfl) rfl rfl (decide (((l.length : Nat) : Int) > 12)) false (by kernel_rfl) (decide_eq_false (by omega)) ?_
    refine sx_val (by kernel_rfl) rfl rfl (.bool false) (by kernel_rfl) ?_
    refine wpList_nil ?_
    refine sx_norm ?_
    refine sx_false (by kernel_rfl) ?_
    refine wp_skip ?_
    refine sx_norm ?_
    refine wp_seq ?_
    have hq := few_ok (x := x) (by assumption)
    have hq1 := hq.1
    have hq5 := hq.2.2.2.2.1
    have hq6 := hq.2.2.2.2.2
    obtain ⟨Y7, hW⟩ : ∃ W, W5.drew = W := ⟨_, rfl⟩
    have hb : Below W5.heap.size W5 Y7 := hW ▸ below_drew (Below.refl _ _)
    replace HB := over HB hb
    replace M2 := M2.below hb
    replace M4 := M4.below hb
    have z4 := hb.size
    clear hb
    refine sd_begin (fun W => Cb W (w.heap.size) #[.slice k.o0 x.pl.length k.c0, .slice k.o1 x.al.length k.c1, .slice k.o2 x.tl.length k.c2, .slice k.o3 x.ol.length k.c3, .slice k.o4 x.ap.length k.c4, .slice k.o5 x.be.length k.c5] 30 ∧ Cb W (W1.heap.size) #[.int .i64 ty, .int .i64 st, .slice orr nr cr, .slice oa l.length c] 34 ∧ True) (by kernel_rfl) (by rw [hW]; exact ⟨M2, M4, trivial⟩) ?_
    rw [hW]
    clear hW
    refine sd_take 0 rfl (by kernel_rfl) (by kernel_rfl) (by kernel_rfl) (by kernel_rfl) rfl rfl (.agg #[.slice k.o0 x.pl.length k.c0, .slice k.o1 x.al.length k.c1, .slice k.o2 x.tl.length k.c2, .slice k.o3 x.ol.length k.c3, .slice k.o4 x.ap.length k.c4, .slice k.o5 x.be.length k.c5]) (fun w9 h9 => ex_load rfl h9.1 (by kernel_rfl) Try.underlying30 rfl (by kernel_rfl)) (fun _ _ _ h => h) ⟨M2, M4, trivial⟩ ?_
    refine sd_take 1 rfl (by kernel_rfl) (by kernel_rfl) (by kernel_rfl) (by kernel_rfl) rfl rfl (.agg #[.int .i64 ty, .int .i64 st, .slice orr nr cr, .slice oa l.length c]) (fun w9 h9 => ex_load rfl h9.2.1 (by kernel_rfl) Try.underlying34 rfl (by kernel_rfl)) (fun _ _ _ h => h) ⟨M2, M4, trivial⟩ ?_
    refine sd_take 3 rfl (by kernel_rfl) (by kernel_rfl) (by kernel_rfl) (by kernel_rfl) rfl rfl (.agg #[.slice k.o0 x.pl.length k.c0, .slice k.o1 x.al.length k.c1, .slice k.o2 x.tl.length k.c2, .slice k.o3 x.ol.length k.c3, .slice k.o4 x.ap.length k.c4, .slice k.o5 x.be.length k.c5]) (fun w9 h9 => ex_load rfl h9.1 (by kernel_rfl) Try.underlying30 rfl (by kernel_rfl)) (fun _ _ _ h => h) ⟨M2, M4, trivial⟩ ?_
    refine sd_take 4 rfl (by kernel_rfl) (by kernel_rfl) (by kernel_rfl) (by kernel_rfl) rfl rfl (.agg #[.int .i64 ty, .int .i64 st, .slice orr nr cr, .slice oa l.length c]) (fun w9 h9 => ex_load rfl h9.2.1 (by kernel_rfl) Try.underlying34 rfl (by kernel_rfl)) (fun _ _ _ h => h) ⟨M2, M4, trivial⟩ ?_
    refine sd_all [2] (by kernel_rfl) (by decide) ?_
    refine sd_call (i := 2) rfl (by kernel_rfl) rfl rfl ((by have h8 := check16_n k.o0 k.o1 k.o2 k.o3 k.o4 k.o5 x.pl.length x.al.length x.tl.length k.c0 k.c1 k.c2 k.c3 k.c4 k.c5 x.ol x.ap x.be (by omega) hq.2.2.1 (by omega) hq.2.2.2.1 (by omega) Y7 (hI.below HB).h3 (hI.below HB).h4 (hI.below HB).h5 ty st orr oa nr cr c b o l (by omega) (hl.below HB); rw [chk_is hq.2.1 (by omega) hq.2.2.1 hq.2.2.2.1 l] at h8; exact h8)) (by kernel_rfl) ?_ AllReadyH.nil
    rintro e W8 ⟨rfl, hb⟩
    replace HB := over HB hb
    replace M2 := M2.below hb
    replace M4 := M4.below hb
    have z5 := hb.size
    clear hb
    refine ⟨_, rfl, ⟨M2, M4, trivial⟩, ?_⟩
    refine sd_all [5] (by kernel_rfl) (by decide) ?_
    refine sd_call (i := 5) rfl (by kernel_rfl) rfl rfl (refCheck16_n k.o0 k.o1 k.o2 k.o3 k.o4 k.o5 x.pl.length x.al.length x.tl.length k.c0 k.c1 k.c2 k.c3 k.c4 k.c5 x.ol x.ap x.be (by omega) hq.2.2.1 (by omega) hq.2.2.2.1 (by omega) W8 (hI.below HB).h3 (hI.below HB).h4 (hI.below HB).h5 ty st orr oa nr cr c b o l (by omega) (hl.below HB)) (by kernel_rfl) ?_ AllReadyH.nil
    rintro e W9 ⟨rfl, hb⟩
    replace HB := over HB hb
    replace M2 := M2.below hb
    replace M4 := M4.below hb
    have z6 := hb.size
    clear hb
    refine ⟨_, rfl, ⟨M2, M4, trivial⟩, ?_⟩
    refine sd_take 6 rfl (by kernel_rfl) (by kernel_rfl) (by kernel_rfl) (by kernel_rfl) rfl rfl (.bool true) (fun w9 _ => ex_bool (((chkR x.ol x.ap x.be l) : Int) == ((chkR x.ol x.ap x.be l) : Int)) true (by kernel_rfl) (by simp)) (fun _ _ _ h => h) ⟨M2, M4, trivial⟩ ?_
    refine sd_take 7 rfl (by kernel_rfl) (by kernel_rfl) (by kernel_rfl) (by kernel_rfl) rfl rfl (.bool true) (fun w9 _ => by kernel_rfl) (fun _ _ _ h => h) ⟨M2, M4, trivial⟩ ?_
    refine sd_all [8] (by kernel_rfl) (by decide) ?_
    refine sd_call (i := 8) rfl (by kernel_rfl) rfl rfl (awake16_n W9) (by kernel_rfl) ?_ AllReadyH.nil
    rintro e W10 ⟨rfl, hb⟩
    replace HB := over HB hb
    replace M2 := M2.below hb
    replace M4 := M4.below hb
    have z7 := hb.size
    clear hb
    refine ⟨_, rfl, ⟨M2, M4, trivial⟩, ?_⟩
    refine sd_take 9 rfl (by kernel_rfl) (by kernel_rfl) (by kernel_rfl) (by kernel_rfl) rfl rfl (.bool true) (fun w9 _ => by kernel_rfl) (fun _ _ _ h => h) ⟨M2, M4, trivial⟩ ?_
    refine sd_take 10 rfl (by kernel_rfl) (by kernel_rfl) (by kernel_rfl) (by kernel_rfl) rfl rfl (.bool true) (fun w9 _ => by kernel_rfl) (fun _ _ _ h => h) ⟨M2, M4, trivial⟩ ?_
    refine sd_done (by kernel_rfl) ?_
    refine sx_norm ?_
    refine wp_ret ?_
    exact sx_ret1 (.bool true) rfl rfl (by kernel_rfl) ⟨rfl, HB⟩
  refine sx_call (by kernel_rfl) rfl rfl ((by have h8 := few_n k x hv W3 (hI.below HB); rw [show (fewB x) = false by simpa using C1] at h8; exact h8)) (by kernel_rfl) ?_
  rintro e W11 ⟨rfl, hb⟩
  replace HB := over HB hb
  replace M2 := M2.below hb
  replace M4 := M4.below hb
  have z3 := hb.size
  clear hb
  refine ⟨_, rfl, ?_⟩
  refine sx_val (by kernel_rfl) rfl rfl (.bool true) (by kernel_rfl) ?_
  refine sx_val (by kernel_rfl) rfl rfl (.bool true) (by kernel_rfl) ?_
  refine sx_skip (by kernel_rfl) rfl rfl ?_
  refine sx_skip (by kernel_rfl) rfl rfl ?_
  refine sx_skip (by kernel_rfl) rfl rfl ?_
  refine sx_skip (by kernel_rfl) rfl rfl ?_
  refine sx_val (by kernel_rfl) rfl rfl (.bool true) (by kernel_rfl) ?_
  refine wpList_nil ?_
  refine sx_norm ?_
  refine sx_true (by kernel_rfl) ?_
  refine wp_seq ?_
  refine wp_region_lit ?_
  refine sx_call (by kernel_rfl) rfl rfl (awake16_n W11) (by kernel_rfl) ?_
  rintro e W12 ⟨rfl, hb⟩
  replace HB := over HB hb
  replace M2 := M2.below hb
  replace M4 := M4.below hb
  have z4 := hb.size
  clear hb
  refine ⟨_, rfl, ?_⟩
  refine sx_val (by kernel_rfl) rfl rfl (.bool true) (by kernel_rfl) ?_
  refine wpList_nil ?_
  refine sx_norm ?_
  refine wp_ret ?_
  refine sx_rs ?_
  exact sx_ret1 (.bool true) rfl rfl (by kernel_rfl) ⟨rfl, HB⟩

end Go.Proofs.Ytoliacfpjhanlaa.T


