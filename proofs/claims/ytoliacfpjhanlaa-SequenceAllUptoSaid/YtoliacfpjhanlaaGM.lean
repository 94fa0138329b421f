/-
  DERIVED. GM: a part of the base of layer 13 (made by pack.py).
-/
import Derived.Test.YtoliacfpjhanlaaHS
import Derived.Test.YtoliacfpjhanlaaGL
import Derived.Test.YtoliacfpjhanlaaGD
import Derived.Test.YtoliacfpjhanlaaGK
import Derived.Test.YtoliacfpjhanlaaSt
/-! Few orders, and valid; the law SequenceChecks (by gen_uf.py). -/
namespace Go.Proofs.Ytoliacfpjhanlaa.T
open Go.RowKit
set_option maxRecDepth 8000
attribute [local irreducible] wpList Code.wp wpAnyH

def fewB (x : InT) : Bool := decide (x.ol.length ≤ 4) && decide ((inF x).length = 0)
theorem InV.inU {x : InT} (h : InV x) (h4 : x.ol.length ≤ 4) : InU x :=
  ⟨h.pl, h.al, h.wt, h.tl, fun i hi => Nat.le_trans (h.cap i hi) (by decide), by omega, fun i hi => Nat.le_trans (h.load i hi) (by decide), h.ap, h.be⟩
/-- what is valid: the orders' stops, the pairs -/
theorem few_ok {x : InT} (h : fewB x = true) : x.ol.length ≤ 4 ∧ Okv x.ol ∧ U.Rt x.ol.length x.ap ∧ U.Rt x.ol.length x.be ∧ x.ap.length ≤ 16 ∧ x.be.length ≤ 16 := by
  unfold fewB at h
  rw [Bool.and_eq_true, decide_eq_true_iff, decide_eq_true_iff] at h
  obtain ⟨h4, h0⟩ := h
  obtain ⟨-, -, h1, h2, h3⟩ := inF_nil.1 (List.eq_nil_of_length_eq_zero h0)
  have hor := (orderF_nil.1 h1).2
  have hE : ∀ i, i < x.ol.length → -1 ≤ (x.ol.getD i or0).pp ∧ -1 ≤ (x.ol.getD i or0).dp ∧ ¬ ((x.ol.getD i or0).pp = -1 ∧ (x.ol.getD i or0).dp = -1) := fun i hi => by
    have e9 := hor i hi
    unfold orE at e9
    simp only [List.append_eq_nil_iff, and_assoc] at e9
    obtain ⟨-, -, -, e4, e5, -⟩ := e9
    unfold orE4 at e4
    unfold orE5 at e5
    have e4' : (rgB (-1) (x.pl.length - 1) (x.ol.getD i or0).pp && rgB (-1) (x.pl.length - 1) (x.ol.getD i or0).dp) = true := by
      cases h : (rgB (-1) (x.pl.length - 1) (x.ol.getD i or0).pp && rgB (-1) (x.pl.length - 1) (x.ol.getD i or0).dp)
      · rw [h] at e4; cases e4
      · rfl
    have e5' : (decide ((x.ol.getD i or0).pp = -1) && decide ((x.ol.getD i or0).dp = -1)) = false := by
      cases h : (decide ((x.ol.getD i or0).pp = -1) && decide ((x.ol.getD i or0).dp = -1))
      · rfl
      · rw [h] at e5; cases e5
    unfold rgB at e4'
    simp only [Bool.and_eq_true, decide_eq_true_eq, Bool.and_eq_false_iff, decide_eq_false_iff_not] at e4' e5'
    exact ⟨e4'.1.1, e4'.2.1, fun h => e5'.elim (fun q => q h.1) (fun q => q h.2)⟩
  have hP : ∀ (t : Bool) (l : List (Int × Int)), OkP (x.ol.length : Nat) t l → U.Rt x.ol.length l ∧ l.length ≤ 16 := fun t l hl => ⟨fun p hp => by
    have h9 := hl.2.1 p hp
    unfold badP at h9
    simp only [Bool.or_eq_false_iff, decide_eq_false_iff_not, beq_eq_false_iff_ne] at h9
    omega, hl.1⟩
  exact ⟨h4, ⟨fun k hk => (hE k hk).1, fun k hk => (hE k hk).2.1, fun k hk => (hE k hk).2.2⟩, (hP _ _ h2).1, (hP _ _ h3).1, (hP _ _ h2).2, (hP _ _ h3).2⟩
theorem few_n (k : Iv) (x : InT) (hv : InV x) (w : World) (hI : Ins w k x) : Calls Try.prog 9 #[.agg #[.slice k.o0 x.pl.length k.c0, .slice k.o1 x.al.length k.c1, .slice k.o2 x.tl.length k.c2, .slice k.o3 x.ol.length k.c3, .slice k.o4 x.ap.length k.c4, .slice k.o5 x.be.length k.c5]] w fun e w' => e = .returned (.bool (fewB x)) ∧ Below w.heap.size w w' := by
  have HB : Below w.heap.size w w := Below.refl _ _
  refine sx_enter Try.func9 rfl [(0, .agg #[.slice k.o0 x.pl.length k.c0, .slice k.o1 x.al.length k.c1, .slice k.o2 x.tl.length k.c2, .slice k.o3 x.ol.length k.c3, .slice k.o4 x.ap.length k.c4, .slice k.o5 x.be.length k.c5])] (by kernel_rfl) ?_
  refine wp_seq ?_
  refine wp_region_lit ?_
  obtain ⟨W1, hW⟩ : ∃ W, w.alloc (.cells #[.slice k.o0 x.pl.length k.c0, .slice k.o1 x.al.length k.c1, .slice k.o2 x.tl.length k.c2, .slice k.o3 x.ol.length k.c3, .slice k.o4 x.ap.length k.c4, .slice k.o5 x.be.length k.c5] 30) = W := ⟨_, rfl⟩
  have hb := hW ▸ below_alloc w (.cells #[.slice k.o0 x.pl.length k.c0, .slice k.o1 x.al.length k.c1, .slice k.o2 x.tl.length k.c2, .slice k.o3 x.ol.length k.c3, .slice k.o4 x.ap.length k.c4, .slice k.o5 x.be.length k.c5] 30)
  have hq : Cb W1 w.heap.size #[.slice k.o0 x.pl.length k.c0, .slice k.o1 x.al.length k.c1, .slice k.o2 x.tl.length k.c2, .slice k.o3 x.ol.length k.c3, .slice k.o4 x.ap.length k.c4, .slice k.o5 x.be.length k.c5] 30 := hW ▸ Cb.made w #[.slice k.o0 x.pl.length k.c0, .slice k.o1 x.al.length k.c1, .slice k.o2 x.tl.length k.c2, .slice k.o3 x.ol.length k.c3, .slice k.o4 x.ap.length k.c4, .slice k.o5 x.be.length k.c5] 30
  refine sx_mem (by kernel_rfl) rfl rfl (.pointer (some ⟨w.heap.size, 0, none⟩)) W1 (by rw [← hW]; kernel_rfl) ?_
  replace HB := over HB hb
  have z1 := hb.size
  have M2 := hq
  have yM2 := hq.lt
  clear hq hb hW
  refine sx_val (by kernel_rfl) rfl rfl (.bool false) (by kernel_rfl) ?_
  refine wpList_nil ?_
  refine sx_norm ?_
  refine wp_seq ?_
  refine wp_region_lit ?_
  refine sx_val (by kernel_rfl) rfl rfl (.pointer (some ⟨w.heap.size, 3, none⟩)) (by kernel_rfl) ?_
  refine sx_val (by kernel_rfl) rfl rfl (.slice k.o3 x.ol.length k.c3) (ex_load1 rfl (M2.cell 3 rfl) (by kernel_rfl) Try.underlying27 rfl) ?_
  refine sx_val (by kernel_rfl) rfl rfl (.int .i64 ((x.ol.length : Nat) : Int)) (by kernel_rfl) ?_
  by_cases C1 : x.ol.length ≤ 4
  · refine sx_bool (by kernel_rfl) rfl rfl (decide (((x.ol.length : Nat) : Int) ≤ 4)) true (by kernel_rfl) (decide_eq_true (by omega)) ?_
    refine sx_val (by kernel_rfl) rfl rfl (.bool true) (by kernel_rfl) ?_
    refine sx_val (by kernel_rfl) rfl rfl (.agg #[.slice k.o0 x.pl.length k.c0, .slice k.o1 x.al.length k.c1, .slice k.o2 x.tl.length k.c2, .slice k.o3 x.ol.length k.c3, .slice k.o4 x.ap.length k.c4, .slice k.o5 x.be.length k.c5]) (ex_load rfl M2 (by kernel_rfl) Try.underlying30 rfl (by kernel_rfl)) ?_
    refine sx_call (by kernel_rfl) rfl rfl ((by have h8 := refInstU_n k.o0 k.o1 k.o2 k.o3 k.o4 k.o5 k.c0 k.c1 k.c2 k.c3 k.c4 k.c5 x (hv.inU (by omega)) W1 (hI.below HB).h0 (hI.below HB).h1 (hI.below HB).h2 (hI.below HB).h3 (hI.below HB).h4 (hI.below HB).h5; unfold inV at h8; exact h8)) (by kernel_rfl) ?_
    rintro e W3 ⟨oaf, cf, rfl, -, hb⟩
    replace HB := over HB hb
    replace M2 := M2.below hb
    have z2 := hb.size
    clear hb
    refine ⟨_, rfl, ?_⟩
    refine sx_val (by kernel_rfl) rfl rfl (.int .i64 (((inF x).length : Nat) : Int)) (by kernel_rfl) ?_
    by_cases C2 : (inF x).length = 0
    · refine sx_bool (by kernel_rfl) rfl rfl (((((inF x).length : Nat) : Int) : Int) == (0 : Int)) true (by kernel_rfl) (beq_iff_eq.2 (by omega)) ?_
      refine sx_val (by kernel_rfl) rfl rfl (.bool true) (by kernel_rfl) ?_
      refine sx_val (by kernel_rfl) rfl rfl (.bool true) (by kernel_rfl) ?_
      refine wpList_nil ?_
      refine sx_norm ?_
      refine wp_ret ?_
      exact sx_ret1 (.bool true) rfl rfl (by kernel_rfl) ⟨ret_bool (by unfold fewB; first | (rw [decide_eq_false (by assumption : ¬ x.ol.length ≤ 4)]; rfl) | (rw [decide_eq_true (by assumption : x.ol.length ≤ 4), decide_eq_true (by assumption : (inF x).length = 0)]; rfl) | (rw [decide_eq_true (by assumption : x.ol.length ≤ 4), decide_eq_false (by assumption : ¬ (inF x).length = 0)]; rfl)), HB⟩
    refine sx_bool (by kernel_rfl) rfl rfl (((((inF x).length : Nat) : Int) : Int) == (0 : Int)) false (by kernel_rfl) (beq_eq_false_iff_ne.2 (by omega)) ?_
    refine sx_val (by kernel_rfl) rfl rfl (.bool false) (by kernel_rfl) ?_
    refine sx_val (by kernel_rfl) rfl rfl (.bool false) (by kernel_rfl) ?_
    refine wpList_nil ?_
    refine sx_norm ?_
    refine wp_ret ?_
    exact sx_ret1 (.bool false) rfl rfl (by kernel_rfl) ⟨ret_bool (by unfold fewB; first | (rw [decide_eq_false (by assumption : ¬ x.ol.length ≤ 4)]; rfl) | (rw [decide_eq_true (by assumption : x.ol.length ≤ 4), decide_eq_true (by assumption : (inF x).length = 0)]; rfl) | (rw [decide_eq_true (by assumption : x.ol.length ≤ 4), decide_eq_false (by assumption : ¬ (inF x).length = 0)]; rfl)), HB⟩
  refine sx_bool (by kernel_rfl) rfl rfl (decide (((x.ol.length : Nat) : Int) ≤ 4)) false (by kernel_rfl) (decide_eq_false (by omega)) ?_
  refine sx_val (by kernel_rfl) rfl rfl (.bool false) (by kernel_rfl) ?_
  refine sx_skip (by kernel_rfl) rfl rfl ?_
  refine sx_skip (by kernel_rfl) rfl rfl ?_
  refine sx_skip (by kernel_rfl) rfl rfl ?_
  refine sx_skip (by kernel_rfl) rfl rfl ?_
  refine sx_val (by kernel_rfl) rfl rfl (.bool false) (by kernel_rfl) ?_
  refine sx_val (by kernel_rfl) rfl rfl (.bool false) (by kernel_rfl) ?_
  refine wpList_nil ?_
  refine sx_norm ?_
  refine wp_ret ?_
  exact sx_ret1 (.bool false) rfl rfl (by kernel_rfl) ⟨ret_bool (by unfold fewB; first | (rw [decide_eq_false (by assumption : ¬ x.ol.length ≤ 4)]; rfl) | (rw [decide_eq_true (by assumption : x.ol.length ≤ 4), decide_eq_true (by assumption : (inF x).length = 0)]; rfl) | (rw [decide_eq_true (by assumption : x.ol.length ≤ 4), decide_eq_false (by assumption : ¬ (inF x).length = 0)]; rfl)), HB⟩
end Go.Proofs.Ytoliacfpjhanlaa.T


/-! The visits that can follow are the specification's. -/
namespace Go.Proofs.Ytoliacfpjhanlaa.T
open Go.RowKit
set_option maxRecDepth 8000

theorem and_zero (a b : Nat) : a &&& b = 0 ↔ ∀ k, S.has a k = true → S.has b k = false := by
  constructor
  · intro h k h1
    cases h2 : S.has b k
    · rfl
    · have h3 : Nat.testBit (a &&& b) k = true := by rw [Nat.testBit_and, ← U.has_bit, ← U.has_bit, h1, h2]; rfl
      rw [h, Nat.zero_testBit] at h3
      cases h3
  · intro h
    apply Nat.eq_of_testBit_eq
    intro k
    rw [Nat.testBit_and, Nat.zero_testBit, ← U.has_bit, ← U.has_bit]
    cases h1 : S.has a k
    · rfl
    · rw [h k h1]; rfl
theorem has_wWK (z : Int) (ol : List OrT) (i : Nat) : ∀ k, S.has (wWK z ol k) i = (decide (i < k) && (hasZ z i && !(ol.getD i or0).off))
  | 0 => by
    have : wWK z ol 0 = 0 := rfl
    rw [this, U.has_zero, decide_eq_false (Nat.not_lt_zero i)]
    rfl
  | k + 1 => by
    have ih := has_wWK z ol i k
    unfold wWK
    by_cases e : i = k
    · subst e
      rw [decide_eq_false (Nat.lt_irrefl i), Bool.false_and] at ih
      rw [decide_eq_true (Nat.lt_succ_self i), Bool.true_and]
      split
      · rename_i h
        rw [U.has_or, ih, U.has_pow, decide_eq_true rfl, h.1, h.2]
        rfl
      · rename_i h
        rw [ih]
        cases h1 : hasZ z i
        · rfl
        · cases h2 : (ol.getD i or0).off
          · exact absurd ⟨h1, h2⟩ h
          · rfl
    · have e2 : decide (i < k + 1) = decide (i < k) := by
        rw [decide_eq_decide]; omega
      rw [e2]
      split
      · rw [U.has_or, ih, U.has_pow, decide_eq_false e, Bool.or_false]
      · exact ih
theorem has_foldP (i : Nat) : ∀ (V : List (Int × Bool)) (p : Nat × Nat), S.has (V.foldl withP p).1 i = (S.has p.1 i || V.any fun v => !v.2 && decide (i = v.1.toNat)) ∧ S.has (V.foldl withP p).2 i = (S.has p.2 i || V.any fun v => v.2 && decide (i = v.1.toNat))
  | [], p => ⟨by simp, by simp⟩
  | v :: V, p => by
    have ih := has_foldP i V (withP p v)
    rw [List.foldl_cons, List.any_cons, List.any_cons, ih.1, ih.2]
    unfold withP
    cases h : v.2
    · rw [if_neg (by decide)]
      simp only [U.has_or, U.has_pow, Bool.not_false, Bool.true_and, Bool.false_and, Bool.false_or, Bool.or_assoc, and_self]
    · rw [if_pos rfl]
      simp only [U.has_or, U.has_pow, Bool.not_true, Bool.true_and, Bool.false_and, Bool.false_or, Bool.or_assoc, and_self]
theorem any_num {ol : List OrT} {k i : Nat} (b : Bool) : ((visL ol (k : Int)).any fun v => (v.2 == b) && decide (i = v.1.toNat)) = (decide (i = k) && decide (((k : Int), b) ∈ visL ol (k : Int))) := by
  rw [Bool.eq_iff_iff, List.any_eq_true, Bool.and_eq_true, decide_eq_true_iff, decide_eq_true_iff]
  constructor
  · rintro ⟨v, hv, h⟩
    rw [Bool.and_eq_true, beq_iff_eq, decide_eq_true_iff] at h
    have hn := vis_num ol k v hv
    have e : ((k : Int), b) = v := Prod.ext hn.symm h.1.symm
    refine ⟨by rw [h.2, hn]; simp, ?_⟩
    rw [e]
    exact hv
  · rintro ⟨h1, h2⟩
    exact ⟨_, h2, by rw [h1]; simp⟩
theorem has_wPK (ol : List OrT) (i : Nat) : ∀ k, S.has (wPK ol k).1 i = (decide (i < k) && decide (((i : Int), false) ∈ visL ol (i : Int))) ∧ S.has (wPK ol k).2 i = (decide (i < k) && decide (((i : Int), true) ∈ visL ol (i : Int)))
  | 0 => by
    have e : wPK ol 0 = (0, 0) := rfl
    rw [e, U.has_zero, decide_eq_false (Nat.not_lt_zero i)]
    exact ⟨rfl, rfl⟩
  | k + 1 => by
    have ih := has_wPK ol i k
    have e : wPK ol (k + 1) = (visL ol (k : Int)).foldl withP (wPK ol k) := rfl
    have f1 : ((visL ol (k : Int)).any fun v => !v.2 && decide (i = v.1.toNat)) = (decide (i = k) && decide (((k : Int), false) ∈ visL ol (k : Int))) := by
      rw [← any_num false]
      congr 1
      funext v
      cases v.2 <;> rfl
    have f2 : ((visL ol (k : Int)).any fun v => v.2 && decide (i = v.1.toNat)) = (decide (i = k) && decide (((k : Int), true) ∈ visL ol (k : Int))) := by
      rw [← any_num true]
      congr 1
      funext v
      cases v.2 <;> rfl
    have hf := has_foldP i (visL ol (k : Int)) (wPK ol k)
    rw [e, hf.1, hf.2, ih.1, ih.2, f1, f2]
    by_cases e1 : i = k
    · subst e1
      rw [decide_eq_false (Nat.lt_irrefl i), decide_eq_true rfl, decide_eq_true (Nat.lt_succ_self i)]
      simp
    · have e2 : decide (i < k + 1) = decide (i < k) := by
        rw [decide_eq_decide]; omega
      rw [e2, decide_eq_false e1]
      simp
theorem has_foldD (i : Nat) : ∀ (l : List (Int × Bool)) (p : Nat × Nat), S.has (l.foldl stepD p).1 i = (S.has p.1 i || l.any fun v => num62 v.1 && (!v.2 && decide (i = v.1.toNat))) ∧ S.has (l.foldl stepD p).2 i = (S.has p.2 i || l.any fun v => num62 v.1 && (v.2 && decide (i = v.1.toNat)))
  | [], p => ⟨by simp, by simp⟩
  | v :: l, p => by
    have ih := has_foldD i l (stepD p v)
    rw [List.foldl_cons, List.any_cons, List.any_cons, ih.1, ih.2]
    unfold stepD
    cases h : num62 v.1
    · rw [if_neg (by decide)]
      simp
    · rw [if_pos rfl]
      unfold withP
      cases h : v.2
      · rw [if_neg (by decide)]
        simp only [U.has_or, U.has_pow, Bool.not_false, Bool.true_and, Bool.false_and, Bool.false_or, Bool.or_assoc, and_self]
      · rw [if_pos rfl]
        simp only [U.has_or, U.has_pow, Bool.not_true, Bool.true_and, Bool.false_and, Bool.false_or, Bool.or_assoc, and_self]
theorem has_done {l : List (Int × Bool)} {i : Nat} (hi : i ≤ 62) : S.has (doneL l).1 i = decide (((i : Int), false) ∈ l) ∧ S.has (doneL l).2 i = decide (((i : Int), true) ∈ l) := by
  have h := has_foldD i l (0, 0)
  have e : doneL l = l.foldl stepD (0, 0) := rfl
  have hn : num62 (i : Int) = true := by unfold num62; rw [decide_eq_true (by omega), decide_eq_true (by omega)]; rfl
  have key : ∀ v : Int × Bool, num62 v.1 = true → i = v.1.toNat → v.1 = (i : Int) := fun v h1 h2 => by
    unfold num62 at h1
    rw [Bool.and_eq_true, decide_eq_true_iff, decide_eq_true_iff] at h1
    omega
  rw [e, h.1, h.2]
  constructor
  · rw [U.has_zero, Bool.false_or, Bool.eq_iff_iff, List.any_eq_true, decide_eq_true_iff]
    constructor
    · rintro ⟨v, hv, h⟩
      simp only [Bool.and_eq_true, Bool.not_eq_true', decide_eq_true_eq] at h
      have e : ((i : Int), false) = v := Prod.ext (key v h.1 h.2.2).symm h.2.1.symm
      rw [e]
      exact hv
    · intro h
      exact ⟨_, h, by simp [hn]⟩
  · rw [U.has_zero, Bool.false_or, Bool.eq_iff_iff, List.any_eq_true, decide_eq_true_iff]
    constructor
    · rintro ⟨v, hv, h⟩
      simp only [Bool.and_eq_true, decide_eq_true_eq] at h
      have e : ((i : Int), true) = v := Prod.ext (key v h.1 h.2.2).symm h.2.1.symm
      rw [e]
      exact hv
    · intro h
      exact ⟨_, h, by simp [hn]⟩
theorem has_wAK {n : Nat} {be : List (Int × Int)} (hr : U.Rt n be) (i k : Nat) (hi : i < n) : ∀ m, m ≤ be.length → S.has ((wAK n be m).getD i 0) k = (be.take m).any fun p => decide (U.pb p = i) && decide (k = U.pa p)
  | 0, _ => by
    have : (wAK n be 0).getD i 0 = 0 := by
      unfold wAK
      rw [List.getD_eq_getElem?_getD, List.getElem?_replicate]
      split <;> rfl
    rw [this, U.has_zero]
    rfl
  | m + 1, h => by
    have ih := has_wAK hr i k hi m (by omega)
    rw [take_more (d := (0, 0)) (by omega), List.any_append, List.any_cons, List.any_nil, Bool.or_false, ← ih]
    have hrt := U.getD_rt hr (k := m) (by omega)
    have e : wAK n be (m + 1) = (wAK n be m).set (U.pb (be.getD m (0, 0))) ((wAK n be m).getD (U.pb (be.getD m (0, 0))) 0 ||| 2 ^ U.pa (be.getD m (0, 0))) := rfl
    rw [e, List.getD_eq_getElem?_getD, List.getElem?_set]
    by_cases hp : U.pb (be.getD m (0, 0)) = i
    · rw [if_pos hp, if_pos (by rw [wAK_len]; exact hrt.2.1), decide_eq_true hp, Bool.true_and, hp]
      show S.has ((wAK n be m).getD i 0 ||| 2 ^ U.pa (be.getD m (0, 0))) k = _
      rw [U.has_or, U.has_pow]
    · rw [if_neg hp, decide_eq_false hp, Bool.false_and, Bool.or_false, ← List.getD_eq_getElem?_getD]
section
variable {z : Int} {ol : List OrT} {be : List (Int × Int)} {l : List (Int × Bool)}
/-- which orders have a visit that is not done -/
theorem left_is (ok : Okv ol) (hn : ol.length ≤ 10) (hr : U.Rt ol.length be) {k : Nat} (hk : k < ol.length) :
    S.has ((waysF z ol be).und (doneL l)) k = (decide (((k : Int), false) ∈ visR ol k) && !decide (((k : Int), false) ∈ l)) ∧ S.has ((waysF z ol be).left (doneL l)) k = !conV l (visR ol k) := by
  have hw := ways_b (z := z) (show ol.length ≤ 63 by omega) hr
  have hd : (doneL l).1 < 2 ^ 63 ∧ (doneL l).2 < 2 ^ 63 := done_lt l (0, 0) (by decide) (by decide)
  have hP := has_wPK ol k ol.length
  have hD := has_done (l := l) (i := k) (by omega)
  rw [visL_is ok hk, decide_eq_true hk, Bool.true_and, Bool.true_and] at hP
  have e1 : S.has ((waysF z ol be).und (doneL l)) k = (decide (((k : Int), false) ∈ visR ol k) && !decide (((k : Int), false) ∈ l)) := by
    unfold WaT.und
    rw [U.has_minus hw.p hd.1]
    show (S.has (wPK ol ol.length).1 k && !S.has (doneL l).1 k) = _
    rw [hP.1, hD.1]
  refine ⟨e1, ?_⟩
  unfold WaT.left
  rw [U.has_or, e1, U.has_minus hw.d hd.2]
  show (_ || (S.has (wPK ol ol.length).2 k && !S.has (doneL l).2 k)) = _
  rw [hP.2, hD.2]
  unfold conV
  rcases visR_form ok hk with e | e | e
  · rw [e]
    simp only [List.all_cons, List.all_nil, Bool.and_true, List.mem_cons, true_or, or_true, decide_true, Bool.true_and, Bool.not_and]
  · rw [e]
    simp
  · rw [e]
    simp
/-- the orders before an order are done -/
theorem rdy_is (ok : Okv ol) (hn : ol.length ≤ 10) (hr : U.Rt ol.length be) {i : Nat} (hi : i < ol.length) : (waysF z ol be).A.getD i 0 &&& (waysF z ol be).left (doneL l) = 0 ↔ rdyB ol be l i = true := by
  have hA : ∀ k, S.has ((waysF z ol be).A.getD i 0) k = be.any fun p => decide (U.pb p = i) && decide (k = U.pa p) := fun k => by
    have h := has_wAK hr i k hi be.length (Nat.le_refl _)
    rwa [List.take_length] at h
  rw [and_zero]
  unfold rdyB
  rw [List.all_eq_true]
  constructor
  · intro h p hp
    unfold rdyP
    have hrt := hr.a hp
    by_cases hb : U.pb p = i
    · have h1 := h (U.pa p) (by rw [hA, List.any_eq_true]; exact ⟨p, hp, by rw [decide_eq_true hb, decide_eq_true rfl]; rfl⟩)
      rw [(left_is ok hn hr hrt.1).2] at h1
      rw [decide_eq_true hb]
      simpa using h1
    · rw [decide_eq_false hb]
      rfl
  · intro h k hk
    rw [hA, List.any_eq_true] at hk
    obtain ⟨p, hp, hpk⟩ := hk
    rw [Bool.and_eq_true, decide_eq_true_iff, decide_eq_true_iff] at hpk
    have hrt := hr.a hp
    have h1 := h p hp
    unfold rdyP at h1
    rw [decide_eq_true hpk.1] at h1
    rw [hpk.2, (left_is ok hn hr hrt.1).2]
    simpa using h1
theorem nx1_no {V : List (Int × Bool)} {k : Nat} (h : ¬ (idxV l (V.getD k (0, false)) < 0 ∧ (k = 0 ∨ idxV l (V.getD 0 (0, false)) ≥ 0))) : nx1 V l k = [] := if_neg h
theorem nx1_yes {V : List (Int × Bool)} {k : Nat} (h : idxV l (V.getD k (0, false)) < 0 ∧ (k = 0 ∨ idxV l (V.getD 0 (0, false)) ≥ 0)) : nx1 V l k = [V.getD k (0, false)] := if_pos h
theorem nxV_is (ok : Okv ol) {i : Nat} (hi : i < ol.length) : nxV (visR ol i) l (visR ol i).length = if conV l (visR ol i) = true then [] else [((i : Int), !(decide (((i : Int), false) ∈ visR ol i) && !decide (((i : Int), false) ∈ l)))] := by
  have m0 := idxV_lt (l := l) (x := ((i : Int), false))
  have m1 := idxV_lt (l := l) (x := ((i : Int), true))
  rcases visR_form ok hi with e | e | e
  · rw [e]
    show ([] ++ nx1 [((i : Int), false), ((i : Int), true)] l 0) ++ nx1 [((i : Int), false), ((i : Int), true)] l 1 = _
    by_cases h0 : ((i : Int), false) ∈ l
    · have h2 : ¬ idxV l ((i : Int), false) < 0 := fun h => m0.1 h h0
      rw [nx1_no (V := [((i : Int), false), ((i : Int), true)]) (k := 0) (fun h => h2 h.1)]
      by_cases h1 : ((i : Int), true) ∈ l
      · rw [nx1_no (V := [((i : Int), false), ((i : Int), true)]) (k := 1) (fun h => m1.1 h.1 h1)]
        unfold conV
        simp [h0, h1]
      · rw [nx1_yes (V := [((i : Int), false), ((i : Int), true)]) (k := 1) ⟨m1.2 h1, .inr (Int.not_lt.1 h2)⟩]
        unfold conV
        simp [h0, h1]
    · have h2 : idxV l ((i : Int), false) < 0 := m0.2 h0
      rw [nx1_yes (V := [((i : Int), false), ((i : Int), true)]) (k := 0) ⟨h2, .inl rfl⟩, nx1_no (V := [((i : Int), false), ((i : Int), true)]) (k := 1) (fun h => h.2.elim (fun h => by cases h) (fun h => absurd h2 (Int.not_lt.2 h)))]
      unfold conV
      simp [h0]
  · rw [e]
    show [] ++ nx1 [((i : Int), false)] l 0 = _
    by_cases h0 : ((i : Int), false) ∈ l
    · rw [nx1_no (V := [((i : Int), false)]) (k := 0) (fun h => m0.1 h.1 h0)]
      unfold conV
      simp [h0]
    · rw [nx1_yes (V := [((i : Int), false)]) (k := 0) ⟨m0.2 h0, .inl rfl⟩]
      unfold conV
      simp [h0]
  · rw [e]
    show [] ++ nx1 [((i : Int), true)] l 0 = _
    by_cases h0 : ((i : Int), true) ∈ l
    · rw [nx1_no (V := [((i : Int), true)]) (k := 0) (fun h => m1.1 h.1 h0)]
      unfold conV
      simp [h0]
    · rw [nx1_yes (V := [((i : Int), true)]) (k := 0) ⟨m1.2 h0, .inl rfl⟩]
      unfold conV
      simp [h0]
theorem next_one (ok : Okv ol) (hn : ol.length ≤ 10) (hr : U.Rt ol.length be) (hz : 0 ≤ z) {i : Nat} (hi : i < ol.length) :
    nxt1 (waysF z ol be).W ((waysF z ol be).und (doneL l)) ((waysF z ol be).left (doneL l)) (waysF z ol be).A i = nxO z ol be l i := by
  have hl := left_is (z := z) (l := l) ok hn hr hi
  have hrd := rdy_is (z := z) (l := l) ok hn hr hi
  have hW := has_wWK z ol i ol.length
  rw [decide_eq_true hi, Bool.true_and] at hW
  have hR : hasR z (i : Int) = hasZ z i := by
    unfold hasR num62
    rw [decide_eq_true hz, decide_eq_true (by omega), decide_eq_true (by omega), Int.toNat_natCast]
    rfl
  have hW2 : S.has (waysF z ol be).W i = (hasZ z i && !(ol.getD i or0).off) := hW
  have hc : (S.has ((waysF z ol be).W &&& (waysF z ol be).left (doneL l)) i = true ∧ (waysF z ol be).A.getD i 0 &&& (waysF z ol be).left (doneL l) = 0) ↔ (hasR z (i : Int) = true ∧ (ol.getD i or0).off = false ∧ rdyB ol be l i = true) ∧ conV l (visR ol i) = false := by
    rw [hrd, U.has_bit, Nat.testBit_and, ← U.has_bit, ← U.has_bit, hl.2, hW2, hR]
    cases hasZ z i <;> cases (ol.getD i or0).off <;> cases rdyB ol be l i <;> cases conV l (visR ol i) <;> simp
  unfold nxt1 nxO
  rw [hl.1, nxV_is ok hi]
  by_cases h1 : hasR z (i : Int) = true ∧ (ol.getD i or0).off = false ∧ rdyB ol be l i = true
  · rw [if_pos h1]
    by_cases h2 : conV l (visR ol i) = true
    · rw [if_neg (fun h => by rw [(hc.1 h).2] at h2; cases h2), if_pos h2]
    · rw [if_pos (hc.2 ⟨h1, by simpa using h2⟩), if_neg h2]
  · rw [if_neg (fun h => h1 (hc.1 h).1), if_neg h1]
theorem next_is (ok : Okv ol) (hn : ol.length ≤ 10) (hr : U.Rt ol.length be) (hz : 0 ≤ z) (l : List (Int × Bool)) : nextS z ol be l = nxR z ol be l ol.length := by
  have key : ∀ k, k ≤ ol.length → nxtK (waysF z ol be).W ((waysF z ol be).und (doneL l)) ((waysF z ol be).left (doneL l)) (waysF z ol be).A k = nxR z ol be l k := by
    intro k
    induction k with
    | zero => intro _; rfl
    | succ k ih =>
      intro h
      unfold nxtK nxR
      rw [ih (by omega), next_one ok hn hr hz (by omega)]
  have hA : (waysF z ol be).A.length = ol.length := wAK_len _ _ _
  unfold nextS nextW
  rw [hA]
  exact key _ (Nat.le_refl _)
end
end Go.Proofs.Ytoliacfpjhanlaa.T


/-! Each visit of a route that the check lets through can follow those before it. -/
namespace Go.Proofs.Ytoliacfpjhanlaa.T
open Go.RowKit
set_option maxRecDepth 8000

section
variable {ol : List OrT} {ap be : List (Int × Int)} {l : List (Int × Bool)}
theorem mem_nxR {z : Int} {v : Int × Bool} {k : Nat} (h : v ∈ nxO z ol be l k) : ∀ m, k < m → v ∈ nxR z ol be l m
  | 0, h9 => absurd h9 (Nat.not_lt_zero k)
  | m + 1, h9 => by
    unfold nxR
    rw [List.mem_append]
    rcases Nat.lt_succ_iff_lt_or_eq.1 h9 with h8 | h8
    · exact .inl (mem_nxR h m h8)
    · subst h8
      exact .inr h
end
end Go.Proofs.Ytoliacfpjhanlaa.T


/-! All sequences of the program are those of the specification. -/
namespace Go.Proofs.Ytoliacfpjhanlaa.T
open Go.RowKit
set_option maxRecDepth 8000

/-- the specification's search -/
def extR (z : Int) (ol : List OrT) (be : List (Int × Int)) : Nat → List (Int × Bool) → List (List (Int × Bool)) → List (List (Int × Bool))
  | 0, _, f => f
  | n + 1, L, f => if 8192 < f.length then f else if (nxR z ol be L ol.length).length = 0 then f ++ [L] else (nxR z ol be L ol.length).foldl (fun f v => extR z ol be n (L ++ [v]) f) f
theorem extR_stop {z : Int} {ol : List OrT} {be : List (Int × Int)} {n : Nat} {L : List (Int × Bool)} {f : List (List (Int × Bool))} (h : 8192 < f.length) : extR z ol be n L f = f := by
  cases n with
  | zero => rfl
  | succ n => unfold extR; rw [if_pos h]
theorem done_snoc (L : List (Int × Bool)) {v : Int × Bool} (h : num62 v.1 = true) : doneL (L ++ [v]) = withP (doneL L) v := by
  unfold doneL
  rw [List.foldl_append]
  show stepD _ v = _
  unfold stepD
  rw [if_pos h]
theorem fold_same {α β : Type} {g h : β → α → β} : ∀ (l : List α) (f : β), (∀ v ∈ l, ∀ f, g f v = h f v) → l.foldl g f = l.foldl h f
  | [], _, _ => rfl
  | v :: l, f, e => by
    rw [List.foldl_cons, List.foldl_cons, e v (List.mem_cons_self ..) f]
    exact fold_same l _ fun u hu => e u (List.mem_cons_of_mem _ hu)
section
variable {z : Int} {ol : List OrT} {ap be : List (Int × Int)}
theorem done_dn (L : List (Int × Bool)) : Dn (doneL L) := done_lt L (0, 0) (by decide) (by decide)
theorem extR_is (ok : Okv ol) (hn : ol.length ≤ 10) (hr : U.Rt ol.length be) (hz : 0 ≤ z) : ∀ (n : Nat) (L : List (Int × Bool)) (f : List (List (Int × Bool))), f.length ≤ 8192 → (0 < L.length ∨ 0 < (nxR z ol be L ol.length).length) → extF (waysF z ol be) n L (doneL L) f = extR z ol be n L f
  | 0, _, _, _, _ => rfl
  | n + 1, L, f, hf, hL => by
    have hx := ways_b (z := z) (show ol.length ≤ 63 by omega) hr
    have e : nextW (waysF z ol be) (doneL L) = nxR z ol be L ol.length := next_is ok hn hr hz L
    unfold extF extR
    rw [e, if_neg (show ¬ 8192 < f.length by omega)]
    by_cases h0 : (nxR z ol be L ol.length).length = 0
    · rw [if_pos ⟨h0, by omega⟩, if_pos h0, List.eq_nil_of_length_eq_zero h0, List.foldl_nil]
    · rw [if_neg (fun h => h0 h.1), if_neg h0]
      refine fold_same _ _ fun v hv f => ?_
      have hv2 : v ∈ nextW (waysF z ol be) (doneL L) := by rw [e]; exact hv
      by_cases h1 : 8192 < f.length
      · rw [if_pos h1, extR_stop h1]
      · rw [if_neg h1, ← done_snoc L (next_ok hx (done_dn L) hv2).1]
        exact extR_is ok hn hr hz n (L ++ [v]) f (by omega) (.inl (by simp))
theorem hasRS_nat {s k : Nat} (hs : s < 2 ^ 63) (hk : k ≤ 62) : hasR (s : Int) (k : Int) = S.has s k := by
  have h62 : num62 (k : Int) = true := by unfold num62; rw [decide_eq_true (by omega), decide_eq_true (by omega)]; rfl
  rw [has_def]
  unfold hasR
  rw [decide_eq_true (by omega), Bool.true_and, h62, Bool.true_and, Int.toNat_natCast]
  first | rfl | skip
theorem conV_vis (ok : Okv ol) {k : Nat} (hk : k < ol.length) : conV [] (visR ol k) = false := by
  rcases visR_form ok hk with e | e | e <;> rw [e] <;> rfl
/-- something can begin -/
theorem root_next (ok : Okv ol) (hn : ol.length ≤ 10) (hr : U.Rt ol.length be) {off : Nat → Bool} (hoff : ∀ i, off i = (ol.getD i or0).off) {s : Nat} (h : U.Okay ol.length off ap be s) (h0 : s ≠ 0) : 0 < (nxR (s : Int) ol be [] ol.length).length := by
  have h63 : s < 2 ^ 63 := Nat.lt_of_lt_of_le h.lt (Nat.le_trans (Nat.pow_le_pow_right (by omega) hn) (by decide))
  have hcan : U.canF ol.length be s = true := by
    have h9 := (U.allow_iff (off := off) (ap := ap) hr h.lt).2 h
    rw [U.allow_can] at h9
    split at h9
    · cases h9
    · split at h9
      · cases h9
      · split at h9
        · assumption
        · cases h9
  have hne : U.fol be s 0 ≠ 0 := fun e => by
    have h1 := U.CfI.fix hr hn h.lt (U.CfI.start be s) e
    rw [hcan, beq_iff_eq] at h1
    exact h0 h1.symm
  obtain ⟨i, hi⟩ : ∃ i, S.has (U.fol be s 0) i = true := by
    refine Classical.byContradiction fun hno => hne (U.has_ext fun i => ?_)
    rw [U.has_zero]
    cases e : S.has (U.fol be s 0) i
    · rfl
    · exact absurd ⟨i, e⟩ hno
  obtain ⟨h1, h2⟩ := (U.has_fol hr hn h.lt i).1 hi
  have hil := U.lt_has h.lt h1
  have hrd : rdyB ol be [] i = true := by
    unfold rdyB
    rw [List.all_eq_true]
    intro p hp
    unfold rdyP
    by_cases e : U.pb p = i
    · have h3 := h2 p hp e.symm
      rw [U.has_zero] at h3
      cases h3
    · rw [decide_eq_false e]; rfl
  have hm : ((i : Int), !(decide (((i : Int), false) ∈ visR ol i) && !decide (((i : Int), false) ∈ ([] : List (Int × Bool))))) ∈ nxO (s : Int) ol be [] i := by
    unfold nxO
    rw [if_pos ⟨by rw [hasRS_nat h63 (by omega)]; exact h1, by rw [← hoff]; exact h.on i h1, hrd⟩, nxV_is ok hil, if_neg (by rw [conV_vis ok hil]; decide)]
    exact List.mem_singleton.2 rfl
  exact List.length_pos_of_mem (mem_nxR hm _ hil)
/-- nothing of the empty set can begin -/
theorem zero_next (L : List (Int × Bool)) : ∀ k, k ≤ 63 → nxR 0 ol be L k = []
  | 0, _ => rfl
  | k + 1, h => by
    unfold nxR nxO
    have : hasR 0 (k : Int) = false := by
      have h1 := hasRS_nat (s := 0) (k := k) (by decide) (by omega)
      rw [U.has_zero] at h1
      exact h1
    rw [zero_next L k (by omega), if_neg (fun h => by rw [this] at h; cases h.1)]
    rfl
theorem allF_zero (ok : Okv ol) (hn : ol.length ≤ 10) (hr : U.Rt ol.length be) : allF 0 ol be = [] := by
  have e : nextW (waysF 0 ol be) (doneL []) = nxR 0 ol be [] ol.length := next_is ok hn hr (by decide) []
  rw [zero_next [] _ (by omega)] at e
  unfold allF
  show extF (waysF 0 ol be) (126 + 1) [] (doneL []) [] = []
  unfold extF
  rw [e]
  rfl

/-! ### whether there is a sequence -/
/-- what can be added -/
def AddP (s : Nat) (ol : List OrT) (be : List (Int × Int)) (l : List (Int × Bool)) (k : Nat) : Prop := S.has s k = true ∧ (ol.getD k or0).off = false ∧ conV l (visR ol k) = false ∧ rdyB ol be l k = true
structure PsI (s : Nat) (ol : List OrT) (be : List (Int × Int)) (l : List (Int × Bool)) (d : Nat) : Prop where
  con : ∀ k, k < ol.length → conV l (visR ol k) = S.has d k
  cf : U.CfI be s d
  on : ∀ k, S.has d k = true → (ol.getD k or0).off = false
  len : l.length + 2 * muB (U.minus s d) ≤ 2 * muB s
theorem PsI.start (ok : Okv ol) (s : Nat) : PsI s ol be [] 0 := by
  refine ⟨fun k hk => by rw [conV_vis ok hk, U.has_zero], U.CfI.start be s, (fun k h => by rw [U.has_zero] at h; cases h), ?_⟩
  have : muB (U.minus s 0) ≤ muB s := muB_le fun i hi => by
    unfold U.minus at hi
    rw [U.has_bit, Nat.testBit_and] at hi
    rw [U.has_bit]
    simp only [Bool.and_eq_true] at hi
    exact hi.1
  simp only [List.length_nil]
  omega
theorem conV_app (l : List (Int × Bool)) (V : List (Int × Bool)) : conV (l ++ V) V = true := by
  unfold conV
  rw [List.all_eq_true]
  exact fun v hv => decide_eq_true (List.mem_append_right _ hv)
theorem visR_num (ok : Okv ol) {k : Nat} (hk : k < ol.length) : ∀ v ∈ visR ol k, v.1 = (k : Int) := fun v hv => by
  rcases visR_form ok hk with e | e | e <;> rw [e] at hv <;> simp only [List.mem_cons, List.not_mem_nil, or_false] at hv
  · rcases hv with rfl | rfl <;> rfl
  · rw [hv]
  · rw [hv]
theorem conV_other (ok : Okv ol) {i k : Nat} (hi : i < ol.length) (hk : k < ol.length) (hne : k ≠ i) (l : List (Int × Bool)) : conV (l ++ visR ol i) (visR ol k) = conV l (visR ol k) := by
  unfold conV
  rw [Bool.eq_iff_iff, List.all_eq_true, List.all_eq_true]
  refine ⟨fun h v hv => ?_, fun h v hv => decide_eq_true (List.mem_append_left _ (of_decide_eq_true (h v hv)))⟩
  rcases List.mem_append.1 (of_decide_eq_true (h v hv)) with h1 | h1
  · exact decide_eq_true h1
  · have h2 := visR_num ok hi v h1
    have h3 := visR_num ok hk v hv
    omega
theorem PsI.add (ok : Okv ol) (hn : ol.length ≤ 10) (hr : U.Rt ol.length be) {s : Nat} (hs : s < 2 ^ ol.length) {l : List (Int × Bool)} {d i : Nat} (h : PsI s ol be l d) (hi : i < ol.length) (ha : AddP s ol be l i) :
    PsI s ol be (l ++ visR ol i) (d ||| 2 ^ i) ∧ muB (U.minus s (d ||| 2 ^ i)) < muB (U.minus s d) := by
  obtain ⟨h1, h2, h3, h4⟩ := ha
  have h10 : 2 ^ ol.length ≤ 1024 := U.pow_le hn
  have hd : d < 2 ^ ol.length := h.cf.lt hs
  have hdi : S.has d i = false := by rw [← h.con i hi, h3]
  have hd2 : d ||| 2 ^ i < 2 ^ ol.length := U.has_lt fun k hk => by
    rw [U.has_or, Bool.or_eq_true, U.has_pow, decide_eq_true_iff] at hk
    rcases hk with hk | rfl
    · exact U.lt_has hd hk
    · exact hi
  have hmu : muB (U.minus s (d ||| 2 ^ i)) < muB (U.minus s d) := muB_lt (k := i) (by omega) (by rw [U.has_minus (by omega) (by omega), h1, hdi]; rfl) (by rw [U.has_minus (by omega) (by omega), U.has_or, U.has_pow, decide_eq_true rfl]; simp) fun k hk => by
    rw [U.has_minus (by omega) (by omega), U.has_or] at hk
    rw [U.has_minus (by omega) (by omega)]
    simp only [Bool.and_eq_true, Bool.not_eq_true', Bool.or_eq_false_iff] at hk ⊢
    exact ⟨hk.1, hk.2.1⟩
  have hrd : ∀ p ∈ be, U.pb p = i → S.has d (U.pa p) = true := fun p hp e => by
    unfold rdyB at h4
    rw [List.all_eq_true] at h4
    have h5 := h4 p hp
    unfold rdyP at h5
    rw [decide_eq_true e, Bool.not_true, Bool.false_or, h.con _ (hr.a hp).1] at h5
    exact h5
  have hci : ¬ U.Ch be i i := fun hc => by
    cases hc with
    | one hp e =>
      have h5 := hrd _ hp rfl
      rw [e, hdi] at h5
      cases h5
    | more h6 hp => exact h.cf.ci _ (hrd _ hp rfl) ((U.Ch.one hp rfl).trans h6)
  refine ⟨⟨fun k hk => ?_, ⟨fun k hk => ?_, fun p hp hb => ?_, fun k hk => ?_⟩, fun k hk => ?_, ?_⟩, hmu⟩
  · rw [U.has_or, U.has_pow]
    by_cases e : k = i
    · subst e
      rw [conV_app, decide_eq_true rfl, Bool.or_true]
    · rw [conV_other ok hi hk e, h.con k hk, decide_eq_false e, Bool.or_false]
  · rw [U.has_or, Bool.or_eq_true, U.has_pow, decide_eq_true_iff] at hk
    rcases hk with hk | rfl
    · exact h.cf.sub k hk
    · exact h1
  · rw [U.has_or, Bool.or_eq_true, U.has_pow, decide_eq_true_iff] at hb ⊢
    rcases hb with hb | hb
    · exact .inl (h.cf.cl p hp hb)
    · exact .inl (hrd p hp hb)
  · rw [U.has_or, Bool.or_eq_true, U.has_pow, decide_eq_true_iff] at hk
    rcases hk with hk | rfl
    · exact h.cf.ci k hk
    · exact hci
  · rw [U.has_or, Bool.or_eq_true, U.has_pow, decide_eq_true_iff] at hk
    rcases hk with hk | rfl
    · exact h.on k hk
    · exact h2
  · have h5 := h.len
    have h6 := visR_len ol i
    rw [List.length_append]
    omega
/-- all orders of the set are there -/
def AllIn (s : Nat) (ol : List OrT) (l : List (Int × Bool)) : Prop := ∀ k, k < ol.length → S.has s k = true → (ol.getD k or0).off = false ∧ conV l (visR ol k) = true
theorem PsI.fin (hn : ol.length ≤ 10) (hr : U.Rt ol.length be) {off : Nat → Bool} (hoff : ∀ i, off i = (ol.getD i or0).off) {s : Nat} (hs : s < 2 ^ ol.length) {l : List (Int × Bool)} {d : Nat} (h : PsI s ol be l d) (hno : ∀ k, k < ol.length → ¬ AddP s ol be l k) : AllIn s ol l ↔ (U.offE ol.length off s = false ∧ U.canF ol.length be s = true) := by
  have hd : d < 2 ^ ol.length := h.cf.lt hs
  constructor
  · intro ha
    have hds : d = s := U.has_ext fun k => by
      rw [Bool.eq_iff_iff]
      refine ⟨h.cf.sub k, fun hk => ?_⟩
      have hkl := U.lt_has hs hk
      rw [← h.con k hkl]
      exact (ha k hkl hk).2
    subst hds
    refine ⟨?_, ?_⟩
    · unfold U.offE
      refine List.any_eq_false.2 fun k hk => ?_
      cases h1 : S.has d k
      · simp
      · rw [hoff, (ha k (List.mem_range.1 hk) h1).1]; simp
    · have hf : U.fol be d d = d := U.has_ext fun k => by
        rw [Bool.eq_iff_iff]
        exact ⟨fun hk => ((U.has_fol hr hn hs k).1 hk).1, h.cf.sup hr hn hs k⟩
      have h1 := h.cf.fix hr hn hs hf
      rw [← h1]
      simp
  · rintro ⟨h1, h2⟩
    have hon : ∀ k, S.has s k = true → (ol.getD k or0).off = false := fun k hk => by
      unfold U.offE at h1
      have h3 := List.any_eq_false.1 h1 k (List.mem_range.2 (U.lt_has hs hk))
      rw [hk, hoff] at h3
      simpa using h3
    have hf : U.fol be s d = d := U.has_ext fun k => by
      rw [Bool.eq_iff_iff]
      refine ⟨fun hk => ?_, h.cf.sup hr hn hs k⟩
      obtain ⟨h3, h4⟩ := (U.has_fol hr hn hs k).1 hk
      have hkl := U.lt_has hs h3
      cases h5 : S.has d k
      · refine absurd (⟨h3, hon k h3, by rw [h.con k hkl, h5], ?_⟩ : AddP s ol be l k) (hno k hkl)
        unfold rdyB
        rw [List.all_eq_true]
        intro p hp
        unfold rdyP
        by_cases e : U.pb p = k
        · rw [decide_eq_true e, h.con _ (hr.a hp).1, h4 p hp e.symm]; rfl
        · rw [decide_eq_false e]; rfl
      · rfl
    have h3 := h.cf.fix hr hn hs hf
    rw [h2, beq_iff_eq] at h3
    subst h3
    exact fun k hk hh => ⟨hon k hh, by rw [h.con k hk]; exact hh⟩
theorem apart_is {s n : Nat} (hs : s < 2 ^ n) (hn : n ≤ 10) (hra : U.Rt n ap) : aptB (s : Int) ap = !U.apartE ap s := by
  have h63 : s < 2 ^ 63 := Nat.lt_of_lt_of_le hs (Nat.le_trans (Nat.pow_le_pow_right (by omega) hn) (by decide))
  unfold aptB U.apartE
  rw [List.not_any_eq_all_not, Bool.eq_iff_iff, List.all_eq_true, List.all_eq_true]
  have key : ∀ p ∈ ap, aptP (s : Int) p = !(S.has s (U.pa p) && S.has s (U.pb p)) := fun p hp => by
    have h := hra.a hp
    unfold aptP
    rw [hasRS_nat h63 (by omega), hasRS_nat h63 (by omega)]
  exact ⟨fun h p hp => by rw [← key p hp]; exact h p hp, fun h p hp => by rw [key p hp]; exact h p hp⟩
/-- whether there is a sequence -/
def posB (s : Nat) (ol : List OrT) (ap be : List (Int × Int)) : Bool := decide (s ≠ 0) && decide (U.allowE ol.length (offF ol) ap be (s : Int) = 0)
theorem offF_is (ol : List OrT) (i : Nat) : offF ol i = (ol.getD i or0).off := by first | rfl | (unfold offF; rfl)
theorem posB_zero : posB 0 ol ap be = false := rfl
theorem posB_apart (hn : ol.length ≤ 10) (hra : U.Rt ol.length ap) {s : Nat} (hs : s < 2 ^ ol.length) (h : aptB (s : Int) ap = false) : posB s ol ap be = false := by
  rw [apart_is hs hn hra] at h
  unfold posB
  rw [U.allowE_nat hs, U.allow_can]
  have h1 : U.apartE ap s = true := by simpa using h
  rw [h1]
  cases U.offE ol.length (offF ol) s <;> simp
theorem posB_fin (hn : ol.length ≤ 10) (hra : U.Rt ol.length ap) (hr : U.Rt ol.length be) {s : Nat} (hs : s < 2 ^ ol.length) (h0 : s ≠ 0) (h : aptB (s : Int) ap = true) {l : List (Int × Bool)} {d : Nat} (hI : PsI s ol be l d) (hno : ∀ k, k < ol.length → ¬ AddP s ol be l k) : posB s ol ap be = true ↔ AllIn s ol l := by
  rw [apart_is hs hn hra] at h
  rw [hI.fin hn hr (offF_is ol) hs hno]
  unfold posB
  rw [U.allowE_nat hs, U.allow_can]
  have h1 : U.apartE ap s = false := by simpa using h
  rw [h1, decide_eq_true h0]
  cases U.offE ol.length (offF ol) s <;> cases U.canF ol.length be s <;> simp
theorem allF_is (ok : Okv ol) (hn : ol.length ≤ 10) (hr : U.Rt ol.length be) {s : Nat} (h : posB s ol ap be = true) : allF (s : Int) ol be = extR (s : Int) ol be 127 [] [] := by
  unfold posB at h
  rw [Bool.and_eq_true, decide_eq_true_iff, decide_eq_true_iff] at h
  have hk := (U.allowE_zero hr h.2).2
  rw [Int.toNat_natCast] at hk
  exact extR_is ok hn hr (by omega) 127 [] [] (by decide) (.inr (root_next ok hn hr (offF_is ol) hk h.1))
end
end Go.Proofs.Ytoliacfpjhanlaa.T


