/-
  DERIVED. KVA: a part of the base of layer 13 (made by pack.py).
-/
import Derived.Test.YtaallpebfcadjaaGreatDoorKPK
import Derived.Test.YtaallpebfcadjaaGreatDoorRows
import Derived.Test.YtaallpebfcadjaaGreatDoorKPR
import Derived.Test.YtaallpebfcadjaaGreatDoorKQE
import Derived.Test.YtaallpebfcadjaaGreatDoorKQG
import Derived.Test.YtaallpebfcadjaaGreatDoorKIF
import Derived.Test.YtaallpebfcadjaaGreatDoorKIH
import Derived.Test.YtaallpebfcadjaaGreatDoorKIL
import Derived.Laws.Rows
/-! Types of vehicles in plain lists: when two are the same; capacities by loads' right lists; and-not of skills; '==' of two arrays of twelve numbers. -/
namespace Go.Proofs.YtaallpebfcadjaaGreatDoor.T
open Go.RowKit
set_option maxRecDepth 8000

theorem same_refl (a : TyT) : sameT a a = true := by unfold sameT; simp
end Go.Proofs.YtaallpebfcadjaaGreatDoor.T


/-! Plain Lean: sets of numbers from 0 to 62 as natural numbers. -/
namespace Go.Proofs.YtaallpebfcadjaaGreatDoor.S

def sumP : List Nat → Nat
  | [] => 0
  | i :: l => 2 ^ i + sumP l
theorem sumP_app (l m : List Nat) : sumP (l ++ m) = sumP l + sumP m := by
  induction l with
  | nil => simp [sumP]
  | cons i l ih => rw [List.cons_append, sumP, sumP, ih]; omega
end Go.Proofs.YtaallpebfcadjaaGreatDoor.S


/-! Orders in plain lists: what each function answers. -/
namespace Go.Proofs.YtaallpebfcadjaaGreatDoor.T

theorem sameO_refl (a : OrT) : sameO a a = true := by unfold sameO; simp
end Go.Proofs.YtaallpebfcadjaaGreatDoor.T


/-! Plain Lean: ranks of members; ascending lists; sets laid at the members of a set. -/
namespace Go.Proofs.YtaallpebfcadjaaGreatDoor.S
theorem asc_low {l : List Nat} {a : Nat} (h : Asc (a :: l)) : Asc l ∧ ∀ x ∈ l, a < x := by
  unfold Asc at *
  rw [List.pairwise_cons] at h
  exact ⟨h.2, h.1⟩
/-- a member stands where as many as are less stand before it -/
theorem asc_at : ∀ {l : List Nat}, Asc l → ∀ p ∈ l, (l.filter fun i => decide (i < p)).length < l.length ∧ l.getD (l.filter fun i => decide (i < p)).length 0 = p
  | [], _, p, hp => by cases hp
  | a :: l, h, p, hp => by
    obtain ⟨hl, ha⟩ := asc_low h
    rcases List.mem_cons.1 hp with rfl | hp
    · have : (p :: l).filter (fun i => decide (i < p)) = [] := by
        rw [List.filter_eq_nil_iff]
        intro x hx
        rcases List.mem_cons.1 hx with rfl | hx
        · simp
        · have := ha x hx; simp; omega
      rw [this]
      exact ⟨by simp, rfl⟩
    · obtain ⟨h1, h2⟩ := asc_at hl p hp
      have hap := ha p hp
      rw [List.filter_cons_of_pos (by simpa using hap)]
      exact ⟨by simp only [List.length_cons]; omega, by rw [List.length_cons, List.getD_cons_succ]; exact h2⟩
/-- before the j-th stand j that are less -/
theorem asc_rk : ∀ {l : List Nat}, Asc l → ∀ j, j < l.length → (l.filter fun i => decide (i < l.getD j 0)).length = j
  | [], _, j, hj => by simp at hj
  | a :: l, h, 0, _ => by
    obtain ⟨hl, ha⟩ := asc_low h
    rw [List.getD_cons_zero, List.length_eq_zero_iff, List.filter_eq_nil_iff]
    intro x hx
    rcases List.mem_cons.1 hx with rfl | hx
    · simp
    · have := ha x hx; simp; omega
  | a :: l, h, j + 1, hj => by
    obtain ⟨hl, ha⟩ := asc_low h
    rw [List.length_cons] at hj
    have hm : l.getD j 0 ∈ l := by
      rw [List.getD_eq_getElem?_getD, List.getElem?_eq_getElem (by omega)]
      exact List.getElem_mem _
    rw [List.getD_cons_succ, List.filter_cons_of_pos (by simpa using ha _ hm), List.length_cons, asc_rk hl j (by omega)]
theorem asc_cmp {l : List Nat} (h : Asc l) {i j : Nat} (hi : i < l.length) (hj : j < l.length) : l.getD i 0 < l.getD j 0 ↔ i < j := by
  constructor
  · intro h1
    rcases Nat.lt_trichotomy i j with h2 | h2 | h2
    · exact h2
    · subst h2; omega
    · have := asc_lt h h2 hi; omega
  · exact fun h1 => asc_lt h h1 hj
/-- the sum of an ascending list has its members -/
theorem sumP_cons (a : Nat) (l : List Nat) : sumP (a :: l) = 2 ^ a + sumP l := rfl
theorem sumP_lt : ∀ {l : List Nat}, Asc l → ∀ k, (∀ x ∈ l, x < k) → sumP l < 2 ^ k
  | l, h, 0, hk => by
    cases l with
    | nil => decide
    | cons a l => exact absurd (hk a (by simp)) (by omega)
  | l, h, k + 1, hk => by
    by_cases hm : k ∈ l
    · obtain ⟨r, hr⟩ : ∃ r, l = r ++ [k] := by
        rcases List.eq_nil_or_concat l with rfl | ⟨r, x, rfl⟩
        · cases hm
        · rw [List.concat_eq_append] at *
          refine ⟨r, ?_⟩
          have h2 := (List.pairwise_append.1 h).2.2
          have : x = k := by
            rcases List.mem_append.1 hm with h3 | h3
            · have := h2 k h3 x (by simp)
              have := hk x (by simp)
              omega
            · have h4 := List.mem_singleton.1 h3; exact h4.symm
          rw [this]
      subst hr
      have h2 := List.pairwise_append.1 h
      have h3 := sumP_lt (l := r) h2.1 k (fun x hx => h2.2.2 x hx k (by simp))
      rw [sumP_app, Nat.pow_succ]
      show sumP r + (2 ^ k + 0) < _
      omega
    · have := sumP_lt h k (fun x hx => by
        have := hk x hx
        by_cases e : x = k
        · subst e; exact absurd hx hm
        · omega)
      rw [Nat.pow_succ]; omega
theorem has_top {a k : Nat} (ha : a < 2 ^ k) (i : Nat) : has (a + 2 ^ k) i = (has a i || decide (i = k)) := by
  have h := Nat.two_pow_add_eq_or_of_lt ha 1
  rw [Nat.mul_one] at h
  rw [has_bit, has_bit, Nat.add_comm, h, Nat.testBit_or, Nat.testBit_two_pow, Bool.or_comm]
  congr 1
  rw [decide_eq_decide]
  exact eq_comm
theorem has_sum : ∀ (n : Nat) {l : List Nat}, l.length ≤ n → Asc l → ∀ i, has (sumP l) i = decide (i ∈ l)
  | 0, l, hn, h, i => by
    have : l = [] := List.length_eq_zero_iff.1 (by omega)
    subst this
    rw [decide_eq_false (by simp)]
    show (0 / 2 ^ i % 2 == 1) = false
    rw [Nat.zero_div]
    rfl
  | n + 1, l, hn, h, i => by
    rcases List.eq_nil_or_concat l with rfl | ⟨r, x, rfl⟩
    · rw [decide_eq_false (by simp)]
      show (0 / 2 ^ i % 2 == 1) = false
      rw [Nat.zero_div]
      rfl
    · rw [List.concat_eq_append] at *
      have h2 := List.pairwise_append.1 h
      have h3 := sumP_lt (l := r) h2.1 x (fun y hy => h2.2.2 y hy x (by simp))
      rw [List.length_append, List.length_singleton] at hn
      have h4 := has_sum n (by omega) h2.1 i
      rw [sumP_app]
      show has (sumP r + (2 ^ x + 0)) i = _
      rw [Nat.add_zero, has_top h3, h4, ← Bool.decide_or, decide_eq_decide, List.mem_append, List.mem_singleton]
theorem asc_ext : ∀ {l m : List Nat}, Asc l → Asc m → (∀ i, i ∈ l ↔ i ∈ m) → l = m
  | [], [], _, _, _ => rfl
  | [], b :: m, _, _, h => absurd ((h b).2 (by simp)) (by simp)
  | a :: l, [], _, _, h => absurd ((h a).1 (by simp)) (by simp)
  | a :: l, b :: m, hl, hm, h => by
    obtain ⟨h1, h2⟩ := asc_low hl
    obtain ⟨h3, h4⟩ := asc_low hm
    have e : a = b := by
      rcases List.mem_cons.1 ((h a).1 (by simp)) with e | e
      · exact e
      · have := h4 a e
        rcases List.mem_cons.1 ((h b).2 (by simp)) with e | e
        · exact e.symm
        · have := h2 b e; omega
    subst e
    congr 1
    refine asc_ext h1 h3 fun i => ?_
    constructor
    · intro hi
      rcases List.mem_cons.1 ((h i).1 (List.mem_cons_of_mem _ hi)) with e | e
      · have := h2 i hi; omega
      · exact e
    · intro hi
      rcases List.mem_cons.1 ((h i).2 (List.mem_cons_of_mem _ hi)) with e | e
      · have := h4 i hi; omega
      · exact e
theorem members_sum {l : List Nat} (h : Asc l) (hk : ∀ x ∈ l, x < 63) : members (sumP l) = l := by
  refine asc_ext (asc_members _) h fun i => ?_
  rw [members_iff, has_sum _ (Nat.le_refl _) h, decide_eq_true_iff]
  exact ⟨fun h => h.2, fun hi => ⟨hk i hi, hi⟩⟩
/-- a set of positions, laid at a set's members -/
def lay (n m : Nat) : Nat := sumP ((members m).map fun k => (members n).getD k 0)
theorem asc_map {l m : List Nat} (hl : Asc l) (hm : Asc m) (hb : ∀ k ∈ m, k < l.length) : Asc (m.map fun k => l.getD k 0) := by
  unfold Asc at *
  rw [List.pairwise_map]
  refine List.Pairwise.imp_of_mem ?_ hm
  intro a b ha hb2 hab
  exact asc_lt hl hab (hb b hb2)
theorem members_lay {n m : Nat} (hb : ∀ k ∈ members m, k < (members n).length) : members (lay n m) = (members m).map fun k => (members n).getD k 0 := by
  refine members_sum (asc_map (asc_members n) (asc_members m) hb) fun x hx => ?_
  obtain ⟨k, hk, rfl⟩ := List.mem_map.1 hx
  exact ((members_iff n _).1 (mem_at (hb k hk))).1
theorem mem_lay {n m p : Nat} (hb : ∀ k ∈ members m, k < (members n).length) : p ∈ members (lay n m) ↔ p ∈ members n ∧ rk n p ∈ members m := by
  rw [members_lay hb]
  constructor
  · intro h
    obtain ⟨k, hk, rfl⟩ := List.mem_map.1 h
    refine ⟨mem_at (hb k hk), ?_⟩
    unfold rk
    rw [asc_rk (asc_members n) k (hb k hk)]
    exact hk
  · rintro ⟨h1, h2⟩
    exact List.mem_map.2 ⟨_, h2, (asc_at (asc_members n) p h1).2⟩
theorem rk_lay {n m p : Nat} (hb : ∀ k ∈ members m, k < (members n).length) (hp : p ∈ members n) : rk (lay n m) p = rk m (rk n p) := by
  show ((members (lay n m)).filter fun i => decide (i < p)).length = ((members m).filter fun i => decide (i < rk n p)).length
  obtain ⟨h1, h2⟩ := asc_at (asc_members n) p hp
  rw [members_lay hb, List.filter_map, List.length_map]
  congr 1
  refine List.filter_congr fun k hk => ?_
  show decide ((members n).getD k 0 < p) = _
  rw [decide_eq_decide]
  have h4 := asc_cmp (asc_members n) (hb k hk) h1
  rw [h2] at h4
  exact h4
theorem rk_lt {n p : Nat} (hp : p ∈ members n) : rk n p < (members n).length := (asc_at (asc_members n) p hp).1
theorem rk_at {n p : Nat} (hp : p ∈ members n) : (members n).getD (rk n p) 0 = p := (asc_at (asc_members n) p hp).2
/-- an ascending list of numbers below m has at most m -/
theorem asc_le {l : List Nat} (h : Asc l) {m : Nat} (hm : ∀ x ∈ l, x < m) : l.length ≤ m := by
  have h1 : ∀ (j : Nat), j < l.length → j ≤ l.getD j 0 := fun j => by
    induction j with
    | zero => exact fun _ => Nat.zero_le _
    | succ j ih =>
      intro hj
      have h2 := ih (by omega)
      have h3 : l.getD j 0 < l.getD (j + 1) 0 := asc_lt h (Nat.lt_succ_self j) hj
      omega
  by_cases h0 : l.length = 0
  · omega
  · have h2 := h1 (l.length - 1) (by omega)
    have h3 := hm _ (mem_at (show l.length - 1 < l.length by omega))
    omega
/-- the set of all below k -/
theorem members_full {k : Nat} (hk : k ≤ 63) : members (2 ^ k - 1) = List.range k := by
  refine asc_ext (asc_members _) List.pairwise_lt_range fun i => ?_
  rw [members_iff, has_bit, Nat.testBit_two_pow_sub_one, decide_eq_true_iff, List.mem_range]
  omega
theorem rk_full {k p : Nat} (hk : k ≤ 63) (hp : p ≤ k) : rk (2 ^ k - 1) p = p := by
  unfold rk
  rw [members_full hk]
  have : (List.range k).filter (fun i => decide (i < p)) = List.range p := by
    refine asc_ext (List.Pairwise.filter _ List.pairwise_lt_range) List.pairwise_lt_range fun i => ?_
    rw [List.mem_filter, List.mem_range, List.mem_range, decide_eq_true_iff]
    omega
  rw [this, List.length_range]
end Go.Proofs.YtaallpebfcadjaaGreatDoor.S


/-! Plain Lean: parts of instances are valid if the whole is; a part of a part is a part. -/
namespace Go.Proofs.YtaallpebfcadjaaGreatDoor.T
open Go.RowKit
set_option maxRecDepth 8000

theorem ren_mem {n : Nat} {l : List (Int × Int)} {p : Int × Int} (h : p ∈ l.filter fun p => S.hasI n p.1 && S.hasI n p.2) : p ∈ l ∧ (0 ≤ p.1 ∧ p.1.toNat ∈ S.members n) ∧ 0 ≤ p.2 ∧ p.2.toNat ∈ S.members n := by
  rw [List.mem_filter, Bool.and_eq_true, hasI_iff, hasI_iff] at h
  exact ⟨h.1, h.2.1, h.2.2⟩
theorem rk_inj {n : Nat} {a b : Nat} (ha : a ∈ S.members n) (hb : b ∈ S.members n) (h : S.rk n a = S.rk n b) : a = b := by
  rw [← S.rk_at ha, ← S.rk_at hb, h]
theorem rk_eq {n : Nat} {a b : Int} (ha : 0 ≤ a ∧ a.toNat ∈ S.members n) (hb : 0 ≤ b ∧ b.toNat ∈ S.members n) : ((S.rk n a.toNat : Int) == (S.rk n b.toNat : Int)) = (a == b) := by
  rw [Bool.eq_iff_iff, beq_iff_eq, beq_iff_eq]
  constructor
  · intro h
    have := rk_inj ha.2 hb.2 (by omega)
    omega
  · rintro rfl; rfl

/-! ### no faults of pairs -/
theorem twice_pw {turned : Bool} (l : List (Int × Int)) : (∀ k, k < l.length → twiceP turned l k k = false) ↔ l.Pairwise fun q p => eqP turned q p = false := by
  rw [List.pairwise_iff_getElem]
  constructor
  · intro h i j hi hj hij
    have := h j hj
    unfold twiceP at this
    rw [List.any_eq_false] at this
    have h2 := this l[i] (List.mem_take_iff_getElem.2 ⟨i, by omega, rfl⟩)
    rw [List.getD_eq_getElem?_getD, List.getElem?_eq_getElem hj] at h2
    simpa using h2
  · intro h k hk
    unfold twiceP
    rw [List.any_eq_false]
    intro q hq
    obtain ⟨i, hi, rfl⟩ := List.mem_take_iff_getElem.1 hq
    have := h i k (by omega) hk (by omega)
    rw [List.getD_eq_getElem?_getD, List.getElem?_eq_getElem hk]
    simpa using this
theorem pfF_nil {n : Int} {l : List (Int × Int)} {word : ByteArray} {turned : Bool} : ∀ k, pfF n l word turned k = [] ↔ l.length ≤ 16 ∧ ∀ i, i < k → badP n (l.getD i (0, 0)) = false ∧ twiceP turned l i i = false
  | 0 => by
    unfold pfF
    constructor
    · intro h
      refine ⟨?_, fun i hi => absurd hi (Nat.not_lt_zero _)⟩
      by_cases h2 : 16 < l.length
      · rw [if_pos h2] at h; cases h
      · omega
    · intro h
      rw [if_neg (by omega)]
  | k + 1 => by
    unfold pfF
    rw [List.append_eq_nil_iff, pfF_nil k, List.map_eq_nil_iff]
    unfold pairE
    constructor
    · rintro ⟨⟨h1, h2⟩, h3⟩
      refine ⟨h1, fun i hi => ?_⟩
      by_cases e : i = k
      · subst e
        cases hb : badP n (l.getD i (0, 0))
        · cases ht : twiceP turned l i i
          · exact ⟨rfl, rfl⟩
          · rw [hb, ht] at h3; cases h3
        · rw [hb] at h3; cases h3
      · exact h2 i (by omega)
    · rintro ⟨h1, h2⟩
      refine ⟨⟨h1, fun i hi => h2 i (by omega)⟩, ?_⟩
      obtain ⟨h3, h4⟩ := h2 k (by omega)
      rw [h3, h4]
      rfl
/-- pairs without a fault -/
def OkP (n : Int) (turned : Bool) (l : List (Int × Int)) : Prop := l.length ≤ 16 ∧ (∀ p ∈ l, badP n p = false) ∧ l.Pairwise fun q p => eqP turned q p = false
theorem pairF_nil {n : Int} {l : List (Int × Int)} {word : ByteArray} {turned : Bool} : pairF n l word turned = [] ↔ OkP n turned l := by
  unfold pairF OkP
  rw [pfF_nil, ← twice_pw]
  constructor
  · rintro ⟨h1, h2⟩
    refine ⟨h1, fun p hp => ?_, fun k hk => (h2 k hk).2⟩
    obtain ⟨i, hi, rfl⟩ := List.getElem_of_mem hp
    have := (h2 i hi).1
    rwa [List.getD_eq_getElem?_getD, List.getElem?_eq_getElem hi] at this
  · rintro ⟨h1, h2, h3⟩
    refine ⟨h1, fun i hi => ⟨?_, h3 i hi⟩⟩
    rw [List.getD_eq_getElem?_getD, List.getElem?_eq_getElem hi]
    exact h2 _ (List.getElem_mem hi)
theorem bad_iff {n : Int} {p : Int × Int} : badP n p = false ↔ 0 ≤ p.1 ∧ p.1 < n ∧ 0 ≤ p.2 ∧ p.2 < n ∧ p.1 ≠ p.2 := by
  unfold badP
  rw [Bool.or_eq_false_iff, Bool.or_eq_false_iff, Bool.or_eq_false_iff, Bool.or_eq_false_iff, decide_eq_false_iff_not, decide_eq_false_iff_not, decide_eq_false_iff_not, decide_eq_false_iff_not, beq_eq_false_iff_ne]
  omega
theorem ok_ren {N : Int} {turned : Bool} {l : List (Int × Int)} (n : Nat) (h : OkP N turned l) : OkP ((S.members n).length : Nat) turned (renP n l) := by
  obtain ⟨h1, h2, h3⟩ := h
  refine ⟨?_, ?_, ?_⟩
  · unfold renP
    rw [List.length_map]
    exact Nat.le_trans (List.length_filter_le _ _) h1
  · intro p hp
    unfold renP at hp
    obtain ⟨q, hq, rfl⟩ := List.mem_map.1 hp
    obtain ⟨m1, m2, m3⟩ := ren_mem hq
    have h4 := bad_iff.1 (h2 q m1)
    have e := rk_eq m2 m3
    have a1 := S.rk_lt m2.2
    have a2 := S.rk_lt m3.2
    rw [bad_iff]
    refine ⟨by show (0 : Int) ≤ (S.rk n q.1.toNat : Nat); omega, by show ((S.rk n q.1.toNat : Nat) : Int) < _; omega, by show (0 : Int) ≤ (S.rk n q.2.toNat : Nat); omega, by show ((S.rk n q.2.toNat : Nat) : Int) < _; omega, ?_⟩
    show ((S.rk n q.1.toNat : Nat) : Int) ≠ (S.rk n q.2.toNat : Nat)
    rw [beq_eq_false_iff_ne.2 h4.2.2.2.2, beq_eq_false_iff_ne] at e
    exact e
  · unfold renP
    rw [List.pairwise_map]
    refine List.Pairwise.imp_of_mem ?_ (List.Pairwise.filter _ h3)
    intro q p hq hp hqp
    obtain ⟨-, q1, q2⟩ := ren_mem hq
    obtain ⟨-, p1, p2⟩ := ren_mem hp
    unfold eqP at hqp ⊢
    show (((S.rk n q.1.toNat : Int) == (S.rk n p.1.toNat : Int) && (S.rk n q.2.toNat : Int) == (S.rk n p.2.toNat : Int)) || (turned && ((S.rk n q.1.toNat : Int) == (S.rk n p.2.toNat : Int) && (S.rk n q.2.toNat : Int) == (S.rk n p.1.toNat : Int)))) = false
    rw [rk_eq q1 p1, rk_eq q2 p2, rk_eq q1 p2, rk_eq q2 p1]
    exact hqp

/-! ### no faults of orders -/
theorem at_nil (i : Nat) (l : List Int) : atT i l = [] ↔ l = [] := by unfold atT; rw [List.map_eq_nil_iff]
theorem orF_nil {np : Nat} {dims types : Int} {l : List OrT} : ∀ k, orF np dims types l k = [] ↔ l.length ≤ 10 ∧ ∀ i, i < k → orE np dims types l i = []
  | 0 => by
    unfold orF orF0
    constructor
    · intro h
      refine ⟨?_, fun i hi => absurd hi (Nat.not_lt_zero _)⟩
      by_cases h2 : l.length ≤ 10
      · exact h2
      · rw [if_neg h2] at h; cases h
    · intro h
      rw [if_pos h.1]
  | k + 1 => by
    unfold orF
    rw [List.append_eq_nil_iff, orF_nil k, at_nil]
    constructor
    · rintro ⟨⟨h1, h2⟩, h3⟩
      refine ⟨h1, fun i hi => ?_⟩
      by_cases e : i = k
      · subst e; exact h3
      · exact h2 i (by omega)
    · rintro ⟨h1, h2⟩
      exact ⟨⟨h1, fun i hi => h2 i (by omega)⟩, h2 k (by omega)⟩
theorem orderF_nil {np : Nat} {dims types : Int} {l : List OrT} : orderF np dims types l = [] ↔ l.length ≤ 10 ∧ ∀ i, i < l.length → orE np dims types l i = [] := orF_nil l.length
theorem orE_nil {np : Nat} {dims types : Int} {l : List OrT} {i : Nat} : orE np dims types l i = [] ↔ orE1 (l.getD i or0) = [] ∧ orE2 l i (l.getD i or0) = [] ∧ orE3 dims (l.getD i or0) = [] ∧ orE4 np (l.getD i or0) = [] ∧ orE5 (l.getD i or0) = [] ∧ orE6 (l.getD i or0) = [] ∧ orE7 (l.getD i or0) = [] ∧ orE8 types (l.getD i or0) = [] := by
  unfold orE
  simp only [List.append_eq_nil_iff, and_assoc]
theorem orE2_nil {l : List OrT} {i : Nat} {a : OrT} : orE2 l i a = [] ↔ ∀ j, j < i → j < l.length → (l.getD j or0).name.toList ≠ a.name.toList := by
  unfold orE2 knownO
  constructor
  · intro h j hj hl e
    have : (l.take i).any (fun x => x.name.toList == a.name.toList) = true := by
      rw [List.any_eq_true]
      refine ⟨l[j], List.mem_take_iff_getElem.2 ⟨j, by omega, rfl⟩, ?_⟩
      rw [List.getD_eq_getElem?_getD, List.getElem?_eq_getElem hl] at e
      simpa using e
    rw [this] at h
    cases h
  · intro h
    have : (l.take i).any (fun x => x.name.toList == a.name.toList) = false := by
      rw [List.any_eq_false]
      intro x hx
      obtain ⟨j, hj, rfl⟩ := List.mem_take_iff_getElem.1 hx
      have := h j (by omega) (by omega)
      rw [List.getD_eq_getElem?_getD, List.getElem?_eq_getElem (by omega)] at this
      simpa using this
    rw [this]
    rfl
theorem map_at {α β : Type} {f : α → β} {l : List α} {k : Nat} {d : α} {e : β} (hk : k < l.length) : (l.map f).getD k e = f (l.getD k d) := by
  rw [List.getD_eq_getElem?_getD, List.getD_eq_getElem?_getD, List.getElem?_map, List.getElem?_eq_getElem hk]
  rfl
theorem order_part {np : Nat} {dims types : Int} {l : List OrT} {n : Nat} (hn : ∀ i ∈ S.members n, i < l.length) (h : orderF np dims types l = []) : orderF np dims types ((S.members n).map fun i => l.getD i or0) = [] := by
  rw [orderF_nil] at *
  obtain ⟨h1, h2⟩ := h
  have hlen : (S.members n).length ≤ l.length := by
    have h3 := S.asc_le (S.asc_members n) hn
    exact h3
  rw [List.length_map]
  refine ⟨by omega, fun k hk => ?_⟩
  have hkl := hn _ (S.mem_at hk)
  have h3 := orE_nil.1 (h2 _ hkl)
  rw [orE_nil, map_at (d := 0) hk]
  refine ⟨h3.1, ?_, h3.2.2⟩
  rw [orE2_nil]
  intro j hj hl
  rw [List.length_map] at hl
  rw [map_at (d := 0) hl]
  exact orE2_nil.1 h3.2.1 _ (S.asc_lt (S.asc_members n) hj hk) (hn _ (S.mem_at hl))

/-! ### parts -/
theorem inF_nil {x : InT} : inF x = [] ↔ netF x.pl x.al = [] ∧ fleetF x.pl.length x.tl = [] ∧ orderF x.pl.length (dimsF x.tl : Nat) (x.tl.length : Nat) x.ol = [] ∧ OkP (x.ol.length : Nat) true x.ap ∧ OkP (x.ol.length : Nat) false x.be := by
  unfold inF undF checkF
  simp only [List.append_eq_nil_iff, List.map_eq_nil_iff, and_assoc, pairF_nil]
/-- a part of what is valid is valid -/
theorem only_ok {x : InT} {n : Nat} (hn : ∀ i ∈ S.members n, i < x.ol.length) (h : inF x = []) : inF (onlyI x n) = [] := by
  rw [inF_nil] at *
  obtain ⟨h1, h2, h3, h4, h5⟩ := h
  refine ⟨h1, h2, order_part hn h3, ?_, ?_⟩
  · have := ok_ren n h4
    show OkP (((S.members n).map _).length : Nat) true (renP n x.ap)
    rw [List.length_map]
    exact this
  · have := ok_ren n h5
    show OkP (((S.members n).map _).length : Nat) false (renP n x.be)
    rw [List.length_map]
    exact this
theorem ren_full {N : Nat} {turned : Bool} {l : List (Int × Int)} (hN : N ≤ 62) (h : OkP (N : Nat) turned l) : renP (2 ^ N - 1) l = l := by
  obtain ⟨-, h2, -⟩ := h
  have hp : ∀ p ∈ l, (0 ≤ p.1 ∧ p.1 < N) ∧ 0 ≤ p.2 ∧ p.2 < N := fun p hp => by
    have := bad_iff.1 (h2 p hp)
    omega
  unfold renP
  have e : (l.filter fun p => S.hasI (2 ^ N - 1) p.1 && S.hasI (2 ^ N - 1) p.2) = l := by
    rw [List.filter_eq_self]
    intro p hm
    have := hp p hm
    rw [Bool.and_eq_true, hasI_iff, hasI_iff, S.members_full (by omega), List.mem_range, List.mem_range]
    omega
  rw [e]
  have e2 : l.map (fun p => ((S.rk (2 ^ N - 1) p.1.toNat : Int), (S.rk (2 ^ N - 1) p.2.toNat : Int))) = l.map id := by
    refine List.map_congr_left fun p hm => ?_
    have := hp p hm
    rw [S.rk_full (by omega) (by omega), S.rk_full (by omega) (by omega)]
    show ((p.1.toNat : Int), (p.2.toNat : Int)) = p
    obtain ⟨a, b⟩ := p
    simp only at this ⊢
    rw [Int.toNat_of_nonneg this.1.1, Int.toNat_of_nonneg this.2.1]
  rw [e2, List.map_id]
/-- all orders together are the instance -/
theorem only_all {x : InT} (h : inF x = []) : onlyI x (2 ^ x.ol.length - 1) = x := by
  rw [inF_nil] at h
  obtain ⟨-, -, h3, h4, h5⟩ := h
  have hl := (orderF_nil.1 h3).1
  unfold onlyI
  rw [ren_full (by omega) h4, ren_full (by omega) h5, S.members_full (by omega)]
  have : (List.range x.ol.length).map (fun i => x.ol.getD i or0) = x.ol := by
    refine List.ext_getElem (by rw [List.length_map, List.length_range]) fun i h1 h2 => ?_
    rw [List.getElem_map, List.getElem_range, List.getD_eq_getElem?_getD, List.getElem?_eq_getElem h2]
    rfl
  rw [this]
theorem ren_ren {n m : Nat} (hb : ∀ k ∈ S.members m, k < (S.members n).length) (l : List (Int × Int)) : renP m (renP n l) = renP (S.lay n m) l := by
  have hi : ∀ a : Int, S.hasI (S.lay n m) a = (S.hasI n a && S.hasI m (S.rk n a.toNat : Int)) := fun a => by
    rw [Bool.eq_iff_iff, Bool.and_eq_true, hasI_iff, hasI_iff, hasI_iff, S.mem_lay hb, Int.toNat_natCast]
    exact ⟨fun h => ⟨⟨h.1, h.2.1⟩, by omega, h.2.2⟩, fun h => ⟨h.1.1, h.1.2, h.2.2⟩⟩
  unfold renP
  rw [List.filter_map, List.map_map, List.filter_filter]
  have e : (l.filter fun p => S.hasI (S.lay n m) p.1 && S.hasI (S.lay n m) p.2) = l.filter fun p => ((fun p => S.hasI m p.1 && S.hasI m p.2) ∘ fun p => ((S.rk n p.1.toNat : Int), (S.rk n p.2.toNat : Int))) p && (S.hasI n p.1 && S.hasI n p.2) := by
    refine List.filter_congr fun p _ => ?_
    rw [hi, hi]
    show _ = (S.hasI m (S.rk n p.1.toNat : Int) && S.hasI m (S.rk n p.2.toNat : Int) && (S.hasI n p.1 && S.hasI n p.2))
    cases S.hasI n p.1 <;> cases S.hasI n p.2 <;> simp
  rw [← e]
  refine List.map_congr_left fun p hp => ?_
  rw [List.mem_filter, Bool.and_eq_true, hi, hi, Bool.and_eq_true, Bool.and_eq_true, hasI_iff n p.1, hasI_iff n p.2] at hp
  show ((S.rk m (S.rk n p.1.toNat : Int).toNat : Int), (S.rk m (S.rk n p.2.toNat : Int).toNat : Int)) = _
  rw [Int.toNat_natCast, Int.toNat_natCast, S.rk_lay hb hp.2.1.1.2, S.rk_lay hb hp.2.2.1.2]
/-- a part of a part is a part -/
theorem only_only {x : InT} {n m : Nat} (hb : ∀ k ∈ S.members m, k < (S.members n).length) : onlyI (onlyI x n) m = onlyI x (S.lay n m) := by
  unfold onlyI
  simp only
  rw [ren_ren hb, ren_ren hb, S.members_lay hb, List.map_map]
  congr 1
  refine List.map_congr_left fun k hk => ?_
  rw [map_at (d := 0) (hb k hk)]
  rfl

end Go.Proofs.YtaallpebfcadjaaGreatDoor.T


/-! The walk of sets.Members at a negative number: it ends. -/
namespace Go.Proofs.YtaallpebfcadjaaGreatDoor.S
open Go.RowKit
set_option maxRecDepth 8000

set_option maxHeartbeats 1000000 in
theorem ones64u (n c : Nat) (hn : n < 18446744073709551616) (hc : cnt 64 n = c) (w : World) :
    Calls Tryz.prog 136 #[.int .u64 n] w fun e w' => e = .returned (.int .i64 c) ∧ w = w' := by
  obtain ⟨a1, b1, y1, a2, b2, y2, s3, y3, y4, y5, y6, h1, h2, h3, h4, h5, h6, h7, h8, h9, h10, h11, h12, h13⟩ := ones_steps n hn
  rw [hc] at h13
  have H13 := Lib.hid h13
  clear h13 hc
  go_enter Tryz.func136, Tryz.ntmps136
  go_wp2_with fail
  go_ret
  exact ⟨ret_int H13.out, rfl⟩
theorem ones_u (n c : Nat) (hn : n < 18446744073709551616) (hc : cnt 64 n = c) (w : World) :
    Calls Tryz.prog 117 #[.int .u64 n] w fun e w' => e = .returned (.int .i64 c) ∧ w = w' := by
  have H := Lib.hid (ones64u n c hn hc)
  clear hc
  go_enter Tryz.func117, Tryz.ntmps117
  go_wp2_with fail
  refine (H.out _).mono ?_
  rintro e w' ⟨rfl, rfl⟩
  go_wp2_with fail
  go_ret
  exact ⟨rfl, rfl⟩
theorem u_neg (m : Nat) (hm : m < 9223372036854775808) : IntKind.u64.wrap ((m : Int) - 9223372036854775808) = ((9223372036854775808 + m : Nat) : Int) := by
  rw [IntKind.wrap_u64]; omega
theorem size_neg (m : Nat) (hm : m < 9223372036854775808) (w : World) :
    Calls Tryz.prog 81 #[.int .i64 ((m : Int) - 9223372036854775808)] w fun e w' => ∃ c : Nat, e = .returned (.int .i64 c) ∧ c ≤ 64 ∧ w = w' := by
  have hc := cnt_le 64 (9223372036854775808 + m)
  have H := Lib.hid (ones_u (9223372036854775808 + m) (cnt 64 (9223372036854775808 + m)) (by omega) rfl)
  have hu := u_neg m hm
  generalize cnt 64 (9223372036854775808 + m) = c at *
  generalize 9223372036854775808 + m = u at *
  go_enter Tryz.func81, Tryz.ntmps81
  go_wp2_with fail
  refine (H.out _).mono ?_
  rintro e w' ⟨rfl, rfl⟩
  go_wp2_with fail
  go_ret
  exact ⟨c, rfl, hc, rfl⟩
theorem u_low9 (i q n : Nat) (hq : n = 2 ^ i * (2 * q + 1)) (hn : n < 18446744073709551616) : bits .and .u64 (n : Int) (IntKind.u64.wrap (-(n : Int))) = (2 ^ i : Nat) := by
  have h := low_and i q 64 (by rw [← hq]; exact Nat.lt_of_lt_of_le hn (by decide))
  have hp := pow_p i
  have hn0 : 0 < n := by rw [hq]; exact Nat.mul_pos hp (by omega)
  rw [← hq, show (2 : Nat) ^ 64 = 18446744073709551616 by decide] at h
  rw [IntKind.wrap_u64, u_and, show ((n : Int) % 18446744073709551616).toNat = n by omega, show (-(n : Int) % 18446744073709551616 % 18446744073709551616).toNat = 18446744073709551616 - n by omega, h]
theorem trail64u (i q n : Nat) (hq : n = 2 ^ i * (2 * q + 1)) (hn : n < 18446744073709551616) (hi : i < 64) (w : World) (hT : Tab w) :
    Calls Tryz.prog 138 #[.int .u64 n] w fun e w' => e = .returned (.int .i64 i) ∧ w = w' := by
  have h0 : 0 < n := by rw [hq]; exact Nat.mul_pos (pow_p i) (by omega)
  have h1 := u_low9 i q n hq hn
  obtain ⟨j, hj⟩ : ∃ j, 2 ^ i * 285870213051353865 % 18446744073709551616 / 288230376151711744 = j := ⟨_, rfl⟩
  obtain ⟨hj64, hd⟩ := dbI_at i hi j hj
  have hc := Lib.TabIs.cell hT gTab j hj64
  obtain ⟨p, hp⟩ : ∃ p, 2 ^ i = p := ⟨_, rfl⟩
  rw [hp] at h1 hj
  obtain ⟨m, hm⟩ : ∃ m, p * 285870213051353865 % 18446744073709551616 = m := ⟨_, rfl⟩
  rw [hm] at hj
  have h2 : IntKind.u64.wrap ((p : Int) * 285870213051353865) = (m : Int) := by rw [IntKind.wrap_u64]; omega
  have h3 : (m : Int) / 288230376151711744 = (j : Int) := by omega
  have hne : ((n : Int) == 0) = false := eq0I (by omega)
  rw [show dbI.getD j 0 = (i : Int) by rw [List.getD_eq_getElem?_getD, hd]; rfl] at hc
  clear hq hp hm hj hT hd
  go_enter Tryz.func138, Tryz.ntmps138
  go_wp2_with fail
  go_ret
  exact ⟨rfl, rfl⟩
theorem trail_u (i q n : Nat) (hq : n = 2 ^ i * (2 * q + 1)) (hn : n < 18446744073709551616) (hi : i < 64) (w : World) (hT : Tab w) :
    Calls Tryz.prog 118 #[.int .u64 n] w fun e w' => e = .returned (.int .i64 i) ∧ w = w' := by
  have H := Lib.hid (fun w => trail64u i q n hq hn hi w)
  clear hq
  go_enter Tryz.func118, Tryz.ntmps118
  go_wp2_with fail
  refine (H.out _ hT).mono ?_
  rintro e w' ⟨rfl, rfl⟩
  go_wp2_with fail
  go_ret
  exact ⟨rfl, rfl⟩
/-- the lowest bit of a negative number -/
theorem low_neg (m : Nat) (hm : m < 9223372036854775808) : ∃ i q, i < 64 ∧ 9223372036854775808 + m = 2 ^ i * (2 * q + 1) := by
  cases hd : members m with
  | nil =>
    have : m = 0 := mem_nil 63 m (by simpa using hm) hd
    subst this
    exact ⟨63, 0, by omega, by decide⟩
  | cons i r =>
    obtain ⟨q, hq⟩ := mem_head 63 m i r hd
    have hi : i ≤ 62 := mem_lt62 (n := m) (by rw [hd]; simp)
    refine ⟨i, q + 2 ^ (62 - i), by omega, ?_⟩
    have hp : 2 ^ i * 2 ^ (62 - i) = 4611686018427387904 := by
      rw [← Nat.pow_add, show i + (62 - i) = 62 by omega]
    have he : 2 ^ i * (2 * (q + 2 ^ (62 - i)) + 1) = 2 ^ i * (2 * q + 1) + 2 * (2 ^ i * 2 ^ (62 - i)) := by grind
    rw [he, hp, ← hq]
    omega
theorem least_neg (m : Nat) (hm : m < 9223372036854775808) (w : World) (hT : Tab w) :
    Calls Tryz.prog 83 #[.int .i64 ((m : Int) - 9223372036854775808)] w fun e w' => ∃ i : Nat, e = .returned (.int .i64 i) ∧ w = w' := by
  obtain ⟨i, q, hi, hq⟩ := low_neg m hm
  have H := Lib.hid (fun w => trail_u i q (9223372036854775808 + m) hq (by omega) hi w)
  have hu := u_neg m hm
  have hne : (((m : Int) - 9223372036854775808) == 0) = false := by rw [beq_eq_false_iff_ne]; omega
  clear hq
  generalize 9223372036854775808 + m = u at *
  go_enter Tryz.func83, Tryz.ntmps83
  go_wp2_with fail
  refine (H.out _ hT).mono ?_
  rintro e w' ⟨rfl, rfl⟩
  go_wp2_with fail
  go_ret
  exact ⟨i, rfl, rfl⟩
theorem and_neg (a b : Nat) (ha : a < 9223372036854775808) (hb : b < 9223372036854775808) : bits .and .i64 ((a : Int) - 9223372036854775808) ((b : Int) - 9223372036854775808) = ((a &&& b : Nat) : Int) - 9223372036854775808 := by
  have hx : a &&& b < 2 ^ 63 := Nat.and_lt_two_pow _ (by omega)
  have h1 : (BitVec.ofInt 64 ((a : Int) - 9223372036854775808)).toNat = 2 ^ 63 + a := by rw [BitVec.toNat_ofInt]; omega
  have h2 : (BitVec.ofInt 64 ((b : Int) - 9223372036854775808)).toNat = 2 ^ 63 + b := by rw [BitVec.toNat_ofInt]; omega
  have h3 : (2 ^ 63 + a) &&& (2 ^ 63 + b) = 2 ^ 63 + (a &&& b) := by
    apply Nat.eq_of_testBit_eq
    intro i
    have e1 := Nat.two_pow_add_eq_or_of_lt (b := a) (i := 63) (by omega) 1
    have e2 := Nat.two_pow_add_eq_or_of_lt (b := b) (i := 63) (by omega) 1
    have e3 := Nat.two_pow_add_eq_or_of_lt (b := a &&& b) (i := 63) (by omega) 1
    rw [Nat.mul_one] at e1 e2 e3
    rw [e1, e2, e3]
    simp only [Nat.testBit_and, Nat.testBit_or]
    cases (2 ^ 63).testBit i <;> simp
  show IntKind.i64.wrap ((BitVec.ofInt 64 ((a : Int) - 9223372036854775808) &&& BitVec.ofInt 64 ((b : Int) - 9223372036854775808)).toNat : Int) = _
  rw [BitVec.toNat_and, h1, h2, h3, IntKind.wrap_i64]
  omega
theorem without_neg (m p : Nat) (h0 : 0 < m) (hm : m < 9223372036854775808) (hp : m &&& (m - 1) = p) (w : World) :
    Calls Tryz.prog 82 #[.int .i64 ((m : Int) - 9223372036854775808)] w fun e w' => e = .returned (.int .i64 ((p : Int) - 9223372036854775808)) ∧ w = w' := by
  have h1 := and_neg m (m - 1) hm (by omega)
  rw [hp, show ((m - 1 : Nat) : Int) - 9223372036854775808 = (m : Int) - 9223372036854775808 - 1 by omega] at h1
  have H1 := Lib.hid h1
  have hw : wrap64 ((m : Int) - 9223372036854775808 - 1) = (m : Int) - 9223372036854775808 - 1 := by unfold wrap64; omega
  clear h1 hp
  go_enter Tryz.func82, Tryz.ntmps82
  go_wp2_with fail
  go_ret
  exact ⟨ret_int H1.out, rfl⟩
theorem without_min (w : World) :
    Calls Tryz.prog 82 #[.int .i64 (-9223372036854775808)] w fun e w' => e = .returned (.int .i64 0) ∧ w = w' := by
  go_enter Tryz.func82, Tryz.ntmps82
  go_wp2_with fail
  go_ret
  exact ⟨ret_int (by first | rfl | decide +kernel), rfl⟩

set_option maxHeartbeats 2000000 in
theorem members_neg (m0 : Nat) (hm0 : m0 < 9223372036854775808) (w : World) (hT : Tab w) :
    Calls Tryz.prog 52 #[.int .i64 ((m0 : Int) - 9223372036854775808)] w fun e w' => ∃ (v : Value), e = .returned v ∧ (∃ l : List Nat, Owb w.heap.size w' v l) ∧ Below w.heap.size w w' := by
  obtain ⟨i0, hi, hz0, hz1, hz2⟩ := info3'
  have HSZ := Lib.hid (fun w => size_neg m0 hm0 w)
  have hlen : (members m0).length ≤ 63 := mem_len m0 63
  have hne0 : (((m0 : Int) - 9223372036854775808) == 0) = false := by rw [beq_eq_false_iff_ne]; omega
  obtain ⟨x0, hx0⟩ : ∃ x0, (m0 : Int) - 9223372036854775808 = x0 := ⟨_, rfl⟩
  rw [hx0] at HSZ ⊢
  have HX0 := Lib.hid hx0
  clear hx0 hne0
  go_enter Tryz.func52, Tryz.ntmps52
  go_wp2_with fail
  refine (HSZ.out _).mono ?_
  rintro e w' ⟨c, rfl, hc, rfl⟩
  go_wp2_with (at_make; refine wpList_make_own _ rfl _ _ 40 rfl w.heap.size 3 i0 (.int .i64 0) 1 Tryz.underlying40 hi hz0 hz1 _ _ _ c rfl rfl ?e1 ?e3 ?e4 (Nat.le_refl _) ?_)
  case e1 => rfl
  case e3 => rw [hz2]; omega
  case e4 => unfold maxLen; omega
  intro w1 hown hgrow
  have HO1 : Hid (Owb w.heap.size w1 (.slice (some ⟨w.heap.size, 0, none⟩) 0 c) []) := hown
  have HB1 : Hid (Below w.heap.size w w1) := (Below.refl _ w).grown hgrow (Nat.le_refl _) (fun k h => by cases h)
  clear hown hgrow
  go_wp2
  go_loopg [3, 4] 64 (fun gg v x wr => ∃ (l : List Nat) (y : Int), x = .int .i64 y ∧ l.length + gg ≤ 64 ∧ Hid (y = 0 ∨ ∃ m : Nat, m < 9223372036854775808 ∧ y = (m : Int) - 9223372036854775808 ∧ (members m).length + 1 ≤ gg) ∧ Hid (Owb w.heap.size wr v l) ∧ Hid (Below w.heap.size w wr))
  case atStart => exact ⟨[], x0, rfl, by simp, .inr ⟨m0, hm0, HX0.out.symm, by omega⟩, HO1, HB1⟩
  case round =>
    clear HO1 HB1 HX0 hlen hm0
    obtain ⟨l, y, rfl, hlg, HY, HO, HB⟩ := hrel
    by_cases hy : y = 0
    · subst hy
      go_wp2_with fail
      go_ret
      exact ⟨_, rfl, ⟨l, HO.out⟩, HB.out⟩
    · obtain ⟨m, hm, rfl, hmg⟩ := HY.out.resolve_left hy
      have HLe := Lib.hid (fun w hT => least_neg m hm w hT)
      have hTW : Tab wr := hT.below (Nat.le_refl _) HB.out
      have hne : (((m : Int) - 9223372036854775808) == 0) = false := by rw [beq_eq_false_iff_ne]; omega
      have HNx : Hid (∃ y2 : Int, (∀ w, Calls Tryz.prog 82 #[.int .i64 ((m : Int) - 9223372036854775808)] w fun e w' => e = .returned (.int .i64 y2) ∧ w = w') ∧ (y2 = 0 ∨ ∃ m2 : Nat, m2 < 9223372036854775808 ∧ y2 = (m2 : Int) - 9223372036854775808 ∧ (members m2).length + 1 ≤ gk - 1)) := by
        cases hd : members m with
        | nil =>
          have h0 : m = 0 := mem_nil 63 m (by simpa using hm) hd
          subst h0
          exact ⟨0, fun w => without_min w, .inl rfl⟩
        | cons i r =>
          have h2 := members_lt m i r hd hm
          rw [hd, List.length_cons] at hmg
          refine ⟨_, fun w => without_neg m (m - 2 ^ i) h2.2.2.2 hm h2.1 w, .inr ⟨m - 2 ^ i, by omega, rfl, ?_⟩⟩
          rw [h2.2.1]
          omega
      obtain ⟨y2, hwe, hy2⟩ := HNx.out
      have HWe := Lib.hid hwe
      have HY2 := Lib.hid hy2
      have hgp : 1 ≤ gk := by omega
      clear HNx hwe hy2 HY
      generalize (m : Int) - 9223372036854775808 = y at *
      have hl9 : l.length ≤ 1000000 := by omega
      have hmx : l.length + 1 ≤ maxLen := by unfold maxLen; omega
      have hby : (l.length + 1) * 8 ≤ 140737488355328 := by omega
      have hsz := HB.out.size
      go_wp2_with fail
      refine (HLe.out _ hTW).mono ?_
      rintro e w' ⟨i, rfl, rfl⟩
      have HOW2 := Lib.hid (HO.out.alloc (.cells #[.int .i64 (i : Int)] 3))
      have hszA : w.heap.size ≤ (wr.alloc (.cells #[.int .i64 (i : Int)] 3)).heap.size := by simp; omega
      go_wp2_with (at_builtin; refine wpList_append_own _ rfl _ _ 40 rfl w.heap.size 3 i0 (.int .i64 0) 1 8 Tryz.underlying40 hi hz0 hz1 hz2 rfl (by decide) _ _ _ rfl HOW2.out ⟨wr.heap.size, 0, none⟩ 1 1 [.int .i64 (i : Int)] rfl rfl (one_new wr (i : Int)) (one_cell (i : Int)) hmx hby hszA ?_)
      intro v2 w2 hown2 hgrow2 _
      have HO3 := Lib.hid (Owb.of_own (x := i) rfl rfl hown2)
      have HB3 := Lib.hid ((HB.out.alloc hsz (.cells #[.int .i64 (i : Int)] 3)).grown hgrow2 (by simp; omega) HO.out.blk)
      clear hown2 hgrow2 HOW2
      go_wp2_with fail
      refine (HWe.out _).mono ?_
      rintro e w' ⟨rfl, rfl⟩
      go_wp2_with fail
      go_roundg (gk - 1)
      case measure => omega
      case rel => exact ⟨l ++ [i], y2, rfl, by rw [List.length_append, List.length_singleton]; omega, HY2, HO3, HB3⟩

end Go.Proofs.YtaallpebfcadjaaGreatDoor.S


/-! The walk of the landed instance's Only: the errors (written by gen_inonly3.py). -/
namespace Go.Proofs.YtaallpebfcadjaaGreatDoor.T
open Go.RowKit
set_option maxRecDepth 8000

/-- no instance, no numbers, ErrArg -/
def noPart : Ending := .returned (.tuple #[.agg #[.slice none 0 0, .slice none 0 0, .slice none 0 0, .slice none 0 0, .slice none 0 0, .slice none 0 0], .slice none 0 0, .int .i64 2])
set_option maxHeartbeats 6400000 in
theorem only_neg (k : Iv) (x : InT) (m : Nat) (hm : m < 9223372036854775808) (w : World) (hT : S.Tab w) (h : Ins w k x) :
    Calls Tryz.prog 20 #[k.v x, .int .i64 ((m : Int) - 9223372036854775808)] w fun e w' => e = noPart ∧ Below w.heap.size w w' := by
  unfold noPart
  obtain ⟨o0, c0, o1, c1, o2, c2, o3, c3, o4, c4, o5, c5⟩ := k
  unfold Iv.v inV
  simp only
  have B1 := below_alloc w (.cells #[.slice o0 x.pl.length c0, .slice o1 x.al.length c1, .slice o2 x.tl.length c2, .slice o3 x.ol.length c3, .slice o4 x.ap.length c4, .slice o5 x.be.length c5] 30)
  have B0 := over B1 (below_alloc (w.alloc (.cells #[.slice o0 x.pl.length c0, .slice o1 x.al.length c1, .slice o2 x.tl.length c2, .slice o3 x.ol.length c3, .slice o4 x.ap.length c4, .slice o5 x.be.length c5] 30)) (.cells #[.slice none 0 0, .slice none 0 0, .slice none 0 0, .slice none 0 0, .slice none 0 0, .slice none 0 0] 30))
  have M1 := (Cb.made w #[.slice o0 x.pl.length c0, .slice o1 x.al.length c1, .slice o2 x.tl.length c2, .slice o3 x.ol.length c3, .slice o4 x.ap.length c4, .slice o5 x.be.length c5] 30).old (.cells #[.slice none 0 0, .slice none 0 0, .slice none 0 0, .slice none 0 0, .slice none 0 0, .slice none 0 0] 30)
  have M2 := Cb.made (w.alloc (.cells #[.slice o0 x.pl.length c0, .slice o1 x.al.length c1, .slice o2 x.tl.length c2, .slice o3 x.ol.length c3, .slice o4 x.ap.length c4, .slice o5 x.be.length c5] 30)) #[.slice none 0 0, .slice none 0 0, .slice none 0 0, .slice none 0 0, .slice none 0 0, .slice none 0 0] 30
  have hs1 : (w.alloc (.cells #[.slice o0 x.pl.length c0, .slice o1 x.al.length c1, .slice o2 x.tl.length c2, .slice o3 x.ol.length c3, .slice o4 x.ap.length c4, .slice o5 x.be.length c5] 30)).heap.size = w.heap.size + 1 := World.size_alloc ..
  rw [hs1] at M2
  have hq0 : w.heap.size + 2 ≤ ((w.alloc (.cells #[.slice o0 x.pl.length c0, .slice o1 x.al.length c1, .slice o2 x.tl.length c2, .slice o3 x.ol.length c3, .slice o4 x.ap.length c4, .slice o5 x.be.length c5] 30)).alloc (.cells #[.slice none 0 0, .slice none 0 0, .slice none 0 0, .slice none 0 0, .slice none 0 0, .slice none 0 0] 30)).heap.size := by simp only [World.size_alloc]; omega
  have HI := Lib.hid (h.below B0)
  have HT := Lib.hid (hT.over B0)
  obtain ⟨W0, hW0⟩ : ∃ W0, (w.alloc (.cells #[.slice o0 x.pl.length c0, .slice o1 x.al.length c1, .slice o2 x.tl.length c2, .slice o3 x.ol.length c3, .slice o4 x.ap.length c4, .slice o5 x.be.length c5] 30)).alloc (.cells #[.slice none 0 0, .slice none 0 0, .slice none 0 0, .slice none 0 0, .slice none 0 0, .slice none 0 0] 30) = W0 := ⟨_, rfl⟩
  rw [hW0] at M1 M2 B0 hq0 HI HT
  have HM1 := Lib.hid M1
  have HM2 := Lib.hid M2
  have HB := Lib.hid B0
  have HW0 := Lib.hid hW0
  clear M1 M2 B1 B0 hW0 h hT

  have KM := Lib.hid (fun w hT => S.members_neg m hm w hT)
  have hneg : (m : Int) - 9223372036854775808 < 0 := by omega
  generalize (m : Int) - 9223372036854775808 = y at *
  go_enter Tryz.func20, Tryz.ntmps20
  go_upto_region 1 with fail
  rw [HW0.out]
  clear HW0 hs1
  go_wp2_with fail
  refine (KM.out _ HT.out).mono ?_
  rintro e w1 ⟨v1, rfl, ⟨l1, ho⟩, hb⟩
  obtain ⟨a1, d1, rfl⟩ := ow_slice ho
  have HBz := Lib.hid hb
  clear hb ho
  have i3 : w1.cell? ⟨w.heap.size, 3, none⟩ = some (.slice o3 x.ol.length c3) := (HM1.out.below HBz.out).cell 3 rfl
  go_upto_region 2 with fail
  go_quiet (fail)
  go_upto_region 3 with fail
  generalize hW2 : World.drewN w1 _ = W2
  have HBz : Hid (Below W0.heap.size W0 W2) := by show Below _ _ _; rw [← hW2]; exact below_drewN HBz.out _
  clear hW2 i3
  have n0 : W2.cell? ⟨w.heap.size + 1, 0, none⟩ = some (.slice none 0 0) := (HM2.out.below HBz.out).cell 0 rfl
  have n1 : W2.cell? ⟨w.heap.size + 1, 1, none⟩ = some (.slice none 0 0) := (HM2.out.below HBz.out).cell 1 rfl
  have n2 : W2.cell? ⟨w.heap.size + 1, 2, none⟩ = some (.slice none 0 0) := (HM2.out.below HBz.out).cell 2 rfl
  have n3 : W2.cell? ⟨w.heap.size + 1, 3, none⟩ = some (.slice none 0 0) := (HM2.out.below HBz.out).cell 3 rfl
  have n4 : W2.cell? ⟨w.heap.size + 1, 4, none⟩ = some (.slice none 0 0) := (HM2.out.below HBz.out).cell 4 rfl
  have n5 : W2.cell? ⟨w.heap.size + 1, 5, none⟩ = some (.slice none 0 0) := (HM2.out.below HBz.out).cell 5 rfl
  have f0 : W2.frozen? ⟨w.heap.size + 1, 0, none⟩ = false := (HM2.out.below HBz.out).f 0
  have f1 : W2.frozen? ⟨w.heap.size + 1, 1, none⟩ = false := (HM2.out.below HBz.out).f 1
  have f2 : W2.frozen? ⟨w.heap.size + 1, 2, none⟩ = false := (HM2.out.below HBz.out).f 2
  have f3 : W2.frozen? ⟨w.heap.size + 1, 3, none⟩ = false := (HM2.out.below HBz.out).f 3
  have f4 : W2.frozen? ⟨w.heap.size + 1, 4, none⟩ = false := (HM2.out.below HBz.out).f 4
  have f5 : W2.frozen? ⟨w.heap.size + 1, 5, none⟩ = false := (HM2.out.below HBz.out).f 5
  obtain ⟨W9, hW9⟩ : ∃ W9, setCells W2 (w.heap.size + 1) 0 [.slice none 0 0, .slice none 0 0, .slice none 0 0, .slice none 0 0, .slice none 0 0, .slice none 0 0] = W9 := ⟨_, rfl⟩
  have hgr : W2.grownBy W9 (some (w.heap.size + 1)) := hW9 ▸ grown_cells (g := w.heap.size + 1) [.slice none 0 0, .slice none 0 0, .slice none 0 0, .slice none 0 0, .slice none 0 0, .slice none 0 0] W2 0
  have HS : Hid (Cb W9 (w.heap.size + 1) #[.slice none 0 0, .slice none 0 0, .slice none 0 0, .slice none 0 0, .slice none 0 0, .slice none 0 0] 30) := hW9 ▸ (Cb.full (HM2.out.below HBz.out) [.slice none 0 0, .slice none 0 0, .slice none 0 0, .slice none 0 0, .slice none 0 0, .slice none 0 0] rfl)
  have hn6 : ((((((W2.setCell ⟨w.heap.size + 1, 0, none⟩ (.slice none 0 0)).setCell ⟨w.heap.size + 1, 1, none⟩ (.slice none 0 0)).setCell ⟨w.heap.size + 1, 2, none⟩ (.slice none 0 0)).setCell ⟨w.heap.size + 1, 3, none⟩ (.slice none 0 0)).setCell ⟨w.heap.size + 1, 4, none⟩ (.slice none 0 0)).setCell ⟨w.heap.size + 1, 5, none⟩ (.slice none 0 0)) = W9 := (cells6 W2 (w.heap.size + 1) (.slice none 0 0) (.slice none 0 0) (.slice none 0 0) (.slice none 0 0) (.slice none 0 0) (.slice none 0 0)).trans hW9
  have HB9 := Lib.hid ((HB.out.trans (HBz.out.mono (by omega))).grown hgr (by have := HBz.out.size; omega) (fun x e => by simp only [Option.some.injEq] at e; omega))
  clear hW9
  go_wp2_with fail
  have g0 : W9.cell? ⟨w.heap.size + 1, 0, none⟩ = some (.slice none 0 0) := HS.out.cell 0 rfl
  have g1 : W9.cell? ⟨w.heap.size + 1, 1, none⟩ = some (.slice none 0 0) := HS.out.cell 1 rfl
  have g2 : W9.cell? ⟨w.heap.size + 1, 2, none⟩ = some (.slice none 0 0) := HS.out.cell 2 rfl
  have g3 : W9.cell? ⟨w.heap.size + 1, 3, none⟩ = some (.slice none 0 0) := HS.out.cell 3 rfl
  have g4 : W9.cell? ⟨w.heap.size + 1, 4, none⟩ = some (.slice none 0 0) := HS.out.cell 4 rfl
  have g5 : W9.cell? ⟨w.heap.size + 1, 5, none⟩ = some (.slice none 0 0) := HS.out.cell 5 rfl
  refine bodyPost_ret (v := .tuple #[.agg #[.slice none 0 0, .slice none 0 0, .slice none 0 0, .slice none 0 0, .slice none 0 0, .slice none 0 0], .slice none 0 0, .int .i64 2]) (by simp [results, Tryz.results20, go_sem, g0, g1, g2, g3, g4, g5]) rfl ⟨rfl, HB9.out⟩

end Go.Proofs.YtaallpebfcadjaaGreatDoor.T


/-! The walk of the landed instance's Only: sets that are not negative (written by gen_inonly4.py). -/
namespace Go.Proofs.YtaallpebfcadjaaGreatDoor.T
open Go.RowKit
set_option maxRecDepth 8000

set_option maxHeartbeats 6400000 in
theorem only_bad (k : Iv) (x : InT) (n : Nat) (hn : n < 2 ^ 63) (hbad : ¬ ∀ i ∈ S.members n, i < x.ol.length) (w : World) (hT : S.Tab w) (h : Ins w k x) :
    Calls Tryz.prog 20 #[k.v x, .int .i64 n] w fun e w' => e = noPart ∧ Below w.heap.size w w' := by
  unfold noPart
  obtain ⟨o0, c0, o1, c1, o2, c2, o3, c3, o4, c4, o5, c5⟩ := k
  unfold Iv.v inV
  simp only
  have B1 := below_alloc w (.cells #[.slice o0 x.pl.length c0, .slice o1 x.al.length c1, .slice o2 x.tl.length c2, .slice o3 x.ol.length c3, .slice o4 x.ap.length c4, .slice o5 x.be.length c5] 30)
  have B0 := over B1 (below_alloc (w.alloc (.cells #[.slice o0 x.pl.length c0, .slice o1 x.al.length c1, .slice o2 x.tl.length c2, .slice o3 x.ol.length c3, .slice o4 x.ap.length c4, .slice o5 x.be.length c5] 30)) (.cells #[.slice none 0 0, .slice none 0 0, .slice none 0 0, .slice none 0 0, .slice none 0 0, .slice none 0 0] 30))
  have M1 := (Cb.made w #[.slice o0 x.pl.length c0, .slice o1 x.al.length c1, .slice o2 x.tl.length c2, .slice o3 x.ol.length c3, .slice o4 x.ap.length c4, .slice o5 x.be.length c5] 30).old (.cells #[.slice none 0 0, .slice none 0 0, .slice none 0 0, .slice none 0 0, .slice none 0 0, .slice none 0 0] 30)
  have M2 := Cb.made (w.alloc (.cells #[.slice o0 x.pl.length c0, .slice o1 x.al.length c1, .slice o2 x.tl.length c2, .slice o3 x.ol.length c3, .slice o4 x.ap.length c4, .slice o5 x.be.length c5] 30)) #[.slice none 0 0, .slice none 0 0, .slice none 0 0, .slice none 0 0, .slice none 0 0, .slice none 0 0] 30
  have hs1 : (w.alloc (.cells #[.slice o0 x.pl.length c0, .slice o1 x.al.length c1, .slice o2 x.tl.length c2, .slice o3 x.ol.length c3, .slice o4 x.ap.length c4, .slice o5 x.be.length c5] 30)).heap.size = w.heap.size + 1 := World.size_alloc ..
  rw [hs1] at M2
  have hq0 : w.heap.size + 2 ≤ ((w.alloc (.cells #[.slice o0 x.pl.length c0, .slice o1 x.al.length c1, .slice o2 x.tl.length c2, .slice o3 x.ol.length c3, .slice o4 x.ap.length c4, .slice o5 x.be.length c5] 30)).alloc (.cells #[.slice none 0 0, .slice none 0 0, .slice none 0 0, .slice none 0 0, .slice none 0 0, .slice none 0 0] 30)).heap.size := by simp only [World.size_alloc]; omega
  have HI := Lib.hid (h.below B0)
  have HT := Lib.hid (hT.over B0)
  obtain ⟨W0, hW0⟩ : ∃ W0, (w.alloc (.cells #[.slice o0 x.pl.length c0, .slice o1 x.al.length c1, .slice o2 x.tl.length c2, .slice o3 x.ol.length c3, .slice o4 x.ap.length c4, .slice o5 x.be.length c5] 30)).alloc (.cells #[.slice none 0 0, .slice none 0 0, .slice none 0 0, .slice none 0 0, .slice none 0 0, .slice none 0 0] 30) = W0 := ⟨_, rfl⟩
  rw [hW0] at M1 M2 B0 hq0 HI HT
  have HM1 := Lib.hid M1
  have HM2 := Lib.hid M2
  have HB := Lib.hid B0
  have HW0 := Lib.hid hW0
  clear M1 M2 B1 B0 hW0 h hT

  have KM := Lib.hid (fun w hT => S.setMembers_n n hn w hT)
  have hlen := S.mem_len n 63
  obtain ⟨c, hc⟩ : ∃ c, (S.members n).length = c + 1 := by
    cases hl : (S.members n).length with
    | zero => exact absurd (fun i hi => by rw [List.length_eq_zero_iff.1 hl] at hi; cases hi) hbad
    | succ c => exact ⟨c, rfl⟩
  have hlast : x.ol.length ≤ (S.members n).getD c 0 := by
    rw [asc_last (S.asc_members n) hc] at hbad
    omega
  have hl63 : (S.members n).getD c 0 ≤ 62 := S.mem_lt62 (S.mem_at (by omega))
  have hc63 : c ≤ 62 := by unfold S.members at hc; omega
  have HC := Lib.hid hc
  generalize S.members n = l at *
  have hnn : ¬ (n : Int) < 0 := by omega
  clear hbad hlen hn hc
  go_enter Tryz.func20, Tryz.ntmps20
  go_upto_region 1 with fail
  rw [HW0.out]
  clear HW0 hs1
  go_wp2_with fail
  refine (KM.out _ HT.out).mono ?_
  rintro e w1 ⟨v1, rfl, ho, hb⟩
  obtain ⟨a1, d1, rfl⟩ := ow_slice ho
  obtain ⟨g1, rfl, hg1, hat⟩ := ow_at ho (i := c) (by rw [HC.out]; omega)
  rw [HC.out]
  have HBz := Lib.hid hb
  clear hb ho
  have i3 : w1.cell? ⟨w.heap.size, 3, none⟩ = some (.slice o3 x.ol.length c3) := (HM1.out.below HBz.out).cell 3 rfl
  generalize l.getD c 0 = y at *
  have hcmp : (x.ol.length : Int) ≤ (y : Int) := by omega
  have hnnD : decide ((n : Int) < 0) = false := decide_eq_false (by omega)
  have hw9 : IntKind.i64.wrap ((c : Nat) : Int) = (c : Int) := by rw [IntKind.wrap_i64]; omega
  have h0c : (0 : Int) ≤ (c : Int) := by omega
  have hcc : (c : Int) < (c : Int) + 1 := by omega
  have hps : decide ((0 : Int) < (c : Int) + 1) = true := decide_eq_true (by omega)
  have hcD : decide ((x.ol.length : Int) ≤ (y : Int)) = true := decide_eq_true (by omega)
  go_upto_region 2 with fail
  go_quiet (fail)
  go_upto_region 3 with fail
  generalize hW2 : World.drewN w1 _ = W2
  have HBz : Hid (Below W0.heap.size W0 W2) := by show Below _ _ _; rw [← hW2]; exact below_drewN HBz.out _
  clear hW2 i3
  have n0 : W2.cell? ⟨w.heap.size + 1, 0, none⟩ = some (.slice none 0 0) := (HM2.out.below HBz.out).cell 0 rfl
  have n1 : W2.cell? ⟨w.heap.size + 1, 1, none⟩ = some (.slice none 0 0) := (HM2.out.below HBz.out).cell 1 rfl
  have n2 : W2.cell? ⟨w.heap.size + 1, 2, none⟩ = some (.slice none 0 0) := (HM2.out.below HBz.out).cell 2 rfl
  have n3 : W2.cell? ⟨w.heap.size + 1, 3, none⟩ = some (.slice none 0 0) := (HM2.out.below HBz.out).cell 3 rfl
  have n4 : W2.cell? ⟨w.heap.size + 1, 4, none⟩ = some (.slice none 0 0) := (HM2.out.below HBz.out).cell 4 rfl
  have n5 : W2.cell? ⟨w.heap.size + 1, 5, none⟩ = some (.slice none 0 0) := (HM2.out.below HBz.out).cell 5 rfl
  have f0 : W2.frozen? ⟨w.heap.size + 1, 0, none⟩ = false := (HM2.out.below HBz.out).f 0
  have f1 : W2.frozen? ⟨w.heap.size + 1, 1, none⟩ = false := (HM2.out.below HBz.out).f 1
  have f2 : W2.frozen? ⟨w.heap.size + 1, 2, none⟩ = false := (HM2.out.below HBz.out).f 2
  have f3 : W2.frozen? ⟨w.heap.size + 1, 3, none⟩ = false := (HM2.out.below HBz.out).f 3
  have f4 : W2.frozen? ⟨w.heap.size + 1, 4, none⟩ = false := (HM2.out.below HBz.out).f 4
  have f5 : W2.frozen? ⟨w.heap.size + 1, 5, none⟩ = false := (HM2.out.below HBz.out).f 5
  obtain ⟨W9, hW9⟩ : ∃ W9, setCells W2 (w.heap.size + 1) 0 [.slice none 0 0, .slice none 0 0, .slice none 0 0, .slice none 0 0, .slice none 0 0, .slice none 0 0] = W9 := ⟨_, rfl⟩
  have hgr : W2.grownBy W9 (some (w.heap.size + 1)) := hW9 ▸ grown_cells (g := w.heap.size + 1) [.slice none 0 0, .slice none 0 0, .slice none 0 0, .slice none 0 0, .slice none 0 0, .slice none 0 0] W2 0
  have HS : Hid (Cb W9 (w.heap.size + 1) #[.slice none 0 0, .slice none 0 0, .slice none 0 0, .slice none 0 0, .slice none 0 0, .slice none 0 0] 30) := hW9 ▸ (Cb.full (HM2.out.below HBz.out) [.slice none 0 0, .slice none 0 0, .slice none 0 0, .slice none 0 0, .slice none 0 0, .slice none 0 0] rfl)
  have hn6 : ((((((W2.setCell ⟨w.heap.size + 1, 0, none⟩ (.slice none 0 0)).setCell ⟨w.heap.size + 1, 1, none⟩ (.slice none 0 0)).setCell ⟨w.heap.size + 1, 2, none⟩ (.slice none 0 0)).setCell ⟨w.heap.size + 1, 3, none⟩ (.slice none 0 0)).setCell ⟨w.heap.size + 1, 4, none⟩ (.slice none 0 0)).setCell ⟨w.heap.size + 1, 5, none⟩ (.slice none 0 0)) = W9 := (cells6 W2 (w.heap.size + 1) (.slice none 0 0) (.slice none 0 0) (.slice none 0 0) (.slice none 0 0) (.slice none 0 0) (.slice none 0 0)).trans hW9
  have HB9 := Lib.hid ((HB.out.trans (HBz.out.mono (by omega))).grown hgr (by have := HBz.out.size; omega) (fun x e => by simp only [Option.some.injEq] at e; omega))
  clear hW9
  go_wp2_with fail
  have g0 : W9.cell? ⟨w.heap.size + 1, 0, none⟩ = some (.slice none 0 0) := HS.out.cell 0 rfl
  have g1 : W9.cell? ⟨w.heap.size + 1, 1, none⟩ = some (.slice none 0 0) := HS.out.cell 1 rfl
  have g2 : W9.cell? ⟨w.heap.size + 1, 2, none⟩ = some (.slice none 0 0) := HS.out.cell 2 rfl
  have g3 : W9.cell? ⟨w.heap.size + 1, 3, none⟩ = some (.slice none 0 0) := HS.out.cell 3 rfl
  have g4 : W9.cell? ⟨w.heap.size + 1, 4, none⟩ = some (.slice none 0 0) := HS.out.cell 4 rfl
  have g5 : W9.cell? ⟨w.heap.size + 1, 5, none⟩ = some (.slice none 0 0) := HS.out.cell 5 rfl
  refine bodyPost_ret (v := .tuple #[.agg #[.slice none 0 0, .slice none 0 0, .slice none 0 0, .slice none 0 0, .slice none 0 0, .slice none 0 0], .slice none 0 0, .int .i64 2]) (by simp [results, Tryz.results20, go_sem, g0, g1, g2, g3, g4, g5]) rfl ⟨rfl, HB9.out⟩


end Go.Proofs.YtaallpebfcadjaaGreatDoor.T


/-! An instance by value, opened whole, as an argument. -/
namespace Go.Proofs.YtaallpebfcadjaaGreatDoor.T
open Go.Joins Go.ChangeShapes Go.WideShapes Go.ChangeAt Go.RowKit Go.Deep
set_option maxRecDepth 8000

section
variable {H : Type} {enc : TypeId × Value → H}
end
/-! ### small instances -/
theorem all_at {α : Type} {p : α → Bool} {l : List α} {d : α} (h : l.all p = true) {i : Nat} (hi : i < l.length) : p (l.getD i d) = true := by
  rw [List.getD_eq_getElem?_getD, List.getElem?_eq_getElem hi]
  exact List.all_eq_true.1 h _ (List.getElem_mem hi)
theorem wt_small {l : List ArcT} (h : l.all smlA = true) : wtA l ≤ 40 * l.length := by
  unfold wtA
  induction l with
  | nil => simp
  | cons a l ih =>
    rw [List.all_cons, Bool.and_eq_true] at h
    have h1 := ih h.2
    have h2 := h.1
    unfold smlA at h2
    rw [Bool.and_eq_true, decide_eq_true_iff, decide_eq_true_iff] at h2
    rw [List.map_cons, List.sum_cons, List.length_cons]
    omega
theorem inB_of {x : InT} (h : smlB x = true) : InB x := by
  unfold smlB smlN at h
  simp only [Bool.and_eq_true, decide_eq_true_eq] at h
  obtain ⟨⟨h1, h2, h3, h4, h5, h6⟩, ha, ht, ho⟩ := h
  refine ⟨by omega, by omega, ?_, by omega, fun i hi => ?_, by omega, fun i hi => ?_, by omega, by omega⟩
  · have := wt_small ha
    omega
  · have := all_at (d := ty0) ht hi
    unfold smlT at this
    rw [decide_eq_true_iff] at this
    omega
  · have := all_at (d := or0) ho hi
    unfold smlO at this
    rw [decide_eq_true_iff] at this
    omega
theorem inC_of {x : InT} (h : smlB x = true) : InC x := by
  unfold smlB smlN at h
  simp only [Bool.and_eq_true, decide_eq_true_eq] at h
  obtain ⟨⟨h1, h2, h3, h4, h5, h6⟩, ha, ht, ho⟩ := h
  refine ⟨by omega, by omega, fun i hi => ?_, by omega, fun i hi => ?_, by omega, fun i hi => ?_, by omega, by omega⟩
  · have := all_at (d := arc0) ha hi
    unfold smlA at this
    rw [Bool.and_eq_true, decide_eq_true_iff, decide_eq_true_iff] at this
    omega
  · have := all_at (d := ty0) ht hi
    unfold smlT at this
    rw [decide_eq_true_iff] at this
    omega
  · have := all_at (d := or0) ho hi
    unfold smlO at this
    rw [decide_eq_true_iff] at this
    omega
theorem inW_of {x : InT} (ha : InA x) (h : smlB x = true) : InW x := ⟨inB_of h, ha.pn, ha.tn, ha.on, ha.wf, ha.ia, ha.ib⟩
end Go.Proofs.YtaallpebfcadjaaGreatDoor.T


/-! From the laid list to the walks' environment; the witness's world; the last step of a row where the call leaves what was there as it was. -/
namespace Go.Proofs.YtaallpebfcadjaaGreatDoor
open Go.ChangeShapes Go.WideShapes Go.ChangeAt Go.RowKit Go.WideMaps Go.WideElems
open Go.ChangeMaps (open_string shut_string)

def laidB : List (String × DataW Unit) := Rows.instancePartsRow.laid
theorem envB {W : World} (h0 : laidMetH Tryz.prog laidB W) : T.Tab W ∧ S.Tab W := by
  have h : laidMet Tryz.prog laidB W := h0
  exact ⟨Lib.tabIs_of_head T.gTab gPowType Tryz.underlying167 Tryz.underlying154 cellsU64 cellsPow h.tail.tail, Lib.tabIs_of_head S.gTab gBitType Tryz.underlying161 Tryz.underlying5 cellsU8 cellsBit h.tail⟩
theorem doorB (os : Os) (args : Array Value) : laidMetH Tryz.prog laidB ((World.laidAll Tryz.prog os laidB).forCall (fun _ _ => 0) ⟨#[], args, []⟩).memory := by
  rw [MakeChecks.laidMetH_plain _ _ _ (by kernel_rfl)]
  exact laidMet_laidAll _ (by kernel_rfl) (by kernel_rfl)

section
variable {H : Type} {enc : TypeId × Value → H} {P : Program}
end

end Go.Proofs.YtaallpebfcadjaaGreatDoor


/-! Walks by rules: a frame is a list of what is known of its slots over slots that are not known; an operation's answer is told by the kernel, by a block that is known whole, or by a callee's contract. -/
namespace Go.Proofs.YtaallpebfcadjaaGreatDoor.T
open Go.RowKit
set_option maxRecDepth 8000

/-! ### frames -/
def lk : List (Nat × Value) → Nat → Option Value
  | [], _ => none
  | (k, v) :: l, i => bif Nat.beq k i then some v else lk l i
def slotV (g : Nat → Value) (l : List (Nat × Value)) (k : Nat) : Value := (lk l k).getD (g k)
def fr (n : Nat) (g : Nat → Value) (l : List (Nat × Value)) : Act := ⟨Array.ofFn (n := n) fun i => slotV g l i, []⟩
def ev (n : Nat) (g : Nat → Value) (l : List (Nat × Value)) : Operand → Value
  | .tmp k => bif Nat.blt k n then slotV g l k else undef
  | .const v => v
  | .global g => .pointer (some ⟨g, 0, none⟩)
  | .func f => .func (.func f) #[] #[]
theorem blt_iff {k n : Nat} : Nat.blt k n = decide (k < n) := by
  by_cases h : k < n
  · rw [decide_eq_true h]; exact Nat.ble_eq_true_of_le h
  · rw [decide_eq_false h]; exact Bool.eq_false_iff.2 fun e => h (Nat.le_of_ble_eq_true e)
theorem beq_iff {k n : Nat} : Nat.beq k n = decide (k = n) := by
  by_cases h : k = n
  · subst h; rw [decide_eq_true rfl]; exact Nat.beq_refl k
  · rw [decide_eq_false h]; exact Bool.eq_false_iff.2 fun e => h (Nat.eq_of_beq_eq_true e)
theorem fr_size (n : Nat) (g : Nat → Value) (l : List (Nat × Value)) : (fr n g l).tmps.size = n := by simp [fr]
theorem fr_get {n : Nat} {g : Nat → Value} {l : List (Nat × Value)} (k : Nat) : (fr n g l).tmps[k]? = if k < n then some (slotV g l k) else none := by
  unfold fr
  simp only [Array.getElem?_ofFn]
  by_cases h : k < n <;> simp [h]
theorem eval_fr (n : Nat) (g : Nat → Value) (l : List (Nat × Value)) : (fr n g l).eval = ev n g l := by
  funext x
  cases x with
  | tmp k =>
    show (fr n g l).tmps.getD k undef = bif Nat.blt k n then slotV g l k else undef
    rw [blt_iff, Array.getD_eq_getD_getElem?, fr_get]
    by_cases h : k < n <;> simp [h]
  | const v => rfl
  | global g => rfl
  | func f => rfl
theorem act_ext {a b : Act} (ht : ∀ k : Nat, a.tmps[k]? = b.tmps[k]?) (hd : a.defers = b.defers) : a = b := by
  obtain ⟨⟨t⟩, d⟩ := a
  obtain ⟨⟨t'⟩, d'⟩ := b
  simp only at hd
  subst hd
  congr 2
  refine List.ext_getElem? fun k => ?_
  have := ht k
  simpa using this
theorem put_fr {n : Nat} {g : Nat → Value} {l : List (Nat × Value)} {d : Nat} (hd : Nat.blt d n = true) (v : Value) : (fr n g l).put (some d) v = fr n g ((d, v) :: l) := by
  rw [blt_iff, decide_eq_true_iff] at hd
  refine act_ext (fun k => ?_) rfl
  show ((fr n g l).tmps.setIfInBounds d v)[k]? = _
  rw [Array.getElem?_setIfInBounds, fr_size, fr_get, fr_get]
  have e : slotV g ((d, v) :: l) k = if d = k then v else slotV g l k := by
    show (bif Nat.beq d k then some v else lk l k).getD (g k) = _
    rw [beq_iff]
    by_cases h : d = k <;> simp [h, slotV]
  rw [e]
  by_cases h : d = k
  · subst h; simp [hd]
  · simp [h]
/-- a frame may be told by some of its slots alone -/
theorem fr_less {n : Nat} {g : Nat → Value} {l l' : List (Nat × Value)} (h : l'.map (fun p => slotV g l p.1) = l'.map (·.2)) : ∃ g', fr n g l = fr n g' l' := by
  have key : ∀ (l' : List (Nat × Value)), l'.map (fun p => slotV g l p.1) = l'.map (·.2) → ∀ k, (lk l' k).getD (slotV g l k) = slotV g l k := by
    intro l'
    induction l' with
    | nil => intro _ k; rfl
    | cons p l' ih =>
      obtain ⟨j, v⟩ := p
      intro h k
      rw [List.map_cons, List.map_cons, List.cons.injEq] at h
      unfold lk
      rw [beq_iff]
      by_cases e : j = k
      · subst e
        rw [decide_eq_true rfl]
        exact h.1.symm
      · rw [decide_eq_false e]
        exact ih h.2 k
  refine ⟨slotV g l, act_ext (fun k => ?_) rfl⟩
  rw [fr_get, fr_get]
  by_cases hk : k < n
  · rw [if_pos hk, if_pos hk]
    exact congrArg some (key l' h k).symm
  · rw [if_neg hk, if_neg hk]
/-- is an operation wanted? -/
def yw (n : Nat) (g : Nat → Value) (l : List (Nat × Value)) (ops : Array Oper) (o : Oper) : Bool :=
  match o.guard with
  | none => true
  | some (j, want) => (match (ops[j]?).bind (·.dst) with
    | some d => (bif Nat.blt d n then (match slotV g l d with | .bool b => some b | _ => none) else none)
    | none => none) == some want
theorem wanted_fr (n : Nat) (g : Nat → Value) (l : List (Nat × Value)) (ops : Array Oper) (o : Oper) : Region.wanted o (yielded ops (fr n g l).tmps) = yw n g l ops o := by
  unfold Region.wanted yw
  cases o.guard with
  | none => rfl
  | some p =>
    obtain ⟨j, want⟩ := p
    show (yielded ops (fr n g l).tmps j == some want) = _
    congr 1
    unfold yielded
    cases (ops[j]?).bind (·.dst) with
    | none => rfl
    | some d =>
      show (match (fr n g l).tmps[d]? with | some (.bool b) => some b | _ => none) = (bif Nat.blt d n then (match slotV g l d with | .bool b => some b | _ => none) else none)
      rw [fr_get, blt_iff]
      by_cases h : d < n
      · rw [if_pos h, decide_eq_true h]
        show (match some (slotV g l d) with | some (.bool b) => some b | _ => none) = (match slotV g l d with | .bool b => some b | _ => none)
        cases slotV g l d <;> rfl
      · rw [if_neg h, decide_eq_false h]
        rfl

/-! ### plain regions -/
section
variable {P : Program} {ops : Array Oper} {Q : Exit → Act → World → Prop} {rest : List Oper} {o : Oper} {n : Nat} {g : Nat → Value} {l : List (Nat × Value)} {w : World}
theorem sx_step (hw : yw n g l ops o = true) (h : ∀ K : Act → World → Prop, (∀ a w, wpList P ops Q rest a w → K a w) → o.wp P (fr n g l) w K Q) : wpList P ops Q (o :: rest) (fr n g l) w :=
  wpList_step fun K hK => by rw [wanted_fr, if_pos hw]; exact h K hK
theorem sx_skip {d : Nat} (hw : yw n g l ops o = false) (hd : o.dst = some d) (hn : Nat.blt d n = true) (h : wpList P ops Q rest (fr n g ((d, undef) :: l)) w) : wpList P ops Q (o :: rest) (fr n g l) w :=
  wpList_skip (by rw [wanted_fr, hw]) (by rw [hd, put_fr hn]; exact h)
theorem sx_mem {d : Nat} (hw : yw n g l ops o = true) (hd : o.dst = some d) (hn : Nat.blt d n = true) (v : Value) (w' : World) (hr : (execOp (ev n g l) o).run P w = .ok (.value v) w') (h : wpList P ops Q rest (fr n g ((d, v) :: l)) w') : wpList P ops Q (o :: rest) (fr n g l) w :=
  sx_step hw fun K hK => by unfold Oper.wp; rw [eval_fr, hr]; refine hK _ _ ?_; rw [hd, put_fr hn]; exact h
theorem sx_val {d : Nat} (hw : yw n g l ops o = true) (hd : o.dst = some d) (hn : Nat.blt d n = true) (v : Value) (hr : (execOp (ev n g l) o).run P w = .ok (.value v) w) (h : wpList P ops Q rest (fr n g ((d, v) :: l)) w) : wpList P ops Q (o :: rest) (fr n g l) w :=
  sx_mem hw hd hn v w hr h
theorem sx_bool {d : Nat} (hw : yw n g l ops o = true) (hd : o.dst = some d) (hn : Nat.blt d n = true) (c b : Bool) (hr : (execOp (ev n g l) o).run P w = .ok (.value (.bool c)) w) (hb : c = b) (h : wpList P ops Q rest (fr n g ((d, .bool b) :: l)) w) : wpList P ops Q (o :: rest) (fr n g l) w :=
  sx_val hw hd hn _ (by rw [← hb]; exact hr) h
theorem sx_int {d : Nat} (hw : yw n g l ops o = true) (hd : o.dst = some d) (hn : Nat.blt d n = true) (k : IntKind) (c b : Int) (hr : (execOp (ev n g l) o).run P w = .ok (.value (.int k c)) w) (hb : c = b) (h : wpList P ops Q rest (fr n g ((d, .int k b) :: l)) w) : wpList P ops Q (o :: rest) (fr n g l) w :=
  sx_val hw hd hn _ (by rw [← hb]; exact hr) h
theorem sx_call {d : Nat} {f : FuncId} {args : Array Value} {R : Ending → World → Prop} (hw : yw n g l ops o = true) (hd : o.dst = some d) (hn : Nat.blt d n = true) (hc : Calls P f args w R) (hr : (execOp (ev n g l) o).run P w = .ok (.enter f args) w)
    (h : ∀ e w', R e w' → ∃ v, e = .returned v ∧ wpList P ops Q rest (fr n g ((d, v) :: l)) w') : wpList P ops Q (o :: rest) (fr n g l) w :=
  sx_step hw fun K hK => by
    unfold Oper.wp
    rw [eval_fr, hr]
    exact hc.mono fun e w' hR => by obtain ⟨v, rfl, hv⟩ := h e w' hR; refine hK _ _ ?_; rw [hd, put_fr hn]; exact hv
theorem sx_load {d : Nat} (hw : yw n g l ops o = true) (hd : o.dst = some d) (hn : Nat.blt d n = true) {ty : TypeId} {x : Operand} (ho : o.op = .load ty x) {q : Nat} {t : TypeId} {cs : Array Value} (hg : Cb w q cs t) (hx : ev n g l x = .pointer (some ⟨q, 0, none⟩)) {dd : TypeDesc}
    (hu : P.underlying ty = some dd) (hdd : (match dd with | .struct _ | .array _ _ => true | _ => false) = true) (hi : (P.info? ty).map (·.size) = some cs.size)
    (h : wpList P ops Q rest (fr n g ((d, .agg cs) :: l)) w) : wpList P ops Q (o :: rest) (fr n g l) w :=
  sx_step hw fun _ hK => wp_load_row ty x ho q (by rw [eval_fr]; exact hx) t cs (0, 0) dd hg hu hdd hi (hK _ _ (by rw [hd, put_fr hn]; exact h))
theorem run_load1 {p : Addr} {v : Value} (hc : w.cell? p = some v) {ty : TypeId} {d : TypeDesc} (hu : P.underlying ty = some d) (hd : (match d with | .struct _ | .array _ _ => true | _ => false) = false) :
    (Instr.loadAt ty (.pointer (some p))).run P w = .ok v w := by
  have hagg : (isAgg ty).run P w = .ok false w := by
    unfold isAgg
    rw [Sem.run_bind, run_underlying hu w]
    cases d <;> simp_all
  simp [Instr.loadAt, Instr.sureAddr, loadVar, Sem.run_bind, hagg, hc]
theorem sx_load1 {d : Nat} (hw : yw n g l ops o = true) (hd : o.dst = some d) (hn : Nat.blt d n = true) {ty : TypeId} {x : Operand} (ho : o.op = .load ty x) {p : Addr} {v : Value} (hc : w.cell? p = some v) (hx : ev n g l x = .pointer (some p)) {dd : TypeDesc}
    (hu : P.underlying ty = some dd) (hdd : (match dd with | .struct _ | .array _ _ => true | _ => false) = false) (h : wpList P ops Q rest (fr n g ((d, v) :: l)) w) : wpList P ops Q (o :: rest) (fr n g l) w :=
  sx_val hw hd hn v (by unfold execOp; simp only [ho, hx, run_load1 hc hu hdd, Sem.run_bind, Sem.run_pure, Result.andThen_ok]) h
theorem sx_store (hw : yw n g l ops o = true) (hd : o.dst = none) {ty : TypeId} {x y : Operand} (ho : o.op = .store ty x y) {q : Nat} {t : TypeId} {old : Array Value} (hg : Cb w q old t) {cells : Array Value} (hx : ev n g l x = .pointer (some ⟨q, 0, none⟩)) (hy : ev n g l y = .agg cells)
    (hi : (P.info? ty).map (·.size) = some cells.size) (hold : old.size = cells.size) (h1 : cells.all (·.oneCell') = true)
    (h : wpList P ops Q rest (fr n g l) (w.setRow q cells)) : wpList P ops Q (o :: rest) (fr n g l) w :=
  sx_step hw fun _ hK => wp_store_row ty x y ho q cells (by rw [eval_fr]; exact hx) (by rw [eval_fr]; exact hy) t old hg hi hold h1 (hK _ _ (by rw [hd]; exact h))
theorem run_index {t e : TypeId} {b q n c k s p : Nat} (hu : P.underlying t = some (.slice e)) (hs : (P.info? e).map (·.size) = some s) (hk : k < n) (hp : q + k * s = p) :
    (Instr.indexAt t (.slice (some ⟨b, q, none⟩) n c) (.int .i64 k)).run P w = .ok (.pointer (some ⟨b, p, none⟩)) w := by
  have h1 : (0 : Int) ≤ (k : Int) ∧ (k : Int) < (n : Int) := by omega
  have h2 : (sizeOf e).run P w = .ok s w := by
    cases hi : P.info? e with
    | none => rw [hi] at hs; cases hs
    | some i => rw [hi] at hs; simp only [Option.map_some, Option.some.injEq] at hs; simp [sizeOf, typeInfo, hi, hs]
  have h3 : (⟨b, q, none⟩ : Addr).add (k * s) = ⟨b, p, none⟩ := by rw [add_pl, hp]
  unfold Instr.indexAt
  simp only [asIntOf, Sem.run_bind, Sem.run_pure, Result.andThen_ok, run_underlying hu w, if_pos h1, h2, Int.toNat_natCast, h3]
theorem sx_index {d : Nat} (hw : yw n g l ops o = true) (hd : o.dst = some d) (hn : Nat.blt d n = true) {t : TypeId} {x y : Operand} (ho : o.op = .indexAddr t x y) (b q m c k s p : Nat) (hx : ev n g l x = .slice (some ⟨b, q, none⟩) m c) (hy : ev n g l y = .int .i64 k) {e : TypeId}
    (hu : P.underlying t = some (.slice e)) (hs : (P.info? e).map (·.size) = some s) (hk : k < m) (hp : q + k * s = p) (h : wpList P ops Q rest (fr n g ((d, .pointer (some ⟨b, p, none⟩)) :: l)) w) : wpList P ops Q (o :: rest) (fr n g l) w :=
  sx_val hw hd hn _ (by unfold execOp; simp only [ho, hx, hy, run_index hu hs hk hp, Sem.run_bind, Sem.run_pure, Result.andThen_ok]) h
theorem sx_shl {d : Nat} (hw : yw n g l ops o = true) (hd : o.dst = some d) (hn : Nat.blt d n = true) {ty : TypeId} {x y : Operand} {ty2 : TypeId} (ho : o.op = .binOp .shl ty x y ty2)
    (c : Int) (k : Nat) (v : Int) (hx : ev n g l x = .int .i64 c) (hy : ev n g l y = .int .u64 k) (hk : k ≤ 62) (hv : IntKind.i64.wrap (c * 2 ^ k) = v) (h : wpList P ops Q rest (fr n g ((d, .int .i64 v) :: l)) w) : wpList P ops Q (o :: rest) (fr n g l) w :=
  sx_val hw hd hn (.int .i64 v) (by
    have h1 : ¬ ((k : Nat) : Int) < 0 := by omega
    have h2 : min k 64 = k := by omega
    unfold execOp
    simp only [ho, hx, hy, eqGuard, binOp, Op.shift, Sem.run_bind, Sem.run_pure]
    rw [if_neg h1]
    simp only [Int.toNat_natCast, IntKind.bits, h2, hv, Sem.run_pure]
    rfl) h
end

/-! ### control -/
section
variable {P : Program} {Q : Exit → Act → World → Prop} {n : Nat} {g : Nat → Value} {l : List (Nat × Value)} {w : World} {a : Act}
theorem sx_enter {f : FuncId} {fn : Func} {c : Code} {args : Array Value} {R : Ending → World → Prop} (hf : P.funcs[f]? = some fn) (hb : fn.body = some c) (l : List (Nat × Value))
    (ha : ({ tmps := args ++ Array.replicate (fn.ntmps - args.size) undef, defers := [] } : Act) = fr fn.ntmps (fun _ => undef) l) (h : c.wp P (bodyPost P fn R) (fr fn.ntmps (fun _ => undef) l) w) : Calls P f args w R :=
  calls_of_wp hf hb (by rw [ha]; exact h)
theorem sx_norm {K : Act → World → Prop} (h : K a w) : Exit.then K Q .normal a w := h
theorem sx_true {c : Operand} {x y : Code} (hc : ev n g l c = .bool true) (h : x.wp P Q (fr n g l) w) : (Code.cond c x y).wp P Q (fr n g l) w := wp_cond_true (by rw [eval_fr]; exact hc) h
theorem sx_false {c : Operand} {x y : Code} (hc : ev n g l c = .bool false) (h : y.wp P Q (fr n g l) w) : (Code.cond c x y).wp P Q (fr n g l) w := wp_cond_false (by rw [eval_fr]; exact hc) h
theorem sx_in {id : Nat} (h : Q .normal a w) : Exit.inBlock id Q .normal a w := h
theorem sx_out {id : Nat} (h : Q .normal a w) : Exit.inBlock id Q (.exit id) a w := by show (if id = id then Q .normal a w else Q (.exit id) a w); rw [if_pos rfl]; exact h
theorem sx_rs {K : Act → World → Prop} (h : Q .ret a w) : Exit.then K Q .ret a w := h
theorem sx_es {K : Act → World → Prop} {id : Nat} (h : Q (.exit id) a w) : Exit.then K Q (.exit id) a w := h
/-- what a round hands on -/
def Again {ι : Type} (n : Nat) (L : ι → List (Nat × Value)) (R : Nat → ι → World → Prop) (m : Nat) (a : Act) (w : World) : Prop := ∃ m', m' < m ∧ ∃ i, R m' i w ∧ ∃ g', a = fr n g' (L i)
theorem sx_again {ι : Type} {L : ι → List (Nat × Value)} {R : Nat → ι → World → Prop} {m : Nat} (m' : Nat) (i : ι) (hm : m' < m) (hl : (L i).map (fun p => slotV g l p.1) = (L i).map (·.2)) (hR : R m' i w) : Again n L R m (fr n g l) w := by
  obtain ⟨g', e⟩ := fr_less (n := n) hl
  exact ⟨m', hm, i, hR, g', e⟩
/-- a loop: L: what is known of the slots at a round's head, by what varies; R: what holds, with a number that every round lowers -/
theorem sx_loop {ι : Type} {c : Code} (L : ι → List (Nat × Value)) (R : Nat → ι → World → Prop) (m : Nat) (i : ι) (hl : (L i).map (fun p => slotV g l p.1) = (L i).map (·.2)) (h0 : R m i w)
    (round : ∀ m i g' w', R m i w' → c.wp P (Exit.then (Again n L R m) Q) (fr n g' (L i)) w') : (Code.loop c).wp P Q (fr n g l) w := by
  obtain ⟨g0, e0⟩ := fr_less (n := n) hl
  rw [e0]
  refine wp_loop_ghost (fun m a w => ∃ i, R m i w ∧ ∃ g', a = fr n g' (L i)) m ⟨i, h0, g0, rfl⟩ ?_
  rintro m a w ⟨i, hR, g', rfl⟩
  exact round m i g' w hR
theorem slot_get {k : Nat} (hk : Nat.blt k n = true) : (fr n g l).tmps.getD k undef = slotV g l k := by
  rw [blt_iff, decide_eq_true_iff] at hk
  rw [Array.getD_eq_getD_getElem?, fr_get, if_pos hk]
  rfl
theorem sx_ret1 {fn : Func} {R : Ending → World → Prop} {t : Nat} (v : Value) (hf : fn.results = #[.tmp t]) (hk : Nat.blt t n = true) (hv : slotV g l t = v) (hR : R (.returned v) w) : bodyPost P fn R .ret (fr n g l) w :=
  bodyPost_ret (v := v) (by rw [results_tmp hf, slot_get hk, hv]) rfl hR
end
theorem grown_row (w : World) (g : Nat) (cs : Array Value) : w.grownBy (w.setRow g cs) (some g) := ⟨rfl, rfl, rfl, by rw [setRow_size]; exact Nat.le_refl _, fun j hj hne => setRow_other w g j cs (fun h => hne (by rw [h]))⟩
theorem Cb.row {w : World} {q : Nat} {old : Array Value} {t : TypeId} (h : Cb w q old t) (cs : Array Value) : Cb (w.setRow q cs) q cs t := setRow_heap w q old cs t (0, 0) h
/-- a new variable that is filled at once -/
theorem below_var (w : World) (o : Obj) (cs : Array Value) : Below w.heap.size w ((w.alloc o).setRow w.heap.size cs) :=
  (below_alloc w o).grown (grown_row _ _ cs) (by rw [World.size_alloc]; omega) (fun x e => by simp only [Option.some.injEq] at e; omega)

end Go.Proofs.YtaallpebfcadjaaGreatDoor.T


