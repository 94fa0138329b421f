/-
  DERIVED. Plain Lean: the fixed points that the landed rules find, and lists of pairs in ascending order.
-/
import Derived.Test.YtmoilpkgoabopaaDoorRuPure2
namespace Go.Proofs.YtmoilpkgoabopaaDoor.U

theorem sub_le {a b : Nat} (h : ∀ i, S.has a i = true → S.has b i = true) : a ≤ b := by
  rw [← and_sub h]; exact Nat.and_le_right
theorem has_or (a b i : Nat) : S.has (a ||| b) i = (S.has a i || S.has b i) := by
  rw [has_bit, has_bit, has_bit, Nat.testBit_or]
theorem has_pow (j i : Nat) : S.has (2 ^ j) i = decide (i = j) := by
  rw [has_bit, Nat.testBit_two_pow, decide_eq_decide]; exact eq_comm
/-- a set without another -/
def minus (s t : Nat) : Nat := s &&& (18446744073709551616 - 1 - t)
theorem has_minus {s t : Nat} (hs : s < 9223372036854775808) (ht : t < 9223372036854775808) (i : Nat) : S.has (minus s t) i = (S.has s i && !S.has t i) := by
  unfold minus
  rw [has_bit, has_bit, has_bit, Nat.testBit_and]
  have h1 := Nat.testBit_two_pow_sub_succ (n := 64) (x := t) (by omega) i
  rw [show (2 : Nat) ^ 64 - (t + 1) = 18446744073709551616 - 1 - t by omega] at h1
  rw [h1]
  by_cases hi : i < 64
  · rw [decide_eq_true hi, Bool.true_and]
  · have : s.testBit i = false := Nat.testBit_lt_two_pow (Nat.lt_of_lt_of_le hs (Nat.le_trans (by decide : 9223372036854775808 ≤ 2 ^ 64) (Nat.pow_le_pow_right (by omega) (by omega))))
    rw [this]; rfl
theorem minus_le (s t : Nat) : minus s t ≤ s := Nat.and_le_left
theorem pow_le {n : Nat} (h : n ≤ 10) : 2 ^ n ≤ 1024 := Nat.le_trans (Nat.pow_le_pow_right (by omega) h) (by decide)

/-! ### what comes ahead of a set -/
def ahdK (l : List (Int × Int)) (s : Nat) : Nat → Nat
  | 0 => 0
  | k + 1 => if S.has s (pb (l.getD k (0, 0))) then ahdK l s k ||| 2 ^ pa (l.getD k (0, 0)) else ahdK l s k
theorem ex_more {l : List (Int × Int)} {k : Nat} (P : Int × Int → Prop) : (∃ j, j < k + 1 ∧ P (l.getD j (0, 0))) ↔ (∃ j, j < k ∧ P (l.getD j (0, 0))) ∨ P (l.getD k (0, 0)) := by
  constructor
  · rintro ⟨j, hj, h⟩
    by_cases e : j = k
    · exact .inr (e ▸ h)
    · exact .inl ⟨j, by omega, h⟩
  · rintro (⟨j, hj, h⟩ | h)
    · exact ⟨j, by omega, h⟩
    · exact ⟨k, by omega, h⟩
theorem ex_mem {l : List (Int × Int)} (P : Int × Int → Prop) : (∃ j, j < l.length ∧ P (l.getD j (0, 0))) ↔ ∃ p ∈ l, P p := by
  constructor
  · rintro ⟨j, hj, h⟩
    refine ⟨_, ?_, h⟩
    rw [List.getD_eq_getElem?_getD, List.getElem?_eq_getElem hj]; exact List.getElem_mem hj
  · rintro ⟨p, hp, h⟩
    obtain ⟨j, hj, rfl⟩ := List.mem_iff_getElem.1 hp
    refine ⟨j, hj, ?_⟩
    rw [List.getD_eq_getElem?_getD, List.getElem?_eq_getElem hj]; exact h
theorem has_ahdK (l : List (Int × Int)) (s i : Nat) : ∀ k, S.has (ahdK l s k) i = true ↔ ∃ j, j < k ∧ (S.has s (pb (l.getD j (0, 0))) = true ∧ i = pa (l.getD j (0, 0)))
  | 0 => by
    rw [ahdK, has_zero]
    constructor
    · intro h; cases h
    · rintro ⟨j, hj, -⟩; omega
  | k + 1 => by
    rw [ex_more (fun p => S.has s (pb p) = true ∧ i = pa p), ← has_ahdK l s i k, ahdK]
    cases h : S.has s (pb (l.getD k (0, 0)))
    · rw [if_neg (by simp)]; simp
    · rw [if_pos rfl, has_or, has_pow, Bool.or_eq_true, decide_eq_true_iff]; simp
def ahd (l : List (Int × Int)) (s : Nat) : Nat := ahdK l s l.length
theorem has_ahd (l : List (Int × Int)) (s i : Nat) : S.has (ahd l s) i = true ↔ ∃ p ∈ l, S.has s (pb p) = true ∧ i = pa p := by
  unfold ahd
  rw [has_ahdK, ex_mem (fun p => S.has s (pb p) = true ∧ i = pa p)]
theorem getD_rt {n : Nat} {l : List (Int × Int)} (hr : Rt n l) {k : Nat} (hk : k < l.length) : pa (l.getD k (0, 0)) < n ∧ pb (l.getD k (0, 0)) < n ∧ l.getD k (0, 0) = ((pa (l.getD k (0, 0)) : Int), (pb (l.getD k (0, 0)) : Int)) := by
  have := hr.a (p := l.getD k (0, 0)) (by rw [List.getD_eq_getElem?_getD, List.getElem?_eq_getElem hk]; exact List.getElem_mem hk)
  exact ⟨this.1, this.2.1, this.2.2.2⟩
theorem ahdK_lt {n : Nat} {l : List (Int × Int)} (hr : Rt n l) (s : Nat) {k : Nat} (hk : k ≤ l.length) : ahdK l s k < 2 ^ n := has_lt fun i hi => by
  obtain ⟨j, hj, -, rfl⟩ := (has_ahdK l s i k).1 hi
  exact (getD_rt hr (by omega)).1
/-- what Needs has found so far -/
structure NdI (l : List (Int × Int)) (o a : Nat) : Prop where
  own : S.has a o = true
  ch : ∀ i, S.has a i = true → i = o ∨ Ch l i o
theorem NdI.start (l : List (Int × Int)) (o : Nat) : NdI l o (2 ^ o) := ⟨by rw [has_pow]; simp, fun i hi => by rw [has_pow, decide_eq_true_iff] at hi; exact .inl hi⟩
theorem NdI.step {l : List (Int × Int)} {o a : Nat} (h : NdI l o a) : NdI l o (a ||| ahd l a) := by
  refine ⟨by rw [has_or, h.own]; rfl, fun i hi => ?_⟩
  rw [has_or, Bool.or_eq_true] at hi
  rcases hi with hi | hi
  · exact h.ch i hi
  · obtain ⟨p, hp, hb, rfl⟩ := (has_ahd l a i).1 hi
    rcases h.ch _ hb with e | hc
    · exact .inr (e ▸ Ch.one hp rfl)
    · exact .inr ((Ch.one hp rfl).trans hc)
theorem NdI.lt {n : Nat} {l : List (Int × Int)} (hr : Rt n l) {o a : Nat} (ho : o < n) (h : NdI l o a) : a < 2 ^ n := has_lt fun i hi => by
  rcases h.ch i hi with rfl | hc
  · exact ho
  · exact (hc.lt hr).1
theorem NdI.fix {n : Nat} {l : List (Int × Int)} (hr : Rt n l) {o a : Nat} (ho : o < n) (h : NdI l o a) (hf : a ||| ahd l a = a) : a = needN n l o := has_ext fun i => by
  rw [Bool.eq_iff_iff, has_need hr]
  constructor
  · intro hi
    exact ⟨lt_has (h.lt hr ho) hi, h.ch i hi⟩
  · rintro ⟨-, rfl | hc⟩
    · exact h.own
    · refine hc.back (fun p hp hb => ?_) h.own
      rw [← hf, has_or, Bool.or_eq_true]
      exact .inr ((has_ahd l a _).2 ⟨p, hp, hb, rfl⟩)
theorem NdI.pos {l : List (Int × Int)} {o a : Nat} (h : NdI l o a) : 0 < a := by
  rcases Nat.eq_zero_or_pos a with e | e
  · have := h.own; rw [e, has_zero] at this; cases this
  · exact e

/-! ### what waits for others -/
def wtgK (l : List (Int × Int)) (s d : Nat) : Nat → Nat
  | 0 => 0
  | k + 1 => if S.has s (pb (l.getD k (0, 0))) && !S.has d (pa (l.getD k (0, 0))) then wtgK l s d k ||| 2 ^ pb (l.getD k (0, 0)) else wtgK l s d k
theorem has_wtgK (l : List (Int × Int)) (s d i : Nat) : ∀ k, S.has (wtgK l s d k) i = true ↔ ∃ j, j < k ∧ ((S.has s (pb (l.getD j (0, 0))) && !S.has d (pa (l.getD j (0, 0)))) = true ∧ i = pb (l.getD j (0, 0)))
  | 0 => by
    rw [wtgK, has_zero]
    constructor
    · intro h; cases h
    · rintro ⟨j, hj, -⟩; omega
  | k + 1 => by
    rw [ex_more (fun p => (S.has s (pb p) && !S.has d (pa p)) = true ∧ i = pb p), ← has_wtgK l s d i k, wtgK]
    cases h : S.has s (pb (l.getD k (0, 0))) && !S.has d (pa (l.getD k (0, 0)))
    · rw [if_neg (by simp)]; simp
    · rw [if_pos rfl, has_or, has_pow, Bool.or_eq_true, decide_eq_true_iff]; simp
def wtg (l : List (Int × Int)) (s d : Nat) : Nat := wtgK l s d l.length
theorem has_wtg (l : List (Int × Int)) (s d i : Nat) : S.has (wtg l s d) i = true ↔ ∃ p ∈ l, (S.has s (pb p) && !S.has d (pa p)) = true ∧ i = pb p := by
  unfold wtg
  rw [has_wtgK, ex_mem (fun p => (S.has s (pb p) && !S.has d (pa p)) = true ∧ i = pb p)]
theorem wtgK_lt {n : Nat} {l : List (Int × Int)} (hr : Rt n l) (s d : Nat) {k : Nat} (hk : k ≤ l.length) : wtgK l s d k < 2 ^ n := has_lt fun i hi => by
  obtain ⟨j, hj, -, rfl⟩ := (has_wtgK l s d i k).1 hi
  exact (getD_rt hr (by omega)).2.1
/-- the next of canFollow's sets -/
def fol (l : List (Int × Int)) (s d : Nat) : Nat := minus s (wtg l s d)
theorem has_fol {n : Nat} {l : List (Int × Int)} (hr : Rt n l) (hn : n ≤ 10) {s d : Nat} (hs : s < 2 ^ n) (i : Nat) : S.has (fol l s d) i = true ↔ S.has s i = true ∧ ∀ p ∈ l, i = pb p → S.has d (pa p) = true := by
  have h1 := pow_le hn
  have h2 : wtg l s d < 2 ^ n := wtgK_lt hr s d (Nat.le_refl _)
  unfold fol
  rw [has_minus (by omega) (by omega), Bool.and_eq_true, Bool.not_eq_true']
  constructor
  · rintro ⟨h3, h4⟩
    refine ⟨h3, fun p hp e => ?_⟩
    cases h5 : S.has d (pa p)
    · have : S.has (wtg l s d) i = true := (has_wtg l s d i).2 ⟨p, hp, by rw [← e, h3, h5]; rfl, e⟩
      rw [h4] at this; cases this
    · rfl
  · rintro ⟨h3, h4⟩
    refine ⟨h3, ?_⟩
    cases h5 : S.has (wtg l s d) i
    · rfl
    · obtain ⟨p, hp, h6, e⟩ := (has_wtg l s d i).1 h5
      rw [h4 p hp e] at h6
      simp at h6
/-- the orders that canFollow has done -/
structure CfI (l : List (Int × Int)) (s d : Nat) : Prop where
  sub : ∀ i, S.has d i = true → S.has s i = true
  cl : ∀ p ∈ l, S.has d (pb p) = true → S.has d (pa p) = true
  ci : ∀ i, S.has d i = true → ¬ Ch l i i
theorem CfI.start (l : List (Int × Int)) (s : Nat) : CfI l s 0 := ⟨fun i h => (by rw [has_zero] at h; cases h), fun p _ h => (by rw [has_zero] at h; cases h), fun i h => (by rw [has_zero] at h; cases h)⟩
theorem CfI.lt {n : Nat} {l : List (Int × Int)} {s d : Nat} (hs : s < 2 ^ n) (h : CfI l s d) : d < 2 ^ n := has_lt fun i hi => lt_has hs (h.sub i hi)
def canF (n : Nat) (l : List (Int × Int)) (s : Nat) : Bool := !beforeE l s && !circleE n l s
section
variable {n : Nat} {l : List (Int × Int)} (hr : Rt n l) (hn : n ≤ 10) {s d : Nat} (hs : s < 2 ^ n)
include hr hn hs
theorem CfI.sup (h : CfI l s d) : ∀ i, S.has d i = true → S.has (fol l s d) i = true := fun i hi => (has_fol hr hn hs i).2 ⟨h.sub i hi, fun p hp e => h.cl p hp (e ▸ hi)⟩
theorem CfI.step (h : CfI l s d) : CfI l s (fol l s d) := by
  refine ⟨fun i hi => ((has_fol hr hn hs i).1 hi).1, fun p hp hb => ?_, fun i hi hc => ?_⟩
  · exact h.sup hr hn hs _ (((has_fol hr hn hs _).1 hb).2 p hp rfl)
  · have h1 := ((has_fol hr hn hs i).1 hi).2
    cases hc with
    | one hp e =>
      have h2 := h1 _ hp rfl
      rw [e] at h2
      exact h.ci _ h2 (by have := Ch.one hp e; exact this)
    | more h2 hp => exact h.ci _ (h1 _ hp rfl) ((Ch.one hp rfl).trans h2)
theorem CfI.grow (h : CfI l s d) : d ≤ fol l s d := sub_le (h.sup hr hn hs)
theorem CfI.fix (h : CfI l s d) (hf : fol l s d = d) : (d == s) = canF n l s := by
  unfold canF
  rw [Bool.eq_iff_iff, beq_iff_eq, Bool.and_eq_true, Bool.not_eq_true', Bool.not_eq_true']
  constructor
  · rintro rfl
    refine ⟨List.any_eq_false.2 fun p hp => ?_, List.any_eq_false.2 fun i _ => ?_⟩
    · cases h1 : S.has d (pb p)
      · simp
      · rw [h.cl p hp h1]; simp
    · cases h1 : S.has d i
      · simp
      · cases h2 : S.has (reach n l i) i
        · simp
        · exact absurd ((reach_iff hr i i).1 h2) (h.ci i h1)
  · rintro ⟨hb, hc⟩
    have hall : ∀ m i, ofB (fun j => S.has (reach n l j) i) n ≤ m → S.has s i = true → S.has d i = true := by
      intro m
      induction m with
      | zero =>
        intro i hm hi
        rw [← hf]
        refine (has_fol hr hn hs i).2 ⟨hi, fun p hp e => ?_⟩
        have h1 : S.has (ofB (fun j => S.has (reach n l j) i) n) (pa p) = true := by
          rw [has_ofB, decide_eq_true (hr.a hp).1, Bool.true_and]
          exact (reach_iff hr _ _).2 (e ▸ Ch.one hp rfl)
        rw [show ofB (fun j => S.has (reach n l j) i) n = 0 by omega, has_zero] at h1
        cases h1
      | succ m ih =>
        intro i hm hi
        rw [← hf]
        refine (has_fol hr hn hs i).2 ⟨hi, fun p hp e => ?_⟩
        have h0 := List.any_eq_false.1 hb p hp
        have hsa : S.has s (pa p) = true := by
          rw [← e, hi] at h0
          cases h1 : S.has s (pa p)
          · rw [h1] at h0; simp at h0
          · rfl
        have hno : S.has (reach n l (pa p)) (pa p) = false := by
          have := List.any_eq_false.1 hc (pa p) (List.mem_range.2 (hr.a hp).1)
          rw [hsa] at this
          cases h1 : S.has (reach n l (pa p)) (pa p)
          · rfl
          · rw [h1] at this; simp at this
        refine ih (pa p) ?_ hsa
        have hle : ofB (fun j => S.has (reach n l j) (pa p)) n ≤ ofB (fun j => S.has (reach n l j) i) n := sub_le fun j hj => by
          rw [has_ofB, Bool.and_eq_true, decide_eq_true_iff] at hj ⊢
          exact ⟨hj.1, (reach_iff hr _ _).2 (e ▸ ((reach_iff hr _ _).1 hj.2).more hp)⟩
        have hne : ofB (fun j => S.has (reach n l j) (pa p)) n ≠ ofB (fun j => S.has (reach n l j) i) n := fun e2 => by
          have h1 : S.has (ofB (fun j => S.has (reach n l j) i) n) (pa p) = true := by
            rw [has_ofB, decide_eq_true (hr.a hp).1, Bool.true_and]
            exact (reach_iff hr _ _).2 (e ▸ Ch.one hp rfl)
          rw [← e2, has_ofB, hno, Bool.and_false] at h1
          cases h1
        omega
    exact has_ext fun i => by
      rw [Bool.eq_iff_iff]
      exact ⟨h.sub i, hall _ i (Nat.le_refl _)⟩
end
theorem allow_can (n : Nat) (off : Nat → Bool) (ap be : List (Int × Int)) (s : Nat) : allowN n off ap be s = if offE n off s then 9 else if apartE ap s then 20 else if canF n be s then 0 else 21 := by
  unfold allowN canF
  cases offE n off s <;> cases apartE ap s <;> cases beforeE be s <;> cases circleE n be s <;> rfl

/-! ### pairs in ascending order -/
def LtP (p q : Int × Int) : Prop := p.1 < q.1 ∨ (p.1 = q.1 ∧ p.2 < q.2)
theorem LtP.irr {p : Int × Int} (h : LtP p p) : False := by unfold LtP at h; omega
theorem LtP.asym {p q : Int × Int} (h : LtP p q) (h2 : LtP q p) : False := by unfold LtP at h h2; omega
theorem lt_ext : ∀ a b : List (Int × Int), a.Pairwise LtP → b.Pairwise LtP → (∀ x, x ∈ a ↔ x ∈ b) → a = b
  | [], [], _, _, _ => rfl
  | [], y :: b, _, _, h => by have := (h y).2 (List.mem_cons_self ..); cases this
  | x :: a, [], _, _, h => by have := (h x).1 (List.mem_cons_self ..); cases this
  | x :: a, y :: b, ha, hb, h => by
    rw [List.pairwise_cons] at ha hb
    have e : x = y := by
      rcases List.mem_cons.1 ((h x).1 (List.mem_cons_self ..)) with e | hx
      · exact e
      · rcases List.mem_cons.1 ((h y).2 (List.mem_cons_self ..)) with e | hy
        · exact e.symm
        · exact ((ha.1 y hy).asym (hb.1 x hx)).elim
    subst e
    rw [lt_ext a b ha.2 hb.2 fun z => ?_]
    constructor
    · intro hz
      rcases List.mem_cons.1 ((h z).1 (List.mem_cons_of_mem _ hz)) with e | h2
      · subst e; exact (ha.1 z hz).irr.elim
      · exact h2
    · intro hz
      rcases List.mem_cons.1 ((h z).2 (List.mem_cons_of_mem _ hz)) with e | h2
      · subst e; exact (hb.1 z hz).irr.elim
      · exact h2
theorem clo_up (n : Nat) (l : List (Int × Int)) : (cloL n l).Pairwise LtP := by
  unfold cloL
  rw [List.pairwise_flatMap]
  refine ⟨fun a _ => ?_, ?_⟩
  · rw [List.pairwise_map]
    refine (List.Pairwise.filter _ (List.pairwise_lt_range (n := n))).imp ?_
    intro x y h
    exact .inr ⟨rfl, by show (x : Int) < y; omega⟩
  · refine (List.pairwise_lt_range (n := n)).imp ?_
    intro a b h x hx y hy
    rw [List.mem_map] at hx hy
    obtain ⟨_, -, rfl⟩ := hx
    obtain ⟨_, -, rfl⟩ := hy
    exact .inl (by show (a : Int) < b; omega)
theorem nodup_len : ∀ (m : Nat) (l : List Nat), l.Nodup → (∀ x ∈ l, x < m) → l.length ≤ m
  | 0, l, _, h => by
    cases l with
    | nil => exact Nat.le_refl _
    | cons x l => have := h x (List.mem_cons_self ..); omega
  | m + 1, l, hn, h => by
    have h1 := nodup_len m (l.erase m) (hn.erase m) fun x hx => by
      rw [hn.mem_erase_iff] at hx
      have := h x hx.2
      have := hx.1
      omega
    by_cases hm : m ∈ l
    · rw [List.length_erase_of_mem hm] at h1; omega
    · rw [List.erase_of_not_mem hm] at h1; omega
/-- the pairs that joined has found so far -/
structure JoI (l c : List (Int × Int)) : Prop where
  nd : c.Nodup
  ch : ∀ p ∈ c, 0 ≤ p.1 ∧ 0 ≤ p.2 ∧ Ch l (pa p) (pb p)
theorem JoI.len {n : Nat} {l c : List (Int × Int)} (hr : Rt n l) (hn : n ≤ 10) (h : JoI l c) : c.length ≤ 100 := by
  have h1 : (c.map fun p => pa p * 10 + pb p).Nodup := by
    rw [List.nodup_iff_pairwise_ne, List.pairwise_map]
    refine (List.nodup_iff_pairwise_ne.1 h.nd).imp_of_mem ?_
    intro p q hp hq hne e
    obtain ⟨p1, p2, p3⟩ := h.ch p hp
    obtain ⟨q1, q2, q3⟩ := h.ch q hq
    have h3 := p3.lt hr
    have h4 := q3.lt hr
    unfold pa pb at *
    refine hne (Prod.ext ?_ ?_) <;> omega
  have h2 := nodup_len 100 _ h1 fun x hx => by
    rw [List.mem_map] at hx
    obtain ⟨p, hp, rfl⟩ := hx
    have := (h.ch p hp).2.2.lt hr
    omega
  rw [List.length_map] at h2; exact h2
theorem JoI.nil (l : List (Int × Int)) : JoI l [] := ⟨List.nodup_nil, fun p h => by cases h⟩
theorem JoI.add {l c : List (Int × Int)} (h : JoI l c) {p : Int × Int} (hp : p ∉ c) (h2 : 0 ≤ p.1 ∧ 0 ≤ p.2 ∧ Ch l (pa p) (pb p)) : JoI l (c ++ [p]) := by
  refine ⟨?_, fun q hq => ?_⟩
  · rw [List.nodup_append]
    refine ⟨h.nd, by simp, fun a ha b hb e => ?_⟩
    rw [List.mem_singleton] at hb
    subst hb; subst e; exact hp ha
  · rcases List.mem_append.1 hq with hq | hq
    · exact h.ch q hq
    · rw [List.mem_singleton] at hq; subst hq; exact h2
/-- what add does to a list -/
def addP (c : List (Int × Int)) (p : Int × Int) : List (Int × Int) := if p ∈ c then c else c ++ [p]
theorem JoI.addP {l c : List (Int × Int)} (h : JoI l c) {p : Int × Int} (h2 : 0 ≤ p.1 ∧ 0 ≤ p.2 ∧ Ch l (pa p) (pb p)) : JoI l (addP c p) := by
  unfold U.addP
  by_cases hp : p ∈ c
  · rw [if_pos hp]; exact h
  · rw [if_neg hp]; exact h.add hp h2
theorem addP_mem (c : List (Int × Int)) (p q : Int × Int) : q ∈ addP c p ↔ q ∈ c ∨ q = p := by
  unfold addP
  by_cases hp : p ∈ c
  · rw [if_pos hp]
    constructor
    · exact .inl
    · rintro (h | rfl)
      · exact h
      · exact hp
  · rw [if_neg hp, List.mem_append, List.mem_singleton]
theorem addP_pre (c : List (Int × Int)) (p : Int × Int) : c <+: addP c p := by
  unfold addP
  split
  · exact List.prefix_refl _
  · exact List.prefix_append _ _
/-- all that is found is what follows -/
theorem jo_clo {n : Nat} {l c d : List (Int × Int)} (hr : Rt n l) (h : JoI l c) (hl : ∀ p ∈ l, p ∈ c) (hc : ∀ p ∈ c, ∀ q ∈ l, q.1 = p.2 → (p.1, q.2) ∈ c) (hm : ∀ x, x ∈ d ↔ x ∈ c) (hd : d.Pairwise LtP) : d = cloL n l := by
  refine lt_ext _ _ hd (clo_up n l) fun x => ?_
  rw [hm, mem_clo hr]
  constructor
  · intro hx
    obtain ⟨h1, h2, h3⟩ := h.ch x hx
    refine ⟨pa x, pb x, ?_, h3⟩
    obtain ⟨x1, x2⟩ := x
    unfold pa pb
    simp only at h1 h2 ⊢
    rw [Int.toNat_of_nonneg h1, Int.toNat_of_nonneg h2]
  · rintro ⟨a, b, rfl, hab⟩
    induction hab with
    | @one p hp e =>
      subst e
      have := (hr.a hp).2.2.2
      rw [← this]; exact hl p hp
    | @more p _ hp ih =>
      have h1 := (hr.a hp).2.2.2
      have h2 := hc _ ih p hp (by rw [h1]; rfl)
      have h3 : p.2 = (pb p : Int) := by
        have := congrArg Prod.snd h1
        exact this
      rw [h3] at h2
      exact h2

end Go.Proofs.YtmoilpkgoabopaaDoor.U

