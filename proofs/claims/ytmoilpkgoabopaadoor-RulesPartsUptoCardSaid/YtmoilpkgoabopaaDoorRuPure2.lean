/-
  DERIVED. Plain Lean: what Closure, Needs, Allowed and Never answer, and what follows of it.
-/
import Derived.Test.YtmoilpkgoabopaaDoorRuPure
namespace Go.Proofs.YtmoilpkgoabopaaDoor.U

/-! ### all pairs that follow -/
def cloL (n : Nat) (l : List (Int × Int)) : List (Int × Int) := (List.range n).flatMap fun a => ((List.range n).filter fun b => S.has (reach n l a) b).map fun (b : Nat) => ((a : Int), (b : Int))
theorem mem_clo {n : Nat} {l : List (Int × Int)} (hr : Rt n l) (p : Int × Int) : p ∈ cloL n l ↔ ∃ a b : Nat, p = ((a : Int), (b : Int)) ∧ Ch l a b := by
  unfold cloL
  rw [List.mem_flatMap]
  constructor
  · rintro ⟨a, -, h⟩
    rw [List.mem_map] at h
    obtain ⟨b, hb, rfl⟩ := h
    rw [List.mem_filter, reach_iff hr] at hb
    exact ⟨a, b, rfl, hb.2⟩
  · rintro ⟨a, b, rfl, h⟩
    obtain ⟨h1, h2⟩ := h.lt hr
    exact ⟨a, List.mem_range.2 h1, List.mem_map.2 ⟨b, List.mem_filter.2 ⟨List.mem_range.2 h2, (reach_iff hr a b).2 h⟩, rfl⟩⟩
/-- the pairs themselves follow -/
theorem clo_of {n : Nat} {l : List (Int × Int)} (hr : Rt n l) {p : Int × Int} (hp : p ∈ l) : p ∈ cloL n l := by
  have h := hr.a hp
  exact (mem_clo hr p).2 ⟨pa p, pb p, h.2.2.2, Ch.one hp rfl⟩
theorem clo_trans {n : Nat} {l : List (Int × Int)} (hr : Rt n l) {p q : Int × Int} (hp : p ∈ cloL n l) (hq : q ∈ cloL n l) (h : p.2 = q.1) : (p.1, q.2) ∈ cloL n l := by
  obtain ⟨a, b, rfl, h1⟩ := (mem_clo hr p).1 hp
  obtain ⟨c, d, rfl, h2⟩ := (mem_clo hr q).1 hq
  have e : b = c := Int.ofNat.inj h
  subst e
  exact (mem_clo hr _).2 ⟨a, d, rfl, h1.trans h2⟩
theorem ch_clo {n : Nat} {l : List (Int × Int)} (hr : Rt n l) (a b : Nat) : Ch (cloL n l) a b ↔ Ch l a b := by
  constructor
  · intro h
    induction h with
    | one hp e =>
      obtain ⟨c, d, rfl, h1⟩ := (mem_clo hr _).1 hp
      have e1 : pa ((c : Int), (d : Int)) = c := Int.toNat_natCast c
      have e2 : pb ((c : Int), (d : Int)) = d := Int.toNat_natCast d
      rw [e2, ← e, e1]; exact h1
    | more _ hp ih =>
      obtain ⟨c, d, rfl, h1⟩ := (mem_clo hr _).1 hp
      have e1 : pa ((c : Int), (d : Int)) = c := Int.toNat_natCast c
      have e2 : pb ((c : Int), (d : Int)) = d := Int.toNat_natCast d
      rw [e1] at ih
      rw [e2]; exact ih.trans h1
  · intro h
    induction h with
    | one hp e => exact Ch.one (clo_of hr hp) e
    | more _ hp ih => exact ih.more (clo_of hr hp)
/-- what follows of what follows -/
theorem clo_clo {n : Nat} {l : List (Int × Int)} (hr : Rt n l) (hr2 : Rt n (cloL n l)) : cloL n (cloL n l) = cloL n l := by
  have e : ∀ a b, S.has (reach n (cloL n l) a) b = S.has (reach n l a) b := fun a b => by
    rw [Bool.eq_iff_iff, reach_iff hr2, reach_iff hr, ch_clo hr]
  have e2 : ∀ a, (fun b => S.has (reach n (cloL n l) a) b) = fun b => S.has (reach n l a) b := fun a => funext fun b => e a b
  show (List.range n).flatMap (fun a => ((List.range n).filter fun b => S.has (reach n (cloL n l) a) b).map fun (b : Nat) => ((a : Int), (b : Int))) = _
  simp only [e2]
  rfl

/-! ### what an order needs; which sets are allowed -/
def needP (n : Nat) (l : List (Int × Int)) (o i : Nat) : Bool := decide (i = o) || S.has (reach n l i) o
def needN (n : Nat) (l : List (Int × Int)) (o : Nat) : Nat := ofB (needP n l o) n
def needsI (n : Nat) (l : List (Int × Int)) (o : Int) : Int := if o < 0 ∨ (n : Int) ≤ o then 0 else (needN n l o.toNat : Int)
theorem has_need {n : Nat} {l : List (Int × Int)} (hr : Rt n l) (o i : Nat) : S.has (needN n l o) i = true ↔ i < n ∧ (i = o ∨ Ch l i o) := by
  unfold needN needP
  rw [has_ofB, Bool.and_eq_true, decide_eq_true_iff, Bool.or_eq_true, decide_eq_true_iff, reach_iff hr]
def offE (n : Nat) (off : Nat → Bool) (s : Nat) : Bool := (List.range n).any fun i => S.has s i && off i
def apartE (l : List (Int × Int)) (s : Nat) : Bool := l.any fun p => S.has s (pa p) && S.has s (pb p)
def beforeE (l : List (Int × Int)) (s : Nat) : Bool := l.any fun p => S.has s (pb p) && !S.has s (pa p)
def circleE (n : Nat) (l : List (Int × Int)) (s : Nat) : Bool := (List.range n).any fun i => S.has s i && S.has (reach n l i) i
def allowN (n : Nat) (off : Nat → Bool) (ap be : List (Int × Int)) (s : Nat) : Int := if offE n off s then 9 else if apartE ap s then 20 else if beforeE be s then 21 else if circleE n be s then 21 else 0
def allowE (n : Nat) (off : Nat → Bool) (ap be : List (Int × Int)) (s : Int) : Int := if s < 0 ∨ ((2 ^ n : Nat) : Int) ≤ s then 2 else allowN n off ap be s.toNat
def neverP (n : Nat) (off : Nat → Bool) (ap be : List (Int × Int)) (i : Nat) : Bool := !off i && !(allowE n off ap be (needsI n be i) == 0)
def neverN (n : Nat) (off : Nat → Bool) (ap be : List (Int × Int)) : Nat := ofB (neverP n off ap be) n
/-- what an allowed set is -/
structure Okay (n : Nat) (off : Nat → Bool) (ap be : List (Int × Int)) (s : Nat) : Prop where
  lt : s < 2 ^ n
  on : ∀ i, S.has s i = true → off i = false
  apt : ∀ p ∈ ap, S.has s (pa p) = true → S.has s (pb p) = false
  bef : ∀ p ∈ be, S.has s (pb p) = true → S.has s (pa p) = true
  ci : ∀ i, S.has s i = true → ¬ Ch be i i
theorem allow_iff {n : Nat} {off : Nat → Bool} {ap be : List (Int × Int)} (hr : Rt n be) {s : Nat} (hs : s < 2 ^ n) : allowN n off ap be s = 0 ↔ Okay n off ap be s := by
  unfold allowN
  constructor
  · intro h
    cases h1 : offE n off s
    · cases h2 : apartE ap s
      · cases h3 : beforeE be s
        · cases h4 : circleE n be s
          · refine ⟨hs, fun i hi => ?_, fun p hp ha => ?_, fun p hp hb => ?_, fun i hi hc => ?_⟩
            · have := List.any_eq_false.1 h1 i (List.mem_range.2 (lt_has hs hi))
              rw [hi] at this
              simpa using this
            · have := List.any_eq_false.1 h2 p hp
              rw [ha] at this
              simpa using this
            · have := List.any_eq_false.1 h3 p hp
              rw [hb] at this
              simpa using this
            · have := List.any_eq_false.1 h4 i (List.mem_range.2 (lt_has hs hi))
              rw [hi, (reach_iff hr i i).2 hc] at this
              simp at this
          · rw [h1, h2, h3, h4] at h; simp at h
        · rw [h1, h2, h3] at h; simp at h
      · rw [h1, h2] at h; simp at h
    · rw [h1] at h; simp at h
  · intro h
    have h1 : offE n off s = false := List.any_eq_false.2 fun i hi => by
      cases hh : S.has s i
      · simp
      · rw [h.on i hh]; simp
    have h2 : apartE ap s = false := List.any_eq_false.2 fun p hp => by
      cases hh : S.has s (pa p)
      · simp
      · rw [h.apt p hp hh]; simp
    have h3 : beforeE be s = false := List.any_eq_false.2 fun p hp => by
      cases hh : S.has s (pb p)
      · simp
      · rw [h.bef p hp hh]; simp
    have h4 : circleE n be s = false := List.any_eq_false.2 fun i hi => by
      cases hh : S.has s i
      · simp
      · cases hc : S.has (reach n be i) i
        · simp
        · exact absurd ((reach_iff hr i i).1 hc) (h.ci i hh)
    rw [h1, h2, h3, h4]; simp
theorem allowE_nat {n : Nat} {off : Nat → Bool} {ap be : List (Int × Int)} {s : Nat} (hs : s < 2 ^ n) : allowE n off ap be (s : Int) = allowN n off ap be s := by
  unfold allowE
  rw [if_neg (by omega), Int.toNat_natCast]
theorem allowE_zero {n : Nat} {off : Nat → Bool} {ap be : List (Int × Int)} (hr : Rt n be) {s : Int} (h : allowE n off ap be s = 0) : 0 ≤ s ∧ Okay n off ap be s.toNat := by
  unfold allowE at h
  by_cases hc : s < 0 ∨ ((2 ^ n : Nat) : Int) ≤ s
  · rw [if_pos hc] at h; cases h
  · rw [if_neg hc] at h
    exact ⟨by omega, (allow_iff hr (by omega)).1 h⟩
theorem needN_lt (n : Nat) (l : List (Int × Int)) (o : Nat) : needN n l o < 2 ^ n := ofB_lt _ _
theorem needsI_nat {n : Nat} {l : List (Int × Int)} {o : Nat} (h : o < n) : needsI n l (o : Int) = (needN n l o : Int) := by
  unfold needsI
  rw [if_neg (by omega), Int.toNat_natCast]
/-- an allowed set has what its orders need -/
theorem okay_needs {n : Nat} {off : Nat → Bool} {ap be : List (Int × Int)} (hr : Rt n be) {s : Nat} (h : Okay n off ap be s) {o : Nat} (ho : S.has s o = true) : ∀ i, S.has (needN n be o) i = true → S.has s i = true := by
  intro i hi
  rcases ((has_need hr o i).1 hi).2 with rfl | hc
  · exact ho
  · exact hc.back h.bef ho
theorem and_sub {a b : Nat} (h : ∀ i, S.has a i = true → S.has b i = true) : a &&& b = a := Nat.eq_of_testBit_eq fun i => by
  rw [Nat.testBit_and]
  have := h i
  rw [has_bit, has_bit] at this
  cases ha : a.testBit i
  · rfl
  · rw [this ha]; rfl
theorem sub_and {a b : Nat} (h : a &&& b = a) : ∀ i, S.has a i = true → S.has b i = true := fun i hi => by
  rw [has_bit] at hi ⊢
  have h2 : (a &&& b).testBit i = true := by rw [h]; exact hi
  rw [Nat.testBit_and, Bool.and_eq_true] at h2
  exact h2.2
/-- what a served order needs is allowed -/
theorem need_okay {n : Nat} {off : Nat → Bool} {ap be : List (Int × Int)} (hr : Rt n be) {s : Nat} (h : Okay n off ap be s) {o : Nat} (ho : S.has s o = true) : Okay n off ap be (needN n be o) := by
  have hs := okay_needs hr h ho
  refine ⟨needN_lt n be o, fun i hi => h.on i (hs i hi), fun p hp ha => ?_, fun p hp hb => ?_, fun i hi => h.ci i (hs i hi)⟩
  · cases hb : S.has (needN n be o) (pb p)
    · rfl
    · have h1 := h.apt p hp (hs _ ha)
      rw [hs _ hb] at h1; cases h1
  · refine (has_need hr o _).2 ⟨(hr.a hp).1, ?_⟩
    rcases ((has_need hr o _).1 hb).2 with e | hc
    · exact .inr (e ▸ Ch.one hp rfl)
    · exact .inr ((Ch.one hp rfl).trans hc)
/-- an order is never served just if no allowed set has it -/
theorem never_iff {n : Nat} {off : Nat → Bool} {ap be : List (Int × Int)} (hr : Rt n be) {o : Nat} (ho : o < n) :
    S.has (neverN n off ap be) o = true ↔ off o = false ∧ ¬ ∃ s, Okay n off ap be s ∧ S.has s o = true := by
  unfold neverN neverP
  rw [has_ofB, decide_eq_true ho, Bool.true_and, Bool.and_eq_true, Bool.not_eq_true', Bool.not_eq_true', needsI_nat ho, allowE_nat (needN_lt n be o), beq_eq_false_iff_ne]
  have hself : S.has (needN n be o) o = true := (has_need hr o o).2 ⟨ho, .inl rfl⟩
  constructor
  · rintro ⟨h1, h2⟩
    refine ⟨h1, fun ⟨s, hs, hso⟩ => h2 ?_⟩
    exact (allow_iff hr (needN_lt n be o)).2 (need_okay hr hs hso)
  · rintro ⟨h1, h2⟩
    exact ⟨h1, fun e => h2 ⟨_, (allow_iff hr (needN_lt n be o)).1 e, hself⟩⟩
theorem sub_has {s o : Nat} (h : S.has s o = true) (i : Nat) : S.has (s - 2 ^ o) i = (S.has s i && !decide (i = o)) := by
  have h1 : S.has (s - 2 ^ o) o = false := by
    have h2 : s / 2 ^ o % 2 = 1 := by simpa [S.has] using h
    have hp : 0 < 2 ^ o := Nat.pow_pos (by omega)
    have h3 : (s - 2 ^ o) / 2 ^ o = s / 2 ^ o - 1 := by
      have := Nat.sub_mul_div s (2 ^ o) 1
      rw [Nat.mul_one] at this
      exact this
    unfold S.has
    rw [h3]
    simp
    omega
  have hle : 2 ^ o ≤ s := by
    apply Decidable.byContradiction
    intro hc
    have h2 : s / 2 ^ o % 2 = 1 := by simpa [S.has] using h
    rw [Nat.div_eq_of_lt (by omega)] at h2
    cases h2
  have h4 := has_add h1 i
  rw [show s - 2 ^ o + 2 ^ o = s by omega] at h4
  rw [h4]
  by_cases e : i = o
  · subst e; rw [h1]; simp
  · rw [decide_eq_false e]; simp
/-- a set stays allowed without an order that no other one needs -/
theorem parts {n : Nat} {off : Nat → Bool} {ap be : List (Int × Int)} (hr : Rt n be) {s o : Nat} (h : Okay n off ap be s) (ho : S.has s o = true) (hn : ∀ i, i < n → i ≠ o → S.has s i = true → S.has (needN n be i) o = false) : Okay n off ap be (s - 2 ^ o) := by
  have hh := fun i => sub_has ho i
  have hs : ∀ i, S.has (s - 2 ^ o) i = true → S.has s i = true ∧ i ≠ o := fun i hi => by
    rw [hh, Bool.and_eq_true, Bool.not_eq_true', decide_eq_false_iff_not] at hi; exact hi
  refine ⟨Nat.lt_of_le_of_lt (Nat.sub_le _ _) h.lt, fun i hi => h.on i (hs i hi).1, fun p hp ha => ?_, fun p hp hb => ?_, fun i hi => h.ci i (hs i hi).1⟩
  · rw [hh, h.apt p hp (hs _ ha).1]; rfl
  · obtain ⟨h1, h2⟩ := hs _ hb
    rw [hh, h.bef p hp h1, Bool.true_and, Bool.not_eq_true', decide_eq_false_iff_not]
    intro e
    have h3 := hn (pb p) (hr.a hp).2.1 h2 h1
    have h4 : S.has (needN n be (pb p)) o = true := (has_need hr _ _).2 ⟨e ▸ (hr.a hp).1, .inr (by
      have := Ch.one (a := o) hp e
      exact this)⟩
    rw [h4] at h3; cases h3

end Go.Proofs.YtmoilpkgoabopaaDoor.U

