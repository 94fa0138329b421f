/-
  DERIVED. Types of vehicles in plain lists: what each function answers.
-/
import Derived.Test.YthihahehmnpenaaDoorTravPure2
import Derived.Test.YthihahehmnpenaaDoorPure
namespace Go.Proofs.YthihahehmnpenaaDoor.T

/-- a type of vehicles -/
structure TyT where
  name : ByteArray
  count : Int
  fr : Int
  to : Int
  cap : List Int
  skills : Int
  prof : Int
  opn : Int
  cls : Int
  drv : Int
  rst : Int
  fix : Int
  pm : Int
  pt : Int
deriving DecidableEq
def ty0 : TyT := ⟨⟨#[]⟩, 0, 0, 0, [], 0, 0, 0, 0, 0, 0, 0, 0, 0⟩
def nmT (s : ByteArray) : Bool := nameB s.data.toList
def rgB (lo hi x : Int) : Bool := decide (lo ≤ x) && decide (x ≤ hi)
def capB (l : List Int) (dims : Nat) : Bool := rgB 1 3 l.length && decide (l.length = dims) && l.all (rgB 0 1000)
def dimsF (l : List TyT) : Nat := (l.getD 0 ty0).cap.length
/-- has one of the first j types this name? -/
def knownB (l : List TyT) (s : ByteArray) (j : Nat) : Bool := (l.take j).any fun x => x.name.toList == s.toList
def tyE1 (t : TyT) : List Int := if nmT t.name then [] else [5]
def tyE2 (l : List TyT) (i : Nat) (t : TyT) : List Int := if knownB l t.name i then [6] else []
def tyE3 (t : TyT) : List Int := if rgB 0 10 t.count then [] else [22]
def tyE4 (np : Nat) (t : TyT) : List Int := if rgB 0 (np - 1) t.fr && rgB 0 (np - 1) t.to then [] else [11]
def tyE5 (dims : Nat) (t : TyT) : List Int := if capB t.cap dims then [] else [17]
def tyE6 (t : TyT) : List Int := if rgB 0 1073741823 t.skills then [] else [18]
def tyE7 (t : TyT) : List Int := if rgB 0 t.cls t.opn && decide (t.cls ≤ 4096) then [] else [15]
def tyE8 (t : TyT) : List Int := if rgB 1 4096 t.drv && rgB 0 4096 t.rst then [] else [16]
def tyE9 (t : TyT) : List Int := if rgB 0 7 t.prof && rgB 0 100000 t.fix && rgB 0 100 t.pm && rgB 0 100 t.pt then [] else [2]
/-- the errors of the i-th type -/
def tyE (np : Nat) (l : List TyT) (i : Nat) : List Int :=
  tyE1 (l.getD i ty0) ++ tyE2 l i (l.getD i ty0) ++ tyE3 (l.getD i ty0) ++ tyE4 np (l.getD i ty0) ++ tyE5 (dimsF l) (l.getD i ty0) ++ tyE6 (l.getD i ty0) ++ tyE7 (l.getD i ty0) ++ tyE8 (l.getD i ty0) ++ tyE9 (l.getD i ty0)
def flF0 (n : Nat) : List (Int × ByteArray) := if rgB 1 6 n then [] else [(4, ⟨#[]⟩)]
def atT (i : Nat) (l : List Int) : List (Int × ByteArray) := l.map fun x => (x, dec i)
/-- the faults of the first k types -/
def flF (np : Nat) (l : List TyT) : Nat → List (Int × ByteArray)
  | 0 => flF0 l.length
  | k + 1 => flF np l k ++ atT k (tyE np l k)
def fleetF (np : Nat) (l : List TyT) : List (Int × ByteArray) := flF np l l.length
def totK (l : List TyT) : Nat → Int
  | 0 => 0
  | k + 1 => totK l k + if rgB 0 10 (l.getD k ty0).count then (l.getD k ty0).count else 0
def totF (l : List TyT) : Int := totK l l.length
theorem tot_bd (l : List TyT) : ∀ k, 0 ≤ totK l k ∧ totK l k ≤ 10 * k
  | 0 => ⟨Int.le_refl _, Int.le_refl _⟩
  | k + 1 => by
    have := tot_bd l k
    unfold totK
    by_cases h : rgB 0 10 (l.getD k ty0).count = true
    · rw [if_pos h]
      unfold rgB at h
      rw [Bool.and_eq_true, decide_eq_true_iff, decide_eq_true_iff] at h
      omega
    · rw [if_neg h]; omega

/-! ### skills -/
/-- all of the first k bits of b are in a -/
def ableK (a b : Nat) : Nat → Bool
  | 0 => true
  | k + 1 => ableK a b k && (!(b.testBit k) || a.testBit k)
def ableB (a b : Int) : Bool := decide (0 ≤ a) && decide (0 ≤ b) && ableK a.toNat b.toNat 63
theorem ableK_iff (a b k : Nat) : ableK a b k = true ↔ ∀ j, j < k → b.testBit j = true → a.testBit j = true := by
  induction k with
  | zero => exact ⟨fun _ j hj => absurd hj (Nat.not_lt_zero _), fun _ => rfl⟩
  | succ k ih =>
    unfold ableK
    rw [Bool.and_eq_true, ih]
    constructor
    · rintro ⟨h, hk⟩ j hj hb
      by_cases e : j = k
      · subst e
        rw [hb] at hk
        simpa using hk
      · exact h j (by omega) hb
    · intro h
      refine ⟨fun j hj => h j (by omega), ?_⟩
      cases hb : b.testBit k
      · rfl
      · rw [h k (by omega) hb]; rfl
theorem able_land {a b : Nat} (hb : b < 2 ^ 63) : ableK a b 63 = true ↔ a &&& b = b := by
  rw [ableK_iff]
  constructor
  · intro h
    apply Nat.eq_of_testBit_eq
    intro j
    rw [Nat.testBit_and]
    cases e : b.testBit j
    · simp
    · have hj : j < 63 := by
        refine Decidable.byContradiction fun hn => ?_
        have := Nat.testBit_lt_two_pow (x := b) (i := j) (Nat.lt_of_lt_of_le hb (Nat.pow_le_pow_right (by decide) (by omega)))
        rw [e] at this
        cases this
      rw [h j hj e]; rfl
  · intro h j _ e
    have h2 := congrArg (fun x => Nat.testBit x j) h
    simp only [Nat.testBit_and] at h2
    rw [e] at h2
    simpa using h2
/-- the union of two sets -/
theorem able_or {a b c : Nat} : ableK a (b ||| c) 63 = (ableK a b 63 && ableK a c 63) := by
  rw [Bool.eq_iff_iff, Bool.and_eq_true, ableK_iff, ableK_iff, ableK_iff]
  constructor
  · intro h
    exact ⟨fun j hj e => h j hj (by rw [Nat.testBit_or, e]; rfl), fun j hj e => h j hj (by rw [Nat.testBit_or, e, Bool.or_true])⟩
  · rintro ⟨h1, h2⟩ j hj e
    rw [Nat.testBit_or, Bool.or_eq_true] at e
    rcases e with e | e
    · exact h1 j hj e
    · exact h2 j hj e

/-! ### the faults of the first types alone -/
theorem take_get {l : List TyT} {k i : Nat} (h : i < k) : (l.take k).getD i ty0 = l.getD i ty0 := by
  rw [List.getD_eq_getElem?_getD, List.getD_eq_getElem?_getD, List.getElem?_take_of_lt h]
theorem tyE_take {np : Nat} {l : List TyT} {k i : Nat} (h : i < k) : tyE np (l.take k) i = tyE np l i := by
  unfold tyE
  rw [take_get h]
  have h1 : dimsF (l.take k) = dimsF l := by unfold dimsF; rw [take_get (by omega)]
  have h2 : tyE2 (l.take k) i (l.getD i ty0) = tyE2 l i (l.getD i ty0) := by
    unfold tyE2 knownB
    rw [List.take_take, Nat.min_eq_left (by omega)]
  rw [h1, h2]
/-- the faults of the types from the j-th on -/
def flT (np : Nat) (l : List TyT) (k : Nat) : List (Int × ByteArray) := ((List.range k).map fun i => atT i (tyE np l i)).flatten
theorem flF_eq (np : Nat) (l : List TyT) (k : Nat) : flF np l k = flF0 l.length ++ flT np l k := by
  unfold flT
  induction k with
  | zero => unfold flF; simp
  | succ k ih =>
    unfold flF
    rw [ih, List.range_succ, List.map_append, List.flatten_append, List.append_assoc]
    simp
/-- the violations of the first k types are the first ones of all -/
theorem fleet_part {np : Nat} {l : List TyT} {k : Nat} (h1 : 1 ≤ k) (hk : k ≤ l.length) (h6 : l.length ≤ 6) : ∃ m, fleetF np l = fleetF np (l.take k) ++ m := by
  have hl : (l.take k).length = k := by rw [List.length_take]; omega
  have e0 : flF0 l.length = [] := by unfold flF0 rgB; rw [decide_eq_true (by omega), decide_eq_true (by omega)]; rfl
  have e1 : flF0 k = [] := by unfold flF0 rgB; rw [decide_eq_true (by omega), decide_eq_true (by omega)]; rfl
  unfold fleetF
  rw [flF_eq, flF_eq, hl, e0, e1, List.nil_append, List.nil_append]
  have e2 : flT np (l.take k) k = flT np l k := by
    unfold flT
    congr 1
    refine List.map_congr_left fun i hi => ?_
    rw [tyE_take (List.mem_range.1 hi)]
  rw [e2]
  obtain ⟨d, hd⟩ := Nat.le.dest hk
  rw [← hd]
  refine ⟨((List.range d).map fun i => atT (k + i) (tyE np l (k + i))).flatten, ?_⟩
  unfold flT
  rw [List.range_add, List.map_append, List.flatten_append, List.map_map]
  rfl

end Go.Proofs.YthihahehmnpenaaDoor.T

