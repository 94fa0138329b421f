/-
  DERIVED. Networks in plain lists: what each function answers.
-/
import Derived.Test.YthihahehmnpenaaDoorTravPure2
import Derived.Test.YthihahehmnpenaaDoorPure
namespace Go.Proofs.YthihahehmnpenaaDoor.T

/-- an arc -/
structure ArcT where
  fr : Int
  to : Int
  prof : Int
  miles : Int
  tr : List (Int × Int)
  sl : List (Int × Int)
deriving DecidableEq
def arc0 : ArcT := ⟨0, 0, 0, 0, [], []⟩
def sPlace : ByteArray := ⟨#[112, 108, 97, 99, 101, 32]⟩
def sArc : ByteArray := ⟨#[97, 114, 99, 32]⟩
def sPlaces : ByteArray := ⟨#[112, 108, 97, 99, 101, 115]⟩
def sArcs : ByteArray := ⟨#[97, 114, 99, 115]⟩
def placeS (i : Nat) : ByteArray := sPlace ++ dec i
def arcS (i : Nat) : ByteArray := sArc ++ dec i
def nmB (s : ByteArray) : Bool := nameB s.data.toList
/-- is the k-th text among the first j ones? -/
def seen (l : List ByteArray) (s : ByteArray) (j : Nat) : Bool := (l.take j).any fun x => x.toList == s.toList
def plf (l : List ByteArray) (i : Nat) : List (Int × ByteArray) :=
  if nmB (l.getD i ⟨#[]⟩) then (if seen l (l.getD i ⟨#[]⟩) i then [(6, placeS i)] else []) else [(5, placeS i)]
def plf0 (n : Nat) : List (Int × ByteArray) := if 24 < n then [(4, sPlaces)] else []
/-- the faults of the first k places -/
def plF (l : List ByteArray) : Nat → List (Int × ByteArray)
  | 0 => plf0 l.length
  | k + 1 => plF l k ++ plf l k
def inB (np : Nat) (x : Int) : Bool := decide (0 ≤ x) && decide (x < np)
def af1 (np : Nat) (a : ArcT) (i : Nat) : List (Int × ByteArray) := if inB np a.fr && inB np a.to then [] else [(11, arcS i)]
def valB (a : ArcT) : Bool := decide (0 ≤ a.prof) && decide (a.prof ≤ 7) && decide (0 ≤ a.miles) && decide (a.miles ≤ 10000) && !decide (a.fr = a.to)
def af2 (a : ArcT) (i : Nat) : List (Int × ByteArray) := if valB a then [] else [(2, arcS i)]
def likeB (a b : ArcT) : Bool := decide (a.fr = b.fr) && decide (a.to = b.to) && decide (a.prof = b.prof)
def twiceB (l : List ArcT) (a : ArcT) (j : Nat) : Bool := (l.take j).any fun b => likeB a b
def af3 (l : List ArcT) (a : ArcT) (i : Nat) : List (Int × ByteArray) := if twiceB l a i then [(6, arcS i)] else []
def af4 (l : List (Int × ByteArray)) (i : Nat) : List (Int × ByteArray) := l.map fun f => (f.1, arcS i)
def af5 (a : ArcT) (i : Nat) : List (Int × ByteArray) := if 16 < a.sl.length then [(4, arcS i)] else []
def slowB (l : List (Int × Int)) (k : Nat) : Bool :=
  tickB (l.getD k (0, 0)).1 && tickB (l.getD k (0, 0)).2 && !(decide (0 < k) && decide ((l.getD k (0, 0)).1 ≤ (l.getD (k - 1) (0, 0)).1))
def af6 (l : List (Int × Int)) (i k : Nat) : List (Int × ByteArray) := if slowB l k then [] else [(2, arcS i)]
def slF (l : List (Int × Int)) (i : Nat) : Nat → List (Int × ByteArray)
  | 0 => []
  | k + 1 => slF l i k ++ af6 l i k
/-- the faults of one arc -/
def arF (np : Nat) (l : List ArcT) (i : Nat) : List (Int × ByteArray) :=
  af1 np (l.getD i arc0) i ++ af2 (l.getD i arc0) i ++ af3 l (l.getD i arc0) i ++ af4 (faults (l.getD i arc0).tr) i ++ af5 (l.getD i arc0) i ++ slF (l.getD i arc0).sl i (l.getD i arc0).sl.length
def nf0 (pl : List ByteArray) (n : Nat) : List (Int × ByteArray) := plF pl pl.length ++ if 1024 < n then [(4, sArcs)] else []
/-- the faults of the places and of the first k arcs -/
def ntF (pl : List ByteArray) (l : List ArcT) : Nat → List (Int × ByteArray)
  | 0 => nf0 pl l.length
  | k + 1 => ntF pl l k ++ arF pl.length l k
def netF (pl : List ByteArray) (l : List ArcT) : List (Int × ByteArray) := ntF pl l l.length

/-! ### a right network -/
structure ArcOk (np : Nat) (a : ArcT) : Prop where
  fr : 0 ≤ a.fr ∧ a.fr < np
  to : 0 ≤ a.to ∧ a.to < np
  ne : a.fr ≠ a.to
  prof : 0 ≤ a.prof ∧ a.prof ≤ 7
  miles : 0 ≤ a.miles ∧ a.miles ≤ 10000
  tr : Ok a.tr
  len : a.sl.length ≤ 16
  slow : ∀ k, k < a.sl.length → slowB a.sl k = true
structure NetOk (pl : List ByteArray) (l : List ArcT) : Prop where
  places : pl.length ≤ 24
  arcs : ∀ i, i < l.length → ArcOk pl.length (l.getD i arc0)
  once : ∀ i, i < l.length → twiceB l (l.getD i arc0) i = false
theorem slF_nil (l : List (Int × Int)) (i : Nat) : ∀ k, slF l i k = [] ↔ ∀ j, j < k → slowB l j = true
  | 0 => ⟨fun _ j hj => absurd hj (Nat.not_lt_zero _), fun _ => rfl⟩
  | k + 1 => by
    show slF l i k ++ af6 l i k = [] ↔ _
    rw [List.append_eq_nil_iff, slF_nil l i k]
    have h6 : af6 l i k = [] ↔ slowB l k = true := by unfold af6; split <;> simp [*]
    rw [h6]
    constructor
    · rintro ⟨h, hk⟩ j hj
      by_cases e : j = k
      · rw [e]; exact hk
      · exact h j (by omega)
    · intro h
      exact ⟨fun j hj => h j (by omega), h k (by omega)⟩
theorem arF_nil (np : Nat) (l : List ArcT) (i : Nat) : arF np l i = [] ↔ ArcOk np (l.getD i arc0) ∧ twiceB l (l.getD i arc0) i = false := by
  unfold arF
  generalize l.getD i arc0 = a
  rw [List.append_eq_nil_iff, List.append_eq_nil_iff, List.append_eq_nil_iff, List.append_eq_nil_iff, List.append_eq_nil_iff, slF_nil]
  have h1 : af1 np a i = [] ↔ (0 ≤ a.fr ∧ a.fr < np) ∧ (0 ≤ a.to ∧ a.to < np) := by unfold af1 inB; split <;> simp_all
  have h2 : af2 a i = [] ↔ (0 ≤ a.prof ∧ a.prof ≤ 7) ∧ (0 ≤ a.miles ∧ a.miles ≤ 10000) ∧ a.fr ≠ a.to := by unfold af2 valB; split <;> simp_all [and_assoc]
  have h3 : af3 l a i = [] ↔ twiceB l a i = false := by unfold af3; split <;> simp_all
  have h4 : af4 (faults a.tr) i = [] ↔ Ok a.tr := by unfold af4; rw [List.map_eq_nil_iff, faults_nil]
  have h5 : af5 a i = [] ↔ a.sl.length ≤ 16 := by unfold af5; split <;> simp <;> omega
  rw [h1, h2, h3, h4, h5]
  constructor
  · rintro ⟨⟨⟨⟨⟨⟨f, t⟩, p, m, n⟩, w⟩, o⟩, s⟩, k⟩
    exact ⟨⟨f, t, n, p, m, o, s, k⟩, w⟩
  · rintro ⟨⟨f, t, n, p, m, o, s, k⟩, w⟩
    exact ⟨⟨⟨⟨⟨⟨f, t⟩, p, m, n⟩, w⟩, o⟩, s⟩, k⟩
theorem plF_places (l : List ByteArray) : ∀ k, plF l k = [] → l.length ≤ 24
  | 0, h => by unfold plF plf0 at h; split at h <;> simp_all
  | k + 1, h => plF_places l k (List.append_eq_nil_iff.1 h).1
theorem ntF_nil (pl : List ByteArray) (l : List ArcT) : ∀ k, ntF pl l k = [] → nf0 pl l.length = [] ∧ ∀ i, i < k → arF pl.length l i = []
  | 0, h => ⟨h, fun i hi => absurd hi (Nat.not_lt_zero _)⟩
  | k + 1, h => by
    have h2 := List.append_eq_nil_iff.1 (show ntF pl l k ++ arF pl.length l k = [] from h)
    obtain ⟨h3, h4⟩ := ntF_nil pl l k h2.1
    refine ⟨h3, fun i hi => ?_⟩
    by_cases e : i = k
    · rw [e]; exact h2.2
    · exact h4 i (by omega)
theorem netOk_of {pl : List ByteArray} {l : List ArcT} (h : netF pl l = []) : NetOk pl l := by
  obtain ⟨h0, h1⟩ := ntF_nil pl l _ h
  refine ⟨plF_places pl _ (List.append_eq_nil_iff.1 h0).1, fun i hi => ((arF_nil _ _ _).1 (h1 i hi)).1, fun i hi => ((arF_nil _ _ _).1 (h1 i hi)).2⟩

/-! ### arrivals over an arc -/
def slowS : List (Int × Int) → Int → Int
  | [], _ => 0
  | p :: l, t => (if p.1 ≤ t then p.2 else 0) + slowS l t
def arrA (a : ArcT) (t : Int) : Int := arr a.tr t + slowS a.sl t

end Go.Proofs.YthihahehmnpenaaDoor.T

