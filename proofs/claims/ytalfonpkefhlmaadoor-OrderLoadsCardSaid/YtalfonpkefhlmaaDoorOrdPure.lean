/-
  DERIVED. Orders in plain lists: what each function answers.
-/
import Derived.Test.YtalfonpkefhlmaaDoorRefLoad4
import Derived.Test.YtalfonpkefhlmaaDoorSetPure
namespace Go.Proofs.YtalfonpkefhlmaaDoor.T

/-- an order -/
structure OrT where
  name : ByteArray
  load : List Int
  pp : Int
  po : Int
  pc : Int
  ps : Int
  dp : Int
  dd : Int
  dc : Int
  ds : Int
  sk : Int
  pen : Int
  spl : Int
  las : Int
  now : Int
  off : Bool
deriving DecidableEq
def or0 : OrT := ⟨⟨#[]⟩, [], 0, 0, 0, 0, 0, 0, 0, 0, 0, 0, 0, 0, 0, false⟩
def inR (l : List OrT) (i : Int) : Bool := decide (0 ≤ i) && decide (i < l.length)
theorem inR_yes {l : List OrT} {i : Int} (h : inR l i = true) : ∃ k : Nat, i = k ∧ k < l.length := by
  unfold inR at h
  rw [Bool.and_eq_true, decide_eq_true_iff, decide_eq_true_iff] at h
  exact ⟨i.toNat, by omega, by omega⟩
/-- the visits of an order -/
def visO (o : OrT) (i : Int) : List (Int × Bool) := (if 0 ≤ o.pp then [(i, false)] else []) ++ (if 0 ≤ o.dp then [(i, true)] else [])
def visL (l : List OrT) (i : Int) : List (Int × Bool) := if inR l i then visO (l.getD i.toNat or0) i else []
/-- a stop -/
structure StT where
  p : Int
  o : Int
  c : Int
  s : Int
deriving DecidableEq
def st0 : StT := ⟨0, 0, 0, 0⟩
def stQ (o : OrT) (d : Bool) : StT := if d then ⟨o.dp, o.dd, o.dc, o.ds⟩ else ⟨o.pp, o.po, o.pc, o.ps⟩
def stopE (l : List OrT) (i : Int) (d : Bool) : Int := if inR l i then (if (stQ (l.getD i.toNat or0) d).p < 0 then 19 else 0) else 2
def stopV (l : List OrT) (i : Int) (d : Bool) : StT := if inR l i then (if (stQ (l.getD i.toNat or0) d).p < 0 then st0 else stQ (l.getD i.toNat or0) d) else st0
/-- the visits of an order have stops -/
theorem vis_stop {l : List OrT} {i : Int} {x : Int × Bool} (h : x ∈ visL l i) : stopE l x.1 x.2 = 0 ∧ 0 ≤ (stopV l x.1 x.2).p := by
  unfold visL at h
  cases hr : inR l i
  · rw [hr] at h; cases h
  · rw [hr, if_pos rfl] at h
    unfold visO at h
    rw [List.mem_append] at h
    rcases h with h | h
    · by_cases hp : 0 ≤ (l.getD i.toNat or0).pp
      · rw [if_pos hp] at h
        have := List.mem_singleton.1 h
        subst this
        unfold stopE stopV stQ
        simp only [hr, if_true, Bool.false_eq_true, if_false]
        rw [if_neg (by omega), if_neg (by omega)]
        exact ⟨rfl, hp⟩
      · rw [if_neg hp] at h; cases h
    · by_cases hp : 0 ≤ (l.getD i.toNat or0).dp
      · rw [if_pos hp] at h
        have := List.mem_singleton.1 h
        subst this
        unfold stopE stopV stQ
        simp only [hr, if_true]
        rw [if_neg (by omega), if_neg (by omega)]
        exact ⟨rfl, hp⟩
      · rw [if_neg hp] at h; cases h

/-! ### loads -/
def loadsOf (l : List OrT) (ms : List Nat) : List (List Int) := ms.map fun i => (l.getD i or0).load
def ldB (l : List OrT) (set dims : Int) : Bool := decide (0 ≤ set) && (decide (0 ≤ dims) && decide (dims ≤ 3)) && (S.members set.toNat).all fun i => decide (i < l.length)
def ldL (l : List OrT) (set dims : Int) : List Int := if ldB l set dims then L.gathL L.addF (loadsOf l (S.members set.toNat)) dims else []
def ldE (l : List OrT) (set dims : Int) : Int := if ldB l set dims then L.gathE (loadsOf l (S.members set.toNat)) dims else 2

/-! ### when two orders are the same -/
def sameO (a b : OrT) : Bool :=
  (a.name.toList == b.name.toList) && (a.load == b.load) && (a.pp == b.pp && (a.po == b.po && (a.pc == b.pc && a.ps == b.ps))) && (a.dp == b.dp && (a.dd == b.dd && (a.dc == b.dc && a.ds == b.ds))) && (a.sk == b.sk) && (a.pen == b.pen) && (a.spl == b.spl) && (a.las == b.las) && (a.now == b.now) && (a.off == b.off)
theorem sameO_refl (a : OrT) : sameO a a = true := by unfold sameO; simp
theorem sameO_comm (a b : OrT) : sameO a b = sameO b a := by
  unfold sameO
  rw [BEq.comm (a := a.name.toList), BEq.comm (a := a.load), BEq.comm (a := a.pp), BEq.comm (a := a.po), BEq.comm (a := a.pc), BEq.comm (a := a.ps), BEq.comm (a := a.dp), BEq.comm (a := a.dd), BEq.comm (a := a.dc), BEq.comm (a := a.ds), BEq.comm (a := a.sk), BEq.comm (a := a.pen), BEq.comm (a := a.spl), BEq.comm (a := a.las), BEq.comm (a := a.now), BEq.comm (a := a.off)]

end Go.Proofs.YtalfonpkefhlmaaDoor.T

