/-
  DERIVED. QA: a part of the base of layer 13 (made by pack.py).
-/
import Derived.Test.YtoliacfpjhanlaaRows
import Derived.WalkKit
import Derived.WalkSpells
import Derived.WalkLawsBesides
import Derived.WalkMore
import Derived.Below
import Derived.OwnWalk
import Derived.IntWalk
import Derived.Laws.OwnMore
import Derived.Laws.AppendOwn
import Derived.Deep.AppendLies
import Derived.Deep.Draws
import Derived.Deep.QuietTactic
import Derived.Deep.RegionLaw
import Derived.Deep.RegionWith
import Derived.BigQuiet
import Derived.Lib.Hide
import Derived.WalkSmall
import Derived.Deep.Onto
import Derived.Deep.LoopGhost
import Derived.Handy
import Derived.Lib.ItoaNum
import Derived.Laws.AppendOwnNone
import Derived.Maps.AppendAt
import Derived.Deep.DeepCutAuto
import Derived.Deep.Cut
import Derived.Deep.CutRange
import Derived.Test.YtoliacfpjhanlaaShelf
import Derived.Maps.OwnSet
import Derived.DeepKeys4
import Derived.Lib.SliceRun
import Derived.ProofKit
import Derived.LaidMore
import Derived.ChangeSlices
import Derived.SliceStrings
import Derived.Carry
import Derived.OpenShut
import Derived.Deep.SlicePairs
import Derived.Deep.Slices
import Derived.Deep.Fields
import Derived.Lib.SmallJoins
import Derived.RangeFuncBox
import Derived.RangeFuncNested
import Derived.RangeFuncBound
import Derived.RangeFuncCalls
import Derived.RangeFuncLeaves
import Derived.Shelf.Abstract
import Derived.Shelf.RegionOpen
import Derived.OwnWalkIn
import Derived.TacticsInMore
import Derived.LoopNIn
import Derived.LoopIn
import Derived.Deep.RegionHeld3
import Derived.Laws.StructEq
import Derived.ChangeKeysEq
import Derived.BigRegion
import Derived.Laws.BitsLemmas
import Derived.Laws.Bits64b
import Derived.Laws.Bits128
import Derived.Lib.LaidTab
/-! Slices of structs of two one-cell fields: as arguments, and made by the call itself. -/
namespace Go.Proofs.Ytoliacfpjhanlaa.T
open Go.RowKit
set_option maxRecDepth 8000

theorem over {w W w1 : World} (h : Below w.heap.size w W) (b : Below W.heap.size W w1) : Below w.heap.size w w1 := h.trans (b.mono h.size)
theorem below_drew {B : Nat} {a w : World} (h : Below B a w) : Below B a w.drew := ⟨h.os, h.tape, h.output, h.size, h.block⟩

/-! ### lists -/
section
variable {α : Type}
theorem drop_more {l : List α} {k : Nat} {d : α} (h : k < l.length) : l.drop k = l.getD k d :: l.drop (k + 1) := by
  rw [List.drop_eq_getElem_cons h, List.getD_eq_getElem?_getD, List.getElem?_eq_getElem h]; rfl
theorem take_more {l : List α} {k : Nat} {d : α} (h : k < l.length) : l.take (k + 1) = l.take k ++ [l.getD k d] := by
  rw [List.take_succ_eq_append_getElem h, List.getD_eq_getElem?_getD, List.getElem?_eq_getElem h]; rfl
theorem getD_mem {l : List α} {k : Nat} {d : α} (h : k < l.length) : l.getD k d ∈ l := by
  rw [List.getD_eq_getElem?_getD, List.getElem?_eq_getElem h]; exact List.getElem_mem h
end
theorem ret_bool {a b : Bool} (h : a = b) : Ending.returned (.bool a) = .returned (.bool b) := by rw [h]
theorem ret_int {k : IntKind} {a b : Int} (h : a = b) : Ending.returned (.int k a) = .returned (.int k b) := by rw [h]
section
variable {α : Type} (E0 E1 : α → Value) (d : α)
/-- v is a slice of structs with the cells E0 x, E1 x: the list l -/
def Sl (w : World) (v : Value) (l : List α) : Prop :=
  ∃ (oa : Option Addr) (c : Nat), v = .slice oa l.length c ∧ ∀ i, i < l.length → ∃ b o : Nat, oa = some ⟨b, o, none⟩ ∧ b < w.heap.size ∧
    w.cell? ⟨b, o + i * 2, none⟩ = some (E0 (l.getD i d)) ∧ w.cell? ⟨b, o + i * 2 + 1, none⟩ = some (E1 (l.getD i d))
variable {E0 E1 d}
theorem Sl.below {w w' : World} {v : Value} {l : List α} (h : Sl E0 E1 d w v l) (hb : Below w.heap.size w w') : Sl E0 E1 d w' v l := by
  obtain ⟨oa, c, hv, h⟩ := h
  refine ⟨oa, c, hv, fun i hi => ?_⟩
  obtain ⟨b, o, ha, hl, h0, h1⟩ := h i hi
  exact ⟨b, o, ha, Nat.lt_of_lt_of_le hl hb.size, (hb.cell (p := ⟨b, _, none⟩) hl).trans h0, (hb.cell (p := ⟨b, _, none⟩) hl).trans h1⟩
theorem Sl.nil (w : World) : Sl E0 E1 d w (.slice none 0 0) [] := ⟨none, 0, rfl, fun i hi => by cases hi⟩

/-- the cells of a list -/
def flat (E0 E1 : α → Value) (l : List α) : List Value := l.flatMap fun x => [E0 x, E1 x]
theorem flat_len (l : List α) : (flat E0 E1 l).length = l.length * 2 := by
  unfold flat
  induction l with
  | nil => rfl
  | cons x l ih => rw [List.flatMap_cons, List.length_append, ih]; simp; omega
theorem flat_at : ∀ (l : List α) (i : Nat), i < l.length → (flat E0 E1 l)[i * 2]? = some (E0 (l.getD i d)) ∧ (flat E0 E1 l)[i * 2 + 1]? = some (E1 (l.getD i d))
  | x :: l, 0, _ => by simp [flat]
  | x :: l, i + 1, h => by
    have := flat_at l i (by simpa using h)
    rw [show (i + 1) * 2 = i * 2 + 2 by omega]
    unfold flat at this ⊢
    rw [List.flatMap_cons]
    simpa using this
theorem flat_snoc (l : List α) (x : α) : flat E0 E1 (l ++ [x]) = flat E0 E1 l ++ [E0 x, E1 x] := by unfold flat; simp

/-- the call's own slice v of n structs of type e, made since block B: the list l -/
def Gn (e : TypeId) (E0 E1 : α → Value) (B : Nat) (w : World) (v : Value) (n : Nat) (l : List α) : Prop := w.ownsRow B e 2 v n (flat E0 E1 l)
variable {e : TypeId} {B : Nat} {w w' : World} {v : Value} {n : Nat} {l : List α}
theorem Gn.frame (h : Gn e E0 E1 B w v n l) (hb : Below w.heap.size w w') : Gn e E0 E1 B w' v n l := by
  refine ⟨h.1, ?_⟩
  rcases h.2 with hn | ⟨g, cap, cur, e, hbg, hgg, rest⟩
  · exact .inl hn
  · refine .inr ⟨g, cap, cur, e, hbg, ?_, rest⟩
    rw [hb.block g (Array.getElem?_eq_some_iff.1 hgg).1]; exact hgg
theorem Gn.mono {C : Nat} (h : Gn e E0 E1 B w v n l) (hle : C ≤ B) : Gn e E0 E1 C w v n l := World.ownsRow.mono h hle
theorem Gn.nil (e : TypeId) (E0 E1 : α → Value) (B : Nat) (w : World) : Gn e E0 E1 B w (.slice none 0 0) 0 [] := World.ownsRow_nil w B _ _
theorem Gn.blk (h : Gn e E0 E1 B w v n l) : ∀ k, v.ownBlock = some k → B ≤ k := fun k hk => (World.ownsRow.lt h k hk).1
theorem Gn.len (h : Gn e E0 E1 B w v n l) : n = l.length := by have := h.1; rw [flat_len] at this; omega
theorem Gn.sl (h : Gn e E0 E1 B w v n l) : Sl E0 E1 d w v l := by
  have hn := h.len
  rcases h.2 with ⟨hv, h0⟩ | ⟨g, cap, cur, rfl, hbg, hgg, hnc, rest⟩
  · have : l = [] := List.eq_nil_of_length_eq_zero (by omega)
    subst this
    exact ⟨none, 0, hv, fun i hi => by cases hi⟩
  · refine ⟨some ⟨g, 0, none⟩, cap, by rw [hn], fun i hi => ⟨g, 0, rfl, (Array.getElem?_eq_some_iff.1 hgg).1, ?_⟩⟩
    have hc := fun j hj => World.ownsRow.cellAt (g := g) (cap := cap) (n := n) (xs := flat E0 E1 l) (w := w) (base := B) (e := e) (size := 2) ⟨h.1, .inr ⟨g, cap, cur, rfl, hbg, hgg, hnc, rest⟩⟩ j hj
    have hf := flat_at (E0 := E0) (E1 := E1) (d := d) l i hi
    rw [Nat.zero_add, hc (i * 2) (by omega), hc (i * 2 + 1) (by omega)]
    exact hf
theorem Gn.form (h : Gn e E0 E1 B w v n l) : ∃ oa c, v = .slice oa n c := by
  rcases h.2 with ⟨hv, h0⟩ | ⟨g, cap, cur, rfl, _⟩
  · exact ⟨none, 0, by rw [hv, h0]⟩
  · exact ⟨_, _, rfl⟩
theorem Gn.more (x : α) (h : w.ownsRow B e 2 v (n + 1) (flat E0 E1 l ++ [E0 x, E1 x])) : Gn e E0 E1 B w v (n + 1) (l ++ [x]) := by
  unfold Gn
  rw [flat_snoc]
  exact h
end
def pT (p : Int × Int) : Value := .int .i64 p.1
def pA (p : Int × Int) : Value := .int .i64 p.2
def Ps (w : World) (v : Value) (l : List (Int × Int)) : Prop := Sl pT pA (0, 0) w v l
end Go.Proofs.Ytoliacfpjhanlaa.T



/-! Slices of int: as arguments, and made by the call itself. -/
namespace Go.Proofs.Ytoliacfpjhanlaa.L
open Go.RowKit
set_option maxRecDepth 8000

def vi (x : Int) : Value := .int .i64 x
/-- v is a slice of the numbers l -/
def Li (w : World) (v : Value) (l : List Int) : Prop :=
  ∃ (oa : Option Addr) (c : Nat), v = .slice oa l.length c ∧ ∀ i, i < l.length → ∃ a : Addr, oa = some a ∧ a.block < w.heap.size ∧ w.cell? (a.add i) = some (.int .i64 (l.getD i 0))
theorem add_block (a : Addr) (i : Nat) : (a.add i).block = a.block := by unfold Addr.add; split <;> rfl
theorem Li.below {w w' : World} {v : Value} {l : List Int} (h : Li w v l) (hb : Below w.heap.size w w') : Li w' v l := by
  obtain ⟨oa, c, hv, h⟩ := h
  refine ⟨oa, c, hv, fun i hi => ?_⟩
  obtain ⟨a, ha, hl, hc⟩ := h i hi
  exact ⟨a, ha, Nat.lt_of_lt_of_le hl hb.size, (hb.cell (by rw [add_block]; exact hl)).trans hc⟩
theorem Li.nil (w : World) : Li w (.slice none 0 0) [] := ⟨none, 0, rfl, fun i hi => by cases hi⟩
/-- the call's own slice v, made since block B, holds the numbers l -/
def Own (B : Nat) (w : World) (v : Value) (l : List Int) : Prop := w.ownsRow B 3 1 v l.length (l.map vi)
theorem Own.frame {B : Nat} {w w' : World} {v : Value} {l : List Int} (h : Own B w v l) (hb : Below w.heap.size w w') : Own B w' v l := by
  refine ⟨h.1, ?_⟩
  rcases h.2 with hn | ⟨g, cap, cur, e, hbg, hgg, rest⟩
  · exact .inl hn
  · refine .inr ⟨g, cap, cur, e, hbg, ?_, rest⟩
    rw [hb.block g (Array.getElem?_eq_some_iff.1 hgg).1]; exact hgg
theorem Own.alloc {B : Nat} {w : World} {v : Value} {l : List Int} (h : Own B w v l) (o : Obj) : Own B (w.alloc o) v l := World.ownsRow.alloc h o
theorem Own.mono {B C : Nat} {w : World} {v : Value} {l : List Int} (h : Own B w v l) (hle : C ≤ B) : Own C w v l := World.ownsRow.mono h hle
theorem Own.nil (B : Nat) (w : World) : Own B w (.slice none 0 0) [] := World.ownsRow_nil w B _ _
theorem Own.blk {B : Nat} {w : World} {v : Value} {l : List Int} (h : Own B w v l) : ∀ k, v.ownBlock = some k → B ≤ k := fun k hk => (World.ownsRow.lt h k hk).1
theorem Own.ext {B : Nat} {w : World} {v : Value} {l m : List Int} (h : Own B w v l) (e : l = m) : Own B w v m := e ▸ h
/-- block g, made since block B, holds the numbers l; it has room for cap -/
def Rw (B : Nat) (w : World) (g cap : Nat) (l : List Int) : Prop := Own B w (.slice (some ⟨g, 0, none⟩) l.length cap) l
section
variable {B : Nat} {w w' : World} {g cap : Nat} {l : List Int}
theorem Rw.cell (h : Rw B w g cap l) (k : Nat) (hk : k < l.length) : w.cell? ⟨g, k, none⟩ = some (.int .i64 (l.getD k 0)) := by
  have := World.ownsRow.cellAt h k (by omega)
  rw [this, List.getElem?_map, List.getD_eq_getElem?_getD, List.getElem?_eq_getElem hk]
  rfl
theorem Rw.frozen (h : Rw B w g cap l) (k : Nat) : w.frozen? ⟨g, k, none⟩ = false := World.ownsRow.frozenAt h k
theorem Rw.store (h : Rw B w g cap l) (k : Nat) (c : Int) : Rw B (w.setCell ⟨g, k, none⟩ (.int .i64 c)) g cap (l.set k c) := by
  have := (World.ownsRow.stored h k (vi c)).1
  unfold Rw Own
  rw [List.length_set, List.map_set]
  exact this
theorem Rw.lt (h : Rw B w g cap l) : B ≤ g ∧ g < w.heap.size := World.ownsRow.lt h g rfl
theorem Rw.of_block (h : Rw B w g cap l) (hb : w'.heap[g]? = w.heap[g]?) : Rw B w' g cap l := by
  refine ⟨h.1, ?_⟩
  rcases h.2 with ⟨h', _⟩ | ⟨g', cap', cur, h', hbg, hg, rest⟩
  · cases h'
  · cases h'; exact .inr ⟨g, cap, cur, rfl, hbg, hb.trans hg, rest⟩
theorem Rw.below (h : Rw B w g cap l) (hb : Below w.heap.size w w') : Rw B w' g cap l := h.of_block (hb.block g h.lt.2)
theorem Rw.ext (h : Rw B w g cap l) {m : List Int} (e : m = l) : Rw B w g cap m := e ▸ h
end
end Go.Proofs.Ytoliacfpjhanlaa.L



/-! Travel functions in plain lists of pairs: what each function answers. -/
namespace Go.Proofs.Ytoliacfpjhanlaa.T

def tickB (t : Int) : Bool := decide (0 ≤ t) && decide (t ≤ 4096)
def longB (p : Int × Int) : Bool := decide (p.1 + 4096 < p.2)
def pointB (p : Int × Int) : Bool := tickB p.1 && (decide (p.1 ≤ p.2) && !longB p)
def beforeB (p q : Int × Int) : Bool := decide (p.1 < q.1) && decide (p.2 ≤ q.2)
/-- a travel function -/
structure Ok (l : List (Int × Int)) : Prop where
  least : 1 ≤ l.length
  most : l.length ≤ 16
  each : ∀ i, i < l.length → pointB (l.getD i (0, 0)) = true
  next : ∀ i, i + 1 < l.length → beforeB (l.getD i (0, 0)) (l.getD (i + 1) (0, 0)) = true
theorem beforeB_iff (p q : Int × Int) : beforeB p q = true ↔ p.1 < q.1 ∧ p.2 ≤ q.2 := by
  unfold beforeB
  simp [Bool.and_eq_true]
theorem Ok.lt {l : List (Int × Int)} (h : Ok l) {i : Nat} (hi : i + 1 < l.length) : (l.getD i (0, 0)).1 < (l.getD (i + 1) (0, 0)).1 ∧ (l.getD i (0, 0)).2 ≤ (l.getD (i + 1) (0, 0)).2 := (beforeB_iff _ _).1 (h.next i hi)

/-! ### arrivals -/
def quo (p q : Int × Int) (t : Int) : Int := p.2 + ((t - p.1) * (q.2 - p.2) + (q.1 - p.1) - 1) / (q.1 - p.1)
def arrT : Int × Int → List (Int × Int) → Int → Int
  | p, [], t => t + (p.2 - p.1)
  | p, q :: r, t => if t < q.1 then quo p q t else arrT q r t
def arr : List (Int × Int) → Int → Int
  | [], _ => 0
  | p :: r, t => if t < p.1 then t + (p.2 - p.1) else arrT p r t
end Go.Proofs.Ytoliacfpjhanlaa.T



/-! Travel functions in plain lists of pairs: arrivals of any list, latest departures, delays, equal arrivals. -/
namespace Go.Proofs.Ytoliacfpjhanlaa.T

def befB (f : Int) (p : Int × Int) : Bool := decide (p.1 < f - 1)
def aftB (f : Int) (p : Int × Int) : Bool := decide (f < p.1)
def addN (n : Int) (p : Int × Int) : Int × Int := (p.1, p.2 + n)
def sBef (l : List (Int × Int)) (f : Int) (k : Nat) : List (Int × Int) := (l.take k).filter (befB f)
def sAft (l : List (Int × Int)) (f n : Int) (k : Nat) : List (Int × Int) := ((l.take k).filter (aftB f)).map (addN n)
def sOne (l : List (Int × Int)) (f : Int) : List (Int × Int) := if 0 < f then [(f - 1, arr l (f - 1))] else []
def sMid (l : List (Int × Int)) (f n : Int) : List (Int × Int) := sBef l f l.length ++ sOne l f ++ [(f, arr l f + n)]
def slow (l : List (Int × Int)) (f n : Int) : List (Int × Int) := sMid l f n ++ sAft l f n l.length
end Go.Proofs.Ytoliacfpjhanlaa.T



/-! Networks in plain lists: what each function answers. -/
namespace Go.Proofs.Ytoliacfpjhanlaa.T

/-- an arc -/
structure ArcT where
  fr : Int
  «to» : Int
  prof : Int
  miles : Int
  tr : List (Int × Int)
  sl : List (Int × Int)
deriving DecidableEq
def arc0 : ArcT := ⟨0, 0, 0, 0, [], []⟩
def slowB (l : List (Int × Int)) (k : Nat) : Bool :=
  tickB (l.getD k (0, 0)).1 && tickB (l.getD k (0, 0)).2 && !(decide (0 < k) && decide ((l.getD k (0, 0)).1 ≤ (l.getD (k - 1) (0, 0)).1))
structure ArcOk (np : Nat) (a : ArcT) : Prop where
  fr : 0 ≤ a.fr ∧ a.fr < np
  «to» : 0 ≤ a.to ∧ a.to < np
  ne : a.fr ≠ a.to
  prof : 0 ≤ a.prof ∧ a.prof ≤ 7
  miles : 0 ≤ a.miles ∧ a.miles ≤ 10000
  tr : Ok a.tr
  len : a.sl.length ≤ 16
  slow : ∀ k, k < a.sl.length → slowB a.sl k = true
end Go.Proofs.Ytoliacfpjhanlaa.T



/-! Types of vehicles in plain lists: what each function answers. -/
namespace Go.Proofs.Ytoliacfpjhanlaa.T

/-- a type of vehicles -/
structure TyT where
  name : ByteArray
  count : Int
  fr : Int
  «to» : Int
  cap : List Int
  skills : Int
  prof : Int
  opn : Int
  cls : Int
  drv : Int
  rst : Int
  fix : Int
  pm : Int
  pt : Int
deriving DecidableEq
def ty0 : TyT := ⟨⟨#[]⟩, 0, 0, 0, [], 0, 0, 0, 0, 0, 0, 0, 0, 0⟩
end Go.Proofs.Ytoliacfpjhanlaa.T



/-! Lists of errors and of faults, appended to: what each append leaves (of layer 9's texts: mkflbase.py). -/
namespace Go.Proofs.Ytoliacfpjhanlaa.T
open Go.RowKit
set_option maxRecDepth 8000

theorem below_alloc (w : World) (o : Obj) : Below w.heap.size w (w.alloc o) := (Below.refl _ w).alloc (Nat.le_refl _) o
theorem Sl.grown {α : Type} {E0 E1 : α → Value} {d : α} {w w' : World} {oa : Option Addr} {c : Nat} {l : List α} {row : Option Nat} (h : Sl E0 E1 d w (.slice oa l.length c) l) (hg : w.grownBy w' row) (hne : ∀ b o, oa = some ⟨b, o, none⟩ → some b ≠ row) : Sl E0 E1 d w' (.slice oa l.length c) l := by
  obtain ⟨oa', c', hv, h⟩ := h
  simp only [Value.slice.injEq] at hv
  obtain ⟨rfl, -, rfl⟩ := hv
  refine ⟨oa, c, rfl, fun i hi => ?_⟩
  obtain ⟨b, o, ha, hl, h0, h1⟩ := h i hi
  exact ⟨b, o, ha, Nat.lt_of_lt_of_le hl hg.size, hg.cell (a := ⟨b, _, none⟩) h0 (hne b o ha), hg.cell (a := ⟨b, _, none⟩) h1 (hne b o ha)⟩
section
variable {P : Program} {w : World}
theorem wpList_append_run {ops : Array Oper} {rest : List Oper} {o : Oper} {a : Act} {Q : Exit → Act → World → Prop} (hgd : o.guard = none) (s x : Operand) (t : TypeId)
    (ho : o.op = .call { callee := .builtin .append, args := #[s, x], argTypes := #[t, t] }) {v u : Value} {R : Value → World → Prop} (hs : a.eval s = v) (hx : a.eval x = u)
    (hrun : ∃ v' w', (Builtin.append_ #[t, t] o.type #[v, u]).run P w = .ok v' w' ∧ R v' w')
    (h : ∀ v' w', R v' w' → wpList P ops Q rest (a.put o.dst v') w') : wpList P ops Q (o :: rest) a w := by
  refine wpList_plain hgd fun K hK => ?_
  obtain ⟨v', w', hr, h2⟩ := hrun
  unfold Oper.wp execOp
  simp only [ho, resolve, invoke, builtin, Sem.run_bind, Sem.run_pure, Result.andThen_ok, List.map_toArray, List.map_cons, List.map_nil, hs, hx, hr]
  exact hK _ _ (h v' w' h2)
end

/-! ### lists of errors -/
theorem below_row {B : Nat} {w w' : World} {row : Option Nat} (hB : B ≤ w.heap.size) (hg : w.grownBy w' row) (hb : ∀ k, row = some k → B ≤ k) : Below B w w' := (Below.refl B w).grown hg hB hb
end Go.Proofs.Ytoliacfpjhanlaa.T



/-! Maps of texts that a call makes itself (out of layer 9's text: tools/mkflload.py). -/
namespace Go.Proofs.Ytoliacfpjhanlaa.T
open Go.RowKit
set_option maxRecDepth 8000

def sk (s : ByteArray) : Lit := .string s.data.toList
end Go.Proofs.Ytoliacfpjhanlaa.T



/-! The walks of the small tests on bytes, and of both functions Name. -/
namespace Go.Proofs.Ytoliacfpjhanlaa
open Go.RowKit

theorem ret_bool {a b : Bool} (h : a = b) : Ending.returned (.bool a) = .returned (.bool b) := by rw [h]

end Go.Proofs.Ytoliacfpjhanlaa



/-! How many points a list of arcs has. -/
namespace Go.Proofs.Ytoliacfpjhanlaa.T

/-- how many points the arcs have -/
def wtA (l : List ArcT) : Nat := (l.map fun a => a.tr.length + a.sl.length).sum
end Go.Proofs.Ytoliacfpjhanlaa.T



/-! Slices of arcs that a call makes itself. -/
namespace Go.Proofs.Ytoliacfpjhanlaa.T
open Go.RowKit
set_option maxRecDepth 8000

/-- an arc with its two slices -/
abbrev ArcV := ArcT × Value × Value
section
variable {B : Nat} {w w' : World} {v : Value} {xs : List ArcV}
/-- a slice lies beside a row -/
def Bes (u : Value) (row : Option Nat) : Prop := ∀ b o k c, u = .slice (some ⟨b, o, none⟩) k c → 0 < k → some b ≠ row
theorem Ps.grown {u : Value} {l : List (Int × Int)} {row : Option Nat} (h : Ps w u l) (hg : w.grownBy w' row) (hb : Bes u row) : Ps w' u l := by
  obtain ⟨oa, c, hv, h⟩ := h
  refine ⟨oa, c, hv, fun i hi => ?_⟩
  obtain ⟨b, o, ha, hl, h0, h1⟩ := h i hi
  have hne := hb b o l.length c (by rw [hv, ha]) (by omega)
  exact ⟨b, o, ha, Nat.lt_of_lt_of_le hl hg.size, hg.cell (a := ⟨b, _, none⟩) h0 hne, hg.cell (a := ⟨b, _, none⟩) h1 hne⟩
end
end Go.Proofs.Ytoliacfpjhanlaa.T



/-! Earliest arrivals: the places settled in the order of their arrivals, and the arcs improved again and again, give the same list. -/
namespace Go.Proofs.Ytoliacfpjhanlaa.T

/-! ### arrivals never fall -/
section
variable {pl : List ByteArray} {l : List ArcT} {pr : Int} {f : Nat} {t : Int}
/-- the place that is settled next -/
structure Nx (np : Nat) (d : List Int) (lf : List Bool) (u : Nat) : Prop where
  lt : u < np
  new : lf.getD u false = false
  at_ : 0 ≤ d.getD u 0
  least : ∀ q, q < np → lf.getD q false = false → 0 ≤ d.getD q 0 → d.getD u 0 ≤ d.getD q 0
end
end Go.Proofs.Ytoliacfpjhanlaa.T



/-! Maps of ways and of texts that a call makes itself. -/
namespace Go.Proofs.Ytoliacfpjhanlaa.T
open Go.RowKit
set_option maxRecDepth 8000

def I64 (x : Int) : Prop := -9223372036854775808 ≤ x ∧ x ≤ 9223372036854775807
end Go.Proofs.Ytoliacfpjhanlaa.T



/-! The walks of slices.Backward over arcs and of network's firstArcs. -/
namespace Go.Proofs.Ytoliacfpjhanlaa.T
open Go.RowKit Go.Shelf
set_option maxRecDepth 8000
attribute [local go_sem] Oper.semAt_some

/-- what a round is handed: an index and an arc -/
structure ArcX where
  i : Nat
  fr : Int
  dt : Int
  prof : Int
  miles : Int
  ot : Option Addr
  nt : Nat
  ct : Nat
  os : Option Addr
  ns : Nat
  cs : Nat
  hi : i ≤ 1000000000
  hp : I64 prof
  hf : I64 fr
  ht : I64 dt
end Go.Proofs.Ytoliacfpjhanlaa.T



/-! The walk of network's firstArcs. -/
namespace Go.Proofs.Ytoliacfpjhanlaa.T
open Go.RowKit Go.Shelf
set_option maxRecDepth 8000
attribute [local go_sem] Oper.semAt_some

instance : Inhabited ArcX := ⟨⟨0, 0, 0, 0, 0, none, 0, 0, none, 0, 0, by omega, by unfold I64; omega, by unfold I64; omega, by unfold I64; omega⟩⟩
/-- the numbers of the arcs are numbers of the machine's -/
def Wfa (l : List ArcT) : Prop := ∀ i, i < l.length → I64 (l.getD i arc0).fr ∧ I64 (l.getD i arc0).to ∧ I64 (l.getD i arc0).prof
end Go.Proofs.Ytoliacfpjhanlaa.T



/-! The walk of fleet's Same (written by gen_fltop3.py). -/
namespace Go.Proofs.Ytoliacfpjhanlaa.T
open Go.RowKit
set_option maxRecDepth 8000

theorem add_pl (b o j : Nat) : (⟨b, o, none⟩ : Addr).add j = ⟨b, o + j, none⟩ := by
  unfold Addr.add
  split
  · rename_i hz; rw [hz]; rfl
  · rfl
end Go.Proofs.Ytoliacfpjhanlaa.T



/-! Slices of int that hold natural numbers, nil or not. -/
namespace Go.Proofs.Ytoliacfpjhanlaa.S
open Go.RowKit
set_option maxRecDepth 8000

def iv (n : Nat) : Value := .int .i64 (n : Int)
end Go.Proofs.Ytoliacfpjhanlaa.S



/-! Plain Lean: sets of numbers from 0 to 62 as natural numbers. -/
namespace Go.Proofs.Ytoliacfpjhanlaa.S

def has (n i : Nat) : Bool := n / 2 ^ i % 2 == 1
/-- the members below k -/
def mem (n k : Nat) : List Nat := (List.range k).filter (has n)
def members (n : Nat) : List Nat := mem n 63
theorem mem_len (n k : Nat) : (mem n k).length ≤ k := by
  rw [mem]; exact Nat.le_trans (List.length_filter_le _ _) (by rw [List.length_range]; exact Nat.le_refl _)
theorem mem_iff (n k i : Nat) : i ∈ mem n k ↔ i < k ∧ has n i = true := by rw [mem, List.mem_filter, List.mem_range]
theorem pow_le62 {k : Nat} (h : k ≤ 62) : 2 ^ k ≤ 4611686018427387904 := Nat.le_trans (Nat.pow_le_pow_right (by omega) h) (by decide)
theorem has_div (n i : Nat) : has n i = (n / 2 ^ i % 2 == 1) := rfl
def withinB (a b : Nat) : Bool := (members a).all (has b)

/-! ### subsets -/
end Go.Proofs.Ytoliacfpjhanlaa.S



/-! The walks of lorryref05's Bit, Has, Size. -/
namespace Go.Proofs.Ytoliacfpjhanlaa.S
open Go.RowKit
set_option maxRecDepth 8000

theorem ret_bool {a b : Bool} (h : a = b) : Ending.returned (.bool a) = .returned (.bool b) := by rw [h]
theorem w64 {q : Nat} (h : q < 9223372036854775808) : wrap64 (q : Int) = (q : Int) := by unfold wrap64; omega
end Go.Proofs.Ytoliacfpjhanlaa.S



/-! The walks of lorryref06's Add and Sub. -/
namespace Go.Proofs.Ytoliacfpjhanlaa.L
open Go.RowKit
set_option maxRecDepth 8000

/-- the call's own slice v of n numbers l -/
def Gn (B : Nat) (w : World) (v : Value) (n : Nat) (l : List Int) : Prop := w.ownsRow B 3 1 v n (l.map vi)
theorem Gn.own {B : Nat} {w : World} {v : Value} {n : Nat} {l : List Int} (h : Gn B w v n l) (e : n = l.length) : Own B w v l := by unfold Own; rw [← e]; exact h
theorem Gn.nil (B : Nat) (w : World) : Gn B w (.slice none 0 0) 0 [] := World.ownsRow_nil w B _ _
end Go.Proofs.Ytoliacfpjhanlaa.L



/-! Orders in plain lists: what each function answers. -/
namespace Go.Proofs.Ytoliacfpjhanlaa.T

/-- an order -/
structure OrT where
  name : ByteArray
  load : List Int
  pp : Int
  po : Int
  pc : Int
  ps : Int
  dp : Int
  dd : Int
  dc : Int
  ds : Int
  sk : Int
  pen : Int
  spl : Int
  las : Int
  now : Int
  off : Bool
deriving DecidableEq
def or0 : OrT := ⟨⟨#[]⟩, [], 0, 0, 0, 0, 0, 0, 0, 0, 0, 0, 0, 0, 0, false⟩
def inR (l : List OrT) (i : Int) : Bool := decide (0 ≤ i) && decide (i < l.length)
theorem inR_yes {l : List OrT} {i : Int} (h : inR l i = true) : ∃ k : Nat, i = k ∧ k < l.length := by
  unfold inR at h
  rw [Bool.and_eq_true, decide_eq_true_iff, decide_eq_true_iff] at h
  exact ⟨i.toNat, by omega, by omega⟩
/-- the visits of an order -/
def visO (o : OrT) (i : Int) : List (Int × Bool) := (if 0 ≤ o.pp then [(i, false)] else []) ++ (if 0 ≤ o.dp then [(i, true)] else [])
def visL (l : List OrT) (i : Int) : List (Int × Bool) := if inR l i then visO (l.getD i.toNat or0) i else []
/-- a stop -/
structure StT where
  p : Int
  o : Int
  c : Int
  s : Int
deriving DecidableEq
end Go.Proofs.Ytoliacfpjhanlaa.T



/-! Slices and blocks of orders (written by gen_ordrow.py). -/
namespace Go.Proofs.Ytoliacfpjhanlaa.T
open Go.RowKit
set_option maxRecDepth 8000

/-- the cells of an order at an address -/
def Oc (w : World) (b o : Nat) (a : OrT) (vc : Value) : Prop :=
  w.cell? ⟨b, o, none⟩ = some (.string a.name) ∧ w.cell? ⟨b, o + 1, none⟩ = some vc ∧ w.cell? ⟨b, o + 2, none⟩ = some (.int .i64 a.pp) ∧ w.cell? ⟨b, o + 3, none⟩ = some (.int .i64 a.po) ∧ w.cell? ⟨b, o + 4, none⟩ = some (.int .i64 a.pc) ∧ w.cell? ⟨b, o + 5, none⟩ = some (.int .i64 a.ps) ∧ w.cell? ⟨b, o + 6, none⟩ = some (.int .i64 a.dp) ∧ w.cell? ⟨b, o + 7, none⟩ = some (.int .i64 a.dd) ∧ w.cell? ⟨b, o + 8, none⟩ = some (.int .i64 a.dc) ∧ w.cell? ⟨b, o + 9, none⟩ = some (.int .i64 a.ds) ∧ w.cell? ⟨b, o + 10, none⟩ = some (.int .i64 a.sk) ∧ w.cell? ⟨b, o + 11, none⟩ = some (.int .i64 a.pen) ∧ w.cell? ⟨b, o + 12, none⟩ = some (.int .i64 a.spl) ∧ w.cell? ⟨b, o + 13, none⟩ = some (.int .i64 a.las) ∧ w.cell? ⟨b, o + 14, none⟩ = some (.int .i64 a.now) ∧ w.cell? ⟨b, o + 15, none⟩ = some (.bool a.off)
theorem Oc.below {w w' : World} {b o : Nat} {a : OrT} {vc : Value} (h : Oc w b o a vc) (hl : b < w.heap.size) (hb : Below w.heap.size w w') : Oc w' b o a vc := by
  obtain ⟨h0, h1, h2, h3, h4, h5, h6, h7, h8, h9, h10, h11, h12, h13, h14, h15⟩ := h
  exact ⟨(hb.cell (p := ⟨b, _, none⟩) hl).trans h0, (hb.cell (p := ⟨b, _, none⟩) hl).trans h1, (hb.cell (p := ⟨b, _, none⟩) hl).trans h2, (hb.cell (p := ⟨b, _, none⟩) hl).trans h3, (hb.cell (p := ⟨b, _, none⟩) hl).trans h4, (hb.cell (p := ⟨b, _, none⟩) hl).trans h5, (hb.cell (p := ⟨b, _, none⟩) hl).trans h6, (hb.cell (p := ⟨b, _, none⟩) hl).trans h7, (hb.cell (p := ⟨b, _, none⟩) hl).trans h8, (hb.cell (p := ⟨b, _, none⟩) hl).trans h9, (hb.cell (p := ⟨b, _, none⟩) hl).trans h10, (hb.cell (p := ⟨b, _, none⟩) hl).trans h11, (hb.cell (p := ⟨b, _, none⟩) hl).trans h12, (hb.cell (p := ⟨b, _, none⟩) hl).trans h13, (hb.cell (p := ⟨b, _, none⟩) hl).trans h14, (hb.cell (p := ⟨b, _, none⟩) hl).trans h15⟩
/-- v is a slice of the orders l -/
def Os (w : World) (v : Value) (l : List OrT) : Prop :=
  ∃ (oa : Option Addr) (c : Nat), v = .slice oa l.length c ∧ ∀ i, i < l.length → ∃ (b o : Nat) (vc : Value), oa = some ⟨b, o, none⟩ ∧ b < w.heap.size ∧ Oc w b (o + i * 16) (l.getD i or0) vc ∧ L.Li w vc (l.getD i or0).load
theorem Os.below {w w' : World} {v : Value} {l : List OrT} (h : Os w v l) (hb : Below w.heap.size w w') : Os w' v l := by
  obtain ⟨oa, c, hv, h⟩ := h
  refine ⟨oa, c, hv, fun i hi => ?_⟩
  obtain ⟨b, o, vc, ha, hl, hc, ht⟩ := h i hi
  exact ⟨b, o, vc, ha, Nat.lt_of_lt_of_le hl hb.size, hc.below hl hb, ht.below hb⟩
theorem Os.nil (w : World) : Os w (.slice none 0 0) [] := ⟨none, 0, rfl, fun i hi => by cases hi⟩

end Go.Proofs.Ytoliacfpjhanlaa.T



/-! Own lists of visits and of slices of int, appended to (out of layer 10's text: tools/mkordbase.py). -/
namespace Go.Proofs.Ytoliacfpjhanlaa.T
open Go.RowKit
set_option maxRecDepth 8000

def vE (f : Int × Bool) : Value := .int .i64 f.1
def vA (f : Int × Bool) : Value := .bool f.2
def Vs (w : World) (v : Value) (l : List (Int × Bool)) : Prop := Sl vE vA (0, false) w v l
def Gv (B : Nat) (w : World) (v : Value) (n : Nat) (l : List (Int × Bool)) : Prop := Gn 52 vE vA B w v n l
theorem infoW0 : (Try.prog.info? 52).map (fun i => (i.zero, i.size, i.bytes)) = some (some (.agg #[.int .i64 0, .bool false]), 2, 16) := by kernel_rfl
theorem infoW : ∃ i, Try.prog.info? 52 = some i ∧ i.zero = some (.agg #[.int .i64 0, .bool false]) ∧ i.size = 2 ∧ i.bytes = 16 := by
  have h := infoW0
  obtain ⟨i, hi, hzz⟩ := Option.map_eq_some_iff.1 h
  simp only [Prod.mk.injEq] at hzz
  exact ⟨i, hi, hzz.1, hzz.2.1, hzz.2.2⟩

/-- the call's own slice of faults -/
def Gw (B : Nat) (w : World) (v : Value) (l : List (Int × Bool)) : Prop := Gv B w v l.length l
theorem Gw.nil (B : Nat) (w : World) : Gw B w (.slice none 0 0) [] := Gn.nil _ _ _ _ _
theorem Gw.frame {B : Nat} {w w' : World} {v : Value} {l : List (Int × Bool)} (h : Gw B w v l) (hb : Below w.heap.size w w') : Gw B w' v l := Gn.frame h hb
theorem Gw.drew {B : Nat} {w : World} {v : Value} {l : List (Int × Bool)} (h : Gw B w v l) : Gw B w.drew v l := h
theorem Gw.more {B : Nat} {w : World} {v : Value} {l : List (Int × Bool)} {x : Int} {s : Bool} (h : w.ownsRow B 52 2 v (l.length + 1) (flat vE vA l ++ [.int .i64 x, .bool s])) : Gw B w v (l ++ [(x, s)]) := by
  unfold Gw
  rw [List.length_append]
  exact Gn.more (E0 := vE) (E1 := vA) (x, s) h
theorem Gw.ext {B : Nat} {w : World} {v : Value} {l m : List (Int × Bool)} (h : Gw B w v l) (e : l = m) : Gw B w v m := e ▸ h
theorem Gw.own {B : Nat} {w : World} {v : Value} {l : List (Int × Bool)} (h : Gw B w v l) : w.ownsRow B 52 2 v l.length (flat vE vA l) := h
theorem Gw.blk {B : Nat} {w : World} {v : Value} {l : List (Int × Bool)} (h : Gw B w v l) : ∀ k, v.ownBlock = some k → B ≤ k := Gn.blk h
/-- a result: a list of faults -/
def VisP (l : List (Int × Bool)) (w : World) (e : Ending) (w' : World) : Prop :=
  ∃ oa c, e = .returned (.slice oa l.length c) ∧ (Vs w' (.slice oa l.length c) l ∧ Gw w.heap.size w' (.slice oa l.length c) l ∧ (oa = none → c = 0)) ∧ Below w.heap.size w w'
theorem visP {B : Nat} {l : List (Int × Bool)} {w w' : World} {v : Value} (h : Gw B w' v l) (hb : Below w.heap.size w w') (hB : w.heap.size ≤ B) : VisP l w (.returned v) w' := by
  have hs : Vs w' v l := Gn.sl h
  have hg : Gw w.heap.size w' v l := Gn.mono h hB
  rcases h.2 with ⟨hv, h0⟩ | ⟨g, cap, cur, hv, _⟩
  · subst hv
    have hn : l = [] := List.eq_nil_of_length_eq_zero h0
    subst hn
    exact ⟨none, 0, rfl, ⟨hs, hg, fun _ => rfl⟩, hb⟩
  · subst hv
    exact ⟨_, _, rfl, ⟨hs, hg, fun h => (by cases h)⟩, hb⟩
theorem vs_news {w : World} {ad : Addr} {c : Nat} {l : List (Int × Bool)} (h : Vs w (.slice (some ad) l.length c) l) : ∀ j u, (flat vE vA l)[j]? = some u → w.cell? (ad.add j) = some u := fun j u hj => by
  obtain ⟨oa, c', hv, h⟩ := h
  simp only [Value.slice.injEq] at hv
  obtain ⟨rfl, -, rfl⟩ := hv
  have hjl : j < (flat vE vA l).length := (List.getElem?_eq_some_iff.1 hj).1
  rw [flat_len] at hjl
  obtain ⟨b, o, ha, -, h0, h1⟩ := h (j / 2) (by omega)
  simp only [Option.some.injEq] at ha
  subst ha
  obtain ⟨f0, f1⟩ := flat_at (E0 := vE) (E1 := vA) (d := (0, false)) l (j / 2) (by omega)
  have had : (⟨b, o, none⟩ : Addr).add j = ⟨b, o + j, none⟩ := by
    unfold Addr.add; split
    · rename_i hz; rw [hz]; rfl
    · rfl
  rw [had]
  rcases Nat.mod_two_eq_zero_or_one j with e | e
  · rw [show j / 2 * 2 = j by omega] at h0 f0
    rw [f0] at hj
    rw [h0]; exact hj
  · rw [show j / 2 * 2 + 1 = j by omega] at f1
    rw [show o + j / 2 * 2 + 1 = o + j by omega] at h1
    rw [f1] at hj
    rw [h1]; exact hj
theorem vs_nil {w : World} {c : Nat} {l : List (Int × Bool)} (h : Vs w (.slice none l.length c) l) : l = [] := by
  obtain ⟨oa, c', hv, h⟩ := h
  simp only [Value.slice.injEq] at hv
  obtain ⟨rfl, -, rfl⟩ := hv
  cases l with
  | nil => rfl
  | cons x l =>
    obtain ⟨b, o, ha, -⟩ := h 0 (by simp)
    cases ha
theorem flatw_cells (l : List (Int × Bool)) : ∀ v ∈ flat vE vA l, v.oneCell' = true := by
  intro v hv
  unfold flat at hv
  rw [List.mem_flatMap] at hv
  obtain ⟨x, -, hx⟩ := hv
  simp only [List.mem_cons, List.not_mem_nil, or_false] at hx
  rcases hx with rfl | rfl <;> rfl
theorem Gw.onto {B : Nat} {w : World} {v : Value} {l m : List (Int × Bool)} (h : w.ownsRow B 52 2 v (l.length + m.length) (flat vE vA l ++ flat vE vA m)) : Gw B w v (l ++ m) := by
  unfold Gw Gv Gn
  rw [List.length_append]
  have : flat vE vA (l ++ m) = flat vE vA l ++ flat vE vA m := by unfold flat; rw [List.flatMap_append]
  rw [this]; exact h

/-- a slice of faults that is read, and is nil where it has no array -/
def Lw (w : World) (u : Value) (m : List (Int × Bool)) : Prop := ∃ oa c, u = .slice oa m.length c ∧ Vs w (.slice oa m.length c) m ∧ (oa = none → c = 0)
theorem ap_w {B : Nat} {w : World} {v u : Value} {l m : List (Int × Bool)} (ty : TypeId) (hv : Gw B w v l) (hu : Lw w u m) (hB : B ≤ w.heap.size) (hn : l.length + m.length ≤ 100000000) :
    ∃ v' w', (Builtin.append_ #[32, 32] ty #[v, u]).run Try.prog w = .ok v' w' ∧ (Gw B w' v' (l ++ m) ∧ Below B w w' ∧ w.grownBy w' v.ownBlock ∧ (v'.ownBlock = v.ownBlock ∨ v'.ownBlock = some w.heap.size)) := by
  obtain ⟨i0, hi, hz0, hz1, hz2⟩ := infoW
  obtain ⟨oa, c, rfl, hl, hc⟩ := hu
  cases oa with
  | none =>
    have hm := vs_nil hl
    subst hm
    have h0 := hc rfl
    subst h0
    exact ⟨v, w, run_append_owned_none w B _ ty _ i0 2 Try.underlying32 hi v _ _ hv.own, by rw [List.append_nil]; exact hv, Below.refl _ _, World.grownBy.refl _ _, .inl rfl⟩
  | some ad =>
    obtain ⟨v', w', hr, h2, h3, -, h5⟩ := run_append_own_at (P := Try.prog) w B 32 ty 52 i0 (.agg #[.int .i64 0, .bool false]) 2 16 Try.underlying32 hi hz0 hz1 hz2 rfl (by decide) v l.length (flat vE vA l) hv.own ad m.length c (flat vE vA m) (flat_len (E0 := vE) (E1 := vA) m) (vs_news hl) (flatw_cells m) (by unfold maxLen; omega) (by omega) hB
    exact ⟨v', w', hr, Gw.onto h2, below_row hB h3 hv.blk, h3, h5⟩
theorem lw_one (w : World) (x : Int) (s : Bool) : Lw (w.alloc (.cells #[.int .i64 x, .bool s] 52)) (.slice (some ⟨w.heap.size, 0, none⟩) 1 1) [(x, s)] := by
  refine ⟨some ⟨w.heap.size, 0, none⟩, 1, rfl, ⟨some ⟨w.heap.size, 0, none⟩, 1, rfl, fun i hi => ⟨w.heap.size, 0, rfl, by simp, ?_⟩⟩, fun h => by cases h⟩
  match i, hi with
  | 0, _ => exact ⟨by simp [vE], by simp [vA]⟩
theorem ap_w1 {B : Nat} {w : World} {v : Value} {l : List (Int × Bool)} (ty : TypeId) (x : Int) (s : Bool) (hv : Gw B w v l) (hB : B ≤ w.heap.size) (hn : l.length ≤ 90000000) :
    ∃ v' w', (Builtin.append_ #[32, 32] ty #[v, .slice (some ⟨w.heap.size, 0, none⟩) 1 1]).run Try.prog (w.alloc (.cells #[.int .i64 x, .bool s] 52)) = .ok v' w' ∧ (Gw B w' v' (l ++ [(x, s)]) ∧ Below B w w') := by
  obtain ⟨v', w', hr, h2, h3, -, -⟩ := ap_w (w := w.alloc (.cells #[.int .i64 x, .bool s] 52)) (m := [(x, s)]) ty (hv.frame (below_alloc _ _)) (lw_one w x s) (by simp; omega) (by simp; omega)
  exact ⟨v', w', hr, h2, ((below_alloc w _).mono hB).trans h3⟩


/-! ### own slices of slices of int -/
end Go.Proofs.Ytoliacfpjhanlaa.T



/-! The walks of order: exists, Visits, Stop. -/
namespace Go.Proofs.Ytoliacfpjhanlaa.T
open Go.RowKit
set_option maxRecDepth 8000

theorem exists_n (oa : Option Addr) (c : Nat) (l : List OrT) (i : Int) (w : World) : Calls Try.prog 82 #[.slice oa l.length c, .int .i64 i] w fun e w' => e = .returned (.bool (inR l i)) ∧ w = w' := by
  by_cases h1 : 0 ≤ i
  · have HR : Hid (decide (i < (l.length : Int)) = inR l i) := by show _ = _; unfold inR; rw [decide_eq_true h1, Bool.true_and]
    generalize inR l i = r at *
    generalize l.length = n at *
    go_enter Try.func82, Try.ntmps82
    go_wp2_with fail
    go_ret
    exact ⟨ret_bool HR.out, rfl⟩
  · have HR : Hid (false = inR l i) := by show _ = _; unfold inR; rw [decide_eq_false h1, Bool.false_and]
    have h2 : i < 0 := by omega
    generalize inR l i = r at *
    generalize l.length = n at *
    go_enter Try.func82, Try.ntmps82
    go_wp2_with fail
    go_ret
    exact ⟨ret_bool HR.out, rfl⟩

set_option maxHeartbeats 3200000 in
theorem ordVisits_n (v : Value) (l : List OrT) (i : Int) (w : World) (hv : Os w v l) :
    Calls Try.prog 62 #[v, .int .i64 i] w (VisP (visL l i) w) := by
  obtain ⟨oa, c, rfl, ha⟩ := hv
  have KI := Lib.hid (fun w => exists_n oa c l i w)
  cases hr : inR l i
  · have HR : Hid (visL l i = []) := by show _ = _; unfold visL; rw [hr]; rfl
    rw [hr] at KI
    generalize visL l i = r at *
    generalize l.length = n at *
    clear hr ha
    go_enter Try.func62, Try.ntmps62
    go_wp2_with fail
    refine (KI.out _).mono ?_
    rintro e w1 ⟨rfl, rfl⟩
    go_wp2_with fail
    go_ret
    exact visP (HR.out ▸ Gw.nil _ _) (Below.refl _ _) (Nat.le_refl _)
  · have HR : Hid (visL l i = visO (l.getD i.toNat or0) i) := by show _ = _; unfold visL; rw [hr, if_pos rfl]
    rw [hr] at KI
    obtain ⟨k, rfl, hk⟩ := inR_yes hr
    obtain ⟨b, o, vc, rfl, hab, ⟨h0, h1, h2, h3, h4, h5, h6, h7, h8, h9, h10, h11, h12, h13, h14, h15⟩, -⟩ := ha k hk
    rw [Int.toNat_natCast] at HR
    have hkI : (k : Int) < (l.length : Int) := by omega
    generalize visL l k = r at *
    generalize l.getD k or0 = a at *
    generalize l.length = n at *
    clear hr ha
    have HE : Hid (r = [] ++ (if 0 ≤ a.pp then [((k : Int), false)] else []) ++ (if 0 ≤ a.dp then [((k : Int), true)] else [])) := by show _ = _; rw [HR.out]; rfl
    clear HR
    obtain ⟨i0, hi, hz0, hz1, hz2⟩ := infoW
    go_enter Try.func62, Try.ntmps62
    go_wp2_with fail
    refine (KI.out _).mono ?_
    rintro e w1 ⟨rfl, rfl⟩
    go_wp2_with (at_make; refine wpList_make_own _ rfl _ _ 32 rfl w.heap.size 52 i0 (.agg #[.int .i64 0, .bool false]) 2 Try.underlying32 hi hz0 hz1 _ _ _ 2 rfl rfl ?e1 ?e3 ?e4 (Nat.le_refl _) ?_)
    case e1 => rfl
    case e3 => rw [hz2]; omega
    case e4 => unfold maxLen; omega
    intro w1 hown hgrow
    have HG1 : Hid (Gw w.heap.size w1 (.slice (some ⟨w.heap.size, 0, none⟩) 0 2) []) := hown
    have HB1 : Hid (Below w.heap.size w w1) := (Below.refl _ w).grown hgrow (Nat.le_refl _) (fun k h => by cases h)
    have h2 := (HB1.out.cell (p := ⟨b, _, none⟩) hab).trans h2
    have h6 := (HB1.out.cell (p := ⟨b, _, none⟩) hab).trans h6
    have hsz1 := HB1.out.size
    have hab1 : b < w1.heap.size := by omega
    clear hown hgrow h0 h1 h3 h4 h5 h7 h8 h9 h10 h11 h12 h13 h14 h15
    generalize Value.slice (some ⟨w.heap.size, 0, none⟩) 0 2 = v1 at *
    by_cases p1 : 0 ≤ a.pp
    · have q1 : decide (0 ≤ a.pp) = true := decide_eq_true p1
      rw [if_pos p1] at HE
      go_wp2_with (at_builtin; refine wpList_append_run rfl _ _ 32 rfl rfl rfl (ap_w1 _ (k : Int) false HG1.out hsz1 (by simp)) ?_)
      intro v3 w3 hg3 hb3
      have HB3 := Lib.hid (HB1.out.trans hb3)
      have d6 := (HB3.out.cell (p := ⟨b, _, none⟩) hab).trans ((HB1.out.cell (p := ⟨b, _, none⟩) hab).symm.trans h6)
      have HG3 := Lib.hid hg3
      have hsz := HB3.out.size
      clear hg3 hb3 h6
      by_cases p2 : 0 ≤ a.dp
      · rw [if_pos p2] at HE
        go_wp2_with (at_builtin; refine wpList_append_run rfl _ _ 32 rfl rfl rfl (ap_w1 _ (k : Int) true HG3.out hsz (by simp)) ?_)
        intro v4 w4 hg4 hb4
        have HG4 := Lib.hid hg4
        have HB4 := Lib.hid (HB3.out.trans hb4)
        clear hg4 hb4
        go_wp2_with fail
        go_ret
        exact visP (HE.out ▸ HG4.out) HB4.out (Nat.le_refl _)
      · rw [if_neg p2] at HE
        go_wp2_with fail
        go_ret
        exact visP (HE.out ▸ (HG3.out.ext (by simp))) HB3.out (Nat.le_refl _)
    · rw [if_neg p1] at HE
      by_cases p2 : 0 ≤ a.dp
      · rw [if_pos p2] at HE
        go_wp2_with (at_builtin; refine wpList_append_run rfl _ _ 32 rfl rfl rfl (ap_w1 _ (k : Int) true HG1.out hsz1 (by simp)) ?_)
        intro v4 w4 hg4 hb4
        have HG4 := Lib.hid hg4
        have HB4 := Lib.hid (HB1.out.trans hb4)
        clear hg4 hb4
        go_wp2_with fail
        go_ret
        exact visP (HE.out ▸ (HG4.out.ext (by simp))) HB4.out (Nat.le_refl _)
      · rw [if_neg p2] at HE
        go_wp2_with fail
        go_ret
        exact visP (HE.out ▸ (HG1.out.ext (by simp))) HB1.out (Nat.le_refl _)

end Go.Proofs.Ytoliacfpjhanlaa.T



/-! Rows of ints; bits of machine integers (out of layer 5's texts: tools/mkrusets.py). -/
namespace Go.Proofs.Ytoliacfpjhanlaa.S
open Go.RowKit
set_option maxRecDepth 8000

/-- the call's own slice in block g -/
def Gw (B : Nat) (w : World) (g n cap : Nat) (l : List Nat) : Prop := w.ownsRow B 3 1 (.slice (some ⟨g, 0, none⟩) n cap) n (l.map iv)
theorem Gw.cell {B : Nat} {w : World} {g n cap : Nat} {l : List Nat} (h : Gw B w g n cap l) (j : Nat) (hj : j < n) (hl : j < l.length) : w.cell? ⟨g, j, none⟩ = some (.int .i64 ((l.getD j 0 : Nat) : Int)) := by
  rw [World.ownsRow.cellAt h j (by omega), List.getElem?_map, List.getD_eq_getElem?_getD, List.getElem?_eq_getElem hl]; rfl
theorem has_test (n i : Nat) : has n i = n.testBit i := by
  rw [Nat.testBit_eq_decide_div_mod_eq, has_div]
  by_cases h : n / 2 ^ i % 2 = 1
  · rw [h]; rfl
  · rw [decide_eq_false h, beq_eq_false_iff_ne]; exact h
theorem i64_and (a b : Nat) (ha : a < 9223372036854775808) (hb : b < 9223372036854775808) : bits .and .i64 (a : Int) (b : Int) = ((a &&& b : Nat) : Int) := by
  have hx : a &&& b < 2 ^ 63 := Nat.and_lt_two_pow _ (by omega)
  have h1 : (BitVec.ofInt 64 (a : Int)).toNat = a := by
    rw [BitVec.ofInt_natCast, BitVec.toNat_ofNat]; exact Nat.mod_eq_of_lt (by omega)
  have h2 : (BitVec.ofInt 64 (b : Int)).toNat = b := by
    rw [BitVec.ofInt_natCast, BitVec.toNat_ofNat]; exact Nat.mod_eq_of_lt (by omega)
  show IntKind.i64.wrap ((BitVec.ofInt 64 (a : Int) &&& BitVec.ofInt 64 (b : Int)).toNat : Int) = _
  rw [BitVec.toNat_and, h1, h2, IntKind.wrap_i64]
  omega
theorem i64_or (a b : Nat) (ha : a < 9223372036854775808) (hb : b < 9223372036854775808) : bits .or .i64 (a : Int) (b : Int) = ((a ||| b : Nat) : Int) := by
  have hx : a ||| b < 2 ^ 63 := Nat.or_lt_two_pow (by omega) (by omega)
  have h1 : (BitVec.ofInt 64 (a : Int)).toNat = a := by
    rw [BitVec.ofInt_natCast, BitVec.toNat_ofNat]; exact Nat.mod_eq_of_lt (by omega)
  have h2 : (BitVec.ofInt 64 (b : Int)).toNat = b := by
    rw [BitVec.ofInt_natCast, BitVec.toNat_ofNat]; exact Nat.mod_eq_of_lt (by omega)
  show IntKind.i64.wrap ((BitVec.ofInt 64 (a : Int) ||| BitVec.ofInt 64 (b : Int)).toNat : Int) = _
  rw [BitVec.toNat_or, h1, h2, IntKind.wrap_i64]
  omega
theorem b_and (x y : Int) : bits .and .i64 x y = IntKind.i64.wrap (((x % 18446744073709551616).toNat &&& (y % 18446744073709551616).toNat : Nat) : Int) := by
  show IntKind.i64.wrap ((BitVec.ofInt 64 x &&& BitVec.ofInt 64 y).toNat : Int) = _
  rw [BitVec.toNat_and, BitVec.toNat_ofInt, BitVec.toNat_ofInt]; rfl
theorem b_andNot (x y : Int) : bits .andNot .i64 x y = IntKind.i64.wrap (((x % 18446744073709551616).toNat &&& (18446744073709551616 - 1 - (y % 18446744073709551616).toNat) : Nat) : Int) := by
  show IntKind.i64.wrap ((BitVec.ofInt 64 x &&& ~~~ BitVec.ofInt 64 y).toNat : Int) = _
  rw [BitVec.toNat_and, BitVec.toNat_not, BitVec.toNat_ofInt, BitVec.toNat_ofInt]; rfl
theorem wrap_n (x : Nat) (h : x < 9223372036854775808) : IntKind.i64.wrap (x : Int) = (x : Int) := by rw [IntKind.wrap_i64]; omega
theorem nat_mod (a : Nat) (h : a < 9223372036854775808) : ((a : Int) % 18446744073709551616).toNat = a := by omega

/-! ### sets -/
theorem i_within (a b : Nat) (ha : a < 9223372036854775808) (hb : b < 9223372036854775808) : (bits .andNot .i64 (a : Int) (b : Int) == 0) = withinB a b := by
  have hx : a &&& (18446744073709551616 - 1 - b) < 2 ^ 63 := Nat.lt_of_le_of_lt Nat.and_le_left (by omega)
  rw [b_andNot, nat_mod a ha, nat_mod b hb, wrap_n _ (by omega), Bool.eq_iff_iff]
  rw [beq_iff_eq, withinB, List.all_eq_true]
  have hbit : ∀ i, (18446744073709551616 - 1 - b).testBit i = (decide (i < 64) && !b.testBit i) := by
    intro i
    have h1 := Nat.testBit_two_pow_sub_succ (n := 64) (x := b) (by omega) i
    rw [show (2 : Nat) ^ 64 - (b + 1) = 18446744073709551616 - 1 - b by omega] at h1
    exact h1
  constructor
  · intro h i hi
    have hi2 := (mem_iff _ 63 i).1 hi
    have hz : a &&& (18446744073709551616 - 1 - b) = 0 := by omega
    have h3 := congrArg (fun x => x.testBit i) hz
    simp only [Nat.testBit_and, hbit, Nat.zero_testBit] at h3
    rw [has_test] at hi2 ⊢
    rw [hi2.2, decide_eq_true (by omega)] at h3
    simpa using h3
  · intro h
    have hz : a &&& (18446744073709551616 - 1 - b) = 0 := by
      apply Nat.eq_of_testBit_eq
      intro i
      rw [Nat.testBit_and, hbit, Nat.zero_testBit]
      cases ha2 : a.testBit i
      · rfl
      · have hi63 : i < 63 := by
          have hlt : a < 2 ^ 63 := by omega
          by_cases hi : i < 63
          · exact hi
          · have := Nat.testBit_lt_two_pow (Nat.lt_of_lt_of_le hlt (Nat.pow_le_pow_right (by omega) (show 63 ≤ i by omega)))
            rw [this] at ha2; cases ha2
        have := h i ((mem_iff _ 63 i).2 ⟨hi63, by rw [has_test]; exact ha2⟩)
        rw [has_test] at this
        rw [this]; simp
    rw [hz]; rfl
theorem i_has (n k : Nat) (hn : n < 9223372036854775808) : (bits .and .i64 ((n / 2 ^ k : Nat) : Int) 1 == 1) = has n k := by
  have hq : n / 2 ^ k ≤ n := Nat.div_le_self _ _
  have h1 := i64_and (n / 2 ^ k) 1 (by omega) (by omega)
  rw [show ((1 : Nat) : Int) = 1 from rfl, Nat.and_one_is_mod] at h1
  rw [h1, has_div, Bool.eq_iff_iff, beq_iff_eq, beq_iff_eq]; omega
end Go.Proofs.Ytoliacfpjhanlaa.S



/-! The walks of sets: Has, Within, Size, Least, Members (out of layer 5's texts: tools/mkrusets.py). -/
namespace Go.Proofs.Ytoliacfpjhanlaa.S
open Go.RowKit
set_option maxRecDepth 8000

theorem isNumber_yes (i : Int) (h0 : 0 ≤ i) (h1 : i ≤ 62) (w : World) :
    Calls Try.prog 96 #[.int .i64 i] w fun e w' => e = .returned (.bool true) ∧ w = w' := by
  go_enter Try.func96, Try.ntmps96
  go_wp2_with fail
  go_ret
  exact ⟨rfl, rfl⟩
theorem tHas_n (n k : Nat) (hn : n < 9223372036854775808) (hk : k ≤ 62) (b : Bool) (hb : Hid (has n k = b)) (w : World) :
    Calls Try.prog 84 #[.int .i64 n, .int .i64 k] w fun e w' => e = .returned (.bool b) ∧ w = w' := by
  have HN := Lib.hid (isNumber_yes (k : Int) (by omega) (by omega))
  have h1 := i_has n k hn
  rw [hb.out, show ((n / 2 ^ k : Nat) : Int) = (n : Int) / 2 ^ k by simp] at h1
  have H1 := Lib.hid h1
  clear h1
  go_enter Try.func84, Try.ntmps84
  go_wp2_with fail
  refine (HN.out _).mono ?_
  rintro e w' ⟨rfl, rfl⟩
  go_wp2_with fail
  go_ret
  exact ⟨ret_bool H1.out, rfl⟩
theorem setWithin_n (a b : Nat) (ha : a < 2 ^ 63) (hb : b < 2 ^ 63) (w : World) :
    Calls Try.prog 67 #[.int .i64 a, .int .i64 b] w fun e w' => e = .returned (.bool (withinB a b)) ∧ w = w' := by
  have h1 := i_within a b (by simpa using ha) (by simpa using hb)
  have H1 := Lib.hid h1
  clear h1
  go_enter Try.func67, Try.ntmps67
  go_wp2_with fail
  go_ret
  exact ⟨ret_bool H1.out, rfl⟩
end Go.Proofs.Ytoliacfpjhanlaa.S



