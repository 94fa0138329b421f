/-
  DERIVED. HS: a part of the base of layer 13 (made by pack.py).
-/
import Derived.Laws.StructEq
import Derived.ChangeKeysEq
import Derived.Test.YtomebalolmabnaaGreatDoorRefIn3
import Derived.Test.YtomebalolmabnaaGreatDoorHN
import Derived.Lib.AppendZeros
import Derived.Lib.Walk
import Derived.Test.YtomebalolmabnaaGreatDoorHK
import Derived.Test.YtomebalolmabnaaGreatDoorHO
import Derived.Deep.RegionHeld3
import Derived.Deep.CutBlock
import Derived.BigRegion
import Derived.Laws.BitsLemmas
import Derived.Laws.Bits64b
import Derived.Laws.Bits128
import Derived.RangeFuncBox
import Derived.RangeFuncNested
import Derived.RangeFuncBound
import Derived.RangeFuncCalls
import Derived.RangeFuncLeaves
import Derived.Shelf.Abstract
import Derived.Shelf.RegionOpen
import Derived.OwnWalkIn
import Derived.TacticsInMore
import Derived.LoopNIn
import Derived.LoopIn
import Derived.Maps.OwnSet
import Derived.DeepKeys4
import Derived.Lib.SliceRun
import Derived.Laws.AppendOwnNone
import Derived.Deep.DeepCutAuto
import Derived.Deep.Cut
import Derived.Deep.CutRange
import Derived.Maps.AppendAt
import Derived.Test.YtomebalolmabnaaGreatDoorShelf
import Derived.Lib.ItoaNum
import Derived.ProofKit
import Derived.LaidMore
import Derived.ChangeSlices
import Derived.SliceStrings
import Derived.Carry
import Derived.OpenShut
import Derived.Deep.SlicePairs
import Derived.Deep.Slices
import Derived.Deep.Fields
import Derived.Lib.SmallJoins
import Derived.Test.YtomebalolmabnaaGreatDoorHA
import Derived.WideKeyPair
import Derived.Test.YtomebalolmabnaaGreatDoorHM
import Derived.Laws.Rows
import Derived.Laws.Concat
import Derived.Deep.MidRow
/-! Plain Lean: parts of instances are valid if the whole is; a part of a part is a part. -/
namespace Go.Proofs.YtomebalolmabnaaGreatDoor.T
open Go.RowKit
set_option maxRecDepth 8000

theorem twice_pw {turned : Bool} (l : List (Int × Int)) : (∀ k, k < l.length → twiceP turned l k k = false) ↔ l.Pairwise fun q p => eqP turned q p = false := by
 rw [List.pairwise_iff_getElem]
 constructor
 ·intro h i j hi hj hij
  have := h j hj
  unfold twiceP at this
  rw [List.any_eq_false] at this
  have h2 := this l[i] (List.mem_take_iff_getElem.2 ⟨i, by omega, rfl⟩)
  rw [List.getD_eq_getElem?_getD, List.getElem?_eq_getElem hj] at h2
  simpa using h2
 ·intro h k hk
  unfold twiceP
  rw [List.any_eq_false]
  intro q hq
  obtain ⟨i, hi, rfl⟩ := List.mem_take_iff_getElem.1 hq
  have := h i k (by omega) hk (by omega)
  rw [List.getD_eq_getElem?_getD, List.getElem?_eq_getElem hk]
  simpa using this
theorem pfF_nil {n : Int} {l : List (Int × Int)} {word : ByteArray} {turned : Bool} : ∀ k, pfF n l word turned k = [] ↔ l.length ≤ 16 ∧ ∀ i, i < k → badP n (l.getD i (0, 0)) = false ∧ twiceP turned l i i = false
 | 0 => by
  unfold pfF
  constructor
  ·intro h
   refine ⟨?_, fun i hi => absurd hi (Nat.not_lt_zero _)⟩
   by_cases h2 : 16 < l.length
   ·rw [if_pos h2] at h; cases h
   ·omega
  ·intro h
   rw [if_neg (by omega)]
 | k + 1 => by
  unfold pfF
  rw [List.append_eq_nil_iff, pfF_nil k, List.map_eq_nil_iff]
  unfold pairE
  constructor
  ·rintro ⟨⟨h1, h2⟩, h3⟩
   refine ⟨h1, fun i hi => ?_⟩
   by_cases e : i = k
   ·subst e
    cases hb : badP n (l.getD i (0, 0))
    ·cases ht : twiceP turned l i i
     ·exact ⟨rfl, rfl⟩
     ·rw [hb, ht] at h3; cases h3
    ·rw [hb] at h3; cases h3
   ·exact h2 i (by omega)
  ·rintro ⟨h1, h2⟩
   refine ⟨⟨h1, fun i hi => h2 i (by omega)⟩, ?_⟩
   obtain ⟨h3, h4⟩ := h2 k (by omega)
   rw [h3, h4]
   rfl
def OkP (n : Int) (turned : Bool) (l : List (Int × Int)) : Prop := l.length ≤ 16 ∧ (∀ p ∈ l, badP n p = false) ∧ l.Pairwise fun q p => eqP turned q p = false
theorem pairF_nil {n : Int} {l : List (Int × Int)} {word : ByteArray} {turned : Bool} : pairF n l word turned = [] ↔ OkP n turned l := by
 unfold pairF OkP
 rw [pfF_nil, ← twice_pw]
 constructor
 ·rintro ⟨h1, h2⟩
  refine ⟨h1, fun p hp => ?_, fun k hk => (h2 k hk).2⟩
  obtain ⟨i, hi, rfl⟩ := List.getElem_of_mem hp
  have := (h2 i hi).1
  rwa [List.getD_eq_getElem?_getD, List.getElem?_eq_getElem hi] at this
 ·rintro ⟨h1, h2, h3⟩
  refine ⟨h1, fun i hi => ⟨?_, h3 i hi⟩⟩
  rw [List.getD_eq_getElem?_getD, List.getElem?_eq_getElem hi]
  exact h2 _ (List.getElem_mem hi)
theorem at_nil (i : Nat) (l : List Int) : atT i l = [] ↔ l = [] := by unfold atT; rw [List.map_eq_nil_iff]
theorem orF_nil {np : Nat} {dims types : Int} {l : List OrT} : ∀ k, orF np dims types l k = [] ↔ l.length ≤ 10 ∧ ∀ i, i < k → orE np dims types l i = []
 | 0 => by
  unfold orF orF0
  constructor
  ·intro h
   refine ⟨?_, fun i hi => absurd hi (Nat.not_lt_zero _)⟩
   by_cases h2 : l.length ≤ 10
   ·exact h2
   ·rw [if_neg h2] at h; cases h
  ·intro h
   rw [if_pos h.1]
 | k + 1 => by
  unfold orF
  rw [List.append_eq_nil_iff, orF_nil k, at_nil]
  constructor
  ·rintro ⟨⟨h1, h2⟩, h3⟩
   refine ⟨h1, fun i hi => ?_⟩
   by_cases e : i = k
   ·subst e; exact h3
   ·exact h2 i (by omega)
  ·rintro ⟨h1, h2⟩
   exact ⟨⟨h1, fun i hi => h2 i (by omega)⟩, h2 k (by omega)⟩
theorem orderF_nil {np : Nat} {dims types : Int} {l : List OrT} : orderF np dims types l = [] ↔ l.length ≤ 10 ∧ ∀ i, i < l.length → orE np dims types l i = [] := orF_nil l.length
theorem inF_nil {x : InT} : inF x = [] ↔ netF x.pl x.al = [] ∧ fleetF x.pl.length x.tl = [] ∧ orderF x.pl.length (dimsF x.tl : Nat) (x.tl.length : Nat) x.ol = [] ∧ OkP (x.ol.length : Nat) true x.ap ∧ OkP (x.ol.length : Nat) false x.be := by
 unfold inF undF checkF
 simp only [List.append_eq_nil_iff, List.map_eq_nil_iff, and_assoc, pairF_nil]
end Go.Proofs.YtomebalolmabnaaGreatDoor.T




/-! The walk of the landed instance's faultsOf: faults with a word before their paths, written in place. -/
namespace Go.Proofs.YtomebalolmabnaaGreatDoor.T
open Go.RowKit
set_option maxRecDepth 8000

theorem flatF_set : ∀ (l : List (Int × ByteArray)) (k : Nat) (x : Int) (s : ByteArray), k < l.length → (l.getD k (0, ⟨#[]⟩)).1 = x → (flat fE fA l).set (k * 2 + 1) (.string s) = flat fE fA (l.set k (x, s))
 | [], k, x, s, h, _ => by cases h
 | y :: l, 0, x, s, _, hx => by
  rw [List.getD_cons_zero] at hx
  subst hx
  rfl
 | y :: l, k + 1, x, s, h, hx => by
  rw [List.length_cons] at h
  rw [List.getD_cons_succ] at hx
  have := flatF_set l k x s (by omega) hx
  rw [show (k + 1) * 2 + 1 = (k * 2 + 1) + 2 by omega]
  unfold flat at this ⊢
  rw [List.set_cons_succ, List.flatMap_cons, List.flatMap_cons, ← this]
  rfl
theorem Gl.store {B : Nat} {w : World} {g cap : Nat} {l : List (Int × ByteArray)} (h : Gl B w (.slice (some ⟨g, 0, none⟩) l.length cap) l) (k : Nat) (x : Int) (s : ByteArray) (hk : k < l.length) (hx : (l.getD k (0, ⟨#[]⟩)).1 = x) :
  Gl B (w.setCell ⟨g, k * 2 + 1, none⟩ (.string s)) (.slice (some ⟨g, 0, none⟩) (l.set k (x, s)).length cap) (l.set k (x, s)) ∧ w.grownBy (w.setCell ⟨g, k * 2 + 1, none⟩ (.string s)) (some g) := by
 obtain ⟨h1, g1⟩ := World.ownsRow.stored h.own (k * 2 + 1) (.string s)
 refine ⟨?_, g1⟩
 unfold Gl Gf Gn
 rw [List.length_set, ← flatF_set l k x s hk hx]
 exact h1
end Go.Proofs.YtomebalolmabnaaGreatDoor.T




/-! An instance by value; the walk of the landed instance's Check. -/
namespace Go.Proofs.YtomebalolmabnaaGreatDoor.T
open Go.RowKit
set_option maxRecDepth 8000

structure InW (x : InT) : Prop where
  b : InB x
  pn : ∀ i, i < x.pl.length → (x.pl.getD i ⟨#[]⟩).size ≤ maxLen
  tn : ∀ i, i < x.tl.length → (x.tl.getD i ty0).name.size ≤ maxLen
  on : ∀ i, i < x.ol.length → (x.ol.getD i or0).name.size ≤ maxLen
  wf : Wfa x.al
  ia : ∀ p ∈ x.ap, In64 p
  ib : ∀ p ∈ x.be, In64 p
structure Iv where
  o0 : Option Addr
  c0 : Nat
  o1 : Option Addr
  c1 : Nat
  o2 : Option Addr
  c2 : Nat
  o3 : Option Addr
  c3 : Nat
  o4 : Option Addr
  c4 : Nat
  o5 : Option Addr
  c5 : Nat
def Iv.v (k : Iv) (x : InT) : Value := inV (.slice k.o0 x.pl.length k.c0) (.slice k.o1 x.al.length k.c1) (.slice k.o2 x.tl.length k.c2) (.slice k.o3 x.ol.length k.c3) (.slice k.o4 x.ap.length k.c4) (.slice k.o5 x.be.length k.c5)
structure Ins (w : World) (k : Iv) (x : InT) : Prop where
  h0 : Ss w (.slice k.o0 x.pl.length k.c0) x.pl
  h1 : As w (.slice k.o1 x.al.length k.c1) x.al
  h2 : Ts w (.slice k.o2 x.tl.length k.c2) x.tl
  h3 : Os w (.slice k.o3 x.ol.length k.c3) x.ol
  h4 : Ps w (.slice k.o4 x.ap.length k.c4) x.ap
  h5 : Ps w (.slice k.o5 x.be.length k.c5) x.be
theorem Ib.all {w : World} {q : Nat} {x0 x1 x2 x3 x4 x5 : Value} (h : Ib w q x0 x1 x2 x3 x4 x5) : w.cell? ⟨q, 0, none⟩ = some x0 ∧ w.cell? ⟨q, 1, none⟩ = some x1 ∧ w.cell? ⟨q, 2, none⟩ = some x2 ∧ w.cell? ⟨q, 3, none⟩ = some x3 ∧ w.cell? ⟨q, 4, none⟩ = some x4 ∧ w.cell? ⟨q, 5, none⟩ = some x5 := ⟨h.c0, h.c1, h.c2, h.c3, h.c4, h.c5⟩
end Go.Proofs.YtomebalolmabnaaGreatDoor.T




/-! The walks of slices.Equal of texts and of the landed instance's sameArc. -/
namespace Go.Proofs.YtomebalolmabnaaGreatDoor.T
open Go.RowKit
set_option maxRecDepth 8000

def Cb (w : World) (q : Nat) (cs : Array Value) (t : TypeId) : Prop := w.heap[q]? = some (.cells cs t)
theorem Cb.cell {w : World} {q : Nat} {cs : Array Value} {t : TypeId} (h : Cb w q cs t) (k : Nat) {v : Value} (hk : cs[k]? = some v) : w.cell? ⟨q, k, none⟩ = some v := by
 unfold Cb at h
 simp [World.cell?, h, hk]
theorem Cb.lt {w : World} {q : Nat} {cs : Array Value} {t : TypeId} (h : Cb w q cs t) : q < w.heap.size := by
 apply Decidable.byContradiction
 intro hc
 unfold Cb at h
 rw [Array.getElem?_eq_none (by omega)] at h; cases h
end Go.Proofs.YtomebalolmabnaaGreatDoor.T




/-! Rows of structs in general; the walks of copyOfArc, copyOfType, copyOfOrder (written by gen_incp2.py). -/
namespace Go.Proofs.YtomebalolmabnaaGreatDoor.T
open Go.RowKit
set_option maxRecDepth 8000

def setN : List Value → Nat → List Value → List Value
  | cs, _, [] => cs
  | cs, p, v :: vs => setN (cs.set p v) (p + 1) vs
theorem setN_len : ∀ (vs : List Value) (cs : List Value) (p : Nat), (setN cs p vs).length = cs.length
 | [], _, _ => rfl
 | v :: vs, cs, p => by
  show (setN (cs.set p v) (p + 1) vs).length = _
  rw [setN_len vs, List.length_set]
def setCells (w : World) (g : Nat) : Nat → List Value → World
  | _, [] => w
  | p, v :: vs => setCells (w.setCell ⟨g, p, none⟩ v) g (p + 1) vs
theorem Cb.set {w : World} {q : Nat} {cs : Array Value} {t : TypeId} (h : Cb w q cs t) (k : Nat) (v : Value) : Cb (w.setCell ⟨q, k, none⟩ v) q (cs.setIfInBounds k v) t := by
 unfold Cb at *
 simp only [World.setCell, Array.getElem?_modify, if_true, h]
 rfl
theorem Cb.cells {q : Nat} {t : TypeId} : ∀ (vs : List Value) (w : World) (p : Nat) (cs : Array Value), Cb w q cs t → Cb (setCells w q p vs) q (setN cs.toList p vs).toArray t
 | [], _, _, _, h => h
 | v :: vs, w, p, cs, h => by
  have h1 := Cb.cells vs (w.setCell ⟨q, p, none⟩ v) (p + 1) (cs.setIfInBounds p v) (h.set p v)
  rw [Array.toList_setIfInBounds] at h1
  exact h1
theorem Cb.kept {w w' : World} {q g : Nat} {cs : Array Value} {t : TypeId} (h : Cb w q cs t) (hg : w.grownBy w' (some g)) (hne : q ≠ g) : Cb w' q cs t := (hg.block q h.lt (by simpa using hne)).trans h

end Go.Proofs.YtomebalolmabnaaGreatDoor.T




/-! An instance whose memory was made since a block; the walk of the landed instance's copyOf (written by gen_incp5.py). -/
namespace Go.Proofs.YtomebalolmabnaaGreatDoor.T
open Go.RowKit
set_option maxRecDepth 8000

structure InC (x : InT) : Prop where
  pl : x.pl.length ≤ 1000
  al : x.al.length ≤ 1000
  tr : ∀ i, i < x.al.length → (x.al.getD i arc0).tr.length ≤ 1000000 ∧ (x.al.getD i arc0).sl.length ≤ 1000000
  tl : x.tl.length ≤ 1000
  cap : ∀ i, i < x.tl.length → (x.tl.getD i ty0).cap.length ≤ 1000000
  ol : x.ol.length ≤ 1000
  load : ∀ i, i < x.ol.length → (x.ol.getD i or0).load.length ≤ 1000000
  ap : x.ap.length ≤ 1000
  be : x.be.length ≤ 1000
end Go.Proofs.YtomebalolmabnaaGreatDoor.T




/-! An instance by value, opened whole, as an argument. -/
namespace Go.Proofs.YtomebalolmabnaaGreatDoor.T
open Go.Joins Go.ChangeShapes Go.WideShapes Go.ChangeAt Go.RowKit Go.Deep
set_option maxRecDepth 8000

section
variable {H : Type} {enc : TypeId × Value → H}
theorem rows_of {α : Type} [Inhabited α] (d : α) {W : World} {base : Nat} {v : Value} {y : DataW H × List MemPlace} {n : Nat} {t e : TypeId} (k : Nat) (hk : 0 < k) (hu : Tryz.prog.underlying t = some (.slice e)) (hC : Tryz.prog.cellsOf e = k) (P : List Value → α → Prop)
  (hone : ∀ (cs : List Value) (x : DataW H × List MemPlace) (m : Nat), cs.length = k → DataW.trod enc Tryz.prog W base (fun _ => true) true m e cs = some x → (∀ p ∈ x.2, p.block < W.heap.size) → ∃ q, P cs q)
  (hf : DataW.trod enc Tryz.prog W base (fun _ => true) true n t [v] = some y) (hlt : ∀ x ∈ y.2, x.block < W.heap.size) :
  ∃ (oa : Option Addr) (c : Nat) (l : List α), v = .slice oa l.length c ∧ l.length ≤ c ∧ ∀ i, i < l.length → ∃ (b o : Nat) (cs : List Value), oa = some ⟨b, o, none⟩ ∧ b < W.heap.size ∧ P cs (l.getD i d) ∧ cs.length = k ∧ ∀ j, j < k → W.cell? ⟨b, o + i * k + j, none⟩ = cs[j]? := by
 obtain ⟨y1, y2⟩ := y
 simp only at hlt
 rcases open_slice hu hf with ⟨hcs, hx⟩ | ⟨a, len, cap, m, n, D, Pl, hcs, _, hl, hm, hmm, hx, hall⟩
 ·simp only [List.cons.injEq, and_true] at hcs
  subst hcs
  exact ⟨none, 0, [], rfl, Nat.le_refl _, fun i hi => by cases hi⟩
 ·simp only [List.cons.injEq, and_true] at hcs
  subst hcs
  simp only [if_true] at hmm
  simp only [Prod.mk.injEq] at hx
  rw [hC] at hx hall
  have key : ∀ i, i < len → ∃ q : α × List Value, P q.2 q.1 ∧ q.2.length = k ∧ ∀ j, j < k → W.cell? ((a.add (i * k)).add j) = q.2[j]? := fun i hi => by
   obtain ⟨cs', hc, ht⟩ := hall i (by omega)
   obtain ⟨_, hlen, hat⟩ := World.cells?_some hc
   obtain ⟨q, hq⟩ := hone cs' _ _ hlen ht (fun p hp => hlt p (by
    rw [hx.2, List.mem_append]
    exact .inr (List.mem_flatMap.2 ⟨i, List.mem_range.2 (by omega), hp⟩)))
   exact ⟨⟨q, cs'⟩, hq, hlen, fun j hj => hat j (by omega)⟩
  haveI : Inhabited (α × List Value) := ⟨⟨d, []⟩⟩
  obtain ⟨q, hq⟩ := choose_lt key
  have hln : ((List.range len).map fun i => (q i).1).length = len := by simp
  have eg : ∀ i, i < len → ((List.range len).map fun i => (q i).1).getD i d = (q i).1 := fun i hi => by
   rw [List.getD_eq_getElem?_getD, List.getElem?_map, List.getElem?_range hi]; rfl
  refine ⟨some a, cap, (List.range len).map fun i => (q i).1, by rw [hln], by rw [hln]; exact hl, fun i hi => ?_⟩
  rw [hln] at hi
  obtain ⟨h0, h1, h2⟩ := hq i hi
  have hb := row_lt (n := i) hx.2 hlt (show i < m * k from Nat.lt_of_lt_of_le (by omega : i < m) (Nat.le_mul_of_pos_right m hk))
  obtain ⟨b, o, spot⟩ := a
  have hspot : spot = none := by
   obtain ⟨-, z1, z2⟩ := hq 0 (by omega)
   have z3 := z2 0 hk
   rw [List.getElem?_eq_getElem (by omega)] at z3
   simpa [Addr.add] using World.cell?_spot z3
  subst hspot
  rw [eg i hi]
  exact ⟨b, o, (q i).2, rfl, hb, h0, h1, fun j hj => by rw [← h2 j hj, add_pl, add_pl]⟩
theorem strs_of {W : World} {base : Nat} {v : Value} {y : DataW H × List MemPlace} {n : Nat}
  (hf : DataW.trod enc Tryz.prog W base (fun _ => true) true n 22 [v] = some y) (hlt : ∀ x ∈ y.2, x.block < W.heap.size) :
  ∃ (oa : Option Addr) (c : Nat) (l : List ByteArray), v = .slice oa l.length c ∧ Ss W (.slice oa l.length c) l ∧ ∀ i, i < l.length → (l.getD i ⟨#[]⟩).size ≤ maxLen := by
 haveI : Inhabited ByteArray := ⟨⟨#[]⟩⟩
 obtain ⟨oa, c, l, h1, -, h2⟩ := rows_of (⟨#[]⟩ : ByteArray) 1 (by decide) Tryz.underlying22 (by kernel_rfl) (fun cs s => cs = [.string s] ∧ s.size ≤ maxLen) (fun cs x m hl ht _ => by
  match cs, hl with
  | [v0], _ =>
   obtain ⟨s, e0, _, hs⟩ := DataW.trod_string Tryz.underlying9 ht
   exact ⟨s, e0, hs⟩) hf hlt
 refine ⟨oa, c, l, h1, ⟨oa, c, rfl, fun i hi => ?_⟩, fun i hi => ?_⟩
 ·obtain ⟨b, o, cs, e, hb, ⟨rfl, -⟩, -, hc⟩ := h2 i hi
  have := hc 0 (by decide)
  rw [Nat.mul_one, Nat.add_zero] at this
  exact ⟨_, e, hb, by rw [add_pl]; exact this⟩
 ·obtain ⟨b, o, cs, e, hb, ⟨-, hs⟩, -⟩ := h2 i hi
  exact hs
structure InA (x : InT) : Prop where
  pn : ∀ i, i < x.pl.length → (x.pl.getD i ⟨#[]⟩).size ≤ maxLen
  tn : ∀ i, i < x.tl.length → (x.tl.getD i ty0).name.size ≤ maxLen
  on : ∀ i, i < x.ol.length → (x.ol.getD i or0).name.size ≤ maxLen
  wf : Wfa x.al
  ia : ∀ p ∈ x.ap, In64 p
  ib : ∀ p ∈ x.be, In64 p
end
end Go.Proofs.YtomebalolmabnaaGreatDoor.T




/-! Walks by rules: a frame is a list of what is known of its slots over slots that are not known; an operation's answer is told by the kernel, by a block that is known whole, or by a callee's contract. -/
namespace Go.Proofs.YtomebalolmabnaaGreatDoor.T
open Go.RowKit
set_option maxRecDepth 8000

def lk : List (Nat × Value) → Nat → Option Value
  | [], _ => none
  | (k, v) :: l, i => bif Nat.beq k i then some v else lk l i
def slotV (g : Nat → Value) (l : List (Nat × Value)) (k : Nat) : Value := (lk l k).getD (g k)
def fr (n : Nat) (g : Nat → Value) (l : List (Nat × Value)) : Act := ⟨Array.ofFn (n := n) fun i => slotV g l i, []⟩
def ev (n : Nat) (g : Nat → Value) (l : List (Nat × Value)) : Operand → Value
  | .tmp k => bif Nat.blt k n then slotV g l k else undef
  | .const v => v
  | .global g => .pointer (some ⟨g, 0, none⟩)
  | .func f => .func (.func f) #[] #[]
theorem blt_iff {k n : Nat} : Nat.blt k n = decide (k < n) := by
 by_cases h : k < n
 ·rw [decide_eq_true h]; exact Nat.ble_eq_true_of_le h
 ·rw [decide_eq_false h]; exact Bool.eq_false_iff.2 fun e => h (Nat.le_of_ble_eq_true e)
theorem beq_iff {k n : Nat} : Nat.beq k n = decide (k = n) := by
 by_cases h : k = n
 ·subst h; rw [decide_eq_true rfl]; exact Nat.beq_refl k
 ·rw [decide_eq_false h]; exact Bool.eq_false_iff.2 fun e => h (Nat.eq_of_beq_eq_true e)
theorem fr_size (n : Nat) (g : Nat → Value) (l : List (Nat × Value)) : (fr n g l).tmps.size = n := by simp [fr]
theorem fr_get {n : Nat} {g : Nat → Value} {l : List (Nat × Value)} (k : Nat) : (fr n g l).tmps[k]? = if k < n then some (slotV g l k) else none := by
 unfold fr
 simp only [Array.getElem?_ofFn]
 by_cases h : k < n <;> simp [h]
theorem eval_fr (n : Nat) (g : Nat → Value) (l : List (Nat × Value)) : (fr n g l).eval = ev n g l := by
 funext x
 cases x with
 | tmp k =>
  show (fr n g l).tmps.getD k undef = bif Nat.blt k n then slotV g l k else undef
  rw [blt_iff, Array.getD_eq_getD_getElem?, fr_get]
  by_cases h : k < n <;> simp [h]
 | const v => rfl
 | global g => rfl
 | func f => rfl
theorem act_ext {a b : Act} (ht : ∀ k : Nat, a.tmps[k]? = b.tmps[k]?) (hd : a.defers = b.defers) : a = b := by
 obtain ⟨⟨t⟩, d⟩ := a
 obtain ⟨⟨t'⟩, d'⟩ := b
 simp only at hd
 subst hd
 congr 2
 refine List.ext_getElem? fun k => ?_
 have := ht k
 simpa using this
theorem put_fr {n : Nat} {g : Nat → Value} {l : List (Nat × Value)} {d : Nat} (hd : Nat.blt d n = true) (v : Value) : (fr n g l).put (some d) v = fr n g ((d, v) :: l) := by
 rw [blt_iff, decide_eq_true_iff] at hd
 refine act_ext (fun k => ?_) rfl
 show ((fr n g l).tmps.setIfInBounds d v)[k]? = _
 rw [Array.getElem?_setIfInBounds, fr_size, fr_get, fr_get]
 have e : slotV g ((d, v) :: l) k = if d = k then v else slotV g l k := by
  show (bif Nat.beq d k then some v else lk l k).getD (g k) = _
  rw [beq_iff]
  by_cases h : d = k <;> simp [h, slotV]
 rw [e]
 by_cases h : d = k
 ·subst h; simp [hd]
 ·simp [h]
theorem fr_less {n : Nat} {g : Nat → Value} {l l' : List (Nat × Value)} (h : l'.map (fun p => slotV g l p.1) = l'.map (·.2)) : ∃ g', fr n g l = fr n g' l' := by
 have key : ∀ (l' : List (Nat × Value)), l'.map (fun p => slotV g l p.1) = l'.map (·.2) → ∀ k, (lk l' k).getD (slotV g l k) = slotV g l k := by
  intro l'
  induction l' with
  | nil => intro _ k; rfl
  | cons p l' ih =>
   obtain ⟨j, v⟩ := p
   intro h k
   rw [List.map_cons, List.map_cons, List.cons.injEq] at h
   unfold lk
   rw [beq_iff]
   by_cases e : j = k
   ·subst e
    rw [decide_eq_true rfl]
    exact h.1.symm
   ·rw [decide_eq_false e]
    exact ih h.2 k
 refine ⟨slotV g l, act_ext (fun k => ?_) rfl⟩
 rw [fr_get, fr_get]
 by_cases hk : k < n
 ·rw [if_pos hk, if_pos hk]
  exact congrArg some (key l' h k).symm
 ·rw [if_neg hk, if_neg hk]
def yw (n : Nat) (g : Nat → Value) (l : List (Nat × Value)) (ops : Array Oper) (o : Oper) : Bool :=
  match o.guard with
  | none => true
  | some (j, want) => (match (ops[j]?).bind (·.dst) with
    | some d => (bif Nat.blt d n then (match slotV g l d with | .bool b => some b | _ => none) else none)
    | none => none) == some want
theorem wanted_fr (n : Nat) (g : Nat → Value) (l : List (Nat × Value)) (ops : Array Oper) (o : Oper) : Region.wanted o (yielded ops (fr n g l).tmps) = yw n g l ops o := by
 unfold Region.wanted yw
 cases o.guard with
 | none => rfl
 | some p =>
  obtain ⟨j, want⟩ := p
  show (yielded ops (fr n g l).tmps j == some want) = _
  congr 1
  unfold yielded
  cases (ops[j]?).bind (·.dst) with
  | none => rfl
  | some d =>
   show (match (fr n g l).tmps[d]? with | some (.bool b) => some b | _ => none) = (bif Nat.blt d n then (match slotV g l d with | .bool b => some b | _ => none) else none)
   rw [fr_get, blt_iff]
   by_cases h : d < n
   ·rw [if_pos h, decide_eq_true h]
    show (match some (slotV g l d) with | some (.bool b) => some b | _ => none) = (match slotV g l d with | .bool b => some b | _ => none)
    cases slotV g l d <;> rfl
   ·rw [if_neg h, decide_eq_false h]
    rfl

section
variable {P : Program} {ops : Array Oper} {Q : Exit → Act → World → Prop} {rest : List Oper} {o : Oper} {n : Nat} {g : Nat → Value} {l : List (Nat × Value)} {w : World}
theorem sx_step (hw : yw n g l ops o = true) (h : ∀ K : Act → World → Prop, (∀ a w, wpList P ops Q rest a w → K a w) → o.wp P (fr n g l) w K Q) : wpList P ops Q (o :: rest) (fr n g l) w :=
 wpList_step fun K hK => by rw [wanted_fr, if_pos hw]; exact h K hK
theorem sx_skip {d : Nat} (hw : yw n g l ops o = false) (hd : o.dst = some d) (hn : Nat.blt d n = true) (h : wpList P ops Q rest (fr n g ((d, undef) :: l)) w) : wpList P ops Q (o :: rest) (fr n g l) w :=
 wpList_skip (by rw [wanted_fr, hw]) (by rw [hd, put_fr hn]; exact h)
theorem sx_mem {d : Nat} (hw : yw n g l ops o = true) (hd : o.dst = some d) (hn : Nat.blt d n = true) (v : Value) (w' : World) (hr : (execOp (ev n g l) o).run P w = .ok (.value v) w') (h : wpList P ops Q rest (fr n g ((d, v) :: l)) w') : wpList P ops Q (o :: rest) (fr n g l) w :=
 sx_step hw fun K hK => by unfold Oper.wp; rw [eval_fr, hr]; refine hK _ _ ?_; rw [hd, put_fr hn]; exact h
theorem sx_val {d : Nat} (hw : yw n g l ops o = true) (hd : o.dst = some d) (hn : Nat.blt d n = true) (v : Value) (hr : (execOp (ev n g l) o).run P w = .ok (.value v) w) (h : wpList P ops Q rest (fr n g ((d, v) :: l)) w) : wpList P ops Q (o :: rest) (fr n g l) w :=
 sx_mem hw hd hn v w hr h
theorem sx_bool {d : Nat} (hw : yw n g l ops o = true) (hd : o.dst = some d) (hn : Nat.blt d n = true) (c b : Bool) (hr : (execOp (ev n g l) o).run P w = .ok (.value (.bool c)) w) (hb : c = b) (h : wpList P ops Q rest (fr n g ((d, .bool b) :: l)) w) : wpList P ops Q (o :: rest) (fr n g l) w :=
 sx_val hw hd hn _ (by rw [← hb]; exact hr) h
theorem sx_int {d : Nat} (hw : yw n g l ops o = true) (hd : o.dst = some d) (hn : Nat.blt d n = true) (k : IntKind) (c b : Int) (hr : (execOp (ev n g l) o).run P w = .ok (.value (.int k c)) w) (hb : c = b) (h : wpList P ops Q rest (fr n g ((d, .int k b) :: l)) w) : wpList P ops Q (o :: rest) (fr n g l) w :=
 sx_val hw hd hn _ (by rw [← hb]; exact hr) h
theorem sx_call {d : Nat} {f : FuncId} {args : Array Value} {R : Ending → World → Prop} (hw : yw n g l ops o = true) (hd : o.dst = some d) (hn : Nat.blt d n = true) (hc : Calls P f args w R) (hr : (execOp (ev n g l) o).run P w = .ok (.enter f args) w)
  (h : ∀ e w', R e w' → ∃ v, e = .returned v ∧ wpList P ops Q rest (fr n g ((d, v) :: l)) w') : wpList P ops Q (o :: rest) (fr n g l) w :=
 sx_step hw fun K hK => by
  unfold Oper.wp
  rw [eval_fr, hr]
  exact hc.mono fun e w' hR => by obtain ⟨v, rfl, hv⟩ := h e w' hR; refine hK _ _ ?_; rw [hd, put_fr hn]; exact hv
theorem run_load1 {p : Addr} {v : Value} (hc : w.cell? p = some v) {ty : TypeId} {d : TypeDesc} (hu : P.underlying ty = some d) (hd : (match d with | .struct _ | .array _ _ => true | _ => false) = false) :
  (Instr.loadAt ty (.pointer (some p))).run P w = .ok v w := by
 have hagg : (isAgg ty).run P w = .ok false w := by
  unfold isAgg
  rw [Sem.run_bind, run_underlying hu w]
  cases d <;> simp_all
 simp [Instr.loadAt, Instr.sureAddr, loadVar, Sem.run_bind, hagg, hc]
theorem sx_store (hw : yw n g l ops o = true) (hd : o.dst = none) {ty : TypeId} {x y : Operand} (ho : o.op = .store ty x y) {q : Nat} {t : TypeId} {old : Array Value} (hg : Cb w q old t) {cells : Array Value} (hx : ev n g l x = .pointer (some ⟨q, 0, none⟩)) (hy : ev n g l y = .agg cells)
  (hi : (P.info? ty).map (·.size) = some cells.size) (hold : old.size = cells.size) (h1 : cells.all (·.oneCell') = true)
  (h : wpList P ops Q rest (fr n g l) (w.setRow q cells)) : wpList P ops Q (o :: rest) (fr n g l) w :=
 sx_step hw fun _ hK => wp_store_row ty x y ho q cells (by rw [eval_fr]; exact hx) (by rw [eval_fr]; exact hy) t old hg hi hold h1 (hK _ _ (by rw [hd]; exact h))
theorem run_index {t e : TypeId} {b q n c k s p : Nat} (hu : P.underlying t = some (.slice e)) (hs : (P.info? e).map (·.size) = some s) (hk : k < n) (hp : q + k * s = p) :
  (Instr.indexAt t (.slice (some ⟨b, q, none⟩) n c) (.int .i64 k)).run P w = .ok (.pointer (some ⟨b, p, none⟩)) w := by
 have h1 : (0 : Int) ≤ (k : Int) ∧ (k : Int) < (n : Int) := by omega
 have h2 : (sizeOf e).run P w = .ok s w := by
  cases hi : P.info? e with
  | none => rw [hi] at hs; cases hs
  | some i => rw [hi] at hs; simp only [Option.map_some, Option.some.injEq] at hs; simp [sizeOf, typeInfo, hi, hs]
 have h3 : (⟨b, q, none⟩ : Addr).add (k * s) = ⟨b, p, none⟩ := by rw [add_pl, hp]
 unfold Instr.indexAt
 simp only [asIntOf, Sem.run_bind, Sem.run_pure, Result.andThen_ok, run_underlying hu w, if_pos h1, h2, Int.toNat_natCast, h3]
end

section
variable {P : Program} {Q : Exit → Act → World → Prop} {n : Nat} {g : Nat → Value} {l : List (Nat × Value)} {w : World} {a : Act}
theorem sx_enter {f : FuncId} {fn : Func} {c : Code} {args : Array Value} {R : Ending → World → Prop} (hf : P.funcs[f]? = some fn) (hb : fn.body = some c) (l : List (Nat × Value))
  (ha : ({ tmps := args ++ Array.replicate (fn.ntmps - args.size) undef, defers := [] } : Act) = fr fn.ntmps (fun _ => undef) l) (h : c.wp P (bodyPost P fn R) (fr fn.ntmps (fun _ => undef) l) w) : Calls P f args w R :=
 calls_of_wp hf hb (by rw [ha]; exact h)
theorem sx_norm {K : Act → World → Prop} (h : K a w) : Exit.then K Q .normal a w := h
theorem sx_true {c : Operand} {x y : Code} (hc : ev n g l c = .bool true) (h : x.wp P Q (fr n g l) w) : (Code.cond c x y).wp P Q (fr n g l) w := wp_cond_true (by rw [eval_fr]; exact hc) h
theorem sx_false {c : Operand} {x y : Code} (hc : ev n g l c = .bool false) (h : y.wp P Q (fr n g l) w) : (Code.cond c x y).wp P Q (fr n g l) w := wp_cond_false (by rw [eval_fr]; exact hc) h
theorem sx_in {id : Nat} (h : Q .normal a w) : Exit.inBlock id Q .normal a w := h
theorem sx_out {id : Nat} (h : Q .normal a w) : Exit.inBlock id Q (.exit id) a w := by show (if id = id then Q .normal a w else Q (.exit id) a w); rw [if_pos rfl]; exact h
theorem sx_by {id id' : Nat} (hne : (id' == id) = false) (h : Q (.exit id') a w) : Exit.inBlock id Q (.exit id') a w := by show (if id' = id then Q .normal a w else Q (.exit id') a w); rw [if_neg (by simpa using hne)]; exact h
theorem sx_rs {K : Act → World → Prop} (h : Q .ret a w) : Exit.then K Q .ret a w := h
theorem sx_rb {id : Nat} (h : Q .ret a w) : Exit.inBlock id Q .ret a w := h
theorem sx_es {K : Act → World → Prop} {id : Nat} (h : Q (.exit id) a w) : Exit.then K Q (.exit id) a w := h
def Again {ι : Type} (n : Nat) (L : ι → List (Nat × Value)) (R : Nat → ι → World → Prop) (m : Nat) (a : Act) (w : World) : Prop := ∃ m', m' < m ∧ ∃ i, R m' i w ∧ ∃ g', a = fr n g' (L i)
theorem sx_again {ι : Type} {L : ι → List (Nat × Value)} {R : Nat → ι → World → Prop} {m : Nat} (m' : Nat) (i : ι) (hm : m' < m) (hl : (L i).map (fun p => slotV g l p.1) = (L i).map (·.2)) (hR : R m' i w) : Again n L R m (fr n g l) w := by
 obtain ⟨g', e⟩ := fr_less (n := n) hl
 exact ⟨m', hm, i, hR, g', e⟩
theorem sx_loop {ι : Type} {c : Code} (L : ι → List (Nat × Value)) (R : Nat → ι → World → Prop) (m : Nat) (i : ι) (hl : (L i).map (fun p => slotV g l p.1) = (L i).map (·.2)) (h0 : R m i w)
  (round : ∀ m i g' w', R m i w' → c.wp P (Exit.then (Again n L R m) Q) (fr n g' (L i)) w') : (Code.loop c).wp P Q (fr n g l) w := by
 obtain ⟨g0, e0⟩ := fr_less (n := n) hl
 rw [e0]
 refine wp_loop_ghost (fun m a w => ∃ i, R m i w ∧ ∃ g', a = fr n g' (L i)) m ⟨i, h0, g0, rfl⟩ ?_
 rintro m a w ⟨i, hR, g', rfl⟩
 exact round m i g' w hR
theorem sx_cut {ι : Type} {x y : Code} (L : ι → List (Nat × Value)) (R : ι → World → Prop) (first : x.wp P (Exit.then (fun a w => ∃ i, R i w ∧ ∃ g', a = fr n g' (L i)) Q) (fr n g l) w)
  (rest : ∀ i g' w', R i w' → y.wp P Q (fr n g' (L i)) w') : (Code.seq x y).wp P Q (fr n g l) w := by
 refine wp_seq (wp_mono first ?_)
 intro e a w h
 cases e with
 | normal => obtain ⟨i, hR, g', rfl⟩ := h; exact rest i g' w hR
 | exit id => exact h
 | goto l => exact h
 | ret => exact h
 | panic ch => exact h
 | outgrown => exact h
theorem slot_get {k : Nat} (hk : Nat.blt k n = true) : (fr n g l).tmps.getD k undef = slotV g l k := by
 rw [blt_iff, decide_eq_true_iff] at hk
 rw [Array.getD_eq_getD_getElem?, fr_get, if_pos hk]
 rfl
theorem sx_ret1 {fn : Func} {R : Ending → World → Prop} {t : Nat} (v : Value) (hf : fn.results = #[.tmp t]) (hk : Nat.blt t n = true) (hv : slotV g l t = v) (hR : R (.returned v) w) : bodyPost P fn R .ret (fr n g l) w :=
 bodyPost_ret (v := v) (by rw [results_tmp hf, slot_get hk, hv]) rfl hR
theorem sx_ret2 {fn : Func} {R : Ending → World → Prop} {t u : Nat} (v v' : Value) (hf : fn.results = #[.tmp t, .tmp u]) (hk : Nat.blt t n = true) (hk' : Nat.blt u n = true) (hv : slotV g l t = v) (hv' : slotV g l u = v') (hR : R (.returned (.tuple #[v, v'])) w) : bodyPost P fn R .ret (fr n g l) w :=
 bodyPost_ret (v := .tuple #[v, v']) (by rw [results_tmp2 hf, slot_get hk, slot_get hk', hv, hv']) rfl hR
end
theorem grown_row (w : World) (g : Nat) (cs : Array Value) : w.grownBy (w.setRow g cs) (some g) := ⟨rfl, rfl, rfl, by rw [setRow_size]; exact Nat.le_refl _, fun j hj hne => setRow_other w g j cs (fun h => hne (by rw [h]))⟩
theorem Cb.row {w : World} {q : Nat} {old : Array Value} {t : TypeId} (h : Cb w q old t) (cs : Array Value) : Cb (w.setRow q cs) q cs t := setRow_heap w q old cs t (0, 0) h
theorem below_var (w : World) (o : Obj) (cs : Array Value) : Below w.heap.size w ((w.alloc o).setRow w.heap.size cs) :=
 (below_alloc w o).grown (grown_row _ _ cs) (by rw [World.size_alloc]; omega) (fun x e => by simp only [Option.some.injEq] at e; omega)

end Go.Proofs.YtomebalolmabnaaGreatDoor.T




/-! Walks by rules, regions that draw their order: an operation that any world answers alike is taken first; of the others whichever may come up comes up. -/
namespace Go.Proofs.YtomebalolmabnaaGreatDoor.T
open Go.RowKit
set_option maxRecDepth 8000

section
variable {P : Program} {ops : Array Oper} {Q : Exit → Act → World → Prop} {o : Oper} {n : Nat} {g : Nat → Value} {l : List (Nat × Value)} {w : World}
theorem ex_load {ty : TypeId} {x : Operand} (ho : o.op = .load ty x) {q : Nat} {t : TypeId} {cs : Array Value} (hg : Cb w q cs t) (hx : ev n g l x = .pointer (some ⟨q, 0, none⟩)) {dd : TypeDesc}
  (hu : P.underlying ty = some dd) (hdd : (match dd with | .struct _ | .array _ _ => true | _ => false) = true) (hi : (P.info? ty).map (·.size) = some cs.size) : (execOp (ev n g l) o).run P w = .ok (.value (.agg cs)) w := by
 unfold execOp
 simp only [ho, hx, Instr.loadAt, Instr.sureAddr, Sem.run_bind, Sem.run_pure, Result.andThen_ok, run_loadVar_row w q t ty cs (0, 0) dd hg hu hdd hi]
theorem ex_load1 {ty : TypeId} {x : Operand} (ho : o.op = .load ty x) {p : Addr} {v : Value} (hc : w.cell? p = some v) (hx : ev n g l x = .pointer (some p)) {dd : TypeDesc}
  (hu : P.underlying ty = some dd) (hdd : (match dd with | .struct _ | .array _ _ => true | _ => false) = false) : (execOp (ev n g l) o).run P w = .ok (.value v) w := by
 unfold execOp; simp only [ho, hx, run_load1 hc hu hdd, Sem.run_bind, Sem.run_pure, Result.andThen_ok]
theorem ex_index {t : TypeId} {x y : Operand} (ho : o.op = .indexAddr t x y) (b q m c k s p : Nat) (hx : ev n g l x = .slice (some ⟨b, q, none⟩) m c) (hy : ev n g l y = .int .i64 k) {e : TypeId}
  (hu : P.underlying t = some (.slice e)) (hs : (P.info? e).map (·.size) = some s) (hk : k < m) (hp : q + k * s = p) : (execOp (ev n g l) o).run P w = .ok (.value (.pointer (some ⟨b, p, none⟩))) w := by
 unfold execOp; simp only [ho, hx, hy, run_index hu hs hk hp, Sem.run_bind, Sem.run_pure, Result.andThen_ok]
theorem ex_store {ty : TypeId} {x y : Operand} (ho : o.op = .store ty x y) {q : Nat} {t : TypeId} {old : Array Value} (hg : Cb w q old t) {cells : Array Value} (hx : ev n g l x = .pointer (some ⟨q, 0, none⟩)) (hy : ev n g l y = .agg cells)
  (hi : (P.info? ty).map (·.size) = some cells.size) (hold : old.size = cells.size) (h1 : cells.all (·.oneCell') = true) : (execOp (ev n g l) o).run P w = .ok .skip (w.setRow q cells) := by
 unfold execOp
 simp only [ho, hx, hy, Instr.storeAt, Instr.sureAddr, Sem.run_bind, Sem.run_pure, Result.andThen_ok, run_storeVar_row w q t ty old cells hg hi hold h1]
theorem run_store1 {p : Addr} {v old : Value} (hc : w.cell? p = some old) (hf : w.frozen? p = false) (hv : v.oneCell' = true) {ty : TypeId} (hi : (P.info? ty).map (·.size) = some 1) (hsp : p.spot = none) :
  (Instr.storeAt ty (.pointer (some p)) v).run P w = .ok () (w.setCell p v) := by
 have hcells : v.cells = #[v] := by cases v <;> first | rfl | (simp [Value.oneCell'] at hv)
 cases hq : P.info? ty with
 | none => rw [hq] at hi; cases hi
 | some i =>
  rw [hq] at hi
  simp only [Option.map_some, Option.some.injEq] at hi
  have hadd : p.add 0 = p := by obtain ⟨b, q, s⟩ := p; simp only at hsp; subst hsp; rw [add_pl]; rfl
  simp [Instr.storeAt, Instr.sureAddr, storeVar, sizeOf, typeInfo, hq, hi, hcells, Sem.run_bind, storeCells, hadd, run_store P w p v _ hv, hc, hf]
theorem ex_store1 {ty : TypeId} {x y : Operand} (ho : o.op = .store ty x y) {b q : Nat} {v old : Value} (hc : w.cell? ⟨b, q, none⟩ = some old) (hf : w.frozen? ⟨b, q, none⟩ = false) (hv : v.oneCell' = true) (hx : ev n g l x = .pointer (some ⟨b, q, none⟩)) (hy : ev n g l y = v)
  (hi : (P.info? ty).map (·.size) = some 1) : (execOp (ev n g l) o).run P w = .ok .skip (w.setCell ⟨b, q, none⟩ v) := by
 unfold execOp; simp only [ho, hx, hy, run_store1 hc hf hv hi rfl, Sem.run_bind, Sem.run_pure, Result.andThen_ok]
theorem ex_append {s x : Operand} {t : TypeId} (ho : o.op = .call { callee := .builtin .append, args := #[s, x], argTypes := #[t, t] }) {v u v' : Value} {w' : World} (hs : ev n g l s = v) (hx : ev n g l x = u)
  (hrun : (Builtin.append_ #[t, t] o.type #[v, u]).run P w = .ok v' w') : (execOp (ev n g l) o).run P w = .ok (.value v') w' := by
 unfold execOp
 simp only [ho, resolve, invoke, builtin, Sem.run_bind, Sem.run_pure, Result.andThen_ok, List.map_toArray, List.map_cons, List.map_nil, hs, hx, hrun]
theorem sx_do {rest : List Oper} (hw : yw n g l ops o = true) (hd : o.dst = none) (w' : World) (hr : (execOp (ev n g l) o).run P w = .ok .skip w') (h : wpList P ops Q rest (fr n g l) w') : wpList P ops Q (o :: rest) (fr n g l) w :=
 sx_step hw fun K hK => by unfold Oper.wp; rw [eval_fr, hr]; refine hK _ _ ?_; rw [hd]; exact h
end

section
variable {P : Program} {ops : Array Oper} {Q : Exit → Act → World → Prop} {md : Region.Mode} {S : World → Prop} {n : Nat} {g : Nat → Value} {l : List (Nat × Value)} {w : World} {fuel : Nat} {listed : Array Bool} {i : Nat} {oi : Oper} {rs : List Nat}
theorem sd_begin {id : Nat} (S : World → Prop) (hm : P.follows .mixedOrders = true) (hS : S w.drew) (h : wpAnyH P .any ops Q S ops.size (Array.replicate ops.size false) (fr n g l) w.drew) : (Code.region id ops true).wp P Q (fr n g l) w :=
 wp_region_held_drew hm hS fun _ => h
theorem sd_take (i : Nat) {d : Nat} (hi : ops[i]? = some oi) (hs : Region.noSelect ops = true) (hf : Region.free md ops listed i = true) (hr : (Region.ready md ops listed).contains i = true) (hw : yw n g l ops oi = true) (hd : oi.dst = some d) (hn : Nat.blt d n = true) (v : Value)
  (hv : ∀ w, S w → (execOp (ev n g l) oi).run P w = .ok (.value v) w) (hQ : ∀ c a w, Q (.panic c) (a.put oi.dst v) w → Q (.panic c) a w) (hS : S w) (h : wpAnyH P md ops Q S fuel (listed.setIfInBounds i true) (fr n g ((d, v) :: l)) w) : wpAnyH P md ops Q S (fuel + 1) listed (fr n g l) w :=
 wpAnyH_take hi hs hf hr hQ (.inl ⟨by rw [wanted_fr]; exact hw, fun w hS => by rw [eval_fr]; exact hv w hS⟩) hS (by rw [hd, put_fr hn]; exact h)
theorem sd_pass (i : Nat) {d : Nat} (hi : ops[i]? = some oi) (hs : Region.noSelect ops = true) (hf : Region.free md ops listed i = true) (hr : (Region.ready md ops listed).contains i = true) (hw : yw n g l ops oi = false) (hd : oi.dst = some d) (hn : Nat.blt d n = true)
  (hQ : ∀ c a w, Q (.panic c) (a.put oi.dst undef) w → Q (.panic c) a w) (hS : S w) (h : wpAnyH P md ops Q S fuel (listed.setIfInBounds i true) (fr n g ((d, undef) :: l)) w) : wpAnyH P md ops Q S (fuel + 1) listed (fr n g l) w :=
 wpAnyH_take hi hs hf hr hQ (.inr ⟨by rw [wanted_fr]; exact hw, rfl⟩) hS (by rw [hd, put_fr hn]; exact h)
theorem sd_all (rs : List Nat) (hr : Region.ready md ops listed = rs) (hne : rs ≠ []) (h : AllReadyH P md ops Q S fuel listed (fr n g l) w rs) : wpAnyH P md ops Q S (fuel + 1) listed (fr n g l) w := wpAnyH_ready hr hne h
theorem sd_mem {d : Nat} (hi : ops[i]? = some oi) (hw : yw n g l ops oi = true) (hd : oi.dst = some d) (hn : Nat.blt d n = true) (v : Value) (w' : World) (hr : (execOp (ev n g l) oi).run P w = .ok (.value v) w') (hS : S w')
  (h : wpAnyH P md ops Q S fuel (listed.setIfInBounds i true) (fr n g ((d, v) :: l)) w') (hs : AllReadyH P md ops Q S fuel listed (fr n g l) w rs) : AllReadyH P md ops Q S fuel listed (fr n g l) w (i :: rs) :=
 AllReadyH.cons hi (fun K hK => by rw [wanted_fr, if_pos hw]; unfold Oper.wp; rw [eval_fr, hr]; refine hK.out _ _ hS (fun _ => ?_); rw [hd, put_fr hn]; exact h) hs
theorem sd_do (hi : ops[i]? = some oi) (hw : yw n g l ops oi = true) (hd : oi.dst = none) (w' : World) (hr : (execOp (ev n g l) oi).run P w = .ok .skip w') (hS : S w')
  (h : wpAnyH P md ops Q S fuel (listed.setIfInBounds i true) (fr n g l) w') (hs : AllReadyH P md ops Q S fuel listed (fr n g l) w rs) : AllReadyH P md ops Q S fuel listed (fr n g l) w (i :: rs) :=
 AllReadyH.cons hi (fun K hK => by rw [wanted_fr, if_pos hw]; unfold Oper.wp; rw [eval_fr, hr]; refine hK.out _ _ hS (fun _ => ?_); rw [hd]; exact h) hs
theorem sd_call {d : Nat} {f : FuncId} {args : Array Value} {R : Ending → World → Prop} (hi : ops[i]? = some oi) (hw : yw n g l ops oi = true) (hd : oi.dst = some d) (hn : Nat.blt d n = true) (hc : Calls P f args w R) (hr : (execOp (ev n g l) oi).run P w = .ok (.enter f args) w)
  (h : ∀ e w', R e w' → ∃ v, e = .returned v ∧ S w' ∧ wpAnyH P md ops Q S fuel (listed.setIfInBounds i true) (fr n g ((d, v) :: l)) w') (hs : AllReadyH P md ops Q S fuel listed (fr n g l) w rs) : AllReadyH P md ops Q S fuel listed (fr n g l) w (i :: rs) :=
 AllReadyH.cons hi (fun K hK => by
  rw [wanted_fr, if_pos hw]
  unfold Oper.wp
  rw [eval_fr, hr]
  exact hc.mono fun e w' hR => by obtain ⟨v, rfl, hS, hv⟩ := h e w' hR; refine hK.out _ _ hS (fun _ => ?_); rw [hd, put_fr hn]; exact hv) hs
theorem sd_done (hr : Region.ready md ops listed = []) (h : Q .normal (fr n g l) w) : wpAnyH P md ops Q S fuel listed (fr n g l) w := wpAnyH_done hr h fuel
end
end Go.Proofs.YtomebalolmabnaaGreatDoor.T




/-! Walks by rules: strings. -/
namespace Go.Proofs.YtomebalolmabnaaGreatDoor.T
open Go.RowKit
set_option maxRecDepth 8000

section
variable {P : Program} {ops : Array Oper} {Q : Exit → Act → World → Prop} {o : Oper} {rest : List Oper} {n : Nat} {g : Nat → Value} {l : List (Nat × Value)} {w : World}
theorem ex_mid {ty : TypeId} {x : Operand} (ho : o.op = .load ty x) {b q : Nat} {all : Array Value} {t : TypeId} (hg : Cb w b all t) (cs : List Value) (hx : ev n g l x = .pointer (some ⟨b, q, none⟩)) {dd : TypeDesc}
  (hu : P.underlying ty = some dd) (hdd : dd.isRow = true) (hi : (P.info? ty).map (·.size) = some cs.length) (hc : (all.toList.drop q).take cs.length = cs) : (execOp (ev n g l) o).run P w = .ok (.value (.agg cs.toArray)) w := by
 have hr : w.rangeAt b q cs := fun j v hv => by
  have hj : j < cs.length := (List.getElem?_eq_some_iff.1 hv).1
  rw [← hc, List.getElem?_take, if_pos hj, List.getElem?_drop, Array.getElem?_toList] at hv
  exact Cb.cell hg (q + j) hv
 unfold execOp
 simp only [ho, hx, run_loadAt_mid w b q ty cs dd hr hu hdd hi, Sem.run_bind, Sem.run_pure, Result.andThen_ok]
end
end Go.Proofs.YtomebalolmabnaaGreatDoor.T




