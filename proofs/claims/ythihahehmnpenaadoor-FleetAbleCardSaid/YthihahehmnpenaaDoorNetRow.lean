/-
  DERIVED. Slices of texts and of arcs.
-/
import Derived.Test.YthihahehmnpenaaDoorNetPure
import Derived.Test.YthihahehmnpenaaDoorLRow
import Derived.Maps.AppendAt
namespace Go.Proofs.YthihahehmnpenaaDoor.T
open Go.RowKit
set_option maxRecDepth 8000

/-- v is a slice of the texts l -/
def Ss (w : World) (v : Value) (l : List ByteArray) : Prop :=
  ∃ (oa : Option Addr) (c : Nat), v = .slice oa l.length c ∧ ∀ i, i < l.length → ∃ a, oa = some a ∧ a.block < w.heap.size ∧ w.cell? (a.add i) = some (.string (l.getD i ⟨#[]⟩))
theorem Ss.below {w w' : World} {v : Value} {l : List ByteArray} (h : Ss w v l) (hb : Below w.heap.size w w') : Ss w' v l := by
  obtain ⟨oa, c, hv, h⟩ := h
  refine ⟨oa, c, hv, fun i hi => ?_⟩
  obtain ⟨a, ha, hl, hc⟩ := h i hi
  exact ⟨a, ha, Nat.lt_of_lt_of_le hl hb.size, (hb.cell (p := a.add i) (by rw [add_block]; exact hl)).trans hc⟩
theorem Ss.nil (w : World) : Ss w (.slice none 0 0) [] := ⟨none, 0, rfl, fun i hi => by cases hi⟩

/-- the cells of an arc at an address -/
def Ac (w : World) (b o : Nat) (a : ArcT) (vt vs : Value) : Prop :=
  w.cell? ⟨b, o, none⟩ = some (.int .i64 a.fr) ∧ w.cell? ⟨b, o + 1, none⟩ = some (.int .i64 a.to) ∧ w.cell? ⟨b, o + 2, none⟩ = some (.int .i64 a.prof) ∧
    w.cell? ⟨b, o + 3, none⟩ = some (.int .i64 a.miles) ∧ w.cell? ⟨b, o + 4, none⟩ = some vt ∧ w.cell? ⟨b, o + 5, none⟩ = some vs
theorem Ac.below {w w' : World} {b o : Nat} {a : ArcT} {vt vs : Value} (h : Ac w b o a vt vs) (hl : b < w.heap.size) (hb : Below w.heap.size w w') : Ac w' b o a vt vs := by
  obtain ⟨h0, h1, h2, h3, h4, h5⟩ := h
  exact ⟨(hb.cell (p := ⟨b, _, none⟩) hl).trans h0, (hb.cell (p := ⟨b, _, none⟩) hl).trans h1, (hb.cell (p := ⟨b, _, none⟩) hl).trans h2, (hb.cell (p := ⟨b, _, none⟩) hl).trans h3, (hb.cell (p := ⟨b, _, none⟩) hl).trans h4, (hb.cell (p := ⟨b, _, none⟩) hl).trans h5⟩
/-- v is a slice of the arcs l -/
def As (w : World) (v : Value) (l : List ArcT) : Prop :=
  ∃ (oa : Option Addr) (c : Nat), v = .slice oa l.length c ∧ ∀ i, i < l.length → ∃ (b o : Nat) (vt vs : Value), oa = some ⟨b, o, none⟩ ∧ b < w.heap.size ∧
    Ac w b (o + i * 6) (l.getD i arc0) vt vs ∧ Ps w vt (l.getD i arc0).tr ∧ Ps w vs (l.getD i arc0).sl
theorem As.below {w w' : World} {v : Value} {l : List ArcT} (h : As w v l) (hb : Below w.heap.size w w') : As w' v l := by
  obtain ⟨oa, c, hv, h⟩ := h
  refine ⟨oa, c, hv, fun i hi => ?_⟩
  obtain ⟨b, o, vt, vs, ha, hl, hc, ht, hs⟩ := h i hi
  exact ⟨b, o, vt, vs, ha, Nat.lt_of_lt_of_le hl hb.size, hc.below hl hb, ht.below hb, hs.below hb⟩
theorem As.nil (w : World) : As w (.slice none 0 0) [] := ⟨none, 0, rfl, fun i hi => by cases hi⟩

/-- block n holds a network: the texts and the arcs -/
def Nb (w : World) (n : Nat) (vp va : Value) : Prop := w.heap[n]? = some (.cells #[vp, va] 25)
section
variable {w w' : World} {n : Nat} {vp va : Value}
theorem Nb.c0 (h : Nb w n vp va) : w.cell? ⟨n, 0, none⟩ = some vp := by unfold Nb at h; simp [World.cell?, h]
theorem Nb.c1 (h : Nb w n vp va) : w.cell? ⟨n, 1, none⟩ = some va := by unfold Nb at h; simp [World.cell?, h]
theorem Nb.lt (h : Nb w n vp va) : n < w.heap.size := by
  apply Decidable.byContradiction
  intro hc
  unfold Nb at h
  rw [Array.getElem?_eq_none (by omega)] at h; cases h
theorem Nb.below (h : Nb w n vp va) (hb : Below w.heap.size w w') : Nb w' n vp va := (hb.block n h.lt).trans h
theorem Nb.made (w : World) (vp va : Value) : Nb (w.alloc (.cells #[vp, va] 25)) w.heap.size vp va := by
  show (w.heap.push _)[w.heap.size]? = _
  simp
end

end Go.Proofs.YthihahehmnpenaaDoor.T

