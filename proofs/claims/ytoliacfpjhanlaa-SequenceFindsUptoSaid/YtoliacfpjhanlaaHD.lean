/-
  DERIVED. HD: a part of the base of layer 13 (made by pack.py).
-/
import Derived.Maps.AppendAt
import Derived.Test.YtoliacfpjhanlaaHA
import Derived.Test.YtoliacfpjhanlaaHB
import Derived.Deep.DeepCutAuto
import Derived.Deep.Cut
import Derived.Deep.CutRange
import Derived.Laws.AppendOwnNone
import Derived.Test.YtoliacfpjhanlaaShelf
/-! How many points a list of arcs has. -/
namespace Go.Proofs.Ytoliacfpjhanlaa.T

/-- how many points the arcs have -/
def wtA (l : List ArcT) : Nat := (l.map fun a => a.tr.length + a.sl.length).sum
theorem wt_le {l : List ArcT} {i : Nat} (h : i < l.length) : (l.getD i arc0).tr.length + (l.getD i arc0).sl.length ≤ wtA l := by
  unfold wtA
  induction l generalizing i with
  | nil => cases h
  | cons a l ih =>
    rw [List.map_cons, List.sum_cons]
    cases i with
    | zero => simp
    | succ i =>
      have := ih (i := i) (by simpa using h)
      simp only [List.getD_cons_succ]
      omega
theorem wt_take {l : List ArcT} {k : Nat} (h : k < l.length) : wtA (l.take (k + 1)) = wtA (l.take k) + ((l.getD k arc0).tr.length + (l.getD k arc0).sl.length) := by
  unfold wtA
  rw [take_more (d := arc0) h, List.map_append, List.sum_append]
  simp
theorem wt_take_le (l : List ArcT) (k : Nat) : wtA (l.take k) ≤ wtA l := by
  unfold wtA
  conv => rhs; rw [← List.take_append_drop k l]
  rw [List.map_append, List.sum_append]
  omega

end Go.Proofs.Ytoliacfpjhanlaa.T



/-! The walks of the specification's tick, Place, Arrive; the laws' tick. -/
namespace Go.Proofs.Ytoliacfpjhanlaa.T
open Go.RowKit
set_option maxRecDepth 8000

theorem refTick_n (t : Int) (w : World) : Calls Try.prog 89 #[.int .i64 t] w fun e w' => e = .returned (.bool (tickB t)) ∧ w = w' := by
  by_cases h1 : 0 ≤ t
  · have HR : Hid (decide (t ≤ 4096) = tickB t) := by show _ = _; unfold tickB; rw [decide_eq_true h1, Bool.true_and]
    generalize tickB t = r at *
    go_enter Try.func89, Try.ntmps89
    go_wp2_with fail
    go_ret
    exact ⟨ret_bool HR.out, rfl⟩
  · have HR : Hid (false = tickB t) := by show _ = _; unfold tickB; rw [decide_eq_false h1, Bool.false_and]
    have h2 : t < 0 := by omega
    generalize tickB t = r at *
    go_enter Try.func89, Try.ntmps89
    go_wp2_with fail
    go_ret
    exact ⟨ret_bool HR.out, rfl⟩
end Go.Proofs.Ytoliacfpjhanlaa.T



/-! The walks of the specification's Find and Go. -/
namespace Go.Proofs.Ytoliacfpjhanlaa.T
open Go.RowKit
set_option maxRecDepth 8000

/-- block n holds an arc's six cells -/
def Ab (w : World) (n : Nat) (x0 x1 x2 x3 x4 x5 : Value) : Prop := w.heap[n]? = some (.cells #[x0, x1, x2, x3, x4, x5] 123)
section
variable {w w' : World} {n : Nat} {x0 x1 x2 x3 x4 x5 : Value}
theorem Ab.c0 (h : Ab w n x0 x1 x2 x3 x4 x5) : w.cell? ⟨n, 0, none⟩ = some x0 := by unfold Ab at h; simp [World.cell?, h]
theorem Ab.c1 (h : Ab w n x0 x1 x2 x3 x4 x5) : w.cell? ⟨n, 1, none⟩ = some x1 := by unfold Ab at h; simp [World.cell?, h]
theorem Ab.c2 (h : Ab w n x0 x1 x2 x3 x4 x5) : w.cell? ⟨n, 2, none⟩ = some x2 := by unfold Ab at h; simp [World.cell?, h]
theorem Ab.c3 (h : Ab w n x0 x1 x2 x3 x4 x5) : w.cell? ⟨n, 3, none⟩ = some x3 := by unfold Ab at h; simp [World.cell?, h]
theorem Ab.c4 (h : Ab w n x0 x1 x2 x3 x4 x5) : w.cell? ⟨n, 4, none⟩ = some x4 := by unfold Ab at h; simp [World.cell?, h]
theorem Ab.c5 (h : Ab w n x0 x1 x2 x3 x4 x5) : w.cell? ⟨n, 5, none⟩ = some x5 := by unfold Ab at h; simp [World.cell?, h]
theorem Ab.lt (h : Ab w n x0 x1 x2 x3 x4 x5) : n < w.heap.size := by
  apply Decidable.byContradiction
  intro hc
  unfold Ab at h
  rw [Array.getElem?_eq_none (by omega)] at h; cases h
theorem Ab.below (h : Ab w n x0 x1 x2 x3 x4 x5) (hb : Below w.heap.size w w') : Ab w' n x0 x1 x2 x3 x4 x5 := (hb.block n h.lt).trans h
theorem Ab.alloc (h : Ab w n x0 x1 x2 x3 x4 x5) (o : Obj) : Ab (w.alloc o) n x0 x1 x2 x3 x4 x5 := (Below.heap_alloc w o n h.lt).trans h
theorem Ab.made (w : World) (x0 x1 x2 x3 x4 x5 : Value) : Ab (w.alloc (.cells #[x0, x1, x2, x3, x4, x5] 123)) w.heap.size x0 x1 x2 x3 x4 x5 := by
  show (w.heap.push _)[w.heap.size]? = _
  simp
theorem Ab.put (h : Ab w n x0 x1 x2 x3 x4 x5) (y0 y1 y2 y3 y4 y5 : Value) :
    Ab ((((((w.setCell ⟨n, 0, none⟩ y0).setCell ⟨n, 1, none⟩ y1).setCell ⟨n, 2, none⟩ y2).setCell ⟨n, 3, none⟩ y3).setCell ⟨n, 4, none⟩ y4).setCell ⟨n, 5, none⟩ y5) n y0 y1 y2 y3 y4 y5 := by
  unfold Ab at *; simp [World.setCell, Array.getElem?_modify, h]
end
def v0 : Value := .int .i64 0
end Go.Proofs.Ytoliacfpjhanlaa.T



