/-
  DERIVED. HE: a part of the base of layer 13 (made by pack.py).
-/
import Derived.Maps.AppendAt
import Derived.Test.YtomebalolmabnaaDoorHB
import Derived.Test.YtomebalolmabnaaDoorHC
import Derived.Laws.AppendOwnNone
import Derived.Deep.DeepCutAuto
import Derived.Deep.Cut
import Derived.Deep.CutRange
/-! How many points a list of arcs has. -/
namespace Go.Proofs.YtomebalolmabnaaDoor.T

def wtA (l : List ArcT) : Nat := (l.map fun a => a.tr.length + a.sl.length).sum
theorem wt_le {l : List ArcT} {i : Nat} (h : i < l.length) : (l.getD i arc0).tr.length + (l.getD i arc0).sl.length ≤ wtA l := by
 unfold wtA
 induction l generalizing i with
 | nil => cases h
 | cons a l ih =>
  rw [List.map_cons, List.sum_cons]
  cases i with
  | zero => simp
  | succ i =>
   have := ih (i := i) (by simpa using h)
   simp only [List.getD_cons_succ]
   omega
theorem wt_take {l : List ArcT} {k : Nat} (h : k < l.length) : wtA (l.take (k + 1)) = wtA (l.take k) + ((l.getD k arc0).tr.length + (l.getD k arc0).sl.length) := by
 unfold wtA
 rw [take_more (d := arc0) h, List.map_append, List.sum_append]
 simp
theorem wt_take_le (l : List ArcT) (k : Nat) : wtA (l.take k) ≤ wtA l := by
 unfold wtA
 conv => rhs; rw [← List.take_append_drop k l]
 rw [List.map_append, List.sum_append]
 omega

end Go.Proofs.YtomebalolmabnaaDoor.T



/-! The walks of the specification's tick, Place, Arrive; the laws' tick. -/
namespace Go.Proofs.YtomebalolmabnaaDoor.T
open Go.RowKit
set_option maxRecDepth 8000

theorem refTick_n (t : Int) (w : World) : Calls Tryd.prog 77 #[.int .i64 t] w fun e w' => e = .returned (.bool (tickB t)) ∧ w = w' := by
 by_cases h1 : 0 ≤ t
 ·have HR : Hid (decide (t ≤ 4096) = tickB t) := by show _ = _; unfold tickB; rw [decide_eq_true h1, Bool.true_and]
  generalize tickB t = r at *
  go_enter Tryd.func77, Tryd.ntmps77
  go_wp2_with fail
  go_ret
  exact ⟨ret_bool HR.out, rfl⟩
 ·have HR : Hid (false = tickB t) := by show _ = _; unfold tickB; rw [decide_eq_false h1, Bool.false_and]
  have h2 : t < 0 := by omega
  generalize tickB t = r at *
  go_enter Tryd.func77, Tryd.ntmps77
  go_wp2_with fail
  go_ret
  exact ⟨ret_bool HR.out, rfl⟩
theorem slowB_tick {l : List (Int × Int)} {k : Nat} (h : slowB l k = true) : (0 ≤ (l.getD k (0, 0)).1 ∧ (l.getD k (0, 0)).1 ≤ 4096) ∧ 0 ≤ (l.getD k (0, 0)).2 ∧ (l.getD k (0, 0)).2 ≤ 4096 := by
 unfold slowB at h
 rw [Bool.and_eq_true, Bool.and_eq_true] at h
 obtain ⟨⟨h1, h2⟩, -⟩ := h
 unfold tickB at h1 h2
 simp only [Bool.and_eq_true, decide_eq_true_iff] at h1 h2
 exact ⟨h1, h2⟩
theorem slowS_step {l : List (Int × Int)} {t : Int} {k : Nat} (hk : k < l.length) : slowS (l.drop k) t = (if (l.getD k (0, 0)).1 ≤ t then (l.getD k (0, 0)).2 else 0) + slowS (l.drop (k + 1)) t := by
 rw [drop_more (d := (0, 0)) hk]; rfl
theorem slowS_le (t : Int) : ∀ (l : List (Int × Int)), (∀ k, k < l.length → 0 ≤ (l.getD k (0, 0)).2 ∧ (l.getD k (0, 0)).2 ≤ 4096) → 0 ≤ slowS l t ∧ slowS l t ≤ 4096 * l.length
 | [], _ => by simp [slowS]
 | p :: l, h => by
  have h0 := h 0 (by simp)
  have h1 := slowS_le t l (fun k hk => by have := h (k + 1) (by simpa using hk); simpa using this)
  simp only [List.getD_cons_zero] at h0
  show 0 ≤ (if p.1 ≤ t then p.2 else 0) + slowS l t ∧ (if p.1 ≤ t then p.2 else 0) + slowS l t ≤ _
  rw [List.length_cons]
  split <;> omega
end Go.Proofs.YtomebalolmabnaaDoor.T



/-! The walks of the specification's Find and Go. -/
namespace Go.Proofs.YtomebalolmabnaaDoor.T
open Go.RowKit
set_option maxRecDepth 8000

def Ab (w : World) (n : Nat) (x0 x1 x2 x3 x4 x5 : Value) : Prop := w.heap[n]? = some (.cells #[x0, x1, x2, x3, x4, x5] 89)
section
variable {w w' : World} {n : Nat} {x0 x1 x2 x3 x4 x5 : Value}
theorem Ab.c0 (h : Ab w n x0 x1 x2 x3 x4 x5) : w.cell? ⟨n, 0, none⟩ = some x0 := by unfold Ab at h; simp [World.cell?, h]
theorem Ab.c1 (h : Ab w n x0 x1 x2 x3 x4 x5) : w.cell? ⟨n, 1, none⟩ = some x1 := by unfold Ab at h; simp [World.cell?, h]
theorem Ab.c2 (h : Ab w n x0 x1 x2 x3 x4 x5) : w.cell? ⟨n, 2, none⟩ = some x2 := by unfold Ab at h; simp [World.cell?, h]
theorem Ab.c3 (h : Ab w n x0 x1 x2 x3 x4 x5) : w.cell? ⟨n, 3, none⟩ = some x3 := by unfold Ab at h; simp [World.cell?, h]
theorem Ab.c4 (h : Ab w n x0 x1 x2 x3 x4 x5) : w.cell? ⟨n, 4, none⟩ = some x4 := by unfold Ab at h; simp [World.cell?, h]
theorem Ab.c5 (h : Ab w n x0 x1 x2 x3 x4 x5) : w.cell? ⟨n, 5, none⟩ = some x5 := by unfold Ab at h; simp [World.cell?, h]
theorem Ab.f (h : Ab w n x0 x1 x2 x3 x4 x5) (k : Nat) : w.frozen? ⟨n, k, none⟩ = false := by unfold Ab at h; simp [World.frozen?, h]
theorem Ab.lt (h : Ab w n x0 x1 x2 x3 x4 x5) : n < w.heap.size := by
 apply Decidable.byContradiction
 intro hc
 unfold Ab at h
 rw [Array.getElem?_eq_none (by omega)] at h; cases h
theorem Ab.below (h : Ab w n x0 x1 x2 x3 x4 x5) (hb : Below w.heap.size w w') : Ab w' n x0 x1 x2 x3 x4 x5 := (hb.block n h.lt).trans h
theorem Ab.alloc (h : Ab w n x0 x1 x2 x3 x4 x5) (o : Obj) : Ab (w.alloc o) n x0 x1 x2 x3 x4 x5 := (Below.heap_alloc w o n h.lt).trans h
theorem Ab.made (w : World) (x0 x1 x2 x3 x4 x5 : Value) : Ab (w.alloc (.cells #[x0, x1, x2, x3, x4, x5] 89)) w.heap.size x0 x1 x2 x3 x4 x5 := by
 show (w.heap.push _)[w.heap.size]? = _
 simp
theorem Ab.put (h : Ab w n x0 x1 x2 x3 x4 x5) (y0 y1 y2 y3 y4 y5 : Value) :
  Ab ((((((w.setCell ⟨n, 0, none⟩ y0).setCell ⟨n, 1, none⟩ y1).setCell ⟨n, 2, none⟩ y2).setCell ⟨n, 3, none⟩ y3).setCell ⟨n, 4, none⟩ y4).setCell ⟨n, 5, none⟩ y5) n y0 y1 y2 y3 y4 y5 := by
 unfold Ab at *; simp [World.setCell, Array.getElem?_modify, h]
end
def hitB (pr f t : Int) (a : ArcT) : Bool := decide (a.fr = f) && decide (a.to = t) && decide (a.prof = pr)
def findA (l : List ArcT) (pr f t : Int) : Option ArcT := l.find? (hitB pr f t)
theorem hit_yes {pr f t : Int} {a : ArcT} (h1 : a.fr = f) (h2 : a.to = t) (h3 : a.prof = pr) : hitB pr f t a = true := by unfold hitB; rw [decide_eq_true h1, decide_eq_true h2, decide_eq_true h3]; rfl
theorem hit_no {pr f t : Int} {a : ArcT} (h : a.fr ≠ f ∨ a.to ≠ t ∨ a.prof ≠ pr) : hitB pr f t a = false := by
 cases e : hitB pr f t a
 ·rfl
 ·unfold hitB at e
  simp only [Bool.and_eq_true, decide_eq_true_iff] at e
  obtain ⟨⟨h1, h2⟩, h3⟩ := e
  rcases h with h | h | h
  ·exact absurd h1 h
  ·exact absurd h2 h
  ·exact absurd h3 h
def v0 : Value := .int .i64 0
theorem find_mem {l : List ArcT} {pr f t : Int} {a : ArcT} (h : findA l pr f t = some a) : a ∈ l ∧ a.fr = f ∧ a.to = t ∧ a.prof = pr := by
 unfold findA at h
 have h1 := List.mem_of_find?_eq_some h
 have h2 := List.find?_some h
 unfold hitB at h2
 simp only [Bool.and_eq_true, decide_eq_true_iff] at h2
 exact ⟨h1, h2.1.1, h2.1.2, h2.2⟩
theorem NetOk.mem {pl : List ByteArray} {l : List ArcT} (h : NetOk pl l) {a : ArcT} (ha : a ∈ l) : ArcOk pl.length a := by
 obtain ⟨i, hi, rfl⟩ := List.mem_iff_getElem.1 ha
 have := h.arcs i hi
 rwa [List.getD_eq_getElem?_getD, List.getElem?_eq_getElem hi] at this

def goV (np : Nat) (l : List ArcT) (pr f t d : Int) : Int × Int × Int :=
  if inB np f && inB np t then (if f = t then (d, 0, 0) else match findA l pr f t with | some a => (arrA a d, a.miles, 0) | none => (0, 0, 12)) else (0, 0, 11)
def GoP (x : Int × Int × Int) (w : World) (e : Ending) (w' : World) : Prop := e = .returned (.tuple #[.int .i64 x.1, .int .i64 x.2.1, .int .i64 x.2.2]) ∧ Below w.heap.size w w'

theorem ret_three {a b c : Int} {r : Int × Int × Int} (h : (a, b, c) = r) : Ending.returned (.tuple #[.int .i64 a, .int .i64 b, .int .i64 c]) = .returned (.tuple #[.int .i64 r.1, .int .i64 r.2.1, .int .i64 r.2.2]) := by rw [← h]

end Go.Proofs.YtomebalolmabnaaDoor.T



