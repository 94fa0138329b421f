/-
  DERIVED. Stops in memory, and what the functions of window answer, in plain numbers.
-/
import Derived.Test.YtalfonpkefhlmaaDoorRows
import Derived.WalkKit
import Derived.WalkSpells
import Derived.WalkLawsBesides
import Derived.WalkMore
import Derived.Below
import Derived.OwnWalk
import Derived.IntWalk
import Derived.Laws.OwnMore
import Derived.Deep.Draws
import Derived.Deep.QuietTactic
import Derived.Deep.RegionLaw
import Derived.Deep.RegionWith
import Derived.BigQuiet
import Derived.Lib.Hide
import Derived.WalkSmall
import Derived.Deep.Onto
import Derived.Deep.LoopGhost
import Derived.Handy
namespace Go.Proofs.YtalfonpkefhlmaaDoor.V
open Go.RowKit
set_option maxRecDepth 8000

theorem over {w W w1 : World} (h : Below w.heap.size w W) (b : Below W.heap.size W w1) : Below w.heap.size w w1 := h.trans (b.mono h.size)
theorem below_alloc (w : World) (x : Obj) : Below w.heap.size w (w.alloc x) := by go_grown
theorem ret_bool {a b : Bool} (h : a = b) : Ending.returned (.bool a) = .returned (.bool b) := by rw [h]
theorem ret_int {k : IntKind} {a b : Int} (h : a = b) : Ending.returned (.int k a) = .returned (.int k b) := by rw [h]
theorem ret_ints {a b c d : Int} (h : (a, b) = (c, d)) : Ending.returned (.tuple #[.int .i64 a, .int .i64 b]) = .returned (.tuple #[.int .i64 c, .int .i64 d]) := by
  obtain ⟨rfl, rfl⟩ := Prod.mk.inj h; rfl
theorem ret_intb {a b : Int} {c d : Bool} (h : (a, c) = (b, d)) : Ending.returned (.tuple #[.int .i64 a, .bool c]) = .returned (.tuple #[.int .i64 b, .bool d]) := by
  obtain ⟨rfl, rfl⟩ := Prod.mk.inj h; rfl
theorem ne_eqI {a b : Int} (h : a ≠ b) : ((a == b) = false) := by
  rw [beq_eq_false_iff_ne]; exact h
theorem ne_neI {a b : Int} (h : a ≠ b) : ((a != b) = true) := by
  rw [bne_iff_ne]; exact h

/-- block n holds a stop -/
def Bs (w : World) (n : Nat) (p o c s : Int) : Prop := w.heap[n]? = some (.cells #[.int .i64 p, .int .i64 o, .int .i64 c, .int .i64 s] 30)
section
variable {w w' : World} {n : Nat} {p o c s : Int}
theorem Bs.c0 (h : Bs w n p o c s) : w.cell? ⟨n, 0, none⟩ = some (.int .i64 p) := by unfold Bs at h; simp [World.cell?, h]
theorem Bs.c1 (h : Bs w n p o c s) : w.cell? ⟨n, 1, none⟩ = some (.int .i64 o) := by unfold Bs at h; simp [World.cell?, h]
theorem Bs.c2 (h : Bs w n p o c s) : w.cell? ⟨n, 2, none⟩ = some (.int .i64 c) := by unfold Bs at h; simp [World.cell?, h]
theorem Bs.c3 (h : Bs w n p o c s) : w.cell? ⟨n, 3, none⟩ = some (.int .i64 s) := by unfold Bs at h; simp [World.cell?, h]
theorem Bs.f0 (h : Bs w n p o c s) : w.frozen? ⟨n, 0, none⟩ = false := by unfold Bs at h; simp [World.frozen?, h]
theorem Bs.f1 (h : Bs w n p o c s) : w.frozen? ⟨n, 1, none⟩ = false := by unfold Bs at h; simp [World.frozen?, h]
theorem Bs.f2 (h : Bs w n p o c s) : w.frozen? ⟨n, 2, none⟩ = false := by unfold Bs at h; simp [World.frozen?, h]
theorem Bs.f3 (h : Bs w n p o c s) : w.frozen? ⟨n, 3, none⟩ = false := by unfold Bs at h; simp [World.frozen?, h]
theorem Bs.lt (h : Bs w n p o c s) : n < w.heap.size := by
  apply Decidable.byContradiction
  intro hc
  unfold Bs at h
  rw [Array.getElem?_eq_none (by omega)] at h; cases h
theorem Bs.below (h : Bs w n p o c s) (hb : Below w.heap.size w w') : Bs w' n p o c s := (hb.block n h.lt).trans h
theorem Bs.alloc (h : Bs w n p o c s) (x : Obj) : Bs (w.alloc x) n p o c s := (Below.heap_alloc w x n h.lt).trans h
theorem Bs.made (w : World) (p o c s : Int) : Bs (w.alloc (.cells #[.int .i64 p, .int .i64 o, .int .i64 c, .int .i64 s] 30)) w.heap.size p o c s := by
  show (w.heap.push _)[w.heap.size]? = _
  simp
theorem Bs.put (h : Bs w n p o c s) (p' o' c' s' : Int) : Bs ((((w.setCell ⟨n, 0, none⟩ (.int .i64 p')).setCell ⟨n, 1, none⟩ (.int .i64 o')).setCell ⟨n, 2, none⟩ (.int .i64 c')).setCell ⟨n, 3, none⟩ (.int .i64 s')) n p' o' c' s' := by
  unfold Bs at *; simp [World.setCell, Array.getElem?_modify, h]
theorem Bs.put1 (h : Bs w n p o c s) (o' : Int) : Bs (w.setCell ⟨n, 1, none⟩ (.int .i64 o')) n p o' c s := by
  unfold Bs at *; simp [World.setCell, Array.getElem?_modify, h]
theorem Bs.put2 (h : Bs w n p o c s) (c' : Int) : Bs (w.setCell ⟨n, 2, none⟩ (.int .i64 c')) n p o c' s := by
  unfold Bs at *; simp [World.setCell, Array.getElem?_modify, h]
theorem Bs.far (h : Bs w n p o c s) {q : Addr} (hp : n ≠ q.block) (u : Value) : Bs (w.setCell q u) n p o c s := (Below.heap_setCell w q u n hp).trans h
end

/-! ### what is answered -/
def tickB (t : Int) : Bool := decide (0 ≤ t) && decide (t ≤ 4096)
theorem tick_iff (t : Int) : tickB t = true ↔ 0 ≤ t ∧ t ≤ 4096 := by unfold tickB; simp
theorem tick_no {t : Int} (h : tickB t = false) : t < 0 ∨ 4096 < t := by
  unfold tickB at h
  rw [Bool.and_eq_false_iff, decide_eq_false_iff_not, decide_eq_false_iff_not] at h
  omega
/-- a stop that is none -/
def noneB (p o c s : Int) : Bool := decide (p = -1 ∧ o = 0 ∧ c = 0 ∧ s = 0)
/-- a stop at a place -/
def atB (p o c s : Int) : Bool := decide (0 ≤ p ∧ 0 ≤ o ∧ o ≤ c ∧ c ≤ 4096 ∧ 0 ≤ s ∧ s ≤ 4096)
def chk (p o c s : Int) : Int := if noneB p o c s || atB p o c s then 0 else 2
theorem at_iff (p o c s : Int) : atB p o c s = true ↔ 0 ≤ p ∧ 0 ≤ o ∧ o ≤ c ∧ c ≤ 4096 ∧ 0 ≤ s ∧ s ≤ 4096 := by unfold atB; rw [decide_eq_true_iff]
theorem none_iff (p o c s : Int) : noneB p o c s = true ↔ p = -1 ∧ o = 0 ∧ c = 0 ∧ s = 0 := by unfold noneB; rw [decide_eq_true_iff]
theorem chk_at {p o c s : Int} (h : 0 ≤ p ∧ 0 ≤ o ∧ o ≤ c ∧ c ≤ 4096 ∧ 0 ≤ s ∧ s ≤ 4096) : chk p o c s = 0 := by
  unfold chk; rw [(at_iff p o c s).2 h, Bool.or_true]; rfl
theorem chk_none {p o c s : Int} (h : p = -1 ∧ o = 0 ∧ c = 0 ∧ s = 0) : chk p o c s = 0 := by
  unfold chk; rw [(none_iff p o c s).2 h, Bool.true_or]; rfl
theorem chk_no {p o c s : Int} (h : ¬ (p = -1 ∧ o = 0 ∧ c = 0 ∧ s = 0)) (h2 : ¬ (0 ≤ p ∧ 0 ≤ o ∧ o ≤ c ∧ c ≤ 4096 ∧ 0 ≤ s ∧ s ≤ 4096)) : chk p o c s = 2 := by
  unfold chk noneB atB; rw [decide_eq_false h, decide_eq_false h2]; rfl
theorem chk_cases (p o c s : Int) : (chk p o c s = 0 ∧ ((p = -1 ∧ o = 0 ∧ c = 0 ∧ s = 0) ∨ (0 ≤ p ∧ 0 ≤ o ∧ o ≤ c ∧ c ≤ 4096 ∧ 0 ≤ s ∧ s ≤ 4096))) ∨ chk p o c s = 2 := by
  by_cases h : p = -1 ∧ o = 0 ∧ c = 0 ∧ s = 0
  · exact .inl ⟨chk_none h, .inl h⟩
  · by_cases h2 : 0 ≤ p ∧ 0 ≤ o ∧ o ≤ c ∧ c ≤ 4096 ∧ 0 ≤ s ∧ s ≤ 4096
    · exact .inl ⟨chk_at h2, .inr h2⟩
    · exact .inr (chk_no h h2)
/-- when a service begins, and the error -/
def bgV (o c a : Int) : Int := if c < a then 0 else if a < o then o else a
def bgE (c a : Int) : Int := if c < a then 14 else 0
def dpV (o c s a : Int) : Int := if c < a then 0 else bgV o c a + s
theorem bg_late {o c a : Int} (h : c < a) : (bgV o c a, bgE c a) = (0, 14) := by unfold bgV bgE; rw [if_pos h, if_pos h]
theorem bg_soon {o c a : Int} (h : ¬ c < a) (h2 : a < o) : (bgV o c a, bgE c a) = (o, 0) := by unfold bgV bgE; rw [if_neg h, if_pos h2, if_neg h]
theorem bg_in {o c a : Int} (h : ¬ c < a) (h2 : ¬ a < o) : (bgV o c a, bgE c a) = (a, 0) := by unfold bgV bgE; rw [if_neg h, if_neg h2, if_neg h]
theorem bg_le {o c a : Int} (hoc : o ≤ c) (h : ¬ c < a) : o ≤ bgV o c a ∧ a ≤ bgV o c a ∧ bgV o c a ≤ c := by unfold bgV; rw [if_neg h]; split <;> omega
/-- the latest arrival, and whether there is one -/
def ltV (o c s d : Int) : Int := if d < o + s then 0 else if d - s < c then d - s else c
def ltB (o s d : Int) : Bool := decide (o + s ≤ d)
/-- the window that is in both -/
def mO (o o' : Int) : Int := if o < o' then o' else o
def mC (c c' : Int) : Int := if c' < c then c' else c

end Go.Proofs.YtalfonpkefhlmaaDoor.V

