/-
  DERIVED. Slices of int that hold natural numbers, nil or not.
-/
import Derived.Test.YtalfonpkefhlmaaDoorRows
import Derived.WalkKit
import Derived.WalkSpells
import Derived.WalkLawsBesides
import Derived.Below
import Derived.OwnWalk
import Derived.Laws.OwnMore
import Derived.Deep.AppendLies
import Derived.Deep.Draws
import Derived.Deep.QuietTactic
import Derived.BigQuiet
import Derived.Lib.Hide
import Derived.WalkSmall
import Derived.Deep.Onto
import Derived.Deep.LoopGhost
namespace Go.Proofs.YtalfonpkefhlmaaDoor.S
open Go.RowKit
set_option maxRecDepth 8000

def iv (n : Nat) : Value := .int .i64 (n : Int)
/-- the slice v holds the digits l -/
def Ow (w : World) (v : Value) (l : List Nat) : Prop := w.ownsRow 0 3 1 v l.length (l.map iv)

theorem Ow.frame {w w' : World} {v : Value} {l : List Nat} (h : Ow w v l) (hb : Below w.heap.size w w') : Ow w' v l := by
  refine ⟨h.1, ?_⟩
  rcases h.2 with hn | ⟨g, cap, cur, rfl, hbg, hgg, rest⟩
  · exact .inl hn
  · refine .inr ⟨g, cap, cur, rfl, hbg, ?_, rest⟩
    rw [hb.block g (Array.getElem?_eq_some_iff.1 hgg).1]; exact hgg
theorem Ow.alloc {w : World} {v : Value} {l : List Nat} (h : Ow w v l) (o : Obj) : Ow (w.alloc o) v l := h.frame ((Below.refl _ w).alloc (Nat.le_refl _) o)
theorem Ow.drewN {w : World} {v : Value} {l : List Nat} (h : Ow w v l) (n : Nat) : Ow (w.drewN n) v l := h
theorem Ow.shape {w : World} {v : Value} {l : List Nat} (h : Ow w v l) : ∃ A c, v = .slice A l.length c ∧ l.length ≤ c ∧ ∀ i, i < l.length → ∃ g, A = some ⟨g, 0, none⟩ ∧ g < w.heap.size ∧ w.cell? ⟨g, i, none⟩ = some (.int .i64 ((l.getD i 0 : Nat) : Int)) := by
  rcases h.2 with ⟨hn, h0⟩ | ⟨g, cap, cur, rfl, hbg, hgg, hnc, rest⟩
  · exact ⟨none, 0, by rw [hn, h0], by omega, fun i hi => by omega⟩
  · refine ⟨some ⟨g, 0, none⟩, cap, rfl, hnc, fun i hi => ⟨g, rfl, (Array.getElem?_eq_some_iff.1 hgg).1, ?_⟩⟩
    have := World.ownsRow.cellAt (g := g) (cap := cap) (n := l.length) (xs := l.map iv) (w := w) (base := 0) (e := 3) (size := 1) ⟨h.1, .inr ⟨g, cap, cur, rfl, hbg, hgg, hnc, rest⟩⟩ i (by omega)
    rw [this, List.getElem?_map, List.getD_eq_getElem?_getD, List.getElem?_eq_getElem hi]
    rfl
theorem Ow.ext {w : World} {v : Value} {l m : List Nat} (h : Ow w v l) (e : m = l) : Ow w v m := e ▸ h
theorem Ow.nil (w : World) : Ow w (.slice none 0 0) [] := World.ownsRow_nil w 0 _ _
theorem Ow.cut {w : World} {A : Option Addr} {c n : Nat} {l : List Nat} (h : Ow w (.slice A n c) l) (k : Nat) (hk : k ≤ l.length) : Ow w (.slice A k c) (l.take k) := by
  rcases h.2 with ⟨hn, h0⟩ | ⟨g, cap, cur, hv, hbg, hg, hnc, hcm, hcs, ht⟩
  · have hl : l = [] := List.eq_nil_of_length_eq_zero h0
    subst hl
    have : k = 0 := by simpa using hk
    subst this
    cases hn
    exact Ow.nil w
  · cases hv
    refine ⟨by simp, .inr ⟨g, c, cur, ?_, hbg, hg, ?_, hcm, hcs, ?_⟩⟩
    · rw [List.length_take, Nat.min_eq_left hk]
    · rw [List.length_take]; omega
    · rw [List.map_take, ← ht, List.take_take, List.length_take]
      simp only [Nat.mul_one]
theorem info3a : (Tryd.prog.info? 3).map (fun i => (i.zero, i.size, i.bytes)) = some (some (.int .i64 0), 1, 8) := by kernel_rfl
theorem info3' : ∃ i, Tryd.prog.info? 3 = some i ∧ i.zero = some (.int .i64 0) ∧ i.size = 1 ∧ i.bytes = 8 := by
  have h := info3a
  cases hi : Tryd.prog.info? 3 with
  | none => rw [hi] at h; cases h
  | some i => rw [hi] at h; simp at h; exact ⟨i, rfl, h.1, h.2.1, h.2.2⟩
theorem one_new (w : World) (x : Int) : ∀ (j : Nat) (v : Value), [Value.int .i64 x][j]? = some v → (w.alloc (.cells #[.int .i64 x] 3)).cell? ((⟨w.heap.size, 0, none⟩ : Addr).add j) = some v := by
  intro j v hv
  match j, hv with
  | 0, hv => simp at hv; subst hv; simp [Addr.add]
theorem one_cell (x : Int) : ∀ v ∈ [Value.int .i64 x], v.oneCell' = true := by
  intro v hv; simp at hv; subst hv; rfl
theorem Ow.of_own {w : World} {v : Value} {n x : Nat} {l : List Nat} {z : Int} (hz : z = (x : Int)) (hn : l.length = n) (h : w.ownsRow 0 3 1 v (n + 1) (l.map iv ++ [.int .i64 z])) : Ow w v (l ++ [x]) := by
  subst hn
  subst hz
  unfold Ow
  rw [List.map_append, List.length_append]
  exact h
/-- the call's own slice v, made since block B, holds the digits l -/
def Owb (B : Nat) (w : World) (v : Value) (l : List Nat) : Prop := w.ownsRow B 3 1 v l.length (l.map iv)
theorem Owb.weak {B : Nat} {w : World} {v : Value} {l : List Nat} (h : Owb B w v l) : Ow w v l := World.ownsRow.mono h (Nat.zero_le _)
theorem Owb.alloc {B : Nat} {w : World} {v : Value} {l : List Nat} (h : Owb B w v l) (o : Obj) : Owb B (w.alloc o) v l := World.ownsRow.alloc h o
theorem Owb.nil (B : Nat) (w : World) : Owb B w (.slice none 0 0) [] := World.ownsRow_nil w B _ _
theorem Owb.blk {B : Nat} {w : World} {v : Value} {l : List Nat} (h : Owb B w v l) : ∀ k, v.ownBlock = some k → B ≤ k := fun k hk => (World.ownsRow.lt h k hk).1
theorem Owb.of_own {B : Nat} {w : World} {v : Value} {n x : Nat} {l : List Nat} {z : Int} (hz : z = (x : Int)) (hn : l.length = n) (h : w.ownsRow B 3 1 v (n + 1) (l.map iv ++ [.int .i64 z])) : Owb B w v (l ++ [x]) := by
  subst hn
  subst hz
  unfold Owb
  rw [List.map_append, List.length_append]
  exact h
theorem ret_sl {a : Option Addr} {n m cap : Nat} (h : n = m) : Ending.returned (.slice a n cap) = .returned (.slice a m cap) := by rw [h]
def slLen : Value → Nat | .slice _ n _ => n | _ => 0

/-! ### slices as arguments -/
/-- a slice of n one-cell elements V -/
def SlV (w : World) (v : Value) (n : Nat) (V : Nat → Value) : Prop :=
  ∃ (oa : Option Addr) (c : Nat), v = .slice oa n c ∧ ∀ i, i < n → ∃ a : Addr, oa = some a ∧ a.block < w.heap.size ∧ w.cell? (a.add i) = some (V i)
theorem add_block (a : Addr) (i : Nat) : (a.add i).block = a.block := by unfold Addr.add; split <;> rfl
theorem SlV.below {w w' : World} {v : Value} {n : Nat} {V : Nat → Value} (h : SlV w v n V) (hb : Below w.heap.size w w') : SlV w' v n V := by
  obtain ⟨oa, c, hv, h⟩ := h
  refine ⟨oa, c, hv, fun i hi => ?_⟩
  obtain ⟨a, ha, hl, hc⟩ := h i hi
  exact ⟨a, ha, Nat.lt_of_lt_of_le hl hb.size, (hb.cell (by rw [add_block]; exact hl)).trans hc⟩
def Vi (z : Nat → Int) (i : Nat) : Value := .int .i64 (z i)

end Go.Proofs.YtalfonpkefhlmaaDoor.S

