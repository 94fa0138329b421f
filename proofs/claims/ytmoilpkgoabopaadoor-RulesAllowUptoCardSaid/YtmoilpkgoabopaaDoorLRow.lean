/-
  DERIVED. Slices of int: as arguments, and made by the call itself.
-/
import Derived.Test.YtmoilpkgoabopaaDoorRows
import Derived.WalkKit
import Derived.WalkSpells
import Derived.WalkLawsBesides
import Derived.WalkMore
import Derived.Below
import Derived.OwnWalk
import Derived.IntWalk
import Derived.Laws.OwnMore
import Derived.Deep.AppendLies
import Derived.Deep.Draws
import Derived.Deep.QuietTactic
import Derived.Deep.RegionLaw
import Derived.BigQuiet
import Derived.Lib.Hide
import Derived.WalkSmall
import Derived.Deep.Onto
import Derived.Deep.LoopGhost
namespace Go.Proofs.YtmoilpkgoabopaaDoor.L
open Go.RowKit
set_option maxRecDepth 8000

def vi (x : Int) : Value := .int .i64 x
/-- v is a slice of the numbers l -/
def Li (w : World) (v : Value) (l : List Int) : Prop :=
  ∃ (oa : Option Addr) (c : Nat), v = .slice oa l.length c ∧ ∀ i, i < l.length → ∃ a : Addr, oa = some a ∧ a.block < w.heap.size ∧ w.cell? (a.add i) = some (.int .i64 (l.getD i 0))
theorem add_block (a : Addr) (i : Nat) : (a.add i).block = a.block := by unfold Addr.add; split <;> rfl
theorem add_zero_off (g i : Nat) : (Addr.add ⟨g, 0, none⟩ i) = ⟨g, i, none⟩ := by
  unfold Addr.add
  split
  · rename_i h; rw [h]
  · simp
theorem Li.below {w w' : World} {v : Value} {l : List Int} (h : Li w v l) (hb : Below w.heap.size w w') : Li w' v l := by
  obtain ⟨oa, c, hv, h⟩ := h
  refine ⟨oa, c, hv, fun i hi => ?_⟩
  obtain ⟨a, ha, hl, hc⟩ := h i hi
  exact ⟨a, ha, Nat.lt_of_lt_of_le hl hb.size, (hb.cell (by rw [add_block]; exact hl)).trans hc⟩
theorem Li.over {w w1 w' : World} {v : Value} {l : List Int} (h : Li w v l) (hb : Below w.heap.size w w1) (hb' : Below w1.heap.size w1 w') : Li w' v l := (h.below hb).below hb'
theorem Li.nil (w : World) : Li w (.slice none 0 0) [] := ⟨none, 0, rfl, fun i hi => by cases hi⟩
theorem over {w W w1 : World} (h : Below w.heap.size w W) (b : Below W.heap.size W w1) : Below w.heap.size w w1 := h.trans (b.mono h.size)
theorem below_drewN {B : Nat} {a w : World} (h : Below B a w) (n : Nat) : Below B a (w.drewN n) := ⟨h.os, h.tape, h.output, h.size, h.block⟩

/-! ### lists -/
section
variable {α : Type}
theorem drop_more {l : List α} {k : Nat} {d : α} (h : k < l.length) : l.drop k = l.getD k d :: l.drop (k + 1) := by
  rw [List.drop_eq_getElem_cons h, List.getD_eq_getElem?_getD, List.getElem?_eq_getElem h]; rfl
theorem take_more {l : List α} {k : Nat} {d : α} (h : k < l.length) : l.take (k + 1) = l.take k ++ [l.getD k d] := by
  rw [List.take_succ_eq_append_getElem h, List.getD_eq_getElem?_getD, List.getElem?_eq_getElem h]; rfl
theorem getD_mem {l : List α} {k : Nat} {d : α} (h : k < l.length) : l.getD k d ∈ l := by
  rw [List.getD_eq_getElem?_getD, List.getElem?_eq_getElem h]; exact List.getElem_mem h
end
theorem ret_bool {a b : Bool} (h : a = b) : Ending.returned (.bool a) = .returned (.bool b) := by rw [h]
theorem ret_int {k : IntKind} {a b : Int} (h : a = b) : Ending.returned (.int k a) = .returned (.int k b) := by rw [h]
theorem ret_pair {a b c d : Int} (h : (a, b) = (c, d)) : Ending.returned (.tuple #[.int .i64 a, .int .i64 b]) = .returned (.tuple #[.int .i64 c, .int .i64 d]) := by
  injection h with h1 h2; rw [h1, h2]
theorem ne_eqN {a b : Nat} (h : a ≠ b) : (((a : Int) == (b : Int)) = false) := by
  rw [beq_eq_false_iff_ne]; omega
theorem ne_neN {a b : Nat} (h : a ≠ b) : (((a : Int) != (b : Int)) = true) := by
  rw [bne_iff_ne]; omega
theorem ne_eqI {a b : Int} (h : a ≠ b) : ((a == b) = false) := by
  rw [beq_eq_false_iff_ne]; exact h
theorem ne_neI {a b : Int} (h : a ≠ b) : ((a != b) = true) := by
  rw [bne_iff_ne]; exact h

/-! ### the call's own slices -/
/-- the call's own slice v, made since block B, holds the numbers l -/
def Own (B : Nat) (w : World) (v : Value) (l : List Int) : Prop := w.ownsRow B 3 1 v l.length (l.map vi)
theorem Own.frame {B : Nat} {w w' : World} {v : Value} {l : List Int} (h : Own B w v l) (hb : Below w.heap.size w w') : Own B w' v l := by
  refine ⟨h.1, ?_⟩
  rcases h.2 with hn | ⟨g, cap, cur, e, hbg, hgg, rest⟩
  · exact .inl hn
  · refine .inr ⟨g, cap, cur, e, hbg, ?_, rest⟩
    rw [hb.block g (Array.getElem?_eq_some_iff.1 hgg).1]; exact hgg
theorem Own.alloc {B : Nat} {w : World} {v : Value} {l : List Int} (h : Own B w v l) (o : Obj) : Own B (w.alloc o) v l := World.ownsRow.alloc h o
theorem Own.drewN {B : Nat} {w : World} {v : Value} {l : List Int} (h : Own B w v l) (n : Nat) : Own B (w.drewN n) v l := h
theorem Own.mono {B C : Nat} {w : World} {v : Value} {l : List Int} (h : Own B w v l) (hle : C ≤ B) : Own C w v l := World.ownsRow.mono h hle
theorem Own.nil (B : Nat) (w : World) : Own B w (.slice none 0 0) [] := World.ownsRow_nil w B _ _
theorem Own.blk {B : Nat} {w : World} {v : Value} {l : List Int} (h : Own B w v l) : ∀ k, v.ownBlock = some k → B ≤ k := fun k hk => (World.ownsRow.lt h k hk).1
theorem Own.li {B : Nat} {w : World} {v : Value} {l : List Int} (h : Own B w v l) : Li w v l := by
  rcases h.2 with ⟨hn, h0⟩ | ⟨g, cap, cur, rfl, hbg, hgg, hnc, rest⟩
  · have : l = [] := List.eq_nil_of_length_eq_zero h0
    subst this
    exact ⟨none, 0, hn, fun i hi => by cases hi⟩
  · refine ⟨some ⟨g, 0, none⟩, cap, rfl, fun i hi => ⟨_, rfl, (Array.getElem?_eq_some_iff.1 hgg).1, ?_⟩⟩
    have := World.ownsRow.cellAt (g := g) (cap := cap) (n := l.length) (xs := l.map vi) (w := w) (base := B) (e := 3) (size := 1) ⟨h.1, .inr ⟨g, cap, cur, rfl, hbg, hgg, hnc, rest⟩⟩ i (by omega)
    show w.cell? (Addr.add ⟨g, 0, none⟩ i) = _
    rw [add_zero_off, this, List.getElem?_map, List.getD_eq_getElem?_getD, List.getElem?_eq_getElem hi]
    rfl
theorem Own.ext {B : Nat} {w : World} {v : Value} {l m : List Int} (h : Own B w v l) (e : l = m) : Own B w v m := e ▸ h
theorem Own.of_own {B : Nat} {w : World} {v : Value} {n : Nat} {x : Int} {l : List Int} (hn : l.length = n) (h : w.ownsRow B 3 1 v (n + 1) (l.map vi ++ [.int .i64 x])) : Own B w v (l ++ [x]) := by
  subst hn
  unfold Own
  rw [List.map_append, List.length_append]
  exact h
theorem one_new (w : World) (x : Int) : ∀ (j : Nat) (v : Value), [Value.int .i64 x][j]? = some v → (w.alloc (.cells #[.int .i64 x] 3)).cell? ((⟨w.heap.size, 0, none⟩ : Addr).add j) = some v := by
  intro j v hv
  match j, hv with
  | 0, hv => simp at hv; subst hv; simp [Addr.add]
theorem one_cell (x : Int) : ∀ v ∈ [Value.int .i64 x], v.oneCell' = true := by
  intro v hv; simp at hv; subst hv; rfl
theorem infoInt0 : (Tryd.prog.info? 3).map (fun i => (i.zero, i.size, i.bytes)) = some (some (.int .i64 0), 1, 8) := by kernel_rfl
theorem infoInt : ∃ i, Tryd.prog.info? 3 = some i ∧ i.zero = some (.int .i64 0) ∧ i.size = 1 ∧ i.bytes = 8 := by
  have h := infoInt0
  cases hi : Tryd.prog.info? 3 with
  | none => rw [hi] at h; cases h
  | some i => rw [hi] at h; simp at h; exact ⟨i, rfl, h.1, h.2.1, h.2.2⟩

/-- block g, made since block B, holds the numbers l; it has room for cap -/
def Rw (B : Nat) (w : World) (g cap : Nat) (l : List Int) : Prop := Own B w (.slice (some ⟨g, 0, none⟩) l.length cap) l
section
variable {B : Nat} {w w' : World} {g cap : Nat} {l : List Int}
theorem Rw.cell (h : Rw B w g cap l) (k : Nat) (hk : k < l.length) : w.cell? ⟨g, k, none⟩ = some (.int .i64 (l.getD k 0)) := by
  have := World.ownsRow.cellAt h k (by omega)
  rw [this, List.getElem?_map, List.getD_eq_getElem?_getD, List.getElem?_eq_getElem hk]
  rfl
theorem Rw.frozen (h : Rw B w g cap l) (k : Nat) : w.frozen? ⟨g, k, none⟩ = false := World.ownsRow.frozenAt h k
theorem Rw.store (h : Rw B w g cap l) (k : Nat) (c : Int) : Rw B (w.setCell ⟨g, k, none⟩ (.int .i64 c)) g cap (l.set k c) := by
  have := (World.ownsRow.stored h k (vi c)).1
  unfold Rw Own
  rw [List.length_set, List.map_set]
  exact this
theorem Rw.lt (h : Rw B w g cap l) : B ≤ g ∧ g < w.heap.size := World.ownsRow.lt h g rfl
theorem Rw.of_block (h : Rw B w g cap l) (hb : w'.heap[g]? = w.heap[g]?) : Rw B w' g cap l := by
  refine ⟨h.1, ?_⟩
  rcases h.2 with ⟨h', _⟩ | ⟨g', cap', cur, h', hbg, hg, rest⟩
  · cases h'
  · cases h'; exact .inr ⟨g, cap, cur, rfl, hbg, hb.trans hg, rest⟩
theorem Rw.below (h : Rw B w g cap l) (hb : Below w.heap.size w w') : Rw B w' g cap l := h.of_block (hb.block g h.lt.2)
theorem Rw.ext (h : Rw B w g cap l) {m : List Int} (e : m = l) : Rw B w g cap m := e ▸ h
end
theorem below_set {B : Nat} {a w : World} {g : Nat} (h : Below B a w) (hg : B ≤ g) (k : Nat) (u : Value) : Below B a (w.setCell ⟨g, k, none⟩ u) := h.setCell hg u
theorem Rw.made {B : Nat} {w' : World} {n cap : Nat} {g : Nat} (h : w'.ownsRow B 3 1 (.slice (some ⟨g, 0, none⟩) n cap) n (madeCells #[Value.int .i64 0] n).toList) : Rw B w' g cap (List.replicate n 0) := by
  unfold Rw Own
  have e : (madeCells #[Value.int .i64 0] n).toList = (List.replicate n (0 : Int)).map vi := by
    rw [toList_madeCells_one, List.map_replicate]; rfl
  rw [List.length_replicate, ← e]
  exact h

/-! ### slices of slices of int, as arguments -/
/-- v is a slice of slices: the lists ls -/
def Ls (w : World) (v : Value) (ls : List (List Int)) : Prop :=
  ∃ (oa : Option Addr) (c : Nat), v = .slice oa ls.length c ∧ ∀ i, i < ls.length → ∃ (a : Addr) (u : Value), oa = some a ∧ a.block < w.heap.size ∧ w.cell? (a.add i) = some u ∧ Li w u (ls.getD i [])
theorem Ls.below {w w' : World} {v : Value} {ls : List (List Int)} (h : Ls w v ls) (hb : Below w.heap.size w w') : Ls w' v ls := by
  obtain ⟨oa, c, hv, h⟩ := h
  refine ⟨oa, c, hv, fun i hi => ?_⟩
  obtain ⟨a, u, ha, hl, hc, hu⟩ := h i hi
  exact ⟨a, u, ha, Nat.lt_of_lt_of_le hl hb.size, (hb.cell (by rw [add_block]; exact hl)).trans hc, hu.below hb⟩
theorem Ls.nil (w : World) : Ls w (.slice none 0 0) [] := ⟨none, 0, rfl, fun i hi => by cases hi⟩

end Go.Proofs.YtmoilpkgoabopaaDoor.L

