/-
  DERIVED. Rows of limbs in memory.
-/
import Derived.Test.YtgpjfgakhncdnaaDoorPureLim
import Derived.Test.YtgpjfgakhncdnaaDoorNatGen
import Derived.Below
import Derived.OwnWalk
import Derived.Laws.OwnMore
import Derived.Deep.AppendLies
import Derived.Deep.DeepAppendRoom
import Derived.Deep.Draws
import Derived.Deep.QuietTactic
import Derived.BigQuiet
import Derived.Lib.Hide
namespace Go.Proofs.YtgpjfgakhncdnaaDoor
open Go.RowKit

def u64 (n : Nat) : Value := .int .u64 (n : Int)
/-- block g's first cells hold the limbs l; it has room for cap -/
def Rw (w : World) (g cap : Nat) (l : List Nat) : Prop := w.ownsRow 0 51 1 (.slice (some ⟨g, 0, none⟩) l.length cap) l.length (l.map u64)

section
variable {w w' : World} {g cap : Nat} {l : List Nat}
theorem Rw.cell (h : Rw w g cap l) (k : Nat) (hk : k < l.length) : w.cell? ⟨g, k, none⟩ = some (.int .u64 ((l.getD k 0 : Nat) : Int)) := by
  have := World.ownsRow.cellAt h k (by omega)
  rw [this, List.getElem?_map, List.getD_eq_getElem?_getD, List.getElem?_eq_getElem hk]
  rfl
theorem Rw.frozen (h : Rw w g cap l) (k : Nat) : w.frozen? ⟨g, k, none⟩ = false := World.ownsRow.frozenAt h k
theorem Rw.store (h : Rw w g cap l) (k c : Nat) : Rw (w.setCell ⟨g, k, none⟩ (.int .u64 (c : Int))) g cap (l.set k c) := by
  have := (World.ownsRow.stored h k (u64 c)).1
  unfold Rw
  rw [List.length_set, List.map_set]
  exact this
theorem Rw.storeI (h : Rw w g cap l) (k c : Nat) {z : Int} (hz : z = (c : Int)) : Rw (w.setCell ⟨g, k, none⟩ (.int .u64 z)) g cap (l.set k c) := hz ▸ h.store k c
theorem Rw.lt (h : Rw w g cap l) : g < w.heap.size := (World.ownsRow.lt h g rfl).2
theorem Rw.le (h : Rw w g cap l) : l.length ≤ cap := by
  rcases h.2 with ⟨h', _⟩ | ⟨g', cap', cur, h', _, _, hnc, _⟩
  · cases h'
  · cases h'; exact hnc
theorem Rw.of_block (h : Rw w g cap l) (hb : w'.heap[g]? = w.heap[g]?) : Rw w' g cap l := by
  refine ⟨h.1, ?_⟩
  rcases h.2 with ⟨h', _⟩ | ⟨g', cap', cur, h', hbg, hg, rest⟩
  · cases h'
  · cases h'; exact .inr ⟨g, cap, cur, rfl, hbg, hb.trans hg, rest⟩
theorem Rw.far (h : Rw w g cap l) {p : Addr} (hp : g ≠ p.block) (u : Value) : Rw (w.setCell p u) g cap l := h.of_block (Below.heap_setCell w p u g hp)
theorem Rw.below {B : Nat} (h : Rw w g cap l) (hb : Below B w w') (hg : g < B) : Rw w' g cap l := h.of_block (hb.block g hg)
theorem Rw.only {row : Option Nat} (h : Rw w g cap l) (hb : w.grownBy w' row) (hg : some g ≠ row) : Rw w' g cap l := h.of_block (hb.block g h.lt hg)
theorem Rw.drewN (h : Rw w g cap l) (n : Nat) : Rw (w.drewN n) g cap l := h
theorem Rw.alloc (h : Rw w g cap l) (o : Obj) : Rw (w.alloc o) g cap l := h.of_block (Below.heap_alloc w o g h.lt)
theorem Rw.cut (h : Rw w g cap l) (k : Nat) : Rw w g cap (l.take k) := by
  rcases h.2 with ⟨h', _⟩ | ⟨g', cap', cur, h', hbg, hg, hnc, hcm, hcs, ht⟩
  · cases h'
  · cases h'
    refine ⟨by simp, .inr ⟨g, cap, cur, rfl, hbg, hg, ?_, hcm, hcs, ?_⟩⟩
    · rw [List.length_take]; omega
    · rw [List.map_take, ← ht, List.take_take, List.length_take]
      simp only [Nat.mul_one]
theorem Rw.ext (h : Rw w g cap l) {m : List Nat} (e : m = l) : Rw w g cap m := e ▸ h
end

theorem only_refl (a : World) (row : Option Nat) : a.grownBy a row := ⟨rfl, rfl, rfl, Nat.le_refl _, fun _ _ _ => rfl⟩
theorem only_trans {a b c : World} {row : Option Nat} (h : a.grownBy b row) (k : b.grownBy c row) : a.grownBy c row :=
  ⟨k.os.trans h.os, k.tape.trans h.tape, k.output.trans h.output, Nat.le_trans h.size k.size, fun i hi hn => (k.block i (Nat.lt_of_lt_of_le hi h.size) hn).trans (h.block i hi hn)⟩
theorem only_drewN {a w : World} {row : Option Nat} (h : a.grownBy w row) (n : Nat) : a.grownBy (w.drewN n) row := ⟨h.os, h.tape, h.output, h.size, h.block⟩
theorem only_set {a w : World} {g : Nat} (h : a.grownBy w (some g)) (k : Nat) (u : Value) : a.grownBy (w.setCell ⟨g, k, none⟩ u) (some g) :=
  ⟨h.os, h.tape, h.output, by simpa [World.setCell] using h.size, fun i hi hne => (Below.heap_setCell w ⟨g, k, none⟩ u i (by rintro rfl; exact hne rfl)).trans (h.block i hi hne)⟩
theorem only_below {a w : World} {g : Nat} {B : Nat} (h : a.grownBy w (some g)) (hB : B ≤ a.heap.size) (hg : B ≤ g) : Below B a w :=
  ⟨h.os, h.tape, h.output, h.size, fun k hk => h.block k (by omega) (by simp; omega)⟩
theorem below_drewN {B : Nat} {a w : World} (h : Below B a w) (n : Nat) : Below B a (w.drewN n) := ⟨h.os, h.tape, h.output, h.size, h.block⟩

theorem info51 : (Tryd.prog.info? 51).map (fun i => (i.zero, i.size, i.bytes)) = some (some (.int .u64 0), 1, 8) := by kernel_rfl
theorem info51' : ∃ i, Tryd.prog.info? 51 = some i ∧ i.zero = some (.int .u64 0) ∧ i.size = 1 ∧ i.bytes = 8 := by
  have h := info51
  cases hi : Tryd.prog.info? 51 with
  | none => rw [hi] at h; cases h
  | some i => rw [hi] at h; simp at h; exact ⟨i, rfl, h.1, h.2.1, h.2.2⟩
theorem Rw.made {w' : World} {n cap : Nat} {g : Nat} (h : w'.ownsRow 0 51 1 (.slice (some ⟨g, 0, none⟩) n cap) n (madeCells #[Value.int .u64 0] n).toList) : Rw w' g cap (List.replicate n 0) := by
  unfold Rw
  have e : (madeCells #[Value.int .u64 0] n).toList = (List.replicate n 0).map u64 := by
    rw [toList_madeCells_one, List.map_replicate]; rfl
  rw [List.length_replicate, ← e]
  exact h

end Go.Proofs.YtgpjfgakhncdnaaDoor
