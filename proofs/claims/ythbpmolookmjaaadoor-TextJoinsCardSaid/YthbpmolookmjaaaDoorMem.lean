/-
  DERIVED. Small laws on worlds: owned rows in later worlds; an owned row of bytes turned into a string.
-/
import Derived.Test.YthbpmolookmjaaaDoorLex
import Derived.Deep.QuietTactic
import Derived.BigQuiet
namespace Go.Proofs.YthbpmolookmjaaaDoor
open Go.RowKit

theorem ret_str {a b : ByteArray} (h : a = b) : Ending.returned (.string a) = .returned (.string b) := by rw [h]
theorem ret_int {k : IntKind} {a b : Int} (h : a = b) : Ending.returned (.int k a) = .returned (.int k b) := by rw [h]

theorem beqI {a : Nat} {b : Nat} (h : a = b) : ((a : Int) == (b : Int)) = true := by subst h; simp
theorem bneI {a : Nat} {b : Nat} (h : a ≠ b) : ((a : Int) == (b : Int)) = false := by simp; omega
theorem ret_num {a b : Int} {p : Int × Int} (h : p = (a, b)) : Ending.returned (.tuple #[.int .i64 a, .int .i64 b]) = .returned (.tuple #[.int .i64 p.1, .int .i64 p.2]) := by rw [h]
/-- bytes as cells -/
def bc (l : List UInt8) : List Value := l.map fun c => .int .u8 c.toNat
theorem bc_len (l : List UInt8) : (bc l).length = l.length := by simp [bc]
theorem bc_append (l m : List UInt8) : bc (l ++ m) = bc l ++ bc m := by simp [bc]
theorem bc_one (c : UInt8) : bc [c] = [.int .u8 c.toNat] := rfl

theorem own_frame {W W' : World} {B e size n : Nat} {v : Value} {xs : List Value} (h : W.ownsRow B e size v n xs) (hb : Below W.heap.size W W') : W'.ownsRow B e size v n xs := by
  refine ⟨h.1, ?_⟩
  rcases h.2 with hn | ⟨g, cap, cur, rfl, hbg, hgg, rest⟩
  · exact .inl hn
  · refine .inr ⟨g, cap, cur, rfl, hbg, ?_, rest⟩
    rw [hb.block g (Array.getElem?_eq_some_iff.1 hgg).1]; exact hgg

theorem info5 : (Tryd.prog.info? 5).map (fun i => (i.zero, i.size, i.bytes)) = some (some (.int .u8 0), 1, 1) := by kernel_rfl

/-- 'string(v)' of an owned row of bytes -/
theorem own_string {W : World} {B : Nat} {v : Value} {n : Nat} {l : List UInt8} (h : W.ownsRow B 5 1 v n (bc l)) :
    (convert 43 9 v).run Tryd.prog W = .ok (.string ⟨l.toArray⟩) W := by
  have hl : l.length = n := by have := h.1; rw [bc_len] at this; omega
  subst hl
  have hcell := fun g hg => h.cells (g := g) hg
  rcases h.2 with ⟨rfl, h0⟩ | ⟨g, cap, cur, rfl, _, _, hnc, _⟩
  · have : l = [] := List.eq_nil_of_length_eq_zero h0
    subst this
    exact run_convert_bytes_nil W 43 5 Tryd.underlying43 Tryd.underlying5 0 0 _ Tryd.underlying9
  · refine run_convert_bytes_back W _ _ 5 _ cap l Tryd.underlying43 Tryd.underlying5 Tryd.underlying9 ?_
    intro j hj
    exact hcell g rfl j _ (by simp [bc, hj])

end Go.Proofs.YthbpmolookmjaaaDoor
