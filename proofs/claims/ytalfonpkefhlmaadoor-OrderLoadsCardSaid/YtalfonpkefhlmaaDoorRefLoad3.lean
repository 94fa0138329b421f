/-
  DERIVED. The walks of lorryref06's Add and Sub.
-/
import Derived.Test.YtalfonpkefhlmaaDoorRefLoad2
namespace Go.Proofs.YtalfonpkefhlmaaDoor.L
open Go.RowKit
set_option maxRecDepth 8000

/-- the call's own slice v of n numbers l -/
def Gn (B : Nat) (w : World) (v : Value) (n : Nat) (l : List Int) : Prop := w.ownsRow B 3 1 v n (l.map vi)
theorem Gn.own {B : Nat} {w : World} {v : Value} {n : Nat} {l : List Int} (h : Gn B w v n l) (e : n = l.length) : Own B w v l := by unfold Own; rw [← e]; exact h
theorem Gn.nil (B : Nat) (w : World) : Gn B w (.slice none 0 0) 0 [] := World.ownsRow_nil w B _ _
/-- a result of a list and an error -/
def LE (l : List Int) (x : Int) (w : World) (e : Ending) (w' : World) : Prop := ∃ v, e = .returned (.tuple #[v, .int .i64 x]) ∧ Own w.heap.size w' v l ∧ Below w.heap.size w w'
theorem ret_le {v : Value} {a b : Int} (h : a = b) : Ending.returned (.tuple #[v, .int .i64 a]) = .returned (.tuple #[v, .int .i64 b]) := by rw [h]
def addF (x y : Int) : Int := x + y
def subF (x y : Int) : Int := x - y
/-- the sums fit -/
def Fit2 (f : Int → Int → Int) (a b : List Int) : Prop := ∀ k, k < a.length → -4611686018427387904 ≤ f (a.getD k 0) (b.getD k 0) ∧ f (a.getD k 0) (b.getD k 0) ≤ 4611686018427387904

end Go.Proofs.YtalfonpkefhlmaaDoor.L

