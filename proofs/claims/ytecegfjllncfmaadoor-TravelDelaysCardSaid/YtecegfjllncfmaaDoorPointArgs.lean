/-
  DERIVED. Slices of points as arguments.
-/
import Derived.Test.YtecegfjllncfmaaDoorTRow
import Derived.ProofKit
import Derived.LaidMore
import Derived.ChangeSlices
import Derived.Carry
import Derived.OpenShut
import Derived.Deep.SlicePairs
namespace Go.Proofs.YtecegfjllncfmaaDoor.T
open Go.ChangeShapes Go.WideShapes Go.ChangeAt Go.RowKit Go.Deep
set_option maxRecDepth 8000

theorem laidOut : laidOutB Tryd.prog = true := by kernel_rfl
section
variable {H : Type} {enc : TypeId × Value → H}
theorem block_of_row {W : World} {a : Addr} {n m : Nat} {p q : List MemPlace} (hp : p = MemPlace.row a m ++ q) (hlt : ∀ x ∈ p, x.block < W.heap.size) (hn : n < m) : a.block < W.heap.size := by
  subst hp
  obtain ⟨b, off, spot⟩ := a
  exact hlt (.cell b off) (List.mem_append.2 (.inl (MemPlace.mem_row.2 ⟨0, by omega, by simp⟩)))
theorem arg_points {W : World} {base : Nat} {v : Value} {d : DataW H} {p : List MemPlace}
    (hv : Value.okWide Tryd.prog W .any base 22 v) (h : DataW.Trod enc Tryd.prog W 0 (fun _ => true) true 22 v d p) (hlt : ∀ x ∈ p, x.block < W.heap.size) :
    ∃ l : List (Int × Int), Ps W v l := by
  obtain ⟨a0, len, cap, rfl⟩ := okWide_slice Tryd.underlying22 hv
  obtain ⟨fuel, hf⟩ := h
  have he : Tryd.prog.underlying 38 = some (.struct #[_, _]) := Tryd.underlying38
  rcases open_slice_pairs Tryd.underlying22 he (by kernel_rfl) rfl rfl (by kernel_rfl) (by kernel_rfl) hf with ⟨hcs, hx⟩ | ⟨a, len', cap', m, n, V0, V1, D0, D1, P0, P1, hcs, _, hl, hm, hmm, hx, hall⟩
  · simp [Value.cells] at hcs
    obtain ⟨rfl, rfl, rfl⟩ := hcs
    exact ⟨[], Sl.nil W⟩
  · simp [Value.cells] at hcs
    obtain ⟨rfl, rfl, rfl⟩ := hcs
    simp only [if_true] at hmm
    simp only [Prod.mk.injEq] at hx
    have key : ∀ i, i < len → ∃ q : Int × Int, W.cell? (a.add (i * 2)) = some (pT q) ∧ W.cell? (a.add (i * 2 + 1)) = some (pA q) := fun i hi => by
      obtain ⟨c0, c1, t0, t1⟩ := hall i (by omega)
      obtain ⟨x, e0, _, _⟩ := DataW.trod_int Tryd.underlying3 t0
      obtain ⟨y, e1, _, _⟩ := DataW.trod_int Tryd.underlying3 t1
      simp only [List.cons.injEq, and_true] at e0 e1
      rw [e0] at c0
      rw [e1] at c1
      exact ⟨(x, y), c0, c1⟩
    obtain ⟨q, hq⟩ := choose_lt key
    refine ⟨(List.range len).map q, some a, cap, by simp, fun i hi => ?_⟩
    have hi' : i < len := by simpa using hi
    obtain ⟨h0, h1⟩ := hq i hi'
    have eg : ((List.range len).map q).getD i (0, 0) = q i := by
      rw [List.getD_eq_getElem?_getD, List.getElem?_map, List.getElem?_range hi']; rfl
    rw [eg]
    have hb := block_of_row (n := i) hx.2 hlt (show i < m * 2 by omega)
    obtain ⟨b, o, spot⟩ := a
    have hspot : spot = none := by
      obtain ⟨z0, _⟩ := hq 0 (by omega)
      simpa [Addr.add] using World.cell?_spot z0
    subst hspot
    rw [add_plain] at h0 h1
    exact ⟨b, o, rfl, hb, h0, by rw [Nat.add_assoc]; exact h1⟩
end

end Go.Proofs.YtecegfjllncfmaaDoor.T
