/-
  DERIVED. Slices of int, and slices of such slices, as arguments.
-/
import Derived.Test.YtcnagcdgpgijaaaLRow
import Derived.ProofKit
import Derived.LaidMore
import Derived.ChangeSlices
import Derived.SliceStrings
import Derived.Carry
import Derived.OpenShut
import Derived.Deep.Matrix
import Derived.SizedLaws
namespace Go.Proofs.Ytcnagcdgpgijaaa.L
open Go.ChangeShapes Go.WideShapes Go.ChangeAt Go.RowKit Go.Deep
set_option maxRecDepth 8000

theorem laidOut : laidOutB Try.prog = true := by kernel_rfl
theorem bytesInt : Try.prog.bytesOf 3 = 8 := by kernel_rfl
theorem cellsInt : Try.prog.cellsOf 3 = 1 := by kernel_rfl
section
variable {H : Type} {enc : TypeId × Value → H} {P : Program}
/-- what is read takes at most so many bytes -/
def Szd (P : Program) (t : TypeId) (d : DataW H) : Prop := ∀ n ∈ d.weights P t, n ≤ reachBytes
theorem szd_part {ts : List TypeId} {ds : List (DataW H)} (h : (DataW.weightsEach P ts ds).all (· ≤ reachBytes) = true) (j : Nat) {t : TypeId} {d : DataW H} (ht : ts[j]? = some t) (hd : ds[j]? = some d) : Szd P t d := fun n hn => by
  have := List.all_eq_true.1 h _ (DataW.weights_mem_each ht hd n hn)
  simpa using this
theorem weights_all_mem {e : TypeId} {n : Nat} : ∀ {elems : List (DataW H)} {d : DataW H}, d ∈ elems → n ∈ d.weights P e → n ∈ DataW.weightsAll P e elems
  | x :: r, d, hd, hn => by
    rw [DataW.weightsAll, List.mem_append]
    rcases List.mem_cons.1 hd with rfl | hd
    · exact .inl hn
    · exact .inr (weights_all_mem hd hn)
theorem szd_len {t e : TypeId} {el sp : List (DataW H)} (ht : P.underlying t = some (.slice e)) (h : Szd P t (.slice el sp)) : (el.length + sp.length) * P.bytesOf e ≤ reachBytes :=
  h _ (by simp [DataW.weights, ht])
theorem szd_elem {t e : TypeId} {el sp : List (DataW H)} (ht : P.underlying t = some (.slice e)) (h : Szd P t (.slice el sp)) {d : DataW H} (hd : d ∈ el) : Szd P e d := fun n hn =>
  h n (by
    simp only [DataW.weights, ht, List.mem_cons, List.mem_append]
    exact .inr (.inl (weights_all_mem hd hn)))
end
section
variable {H : Type} {enc : TypeId × Value → H}
theorem row_block {W : World} {a : Addr} {n m : Nat} {p : List MemPlace} (hp : p = MemPlace.row a m) (hlt : ∀ x ∈ p, x.block < W.heap.size) (hn : n < m) : a.block < W.heap.size := by
  subst hp
  obtain ⟨b, off, spot⟩ := a
  exact hlt (.cell b off) (MemPlace.mem_row.2 ⟨0, by omega, by simp⟩)
theorem reach8 {n m : Nat} (h : (n + m) * 8 ≤ reachBytes) : n * 8 ≤ 140737488355328 := by unfold reachBytes at h; omega
theorem lits_len (k : IntKind) (zs : List Int) : (lits (H := H) k zs).length = zs.length := by simp [lits]
theorem arg_list {t e : TypeId} (ht : Try.prog.underlying t = some (.slice e)) (he : Try.prog.underlying e = some (.int .i64)) (hc : Try.prog.cellsOf e = 1) (h8 : Try.prog.bytesOf e = 8) {W : World} {base : Nat} {v : Value} {d : DataW H} {p : List MemPlace}
    (hv : Value.okWide Try.prog W .any base t v) (h : DataW.Trod enc Try.prog W 0 (fun _ => true) true t v d p) (hlt : ∀ x ∈ p, x.block < W.heap.size) (hz : Szd Try.prog t d) :
    ∃ l : List Int, Li W v l ∧ l.length * 8 ≤ 140737488355328 ∧ ∀ x ∈ l, -9223372036854775808 ≤ x ∧ x ≤ 9223372036854775807 := by
  obtain ⟨a0, len, cap, rfl⟩ := okWide_slice ht hv
  obtain ⟨fuel, hf⟩ := h
  rcases open_ints ht he hc hf with ⟨hcs, hx⟩ | ⟨a, len', cap', zs, hcs, _, hl, hm, hzl, hx, hcell, hwz⟩
  · simp [Value.cells] at hcs
    obtain ⟨rfl, rfl, rfl⟩ := hcs
    exact ⟨[], Li.nil W, by simp, fun x hx => by cases hx⟩
  · simp [Value.cells] at hcs
    obtain ⟨rfl, rfl, rfl⟩ := hcs
    simp only [if_true] at hzl
    simp only [Prod.mk.injEq] at hx
    obtain ⟨rfl, hp⟩ := hx
    have hsz := szd_len ht hz
    rw [h8, lits_len, List.length_take, Nat.min_eq_left (by omega)] at hsz
    refine ⟨zs.take len, ⟨some a, cap, ?_, fun i hi => ?_⟩, ?_, fun x hx => bounds_i64 (hwz x (List.mem_of_mem_take hx))⟩
    · rw [List.length_take, Nat.min_eq_left (by omega)]
    · rw [List.length_take] at hi
      refine ⟨a, rfl, row_block hp hlt (show i < zs.length by omega), ?_⟩
      rw [hcell i (by omega), List.getD_eq_getElem?_getD, List.getD_eq_getElem?_getD, List.getElem?_take_of_lt (by omega)]
    · rw [List.length_take, Nat.min_eq_left (by omega)]
      exact reach8 hsz
theorem arg_lists {t e q : TypeId} (ht : Try.prog.underlying t = some (.slice e)) (he : Try.prog.underlying e = some (.slice q)) (hq : Try.prog.underlying q = some (.int .i64)) (ce : Try.prog.cellsOf e = 1) (cq : Try.prog.cellsOf q = 1) (h24 : Try.prog.bytesOf e = 24) (h8 : Try.prog.bytesOf q = 8)
    {W : World} {base : Nat} {v : Value} {d : DataW H} {p : List MemPlace}
    (hv : Value.okWide Try.prog W .any base t v) (h : DataW.Trod enc Try.prog W 0 (fun _ => true) true t v d p) (hlt : ∀ x ∈ p, x.block < W.heap.size) (hz : Szd Try.prog t d) :
    ∃ ls : List (List Int), Ls W v ls ∧ ls.length * 24 ≤ 140737488355328 ∧ ∀ l ∈ ls, l.length * 8 ≤ 140737488355328 ∧ ∀ x ∈ l, -9223372036854775808 ≤ x ∧ x ≤ 9223372036854775807 := by
  obtain ⟨a0, len, cap, rfl⟩ := okWide_slice ht hv
  obtain ⟨fuel, hf⟩ := h
  rcases open_int_rows ht he hq ce cq hf with ⟨hcs, hx⟩ | ⟨a, len', cap', A, L, C, Z, hcs, _, hl, hm, hx, hrow⟩
  · simp [Value.cells] at hcs
    obtain ⟨rfl, rfl, rfl⟩ := hcs
    exact ⟨[], Ls.nil W, by simp, fun x hx => by cases hx⟩
  · simp [Value.cells] at hcs
    obtain ⟨rfl, rfl, rfl⟩ := hcs
    simp only [Prod.mk.injEq] at hx
    obtain ⟨rfl, rfl⟩ := hx
    have hsz := szd_len ht hz
    rw [h24, List.length_map, List.length_range] at hsz
    have hlen : ∀ r, r < len → L r * 8 ≤ 140737488355328 := by
      intro r hr
      have h1 := szd_elem ht hz (d := intRow .i64 (A r) (L r) (Z r)) (List.mem_map.2 ⟨r, List.mem_range.2 hr, rfl⟩)
      obtain ⟨_, h2, _, h4, _, h6, _⟩ := hrow r (by omega)
      unfold intRow at h1
      cases hA : A r with
      | none => have := h6 hA; omega
      | some a' =>
        rw [hA] at h1
        have h3 := szd_len he h1
        rw [h8, lits_len, List.length_take, Nat.min_eq_left (by omega)] at h3
        exact reach8 h3
    refine ⟨(List.range len).map fun r => (Z r).take (L r), ⟨some a, cap, ?_, fun i hi => ?_⟩, ?_, fun l hl => ?_⟩
    · simp
    · have hi' : i < len := by simpa using hi
      obtain ⟨h1, h2, _, h4, _, h6, h7⟩ := hrow i (by omega)
      refine ⟨a, _, rfl, hlt (.cell a.block (a.off)) ?_, h1, ?_⟩
      · rw [List.mem_append]
        exact .inl (MemPlace.mem_row.2 ⟨0, by omega, by simp⟩)
      · have e : ((List.range len).map fun r => (Z r).take (L r)).getD i [] = (Z i).take (L i) := by
          rw [List.getD_eq_getElem?_getD, List.getElem?_map, List.getElem?_range hi']; rfl
        rw [e]
        refine ⟨A i, C i, ?_, fun j hj => ?_⟩
        · rw [List.length_take, Nat.min_eq_left (by omega)]
        · rw [List.length_take] at hj
          cases hA : A i with
          | none => have := h6 hA; omega
          | some a' =>
            obtain ⟨_, h8⟩ := h7 a' hA
            refine ⟨a', rfl, hlt (.cell a'.block a'.off) ?_, ?_⟩
            · rw [List.mem_append]
              refine .inr (List.mem_flatMap.2 ⟨i, List.mem_range.2 (by omega), ?_⟩)
              rw [hA]
              exact MemPlace.mem_row.2 ⟨0, by omega, by simp⟩
            · rw [h8 j (by omega), List.getD_eq_getElem?_getD, List.getD_eq_getElem?_getD, List.getElem?_take_of_lt (by omega)]
    · rw [List.length_map, List.length_range]
      unfold reachBytes at hsz; omega
    · obtain ⟨r, hr, rfl⟩ := List.mem_map.1 hl
      have hr' := List.mem_range.1 hr
      obtain ⟨_, h2, _, h4, h5, _, _⟩ := hrow r (by omega)
      refine ⟨?_, fun x hx => bounds_i64 (h5 x (List.mem_of_mem_take hx))⟩
      rw [List.length_take, Nat.min_eq_left (by omega)]
      exact hlen r hr'
end

end Go.Proofs.Ytcnagcdgpgijaaa.L
