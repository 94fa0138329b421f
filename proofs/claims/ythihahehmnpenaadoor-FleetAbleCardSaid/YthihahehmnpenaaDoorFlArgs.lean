/-
  DERIVED. Slices of types, a type and a network by value, as arguments.
-/
import Derived.Test.YthihahehmnpenaaDoorFlAwake
import Derived.ProofKit
import Derived.LaidMore
import Derived.ChangeSlices
import Derived.SliceStrings
import Derived.Carry
import Derived.OpenShut
import Derived.Deep.SlicePairs
import Derived.Deep.Slices
import Derived.Deep.Fields
import Derived.Lib.SmallJoins
namespace Go.Proofs.YthihahehmnpenaaDoor.T
open Go.Joins Go.ChangeShapes Go.WideShapes Go.ChangeAt Go.RowKit Go.Deep
set_option maxRecDepth 8000

theorem laidOut : laidOutB Tryd.prog = true := by kernel_rfl
section
variable {H : Type} {enc : TypeId × Value → H}
theorem row_lt {W : World} {a : Addr} {n m : Nat} {p q : List MemPlace} (hp : p = MemPlace.row a m ++ q) (hlt : ∀ x ∈ p, x.block < W.heap.size) (hn : n < m) : a.block < W.heap.size := by
  subst hp
  obtain ⟨b, off, spot⟩ := a
  exact hlt (.cell b off) (List.mem_append.2 (.inl (MemPlace.mem_row.2 ⟨0, by omega, by simp⟩)))

/-! ### slices of int -/
theorem ints_of {W : World} {base : Nat} {v : Value} {y : DataW H × List MemPlace} {n : Nat}
    (hf : DataW.trod enc Tryd.prog W base (fun _ => true) true n 34 [v] = some y) (hlt : ∀ x ∈ y.2, x.block < W.heap.size) :
    ∃ (oa : Option Addr) (c : Nat) (l : List Int), v = .slice oa l.length c ∧ L.Li W v l ∧ l.length ≤ 9223372036854775807 := by
  obtain ⟨y1, y2⟩ := y
  simp only at hlt
  rcases open_ints Tryd.underlying34 Tryd.underlying3 (by kernel_rfl) hf with ⟨hcs, hx⟩ | ⟨a, len, cap, zs, hcs, _, hl, hm, hzl, hx, hcell, hwz⟩
  · simp only [List.cons.injEq, and_true] at hcs
    subst hcs
    exact ⟨none, 0, [], rfl, L.Li.nil W, by simp⟩
  · simp only [List.cons.injEq, and_true] at hcs
    subst hcs
    simp only [if_true] at hzl
    simp only [Prod.mk.injEq] at hx
    have hln : (zs.take len).length = len := by rw [List.length_take, Nat.min_eq_left (by omega)]
    refine ⟨some a, cap, zs.take len, by rw [hln], ⟨some a, cap, by rw [hln], fun i hi => ?_⟩, by rw [hln]; unfold maxLen at hm; omega⟩
    rw [hln] at hi
    refine ⟨a, rfl, row_lt (q := []) (n := i) (by rw [List.append_nil]; exact hx.2) hlt (show i < zs.length by omega), ?_⟩
    rw [hcell i (by omega), List.getD_eq_getElem?_getD, List.getD_eq_getElem?_getD, List.getElem?_take_of_lt (by omega)]

/-! ### one type -/
theorem type_of {W : World} {base : Nat} {cs : List Value} {x : DataW H × List MemPlace} {n : Nat} (hlen : cs.length = 14)
    (hf : DataW.trod enc Tryd.prog W base (fun _ => true) true n 36 cs = some x) (hlt : ∀ p ∈ x.2, p.block < W.heap.size) :
    ∃ (q : TyT) (oa : Option Addr) (c : Nat), cs = [.string q.name, .int .i64 q.count, .int .i64 q.fr, .int .i64 q.to, .slice oa q.cap.length c, .int .i64 q.skills, .int .i64 q.prof, .int .i64 q.opn, .int .i64 q.cls, .int .i64 q.drv, .int .i64 q.rst, .int .i64 q.fix, .int .i64 q.pm, .int .i64 q.pt] ∧
      L.Li W (.slice oa q.cap.length c) q.cap ∧ q.cap.length ≤ 9223372036854775807 ∧ q.name.size ≤ 9223372036854775807 ∧ q.skills ≤ 9223372036854775807 := by
  have he : Tryd.prog.underlying 36 = some (.struct #[_, _, _, _, _, _, _, _, _, _, _, _, _, _]) := Tryd.underlying36
  obtain ⟨xs, n', _, hx, _, hxl, hg⟩ := DataW.trod_struct he hf
  match cs, hlen with
  | [v0, v1, v2, v3, v4, v5, v6, v7, v8, v9, v10, v11, v12, v13], _ =>
    match xs, hxl with
    | [y0, y1, y2, y3, y4, y5, y6, y7, y8, y9, y10, y11, y12, y13], _ =>
      have k0 := hg 0 _ rfl
      have k1 := hg 1 _ rfl
      have k2 := hg 2 _ rfl
      have k3 := hg 3 _ rfl
      have k4 := hg 4 _ rfl
      have k5 := hg 5 _ rfl
      have k6 := hg 6 _ rfl
      have k7 := hg 7 _ rfl
      have k8 := hg 8 _ rfl
      have k9 := hg 9 _ rfl
      have k10 := hg 10 _ rfl
      have k11 := hg 11 _ rfl
      have k12 := hg 12 _ rfl
      have k13 := hg 13 _ rfl
      have o1 : Tryd.prog.cellsOf 3 = 1 := by kernel_rfl
      have o2 : Tryd.prog.cellsOf 34 = 1 := by kernel_rfl
      have o3 : Tryd.prog.cellsOf 9 = 1 := by kernel_rfl
      simp [o1, o2, o3] at k0 k1 k2 k3 k4 k5 k6 k7 k8 k9 k10 k11 k12 k13
      obtain ⟨s0, e0, z0⟩ : ∃ s : ByteArray, v0 = .string s ∧ s.size ≤ maxLen := by
        obtain ⟨s, e0, _, hs⟩ := DataW.trod_string Tryd.underlying9 k0
        simp only [List.cons.injEq, and_true] at e0
        exact ⟨s, e0, hs⟩
      obtain ⟨q1, e1, _, _⟩ := DataW.trod_int Tryd.underlying3 k1
      obtain ⟨q2, e2, _, _⟩ := DataW.trod_int Tryd.underlying3 k2
      obtain ⟨q3, e3, _, _⟩ := DataW.trod_int Tryd.underlying3 k3
      obtain ⟨q5, e5, _, w5⟩ := DataW.trod_int Tryd.underlying3 k5
      obtain ⟨q6, e6, _, _⟩ := DataW.trod_int Tryd.underlying3 k6
      obtain ⟨q7, e7, _, _⟩ := DataW.trod_int Tryd.underlying3 k7
      obtain ⟨q8, e8, _, _⟩ := DataW.trod_int Tryd.underlying3 k8
      obtain ⟨q9, e9, _, _⟩ := DataW.trod_int Tryd.underlying3 k9
      obtain ⟨q10, e10, _, _⟩ := DataW.trod_int Tryd.underlying3 k10
      obtain ⟨q11, e11, _, _⟩ := DataW.trod_int Tryd.underlying3 k11
      obtain ⟨q12, e12, _, _⟩ := DataW.trod_int Tryd.underlying3 k12
      obtain ⟨q13, e13, _, _⟩ := DataW.trod_int Tryd.underlying3 k13
      simp only [List.cons.injEq, and_true] at e1 e2 e3 e5 e6 e7 e8 e9 e10 e11 e12 e13
      subst e0 e1 e2 e3 e5 e6 e7 e8 e9 e10 e11 e12 e13
      subst hx
      obtain ⟨oa, c, l, rfl, hl, hl9⟩ := ints_of k4 (fun p hp => hlt p (by simp; exact .inr (.inr (.inr (.inr (.inl hp))))))
      refine ⟨⟨s0, q1, q2, q3, l, q5, q6, q7, q8, q9, q10, q11, q12, q13⟩, oa, c, rfl, hl, hl9, by unfold maxLen at z0; exact z0, ?_⟩
      have := bounds_i64 w5
      exact this.2
theorem arg_type {W : World} {base : Nat} {v : Value} {d : DataW H} {p : List MemPlace}
    (hv : Value.okWide Tryd.prog W .any base 36 v) (h : DataW.Trod enc Tryd.prog W 0 (fun _ => true) true 36 v d p) (hlt : ∀ x ∈ p, x.block < W.heap.size) :
    ∃ (q : TyT) (oa : Option Addr) (c : Nat), v = .agg #[.string q.name, .int .i64 q.count, .int .i64 q.fr, .int .i64 q.to, .slice oa q.cap.length c, .int .i64 q.skills, .int .i64 q.prof, .int .i64 q.opn, .int .i64 q.cls, .int .i64 q.drv, .int .i64 q.rst, .int .i64 q.fix, .int .i64 q.pm, .int .i64 q.pt] ∧
      L.Li W (.slice oa q.cap.length c) q.cap ∧ q.cap.length ≤ 9223372036854775807 ∧ q.name.size ≤ 9223372036854775807 ∧ q.skills ≤ 9223372036854775807 := by
  have hC : Tryd.prog.cellsOf 36 = 14 := by kernel_rfl
  obtain ⟨cs, rfl, hsz⟩ := okWide_struct Tryd.underlying36 hv
  obtain ⟨fuel, hf⟩ := h
  obtain ⟨q, oa, c, hcs, h1, h2, h3, h4⟩ := type_of (cs := cs.toList) (by rw [Array.length_toList, hsz]; exact hC) hf hlt
  refine ⟨q, oa, c, ?_, h1, h2, h3, h4⟩
  rw [← Array.toArray_toList (xs := cs), hcs]
/-! ### slices of types -/
theorem arg_types {W : World} {base : Nat} {v : Value} {d : DataW H} {p : List MemPlace}
    (hv : Value.okWide Tryd.prog W .any base 26 v) (h : DataW.Trod enc Tryd.prog W 0 (fun _ => true) true 26 v d p) (hlt : ∀ x ∈ p, x.block < W.heap.size) :
    ∃ (oa : Option Addr) (c : Nat) (l : List TyT), v = .slice oa l.length c ∧ l.length ≤ c ∧ Ts W (.slice oa l.length c) l ∧ l.length ≤ 9223372036854775807 ∧ ∀ i, i < l.length → (l.getD i ty0).cap.length ≤ 9223372036854775807 ∧ (l.getD i ty0).name.size ≤ 9223372036854775807 := by
  obtain ⟨a0, len0, cap0, rfl⟩ := okWide_slice Tryd.underlying26 hv
  obtain ⟨fuel, hf⟩ := h
  have hC : Tryd.prog.cellsOf 36 = 14 := by kernel_rfl
  rcases open_slice Tryd.underlying26 hf with ⟨hcs, hx⟩ | ⟨a, len, cap, m, n, D, Pl, hcs, _, hl, hm, hmm, hx, hall⟩
  · simp [Value.cells] at hcs
    obtain ⟨rfl, rfl, rfl⟩ := hcs
    exact ⟨none, 0, [], rfl, Nat.le_refl _, Ts.nil W, by simp, fun i hi => by cases hi⟩
  · simp [Value.cells] at hcs
    obtain ⟨rfl, rfl, rfl⟩ := hcs
    simp only [if_true] at hmm
    simp only [Prod.mk.injEq] at hx
    rw [hC] at hx hall
    have key : ∀ i, i < len0 → ∃ q : TyT × Value, (W.cell? ((a.add (i * 14)).add 0) = some (.string q.1.name) ∧ W.cell? ((a.add (i * 14)).add 1) = some (.int .i64 q.1.count) ∧ W.cell? ((a.add (i * 14)).add 2) = some (.int .i64 q.1.fr) ∧ W.cell? ((a.add (i * 14)).add 3) = some (.int .i64 q.1.to) ∧ W.cell? ((a.add (i * 14)).add 4) = some (q.2) ∧ W.cell? ((a.add (i * 14)).add 5) = some (.int .i64 q.1.skills) ∧ W.cell? ((a.add (i * 14)).add 6) = some (.int .i64 q.1.prof) ∧ W.cell? ((a.add (i * 14)).add 7) = some (.int .i64 q.1.opn) ∧ W.cell? ((a.add (i * 14)).add 8) = some (.int .i64 q.1.cls) ∧ W.cell? ((a.add (i * 14)).add 9) = some (.int .i64 q.1.drv) ∧ W.cell? ((a.add (i * 14)).add 10) = some (.int .i64 q.1.rst) ∧ W.cell? ((a.add (i * 14)).add 11) = some (.int .i64 q.1.fix) ∧ W.cell? ((a.add (i * 14)).add 12) = some (.int .i64 q.1.pm) ∧ W.cell? ((a.add (i * 14)).add 13) = some (.int .i64 q.1.pt)) ∧ L.Li W q.2 q.1.cap ∧ q.1.cap.length ≤ 9223372036854775807 ∧ q.1.name.size ≤ 9223372036854775807 := fun i hi => by
      obtain ⟨cs', hc, ht⟩ := hall i (by omega)
      obtain ⟨_, hlen, hat⟩ := World.cells?_some hc
      obtain ⟨q, oa, c, hcs, h1, h2, h3, -⟩ := type_of hlen ht (fun p hp => hlt p (by
        rw [hx.2, List.mem_append]
        exact .inr (List.mem_flatMap.2 ⟨i, List.mem_range.2 (by omega), hp⟩)))
      subst hcs
      exact ⟨⟨q, .slice oa q.cap.length c⟩, ⟨by rw [hat 0 (by omega)]; rfl, by rw [hat 1 (by omega)]; rfl, by rw [hat 2 (by omega)]; rfl, by rw [hat 3 (by omega)]; rfl, by rw [hat 4 (by omega)]; rfl, by rw [hat 5 (by omega)]; rfl, by rw [hat 6 (by omega)]; rfl, by rw [hat 7 (by omega)]; rfl, by rw [hat 8 (by omega)]; rfl, by rw [hat 9 (by omega)]; rfl, by rw [hat 10 (by omega)]; rfl, by rw [hat 11 (by omega)]; rfl, by rw [hat 12 (by omega)]; rfl, by rw [hat 13 (by omega)]; rfl⟩, h1, h2, h3⟩
    haveI : Inhabited (TyT × Value) := ⟨⟨ty0, .bool true⟩⟩
    obtain ⟨q, hq⟩ := choose_lt key
    have hln : ((List.range len0).map fun i => (q i).1).length = len0 := by simp
    have eg : ∀ i, i < len0 → ((List.range len0).map fun i => (q i).1).getD i ty0 = (q i).1 := fun i hi => by
      rw [List.getD_eq_getElem?_getD, List.getElem?_map, List.getElem?_range hi]; rfl
    refine ⟨some a, cap0, (List.range len0).map fun i => (q i).1, by rw [hln], by rw [hln]; exact hl, ⟨some a, cap0, by rw [hln], fun i hi => ?_⟩, by rw [hln]; unfold maxLen at hm; omega, fun i hi => ?_⟩
    · rw [hln] at hi
      obtain ⟨⟨h0, h1, h2, h3, h4, h5, h6, h7, h8, h9, h10, h11, h12, h13⟩, hcp, -⟩ := hq i hi
      have hb := row_lt (n := i) hx.2 hlt (show i < m * 14 by omega)
      obtain ⟨b, o, spot⟩ := a
      have hspot : spot = none := by
        obtain ⟨⟨z0, -⟩, -⟩ := hq 0 (by omega)
        simpa [Addr.add] using World.cell?_spot z0
      subst hspot
      rw [add_pl, add_pl] at h0 h1 h2 h3 h4 h5 h6 h7 h8 h9 h10 h11 h12 h13
      rw [eg i hi]
      exact ⟨b, o, (q i).2, rfl, hb, ⟨h0, h1, h2, h3, h4, h5, h6, h7, h8, h9, h10, h11, h12, h13⟩, hcp⟩
    · rw [hln] at hi
      rw [eg i hi]
      exact (hq i hi).2.2
/-! ### networks -/
theorem arg_net {W : World} {base : Nat} {v : Value} {d : DataW H} {p : List MemPlace}
    (hv : Value.okWide Tryd.prog W .any base 25 v) (h : DataW.Trod enc Tryd.prog W 0 (fun _ => true) true 25 v d p) :
    ∃ (op : Option Addr) (np cp : Nat) (on : Option Addr) (na ca : Nat), v = .agg #[.slice op np cp, .slice on na ca] ∧ np ≤ 9223372036854775807 := by
  have he : Tryd.prog.underlying 25 = some (.struct #[_, _]) := Tryd.underlying25
  obtain ⟨c0, c1, y0, y1, n, rfl, rfl, rfl, h0, h1⟩ := open_agg2 he (by kernel_rfl) (by kernel_rfl) hv h
  have e1 : ∃ on na ca, c1 = .slice on na ca := by
    rcases open_slice Tryd.underlying23 h1 with ⟨hcs, -⟩ | ⟨a, len, cap, m, n, D, Pl, hcs, -⟩
    · simp only [List.cons.injEq, and_true] at hcs
      exact ⟨_, _, _, hcs⟩
    · simp only [List.cons.injEq, and_true] at hcs
      exact ⟨_, _, _, hcs⟩
  obtain ⟨on, na, ca, rfl⟩ := e1
  rcases open_slice Tryd.underlying22 h0 with ⟨hcs, -⟩ | ⟨a, len, cap, m, n, D, Pl, hcs, _, hl, hm, -⟩
  · simp only [List.cons.injEq, and_true] at hcs
    subst hcs
    exact ⟨_, _, _, _, _, _, rfl, by omega⟩
  · simp only [List.cons.injEq, and_true] at hcs
    subst hcs
    exact ⟨_, _, _, _, _, _, rfl, by unfold maxLen at hm; omega⟩
end

end Go.Proofs.YthihahehmnpenaaDoor.T

