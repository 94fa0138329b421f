/-
  DERIVED. Ee: a part of the base of layer 13 (made by pack.py).
-/
import Derived.Test.YtnapmildbodigaaDoorGA
import Derived.Test.YtnapmildbodigaaDoorDe
import Derived.Test.YtnapmildbodigaaDoorEd
import Derived.Test.YtnapmildbodigaaDoorFc
/-! A schedule as an argument. -/
namespace Go.Proofs.YtnapmildbodigaaDoor.T
open Go.Joins Go.ChangeShapes Go.WideShapes Go.ChangeAt Go.RowKit Go.Deep
set_option maxRecDepth 8000

section
variable {H : Type} {enc : TypeId × Value → H}
theorem four_sum {α : Type} {f : α → Nat} (h : ∀ a, 4 ≤ f a) : ∀ l : List α, l.length * 4 ≤ (l.map f).sum
 | [] => Nat.zero_le _
 | a :: l => by
  have := four_sum h l
  have := h a
  rw [List.map_cons, List.sum_cons, List.length_cons]
  omega
theorem times_of {W : World} {base : Nat} {v : Value} {y : DataW H × List MemPlace} {n : Nat}
  (hf : DataW.trod enc Tryd.prog W base (fun _ => true) true n 37 [v] = some y) (hlt : ∀ x ∈ y.2, x.block < W.heap.size) :
  ∃ (oa : Option Addr) (c b o : Nat) (T : List TmT), v = .slice oa T.length c ∧ Rw W b o 4 (fun k => tmE (T.getD k tm0)) T.length oa ∧ T.length * 4 ≤ Rows.uptoBulk y.1 := by
 have he : Tryd.prog.underlying 53 = some (.struct #[_, _, _, _]) := Tryd.underlying53
 haveI : Inhabited TmT := ⟨tm0⟩
 obtain ⟨oa, c, l, h1, h9, h2⟩ := rows_ofB tm0 4 (by decide) Tryd.underlying37 (by kernel_rfl) (fun cs p => cs = [.int .i64 p.a, .int .i64 p.b, .int .i64 p.d, .bool p.r]) (fun _ => 4) (fun cs x m hl ht _ => by
  obtain ⟨xs, n', _, hx, _, hxl, hg⟩ := DataW.trod_struct he ht
  match cs, hl with
  | [v0, v1, v2, v3], _ =>
   match xs, hxl with
   | [y0, y1, y2, y3], _ =>
    have k0 := hg 0 _ rfl
    have k1 := hg 1 _ rfl
    have k2 := hg 2 _ rfl
    have k3 := hg 3 _ rfl
    have o1 : Tryd.prog.cellsOf 3 = 1 := by kernel_rfl
    have o5 : Tryd.prog.cellsOf 4 = 1 := by kernel_rfl
    simp [o1, o5] at k0 k1 k2 k3
    obtain ⟨q0, e0, _, _⟩ := DataW.trod_int Tryd.underlying3 k0
    obtain ⟨q1, e1, _, _⟩ := DataW.trod_int Tryd.underlying3 k1
    obtain ⟨q2, e2, _, _⟩ := DataW.trod_int Tryd.underlying3 k2
    obtain ⟨q3, e3, _⟩ := DataW.trod_bool Tryd.underlying4 k3
    simp only [List.cons.injEq, and_true] at e0 e1 e2 e3
    subst e0 e1 e2 e3
    refine ⟨⟨q0, q1, q2, q3⟩, rfl, ?_⟩
    rw [hx]
    have b0 := bulk_pos y0.1
    have b1 := bulk_pos y1.1
    have b2 := bulk_pos y2.1
    have b3 := bulk_pos y3.1
    simp only [List.map_cons, List.map_nil, Rows.uptoBulk, Rows.uptoBulkAll]
    omega) hf hlt
 have hb : l.length * 4 ≤ Rows.uptoBulk y.1 := by have := four_sum (f := fun _ : TmT => 4) (fun _ => Nat.le_refl 4) l; omega
 cases l with
 | nil => exact ⟨oa, c, 0, 0, [], h1, fun i hi => absurd hi (Nat.not_lt_zero i), hb⟩
 | cons x l =>
  obtain ⟨b, o, cs0, e, -⟩ := h2 0 (by simp)
  refine ⟨oa, c, b, o, x :: l, h1, fun i hi => ?_, hb⟩
  obtain ⟨b', o', cs, e', hb', rfl, -, hc⟩ := h2 i hi
  rw [e] at e'
  simp only [Option.some.injEq, Addr.mk.injEq, and_true] at e'
  obtain ⟨rfl, rfl⟩ := e'
  refine ⟨e, hb', fun j v hj => ?_⟩
  unfold tmE at hj
  match j, hj with
  | 0, hj => simp only [List.getElem?_cons_zero, Option.some.injEq] at hj; subst hj; exact hc 0 (by decide)
  | 1, hj => simp only [List.getElem?_cons_succ, List.getElem?_cons_zero, Option.some.injEq] at hj; subst hj; exact hc 1 (by decide)
  | 2, hj => simp only [List.getElem?_cons_succ, List.getElem?_cons_zero, Option.some.injEq] at hj; subst hj; exact hc 2 (by decide)
  | 3, hj => simp only [List.getElem?_cons_succ, List.getElem?_cons_zero, Option.some.injEq] at hj; subst hj; exact hc 3 (by decide)
  | j + 4, hj => simp at hj
/-- a schedule by value -/
theorem arg_sheet {W : World} {base : Nat} {v : Value} {d : DataW H} {p : List MemPlace}
  (hv : Value.okWide Tryd.prog W .any base 39 v) (h : DataW.Trod enc Tryd.prog W 0 (fun _ => true) true 39 v d p) (hlt : ∀ x ∈ p, x.block < W.heap.size) (hk : Rows.uptoBulk d ≤ 1048576) :
  ∃ (S : ShT) (oa : Option Addr) (c b o : Nat), v = .agg #[.bool S.r, .int .i64 S.d, .slice oa S.T.length c, .int .i64 S.e, .int .i64 S.m] ∧ Rw W b o 4 (fun k => tmE (S.T.getD k tm0)) S.T.length oa ∧ S.T.length ≤ 300000 := by
 have hC : Tryd.prog.cellsOf 39 = 5 := by kernel_rfl
 obtain ⟨cs, rfl, hsz⟩ := okWide_struct Tryd.underlying39 hv
 obtain ⟨fuel, hf⟩ := h
 have he : Tryd.prog.underlying 39 = some (.struct #[_, _, _, _, _]) := Tryd.underlying39
 obtain ⟨xs, n', _, hx, _, hxl, hg⟩ := DataW.trod_struct he hf
 obtain ⟨l⟩ := cs
 have hl4 : l.length = 5 := by rw [← hC]; exact hsz
 match l, hl4 with
 | [v0, v1, v2, v3, v4], _ =>
  match xs, hxl with
  | [y0, y1, y2, y3, y4], _ =>
   have k0 := hg 0 _ rfl
   have k1 := hg 1 _ rfl
   have k2 := hg 2 _ rfl
   have k3 := hg 3 _ rfl
   have k4 := hg 4 _ rfl
   have o1 : Tryd.prog.cellsOf 3 = 1 := by kernel_rfl
   have o3 : Tryd.prog.cellsOf 37 = 1 := by kernel_rfl
   have o4 : Tryd.prog.cellsOf 4 = 1 := by kernel_rfl
   simp [o1, o3, o4, Value.cells] at k0 k1 k2 k3 k4
   obtain ⟨r, e0, _⟩ := DataW.trod_bool Tryd.underlying4 k0
   obtain ⟨dd, e1, _, _⟩ := DataW.trod_int Tryd.underlying3 k1
   obtain ⟨ee, e3, _, _⟩ := DataW.trod_int Tryd.underlying3 k3
   obtain ⟨mm, e4, _, _⟩ := DataW.trod_int Tryd.underlying3 k4
   simp only [List.cons.injEq, and_true] at e0 e1 e3 e4
   subst e0 e1 e3 e4
   simp only [Prod.mk.injEq] at hx
   obtain ⟨hx1, hx2⟩ := hx
   obtain ⟨oa, c, b, o, T, rfl, hT, hb⟩ := times_of k2 (fun p hp => hlt p (by rw [hx2]; simp; exact .inr (.inr (.inl hp))))
   refine ⟨⟨r, dd, T, ee, mm⟩, oa, c, b, o, rfl, hT, ?_⟩
   have hb2 : Rows.uptoBulk y2.1 + 1 ≤ Rows.uptoBulk d := by rw [hx1]; exact bulk_agg (by simp)
   show T.length ≤ 300000
   omega
end
end Go.Proofs.YtnapmildbodigaaDoor.T


