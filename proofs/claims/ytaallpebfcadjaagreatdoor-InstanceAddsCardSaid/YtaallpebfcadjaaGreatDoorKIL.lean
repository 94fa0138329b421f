/-
  DERIVED. KIL: a part of the base of layer 13 (made by pack.py).
-/
import Derived.Test.YtaallpebfcadjaaGreatDoorKPU
import Derived.Test.YtaallpebfcadjaaGreatDoorKIH
import Derived.Test.YtaallpebfcadjaaGreatDoorCards
import Derived.Test.YtaallpebfcadjaaGreatDoorTie
import Derived.Deep.DeepHandedRow
import Derived.Stop.LaidErr
import Derived.SevenTiedAt
import Derived.Lay
import Derived.MakeChecks
import Derived.Test.YtaallpebfcadjaaGreatDoorKIC
/-! An instance by value, opened whole, as an argument. -/
namespace Go.Proofs.YtaallpebfcadjaaGreatDoor.T
open Go.Joins Go.ChangeShapes Go.WideShapes Go.ChangeAt Go.RowKit Go.Deep
set_option maxRecDepth 8000

section
variable {H : Type} {enc : TypeId × Value → H}
/-- a slice whose elements take k cells: the list of what they are -/
theorem rows_of {α : Type} [Inhabited α] (d : α) {W : World} {base : Nat} {v : Value} {y : DataW H × List MemPlace} {n : Nat} {t e : TypeId} (k : Nat) (hk : 0 < k) (hu : Tryz.prog.underlying t = some (.slice e)) (hC : Tryz.prog.cellsOf e = k) (P : List Value → α → Prop)
    (hone : ∀ (cs : List Value) (x : DataW H × List MemPlace) (m : Nat), cs.length = k → DataW.trod enc Tryz.prog W base (fun _ => true) true m e cs = some x → (∀ p ∈ x.2, p.block < W.heap.size) → ∃ q, P cs q)
    (hf : DataW.trod enc Tryz.prog W base (fun _ => true) true n t [v] = some y) (hlt : ∀ x ∈ y.2, x.block < W.heap.size) :
    ∃ (oa : Option Addr) (c : Nat) (l : List α), v = .slice oa l.length c ∧ l.length ≤ c ∧ ∀ i, i < l.length → ∃ (b o : Nat) (cs : List Value), oa = some ⟨b, o, none⟩ ∧ b < W.heap.size ∧ P cs (l.getD i d) ∧ cs.length = k ∧ ∀ j, j < k → W.cell? ⟨b, o + i * k + j, none⟩ = cs[j]? := by
  obtain ⟨y1, y2⟩ := y
  simp only at hlt
  rcases open_slice hu hf with ⟨hcs, hx⟩ | ⟨a, len, cap, m, n, D, Pl, hcs, _, hl, hm, hmm, hx, hall⟩
  · simp only [List.cons.injEq, and_true] at hcs
    subst hcs
    exact ⟨none, 0, [], rfl, Nat.le_refl _, fun i hi => by cases hi⟩
  · simp only [List.cons.injEq, and_true] at hcs
    subst hcs
    simp only [if_true] at hmm
    simp only [Prod.mk.injEq] at hx
    rw [hC] at hx hall
    have key : ∀ i, i < len → ∃ q : α × List Value, P q.2 q.1 ∧ q.2.length = k ∧ ∀ j, j < k → W.cell? ((a.add (i * k)).add j) = q.2[j]? := fun i hi => by
      obtain ⟨cs', hc, ht⟩ := hall i (by omega)
      obtain ⟨_, hlen, hat⟩ := World.cells?_some hc
      obtain ⟨q, hq⟩ := hone cs' _ _ hlen ht (fun p hp => hlt p (by
        rw [hx.2, List.mem_append]
        exact .inr (List.mem_flatMap.2 ⟨i, List.mem_range.2 (by omega), hp⟩)))
      exact ⟨⟨q, cs'⟩, hq, hlen, fun j hj => hat j (by omega)⟩
    haveI : Inhabited (α × List Value) := ⟨⟨d, []⟩⟩
    obtain ⟨q, hq⟩ := choose_lt key
    have hln : ((List.range len).map fun i => (q i).1).length = len := by simp
    have eg : ∀ i, i < len → ((List.range len).map fun i => (q i).1).getD i d = (q i).1 := fun i hi => by
      rw [List.getD_eq_getElem?_getD, List.getElem?_map, List.getElem?_range hi]; rfl
    refine ⟨some a, cap, (List.range len).map fun i => (q i).1, by rw [hln], by rw [hln]; exact hl, fun i hi => ?_⟩
    rw [hln] at hi
    obtain ⟨h0, h1, h2⟩ := hq i hi
    have hb := row_lt (n := i) hx.2 hlt (show i < m * k from Nat.lt_of_lt_of_le (by omega : i < m) (Nat.le_mul_of_pos_right m hk))
    obtain ⟨b, o, spot⟩ := a
    have hspot : spot = none := by
      obtain ⟨-, z1, z2⟩ := hq 0 (by omega)
      have z3 := z2 0 hk
      rw [List.getElem?_eq_getElem (by omega)] at z3
      simpa [Addr.add] using World.cell?_spot z3
    subst hspot
    rw [eg i hi]
    exact ⟨b, o, (q i).2, rfl, hb, h0, h1, fun j hj => by rw [← h2 j hj, add_pl, add_pl]⟩
theorem strs_of {W : World} {base : Nat} {v : Value} {y : DataW H × List MemPlace} {n : Nat}
    (hf : DataW.trod enc Tryz.prog W base (fun _ => true) true n 22 [v] = some y) (hlt : ∀ x ∈ y.2, x.block < W.heap.size) :
    ∃ (oa : Option Addr) (c : Nat) (l : List ByteArray), v = .slice oa l.length c ∧ Ss W (.slice oa l.length c) l ∧ ∀ i, i < l.length → (l.getD i ⟨#[]⟩).size ≤ maxLen := by
  haveI : Inhabited ByteArray := ⟨⟨#[]⟩⟩
  obtain ⟨oa, c, l, h1, -, h2⟩ := rows_of (⟨#[]⟩ : ByteArray) 1 (by decide) Tryz.underlying22 (by kernel_rfl) (fun cs s => cs = [.string s] ∧ s.size ≤ maxLen) (fun cs x m hl ht _ => by
    match cs, hl with
    | [v0], _ =>
      obtain ⟨s, e0, _, hs⟩ := DataW.trod_string Tryz.underlying9 ht
      exact ⟨s, e0, hs⟩) hf hlt
  refine ⟨oa, c, l, h1, ⟨oa, c, rfl, fun i hi => ?_⟩, fun i hi => ?_⟩
  · obtain ⟨b, o, cs, e, hb, ⟨rfl, -⟩, -, hc⟩ := h2 i hi
    have := hc 0 (by decide)
    rw [Nat.mul_one, Nat.add_zero] at this
    exact ⟨_, e, hb, by rw [add_pl]; exact this⟩
  · obtain ⟨b, o, cs, e, hb, ⟨-, hs⟩, -⟩ := h2 i hi
    exact hs
theorem points_of {W : World} {base : Nat} {v : Value} {y : DataW H × List MemPlace} {n : Nat}
    (hf : DataW.trod enc Tryz.prog W base (fun _ => true) true n 52 [v] = some y) (hlt : ∀ x ∈ y.2, x.block < W.heap.size) :
    ∃ l : List (Int × Int), Ps W v l := by
  have he : Tryz.prog.underlying 105 = some (.struct #[_, _]) := Tryz.underlying105
  obtain ⟨oa, c, l, h1, -, h2⟩ := rows_of ((0, 0) : Int × Int) 2 (by decide) Tryz.underlying52 (by kernel_rfl) (fun cs p => cs = [.int .i64 p.1, .int .i64 p.2]) (fun cs x m hl ht _ => by
    obtain ⟨xs, n', _, hx, _, hxl, hg⟩ := DataW.trod_struct he ht
    match cs, hl with
    | [v0, v1], _ =>
      match xs, hxl with
      | [y0, y1], _ =>
        have k0 := hg 0 _ rfl
        have k1 := hg 1 _ rfl
        have o1 : Tryz.prog.cellsOf 3 = 1 := by kernel_rfl
        simp [o1] at k0 k1
        obtain ⟨q0, e0, _, _⟩ := DataW.trod_int Tryz.underlying3 k0
        obtain ⟨q1, e1, _, _⟩ := DataW.trod_int Tryz.underlying3 k1
        simp only [List.cons.injEq, and_true] at e0 e1
        subst e0 e1
        exact ⟨(q0, q1), rfl⟩) hf hlt
  refine ⟨l, oa, c, h1, fun i hi => ?_⟩
  obtain ⟨b, o, cs, e, hb, rfl, -, hc⟩ := h2 i hi
  have c0 := hc 0 (by decide)
  have c1 := hc 1 (by decide)
  exact ⟨b, o, e, hb, c0, c1⟩
theorem prs_of {W : World} {base : Nat} {v : Value} {y : DataW H × List MemPlace} {n : Nat}
    (hf : DataW.trod enc Tryz.prog W base (fun _ => true) true n 28 [v] = some y) (hlt : ∀ x ∈ y.2, x.block < W.heap.size) :
    ∃ (oa : Option Addr) (c : Nat) (l : List (Int × Int)), v = .slice oa l.length c ∧ Ps W (.slice oa l.length c) l ∧ ∀ p ∈ l, In64 p := by
  have hu : Tryz.prog.underlying 75 = some (.array 2 3) := Tryz.underlying75
  have hC2 : Tryz.prog.cellsOf 75 = 2 := by kernel_rfl
  obtain ⟨oa, c, l, h1, -, h2⟩ := rows_of ((0, 0) : Int × Int) 2 (by decide) Tryz.underlying28 (by kernel_rfl) (fun cs p => cs = [.int .i64 p.1, .int .i64 p.2] ∧ In64 p) (fun cs x m hl ht _ => by
    obtain ⟨xs, m, _, hx, hlen, hxl, hg⟩ := DataW.trod_array hu ht
    match cs, hl with
    | [v0, v1], _ =>
      match xs, hxl with
      | [y0, y1], _ =>
        have k0 := hg 0 (by omega)
        have k1 := hg 1 (by omega)
        have o1 : Tryz.prog.cellsOf 3 = 1 := by kernel_rfl
        simp [o1] at k0 k1
        obtain ⟨q0, e0, _, w0⟩ := DataW.trod_int Tryz.underlying3 k0
        obtain ⟨q1, e1, _, w1⟩ := DataW.trod_int Tryz.underlying3 k1
        simp only [List.cons.injEq, and_true] at e0 e1
        subst e0 e1
        exact ⟨(q0, q1), rfl, wf_i64 w0, wf_i64 w1⟩) hf hlt
  refine ⟨oa, c, l, h1, ⟨oa, c, rfl, fun i hi => ?_⟩, fun p hp => ?_⟩
  · obtain ⟨b, o, cs, e, hb, ⟨rfl, -⟩, -, hc⟩ := h2 i hi
    have c0 := hc 0 (by decide)
    have c1 := hc 1 (by decide)
    exact ⟨b, o, e, hb, c0, c1⟩
  · obtain ⟨i, hi, rfl⟩ := List.getElem_of_mem hp
    obtain ⟨b, o, cs, e, hb, ⟨-, h6⟩, -⟩ := h2 i hi
    rw [List.getD_eq_getElem?_getD, List.getElem?_eq_getElem hi] at h6
    exact h6
theorem arcsW_of {W : World} {base : Nat} {v : Value} {y : DataW H × List MemPlace} {n : Nat}
    (hf : DataW.trod enc Tryz.prog W base (fun _ => true) true n 23 [v] = some y) (hlt : ∀ x ∈ y.2, x.block < W.heap.size) :
    ∃ (oa : Option Addr) (c : Nat) (l : List ArcT), v = .slice oa l.length c ∧ As W (.slice oa l.length c) l ∧ Wfa l := by
  have he : Tryz.prog.underlying 54 = some (.struct #[_, _, _, _, _, _]) := Tryz.underlying54
  haveI : Inhabited ArcT := ⟨arc0⟩
  obtain ⟨oa, c, l, h1, -, h2⟩ := rows_of arc0 6 (by decide) Tryz.underlying23 (by kernel_rfl) (fun cs a => (∃ vt vs, cs = [.int .i64 a.fr, .int .i64 a.to, .int .i64 a.prof, .int .i64 a.miles, vt, vs] ∧ Ps W vt a.tr ∧ Ps W vs a.sl) ∧ I64 a.fr ∧ I64 a.to ∧ I64 a.prof) (fun cs x m hl ht hp => by
    obtain ⟨xs, n', _, hx, _, hxl, hg⟩ := DataW.trod_struct he ht
    match cs, hl with
    | [c0, c1, c2, c3, c4, c5], _ =>
      match xs, hxl with
      | [y0, y1, y2, y3, y4, y5], _ =>
        have k0 := hg 0 _ rfl
        have k1 := hg 1 _ rfl
        have k2 := hg 2 _ rfl
        have k3 := hg 3 _ rfl
        have k4 := hg 4 _ rfl
        have k5 := hg 5 _ rfl
        have o1 : Tryz.prog.cellsOf 3 = 1 := by kernel_rfl
        have o2 : Tryz.prog.cellsOf 52 = 1 := by kernel_rfl
        simp [o1, o2] at k0 k1 k2 k3 k4 k5
        obtain ⟨fr, e0, _, w0⟩ := DataW.trod_int Tryz.underlying3 k0
        obtain ⟨dt, e1, _, w1⟩ := DataW.trod_int Tryz.underlying3 k1
        obtain ⟨pr, e2, _, w2⟩ := DataW.trod_int Tryz.underlying3 k2
        obtain ⟨mi, e3, _, _⟩ := DataW.trod_int Tryz.underlying3 k3
        simp only [List.cons.injEq, and_true] at e0 e1 e2 e3
        subst e0; subst e1; subst e2; subst e3
        have hx2 := hx
        subst hx2
        obtain ⟨tr, p4⟩ := points_of k4 (fun p hq => hp p (by simp; exact .inr (.inr (.inr (.inr (.inl hq))))))
        obtain ⟨sl, p5⟩ := points_of k5 (fun p hq => hp p (by simp; exact .inr (.inr (.inr (.inr (.inr hq))))))
        exact ⟨⟨fr, dt, pr, mi, tr, sl⟩, ⟨c4, c5, rfl, p4, p5⟩, wf_i64 w0, wf_i64 w1, wf_i64 w2⟩) hf hlt
  refine ⟨oa, c, l, h1, ⟨oa, c, rfl, fun i hi => ?_⟩, fun i hi => ?_⟩
  · obtain ⟨b, o, cs, e, hb, ⟨⟨vt, vs, rfl, pt, ps⟩, -⟩, -, hc⟩ := h2 i hi
    exact ⟨b, o, vt, vs, e, hb, ⟨hc 0 (by decide), hc 1 (by decide), hc 2 (by decide), hc 3 (by decide), hc 4 (by decide), hc 5 (by decide)⟩, pt, ps⟩
  · obtain ⟨b, o, cs, e, hb, ⟨-, h6⟩, -⟩ := h2 i hi
    exact h6
theorem typesW_of {W : World} {base : Nat} {v : Value} {y : DataW H × List MemPlace} {n : Nat}
    (hf : DataW.trod enc Tryz.prog W base (fun _ => true) true n 26 [v] = some y) (hlt : ∀ x ∈ y.2, x.block < W.heap.size) :
    ∃ (oa : Option Addr) (c : Nat) (l : List TyT), v = .slice oa l.length c ∧ Ts W (.slice oa l.length c) l ∧ ∀ i, i < l.length → (l.getD i ty0).name.size ≤ maxLen := by
  haveI : Inhabited TyT := ⟨ty0⟩
  obtain ⟨oa, c, l, h1, -, h2⟩ := rows_of ty0 14 (by decide) Tryz.underlying26 (by kernel_rfl) (fun cs q => (∃ vc, cs = [.string q.name, .int .i64 q.count, .int .i64 q.fr, .int .i64 q.to, vc, .int .i64 q.skills, .int .i64 q.prof, .int .i64 q.opn, .int .i64 q.cls, .int .i64 q.drv, .int .i64 q.rst, .int .i64 q.fix, .int .i64 q.pm, .int .i64 q.pt] ∧ L.Li W vc q.cap) ∧ q.name.size ≤ maxLen) (fun cs x m hl ht hp => by
    obtain ⟨q, oa, c, hcs, h1, -, h3, -⟩ := type_of hl ht hp
    exact ⟨q, ⟨_, hcs, h1⟩, by unfold maxLen; omega⟩) hf hlt
  refine ⟨oa, c, l, h1, ⟨oa, c, rfl, fun i hi => ?_⟩, fun i hi => ?_⟩
  · obtain ⟨b, o, cs, e, hb, ⟨⟨vc, rfl, hv⟩, -⟩, -, hc⟩ := h2 i hi
    exact ⟨b, o, vc, e, hb, ⟨hc 0 (by decide), hc 1 (by decide), hc 2 (by decide), hc 3 (by decide), hc 4 (by decide), hc 5 (by decide), hc 6 (by decide), hc 7 (by decide), hc 8 (by decide), hc 9 (by decide), hc 10 (by decide), hc 11 (by decide), hc 12 (by decide), hc 13 (by decide)⟩, hv⟩
  · obtain ⟨b, o, cs, e, hb, ⟨-, h6⟩, -⟩ := h2 i hi
    exact h6
theorem ordersW_of {W : World} {base : Nat} {v : Value} {y : DataW H × List MemPlace} {n : Nat}
    (hf : DataW.trod enc Tryz.prog W base (fun _ => true) true n 27 [v] = some y) (hlt : ∀ x ∈ y.2, x.block < W.heap.size) :
    ∃ (oa : Option Addr) (c : Nat) (l : List OrT), v = .slice oa l.length c ∧ l.length ≤ c ∧ Os W (.slice oa l.length c) l ∧ ∀ i, i < l.length → (l.getD i or0).name.size ≤ maxLen := by
  haveI : Inhabited OrT := ⟨or0⟩
  obtain ⟨oa, c, l, h1, h9, h2⟩ := rows_of or0 16 (by decide) Tryz.underlying27 (by kernel_rfl) (fun cs q => (∃ vc, cs = [.string q.name, vc, .int .i64 q.pp, .int .i64 q.po, .int .i64 q.pc, .int .i64 q.ps, .int .i64 q.dp, .int .i64 q.dd, .int .i64 q.dc, .int .i64 q.ds, .int .i64 q.sk, .int .i64 q.pen, .int .i64 q.spl, .int .i64 q.las, .int .i64 q.now, .bool q.off] ∧ L.Li W vc q.load) ∧ q.name.size ≤ maxLen) (fun cs x m hl ht hp => by
    obtain ⟨q, oa, c, hcs, h1, -, h3⟩ := order_of hl ht hp
    exact ⟨q, ⟨_, hcs, h1⟩, by unfold maxLen; omega⟩) hf hlt
  refine ⟨oa, c, l, h1, h9, ⟨oa, c, rfl, fun i hi => ?_⟩, fun i hi => ?_⟩
  · obtain ⟨b, o, cs, e, hb, ⟨⟨vc, rfl, hv⟩, -⟩, -, hc⟩ := h2 i hi
    exact ⟨b, o, vc, e, hb, ⟨hc 0 (by decide), hc 1 (by decide), hc 2 (by decide), hc 3 (by decide), hc 4 (by decide), hc 5 (by decide), hc 6 (by decide), hc 7 (by decide), hc 8 (by decide), hc 9 (by decide), hc 10 (by decide), hc 11 (by decide), hc 12 (by decide), hc 13 (by decide), hc 14 (by decide), hc 15 (by decide)⟩, hv⟩
  · obtain ⟨b, o, cs, e, hb, ⟨-, h6⟩, -⟩ := h2 i hi
    exact h6
/-- what an argument's numbers and names are -/
structure InA (x : InT) : Prop where
  pn : ∀ i, i < x.pl.length → (x.pl.getD i ⟨#[]⟩).size ≤ maxLen
  tn : ∀ i, i < x.tl.length → (x.tl.getD i ty0).name.size ≤ maxLen
  on : ∀ i, i < x.ol.length → (x.ol.getD i or0).name.size ≤ maxLen
  wf : Wfa x.al
  ia : ∀ p ∈ x.ap, In64 p
  ib : ∀ p ∈ x.be, In64 p
theorem arg_instW {W : World} {base : Nat} {v : Value} {d : DataW H} {p : List MemPlace}
    (hv : Value.okWide Tryz.prog W .any base 30 v) (h : DataW.Trod enc Tryz.prog W 0 (fun _ => true) true 30 v d p) (hlt : ∀ x ∈ p, x.block < W.heap.size) :
    ∃ (k : Iv) (x : InT), v = k.v x ∧ Ins W k x ∧ InA x ∧ x.ol.length ≤ k.c3 := by
  have hC : Tryz.prog.cellsOf 30 = 6 := by kernel_rfl
  obtain ⟨cs, rfl, hsz⟩ := okWide_struct Tryz.underlying30 hv
  obtain ⟨fuel, hf⟩ := h
  have he : Tryz.prog.underlying 30 = some (.struct #[_, _, _, _, _]) := Tryz.underlying30
  have hN : Tryz.prog.underlying 25 = some (.struct #[_, _]) := Tryz.underlying25
  obtain ⟨xs, n', _, hx, _, hxl, hg⟩ := DataW.trod_struct he hf
  obtain ⟨l⟩ := cs
  have hl6 : l.length = 6 := by rw [← hC]; exact hsz
  match l, hl6 with
  | [v0, v1, v2, v3, v4, v5], _ =>
    match xs, hxl with
    | [y0, y1, y2, y3, y4], _ =>
      have k0 := hg 0 _ rfl
      have k1 := hg 1 _ rfl
      have k2 := hg 2 _ rfl
      have k3 := hg 3 _ rfl
      have k4 := hg 4 _ rfl
      have o1 : Tryz.prog.cellsOf 25 = 2 := by kernel_rfl
      have o2 : Tryz.prog.cellsOf 26 = 1 := by kernel_rfl
      have o3 : Tryz.prog.cellsOf 27 = 1 := by kernel_rfl
      have o4 : Tryz.prog.cellsOf 28 = 1 := by kernel_rfl
      have o5 : Tryz.prog.cellsOf 22 = 1 := by kernel_rfl
      have o6 : Tryz.prog.cellsOf 23 = 1 := by kernel_rfl
      simp [o1, o2, o3, o4, Value.cells] at k0 k1 k2 k3 k4
      obtain ⟨xs2, n2', _, hx3, _, hxl2, hg2⟩ := DataW.trod_struct hN k0
      match xs2, hxl2 with
      | [u0, u1], _ =>
        have j0 := hg2 0 _ rfl
        have j1 := hg2 1 _ rfl
        simp [o5, o6] at j0 j1
        simp only [Prod.mk.injEq] at hx
        obtain ⟨hx1, hx2⟩ := hx
        subst hx2
        have hy0 : y0.2 = u0.2 ++ u1.2 := by rw [hx3]; simp
        obtain ⟨a0, c0, pl, rfl, h0, n0⟩ := strs_of j0 (fun p hp => hlt p (by simp only [List.flatMap_cons, List.mem_append, hy0]; exact Or.inl (Or.inl hp)))
        obtain ⟨a1, c1, al, rfl, h1, n1⟩ := arcsW_of j1 (fun p hp => hlt p (by simp only [List.flatMap_cons, List.mem_append, hy0]; exact Or.inl (Or.inr hp)))
        obtain ⟨a2, c2, tl, rfl, h2, n2⟩ := typesW_of k1 (fun p hp => hlt p (by simp; exact .inr (.inl hp)))
        obtain ⟨a3, c3, ol, rfl, hl3, h3, n3⟩ := ordersW_of k2 (fun p hp => hlt p (by simp; exact .inr (.inr (.inl hp))))
        obtain ⟨a4, c4, ap, rfl, h4, n4⟩ := prs_of k3 (fun p hp => hlt p (by simp; exact .inr (.inr (.inr (.inl hp)))))
        obtain ⟨a5, c5, be, rfl, h5, n5⟩ := prs_of k4 (fun p hp => hlt p (by simp; exact .inr (.inr (.inr (.inr hp)))))
        exact ⟨⟨a0, c0, a1, c1, a2, c2, a3, c3, a4, c4, a5, c5⟩, ⟨pl, al, tl, ol, ap, be⟩, rfl, ⟨h0, h1, h2, h3, h4, h5⟩, ⟨n0, n2, n3, n1, n4, n5⟩, hl3⟩
end
/-! ### small instances -/
end Go.Proofs.YtaallpebfcadjaaGreatDoor.T


/-! From the laid list to the walks' environment; the witness's world; the last step of a row where the call leaves what was there as it was. -/
namespace Go.Proofs.YtaallpebfcadjaaGreatDoor
open Go.ChangeShapes Go.WideShapes Go.ChangeAt Go.RowKit Go.WideMaps Go.WideElems
open Go.ChangeMaps (open_string shut_string)

theorem own : ownKnob Tryz.prog.godebug = none := by kernel_rfl
theorem gPowType : (Tryz.prog.globals[2]?).map (·.type) = some 167 := by kernel_rfl
theorem cellsPow : Tryz.prog.cellsOf 167 = 20 := by kernel_rfl
theorem cellsU64 : Tryz.prog.cellsOf 154 = 1 := by kernel_rfl
theorem gBitType : (Tryz.prog.globals[1]?).map (·.type) = some 161 := by kernel_rfl
theorem cellsBit : Tryz.prog.cellsOf 161 = 64 := by kernel_rfl
theorem cellsU8 : Tryz.prog.cellsOf 5 = 1 := by kernel_rfl
/-- the laid lists -/
def laidA : List (String × DataW Unit) := Rows.instanceChecksRow.laid
/-- the tables that the walks ask for -/
theorem envA {W : World} (h0 : laidMetH Tryz.prog laidA W) : T.Tab W ∧ S.Tab W := by
  have h : laidMet Tryz.prog laidA W := h0
  exact ⟨Lib.tabIs_of_head T.gTab gPowType Tryz.underlying167 Tryz.underlying154 cellsU64 cellsPow h.tail.tail, Lib.tabIs_of_head S.gTab gBitType Tryz.underlying161 Tryz.underlying5 cellsU8 cellsBit h.tail⟩
theorem doorA (os : Os) (args : Array Value) : laidMetH Tryz.prog laidA ((World.laidAll Tryz.prog os laidA).forCall (fun _ _ => 0) ⟨#[], args, []⟩).memory := by
  rw [MakeChecks.laidMetH_plain _ _ _ (by kernel_rfl)]
  exact laidMet_laidAll _ (by kernel_rfl) (by kernel_rfl)
section
variable {H : Type} {enc : TypeId × Value → H} {P : Program}
/-- a row's conclusion, where nothing below the first heap's end has turned and the arguments read again as they did -/
theorem post_kept {f : Func} {s : ChangeSpec} {W W' : World} {args : Array Value} {v : Value} {ds gs : List (DataW H)} {before pa pv : List MemPlace}
    (hW : DataW.Whole enc P f.params.toList s.vars false W args.toList ds gs before)
    (hres : ∀ (b : Nat) (sp : Nat → Bool) (hd : Bool), DataW.TrodAll enc P W' b sp hd f.resultTypes.toList (v.resultList f.resultTypes.size) (s.fn H (ds ++ gs)).results [])
    (hargs : ∀ sp : Nat → Bool, (∀ p ∈ before, sp p.block = true) → DataW.TrodAll enc P W' 0 sp true f.params.toList args.toList (s.fn H (ds ++ gs)).args pa)
    (hvars : ∀ sp : Nat → Bool, (∀ p ∈ before, sp p.block = true) → DataW.TrodVars enc P W' sp s.vars (s.fn H (ds ++ gs)).vars pv)
    (hps : before = pa ++ pv) (hb : Below W.heap.size W W') :
    s.post enc P f false true false false W args v W' := by
  have hlt := fun p hp => hW.lt (p := p) hp
  have hin : ∀ p ∈ before, (fun b => decide (b < W.heap.size)) p.block = true := fun p hp => decide_eq_true (hlt p hp)
  refine ⟨ds, gs, before, [], pa, pv, hW, hres _ _ _, hargs _ hin, hvars _ hin, World.keptBut_mono (fun p hp => ⟨hp, ?_⟩) (hb.frame (· ∈ before)), fun h => by cases h⟩
  rw [hps, List.mem_append] at hp
  exact Or.inr hp
end

/-- No parameter wants a stand-in: what every card asks of a function with these parameters. -/
theorem plain_of {name : String} {k : FuncId} {g : Func} {ts : List TypeId} (hk : Tryz.prog.funcNamed name = some k) (hg : Tryz.prog.funcs[k]? = some g) (hp : g.params.toList = ts) (hall : (ts.all fun u => !Tryz.prog.wantsStandIn u) = true)
    (f : FuncId) (fn : Func) (hf : Tryz.pinned.checked.prog.funcNamed name = some f) (hfn : Tryz.pinned.checked.prog.funcs[f]? = some fn) :
    false = Tryz.pinned.checked.prog.looks [] ∧ ∀ (j : Nat) t, fn.params[j]? = some t → Tryz.pinned.checked.prog.wantsStandIn t = false := by
  obtain rfl : f = k := Option.some.inj (hk.symm.trans hf) |>.symm
  obtain rfl : fn = g := (Option.some.inj (hg.symm.trans hfn)).symm
  refine ⟨by kernel_rfl, fun j t ht => ?_⟩
  have hm : t ∈ ts := by rw [← hp]; exact Array.mem_toList_iff.2 (Array.mem_of_getElem? ht)
  exact (show Tryz.prog.wantsStandIn t = false by simpa using List.all_eq_true.1 hall t hm)

end Go.Proofs.YtaallpebfcadjaaGreatDoor


