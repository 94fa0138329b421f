/-
  DERIVED. GK: a part of the base of layer 13 (made by pack.py).
-/
import Derived.Test.YtoliacfpjhanlaaHM
import Derived.Test.YtoliacfpjhanlaaHN
import Derived.Test.YtoliacfpjhanlaaGJ
import Derived.Test.YtoliacfpjhanlaaHS
import Derived.Test.YtoliacfpjhanlaaGD
/-! An instance of small bulk, a route, as arguments. -/
namespace Go.Proofs.Ytoliacfpjhanlaa.T
open Go.Joins Go.ChangeShapes Go.WideShapes Go.ChangeAt Go.RowKit Go.Deep
set_option maxRecDepth 8000

section
variable {H : Type} {enc : TypeId × Value → H}
theorem slice_len {W : World} {base : Nat} {t e : TypeId} {oa : Option Addr} {k c : Nat} {y : DataW H × List MemPlace} {n : Nat} (ht : Try.prog.underlying t = some (.slice e))
    (hf : DataW.trod enc Try.prog W base (fun _ => true) true n t [.slice oa k c] = some y) : k + 1 ≤ Rows.uptoBulk y.1 := by
  rcases open_slice ht hf with ⟨hcs, hx⟩ | ⟨a, len, cap, m, n, D, Pl, hcs, _, hl, hm, hmm, hx, hall⟩
  · simp only [List.cons.injEq, Value.slice.injEq, and_true] at hcs
    obtain ⟨-, rfl, -⟩ := hcs
    exact bulk_pos y.1
  · simp only [List.cons.injEq, Value.slice.injEq, and_true] at hcs
    obtain ⟨-, rfl, -⟩ := hcs
    rw [hx]
    have h1 := bulk_len (H := H) ((List.range k).map D)
    have h2 := bulk_slice (H := H) ((List.range k).map D) ((List.range (m - k)).map fun j => D (k + j))
    rw [List.length_map, List.length_range] at h1
    exact Nat.le_trans (Nat.succ_le_succ h1) h2
theorem bulk_agg {d : DataW H} {parts : List (DataW H)} (h : d ∈ parts) : Rows.uptoBulk d + 1 ≤ Rows.uptoBulk (.agg parts) := by
  have := bulk_part h
  simp only [Rows.uptoBulk]
  omega
/-- the rows of a slice, with a number of each that its bulk bounds -/
theorem rows_ofB {α : Type} [Inhabited α] (d : α) {W : World} {base : Nat} {v : Value} {y : DataW H × List MemPlace} {n : Nat} {t e : TypeId} (k : Nat) (hk : 0 < k) (hu : Try.prog.underlying t = some (.slice e)) (hC : Try.prog.cellsOf e = k) (P : List Value → α → Prop) (f : α → Nat)
    (hone : ∀ (cs : List Value) (x : DataW H × List MemPlace) (m : Nat), cs.length = k → DataW.trod enc Try.prog W base (fun _ => true) true m e cs = some x → (∀ p ∈ x.2, p.block < W.heap.size) → ∃ q, P cs q ∧ f q ≤ Rows.uptoBulk x.1)
    (hf : DataW.trod enc Try.prog W base (fun _ => true) true n t [v] = some y) (hlt : ∀ x ∈ y.2, x.block < W.heap.size) :
    ∃ (oa : Option Addr) (c : Nat) (l : List α), v = .slice oa l.length c ∧ (l.map f).sum + 1 ≤ Rows.uptoBulk y.1 ∧ ∀ i, i < l.length → ∃ (b o : Nat) (cs : List Value), oa = some ⟨b, o, none⟩ ∧ b < W.heap.size ∧ P cs (l.getD i d) ∧ cs.length = k ∧ ∀ j, j < k → W.cell? ⟨b, o + i * k + j, none⟩ = cs[j]? := by
  obtain ⟨y1, y2⟩ := y
  simp only at hlt ⊢
  rcases open_slice hu hf with ⟨hcs, hx⟩ | ⟨a, len, cap, m, n, D, Pl, hcs, _, hl, hm, hmm, hx, hall⟩
  · simp only [List.cons.injEq, and_true] at hcs
    subst hcs
    exact ⟨none, 0, [], rfl, bulk_pos _, fun i hi => by cases hi⟩
  · simp only [List.cons.injEq, and_true] at hcs
    subst hcs
    simp only [if_true] at hmm
    simp only [Prod.mk.injEq] at hx
    rw [hC] at hx hall
    have key : ∀ i, i < len → ∃ q : α × List Value, (P q.2 q.1 ∧ f q.1 ≤ Rows.uptoBulk (D i)) ∧ q.2.length = k ∧ ∀ j, j < k → W.cell? ((a.add (i * k)).add j) = q.2[j]? := fun i hi => by
      obtain ⟨cs', hc, ht⟩ := hall i (by omega)
      obtain ⟨_, hlen, hat⟩ := World.cells?_some hc
      obtain ⟨q, hq, hq2⟩ := hone cs' _ _ hlen ht (fun p hp => hlt p (by
        rw [hx.2, List.mem_append]
        exact .inr (List.mem_flatMap.2 ⟨i, List.mem_range.2 (by omega), hp⟩)))
      exact ⟨⟨q, cs'⟩, ⟨hq, hq2⟩, hlen, fun j hj => hat j (by omega)⟩
    haveI : Inhabited (α × List Value) := ⟨⟨d, []⟩⟩
    obtain ⟨q, hq⟩ := choose_lt key
    have hln : ((List.range len).map fun i => (q i).1).length = len := by simp
    have eg : ∀ i, i < len → ((List.range len).map fun i => (q i).1).getD i d = (q i).1 := fun i hi => by
      rw [List.getD_eq_getElem?_getD, List.getElem?_map, List.getElem?_range hi]; rfl
    have hsum : (((List.range len).map fun i => (q i).1).map f).sum + 1 ≤ Rows.uptoBulk y1 := by
      rw [hx.1]
      refine Nat.le_trans ?_ (bulk_slice _ _)
      rw [bulk_sum, List.map_map, List.map_map]
      exact Nat.succ_le_succ (sum_le (n := len) (f := fun i => f (q i).1) (g := fun i => Rows.uptoBulk (D i)) (fun i hi => (hq i hi).1.2))
    refine ⟨some a, cap, (List.range len).map fun i => (q i).1, by rw [hln], hsum, fun i hi => ?_⟩
    rw [hln] at hi
    obtain ⟨⟨h0, -⟩, h1, h2⟩ := hq i hi
    have hb := row_lt (n := i) hx.2 hlt (show i < m * k from Nat.lt_of_lt_of_le (by omega : i < m) (Nat.le_mul_of_pos_right m hk))
    obtain ⟨b, o, spot⟩ := a
    have hspot : spot = none := by
      obtain ⟨-, z1, z2⟩ := hq 0 (by omega)
      have z3 := z2 0 hk
      rw [List.getElem?_eq_getElem (by omega)] at z3
      simpa [Addr.add] using World.cell?_spot z3
    subst hspot
    rw [eg i hi]
    exact ⟨b, o, (q i).2, rfl, hb, h0, h1, fun j hj => by rw [← h2 j hj, add_pl, add_pl]⟩
theorem type_bulk {W : World} {base : Nat} {cs : List Value} {x : DataW H × List MemPlace} {n : Nat} (hlen : cs.length = 14) (hf : DataW.trod enc Try.prog W base (fun _ => true) true n 95 cs = some x) {oa : Option Addr} {k c : Nat} (h : cs[4]? = some (.slice oa k c)) : k + 2 ≤ Rows.uptoBulk x.1 := by
  have he : Try.prog.underlying 95 = some (.struct #[_, _, _, _, _, _, _, _, _, _, _, _, _, _]) := Try.underlying95
  obtain ⟨xs, n', _, hx, _, hxl, hg⟩ := DataW.trod_struct he hf
  match cs, hlen with
  | [c0, c1, c2, c3, c4, c5, c6, c7, c8, c9, c10, c11, c12, c13], _ =>
    match xs, hxl with
    | [y0, y1, y2, y3, y4, y5, y6, y7, y8, y9, y10, y11, y12, y13], _ =>
      have k4 := hg 4 _ rfl
      have o3 : Try.prog.cellsOf 64 = 1 := by kernel_rfl
      simp [o3] at k4
      simp only [List.getElem?_cons_succ, List.getElem?_cons_zero, Option.some.injEq] at h
      subst h
      rw [hx]
      refine Nat.le_trans (Nat.succ_le_succ (slice_len Try.underlying64 k4)) (bulk_agg ?_)
      simp
theorem order_bulk {W : World} {base : Nat} {cs : List Value} {x : DataW H × List MemPlace} {n : Nat} (hlen : cs.length = 16) (hf : DataW.trod enc Try.prog W base (fun _ => true) true n 68 cs = some x) {oa : Option Addr} {k c : Nat} (h : cs[1]? = some (.slice oa k c)) : k + 2 ≤ Rows.uptoBulk x.1 := by
  have he : Try.prog.underlying 68 = some (.struct #[_, _, _, _, _, _, _, _, _, _]) := Try.underlying68
  obtain ⟨xs, n', _, hx, _, hxl, hg⟩ := DataW.trod_struct he hf
  match cs, hlen with
  | [c0, c1, c2, c3, c4, c5, c6, c7, c8, c9, c10, c11, c12, c13, c14, c15], _ =>
    match xs, hxl with
    | [y0, y1, y2, y3, y4, y5, y6, y7, y8, y9], _ =>
      have k1 := hg 1 _ rfl
      have o3 : Try.prog.cellsOf 64 = 1 := by kernel_rfl
      simp [o3] at k1
      simp only [List.getElem?_cons_succ, List.getElem?_cons_zero, Option.some.injEq] at h
      subst h
      rw [hx]
      refine Nat.le_trans (Nat.succ_le_succ (slice_len Try.underlying64 k1)) (bulk_agg ?_)
      simp
theorem two_sum {α : Type} {f : α → Nat} (h : ∀ a, 2 ≤ f a) : ∀ l : List α, l.length * 2 ≤ (l.map f).sum
  | [] => Nat.zero_le _
  | a :: l => by
    have := two_sum h l
    have := h a
    rw [List.map_cons, List.sum_cons, List.length_cons]
    omega
theorem at_sum {α : Type} {f : α → Nat} {d : α} : ∀ {l : List α} {i : Nat}, i < l.length → f (l.getD i d) ≤ (l.map f).sum
  | [], _, h => by cases h
  | a :: l, 0, _ => by rw [List.map_cons, List.sum_cons]; exact Nat.le_add_right _ _
  | a :: l, i + 1, h => by
    have := at_sum (f := f) (d := d) (l := l) (i := i) (Nat.lt_of_succ_lt_succ h)
    rw [List.map_cons, List.sum_cons]
    exact Nat.le_trans this (Nat.le_add_left _ _)
theorem ptsU_of {W : World} {base : Nat} {v : Value} {y : DataW H × List MemPlace} {n : Nat}
    (hf : DataW.trod enc Try.prog W base (fun _ => true) true n 121 [v] = some y) (hlt : ∀ x ∈ y.2, x.block < W.heap.size) :
    ∃ l : List (Int × Int), Ps W v l ∧ l.length * 2 ≤ Rows.uptoBulk y.1 := by
  have he : Try.prog.underlying 126 = some (.struct #[_, _]) := Try.underlying126
  obtain ⟨oa, c, l, h1, h9, h2⟩ := rows_ofB ((0, 0) : Int × Int) 2 (by decide) Try.underlying121 (by kernel_rfl) (fun cs p => cs = [.int .i64 p.1, .int .i64 p.2]) (fun _ => 2) (fun cs x m hl ht _ => by
    obtain ⟨xs, n', _, hx, _, hxl, hg⟩ := DataW.trod_struct he ht
    match cs, hl with
    | [v0, v1], _ =>
      match xs, hxl with
      | [y0, y1], _ =>
        have k0 := hg 0 _ rfl
        have k1 := hg 1 _ rfl
        have o1 : Try.prog.cellsOf 3 = 1 := by kernel_rfl
        simp [o1] at k0 k1
        obtain ⟨q0, e0, _, _⟩ := DataW.trod_int Try.underlying3 k0
        obtain ⟨q1, e1, _, _⟩ := DataW.trod_int Try.underlying3 k1
        simp only [List.cons.injEq, and_true] at e0 e1
        subst e0 e1
        refine ⟨(q0, q1), rfl, ?_⟩
        rw [hx]
        have := bulk_pos y0.1
        exact Nat.le_trans (Nat.succ_le_succ this) (bulk_agg (by simp))) hf hlt
  refine ⟨l, ⟨oa, c, h1, fun i hi => ?_⟩, by have := two_sum (f := fun _ => 2) (fun _ => Nat.le_refl 2) l; omega⟩
  obtain ⟨b, o, cs, e, hb, rfl, -, hc⟩ := h2 i hi
  exact ⟨b, o, e, hb, hc 0 (by decide), hc 1 (by decide)⟩
theorem arcsU_of {W : World} {base : Nat} {v : Value} {y : DataW H × List MemPlace} {n : Nat}
    (hf : DataW.trod enc Try.prog W base (fun _ => true) true n 23 [v] = some y) (hlt : ∀ x ∈ y.2, x.block < W.heap.size) :
    ∃ (oa : Option Addr) (c : Nat) (l : List ArcT), v = .slice oa l.length c ∧ As W (.slice oa l.length c) l ∧ l.length * 2 ≤ Rows.uptoBulk y.1 ∧ wtA l * 2 ≤ Rows.uptoBulk y.1 := by
  have he : Try.prog.underlying 123 = some (.struct #[_, _, _, _, _, _]) := Try.underlying123
  haveI : Inhabited ArcT := ⟨arc0⟩
  obtain ⟨oa, c, l, h1, h9, h2⟩ := rows_ofB arc0 6 (by decide) Try.underlying23 (by kernel_rfl) (fun cs a => ∃ vt vs, cs = [.int .i64 a.fr, .int .i64 a.to, .int .i64 a.prof, .int .i64 a.miles, vt, vs] ∧ Ps W vt a.tr ∧ Ps W vs a.sl) (fun a => (a.tr.length + a.sl.length) * 2 + 2) (fun cs x m hl ht hp => by
    obtain ⟨xs, n', _, hx, _, hxl, hg⟩ := DataW.trod_struct he ht
    match cs, hl with
    | [c0, c1, c2, c3, c4, c5], _ =>
      match xs, hxl with
      | [y0, y1, y2, y3, y4, y5], _ =>
        have k0 := hg 0 _ rfl
        have k1 := hg 1 _ rfl
        have k2 := hg 2 _ rfl
        have k3 := hg 3 _ rfl
        have k4 := hg 4 _ rfl
        have k5 := hg 5 _ rfl
        have o1 : Try.prog.cellsOf 3 = 1 := by kernel_rfl
        have o2 : Try.prog.cellsOf 121 = 1 := by kernel_rfl
        simp [o1, o2] at k0 k1 k2 k3 k4 k5
        obtain ⟨fr, e0, _, w0⟩ := DataW.trod_int Try.underlying3 k0
        obtain ⟨dt, e1, _, w1⟩ := DataW.trod_int Try.underlying3 k1
        obtain ⟨pr, e2, _, w2⟩ := DataW.trod_int Try.underlying3 k2
        obtain ⟨mi, e3, _, _⟩ := DataW.trod_int Try.underlying3 k3
        simp only [List.cons.injEq, and_true] at e0 e1 e2 e3
        subst e0; subst e1; subst e2; subst e3
        have hx2 := hx
        subst hx2
        obtain ⟨tr, p4, q4⟩ := ptsU_of k4 (fun p hq => hp p (by simp; exact .inr (.inr (.inr (.inr (.inl hq))))))
        obtain ⟨sl, p5, q5⟩ := ptsU_of k5 (fun p hq => hp p (by simp; exact .inr (.inr (.inr (.inr (.inr hq))))))
        refine ⟨⟨fr, dt, pr, mi, tr, sl⟩, ⟨c4, c5, rfl, p4, p5⟩, ?_⟩
        have b0 := bulk_pos y0.1
        have b1 := bulk_pos y1.1
        simp only [List.map_cons, List.map_nil, Rows.uptoBulk, Rows.uptoBulkAll]
        omega) hf hlt
  have hw : ∀ l : List ArcT, wtA l * 2 + l.length * 2 = (l.map fun a => (a.tr.length + a.sl.length) * 2 + 2).sum := fun l => by
    unfold wtA
    induction l with
    | nil => rfl
    | cons a l ih =>
      simp only [List.map_cons, List.sum_cons, List.length_cons] at ih ⊢
      omega
  have hl := hw l
  refine ⟨oa, c, l, h1, ⟨oa, c, rfl, fun i hi => ?_⟩, by omega, by omega⟩
  obtain ⟨b, o, cs, e, hb, ⟨vt, vs, rfl, pt, ps⟩, -, hc⟩ := h2 i hi
  exact ⟨b, o, vt, vs, e, hb, ⟨hc 0 (by decide), hc 1 (by decide), hc 2 (by decide), hc 3 (by decide), hc 4 (by decide), hc 5 (by decide)⟩, pt, ps⟩
theorem typesU_of {W : World} {base : Nat} {v : Value} {y : DataW H × List MemPlace} {n : Nat}
    (hf : DataW.trod enc Try.prog W base (fun _ => true) true n 26 [v] = some y) (hlt : ∀ x ∈ y.2, x.block < W.heap.size) :
    ∃ (oa : Option Addr) (c : Nat) (l : List TyT), v = .slice oa l.length c ∧ Ts W (.slice oa l.length c) l ∧ l.length * 2 ≤ Rows.uptoBulk y.1 ∧ ∀ i, i < l.length → (l.getD i ty0).cap.length ≤ Rows.uptoBulk y.1 := by
  haveI : Inhabited TyT := ⟨ty0⟩
  obtain ⟨oa, c, l, h1, h9, h2⟩ := rows_ofB ty0 14 (by decide) Try.underlying26 (by kernel_rfl) (fun cs q => ∃ vc, cs = [.string q.name, .int .i64 q.count, .int .i64 q.fr, .int .i64 q.to, vc, .int .i64 q.skills, .int .i64 q.prof, .int .i64 q.opn, .int .i64 q.cls, .int .i64 q.drv, .int .i64 q.rst, .int .i64 q.fix, .int .i64 q.pm, .int .i64 q.pt] ∧ L.Li W vc q.cap) (fun q => q.cap.length + 2) (fun cs x m hl ht hp => by
    obtain ⟨q, oa, c, hcs, h1, -, -, -⟩ := type_of hl ht hp
    exact ⟨q, ⟨_, hcs, h1⟩, type_bulk hl ht (oa := oa) (c := c) (by rw [hcs]; rfl)⟩) hf hlt
  refine ⟨oa, c, l, h1, ⟨oa, c, rfl, fun i hi => ?_⟩, by have := two_sum (f := fun q => q.cap.length + 2) (fun _ => Nat.le_add_left 2 _) l; omega, fun i hi => by have := at_sum (f := fun q => q.cap.length + 2) (d := ty0) hi; omega⟩
  obtain ⟨b, o, cs, e, hb, ⟨vc, rfl, hv⟩, -, hc⟩ := h2 i hi
  exact ⟨b, o, vc, e, hb, ⟨hc 0 (by decide), hc 1 (by decide), hc 2 (by decide), hc 3 (by decide), hc 4 (by decide), hc 5 (by decide), hc 6 (by decide), hc 7 (by decide), hc 8 (by decide), hc 9 (by decide), hc 10 (by decide), hc 11 (by decide), hc 12 (by decide), hc 13 (by decide)⟩, hv⟩
theorem ordersU_of {W : World} {base : Nat} {v : Value} {y : DataW H × List MemPlace} {n : Nat}
    (hf : DataW.trod enc Try.prog W base (fun _ => true) true n 27 [v] = some y) (hlt : ∀ x ∈ y.2, x.block < W.heap.size) :
    ∃ (oa : Option Addr) (c : Nat) (l : List OrT), v = .slice oa l.length c ∧ Os W (.slice oa l.length c) l ∧ l.length * 2 ≤ Rows.uptoBulk y.1 ∧ ∀ i, i < l.length → (l.getD i or0).load.length ≤ Rows.uptoBulk y.1 := by
  haveI : Inhabited OrT := ⟨or0⟩
  obtain ⟨oa, c, l, h1, h9, h2⟩ := rows_ofB or0 16 (by decide) Try.underlying27 (by kernel_rfl) (fun cs q => ∃ vc, cs = [.string q.name, vc, .int .i64 q.pp, .int .i64 q.po, .int .i64 q.pc, .int .i64 q.ps, .int .i64 q.dp, .int .i64 q.dd, .int .i64 q.dc, .int .i64 q.ds, .int .i64 q.sk, .int .i64 q.pen, .int .i64 q.spl, .int .i64 q.las, .int .i64 q.now, .bool q.off] ∧ L.Li W vc q.load) (fun q => q.load.length + 2) (fun cs x m hl ht hp => by
    obtain ⟨q, oa, c, hcs, h1, -, -⟩ := order_of hl ht hp
    exact ⟨q, ⟨_, hcs, h1⟩, order_bulk hl ht (oa := oa) (c := c) (by rw [hcs]; rfl)⟩) hf hlt
  refine ⟨oa, c, l, h1, ⟨oa, c, rfl, fun i hi => ?_⟩, by have := two_sum (f := fun q => q.load.length + 2) (fun _ => Nat.le_add_left 2 _) l; omega, fun i hi => by have := at_sum (f := fun q => q.load.length + 2) (d := or0) hi; omega⟩
  obtain ⟨b, o, cs, e, hb, ⟨vc, rfl, hv⟩, -, hc⟩ := h2 i hi
  exact ⟨b, o, vc, e, hb, ⟨hc 0 (by decide), hc 1 (by decide), hc 2 (by decide), hc 3 (by decide), hc 4 (by decide), hc 5 (by decide), hc 6 (by decide), hc 7 (by decide), hc 8 (by decide), hc 9 (by decide), hc 10 (by decide), hc 11 (by decide), hc 12 (by decide), hc 13 (by decide), hc 14 (by decide), hc 15 (by decide)⟩, hv⟩
/-- an instance of small bulk, but for its orders' number -/
structure InV (x : InT) : Prop where
  pl : x.pl.length ≤ 2000000
  al : x.al.length ≤ 1000000
  wt : wtA x.al ≤ 1000000
  tl : x.tl.length ≤ 1000000
  cap : ∀ i, i < x.tl.length → (x.tl.getD i ty0).cap.length ≤ 1048576
  load : ∀ i, i < x.ol.length → (x.ol.getD i or0).load.length ≤ 1048576
  ap : x.ap.length ≤ 2000000
  be : x.be.length ≤ 2000000
theorem arg_instU {W : World} {base : Nat} {v : Value} {d : DataW H} {p : List MemPlace}
    (hv : Value.okWide Try.prog W .any base 30 v) (h : DataW.Trod enc Try.prog W 0 (fun _ => true) true 30 v d p) (hlt : ∀ x ∈ p, x.block < W.heap.size) (hk : Rows.uptoBulk d ≤ 1048576) :
    ∃ (k : Iv) (x : InT), v = k.v x ∧ Ins W k x ∧ InV x := by
  have hC : Try.prog.cellsOf 30 = 6 := by kernel_rfl
  obtain ⟨cs, rfl, hsz⟩ := okWide_struct Try.underlying30 hv
  obtain ⟨fuel, hf⟩ := h
  have he : Try.prog.underlying 30 = some (.struct #[_, _, _, _, _]) := Try.underlying30
  have hN : Try.prog.underlying 25 = some (.struct #[_, _]) := Try.underlying25
  obtain ⟨xs, n', _, hx, _, hxl, hg⟩ := DataW.trod_struct he hf
  obtain ⟨l⟩ := cs
  have hl6 : l.length = 6 := by rw [← hC]; exact hsz
  match l, hl6 with
  | [v0, v1, v2, v3, v4, v5], _ =>
    match xs, hxl with
    | [y0, y1, y2, y3, y4], _ =>
      have k0 := hg 0 _ rfl
      have k1 := hg 1 _ rfl
      have k2 := hg 2 _ rfl
      have k3 := hg 3 _ rfl
      have k4 := hg 4 _ rfl
      have o1 : Try.prog.cellsOf 25 = 2 := by kernel_rfl
      have o2 : Try.prog.cellsOf 26 = 1 := by kernel_rfl
      have o3 : Try.prog.cellsOf 27 = 1 := by kernel_rfl
      have o4 : Try.prog.cellsOf 28 = 1 := by kernel_rfl
      have o5 : Try.prog.cellsOf 22 = 1 := by kernel_rfl
      have o6 : Try.prog.cellsOf 23 = 1 := by kernel_rfl
      simp [o1, o2, o3, o4, Value.cells] at k0 k1 k2 k3 k4
      obtain ⟨xs2, n2', _, hx3, _, hxl2, hg2⟩ := DataW.trod_struct hN k0
      match xs2, hxl2 with
      | [u0, u1], _ =>
        have j0 := hg2 0 _ rfl
        have j1 := hg2 1 _ rfl
        simp [o5, o6] at j0 j1
        simp only [Prod.mk.injEq] at hx
        obtain ⟨hx1, hx2⟩ := hx
        subst hx2
        have hy0 : y0.2 = u0.2 ++ u1.2 := by rw [hx3]; simp
        have hy1 : y0.1 = .agg [u0.1, u1.1] := by rw [hx3]; simp
        have q0 : Rows.uptoBulk u0.1 + Rows.uptoBulk u1.1 + Rows.uptoBulk y1.1 + Rows.uptoBulk y2.1 + Rows.uptoBulk y3.1 + Rows.uptoBulk y4.1 ≤ 1048576 := by
          rw [hx1] at hk
          simp only [List.map_cons, List.map_nil, hy1, Rows.uptoBulk, Rows.uptoBulkAll] at hk
          omega
        obtain ⟨a0, c0, pl, rfl, h0, n0⟩ := strs_of j0 (fun p hp => hlt p (by simp only [List.flatMap_cons, List.mem_append, hy0]; exact Or.inl (Or.inl hp)))
        have b0 := slice_len Try.underlying22 j0
        obtain ⟨a1, c1, al, rfl, h1, n1, n1w⟩ := arcsU_of j1 (fun p hp => hlt p (by simp only [List.flatMap_cons, List.mem_append, hy0]; exact Or.inl (Or.inr hp)))
        obtain ⟨a2, c2, tl, rfl, h2, n2, n2c⟩ := typesU_of k1 (fun p hp => hlt p (by simp; exact .inr (.inl hp)))
        obtain ⟨a3, c3, ol, rfl, h3, n3, n3l⟩ := ordersU_of k2 (fun p hp => hlt p (by simp; exact .inr (.inr (.inl hp))))
        obtain ⟨a4, c4, ap, rfl, h4, n4, -⟩ := pairs_of k3 (fun p hp => hlt p (by simp; exact .inr (.inr (.inr (.inl hp)))))
        obtain ⟨a5, c5, be, rfl, h5, n5, -⟩ := pairs_of k4 (fun p hp => hlt p (by simp; exact .inr (.inr (.inr (.inr hp)))))
        exact ⟨⟨a0, c0, a1, c1, a2, c2, a3, c3, a4, c4, a5, c5⟩, ⟨pl, al, tl, ol, ap, be⟩, rfl, ⟨h0, h1, h2, h3, h4, h5⟩,
          ⟨by show pl.length ≤ _; omega, by show al.length ≤ _; omega, by show wtA al ≤ _; omega, by show tl.length ≤ _; omega, fun i hi => Nat.le_trans (n2c i hi) (by omega), fun i hi => Nat.le_trans (n3l i hi) (by omega), by show ap.length ≤ _; omega, by show be.length ≤ _; omega⟩⟩
theorem visits_of {W : World} {base : Nat} {v : Value} {y : DataW H × List MemPlace} {n : Nat}
    (hf : DataW.trod enc Try.prog W base (fun _ => true) true n 32 [v] = some y) (hlt : ∀ x ∈ y.2, x.block < W.heap.size) :
    ∃ (oa : Option Addr) (c b o : Nat) (l : List (Int × Bool)), v = .slice oa l.length c ∧ Rw W b o 2 (vF l) l.length oa := by
  have he : Try.prog.underlying 52 = some (.struct #[_, _]) := Try.underlying52
  obtain ⟨oa, c, l, h1, -, h2⟩ := rows_ofB ((0, false) : Int × Bool) 2 (by decide) Try.underlying32 (by kernel_rfl) (fun cs p => cs = [.int .i64 p.1, .bool p.2]) (fun _ => 0) (fun cs x m hl ht _ => by
    obtain ⟨xs, n', _, hx, _, hxl, hg⟩ := DataW.trod_struct he ht
    match cs, hl with
    | [v0, v1], _ =>
      match xs, hxl with
      | [y0, y1], _ =>
        have k0 := hg 0 _ rfl
        have k1 := hg 1 _ rfl
        have o1 : Try.prog.cellsOf 3 = 1 := by kernel_rfl
        have o5 : Try.prog.cellsOf 4 = 1 := by kernel_rfl
        simp [o1, o5] at k0 k1
        obtain ⟨q0, e0, _, _⟩ := DataW.trod_int Try.underlying3 k0
        obtain ⟨q1, e1, _⟩ := DataW.trod_bool Try.underlying4 k1
        simp only [List.cons.injEq, and_true] at e0 e1
        subst e0 e1
        exact ⟨(q0, q1), rfl, Nat.zero_le _⟩) hf hlt
  cases l with
  | nil => exact ⟨oa, c, 0, 0, [], h1, fun i hi => absurd hi (Nat.not_lt_zero i)⟩
  | cons x l =>
    obtain ⟨b, o, cs0, e, -⟩ := h2 0 (by simp)
    refine ⟨oa, c, b, o, x :: l, h1, fun i hi => ?_⟩
    obtain ⟨b', o', cs, e', hb, rfl, -, hc⟩ := h2 i hi
    rw [e] at e'
    simp only [Option.some.injEq, Addr.mk.injEq, and_true] at e'
    obtain ⟨rfl, rfl⟩ := e'
    refine ⟨e, hb, fun j v hj => ?_⟩
    unfold vF at hj
    match j, hj with
    | 0, hj => simp only [List.getElem?_cons_zero, Option.some.injEq] at hj; subst hj; exact hc 0 (by decide)
    | 1, hj => simp only [List.getElem?_cons_succ, List.getElem?_cons_zero, Option.some.injEq] at hj; subst hj; exact hc 1 (by decide)
    | j + 2, hj => simp at hj
/-- a route by value -/
theorem arg_route {W : World} {base : Nat} {v : Value} {d : DataW H} {p : List MemPlace}
    (hv : Value.okWide Try.prog W .any base 34 v) (h : DataW.Trod enc Try.prog W 0 (fun _ => true) true 34 v d p) (hlt : ∀ x ∈ p, x.block < W.heap.size) :
    ∃ (ty st : Int) (orr oa : Option Addr) (nr cr c b o : Nat) (l : List (Int × Bool)), v = .agg #[.int .i64 ty, .int .i64 st, .slice orr nr cr, .slice oa l.length c] ∧ Rw W b o 2 (vF l) l.length oa := by
  have hC : Try.prog.cellsOf 34 = 4 := by kernel_rfl
  obtain ⟨cs, rfl, hsz⟩ := okWide_struct Try.underlying34 hv
  obtain ⟨fuel, hf⟩ := h
  have he : Try.prog.underlying 34 = some (.struct #[_, _, _, _]) := Try.underlying34
  obtain ⟨xs, n', _, hx, _, hxl, hg⟩ := DataW.trod_struct he hf
  obtain ⟨l⟩ := cs
  have hl4 : l.length = 4 := by rw [← hC]; exact hsz
  match l, hl4 with
  | [v0, v1, v2, v3], _ =>
    match xs, hxl with
    | [y0, y1, y2, y3], _ =>
      have k0 := hg 0 _ rfl
      have k1 := hg 1 _ rfl
      have k2 := hg 2 _ rfl
      have k3 := hg 3 _ rfl
      have o1 : Try.prog.cellsOf 3 = 1 := by kernel_rfl
      have o3 : Try.prog.cellsOf 32 = 1 := by kernel_rfl
      have o4 : Try.prog.cellsOf 31 = 1 := by kernel_rfl
      simp [o1, o3, o4, Value.cells] at k0 k1 k2 k3
      obtain ⟨ty, e0, _, _⟩ := DataW.trod_int Try.underlying3 k0
      obtain ⟨st, e1, _, _⟩ := DataW.trod_int Try.underlying3 k1
      simp only [List.cons.injEq, and_true] at e0 e1
      subst e0 e1
      obtain ⟨orr, nr, cr, rfl⟩ := slice_is Try.underlying31 k2
      simp only [Prod.mk.injEq] at hx
      obtain ⟨-, hx2⟩ := hx
      obtain ⟨oa, c, b, o, l, rfl, hl⟩ := visits_of k3 (fun p hp => hlt p (by rw [hx2]; simp; exact .inr (.inr (.inr hp))))
      exact ⟨ty, st, orr, oa, nr, cr, c, b, o, l, rfl, hl⟩
end
end Go.Proofs.Ytoliacfpjhanlaa.T


/-! Few orders, and valid; the law SequenceChecks (by gen_uf.py). -/
namespace Go.Proofs.Ytoliacfpjhanlaa.T
open Go.RowKit
set_option maxRecDepth 8000
attribute [local irreducible] wpList Code.wp wpAnyH

def fewB (x : InT) : Bool := decide (x.ol.length ≤ 4) && decide ((inF x).length = 0)
theorem InV.inU {x : InT} (h : InV x) (h4 : x.ol.length ≤ 4) : InU x :=
  ⟨h.pl, h.al, h.wt, h.tl, fun i hi => Nat.le_trans (h.cap i hi) (by decide), by omega, fun i hi => Nat.le_trans (h.load i hi) (by decide), h.ap, h.be⟩
/-- what is valid: the orders' stops, the pairs -/
theorem few_ok {x : InT} (h : fewB x = true) : x.ol.length ≤ 4 ∧ Okv x.ol ∧ U.Rt x.ol.length x.ap ∧ U.Rt x.ol.length x.be ∧ x.ap.length ≤ 16 ∧ x.be.length ≤ 16 := by
  unfold fewB at h
  rw [Bool.and_eq_true, decide_eq_true_iff, decide_eq_true_iff] at h
  obtain ⟨h4, h0⟩ := h
  obtain ⟨-, -, h1, h2, h3⟩ := inF_nil.1 (List.eq_nil_of_length_eq_zero h0)
  have hor := (orderF_nil.1 h1).2
  have hE : ∀ i, i < x.ol.length → -1 ≤ (x.ol.getD i or0).pp ∧ -1 ≤ (x.ol.getD i or0).dp ∧ ¬ ((x.ol.getD i or0).pp = -1 ∧ (x.ol.getD i or0).dp = -1) := fun i hi => by
    have e9 := hor i hi
    unfold orE at e9
    simp only [List.append_eq_nil_iff, and_assoc] at e9
    obtain ⟨-, -, -, e4, e5, -⟩ := e9
    unfold orE4 at e4
    unfold orE5 at e5
    have e4' : (rgB (-1) (x.pl.length - 1) (x.ol.getD i or0).pp && rgB (-1) (x.pl.length - 1) (x.ol.getD i or0).dp) = true := by
      cases h : (rgB (-1) (x.pl.length - 1) (x.ol.getD i or0).pp && rgB (-1) (x.pl.length - 1) (x.ol.getD i or0).dp)
      · rw [h] at e4; cases e4
      · rfl
    have e5' : (decide ((x.ol.getD i or0).pp = -1) && decide ((x.ol.getD i or0).dp = -1)) = false := by
      cases h : (decide ((x.ol.getD i or0).pp = -1) && decide ((x.ol.getD i or0).dp = -1))
      · rfl
      · rw [h] at e5; cases e5
    unfold rgB at e4'
    simp only [Bool.and_eq_true, decide_eq_true_eq, Bool.and_eq_false_iff, decide_eq_false_iff_not] at e4' e5'
    exact ⟨e4'.1.1, e4'.2.1, fun h => e5'.elim (fun q => q h.1) (fun q => q h.2)⟩
  have hP : ∀ (t : Bool) (l : List (Int × Int)), OkP (x.ol.length : Nat) t l → U.Rt x.ol.length l ∧ l.length ≤ 16 := fun t l hl => ⟨fun p hp => by
    have h9 := hl.2.1 p hp
    unfold badP at h9
    simp only [Bool.or_eq_false_iff, decide_eq_false_iff_not, beq_eq_false_iff_ne] at h9
    omega, hl.1⟩
  exact ⟨h4, ⟨fun k hk => (hE k hk).1, fun k hk => (hE k hk).2.1, fun k hk => (hE k hk).2.2⟩, (hP _ _ h2).1, (hP _ _ h3).1, (hP _ _ h2).2, (hP _ _ h3).2⟩
theorem few_n (k : Iv) (x : InT) (hv : InV x) (w : World) (hI : Ins w k x) : Calls Try.prog 9 #[.agg #[.slice k.o0 x.pl.length k.c0, .slice k.o1 x.al.length k.c1, .slice k.o2 x.tl.length k.c2, .slice k.o3 x.ol.length k.c3, .slice k.o4 x.ap.length k.c4, .slice k.o5 x.be.length k.c5]] w fun e w' => e = .returned (.bool (fewB x)) ∧ Below w.heap.size w w' := by
  have HB : Below w.heap.size w w := Below.refl _ _
  refine sx_enter Try.func9 rfl [(0, .agg #[.slice k.o0 x.pl.length k.c0, .slice k.o1 x.al.length k.c1, .slice k.o2 x.tl.length k.c2, .slice k.o3 x.ol.length k.c3, .slice k.o4 x.ap.length k.c4, .slice k.o5 x.be.length k.c5])] (by kernel_rfl) ?_
  refine wp_seq ?_
  refine wp_region_lit ?_
  obtain ⟨W1, hW⟩ : ∃ W, w.alloc (.cells #[.slice k.o0 x.pl.length k.c0, .slice k.o1 x.al.length k.c1, .slice k.o2 x.tl.length k.c2, .slice k.o3 x.ol.length k.c3, .slice k.o4 x.ap.length k.c4, .slice k.o5 x.be.length k.c5] 30) = W := ⟨_, rfl⟩
  have hb := hW ▸ below_alloc w (.cells #[.slice k.o0 x.pl.length k.c0, .slice k.o1 x.al.length k.c1, .slice k.o2 x.tl.length k.c2, .slice k.o3 x.ol.length k.c3, .slice k.o4 x.ap.length k.c4, .slice k.o5 x.be.length k.c5] 30)
  have hq : Cb W1 w.heap.size #[.slice k.o0 x.pl.length k.c0, .slice k.o1 x.al.length k.c1, .slice k.o2 x.tl.length k.c2, .slice k.o3 x.ol.length k.c3, .slice k.o4 x.ap.length k.c4, .slice k.o5 x.be.length k.c5] 30 := hW ▸ Cb.made w #[.slice k.o0 x.pl.length k.c0, .slice k.o1 x.al.length k.c1, .slice k.o2 x.tl.length k.c2, .slice k.o3 x.ol.length k.c3, .slice k.o4 x.ap.length k.c4, .slice k.o5 x.be.length k.c5] 30
  refine sx_mem (by kernel_rfl) rfl rfl (.pointer (some ⟨w.heap.size, 0, none⟩)) W1 (by rw [← hW]; kernel_rfl) ?_
  replace HB := over HB hb
  have z1 := hb.size
  have M2 := hq
  have yM2 := hq.lt
  clear hq hb hW
  refine sx_val (by kernel_rfl) rfl rfl (.bool false) (by kernel_rfl) ?_
  refine wpList_nil ?_
  refine sx_norm ?_
  refine wp_seq ?_
  refine wp_region_lit ?_
  refine sx_val (by kernel_rfl) rfl rfl (.pointer (some ⟨w.heap.size, 3, none⟩)) (by kernel_rfl) ?_
  refine sx_val (by kernel_rfl) rfl rfl (.slice k.o3 x.ol.length k.c3) (ex_load1 rfl (M2.cell 3 rfl) (by kernel_rfl) Try.underlying27 rfl) ?_
  refine sx_val (by kernel_rfl) rfl rfl (.int .i64 ((x.ol.length : Nat) : Int)) (by kernel_rfl) ?_
  by_cases C1 : x.ol.length ≤ 4
  · refine sx_bool (by kernel_rfl) rfl rfl (decide (((x.ol.length : Nat) : Int) ≤ 4)) true (by kernel_rfl) (decide_eq_true (by omega)) ?_
    refine sx_val (by kernel_rfl) rfl rfl (.bool true) (by kernel_rfl) ?_
    refine sx_val (by kernel_rfl) rfl rfl (.agg #[.slice k.o0 x.pl.length k.c0, .slice k.o1 x.al.length k.c1, .slice k.o2 x.tl.length k.c2, .slice k.o3 x.ol.length k.c3, .slice k.o4 x.ap.length k.c4, .slice k.o5 x.be.length k.c5]) (ex_load rfl M2 (by kernel_rfl) Try.underlying30 rfl (by kernel_rfl)) ?_
    refine sx_call (by kernel_rfl) rfl rfl ((by have h8 := refInstU_n k.o0 k.o1 k.o2 k.o3 k.o4 k.o5 k.c0 k.c1 k.c2 k.c3 k.c4 k.c5 x (hv.inU (by omega)) W1 (hI.below HB).h0 (hI.below HB).h1 (hI.below HB).h2 (hI.below HB).h3 (hI.below HB).h4 (hI.below HB).h5; unfold inV at h8; exact h8)) (by kernel_rfl) ?_
    rintro e W3 ⟨oaf, cf, rfl, -, hb⟩
    replace HB := over HB hb
    replace M2 := M2.below hb
    have z2 := hb.size
    clear hb
    refine ⟨_, rfl, ?_⟩
    refine sx_val (by kernel_rfl) rfl rfl (.int .i64 (((inF x).length : Nat) : Int)) (by kernel_rfl) ?_
    by_cases C2 : (inF x).length = 0
    · refine sx_bool (by kernel_rfl) rfl rfl (((((inF x).length : Nat) : Int) : Int) == (0 : Int)) true (by kernel_rfl) (beq_iff_eq.2 (by omega)) ?_
      refine sx_val (by kernel_rfl) rfl rfl (.bool true) (by kernel_rfl) ?_
      refine sx_val (by kernel_rfl) rfl rfl (.bool true) (by kernel_rfl) ?_
      refine wpList_nil ?_
      refine sx_norm ?_
      refine wp_ret ?_
      exact sx_ret1 (.bool true) rfl rfl (by kernel_rfl) ⟨ret_bool (by unfold fewB; first | (rw [decide_eq_false (by assumption : ¬ x.ol.length ≤ 4)]; rfl) | (rw [decide_eq_true (by assumption : x.ol.length ≤ 4), decide_eq_true (by assumption : (inF x).length = 0)]; rfl) | (rw [decide_eq_true (by assumption : x.ol.length ≤ 4), decide_eq_false (by assumption : ¬ (inF x).length = 0)]; rfl)), HB⟩
    refine sx_bool (by kernel_rfl) rfl rfl (((((inF x).length : Nat) : Int) : Int) == (0 : Int)) false (by kernel_rfl) (beq_eq_false_iff_ne.2 (by omega)) ?_
    refine sx_val (by kernel_rfl) rfl rfl (.bool false) (by kernel_rfl) ?_
    refine sx_val (by kernel_rfl) rfl rfl (.bool false) (by kernel_rfl) ?_
    refine wpList_nil ?_
    refine sx_norm ?_
    refine wp_ret ?_
    exact sx_ret1 (.bool false) rfl rfl (by kernel_rfl) ⟨ret_bool (by unfold fewB; first | (rw [decide_eq_false (by assumption : ¬ x.ol.length ≤ 4)]; rfl) | (rw [decide_eq_true (by assumption : x.ol.length ≤ 4), decide_eq_true (by assumption : (inF x).length = 0)]; rfl) | (rw [decide_eq_true (by assumption : x.ol.length ≤ 4), decide_eq_false (by assumption : ¬ (inF x).length = 0)]; rfl)), HB⟩
  refine sx_bool (by kernel_rfl) rfl rfl (decide (((x.ol.length : Nat) : Int) ≤ 4)) false (by kernel_rfl) (decide_eq_false (by omega)) ?_
  refine sx_val (by kernel_rfl) rfl rfl (.bool false) (by kernel_rfl) ?_
  refine sx_skip (by kernel_rfl) rfl rfl ?_
  refine sx_skip (by kernel_rfl) rfl rfl ?_
  refine sx_skip (by kernel_rfl) rfl rfl ?_
  refine sx_skip (by kernel_rfl) rfl rfl ?_
  refine sx_val (by kernel_rfl) rfl rfl (.bool false) (by kernel_rfl) ?_
  refine sx_val (by kernel_rfl) rfl rfl (.bool false) (by kernel_rfl) ?_
  refine wpList_nil ?_
  refine sx_norm ?_
  refine wp_ret ?_
  exact sx_ret1 (.bool false) rfl rfl (by kernel_rfl) ⟨ret_bool (by unfold fewB; first | (rw [decide_eq_false (by assumption : ¬ x.ol.length ≤ 4)]; rfl) | (rw [decide_eq_true (by assumption : x.ol.length ≤ 4), decide_eq_true (by assumption : (inF x).length = 0)]; rfl) | (rw [decide_eq_true (by assumption : x.ol.length ≤ 4), decide_eq_false (by assumption : ¬ (inF x).length = 0)]; rfl)), HB⟩
end Go.Proofs.Ytoliacfpjhanlaa.T


/-! The visits that can follow are the specification's. -/
namespace Go.Proofs.Ytoliacfpjhanlaa.T
open Go.RowKit
set_option maxRecDepth 8000

theorem and_zero (a b : Nat) : a &&& b = 0 ↔ ∀ k, S.has a k = true → S.has b k = false := by
  constructor
  · intro h k h1
    cases h2 : S.has b k
    · rfl
    · have h3 : Nat.testBit (a &&& b) k = true := by rw [Nat.testBit_and, ← U.has_bit, ← U.has_bit, h1, h2]; rfl
      rw [h, Nat.zero_testBit] at h3
      cases h3
  · intro h
    apply Nat.eq_of_testBit_eq
    intro k
    rw [Nat.testBit_and, Nat.zero_testBit, ← U.has_bit, ← U.has_bit]
    cases h1 : S.has a k
    · rfl
    · rw [h k h1]; rfl
theorem has_wWK (z : Int) (ol : List OrT) (i : Nat) : ∀ k, S.has (wWK z ol k) i = (decide (i < k) && (hasZ z i && !(ol.getD i or0).off))
  | 0 => by
    have : wWK z ol 0 = 0 := rfl
    rw [this, U.has_zero, decide_eq_false (Nat.not_lt_zero i)]
    rfl
  | k + 1 => by
    have ih := has_wWK z ol i k
    unfold wWK
    by_cases e : i = k
    · subst e
      rw [decide_eq_false (Nat.lt_irrefl i), Bool.false_and] at ih
      rw [decide_eq_true (Nat.lt_succ_self i), Bool.true_and]
      split
      · rename_i h
        rw [U.has_or, ih, U.has_pow, decide_eq_true rfl, h.1, h.2]
        rfl
      · rename_i h
        rw [ih]
        cases h1 : hasZ z i
        · rfl
        · cases h2 : (ol.getD i or0).off
          · exact absurd ⟨h1, h2⟩ h
          · rfl
    · have e2 : decide (i < k + 1) = decide (i < k) := by
        rw [decide_eq_decide]; omega
      rw [e2]
      split
      · rw [U.has_or, ih, U.has_pow, decide_eq_false e, Bool.or_false]
      · exact ih
theorem has_foldP (i : Nat) : ∀ (V : List (Int × Bool)) (p : Nat × Nat), S.has (V.foldl withP p).1 i = (S.has p.1 i || V.any fun v => !v.2 && decide (i = v.1.toNat)) ∧ S.has (V.foldl withP p).2 i = (S.has p.2 i || V.any fun v => v.2 && decide (i = v.1.toNat))
  | [], p => ⟨by simp, by simp⟩
  | v :: V, p => by
    have ih := has_foldP i V (withP p v)
    rw [List.foldl_cons, List.any_cons, List.any_cons, ih.1, ih.2]
    unfold withP
    cases h : v.2
    · rw [if_neg (by decide)]
      simp only [U.has_or, U.has_pow, Bool.not_false, Bool.true_and, Bool.false_and, Bool.false_or, Bool.or_assoc, and_self]
    · rw [if_pos rfl]
      simp only [U.has_or, U.has_pow, Bool.not_true, Bool.true_and, Bool.false_and, Bool.false_or, Bool.or_assoc, and_self]
theorem any_num {ol : List OrT} {k i : Nat} (b : Bool) : ((visL ol (k : Int)).any fun v => (v.2 == b) && decide (i = v.1.toNat)) = (decide (i = k) && decide (((k : Int), b) ∈ visL ol (k : Int))) := by
  rw [Bool.eq_iff_iff, List.any_eq_true, Bool.and_eq_true, decide_eq_true_iff, decide_eq_true_iff]
  constructor
  · rintro ⟨v, hv, h⟩
    rw [Bool.and_eq_true, beq_iff_eq, decide_eq_true_iff] at h
    have hn := vis_num ol k v hv
    have e : ((k : Int), b) = v := Prod.ext hn.symm h.1.symm
    refine ⟨by rw [h.2, hn]; simp, ?_⟩
    rw [e]
    exact hv
  · rintro ⟨h1, h2⟩
    exact ⟨_, h2, by rw [h1]; simp⟩
theorem has_wPK (ol : List OrT) (i : Nat) : ∀ k, S.has (wPK ol k).1 i = (decide (i < k) && decide (((i : Int), false) ∈ visL ol (i : Int))) ∧ S.has (wPK ol k).2 i = (decide (i < k) && decide (((i : Int), true) ∈ visL ol (i : Int)))
  | 0 => by
    have e : wPK ol 0 = (0, 0) := rfl
    rw [e, U.has_zero, decide_eq_false (Nat.not_lt_zero i)]
    exact ⟨rfl, rfl⟩
  | k + 1 => by
    have ih := has_wPK ol i k
    have e : wPK ol (k + 1) = (visL ol (k : Int)).foldl withP (wPK ol k) := rfl
    have f1 : ((visL ol (k : Int)).any fun v => !v.2 && decide (i = v.1.toNat)) = (decide (i = k) && decide (((k : Int), false) ∈ visL ol (k : Int))) := by
      rw [← any_num false]
      congr 1
      funext v
      cases v.2 <;> rfl
    have f2 : ((visL ol (k : Int)).any fun v => v.2 && decide (i = v.1.toNat)) = (decide (i = k) && decide (((k : Int), true) ∈ visL ol (k : Int))) := by
      rw [← any_num true]
      congr 1
      funext v
      cases v.2 <;> rfl
    have hf := has_foldP i (visL ol (k : Int)) (wPK ol k)
    rw [e, hf.1, hf.2, ih.1, ih.2, f1, f2]
    by_cases e1 : i = k
    · subst e1
      rw [decide_eq_false (Nat.lt_irrefl i), decide_eq_true rfl, decide_eq_true (Nat.lt_succ_self i)]
      simp
    · have e2 : decide (i < k + 1) = decide (i < k) := by
        rw [decide_eq_decide]; omega
      rw [e2, decide_eq_false e1]
      simp
theorem has_foldD (i : Nat) : ∀ (l : List (Int × Bool)) (p : Nat × Nat), S.has (l.foldl stepD p).1 i = (S.has p.1 i || l.any fun v => num62 v.1 && (!v.2 && decide (i = v.1.toNat))) ∧ S.has (l.foldl stepD p).2 i = (S.has p.2 i || l.any fun v => num62 v.1 && (v.2 && decide (i = v.1.toNat)))
  | [], p => ⟨by simp, by simp⟩
  | v :: l, p => by
    have ih := has_foldD i l (stepD p v)
    rw [List.foldl_cons, List.any_cons, List.any_cons, ih.1, ih.2]
    unfold stepD
    cases h : num62 v.1
    · rw [if_neg (by decide)]
      simp
    · rw [if_pos rfl]
      unfold withP
      cases h : v.2
      · rw [if_neg (by decide)]
        simp only [U.has_or, U.has_pow, Bool.not_false, Bool.true_and, Bool.false_and, Bool.false_or, Bool.or_assoc, and_self]
      · rw [if_pos rfl]
        simp only [U.has_or, U.has_pow, Bool.not_true, Bool.true_and, Bool.false_and, Bool.false_or, Bool.or_assoc, and_self]
theorem has_done {l : List (Int × Bool)} {i : Nat} (hi : i ≤ 62) : S.has (doneL l).1 i = decide (((i : Int), false) ∈ l) ∧ S.has (doneL l).2 i = decide (((i : Int), true) ∈ l) := by
  have h := has_foldD i l (0, 0)
  have e : doneL l = l.foldl stepD (0, 0) := rfl
  have hn : num62 (i : Int) = true := by unfold num62; rw [decide_eq_true (by omega), decide_eq_true (by omega)]; rfl
  have key : ∀ v : Int × Bool, num62 v.1 = true → i = v.1.toNat → v.1 = (i : Int) := fun v h1 h2 => by
    unfold num62 at h1
    rw [Bool.and_eq_true, decide_eq_true_iff, decide_eq_true_iff] at h1
    omega
  rw [e, h.1, h.2]
  constructor
  · rw [U.has_zero, Bool.false_or, Bool.eq_iff_iff, List.any_eq_true, decide_eq_true_iff]
    constructor
    · rintro ⟨v, hv, h⟩
      simp only [Bool.and_eq_true, Bool.not_eq_true', decide_eq_true_eq] at h
      have e : ((i : Int), false) = v := Prod.ext (key v h.1 h.2.2).symm h.2.1.symm
      rw [e]
      exact hv
    · intro h
      exact ⟨_, h, by simp [hn]⟩
  · rw [U.has_zero, Bool.false_or, Bool.eq_iff_iff, List.any_eq_true, decide_eq_true_iff]
    constructor
    · rintro ⟨v, hv, h⟩
      simp only [Bool.and_eq_true, decide_eq_true_eq] at h
      have e : ((i : Int), true) = v := Prod.ext (key v h.1 h.2.2).symm h.2.1.symm
      rw [e]
      exact hv
    · intro h
      exact ⟨_, h, by simp [hn]⟩
theorem has_wAK {n : Nat} {be : List (Int × Int)} (hr : U.Rt n be) (i k : Nat) (hi : i < n) : ∀ m, m ≤ be.length → S.has ((wAK n be m).getD i 0) k = (be.take m).any fun p => decide (U.pb p = i) && decide (k = U.pa p)
  | 0, _ => by
    have : (wAK n be 0).getD i 0 = 0 := by
      unfold wAK
      rw [List.getD_eq_getElem?_getD, List.getElem?_replicate]
      split <;> rfl
    rw [this, U.has_zero]
    rfl
  | m + 1, h => by
    have ih := has_wAK hr i k hi m (by omega)
    rw [take_more (d := (0, 0)) (by omega), List.any_append, List.any_cons, List.any_nil, Bool.or_false, ← ih]
    have hrt := U.getD_rt hr (k := m) (by omega)
    have e : wAK n be (m + 1) = (wAK n be m).set (U.pb (be.getD m (0, 0))) ((wAK n be m).getD (U.pb (be.getD m (0, 0))) 0 ||| 2 ^ U.pa (be.getD m (0, 0))) := rfl
    rw [e, List.getD_eq_getElem?_getD, List.getElem?_set]
    by_cases hp : U.pb (be.getD m (0, 0)) = i
    · rw [if_pos hp, if_pos (by rw [wAK_len]; exact hrt.2.1), decide_eq_true hp, Bool.true_and, hp]
      show S.has ((wAK n be m).getD i 0 ||| 2 ^ U.pa (be.getD m (0, 0))) k = _
      rw [U.has_or, U.has_pow]
    · rw [if_neg hp, decide_eq_false hp, Bool.false_and, Bool.or_false, ← List.getD_eq_getElem?_getD]
section
variable {z : Int} {ol : List OrT} {be : List (Int × Int)} {l : List (Int × Bool)}
/-- which orders have a visit that is not done -/
theorem left_is (ok : Okv ol) (hn : ol.length ≤ 10) (hr : U.Rt ol.length be) {k : Nat} (hk : k < ol.length) :
    S.has ((waysF z ol be).und (doneL l)) k = (decide (((k : Int), false) ∈ visR ol k) && !decide (((k : Int), false) ∈ l)) ∧ S.has ((waysF z ol be).left (doneL l)) k = !conV l (visR ol k) := by
  have hw := ways_b (z := z) (show ol.length ≤ 63 by omega) hr
  have hd : (doneL l).1 < 2 ^ 63 ∧ (doneL l).2 < 2 ^ 63 := done_lt l (0, 0) (by decide) (by decide)
  have hP := has_wPK ol k ol.length
  have hD := has_done (l := l) (i := k) (by omega)
  rw [visL_is ok hk, decide_eq_true hk, Bool.true_and, Bool.true_and] at hP
  have e1 : S.has ((waysF z ol be).und (doneL l)) k = (decide (((k : Int), false) ∈ visR ol k) && !decide (((k : Int), false) ∈ l)) := by
    unfold WaT.und
    rw [U.has_minus hw.p hd.1]
    show (S.has (wPK ol ol.length).1 k && !S.has (doneL l).1 k) = _
    rw [hP.1, hD.1]
  refine ⟨e1, ?_⟩
  unfold WaT.left
  rw [U.has_or, e1, U.has_minus hw.d hd.2]
  show (_ || (S.has (wPK ol ol.length).2 k && !S.has (doneL l).2 k)) = _
  rw [hP.2, hD.2]
  unfold conV
  rcases visR_form ok hk with e | e | e
  · rw [e]
    simp only [List.all_cons, List.all_nil, Bool.and_true, List.mem_cons, true_or, or_true, decide_true, Bool.true_and, Bool.not_and]
  · rw [e]
    simp
  · rw [e]
    simp
/-- the orders before an order are done -/
theorem rdy_is (ok : Okv ol) (hn : ol.length ≤ 10) (hr : U.Rt ol.length be) {i : Nat} (hi : i < ol.length) : (waysF z ol be).A.getD i 0 &&& (waysF z ol be).left (doneL l) = 0 ↔ rdyB ol be l i = true := by
  have hA : ∀ k, S.has ((waysF z ol be).A.getD i 0) k = be.any fun p => decide (U.pb p = i) && decide (k = U.pa p) := fun k => by
    have h := has_wAK hr i k hi be.length (Nat.le_refl _)
    rwa [List.take_length] at h
  rw [and_zero]
  unfold rdyB
  rw [List.all_eq_true]
  constructor
  · intro h p hp
    unfold rdyP
    have hrt := hr.a hp
    by_cases hb : U.pb p = i
    · have h1 := h (U.pa p) (by rw [hA, List.any_eq_true]; exact ⟨p, hp, by rw [decide_eq_true hb, decide_eq_true rfl]; rfl⟩)
      rw [(left_is ok hn hr hrt.1).2] at h1
      rw [decide_eq_true hb]
      simpa using h1
    · rw [decide_eq_false hb]
      rfl
  · intro h k hk
    rw [hA, List.any_eq_true] at hk
    obtain ⟨p, hp, hpk⟩ := hk
    rw [Bool.and_eq_true, decide_eq_true_iff, decide_eq_true_iff] at hpk
    have hrt := hr.a hp
    have h1 := h p hp
    unfold rdyP at h1
    rw [decide_eq_true hpk.1] at h1
    rw [hpk.2, (left_is ok hn hr hrt.1).2]
    simpa using h1
theorem nx1_no {V : List (Int × Bool)} {k : Nat} (h : ¬ (idxV l (V.getD k (0, false)) < 0 ∧ (k = 0 ∨ idxV l (V.getD 0 (0, false)) ≥ 0))) : nx1 V l k = [] := if_neg h
theorem nx1_yes {V : List (Int × Bool)} {k : Nat} (h : idxV l (V.getD k (0, false)) < 0 ∧ (k = 0 ∨ idxV l (V.getD 0 (0, false)) ≥ 0)) : nx1 V l k = [V.getD k (0, false)] := if_pos h
theorem nxV_is (ok : Okv ol) {i : Nat} (hi : i < ol.length) : nxV (visR ol i) l (visR ol i).length = if conV l (visR ol i) = true then [] else [((i : Int), !(decide (((i : Int), false) ∈ visR ol i) && !decide (((i : Int), false) ∈ l)))] := by
  have m0 := idxV_lt (l := l) (x := ((i : Int), false))
  have m1 := idxV_lt (l := l) (x := ((i : Int), true))
  rcases visR_form ok hi with e | e | e
  · rw [e]
    show ([] ++ nx1 [((i : Int), false), ((i : Int), true)] l 0) ++ nx1 [((i : Int), false), ((i : Int), true)] l 1 = _
    by_cases h0 : ((i : Int), false) ∈ l
    · have h2 : ¬ idxV l ((i : Int), false) < 0 := fun h => m0.1 h h0
      rw [nx1_no (V := [((i : Int), false), ((i : Int), true)]) (k := 0) (fun h => h2 h.1)]
      by_cases h1 : ((i : Int), true) ∈ l
      · rw [nx1_no (V := [((i : Int), false), ((i : Int), true)]) (k := 1) (fun h => m1.1 h.1 h1)]
        unfold conV
        simp [h0, h1]
      · rw [nx1_yes (V := [((i : Int), false), ((i : Int), true)]) (k := 1) ⟨m1.2 h1, .inr (Int.not_lt.1 h2)⟩]
        unfold conV
        simp [h0, h1]
    · have h2 : idxV l ((i : Int), false) < 0 := m0.2 h0
      rw [nx1_yes (V := [((i : Int), false), ((i : Int), true)]) (k := 0) ⟨h2, .inl rfl⟩, nx1_no (V := [((i : Int), false), ((i : Int), true)]) (k := 1) (fun h => h.2.elim (fun h => by cases h) (fun h => absurd h2 (Int.not_lt.2 h)))]
      unfold conV
      simp [h0]
  · rw [e]
    show [] ++ nx1 [((i : Int), false)] l 0 = _
    by_cases h0 : ((i : Int), false) ∈ l
    · rw [nx1_no (V := [((i : Int), false)]) (k := 0) (fun h => m0.1 h.1 h0)]
      unfold conV
      simp [h0]
    · rw [nx1_yes (V := [((i : Int), false)]) (k := 0) ⟨m0.2 h0, .inl rfl⟩]
      unfold conV
      simp [h0]
  · rw [e]
    show [] ++ nx1 [((i : Int), true)] l 0 = _
    by_cases h0 : ((i : Int), true) ∈ l
    · rw [nx1_no (V := [((i : Int), true)]) (k := 0) (fun h => m1.1 h.1 h0)]
      unfold conV
      simp [h0]
    · rw [nx1_yes (V := [((i : Int), true)]) (k := 0) ⟨m1.2 h0, .inl rfl⟩]
      unfold conV
      simp [h0]
theorem next_one (ok : Okv ol) (hn : ol.length ≤ 10) (hr : U.Rt ol.length be) (hz : 0 ≤ z) {i : Nat} (hi : i < ol.length) :
    nxt1 (waysF z ol be).W ((waysF z ol be).und (doneL l)) ((waysF z ol be).left (doneL l)) (waysF z ol be).A i = nxO z ol be l i := by
  have hl := left_is (z := z) (l := l) ok hn hr hi
  have hrd := rdy_is (z := z) (l := l) ok hn hr hi
  have hW := has_wWK z ol i ol.length
  rw [decide_eq_true hi, Bool.true_and] at hW
  have hR : hasR z (i : Int) = hasZ z i := by
    unfold hasR num62
    rw [decide_eq_true hz, decide_eq_true (by omega), decide_eq_true (by omega), Int.toNat_natCast]
    rfl
  have hW2 : S.has (waysF z ol be).W i = (hasZ z i && !(ol.getD i or0).off) := hW
  have hc : (S.has ((waysF z ol be).W &&& (waysF z ol be).left (doneL l)) i = true ∧ (waysF z ol be).A.getD i 0 &&& (waysF z ol be).left (doneL l) = 0) ↔ (hasR z (i : Int) = true ∧ (ol.getD i or0).off = false ∧ rdyB ol be l i = true) ∧ conV l (visR ol i) = false := by
    rw [hrd, U.has_bit, Nat.testBit_and, ← U.has_bit, ← U.has_bit, hl.2, hW2, hR]
    cases hasZ z i <;> cases (ol.getD i or0).off <;> cases rdyB ol be l i <;> cases conV l (visR ol i) <;> simp
  unfold nxt1 nxO
  rw [hl.1, nxV_is ok hi]
  by_cases h1 : hasR z (i : Int) = true ∧ (ol.getD i or0).off = false ∧ rdyB ol be l i = true
  · rw [if_pos h1]
    by_cases h2 : conV l (visR ol i) = true
    · rw [if_neg (fun h => by rw [(hc.1 h).2] at h2; cases h2), if_pos h2]
    · rw [if_pos (hc.2 ⟨h1, by simpa using h2⟩), if_neg h2]
  · rw [if_neg (fun h => h1 (hc.1 h).1), if_neg h1]
theorem next_is (ok : Okv ol) (hn : ol.length ≤ 10) (hr : U.Rt ol.length be) (hz : 0 ≤ z) (l : List (Int × Bool)) : nextS z ol be l = nxR z ol be l ol.length := by
  have key : ∀ k, k ≤ ol.length → nxtK (waysF z ol be).W ((waysF z ol be).und (doneL l)) ((waysF z ol be).left (doneL l)) (waysF z ol be).A k = nxR z ol be l k := by
    intro k
    induction k with
    | zero => intro _; rfl
    | succ k ih =>
      intro h
      unfold nxtK nxR
      rw [ih (by omega), next_one ok hn hr hz (by omega)]
  have hA : (waysF z ol be).A.length = ol.length := wAK_len _ _ _
  unfold nextS nextW
  rw [hA]
  exact key _ (Nat.le_refl _)
end
end Go.Proofs.Ytoliacfpjhanlaa.T


/-! Each visit of a route that the check lets through can follow those before it. -/
namespace Go.Proofs.Ytoliacfpjhanlaa.T
open Go.RowKit
set_option maxRecDepth 8000

section
variable {ol : List OrT} {ap be : List (Int × Int)} {l : List (Int × Bool)}
/-- what a check without an error says -/
theorem chk_ok (h : chkR ol ap be l = 0) : l.length ≠ 0 ∧ Ex ol.length l ∧ (∀ i, i < l.length → offV ol (l.getD i (0, false)) = false) ∧ (∀ i, i < l.length → idxV l (l.getD i (0, false)) = (i : Int)) ∧ prdB ol l = true ∧ befL (ordN l) be l = true := by
  unfold chkR at h
  split at h
  · cases h
  rename_i h1
  split at h
  · cases h
  rename_i h2
  split at h
  · cases h
  rename_i h3
  split at h
  · cases h
  rename_i h4
  split at h
  · cases h
  rename_i h5
  split at h
  · cases h
  split at h
  · cases h
  rename_i h7
  refine ⟨fun e => h2 (.inr e), gone_ex h1, fun i hi => ?_, Decidable.of_not_not h4, by simpa using h5, by simpa using h7⟩
  cases e : offV ol (l.getD i (0, false))
  · rfl
  · exact absurd (List.any_eq_true.2 ⟨_, getD_mem hi, e⟩) h3
theorem mem_take_idx {v : Int × Bool} {i : Nat} (hv : v ∈ l) (h : idxV l v < (i : Int)) : v ∈ l.take i := by
  obtain ⟨j, hj, e1, e2⟩ := idxV_get hv
  rw [← e2, List.getD_eq_getElem?_getD, List.getElem?_eq_getElem hj]
  exact List.mem_take_iff_getElem.2 ⟨j, by omega, rfl⟩
theorem not_mem_take (hO : ∀ i, i < l.length → idxV l (l.getD i (0, false)) = (i : Int)) {i : Nat} (hi : i < l.length) : l.getD i (0, false) ∉ l.take i := idxV_first (hO i hi)
theorem mem_nxR {z : Int} {v : Int × Bool} {k : Nat} (h : v ∈ nxO z ol be l k) : ∀ m, k < m → v ∈ nxR z ol be l m
  | 0, h9 => absurd h9 (Nat.not_lt_zero k)
  | m + 1, h9 => by
    unfold nxR
    rw [List.mem_append]
    rcases Nat.lt_succ_iff_lt_or_eq.1 h9 with h8 | h8
    · exact .inl (mem_nxR h m h8)
    · subst h8
      exact .inr h
/-- a checked route's positions -/
theorem chk_lay (ok : Okv ol) (h : chkR ol ap be l = 0) {k : Nat} (hk : k < ol.length) (hm : ∃ d, ((k : Int), d) ∈ l) : Lay l (trK ol.length l l.length) (k : Int) (visR ol k) := by
  obtain ⟨-, hex, -, hO, hp, -⟩ := chk_ok h
  exact lay_of (fun v hv => posT_all hex ((once_iff hex).2 hO) hv) ok hp hk hm
theorem lay_con (ok : Okv ol) (h : chkR ol ap be l = 0) {k : Nat} (hk : k < ol.length) (hm : ∃ d, ((k : Int), d) ∈ l) : ∀ v ∈ visR ol k, v ∈ l := fun v hv => by
  rcases (chk_lay ok h hk hm).c with ⟨e, h1, h2⟩ | ⟨e, h1, h2⟩ | ⟨e, h1, h2⟩
  · rw [e] at hv
    simp only [List.mem_cons, List.not_mem_nil, or_false] at hv
    rcases hv with rfl | rfl
    · exact idxV_mem.2 h1
    · exact idxV_mem.2 (by omega)
  · rw [e] at hv
    simp only [List.mem_cons, List.not_mem_nil, or_false] at hv
    subst hv
    exact idxV_mem.2 h1
  · rw [e] at hv
    simp only [List.mem_cons, List.not_mem_nil, or_false] at hv
    subst hv
    exact idxV_mem.2 h1
theorem grow_rdy (ok : Okv ol) (hn : ol.length ≤ 10) (hr : U.Rt ol.length be) (h : chkR ol ap be l = 0) {i k : Nat} (hi : i < l.length) (hk : k < ol.length) (hv : (l.getD i (0, false)).1 = (k : Int)) : rdyB ol be (l.take i) k = true := by
  obtain ⟨-, hex, -, hO, hp, hbf⟩ := chk_ok h
  have hm : ((k : Int), (l.getD i (0, false)).2) ∈ l := by
    have e : ((k : Int), (l.getD i (0, false)).2) = l.getD i (0, false) := Prod.ext hv.symm rfl
    rw [e]
    exact getD_mem hi
  unfold rdyB
  rw [List.all_eq_true]
  intro p hpm
  unfold rdyP
  by_cases hb : U.pb p = k
  · have hrt := hr.a hpm
    unfold befL at hbf
    rw [List.all_eq_true] at hbf
    have h1 := hbf p hpm
    unfold befP at h1
    rw [hb, (hasR_ord hn hex hk).2 ⟨_, hm⟩] at h1
    simp only [Bool.not_true, Bool.false_or, Bool.and_eq_true, decide_eq_true_eq] at h1
    have hla := (hasR_ord hn hex hrt.1).1 h1.1
    have hN := (nob_iff hO _ _).1 h1.2
    rw [decide_eq_true hb]
    show conV (l.take i) (visR ol (U.pa p)) = true
    unfold conV
    rw [List.all_eq_true]
    intro v hv2
    rw [decide_eq_true_iff]
    have hvl := lay_con ok h hrt.1 hla v hv2
    have hv1 : v.1 = (U.pa p : Int) := by
      rcases (chk_lay ok h hrt.1 hla).c with ⟨e, -⟩ | ⟨e, -⟩ | ⟨e, -⟩ <;> rw [e] at hv2 <;> simp only [List.mem_cons, List.not_mem_nil, or_false] at hv2
      · rcases hv2 with rfl | rfl <;> rfl
      · subst hv2; rfl
      · subst hv2; rfl
    have ev : ((U.pa p : Int), v.2) = v := Prod.ext hv1.symm rfl
    have h2 := hN v.2 (l.getD i (0, false)).2 (by rw [ev]; exact hvl) hm
    rw [ev] at h2
    have ei : idxV l ((k : Int), (l.getD i (0, false)).2) = (i : Int) := by
      have e : ((k : Int), (l.getD i (0, false)).2) = l.getD i (0, false) := Prod.ext hv.symm rfl
      rw [e]
      exact hO i hi
    rw [ei] at h2
    refine mem_take_idx hvl ?_
    have hne : idxV l v ≠ (i : Int) := fun e => by
      have h3 := idxV_inj hvl (getD_mem (d := (0, false)) hi) (e.trans (hO i hi).symm)
      rw [h3] at hv1
      omega
    omega
  · rw [decide_eq_false hb]
    rfl
theorem grow_one (ok : Okv ol) (hn : ol.length ≤ 10) (hr : U.Rt ol.length be) (h : chkR ol ap be l = 0) {i : Nat} (hi : i < l.length) : l.getD i (0, false) ∈ nxR (ordN l) ol be (l.take i) ol.length := by
  obtain ⟨-, hex, hoff, hO, hp, -⟩ := chk_ok h
  obtain ⟨k, hk, hv⟩ := ex_mem hex (getD_mem (d := (0, false)) hi)
  have hm : ∃ d, ((k : Int), d) ∈ l := ⟨(l.getD i (0, false)).2, by
    have e : ((k : Int), (l.getD i (0, false)).2) = l.getD i (0, false) := Prod.ext hv.symm rfl
    rw [e]
    exact getD_mem hi⟩
  have hvis : l.getD i (0, false) ∈ visR ol k := by
    unfold prdB at hp
    rw [List.all_eq_true] at hp
    have h1 := hp _ (getD_mem (d := (0, false)) hi)
    unfold prdP at h1
    rw [hv, Int.toNat_natCast] at h1
    simp only [Bool.and_eq_true, Bool.not_eq_true', decide_eq_false_iff_not] at h1
    exact idxV_mem.2 (by omega)
  have hnt := not_mem_take hO hi
  refine mem_nxR ?_ _ hk
  unfold nxO
  have ho : (ol.getD k or0).off = false := by
    have := hoff i hi
    unfold offV at this
    rwa [hv, Int.toNat_natCast] at this
  rw [if_pos ⟨(hasR_ord hn hex hk).2 hm, ho, grow_rdy ok hn hr h hi hk hv⟩, nxV_is ok hk]
  have hc : ¬ conV (l.take i) (visR ol k) = true := fun hc => by
    unfold conV at hc
    rw [List.all_eq_true] at hc
    exact hnt (of_decide_eq_true (hc _ hvis))
  rw [if_neg hc, List.mem_singleton]
  refine Prod.ext hv ?_
  have hidx := hO i hi
  cases e : (l.getD i (0, false)).2
  · have ev : l.getD i (0, false) = ((k : Int), false) := Prod.ext hv e
    rw [ev] at hvis hnt
    simp [hvis, hnt]
  · have ev : l.getD i (0, false) = ((k : Int), true) := Prod.ext hv e
    rw [ev] at hvis hidx
    rcases (chk_lay ok h hk hm).c with ⟨e1, h1, h2⟩ | ⟨e1, h1, h2⟩ | ⟨e1, h1, h2⟩
    · have := mem_take_idx (idxV_mem.2 h1) (show idxV l ((k : Int), false) < (i : Int) by omega)
      simp [this]
    · rw [e1] at hvis
      simp at hvis
    · rw [e1]
      simp
theorem grow_end (ok : Okv ol) (hn : ol.length ≤ 10) (h : chkR ol ap be l = 0) : nxR (ordN l) ol be l ol.length = [] := by
  obtain ⟨-, hex, -, -, -, -⟩ := chk_ok h
  have key : ∀ m, m ≤ ol.length → nxR (ordN l) ol be l m = [] := by
    intro m
    induction m with
    | zero => intro _; rfl
    | succ m ih =>
      intro hm
      unfold nxR nxO
      rw [ih (by omega), List.nil_append]
      split
      · rename_i h9
        have hla := (hasR_ord hn hex (show m < ol.length by omega)).1 h9.1
        rw [nxV_is ok (by omega), if_pos]
        unfold conV
        rw [List.all_eq_true]
        intro v hv
        exact decide_eq_true (lay_con ok h (by omega) hla v hv)
      · rfl
  exact key _ (Nat.le_refl _)
end
end Go.Proofs.Ytoliacfpjhanlaa.T


