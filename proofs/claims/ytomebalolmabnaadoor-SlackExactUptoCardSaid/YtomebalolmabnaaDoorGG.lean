/-
  DERIVED. GG: a part of the base of layer 13 (made by pack.py).
-/
import Derived.Test.YtomebalolmabnaaDoorGF
import Derived.Test.YtomebalolmabnaaDoorHO
import Derived.Test.YtomebalolmabnaaDoorHK
import Derived.Test.YtomebalolmabnaaDoorHS
import Derived.Test.YtomebalolmabnaaDoorGA
import Derived.Test.YtomebalolmabnaaDoorHM
import Derived.Test.YtomebalolmabnaaDoorGD
import Derived.Laws.MakeOwn
import Derived.Test.YtomebalolmabnaaDoorGE
import Derived.Test.YtomebalolmabnaaDoorGB
/-! An instance of small bulk, a route, as arguments. -/
namespace Go.Proofs.YtomebalolmabnaaDoor.T
open Go.Joins Go.ChangeShapes Go.WideShapes Go.ChangeAt Go.RowKit Go.Deep
set_option maxRecDepth 8000

section
variable {H : Type} {enc : TypeId × Value → H}
theorem slice_len {W : World} {base : Nat} {t e : TypeId} {oa : Option Addr} {k c : Nat} {y : DataW H × List MemPlace} {n : Nat} (ht : Tryd.prog.underlying t = some (.slice e))
  (hf : DataW.trod enc Tryd.prog W base (fun _ => true) true n t [.slice oa k c] = some y) : k + 1 ≤ Rows.uptoBulk y.1 := by
 rcases open_slice ht hf with ⟨hcs, hx⟩ | ⟨a, len, cap, m, n, D, Pl, hcs, _, hl, hm, hmm, hx, hall⟩
 ·simp only [List.cons.injEq, Value.slice.injEq, and_true] at hcs
  obtain ⟨-, rfl, -⟩ := hcs
  exact bulk_pos y.1
 ·simp only [List.cons.injEq, Value.slice.injEq, and_true] at hcs
  obtain ⟨-, rfl, -⟩ := hcs
  rw [hx]
  have h1 := bulk_len (H := H) ((List.range k).map D)
  have h2 := bulk_slice (H := H) ((List.range k).map D) ((List.range (m - k)).map fun j => D (k + j))
  rw [List.length_map, List.length_range] at h1
  exact Nat.le_trans (Nat.succ_le_succ h1) h2
theorem bulk_agg {d : DataW H} {parts : List (DataW H)} (h : d ∈ parts) : Rows.uptoBulk d + 1 ≤ Rows.uptoBulk (.agg parts) := by
 have := bulk_part h
 simp only [Rows.uptoBulk]
 omega
theorem rows_ofB {α : Type} [Inhabited α] (d : α) {W : World} {base : Nat} {v : Value} {y : DataW H × List MemPlace} {n : Nat} {t e : TypeId} (k : Nat) (hk : 0 < k) (hu : Tryd.prog.underlying t = some (.slice e)) (hC : Tryd.prog.cellsOf e = k) (P : List Value → α → Prop) (f : α → Nat)
  (hone : ∀ (cs : List Value) (x : DataW H × List MemPlace) (m : Nat), cs.length = k → DataW.trod enc Tryd.prog W base (fun _ => true) true m e cs = some x → (∀ p ∈ x.2, p.block < W.heap.size) → ∃ q, P cs q ∧ f q ≤ Rows.uptoBulk x.1)
  (hf : DataW.trod enc Tryd.prog W base (fun _ => true) true n t [v] = some y) (hlt : ∀ x ∈ y.2, x.block < W.heap.size) :
  ∃ (oa : Option Addr) (c : Nat) (l : List α), v = .slice oa l.length c ∧ (l.map f).sum + 1 ≤ Rows.uptoBulk y.1 ∧ ∀ i, i < l.length → ∃ (b o : Nat) (cs : List Value), oa = some ⟨b, o, none⟩ ∧ b < W.heap.size ∧ P cs (l.getD i d) ∧ cs.length = k ∧ ∀ j, j < k → W.cell? ⟨b, o + i * k + j, none⟩ = cs[j]? := by
 obtain ⟨y1, y2⟩ := y
 simp only at hlt ⊢
 rcases open_slice hu hf with ⟨hcs, hx⟩ | ⟨a, len, cap, m, n, D, Pl, hcs, _, hl, hm, hmm, hx, hall⟩
 ·simp only [List.cons.injEq, and_true] at hcs
  subst hcs
  exact ⟨none, 0, [], rfl, bulk_pos _, fun i hi => by cases hi⟩
 ·simp only [List.cons.injEq, and_true] at hcs
  subst hcs
  simp only [if_true] at hmm
  simp only [Prod.mk.injEq] at hx
  rw [hC] at hx hall
  have key : ∀ i, i < len → ∃ q : α × List Value, (P q.2 q.1 ∧ f q.1 ≤ Rows.uptoBulk (D i)) ∧ q.2.length = k ∧ ∀ j, j < k → W.cell? ((a.add (i * k)).add j) = q.2[j]? := fun i hi => by
   obtain ⟨cs', hc, ht⟩ := hall i (by omega)
   obtain ⟨_, hlen, hat⟩ := World.cells?_some hc
   obtain ⟨q, hq, hq2⟩ := hone cs' _ _ hlen ht (fun p hp => hlt p (by
    rw [hx.2, List.mem_append]
    exact .inr (List.mem_flatMap.2 ⟨i, List.mem_range.2 (by omega), hp⟩)))
   exact ⟨⟨q, cs'⟩, ⟨hq, hq2⟩, hlen, fun j hj => hat j (by omega)⟩
  haveI : Inhabited (α × List Value) := ⟨⟨d, []⟩⟩
  obtain ⟨q, hq⟩ := choose_lt key
  have hln : ((List.range len).map fun i => (q i).1).length = len := by simp
  have eg : ∀ i, i < len → ((List.range len).map fun i => (q i).1).getD i d = (q i).1 := fun i hi => by
   rw [List.getD_eq_getElem?_getD, List.getElem?_map, List.getElem?_range hi]; rfl
  have hsum : (((List.range len).map fun i => (q i).1).map f).sum + 1 ≤ Rows.uptoBulk y1 := by
   rw [hx.1]
   refine Nat.le_trans ?_ (bulk_slice _ _)
   rw [bulk_sum, List.map_map, List.map_map]
   exact Nat.succ_le_succ (sum_le (n := len) (f := fun i => f (q i).1) (g := fun i => Rows.uptoBulk (D i)) (fun i hi => (hq i hi).1.2))
  refine ⟨some a, cap, (List.range len).map fun i => (q i).1, by rw [hln], hsum, fun i hi => ?_⟩
  rw [hln] at hi
  obtain ⟨⟨h0, -⟩, h1, h2⟩ := hq i hi
  have hb := row_lt (n := i) hx.2 hlt (show i < m * k from Nat.lt_of_lt_of_le (by omega : i < m) (Nat.le_mul_of_pos_right m hk))
  obtain ⟨b, o, spot⟩ := a
  have hspot : spot = none := by
   obtain ⟨-, z1, z2⟩ := hq 0 (by omega)
   have z3 := z2 0 hk
   rw [List.getElem?_eq_getElem (by omega)] at z3
   simpa [Addr.add] using World.cell?_spot z3
  subst hspot
  rw [eg i hi]
  exact ⟨b, o, (q i).2, rfl, hb, h0, h1, fun j hj => by rw [← h2 j hj, add_pl, add_pl]⟩
theorem type_bulk {W : World} {base : Nat} {cs : List Value} {x : DataW H × List MemPlace} {n : Nat} (hlen : cs.length = 14) (hf : DataW.trod enc Tryd.prog W base (fun _ => true) true n 95 cs = some x) {oa : Option Addr} {k c : Nat} (h : cs[4]? = some (.slice oa k c)) : k + 2 ≤ Rows.uptoBulk x.1 := by
 have he : Tryd.prog.underlying 95 = some (.struct #[_, _, _, _, _, _, _, _, _, _, _, _, _, _]) := Tryd.underlying95
 obtain ⟨xs, n', _, hx, _, hxl, hg⟩ := DataW.trod_struct he hf
 match cs, hlen with
 | [c0, c1, c2, c3, c4, c5, c6, c7, c8, c9, c10, c11, c12, c13], _ =>
  match xs, hxl with
  | [y0, y1, y2, y3, y4, y5, y6, y7, y8, y9, y10, y11, y12, y13], _ =>
   have k4 := hg 4 _ rfl
   have o3 : Tryd.prog.cellsOf 42 = 1 := by kernel_rfl
   simp [o3] at k4
   simp only [List.getElem?_cons_succ, List.getElem?_cons_zero, Option.some.injEq] at h
   subst h
   rw [hx]
   refine Nat.le_trans (Nat.succ_le_succ (slice_len Tryd.underlying42 k4)) (bulk_agg ?_)
   simp
theorem order_bulk {W : World} {base : Nat} {cs : List Value} {x : DataW H × List MemPlace} {n : Nat} (hlen : cs.length = 16) (hf : DataW.trod enc Tryd.prog W base (fun _ => true) true n 93 cs = some x) {oa : Option Addr} {k c : Nat} (h : cs[1]? = some (.slice oa k c)) : k + 2 ≤ Rows.uptoBulk x.1 := by
 have he : Tryd.prog.underlying 93 = some (.struct #[_, _, _, _, _, _, _, _, _, _]) := Tryd.underlying93
 obtain ⟨xs, n', _, hx, _, hxl, hg⟩ := DataW.trod_struct he hf
 match cs, hlen with
 | [c0, c1, c2, c3, c4, c5, c6, c7, c8, c9, c10, c11, c12, c13, c14, c15], _ =>
  match xs, hxl with
  | [y0, y1, y2, y3, y4, y5, y6, y7, y8, y9], _ =>
   have k1 := hg 1 _ rfl
   have o3 : Tryd.prog.cellsOf 42 = 1 := by kernel_rfl
   simp [o3] at k1
   simp only [List.getElem?_cons_succ, List.getElem?_cons_zero, Option.some.injEq] at h
   subst h
   rw [hx]
   refine Nat.le_trans (Nat.succ_le_succ (slice_len Tryd.underlying42 k1)) (bulk_agg ?_)
   simp
theorem two_sum {α : Type} {f : α → Nat} (h : ∀ a, 2 ≤ f a) : ∀ l : List α, l.length * 2 ≤ (l.map f).sum
 | [] => Nat.zero_le _
 | a :: l => by
  have := two_sum h l
  have := h a
  rw [List.map_cons, List.sum_cons, List.length_cons]
  omega
theorem at_sum {α : Type} {f : α → Nat} {d : α} : ∀ {l : List α} {i : Nat}, i < l.length → f (l.getD i d) ≤ (l.map f).sum
 | [], _, h => by cases h
 | a :: l, 0, _ => by rw [List.map_cons, List.sum_cons]; exact Nat.le_add_right _ _
 | a :: l, i + 1, h => by
  have := at_sum (f := f) (d := d) (l := l) (i := i) (Nat.lt_of_succ_lt_succ h)
  rw [List.map_cons, List.sum_cons]
  exact Nat.le_trans this (Nat.le_add_left _ _)
theorem ptsU_of {W : World} {base : Nat} {v : Value} {y : DataW H × List MemPlace} {n : Nat}
  (hf : DataW.trod enc Tryd.prog W base (fun _ => true) true n 87 [v] = some y) (hlt : ∀ x ∈ y.2, x.block < W.heap.size) :
  ∃ l : List (Int × Int), Ps W v l ∧ l.length * 2 ≤ Rows.uptoBulk y.1 := by
 have he : Tryd.prog.underlying 86 = some (.struct #[_, _]) := Tryd.underlying86
 obtain ⟨oa, c, l, h1, h9, h2⟩ := rows_ofB ((0, 0) : Int × Int) 2 (by decide) Tryd.underlying87 (by kernel_rfl) (fun cs p => cs = [.int .i64 p.1, .int .i64 p.2]) (fun _ => 2) (fun cs x m hl ht _ => by
  obtain ⟨xs, n', _, hx, _, hxl, hg⟩ := DataW.trod_struct he ht
  match cs, hl with
  | [v0, v1], _ =>
   match xs, hxl with
   | [y0, y1], _ =>
    have k0 := hg 0 _ rfl
    have k1 := hg 1 _ rfl
    have o1 : Tryd.prog.cellsOf 3 = 1 := by kernel_rfl
    simp [o1] at k0 k1
    obtain ⟨q0, e0, _, _⟩ := DataW.trod_int Tryd.underlying3 k0
    obtain ⟨q1, e1, _, _⟩ := DataW.trod_int Tryd.underlying3 k1
    simp only [List.cons.injEq, and_true] at e0 e1
    subst e0 e1
    refine ⟨(q0, q1), rfl, ?_⟩
    rw [hx]
    have := bulk_pos y0.1
    exact Nat.le_trans (Nat.succ_le_succ this) (bulk_agg (by simp))) hf hlt
 refine ⟨l, ⟨oa, c, h1, fun i hi => ?_⟩, by have := two_sum (f := fun _ => 2) (fun _ => Nat.le_refl 2) l; omega⟩
 obtain ⟨b, o, cs, e, hb, rfl, -, hc⟩ := h2 i hi
 exact ⟨b, o, e, hb, hc 0 (by decide), hc 1 (by decide)⟩
theorem arcsU_of {W : World} {base : Nat} {v : Value} {y : DataW H × List MemPlace} {n : Nat}
  (hf : DataW.trod enc Tryd.prog W base (fun _ => true) true n 23 [v] = some y) (hlt : ∀ x ∈ y.2, x.block < W.heap.size) :
  ∃ (oa : Option Addr) (c : Nat) (l : List ArcT), v = .slice oa l.length c ∧ As W (.slice oa l.length c) l ∧ l.length * 2 ≤ Rows.uptoBulk y.1 ∧ wtA l * 2 ≤ Rows.uptoBulk y.1 := by
 have he : Tryd.prog.underlying 89 = some (.struct #[_, _, _, _, _, _]) := Tryd.underlying89
 haveI : Inhabited ArcT := ⟨arc0⟩
 obtain ⟨oa, c, l, h1, h9, h2⟩ := rows_ofB arc0 6 (by decide) Tryd.underlying23 (by kernel_rfl) (fun cs a => ∃ vt vs, cs = [.int .i64 a.fr, .int .i64 a.to, .int .i64 a.prof, .int .i64 a.miles, vt, vs] ∧ Ps W vt a.tr ∧ Ps W vs a.sl) (fun a => (a.tr.length + a.sl.length) * 2 + 2) (fun cs x m hl ht hp => by
  obtain ⟨xs, n', _, hx, _, hxl, hg⟩ := DataW.trod_struct he ht
  match cs, hl with
  | [c0, c1, c2, c3, c4, c5], _ =>
   match xs, hxl with
   | [y0, y1, y2, y3, y4, y5], _ =>
    have k0 := hg 0 _ rfl
    have k1 := hg 1 _ rfl
    have k2 := hg 2 _ rfl
    have k3 := hg 3 _ rfl
    have k4 := hg 4 _ rfl
    have k5 := hg 5 _ rfl
    have o1 : Tryd.prog.cellsOf 3 = 1 := by kernel_rfl
    have o2 : Tryd.prog.cellsOf 87 = 1 := by kernel_rfl
    simp [o1, o2] at k0 k1 k2 k3 k4 k5
    obtain ⟨fr, e0, _, w0⟩ := DataW.trod_int Tryd.underlying3 k0
    obtain ⟨dt, e1, _, w1⟩ := DataW.trod_int Tryd.underlying3 k1
    obtain ⟨pr, e2, _, w2⟩ := DataW.trod_int Tryd.underlying3 k2
    obtain ⟨mi, e3, _, _⟩ := DataW.trod_int Tryd.underlying3 k3
    simp only [List.cons.injEq, and_true] at e0 e1 e2 e3
    subst e0; subst e1; subst e2; subst e3
    have hx2 := hx
    subst hx2
    obtain ⟨tr, p4, q4⟩ := ptsU_of k4 (fun p hq => hp p (by simp; exact .inr (.inr (.inr (.inr (.inl hq))))))
    obtain ⟨sl, p5, q5⟩ := ptsU_of k5 (fun p hq => hp p (by simp; exact .inr (.inr (.inr (.inr (.inr hq))))))
    refine ⟨⟨fr, dt, pr, mi, tr, sl⟩, ⟨c4, c5, rfl, p4, p5⟩, ?_⟩
    have b0 := bulk_pos y0.1
    have b1 := bulk_pos y1.1
    simp only [List.map_cons, List.map_nil, Rows.uptoBulk, Rows.uptoBulkAll]
    omega) hf hlt
 have hw : ∀ l : List ArcT, wtA l * 2 + l.length * 2 = (l.map fun a => (a.tr.length + a.sl.length) * 2 + 2).sum := fun l => by
  unfold wtA
  induction l with
  | nil => rfl
  | cons a l ih =>
   simp only [List.map_cons, List.sum_cons, List.length_cons] at ih ⊢
   omega
 have hl := hw l
 refine ⟨oa, c, l, h1, ⟨oa, c, rfl, fun i hi => ?_⟩, by omega, by omega⟩
 obtain ⟨b, o, cs, e, hb, ⟨vt, vs, rfl, pt, ps⟩, -, hc⟩ := h2 i hi
 exact ⟨b, o, vt, vs, e, hb, ⟨hc 0 (by decide), hc 1 (by decide), hc 2 (by decide), hc 3 (by decide), hc 4 (by decide), hc 5 (by decide)⟩, pt, ps⟩
theorem typesU_of {W : World} {base : Nat} {v : Value} {y : DataW H × List MemPlace} {n : Nat}
  (hf : DataW.trod enc Tryd.prog W base (fun _ => true) true n 26 [v] = some y) (hlt : ∀ x ∈ y.2, x.block < W.heap.size) :
  ∃ (oa : Option Addr) (c : Nat) (l : List TyT), v = .slice oa l.length c ∧ Ts W (.slice oa l.length c) l ∧ l.length * 2 ≤ Rows.uptoBulk y.1 ∧ ∀ i, i < l.length → (l.getD i ty0).cap.length ≤ Rows.uptoBulk y.1 := by
 haveI : Inhabited TyT := ⟨ty0⟩
 obtain ⟨oa, c, l, h1, h9, h2⟩ := rows_ofB ty0 14 (by decide) Tryd.underlying26 (by kernel_rfl) (fun cs q => ∃ vc, cs = [.string q.name, .int .i64 q.count, .int .i64 q.fr, .int .i64 q.to, vc, .int .i64 q.skills, .int .i64 q.prof, .int .i64 q.opn, .int .i64 q.cls, .int .i64 q.drv, .int .i64 q.rst, .int .i64 q.fix, .int .i64 q.pm, .int .i64 q.pt] ∧ L.Li W vc q.cap) (fun q => q.cap.length + 2) (fun cs x m hl ht hp => by
  obtain ⟨q, oa, c, hcs, h1, -, -, -⟩ := type_of hl ht hp
  exact ⟨q, ⟨_, hcs, h1⟩, type_bulk hl ht (oa := oa) (c := c) (by rw [hcs]; rfl)⟩) hf hlt
 refine ⟨oa, c, l, h1, ⟨oa, c, rfl, fun i hi => ?_⟩, by have := two_sum (f := fun q => q.cap.length + 2) (fun _ => Nat.le_add_left 2 _) l; omega, fun i hi => by have := at_sum (f := fun q => q.cap.length + 2) (d := ty0) hi; omega⟩
 obtain ⟨b, o, cs, e, hb, ⟨vc, rfl, hv⟩, -, hc⟩ := h2 i hi
 exact ⟨b, o, vc, e, hb, ⟨hc 0 (by decide), hc 1 (by decide), hc 2 (by decide), hc 3 (by decide), hc 4 (by decide), hc 5 (by decide), hc 6 (by decide), hc 7 (by decide), hc 8 (by decide), hc 9 (by decide), hc 10 (by decide), hc 11 (by decide), hc 12 (by decide), hc 13 (by decide)⟩, hv⟩
theorem ordersU_of {W : World} {base : Nat} {v : Value} {y : DataW H × List MemPlace} {n : Nat}
  (hf : DataW.trod enc Tryd.prog W base (fun _ => true) true n 27 [v] = some y) (hlt : ∀ x ∈ y.2, x.block < W.heap.size) :
  ∃ (oa : Option Addr) (c : Nat) (l : List OrT), v = .slice oa l.length c ∧ Os W (.slice oa l.length c) l ∧ l.length * 2 ≤ Rows.uptoBulk y.1 ∧ ∀ i, i < l.length → (l.getD i or0).load.length ≤ Rows.uptoBulk y.1 := by
 haveI : Inhabited OrT := ⟨or0⟩
 obtain ⟨oa, c, l, h1, h9, h2⟩ := rows_ofB or0 16 (by decide) Tryd.underlying27 (by kernel_rfl) (fun cs q => ∃ vc, cs = [.string q.name, vc, .int .i64 q.pp, .int .i64 q.po, .int .i64 q.pc, .int .i64 q.ps, .int .i64 q.dp, .int .i64 q.dd, .int .i64 q.dc, .int .i64 q.ds, .int .i64 q.sk, .int .i64 q.pen, .int .i64 q.spl, .int .i64 q.las, .int .i64 q.now, .bool q.off] ∧ L.Li W vc q.load) (fun q => q.load.length + 2) (fun cs x m hl ht hp => by
  obtain ⟨q, oa, c, hcs, h1, -, -⟩ := order_of hl ht hp
  exact ⟨q, ⟨_, hcs, h1⟩, order_bulk hl ht (oa := oa) (c := c) (by rw [hcs]; rfl)⟩) hf hlt
 refine ⟨oa, c, l, h1, ⟨oa, c, rfl, fun i hi => ?_⟩, by have := two_sum (f := fun q => q.load.length + 2) (fun _ => Nat.le_add_left 2 _) l; omega, fun i hi => by have := at_sum (f := fun q => q.load.length + 2) (d := or0) hi; omega⟩
 obtain ⟨b, o, cs, e, hb, ⟨vc, rfl, hv⟩, -, hc⟩ := h2 i hi
 exact ⟨b, o, vc, e, hb, ⟨hc 0 (by decide), hc 1 (by decide), hc 2 (by decide), hc 3 (by decide), hc 4 (by decide), hc 5 (by decide), hc 6 (by decide), hc 7 (by decide), hc 8 (by decide), hc 9 (by decide), hc 10 (by decide), hc 11 (by decide), hc 12 (by decide), hc 13 (by decide), hc 14 (by decide), hc 15 (by decide)⟩, hv⟩
theorem visits_of {W : World} {base : Nat} {v : Value} {y : DataW H × List MemPlace} {n : Nat}
  (hf : DataW.trod enc Tryd.prog W base (fun _ => true) true n 32 [v] = some y) (hlt : ∀ x ∈ y.2, x.block < W.heap.size) :
  ∃ (oa : Option Addr) (c b o : Nat) (l : List (Int × Bool)), v = .slice oa l.length c ∧ Rw W b o 2 (vF l) l.length oa := by
 have he : Tryd.prog.underlying 97 = some (.struct #[_, _]) := Tryd.underlying97
 obtain ⟨oa, c, l, h1, -, h2⟩ := rows_ofB ((0, false) : Int × Bool) 2 (by decide) Tryd.underlying32 (by kernel_rfl) (fun cs p => cs = [.int .i64 p.1, .bool p.2]) (fun _ => 0) (fun cs x m hl ht _ => by
  obtain ⟨xs, n', _, hx, _, hxl, hg⟩ := DataW.trod_struct he ht
  match cs, hl with
  | [v0, v1], _ =>
   match xs, hxl with
   | [y0, y1], _ =>
    have k0 := hg 0 _ rfl
    have k1 := hg 1 _ rfl
    have o1 : Tryd.prog.cellsOf 3 = 1 := by kernel_rfl
    have o5 : Tryd.prog.cellsOf 4 = 1 := by kernel_rfl
    simp [o1, o5] at k0 k1
    obtain ⟨q0, e0, _, _⟩ := DataW.trod_int Tryd.underlying3 k0
    obtain ⟨q1, e1, _⟩ := DataW.trod_bool Tryd.underlying4 k1
    simp only [List.cons.injEq, and_true] at e0 e1
    subst e0 e1
    exact ⟨(q0, q1), rfl, Nat.zero_le _⟩) hf hlt
 cases l with
 | nil => exact ⟨oa, c, 0, 0, [], h1, fun i hi => absurd hi (Nat.not_lt_zero i)⟩
 | cons x l =>
  obtain ⟨b, o, cs0, e, -⟩ := h2 0 (by simp)
  refine ⟨oa, c, b, o, x :: l, h1, fun i hi => ?_⟩
  obtain ⟨b', o', cs, e', hb, rfl, -, hc⟩ := h2 i hi
  rw [e] at e'
  simp only [Option.some.injEq, Addr.mk.injEq, and_true] at e'
  obtain ⟨rfl, rfl⟩ := e'
  refine ⟨e, hb, fun j v hj => ?_⟩
  unfold vF at hj
  match j, hj with
  | 0, hj => simp only [List.getElem?_cons_zero, Option.some.injEq] at hj; subst hj; exact hc 0 (by decide)
  | 1, hj => simp only [List.getElem?_cons_succ, List.getElem?_cons_zero, Option.some.injEq] at hj; subst hj; exact hc 1 (by decide)
  | j + 2, hj => simp at hj
theorem bools_of {W : World} {base : Nat} {v : Value} {y : DataW H × List MemPlace} {n : Nat}
  (hf : DataW.trod enc Tryd.prog W base (fun _ => true) true n 31 [v] = some y) (hlt : ∀ x ∈ y.2, x.block < W.heap.size) :
  ∃ (oa : Option Addr) (c b o : Nat) (l : List Bool), v = .slice oa l.length c ∧ Rw W b o 1 (bF l) l.length oa := by
 obtain ⟨oa, c, l, h1, -, h2⟩ := rows_ofB false 1 (by decide) Tryd.underlying31 (by kernel_rfl) (fun cs p => cs = [.bool p]) (fun _ => 0) (fun cs x m hl ht _ => by
  obtain ⟨q1, e1, _⟩ := DataW.trod_bool Tryd.underlying4 ht
  exact ⟨q1, e1, Nat.zero_le _⟩) hf hlt
 cases l with
 | nil => exact ⟨oa, c, 0, 0, [], h1, fun i hi => absurd hi (Nat.not_lt_zero i)⟩
 | cons x l =>
  obtain ⟨b, o, cs0, e, -⟩ := h2 0 (by simp)
  refine ⟨oa, c, b, o, x :: l, h1, fun i hi => ?_⟩
  obtain ⟨b', o', cs, e', hb, rfl, -, hc⟩ := h2 i hi
  rw [e] at e'
  simp only [Option.some.injEq, Addr.mk.injEq, and_true] at e'
  obtain ⟨rfl, rfl⟩ := e'
  refine ⟨e, hb, fun j v hj => ?_⟩
  unfold bF at hj
  match j, hj with
  | 0, hj => simp only [List.getElem?_cons_zero, Option.some.injEq] at hj; subst hj; exact hc 0 (by decide)
  | j + 1, hj => simp at hj
end
end Go.Proofs.YtomebalolmabnaaDoor.T



/-! A schedule as an argument. -/
namespace Go.Proofs.YtomebalolmabnaaDoor.T
open Go.Joins Go.ChangeShapes Go.WideShapes Go.ChangeAt Go.RowKit Go.Deep
set_option maxRecDepth 8000

section
variable {H : Type} {enc : TypeId × Value → H}
theorem four_sum {α : Type} {f : α → Nat} (h : ∀ a, 4 ≤ f a) : ∀ l : List α, l.length * 4 ≤ (l.map f).sum
 | [] => Nat.zero_le _
 | a :: l => by
  have := four_sum h l
  have := h a
  rw [List.map_cons, List.sum_cons, List.length_cons]
  omega
theorem times_of {W : World} {base : Nat} {v : Value} {y : DataW H × List MemPlace} {n : Nat}
  (hf : DataW.trod enc Tryd.prog W base (fun _ => true) true n 35 [v] = some y) (hlt : ∀ x ∈ y.2, x.block < W.heap.size) :
  ∃ (oa : Option Addr) (c b o : Nat) (T : List TmT), v = .slice oa T.length c ∧ Rw W b o 4 (fun k => tmE (T.getD k tm0)) T.length oa ∧ T.length * 4 ≤ Rows.uptoBulk y.1 := by
 have he : Tryd.prog.underlying 51 = some (.struct #[_, _, _, _]) := Tryd.underlying51
 haveI : Inhabited TmT := ⟨tm0⟩
 obtain ⟨oa, c, l, h1, h9, h2⟩ := rows_ofB tm0 4 (by decide) Tryd.underlying35 (by kernel_rfl) (fun cs p => cs = [.int .i64 p.a, .int .i64 p.b, .int .i64 p.d, .bool p.r]) (fun _ => 4) (fun cs x m hl ht _ => by
  obtain ⟨xs, n', _, hx, _, hxl, hg⟩ := DataW.trod_struct he ht
  match cs, hl with
  | [v0, v1, v2, v3], _ =>
   match xs, hxl with
   | [y0, y1, y2, y3], _ =>
    have k0 := hg 0 _ rfl
    have k1 := hg 1 _ rfl
    have k2 := hg 2 _ rfl
    have k3 := hg 3 _ rfl
    have o1 : Tryd.prog.cellsOf 3 = 1 := by kernel_rfl
    have o5 : Tryd.prog.cellsOf 4 = 1 := by kernel_rfl
    simp [o1, o5] at k0 k1 k2 k3
    obtain ⟨q0, e0, _, _⟩ := DataW.trod_int Tryd.underlying3 k0
    obtain ⟨q1, e1, _, _⟩ := DataW.trod_int Tryd.underlying3 k1
    obtain ⟨q2, e2, _, _⟩ := DataW.trod_int Tryd.underlying3 k2
    obtain ⟨q3, e3, _⟩ := DataW.trod_bool Tryd.underlying4 k3
    simp only [List.cons.injEq, and_true] at e0 e1 e2 e3
    subst e0 e1 e2 e3
    refine ⟨⟨q0, q1, q2, q3⟩, rfl, ?_⟩
    rw [hx]
    have b0 := bulk_pos y0.1
    have b1 := bulk_pos y1.1
    have b2 := bulk_pos y2.1
    have b3 := bulk_pos y3.1
    simp only [List.map_cons, List.map_nil, Rows.uptoBulk, Rows.uptoBulkAll]
    omega) hf hlt
 have hb : l.length * 4 ≤ Rows.uptoBulk y.1 := by have := four_sum (f := fun _ : TmT => 4) (fun _ => Nat.le_refl 4) l; omega
 cases l with
 | nil => exact ⟨oa, c, 0, 0, [], h1, fun i hi => absurd hi (Nat.not_lt_zero i), hb⟩
 | cons x l =>
  obtain ⟨b, o, cs0, e, -⟩ := h2 0 (by simp)
  refine ⟨oa, c, b, o, x :: l, h1, fun i hi => ?_, hb⟩
  obtain ⟨b', o', cs, e', hb', rfl, -, hc⟩ := h2 i hi
  rw [e] at e'
  simp only [Option.some.injEq, Addr.mk.injEq, and_true] at e'
  obtain ⟨rfl, rfl⟩ := e'
  refine ⟨e, hb', fun j v hj => ?_⟩
  unfold tmE at hj
  match j, hj with
  | 0, hj => simp only [List.getElem?_cons_zero, Option.some.injEq] at hj; subst hj; exact hc 0 (by decide)
  | 1, hj => simp only [List.getElem?_cons_succ, List.getElem?_cons_zero, Option.some.injEq] at hj; subst hj; exact hc 1 (by decide)
  | 2, hj => simp only [List.getElem?_cons_succ, List.getElem?_cons_zero, Option.some.injEq] at hj; subst hj; exact hc 2 (by decide)
  | 3, hj => simp only [List.getElem?_cons_succ, List.getElem?_cons_zero, Option.some.injEq] at hj; subst hj; exact hc 3 (by decide)
  | j + 4, hj => simp at hj
end
end Go.Proofs.YtomebalolmabnaaDoor.T



/-! What Run answers (by gen_la.py). -/
namespace Go.Proofs.YtomebalolmabnaaDoor.T
open Go.RowKit
set_option maxRecDepth 8000
attribute [local irreducible] wpList Code.wp wpAnyH

theorem posD_len {tl : List TyT} {ol : List OrT} {ty st : Int} {l : List (Int × Bool)} (h : posD tl ol ty st l = true) : l.length ≤ 20 := by
 unfold posD at h
 simp only [Bool.and_eq_true, decide_eq_true_eq] at h
 exact h.1.2
end Go.Proofs.YtomebalolmabnaaDoor.T



/-! A trip (an instance, a route, a schedule) as an argument. -/
namespace Go.Proofs.YtomebalolmabnaaDoor.T
open Go.Joins Go.ChangeShapes Go.WideShapes Go.ChangeAt Go.RowKit Go.Deep
set_option maxRecDepth 8000

section
variable {H : Type} {enc : TypeId × Value → H}
theorem part_instU {W : World} {base fuel : Nat} {l : List Value} {d : DataW H} {p : List MemPlace}
  (hl9 : l.length = 6) (hf : DataW.trod enc Tryd.prog W base (fun _ => true) true fuel 30 l = some (d, p)) (hlt : ∀ x ∈ p, x.block < W.heap.size) (hk : Rows.uptoBulk d ≤ 1048576) :
  ∃ (k : Iv) (x : InT), Value.agg ⟨l⟩ = k.v x ∧ Ins W k x ∧ InU x := by
 have he : Tryd.prog.underlying 30 = some (.struct #[_, _, _, _, _]) := Tryd.underlying30
 have hN : Tryd.prog.underlying 25 = some (.struct #[_, _]) := Tryd.underlying25
 obtain ⟨xs, n', _, hx, _, hxl, hg⟩ := DataW.trod_struct he hf
 match l, hl9 with
 | [v0, v1, v2, v3, v4, v5], _ =>
  match xs, hxl with
  | [y0, y1, y2, y3, y4], _ =>
   have k0 := hg 0 _ rfl
   have k1 := hg 1 _ rfl
   have k2 := hg 2 _ rfl
   have k3 := hg 3 _ rfl
   have k4 := hg 4 _ rfl
   have o1 : Tryd.prog.cellsOf 25 = 2 := by kernel_rfl
   have o2 : Tryd.prog.cellsOf 26 = 1 := by kernel_rfl
   have o3 : Tryd.prog.cellsOf 27 = 1 := by kernel_rfl
   have o4 : Tryd.prog.cellsOf 28 = 1 := by kernel_rfl
   have o5 : Tryd.prog.cellsOf 22 = 1 := by kernel_rfl
   have o6 : Tryd.prog.cellsOf 23 = 1 := by kernel_rfl
   simp [o1, o2, o3, o4] at k0 k1 k2 k3 k4
   obtain ⟨xs2, n2', _, hx3, _, hxl2, hg2⟩ := DataW.trod_struct hN k0
   match xs2, hxl2 with
   | [u0, u1], _ =>
    have j0 := hg2 0 _ rfl
    have j1 := hg2 1 _ rfl
    simp [o5, o6] at j0 j1
    simp only [Prod.mk.injEq] at hx
    obtain ⟨hx1, hx2⟩ := hx
    subst hx2
    have hy0 : y0.2 = u0.2 ++ u1.2 := by rw [hx3]; simp
    have hy1 : y0.1 = .agg [u0.1, u1.1] := by rw [hx3]; simp
    have q0 : Rows.uptoBulk u0.1 + Rows.uptoBulk u1.1 + Rows.uptoBulk y1.1 + Rows.uptoBulk y2.1 + Rows.uptoBulk y3.1 + Rows.uptoBulk y4.1 ≤ 1048576 := by
     rw [hx1] at hk
     simp only [List.map_cons, List.map_nil, hy1, Rows.uptoBulk, Rows.uptoBulkAll] at hk
     omega
    obtain ⟨a0, c0, pl, rfl, h0, n0⟩ := strs_of j0 (fun p hp => hlt p (by simp only [List.flatMap_cons, List.mem_append, hy0]; exact Or.inl (Or.inl hp)))
    have b0 := slice_len Tryd.underlying22 j0
    obtain ⟨a1, c1, al, rfl, h1, n1, n1w⟩ := arcsU_of j1 (fun p hp => hlt p (by simp only [List.flatMap_cons, List.mem_append, hy0]; exact Or.inl (Or.inr hp)))
    obtain ⟨a2, c2, tl, rfl, h2, n2, n2c⟩ := typesU_of k1 (fun p hp => hlt p (by simp; exact .inr (.inl hp)))
    obtain ⟨a3, c3, ol, rfl, h3, n3, n3l⟩ := ordersU_of k2 (fun p hp => hlt p (by simp; exact .inr (.inr (.inl hp))))
    obtain ⟨a4, c4, ap, rfl, h4, n4, -⟩ := pairs_of k3 (fun p hp => hlt p (by simp; exact .inr (.inr (.inr (.inl hp)))))
    obtain ⟨a5, c5, be, rfl, h5, n5, -⟩ := pairs_of k4 (fun p hp => hlt p (by simp; exact .inr (.inr (.inr (.inr hp)))))
    exact ⟨⟨a0, c0, a1, c1, a2, c2, a3, c3, a4, c4, a5, c5⟩, ⟨pl, al, tl, ol, ap, be⟩, rfl, ⟨h0, h1, h2, h3, h4, h5⟩,
     ⟨by show pl.length ≤ _; omega, by show al.length ≤ _; omega, by show wtA al ≤ _; omega, by show tl.length ≤ _; omega, fun i hi => Nat.le_trans (n2c i hi) (by omega), by show ol.length ≤ _; omega, fun i hi => Nat.le_trans (n3l i hi) (by omega), by show ap.length ≤ _; omega, by show be.length ≤ _; omega⟩⟩
theorem part_routeD {W : World} {base fuel : Nat} {l : List Value} {d : DataW H} {p : List MemPlace}
  (hl9 : l.length = 4) (hf : DataW.trod enc Tryd.prog W base (fun _ => true) true fuel 34 l = some (d, p)) (hlt : ∀ x ∈ p, x.block < W.heap.size) :
  ∃ (ty st : Int) (orr oa : Option Addr) (cr c b o bf qf : Nat) (F : List Bool) (l2 : List (Int × Bool)), Value.agg ⟨l⟩ = .agg #[.int .i64 ty, .int .i64 st, .slice orr F.length cr, .slice oa l2.length c] ∧ Rw W b o 2 (vF l2) l2.length oa ∧ Rw W bf qf 1 (bF F) F.length orr := by
 have he : Tryd.prog.underlying 34 = some (.struct #[_, _, _, _]) := Tryd.underlying34
 obtain ⟨xs, n', _, hx, _, hxl, hg⟩ := DataW.trod_struct he hf
 match l, hl9 with
 | [v0, v1, v2, v3], _ =>
  match xs, hxl with
  | [y0, y1, y2, y3], _ =>
   have k0 := hg 0 _ rfl
   have k1 := hg 1 _ rfl
   have k2 := hg 2 _ rfl
   have k3 := hg 3 _ rfl
   have o1 : Tryd.prog.cellsOf 3 = 1 := by kernel_rfl
   have o3 : Tryd.prog.cellsOf 32 = 1 := by kernel_rfl
   have o4 : Tryd.prog.cellsOf 31 = 1 := by kernel_rfl
   simp [o1, o3, o4] at k0 k1 k2 k3
   obtain ⟨ty, e0, _, _⟩ := DataW.trod_int Tryd.underlying3 k0
   obtain ⟨st, e1, _, _⟩ := DataW.trod_int Tryd.underlying3 k1
   simp only [List.cons.injEq, and_true] at e0 e1
   subst e0 e1
   simp only [Prod.mk.injEq] at hx
   obtain ⟨-, hx2⟩ := hx
   obtain ⟨orr, cr, bf, qf, F, rfl, hF⟩ := bools_of k2 (fun p hp => hlt p (by rw [hx2]; simp; exact .inr (.inr (.inl hp))))
   obtain ⟨oa, c, b, o, l, rfl, hl⟩ := visits_of k3 (fun p hp => hlt p (by rw [hx2]; simp; exact .inr (.inr (.inr hp))))
   exact ⟨ty, st, orr, oa, cr, c, b, o, bf, qf, F, l, rfl, hl, hF⟩
theorem part_sheet {W : World} {base fuel : Nat} {l : List Value} {d : DataW H} {p : List MemPlace}
  (hl9 : l.length = 5) (hf : DataW.trod enc Tryd.prog W base (fun _ => true) true fuel 37 l = some (d, p)) (hlt : ∀ x ∈ p, x.block < W.heap.size) (hk : Rows.uptoBulk d ≤ 1048576) :
  ∃ (S : ShT) (oa : Option Addr) (c b o : Nat), Value.agg ⟨l⟩ = .agg #[.bool S.r, .int .i64 S.d, .slice oa S.T.length c, .int .i64 S.e, .int .i64 S.m] ∧ Rw W b o 4 (fun k => tmE (S.T.getD k tm0)) S.T.length oa ∧ S.T.length ≤ 300000 := by
 have he : Tryd.prog.underlying 37 = some (.struct #[_, _, _, _, _]) := Tryd.underlying37
 obtain ⟨xs, n', _, hx, _, hxl, hg⟩ := DataW.trod_struct he hf
 match l, hl9 with
 | [v0, v1, v2, v3, v4], _ =>
  match xs, hxl with
  | [y0, y1, y2, y3, y4], _ =>
   have k0 := hg 0 _ rfl
   have k1 := hg 1 _ rfl
   have k2 := hg 2 _ rfl
   have k3 := hg 3 _ rfl
   have k4 := hg 4 _ rfl
   have o1 : Tryd.prog.cellsOf 3 = 1 := by kernel_rfl
   have o3 : Tryd.prog.cellsOf 35 = 1 := by kernel_rfl
   have o4 : Tryd.prog.cellsOf 4 = 1 := by kernel_rfl
   simp [o1, o3, o4] at k0 k1 k2 k3 k4
   obtain ⟨r, e0, _⟩ := DataW.trod_bool Tryd.underlying4 k0
   obtain ⟨dd, e1, _, _⟩ := DataW.trod_int Tryd.underlying3 k1
   obtain ⟨ee, e3, _, _⟩ := DataW.trod_int Tryd.underlying3 k3
   obtain ⟨mm, e4, _, _⟩ := DataW.trod_int Tryd.underlying3 k4
   simp only [List.cons.injEq, and_true] at e0 e1 e3 e4
   subst e0 e1 e3 e4
   simp only [Prod.mk.injEq] at hx
   obtain ⟨hx1, hx2⟩ := hx
   obtain ⟨oa, c, b, o, T, rfl, hT, hb⟩ := times_of k2 (fun p hp => hlt p (by rw [hx2]; simp; exact .inr (.inr (.inl hp))))
   refine ⟨⟨r, dd, T, ee, mm⟩, oa, c, b, o, rfl, hT, ?_⟩
   have hb2 : Rows.uptoBulk y2.1 + 1 ≤ Rows.uptoBulk d := by rw [hx1]; exact bulk_agg (by simp)
   show T.length ≤ 300000
   omega
theorem arg_trip {W : World} {base : Nat} {v : Value} {d : DataW H} {p : List MemPlace}
  (hv : Value.okWide Tryd.prog W .any base 39 v) (h : DataW.Trod enc Tryd.prog W 0 (fun _ => true) true 39 v d p) (hlt : ∀ x ∈ p, x.block < W.heap.size) (hk : Rows.uptoBulk d ≤ 1048576) :
  ∃ (k : Iv) (x : InT) (ty st : Int) (orr oa oS : Option Addr) (cr ca cS b o bf qf bS qS : Nat) (l : List (Int × Bool)) (F : List Bool) (S : ShT), v = .agg #[.slice k.o0 x.pl.length k.c0, .slice k.o1 x.al.length k.c1, .slice k.o2 x.tl.length k.c2, .slice k.o3 x.ol.length k.c3, .slice k.o4 x.ap.length k.c4, .slice k.o5 x.be.length k.c5, .int .i64 ty, .int .i64 st, .slice orr F.length cr, .slice oa l.length ca, .bool S.r, .int .i64 S.d, .slice oS S.T.length cS, .int .i64 S.e, .int .i64 S.m] ∧ Ins W k x ∧ InU x ∧ Rw W b o 2 (vF l) l.length oa ∧ Rw W bf qf 1 (bF F) F.length orr ∧ Rw W bS qS 4 (fun k => tmE (S.T.getD k tm0)) S.T.length oS ∧ S.T.length ≤ 300000 := by
 have hC : Tryd.prog.cellsOf 39 = 15 := by kernel_rfl
 obtain ⟨cs, rfl, hsz⟩ := okWide_struct Tryd.underlying39 hv
 obtain ⟨fuel, hf⟩ := h
 have he : Tryd.prog.underlying 39 = some (.struct #[_, _, _]) := Tryd.underlying39
 obtain ⟨xs, n', _, hx, _, hxl, hg⟩ := DataW.trod_struct he hf
 obtain ⟨l⟩ := cs
 have hl15 : l.length = 15 := by rw [← hC]; exact hsz
 match l, hl15 with
 | [v0, v1, v2, v3, v4, v5, v6, v7, v8, v9, v10, v11, v12, v13, v14], _ =>
  match xs, hxl with
  | [y0, y1, y2], _ =>
   have k0 := hg 0 _ rfl
   have k1 := hg 1 _ rfl
   have k2 := hg 2 _ rfl
   have o1 : Tryd.prog.cellsOf 30 = 6 := by kernel_rfl
   have o2 : Tryd.prog.cellsOf 34 = 4 := by kernel_rfl
   have o3 : Tryd.prog.cellsOf 37 = 5 := by kernel_rfl
   simp [o1, o2, o3, Value.cells] at k0 k1 k2
   simp only [Prod.mk.injEq] at hx
   obtain ⟨hx1, hx2⟩ := hx
   have hb0 : Rows.uptoBulk y0.1 + 1 ≤ Rows.uptoBulk d := by rw [hx1]; exact bulk_agg (by simp)
   have hb2 : Rows.uptoBulk y2.1 + 1 ≤ Rows.uptoBulk d := by rw [hx1]; exact bulk_agg (by simp)
   obtain ⟨k, x, e0, hi, ha⟩ := part_instU rfl k0 (fun p hp => hlt p (by rw [hx2]; simp; exact .inl hp)) (by omega)
   obtain ⟨ty, st, orr, oa, cr, c, b, o, bf, qf, F, l, e1, hl, hF⟩ := part_routeD rfl k1 (fun p hp => hlt p (by rw [hx2]; simp; exact .inr (.inl hp)))
   obtain ⟨S, oS, cS, bS, qS, e2, hS, hn⟩ := part_sheet rfl k2 (fun p hp => hlt p (by rw [hx2]; simp; exact .inr (.inr hp))) (by omega)
   have e0 : ([v0, v1, v2, v3, v4, v5] : List Value) = [.slice k.o0 x.pl.length k.c0, .slice k.o1 x.al.length k.c1, .slice k.o2 x.tl.length k.c2, .slice k.o3 x.ol.length k.c3, .slice k.o4 x.ap.length k.c4, .slice k.o5 x.be.length k.c5] := by
    have e := Value.agg.inj e0
    exact congrArg Array.toList e
   have e1 := congrArg Array.toList (Value.agg.inj e1)
   have e2 := congrArg Array.toList (Value.agg.inj e2)
   simp only [List.cons.injEq, and_true] at e0 e1 e2
   obtain ⟨rfl, rfl, rfl, rfl, rfl, rfl⟩ := e0
   obtain ⟨rfl, rfl, rfl, rfl⟩ := e1
   obtain ⟨rfl, rfl, rfl, rfl, rfl⟩ := e2
   exact ⟨k, x, ty, st, orr, oa, oS, cr, c, cS, b, o, bf, qf, bS, qS, l, F, S, rfl, hi, ha, hl, hF, hS, hn⟩
end
end Go.Proofs.YtomebalolmabnaaDoor.T



/-! The specification of schedules: stops, possible routes (by gen_fa.py). -/
namespace Go.Proofs.YtomebalolmabnaaDoor.T
open Go.RowKit
set_option maxRecDepth 8000
attribute [local irreducible] wpList Code.wp wpAnyH

def stR (l : List OrT) (i : Int) (d : Bool) : StT := if inR l i then stQ (l.getD i.toNat or0) d else st0
def okR (l : List OrT) (i : Int) (d : Bool) : Bool := inR l i && decide (0 ≤ (stQ (l.getD i.toNat or0) d).p)
theorem okR_stop {l : List OrT} {i : Int} {d : Bool} : okR l i d = decide (stopE l i d = 0) := by
 unfold okR stopE
 cases h : inR l i
 ·rfl
 ·simp only [Bool.true_and, if_true]
  split
  ·rename_i h1; rw [decide_eq_false (by omega), decide_eq_false (by decide)]
  ·rename_i h1; rw [decide_eq_true (by omega), decide_eq_true rfl]
theorem stR_stop {l : List OrT} {i : Int} {d : Bool} (h : okR l i d = true) : stR l i d = stopV l i d := by
 unfold okR at h
 simp only [Bool.and_eq_true, decide_eq_true_eq] at h
 unfold stR stopV
 rw [if_pos h.1, if_pos h.1, if_neg (by omega)]
end Go.Proofs.YtomebalolmabnaaDoor.T



/-! The stops of a course (by gen_lb.py). -/
namespace Go.Proofs.YtomebalolmabnaaDoor.T
open Go.RowKit
set_option maxRecDepth 8000
attribute [local irreducible] wpList Code.wp wpAnyH

theorem posD_ty {tl : List TyT} {ol : List OrT} {ty st : Int} {l : List (Int × Bool)} (h : posD tl ol ty st l = true) : 0 ≤ ty ∧ ty < tl.length ∧ 0 ≤ st ∧ st ≤ 4096 := by
 unfold posD at h
 simp only [Bool.and_eq_true, decide_eq_true_eq] at h
 exact ⟨h.1.1.1.1.1, h.1.1.1.1.2, h.1.1.1.2, h.1.1.2⟩
theorem posD_at {tl : List TyT} {ol : List OrT} {ty st : Int} {l : List (Int × Bool)} (h : posD tl ol ty st l = true) {i : Nat} (hi : i < l.length) : okR ol (l.getD i (0, false)).1 (l.getD i (0, false)).2 = true := by
 unfold posD at h
 simp only [Bool.and_eq_true, decide_eq_true_eq] at h
 have h1 := List.all_eq_true.1 h.2 _ (getD_mem (d := (0, false)) hi)
 rw [okR_stop]
 exact h1
theorem okR_in {ol : List OrT} {i : Int} {d : Bool} (h : okR ol i d = true) : 0 ≤ i ∧ i.toNat < ol.length ∧ stopV ol i d = stQ (ol.getD i.toNat or0) d := by
 have h0 := h
 unfold okR at h
 simp only [Bool.and_eq_true, decide_eq_true_eq] at h
 have h1 := h.1
 unfold inR at h1
 simp only [Bool.and_eq_true, decide_eq_true_eq] at h1
 refine ⟨h1.1, by omega, ?_⟩
 rw [← stR_stop h0]
 unfold stR
 rw [if_pos h.1]
theorem crs_at (x : InT) (ty st : Int) {l : List (Int × Bool)} {i : Nat} (hi : i < l.length) : (crs x ty st l).S.getD (i + 1) st0 = stopV x.ol (l.getD i (0, false)).1 (l.getD i (0, false)).2 := by
 show (crsS _ x.ol l).getD (i + 1) st0 = _
 unfold crsS
 rw [List.getD_eq_getElem?_getD, List.getElem?_append_left (by simp; omega), List.getElem?_cons_succ, List.getElem?_map, List.getD_eq_getElem?_getD, List.getElem?_eq_getElem hi]
 rfl
end Go.Proofs.YtomebalolmabnaaDoor.T



/-! What is found is possible, and ends first. -/
namespace Go.Proofs.YtomebalolmabnaaDoor.T
open Go.RowKit
set_option maxRecDepth 8000

namespace CrT
def endV (c : CrT) (R : List Bool) : Nat → Nat → Int → Int → Int
 | 0, _, don, _ => don
 | m + 1, k, don, sin => endV c R m (k + 1) (c.leg k don sin (R.getD k false)).don (c.leg k don sin (R.getD k false)).sin
def feas (c : CrT) (R : List Bool) : Nat → Nat → Int → Int → Prop
 | 0, _, _, _ => True
 | m + 1, k, don, sin => c.err k don sin (R.getD k false) = 0 ∧ feas c R m (k + 1) (c.leg k don sin (R.getD k false)).don (c.leg k don sin (R.getD k false)).sin
def endF (c : CrT) : Nat → Nat → Int → Int
 | 0, _, don => don
 | m + 1, k, don => endF c m (k + 1) (c.leg k don 0 false).don
section
variable {c : CrT} (hn : NetOk c.pl c.al) (hr : 0 ≤ c.ty.rst)
include hn hr
theorem leg_le {k : Nat} {d d' s s' : Int} {r r' : Bool} (hd : d ≤ d') (h : r = true → r' = true) : (c.leg k d s r).arr ≤ (c.leg k d' s' r').arr ∧ (c.leg k d s r).don ≤ (c.leg k d' s' r').don ∧ (c.go k d r).2.2 = (c.go k d' r').2.2 := by
 have hg : c.gD d r ≤ c.gD d' r' := by
  unfold gD
  cases r <;> cases r' <;> simp at h ⊢ <;> omega
 have hm := goV_mono hn (pr := c.ty.prof) (f := (c.S.getD k st0).p) (t := (c.S.getD (k + 1) st0).p) hg
 have h1 : (c.go k d r).1 ≤ (c.go k d' r').1 := hm.2.2
 refine ⟨h1, ?_, hm.1⟩
 have hb : c.beg k d r ≤ c.beg k d' r' := by unfold beg; split <;> split <;> omega
 show c.beg k d r + (c.S.getD (k + 1) st0).s ≤ c.beg k d' r' + (c.S.getD (k + 1) st0).s
 omega
theorem endF_le (R : List Bool) : ∀ (m k : Nat) (d d' s : Int), d ≤ d' → c.endF m k d ≤ c.endV R m k d' s
 | 0, _, _, _, _, h => h
 | m + 1, k, d, d', s, h => endF_le R m (k + 1) _ _ _ (leg_le hn hr h (fun h => by cases h)).2.1
theorem dn_le {R R' : List Bool} (h : ∀ i, R.getD i false = true → R'.getD i false = true) : ∀ k, (c.dn R k).1 ≤ (c.dn R' k).1
 | 0 => Int.le_refl _
 | k + 1 => (leg_le hn hr (k := k) (s := (c.dn R k).2) (s' := (c.dn R' k).2) (dn_le h k) (h k)).2.1
end
theorem free_end {c : CrT} {F : List Bool} : ∀ (m k : Nat) (don sin : Int), (c.best F m k don sin).f = true → (c.best F m k don sin).p = true ∧ (c.best F m k don sin).e = c.endF m k don
 | 0, _, _, _, _ => ⟨rfl, rfl⟩
 | m + 1, k, don, sin, h => by
  have hI := foldB_inv (st := stB c (c.best F m (k + 1)) k don sin) (fun b => b.f = true → b.p = true ∧ b.e = c.endF (m + 1) k don) (CrT.opts F k) ch0 (fun h => by cases h) (fun b r _ hb => by
   unfold stB
   split
   ·split
    ·intro hf
     simp only [Bool.and_eq_true] at hf
     have hr : r = false := by simpa using hf.2
     subst hr
     exact ⟨rfl, (free_end m (k + 1) _ _ hf.1).2⟩
    ·exact hb
   ·exact hb)
  rw [← c.best_succ] at hI
  exact hI h
end CrT
theorem foldB_min {c : CrT} {nx : Int → Int → ChT} {k : Nat} {don sin : Int} {r : Bool} (h0 : c.err k don sin r = 0) (hp : (nx (c.leg k don sin r).don (c.leg k don sin r).sin).p = true) : ∀ (O : List Bool) (b : ChT), (r ∈ O ∨ (b.p = true ∧ b.e ≤ (nx (c.leg k don sin r).don (c.leg k don sin r).sin).e)) →
  (foldB (stB c nx k don sin) O b).f = true ∨ ((foldB (stB c nx k don sin) O b).p = true ∧ (foldB (stB c nx k don sin) O b).e ≤ (nx (c.leg k don sin r).don (c.leg k don sin r).sin).e)
 | [], b, h => by
  rcases h with h | h
  ·cases h
  ·exact .inr h
 | q :: O, b, h => by
  show (if (stB c nx k don sin b q).f = true then stB c nx k don sin b q else foldB (stB c nx k don sin) O (stB c nx k don sin b q)).f = true ∨ ((if (stB c nx k don sin b q).f = true then stB c nx k don sin b q else foldB (stB c nx k don sin) O (stB c nx k don sin b q)).p = true ∧ (if (stB c nx k don sin b q).f = true then stB c nx k don sin b q else foldB (stB c nx k don sin) O (stB c nx k don sin b q)).e ≤ _)
  by_cases hf : (stB c nx k don sin b q).f = true
  ·rw [if_pos hf]; exact .inl hf
  ·rw [if_neg hf]
   refine foldB_min h0 hp O _ ?_
   have hkeep : b.p = true ∧ b.e ≤ (nx (c.leg k don sin r).don (c.leg k don sin r).sin).e → (stB c nx k don sin b q).p = true ∧ (stB c nx k don sin b q).e ≤ (nx (c.leg k don sin r).don (c.leg k don sin r).sin).e := fun hb => by
    unfold stB
    split
    ·split
     ·rename_i h2
      rcases h2.2 with h3 | h3
      ·rw [hb.1] at h3; cases h3
      ·exact ⟨rfl, Int.le_trans (Int.le_of_lt h3) hb.2⟩
     ·exact hb
    ·exact hb
   rcases h with h | h
   ·rcases List.mem_cons.1 h with h | h
    ·subst h
     right
     unfold stB
     rw [if_pos h0]
     split
     ·exact ⟨rfl, Int.le_refl _⟩
     ·rename_i h2
      have h3 : ¬ (b.p = false ∨ (nx (c.leg k don sin r).don (c.leg k don sin r).sin).e < b.e) := fun h => h2 ⟨hp, h⟩
      refine ⟨?_, ?_⟩
      ·cases hb : b.p
       ·exact absurd (.inl hb) h3
       ·rfl
      ·have : ¬ (nx (c.leg k don sin r).don (c.leg k don sin r).sin).e < b.e := fun h => h3 (.inr h)
       omega
    ·exact .inl h
   ·exact .inr (hkeep h)
namespace CrT
theorem best_least {c : CrT} (hn : NetOk c.pl c.al) (hr : 0 ≤ c.ty.rst) {F R : List Bool} (hO : ∀ i, R.getD i false ∈ opts F i) : ∀ (m k : Nat) (don sin : Int), c.feas R m k don sin → (c.best F m k don sin).p = true ∧ (c.best F m k don sin).e ≤ c.endV R m k don sin
 | 0, _, _, _, _ => ⟨rfl, Int.le_refl _⟩
 | m + 1, k, don, sin, h => by
  obtain ⟨h1, h2⟩ := h
  have ih := best_least hn hr hO m (k + 1) _ _ h2
  have hf := foldB_min (nx := c.best F m (k + 1)) h1 ih.1 (opts F k) ch0 (.inl (hO k))
  rw [← c.best_succ] at hf
  rcases hf with hf | hf
  ·have h3 := free_end (m + 1) k don sin hf
   exact ⟨h3.1, by rw [h3.2]; exact endF_le hn hr R (m + 1) k don don sin (Int.le_refl _)⟩
  ·exact ⟨hf.1, Int.le_trans hf.2 ih.2⟩
theorem feas_run {c : CrT} {R : List Bool} (h : c.run R c.n = 0) : ∀ (m k : Nat), k + m = c.n → c.feas R m k (c.dn R k).1 (c.dn R k).2 ∧ c.endV R m k (c.dn R k).1 (c.dn R k).2 = (c.dn R c.n).1
 | 0, k, hk => ⟨trivial, by show (c.dn R k).1 = _; rw [show k = c.n by omega]⟩
 | m + 1, k, hk => by
  have ih := feas_run h m (k + 1) (by omega)
  exact ⟨⟨run_er h (by omega), ih.1⟩, ih.2⟩
end CrT
end Go.Proofs.YtomebalolmabnaaDoor.T



/-! Own lists with room behind them: whole lists that are appended, single cells that are written. -/
namespace Go.Proofs.YtomebalolmabnaaDoor.T
open Go.RowKit
set_option maxRecDepth 8000

section
variable {α : Type} {E : α → List Value} {e : TypeId} {sz B : Nat} {w w' : World} {L : List α} {v : Value}
theorem flat_get (hr : Row E sz) (hsz : 0 < sz) (d : α) {L : List α} {j : Nat} {u : Value} (h : (L.flatMap E)[j]? = some u) : j / sz < L.length ∧ (E (L.getD (j / sz) d))[j % sz]? = some u := by
 have hj : j < L.length * sz := by have := (List.getElem?_eq_some_iff.1 h).1; rw [hr.flen] at this; exact this
 have h1 : j / sz < L.length := (Nat.div_lt_iff_lt_mul hsz).2 hj
 refine ⟨h1, ?_⟩
 have h2 := hr.at_ d L (j / sz) (j % sz) h1 (Nat.mod_lt _ hsz)
 rw [show j / sz * sz + j % sz = j by rw [Nat.mul_comm]; exact Nat.div_add_mod j sz] at h2
 rw [← h2]; exact h
theorem ap_all {P : Program} {t ty : TypeId} {z : Value} {bytes : Nat} (hr : Row E sz) (d : α) (ht : P.underlying t = some (.slice e)) (hinfo : (P.info? e).map (fun i => (i.zero, i.size, i.bytes)) = some (some z, sz, bytes)) (hz : z.cells.size = sz) (hsz : 0 < sz) (hb1 : bytes ≤ 1000) {b q c : Nat} {a : Addr} {M : List α} (hv : Ol E e sz B w v L) (hM : Rw w b q sz (fun k => E (M.getD k d)) M.length (some a)) (hB : B ≤ w.heap.size) (hn : L.length + M.length ≤ 1000000) :
  ∃ v' w', (Builtin.append_ #[t, t] ty #[v, .slice (some a) M.length c]).run P w = .ok v' w' ∧ Ol E e sz B w' v' (L ++ M) ∧ Below B w w' ∧ w.grownBy w' v.ownBlock ∧ (v'.ownBlock = v.ownBlock ∨ v'.ownBlock = some w.heap.size) := by
 obtain ⟨i, hi, hzz⟩ := Option.map_eq_some_iff.1 hinfo
 simp only [Prod.mk.injEq] at hzz
 obtain ⟨h1, h2, h3⟩ := hzz
 have hb9 : (L.length + M.length) * bytes ≤ 140737488355328 := Nat.le_trans (Nat.mul_le_mul hn hb1) (by decide)
 obtain ⟨v', w', g1, g2, g3, -, g5⟩ := run_append_own_at (P := P) w B t ty e i z sz bytes ht hi h1 h2 h3 hz hsz v L.length (L.flatMap E) hv a M.length c (M.flatMap E) (hr.flen M) (fun j u hj => by
  obtain ⟨hk, hu⟩ := flat_get hr hsz d hj
  have h8 := hM.cell hk (j % sz) hu
  obtain rfl : a = ⟨b, q, none⟩ := Option.some.inj (hM.oa hk)
  have h7 : (⟨b, q, none⟩ : Addr).add j = ⟨b, q + j / sz * sz + j % sz, none⟩ := by
   have h6 : j / sz * sz + j % sz = j := by rw [Nat.mul_comm]; exact Nat.div_add_mod j sz
   unfold Addr.add
   split
   ·rename_i h5; simp only [Addr.mk.injEq, and_true, true_and]; omega
   ·simp only [Addr.mk.injEq, and_true, true_and]; omega
  rw [h7]; exact h8) (fun u hu => by
  obtain ⟨x, -, hx⟩ := List.mem_flatMap.1 hu
  exact hr.one x u hx) (by unfold maxLen; omega) hb9 hB
 refine ⟨v', w', g1, ?_, ⟨g3.os, g3.tape, g3.output, g3.size, fun k hk => g3.block k (by omega) (fun e9 => by have := hv.blk e9.symm; omega)⟩, g3, g5⟩
 unfold Ol
 rw [List.length_append, List.flatMap_append]
 exact g2
theorem Ol.oz (h : Ol E e sz B w v L) (hne : 0 < L.length) : ∃ g c Z, v = .slice (some ⟨g, 0, none⟩) L.length c ∧ B ≤ g ∧ Cb w g (L.flatMap E ++ Z).toArray e := by
 rcases h.2 with ⟨-, h0⟩ | ⟨g, cap, cur, e9, hb, hg, -, -, -, ht⟩
 ·omega
 ·refine ⟨g, cap, cur.toList.drop (L.length * sz), e9, hb, ?_⟩
  have h1 : L.flatMap E ++ cur.toList.drop (L.length * sz) = cur.toList := by
   rw [← ht]
   exact List.take_append_drop _ _
  rw [h1]
  exact hg
theorem oz_at (hr : Row E sz) (d : α) {Z : List Value} {L : List α} {k j : Nat} (hk : k < L.length) (hj : j < sz) : (L.flatMap E ++ Z).toArray[k * sz + j]? = (E (L.getD k d))[j]? := by
 rw [List.getElem?_toArray, List.getElem?_append_left (by rw [hr.flen]; have := Nat.mul_le_mul_right sz (show k + 1 ≤ L.length by omega); rw [Nat.add_mul] at this; omega)]
 exact hr.at_ d L k j hk hj
theorem set_flat (hr : Row E sz) (d : α) {x : α} {u : Value} {j : Nat} (hj : j < sz) : ∀ (L : List α) (k : Nat), k < L.length → E x = (E (L.getD k d)).set j u → (L.flatMap E).set (k * sz + j) u = (L.set k x).flatMap E
 | [], _, h, _ => absurd h (Nat.not_lt_zero _)
 | y :: L, 0, _, hx => by
  rw [List.flatMap_cons, Nat.zero_mul, Nat.zero_add, List.set_append_left _ _ (by rw [hr.len]; exact hj), List.set_cons_zero, List.flatMap_cons, hx]
  rfl
 | y :: L, k + 1, hk, hx => by
  rw [List.flatMap_cons, List.set_append_right _ _ (by rw [hr.len, Nat.add_mul]; omega), hr.len, show (k + 1) * sz + j - sz = k * sz + j by rw [Nat.add_mul]; omega, set_flat hr d hj L k (by simpa using hk) hx, List.set_cons_succ, List.flatMap_cons]
theorem oz_set (hr : Row E sz) (d : α) {Z : List Value} {t : TypeId} {g : Nat} {L : List α} {x : α} {u : Value} {k j : Nat} (h : Cb w g (L.flatMap E ++ Z).toArray t) (hk : k < L.length) (hj : j < sz) (hx : E x = (E (L.getD k d)).set j u) : Cb (w.setCell ⟨g, k * sz + j, none⟩ u) g ((L.set k x).flatMap E ++ Z).toArray t := by
 have h1 := h.set (k * sz + j) u
 have h2 : (L.flatMap E ++ Z).toArray.setIfInBounds (k * sz + j) u = ((L.set k x).flatMap E ++ Z).toArray := by
  apply Array.toList_inj.1
  rw [Array.toList_setIfInBounds]
  show (L.flatMap E ++ Z).set (k * sz + j) u = _
  rw [List.set_append_left _ _ (by rw [hr.flen]; have := Nat.mul_le_mul_right sz (show k + 1 ≤ L.length by omega); rw [Nat.add_mul] at this; omega), set_flat hr d hj L k hk hx]
 rw [h2] at h1
 exact h1
theorem oz_rw (hr : Row E sz) (d : α) {Z : List Value} {t : TypeId} {g : Nat} {L : List α} (h : Cb w g (L.flatMap E ++ Z).toArray t) : Rw w g 0 sz (fun k => E (L.getD k d)) L.length (some ⟨g, 0, none⟩) := fun k hk => ⟨rfl, h.lt, fun j u hj => by
 have hjs : j < sz := by have := (List.getElem?_eq_some_iff.1 hj).1; rw [hr.len] at this; exact this
 rw [Nat.zero_add]
 exact h.cell _ (by rw [oz_at hr d hk hjs]; exact hj)⟩
end
end Go.Proofs.YtomebalolmabnaaDoor.T



