/-
  DERIVED. GG: a part of the base of layer 13 (made by pack.py).
-/
import Derived.Test.YtomebalolmabnaaGreatDoorGF
import Derived.Test.YtomebalolmabnaaGreatDoorHO
import Derived.Test.YtomebalolmabnaaGreatDoorHK
import Derived.Test.YtomebalolmabnaaGreatDoorHS
import Derived.Test.YtomebalolmabnaaGreatDoorGA
import Derived.Laws.MakeOwn
import Derived.Test.YtomebalolmabnaaGreatDoorHM
import Derived.Test.YtomebalolmabnaaGreatDoorGD
import Derived.Test.YtomebalolmabnaaGreatDoorDd
/-! An instance of small bulk, a route, as arguments. -/
namespace Go.Proofs.YtomebalolmabnaaGreatDoor.T
open Go.Joins Go.ChangeShapes Go.WideShapes Go.ChangeAt Go.RowKit Go.Deep
set_option maxRecDepth 8000

section
variable {H : Type} {enc : TypeId × Value → H}
theorem slice_len {W : World} {base : Nat} {t e : TypeId} {oa : Option Addr} {k c : Nat} {y : DataW H × List MemPlace} {n : Nat} (ht : Tryz.prog.underlying t = some (.slice e))
  (hf : DataW.trod enc Tryz.prog W base (fun _ => true) true n t [.slice oa k c] = some y) : k + 1 ≤ Rows.uptoBulk y.1 := by
 rcases open_slice ht hf with ⟨hcs, hx⟩ | ⟨a, len, cap, m, n, D, Pl, hcs, _, hl, hm, hmm, hx, hall⟩
 ·simp only [List.cons.injEq, Value.slice.injEq, and_true] at hcs
  obtain ⟨-, rfl, -⟩ := hcs
  exact bulk_pos y.1
 ·simp only [List.cons.injEq, Value.slice.injEq, and_true] at hcs
  obtain ⟨-, rfl, -⟩ := hcs
  rw [hx]
  have h1 := bulk_len (H := H) ((List.range k).map D)
  have h2 := bulk_slice (H := H) ((List.range k).map D) ((List.range (m - k)).map fun j => D (k + j))
  rw [List.length_map, List.length_range] at h1
  exact Nat.le_trans (Nat.succ_le_succ h1) h2
theorem bulk_agg {d : DataW H} {parts : List (DataW H)} (h : d ∈ parts) : Rows.uptoBulk d + 1 ≤ Rows.uptoBulk (.agg parts) := by
 have := bulk_part h
 simp only [Rows.uptoBulk]
 omega
theorem rows_ofB {α : Type} [Inhabited α] (d : α) {W : World} {base : Nat} {v : Value} {y : DataW H × List MemPlace} {n : Nat} {t e : TypeId} (k : Nat) (hk : 0 < k) (hu : Tryz.prog.underlying t = some (.slice e)) (hC : Tryz.prog.cellsOf e = k) (P : List Value → α → Prop) (f : α → Nat)
  (hone : ∀ (cs : List Value) (x : DataW H × List MemPlace) (m : Nat), cs.length = k → DataW.trod enc Tryz.prog W base (fun _ => true) true m e cs = some x → (∀ p ∈ x.2, p.block < W.heap.size) → ∃ q, P cs q ∧ f q ≤ Rows.uptoBulk x.1)
  (hf : DataW.trod enc Tryz.prog W base (fun _ => true) true n t [v] = some y) (hlt : ∀ x ∈ y.2, x.block < W.heap.size) :
  ∃ (oa : Option Addr) (c : Nat) (l : List α), v = .slice oa l.length c ∧ (l.map f).sum + 1 ≤ Rows.uptoBulk y.1 ∧ ∀ i, i < l.length → ∃ (b o : Nat) (cs : List Value), oa = some ⟨b, o, none⟩ ∧ b < W.heap.size ∧ P cs (l.getD i d) ∧ cs.length = k ∧ ∀ j, j < k → W.cell? ⟨b, o + i * k + j, none⟩ = cs[j]? := by
 obtain ⟨y1, y2⟩ := y
 simp only at hlt ⊢
 rcases open_slice hu hf with ⟨hcs, hx⟩ | ⟨a, len, cap, m, n, D, Pl, hcs, _, hl, hm, hmm, hx, hall⟩
 ·simp only [List.cons.injEq, and_true] at hcs
  subst hcs
  exact ⟨none, 0, [], rfl, bulk_pos _, fun i hi => by cases hi⟩
 ·simp only [List.cons.injEq, and_true] at hcs
  subst hcs
  simp only [if_true] at hmm
  simp only [Prod.mk.injEq] at hx
  rw [hC] at hx hall
  have key : ∀ i, i < len → ∃ q : α × List Value, (P q.2 q.1 ∧ f q.1 ≤ Rows.uptoBulk (D i)) ∧ q.2.length = k ∧ ∀ j, j < k → W.cell? ((a.add (i * k)).add j) = q.2[j]? := fun i hi => by
   obtain ⟨cs', hc, ht⟩ := hall i (by omega)
   obtain ⟨_, hlen, hat⟩ := World.cells?_some hc
   obtain ⟨q, hq, hq2⟩ := hone cs' _ _ hlen ht (fun p hp => hlt p (by
    rw [hx.2, List.mem_append]
    exact .inr (List.mem_flatMap.2 ⟨i, List.mem_range.2 (by omega), hp⟩)))
   exact ⟨⟨q, cs'⟩, ⟨hq, hq2⟩, hlen, fun j hj => hat j (by omega)⟩
  haveI : Inhabited (α × List Value) := ⟨⟨d, []⟩⟩
  obtain ⟨q, hq⟩ := choose_lt key
  have hln : ((List.range len).map fun i => (q i).1).length = len := by simp
  have eg : ∀ i, i < len → ((List.range len).map fun i => (q i).1).getD i d = (q i).1 := fun i hi => by
   rw [List.getD_eq_getElem?_getD, List.getElem?_map, List.getElem?_range hi]; rfl
  have hsum : (((List.range len).map fun i => (q i).1).map f).sum + 1 ≤ Rows.uptoBulk y1 := by
   rw [hx.1]
   refine Nat.le_trans ?_ (bulk_slice _ _)
   rw [bulk_sum, List.map_map, List.map_map]
   exact Nat.succ_le_succ (sum_le (n := len) (f := fun i => f (q i).1) (g := fun i => Rows.uptoBulk (D i)) (fun i hi => (hq i hi).1.2))
  refine ⟨some a, cap, (List.range len).map fun i => (q i).1, by rw [hln], hsum, fun i hi => ?_⟩
  rw [hln] at hi
  obtain ⟨⟨h0, -⟩, h1, h2⟩ := hq i hi
  have hb := row_lt (n := i) hx.2 hlt (show i < m * k from Nat.lt_of_lt_of_le (by omega : i < m) (Nat.le_mul_of_pos_right m hk))
  obtain ⟨b, o, spot⟩ := a
  have hspot : spot = none := by
   obtain ⟨-, z1, z2⟩ := hq 0 (by omega)
   have z3 := z2 0 hk
   rw [List.getElem?_eq_getElem (by omega)] at z3
   simpa [Addr.add] using World.cell?_spot z3
  subst hspot
  rw [eg i hi]
  exact ⟨b, o, (q i).2, rfl, hb, h0, h1, fun j hj => by rw [← h2 j hj, add_pl, add_pl]⟩
theorem type_bulk {W : World} {base : Nat} {cs : List Value} {x : DataW H × List MemPlace} {n : Nat} (hlen : cs.length = 14) (hf : DataW.trod enc Tryz.prog W base (fun _ => true) true n 80 cs = some x) {oa : Option Addr} {k c : Nat} (h : cs[4]? = some (.slice oa k c)) : k + 2 ≤ Rows.uptoBulk x.1 := by
 have he : Tryz.prog.underlying 80 = some (.struct #[_, _, _, _, _, _, _, _, _, _, _, _, _, _]) := Tryz.underlying80
 obtain ⟨xs, n', _, hx, _, hxl, hg⟩ := DataW.trod_struct he hf
 match cs, hlen with
 | [c0, c1, c2, c3, c4, c5, c6, c7, c8, c9, c10, c11, c12, c13], _ =>
  match xs, hxl with
  | [y0, y1, y2, y3, y4, y5, y6, y7, y8, y9, y10, y11, y12, y13], _ =>
   have k4 := hg 4 _ rfl
   have o3 : Tryz.prog.cellsOf 42 = 1 := by kernel_rfl
   simp [o3] at k4
   simp only [List.getElem?_cons_succ, List.getElem?_cons_zero, Option.some.injEq] at h
   subst h
   rw [hx]
   refine Nat.le_trans (Nat.succ_le_succ (slice_len Tryz.underlying42 k4)) (bulk_agg ?_)
   simp
theorem order_bulk {W : World} {base : Nat} {cs : List Value} {x : DataW H × List MemPlace} {n : Nat} (hlen : cs.length = 16) (hf : DataW.trod enc Tryz.prog W base (fun _ => true) true n 78 cs = some x) {oa : Option Addr} {k c : Nat} (h : cs[1]? = some (.slice oa k c)) : k + 2 ≤ Rows.uptoBulk x.1 := by
 have he : Tryz.prog.underlying 78 = some (.struct #[_, _, _, _, _, _, _, _, _, _]) := Tryz.underlying78
 obtain ⟨xs, n', _, hx, _, hxl, hg⟩ := DataW.trod_struct he hf
 match cs, hlen with
 | [c0, c1, c2, c3, c4, c5, c6, c7, c8, c9, c10, c11, c12, c13, c14, c15], _ =>
  match xs, hxl with
  | [y0, y1, y2, y3, y4, y5, y6, y7, y8, y9], _ =>
   have k1 := hg 1 _ rfl
   have o3 : Tryz.prog.cellsOf 42 = 1 := by kernel_rfl
   simp [o3] at k1
   simp only [List.getElem?_cons_succ, List.getElem?_cons_zero, Option.some.injEq] at h
   subst h
   rw [hx]
   refine Nat.le_trans (Nat.succ_le_succ (slice_len Tryz.underlying42 k1)) (bulk_agg ?_)
   simp
theorem two_sum {α : Type} {f : α → Nat} (h : ∀ a, 2 ≤ f a) : ∀ l : List α, l.length * 2 ≤ (l.map f).sum
 | [] => Nat.zero_le _
 | a :: l => by
  have := two_sum h l
  have := h a
  rw [List.map_cons, List.sum_cons, List.length_cons]
  omega
theorem at_sum {α : Type} {f : α → Nat} {d : α} : ∀ {l : List α} {i : Nat}, i < l.length → f (l.getD i d) ≤ (l.map f).sum
 | [], _, h => by cases h
 | a :: l, 0, _ => by rw [List.map_cons, List.sum_cons]; exact Nat.le_add_right _ _
 | a :: l, i + 1, h => by
  have := at_sum (f := f) (d := d) (l := l) (i := i) (Nat.lt_of_succ_lt_succ h)
  rw [List.map_cons, List.sum_cons]
  exact Nat.le_trans this (Nat.le_add_left _ _)
theorem ptsU_of {W : World} {base : Nat} {v : Value} {y : DataW H × List MemPlace} {n : Nat}
  (hf : DataW.trod enc Tryz.prog W base (fun _ => true) true n 72 [v] = some y) (hlt : ∀ x ∈ y.2, x.block < W.heap.size) :
  ∃ l : List (Int × Int), Ps W v l ∧ l.length * 2 ≤ Rows.uptoBulk y.1 := by
 have he : Tryz.prog.underlying 71 = some (.struct #[_, _]) := Tryz.underlying71
 obtain ⟨oa, c, l, h1, h9, h2⟩ := rows_ofB ((0, 0) : Int × Int) 2 (by decide) Tryz.underlying72 (by kernel_rfl) (fun cs p => cs = [.int .i64 p.1, .int .i64 p.2]) (fun _ => 2) (fun cs x m hl ht _ => by
  obtain ⟨xs, n', _, hx, _, hxl, hg⟩ := DataW.trod_struct he ht
  match cs, hl with
  | [v0, v1], _ =>
   match xs, hxl with
   | [y0, y1], _ =>
    have k0 := hg 0 _ rfl
    have k1 := hg 1 _ rfl
    have o1 : Tryz.prog.cellsOf 3 = 1 := by kernel_rfl
    simp [o1] at k0 k1
    obtain ⟨q0, e0, _, _⟩ := DataW.trod_int Tryz.underlying3 k0
    obtain ⟨q1, e1, _, _⟩ := DataW.trod_int Tryz.underlying3 k1
    simp only [List.cons.injEq, and_true] at e0 e1
    subst e0 e1
    refine ⟨(q0, q1), rfl, ?_⟩
    rw [hx]
    have := bulk_pos y0.1
    exact Nat.le_trans (Nat.succ_le_succ this) (bulk_agg (by simp))) hf hlt
 refine ⟨l, ⟨oa, c, h1, fun i hi => ?_⟩, by have := two_sum (f := fun _ => 2) (fun _ => Nat.le_refl 2) l; omega⟩
 obtain ⟨b, o, cs, e, hb, rfl, -, hc⟩ := h2 i hi
 exact ⟨b, o, e, hb, hc 0 (by decide), hc 1 (by decide)⟩
theorem arcsU_of {W : World} {base : Nat} {v : Value} {y : DataW H × List MemPlace} {n : Nat}
  (hf : DataW.trod enc Tryz.prog W base (fun _ => true) true n 23 [v] = some y) (hlt : ∀ x ∈ y.2, x.block < W.heap.size) :
  ∃ (oa : Option Addr) (c : Nat) (l : List ArcT), v = .slice oa l.length c ∧ As W (.slice oa l.length c) l ∧ l.length * 2 ≤ Rows.uptoBulk y.1 ∧ wtA l * 2 ≤ Rows.uptoBulk y.1 := by
 have he : Tryz.prog.underlying 74 = some (.struct #[_, _, _, _, _, _]) := Tryz.underlying74
 haveI : Inhabited ArcT := ⟨arc0⟩
 obtain ⟨oa, c, l, h1, h9, h2⟩ := rows_ofB arc0 6 (by decide) Tryz.underlying23 (by kernel_rfl) (fun cs a => ∃ vt vs, cs = [.int .i64 a.fr, .int .i64 a.to, .int .i64 a.prof, .int .i64 a.miles, vt, vs] ∧ Ps W vt a.tr ∧ Ps W vs a.sl) (fun a => (a.tr.length + a.sl.length) * 2 + 2) (fun cs x m hl ht hp => by
  obtain ⟨xs, n', _, hx, _, hxl, hg⟩ := DataW.trod_struct he ht
  match cs, hl with
  | [c0, c1, c2, c3, c4, c5], _ =>
   match xs, hxl with
   | [y0, y1, y2, y3, y4, y5], _ =>
    have k0 := hg 0 _ rfl
    have k1 := hg 1 _ rfl
    have k2 := hg 2 _ rfl
    have k3 := hg 3 _ rfl
    have k4 := hg 4 _ rfl
    have k5 := hg 5 _ rfl
    have o1 : Tryz.prog.cellsOf 3 = 1 := by kernel_rfl
    have o2 : Tryz.prog.cellsOf 72 = 1 := by kernel_rfl
    simp [o1, o2] at k0 k1 k2 k3 k4 k5
    obtain ⟨fr, e0, _, w0⟩ := DataW.trod_int Tryz.underlying3 k0
    obtain ⟨dt, e1, _, w1⟩ := DataW.trod_int Tryz.underlying3 k1
    obtain ⟨pr, e2, _, w2⟩ := DataW.trod_int Tryz.underlying3 k2
    obtain ⟨mi, e3, _, _⟩ := DataW.trod_int Tryz.underlying3 k3
    simp only [List.cons.injEq, and_true] at e0 e1 e2 e3
    subst e0; subst e1; subst e2; subst e3
    have hx2 := hx
    subst hx2
    obtain ⟨tr, p4, q4⟩ := ptsU_of k4 (fun p hq => hp p (by simp; exact .inr (.inr (.inr (.inr (.inl hq))))))
    obtain ⟨sl, p5, q5⟩ := ptsU_of k5 (fun p hq => hp p (by simp; exact .inr (.inr (.inr (.inr (.inr hq))))))
    refine ⟨⟨fr, dt, pr, mi, tr, sl⟩, ⟨c4, c5, rfl, p4, p5⟩, ?_⟩
    have b0 := bulk_pos y0.1
    have b1 := bulk_pos y1.1
    simp only [List.map_cons, List.map_nil, Rows.uptoBulk, Rows.uptoBulkAll]
    omega) hf hlt
 have hw : ∀ l : List ArcT, wtA l * 2 + l.length * 2 = (l.map fun a => (a.tr.length + a.sl.length) * 2 + 2).sum := fun l => by
  unfold wtA
  induction l with
  | nil => rfl
  | cons a l ih =>
   simp only [List.map_cons, List.sum_cons, List.length_cons] at ih ⊢
   omega
 have hl := hw l
 refine ⟨oa, c, l, h1, ⟨oa, c, rfl, fun i hi => ?_⟩, by omega, by omega⟩
 obtain ⟨b, o, cs, e, hb, ⟨vt, vs, rfl, pt, ps⟩, -, hc⟩ := h2 i hi
 exact ⟨b, o, vt, vs, e, hb, ⟨hc 0 (by decide), hc 1 (by decide), hc 2 (by decide), hc 3 (by decide), hc 4 (by decide), hc 5 (by decide)⟩, pt, ps⟩
theorem typesU_of {W : World} {base : Nat} {v : Value} {y : DataW H × List MemPlace} {n : Nat}
  (hf : DataW.trod enc Tryz.prog W base (fun _ => true) true n 26 [v] = some y) (hlt : ∀ x ∈ y.2, x.block < W.heap.size) :
  ∃ (oa : Option Addr) (c : Nat) (l : List TyT), v = .slice oa l.length c ∧ Ts W (.slice oa l.length c) l ∧ l.length * 2 ≤ Rows.uptoBulk y.1 ∧ ∀ i, i < l.length → (l.getD i ty0).cap.length ≤ Rows.uptoBulk y.1 := by
 haveI : Inhabited TyT := ⟨ty0⟩
 obtain ⟨oa, c, l, h1, h9, h2⟩ := rows_ofB ty0 14 (by decide) Tryz.underlying26 (by kernel_rfl) (fun cs q => ∃ vc, cs = [.string q.name, .int .i64 q.count, .int .i64 q.fr, .int .i64 q.to, vc, .int .i64 q.skills, .int .i64 q.prof, .int .i64 q.opn, .int .i64 q.cls, .int .i64 q.drv, .int .i64 q.rst, .int .i64 q.fix, .int .i64 q.pm, .int .i64 q.pt] ∧ L.Li W vc q.cap) (fun q => q.cap.length + 2) (fun cs x m hl ht hp => by
  obtain ⟨q, oa, c, hcs, h1, -, -, -⟩ := type_of hl ht hp
  exact ⟨q, ⟨_, hcs, h1⟩, type_bulk hl ht (oa := oa) (c := c) (by rw [hcs]; rfl)⟩) hf hlt
 refine ⟨oa, c, l, h1, ⟨oa, c, rfl, fun i hi => ?_⟩, by have := two_sum (f := fun q => q.cap.length + 2) (fun _ => Nat.le_add_left 2 _) l; omega, fun i hi => by have := at_sum (f := fun q => q.cap.length + 2) (d := ty0) hi; omega⟩
 obtain ⟨b, o, cs, e, hb, ⟨vc, rfl, hv⟩, -, hc⟩ := h2 i hi
 exact ⟨b, o, vc, e, hb, ⟨hc 0 (by decide), hc 1 (by decide), hc 2 (by decide), hc 3 (by decide), hc 4 (by decide), hc 5 (by decide), hc 6 (by decide), hc 7 (by decide), hc 8 (by decide), hc 9 (by decide), hc 10 (by decide), hc 11 (by decide), hc 12 (by decide), hc 13 (by decide)⟩, hv⟩
theorem ordersU_of {W : World} {base : Nat} {v : Value} {y : DataW H × List MemPlace} {n : Nat}
  (hf : DataW.trod enc Tryz.prog W base (fun _ => true) true n 27 [v] = some y) (hlt : ∀ x ∈ y.2, x.block < W.heap.size) :
  ∃ (oa : Option Addr) (c : Nat) (l : List OrT), v = .slice oa l.length c ∧ Os W (.slice oa l.length c) l ∧ l.length * 2 ≤ Rows.uptoBulk y.1 ∧ ∀ i, i < l.length → (l.getD i or0).load.length ≤ Rows.uptoBulk y.1 := by
 haveI : Inhabited OrT := ⟨or0⟩
 obtain ⟨oa, c, l, h1, h9, h2⟩ := rows_ofB or0 16 (by decide) Tryz.underlying27 (by kernel_rfl) (fun cs q => ∃ vc, cs = [.string q.name, vc, .int .i64 q.pp, .int .i64 q.po, .int .i64 q.pc, .int .i64 q.ps, .int .i64 q.dp, .int .i64 q.dd, .int .i64 q.dc, .int .i64 q.ds, .int .i64 q.sk, .int .i64 q.pen, .int .i64 q.spl, .int .i64 q.las, .int .i64 q.now, .bool q.off] ∧ L.Li W vc q.load) (fun q => q.load.length + 2) (fun cs x m hl ht hp => by
  obtain ⟨q, oa, c, hcs, h1, -, -⟩ := order_of hl ht hp
  exact ⟨q, ⟨_, hcs, h1⟩, order_bulk hl ht (oa := oa) (c := c) (by rw [hcs]; rfl)⟩) hf hlt
 refine ⟨oa, c, l, h1, ⟨oa, c, rfl, fun i hi => ?_⟩, by have := two_sum (f := fun q => q.load.length + 2) (fun _ => Nat.le_add_left 2 _) l; omega, fun i hi => by have := at_sum (f := fun q => q.load.length + 2) (d := or0) hi; omega⟩
 obtain ⟨b, o, cs, e, hb, ⟨vc, rfl, hv⟩, -, hc⟩ := h2 i hi
 exact ⟨b, o, vc, e, hb, ⟨hc 0 (by decide), hc 1 (by decide), hc 2 (by decide), hc 3 (by decide), hc 4 (by decide), hc 5 (by decide), hc 6 (by decide), hc 7 (by decide), hc 8 (by decide), hc 9 (by decide), hc 10 (by decide), hc 11 (by decide), hc 12 (by decide), hc 13 (by decide), hc 14 (by decide), hc 15 (by decide)⟩, hv⟩
theorem visits_of {W : World} {base : Nat} {v : Value} {y : DataW H × List MemPlace} {n : Nat}
  (hf : DataW.trod enc Tryz.prog W base (fun _ => true) true n 32 [v] = some y) (hlt : ∀ x ∈ y.2, x.block < W.heap.size) :
  ∃ (oa : Option Addr) (c b o : Nat) (l : List (Int × Bool)), v = .slice oa l.length c ∧ Rw W b o 2 (vF l) l.length oa := by
 have he : Tryz.prog.underlying 82 = some (.struct #[_, _]) := Tryz.underlying82
 obtain ⟨oa, c, l, h1, -, h2⟩ := rows_ofB ((0, false) : Int × Bool) 2 (by decide) Tryz.underlying32 (by kernel_rfl) (fun cs p => cs = [.int .i64 p.1, .bool p.2]) (fun _ => 0) (fun cs x m hl ht _ => by
  obtain ⟨xs, n', _, hx, _, hxl, hg⟩ := DataW.trod_struct he ht
  match cs, hl with
  | [v0, v1], _ =>
   match xs, hxl with
   | [y0, y1], _ =>
    have k0 := hg 0 _ rfl
    have k1 := hg 1 _ rfl
    have o1 : Tryz.prog.cellsOf 3 = 1 := by kernel_rfl
    have o5 : Tryz.prog.cellsOf 4 = 1 := by kernel_rfl
    simp [o1, o5] at k0 k1
    obtain ⟨q0, e0, _, _⟩ := DataW.trod_int Tryz.underlying3 k0
    obtain ⟨q1, e1, _⟩ := DataW.trod_bool Tryz.underlying4 k1
    simp only [List.cons.injEq, and_true] at e0 e1
    subst e0 e1
    exact ⟨(q0, q1), rfl, Nat.zero_le _⟩) hf hlt
 cases l with
 | nil => exact ⟨oa, c, 0, 0, [], h1, fun i hi => absurd hi (Nat.not_lt_zero i)⟩
 | cons x l =>
  obtain ⟨b, o, cs0, e, -⟩ := h2 0 (by simp)
  refine ⟨oa, c, b, o, x :: l, h1, fun i hi => ?_⟩
  obtain ⟨b', o', cs, e', hb, rfl, -, hc⟩ := h2 i hi
  rw [e] at e'
  simp only [Option.some.injEq, Addr.mk.injEq, and_true] at e'
  obtain ⟨rfl, rfl⟩ := e'
  refine ⟨e, hb, fun j v hj => ?_⟩
  unfold vF at hj
  match j, hj with
  | 0, hj => simp only [List.getElem?_cons_zero, Option.some.injEq] at hj; subst hj; exact hc 0 (by decide)
  | 1, hj => simp only [List.getElem?_cons_succ, List.getElem?_cons_zero, Option.some.injEq] at hj; subst hj; exact hc 1 (by decide)
  | j + 2, hj => simp at hj
theorem bools_of {W : World} {base : Nat} {v : Value} {y : DataW H × List MemPlace} {n : Nat}
  (hf : DataW.trod enc Tryz.prog W base (fun _ => true) true n 31 [v] = some y) (hlt : ∀ x ∈ y.2, x.block < W.heap.size) :
  ∃ (oa : Option Addr) (c b o : Nat) (l : List Bool), v = .slice oa l.length c ∧ Rw W b o 1 (bF l) l.length oa := by
 obtain ⟨oa, c, l, h1, -, h2⟩ := rows_ofB false 1 (by decide) Tryz.underlying31 (by kernel_rfl) (fun cs p => cs = [.bool p]) (fun _ => 0) (fun cs x m hl ht _ => by
  obtain ⟨q1, e1, _⟩ := DataW.trod_bool Tryz.underlying4 ht
  exact ⟨q1, e1, Nat.zero_le _⟩) hf hlt
 cases l with
 | nil => exact ⟨oa, c, 0, 0, [], h1, fun i hi => absurd hi (Nat.not_lt_zero i)⟩
 | cons x l =>
  obtain ⟨b, o, cs0, e, -⟩ := h2 0 (by simp)
  refine ⟨oa, c, b, o, x :: l, h1, fun i hi => ?_⟩
  obtain ⟨b', o', cs, e', hb, rfl, -, hc⟩ := h2 i hi
  rw [e] at e'
  simp only [Option.some.injEq, Addr.mk.injEq, and_true] at e'
  obtain ⟨rfl, rfl⟩ := e'
  refine ⟨e, hb, fun j v hj => ?_⟩
  unfold bF at hj
  match j, hj with
  | 0, hj => simp only [List.getElem?_cons_zero, Option.some.injEq] at hj; subst hj; exact hc 0 (by decide)
  | j + 1, hj => simp at hj
end
end Go.Proofs.YtomebalolmabnaaGreatDoor.T



/-! A schedule as an argument. -/
namespace Go.Proofs.YtomebalolmabnaaGreatDoor.T
open Go.Joins Go.ChangeShapes Go.WideShapes Go.ChangeAt Go.RowKit Go.Deep
set_option maxRecDepth 8000

section
variable {H : Type} {enc : TypeId × Value → H}
theorem four_sum {α : Type} {f : α → Nat} (h : ∀ a, 4 ≤ f a) : ∀ l : List α, l.length * 4 ≤ (l.map f).sum
 | [] => Nat.zero_le _
 | a :: l => by
  have := four_sum h l
  have := h a
  rw [List.map_cons, List.sum_cons, List.length_cons]
  omega
theorem times_of {W : World} {base : Nat} {v : Value} {y : DataW H × List MemPlace} {n : Nat}
  (hf : DataW.trod enc Tryz.prog W base (fun _ => true) true n 35 [v] = some y) (hlt : ∀ x ∈ y.2, x.block < W.heap.size) :
  ∃ (oa : Option Addr) (c b o : Nat) (T : List TmT), v = .slice oa T.length c ∧ Rw W b o 4 (fun k => tmE (T.getD k tm0)) T.length oa ∧ T.length * 4 ≤ Rows.uptoBulk y.1 := by
 have he : Tryz.prog.underlying 61 = some (.struct #[_, _, _, _]) := Tryz.underlying61
 haveI : Inhabited TmT := ⟨tm0⟩
 obtain ⟨oa, c, l, h1, h9, h2⟩ := rows_ofB tm0 4 (by decide) Tryz.underlying35 (by kernel_rfl) (fun cs p => cs = [.int .i64 p.a, .int .i64 p.b, .int .i64 p.d, .bool p.r]) (fun _ => 4) (fun cs x m hl ht _ => by
  obtain ⟨xs, n', _, hx, _, hxl, hg⟩ := DataW.trod_struct he ht
  match cs, hl with
  | [v0, v1, v2, v3], _ =>
   match xs, hxl with
   | [y0, y1, y2, y3], _ =>
    have k0 := hg 0 _ rfl
    have k1 := hg 1 _ rfl
    have k2 := hg 2 _ rfl
    have k3 := hg 3 _ rfl
    have o1 : Tryz.prog.cellsOf 3 = 1 := by kernel_rfl
    have o5 : Tryz.prog.cellsOf 4 = 1 := by kernel_rfl
    simp [o1, o5] at k0 k1 k2 k3
    obtain ⟨q0, e0, _, _⟩ := DataW.trod_int Tryz.underlying3 k0
    obtain ⟨q1, e1, _, _⟩ := DataW.trod_int Tryz.underlying3 k1
    obtain ⟨q2, e2, _, _⟩ := DataW.trod_int Tryz.underlying3 k2
    obtain ⟨q3, e3, _⟩ := DataW.trod_bool Tryz.underlying4 k3
    simp only [List.cons.injEq, and_true] at e0 e1 e2 e3
    subst e0 e1 e2 e3
    refine ⟨⟨q0, q1, q2, q3⟩, rfl, ?_⟩
    rw [hx]
    have b0 := bulk_pos y0.1
    have b1 := bulk_pos y1.1
    have b2 := bulk_pos y2.1
    have b3 := bulk_pos y3.1
    simp only [List.map_cons, List.map_nil, Rows.uptoBulk, Rows.uptoBulkAll]
    omega) hf hlt
 have hb : l.length * 4 ≤ Rows.uptoBulk y.1 := by have := four_sum (f := fun _ : TmT => 4) (fun _ => Nat.le_refl 4) l; omega
 cases l with
 | nil => exact ⟨oa, c, 0, 0, [], h1, fun i hi => absurd hi (Nat.not_lt_zero i), hb⟩
 | cons x l =>
  obtain ⟨b, o, cs0, e, -⟩ := h2 0 (by simp)
  refine ⟨oa, c, b, o, x :: l, h1, fun i hi => ?_, hb⟩
  obtain ⟨b', o', cs, e', hb', rfl, -, hc⟩ := h2 i hi
  rw [e] at e'
  simp only [Option.some.injEq, Addr.mk.injEq, and_true] at e'
  obtain ⟨rfl, rfl⟩ := e'
  refine ⟨e, hb', fun j v hj => ?_⟩
  unfold tmE at hj
  match j, hj with
  | 0, hj => simp only [List.getElem?_cons_zero, Option.some.injEq] at hj; subst hj; exact hc 0 (by decide)
  | 1, hj => simp only [List.getElem?_cons_succ, List.getElem?_cons_zero, Option.some.injEq] at hj; subst hj; exact hc 1 (by decide)
  | 2, hj => simp only [List.getElem?_cons_succ, List.getElem?_cons_zero, Option.some.injEq] at hj; subst hj; exact hc 2 (by decide)
  | 3, hj => simp only [List.getElem?_cons_succ, List.getElem?_cons_zero, Option.some.injEq] at hj; subst hj; exact hc 3 (by decide)
  | j + 4, hj => simp at hj
end
end Go.Proofs.YtomebalolmabnaaGreatDoor.T



/-! What Run answers (by gen_la.py). -/
namespace Go.Proofs.YtomebalolmabnaaGreatDoor.T
open Go.RowKit
set_option maxRecDepth 8000
attribute [local irreducible] wpList Code.wp wpAnyH

theorem runS_is {x : InT} {ty st : Int} {l : List (Int × Bool)} {R : List Bool} (h : runE x ty st l R = 0) : runS x ty st l R = (crs x ty st l).sheet R ∧ posD x.tl x.ol ty st l = true ∧ R.length = l.length + 1 ∧ (crs x ty st l).run R (crs x ty st l).n = 0 := by
 have h1 : runS x ty st l R = (crs x ty st l).sheet R := by unfold runS; rw [if_pos h]
 unfold runE at h
 split at h
 ·rename_i h2
  exact ⟨h1, h2.1, h2.2, by rw [crs_n]; exact h⟩
 ·cases h
theorem posD_len {tl : List TyT} {ol : List OrT} {ty st : Int} {l : List (Int × Bool)} (h : posD tl ol ty st l = true) : l.length ≤ 20 := by
 unfold posD at h
 simp only [Bool.and_eq_true, decide_eq_true_eq] at h
 exact h.1.2
end Go.Proofs.YtomebalolmabnaaGreatDoor.T



/-! A trip (an instance, a route, a schedule) as an argument. -/
namespace Go.Proofs.YtomebalolmabnaaGreatDoor.T
open Go.Joins Go.ChangeShapes Go.WideShapes Go.ChangeAt Go.RowKit Go.Deep
set_option maxRecDepth 8000

section
variable {H : Type} {enc : TypeId × Value → H}
theorem part_instU {W : World} {base fuel : Nat} {l : List Value} {d : DataW H} {p : List MemPlace}
  (hl9 : l.length = 6) (hf : DataW.trod enc Tryz.prog W base (fun _ => true) true fuel 30 l = some (d, p)) (hlt : ∀ x ∈ p, x.block < W.heap.size) (hk : Rows.uptoBulk d ≤ 1048576) :
  ∃ (k : Iv) (x : InT), Value.agg ⟨l⟩ = k.v x ∧ Ins W k x ∧ InU x := by
 have he : Tryz.prog.underlying 30 = some (.struct #[_, _, _, _, _]) := Tryz.underlying30
 have hN : Tryz.prog.underlying 25 = some (.struct #[_, _]) := Tryz.underlying25
 obtain ⟨xs, n', _, hx, _, hxl, hg⟩ := DataW.trod_struct he hf
 match l, hl9 with
 | [v0, v1, v2, v3, v4, v5], _ =>
  match xs, hxl with
  | [y0, y1, y2, y3, y4], _ =>
   have k0 := hg 0 _ rfl
   have k1 := hg 1 _ rfl
   have k2 := hg 2 _ rfl
   have k3 := hg 3 _ rfl
   have k4 := hg 4 _ rfl
   have o1 : Tryz.prog.cellsOf 25 = 2 := by kernel_rfl
   have o2 : Tryz.prog.cellsOf 26 = 1 := by kernel_rfl
   have o3 : Tryz.prog.cellsOf 27 = 1 := by kernel_rfl
   have o4 : Tryz.prog.cellsOf 28 = 1 := by kernel_rfl
   have o5 : Tryz.prog.cellsOf 22 = 1 := by kernel_rfl
   have o6 : Tryz.prog.cellsOf 23 = 1 := by kernel_rfl
   simp [o1, o2, o3, o4] at k0 k1 k2 k3 k4
   obtain ⟨xs2, n2', _, hx3, _, hxl2, hg2⟩ := DataW.trod_struct hN k0
   match xs2, hxl2 with
   | [u0, u1], _ =>
    have j0 := hg2 0 _ rfl
    have j1 := hg2 1 _ rfl
    simp [o5, o6] at j0 j1
    simp only [Prod.mk.injEq] at hx
    obtain ⟨hx1, hx2⟩ := hx
    subst hx2
    have hy0 : y0.2 = u0.2 ++ u1.2 := by rw [hx3]; simp
    have hy1 : y0.1 = .agg [u0.1, u1.1] := by rw [hx3]; simp
    have q0 : Rows.uptoBulk u0.1 + Rows.uptoBulk u1.1 + Rows.uptoBulk y1.1 + Rows.uptoBulk y2.1 + Rows.uptoBulk y3.1 + Rows.uptoBulk y4.1 ≤ 1048576 := by
     rw [hx1] at hk
     simp only [List.map_cons, List.map_nil, hy1, Rows.uptoBulk, Rows.uptoBulkAll] at hk
     omega
    obtain ⟨a0, c0, pl, rfl, h0, n0⟩ := strs_of j0 (fun p hp => hlt p (by simp only [List.flatMap_cons, List.mem_append, hy0]; exact Or.inl (Or.inl hp)))
    have b0 := slice_len Tryz.underlying22 j0
    obtain ⟨a1, c1, al, rfl, h1, n1, n1w⟩ := arcsU_of j1 (fun p hp => hlt p (by simp only [List.flatMap_cons, List.mem_append, hy0]; exact Or.inl (Or.inr hp)))
    obtain ⟨a2, c2, tl, rfl, h2, n2, n2c⟩ := typesU_of k1 (fun p hp => hlt p (by simp; exact .inr (.inl hp)))
    obtain ⟨a3, c3, ol, rfl, h3, n3, n3l⟩ := ordersU_of k2 (fun p hp => hlt p (by simp; exact .inr (.inr (.inl hp))))
    obtain ⟨a4, c4, ap, rfl, h4, n4, -⟩ := pairs_of k3 (fun p hp => hlt p (by simp; exact .inr (.inr (.inr (.inl hp)))))
    obtain ⟨a5, c5, be, rfl, h5, n5, -⟩ := pairs_of k4 (fun p hp => hlt p (by simp; exact .inr (.inr (.inr (.inr hp)))))
    exact ⟨⟨a0, c0, a1, c1, a2, c2, a3, c3, a4, c4, a5, c5⟩, ⟨pl, al, tl, ol, ap, be⟩, rfl, ⟨h0, h1, h2, h3, h4, h5⟩,
     ⟨by show pl.length ≤ _; omega, by show al.length ≤ _; omega, by show wtA al ≤ _; omega, by show tl.length ≤ _; omega, fun i hi => Nat.le_trans (n2c i hi) (by omega), by show ol.length ≤ _; omega, fun i hi => Nat.le_trans (n3l i hi) (by omega), by show ap.length ≤ _; omega, by show be.length ≤ _; omega⟩⟩
theorem part_routeD {W : World} {base fuel : Nat} {l : List Value} {d : DataW H} {p : List MemPlace}
  (hl9 : l.length = 4) (hf : DataW.trod enc Tryz.prog W base (fun _ => true) true fuel 34 l = some (d, p)) (hlt : ∀ x ∈ p, x.block < W.heap.size) :
  ∃ (ty st : Int) (orr oa : Option Addr) (cr c b o bf qf : Nat) (F : List Bool) (l2 : List (Int × Bool)), Value.agg ⟨l⟩ = .agg #[.int .i64 ty, .int .i64 st, .slice orr F.length cr, .slice oa l2.length c] ∧ Rw W b o 2 (vF l2) l2.length oa ∧ Rw W bf qf 1 (bF F) F.length orr := by
 have he : Tryz.prog.underlying 34 = some (.struct #[_, _, _, _]) := Tryz.underlying34
 obtain ⟨xs, n', _, hx, _, hxl, hg⟩ := DataW.trod_struct he hf
 match l, hl9 with
 | [v0, v1, v2, v3], _ =>
  match xs, hxl with
  | [y0, y1, y2, y3], _ =>
   have k0 := hg 0 _ rfl
   have k1 := hg 1 _ rfl
   have k2 := hg 2 _ rfl
   have k3 := hg 3 _ rfl
   have o1 : Tryz.prog.cellsOf 3 = 1 := by kernel_rfl
   have o3 : Tryz.prog.cellsOf 32 = 1 := by kernel_rfl
   have o4 : Tryz.prog.cellsOf 31 = 1 := by kernel_rfl
   simp [o1, o3, o4] at k0 k1 k2 k3
   obtain ⟨ty, e0, _, _⟩ := DataW.trod_int Tryz.underlying3 k0
   obtain ⟨st, e1, _, _⟩ := DataW.trod_int Tryz.underlying3 k1
   simp only [List.cons.injEq, and_true] at e0 e1
   subst e0 e1
   simp only [Prod.mk.injEq] at hx
   obtain ⟨-, hx2⟩ := hx
   obtain ⟨orr, cr, bf, qf, F, rfl, hF⟩ := bools_of k2 (fun p hp => hlt p (by rw [hx2]; simp; exact .inr (.inr (.inl hp))))
   obtain ⟨oa, c, b, o, l, rfl, hl⟩ := visits_of k3 (fun p hp => hlt p (by rw [hx2]; simp; exact .inr (.inr (.inr hp))))
   exact ⟨ty, st, orr, oa, cr, c, b, o, bf, qf, F, l, rfl, hl, hF⟩
end
end Go.Proofs.YtomebalolmabnaaGreatDoor.T



/-! A trip as an argument, with its times' capacity. -/
namespace Go.Proofs.YtomebalolmabnaaGreatDoor.T
open Go.Joins Go.ChangeShapes Go.WideShapes Go.ChangeAt Go.RowKit Go.Deep
set_option maxRecDepth 8000

section
variable {H : Type} {enc : TypeId × Value → H}
theorem slice_cap {W : World} {base : Nat} {t e : TypeId} {oa : Option Addr} {k c : Nat} {y : DataW H × List MemPlace} {n : Nat} (ht : Tryz.prog.underlying t = some (.slice e))
  (hf : DataW.trod enc Tryz.prog W base (fun _ => true) true n t [.slice oa k c] = some y) : k ≤ c := by
 rcases open_slice ht hf with ⟨hcs, -⟩ | ⟨a, len, cap, m, n, D, Pl, hcs, _, hl, -⟩
 ·simp only [List.cons.injEq, Value.slice.injEq, and_true] at hcs
  omega
 ·simp only [List.cons.injEq, Value.slice.injEq, and_true] at hcs
  omega
theorem part_sheetC {W : World} {base fuel : Nat} {l : List Value} {d : DataW H} {p : List MemPlace}
  (hl9 : l.length = 5) (hf : DataW.trod enc Tryz.prog W base (fun _ => true) true fuel 37 l = some (d, p)) (hlt : ∀ x ∈ p, x.block < W.heap.size) (hk : Rows.uptoBulk d ≤ 1048576) :
  ∃ (S : ShT) (oa : Option Addr) (c b o : Nat), Value.agg ⟨l⟩ = .agg (sK S oa c) ∧ Rw W b o 4 (fun k => tmE (S.T.getD k tm0)) S.T.length oa ∧ S.T.length ≤ 300000 ∧ S.T.length ≤ c := by
 have he : Tryz.prog.underlying 37 = some (.struct #[_, _, _, _, _]) := Tryz.underlying37
 obtain ⟨xs, n', _, hx, _, hxl, hg⟩ := DataW.trod_struct he hf
 match l, hl9 with
 | [v0, v1, v2, v3, v4], _ =>
  match xs, hxl with
  | [y0, y1, y2, y3, y4], _ =>
   have k0 := hg 0 _ rfl
   have k1 := hg 1 _ rfl
   have k2 := hg 2 _ rfl
   have k3 := hg 3 _ rfl
   have k4 := hg 4 _ rfl
   have o1 : Tryz.prog.cellsOf 3 = 1 := by kernel_rfl
   have o3 : Tryz.prog.cellsOf 35 = 1 := by kernel_rfl
   have o4 : Tryz.prog.cellsOf 4 = 1 := by kernel_rfl
   simp [o1, o3, o4] at k0 k1 k2 k3 k4
   obtain ⟨r, e0, _⟩ := DataW.trod_bool Tryz.underlying4 k0
   obtain ⟨dd, e1, _, _⟩ := DataW.trod_int Tryz.underlying3 k1
   obtain ⟨ee, e3, _, _⟩ := DataW.trod_int Tryz.underlying3 k3
   obtain ⟨mm, e4, _, _⟩ := DataW.trod_int Tryz.underlying3 k4
   simp only [List.cons.injEq, and_true] at e0 e1 e3 e4
   subst e0 e1 e3 e4
   simp only [Prod.mk.injEq] at hx
   obtain ⟨hx1, hx2⟩ := hx
   obtain ⟨oa, c, b, o, T, rfl, hT, hb⟩ := times_of k2 (fun p hp => hlt p (by rw [hx2]; simp; exact .inr (.inr (.inl hp))))
   refine ⟨⟨r, dd, T, ee, mm⟩, oa, c, b, o, rfl, hT, ?_⟩
   have hb2 : Rows.uptoBulk y2.1 + 1 ≤ Rows.uptoBulk d := by rw [hx1]; exact bulk_agg (by simp)
   refine ⟨by show T.length ≤ 300000; omega, slice_cap Tryz.underlying35 k2⟩
theorem arg_tripC {W : World} {base : Nat} {v : Value} {d : DataW H} {p : List MemPlace}
  (hv : Value.okWide Tryz.prog W .any base 39 v) (h : DataW.Trod enc Tryz.prog W 0 (fun _ => true) true 39 v d p) (hlt : ∀ x ∈ p, x.block < W.heap.size) (hk : Rows.uptoBulk d ≤ 1048576) :
  ∃ (k : Iv) (x : InT) (ty st : Int) (orr oa oS : Option Addr) (cr ca cS b o bf qf bS qS : Nat) (l : List (Int × Bool)) (F : List Bool) (S : ShT), v = .agg #[.slice k.o0 x.pl.length k.c0, .slice k.o1 x.al.length k.c1, .slice k.o2 x.tl.length k.c2, .slice k.o3 x.ol.length k.c3, .slice k.o4 x.ap.length k.c4, .slice k.o5 x.be.length k.c5, .int .i64 ty, .int .i64 st, .slice orr F.length cr, .slice oa l.length ca, .bool S.r, .int .i64 S.d, .slice oS S.T.length cS, .int .i64 S.e, .int .i64 S.m] ∧ Ins W k x ∧ InU x ∧ Rw W b o 2 (vF l) l.length oa ∧ Rw W bf qf 1 (bF F) F.length orr ∧ Rw W bS qS 4 (fun k => tmE (S.T.getD k tm0)) S.T.length oS ∧ S.T.length ≤ 300000 ∧ S.T.length ≤ cS := by
 have hC : Tryz.prog.cellsOf 39 = 15 := by kernel_rfl
 obtain ⟨cs, rfl, hsz⟩ := okWide_struct Tryz.underlying39 hv
 obtain ⟨fuel, hf⟩ := h
 have he : Tryz.prog.underlying 39 = some (.struct #[_, _, _]) := Tryz.underlying39
 obtain ⟨xs, n', _, hx, _, hxl, hg⟩ := DataW.trod_struct he hf
 obtain ⟨l⟩ := cs
 have hl15 : l.length = 15 := by rw [← hC]; exact hsz
 match l, hl15 with
 | [v0, v1, v2, v3, v4, v5, v6, v7, v8, v9, v10, v11, v12, v13, v14], _ =>
  match xs, hxl with
  | [y0, y1, y2], _ =>
   have k0 := hg 0 _ rfl
   have k1 := hg 1 _ rfl
   have k2 := hg 2 _ rfl
   have o1 : Tryz.prog.cellsOf 30 = 6 := by kernel_rfl
   have o2 : Tryz.prog.cellsOf 34 = 4 := by kernel_rfl
   have o3 : Tryz.prog.cellsOf 37 = 5 := by kernel_rfl
   simp [o1, o2, o3, Value.cells] at k0 k1 k2
   simp only [Prod.mk.injEq] at hx
   obtain ⟨hx1, hx2⟩ := hx
   have hb0 : Rows.uptoBulk y0.1 + 1 ≤ Rows.uptoBulk d := by rw [hx1]; exact bulk_agg (by simp)
   have hb2 : Rows.uptoBulk y2.1 + 1 ≤ Rows.uptoBulk d := by rw [hx1]; exact bulk_agg (by simp)
   obtain ⟨k, x, e0, hi, ha⟩ := part_instU rfl k0 (fun p hp => hlt p (by rw [hx2]; simp; exact .inl hp)) (by omega)
   obtain ⟨ty, st, orr, oa, cr, c, b, o, bf, qf, F, l, e1, hl, hF⟩ := part_routeD rfl k1 (fun p hp => hlt p (by rw [hx2]; simp; exact .inr (.inl hp)))
   obtain ⟨S, oS, cS, bS, qS, e2, hS, hn⟩ := part_sheetC rfl k2 (fun p hp => hlt p (by rw [hx2]; simp; exact .inr (.inr hp))) (by omega)
   have e0 : ([v0, v1, v2, v3, v4, v5] : List Value) = [.slice k.o0 x.pl.length k.c0, .slice k.o1 x.al.length k.c1, .slice k.o2 x.tl.length k.c2, .slice k.o3 x.ol.length k.c3, .slice k.o4 x.ap.length k.c4, .slice k.o5 x.be.length k.c5] := by
    have e := Value.agg.inj e0
    exact congrArg Array.toList e
   have e1 := congrArg Array.toList (Value.agg.inj e1)
   have e2 := congrArg Array.toList (Value.agg.inj e2)
   simp only [List.cons.injEq, and_true] at e0 e1 e2
   obtain ⟨rfl, rfl, rfl, rfl, rfl, rfl⟩ := e0
   obtain ⟨rfl, rfl, rfl, rfl⟩ := e1
   obtain ⟨rfl, rfl, rfl, rfl, rfl⟩ := e2
   exact ⟨k, x, ty, st, orr, oa, oS, cr, c, cS, b, o, bf, qf, bS, qS, l, F, S, rfl, hi, ha, hl, hF, hS, hn⟩
end
end Go.Proofs.YtomebalolmabnaaGreatDoor.T



/-! The specification of schedules: stops, possible routes (by gen_fa.py). -/
namespace Go.Proofs.YtomebalolmabnaaGreatDoor.T
open Go.RowKit
set_option maxRecDepth 8000
attribute [local irreducible] wpList Code.wp wpAnyH

theorem rw_mid {w : World} {b o sz : Nat} {E : Nat → List Value} {n : Nat} {oa : Option Addr} (h : Rw w b o sz E n oa) {k : Nat} (hk : k < n) (j : Nat) (vs : List Value) (hv : ((E k).drop j).take vs.length = vs) : w.rangeAt b (o + k * sz + j) vs := fun i v hi => by
 have h1 := h.cell hk (j + i) (v := v) (by
  have hil := (List.getElem?_eq_some_iff.1 hi).1
  rw [← hv, List.getElem?_take_of_lt hil, List.getElem?_drop] at hi
  exact hi)
 rw [← Nat.add_assoc] at h1
 exact h1
def stR (l : List OrT) (i : Int) (d : Bool) : StT := if inR l i then stQ (l.getD i.toNat or0) d else st0
def okR (l : List OrT) (i : Int) (d : Bool) : Bool := inR l i && decide (0 ≤ (stQ (l.getD i.toNat or0) d).p)
theorem inR_at {l : List OrT} {i : Nat} (h : i < l.length) : inR l (i : Int) = true := by unfold inR; simp only [Bool.and_eq_true, decide_eq_true_eq]; omega
theorem inR_off {l : List OrT} {i : Int} (h : i < 0 ∨ (l.length : Int) ≤ i) : inR l i = false := by
 rw [Bool.eq_false_iff]
 unfold inR
 intro h9
 simp only [Bool.and_eq_true, decide_eq_true_eq] at h9
 omega
theorem okR_stop {l : List OrT} {i : Int} {d : Bool} : okR l i d = decide (stopE l i d = 0) := by
 unfold okR stopE
 cases h : inR l i
 ·rfl
 ·simp only [Bool.true_and, if_true]
  split
  ·rename_i h1; rw [decide_eq_false (by omega), decide_eq_false (by decide)]
  ·rename_i h1; rw [decide_eq_true (by omega), decide_eq_true rfl]
theorem stR_stop {l : List OrT} {i : Int} {d : Bool} (h : okR l i d = true) : stR l i d = stopV l i d := by
 unfold okR at h
 simp only [Bool.and_eq_true, decide_eq_true_eq] at h
 unfold stR stopV
 rw [if_pos h.1, if_pos h.1, if_neg (by omega)]
theorem refStop_n (k : Iv) (x : InT) (v : Int) (d : Bool) (w : World) (hI : Ins w k x) : Calls Tryz.prog 76 #[.agg (iK k x), .agg #[.int .i64 v, .bool d]] w fun e w' => e = .returned (.tuple #[.agg (pK (stR x.ol v d)), .bool (okR x.ol v d)]) ∧ Below w.heap.size w w' := by
 have HB : Below w.heap.size w w := Below.refl _ _
 obtain ⟨bo, qo, vo, hO⟩ := hI.h3.rw
 refine sx_enter Tryz.func76 rfl [(0, .agg (iK k x)), (1, .agg #[.int .i64 v, .bool d])] (by kernel_rfl) ?_
 refine Yq ?_
 refine Za rfl (iK k x) 30 (fun W1 hb M2 z1 yM2 => ?_)
 replace HB := over HB hb
 clear hb
 refine Za rfl #[.int .i64 v, .bool d] 82 (fun W3 hb M4 z2 yM4 => ?_)
 replace HB := over HB hb
 replace M2 := M2.below hb
 clear hb
 refine Za rfl nZ4 76 (fun W5 hb M6 z3 yM6 => ?_)
 replace HB := over HB hb
 replace M2 := M2.below hb
 replace M4 := M4.below hb
 clear hb
 refine Zv rfl (.bool false) (Yn (Yo (Ys (Yq (Zv rfl (pt W1.heap.size 0) (Zw rfl (.int .i64 v) (el (M4.cell 0 rfl) Tryz.underlying3) ?_))))))
 by_cases C1 : v < 0
 ·refine Zb rfl (decide (v < 0)) true (decide_eq_true (by omega)) (Zv rfl (.bool true) (Zk rfl (Zk rfl (Zk rfl (Zk rfl (Zk rfl (Zk rfl (Zv rfl (.bool true) (Yn (Yo (sx_true (by kernel_rfl) (Yq ?_))))))))))))
  refine Zv rfl (.agg nZ4) ?_
  refine Zr (cells := nZ4) rfl rfl M6 (fun W7 hg hq => ?_)
  replace HB := HB.grown hg (by omega) (oG (by omega))
  have z4 := hg.size
  replace M6 := hq
  clear hq hg
  refine Zv rfl (.bool false) (Yn (Yo (wp_ret (sx_rs ?_))))
  have h9 := inR_off (l := x.ol) (i := v) (by omega)
  exact sx_retct (v' := .bool false) M6 rfl rfl rfl (by kernel_rfl) (by kernel_rfl) Tryz.underlying76 rfl (by kernel_rfl) ⟨by unfold stR okR; rw [h9]; rfl, HB⟩
 refine Zb rfl (decide (v < 0)) false (decide_eq_false (by omega)) (Zv rfl (.bool false) (Zv rfl (pt W1.heap.size 0) (Zw rfl (.int .i64 v) (el (M4.cell 0 rfl) Tryz.underlying3) (Zv rfl (pt w.heap.size 3) (Zw rfl (.slice k.o3 x.ol.length k.c3) (el (M2.cell 3 rfl) Tryz.underlying27) (Zv rfl (.int .i64 ((x.ol.length : Nat) : Int)) ?_))))))
 by_cases C2 : v ≥ ((x.ol.length : Nat) : Int)
 ·refine Zb rfl (decide (v ≥ ((x.ol.length : Nat) : Int))) true (decide_eq_true (by omega)) (Zv rfl (.bool true) (Yn (Yo (sx_true (by kernel_rfl) (Yq (Zv rfl (.agg nZ4) ?_))))))
  refine Zr (cells := nZ4) rfl rfl M6 (fun W8 hg hq => ?_)
  replace HB := HB.grown hg (by omega) (oG (by omega))
  have z4 := hg.size
  replace M6 := hq
  clear hq hg
  refine Zv rfl (.bool false) (Yn (Yo (wp_ret (sx_rs ?_))))
  have h9 := inR_off (l := x.ol) (i := v) (by omega)
  exact sx_retct (v' := .bool false) M6 rfl rfl rfl (by kernel_rfl) (by kernel_rfl) Tryz.underlying76 rfl (by kernel_rfl) ⟨by unfold stR okR; rw [h9]; rfl, HB⟩
 refine Zb rfl (decide (v ≥ ((x.ol.length : Nat) : Int))) false (decide_eq_false (by omega)) (Zv rfl (.bool false) (Yn (Yo (sx_false (by kernel_rfl) (wp_skip (Yo (Ys ?_)))))))
 obtain ⟨i, rfl⟩ := Int.eq_ofNat_of_zero_le (show 0 ≤ v by omega)
 refine Yr (Zv rfl (pt w.heap.size 3) (Zw rfl (.slice k.o3 x.ol.length k.c3) (el (M2.cell 3 rfl) Tryz.underlying27) (Zv rfl (pt W1.heap.size 0) (Zw rfl (.int .i64 ((i : Nat) : Int)) (el (M4.cell 0 rfl) Tryz.underlying3) (Zw rfl (pt bo (qo + i * 16)) (ex_indexO (q := qo) (m := x.ol.length) (c := k.c3) (k := i) (s := 16) rfl (by kernel_rfl) ((hO.below HB).oa (k := i) (by omega)) (by kernel_rfl) Tryz.underlying27 (by kernel_rfl) (by omega) (by omega)) (Zv rfl (pt bo (qo + i * 16 + 2)) (Zw rfl (.agg #[.int .i64 ((x.ol.getD i or0).pp), .int .i64 ((x.ol.getD i or0).po), .int .i64 ((x.ol.getD i or0).pc), .int .i64 ((x.ol.getD i or0).ps)]) (ex_loadR rfl (rw_mid (hO.below HB) (k := i) (by omega) 2 [.int .i64 ((x.ol.getD i or0).pp), .int .i64 ((x.ol.getD i or0).po), .int .i64 ((x.ol.getD i or0).pc), .int .i64 ((x.ol.getD i or0).ps)] rfl) (by kernel_rfl) Tryz.underlying76 rfl (by kernel_rfl)) ?_)))))))
 obtain ⟨W10, hW, hb, hq⟩ := laidV W5 nZ4 #[.int .i64 ((x.ol.getD i or0).pp), .int .i64 ((x.ol.getD i or0).po), .int .i64 ((x.ol.getD i or0).pc), .int .i64 ((x.ol.getD i or0).ps)] 76
 refine sx_mem (by kernel_rfl) rfl rfl (pt W5.heap.size 0) (W5.alloc (.cells nZ4 76)) (by kernel_rfl) ?_
 refine Zs (cells := #[.int .i64 ((x.ol.getD i or0).pp), .int .i64 ((x.ol.getD i or0).po), .int .i64 ((x.ol.getD i or0).pc), .int .i64 ((x.ol.getD i or0).ps)]) rfl rfl (Cb.made W5 nZ4 76) ?_
 rw [hW]
 replace HB := over HB hb
 replace M2 := M2.below hb
 replace M4 := M4.below hb
 replace M6 := M6.below hb
 have z4 := hb.size
 have M9 := hq
 have yM9 := hq.lt
 clear hq hb hW
 refine Yn (Yo (Ys (Yq (Zv rfl (pt W1.heap.size 1) ?_))))
 by_cases C3 : d = true
 ·refine Zw rfl (.bool true) (ex_load1 (v := .bool true) rfl (by have h8 := M4.cell 1 rfl; rw [show d = true by simpa using C3] at h8; exact h8) (by kernel_rfl) Tryz.underlying4 rfl) (Yn (Yo (sx_true (by kernel_rfl) (Yr (Zv rfl (pt w.heap.size 3) (Zw rfl (.slice k.o3 x.ol.length k.c3) (el (M2.cell 3 rfl) Tryz.underlying27) (Zv rfl (pt W1.heap.size 0) (Zw rfl (.int .i64 ((i : Nat) : Int)) (el (M4.cell 0 rfl) Tryz.underlying3) (Zw rfl (pt bo (qo + i * 16)) (ex_indexO (q := qo) (m := x.ol.length) (c := k.c3) (k := i) (s := 16) rfl (by kernel_rfl) ((hO.below HB).oa (k := i) (by omega)) (by kernel_rfl) Tryz.underlying27 (by kernel_rfl) (by omega) (by omega)) (Zv rfl (pt bo (qo + i * 16 + 6)) (Zw rfl (.agg #[.int .i64 ((x.ol.getD i or0).dp), .int .i64 ((x.ol.getD i or0).dd), .int .i64 ((x.ol.getD i or0).dc), .int .i64 ((x.ol.getD i or0).ds)]) (ex_loadR rfl (rw_mid (hO.below HB) (k := i) (by omega) 6 [.int .i64 ((x.ol.getD i or0).dp), .int .i64 ((x.ol.getD i or0).dd), .int .i64 ((x.ol.getD i or0).dc), .int .i64 ((x.ol.getD i or0).ds)] rfl) (by kernel_rfl) Tryz.underlying76 rfl (by kernel_rfl)) ?_)))))))))))
  refine Zr (cells := #[.int .i64 ((x.ol.getD i or0).dp), .int .i64 ((x.ol.getD i or0).dd), .int .i64 ((x.ol.getD i or0).dc), .int .i64 ((x.ol.getD i or0).ds)]) rfl rfl M9 (fun W11 hg hq => ?_)
  replace HB := HB.grown hg (by omega) (oG (by omega))
  replace M2 := M2.kept hg (by omega)
  replace M4 := M4.kept hg (by omega)
  replace M6 := M6.kept hg (by omega)
  have z5 := hg.size
  replace M9 := hq
  clear hq hg
  refine Yn (Yo (Ys ?_))
  obtain ⟨Y12, hW⟩ : ∃ W, W11.drew = W := ⟨_, rfl⟩
  have hb : Below W11.heap.size W11 Y12 := hW ▸ below_drew (Below.refl _ _)
  replace HB := over HB hb
  replace M2 := M2.below hb
  replace M4 := M4.below hb
  replace M6 := M6.below hb
  replace M9 := M9.below hb
  have z6 := hb.size
  clear hb
  refine sd_begin (fun W => Cb W (w.heap.size) (iK k x) 30 ∧ Cb W (W1.heap.size) #[.int .i64 ((i : Nat) : Int), .bool d] 82 ∧ Cb W (W5.heap.size) #[.int .i64 ((x.ol.getD i or0).dp), .int .i64 ((x.ol.getD i or0).dd), .int .i64 ((x.ol.getD i or0).dc), .int .i64 ((x.ol.getD i or0).ds)] 76 ∧ True) (by kernel_rfl) (by rw [hW]; exact ⟨M2, M4, M9, trivial⟩) ?_
  rw [hW]
  clear hW
  refine Zt 0 rfl rfl (.agg #[.int .i64 ((x.ol.getD i or0).dp), .int .i64 ((x.ol.getD i or0).dd), .int .i64 ((x.ol.getD i or0).dc), .int .i64 ((x.ol.getD i or0).ds)]) (fun w9 h9 => ex_load rfl h9.2.2.1 (by kernel_rfl) Tryz.underlying76 rfl (by kernel_rfl)) ⟨M2, M4, M9, trivial⟩ ?_
  refine Zu 1 rfl rfl (pt W5.heap.size 0) ⟨M2, M4, M9, trivial⟩ ?_
  refine Zt 2 rfl rfl (.int .i64 ((x.ol.getD i or0).dp)) (fun w9 h9 => el (h9.2.2.1.cell 0 rfl) Tryz.underlying3) ⟨M2, M4, M9, trivial⟩ ?_
  refine Zu 3 rfl rfl (.bool (decide ((x.ol.getD i or0).dp ≥ 0))) ⟨M2, M4, M9, trivial⟩ ?_
  refine sd_all [4] (by kernel_rfl) (by decide) ?_
  refine sd_do (i := 4) rfl (by kernel_rfl) rfl (Y12.setRow (W3.heap.size) #[.int .i64 ((x.ol.getD i or0).dp), .int .i64 ((x.ol.getD i or0).dd), .int .i64 ((x.ol.getD i or0).dc), .int .i64 ((x.ol.getD i or0).ds)]) (ex_store (cells := #[.int .i64 ((x.ol.getD i or0).dp), .int .i64 ((x.ol.getD i or0).dd), .int .i64 ((x.ol.getD i or0).dc), .int .i64 ((x.ol.getD i or0).ds)]) rfl M6 (by kernel_rfl) (by kernel_rfl) (by kernel_rfl) (by kernel_rfl) (by kernel_rfl)) ⟨(M2.kept (grown_row _ _ _) (by omega)), (M4.kept (grown_row _ _ _) (by omega)), (M9.kept (grown_row _ _ _) (by omega)), trivial⟩ ?_ AllReadyH.nil
  obtain ⟨W13, hW⟩ : ∃ W, Y12.setRow (W3.heap.size) #[.int .i64 ((x.ol.getD i or0).dp), .int .i64 ((x.ol.getD i or0).dd), .int .i64 ((x.ol.getD i or0).dc), .int .i64 ((x.ol.getD i or0).ds)] = W := ⟨_, rfl⟩
  have hg : Y12.grownBy W13 (some (W3.heap.size)) := hW ▸ grown_row _ _ _
  have hq : Cb W13 (W3.heap.size) #[.int .i64 ((x.ol.getD i or0).dp), .int .i64 ((x.ol.getD i or0).dd), .int .i64 ((x.ol.getD i or0).dc), .int .i64 ((x.ol.getD i or0).ds)] 76 := hW ▸ Cb.row M6 _
  rw [hW]
  replace HB := HB.grown hg (by omega) (oG (by omega))
  replace M2 := M2.kept hg (by omega)
  replace M4 := M4.kept hg (by omega)
  replace M9 := M9.kept hg (by omega)
  have z7 := hg.size
  replace M6 := hq
  clear hq hg hW
  refine Zu 5 rfl rfl (.bool (decide ((x.ol.getD i or0).dp ≥ 0))) ⟨M2, M4, M9, trivial⟩ ?_
  refine sd_done (by kernel_rfl) ?_
  refine Yo (wp_ret ?_)
  have h9 := inR_at (l := x.ol) (i := i) (by omega)
  have hd9 : d = true := by simpa using (by assumption : d = true)
  subst hd9
  exact sx_retct (v' := .bool (decide ((x.ol.getD i or0).dp ≥ 0))) M6 rfl rfl rfl (by kernel_rfl) (by kernel_rfl) Tryz.underlying76 rfl (by kernel_rfl) ⟨by unfold stR okR; rw [h9]; simp only [if_true, Bool.true_and, Int.toNat_natCast]; first | rfl | (rw [decide_eq_true (by show 0 ≤ x.ol[i]?.getD or0 |>.pp; simp at *; omega)]; rfl), HB⟩
 refine Zw rfl (.bool false) (ex_load1 (v := .bool false) rfl (by have h8 := M4.cell 1 rfl; rw [show d = false by simpa using C3] at h8; exact h8) (by kernel_rfl) Tryz.underlying4 rfl) (Yn (Yo (sx_false (by kernel_rfl) (wp_skip (Yo (Ys ?_))))))
 obtain ⟨Y14, hW⟩ : ∃ W, W10.drew = W := ⟨_, rfl⟩
 have hb : Below W10.heap.size W10 Y14 := hW ▸ below_drew (Below.refl _ _)
 replace HB := over HB hb
 replace M2 := M2.below hb
 replace M4 := M4.below hb
 replace M6 := M6.below hb
 replace M9 := M9.below hb
 have z5 := hb.size
 clear hb
 refine sd_begin (fun W => Cb W (w.heap.size) (iK k x) 30 ∧ Cb W (W1.heap.size) #[.int .i64 ((i : Nat) : Int), .bool d] 82 ∧ Cb W (W5.heap.size) #[.int .i64 ((x.ol.getD i or0).pp), .int .i64 ((x.ol.getD i or0).po), .int .i64 ((x.ol.getD i or0).pc), .int .i64 ((x.ol.getD i or0).ps)] 76 ∧ True) (by kernel_rfl) (by rw [hW]; exact ⟨M2, M4, M9, trivial⟩) ?_
 rw [hW]
 clear hW
 refine Zt 0 rfl rfl (.agg #[.int .i64 ((x.ol.getD i or0).pp), .int .i64 ((x.ol.getD i or0).po), .int .i64 ((x.ol.getD i or0).pc), .int .i64 ((x.ol.getD i or0).ps)]) (fun w9 h9 => ex_load rfl h9.2.2.1 (by kernel_rfl) Tryz.underlying76 rfl (by kernel_rfl)) ⟨M2, M4, M9, trivial⟩ ?_
 refine Zu 1 rfl rfl (pt W5.heap.size 0) ⟨M2, M4, M9, trivial⟩ ?_
 refine Zt 2 rfl rfl (.int .i64 ((x.ol.getD i or0).pp)) (fun w9 h9 => el (h9.2.2.1.cell 0 rfl) Tryz.underlying3) ⟨M2, M4, M9, trivial⟩ ?_
 refine Zu 3 rfl rfl (.bool (decide ((x.ol.getD i or0).pp ≥ 0))) ⟨M2, M4, M9, trivial⟩ ?_
 refine sd_all [4] (by kernel_rfl) (by decide) ?_
 refine sd_do (i := 4) rfl (by kernel_rfl) rfl (Y14.setRow (W3.heap.size) #[.int .i64 ((x.ol.getD i or0).pp), .int .i64 ((x.ol.getD i or0).po), .int .i64 ((x.ol.getD i or0).pc), .int .i64 ((x.ol.getD i or0).ps)]) (ex_store (cells := #[.int .i64 ((x.ol.getD i or0).pp), .int .i64 ((x.ol.getD i or0).po), .int .i64 ((x.ol.getD i or0).pc), .int .i64 ((x.ol.getD i or0).ps)]) rfl M6 (by kernel_rfl) (by kernel_rfl) (by kernel_rfl) (by kernel_rfl) (by kernel_rfl)) ⟨(M2.kept (grown_row _ _ _) (by omega)), (M4.kept (grown_row _ _ _) (by omega)), (M9.kept (grown_row _ _ _) (by omega)), trivial⟩ ?_ AllReadyH.nil
 obtain ⟨W15, hW⟩ : ∃ W, Y14.setRow (W3.heap.size) #[.int .i64 ((x.ol.getD i or0).pp), .int .i64 ((x.ol.getD i or0).po), .int .i64 ((x.ol.getD i or0).pc), .int .i64 ((x.ol.getD i or0).ps)] = W := ⟨_, rfl⟩
 have hg : Y14.grownBy W15 (some (W3.heap.size)) := hW ▸ grown_row _ _ _
 have hq : Cb W15 (W3.heap.size) #[.int .i64 ((x.ol.getD i or0).pp), .int .i64 ((x.ol.getD i or0).po), .int .i64 ((x.ol.getD i or0).pc), .int .i64 ((x.ol.getD i or0).ps)] 76 := hW ▸ Cb.row M6 _
 rw [hW]
 replace HB := HB.grown hg (by omega) (oG (by omega))
 replace M2 := M2.kept hg (by omega)
 replace M4 := M4.kept hg (by omega)
 replace M9 := M9.kept hg (by omega)
 have z6 := hg.size
 replace M6 := hq
 clear hq hg hW
 refine Zu 5 rfl rfl (.bool (decide ((x.ol.getD i or0).pp ≥ 0))) ⟨M2, M4, M9, trivial⟩ ?_
 refine sd_done (by kernel_rfl) ?_
 refine Yo (wp_ret ?_)
 have h9 := inR_at (l := x.ol) (i := i) (by omega)
 have hd9 : d = false := by simpa using (by assumption : ¬ d = true)
 subst hd9
 exact sx_retct (v' := .bool (decide ((x.ol.getD i or0).pp ≥ 0))) M6 rfl rfl rfl (by kernel_rfl) (by kernel_rfl) Tryz.underlying76 rfl (by kernel_rfl) ⟨by unfold stR okR; rw [h9]; simp only [if_true, Bool.true_and, Int.toNat_natCast]; first | rfl | (rw [decide_eq_true (by show 0 ≤ x.ol[i]?.getD or0 |>.pp; simp at *; omega)]; rfl), HB⟩

end Go.Proofs.YtomebalolmabnaaGreatDoor.T



