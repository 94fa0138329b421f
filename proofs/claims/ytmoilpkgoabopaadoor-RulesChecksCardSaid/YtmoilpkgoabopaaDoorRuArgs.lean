/-
  DERIVED. Slices of pairs, and an instance by value, as arguments (written by gen_ruargs.py).
-/
import Derived.Test.YtmoilpkgoabopaaDoorRuOrd
import Derived.ProofKit
import Derived.LaidMore
import Derived.ChangeSlices
import Derived.SliceStrings
import Derived.Carry
import Derived.OpenShut
import Derived.Deep.SlicePairs
import Derived.Deep.Slices
import Derived.Deep.Fields
import Derived.Lib.SmallJoins
namespace Go.Proofs.YtmoilpkgoabopaaDoor.T
open Go.Joins Go.ChangeShapes Go.WideShapes Go.ChangeAt Go.RowKit Go.Deep
set_option maxRecDepth 8000

theorem laidOut : laidOutB Tryd.prog = true := by kernel_rfl
section
variable {H : Type} {enc : TypeId × Value → H}
/-! ### how much is read -/
theorem bulk_pos (d : DataW H) : 1 ≤ Rows.uptoBulk d := by
  cases d with
  | lit l => cases l <;> simp [Rows.uptoBulk]
  | nil => simp [Rows.uptoBulk]
  | ptr d => simp [Rows.uptoBulk]
  | slice elems spare => simp [Rows.uptoBulk]
  | agg parts => simp [Rows.uptoBulk]
  | iface t d => simp [Rows.uptoBulk]
  | map entries => simp [Rows.uptoBulk]
  | held h => simp [Rows.uptoBulk]
theorem bulk_sum (l : List (DataW H)) : Rows.uptoBulkAll l = (l.map Rows.uptoBulk).sum := by
  induction l with
  | nil => simp [Rows.uptoBulkAll]
  | cons x l ih => simp only [Rows.uptoBulkAll, ih, List.map_cons, List.sum_cons]
theorem bulk_len (l : List (DataW H)) : l.length ≤ Rows.uptoBulkAll l := by
  induction l with
  | nil => simp [Rows.uptoBulkAll]
  | cons x l ih => have := bulk_pos x; simp only [Rows.uptoBulkAll, List.length_cons]; omega
theorem bulk_slice (a b : List (DataW H)) : Rows.uptoBulkAll a + 1 ≤ Rows.uptoBulk (.slice a b) := by simp only [Rows.uptoBulk]; omega
theorem bulk_part {x : DataW H} {l : List (DataW H)} (h : x ∈ l) : Rows.uptoBulk x ≤ Rows.uptoBulkAll l := by
  induction l with
  | nil => cases h
  | cons y l ih =>
    simp only [Rows.uptoBulkAll]
    rcases List.mem_cons.1 h with rfl | h
    · omega
    · have := ih h; omega
theorem sum_ge {c n : Nat} {f : Nat → Nat} (h : ∀ i, i < n → c ≤ f i) : c * n ≤ ((List.range n).map f).sum := by
  induction n with
  | zero => simp
  | succ n ih =>
    rw [List.range_succ, List.map_append, List.sum_append]
    have h1 := ih (fun i hi => h i (by omega))
    have h2 := h n (by omega)
    simp only [List.map_cons, List.map_nil, List.sum_cons, List.sum_nil, Nat.add_zero]
    rw [Nat.mul_succ]
    omega
theorem row_lt {W : World} {a : Addr} {n m : Nat} {p q : List MemPlace} (hp : p = MemPlace.row a m ++ q) (hlt : ∀ x ∈ p, x.block < W.heap.size) (hn : n < m) : a.block < W.heap.size := by
  subst hp
  obtain ⟨b, off, spot⟩ := a
  exact hlt (.cell b off) (List.mem_append.2 (.inl (MemPlace.mem_row.2 ⟨0, by omega, by simp⟩)))

/-! ### slices of int -/
theorem ints_of {W : World} {base : Nat} {v : Value} {y : DataW H × List MemPlace} {n : Nat}
    (hf : DataW.trod enc Tryd.prog W base (fun _ => true) true n 48 [v] = some y) (hlt : ∀ x ∈ y.2, x.block < W.heap.size) :
    ∃ (oa : Option Addr) (c : Nat) (l : List Int), v = .slice oa l.length c ∧ L.Li W v l ∧ l.length ≤ 9223372036854775807 := by
  obtain ⟨y1, y2⟩ := y
  simp only at hlt
  rcases open_ints Tryd.underlying48 Tryd.underlying3 (by kernel_rfl) hf with ⟨hcs, hx⟩ | ⟨a, len, cap, zs, hcs, _, hl, hm, hzl, hx, hcell, hwz⟩
  · simp only [List.cons.injEq, and_true] at hcs
    subst hcs
    exact ⟨none, 0, [], rfl, L.Li.nil W, by simp⟩
  · simp only [List.cons.injEq, and_true] at hcs
    subst hcs
    simp only [if_true] at hzl
    simp only [Prod.mk.injEq] at hx
    have hln : (zs.take len).length = len := by rw [List.length_take, Nat.min_eq_left (by omega)]
    refine ⟨some a, cap, zs.take len, by rw [hln], ⟨some a, cap, by rw [hln], fun i hi => ?_⟩, by rw [hln]; unfold maxLen at hm; omega⟩
    rw [hln] at hi
    refine ⟨a, rfl, row_lt (q := []) (n := i) (by rw [List.append_nil]; exact hx.2) hlt (show i < zs.length by omega), ?_⟩
    rw [hcell i (by omega), List.getD_eq_getElem?_getD, List.getD_eq_getElem?_getD, List.getElem?_take_of_lt (by omega)]

theorem add_pl (b o j : Nat) : (⟨b, o, none⟩ : Addr).add j = ⟨b, o + j, none⟩ := by
  unfold Addr.add
  split
  · rename_i hz; rw [hz]; rfl
  · rfl
/-! ### a stop, an order -/
theorem stop_of {W : World} {base : Nat} {cs : List Value} {x : DataW H × List MemPlace} {n : Nat} (hlen : cs.length = 4)
    (hf : DataW.trod enc Tryd.prog W base (fun _ => true) true n 50 cs = some x) : ∃ p o c s : Int, cs = [.int .i64 p, .int .i64 o, .int .i64 c, .int .i64 s] := by
  have he : Tryd.prog.underlying 50 = some (.struct #[_, _, _, _]) := Tryd.underlying50
  obtain ⟨xs, n', _, hx, _, hxl, hg⟩ := DataW.trod_struct he hf
  match cs, hlen with
  | [v0, v1, v2, v3], _ =>
    match xs, hxl with
    | [y0, y1, y2, y3], _ =>
      have k0 := hg 0 _ rfl
      have k1 := hg 1 _ rfl
      have k2 := hg 2 _ rfl
      have k3 := hg 3 _ rfl
      have o1 : Tryd.prog.cellsOf 3 = 1 := by kernel_rfl
      simp [o1] at k0 k1 k2 k3
      obtain ⟨q0, e0, _, _⟩ := DataW.trod_int Tryd.underlying3 k0
      obtain ⟨q1, e1, _, _⟩ := DataW.trod_int Tryd.underlying3 k1
      obtain ⟨q2, e2, _, _⟩ := DataW.trod_int Tryd.underlying3 k2
      obtain ⟨q3, e3, _, _⟩ := DataW.trod_int Tryd.underlying3 k3
      simp only [List.cons.injEq, and_true] at e0 e1 e2 e3
      subst e0 e1 e2 e3
      exact ⟨_, _, _, _, rfl⟩
theorem order_of {W : World} {base : Nat} {cs : List Value} {x : DataW H × List MemPlace} {n : Nat} (hlen : cs.length = 16)
    (hf : DataW.trod enc Tryd.prog W base (fun _ => true) true n 52 cs = some x) (hlt : ∀ p ∈ x.2, p.block < W.heap.size) :
    ∃ (q : OrT) (oa : Option Addr) (c : Nat), cs = [.string q.name, .slice oa q.load.length c, .int .i64 q.pp, .int .i64 q.po, .int .i64 q.pc, .int .i64 q.ps, .int .i64 q.dp, .int .i64 q.dd, .int .i64 q.dc, .int .i64 q.ds, .int .i64 q.sk, .int .i64 q.pen, .int .i64 q.spl, .int .i64 q.las, .int .i64 q.now, .bool q.off] ∧
      L.Li W (.slice oa q.load.length c) q.load ∧ q.load.length ≤ 9223372036854775807 ∧ q.name.size ≤ 9223372036854775807 := by
  have he : Tryd.prog.underlying 52 = some (.struct #[_, _, _, _, _, _, _, _, _, _]) := Tryd.underlying52
  obtain ⟨xs, n', _, hx, _, hxl, hg⟩ := DataW.trod_struct he hf
  match cs, hlen with
  | [v0, v1, v2, v3, v4, v5, v6, v7, v8, v9, v10, v11, v12, v13, v14, v15], _ =>
    match xs, hxl with
    | [y0, y1, y2, y3, y4, y5, y6, y7, y8, y9], _ =>
      have k0 := hg 0 _ rfl
      have k1 := hg 1 _ rfl
      have k2 := hg 2 _ rfl
      have k3 := hg 3 _ rfl
      have k4 := hg 4 _ rfl
      have k5 := hg 5 _ rfl
      have k6 := hg 6 _ rfl
      have k7 := hg 7 _ rfl
      have k8 := hg 8 _ rfl
      have k9 := hg 9 _ rfl
      have o1 : Tryd.prog.cellsOf 3 = 1 := by kernel_rfl
      have o2 : Tryd.prog.cellsOf 48 = 1 := by kernel_rfl
      have o3 : Tryd.prog.cellsOf 9 = 1 := by kernel_rfl
      have o4 : Tryd.prog.cellsOf 50 = 4 := by kernel_rfl
      have o5 : Tryd.prog.cellsOf 4 = 1 := by kernel_rfl
      simp [o1, o2, o3, o4, o5] at k0 k1 k2 k3 k4 k5 k6 k7 k8 k9
      obtain ⟨s0, e0, z0⟩ : ∃ s : ByteArray, v0 = .string s ∧ s.size ≤ maxLen := by
        obtain ⟨s, e0, _, hs⟩ := DataW.trod_string Tryd.underlying9 k0
        simp only [List.cons.injEq, and_true] at e0
        exact ⟨s, e0, hs⟩
      obtain ⟨p0, p1, p2, p3, e2⟩ := stop_of rfl k2
      obtain ⟨r0, r1, r2, r3, e3⟩ := stop_of rfl k3
      obtain ⟨q4, e4, _, _⟩ := DataW.trod_int Tryd.underlying3 k4
      obtain ⟨q5, e5, _, _⟩ := DataW.trod_int Tryd.underlying3 k5
      obtain ⟨q6, e6, _, _⟩ := DataW.trod_int Tryd.underlying3 k6
      obtain ⟨q7, e7, _, _⟩ := DataW.trod_int Tryd.underlying3 k7
      obtain ⟨q8, e8, _, _⟩ := DataW.trod_int Tryd.underlying3 k8
      obtain ⟨q9, e9, _⟩ := DataW.trod_bool Tryd.underlying4 k9
      simp only [List.cons.injEq, and_true] at e2 e3 e4 e5 e6 e7 e8 e9
      obtain ⟨e20, e21, e22, e23⟩ := e2
      obtain ⟨e30, e31, e32, e33⟩ := e3
      subst e0 e20 e21 e22 e23 e30 e31 e32 e33 e4 e5 e6 e7 e8 e9
      subst hx
      obtain ⟨oa, c, l, rfl, hl, hl9⟩ := ints_of k1 (fun p hp => hlt p (by simp; exact .inr (.inl hp)))
      exact ⟨⟨s0, l, p0, p1, p2, p3, r0, r1, r2, r3, q4, q5, q6, q7, q8, q9⟩, oa, c, rfl, hl, hl9, by unfold maxLen at z0; exact z0⟩
/-! ### slices of orders -/
theorem ords_of {W : World} {base : Nat} {v : Value} {y : DataW H × List MemPlace} {n : Nat}
    (hf : DataW.trod enc Tryd.prog W base (fun _ => true) true n 35 [v] = some y) (hlt : ∀ x ∈ y.2, x.block < W.heap.size) :
    ∃ (oa : Option Addr) (c : Nat) (l : List OrT), v = .slice oa l.length c ∧ Os W (.slice oa l.length c) l := by
  obtain ⟨y1, y2⟩ := y
  simp only at hlt
  have hC : Tryd.prog.cellsOf 52 = 16 := by kernel_rfl
  rcases open_slice Tryd.underlying35 hf with ⟨hcs, hx⟩ | ⟨a, len0, cap0, m, n, D, Pl, hcs, _, hl, hm, hmm, hx, hall⟩
  · simp only [List.cons.injEq, and_true] at hcs
    subst hcs
    exact ⟨none, 0, [], rfl, Os.nil W⟩
  · simp only [List.cons.injEq, and_true] at hcs
    subst hcs
    simp only [if_true] at hmm
    simp only [Prod.mk.injEq] at hx
    rw [hC] at hx hall
    have key : ∀ i, i < len0 → ∃ q : OrT × Value, (W.cell? ((a.add (i * 16)).add 0) = some (.string q.1.name) ∧ W.cell? ((a.add (i * 16)).add 1) = some (q.2) ∧ W.cell? ((a.add (i * 16)).add 2) = some (.int .i64 q.1.pp) ∧ W.cell? ((a.add (i * 16)).add 3) = some (.int .i64 q.1.po) ∧ W.cell? ((a.add (i * 16)).add 4) = some (.int .i64 q.1.pc) ∧ W.cell? ((a.add (i * 16)).add 5) = some (.int .i64 q.1.ps) ∧ W.cell? ((a.add (i * 16)).add 6) = some (.int .i64 q.1.dp) ∧ W.cell? ((a.add (i * 16)).add 7) = some (.int .i64 q.1.dd) ∧ W.cell? ((a.add (i * 16)).add 8) = some (.int .i64 q.1.dc) ∧ W.cell? ((a.add (i * 16)).add 9) = some (.int .i64 q.1.ds) ∧ W.cell? ((a.add (i * 16)).add 10) = some (.int .i64 q.1.sk) ∧ W.cell? ((a.add (i * 16)).add 11) = some (.int .i64 q.1.pen) ∧ W.cell? ((a.add (i * 16)).add 12) = some (.int .i64 q.1.spl) ∧ W.cell? ((a.add (i * 16)).add 13) = some (.int .i64 q.1.las) ∧ W.cell? ((a.add (i * 16)).add 14) = some (.int .i64 q.1.now) ∧ W.cell? ((a.add (i * 16)).add 15) = some (.bool q.1.off)) ∧ L.Li W q.2 q.1.load := fun i hi => by
      obtain ⟨cs', hc, ht⟩ := hall i (by omega)
      obtain ⟨_, hlen, hat⟩ := World.cells?_some hc
      obtain ⟨q, oa, c, hcs, h1, h2, h3⟩ := order_of hlen ht (fun p hp => hlt p (by
        rw [hx.2, List.mem_append]
        exact .inr (List.mem_flatMap.2 ⟨i, List.mem_range.2 (by omega), hp⟩)))
      subst hcs
      exact ⟨⟨q, .slice oa q.load.length c⟩, ⟨by rw [hat 0 (by omega)]; rfl, by rw [hat 1 (by omega)]; rfl, by rw [hat 2 (by omega)]; rfl, by rw [hat 3 (by omega)]; rfl, by rw [hat 4 (by omega)]; rfl, by rw [hat 5 (by omega)]; rfl, by rw [hat 6 (by omega)]; rfl, by rw [hat 7 (by omega)]; rfl, by rw [hat 8 (by omega)]; rfl, by rw [hat 9 (by omega)]; rfl, by rw [hat 10 (by omega)]; rfl, by rw [hat 11 (by omega)]; rfl, by rw [hat 12 (by omega)]; rfl, by rw [hat 13 (by omega)]; rfl, by rw [hat 14 (by omega)]; rfl, by rw [hat 15 (by omega)]; rfl⟩, h1⟩
    haveI : Inhabited (OrT × Value) := ⟨⟨or0, .bool true⟩⟩
    obtain ⟨q, hq⟩ := choose_lt key
    have hln : ((List.range len0).map fun i => (q i).1).length = len0 := by simp
    have eg : ∀ i, i < len0 → ((List.range len0).map fun i => (q i).1).getD i or0 = (q i).1 := fun i hi => by
      rw [List.getD_eq_getElem?_getD, List.getElem?_map, List.getElem?_range hi]; rfl
    refine ⟨some a, cap0, (List.range len0).map fun i => (q i).1, by rw [hln], ⟨some a, cap0, by rw [hln], fun i hi => ?_⟩⟩
    · rw [hln] at hi
      obtain ⟨⟨h0, h1, h2, h3, h4, h5, h6, h7, h8, h9, h10, h11, h12, h13, h14, h15⟩, hcp⟩ := hq i hi
      have hb := row_lt (n := i) hx.2 hlt (show i < m * 16 by omega)
      obtain ⟨b, o, spot⟩ := a
      have hspot : spot = none := by
        obtain ⟨⟨z0, -⟩, -⟩ := hq 0 (by omega)
        simpa [Addr.add] using World.cell?_spot z0
      subst hspot
      rw [add_pl, add_pl] at h0 h1 h2 h3 h4 h5 h6 h7 h8 h9 h10 h11 h12 h13 h14 h15
      rw [eg i hi]
      exact ⟨b, o, (q i).2, rfl, hb, ⟨h0, h1, h2, h3, h4, h5, h6, h7, h8, h9, h10, h11, h12, h13, h14, h15⟩, hcp⟩
/-! ### slices of pairs -/
theorem pair_of {W : World} {base : Nat} {cs : List Value} {x : DataW H × List MemPlace} {n : Nat}
    (hf : DataW.trod enc Tryd.prog W base (fun _ => true) true n 45 cs = some x) : ∃ a b : Int, cs = [.int .i64 a, .int .i64 b] ∧ In64 (a, b) ∧ 3 ≤ Rows.uptoBulk x.1 := by
  have hC : Tryd.prog.cellsOf 45 = 2 := by kernel_rfl
  have hu : Tryd.prog.underlying 45 = some (.array 2 3) := Tryd.underlying45
  obtain ⟨xs, m, _, hx, hlen, hxl, hg⟩ := DataW.trod_array hu hf
  rw [hC] at hlen
  match cs, hlen with
  | [v0, v1], _ =>
    match xs, hxl with
    | [y0, y1], _ =>
      have k0 := hg 0 (by omega)
      have k1 := hg 1 (by omega)
      have o1 : Tryd.prog.cellsOf 3 = 1 := by kernel_rfl
      simp [o1] at k0 k1
      obtain ⟨q0, e0, _, w0⟩ := DataW.trod_int Tryd.underlying3 k0
      obtain ⟨q1, e1, _, w1⟩ := DataW.trod_int Tryd.underlying3 k1
      simp only [List.cons.injEq, and_true] at e0 e1
      subst e0 e1
      subst hx
      have h0 := bulk_pos y0.1
      have h1 := bulk_pos y1.1
      exact ⟨_, _, rfl, ⟨wf_i64 w0, wf_i64 w1⟩, by simp only [List.map_cons, List.map_nil, Rows.uptoBulk, Rows.uptoBulkAll]; omega⟩
theorem pairs_of {W : World} {base : Nat} {v : Value} {y : DataW H × List MemPlace} {n : Nat}
    (hf : DataW.trod enc Tryd.prog W base (fun _ => true) true n 22 [v] = some y) (hlt : ∀ x ∈ y.2, x.block < W.heap.size) :
    ∃ (oa : Option Addr) (c : Nat) (l : List (Int × Int)), v = .slice oa l.length c ∧ Ps W (.slice oa l.length c) l ∧ (3 * l.length + 1 ≤ Rows.uptoBulk y.1 ∧ ∀ p ∈ l, In64 p) := by
  obtain ⟨y1, y2⟩ := y
  simp only at hlt ⊢
  have hC : Tryd.prog.cellsOf 45 = 2 := by kernel_rfl
  rcases open_slice Tryd.underlying22 hf with ⟨hcs, hx⟩ | ⟨a, len, cap, m, n, D, Pl, hcs, _, hl, hm, hmm, hx, hall⟩
  · simp only [List.cons.injEq, and_true] at hcs
    simp only [Prod.mk.injEq] at hx
    obtain ⟨rfl, rfl⟩ := hx
    subst hcs
    exact ⟨none, 0, [], rfl, Sl.nil W, by simp [Rows.uptoBulk], fun _ h => by cases h⟩
  · simp only [List.cons.injEq, and_true] at hcs
    subst hcs
    simp only [if_true] at hmm
    simp only [Prod.mk.injEq] at hx
    rw [hC] at hx hall
    have key : ∀ i, i < len → ∃ q : Int × Int, (W.cell? ((a.add (i * 2)).add 0) = some (pT q) ∧ W.cell? ((a.add (i * 2)).add 1) = some (pA q)) ∧ (In64 q ∧ 3 ≤ Rows.uptoBulk (D i)) := fun i hi => by
      obtain ⟨cs', hc, ht⟩ := hall i (by omega)
      obtain ⟨_, _, hat⟩ := World.cells?_some hc
      obtain ⟨x, y, rfl, h6, h3⟩ := pair_of ht
      exact ⟨(x, y), ⟨by rw [hat 0 (by omega)]; rfl, by rw [hat 1 (by omega)]; rfl⟩, h6, h3⟩
    obtain ⟨q, hq⟩ := choose_lt key
    have hbk : 3 * len + 1 ≤ Rows.uptoBulk y1 := by
      rw [hx.1]
      refine Nat.le_trans ?_ (bulk_slice _ _)
      rw [bulk_sum, List.map_map]
      exact Nat.succ_le_succ (sum_ge fun i hi => (hq i hi).2.2)
    have hln : ((List.range len).map q).length = len := by simp
    refine ⟨some a, cap, (List.range len).map q, by rw [hln], ⟨some a, cap, by rw [hln], fun i hi => ?_⟩, by rw [hln]; exact hbk, fun p hp => by
      rw [List.mem_map] at hp
      obtain ⟨i, hi, rfl⟩ := hp
      exact (hq i (List.mem_range.1 hi)).2.1⟩
    rw [hln] at hi
    obtain ⟨⟨h0, h1⟩, _⟩ := hq i hi
    have eg : ((List.range len).map q).getD i (0, 0) = q i := by
      rw [List.getD_eq_getElem?_getD, List.getElem?_map, List.getElem?_range hi]; rfl
    rw [eg]
    have hb := row_lt (n := i) hx.2 hlt (show i < m * 2 by omega)
    obtain ⟨b, o, spot⟩ := a
    have hspot : spot = none := by
      obtain ⟨⟨z0, _⟩, _⟩ := hq 0 (by omega)
      simpa [Addr.add] using World.cell?_spot z0
    subst hspot
    rw [add_pl, add_pl] at h0 h1
    exact ⟨b, o, rfl, hb, h0, h1⟩
theorem arg_pairs {W : World} {base : Nat} {v : Value} {d : DataW H} {p : List MemPlace}
    (hv : Value.okWide Tryd.prog W .any base 22 v) (h : DataW.Trod enc Tryd.prog W 0 (fun _ => true) true 22 v d p) (hlt : ∀ x ∈ p, x.block < W.heap.size) :
    ∃ (oa : Option Addr) (c : Nat) (l : List (Int × Int)), v = .slice oa l.length c ∧ Ps W (.slice oa l.length c) l ∧ ∀ p ∈ l, In64 p := by
  obtain ⟨a0, len0, cap0, rfl⟩ := okWide_slice Tryd.underlying22 hv
  obtain ⟨fuel, hf⟩ := h
  have hf2 : DataW.trod enc Tryd.prog W 0 (fun _ => true) true fuel 22 [.slice a0 len0 cap0] = some (d, p) := hf
  obtain ⟨oa, c, l, h1, h2, _, h6⟩ := pairs_of hf2 hlt
  exact ⟨oa, c, l, h1, h2, h6⟩
/-! ### an instance by value -/
theorem slice_is {W : World} {base : Nat} {t e : TypeId} {v : Value} {y : DataW H × List MemPlace} {n : Nat} (ht : Tryd.prog.underlying t = some (.slice e))
    (hf : DataW.trod enc Tryd.prog W base (fun _ => true) true n t [v] = some y) : ∃ (oa : Option Addr) (k c : Nat), v = .slice oa k c := by
  rcases open_slice ht hf with ⟨hcs, _⟩ | ⟨a, len, cap, m, n, D, Pl, hcs, _⟩
  · simp only [List.cons.injEq, and_true] at hcs
    exact ⟨_, _, _, hcs⟩
  · simp only [List.cons.injEq, and_true] at hcs
    exact ⟨_, _, _, hcs⟩
theorem arg_inst {W : World} {base : Nat} {v : Value} {d : DataW H} {p : List MemPlace}
    (hv : Value.okWide Tryd.prog W .any base 37 v) (h : DataW.Trod enc Tryd.prog W 0 (fun _ => true) true 37 v d p) (hlt : ∀ x ∈ p, x.block < W.heap.size) (hk : Rows.uptoBulk d ≤ 1048576) :
    ∃ (o0 o1 o2 o3 o4 o5 : Option Addr) (n0 n1 n2 c0 c1 c2 c3 c4 c5 : Nat) (l : List OrT) (ap be : List (Int × Int)), v = .agg #[.slice o0 n0 c0, .slice o1 n1 c1, .slice o2 n2 c2, .slice o3 l.length c3, .slice o4 ap.length c4, .slice o5 be.length c5] ∧
      Os W (.slice o3 l.length c3) l ∧ Ps W (.slice o4 ap.length c4) ap ∧ Ps W (.slice o5 be.length c5) be ∧ ap.length ≤ 2000000 ∧ be.length ≤ 2000000 := by
  have hC : Tryd.prog.cellsOf 37 = 6 := by kernel_rfl
  obtain ⟨cs, rfl, hsz⟩ := okWide_struct Tryd.underlying37 hv
  obtain ⟨fuel, hf⟩ := h
  have he : Tryd.prog.underlying 37 = some (.struct #[_, _, _, _, _]) := Tryd.underlying37
  have hN : Tryd.prog.underlying 33 = some (.struct #[_, _]) := Tryd.underlying33
  obtain ⟨xs, n', _, hx, _, hxl, hg⟩ := DataW.trod_struct he hf
  obtain ⟨l⟩ := cs
  have hl6 : l.length = 6 := by rw [← hC]; exact hsz
  match l, hl6 with
  | [v0, v1, v2, v3, v4, v5], _ =>
    match xs, hxl with
    | [y0, y1, y2, y3, y4], _ =>
      have k0 := hg 0 _ rfl
      have k1 := hg 1 _ rfl
      have k2 := hg 2 _ rfl
      have k3 := hg 3 _ rfl
      have k4 := hg 4 _ rfl
      have o1 : Tryd.prog.cellsOf 33 = 2 := by kernel_rfl
      have o2 : Tryd.prog.cellsOf 34 = 1 := by kernel_rfl
      have o3 : Tryd.prog.cellsOf 35 = 1 := by kernel_rfl
      have o4 : Tryd.prog.cellsOf 22 = 1 := by kernel_rfl
      have o5 : Tryd.prog.cellsOf 30 = 1 := by kernel_rfl
      have o6 : Tryd.prog.cellsOf 31 = 1 := by kernel_rfl
      simp [o1, o2, o3, o4, Value.cells] at k0 k1 k2 k3 k4
      obtain ⟨xs2, n2', _, _, _, hxl2, hg2⟩ := DataW.trod_struct hN k0
      match xs2, hxl2 with
      | [u0, u1], _ =>
        have j0 := hg2 0 _ rfl
        have j1 := hg2 1 _ rfl
        simp [o5, o6] at j0 j1
        obtain ⟨a0, n0, c0, rfl⟩ := slice_is Tryd.underlying30 j0
        obtain ⟨a1, n1, c1, rfl⟩ := slice_is Tryd.underlying31 j1
        obtain ⟨a2, n2, c2, rfl⟩ := slice_is Tryd.underlying34 k1
        simp only [Prod.mk.injEq] at hx
        obtain ⟨hx1, hx2⟩ := hx
        subst hx1
        subst hx2
        obtain ⟨a3, c3, l, rfl, hl⟩ := ords_of k2 (fun p hp => hlt p (by simp; exact .inr (.inr (.inl hp))))
        obtain ⟨a4, c4, ap, rfl, ha, hak, _⟩ := pairs_of k3 (fun p hp => hlt p (by simp; exact .inr (.inr (.inr (.inl hp)))))
        obtain ⟨a5, c5, be, rfl, hb, hbk, _⟩ := pairs_of k4 (fun p hp => hlt p (by simp; exact .inr (.inr (.inr (.inr hp)))))
        simp only [List.map_cons, List.map_nil, Rows.uptoBulk, Rows.uptoBulkAll] at hk
        exact ⟨a0, a1, a2, a3, a4, a5, n0, n1, n2, c0, c1, c2, c3, c4, c5, l, ap, be, rfl, hl, ha, hb, by omega, by omega⟩
end

end Go.Proofs.YtmoilpkgoabopaaDoor.T

