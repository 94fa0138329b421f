/-
  DERIVED. A network by value, as an argument; how much it holds.
-/
import Derived.Test.YtegpebnkogjadaaDoorNetWt
import Derived.ProofKit
import Derived.LaidMore
import Derived.ChangeSlices
import Derived.SliceStrings
import Derived.Carry
import Derived.OpenShut
import Derived.Deep.SlicePairs
import Derived.Deep.Slices
import Derived.Deep.Fields
import Derived.Lib.SmallJoins
namespace Go.Proofs.YtegpebnkogjadaaDoor.T
open Go.Joins Go.ChangeShapes Go.WideShapes Go.ChangeAt Go.RowKit Go.Deep
set_option maxRecDepth 8000

theorem laidOut : laidOutB Tryd.prog = true := by kernel_rfl
section
variable {H : Type} {enc : TypeId × Value → H}
/-! ### how much is read -/
theorem bulk_pos (d : DataW H) : 1 ≤ Rows.uptoBulk d := by
  cases d with
  | lit l => cases l <;> simp [Rows.uptoBulk]
  | nil => simp [Rows.uptoBulk]
  | ptr d => simp [Rows.uptoBulk]
  | slice elems spare => simp [Rows.uptoBulk]
  | agg parts => simp [Rows.uptoBulk]
  | iface t d => simp [Rows.uptoBulk]
  | map entries => simp [Rows.uptoBulk]
  | held h => simp [Rows.uptoBulk]
theorem bulk_sum (l : List (DataW H)) : Rows.uptoBulkAll l = (l.map Rows.uptoBulk).sum := by
  induction l with
  | nil => simp [Rows.uptoBulkAll]
  | cons x l ih => simp only [Rows.uptoBulkAll, ih, List.map_cons, List.sum_cons]
theorem bulk_len (l : List (DataW H)) : l.length ≤ Rows.uptoBulkAll l := by
  induction l with
  | nil => simp [Rows.uptoBulkAll]
  | cons x l ih => have := bulk_pos x; simp only [Rows.uptoBulkAll, List.length_cons]; omega
theorem bulk_slice (a b : List (DataW H)) : Rows.uptoBulkAll a + 1 ≤ Rows.uptoBulk (.slice a b) := by simp only [Rows.uptoBulk]; omega
theorem sum_le {n : Nat} {f g : Nat → Nat} (h : ∀ i, i < n → f i ≤ g i) : ((List.range n).map f).sum ≤ ((List.range n).map g).sum := by
  induction n with
  | zero => simp
  | succ n ih =>
    rw [List.range_succ, List.map_append, List.map_append, List.sum_append, List.sum_append]
    have := ih (fun i hi => h i (by omega))
    have := h n (by omega)
    simp
    omega
theorem bulk_part {x : DataW H} {l : List (DataW H)} (h : x ∈ l) : Rows.uptoBulk x ≤ Rows.uptoBulkAll l := by
  induction l with
  | nil => cases h
  | cons y l ih =>
    simp only [Rows.uptoBulkAll]
    rcases List.mem_cons.1 h with rfl | h
    · omega
    · have := ih h; omega

theorem row_lt {W : World} {a : Addr} {n m : Nat} {p q : List MemPlace} (hp : p = MemPlace.row a m ++ q) (hlt : ∀ x ∈ p, x.block < W.heap.size) (hn : n < m) : a.block < W.heap.size := by
  subst hp
  obtain ⟨b, off, spot⟩ := a
  exact hlt (.cell b off) (List.mem_append.2 (.inl (MemPlace.mem_row.2 ⟨0, by omega, by simp⟩)))
theorem add_zero (b o k : Nat) : (⟨b, o, none⟩ : Addr).add k = ⟨b, o + k, none⟩ := add_plain ..

/-! ### points -/
theorem pts_of {W : World} {base : Nat} {v : Value} {y : DataW H × List MemPlace} {n : Nat}
    (hf : DataW.trod enc Tryd.prog W base (fun _ => true) true n 34 [v] = some y) (hlt : ∀ x ∈ y.2, x.block < W.heap.size) :
    ∃ l : List (Int × Int), Ps W v l ∧ l.length + 1 ≤ Rows.uptoBulk y.1 := by
  have he : Tryd.prog.underlying 75 = some (.struct #[_, _]) := Tryd.underlying75
  obtain ⟨y1, y2⟩ := y
  simp only at hlt ⊢
  rcases open_slice_pairs Tryd.underlying34 he (by kernel_rfl) rfl rfl (by kernel_rfl) (by kernel_rfl) hf with ⟨hcs, hx⟩ | ⟨a, len, cap, m, n, V0, V1, D0, D1, P0, P1, hcs, _, hl, hm, hmm, hx, hall⟩
  · simp only [List.cons.injEq, and_true] at hcs
    simp only [Prod.mk.injEq] at hx
    obtain ⟨rfl, rfl⟩ := hx
    subst hcs
    exact ⟨[], Sl.nil W, by simp [Rows.uptoBulk]⟩
  · simp only [List.cons.injEq, and_true] at hcs
    subst hcs
    simp only [if_true] at hmm
    simp only [Prod.mk.injEq] at hx
    have key : ∀ i, i < len → ∃ q : Int × Int, W.cell? (a.add (i * 2)) = some (pT q) ∧ W.cell? (a.add (i * 2 + 1)) = some (pA q) := fun i hi => by
      obtain ⟨c0, c1, t0, t1⟩ := hall i (by omega)
      obtain ⟨x, e0, _, _⟩ := DataW.trod_int Tryd.underlying3 t0
      obtain ⟨y, e1, _, _⟩ := DataW.trod_int Tryd.underlying3 t1
      simp only [List.cons.injEq, and_true] at e0 e1
      rw [e0] at c0
      rw [e1] at c1
      exact ⟨(x, y), c0, c1⟩
    obtain ⟨q, hq⟩ := choose_lt key
    have hbk : (List.range len).length + 1 ≤ Rows.uptoBulk y1 := by
      rw [hx.1]
      refine Nat.le_trans ?_ (bulk_slice _ _)
      have := bulk_len (H := H) ((List.range len).map fun i => .agg [D0 i, D1 i])
      rw [List.length_map] at this
      exact Nat.succ_le_succ this
    refine ⟨(List.range len).map q, ⟨some a, cap, by simp, fun i hi => ?_⟩, by rw [List.length_map]; exact hbk⟩
    have hi' : i < len := by simpa using hi
    obtain ⟨h0, h1⟩ := hq i hi'
    have eg : ((List.range len).map q).getD i (0, 0) = q i := by
      rw [List.getD_eq_getElem?_getD, List.getElem?_map, List.getElem?_range hi']; rfl
    rw [eg]
    have hb := row_lt (n := i) hx.2 hlt (show i < m * 2 by omega)
    obtain ⟨b, o, spot⟩ := a
    have hspot : spot = none := by
      obtain ⟨z0, _⟩ := hq 0 (by omega)
      simpa [Addr.add] using World.cell?_spot z0
    subst hspot
    rw [add_plain] at h0 h1
    exact ⟨b, o, rfl, hb, h0, by rw [Nat.add_assoc]; exact h1⟩

/-! ### arcs -/
theorem arc_of {W : World} {base : Nat} {a : Addr} {cs : List Value} {x : DataW H × List MemPlace} {n : Nat} (hcs : W.cells? base a 6 = some cs)
    (hf : DataW.trod enc Tryd.prog W base (fun _ => true) true n 36 cs = some x) (hlt : ∀ p ∈ x.2, p.block < W.heap.size) :
    ∃ (q : ArcT) (vt vs : Value), W.cell? (a.add 0) = some (.int .i64 q.fr) ∧ W.cell? (a.add 1) = some (.int .i64 q.to) ∧ W.cell? (a.add 2) = some (.int .i64 q.prof) ∧ W.cell? (a.add 3) = some (.int .i64 q.miles) ∧
      W.cell? (a.add 4) = some vt ∧ W.cell? (a.add 5) = some vs ∧ Ps W vt q.tr ∧ Ps W vs q.sl ∧ q.tr.length + q.sl.length ≤ Rows.uptoBulk x.1 := by
  have he : Tryd.prog.underlying 36 = some (.struct #[_, _, _, _, _, _]) := Tryd.underlying36
  obtain ⟨_, hlen, hat⟩ := World.cells?_some hcs
  obtain ⟨xs, n', _, hx, _, hxl, hg⟩ := DataW.trod_struct he hf
  match cs, hlen with
  | [c0, c1, c2, c3, c4, c5], _ =>
    match xs, hxl with
    | [y0, y1, y2, y3, y4, y5], _ =>
      have k0 := hg 0 _ rfl
      have k1 := hg 1 _ rfl
      have k2 := hg 2 _ rfl
      have k3 := hg 3 _ rfl
      have k4 := hg 4 _ rfl
      have k5 := hg 5 _ rfl
      have o1 : Tryd.prog.cellsOf 3 = 1 := by kernel_rfl
      have o2 : Tryd.prog.cellsOf 34 = 1 := by kernel_rfl
      simp [o1, o2] at k0 k1 k2 k3 k4 k5
      obtain ⟨fr, e0, _, _⟩ := DataW.trod_int Tryd.underlying3 k0
      obtain ⟨dt, e1, _, _⟩ := DataW.trod_int Tryd.underlying3 k1
      obtain ⟨pr, e2, _, _⟩ := DataW.trod_int Tryd.underlying3 k2
      obtain ⟨mi, e3, _, _⟩ := DataW.trod_int Tryd.underlying3 k3
      simp only [List.cons.injEq, and_true] at e0 e1 e2 e3
      subst e0; subst e1; subst e2; subst e3
      have hx2 := hx
      subst hx2
      obtain ⟨tr, p4, q4⟩ := pts_of k4 (fun p hp => hlt p (by simp; exact .inr (.inr (.inr (.inr (.inl hp))))))
      obtain ⟨sl, p5, q5⟩ := pts_of k5 (fun p hp => hlt p (by simp; exact .inr (.inr (.inr (.inr (.inr hp))))))
      refine ⟨⟨fr, dt, pr, mi, tr, sl⟩, c4, c5, by rw [hat 0 (by omega)]; rfl, by rw [hat 1 (by omega)]; rfl, by rw [hat 2 (by omega)]; rfl, by rw [hat 3 (by omega)]; rfl, by rw [hat 4 (by omega)]; rfl, by rw [hat 5 (by omega)]; rfl, p4, p5, ?_⟩
      simp only [List.map_cons, List.map_nil, Rows.uptoBulk, Rows.uptoBulkAll]
      omega
theorem arcs_of {W : World} {base : Nat} {v : Value} {y : DataW H × List MemPlace} {n : Nat}
    (hf : DataW.trod enc Tryd.prog W base (fun _ => true) true n 23 [v] = some y) (hlt : ∀ x ∈ y.2, x.block < W.heap.size) :
    ∃ l : List ArcT, As W v l ∧ l.length ≤ Rows.uptoBulk y.1 ∧ wtA l ≤ Rows.uptoBulk y.1 := by
  obtain ⟨y1, y2⟩ := y
  simp only at hlt ⊢
  have hC : Tryd.prog.cellsOf 36 = 6 := by kernel_rfl
  rcases open_slice Tryd.underlying23 hf with ⟨hcs, hx⟩ | ⟨a, len, cap, m, n, D, Pl, hcs, _, hl, hm, hmm, hx, hall⟩
  · simp only [List.cons.injEq, and_true] at hcs
    simp only [Prod.mk.injEq] at hx
    obtain ⟨rfl, rfl⟩ := hx
    subst hcs
    exact ⟨[], As.nil W, by simp, by simp [wtA]⟩
  · simp only [List.cons.injEq, and_true] at hcs
    subst hcs
    simp only [if_true] at hmm
    simp only [Prod.mk.injEq] at hx
    rw [hC] at hx hall
    have key : ∀ i, i < len → ∃ q : ArcT × Value × Value, (W.cell? ((a.add (i * 6)).add 0) = some (.int .i64 q.1.fr) ∧ W.cell? ((a.add (i * 6)).add 1) = some (.int .i64 q.1.to) ∧ W.cell? ((a.add (i * 6)).add 2) = some (.int .i64 q.1.prof) ∧ W.cell? ((a.add (i * 6)).add 3) = some (.int .i64 q.1.miles) ∧
        W.cell? ((a.add (i * 6)).add 4) = some q.2.1 ∧ W.cell? ((a.add (i * 6)).add 5) = some q.2.2 ∧ Ps W q.2.1 q.1.tr ∧ Ps W q.2.2 q.1.sl ∧ q.1.tr.length + q.1.sl.length ≤ Rows.uptoBulk (D i)) := fun i hi => by
      obtain ⟨cs', hc, ht⟩ := hall i (by omega)
      obtain ⟨q, vt, vs, h⟩ := arc_of hc ht (fun p hp => hlt p (by
        rw [hx.2, List.mem_append]
        exact .inr (List.mem_flatMap.2 ⟨i, List.mem_range.2 (by omega), hp⟩)))
      exact ⟨⟨q, vt, vs⟩, h⟩
    haveI : Inhabited (ArcT × Value × Value) := ⟨⟨arc0, .bool true, .bool true⟩⟩
    obtain ⟨q, hq⟩ := choose_lt key
    have hbk : ((List.range len).map fun i => Rows.uptoBulk (D i)).sum + 1 ≤ Rows.uptoBulk y1 := by
      rw [hx.1]
      refine Nat.le_trans ?_ (bulk_slice _ _)
      rw [bulk_sum, List.map_map]
      exact Nat.le_refl _
    refine ⟨(List.range len).map fun i => (q i).1, ⟨some a, cap, by simp, fun i hi => ?_⟩, ?_, ?_⟩
    · have hi' : i < len := by simpa using hi
      obtain ⟨h0, h1, h2, h3, h4, h5, ht, hs, _⟩ := hq i hi'
      have eg : ((List.range len).map fun i => (q i).1).getD i arc0 = (q i).1 := by
        rw [List.getD_eq_getElem?_getD, List.getElem?_map, List.getElem?_range hi']; rfl
      rw [eg]
      have hb := row_lt (n := i) hx.2 hlt (show i < m * 6 by omega)
      obtain ⟨b, o, spot⟩ := a
      have hspot : spot = none := by
        obtain ⟨z0, _⟩ := hq 0 (by omega)
        simpa [Addr.add] using World.cell?_spot z0
      subst hspot
      rw [add_plain, add_plain] at h0 h1 h2 h3 h4 h5
      exact ⟨b, o, (q i).2.1, (q i).2.2, rfl, hb, ⟨h0, h1, h2, h3, h4, h5⟩, ht, hs⟩
    · have := bulk_len (H := H) ((List.range len).map D)
      rw [bulk_sum, List.map_map] at this
      rw [List.length_map] at this ⊢
      have : (List.range len).length ≤ ((List.range len).map fun i => Rows.uptoBulk (D i)).sum := this
      omega
    · have := sum_le (n := len) (f := fun i => (q i).1.tr.length + (q i).1.sl.length) (g := fun i => Rows.uptoBulk (D i)) (fun i hi => (hq i hi).2.2.2.2.2.2.2.2)
      unfold wtA
      rw [List.map_map]
      exact Nat.le_trans this (by omega)

/-! ### networks -/
theorem arg_net {W : World} {base : Nat} {v : Value} {d : DataW H} {p : List MemPlace}
    (hv : Value.okWide Tryd.prog W .any base 25 v) (h : DataW.Trod enc Tryd.prog W 0 (fun _ => true) true 25 v d p) (hlt : ∀ x ∈ p, x.block < W.heap.size) (hk : Rows.uptoBulk d ≤ 1048576) :
    ∃ (vp va : Value) (pl : List ByteArray) (l : List ArcT), v = .agg #[vp, va] ∧ Ss W vp pl ∧ As W va l ∧ pl.length ≤ 1048576 ∧ l.length ≤ 1048576 ∧ wtA l ≤ 1048576 := by
  have he : Tryd.prog.underlying 25 = some (.struct #[_, _]) := Tryd.underlying25
  obtain ⟨c0, c1, y0, y1, n, rfl, rfl, rfl, h0, h1⟩ := open_agg2 he (by kernel_rfl) (by kernel_rfl) hv h
  simp only [Rows.uptoBulk, Rows.uptoBulkAll] at hk
  obtain ⟨l, ha, hl, hw⟩ := arcs_of h1 (fun x hx => hlt x (List.mem_append.2 (.inr hx)))
  obtain ⟨z1, z2⟩ := y0
  rcases open_strings Tryd.underlying22 Tryd.underlying9 (by kernel_rfl) h0 with ⟨hcs, hx⟩ | ⟨a, len, cap, ss, hcs, _, hl2, hm, hss, hx, hcell, _⟩
  · simp only [List.cons.injEq, and_true] at hcs
    subst hcs
    exact ⟨_, c1, [], l, rfl, Ss.nil W, ha, by simp, by omega, by omega⟩
  · simp only [List.cons.injEq, and_true] at hcs
    subst hcs
    simp only [if_true] at hss
    simp only [Prod.mk.injEq] at hx
    have hbl : len ≤ 1048576 := by
      have h3 := bulk_len (H := H) (strs (ss.take len))
      have h4 := bulk_slice (H := H) (strs (ss.take len)) (strs (ss.drop len))
      have h5 : (strs (H := H) (ss.take len)).length = len := by simp [strs]; omega
      have h6 : Rows.uptoBulk z1 = Rows.uptoBulk (.slice (strs (H := H) (ss.take len)) (strs (ss.drop len))) := by rw [hx.1]
      simp only at hk
      omega
    refine ⟨_, c1, ss.take len, l, rfl, ⟨some a, cap, ?_, fun i hi => ?_⟩, ha, by rw [List.length_take]; omega, by omega, by omega⟩
    · rw [List.length_take, Nat.min_eq_left (by omega)]
    · rw [List.length_take] at hi
      refine ⟨a, rfl, row_lt (q := []) (n := i) (by rw [List.append_nil]; exact hx.2) (fun x hx' => hlt x (List.mem_append.2 (.inl hx'))) (show i < ss.length by omega), ?_⟩
      rw [hcell i (by omega), List.getD_eq_getElem?_getD, List.getD_eq_getElem?_getD, List.getElem?_take_of_lt (by omega)]
      rfl
end

end Go.Proofs.YtegpebnkogjadaaDoor.T

