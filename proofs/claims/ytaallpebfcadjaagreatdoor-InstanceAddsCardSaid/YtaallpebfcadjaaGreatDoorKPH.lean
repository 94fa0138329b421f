/-
  DERIVED. KPH: a part of the base of layer 13 (made by pack.py).
-/
import Derived.RangeFuncBox
import Derived.RangeFuncNested
import Derived.RangeFuncBound
import Derived.RangeFuncCalls
import Derived.RangeFuncLeaves
import Derived.Shelf.Abstract
import Derived.Shelf.RegionOpen
import Derived.OwnWalkIn
import Derived.TacticsInMore
import Derived.LoopNIn
import Derived.LoopIn
import Derived.Test.YtaallpebfcadjaaGreatDoorKPG
import Derived.Test.YtaallpebfcadjaaGreatDoorKPC
/-! The walks of slices.Backward over arcs and of network's firstArcs. -/
namespace Go.Proofs.YtaallpebfcadjaaGreatDoor.T
open Go.RowKit Go.Shelf
set_option maxRecDepth 8000
attribute [local go_sem] Oper.semAt_some

/-- what a round is handed: an index and an arc -/
structure ArcX where
  i : Nat
  fr : Int
  dt : Int
  prof : Int
  miles : Int
  ot : Option Addr
  nt : Nat
  ct : Nat
  os : Option Addr
  ns : Nat
  cs : Nat
  hi : i ≤ 1000000000
  hp : I64 prof
  hf : I64 fr
  ht : I64 dt
def encX (x : ArcX) : Array Value := #[.int .i64 (x.i : Int), .agg #[.int .i64 x.fr, .int .i64 x.dt, .int .i64 x.prof, .int .i64 x.miles, .slice x.ot x.nt x.ct, .slice x.os x.ns x.cs]]
/-- the arcs from behind: what has come when k rounds are over -/
def bkX (X : Nat → ArcX) (n k : Nat) : List ArcX := (List.range k).map fun j => X (n - 1 - j)
theorem bkX_len (X : Nat → ArcX) (n k : Nat) : (bkX X n k).length = k := by simp [bkX]
theorem bkX_succ (X : Nat → ArcX) (n k : Nat) : bkX X n (k + 1) = bkX X n k ++ [X (n - 1 - k)] := by simp [bkX, List.range_succ]
def XAt (n₀ : Nat) (W : World) (oa : Option Addr) (q : Nat) (x : ArcX) : Prop :=
  x.i = q ∧ ∃ b o, oa = some ⟨b, o, none⟩ ∧ b < n₀ ∧ Ac W b (o + q * 6) ⟨x.fr, x.dt, x.prof, x.miles, [], []⟩ (.slice x.ot x.nt x.ct) (.slice x.os x.ns x.cs)
theorem XAt.below {n₀ : Nat} {W W' : World} {oa : Option Addr} {q : Nat} {x : ArcX} (h : XAt n₀ W oa q x) (hb : Below n₀ W W') : XAt n₀ W' oa q x := by
  obtain ⟨hi, b, o, ha, hl, h0, h1, h2, h3, h4, h5⟩ := h
  exact ⟨hi, b, o, ha, hl, (hb.cell (p := ⟨b, _, none⟩) hl).trans h0, (hb.cell (p := ⟨b, _, none⟩) hl).trans h1, (hb.cell (p := ⟨b, _, none⟩) hl).trans h2, (hb.cell (p := ⟨b, _, none⟩) hl).trans h3, (hb.cell (p := ⟨b, _, none⟩) hl).trans h4, (hb.cell (p := ⟨b, _, none⟩) hl).trans h5⟩

/-- what a round keeps: all below n₀, and the box -/
def Kq (n₀ Bs : Nat) (W W' : World) : Prop := Below n₀ W W' ∧ W'.heap[Bs]? = W.heap[Bs]?
theorem kq_t {n₀ Bs : Nat} {A B C : World} (h : Kq n₀ Bs A B) (k : Kq n₀ Bs B C) : Kq n₀ Bs A C := ⟨h.1.trans k.1, k.2.trans h.2⟩
theorem kq_refl (n₀ Bs : Nat) (A : World) : Kq n₀ Bs A A := ⟨Below.refl _ _, rfl⟩
theorem kq_b {n₀ Bs : Nat} {w : World} (hn : n₀ ≤ w.heap.size) (hB : Bs < w.heap.size) (W : World) (l : Nat) (o o' : Obj) (hl : w.heap.size ≤ l) (h : W.heap[l]? = some o) (h1 : o.isCells = false) (h2 : o.isWalk = false) : Kq n₀ Bs W (W.putObj l o') :=
  ⟨belowK_b hn W l o o' hl h h1 h2, World.putObj_heap_other (by omega)⟩

set_option maxHeartbeats 2000000 in
theorem back1_in (l Bs n₀ n cap : Nat) (oa : Option Addr) (X : Nat → ArcX) (hn9 : n ≤ 1000000000) (J Jx : List ArcX → World → Prop)
    (hY : ∀ pre x W, J pre W → pre.length < n → YieldAt Fence.wide 3 Tryz.prog l (encX x) W fun e W' =>
      (e = .returned (.bool true) ∧ J (pre ++ [x]) W' ∧ Kq n₀ Bs W W') ∨ (e = .returned (.bool false) ∧ Jx (pre ++ [x]) W'))
    (W : World) (hc : W.cell? ⟨Bs, 0, none⟩ = some (.slice oa n cap)) (hX : ∀ q, q < n → XAt n₀ W oa q (X q)) (h0 : J [] W) :
    CallsIn Fence.wide 4 Tryz.prog 139 #[.func (.yield l) #[] #[], .pointer (some ⟨Bs, 0, none⟩)] W fun e W' => (∃ v, e = .returned v) ∧
      ((∃ ys, ys = bkX X n n ∧ J ys W') ∨ (∃ pre, True ∧ Jx pre W')) := by
  have HX := Lib.hid hX
  have HY := Lib.hid hY
  have HC := Lib.hid hc
  clear hX hY
  refine callsIn_of_wp Tryz.func139 rfl trivial ?_ rfl
  simp only [Tryz.ntmps139, List.size_toArray, List.length_cons, List.length_nil, Nat.reduceAdd, Nat.reduceSub, Array.replicate_succ, Array.replicate_zero, List.push_toArray, List.append_toArray, List.nil_append, List.cons_append]
  gi_wp2
  clear hc
  gi_loopw [3] (fun p wr => ∃ (m : Nat) (z : Int), p = .int .i64 z ∧ Hid (z + 1 = m) ∧ m ≤ n ∧ -1 ≤ z ∧ z ≤ 1000000000 ∧ Hid (J (bkX X n (n - m)) wr) ∧ Hid (Kq n₀ Bs W wr))
    (fun p _ => (intOf p + 1).toNat)
  case atStart => exact ⟨n, (n : Int) - 1, rfl, by show _ = _; omega, Nat.le_refl _, by omega, by omega, by show J _ _; rw [Nat.sub_self]; exact h0, kq_refl _ _ _⟩
  case round =>
    clear h0
    obtain ⟨m, z, rfl, hz, hm, hz1, hz2, HJ, HW⟩ := hrel
    cases m with
    | zero =>
      have hz' : z = -1 := by have := hz.out; omega
      subst hz'
      gi_wp2
      go_end0
      exact ⟨⟨_, rfl⟩, .inl ⟨_, rfl, HJ.out⟩⟩
    | succ q =>
      have hz' : z = (q : Int) := by have := hz.out; omega
      subst hz'
      have hq : q < n := by omega
      have hx := (HX.out q hq).below HW.out.1
      obtain ⟨fn, tmps, assign, body, hy, hR⟩ := HY.out _ (X q) wr HJ.out (by rw [bkX_len]; omega)
      have HE : Hid (bkX X n (n - (q + 1)) ++ [X q] = bkX X n (n - q)) := by
        show _ = _
        rw [show n - q = (n - (q + 1)) + 1 by omega, bkX_succ, show n - 1 - (n - (q + 1)) = q by omega]
      generalize bkX X n (n - (q + 1)) = pre at *
      have hcc := (World.cell?_of_block (a := ⟨Bs, 0, none⟩) HW.out.2).trans HC.out
      generalize X q = x at *
      obtain ⟨i, fr, dt, prof, miles, ot, nt, ct, os, ns, cs, hi, hp, hf, ht⟩ := x
      obtain ⟨hiq, b, o, rfl, hb, d0, d1, d2, d3, d4, d5⟩ := hx
      simp only at hiq d0 d1 d2 d3 d4 d5
      subst hiq
      simp only [encX] at hy
      have HR := Lib.hid hR
      clear hR hz
      have hqI : (i : Int) < (n : Int) := by omega
      gi_wp2
      refine HR.out.mono ?_
      rintro e W3 (⟨rfl, hJ3, hk3⟩ | ⟨rfl, hJx3⟩)
      · have HJ3 := Lib.hid (HE.out ▸ hJ3)
        have HW3 := Lib.hid (kq_t HW.out hk3)
        clear hJ3 hk3
        gi_wp2
        go_roundw
        case rel => exact ⟨i, (i : Int) - 1, rfl, by show _ = _; omega, by omega, by omega, by omega, HJ3, HW3⟩
        case measure => simp [intOf] <;> omega
      · gi_wp2
        refine bodyPost_ret (results_none rfl _ _ _) rfl ?_
        exact ⟨⟨_, rfl⟩, .inr ⟨_, trivial, hJx3⟩⟩
theorem back_stops (Bs n₀ n cap : Nat) (oa : Option Addr) (X : Nat → ArcX) (hn9 : n ≤ 1000000000) (w : World) (hBw : Bs < w.heap.size) (hn₀ : n₀ ≤ w.heap.size) (hc : w.cell? ⟨Bs, 0, none⟩ = some (.slice oa n cap)) (hX : ∀ q, q < n → XAt n₀ w oa q (X q)) :
    SeqStopsK Fence.wide 4 Tryz.prog 139 #[.pointer (some ⟨Bs, 0, none⟩)] encX (Kq n₀ Bs) (fun ys => ys = bkX X n n) (fun _ => True) n w := fun l J Jx W hW _ _ hY h0 =>
  back1_in l Bs n₀ n cap oa X hn9 J Jx hY W ((hW.cell (p := ⟨Bs, 0, none⟩) hBw).trans hc) (fun q hq => (hX q hq).below (hW.mono hn₀)) h0
theorem backward_n (oa : Option Addr) (n c : Nat) (w : World) :
    Calls Tryz.prog 121 #[.slice oa n c] w fun e w' => e = .returned (.func (.func 139) #[] #[.pointer (some ⟨w.heap.size, 0, none⟩)]) ∧ w' = w.alloc (.cells #[.slice oa n c] 23) := by
  go_enter Tryz.func121, Tryz.ntmps121
  go_wp2_with fail
  go_ret
  exact ⟨rfl, rfl⟩

end Go.Proofs.YtaallpebfcadjaaGreatDoor.T


/-! The walk of network's firstArcs. -/
namespace Go.Proofs.YtaallpebfcadjaaGreatDoor.T
open Go.RowKit Go.Shelf
set_option maxRecDepth 8000
attribute [local go_sem] Oper.semAt_some

instance : Inhabited ArcX := ⟨⟨0, 0, 0, 0, 0, none, 0, 0, none, 0, 0, by omega, by unfold I64; omega, by unfold I64; omega, by unfold I64; omega⟩⟩
/-- the numbers of the arcs are numbers of the machine's -/
def Wfa (l : List ArcT) : Prop := ∀ i, i < l.length → I64 (l.getD i arc0).fr ∧ I64 (l.getD i arc0).to ∧ I64 (l.getD i arc0).prof
theorem arcX_of {w : World} {oa : Option Addr} {n c : Nat} {l : List ArcT} (hn : l.length = n) (ha : As w (.slice oa n c) l) (hI : Wfa l) (hl : l.length ≤ 1000000000) :
    ∃ X : Nat → ArcX, ∀ q, q < l.length → XAt w.heap.size w oa q (X q) ∧ (X q).prof = (l.getD q arc0).prof ∧ (X q).fr = (l.getD q arc0).fr ∧ (X q).dt = (l.getD q arc0).to := by
  obtain ⟨oa', c', hv, ha⟩ := ha
  simp only [Value.slice.injEq] at hv
  obtain ⟨rfl, -, rfl⟩ := hv
  have key : ∀ q, q < l.length → ∃ x : ArcX, XAt w.heap.size w oa q x ∧ x.prof = (l.getD q arc0).prof ∧ x.fr = (l.getD q arc0).fr ∧ x.dt = (l.getD q arc0).to := fun q hq => by
    obtain ⟨b, o, vt, vs, rfl, hb, hc, ht, hs⟩ := ha q hq
    obtain ⟨ot, ct, rfl, -⟩ := ht
    obtain ⟨os, cs, rfl, -⟩ := hs
    obtain ⟨i1, i2, i3⟩ := hI q hq
    exact ⟨⟨q, (l.getD q arc0).fr, (l.getD q arc0).to, (l.getD q arc0).prof, (l.getD q arc0).miles, ot, _, ct, os, _, cs, by omega, i3, i1, i2⟩, ⟨rfl, b, o, rfl, hb, hc⟩, rfl, rfl, rfl⟩
  exact Deep.choose_lt key
/-- the map when the arcs of a list have come -/
def gOf (pre : List ArcX) : WayF := pre.foldl (fun g x => putF g x.prof x.fr x.dt x.i) (fun _ _ _ => none)
theorem gOf_snoc (pre : List ArcX) (x : ArcX) : gOf (pre ++ [x]) = putF (gOf pre) x.prof x.fr x.dt x.i := by unfold gOf; rw [List.foldl_append]; rfl
theorem gOf_all {X : Nat → ArcX} {l : List ArcT} (hX : ∀ q, q < l.length → (X q).i = q ∧ (X q).prof = (l.getD q arc0).prof ∧ (X q).fr = (l.getD q arc0).fr ∧ (X q).dt = (l.getD q arc0).to) :
    ∀ k, k ≤ l.length → ∀ p f t, gOf (bkX X l.length k) p f t = ixA l (l.length - k) p f t
  | 0, _, p, f, t => by rw [Nat.sub_zero, ixA_end]; rfl
  | k + 1, h, p, f, t => by
    have ih := gOf_all hX k (by omega)
    obtain ⟨h0, h1, h2, h3⟩ := hX (l.length - 1 - k) (by omega)
    rw [bkX_succ, gOf_snoc, h0, h1, h2, h3]
    have hs := ixA_step (l := l) (k := l.length - 1 - k) (by omega) p f t
    rw [show l.length - 1 - k + 1 = l.length - k by omega] at hs
    rw [show l.length - (k + 1) = l.length - 1 - k by omega, ← hs]
    unfold putF
    split
    · rfl
    · exact ih p f t
theorem wm_own {b : Nat} (B : Nat) (hB : b < B) : OwnFrom B (fun (pre : List ArcX) W => Wm W b pre.length (gOf pre)) := fun s X Y row hs hg hr =>
  hs.grown hg (fun e => by have := (hr b e.symm).1; omega)

theorem ab_own {X Y : World} {row : Option Nat} {n : Nat} {x0 x1 x2 x3 x4 x5 : Value} (h : Ab X n x0 x1 x2 x3 x4 x5) (hg : X.grownBy Y row) (hrow : ∀ r, row = some r → ∃ o : Obj, X.heap[r]? = some o ∧ o.isCells = false) : Ab Y n x0 x1 x2 x3 x4 x5 :=
  (hg.block n h.lt (fun e => by obtain ⟨o, ho, hc⟩ := hrow n e.symm; unfold Ab at h; rw [h] at ho; cases ho; cases hc)).trans h

set_option maxHeartbeats 4000000 in
theorem firstArcs_n (va : Value) (l : List ArcT) (hl : l.length ≤ 1000000) (hI : Wfa l) (w : World) (ha : As w va l) :
    Calls Tryz.prog 91 #[va] w fun e w' => ∃ b, e = .returned (.map (some b)) ∧ w.heap.size ≤ b ∧ Wm w' b l.length (ixA l 0) ∧ Below w.heap.size w w' := by
  have HA := Lib.hid ha
  obtain ⟨oa, c, rfl, -⟩ := ha
  obtain ⟨X, hX⟩ := arcX_of rfl HA.out hI (by omega)
  have HG := Lib.hid (gOf_all (X := X) (l := l) (fun q hq => ⟨(hX q hq).1.1, (hX q hq).2⟩) l.length (Nat.le_refl _))
  have HX := Lib.hid (fun q (hq : q < l.length) => (hX q hq).1)
  clear hX
  generalize hn : l.length = n at *
  have hmm := makeMap_n (P := Tryz.prog) 121 124 3 .i64 (n : Int) Tryz.underlying121
  refine (callsIn_wide (n := 5)).1 ?_
  refine callsIn_of_wp_marks Tryz.func91 rfl trivial ?_ rfl
  simp only [Tryz.ntmps91, List.size_toArray, List.length_cons, List.length_nil, Nat.reduceAdd, Nat.reduceSub, Array.replicate_succ, Array.replicate_zero, List.push_toArray, List.append_toArray, List.nil_append, List.cons_append]
  gi_wp2_with (refine ⟨trivial, ?_⟩; gi_at_call 121; refine (callsIn_wide.2 (backward_n _ _ _ _)).mono ?_; rintro e w' ⟨rfl, rfl⟩)
  obtain ⟨W0, hW0⟩ : ∃ W0, ((w.alloc (.map #[] 0)).alloc (.cells #[.map (some w.heap.size)] 121)).alloc (.cells #[.slice oa n c] 23) = W0 := ⟨_, rfl⟩
  have hb1 := below_alloc w (.map #[] 0)
  have hb2 := over hb1 (below_alloc _ (.cells #[.map (some w.heap.size)] 121))
  have hb3 := over hb2 (below_alloc _ (.cells #[.slice oa n c] 23))
  have wM := (((Wm.made w).below (below_alloc _ (.cells #[.map (some w.heap.size)] 121))).below (below_alloc _ (.cells #[.slice oa n c] 23)))
  have bM := (Boxed.new (w.alloc (.map #[] 0)) 121 (.map (some w.heap.size))).alloc (.cells #[.slice oa n c] 23)
  have bA := Boxed.new ((w.alloc (.map #[] 0)).alloc (.cells #[.map (some w.heap.size)] 121)) 23 (.slice oa n c)
  simp only [World.size_alloc] at bM bA
  have hsz : W0.heap.size = w.heap.size + 3 := by rw [← hW0]; simp
  rw [hW0] at hb3 wM bM bA ⊢
  have HX0 := Lib.hid (fun q (hq : q < n) => (HX.out q hq).below (hb3))
  clear hW0 hb1 hb2 hmm HX
  refine wpIn_rangeFunc_ownH rfl (by omega) (gf := 139) (lb := #[.pointer (some ⟨w.heap.size + 1 + 1, 0, none⟩)]) rfl trivial (enters_of Tryz.func139 (by kernel_rfl) rfl)
    (back_stops (w.heap.size + 1 + 1) w.heap.size n c oa X (by omega) W0 (by omega) (by omega) bA.cell HX0.out)
    kq_t (kq_b (by omega) (by omega)) (Below.refl _ _) (fun _ => rfl)
    (fun pre W => (Boxed W (w.heap.size + 1) 121 (.map (some w.heap.size)) ∧ Wm W w.heap.size pre.length (gOf pre)) ∧ (Below w.heap.size w W ∧ W0.heap.size ≤ W.heap.size))
    (fun _ _ _ => False)
    (OwnFrom.and (OwnFrom.and (Own.from (boxed_own _ _ _) _) (wm_own _ (by omega))) (OwnFrom.and (ownFrom_below (Nat.le_refl _) (by omega)) (fun _ _ _ _ hs hg _ => Nat.le_trans hs hg.size)))
    (fun _ _ _ _ _ hs _ _ => hs)
    ⟨⟨bM, wM⟩, hb3, Nat.le_refl _⟩
    (fun x a' W => ∃ Bx, w.heap.size + 1 < Bx ∧ Ab W Bx (.int .i64 x.fr) (.int .i64 x.dt) (.int .i64 x.prof) (.int .i64 x.miles) (.slice x.ot x.nt x.ct) (.slice x.os x.ns x.cs) ∧ a' = { tmps := #[.slice oa n c, undef, .map none, .pointer (some ⟨w.heap.size + 1, 0, none⟩), .int .i64 (x.i : Int), .pointer (some ⟨Bx, 0, none⟩), .slice oa n c, .int .i64 (n : Int), .map (some w.heap.size), .slice oa n c, .func (.func 139) #[] #[.pointer (some ⟨w.heap.size + 1 + 1, 0, none⟩)], .int .i64 (x.i : Int), .agg #[.int .i64 x.fr, .int .i64 x.dt, .int .i64 x.prof, .int .i64 x.miles, .slice x.ot x.nt x.ct, .slice x.os x.ns x.cs], undef, undef, undef, undef, undef], defers := [] })
    (fun x a' _ X Y row hs hg hr => by obtain ⟨Bx, h1, h2, h3⟩ := hs; exact ⟨Bx, h1, ab_own h2 hg (fun r e => (hr r e).2), h3⟩)
    ?assign ?body ?done ?stop
  case assign =>
    rintro l pre ⟨i, fr, dt, prof, miles, ot, nt, ct, os, ns, cs, hi, hp, hf, ht⟩ W K ⟨⟨bM1, wM1⟩, hB1, aw⟩ hK
    simp only [encX]
    gi_wp2
    exact hK _ _ ((KeepsOthers.alloc _ _).from _) ⟨(Below.refl _ W).alloc hB1.size _, Below.heap_alloc W _ _ (by have := aw; omega)⟩ ⟨⟨bM1.alloc _, wM1.below (below_alloc _ _)⟩, hB1.alloc hB1.size _, by simp; omega⟩ ⟨W.heap.size, bM1.lt, Ab.made W _ _ _ _ _ _, rfl⟩
  case body =>
    rintro l pre ⟨i, fr, dt, prof, miles, ot, nt, ct, os, ns, cs, hi, hp, hf, ht⟩ a' W hl ⟨r, hr⟩ ⟨⟨bM1, wM1⟩, hB1, aw⟩ ⟨Bx, hBx, aX, rfl⟩ hlt
    simp only at aX ⊢
    have hmx : Tryz.prog.follows .mixedOrders = true := by kernel_rfl
    have cM := bM1.cell
    have x0 := aX.c0
    have x1 := aX.c1
    have x2 := aX.c2
    have x3 := aX.c3
    have x4 := aX.c4
    have x5 := aX.c5
    have BM := Lib.hid bM1
    have WM := Lib.hid wM1
    have HB := Lib.hid hB1
    clear bM1 wM1 hB1 hr
    gi_wp2
    have hsM := BM.out.lt
    have WMd : Hid (Wm W.drew w.heap.size pre.length (gOf pre)) := WM.out.of_block rfl
    have hmx9 : pre.length < maxLen := by unfold maxLen; omega
    gi_region_with_o (refine ⟨trivial, ?_⟩; gi_at_call 92; refine (CallsIn.inRound l (callsIn_wide.2 (wayOf_n _ _ _ _ _ _ _))).mono ?_; rintro e w1 ⟨rfl, b1⟩; have cM1 := (b1.cell (p := ⟨w.heap.size + 1, 0, none⟩) hsM).trans cM; obtain ⟨w2, hupd, hWm2, hg2⟩ := (WMd.out.below b1).put hmx9 hp hf ht i hi)
    all_goals
      have hblk : ∀ k, k < W.heap.size → k ≠ w.heap.size → w2.heap[k]? = W.heap[k]? := fun k hk hne => (hg2.block k (Nat.lt_of_lt_of_le hk b1.size) (fun e => hne (by injection e))).trans (b1.block k hk)
      have hsz2 : W.heap.size ≤ w2.heap.size := Nat.le_trans b1.size hg2.size
      have hB2 : Below w.heap.size W w2 := ((below_drew (Below.refl w.heap.size W)).trans (b1.mono (show w.heap.size ≤ W.drew.heap.size by show w.heap.size ≤ W.heap.size; omega))).grown hg2 (by have : W.heap.size ≤ w1.heap.size := b1.size; omega) (fun k e => by injection e with e; omega)
      exact ⟨⟨hsz2, fun k o hk ho _ => (hblk k (Array.getElem?_eq_some_iff.1 ho).1 (by omega)).trans ho⟩, ⟨hB2, hblk _ (by omega) (by omega)⟩, ⟨(hblk _ hsM (by omega)).trans BM.out, by rw [List.length_append, gOf_snoc]; exact hWm2⟩, HB.out.trans hB2, by omega⟩
  case done =>
    rintro D ys W hD rfl ⟨⟨bM1, wM1⟩, hB1, aw⟩ hK
    have cM := bM1.cell
    gi_wp2
    refine ⟨by simp, .inl ⟨_, _, rfl, run_takeDeferred hK, ?_⟩⟩
    rw [bkX_len] at wM1
    refine ⟨_, results_tmp rfl _ _ _, _, rfl, Nat.le_refl _, ?_, hB1.trans (belowK_b (w := w) (Nat.le_refl _) W D _ _ (by omega) hK rfl rfl)⟩
    exact (Wm.grown wM1 (grownBy_putObj' W D (.deferred none)) (fun e => by injection e; omega)).ext (fun p f t => by rw [HG.out, Nat.sub_self])
  case stop =>
    rintro D c pre W _ _ h _
    exact h.elim

end Go.Proofs.YtaallpebfcadjaaGreatDoor.T


