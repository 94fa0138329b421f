/-
  DERIVED. The walk of network's firstArcs.
-/
import Derived.Test.YtegpebnkogjadaaDoorNetFirst
namespace Go.Proofs.YtegpebnkogjadaaDoor.T
open Go.RowKit Go.Shelf
set_option maxRecDepth 8000
attribute [local go_sem] Oper.semAt_some

instance : Inhabited ArcX := ⟨⟨0, 0, 0, 0, 0, none, 0, 0, none, 0, 0, by omega, by unfold I64; omega, by unfold I64; omega, by unfold I64; omega⟩⟩
/-- the numbers of the arcs are numbers of the machine's -/
def Wfa (l : List ArcT) : Prop := ∀ i, i < l.length → I64 (l.getD i arc0).fr ∧ I64 (l.getD i arc0).to ∧ I64 (l.getD i arc0).prof
theorem arcX_of {w : World} {oa : Option Addr} {n c : Nat} {l : List ArcT} (hn : l.length = n) (ha : As w (.slice oa n c) l) (hI : Wfa l) (hl : l.length ≤ 1000000000) :
    ∃ X : Nat → ArcX, ∀ q, q < l.length → XAt w.heap.size w oa q (X q) ∧ (X q).prof = (l.getD q arc0).prof ∧ (X q).fr = (l.getD q arc0).fr ∧ (X q).dt = (l.getD q arc0).to := by
  obtain ⟨oa', c', hv, ha⟩ := ha
  simp only [Value.slice.injEq] at hv
  obtain ⟨rfl, -, rfl⟩ := hv
  have key : ∀ q, q < l.length → ∃ x : ArcX, XAt w.heap.size w oa q x ∧ x.prof = (l.getD q arc0).prof ∧ x.fr = (l.getD q arc0).fr ∧ x.dt = (l.getD q arc0).to := fun q hq => by
    obtain ⟨b, o, vt, vs, rfl, hb, hc, ht, hs⟩ := ha q hq
    obtain ⟨ot, ct, rfl, -⟩ := ht
    obtain ⟨os, cs, rfl, -⟩ := hs
    obtain ⟨i1, i2, i3⟩ := hI q hq
    exact ⟨⟨q, (l.getD q arc0).fr, (l.getD q arc0).to, (l.getD q arc0).prof, (l.getD q arc0).miles, ot, _, ct, os, _, cs, by omega, i3, i1, i2⟩, ⟨rfl, b, o, rfl, hb, hc⟩, rfl, rfl, rfl⟩
  exact Deep.choose_lt key
/-- the map when the arcs of a list have come -/
def gOf (pre : List ArcX) : WayF := pre.foldl (fun g x => putF g x.prof x.fr x.dt x.i) (fun _ _ _ => none)
theorem gOf_snoc (pre : List ArcX) (x : ArcX) : gOf (pre ++ [x]) = putF (gOf pre) x.prof x.fr x.dt x.i := by unfold gOf; rw [List.foldl_append]; rfl
theorem gOf_all {X : Nat → ArcX} {l : List ArcT} (hX : ∀ q, q < l.length → (X q).i = q ∧ (X q).prof = (l.getD q arc0).prof ∧ (X q).fr = (l.getD q arc0).fr ∧ (X q).dt = (l.getD q arc0).to) :
    ∀ k, k ≤ l.length → ∀ p f t, gOf (bkX X l.length k) p f t = ixA l (l.length - k) p f t
  | 0, _, p, f, t => by rw [Nat.sub_zero, ixA_end]; rfl
  | k + 1, h, p, f, t => by
    have ih := gOf_all hX k (by omega)
    obtain ⟨h0, h1, h2, h3⟩ := hX (l.length - 1 - k) (by omega)
    rw [bkX_succ, gOf_snoc, h0, h1, h2, h3]
    have hs := ixA_step (l := l) (k := l.length - 1 - k) (by omega) p f t
    rw [show l.length - 1 - k + 1 = l.length - k by omega] at hs
    rw [show l.length - (k + 1) = l.length - 1 - k by omega, ← hs]
    unfold putF
    split
    · rfl
    · exact ih p f t
theorem wm_own {b : Nat} (B : Nat) (hB : b < B) : OwnFrom B (fun (pre : List ArcX) W => Wm W b pre.length (gOf pre)) := fun s X Y row hs hg hr =>
  hs.grown hg (fun e => by have := (hr b e.symm).1; omega)

theorem ab_own {X Y : World} {row : Option Nat} {n : Nat} {x0 x1 x2 x3 x4 x5 : Value} (h : Ab X n x0 x1 x2 x3 x4 x5) (hg : X.grownBy Y row) (hrow : ∀ r, row = some r → ∃ o : Obj, X.heap[r]? = some o ∧ o.isCells = false) : Ab Y n x0 x1 x2 x3 x4 x5 :=
  (hg.block n h.lt (fun e => by obtain ⟨o, ho, hc⟩ := hrow n e.symm; unfold Ab at h; rw [h] at ho; cases ho; cases hc)).trans h

set_option maxHeartbeats 4000000 in
theorem firstArcs_n (va : Value) (l : List ArcT) (hl : l.length ≤ 1000000) (hI : Wfa l) (w : World) (ha : As w va l) :
    Calls Tryd.prog 29 #[va] w fun e w' => ∃ b, e = .returned (.map (some b)) ∧ w.heap.size ≤ b ∧ Wm w' b l.length (ixA l 0) ∧ Below w.heap.size w w' := by
  have HA := Lib.hid ha
  obtain ⟨oa, c, rfl, -⟩ := ha
  obtain ⟨X, hX⟩ := arcX_of rfl HA.out hI (by omega)
  have HG := Lib.hid (gOf_all (X := X) (l := l) (fun q hq => ⟨(hX q hq).1.1, (hX q hq).2⟩) l.length (Nat.le_refl _))
  have HX := Lib.hid (fun q (hq : q < l.length) => (hX q hq).1)
  clear hX
  generalize hn : l.length = n at *
  have hmm := makeMap_n (P := Tryd.prog) 56 59 3 .i64 (n : Int) Tryd.underlying56
  refine (callsIn_wide (n := 5)).1 ?_
  refine callsIn_of_wp_marks Tryd.func29 rfl trivial ?_ rfl
  simp only [Tryd.ntmps29, List.size_toArray, List.length_cons, List.length_nil, Nat.reduceAdd, Nat.reduceSub, Array.replicate_succ, Array.replicate_zero, List.push_toArray, List.append_toArray, List.nil_append, List.cons_append]
  gi_wp2_with (refine ⟨trivial, ?_⟩; gi_at_call 52; refine (callsIn_wide.2 (backward_n _ _ _ _)).mono ?_; rintro e w' ⟨rfl, rfl⟩)
  obtain ⟨W0, hW0⟩ : ∃ W0, ((w.alloc (.map #[] 0)).alloc (.cells #[.map (some w.heap.size)] 56)).alloc (.cells #[.slice oa n c] 23) = W0 := ⟨_, rfl⟩
  have hb1 := below_alloc w (.map #[] 0)
  have hb2 := over hb1 (below_alloc _ (.cells #[.map (some w.heap.size)] 56))
  have hb3 := over hb2 (below_alloc _ (.cells #[.slice oa n c] 23))
  have wM := (((Wm.made w).below (below_alloc _ (.cells #[.map (some w.heap.size)] 56))).below (below_alloc _ (.cells #[.slice oa n c] 23)))
  have bM := (Boxed.new (w.alloc (.map #[] 0)) 56 (.map (some w.heap.size))).alloc (.cells #[.slice oa n c] 23)
  have bA := Boxed.new ((w.alloc (.map #[] 0)).alloc (.cells #[.map (some w.heap.size)] 56)) 23 (.slice oa n c)
  simp only [World.size_alloc] at bM bA
  have hsz : W0.heap.size = w.heap.size + 3 := by rw [← hW0]; simp
  rw [hW0] at hb3 wM bM bA ⊢
  have HX0 := Lib.hid (fun q (hq : q < n) => (HX.out q hq).below (hb3))
  clear hW0 hb1 hb2 hmm HX
  refine wpIn_rangeFunc_ownH rfl (by omega) (gf := 63) (lb := #[.pointer (some ⟨w.heap.size + 1 + 1, 0, none⟩)]) rfl trivial (enters_of Tryd.func63 (by kernel_rfl) rfl)
    (back_stops (w.heap.size + 1 + 1) w.heap.size n c oa X (by omega) W0 (by omega) (by omega) bA.cell HX0.out)
    kq_t (kq_b (by omega) (by omega)) (Below.refl _ _) (fun _ => rfl)
    (fun pre W => (Boxed W (w.heap.size + 1) 56 (.map (some w.heap.size)) ∧ Wm W w.heap.size pre.length (gOf pre)) ∧ (Below w.heap.size w W ∧ W0.heap.size ≤ W.heap.size))
    (fun _ _ _ => False)
    (OwnFrom.and (OwnFrom.and (Own.from (boxed_own _ _ _) _) (wm_own _ (by omega))) (OwnFrom.and (ownFrom_below (Nat.le_refl _) (by omega)) (fun _ _ _ _ hs hg _ => Nat.le_trans hs hg.size)))
    (fun _ _ _ _ _ hs _ _ => hs)
    ⟨⟨bM, wM⟩, hb3, Nat.le_refl _⟩
    (fun x a' W => ∃ Bx, w.heap.size + 1 < Bx ∧ Ab W Bx (.int .i64 x.fr) (.int .i64 x.dt) (.int .i64 x.prof) (.int .i64 x.miles) (.slice x.ot x.nt x.ct) (.slice x.os x.ns x.cs) ∧ a' = { tmps := #[.slice oa n c, undef, .map none, .pointer (some ⟨w.heap.size + 1, 0, none⟩), .int .i64 (x.i : Int), .pointer (some ⟨Bx, 0, none⟩), .slice oa n c, .int .i64 (n : Int), .map (some w.heap.size), .slice oa n c, .func (.func 63) #[] #[.pointer (some ⟨w.heap.size + 1 + 1, 0, none⟩)], .int .i64 (x.i : Int), .agg #[.int .i64 x.fr, .int .i64 x.dt, .int .i64 x.prof, .int .i64 x.miles, .slice x.ot x.nt x.ct, .slice x.os x.ns x.cs], undef, undef, undef, undef, undef], defers := [] })
    (fun x a' _ X Y row hs hg hr => by obtain ⟨Bx, h1, h2, h3⟩ := hs; exact ⟨Bx, h1, ab_own h2 hg (fun r e => (hr r e).2), h3⟩)
    ?assign ?body ?done ?stop
  case assign =>
    rintro l pre ⟨i, fr, dt, prof, miles, ot, nt, ct, os, ns, cs, hi, hp, hf, ht⟩ W K ⟨⟨bM1, wM1⟩, hB1, aw⟩ hK
    simp only [encX]
    gi_wp2
    exact hK _ _ ((KeepsOthers.alloc _ _).from _) ⟨(Below.refl _ W).alloc hB1.size _, Below.heap_alloc W _ _ (by have := aw; omega)⟩ ⟨⟨bM1.alloc _, wM1.below (below_alloc _ _)⟩, hB1.alloc hB1.size _, by simp; omega⟩ ⟨W.heap.size, bM1.lt, Ab.made W _ _ _ _ _ _, rfl⟩
  case body =>
    rintro l pre ⟨i, fr, dt, prof, miles, ot, nt, ct, os, ns, cs, hi, hp, hf, ht⟩ a' W hl ⟨r, hr⟩ ⟨⟨bM1, wM1⟩, hB1, aw⟩ ⟨Bx, hBx, aX, rfl⟩ hlt
    simp only at aX ⊢
    have hmx : Tryd.prog.follows .mixedOrders = true := by kernel_rfl
    have cM := bM1.cell
    have x0 := aX.c0
    have x1 := aX.c1
    have x2 := aX.c2
    have x3 := aX.c3
    have x4 := aX.c4
    have x5 := aX.c5
    have BM := Lib.hid bM1
    have WM := Lib.hid wM1
    have HB := Lib.hid hB1
    clear bM1 wM1 hB1 hr
    gi_wp2
    have hsM := BM.out.lt
    have WMd : Hid (Wm W.drew w.heap.size pre.length (gOf pre)) := WM.out.of_block rfl
    have hmx9 : pre.length < maxLen := by unfold maxLen; omega
    gi_region_with_o (refine ⟨trivial, ?_⟩; gi_at_call 47; refine (CallsIn.inRound l (callsIn_wide.2 (wayOf_n _ _ _ _ _ _ _))).mono ?_; rintro e w1 ⟨rfl, b1⟩; have cM1 := (b1.cell (p := ⟨w.heap.size + 1, 0, none⟩) hsM).trans cM; obtain ⟨w2, hupd, hWm2, hg2⟩ := (WMd.out.below b1).put hmx9 hp hf ht i hi)
    all_goals
      have hblk : ∀ k, k < W.heap.size → k ≠ w.heap.size → w2.heap[k]? = W.heap[k]? := fun k hk hne => (hg2.block k (Nat.lt_of_lt_of_le hk b1.size) (fun e => hne (by injection e))).trans (b1.block k hk)
      have hsz2 : W.heap.size ≤ w2.heap.size := Nat.le_trans b1.size hg2.size
      have hB2 : Below w.heap.size W w2 := ((below_drew (Below.refl w.heap.size W)).trans (b1.mono (show w.heap.size ≤ W.drew.heap.size by show w.heap.size ≤ W.heap.size; omega))).grown hg2 (by have : W.heap.size ≤ w1.heap.size := b1.size; omega) (fun k e => by injection e with e; omega)
      exact ⟨⟨hsz2, fun k o hk ho _ => (hblk k (Array.getElem?_eq_some_iff.1 ho).1 (by omega)).trans ho⟩, ⟨hB2, hblk _ (by omega) (by omega)⟩, ⟨(hblk _ hsM (by omega)).trans BM.out, by rw [List.length_append, gOf_snoc]; exact hWm2⟩, HB.out.trans hB2, by omega⟩
  case done =>
    rintro D ys W hD rfl ⟨⟨bM1, wM1⟩, hB1, aw⟩ hK
    have cM := bM1.cell
    gi_wp2
    refine ⟨by simp, .inl ⟨_, _, rfl, run_takeDeferred hK, ?_⟩⟩
    rw [bkX_len] at wM1
    refine ⟨_, results_tmp rfl _ _ _, _, rfl, Nat.le_refl _, ?_, hB1.trans (belowK_b (w := w) (Nat.le_refl _) W D _ _ (by omega) hK rfl rfl)⟩
    exact (Wm.grown wM1 (grownBy_putObj' W D (.deferred none)) (fun e => by injection e; omega)).ext (fun p f t => by rw [HG.out, Nat.sub_self])
  case stop =>
    rintro D c pre W _ _ h _
    exact h.elim

end Go.Proofs.YtegpebnkogjadaaDoor.T

