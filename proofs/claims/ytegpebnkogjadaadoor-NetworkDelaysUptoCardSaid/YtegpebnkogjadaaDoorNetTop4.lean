/-
  DERIVED. The walks of network's Find and Go.
-/
import Derived.Test.YtegpebnkogjadaaDoorNetTop3
namespace Go.Proofs.YtegpebnkogjadaaDoor.T
open Go.RowKit
set_option maxRecDepth 8000

theorem NetOk.tr_le {pl : List ByteArray} {l : List ArcT} (h : NetOk pl l) {i : Nat} (hi : i < l.length) : (l.getD i arc0).tr.length ≤ 16 ∧ (l.getD i arc0).sl.length ≤ 16 := ⟨(h.arcs i hi).tr.most, (h.arcs i hi).len⟩

theorem Gq.far6 {B : Nat} {w : World} {v : Value} {l : List (Int × Int)} (h : Gq B w v l) {n : Nat} (hn : n < B) (y0 y1 y2 y3 y4 y5 : Value) :
    Gq B ((((((w.setCell ⟨n, 0, none⟩ y0).setCell ⟨n, 1, none⟩ y1).setCell ⟨n, 2, none⟩ y2).setCell ⟨n, 3, none⟩ y3).setCell ⟨n, 4, none⟩ y4).setCell ⟨n, 5, none⟩ y5) v l :=
  (((((h.far hn 0 y0).far hn 1 y1).far hn 2 y2).far hn 3 y3).far hn 4 y4).far hn 5 y5

set_option maxHeartbeats 1600000 in
theorem find_n (vp va : Value) (pl : List ByteArray) (l : List ArcT) (pr f t : Int) (hl : l.length ≤ 1000000) (hN : NetOk pl l) (hI : Wfa l) (hp : I64 pr) (hf : I64 f) (ht : I64 t) (w : World) (ha : As w va l) :
    Calls Tryd.prog 13 #[.agg #[vp, va], .int .i64 pr, .int .i64 f, .int .i64 t] w (FdP (findA l pr f t) w) := by
  have HA := Lib.hid ha
  have K1 := Lib.hid (fun w h => firstArcs_n va l hl hI w h)
  have K2 := Lib.hid (fun i (hi : i < l.length) vt vs w ht hs => copyOf_n (l.getD i arc0) vt vs (by have := hN.tr_le hi; omega) (by have := hN.tr_le hi; omega) w ht hs)
  have HLT := Lib.hid (fun i (h : ixA l 0 pr f t = some i) => ix_some h)
  have HNO := Lib.hid (fun (h : ixA l 0 pr f t = none) => ix_none h)
  obtain ⟨oa, c, rfl, -⟩ := ha
  obtain ⟨W0, hW0⟩ : ∃ W0, (w.alloc (.cells #[vp, .slice oa l.length c] 25)).alloc (.cells #[.int .i64 0, .int .i64 0, .int .i64 0, .int .i64 0, .slice none 0 0, .slice none 0 0] 36) = W0 := ⟨_, rfl⟩
  have B0 : Hid (Below w.heap.size w W0) := by show Below _ _ _; rw [← hW0]; exact over (below_alloc _ _) (below_alloc _ _)
  have N0 : Hid (Nb W0 w.heap.size vp (.slice oa l.length c)) := by show Nb _ _ _ _; rw [← hW0]; exact (Nb.made w vp (.slice oa l.length c)).below (below_alloc _ _)
  have R0 : Hid (Ab W0 (w.heap.size + 1) (.int .i64 0) (.int .i64 0) (.int .i64 0) (.int .i64 0) (.slice none 0 0) (.slice none 0 0)) := by
    show Ab _ _ _ _ _ _ _ _
    have := Ab.made (w.alloc (.cells #[vp, .slice oa l.length c] 25)) (.int .i64 0) (.int .i64 0) (.int .i64 0) (.int .i64 0) (.slice none 0 0) (.slice none 0 0)
    rw [← hW0]
    simpa using this
  have HA0 := Lib.hid (HA.out.below B0.out)
  have hsz0 : w.heap.size + 1 < W0.heap.size := R0.out.lt
  have g1 := N0.out.c1
  generalize hn : l.length = n at *
  go_enter Tryd.func13, Tryd.ntmps13
  go_wp2_with fail
  clear hW0 g1
  refine (K1.out _ HA0.out).mono ?_
  rintro e w1 ⟨b, rfl, hbB, hWm, b1⟩
  have B1 := Lib.hid (over B0.out b1)
  have N1 := Lib.hid (N0.out.below b1)
  have R1 := Lib.hid (R0.out.below b1)
  have hsz1 : W0.heap.size ≤ w1.heap.size := b1.size
  have hlk := hWm.look hp hf ht
  clear b1 hWm N0 R0 K1
  have q0 := R1.out.f 0
  have q1 := R1.out.f 1
  have q2 := R1.out.f 2
  have q3 := R1.out.f 3
  have q4 := R1.out.f 4
  have q5 := R1.out.f 5
  have e0 := R1.out.c0
  have e1 := R1.out.c1
  have e2 := R1.out.c2
  have e3 := R1.out.c3
  have e4 := R1.out.c4
  have e5 := R1.out.c5
  cases hix : ixA l 0 pr f t with
  | none =>
    have HX : Hid (none = findA l pr f t) := (HNO.out hix).symm
    generalize findA l pr f t = r at *
    rw [hix] at hlk
    clear hix
    simp only [Option.getD_none, Option.isSome_none] at hlk
    go_wp2_with fail
    clear q0 q1 q2 q3 q4 q5 e0 e1 e2 e3 e4 e5 hlk
    have HF := R1.out.put (.int .i64 0) (.int .i64 0) (.int .i64 0) (.int .i64 0) (.slice none 0 0) (.slice none 0 0)
    have x0 := HF.c0
    have x1 := HF.c1
    have x2 := HF.c2
    have x3 := HF.c3
    have x4 := HF.c4
    have x5 := HF.c5
    refine bodyPost_ret (v := .tuple #[.agg #[.int .i64 0, .int .i64 0, .int .i64 0, .int .i64 0, .slice none 0 0, .slice none 0 0], .bool false]) (by simp [results, Tryd.results13, go_sem, x0, x1, x2, x3, x4, x5]) rfl ?_
    rw [← HX.out]
    exact ⟨_, _, rfl, Sl.nil _, Sl.nil _, below_put6 (n := w.heap.size + 1) B1.out (by omega) _ _ _ _ _ _⟩
  | some i =>
    obtain ⟨hin, hfa⟩ := HLT.out i hix
    have HX : Hid (some (l.getD i arc0) = findA l pr f t) := hfa.symm
    generalize findA l pr f t = r at *
    rw [hix] at hlk
    clear hix hfa
    simp only [Option.getD_some, Option.isSome_some] at hlk
    have hin2 : i < l.length := by rw [hn]; exact hin
    have hA1 := HA.out.below B1.out
    obtain ⟨oa1, c1, hv1, hA1⟩ := hA1
    simp only [Value.slice.injEq] at hv1
    obtain ⟨rfl, -, rfl⟩ := hv1
    obtain ⟨b', o, vt, vs, rfl, hab, ⟨d0, d1, d2, d3, d4, d5⟩, hpt, hps⟩ := hA1 i hin2
    clear hA1
    have K3 := Lib.hid (fun vt vs w ht hs => K2.out i hin vt vs w ht hs)
    have PT := Lib.hid hpt
    have PS := Lib.hid hps
    obtain ⟨ot, ct, rfl, -⟩ := hpt
    obtain ⟨os, cs, rfl, -⟩ := hps
    have g1 := N1.out.c1
    have hiI : (i : Int) < (n : Int) := by omega
    have hi0 : (0 : Int) ≤ (i : Int) := by omega
    generalize l.getD i arc0 = a at *
    obtain ⟨fr, dt, prof, miles, tr, sl⟩ := a
    simp only at d0 d1 d2 d3 d4 d5 PT PS K3 HX
    clear hin hin2
    go_wp2_with fail
    refine (K3.out _ _ _ PT.out PS.out).mono ?_
    rintro e w2 ⟨ot2, ct2, os2, cs2, rfl, hg1, hg2, -, b2⟩
    have B2 := Lib.hid (over B1.out b2)
    have R2 := Lib.hid (R1.out.below b2)
    have G1 := Lib.hid hg1
    have G2 := Lib.hid hg2
    clear b2 hg1 hg2 q0 q1 q2 q3 q4 q5 e0 e1 e2 e3 e4 e5 d0 d1 d2 d3 d4 d5 g1 hlk
    have q0 := R2.out.f 0
    have q1 := R2.out.f 1
    have q2 := R2.out.f 2
    have q3 := R2.out.f 3
    have q4 := R2.out.f 4
    have q5 := R2.out.f 5
    have e0 := R2.out.c0
    have e1 := R2.out.c1
    have e2 := R2.out.c2
    have e3 := R2.out.c3
    have e4 := R2.out.c4
    have e5 := R2.out.c5
    go_wp2_with fail
    clear q0 q1 q2 q3 q4 q5 e0 e1 e2 e3 e4 e5
    have HF := R2.out.put (.int .i64 fr) (.int .i64 dt) (.int .i64 prof) (.int .i64 miles) (.slice ot2 tr.length ct2) (.slice os2 sl.length cs2)
    have x0 := HF.c0
    have x1 := HF.c1
    have x2 := HF.c2
    have x3 := HF.c3
    have x4 := HF.c4
    have x5 := HF.c5
    refine bodyPost_ret (v := .tuple #[.agg #[.int .i64 fr, .int .i64 dt, .int .i64 prof, .int .i64 miles, .slice ot2 tr.length ct2, .slice os2 sl.length cs2], .bool true]) (by simp [results, Tryd.results13, go_sem, x0, x1, x2, x3, x4, x5]) rfl ?_
    rw [← HX.out]
    have hn0 : w.heap.size + 1 < w1.heap.size := by omega
    exact ⟨_, _, rfl, (G1.out.far6 hn0 _ _ _ _ _ _).ps, (G2.out.far6 hn0 _ _ _ _ _ _).ps, below_put6 (n := w.heap.size + 1) B2.out (by omega) _ _ _ _ _ _⟩

end Go.Proofs.YtegpebnkogjadaaDoor.T

