/-
  DERIVED. The walk of network's Go.
-/
import Derived.Test.YtegpebnkogjadaaDoorNetTop4
namespace Go.Proofs.YtegpebnkogjadaaDoor.T
open Go.RowKit
set_option maxRecDepth 8000

set_option maxHeartbeats 3200000 in
theorem go_n (vp va : Value) (pl : List ByteArray) (l : List ArcT) (pr f t d : Int) (hl : l.length ≤ 1000000) (hN : NetOk pl l) (hd0 : 0 ≤ d) (hd1 : d ≤ 1073741824) (w : World) (hp : Ss w vp pl) (ha : As w va l) (hT : Tab w) :
    Calls Tryd.prog 15 #[.agg #[vp, va], .int .i64 pr, .int .i64 f, .int .i64 t, .int .i64 d] w (GoP (goV pl.length l pr f t d) w) := by
  obtain ⟨op, cp, rfl, -⟩ := hp
  obtain ⟨oa, ca, hva, -⟩ := id ha
  subst hva
  have HA := Lib.hid ha
  have HTB := Lib.hid hT
  have K1 := Lib.hid (fun w => netPlace_n op pl.length cp (.slice oa l.length ca) f w)
  have K2 := Lib.hid (fun w => netPlace_n op pl.length cp (.slice oa l.length ca) t w)
  have N0 := Lib.hid (Nb.made w (.slice op pl.length cp) (.slice oa l.length ca))
  clear hT
  cases h1 : inB pl.length f
  · have HR : Hid ((0, 0, 11) = goV pl.length l pr f t d) := by show _ = _; unfold goV; rw [h1]; rfl
    rw [h1] at K1
    generalize goV pl.length l pr f t d = r at *
    clear h1 ha hN
    go_enter Tryd.func15, Tryd.ntmps15
    go_wp2_with fail
    refine (K1.out _).mono ?_
    rintro e w1 ⟨rfl, b1⟩
    have B1 := Lib.hid (over (w := w) (by go_grown) b1)
    clear b1
    go_wp2_with fail
    go_ret3
    exact ⟨ret_three HR.out, B1.out⟩
  cases h2 : inB pl.length t
  · have HR : Hid ((0, 0, 11) = goV pl.length l pr f t d) := by show _ = _; unfold goV; rw [h1, h2]; rfl
    rw [h1] at K1
    rw [h2] at K2
    generalize goV pl.length l pr f t d = r at *
    clear h1 h2 ha hN
    go_enter Tryd.func15, Tryd.ntmps15
    go_wp2_with fail
    refine (K1.out _).mono ?_
    rintro e w1 ⟨rfl, b1⟩
    have B1 := Lib.hid (over (w := w) (by go_grown) b1)
    have N1 := Lib.hid (N0.out.below b1)
    have g0 := N1.out.c0
    have g1 := N1.out.c1
    clear b1
    go_wp2_with fail
    refine (K2.out _).mono ?_
    rintro e w2 ⟨rfl, b2⟩
    have B2 := Lib.hid (over B1.out b2)
    clear b2
    go_wp2_with fail
    go_ret3
    exact ⟨ret_three HR.out, B2.out⟩
  rw [h1] at K1
  rw [h2] at K2
  by_cases hft : f = t
  · have HR : Hid ((d, 0, 0) = goV pl.length l pr f t d) := by show _ = _; unfold goV; rw [h1, h2, if_pos hft]; rfl
    subst hft
    generalize goV pl.length l pr f f d = r at *
    clear h1 h2 ha hN
    go_enter Tryd.func15, Tryd.ntmps15
    go_wp2_with fail
    refine (K1.out _).mono ?_
    rintro e w1 ⟨rfl, b1⟩
    have B1 := Lib.hid (over (w := w) (by go_grown) b1)
    have N1 := Lib.hid (N0.out.below b1)
    have g0 := N1.out.c0
    have g1 := N1.out.c1
    clear b1
    go_wp2_with fail
    refine (K2.out _).mono ?_
    rintro e w2 ⟨rfl, b2⟩
    have B2 := Lib.hid (over B1.out b2)
    clear b2
    go_wp2_with fail
    go_ret3
    exact ⟨ret_three HR.out, B2.out⟩
  have K3 := Lib.hid (fun w ha => firstArc_n (.slice oa l.length ca) l pr f t (by omega) w ha)
  have hne := ne_eqI hft
  cases hF : ixA l 0 pr f t with
  | none =>
    have HR : Hid ((0, 0, 12) = goV pl.length l pr f t d) := by show _ = _; unfold goV; rw [h1, h2, if_neg hft, ix_none hF]; rfl
    rw [hF] at K3
    generalize goV pl.length l pr f t d = r at *
    clear h1 h2 ha hN hft hF
    unfold ixI at K3
    go_enter Tryd.func15, Tryd.ntmps15
    go_wp2_with fail
    refine (K1.out _).mono ?_
    rintro e w1 ⟨rfl, b1⟩
    have B1 := Lib.hid (over (w := w) (by go_grown) b1)
    have N1 := Lib.hid (N0.out.below b1)
    have g0 := N1.out.c0
    have g1 := N1.out.c1
    clear b1
    go_wp2_with fail
    refine (K2.out _).mono ?_
    rintro e w2 ⟨rfl, b2⟩
    have B2 := Lib.hid (over B1.out b2)
    have N2 := Lib.hid (N1.out.below b2)
    clear b2 g0 g1
    have g0 := N2.out.c0
    have g1 := N2.out.c1
    go_wp2_with fail
    refine (K3.out _ (HA.out.below B2.out)).mono ?_
    rintro e w3 ⟨rfl, b3⟩
    have B3 := Lib.hid (over B2.out b3)
    clear b3 g0 g1
    go_wp2_with fail
    go_ret3
    exact ⟨ret_three HR.out, B3.out⟩
  | some i =>
    obtain ⟨hin, hfa⟩ := ix_some hF
    have HR : Hid ((arrA (l.getD i arc0) d, (l.getD i arc0).miles, 0) = goV pl.length l pr f t d) := by show _ = _; unfold goV; rw [h1, h2, if_neg hft, hfa]; rfl
    rw [hF] at K3
    have hok := hN.arcs i hin
    have K4 := Lib.hid (fun vt vs w ht hs hT => arrival9_n pl.length (l.getD i arc0) vt vs d hok hd0 hd1 w ht hs hT)
    generalize goV pl.length l pr f t d = r at *
    clear h1 h2 ha hN hft hF hok hfa
    have K3' : Hid (∀ w, As w (.slice oa l.length ca) l → Calls Tryd.prog 32 #[.slice oa l.length ca, .agg #[.int .i64 pr, .int .i64 f, .int .i64 t]] w fun e w' => e = .returned (.int .i64 (i : Int)) ∧ Below w.heap.size w w') := K3
    clear K3
    generalize hn : l.length = n at *
    have hi0 : (0 : Int) ≤ (i : Int) := by omega
    have hiI : (i : Int) < (n : Int) := by omega
    go_enter Tryd.func15, Tryd.ntmps15
    go_wp2_with fail
    refine (K1.out _).mono ?_
    rintro e w1 ⟨rfl, b1⟩
    have B1 := Lib.hid (over (w := w) (by go_grown) b1)
    have N1 := Lib.hid (N0.out.below b1)
    have g0 := N1.out.c0
    have g1 := N1.out.c1
    clear b1
    go_wp2_with fail
    refine (K2.out _).mono ?_
    rintro e w2 ⟨rfl, b2⟩
    have B2 := Lib.hid (over B1.out b2)
    have N2 := Lib.hid (N1.out.below b2)
    clear b2 g0 g1
    have g0 := N2.out.c0
    have g1 := N2.out.c1
    go_wp2_with fail
    refine (K3'.out _ (HA.out.below B2.out)).mono ?_
    rintro e w3 ⟨rfl, b3⟩
    have B3 := Lib.hid (over B2.out b3)
    have N3 := Lib.hid (N2.out.below b3)
    clear b3 g0 g1
    have hA1 := HA.out.below B3.out
    obtain ⟨oa1, c1, hv1, hA1⟩ := hA1
    simp only [Value.slice.injEq] at hv1
    obtain ⟨rfl, -, rfl⟩ := hv1
    obtain ⟨b', o, vt, vs, rfl, hab, hac, hpt, hps⟩ := hA1 i (by omega)
    clear hA1
    obtain ⟨ot, ct, hvt, -⟩ := id hpt
    obtain ⟨os, cs, hvs, -⟩ := id hps
    subst hvt
    subst hvs
    have HT4 := Lib.hid (HTB.out.over B3.out)
    generalize l.getD i arc0 = a at *
    obtain ⟨fr, dt, prof, miles, tr, sl⟩ := a
    generalize arrA _ d = x at *
    simp only at hac hpt hps K4 HR
    have HAC := Lib.hid hac
    obtain ⟨d0, d1, d2, d3, d4, d5⟩ := hac
    have g1 := N3.out.c1
    have A4 : Hid (Ac w3.drew b' (o + i * 6) ⟨fr, dt, prof, miles, tr, sl⟩ (.slice ot tr.length ct) (.slice os sl.length cs)) := HAC.out
    have N4 : Hid (Nb w3.drew w.heap.size (.slice op pl.length cp) (.slice (some ⟨b', o, none⟩) n ca)) := N3.out
    have HT5 : Hid (Ps w3.drew (.slice ot tr.length ct) tr) := hpt
    have HS5 : Hid (Ps w3.drew (.slice os sl.length cs) sl) := hps
    have HTT : Hid (Tab w3.drew) := HT4.out.over (below_drew (Below.refl _ _))
    have B4 := Lib.hid (below_drew B3.out)
    have habd : b' < w3.drew.heap.size := hab
    clear hpt hps HAC HT4 B1 B2 B3 N1 N2 N3 N0 HA K1 K2 K3'
    go_wp2_with fail
    go_region_with (go_at_call 33; (with_reducible refine (K4.out _ _ _ HT5.out HS5.out HTT.out).mono ?_); rintro e w5 ⟨rfl, b5⟩; have m3 := (A4.out.below habd b5).2.2.2.1; have n1 := (N4.out.below b5).c1; have B5 := over B4.out b5)
    all_goals
      go_wp2_with fail
      go_ret3
      exact ⟨ret_three HR.out, B5⟩

end Go.Proofs.YtegpebnkogjadaaDoor.T

