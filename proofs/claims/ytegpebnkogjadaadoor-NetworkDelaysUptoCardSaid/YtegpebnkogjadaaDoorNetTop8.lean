/-
  DERIVED. The walk of network's Slower (written by gen_nettop8.py).
-/
import Derived.Test.YtegpebnkogjadaaDoorNetTop7
namespace Go.Proofs.YtegpebnkogjadaaDoor.T
open Go.RowKit
set_option maxRecDepth 20000

theorem hitF_yes {f g : Int} {a : ArcT} (h1 : a.fr = f) (h2 : a.to = g) : hitF f g a = true := by unfold hitF; rw [decide_eq_true h1, decide_eq_true h2]; rfl
theorem hitF_no {f g : Int} {a : ArcT} (h : ¬ (a.fr = f ∧ a.to = g)) : hitF f g a = false := by
  unfold hitF
  by_cases e1 : a.fr = f
  · rw [decide_eq_true e1, decide_eq_false (fun e2 => h ⟨e1, e2⟩)]; rfl
  · rw [decide_eq_false e1]; rfl

theorem Nb.lower {m n : Nat} {w w' : World} {vp va : Value} (h : Nb w n vp va) (hb : Below m w w') (hn : n < m) : Nb w' n vp va := (hb.block n hn).trans h
theorem Ss.far {w : World} {oa : Option Addr} {n c B m : Nat} {l : List ByteArray} (h : Ss w (.slice oa n c) l) (hb : ∀ ad, oa = some ad → B ≤ ad.block) (hm : m < B) (k : Nat) (y : Value) : Ss (w.setCell ⟨m, k, none⟩ y) (.slice oa n c) l := by
  obtain ⟨oa', c', hv, h⟩ := h
  simp only [Value.slice.injEq] at hv
  obtain ⟨rfl, rfl, rfl⟩ := hv
  refine ⟨oa, c, rfl, fun i hi => ?_⟩
  obtain ⟨a, ha, hl, hc⟩ := h i hi
  refine ⟨a, ha, by simpa [World.setCell] using hl, (World.cell?_setCell_other w _ _ _ (fun e => ?_)).trans hc⟩
  have h1 := hb a ha
  have h2 := congrArg Addr.block e
  rw [add_block] at h2
  simp only at h2
  omega

set_option maxHeartbeats 6400000 in
theorem slower_n (vp va : Value) (pl : List ByteArray) (l : List ArcT) (f g t d : Int) (hl : l.length ≤ 1000000) (hN : NetOk pl l) (w : World) (hp : Ss w vp pl) (ha : As w va l) :
    Calls Tryd.prog 21 #[.agg #[vp, va], .int .i64 f, .int .i64 g, .int .i64 t, .int .i64 d] w (SwP pl (l.map (updF f g t d)) (sloE pl.length l f g t d) w) := by
  have HP := Lib.hid hp
  have HA := Lib.hid ha
  have hp24 := hN.places
  have KC := Lib.hid (fun w h => cloneStrs_n vp pl (by omega) w h)
  obtain ⟨op, cp, rfl, -⟩ := hp
  obtain ⟨oa, c, rfl, -⟩ := ha
  have K1 := Lib.hid (fun w => netPlace_n op pl.length cp (.slice oa l.length c) f w)
  have K2 := Lib.hid (fun w => netPlace_n op pl.length cp (.slice oa l.length c) g w)
  have KT := Lib.hid (fun w => netTick_n t w)
  have KD := Lib.hid (fun w => netTick_n d w)
  obtain ⟨W0, hW0⟩ : ∃ W0, (w.alloc (.cells #[.slice op pl.length cp, .slice oa l.length c] 25)).alloc (.cells #[.slice none 0 0, .slice none 0 0] 25) = W0 := ⟨_, rfl⟩
  have N0 := Lib.hid ((Nb.made w (.slice op pl.length cp) (.slice oa l.length c)).below (below_alloc _ (.cells #[.slice none 0 0, .slice none 0 0] 25)))
  have R0 := Nb.made (w.alloc (.cells #[.slice op pl.length cp, .slice oa l.length c] 25)) (.slice none 0 0) (.slice none 0 0)
  rw [show (w.alloc (.cells #[.slice op pl.length cp, .slice oa l.length c] 25)).heap.size = w.heap.size + 1 by simp] at R0
  have R0 := Lib.hid R0
  have B0 := Lib.hid (over (below_alloc w (.cells #[.slice op pl.length cp, .slice oa l.length c] 25)) (below_alloc _ (.cells #[.slice none 0 0, .slice none 0 0] 25)))
  have hs0 : W0.heap.size = w.heap.size + 2 := by rw [← hW0]; simp
  rw [hW0] at N0 R0 B0
  have g0 := N0.out.c0
  have g1 := N0.out.c1
  cases h1 : inB pl.length f
  · have HX : Hid ((11 : Int) = sloE pl.length l f g t d ∧ (11 : Int) ≠ 0) := ⟨by unfold sloE; rw [h1]; rfl, by decide⟩
    rw [h1] at K1
    generalize sloE pl.length l f g t d = r at *
    clear h1 hN
    go_enter Tryd.func21, Tryd.ntmps21
    go_wp2_with fail
    refine (K1.out _).mono ?_
    rintro e w1 ⟨rfl, b1⟩
    have B1 := over B0.out b1
    have R1 := R0.out.below b1
    clear hW0 g0 g1
    have q0 := R1.c0
    have q1 := R1.c1
    have z0 := R1.f 0
    have z1 := R1.f 1
    go_wp2_with fail
    clear q0 q1 z0 z1
    have HF := R1.put (.slice none 0 0) (.slice none 0 0)
    have x0 := HF.c0
    have x1 := HF.c1
    refine bodyPost_ret (v := .tuple #[.agg #[.slice none 0 0, .slice none 0 0], .int .i64 11]) (by simp [results, Tryd.results21, go_sem, x0, x1]) rfl ?_
    exact swP_bad HX.out (below_put2 (n := w.heap.size + 1) B1 (by omega) _ _)
  cases h2 : inB pl.length g
  · have HX : Hid ((11 : Int) = sloE pl.length l f g t d ∧ (11 : Int) ≠ 0) := ⟨by unfold sloE; rw [h1, h2]; rfl, by decide⟩
    rw [h1] at K1
    rw [h2] at K2
    generalize sloE pl.length l f g t d = r at *
    clear h1 h2 hN
    go_enter Tryd.func21, Tryd.ntmps21
    go_wp2_with fail
    refine (K1.out _).mono ?_
    rintro e w1 ⟨rfl, b1⟩
    have e0 := (N0.out.below b1).c0
    have e1 := (N0.out.below b1).c1
    clear hW0 g0 g1
    go_wp2_with fail
    refine (K2.out _).mono ?_
    rintro e w2 ⟨rfl, b2⟩
    have B2 := over B0.out (over b1 b2)
    have R2 := R0.out.below (over b1 b2)
    clear e0 e1 b1 b2
    have q0 := R2.c0
    have q1 := R2.c1
    have z0 := R2.f 0
    have z1 := R2.f 1
    go_wp2_with fail
    clear q0 q1 z0 z1
    have HF := R2.put (.slice none 0 0) (.slice none 0 0)
    have x0 := HF.c0
    have x1 := HF.c1
    refine bodyPost_ret (v := .tuple #[.agg #[.slice none 0 0, .slice none 0 0], .int .i64 11]) (by simp [results, Tryd.results21, go_sem, x0, x1]) rfl ?_
    exact swP_bad HX.out (below_put2 (n := w.heap.size + 1) B2 (by omega) _ _)
  rw [h1] at K1
  rw [h2] at K2
  cases h3 : tickB t
  · have HX : Hid ((2 : Int) = sloE pl.length l f g t d ∧ (2 : Int) ≠ 0) := ⟨by unfold sloE; rw [h1, h2, h3]; rfl, by decide⟩
    rw [h3] at KT
    generalize sloE pl.length l f g t d = r at *
    clear h1 h2 h3 hN
    go_enter Tryd.func21, Tryd.ntmps21
    go_wp2_with fail
    refine (K1.out _).mono ?_
    rintro e w1 ⟨rfl, b1⟩
    have e0 := (N0.out.below b1).c0
    have e1 := (N0.out.below b1).c1
    clear hW0 g0 g1
    go_wp2_with fail
    refine (K2.out _).mono ?_
    rintro e w2 ⟨rfl, b2⟩
    have B2 := over B0.out (over b1 b2)
    have R2 := R0.out.below (over b1 b2)
    clear e0 e1 b1 b2
    go_wp2_with fail
    refine (KT.out _).mono ?_
    rintro e w3 ⟨rfl, rfl⟩
    have q0 := R2.c0
    have q1 := R2.c1
    have z0 := R2.f 0
    have z1 := R2.f 1
    go_wp2_with fail
    clear q0 q1 z0 z1
    have HF := R2.put (.slice none 0 0) (.slice none 0 0)
    have x0 := HF.c0
    have x1 := HF.c1
    refine bodyPost_ret (v := .tuple #[.agg #[.slice none 0 0, .slice none 0 0], .int .i64 2]) (by simp [results, Tryd.results21, go_sem, x0, x1]) rfl ?_
    exact swP_bad HX.out (below_put2 (n := w.heap.size + 1) B2 (by omega) _ _)
  cases h4 : tickB d
  · have HX : Hid ((2 : Int) = sloE pl.length l f g t d ∧ (2 : Int) ≠ 0) := ⟨by unfold sloE; rw [h1, h2, h3, h4]; rfl, by decide⟩
    rw [h3] at KT
    rw [h4] at KD
    generalize sloE pl.length l f g t d = r at *
    clear h1 h2 h3 h4 hN
    go_enter Tryd.func21, Tryd.ntmps21
    go_wp2_with fail
    refine (K1.out _).mono ?_
    rintro e w1 ⟨rfl, b1⟩
    have e0 := (N0.out.below b1).c0
    have e1 := (N0.out.below b1).c1
    clear hW0 g0 g1
    go_wp2_with fail
    refine (K2.out _).mono ?_
    rintro e w2 ⟨rfl, b2⟩
    have B2 := over B0.out (over b1 b2)
    have R2 := R0.out.below (over b1 b2)
    clear e0 e1 b1 b2
    go_wp2_with fail
    refine (KT.out _).mono ?_
    rintro e w3 ⟨rfl, rfl⟩
    go_wp2_with fail
    refine (KD.out _).mono ?_
    rintro e w4 ⟨rfl, rfl⟩
    have q0 := R2.c0
    have q1 := R2.c1
    have z0 := R2.f 0
    have z1 := R2.f 1
    go_wp2_with fail
    clear q0 q1 z0 z1
    have HF := R2.put (.slice none 0 0) (.slice none 0 0)
    have x0 := HF.c0
    have x1 := HF.c1
    refine bodyPost_ret (v := .tuple #[.agg #[.slice none 0 0, .slice none 0 0], .int .i64 2]) (by simp [results, Tryd.results21, go_sem, x0, x1]) rfl ?_
    exact swP_bad HX.out (below_put2 (n := w.heap.size + 1) B2 (by omega) _ _)
  rw [h3] at KT
  rw [h4] at KD
  have htd := (tickB_iff d).1 h4
  have hSL : Hid (sloE pl.length l f g t d = if sErr f g t d l ≠ 0 then sErr f g t d l else if l.any (hitF f g) then 0 else 12) := by show _ = _; unfold sloE; rw [h1, h2, h3, h4]; rfl
  generalize sloE pl.length l f g t d = r at *
  clear h1 h2 h3 h4
  obtain ⟨i0, hi, hz0, hz1, hz2⟩ := infoA
  go_enter Tryd.func21, Tryd.ntmps21
  go_wp2_with fail
  refine (K1.out _).mono ?_
  rintro e w1 ⟨rfl, b1⟩
  have e0 := (N0.out.below b1).c0
  have e1 := (N0.out.below b1).c1
  clear hW0 g0 g1
  go_wp2_with fail
  refine (K2.out _).mono ?_
  rintro e w2 ⟨rfl, b2⟩
  have B2 := Lib.hid (over B0.out (over b1 b2))
  have R2 := Lib.hid (R0.out.below (over b1 b2))
  have N2 := Lib.hid (N0.out.below (over b1 b2))
  have hs2 : w.heap.size + 2 ≤ w2.heap.size := by have := (over b1 b2).size; omega
  clear e0 e1 b1 b2 K1 K2
  go_wp2_with fail
  refine (KT.out _).mono ?_
  rintro e w9 ⟨rfl, rfl⟩
  go_wp2_with fail
  refine (KD.out _).mono ?_
  rintro e w9 ⟨rfl, rfl⟩
  have g0 := N2.out.c0
  have g1 := N2.out.c1
  go_wp2_with fail
  clear g0 g1
  refine (KC.out _ (HP.out.below B2.out)).mono ?_
  rintro e w3 ⟨oc, cc, rfl, hSs, hSb, b3⟩
  have B3 := Lib.hid (over B2.out b3)
  have R3 := Lib.hid (R2.out.below b3)
  have N3 := Lib.hid (N2.out.below b3)
  have HSs := Lib.hid hSs
  have HSb := Lib.hid hSb
  have hs3 : w.heap.size + 2 ≤ w3.heap.size := by have := b3.size; omega
  clear b3 hSs hSb B2 R2 N2 N0 R0 B0 KC KT KD hs0
  obtain ⟨W4, hW4⟩ : ∃ W4, w3.alloc (.cells #[.slice oc pl.length cc, .slice none 0 0] 25) = W4 := ⟨_, rfl⟩
  have O4 := Nb.made w3 (.slice oc pl.length cc) (.slice none 0 0)
  have b4 := below_alloc w3 (.cells #[.slice oc pl.length cc, .slice none 0 0] 25)
  rw [hW4] at O4 b4
  have O4 := Lib.hid O4
  have B4 := Lib.hid b4
  clear b4
  have o0 := O4.out.c0
  have o1 := O4.out.c1
  have z0 := O4.out.f 0
  have z1 := O4.out.f 1
  have g0 := (N3.out.below B4.out).c0
  have g1 := (N3.out.below B4.out).c1
  go_wp2_with fail
  clear hW4 z0 z1
  go_loopg [13, 44] l.length (fun gg fd j wx => ∃ (k : Nat) (v : Value) (xs : List ArcV), k ≤ l.length ∧ j = .int .i64 k ∧ l.length - k ≤ gg ∧ fd = .bool ((l.take k).any (hitF f g)) ∧ Hid (Nb wx w3.heap.size (.slice oc pl.length cc) v) ∧ Hid (Ga (w3.heap.size + 1) wx v xs) ∧ Hid (Ea wx xs) ∧ Hid (Be xs v.ownBlock) ∧ Hid (Be xs (some w3.heap.size)) ∧ Hid (Be xs (some (w.heap.size + 1))) ∧ Hid (xs.map (·.1) = (l.take k).map (updF f g t d)) ∧ Hid (sErr f g t d (l.drop k) = sErr f g t d l) ∧ Hid (Below w3.heap.size w3 wx))
  case atStart => exact ⟨0, _, [], Nat.zero_le _, rfl, Nat.le_refl _, rfl, O4.out.put1 _, Ga.nil _ _, Ea.nil _, fun x hx => (by cases hx), fun x hx => (by cases hx), fun x hx => (by cases hx), rfl, rfl, B4.out.setCell (Nat.le_refl _) _⟩
  case round =>
    clear g0 g1 o0 o1 O4 B4
    obtain ⟨k, v, xs, hk, rfl, hg, rfl, HO, HG, HE, HBE, HBQ, HBR, HXM, HSE, HB⟩ := hrel
    by_cases hkl : k < l.length
    · obtain ⟨oa', c', hva', hA⟩ := id HA.out
      simp only [Value.slice.injEq] at hva'
      obtain ⟨rfl, -, rfl⟩ := hva'
      obtain ⟨b, o, vt, vs, hoa, hab, hac, hpt, hps⟩ := hA k hkl
      subst hoa
      obtain ⟨ot, ct, hvt, -⟩ := id hpt
      obtain ⟨os, cs, hvs, -⟩ := id hps
      subst hvt
      subst hvs
      have hbw := over B3.out HB.out
      have hlen16 := hN.tr_le hkl
      have K5 := Lib.hid (fun vt vs w ht hs => copyOf_n (l.getD k arc0) vt vs (by omega) (by omega) w ht hs)
      have hok := hN.arcs k hkl
      have HTK := Lib.hid (any_take (p := hitF f g) (d := arc0) hkl)
      have HSS := Lib.hid (sErr_step f g t d hkl)
      clear hA
      obtain ⟨a, hak⟩ : ∃ a, l.getD k arc0 = a := ⟨_, rfl⟩
      have HAK := Lib.hid hak
      rw [hak] at hac hpt hps hok HTK HSS hlen16 K5
      clear hak
      obtain ⟨fr, dt, prof, miles, tr, sl⟩ := a
      simp only at hac hpt hps hlen16 K5
      have hac := hac.below hab hbw
      obtain ⟨d0, d1, d2, d3, d4, d5⟩ := hac
      obtain ⟨W5, hW5⟩ : ∃ W5, wr.alloc (.cells #[.int .i64 fr, .int .i64 dt, .int .i64 prof, .int .i64 miles, .slice ot tr.length ct, .slice os sl.length cs] 36) = W5 := ⟨_, rfl⟩
      obtain ⟨qa, hqa⟩ : ∃ qa, wr.heap.size = qa := ⟨_, rfl⟩
      have A5 := Ab.made wr (.int .i64 fr) (.int .i64 dt) (.int .i64 prof) (.int .i64 miles) (.slice ot tr.length ct) (.slice os sl.length cs)
      have b5 := below_alloc wr (.cells #[.int .i64 fr, .int .i64 dt, .int .i64 prof, .int .i64 miles, .slice ot tr.length ct, .slice os sl.length cs] 36)
      have hs5 : W5.heap.size = qa + 1 := by rw [← hW5, ← hqa]; simp
      rw [hW5] at A5 b5
      rw [hqa] at A5 b5
      have PT5 := Lib.hid (hpt.below (hbw.trans (b5.mono (by have := hbw.size; omega))))
      have PS5 := Lib.hid (hps.below (hbw.trans (b5.mono (by have := hbw.size; omega))))
      have hkI : (k : Int) < (l.length : Int) := by omega
      have hk0 : (0 : Int) ≤ (k : Int) := by omega
      have hwr := HO.out.lt
      have c0 := A5.c0
      have c1 := A5.c1
      have c2 := A5.c2
      have c3 := A5.c3
      have c4 := A5.c4
      have c5 := A5.c5
      have HA5 := Lib.hid A5
      have HB5 := Lib.hid b5
      clear hpt hps A5 b5
      go_wp2_with fail
      clear hW5 c0 c1 c2 c3 c4 c5 d0 d1 d2 d3 d4 d5
      refine (K5.out _ _ _ PT5.out PS5.out).mono ?_
      rintro e w6 ⟨ot2, ct2, os2, cs2, rfl, hG1, hG2, hNE, b6⟩
      have A6 := HA5.out.below b6
      have hs6 : W5.heap.size ≤ w6.heap.size := b6.size
      have AX := A6.put (.int .i64 fr) (.int .i64 dt) (.int .i64 prof) (.int .i64 miles) (.slice ot2 tr.length ct2) (.slice os2 sl.length cs2)
      have GX1 := hG1.far6 (n := qa) (by omega) (.int .i64 fr) (.int .i64 dt) (.int .i64 prof) (.int .i64 miles) (.slice ot2 tr.length ct2) (.slice os2 sl.length cs2)
      have GX2 := hG2.far6 (n := qa) (by omega) (.int .i64 fr) (.int .i64 dt) (.int .i64 prof) (.int .i64 miles) (.slice ot2 tr.length ct2) (.slice os2 sl.length cs2)
      have bX : Below qa wr ((((((w6.setCell ⟨qa, 0, none⟩ (.int .i64 fr)).setCell ⟨qa, 1, none⟩ (.int .i64 dt)).setCell ⟨qa, 2, none⟩ (.int .i64 prof)).setCell ⟨qa, 3, none⟩ (.int .i64 miles)).setCell ⟨qa, 4, none⟩ (.slice ot2 tr.length ct2)).setCell ⟨qa, 5, none⟩ (.slice os2 sl.length cs2)) := below_put6 (HB5.out.trans (b6.mono (by omega))) (Nat.le_refl _) _ _ _ _ _ _
      have q0 := A6.f 0
      have q1 := A6.f 1
      have q2 := A6.f 2
      have q3 := A6.f 3
      have q4 := A6.f 4
      have q5 := A6.f 5
      have c0 := A6.c0
      have c1 := A6.c1
      have c2 := A6.c2
      have c3 := A6.c3
      have c4 := A6.c4
      have c5 := A6.c5
      obtain ⟨WX, hWX⟩ : ∃ WX, (((((w6.setCell ⟨qa, 0, none⟩ (.int .i64 fr)).setCell ⟨qa, 1, none⟩ (.int .i64 dt)).setCell ⟨qa, 2, none⟩ (.int .i64 prof)).setCell ⟨qa, 3, none⟩ (.int .i64 miles)).setCell ⟨qa, 4, none⟩ (.slice ot2 tr.length ct2)).setCell ⟨qa, 5, none⟩ (.slice os2 sl.length cs2) = WX := ⟨_, rfl⟩
      have hsX : W5.heap.size ≤ WX.heap.size := by rw [← hWX]; simpa [World.setCell] using hs6
      rw [hWX] at AX GX1 GX2 bX
      rw [hs5] at GX1 GX2
      have AX := Lib.hid AX
      have GX1 := Lib.hid GX1
      have GX2 := Lib.hid GX2
      have bX := Lib.hid bX
      have HNE := Lib.hid hNE
      have e0 := AX.out.c0
      have e1 := AX.out.c1
      clear b6 A6 hG1 hG2 hNE K5 PT5 PS5 HA5 HB5
      go_upto_region 11 with fail
      clear hWX q0 q1 q2 q3 q4 q5 c0 c1 c2 c3 c4 c5
      go_cut [59] (fun v wx => v = .bool (hitF f g ⟨fr, dt, prof, miles, tr, sl⟩) ∧ WX = wx)
      case first =>
        by_cases h1 : fr = f
        · by_cases h2 : dt = g
          · have HH : Hid (true = hitF f g ⟨fr, dt, prof, miles, tr, sl⟩) := (hitF_yes h1 h2).symm
            subst h1
            subst h2
            go_wp2_with fail
            go_meet
            case rel => exact ⟨by rw [← HH.out], rfl⟩
          · have HH : Hid (false = hitF f g ⟨fr, dt, prof, miles, tr, sl⟩) := (hitF_no (fun h => h2 h.2)).symm
            have h3 := ne_eqI h2
            subst h1
            clear h2
            go_wp2_with fail
            go_meet
            case rel => exact ⟨by rw [← HH.out], rfl⟩
        · have HH : Hid (false = hitF f g ⟨fr, dt, prof, miles, tr, sl⟩) := (hitF_no (fun h => h1 h.1)).symm
          have h3 := ne_eqI h1
          clear h1
          go_wp2_with fail
          go_meet
          case rel => exact ⟨by rw [← HH.out], rfl⟩
      obtain ⟨rfl, rfl⟩ := hcut
      clear e0 e1
      have HUP : Hid (updF f g t d ⟨fr, dt, prof, miles, tr, sl⟩ = if hitF f g ⟨fr, dt, prof, miles, tr, sl⟩ then ⟨fr, dt, prof, miles, tr, (dlE sl t d).1⟩ else ⟨fr, dt, prof, miles, tr, sl⟩) := rfl
      have KE := Lib.hid (fun hb => delay_n qa (.int .i64 fr) (.int .i64 dt) (.int .i64 prof) (.int .i64 miles) (.slice ot2 tr.length ct2) os2 cs2 sl t d (qa + 1) (by have := hlen16.2; omega) (fun kk hkk => (slowB_tick (hok.slow kk hkk)).2) htd.1 htd.2 WX AX.out GX2.out (Nat.lt_succ_self _) hb)
      generalize hhb : hitF f g ⟨fr, dt, prof, miles, tr, sl⟩ = hb at *
      clear hhb
      go_upto_if 59 with fail
      go_cut [13] (fun fd wx => fd = .bool ((l.take k).any (hitF f g) || hb) ∧ ∃ (os3 : Option Addr) (cs3 : Nat) (sl3 : List (Int × Int)), Hid (updF f g t d ⟨fr, dt, prof, miles, tr, sl⟩ = ⟨fr, dt, prof, miles, tr, sl3⟩) ∧ Hid (sErr f g t d (l.drop (k + 1)) = sErr f g t d l) ∧ Hid (Ab wx qa (.int .i64 fr) (.int .i64 dt) (.int .i64 prof) (.int .i64 miles) (.slice ot2 tr.length ct2) (.slice os3 sl3.length cs3)) ∧ Hid (Gq (qa + 1) wx (.slice ot2 tr.length ct2) tr) ∧ Hid (Gq (qa + 1) wx (.slice os3 sl3.length cs3) sl3) ∧ Hid (Below qa wr wx) ∧ qa + 1 ≤ wx.heap.size)
      case first =>
        cases hb
        · have HSE2 : Hid (sErr f g t d (l.drop (k + 1)) = sErr f g t d l) := by show _ = _; rw [← HSE.out, HSS.out, if_neg (by simp)]
          go_wp2_with fail
          go_meet
          case rel => exact ⟨by rw [Bool.or_false], os2, cs2, sl, HUP, HSE2, AX, GX1, GX2, bX, by omega⟩
        · go_wp2_with fail
          refine (KE.out (by omega)).mono ?_
          rintro e w7 ⟨os7, cs7, rfl, hok7, b7, hs7, hfr7⟩
          have HUP2 : Hid (updF f g t d ⟨fr, dt, prof, miles, tr, sl⟩ = ⟨fr, dt, prof, miles, tr, (dlE sl t d).1⟩) := HUP
          have HSX : Hid (sErr f g t d (l.drop k) = if (dlE sl t d).2 ≠ 0 then (dlE sl t d).2 else sErr f g t d (l.drop (k + 1))) := by show _ = _; rw [HSS.out]; simp
          have bX7 := bX.out.trans b7
          clear HUP HSS
          generalize (dlE sl t d).1 = sl' at *
          generalize (dlE sl t d).2 = er at *
          by_cases her : er = 0
          · subst her
            have HSE2 : Hid (sErr f g t d (l.drop (k + 1)) = sErr f g t d l) := by show _ = _; rw [← HSE.out, HSX.out, if_neg (by simp)]
            obtain ⟨A7, G7⟩ := hok7 rfl
            have G71 : Gq (qa + 1) w7 (.slice ot2 tr.length ct2) tr := by
              refine ⟨GX1.out.1, ?_⟩
              rcases GX1.out.2 with hn | ⟨gq, cap, cur, e, hbg, hgg, rest⟩
              · exact .inl hn
              · refine .inr ⟨gq, cap, cur, e, hbg, ?_, rest⟩
                rw [hfr7 gq (Array.getElem?_eq_some_iff.1 hgg).1 (by omega) (fun h => by
                  simp only [Value.slice.injEq] at e
                  obtain ⟨e, -, -⟩ := e
                  rcases GX2.out.2 with ⟨hn, -⟩ | ⟨gq', cap', cur', e', -⟩
                  · rw [hn] at h; cases h
                  · have h2 : gq = gq' := by
                      rw [e'] at h; simp only [Value.ownBlock] at h; injection h
                    simp only [Value.slice.injEq] at e'
                    obtain ⟨e', -, -⟩ := e'
                    exact HNE.out gq e (by rw [h2]; exact e'))]
                exact hgg
            have HA7 := Lib.hid A7
            have HG7 := Lib.hid G7
            have HG71 := Lib.hid G71
            have HB7 := Lib.hid bX7
            clear A7 G7 G71 bX7 hok7 b7 hfr7
            go_wp2_with fail
            go_meet
            case rel => exact ⟨by rw [Bool.or_true], os7, cs7, sl', HUP2, HSE2, HA7, HG71, HG7, HB7, by omega⟩
          · have HX : Hid (er = r ∧ er ≠ 0) := ⟨by rw [hSL.out, ← HSE.out, HSX.out, if_pos her, if_pos her], her⟩
            have hne := ne_neI her
            have b37 : Below w3.heap.size w3 w7 := HB.out.trans (bX7.mono (by omega))
            have RX := R3.out.below b37
            have BX := over B3.out b37
            clear her hok7 b7 hfr7 bX7 b37
            have q0 := RX.c0
            have q1 := RX.c1
            have z0 := RX.f 0
            have z1 := RX.f 1
            go_wp2_with fail
            clear q0 q1 z0 z1
            have HF := RX.put (.slice none 0 0) (.slice none 0 0)
            have x0 := HF.c0
            have x1 := HF.c1
            refine bodyPost_ret (v := .tuple #[.agg #[.slice none 0 0, .slice none 0 0], .int .i64 er]) (by simp [results, Tryd.results21, go_sem, x0, x1]) rfl ?_
            exact swP_bad HX.out (below_put2 (n := w.heap.size + 1) BX (by omega) _ _)
      obtain ⟨rfl, os3, cs3, sl3, HUP3, HSE3, AX3, GT3, GS3, BX3, hsz3⟩ := hcut
      have HTK3 : Hid ((l.take (k + 1)).any (hitF f g) = ((l.take k).any (hitF f g) || hb)) := HTK.out
      clear HTK HUP KE HSS HSE AX GX1 GX2 bX HNE
      have b3w := HB.out.trans (BX3.out.mono (by omega))
      have OX := HO.out.lower BX3.out (by omega)
      have GX := Lib.hid (HG.out.frame (hqa ▸ BX3.out))
      have EX := Lib.hid (HE.out.below (hqa ▸ BX3.out))
      have PTX := GT3.out.ps
      have PUX := GS3.out.ps
      have hub := Gn.blk GS3.out
      have htb := Gn.blk GT3.out
      have hvb := Ga.blk GX.out
      have hvl := Ga.lt HG.out
      have BT1 : Bes (.slice ot2 tr.length ct2) v.ownBlock := by
        cases hvo : v.ownBlock with
        | none => exact Bes.none _
        | some kb => exact bes_own htb (by have := hvl kb hvo; omega)
      have BU1 : Bes (.slice os3 sl3.length cs3) v.ownBlock := by
        cases hvo : v.ownBlock with
        | none => exact Bes.none _
        | some kb => exact bes_own hub (by have := hvl kb hvo; omega)
      have BT2 : Bes (.slice ot2 tr.length ct2) (some w3.heap.size) := bes_own htb (by omega)
      have BU2 : Bes (.slice os3 sl3.length cs3) (some w3.heap.size) := bes_own hub (by omega)
      have BT3 : Bes (.slice ot2 tr.length ct2) (some (w.heap.size + 1)) := bes_own htb (by omega)
      have BU3 : Bes (.slice os3 sl3.length cs3) (some (w.heap.size + 1)) := bes_own hub (by omega)
      have c0 := AX3.out.c0
      have c1 := AX3.out.c1
      have c2 := AX3.out.c2
      have c3 := AX3.out.c3
      have c4 := AX3.out.c4
      have c5 := AX3.out.c5
      have o0 := OX.c0
      have o1 := OX.c1
      have hxk := Lib.hid HXM.out
      have hxl : xs.length = k := by have := congrArg List.length HXM.out; rw [List.length_map, List.length_map, List.length_take] at this; omega
      go_wp2_with (at_builtin; refine wpList_append_own_at _ rfl _ _ 23 rfl (w3.heap.size + 1) 36 i0 (.agg #[.int .i64 0, .int .i64 0, .int .i64 0, .int .i64 0, .slice none 0 0, .slice none 0 0]) 6 80 Tryd.underlying23 hi hz0 hz1 hz2 rfl (by decide) _ _ _ rfl (World.ownsRow.alloc GX.out.own _) ⟨wc.heap.size, 0, none⟩ 1 1 [.int .i64 fr, .int .i64 dt, .int .i64 prof, .int .i64 miles, .slice ot2 tr.length ct2, .slice os3 sl3.length cs3] rfl rfl (six_new _ _ _ _ _ _ _ _) (six_cells _ _ _ _ _ _ _ _ _ _) (by unfold maxLen; omega) (by omega) (by simp <;> omega) ?_)
      intro v3 w10 hown hgrow _ hat
      have GA9 : Ga (w3.heap.size + 1) w10 v3 (xs ++ ([(⟨fr, dt, prof, miles, tr, sl3⟩, .slice ot2 tr.length ct2, .slice os3 sl3.length cs3)] : List ArcV)) := Ga.more _ (by rw [hxl]; exact hown)
      have bA := below_alloc wc (.cells #[.int .i64 fr, .int .i64 dt, .int .i64 prof, .int .i64 miles, .slice ot2 tr.length ct2, .slice os3 sl3.length cs3] 36)
      have EA9 : Ea w10 (xs ++ ([(⟨fr, dt, prof, miles, tr, sl3⟩, .slice ot2 tr.length ct2, .slice os3 sl3.length cs3)] : List ArcV)) := Ea.more ((EX.out.below bA).grown hgrow HBE.out) (Ps.grown (PTX.below bA) hgrow BT1) (Ps.grown (PUX.below bA) hgrow BU1)
      have BQ9 : Be (xs ++ ([(⟨fr, dt, prof, miles, tr, sl3⟩, .slice ot2 tr.length ct2, .slice os3 sl3.length cs3)] : List ArcV)) (some w3.heap.size) := Be.more HBQ.out BT2 BU2
      have BR9 : Be (xs ++ ([(⟨fr, dt, prof, miles, tr, sl3⟩, .slice ot2 tr.length ct2, .slice os3 sl3.length cs3)] : List ArcV)) (some (w.heap.size + 1)) := Be.more HBR.out BT3 BU3
      have BE9 : Be (xs ++ ([(⟨fr, dt, prof, miles, tr, sl3⟩, .slice ot2 tr.length ct2, .slice os3 sl3.length cs3)] : List ArcV)) v3.ownBlock := by
        rcases hat with h | h
        · rw [h]; exact Be.more HBE.out BT1 BU1
        · rw [h]
          refine Be.more (fun y hy => ⟨Bes.fresh (EX.out y hy).1 (by simp), Bes.fresh (EX.out y hy).2 (by simp)⟩) (Bes.fresh PTX (by simp)) (Bes.fresh PUX (by simp))
      have O9 : Nb w10 w3.heap.size (.slice oc pl.length cc) v := (hgrow.block w3.heap.size (by have := OX.lt; simp; omega) (fun h => by have := hvb _ h.symm; omega)).trans (OX.below bA)
      have HB9 : Below w3.heap.size w3 w10 := (b3w.trans (bA.mono (by have := b3w.size; omega))).grown hgrow (by have := b3w.size; simp; omega) (fun kk hk => by have := hvb kk hk; omega)
      have hv3b := Ga.blk GA9
      obtain ⟨ov, cv, hv3⟩ := Ga.form GA9
      obtain ⟨N9, hN9⟩ : ∃ N9, (xs ++ ([(⟨fr, dt, prof, miles, tr, sl3⟩, .slice ot2 tr.length ct2, .slice os3 sl3.length cs3)] : List ArcV)).length = N9 := ⟨_, rfl⟩
      rw [hN9] at hv3
      clear hN9
      subst hv3
      have p0 := O9.c0
      have p1 := O9.c1
      have p2 := O9.f 1
      have O10 := Lib.hid (O9.put1 (.slice ov N9 cv))
      have hgs := grown_set w10 w3.heap.size 1 (.slice ov N9 cv)
      have GA10 := Lib.hid (Ga.of_block GA9 (fun gg hg => hgs.block gg (Ga.lt GA9 gg hg) (fun e => by have := hv3b gg hg; simp at e; omega)))
      have EA10 := Lib.hid (EA9.grown hgs BQ9)
      have BE10 := Lib.hid BE9
      have BQ10 := Lib.hid BQ9
      have BR10 := Lib.hid BR9
      have HB10 := Lib.hid (HB9.setCell (p := ⟨w3.heap.size, 1, none⟩) (Nat.le_refl _) (.slice ov N9 cv))
      have HXM2 : Hid ((xs ++ ([(⟨fr, dt, prof, miles, tr, sl3⟩, .slice ot2 tr.length ct2, .slice os3 sl3.length cs3)] : List ArcV)).map (·.1) = (l.take (k + 1)).map (updF f g t d)) := by
        show _ = _
        rw [List.map_append, hxk.out, take_more (d := arc0) hkl, List.map_append, HAK.out]
        simp only [List.map_cons, List.map_nil]
        rw [HUP3.out]
      clear hown hgrow hat GA9 EA9 BQ9 BR9 BE9 O9 HB9 hgs
      go_wp2_with fail
      go_roundg (l.length - (k + 1))
      case measure => omega
      case rel => exact ⟨k + 1, _, _, by omega, by go_num, by omega, by rw [HTK3.out], O10, GA10, EA10, BE10, BQ10, BR10, HXM2, HSE3, HB10⟩
    · have hk' : k = l.length := by omega
      have htk : l.take k = l := List.take_of_length_le (by omega)
      have hz : sErr f g t d l = 0 := by rw [← HSE.out, List.drop_of_length_le (by omega)]; rfl
      have RX := R3.out.below HB.out
      have BX := over B3.out HB.out
      rw [htk] at HXM
      cases hany : l.any (hitF f g)
      · have HX : Hid ((12 : Int) = r ∧ (12 : Int) ≠ 0) := ⟨by rw [hSL.out, if_neg (by rw [hz]; simp), hany]; rfl, by decide⟩
        rw [show (l.take k).any (hitF f g) = false by rw [htk, hany]]
        clear hany
        have q0 := RX.c0
        have q1 := RX.c1
        have z0 := RX.f 0
        have z1 := RX.f 1
        go_wp2_with fail
        clear q0 q1 z0 z1
        have HF := RX.put (.slice none 0 0) (.slice none 0 0)
        have x0 := HF.c0
        have x1 := HF.c1
        refine bodyPost_ret (v := .tuple #[.agg #[.slice none 0 0, .slice none 0 0], .int .i64 12]) (by simp [results, Tryd.results21, go_sem, x0, x1]) rfl ?_
        exact swP_bad HX.out (below_put2 (n := w.heap.size + 1) BX (by omega) _ _)
      · have HX : Hid ((0 : Int) = r) := by show _ = _; rw [hSL.out, if_neg (by rw [hz]; simp), hany]; rfl
        rw [show (l.take k).any (hitF f g) = true by rw [htk, hany]]
        obtain ⟨ov, cv, hv⟩ := Ga.form HG.out
        subst hv
        have hvb := Ga.blk HG.out
        have o0 := HO.out.c0
        have o1 := HO.out.c1
        have q0 := RX.c0
        have q1 := RX.c1
        have z0 := RX.f 0
        have z1 := RX.f 1
        clear hany
        go_wp2_with fail
        clear q0 q1 z0 z1 o0 o1
        have HF := RX.put (.slice oc pl.length cc) (.slice ov xs.length cv)
        have x0 := HF.c0
        have x1 := HF.c1
        refine bodyPost_ret (v := .tuple #[.agg #[.slice oc pl.length cc, .slice ov xs.length cv], .int .i64 0]) (by simp [results, Tryd.results21, go_sem, x0, x1]) rfl ?_
        have BF := below_put2 (n := w.heap.size + 1) BX (by omega) (.slice oc pl.length cc) (.slice ov xs.length cv)
        have h1 := grown_set wr (w.heap.size + 1) 0 (.slice oc pl.length cc)
        have h2 := grown_set (wr.setCell ⟨w.heap.size + 1, 0, none⟩ (.slice oc pl.length cc)) (w.heap.size + 1) 1 (.slice ov xs.length cv)
        have hgl := Ga.lt HG.out
        have GF := Ga.of_block (Ga.of_block HG.out (fun gg hg => h1.block gg (hgl gg hg) (fun e => by have := hvb gg hg; simp at e; omega))) (fun gg hg => h2.block gg (by have := hgl gg hg; simp; omega) (fun e => by have := hvb gg hg; simp at e; omega))
        have EF := (HE.out.grown h1 HBR.out).grown h2 HBR.out
        have AF := Ga.as GF EF
        rw [HXM.out] at AF
        rw [← HX.out]
        exact ⟨_, _, rfl, fun _ => ⟨((HSs.out.below HB.out).far HSb.out (by omega) 0 _).far HSb.out (by omega) 1 _, AF⟩, fun h => absurd rfl h, BF⟩

end Go.Proofs.YtegpebnkogjadaaDoor.T

