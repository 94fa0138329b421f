/-
  DERIVED. The walk of the specification's Slower.
-/
import Derived.Test.YtegpebnkogjadaaDoorRefNet8
import Derived.Test.YtegpebnkogjadaaDoorNetOwn
namespace Go.Proofs.YtegpebnkogjadaaDoor.T
open Go.RowKit
set_option maxRecDepth 8000

theorem Nb.f {w : World} {n : Nat} {vp va : Value} (h : Nb w n vp va) (k : Nat) : w.frozen? ⟨n, k, none⟩ = false := by unfold Nb at h; simp [World.frozen?, h]
theorem Nb.put {w : World} {n : Nat} {vp va : Value} (h : Nb w n vp va) (y0 y1 : Value) : Nb ((w.setCell ⟨n, 0, none⟩ y0).setCell ⟨n, 1, none⟩ y1) n y0 y1 := by
  unfold Nb at *; simp [World.setCell, Array.getElem?_modify, h]
theorem Nb.put1 {w : World} {n : Nat} {vp va : Value} (h : Nb w n vp va) (y1 : Value) : Nb (w.setCell ⟨n, 1, none⟩ y1) n vp y1 := by
  unfold Nb at *; simp [World.setCell, Array.getElem?_modify, h]
theorem below_put2 {B : Nat} {a w : World} {n : Nat} (h : Below B a w) (hn : B ≤ n) (y0 y1 : Value) : Below B a ((w.setCell ⟨n, 0, none⟩ y0).setCell ⟨n, 1, none⟩ y1) := (h.setCell hn _).setCell hn _

theorem Ga.form {B : Nat} {w : World} {v : Value} {xs : List ArcV} (h : Ga B w v xs) : ∃ oa c, v = .slice oa xs.length c := by
  rcases h.2 with ⟨hv, h0⟩ | ⟨g, cap, cur, rfl, _⟩
  · exact ⟨none, 0, by rw [hv, h0]⟩
  · exact ⟨_, _, rfl⟩
theorem bes_own {u : Value} {B kb : Nat} (h : ∀ k, u.ownBlock = some k → B ≤ k) (hk : kb < B) : Bes u (some kb) := fun b o n c hu _ e => by
  subst hu
  have := h b rfl
  simp only [Option.some.injEq] at e
  omega
theorem grown_set (w : World) (b k : Nat) (v : Value) : w.grownBy (w.setCell ⟨b, k, none⟩ v) (some b) :=
  ⟨rfl, rfl, rfl, by simp, fun i _ hne => Below.heap_setCell w ⟨b, k, none⟩ v i (fun e => hne (by rw [e]))⟩
theorem any_take {α : Type} {l : List α} {p : α → Bool} {k : Nat} {d : α} (h : k < l.length) : (l.take (k + 1)).any p = ((l.take k).any p || p (l.getD k d)) := by
  rw [take_more (d := d) h, List.any_append]; simp
theorem Ab.put5 {w : World} {n : Nat} {x0 x1 x2 x3 x4 x5 : Value} (h : Ab w n x0 x1 x2 x3 x4 x5) (y : Value) : Ab (w.setCell ⟨n, 5, none⟩ y) n x0 x1 x2 x3 x4 y := by
  unfold Ab at *; simp [World.setCell, Array.getElem?_modify, h]

def hitF (f g : Int) (a : ArcT) : Bool := decide (a.fr = f) && decide (a.to = g)
def updF (f g t n : Int) (a : ArcT) : ArcT := if hitF f g a then ⟨a.fr, a.to, a.prof, a.miles, a.tr, (dlE a.sl t n).1⟩ else a
def sErr (f g t n : Int) : List ArcT → Int
  | [] => 0
  | a :: l => if hitF f g a ∧ (dlE a.sl t n).2 ≠ 0 then (dlE a.sl t n).2 else sErr f g t n l
theorem sErr_step (f g t n : Int) {l : List ArcT} {k : Nat} (h : k < l.length) : sErr f g t n (l.drop k) = if hitF f g (l.getD k arc0) ∧ (dlE (l.getD k arc0).sl t n).2 ≠ 0 then (dlE (l.getD k arc0).sl t n).2 else sErr f g t n (l.drop (k + 1)) := by
  rw [drop_more (d := arc0) h]; rfl
def sloE (np : Nat) (l : List ArcT) (f g t n : Int) : Int :=
  if inB np f && inB np g then (if tickB t && tickB n then (if sErr f g t n l ≠ 0 then sErr f g t n l else if l.any (hitF f g) then 0 else 12) else 2) else 11
/-- a result: a network and an error -/
def SwP (pl : List ByteArray) (l : List ArcT) (x : Int) (w : World) (e : Ending) (w' : World) : Prop :=
  ∃ vp va, e = .returned (.tuple #[.agg #[vp, va], .int .i64 x]) ∧ (x = 0 → Ss w' vp pl ∧ As w' va l) ∧ (x ≠ 0 → vp = .slice none 0 0 ∧ va = .slice none 0 0) ∧ Below w.heap.size w w'
theorem swP_bad {pl : List ByteArray} {l : List ArcT} {x y : Int} {w w' : World} (hx : x = y ∧ x ≠ 0) (hb : Below w.heap.size w w') : SwP pl l y w (.returned (.tuple #[.agg #[.slice none 0 0, .slice none 0 0], .int .i64 x])) w' := by
  obtain ⟨rfl, h⟩ := hx
  exact ⟨_, _, rfl, fun h0 => absurd h0 h, fun _ => ⟨rfl, rfl⟩, hb⟩

set_option maxHeartbeats 3200000 in
theorem refSlower_n (vp va : Value) (pl : List ByteArray) (l : List ArcT) (f g t d : Int) (hl : l.length ≤ 1000000) (hN : NetOk pl l) (w : World) (hp : Ss w vp pl) (ha : As w va l) :
    Calls Tryd.prog 22 #[.agg #[vp, va], .int .i64 f, .int .i64 g, .int .i64 t, .int .i64 d] w (SwP pl (l.map (updF f g t d)) (sloE pl.length l f g t d) w) := by
  have HP := Lib.hid hp
  have HA := Lib.hid ha
  obtain ⟨op, cp, rfl, -⟩ := hp
  obtain ⟨oa, c, rfl, -⟩ := ha
  have K1 := Lib.hid (fun w => refPlace_n op pl.length cp (.slice oa l.length c) f w)
  have K2 := Lib.hid (fun w => refPlace_n op pl.length cp (.slice oa l.length c) g w)
  have KT := Lib.hid (fun w => refTick_n t w)
  have KD := Lib.hid (fun w => refTick_n d w)
  obtain ⟨W0, hW0⟩ : ∃ W0, (w.alloc (.cells #[.slice op pl.length cp, .slice oa l.length c] 25)).alloc (.cells #[.slice none 0 0, .slice none 0 0] 25) = W0 := ⟨_, rfl⟩
  have N0 := Lib.hid ((Nb.made w (.slice op pl.length cp) (.slice oa l.length c)).below (below_alloc _ (.cells #[.slice none 0 0, .slice none 0 0] 25)))
  have R0 := Nb.made (w.alloc (.cells #[.slice op pl.length cp, .slice oa l.length c] 25)) (.slice none 0 0) (.slice none 0 0)
  rw [show (w.alloc (.cells #[.slice op pl.length cp, .slice oa l.length c] 25)).heap.size = w.heap.size + 1 by simp] at R0
  have R0 := Lib.hid R0
  have B0 := Lib.hid (over (below_alloc w (.cells #[.slice op pl.length cp, .slice oa l.length c] 25)) (below_alloc _ (.cells #[.slice none 0 0, .slice none 0 0] 25)))
  have hs0 : W0.heap.size = w.heap.size + 2 := by rw [← hW0]; simp
  rw [hW0] at N0 R0 B0
  have g0 := N0.out.c0
  have g1 := N0.out.c1
  cases h1 : inB pl.length f
  · have HX : Hid ((11 : Int) = sloE pl.length l f g t d ∧ (11 : Int) ≠ 0) := ⟨by unfold sloE; rw [h1]; rfl, by decide⟩
    rw [h1] at K1
    generalize sloE pl.length l f g t d = r at *
    clear h1 hN
    go_enter Tryd.func22, Tryd.ntmps22
    go_wp2_with fail
    refine (K1.out _).mono ?_
    rintro e w1 ⟨rfl, b1⟩
    have B1 := over B0.out b1
    have R1 := R0.out.below b1
    clear hW0 g0 g1
    have q0 := R1.c0
    have q1 := R1.c1
    have z0 := R1.f 0
    have z1 := R1.f 1
    go_wp2_with fail
    clear q0 q1 z0 z1
    have HF := R1.put (.slice none 0 0) (.slice none 0 0)
    have x0 := HF.c0
    have x1 := HF.c1
    refine bodyPost_ret (v := .tuple #[.agg #[.slice none 0 0, .slice none 0 0], .int .i64 11]) (by simp [results, Tryd.results22, go_sem, x0, x1]) rfl ?_
    exact swP_bad HX.out (below_put2 (n := w.heap.size + 1) B1 (by omega) _ _)
  cases h2 : inB pl.length g
  · have HX : Hid ((11 : Int) = sloE pl.length l f g t d ∧ (11 : Int) ≠ 0) := ⟨by unfold sloE; rw [h1, h2]; rfl, by decide⟩
    rw [h1] at K1
    rw [h2] at K2
    generalize sloE pl.length l f g t d = r at *
    clear h1 h2 hN
    go_enter Tryd.func22, Tryd.ntmps22
    go_wp2_with fail
    refine (K1.out _).mono ?_
    rintro e w1 ⟨rfl, b1⟩
    have e0 := (N0.out.below b1).c0
    have e1 := (N0.out.below b1).c1
    clear hW0 g0 g1
    go_wp2_with fail
    refine (K2.out _).mono ?_
    rintro e w2 ⟨rfl, b2⟩
    have B2 := over B0.out (over b1 b2)
    have R2 := R0.out.below (over b1 b2)
    clear e0 e1 b1 b2
    have q0 := R2.c0
    have q1 := R2.c1
    have z0 := R2.f 0
    have z1 := R2.f 1
    go_wp2_with fail
    clear q0 q1 z0 z1
    have HF := R2.put (.slice none 0 0) (.slice none 0 0)
    have x0 := HF.c0
    have x1 := HF.c1
    refine bodyPost_ret (v := .tuple #[.agg #[.slice none 0 0, .slice none 0 0], .int .i64 11]) (by simp [results, Tryd.results22, go_sem, x0, x1]) rfl ?_
    exact swP_bad HX.out (below_put2 (n := w.heap.size + 1) B2 (by omega) _ _)
  rw [h1] at K1
  rw [h2] at K2
  cases h3 : tickB t
  · have HX : Hid ((2 : Int) = sloE pl.length l f g t d ∧ (2 : Int) ≠ 0) := ⟨by unfold sloE; rw [h1, h2, h3]; rfl, by decide⟩
    rw [h3] at KT
    generalize sloE pl.length l f g t d = r at *
    clear h1 h2 h3 hN
    go_enter Tryd.func22, Tryd.ntmps22
    go_wp2_with fail
    refine (K1.out _).mono ?_
    rintro e w1 ⟨rfl, b1⟩
    have e0 := (N0.out.below b1).c0
    have e1 := (N0.out.below b1).c1
    clear hW0 g0 g1
    go_wp2_with fail
    refine (K2.out _).mono ?_
    rintro e w2 ⟨rfl, b2⟩
    have B2 := over B0.out (over b1 b2)
    have R2 := R0.out.below (over b1 b2)
    clear e0 e1 b1 b2
    go_wp2_with fail
    refine (KT.out _).mono ?_
    rintro e w3 ⟨rfl, rfl⟩
    have q0 := R2.c0
    have q1 := R2.c1
    have z0 := R2.f 0
    have z1 := R2.f 1
    go_wp2_with fail
    clear q0 q1 z0 z1
    have HF := R2.put (.slice none 0 0) (.slice none 0 0)
    have x0 := HF.c0
    have x1 := HF.c1
    refine bodyPost_ret (v := .tuple #[.agg #[.slice none 0 0, .slice none 0 0], .int .i64 2]) (by simp [results, Tryd.results22, go_sem, x0, x1]) rfl ?_
    exact swP_bad HX.out (below_put2 (n := w.heap.size + 1) B2 (by omega) _ _)
  cases h4 : tickB d
  · have HX : Hid ((2 : Int) = sloE pl.length l f g t d ∧ (2 : Int) ≠ 0) := ⟨by unfold sloE; rw [h1, h2, h3, h4]; rfl, by decide⟩
    rw [h3] at KT
    rw [h4] at KD
    generalize sloE pl.length l f g t d = r at *
    clear h1 h2 h3 h4 hN
    go_enter Tryd.func22, Tryd.ntmps22
    go_wp2_with fail
    refine (K1.out _).mono ?_
    rintro e w1 ⟨rfl, b1⟩
    have e0 := (N0.out.below b1).c0
    have e1 := (N0.out.below b1).c1
    clear hW0 g0 g1
    go_wp2_with fail
    refine (K2.out _).mono ?_
    rintro e w2 ⟨rfl, b2⟩
    have B2 := over B0.out (over b1 b2)
    have R2 := R0.out.below (over b1 b2)
    clear e0 e1 b1 b2
    go_wp2_with fail
    refine (KT.out _).mono ?_
    rintro e w3 ⟨rfl, rfl⟩
    go_wp2_with fail
    refine (KD.out _).mono ?_
    rintro e w4 ⟨rfl, rfl⟩
    have q0 := R2.c0
    have q1 := R2.c1
    have z0 := R2.f 0
    have z1 := R2.f 1
    go_wp2_with fail
    clear q0 q1 z0 z1
    have HF := R2.put (.slice none 0 0) (.slice none 0 0)
    have x0 := HF.c0
    have x1 := HF.c1
    refine bodyPost_ret (v := .tuple #[.agg #[.slice none 0 0, .slice none 0 0], .int .i64 2]) (by simp [results, Tryd.results22, go_sem, x0, x1]) rfl ?_
    exact swP_bad HX.out (below_put2 (n := w.heap.size + 1) B2 (by omega) _ _)
  rw [h3] at KT
  rw [h4] at KD
  have htd := (tickB_iff d).1 h4
  have hSL : Hid (sloE pl.length l f g t d = if sErr f g t d l ≠ 0 then sErr f g t d l else if l.any (hitF f g) then 0 else 12) := by show _ = _; unfold sloE; rw [h1, h2, h3, h4]; rfl
  generalize sloE pl.length l f g t d = r at *
  clear h1 h2 h3 h4
  obtain ⟨i0, hi, hz0, hz1, hz2⟩ := infoA
  go_enter Tryd.func22, Tryd.ntmps22
  go_wp2_with fail
  refine (K1.out _).mono ?_
  rintro e w1 ⟨rfl, b1⟩
  have e0 := (N0.out.below b1).c0
  have e1 := (N0.out.below b1).c1
  clear hW0 g0 g1
  go_wp2_with fail
  refine (K2.out _).mono ?_
  rintro e w2 ⟨rfl, b2⟩
  have B2 := Lib.hid (over B0.out (over b1 b2))
  have R2 := Lib.hid (R0.out.below (over b1 b2))
  have N2 := Lib.hid (N0.out.below (over b1 b2))
  have hs2 : w.heap.size + 2 ≤ w2.heap.size := by have := (over b1 b2).size; omega
  clear e0 e1 b1 b2
  go_wp2_with fail
  refine (KT.out _).mono ?_
  rintro e w3 ⟨rfl, rfl⟩
  go_wp2_with fail
  refine (KD.out _).mono ?_
  rintro e w4 ⟨rfl, rfl⟩
  have g0 := N2.out.c0
  have g1 := N2.out.c1
  obtain ⟨W3, hW3⟩ : ∃ W3, w2.alloc (.cells #[.slice op pl.length cp, .slice none 0 0] 25) = W3 := ⟨_, rfl⟩
  have O3 := Nb.made w2 (.slice op pl.length cp) (.slice none 0 0)
  have b3 := below_alloc w2 (.cells #[.slice op pl.length cp, .slice none 0 0] 25)
  rw [hW3] at O3 b3
  have O3 := Lib.hid O3
  have B3 := Lib.hid b3
  clear b3
  have o0 := O3.out.c0
  have o1 := O3.out.c1
  have z0 := O3.out.f 0
  have z1 := O3.out.f 1
  have g0 := (N2.out.below B3.out).c0
  have g1 := (N2.out.below B3.out).c1
  go_wp2_with fail
  clear hW3 z0 z1
  go_loopg [13, 14] l.length (fun gg fd j wx => ∃ (k : Nat) (v : Value) (xs : List ArcV), k ≤ l.length ∧ j = .int .i64 k ∧ l.length - k ≤ gg ∧ fd = .bool ((l.take k).any (hitF f g)) ∧ Hid (Nb wx w2.heap.size (.slice op pl.length cp) v) ∧ Hid (Ga (w2.heap.size + 1) wx v xs) ∧ Hid (Ea wx xs) ∧ Hid (Be xs v.ownBlock) ∧ Hid (Be xs (some w2.heap.size)) ∧ Hid (Be xs (some (w.heap.size + 1))) ∧ Hid (xs.map (·.1) = (l.take k).map (updF f g t d)) ∧ Hid (sErr f g t d (l.drop k) = sErr f g t d l) ∧ Hid (Below w2.heap.size w2 wx))
  case atStart => exact ⟨0, _, [], Nat.zero_le _, rfl, Nat.le_refl _, rfl, O3.out.put1 _, Ga.nil _ _, Ea.nil _, fun x hx => (by cases hx), fun x hx => (by cases hx), fun x hx => (by cases hx), rfl, rfl, B3.out.setCell (Nat.le_refl _) _⟩
  case round =>
    clear g0 g1 o0 o1
    obtain ⟨k, v, xs, hk, rfl, hg, rfl, HO, HG, HE, HBE, HBQ, HBR, HXM, HSE, HB⟩ := hrel
    have g0 := (N2.out.below HB.out).c0
    have g1 := (N2.out.below HB.out).c1
    by_cases hkl : k < l.length
    · obtain ⟨oa', c', hva', hA⟩ := id HA.out
      simp only [Value.slice.injEq] at hva'
      obtain ⟨rfl, -, rfl⟩ := hva'
      obtain ⟨b, o, vt, vs, hoa, hab, ⟨h0, h1, h2, h3, h4, h5⟩, hpt, hps⟩ := hA k hkl
      subst hoa
      obtain ⟨ot, ct, hvt, -⟩ := id hpt
      obtain ⟨os, cs, hvs, -⟩ := id hps
      subst hvt
      subst hvs
      have hbw := over B2.out HB.out
      have d0 := (hbw.cell (p := ⟨b, _, none⟩) hab).trans h0
      have d1 := (hbw.cell (p := ⟨b, _, none⟩) hab).trans h1
      have d2 := (hbw.cell (p := ⟨b, _, none⟩) hab).trans h2
      have d3 := (hbw.cell (p := ⟨b, _, none⟩) hab).trans h3
      have d4 := (hbw.cell (p := ⟨b, _, none⟩) hab).trans h4
      have d5 := (hbw.cell (p := ⟨b, _, none⟩) hab).trans h5
      have PT := Lib.hid hpt
      have PS := Lib.hid hps
      have hok := hN.arcs k hkl
      have HTK := Lib.hid (any_take (p := hitF f g) (d := arc0) hkl)
      have HSS := Lib.hid (sErr_step f g t d hkl)
      clear h0 h1 h2 h3 h4 h5 hpt hps hA
      obtain ⟨a, hak⟩ : ∃ a, l.getD k arc0 = a := ⟨_, rfl⟩
      have HAK := Lib.hid hak
      rw [hak] at d0 d1 d2 d3 d4 d5 PT PS hok HTK HSS
      clear hak
      obtain ⟨fr, dt, prof, miles, tr, sl⟩ := a
      simp only at d0 d1 d2 d3 d4 d5 PT PS
      obtain ⟨W5, hW5⟩ : ∃ W5, wr.alloc (.cells #[.int .i64 fr, .int .i64 dt, .int .i64 prof, .int .i64 miles, .slice ot tr.length ct, .slice os sl.length cs] 36) = W5 := ⟨_, rfl⟩
      obtain ⟨qa, hqa⟩ : ∃ qa, wr.heap.size = qa := ⟨_, rfl⟩
      have A5 := Ab.made wr (.int .i64 fr) (.int .i64 dt) (.int .i64 prof) (.int .i64 miles) (.slice ot tr.length ct) (.slice os sl.length cs)
      have b5 := below_alloc wr (.cells #[.int .i64 fr, .int .i64 dt, .int .i64 prof, .int .i64 miles, .slice ot tr.length ct, .slice os sl.length cs] 36)
      have hs5 : W5.heap.size = wr.heap.size + 1 := by rw [← hW5]; simp
      rw [hW5] at A5 b5
      rw [hqa] at A5
      have hkI : (k : Int) < (l.length : Int) := by omega
      have hwr := HO.out.lt
      have BT1 : Bes (.slice ot tr.length ct) v.ownBlock := by
        cases hvo : v.ownBlock with
        | none => exact Bes.none _
        | some kb => exact Bes.fresh PT.out (by have := Ga.blk HG.out kb hvo; have := B2.out.size; omega)
      have BT2 : Bes (.slice ot tr.length ct) (some w2.heap.size) := Bes.fresh PT.out B2.out.size
      have BT3 : Bes (.slice ot tr.length ct) (some (w.heap.size + 1)) := Bes.fresh PT.out (by omega)
      have BS3 : Bes (.slice os sl.length cs) (some (w.heap.size + 1)) := Bes.fresh PS.out (by omega)
      have BS1 : Bes (.slice os sl.length cs) v.ownBlock := by
        cases hvo : v.ownBlock with
        | none => exact Bes.none _
        | some kb => exact Bes.fresh PS.out (by have := Ga.blk HG.out kb hvo; have := B2.out.size; omega)
      have BS2 : Bes (.slice os sl.length cs) (some w2.heap.size) := Bes.fresh PS.out B2.out.size
      by_cases hh : fr = f ∧ dt = g
      · obtain ⟨hf1, hg1⟩ := hh
        have hhit : hitF f g ⟨fr, dt, prof, miles, tr, sl⟩ = true := by unfold hitF; rw [decide_eq_true hf1, decide_eq_true hg1]; rfl
        subst hf1
        subst hg1
        have KL := Lib.hid (fun w hu => refDelayed_n (.slice os sl.length cs) sl t d (by have := hok.len; simp only at this; omega) (fun kk hkk => (slowB_tick (hok.slow kk hkk)).2) htd.1 htd.2 w hu)
        have c0 := A5.c0
        have c1 := A5.c1
        have c2 := A5.c2
        have c3 := A5.c3
        have c4 := A5.c4
        have c5 := A5.c5
        have PS5 := Lib.hid (PS.out.below (over hbw b5))
        have HSr := Lib.hid HSE.out
        rw [HSS.out] at HSr
        go_wp2_with fail
        refine (KL.out _ PS5.out).mono ?_
        rintro e w6 ⟨u, rfl, hGq, b6⟩
        obtain ⟨ou, cu, hu⟩ := Gn.form hGq
        subst hu
        have hub := Gn.blk hGq
        have hGps := Gq.ps hGq
        have hup : updF fr dt t d ⟨fr, dt, prof, miles, tr, sl⟩ = ⟨fr, dt, prof, miles, tr, (dlE sl t d).1⟩ := by unfold updF; rw [hhit]; rfl
        have HSX : Hid (sErr fr dt t d (l.drop k) = if (dlE sl t d).2 ≠ 0 then (dlE sl t d).2 else sErr fr dt t d (l.drop (k + 1))) := by show _ = _; rw [HSS.out, hhit]; simp
        clear hGq HSS
        generalize (dlE sl t d).1 = sl' at *
        generalize (dlE sl t d).2 = er at *
        have b56 := over b5 b6
        have bw6 := HB.out.trans (b56.mono (by have := HO.out.lt; omega))
        have A6 := A5.below b6
        clear c0 c1 c2 c3 c4 c5
        by_cases her : er = 0
        · subst her
          have HSE2 : Hid (sErr fr dt t d (l.drop (k + 1)) = sErr fr dt t d l) := by show _ = _; rw [← HSE.out, HSX.out, if_neg (by simp)]
          obtain ⟨WX, hWX⟩ : ∃ WX, w6.setCell ⟨qa, 5, none⟩ (.slice ou sl'.length cu) = WX := ⟨_, rfl⟩
          have y5 := A6.c5
          have y6 := A6.f 5
          have AX := A6.put5 (.slice ou sl'.length cu)
          have bX := b56.setCell (p := ⟨qa, 5, none⟩) (by show wr.heap.size ≤ qa; omega) (.slice ou sl'.length cu)
          have hgq := grown_set w6 qa 5 (.slice ou sl'.length cu)
          have PUX := Ps.grown hGps hgq (bes_own hub (by omega))
          have PTX := PT.out.below (over hbw bX)
          rw [hWX] at AX bX PUX PTX
          have BU1 : Bes (.slice ou sl'.length cu) v.ownBlock := by
            cases hvo : v.ownBlock with
            | none => exact Bes.none _
            | some kb => exact bes_own hub (by have := Ga.lt HG.out kb hvo; omega)
          have BU2 : Bes (.slice ou sl'.length cu) (some w2.heap.size) := bes_own hub (by omega)
          have BU3 : Bes (.slice ou sl'.length cu) (some (w.heap.size + 1)) := bes_own hub (by omega)
          have OX := HO.out.below bX
          have GX := Lib.hid (HG.out.frame bX)
          have EX := Lib.hid (HE.out.below bX)
          clear b5 b6 b56 bw6 A5 A6 hgq hGps
          have c0 := AX.c0
          have c1 := AX.c1
          have c2 := AX.c2
          have c3 := AX.c3
          have c4 := AX.c4
          have c5 := AX.c5
          have o0 := OX.c0
          have o1 := OX.c1
          have hszX := Nat.lt_of_lt_of_le HO.out.lt bX.size
          have hxk := Lib.hid HXM.out
          have hxl : xs.length = k := by have := congrArg List.length HXM.out; rw [List.length_map, List.length_map, List.length_take] at this; omega
          go_wp2_with (at_builtin; refine wpList_append_own_at _ rfl _ _ 23 rfl (w2.heap.size + 1) 36 i0 (.agg #[.int .i64 0, .int .i64 0, .int .i64 0, .int .i64 0, .slice none 0 0, .slice none 0 0]) 6 80 Tryd.underlying23 hi hz0 hz1 hz2 rfl (by decide) _ _ _ rfl (World.ownsRow.alloc GX.out.own _) ⟨WX.heap.size, 0, none⟩ 1 1 [.int .i64 fr, .int .i64 dt, .int .i64 prof, .int .i64 miles, .slice ot tr.length ct, .slice ou sl'.length cu] rfl rfl (six_new _ _ _ _ _ _ _ _) (six_cells _ _ _ _ _ _ _ _ _ _) (by unfold maxLen; omega) (by omega) (by simp <;> omega) ?_)
          intro v3 w3 hown hgrow _ hat
          have GA9 : Ga (w2.heap.size + 1) w3 v3 (xs ++ ([(⟨fr, dt, prof, miles, tr, sl'⟩, .slice ot tr.length ct, .slice ou sl'.length cu)] : List ArcV)) := Ga.more _ (by rw [hxl]; exact hown)
          have bA := below_alloc WX (.cells #[.int .i64 fr, .int .i64 dt, .int .i64 prof, .int .i64 miles, .slice ot tr.length ct, .slice ou sl'.length cu] 36)
          have hvb := Ga.blk GX.out
          have hvl := Ga.lt GX.out
          have EA9 : Ea w3 (xs ++ ([(⟨fr, dt, prof, miles, tr, sl'⟩, .slice ot tr.length ct, .slice ou sl'.length cu)] : List ArcV)) := Ea.more ((EX.out.below bA).grown hgrow HBE.out) (Ps.grown (PTX.below bA) hgrow BT1) (Ps.grown (PUX.below bA) hgrow BU1)
          have BQ9 : Be (xs ++ ([(⟨fr, dt, prof, miles, tr, sl'⟩, .slice ot tr.length ct, .slice ou sl'.length cu)] : List ArcV)) (some w2.heap.size) := Be.more HBQ.out BT2 BU2
          have BR9 : Be (xs ++ ([(⟨fr, dt, prof, miles, tr, sl'⟩, .slice ot tr.length ct, .slice ou sl'.length cu)] : List ArcV)) (some (w.heap.size + 1)) := Be.more HBR.out BT3 BU3
          have BE9 : Be (xs ++ ([(⟨fr, dt, prof, miles, tr, sl'⟩, .slice ot tr.length ct, .slice ou sl'.length cu)] : List ArcV)) v3.ownBlock := by
            rcases hat with h | h
            · rw [h]; exact Be.more HBE.out BT1 BU1
            · rw [h]
              refine Be.more (fun y hy => ⟨Bes.fresh (EX.out y hy).1 (by simp), Bes.fresh (EX.out y hy).2 (by simp)⟩) (Bes.fresh PTX (by simp)) (Bes.fresh PUX (by simp))
          have O9 : Nb w3 w2.heap.size (.slice op pl.length cp) v := (hgrow.block w2.heap.size (by simp; omega) (fun h => by have := hvb _ h.symm; omega)).trans (OX.below bA)
          have HB9 : Below w2.heap.size w2 w3 := ((HB.out.trans (bX.mono (by omega))).trans (bA.mono (by omega))).grown hgrow (by simp; omega) (fun kk hk => by have := hvb kk hk; omega)
          have hv3b := Ga.blk GA9
          obtain ⟨ov, cv, hv3⟩ := Ga.form GA9
          obtain ⟨N9, hN9⟩ : ∃ N9, (xs ++ ([(⟨fr, dt, prof, miles, tr, sl'⟩, .slice ot tr.length ct, .slice ou sl'.length cu)] : List ArcV)).length = N9 := ⟨_, rfl⟩
          rw [hN9] at hv3
          clear hN9
          subst hv3
          have p0 := O9.c0
          have p1 := O9.c1
          have p2 := O9.f 1
          have O10 := Lib.hid (O9.put1 (.slice ov N9 cv))
          have hgs := grown_set w3 w2.heap.size 1 (.slice ov N9 cv)
          have GA10 := Lib.hid (Ga.of_block GA9 (fun gg hg => hgs.block gg (Ga.lt GA9 gg hg) (fun e => by have := hv3b gg hg; simp at e; omega)))
          have EA10 := Lib.hid (EA9.grown hgs BQ9)
          have BE10 := Lib.hid BE9
          have BQ10 := Lib.hid BQ9
          have BR10 := Lib.hid BR9
          have HB10 := Lib.hid (HB9.setCell (p := ⟨w2.heap.size, 1, none⟩) (Nat.le_refl _) (.slice ov N9 cv))
          have HXM2 : Hid ((xs ++ ([(⟨fr, dt, prof, miles, tr, sl'⟩, .slice ot tr.length ct, .slice ou sl'.length cu)] : List ArcV)).map (·.1) = (l.take (k + 1)).map (updF fr dt t d)) := by
            show _ = _
            rw [List.map_append, hxk.out, take_more (d := arc0) hkl, List.map_append, HAK.out]
            simp only [List.map_cons, List.map_nil]
            rw [hup]
          clear hown hgrow hat GA9 EA9 BQ9 BR9 BE9 O9 HB9 hgs
          go_wp2_with fail
          go_roundg (l.length - (k + 1))
          case measure => omega
          case rel => exact ⟨k + 1, _, _, by omega, by go_num, by omega, by rw [HTK.out, hhit, Bool.or_true], O10, GA10, EA10, BE10, BQ10, BR10, HXM2, HSE2, HB10⟩
        · have HX : Hid (er = r ∧ er ≠ 0) := ⟨by rw [hSL.out, ← HSE.out, HSX.out, if_pos her, if_pos her], her⟩
          have hne := ne_neI her
          have RX := R2.out.below bw6
          have BX := over B2.out bw6
          clear her
          have q0 := RX.c0
          have q1 := RX.c1
          have z0 := RX.f 0
          have z1 := RX.f 1
          go_wp2_with fail
          clear q0 q1 z0 z1
          have HF := RX.put (.slice none 0 0) (.slice none 0 0)
          have x0 := HF.c0
          have x1 := HF.c1
          refine bodyPost_ret (v := .tuple #[.agg #[.slice none 0 0, .slice none 0 0], .int .i64 er]) (by simp [results, Tryd.results22, go_sem, x0, x1]) rfl ?_
          exact swP_bad HX.out (below_put2 (n := w.heap.size + 1) BX (by omega) _ _)
      · have hhit : hitF f g ⟨fr, dt, prof, miles, tr, sl⟩ = false := by
          unfold hitF
          by_cases e1 : fr = f
          · rw [decide_eq_true e1, decide_eq_false (fun e2 => hh ⟨e1, e2⟩)]; rfl
          · rw [decide_eq_false e1]; rfl
        rw [hhit, if_neg (by simp)] at HSS
        have HSE2 : Hid (sErr f g t d (l.drop (k + 1)) = sErr f g t d l) := by show _ = _; rw [← HSS.out]; exact HSE.out
        have hup : updF f g t d ⟨fr, dt, prof, miles, tr, sl⟩ = ⟨fr, dt, prof, miles, tr, sl⟩ := by unfold updF; rw [hhit]; rfl
        have AX := A5
        have bX := b5
        have OX := HO.out.below b5
        have GX := Lib.hid (HG.out.frame b5)
        have EX := Lib.hid (HE.out.below b5)
        have PTX := PT.out.below (over hbw b5)
        have PUX := PS.out.below (over hbw b5)
        have BU1 := BS1
        have BU2 := BS2
        have BU3 := BS3
        clear A5 b5 hs5
        by_cases e1 : fr = f
        · have e2 : dt ≠ g := fun e2 => hh ⟨e1, e2⟩
          have e3 := ne_eqI e2
          subst e1
          clear hh e2
          have c0 := AX.c0
          have c1 := AX.c1
          have c2 := AX.c2
          have c3 := AX.c3
          have c4 := AX.c4
          have c5 := AX.c5
          have o0 := OX.c0
          have o1 := OX.c1
          have hszX := Nat.lt_of_lt_of_le HO.out.lt bX.size
          have hxk := Lib.hid HXM.out
          have hxl : xs.length = k := by have := congrArg List.length HXM.out; rw [List.length_map, List.length_map, List.length_take] at this; omega
          go_wp2_with (at_builtin; refine wpList_append_own_at _ rfl _ _ 23 rfl (w2.heap.size + 1) 36 i0 (.agg #[.int .i64 0, .int .i64 0, .int .i64 0, .int .i64 0, .slice none 0 0, .slice none 0 0]) 6 80 Tryd.underlying23 hi hz0 hz1 hz2 rfl (by decide) _ _ _ rfl (World.ownsRow.alloc GX.out.own _) ⟨W5.heap.size, 0, none⟩ 1 1 [.int .i64 fr, .int .i64 dt, .int .i64 prof, .int .i64 miles, .slice ot tr.length ct, .slice os sl.length cs] rfl rfl (six_new _ _ _ _ _ _ _ _) (six_cells _ _ _ _ _ _ _ _ _ _) (by unfold maxLen; omega) (by omega) (by simp <;> omega) ?_)
          intro v3 w3 hown hgrow _ hat
          have GA9 : Ga (w2.heap.size + 1) w3 v3 (xs ++ ([(⟨fr, dt, prof, miles, tr, sl⟩, .slice ot tr.length ct, .slice os sl.length cs)] : List ArcV)) := Ga.more _ (by rw [hxl]; exact hown)
          have bA := below_alloc W5 (.cells #[.int .i64 fr, .int .i64 dt, .int .i64 prof, .int .i64 miles, .slice ot tr.length ct, .slice os sl.length cs] 36)
          have hvb := Ga.blk GX.out
          have hvl := Ga.lt GX.out
          have EA9 : Ea w3 (xs ++ ([(⟨fr, dt, prof, miles, tr, sl⟩, .slice ot tr.length ct, .slice os sl.length cs)] : List ArcV)) := Ea.more ((EX.out.below bA).grown hgrow HBE.out) (Ps.grown (PTX.below bA) hgrow BT1) (Ps.grown (PUX.below bA) hgrow BU1)
          have BQ9 : Be (xs ++ ([(⟨fr, dt, prof, miles, tr, sl⟩, .slice ot tr.length ct, .slice os sl.length cs)] : List ArcV)) (some w2.heap.size) := Be.more HBQ.out BT2 BU2
          have BR9 : Be (xs ++ ([(⟨fr, dt, prof, miles, tr, sl⟩, .slice ot tr.length ct, .slice os sl.length cs)] : List ArcV)) (some (w.heap.size + 1)) := Be.more HBR.out BT3 BU3
          have BE9 : Be (xs ++ ([(⟨fr, dt, prof, miles, tr, sl⟩, .slice ot tr.length ct, .slice os sl.length cs)] : List ArcV)) v3.ownBlock := by
            rcases hat with h | h
            · rw [h]; exact Be.more HBE.out BT1 BU1
            · rw [h]
              refine Be.more (fun y hy => ⟨Bes.fresh (EX.out y hy).1 (by simp), Bes.fresh (EX.out y hy).2 (by simp)⟩) (Bes.fresh PTX (by simp)) (Bes.fresh PUX (by simp))
          have O9 : Nb w3 w2.heap.size (.slice op pl.length cp) v := (hgrow.block w2.heap.size (by simp; omega) (fun h => by have := hvb _ h.symm; omega)).trans (OX.below bA)
          have HB9 : Below w2.heap.size w2 w3 := ((HB.out.trans (bX.mono (by omega))).trans (bA.mono (by omega))).grown hgrow (by simp; omega) (fun kk hk => by have := hvb kk hk; omega)
          have hv3b := Ga.blk GA9
          obtain ⟨ov, cv, hv3⟩ := Ga.form GA9
          obtain ⟨N9, hN9⟩ : ∃ N9, (xs ++ ([(⟨fr, dt, prof, miles, tr, sl⟩, .slice ot tr.length ct, .slice os sl.length cs)] : List ArcV)).length = N9 := ⟨_, rfl⟩
          rw [hN9] at hv3
          clear hN9
          subst hv3
          have p0 := O9.c0
          have p1 := O9.c1
          have p2 := O9.f 1
          have O10 := Lib.hid (O9.put1 (.slice ov N9 cv))
          have hgs := grown_set w3 w2.heap.size 1 (.slice ov N9 cv)
          have GA10 := Lib.hid (Ga.of_block GA9 (fun gg hg => hgs.block gg (Ga.lt GA9 gg hg) (fun e => by have := hv3b gg hg; simp at e; omega)))
          have EA10 := Lib.hid (EA9.grown hgs BQ9)
          have BE10 := Lib.hid BE9
          have BQ10 := Lib.hid BQ9
          have BR10 := Lib.hid BR9
          have HB10 := Lib.hid (HB9.setCell (p := ⟨w2.heap.size, 1, none⟩) (Nat.le_refl _) (.slice ov N9 cv))
          have HXM2 : Hid ((xs ++ ([(⟨fr, dt, prof, miles, tr, sl⟩, .slice ot tr.length ct, .slice os sl.length cs)] : List ArcV)).map (·.1) = (l.take (k + 1)).map (updF fr g t d)) := by
            show _ = _
            rw [List.map_append, hxk.out, take_more (d := arc0) hkl, List.map_append, HAK.out]
            simp only [List.map_cons, List.map_nil]
            rw [hup]
          clear hown hgrow hat GA9 EA9 BQ9 BR9 BE9 O9 HB9 hgs
          go_wp2_with fail
          go_roundg (l.length - (k + 1))
          case measure => omega
          case rel => exact ⟨k + 1, _, _, by omega, by go_num, by omega, by rw [HTK.out, hhit, Bool.or_false], O10, GA10, EA10, BE10, BQ10, BR10, HXM2, HSE2, HB10⟩
        · have e3 := ne_eqI e1
          clear hh e1
          have c0 := AX.c0
          have c1 := AX.c1
          have c2 := AX.c2
          have c3 := AX.c3
          have c4 := AX.c4
          have c5 := AX.c5
          have o0 := OX.c0
          have o1 := OX.c1
          have hszX := Nat.lt_of_lt_of_le HO.out.lt bX.size
          have hxk := Lib.hid HXM.out
          have hxl : xs.length = k := by have := congrArg List.length HXM.out; rw [List.length_map, List.length_map, List.length_take] at this; omega
          go_wp2_with (at_builtin; refine wpList_append_own_at _ rfl _ _ 23 rfl (w2.heap.size + 1) 36 i0 (.agg #[.int .i64 0, .int .i64 0, .int .i64 0, .int .i64 0, .slice none 0 0, .slice none 0 0]) 6 80 Tryd.underlying23 hi hz0 hz1 hz2 rfl (by decide) _ _ _ rfl (World.ownsRow.alloc GX.out.own _) ⟨W5.heap.size, 0, none⟩ 1 1 [.int .i64 fr, .int .i64 dt, .int .i64 prof, .int .i64 miles, .slice ot tr.length ct, .slice os sl.length cs] rfl rfl (six_new _ _ _ _ _ _ _ _) (six_cells _ _ _ _ _ _ _ _ _ _) (by unfold maxLen; omega) (by omega) (by simp <;> omega) ?_)
          intro v3 w3 hown hgrow _ hat
          have GA9 : Ga (w2.heap.size + 1) w3 v3 (xs ++ ([(⟨fr, dt, prof, miles, tr, sl⟩, .slice ot tr.length ct, .slice os sl.length cs)] : List ArcV)) := Ga.more _ (by rw [hxl]; exact hown)
          have bA := below_alloc W5 (.cells #[.int .i64 fr, .int .i64 dt, .int .i64 prof, .int .i64 miles, .slice ot tr.length ct, .slice os sl.length cs] 36)
          have hvb := Ga.blk GX.out
          have hvl := Ga.lt GX.out
          have EA9 : Ea w3 (xs ++ ([(⟨fr, dt, prof, miles, tr, sl⟩, .slice ot tr.length ct, .slice os sl.length cs)] : List ArcV)) := Ea.more ((EX.out.below bA).grown hgrow HBE.out) (Ps.grown (PTX.below bA) hgrow BT1) (Ps.grown (PUX.below bA) hgrow BU1)
          have BQ9 : Be (xs ++ ([(⟨fr, dt, prof, miles, tr, sl⟩, .slice ot tr.length ct, .slice os sl.length cs)] : List ArcV)) (some w2.heap.size) := Be.more HBQ.out BT2 BU2
          have BR9 : Be (xs ++ ([(⟨fr, dt, prof, miles, tr, sl⟩, .slice ot tr.length ct, .slice os sl.length cs)] : List ArcV)) (some (w.heap.size + 1)) := Be.more HBR.out BT3 BU3
          have BE9 : Be (xs ++ ([(⟨fr, dt, prof, miles, tr, sl⟩, .slice ot tr.length ct, .slice os sl.length cs)] : List ArcV)) v3.ownBlock := by
            rcases hat with h | h
            · rw [h]; exact Be.more HBE.out BT1 BU1
            · rw [h]
              refine Be.more (fun y hy => ⟨Bes.fresh (EX.out y hy).1 (by simp), Bes.fresh (EX.out y hy).2 (by simp)⟩) (Bes.fresh PTX (by simp)) (Bes.fresh PUX (by simp))
          have O9 : Nb w3 w2.heap.size (.slice op pl.length cp) v := (hgrow.block w2.heap.size (by simp; omega) (fun h => by have := hvb _ h.symm; omega)).trans (OX.below bA)
          have HB9 : Below w2.heap.size w2 w3 := ((HB.out.trans (bX.mono (by omega))).trans (bA.mono (by omega))).grown hgrow (by simp; omega) (fun kk hk => by have := hvb kk hk; omega)
          have hv3b := Ga.blk GA9
          obtain ⟨ov, cv, hv3⟩ := Ga.form GA9
          obtain ⟨N9, hN9⟩ : ∃ N9, (xs ++ ([(⟨fr, dt, prof, miles, tr, sl⟩, .slice ot tr.length ct, .slice os sl.length cs)] : List ArcV)).length = N9 := ⟨_, rfl⟩
          rw [hN9] at hv3
          clear hN9
          subst hv3
          have p0 := O9.c0
          have p1 := O9.c1
          have p2 := O9.f 1
          have O10 := Lib.hid (O9.put1 (.slice ov N9 cv))
          have hgs := grown_set w3 w2.heap.size 1 (.slice ov N9 cv)
          have GA10 := Lib.hid (Ga.of_block GA9 (fun gg hg => hgs.block gg (Ga.lt GA9 gg hg) (fun e => by have := hv3b gg hg; simp at e; omega)))
          have EA10 := Lib.hid (EA9.grown hgs BQ9)
          have BE10 := Lib.hid BE9
          have BQ10 := Lib.hid BQ9
          have BR10 := Lib.hid BR9
          have HB10 := Lib.hid (HB9.setCell (p := ⟨w2.heap.size, 1, none⟩) (Nat.le_refl _) (.slice ov N9 cv))
          have HXM2 : Hid ((xs ++ ([(⟨fr, dt, prof, miles, tr, sl⟩, .slice ot tr.length ct, .slice os sl.length cs)] : List ArcV)).map (·.1) = (l.take (k + 1)).map (updF f g t d)) := by
            show _ = _
            rw [List.map_append, hxk.out, take_more (d := arc0) hkl, List.map_append, HAK.out]
            simp only [List.map_cons, List.map_nil]
            rw [hup]
          clear hown hgrow hat GA9 EA9 BQ9 BR9 BE9 O9 HB9 hgs
          go_wp2_with fail
          go_roundg (l.length - (k + 1))
          case measure => omega
          case rel => exact ⟨k + 1, _, _, by omega, by go_num, by omega, by rw [HTK.out, hhit, Bool.or_false], O10, GA10, EA10, BE10, BQ10, BR10, HXM2, HSE2, HB10⟩
    · have hk' : k = l.length := by omega
      have htk : l.take k = l := List.take_of_length_le (by omega)
      have hz : sErr f g t d l = 0 := by rw [← HSE.out, List.drop_of_length_le (by omega)]; rfl
      have RX := R2.out.below HB.out
      have BX := over B2.out HB.out
      rw [htk] at HXM
      cases hany : l.any (hitF f g)
      · have HX : Hid ((12 : Int) = r ∧ (12 : Int) ≠ 0) := ⟨by rw [hSL.out, if_neg (by rw [hz]; simp), hany]; rfl, by decide⟩
        rw [show (l.take k).any (hitF f g) = false by rw [htk, hany]]
        clear hany
        have q0 := RX.c0
        have q1 := RX.c1
        have z0 := RX.f 0
        have z1 := RX.f 1
        go_wp2_with fail
        clear q0 q1 z0 z1
        have HF := RX.put (.slice none 0 0) (.slice none 0 0)
        have x0 := HF.c0
        have x1 := HF.c1
        refine bodyPost_ret (v := .tuple #[.agg #[.slice none 0 0, .slice none 0 0], .int .i64 12]) (by simp [results, Tryd.results22, go_sem, x0, x1]) rfl ?_
        exact swP_bad HX.out (below_put2 (n := w.heap.size + 1) BX (by omega) _ _)
      · have HX : Hid ((0 : Int) = r) := by show _ = _; rw [hSL.out, if_neg (by rw [hz]; simp), hany]; rfl
        rw [show (l.take k).any (hitF f g) = true by rw [htk, hany]]
        obtain ⟨ov, cv, hv⟩ := Ga.form HG.out
        subst hv
        have hvb := Ga.blk HG.out
        have o0 := HO.out.c0
        have o1 := HO.out.c1
        have q0 := RX.c0
        have q1 := RX.c1
        have z0 := RX.f 0
        have z1 := RX.f 1
        clear hany
        go_wp2_with fail
        clear q0 q1 z0 z1 o0 o1
        have HF := RX.put (.slice op pl.length cp) (.slice ov xs.length cv)
        have x0 := HF.c0
        have x1 := HF.c1
        refine bodyPost_ret (v := .tuple #[.agg #[.slice op pl.length cp, .slice ov xs.length cv], .int .i64 0]) (by simp [results, Tryd.results22, go_sem, x0, x1]) rfl ?_
        have BF := below_put2 (n := w.heap.size + 1) BX (by omega) (.slice op pl.length cp) (.slice ov xs.length cv)
        have h1 := grown_set wr (w.heap.size + 1) 0 (.slice op pl.length cp)
        have h2 := grown_set (wr.setCell ⟨w.heap.size + 1, 0, none⟩ (.slice op pl.length cp)) (w.heap.size + 1) 1 (.slice ov xs.length cv)
        have hgl := Ga.lt HG.out
        have GF := Ga.of_block (Ga.of_block HG.out (fun gg hg => h1.block gg (hgl gg hg) (fun e => by have := hvb gg hg; simp at e; omega))) (fun gg hg => h2.block gg (by have := hgl gg hg; simp; omega) (fun e => by have := hvb gg hg; simp at e; omega))
        have EF := (HE.out.grown h1 HBR.out).grown h2 HBR.out
        have AF := Ga.as GF EF
        rw [HXM.out] at AF
        rw [← HX.out]
        exact ⟨_, _, rfl, fun _ => ⟨HP.out.below BF, AF⟩, fun h => absurd rfl h, BF⟩

end Go.Proofs.YtegpebnkogjadaaDoor.T

