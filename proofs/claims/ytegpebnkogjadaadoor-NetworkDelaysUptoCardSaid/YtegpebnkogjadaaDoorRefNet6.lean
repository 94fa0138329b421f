/-
  DERIVED. The walk of the specification's Earliest.
-/
import Derived.Test.YtegpebnkogjadaaDoorRefNet3
namespace Go.Proofs.YtegpebnkogjadaaDoor.T
open Go.RowKit
set_option maxRecDepth 8000

/-- the first arrivals -/
def iniE (f t : Int) (k : Nat) : List Int := (List.range k).map fun (p : Nat) => if (p : Int) = f then t else -1
theorem iniE_succ (f t : Int) (k : Nat) : iniE f t (k + 1) = iniE f t k ++ [if (k : Int) = f then t else -1] := by unfold iniE; rw [List.range_succ, List.map_append]; rfl
theorem iniE_len (f t : Int) (k : Nat) : (iniE f t k).length = k := by unfold iniE; rw [List.length_map, List.length_range]
/-- one arc -/
def stpE (pr : Int) (d : List Int) (a : ArcT) : List Int :=
  if a.prof = pr ∧ 0 ≤ d.getD a.fr.toNat 0 then
    (if d.getD a.to.toNat 0 < 0 ∨ arrA a (d.getD a.fr.toNat 0) < d.getD a.to.toNat 0 then d.set a.to.toNat (arrA a (d.getD a.fr.toNat 0)) else d)
  else d
def rndE (pr : Int) (l : List ArcT) (d : List Int) (k : Nat) : List Int := (l.take k).foldl (stpE pr) d
def earE (pr : Int) (l : List ArcT) (d : List Int) : Nat → List Int
  | 0 => d
  | r + 1 => rndE pr l (earE pr l d r) l.length
theorem rndE_succ {pr : Int} {l : List ArcT} {d : List Int} {k : Nat} (hk : k < l.length) : rndE pr l d (k + 1) = stpE pr (rndE pr l d k) (l.getD k arc0) := by
  unfold rndE
  rw [take_more (d := arc0) hk, List.foldl_append]
  rfl
def earL (np : Nat) (l : List ArcT) (pr f t : Int) : List Int := earE pr l (iniE f t np) np
/-- bounds -/
def Bd (M : Int) (d : List Int) : Prop := ∀ i, i < d.length → -1 ≤ d.getD i 0 ∧ d.getD i 0 ≤ M
theorem Bd.mono {M N : Int} {d : List Int} (h : Bd M d) (hMN : M ≤ N) : Bd N d := fun i hi => ⟨(h i hi).1, Int.le_trans (h i hi).2 hMN⟩
theorem Bd.set {M : Int} {d : List Int} (h : Bd M d) {k : Nat} {x : Int} (h0 : -1 ≤ x) (h1 : x ≤ M) : Bd M (d.set k x) := fun i hi => by
  rw [List.length_set] at hi
  rw [List.getD_eq_getElem?_getD, List.getElem?_set]
  by_cases e : k = i
  · subst e
    rw [if_pos rfl, if_pos hi]
    exact ⟨h0, h1⟩
  · rw [if_neg e, ← List.getD_eq_getElem?_getD]
    exact h i hi
theorem Bd.ini {t : Int} (f : Int) (ht0 : 0 ≤ t) (k : Nat) : Bd t (iniE f t k) := fun i hi => by
  rw [iniE_len] at hi
  have : (iniE f t k).getD i 0 = if (i : Int) = f then t else -1 := by
    unfold iniE
    rw [List.getD_eq_getElem?_getD, List.getElem?_map, List.getElem?_range hi]; rfl
  rw [this]
  split <;> omega
theorem arrA_bd {np : Nat} {a : ArcT} (h : ArcOk np a) {t : Int} (ht : 0 ≤ t) : t ≤ arrA a t ∧ arrA a t ≤ t + 73728 := by
  have h1 := arr_ge h.tr ht
  have h2 := slowS_le t a.sl (fun k hk => (slowB_tick (h.slow k hk)).2)
  have := h.len
  unfold arrA
  omega
/-- a result: a list of numbers -/
def LiP (l : List Int) (w : World) (e : Ending) (w' : World) : Prop := ∃ oa c, e = .returned (.slice oa l.length c) ∧ L.Li w' (.slice oa l.length c) l ∧ Below w.heap.size w w'
theorem liP {B : Nat} {l : List Int} {w w' : World} {v : Value} (h : L.Own B w' v l) (hb : Below w.heap.size w w') : LiP l w (.returned v) w' := by
  obtain ⟨oa, c, rfl, hc⟩ := L.Own.li h
  exact ⟨oa, c, rfl, ⟨oa, c, rfl, hc⟩, hb⟩

set_option maxHeartbeats 6400000 in
theorem refEarliest_n (vp va : Value) (pl : List ByteArray) (l : List ArcT) (pr f t : Int) (hl : l.length ≤ 60) (hN : NetOk pl l) (ht0 : 0 ≤ t) (ht1 : t ≤ 1048576) (w : World) (hp : Ss w vp pl) (ha : As w va l) :
    Calls Tryd.prog 20 #[.agg #[vp, va], .int .i64 pr, .int .i64 f, .int .i64 t] w (LiP (earL pl.length l pr f t) w) := by
  have HE : Hid (earE pr l (iniE f t pl.length) pl.length = earL pl.length l pr f t) := rfl
  have hp24 := hN.places
  obtain ⟨op, cp, rfl, -⟩ := hp
  obtain ⟨oa, c, rfl, ha⟩ := ha
  have HA := Lib.hid ha
  have HNa := Lib.hid hN.arcs
  clear ha hN
  have HIS := Lib.hid (iniE_succ f t)
  have HIL := Lib.hid (iniE_len f t)
  have HRS := Lib.hid (fun d k (hk : k < l.length) => rndE_succ (pr := pr) (l := l) (d := d) hk)
  have HR0 : Hid (∀ d, rndE pr l d 0 = d) := fun _ => rfl
  have HE0 : Hid (∀ d, earE pr l d 0 = d) := fun _ => rfl
  have HES : Hid (∀ d r, earE pr l d (r + 1) = rndE pr l (earE pr l d r) l.length) := fun _ _ => rfl
  obtain ⟨i0, hi, hz0, hz1, hz2⟩ := L.infoInt
  generalize earL pl.length l pr f t = res at *
  generalize hn : l.length = n at *
  generalize hnp : pl.length = np at *
  clear hnp
  obtain ⟨W0, hW0⟩ : ∃ W0, w.alloc (.cells #[.slice op np cp, .slice oa n c] 25) = W0 := ⟨_, rfl⟩
  have N0 := Lib.hid (Nb.made w (.slice op np cp) (.slice oa n c))
  have hb0 := below_alloc w (.cells #[.slice op np cp, .slice oa n c] 25)
  have hsz0 : w.heap.size < W0.heap.size := by rw [← hW0]; simp
  rw [hW0] at N0 hb0
  have B0 := Lib.hid hb0
  have g0 := N0.out.c0
  have g1 := N0.out.c1
  clear hb0
  go_enter Tryd.func20, Tryd.ntmps20
  go_wp2_with fail
  clear hW0
  go_loopg [9, 10] np (fun gg v j wx => ∃ k : Nat, k ≤ np ∧ j = .int .i64 k ∧ np - k ≤ gg ∧ Hid (L.Own W0.heap.size wx v (iniE f t k)) ∧ Hid (Below W0.heap.size W0 wx))
  case atStart => exact ⟨0, Nat.zero_le _, rfl, Nat.le_refl _, L.Own.nil _ _, Below.refl _ _⟩
  case round =>
    clear g0 g1
    obtain ⟨k, hk, rfl, hg, HG, HB⟩ := hrel
    have g0 := (N0.out.below HB.out).c0
    have g1 := (N0.out.below HB.out).c1
    have hsz := HB.out.size
    by_cases hlt : k < np
    · have hX := Lib.hid (HIS.out k)
      have hkl := HIL.out k
      by_cases hkf : (k : Int) = f
      · rw [if_pos hkf] at hX
        go_wp2_with (at_builtin; refine wpList_append_own _ rfl _ _ 44 rfl W0.heap.size 3 i0 (.int .i64 0) 1 8 Tryd.underlying44 hi hz0 hz1 hz2 rfl (by decide) _ _ _ rfl (World.ownsRow.alloc HG.out _) ⟨wr.heap.size, 0, none⟩ 1 1 [.int .i64 t] rfl rfl (L.one_new _ _) (L.one_cell _) (by unfold maxLen; omega) (by omega) (by simp <;> omega) ?_)
        intro v3 w3 hown hgrow _
        have HG3 : Hid (L.Own W0.heap.size w3 v3 (iniE f t (k + 1))) := by show L.Own _ _ _ _; rw [hX.out]; exact L.Own.of_own hkl hown
        have HB3 : Hid (Below W0.heap.size W0 w3) := (HB.out.alloc (by omega) _).grown hgrow (by simp <;> omega) (HG.out.blk)
        clear hown hgrow
        go_wp2_with fail
        go_roundg (np - (k + 1))
        case measure => omega
        case rel => exact ⟨k + 1, by omega, by go_num, by omega, HG3, HB3⟩
      · rw [if_neg hkf] at hX
        have hkf2 := ne_eqI hkf
        clear hkf
        go_wp2_with (at_builtin; refine wpList_append_own _ rfl _ _ 44 rfl W0.heap.size 3 i0 (.int .i64 0) 1 8 Tryd.underlying44 hi hz0 hz1 hz2 rfl (by decide) _ _ _ rfl (World.ownsRow.alloc HG.out _) ⟨wr.heap.size, 0, none⟩ 1 1 [.int .i64 (-1)] rfl rfl (L.one_new _ _) (L.one_cell _) (by unfold maxLen; omega) (by omega) (by simp <;> omega) ?_)
        intro v3 w3 hown hgrow _
        have HG3 : Hid (L.Own W0.heap.size w3 v3 (iniE f t (k + 1))) := by show L.Own _ _ _ _; rw [hX.out]; exact L.Own.of_own hkl hown
        have HB3 : Hid (Below W0.heap.size W0 w3) := (HB.out.alloc (by omega) _).grown hgrow (by simp <;> omega) (HG.out.blk)
        clear hown hgrow
        go_wp2_with fail
        go_roundg (np - (k + 1))
        case measure => omega
        case rel => exact ⟨k + 1, by omega, by go_num, by omega, HG3, HB3⟩
    · have hk' : k = np := by omega
      subst hk'
      have hIL := HIL.out k
      have HBD := Lib.hid (Bd.ini f ht0 k)
      have HLN0 := Lib.hid hIL
      have HBD0 := Lib.hid (HBD.out.mono (N := 1048576 + 73728 * (60 * (0 : Nat))) (by omega))
      rcases HG.out.2 with ⟨hv, h0⟩ | ⟨g, cap, cur, hv, _⟩
      · subst hv
        have hk0 : k = 0 := by omega
        subst hk0
        have HR : Hid (iniE f t 0 = res) := HE.out
        go_wp2_with fail
        go_loopw [11] (fun j wx => j = .int .i64 0 ∧ wr = wx) (fun _ _ => 0)
        case atStart => exact ⟨rfl, rfl⟩
        case round =>
          obtain ⟨rfl, rfl⟩ := hrel
          go_wp2_with fail
          go_ret
          exact liP (HR.out ▸ HG.out) (over B0.out HB.out)
      · subst hv
        have hgl := World.ownsRow.lt HG.out g rfl
        have HRW0 : Hid (L.Rw W0.heap.size wr g cap (iniE f t k)) := by
          show L.Rw _ _ _ _ _
          unfold L.Rw
          exact HG.out
        have hgB := hgl.1
        rw [hIL]
        have HE0' := Lib.hid (HE0.out (iniE f t k))
        generalize iniE f t k = d0 at *
        clear HG hgl hIL HBD HIS HIL
        go_wp2_with fail
        go_loopg [11] k (fun gg j wx => ∃ r : Nat, r ≤ k ∧ j = .int .i64 r ∧ k - r ≤ gg ∧ Hid (L.Rw W0.heap.size wx g cap (earE pr l d0 r)) ∧ Hid (Below W0.heap.size W0 wx) ∧ Hid (Bd (1048576 + 73728 * (60 * r)) (earE pr l d0 r)) ∧ Hid ((earE pr l d0 r).length = k))
        case atStart => exact ⟨0, Nat.zero_le _, rfl, Nat.le_refl _, HRW0.out.ext HE0'.out.symm, HB, HE0'.out.symm ▸ HBD0.out, HE0'.out.symm ▸ HLN0.out⟩
        case round =>
          clear HRW0 HB HBD0 HLN0
          obtain ⟨r, hr, rfl, hg, HRW, HB, HBD, HLN⟩ := hrel
          have g0 := (N0.out.below HB.out).c0
          have g1 := (N0.out.below HB.out).c1
          by_cases hrk : r < k
          · have HRn := Lib.hid (HES.out d0 r)
            generalize hdr : earE pr l d0 r = dr at *
            clear hdr
            have hR0 := HR0.out dr
            have hRS := Lib.hid (HRS.out dr)
            have HBD9 : Hid (Bd (1048576 + 73728 * (60 * r + (0 : Nat))) (rndE pr l dr 0)) := by show Bd _ _; rw [hR0]; exact HBD.out.mono (by omega)
            have HLN9 : Hid ((rndE pr l dr 0).length = k) := by show _ = _; rw [hR0]; exact HLN.out
            have HRW9 : Hid (L.Rw W0.heap.size wr g cap (rndE pr l dr 0)) := HRW.out.ext hR0
            clear HBD HLN HRW hR0
            go_wp2_with fail
            go_loopw [12] (fun j wx => ∃ m : Nat, m ≤ n ∧ j = .int .i64 m ∧ Hid (L.Rw W0.heap.size wx g cap (rndE pr l dr m)) ∧ Hid (Below W0.heap.size W0 wx) ∧ Hid (Bd (1048576 + 73728 * (60 * r + m)) (rndE pr l dr m)) ∧ Hid ((rndE pr l dr m).length = k)) (fun j _ => n - (intOf j).toNat)
            case atStart => exact ⟨0, Nat.zero_le _, rfl, HRW9, HB, HBD9, HLN9⟩
            case round =>
              clear HRW9 HB HBD9 HLN9 g0 g1
              obtain ⟨m, hm, rfl, HRW, HB, HBD, HLN⟩ := hrel
              have g0 := (N0.out.below HB.out).c0
              have g1 := (N0.out.below HB.out).c1
              by_cases hmn : m < n
              · have hln := HLN.out
                have HST := Lib.hid (hRS.out m hmn)
                have hok := HNa.out m hmn
                obtain ⟨b, o, vt, vs, hoa, hab, ⟨h0, h1, h2, h3, h4, h5⟩, hpt, hps⟩ := HA.out m hmn
                subst hoa
                obtain ⟨ot, ct, hvt, -⟩ := id hpt
                obtain ⟨os, cs, hvs, -⟩ := id hps
                subst hvt
                subst hvs
                have hbw := over B0.out HB.out
                have d0' := (hbw.cell (p := ⟨b, _, none⟩) hab).trans h0
                have d1' := (hbw.cell (p := ⟨b, _, none⟩) hab).trans h1
                have d2' := (hbw.cell (p := ⟨b, _, none⟩) hab).trans h2
                have d3' := (hbw.cell (p := ⟨b, _, none⟩) hab).trans h3
                have d4' := (hbw.cell (p := ⟨b, _, none⟩) hab).trans h4
                have d5' := (hbw.cell (p := ⟨b, _, none⟩) hab).trans h5
                have PT := Lib.hid (hpt.below hbw)
                have PS := Lib.hid (hps.below hbw)
                clear h0 h1 h2 h3 h4 h5 hpt hps hbw
                generalize l.getD m arc0 = a at *
                generalize rndE pr l dr m = d at *
                obtain ⟨fr, dt, prof, miles, tr, sl⟩ := a
                have hfr := hok.fr
                have hto := hok.to
                simp only at hfr hto d0' d1' d2' d3' d4' d5' PT PS
                obtain ⟨nf, hnf⟩ := Int.eq_ofNat_of_zero_le hfr.1
                obtain ⟨nt, hnt⟩ := Int.eq_ofNat_of_zero_le hto.1
                subst hnf
                subst hnt
                have hnf : nf < d.length := by omega
                have hnt : nt < d.length := by omega
                have HOK := Lib.hid (fun vt vs t h0 h1 w ht hs => refArrive9_n k ⟨nf, nt, prof, miles, tr, sl⟩ vt vs t hok h0 h1 w ht hs)
                have HAB := Lib.hid (fun t (h0 : 0 ≤ t) => arrA_bd hok h0)
                have hbdF := HBD.out nf hnf
                clear hok hfr hto
                obtain ⟨W2, hW2⟩ : ∃ W2, wr.alloc (.cells #[.int .i64 nf, .int .i64 nt, .int .i64 prof, .int .i64 miles, .slice ot tr.length ct, .slice os sl.length cs] 36) = W2 := ⟨_, rfl⟩
                obtain ⟨q2, hq2⟩ : ∃ q2, wr.heap.size = q2 := ⟨_, rfl⟩
                have e := Ab.made wr (.int .i64 nf) (.int .i64 nt) (.int .i64 prof) (.int .i64 miles) (.slice ot tr.length ct) (.slice os sl.length cs)
                have hbe := below_alloc wr (.cells #[.int .i64 nf, .int .i64 nt, .int .i64 prof, .int .i64 miles, .slice ot tr.length ct, .slice os sl.length cs] 36)
                have HRWe := HRW.out.below hbe
                rw [hW2] at e hbe HRWe
                rw [hq2] at e
                have HRWe := Lib.hid HRWe
                have HBe := Lib.hid (over HB.out hbe)
                have PT2 := Lib.hid (PT.out.below hbe)
                have PS2 := Lib.hid (PS.out.below hbe)
                have He := Lib.hid e
                have e0 := e.c0
                have e1 := e.c1
                have e2 := e.c2
                have e3 := e.c3
                have e4 := e.c4
                have e5 := e.c5
                have xF := HRWe.out.cell nf hnf
                have xT := HRWe.out.cell nt hnt
                have hnfI : (nf : Int) < (k : Int) := by omega
                have hntI : (nt : Int) < (k : Int) := by omega
                have hmI : (m : Int) < (n : Int) := by omega
                clear hbe e HB HRW PT PS
                have HST : Hid (rndE pr l dr (m + 1) = if prof = pr ∧ 0 ≤ d.getD nf 0 then (if d.getD nt 0 < 0 ∨ arrA ⟨nf, nt, prof, miles, tr, sl⟩ (d.getD nf 0) < d.getD nt 0 then d.set nt (arrA ⟨nf, nt, prof, miles, tr, sl⟩ (d.getD nf 0)) else d) else d) := HST
                obtain ⟨x, hx⟩ : ∃ x, d.getD nf 0 = x := ⟨_, rfl⟩
                obtain ⟨y, hy⟩ : ∃ y, d.getD nt 0 = y := ⟨_, rfl⟩
                rw [hx] at HST xF hbdF
                rw [hy] at HST xT
                have HX0 := Lib.hid hx
                have HY0 := Lib.hid hy
                clear hx hy
                by_cases hpr : prof = pr
                · subst hpr
                  by_cases hx0 : 0 ≤ x
                  · have K9 := Lib.hid (fun w ht hs => HOK.out (.slice ot tr.length ct) (.slice os sl.length cs) x hx0 (by omega) w ht hs)
                    have hvb := HAB.out x hx0
                    generalize hvv : arrA ⟨nf, nt, prof, miles, tr, sl⟩ x = v at *
                    clear hvv HOK HAB
                    have HT5 : Hid (Ps W2.drew (.slice ot tr.length ct) tr) := PT2
                    have HS5 : Hid (Ps W2.drew (.slice os sl.length cs) sl) := PS2
                    have A4 : Hid (Ab W2.drew q2 (.int .i64 nf) (.int .i64 nt) (.int .i64 prof) (.int .i64 miles) (.slice ot tr.length ct) (.slice os sl.length cs)) := He
                    have HRd : Hid (L.Rw W0.heap.size W2.drew g cap d) := HRWe
                    have HBd := Lib.hid (below_drew HBe.out)
                    have hxd : decide (0 ≤ x) = true := decide_eq_true hx0
                    clear PT2 PS2 He
                    go_wp2_with fail
                    go_region_with (go_at_call 35; with_reducible refine (K9.out _ HT5.out HS5.out).mono ?_; rintro e w5 ⟨rfl, b5⟩; have A5 := A4.out.below b5; have HRW5 := HRd.out.below b5; have HB5 := over HBd.out b5)
                    all_goals
                      have f0 := A5.c0
                      have f1 := A5.c1
                      have xF5 := HRW5.cell nf hnf
                      have xT5 := HRW5.cell nt hnt
                      rw [HX0.out] at xF5
                      rw [HY0.out] at xT5
                      clear b5 A5
                      by_cases hy0 : y < 0
                      · have HX : Hid (rndE prof l dr (m + 1) = d.set nt v) := by show _ = _; rw [HST.out, if_pos (by simpa using hx0), if_pos (.inl hy0)]
                        have HBD2 : Hid (Bd (1048576 + 73728 * (60 * r + (m + 1 : Nat))) (rndE prof l dr (m + 1))) := by show Bd _ _; rw [HX.out]; exact (HBD.out.mono (by omega)).set (by omega) (by omega)
                        have HLN2 : Hid ((rndE prof l dr (m + 1)).length = k) := by show _ = _; rw [HX.out, List.length_set]; exact HLN.out
                        have HRW2 := Lib.hid ((HRW5.store nt v).ext HX.out)
                        have HB2 := Lib.hid (L.below_set HB5 hgB nt (.int .i64 v))
                        have hfz := HRW5.frozen nt
                        clear HX
                        go_wp2_with fail
                        go_roundw
                        case rel => exact ⟨m + 1, by omega, by go_num, HRW2, HB2, HBD2, HLN2⟩
                        case measure => simp [intOf] <;> omega
                      · by_cases hvy : v < y
                        · have HX : Hid (rndE prof l dr (m + 1) = d.set nt v) := by show _ = _; rw [HST.out, if_pos (by simpa using hx0), if_pos (.inr hvy)]
                          have HBD2 : Hid (Bd (1048576 + 73728 * (60 * r + (m + 1 : Nat))) (rndE prof l dr (m + 1))) := by show Bd _ _; rw [HX.out]; exact (HBD.out.mono (by omega)).set (by omega) (by omega)
                          have HLN2 : Hid ((rndE prof l dr (m + 1)).length = k) := by show _ = _; rw [HX.out, List.length_set]; exact HLN.out
                          have HRW2 := Lib.hid ((HRW5.store nt v).ext HX.out)
                          have HB2 := Lib.hid (L.below_set HB5 hgB nt (.int .i64 v))
                          have hfz := HRW5.frozen nt
                          clear HX
                          go_wp2_with fail
                          go_roundw
                          case rel => exact ⟨m + 1, by omega, by go_num, HRW2, HB2, HBD2, HLN2⟩
                          case measure => simp [intOf] <;> omega
                        · have HX : Hid (rndE prof l dr (m + 1) = d) := by show _ = _; rw [HST.out, if_pos (by simpa using hx0), if_neg (fun h => h.elim hy0 hvy)]
                          have HBD2 : Hid (Bd (1048576 + 73728 * (60 * r + (m + 1 : Nat))) (rndE prof l dr (m + 1))) := by show Bd _ _; rw [HX.out]; exact HBD.out.mono (by omega)
                          have HLN2 : Hid ((rndE prof l dr (m + 1)).length = k) := by show _ = _; rw [HX.out]; exact HLN.out
                          have HRW2 := Lib.hid (HRW5.ext HX.out)
                          clear HX
                          have hyv : y ≤ v := by omega
                          go_wp2_with fail
                          go_roundw
                          case rel => exact ⟨m + 1, by omega, by go_num, HRW2, HB5, HBD2, HLN2⟩
                          case measure => simp [intOf] <;> omega
                  · have HX : Hid (rndE prof l dr (m + 1) = d) := by show _ = _; rw [HST.out, if_neg (fun h => hx0 h.2)]
                    have HBD2 : Hid (Bd (1048576 + 73728 * (60 * r + (m + 1 : Nat))) (rndE prof l dr (m + 1))) := by show Bd _ _; rw [HX.out]; exact HBD.out.mono (by omega)
                    have HLN2 : Hid ((rndE prof l dr (m + 1)).length = k) := by show _ = _; rw [HX.out]; exact HLN.out
                    have HRW2 := Lib.hid (HRWe.out.ext HX.out)
                    clear HX HST HRWe HBD HLN
                    have hx1 : x < 0 := by omega
                    go_wp2_with fail
                    go_roundw
                    case rel => exact ⟨m + 1, by omega, by go_num, HRW2, HBe, HBD2, HLN2⟩
                    case measure => simp [intOf] <;> omega
                · have HX : Hid (rndE pr l dr (m + 1) = d) := by show _ = _; rw [HST.out, if_neg (fun h => hpr h.1)]
                  have HBD2 : Hid (Bd (1048576 + 73728 * (60 * r + (m + 1 : Nat))) (rndE pr l dr (m + 1))) := by show Bd _ _; rw [HX.out]; exact HBD.out.mono (by omega)
                  have HLN2 : Hid ((rndE pr l dr (m + 1)).length = k) := by show _ = _; rw [HX.out]; exact HLN.out
                  have HRW2 := Lib.hid (HRWe.out.ext HX.out)
                  clear HX HST HRWe HBD HLN
                  have hpr2 := ne_eqI hpr
                  clear hpr
                  go_wp2_with fail
                  go_roundw
                  case rel => exact ⟨m + 1, by omega, by go_num, HRW2, HBe, HBD2, HLN2⟩
                  case measure => simp [intOf] <;> omega
              · have hmn' : m = n := by omega
                subst hmn'
                rw [← HRn.out] at HRW HBD HLN
                have HBD2 : Hid (Bd (1048576 + 73728 * (60 * (r + 1 : Nat))) (earE pr l d0 (r + 1))) := HBD.out.mono (by omega)
                go_wp2_with fail
                go_roundg (k - (r + 1))
                case measure => omega
                case rel => exact ⟨r + 1, by omega, by go_num, by omega, HRW, HB, HBD2, HLN⟩
          · have hrk' : r = k := by omega
            subst hrk'
            have HR : Hid (earE pr l d0 r = res) := HE.out
            have hln := HLN.out
            go_wp2_with fail
            go_ret
            have h1 : L.Own W0.heap.size wr (.slice (some ⟨g, 0, none⟩) r cap) res := by
              have := HRW.out
              unfold L.Rw at this
              rw [hln] at this
              rw [← HR.out]; exact this
            exact liP h1 (over B0.out HB.out)

end Go.Proofs.YtegpebnkogjadaaDoor.T

