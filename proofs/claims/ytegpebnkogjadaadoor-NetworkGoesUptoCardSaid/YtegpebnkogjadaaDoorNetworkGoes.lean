/-
  DERIVED. The walk of the law NetworkGoes.
-/
import Derived.Test.YtegpebnkogjadaaDoorNetworkEarliest
namespace Go.Proofs.YtegpebnkogjadaaDoor.T
open Go.RowKit
set_option maxRecDepth 8000

theorem findA_mem {l : List ArcT} {pr f t : Int} {a : ArcT} (h : findA l pr f t = some a) : ∃ i, i < l.length ∧ l.getD i arc0 = a := by
  have h1 := List.mem_of_find?_eq_some h
  obtain ⟨i, hi, e⟩ := List.getElem_of_mem h1
  exact ⟨i, hi, by rw [List.getD_eq_getElem?_getD, List.getElem?_eq_getElem hi]; exact e⟩
theorem find_small {pl : List ByteArray} {l : List ArcT} (h : NetOk pl l) (pr f t : Int) : ((findA l pr f t).getD arc0).tr.length ≤ 1000000000 ∧ ((findA l pr f t).getD arc0).sl.length ≤ 1000000000 := by
  cases e : findA l pr f t with
  | none => exact ⟨by decide, by decide⟩
  | some a =>
    obtain ⟨i, hi, rfl⟩ := findA_mem e
    have := h.tr_le hi
    exact ⟨by simp only [Option.getD_some]; omega, by simp only [Option.getD_some]; omega⟩
theorem fdP_open {x : Option ArcT} {w : World} {e : Ending} {w' : World} (h : FdP x w e w') :
    ∃ ot ct os cs, e = .returned (.tuple #[.agg #[.int .i64 (x.getD arc0).fr, .int .i64 (x.getD arc0).to, .int .i64 (x.getD arc0).prof, .int .i64 (x.getD arc0).miles, .slice ot (x.getD arc0).tr.length ct, .slice os (x.getD arc0).sl.length cs], .bool x.isSome]) ∧
      Ps w' (.slice ot (x.getD arc0).tr.length ct) (x.getD arc0).tr ∧ Ps w' (.slice os (x.getD arc0).sl.length cs) (x.getD arc0).sl ∧ Below w.heap.size w w' := by
  obtain ⟨vt, vs, he, ht, hs, hb⟩ := h
  obtain ⟨ot, ct, hvt, -⟩ := id ht
  obtain ⟨os, cs, hvs, -⟩ := id hs
  subst hvt
  subst hvs
  exact ⟨ot, ct, os, cs, he, ht, hs, hb⟩

set_option maxHeartbeats 6400000 in
theorem networkGoes_walk (vp va : Value) (pl : List ByteArray) (l : List ArcT) (pr f g t : Int) (hp9 : pl.length ≤ 2000000) (hl : l.length ≤ 1000000) (hw9 : wtA l ≤ 1000000) (hI : Wfa l) (hpr : I64 pr) (hf : I64 f) (hg : I64 g) (w : World) (hp : Ss w vp pl) (ha : As w va l) (hT : Tab w) :
    Calls Tryd.prog 4 #[.agg #[vp, va], .int .i64 pr, .int .i64 f, .int .i64 g, .int .i64 t] w fun e w' => e = .returned (.bool true) ∧ Below w.heap.size w w' := by
  have KR := Lib.hid (fun w hp ha => right_n vp va pl l hp9 hl hw9 w hp ha)
  have KW := Lib.hid examples_n
  have KD := Lib.hid (fun w => lawTick_n t w)
  have KP := Lib.hid (fun (h : rightB pl l = true) w ha => (find_n vp va pl l pr f g hl (right_ok h).2 hI hpr hf hg w ha).mono fun e w' => fdP_open)
  have KQ := Lib.hid (fun w ha => (refFind_n vp va l pr f g (by omega) w ha).mono fun e w' => fdP_open)
  have KG := Lib.hid (fun (h : rightB pl l = true) (h0 : 0 ≤ t) (h1 : t ≤ 1048576) w hp ha hT => go_n vp va pl l pr f g t hl (right_ok h).2 h0 (by omega) w hp ha hT)
  have KH := Lib.hid (fun (h : rightB pl l = true) (h0 : 0 ≤ t) (h1 : t ≤ 1048576) w hp ha => refGo_n vp va pl l pr f g t (by omega) (right_ok h).2 h0 (by omega) w hp ha)
  have HS : Hid (rightB pl l = true → ((findA l pr f g).getD arc0).tr.length ≤ 1000000000 ∧ ((findA l pr f g).getD arc0).sl.length ≤ 1000000000) := fun h => find_small (right_ok h).2 _ _ _
  have BW := below_alloc w (.cells #[vp, va] 25)
  have HP := Lib.hid (hp.below BW)
  have HA := Lib.hid (ha.below BW)
  have HT := Lib.hid (hT.over BW)
  have B := Lib.hid BW
  have N := Lib.hid (Nb.made w vp va)
  obtain ⟨op, cp, hvp, -⟩ := id hp
  obtain ⟨oa, ca, hva, -⟩ := id ha
  subst hvp
  subst hva
  have g0 := N.out.c0
  have g1 := N.out.c1
  clear hp ha hT BW hI
  generalize rightB pl l = rb at *
  generalize goV pl.length l pr f g t = r at *
  generalize findA l pr f g = X at *
  generalize X.isSome = xs at *
  generalize X.getD arc0 = a at *
  obtain ⟨r1, r2, r3⟩ := r
  cases rb
  · go_enter Tryd.func4, Tryd.ntmps4
    go_wp2_with fail
    refine (KR.out _ HP.out HA.out).mono ?_
    rintro e w1 ⟨rfl, b1⟩
    have HT := HT.out.over b1
    have BW := over B.out b1
    go_wp2_with fail
    refine (KW.out _ HT).mono ?_
    rintro e w5 ⟨rfl, b5⟩
    have BW := over BW b5
    go_wp2_with fail
    go_ret
    exact ⟨rfl, BW⟩
  by_cases hd : depB t = true
  · obtain ⟨d0, d1⟩ := depB_and hd
    rw [hd] at KD
    have KP2 := Lib.hid (KP.out rfl)
    have KG2 : Hid (∀ w hp ha hT, Calls _ _ _ w fun e w' => e = .returned (.tuple #[.int .i64 r1, .int .i64 r2, .int .i64 r3]) ∧ Below w.heap.size w w') := KG.out rfl d0 d1
    have KH2 : Hid (∀ w hp ha, Calls _ _ _ w fun e w' => e = .returned (.tuple #[.int .i64 r1, .int .i64 r2, .int .i64 r3]) ∧ Below w.heap.size w w') := KH.out rfl d0 d1
    obtain ⟨hn1, hn2⟩ := HS.out rfl
    have KI := Lib.hid (fun vt vs vt' vs' w ht hs ht' hs' => sameArc_eq vt vs vt' vs' a hn1 hn2 w ht hs ht' hs')
    clear KP KG KH HS hn1 hn2
    obtain ⟨fr, dt, pr', mi, tr, sl⟩ := a
    simp only at KP2 KQ KI
    generalize tr.length = nt at *
    generalize sl.length = ns at *
    go_enter Tryd.func4, Tryd.ntmps4
    go_wp2_with fail
    refine (KR.out _ HP.out HA.out).mono ?_
    rintro e w1 ⟨rfl, b1⟩
    have HT := Lib.hid (HT.out.over b1)
    have HP := Lib.hid (HP.out.below b1)
    have HA := Lib.hid (HA.out.below b1)
    have B := Lib.hid (over B.out b1)
    have N := Lib.hid (N.out.below b1)
    clear g0 g1 b1
    have g0 := N.out.c0
    have g1 := N.out.c1
    go_wp2_with fail
    refine (KD.out _).mono ?_
    rintro e w2 ⟨rfl, rfl⟩
    go_wp2_with fail
    refine (KP2.out _ HA.out).mono ?_
    rintro e w2 ⟨ot2, ct2, os2, cs2, rfl, ht2, hs2, b2⟩
    have BL := below_alloc w2 (.cells #[.int .i64 fr, .int .i64 dt, .int .i64 pr', .int .i64 mi, .slice ot2 nt ct2, .slice os2 ns cs2] 36)
    have BB := over b2 BL
    have M := Lib.hid (Ab.made w2 (.int .i64 fr) (.int .i64 dt) (.int .i64 pr') (.int .i64 mi) (.slice ot2 nt ct2) (.slice os2 ns cs2))
    have MT := Lib.hid (ht2.below BL)
    have MS := Lib.hid (hs2.below BL)
    have HT := Lib.hid (HT.out.over BB)
    have HP := Lib.hid (HP.out.below BB)
    have HA := Lib.hid (HA.out.below BB)
    have B := Lib.hid (over B.out BB)
    have N := Lib.hid (N.out.below BB)
    clear g0 g1 b2 BL BB ht2 hs2
    have g0 := N.out.c0
    have g1 := N.out.c1
    go_wp2_with fail
    refine (KQ.out _ HA.out).mono ?_
    rintro e w3 ⟨ot3, ct3, os3, cs3, rfl, ht3, hs3, b3⟩
    have BL := below_alloc w3 (.cells #[.int .i64 fr, .int .i64 dt, .int .i64 pr', .int .i64 mi, .slice ot3 nt ct3, .slice os3 ns cs3] 36)
    have BB := over b3 BL
    have M' := Lib.hid (Ab.made w3 (.int .i64 fr) (.int .i64 dt) (.int .i64 pr') (.int .i64 mi) (.slice ot3 nt ct3) (.slice os3 ns cs3))
    have MT' := Lib.hid (ht3.below BL)
    have MS' := Lib.hid (hs3.below BL)
    have M := Lib.hid (M.out.below BB)
    have MT := Lib.hid (MT.out.below BB)
    have MS := Lib.hid (MS.out.below BB)
    have HT := Lib.hid (HT.out.over BB)
    have HP := Lib.hid (HP.out.below BB)
    have HA := Lib.hid (HA.out.below BB)
    have B := Lib.hid (over B.out BB)
    have N := Lib.hid (N.out.below BB)
    clear g0 g1 b3 BL BB ht3 hs3
    have g0 := N.out.c0
    have g1 := N.out.c1
    go_wp2_with fail
    refine (KG2.out _ HP.out HA.out HT.out).mono ?_
    rintro e w4 ⟨rfl, b4⟩
    have M := Lib.hid (M.out.below b4)
    have MT := Lib.hid (MT.out.below b4)
    have MS := Lib.hid (MS.out.below b4)
    have M' := Lib.hid (M'.out.below b4)
    have MT' := Lib.hid (MT'.out.below b4)
    have MS' := Lib.hid (MS'.out.below b4)
    have HT := Lib.hid (HT.out.over b4)
    have HP := Lib.hid (HP.out.below b4)
    have HA := Lib.hid (HA.out.below b4)
    have B := Lib.hid (over B.out b4)
    have N := Lib.hid (N.out.below b4)
    clear g0 g1 b4
    have g0 := N.out.c0
    have g1 := N.out.c1
    go_wp2_with fail
    refine (KH2.out _ HP.out HA.out).mono ?_
    rintro e w5 ⟨rfl, b5⟩
    have M := Lib.hid (M.out.below b5)
    have MT := Lib.hid (MT.out.below b5)
    have MS := Lib.hid (MS.out.below b5)
    have M' := Lib.hid (M'.out.below b5)
    have MT' := Lib.hid (MT'.out.below b5)
    have MS' := Lib.hid (MS'.out.below b5)
    have HT := Lib.hid (HT.out.over b5)
    have B := Lib.hid (over B.out b5)
    clear g0 g1 b5
    have a0 := M.out.c0
    have a1 := M.out.c1
    have a2 := M.out.c2
    have a3 := M.out.c3
    have a4 := M.out.c4
    have a5 := M.out.c5
    have z0 := M'.out.c0
    have z1 := M'.out.c1
    have z2 := M'.out.c2
    have z3 := M'.out.c3
    have z4 := M'.out.c4
    have z5 := M'.out.c5
    go_wp2_with fail
    refine (KI.out _ _ _ _ _ MT.out MS.out MT'.out MS'.out).mono ?_
    rintro e w6 ⟨rfl, b6⟩
    have HT := HT.out.over b6
    have BW := over B.out b6
    clear a0 a1 a2 a3 a4 a5 z0 z1 z2 z3 z4 z5
    go_wp2_with fail
    refine (KW.out _ HT).mono ?_
    rintro e w7 ⟨rfl, b7⟩
    have BW := over BW b7
    go_wp2_with fail
    go_ret
    exact ⟨rfl, BW⟩
  · have hd' : depB t = false := by simpa using hd
    rw [hd'] at KD
    go_enter Tryd.func4, Tryd.ntmps4
    go_wp2_with fail
    refine (KR.out _ HP.out HA.out).mono ?_
    rintro e w1 ⟨rfl, b1⟩
    have HT := HT.out.over b1
    have BW := over B.out b1
    clear g0 g1
    go_wp2_with fail
    refine (KD.out _).mono ?_
    rintro e w2 ⟨rfl, rfl⟩
    go_wp2_with fail
    refine (KW.out _ HT).mono ?_
    rintro e w5 ⟨rfl, b5⟩
    have BW := over BW b5
    go_wp2_with fail
    go_ret
    exact ⟨rfl, BW⟩

end Go.Proofs.YtegpebnkogjadaaDoor.T

