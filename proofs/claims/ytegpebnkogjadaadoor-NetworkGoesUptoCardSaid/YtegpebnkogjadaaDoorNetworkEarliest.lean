/-
  DERIVED. The walk of the law NetworkEarliest.
-/
import Derived.Test.YtegpebnkogjadaaDoorNetLaw
import Derived.Test.YtegpebnkogjadaaDoorRefNet7
namespace Go.Proofs.YtegpebnkogjadaaDoor.T
open Go.RowKit
set_option maxRecDepth 8000

theorem depB_and {t : Int} (h : depB t = true) : 0 ≤ t ∧ t ≤ 1048576 := by
  unfold depB at h
  rw [Bool.and_eq_true, decide_eq_true_iff, decide_eq_true_iff] at h
  exact h

theorem stpE_len (pr : Int) (d : List Int) (a : ArcT) : (stpE pr d a).length = d.length := by unfold stpE; split <;> (try split) <;> simp
theorem rndE_len (pr : Int) : ∀ (l : List ArcT) (d : List Int), (l.foldl (stpE pr) d).length = d.length
  | [], _ => rfl
  | a :: l, d => by rw [List.foldl_cons, rndE_len pr l, stpE_len]
theorem earE_len (pr : Int) (l : List ArcT) (d : List Int) : ∀ r, (earE pr l d r).length = d.length
  | 0 => rfl
  | r + 1 => by
    show (rndE pr l (earE pr l d r) l.length).length = _
    unfold rndE
    rw [rndE_len, earE_len pr l d r]
theorem earL_len (np : Nat) (l : List ArcT) (pr f t : Int) : (earL np l pr f t).length = np := by unfold earL; rw [earE_len, iniE_len]

set_option maxHeartbeats 3200000 in
theorem networkEarliest_walk (vp va : Value) (pl : List ByteArray) (l : List ArcT) (pr f t : Int) (hp9 : pl.length ≤ 2000000) (hl : l.length ≤ 1000000) (hw9 : wtA l ≤ 1000000) (hI : Wfa l) (hpr : I64 pr) (w : World) (hp : Ss w vp pl) (ha : As w va l) (hT : Tab w) :
    Calls Tryd.prog 5 #[.agg #[vp, va], .int .i64 pr, .int .i64 f, .int .i64 t] w fun e w' => e = .returned (.bool true) ∧ Below w.heap.size w w' := by
  have KR := Lib.hid (fun w hp ha => right_n vp va pl l hp9 hl hw9 w hp ha)
  have KW := Lib.hid examples_n
  have KD := Lib.hid (fun w => lawTick_n t w)
  have KP := Lib.hid (fun (h : rightB pl l = true) (h0 : 0 ≤ t) (h1 : t ≤ 1048576) w hp ha hT => earliest_n vp va pl l pr f t (right_ok h).1 (right_ok h).2 hI hpr h0 h1 w hp ha hT)
  have KQ := Lib.hid (fun (h : rightB pl l = true) (h0 : 0 ≤ t) (h1 : t ≤ 1048576) w hp ha => refEarliest_n vp va pl l pr f t (right_ok h).1 (right_ok h).2 h0 h1 w hp ha)
  have HLN : Hid (rightB pl l = true → (earL pl.length l pr f t).length ≤ 1000000000) := fun h => by
    have h1 := earL_len pl.length l pr f t
    have h2 := (right_ok h).2.places
    omega
  have BW := below_alloc w (.cells #[vp, va] 25)
  have HP := hp.below BW
  have HA := ha.below BW
  have HT := hT.over BW
  have N := Nb.made w vp va
  obtain ⟨op, cp, hvp, -⟩ := id hp
  obtain ⟨oa, ca, hva, -⟩ := id ha
  subst hvp
  subst hva
  have g0 := N.c0
  have g1 := N.c1
  clear hp ha hT hI hpr
  generalize rightB pl l = rb at *
  generalize earL pl.length l pr f t = r at *
  cases rb
  · go_enter Tryd.func5, Tryd.ntmps5
    go_wp2_with fail
    refine (KR.out _ HP HA).mono ?_
    rintro e w1 ⟨rfl, b1⟩
    have HT := HT.over b1
    have BW := over BW b1
    go_wp2_with fail
    refine (KW.out _ HT).mono ?_
    rintro e w5 ⟨rfl, b5⟩
    have BW := over BW b5
    go_wp2_with fail
    go_ret
    exact ⟨rfl, BW⟩
  by_cases hd : depB t = true
  · obtain ⟨d0, d1⟩ := depB_and hd
    rw [hd] at KD
    have KP2 := Lib.hid (KP.out rfl d0 d1)
    have KQ2 := Lib.hid (KQ.out rfl d0 d1)
    have HLN2 := HLN.out rfl
    have KI := Lib.hid (fun u v w hu hv => ints_eq u v r HLN2 w hu hv)
    clear KP KQ HLN
    go_enter Tryd.func5, Tryd.ntmps5
    go_wp2_with fail
    refine (KR.out _ HP HA).mono ?_
    rintro e w1 ⟨rfl, b1⟩
    have HT := HT.over b1
    have HP := HP.below b1
    have HA := HA.below b1
    have BW := over BW b1
    have N := N.below b1
    have g0 := N.c0
    have g1 := N.c1
    clear b1
    go_wp2_with fail
    refine (KD.out _).mono ?_
    rintro e w2 ⟨rfl, rfl⟩
    have BW : Below w.heap.size w w1.drew := below_drew BW
    have HP : Ss w1.drew _ pl := HP
    have HA : As w1.drew _ l := HA
    have HT : Tab w1.drew := HT
    have N : Nb w1.drew w.heap.size _ _ := N
    go_wp2_with fail
    go_region_with (first
      | (go_at_call 19; (with_reducible refine (KP2.out _ HP HA HT).mono ?_); rintro e wm ⟨oa1, ca1, rfl, hl1, bm⟩; have HT := HT.over bm; have HP := HP.below bm; have HA := HA.below bm; have BW := over BW bm; have N := N.below bm; have g0 := N.c0; have g1 := N.c1; have E1 := hl1; (try have E2 := L.Li.below E2 bm))
      | (go_at_call 20; (with_reducible refine (KQ2.out _ HP HA).mono ?_); rintro e wm ⟨oa2, ca2, rfl, hl2, bm⟩; have HT := HT.over bm; have HP := HP.below bm; have HA := HA.below bm; have BW := over BW bm; have N := N.below bm; have g0 := N.c0; have g1 := N.c1; have E2 := hl2; (try have E1 := L.Li.below E1 bm))
      | (go_at_call 18; (with_reducible refine (KI.out _ _ _ E1 E2).mono ?_); rintro e wm ⟨rfl, bm⟩; have HT := HT.over bm; have BW := over BW bm)
      | (go_at_call 8; (with_reducible refine (KW.out _ HT).mono ?_); rintro e wm ⟨rfl, bm⟩; have BW := over BW bm))
    all_goals
      go_wp2_with fail
      go_ret
      exact ⟨rfl, BW⟩
  · have hd' : depB t = false := by simpa using hd
    rw [hd'] at KD
    go_enter Tryd.func5, Tryd.ntmps5
    go_wp2_with fail
    refine (KR.out _ HP HA).mono ?_
    rintro e w1 ⟨rfl, b1⟩
    have HT := HT.over b1
    have BW := over BW b1
    have N := N.below b1
    have g0 := N.c0
    have g1 := N.c1
    go_wp2_with fail
    refine (KD.out _).mono ?_
    rintro e w2 ⟨rfl, rfl⟩
    go_wp2_with fail
    refine (KW.out _ HT).mono ?_
    rintro e w5 ⟨rfl, b5⟩
    have BW := over BW b5
    go_wp2_with fail
    go_ret
    exact ⟨rfl, BW⟩

end Go.Proofs.YtegpebnkogjadaaDoor.T

