/-
  DERIVED. The walk of the law NetworkSlower.
-/
import Derived.Test.YtegpebnkogjadaaDoorNetLaw
import Derived.Test.YtegpebnkogjadaaDoorRefNet7
namespace Go.Proofs.YtegpebnkogjadaaDoor.T
open Go.RowKit
set_option maxRecDepth 8000

theorem dlE_len (l : List (Int × Int)) (t n : Int) : (dlE l t n).1.length ≤ l.length + 1 := by
  unfold dlE
  repeat' split
  all_goals simp
theorem upd_get {l : List ArcT} {f g t n : Int} {i : Nat} (hi : i < l.length) : (l.map (updF f g t n)).getD i arc0 = updF f g t n (l.getD i arc0) := by
  rw [List.getD_eq_getElem?_getD, List.getElem?_map, List.getD_eq_getElem?_getD, List.getElem?_eq_getElem hi]; rfl
theorem upd_small {pl : List ByteArray} {l : List ArcT} (h : NetOk pl l) (f g t n : Int) (i : Nat) (hi : i < (l.map (updF f g t n)).length) : ((l.map (updF f g t n)).getD i arc0).tr.length ≤ 17 ∧ ((l.map (updF f g t n)).getD i arc0).sl.length ≤ 17 := by
  rw [List.length_map] at hi
  rw [upd_get hi]
  have h1 := h.tr_le hi
  have h2 := dlE_len (l.getD i arc0).sl t n
  unfold updF
  split <;> constructor <;> (try simp only) <;> omega
/-- both of a kind: what is compared -/
def pif {α : Type} (x : Int) (l : List α) : List α := if x = 0 then l else []
theorem pif_small {α : Type} (x : Int) (l : List α) : (pif x l).length ≤ l.length := by unfold pif; split <;> simp
theorem swP_open {pl : List ByteArray} {l : List ArcT} {x : Int} {w : World} {e : Ending} {w' : World} (h : SwP pl l x w e w') :
    ∃ op cp oa ca, e = .returned (.tuple #[.agg #[.slice op (pif x pl).length cp, .slice oa (pif x l).length ca], .int .i64 x]) ∧ Ss w' (.slice op (pif x pl).length cp) (pif x pl) ∧ As w' (.slice oa (pif x l).length ca) (pif x l) ∧ Below w.heap.size w w' := by
  obtain ⟨vp, va, he, h0, h1, hb⟩ := h
  by_cases hx : x = 0
  · have e1 : pif x pl = pl := if_pos hx
    have e2 : pif x l = l := if_pos hx
    obtain ⟨hp, ha⟩ := h0 hx
    obtain ⟨op, cp, hvp, -⟩ := id hp
    obtain ⟨oa, ca, hva, -⟩ := id ha
    subst hvp
    subst hva
    rw [e1, e2]
    exact ⟨op, cp, oa, ca, he, hp, ha, hb⟩
  · have e1 : pif x pl = [] := if_neg hx
    have e2 : pif x l = [] := if_neg hx
    obtain ⟨rfl, rfl⟩ := h1 hx
    rw [e1, e2]
    exact ⟨none, 0, none, 0, he, Ss.nil _, As.nil _, hb⟩

set_option maxHeartbeats 3200000 in
theorem networkSlower_walk (vp va : Value) (pl : List ByteArray) (l : List ArcT) (f g t d : Int) (hp9 : pl.length ≤ 2000000) (hl : l.length ≤ 1000000) (hw9 : wtA l ≤ 1000000) (w : World) (hp : Ss w vp pl) (ha : As w va l) (hT : Tab w) :
    Calls Tryd.prog 6 #[.agg #[vp, va], .int .i64 f, .int .i64 g, .int .i64 t, .int .i64 d] w fun e w' => e = .returned (.bool true) ∧ Below w.heap.size w w' := by
  have KR := Lib.hid (fun w hp ha => right_n vp va pl l hp9 hl hw9 w hp ha)
  have KW := Lib.hid examples_n
  have KP := Lib.hid (fun (h : rightB pl l = true) w hp ha => (slower_n vp va pl l f g t d hl (right_ok h).2 w hp ha).mono fun e w' => swP_open)
  have KQ := Lib.hid (fun (h : rightB pl l = true) w hp ha => (refSlower_n vp va pl l f g t d hl (right_ok h).2 w hp ha).mono fun e w' => swP_open)
  have HLN : Hid (rightB pl l = true → (pif (sloE pl.length l f g t d) pl).length ≤ 1000000 ∧ (pif (sloE pl.length l f g t d) (l.map (updF f g t d))).length ≤ 1000000 ∧ ∀ i, i < (pif (sloE pl.length l f g t d) (l.map (updF f g t d))).length → ((pif (sloE pl.length l f g t d) (l.map (updF f g t d))).getD i arc0).tr.length ≤ 1000000000 ∧ ((pif (sloE pl.length l f g t d) (l.map (updF f g t d))).getD i arc0).sl.length ≤ 1000000000) := fun h => by
    have h0 := (right_ok h).2.places
    have h1 := pif_small (sloE pl.length l f g t d) pl
    have h2 := pif_small (sloE pl.length l f g t d) (l.map (updF f g t d))
    rw [List.length_map] at h2
    refine ⟨by omega, by omega, fun i hi => ?_⟩
    unfold pif at hi ⊢
    split at hi
    · rw [if_pos (by assumption)]
      have := upd_small (right_ok h).2 f g t d i hi
      omega
    · cases hi
  have BW := below_alloc w (.cells #[vp, va] 25)
  have HP := Lib.hid (hp.below BW)
  have HA := Lib.hid (ha.below BW)
  have HT := Lib.hid (hT.over BW)
  have B := Lib.hid BW
  have N := Lib.hid (Nb.made w vp va)
  obtain ⟨op, cp, hvp, -⟩ := id hp
  obtain ⟨oa, ca, hva, -⟩ := id ha
  subst hvp
  subst hva
  have g0 := N.out.c0
  have g1 := N.out.c1
  clear hp ha hT BW
  generalize rightB pl l = rb at *
  generalize sloE pl.length l f g t d = x at *
  generalize pif x (l.map (updF f g t d)) = R at *
  generalize pif x pl = Q at *
  cases rb
  · go_enter Tryd.func6, Tryd.ntmps6
    go_wp2_with fail
    refine (KR.out _ HP.out HA.out).mono ?_
    rintro e w1 ⟨rfl, b1⟩
    have HT := HT.out.over b1
    have BW := over B.out b1
    go_wp2_with fail
    refine (KW.out _ HT).mono ?_
    rintro e w5 ⟨rfl, b5⟩
    have BW := over BW b5
    go_wp2_with fail
    go_ret
    exact ⟨rfl, BW⟩
  · have KP2 := Lib.hid (KP.out rfl)
    have KQ2 := Lib.hid (KQ.out rfl)
    obtain ⟨hn1, hn2, hn3⟩ := HLN.out rfl
    have KI := Lib.hid (fun vp va vp' va' w hp ha hp' ha' => sameNet_eq vp va vp' va' Q R hn1 hn2 hn3 w hp ha hp' ha')
    clear KP KQ HLN hn1 hn2 hn3
    generalize Q.length = q at *
    generalize R.length = r at *
    go_enter Tryd.func6, Tryd.ntmps6
    go_wp2_with fail
    refine (KR.out _ HP.out HA.out).mono ?_
    rintro e w1 ⟨rfl, b1⟩
    have HT := Lib.hid (HT.out.over b1)
    have HP := Lib.hid (HP.out.below b1)
    have HA := Lib.hid (HA.out.below b1)
    have B := Lib.hid (over B.out b1)
    have N := Lib.hid (N.out.below b1)
    clear g0 g1 b1
    have g0 := N.out.c0
    have g1 := N.out.c1
    go_wp2_with fail
    refine (KP2.out _ HP.out HA.out).mono ?_
    rintro e w2 ⟨op2, cp2, oa2, ca2, rfl, hp2, ha2, b2⟩
    have BL := below_alloc w2 (.cells #[.slice op2 q cp2, .slice oa2 r ca2] 25)
    have BB := over b2 BL
    have M := Lib.hid (Nb.made w2 (.slice op2 q cp2) (.slice oa2 r ca2))
    have MP := Lib.hid (hp2.below BL)
    have MA := Lib.hid (ha2.below BL)
    have HT := Lib.hid (HT.out.over BB)
    have HP := Lib.hid (HP.out.below BB)
    have HA := Lib.hid (HA.out.below BB)
    have B := Lib.hid (over B.out BB)
    have N := Lib.hid (N.out.below BB)
    clear g0 g1 b2 BL BB hp2 ha2
    have g0 := N.out.c0
    have g1 := N.out.c1
    go_wp2_with fail
    refine (KQ2.out _ HP.out HA.out).mono ?_
    rintro e w3 ⟨op3, cp3, oa3, ca3, rfl, hp3, ha3, b3⟩
    have BL := below_alloc w3 (.cells #[.slice op3 q cp3, .slice oa3 r ca3] 25)
    have BB := over b3 BL
    have M' := Lib.hid (Nb.made w3 (.slice op3 q cp3) (.slice oa3 r ca3))
    have MP' := Lib.hid (hp3.below BL)
    have MA' := Lib.hid (ha3.below BL)
    have HT := Lib.hid (HT.out.over BB)
    have M := Lib.hid (M.out.below BB)
    have MP := Lib.hid (MP.out.below BB)
    have MA := Lib.hid (MA.out.below BB)
    have B := Lib.hid (over B.out BB)
    clear g0 g1 b3 BL BB hp3 ha3
    have g0 := M.out.c0
    have g1 := M.out.c1
    have h0 := M'.out.c0
    have h1 := M'.out.c1
    go_wp2_with fail
    refine (KI.out _ _ _ _ _ MP.out MA.out MP'.out MA'.out).mono ?_
    rintro e w4 ⟨rfl, b4⟩
    have HT := HT.out.over b4
    have BW := over B.out b4
    go_wp2_with fail
    refine (KW.out _ HT).mono ?_
    rintro e w5 ⟨rfl, b5⟩
    have BW := over BW b5
    go_wp2_with fail
    go_ret
    exact ⟨rfl, BW⟩

end Go.Proofs.YtegpebnkogjadaaDoor.T

