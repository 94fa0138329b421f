/-
  DERIVED. The walk of the law NetworkChecks.
-/
import Derived.Test.YtegpebnkogjadaaDoorNetLaw
import Derived.Test.YtegpebnkogjadaaDoorNetErr5
namespace Go.Proofs.YtegpebnkogjadaaDoor.T
open Go.RowKit
set_option maxRecDepth 8000

theorem networkChecks_long (op : Option Addr) (np cp : Nat) (oa : Option Addr) (n c : Nat) (h : 30 < np ∨ 1100 < n) (w : World) (hT : Tab w) :
    Calls Tryd.prog 3 #[.agg #[.slice op np cp, .slice oa n c]] w fun e w' => e = .returned (.bool true) ∧ Below w.heap.size w w' := by
  have KW := Lib.hid examples_n
  have BW := below_alloc w (.cells #[.slice op np cp, .slice oa n c] 25)
  have HT := Lib.hid (hT.over BW)
  have B := Lib.hid BW
  have N := Nb.made w (.slice op np cp) (.slice oa n c)
  have g0 := N.c0
  have g1 := N.c1
  clear BW hT
  by_cases h1 : 30 < np
  · have hI : (30 : Int) < (np : Int) := by omega
    go_enter Tryd.func3, Tryd.ntmps3
    go_wp2_with fail
    refine (KW.out _ HT.out).mono ?_
    rintro e w1 ⟨rfl, b1⟩
    have B1 := Lib.hid (over B.out b1)
    go_wp2_with fail
    go_ret
    exact ⟨rfl, B1.out⟩
  · have hI : ¬ (30 : Int) < (np : Int) := by omega
    have hJ : (1100 : Int) < (n : Int) := by omega
    go_enter Tryd.func3, Tryd.ntmps3
    go_wp2_with fail
    refine (KW.out _ HT.out).mono ?_
    rintro e w1 ⟨rfl, b1⟩
    have B1 := Lib.hid (over B.out b1)
    go_wp2_with fail
    go_ret
    exact ⟨rfl, B1.out⟩

set_option maxHeartbeats 3200000 in
theorem networkChecks_walk (vp va : Value) (pl : List ByteArray) (l : List ArcT) (hz : ∀ i, i < pl.length → (pl.getD i ⟨#[]⟩).size ≤ maxLen) (hw9 : wtA l ≤ 1000000) (hI : Wfa l) (w : World) (hp : Ss w vp pl) (ha : As w va l) (hT : Tab w) :
    Calls Tryd.prog 3 #[.agg #[vp, va]] w fun e w' => e = .returned (.bool true) ∧ Below w.heap.size w w' := by
  by_cases h : 30 < pl.length ∨ 1100 < l.length
  · obtain ⟨op, cp, rfl, -⟩ := hp
    obtain ⟨oa, c, rfl, -⟩ := ha
    exact networkChecks_long _ _ _ _ _ _ h w hT
  have h1 : pl.length ≤ 30 := by omega
  have h2 : l.length ≤ 1100 := by omega
  have K1 := Lib.hid (fun w hp ha hT => netCheck_n vp va pl l (by omega) hz (by omega) hw9 hI w hp ha hT)
  have K2 := Lib.hid (fun w hp ha => refNet_n vp va pl l (by omega) (by omega) hw9 w hp ha)
  have KW := Lib.hid examples_n
  have hlen : (netF pl l).length ≤ 3000000 := by
    have h3 := ntF_len pl l l.length (Nat.le_refl _)
    rw [List.take_length] at h3
    unfold netF
    omega
  have BW := below_alloc w (.cells #[vp, va] 25)
  have HP := hp.below BW
  have HA := ha.below BW
  have HT := hT.over BW
  have N := Nb.made w vp va
  obtain ⟨op, cp, hvp, -⟩ := id hp
  obtain ⟨oa, c, hva, -⟩ := id ha
  subst hvp
  subst hva
  obtain ⟨W0, hW0⟩ : ∃ W0, w.alloc (.cells #[.slice op pl.length cp, .slice oa l.length c] 25) = W0 := ⟨_, rfl⟩
  rw [hW0] at HP HA HT BW N
  have B0 := Lib.hid BW
  have HP0 := Lib.hid HP
  have HA0 := Lib.hid HA
  have HT0 := Lib.hid HT
  have N0 := Lib.hid N
  have g0 := N.c0
  have g1 := N.c1
  have hI1 : ¬ (30 : Int) < (pl.length : Int) := by omega
  have hI2 : ¬ (1100 : Int) < (l.length : Int) := by omega
  clear hp ha hT hz hI h h1 h2 HP HA HT N BW hw9
  generalize netF pl l = F at *
  generalize hm : F.length = m at *
  have hne : ((m : Int) != (m : Int)) = false := by simp
  go_enter Tryd.func3, Tryd.ntmps3
  go_upto_region 3 with fail
  clear hW0
  go_cut [3, 4] from 17 to 20 (fun v v' wx => ∃ oa1 c1 oa2 c2, v = .slice oa1 m c1 ∧ v' = .slice oa2 m c2 ∧ Hid (Fs wx (.slice oa1 m c1) F) ∧ Hid (Fs wx (.slice oa2 m c2) F) ∧ Hid (Below W0.heap.size W0 wx))
  case first => as_aux_lemma =>
    have HP : Ss W0.drew _ pl := HP0.out
    have HA : As W0.drew _ l := HA0.out
    have HT : Tab W0.drew := HT0.out
    have N : Nb W0.drew w.heap.size _ _ := N0.out
    have BW : Below W0.heap.size W0 W0.drew := below_drew (Below.refl _ _)
    clear g0 g1
    have g0 := N.c0
    have g1 := N.c1
    go_region_with (first
      | (go_at_call 9; (with_reducible refine (K1.out _ HP HA HT).mono ?_); rintro e wm ⟨oa1, c1, rfl, ⟨hs1, -, -⟩, bm⟩; have HT := HT.over bm; have HP := HP.below bm; have HA := HA.below bm; have BW := over BW bm; have N := N.below bm; have g0 := N.c0; have g1 := N.c1; have E1 := hs1; (try have E2 := Sl.below E2 bm))
      | (go_at_call 10; (with_reducible refine (K2.out _ HP HA).mono ?_); rintro e wm ⟨oa2, c2, rfl, ⟨hs2, -, -⟩, bm⟩; have HT := HT.over bm; have HP := HP.below bm; have HA := HA.below bm; have BW := over BW bm; have N := N.below bm; have g0 := N.c0; have g1 := N.c1; have E2 := hs2; (try have E1 := Sl.below E1 bm)))
    all_goals
      have BWx := Lib.hid BW
      have E1x := Lib.hid E1
      have E2x := Lib.hid E2
      (try rw [hm] at E1x)
      (try rw [hm] at E2x)
      clear HT HP HA N g0 g1 BW E1 E2 hs1 hs2
      go_wp2_with fail
      go_meet
      case rel => exact ⟨_, _, _, _, rfl, rfl, E1x, E2x, BWx⟩
  clear g0 g1 K1 K2
  obtain ⟨oa1, c1, oa2, c2, rfl, rfl, S1, S2, B1⟩ := hcut
  obtain ⟨oa3, c3, h3, ha3⟩ := S1.out
  obtain ⟨oa4, c4, h4, ha4⟩ := S2.out
  simp only [Value.slice.injEq] at h3 h4
  obtain ⟨rfl, -, rfl⟩ := h3
  obtain ⟨rfl, -, rfl⟩ := h4
  have A1 := Lib.hid ha3
  have A2 := Lib.hid ha4
  rw [hm] at A1 A2
  have B2 := Lib.hid (over B0.out B1.out)
  have HT2 := Lib.hid (HT0.out.over B1.out)
  clear ha3 ha4 S1 S2 hm
  go_wp2_with fail
  go_loopw [28] (fun i wr => ∃ k : Nat, k ≤ m ∧ i = .int .i64 k ∧ Hid (Below wc.heap.size wc wr)) (fun i _ => m - (intOf i).toNat)
  case atStart => exact ⟨0, Nat.zero_le _, rfl, Below.refl _ _⟩
  case round =>
    obtain ⟨k, hk, rfl, HW⟩ := hrel
    by_cases hlt : k < m
    · obtain ⟨b1, o1, rfl, hab, hc0, hc1⟩ := A1.out k hlt
      obtain ⟨b2, o2, rfl, hbb, he0, he1⟩ := A2.out k hlt
      have d0 := (HW.out.cell (p := ⟨b1, o1 + k * 2, none⟩) hab).trans hc0
      have d1 := (HW.out.cell (p := ⟨b1, o1 + k * 2 + 1, none⟩) hab).trans hc1
      have d2 := (HW.out.cell (p := ⟨b2, o2 + k * 2, none⟩) hbb).trans he0
      have d3 := (HW.out.cell (p := ⟨b2, o2 + k * 2 + 1, none⟩) hbb).trans he1
      unfold fE at d0 d2
      unfold fA at d1 d3
      clear hc0 hc1 he0 he1
      have hkI : (k : Int) < (m : Int) := by omega
      generalize F.getD k (0, ⟨#[]⟩) = p at *
      obtain ⟨x, y⟩ := p
      simp only at d0 d1 d2 d3
      go_wp2_with fail
      go_quiet (fail)
      go_wp2_with fail
      go_roundw
      case rel => exact ⟨k + 1, by omega, by go_num, below_drewN HW.out _⟩
      case measure => simp [intOf] <;> omega
    · have hk' : k = m := by omega
      subst hk'
      have HT3 := Lib.hid (HT2.out.over HW.out)
      go_wp2_with fail
      refine (KW.out _ HT3.out).mono ?_
      rintro e w3 ⟨rfl, b3⟩
      have B3 := Lib.hid (over (over B2.out HW.out) b3)
      go_wp2_with fail
      go_ret
      exact ⟨rfl, B3.out⟩

end Go.Proofs.YtegpebnkogjadaaDoor.T

