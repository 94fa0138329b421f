/-
  DERIVED. The walk of FleetParts.
-/
import Derived.Test.YthihahehmnpenaaDoorFlAwake
namespace Go.Proofs.YthihahehmnpenaaDoor.T
open Go.RowKit
set_option maxRecDepth 8000

theorem chk_cap {l : List (Int × ByteArray)} {w w' : World} {e : Ending} (h : ChkP l w e w') : ∃ oa c, e = .returned (.slice oa l.length c) ∧ (l.length ≤ c ∧ (oa = none → c = 0)) ∧ Fs w' (.slice oa l.length c) l ∧ Below w.heap.size w w' := by
  obtain ⟨oa, c, he, ⟨hf, hg, h00⟩, hb⟩ := h
  refine ⟨oa, c, he, ⟨?_, h00⟩, hf, hb⟩
  rcases hg.own.2 with ⟨hv, h0⟩ | ⟨g, cap, cur, hv, hbg, hgg, hnc, rest⟩
  · simp only [Value.slice.injEq] at hv
    omega
  · simp only [Value.slice.injEq] at hv
    omega
theorem fs_take {w : World} {oa : Option Addr} {c c' : Nat} {a : List (Int × ByteArray)} (m : Nat) (hm : m ≤ a.length) (h : Fs w (.slice oa a.length c) a) : Fs w (.slice oa m c') (a.take m) := by
  obtain ⟨oa', c2, hv, h⟩ := h
  simp only [Value.slice.injEq] at hv
  obtain ⟨rfl, -, rfl⟩ := hv
  refine ⟨oa, c', by rw [List.length_take, Nat.min_eq_left hm], fun i hi => ?_⟩
  rw [List.length_take] at hi
  obtain ⟨b, o, ha, hl, h0, h1⟩ := h i (by omega)
  have e : (a.take m).getD i (0, ⟨#[]⟩) = a.getD i (0, ⟨#[]⟩) := by
    rw [List.getD_eq_getElem?_getD, List.getD_eq_getElem?_getD, List.getElem?_take_of_lt (by omega)]
  rw [e]
  exact ⟨b, o, ha, hl, h0, h1⟩
theorem ts_take {w : World} {oa : Option Addr} {c c' : Nat} {l : List TyT} (m : Nat) (hm : m ≤ l.length) (h : Ts w (.slice oa l.length c) l) : Ts w (.slice oa m c') (l.take m) := by
  obtain ⟨oa', c2, hv, h⟩ := h
  simp only [Value.slice.injEq] at hv
  obtain ⟨rfl, -, rfl⟩ := hv
  refine ⟨oa, c', by rw [List.length_take, Nat.min_eq_left hm], fun i hi => ?_⟩
  rw [List.length_take] at hi
  obtain ⟨b, o, vc, ha, hl, hc, ht⟩ := h i (by omega)
  rw [take_get (by omega)]
  exact ⟨b, o, vc, ha, hl, hc, ht⟩

set_option maxHeartbeats 12800000 in
theorem fleetParts_walk (op : Option Addr) (np cp : Nat) (on : Option Addr) (na ca : Nat) (oa : Option Addr) (c : Nat) (l : List TyT) (k : Int) (hnp : np ≤ 9223372036854775807) (hl : l.length ≤ 9223372036854775807) (hcap : l.length ≤ c) (hz : ∀ i, i < l.length → (l.getD i ty0).cap.length ≤ 9223372036854775807 ∧ (l.getD i ty0).name.size ≤ 9223372036854775807) (w : World) (hv : Ts w (.slice oa l.length c) l) (hT : Tab w) :
    Calls Tryd.prog 7 #[.agg #[.slice op np cp, .slice on na ca], .slice oa l.length c, .int .i64 k] w fun e w' => e = .returned (.bool true) ∧ Below w.heap.size w w' := by
  have BW := below_alloc w (.cells #[.slice op np cp, .slice on na ca] 25)
  have HV := Lib.hid (hv.below BW)
  have N0 := Nb.made w (.slice op np cp) (.slice on na ca)
  have HT0 := Lib.hid (hT.over BW)
  have HF := Lib.hid (few_n (.slice oa l.length c) l hl hz _ HV.out)
  have AW := Lib.hid (fun w hT => awake_n w hT)
  have AW0 := Lib.hid (AW.out _ HT0.out)
  have B0 := Lib.hid BW
  by_cases hA : fewB l = false
  · rw [hA] at HF
    generalize l.length = n at *
    clear hz hv hT hA
    go_enter Tryd.func7, Tryd.ntmps7
    go_wp2_with fail
    refine HF.out.mono ?_
    rintro e w1 ⟨rfl, rfl⟩
    go_wp2_with fail
    refine AW0.out.mono ?_
    rintro e w2 ⟨rfl, b2⟩
    have B2 := Lib.hid (over B0.out b2)
    clear b2
    go_wp2_with fail
    go_ret
    exact ⟨rfl, B2.out⟩
  have hA : fewB l = true := by cases h : fewB l <;> simp_all
  obtain ⟨h10, hcs⟩ := few_spec hA
  rw [hA] at HF
  by_cases h6 : 6 < l.length
  · have h6I : (6 : Int) < (l.length : Int) := by omega
    generalize l.length = n at *
    clear hz hv hT hA hcs
    go_enter Tryd.func7, Tryd.ntmps7
    go_wp2_with fail
    refine HF.out.mono ?_
    rintro e w1 ⟨rfl, rfl⟩
    go_wp2_with fail
    refine AW0.out.mono ?_
    rintro e w2 ⟨rfl, b2⟩
    have B2 := Lib.hid (over B0.out b2)
    clear b2
    go_wp2_with fail
    go_ret
    exact ⟨rfl, B2.out⟩
  have h6I : ¬ (6 : Int) < (l.length : Int) := by omega
  by_cases hk1 : k < 1
  · generalize l.length = n at *
    clear hz hv hT hA hcs
    go_enter Tryd.func7, Tryd.ntmps7
    go_wp2_with fail
    refine HF.out.mono ?_
    rintro e w1 ⟨rfl, rfl⟩
    go_wp2_with fail
    refine AW0.out.mono ?_
    rintro e w2 ⟨rfl, b2⟩
    have B2 := Lib.hid (over B0.out b2)
    clear b2
    go_wp2_with fail
    go_ret
    exact ⟨rfl, B2.out⟩
  by_cases hkn : (l.length : Int) < k
  · generalize l.length = n at *
    clear hz hv hT hA hcs
    go_enter Tryd.func7, Tryd.ntmps7
    go_wp2_with fail
    refine HF.out.mono ?_
    rintro e w1 ⟨rfl, rfl⟩
    go_wp2_with fail
    refine AW0.out.mono ?_
    rintro e w2 ⟨rfl, b2⟩
    have B2 := Lib.hid (over B0.out b2)
    clear b2
    go_wp2_with fail
    go_ret
    exact ⟨rfl, B2.out⟩
  obtain ⟨m, rfl⟩ := Int.eq_ofNat_of_zero_le (show 0 ≤ k by omega)
  have hm1 : 1 ≤ m := by omega
  have hmn : m ≤ l.length := by omega
  obtain ⟨rest, hrest⟩ := fleet_part (np := np) hm1 hmn (by omega)
  have hLb : (fleetF np (l.take m)).length ≤ 1000000000 := by
    have := flF_len np (l.take m) (l.take m).length
    have h2 : (l.take m).length ≤ 10 := by rw [List.length_take]; omega
    unfold fleetF
    omega
  have hLa : (fleetF np l).length ≤ 1000000000 := by
    have := flF_len np l l.length
    unfold fleetF
    omega
  have hle : (fleetF np (l.take m)).length ≤ (fleetF np l).length := by rw [hrest, List.length_append]; omega
  have hpre : (fleetF np l).take (fleetF np (l.take m)).length = fleetF np (l.take m) := by rw [hrest, List.take_left']; rfl
  have HV2 := Lib.hid (fun w (hv : Ts w (.slice oa l.length c) l) => ts_take (c' := c) m hmn hv)
  have K1 := Lib.hid (fun w hv hT => flCheck_n op np cp on na ca (.slice oa l.length c) l (by omega) hnp (fun i hi => ⟨by have := (hcs i hi).1; omega, by have := (hcs i hi).2; unfold maxLen; omega⟩) w hv hT)
  have K2 := Lib.hid (fun w hv hT => flCheck_n op np cp on na ca (.slice oa m c) (l.take m) (by rw [List.length_take]; omega) hnp (fun i hi => by
    rw [List.length_take] at hi
    rw [take_get (by omega)]
    exact ⟨by have := (hcs i (by omega)).1; omega, by have := (hcs i (by omega)).2; unfold maxLen; omega⟩) w hv hT)
  have KF := Lib.hid (fun u v w hu hv => faults_n u v (fleetF np (l.take m)) hLb w hu hv)
  clear hrest hcs hz hA hT hv
  generalize fleetF np (l.take m) = Lb at *
  generalize fleetF np l = La at *
  have hoa : ∃ ad, oa = some ad := by
    obtain ⟨oa', c', hvv, hh⟩ := HV.out
    simp only [Value.slice.injEq] at hvv
    obtain ⟨rfl, -, rfl⟩ := hvv
    obtain ⟨b, o, _, ha, -⟩ := hh 0 (by omega)
    exact ⟨_, ha⟩
  obtain ⟨ad, rfl⟩ := hoa
  have HP := Lib.hid hpre
  generalize hn : l.length = n at *
  clear hn hpre
  have hkn2 : ¬ (n : Int) < (m : Int) := by omega
  have hmc : (m : Int) ≤ (c : Int) := by omega
  have hm0 : (0 : Int) ≤ (m : Int) := by omega
  have g0 := N0.c0
  have g1 := N0.c1
  have HN := Lib.hid N0
  clear N0 AW0
  go_enter Tryd.func7, Tryd.ntmps7
  go_wp2_with fail
  refine HF.out.mono ?_
  rintro e w1 ⟨rfl, rfl⟩
  go_wp2_with fail
  refine (K1.out _ HV.out HT0.out).mono ?_
  intro e w2 h2
  obtain ⟨o1, c1, rfl, ⟨hc1, hc1n⟩, hf1, b2⟩ := chk_cap h2
  have B2 := Lib.hid (over B0.out b2)
  have HV3 := Lib.hid (HV.out.below b2)
  have HT2 := Lib.hid (HT0.out.over b2)
  have HN2 := Lib.hid (HN.out.below b2)
  have HF1 := Lib.hid hf1
  clear h2 b2 hf1 HF K1 g0 g1 HN
  have g0 := HN2.out.c0
  have g1 := HN2.out.c1
  have hnl : w.heap.size < w2.drew.heap.size := HN2.out.lt
  have HVd : Hid (Ts w2.drew (.slice (some ad) m c) (l.take m)) := HV2.out _ HV3.out
  have HTd : Hid (Tab w2.drew) := HT2
  have HBd : Hid (Below w.heap.size w w2.drew) := below_drew B2.out
  have HFd : Hid (Fs w2.drew (.slice o1 La.length c1) La) := HF1
  go_upto_region 4 with fail
  clear B2 HV3 HT2 HN2 HF1 HV HV2 HT0 B0
  go_region_held3 (fun w' => w'.cell? ⟨w.heap.size, 0, none⟩ = some (.slice op np cp) ∧ w'.cell? ⟨w.heap.size, 1, none⟩ = some (.slice on na ca))
    (first | exact ⟨g0, g1⟩)
    (first
      | (go_at_call 10; (with_reducible refine (K2.out _ HVd.out HTd.out).mono ?_); intro e wz hz1; obtain ⟨o2, c2, rfl, hc2, hf2, bz⟩ := chk_cap hz1; have HF2 := Lib.hid hf2; have HF1 := Lib.hid (Sl.below HFd.out bz); have HBd := Lib.hid (over HBd.out bz); have HTd := Lib.hid (HTd.out.over bz); have g0 := (bz.cell (p := ⟨w.heap.size, 0, none⟩) hnl).trans g0; have g1 := (bz.cell (p := ⟨w.heap.size, 1, none⟩) hnl).trans g1))
  have hleI : (Lb.length : Int) ≤ (La.length : Int) := by omega
  have hbc : (Lb.length : Int) ≤ (c1 : Int) := by omega
  have hb0 : (0 : Int) ≤ (Lb.length : Int) := by omega
  have HF3 := Lib.hid (fs_take (c' := c1) Lb.length hle HF1.out)
  rw [HP.out] at HF3
  cases o1 with
  | none =>
    have hz0 := fs_nil HFd.out
    subst hz0
    have hz1 : Lb = [] := List.eq_nil_of_length_eq_zero (by simpa using hle)
    subst hz1
    have hz2 := hc1n rfl
    subst hz2
    simp only [List.length_nil] at *
    go_wp2_with fail
    refine (KF.out _ _ _ HF3.out HF2.out).mono ?_
    rintro e w5 ⟨rfl, b5⟩
    have B5 := Lib.hid (over HBd.out b5)
    have HT5 := Lib.hid (HTd.out.over b5)
    clear b5
    go_wp2_with fail
    refine (AW.out _ HT5.out).mono ?_
    rintro e w6 ⟨rfl, b6⟩
    have B6 := Lib.hid (over B5.out b6)
    clear b6
    go_wp2_with fail
    go_ret
    exact ⟨rfl, B6.out⟩
  | some ad1 =>
    go_wp2_with fail
    refine (KF.out _ _ _ HF3.out HF2.out).mono ?_
    rintro e w5 ⟨rfl, b5⟩
    have B5 := Lib.hid (over HBd.out b5)
    have HT5 := Lib.hid (HTd.out.over b5)
    clear b5
    go_wp2_with fail
    refine (AW.out _ HT5.out).mono ?_
    rintro e w6 ⟨rfl, b6⟩
    have B6 := Lib.hid (over B5.out b6)
    clear b6
    go_wp2_with fail
    go_ret
    exact ⟨rfl, B6.out⟩

end Go.Proofs.YthihahehmnpenaaDoor.T

