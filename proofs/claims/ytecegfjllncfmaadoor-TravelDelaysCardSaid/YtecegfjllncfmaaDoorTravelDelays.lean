/-
  DERIVED. The walk of the law TravelDelays.
-/
import Derived.Test.YtecegfjllncfmaaDoorTravLaw
namespace Go.Proofs.YtecegfjllncfmaaDoor.T
open Go.RowKit
set_option maxRecDepth 8000

theorem travelDelays_long (n c : Nat) (oa : Option Addr) (f n' : Int) (h : 40 < n) (w : World) :
    Calls Tryd.prog 7 #[.slice oa n c, .int .i64 f, .int .i64 n'] w fun e w' => e = .returned (.bool true) ∧ Below w.heap.size w w' := by
  have KW := Lib.hid awake_n
  have hI : (40 : Int) < (n : Int) := by omega
  go_enter Tryd.func7, Tryd.ntmps7
  go_wp2_with fail
  refine (KW.out _).mono ?_
  rintro e w1 ⟨rfl, b1⟩
  go_wp2_with fail
  go_ret
  exact ⟨rfl, b1⟩
set_option maxHeartbeats 1600000 in
theorem travelDelays_walk (u : Value) (l : List (Int × Int)) (f n : Int) (w : World) (hu : Ps w u l) :
    Calls Tryd.prog 7 #[u, .int .i64 f, .int .i64 n] w fun e w' => e = .returned (.bool true) ∧ Below w.heap.size w w' := by
  by_cases h : l.length ≤ 40
  · have K1 := Lib.hid (fun w hu => slower_n u l f n w hu (by omega))
    have HU := Lib.hid hu
    have KW := Lib.hid awake_n
    by_cases hE : slowE l f n = 0
    · obtain ⟨hO, hf, hn, hS, hSL⟩ := slow_said hE
      have KC := Lib.hid (fun v w hv => check_n v (slow l f n) (by omega) w hv)
      have hC0 : (faults (slow l f n)).length = 0 := by unfold okB at hS; exact of_decide_eq_true hS
      have KA := Lib.hid (fun t w hu => arrive_n u l t w hu (by omega))
      have HM := Lib.hid (fun k (hk : k < (slow l f n).length) => slow_mem hO hf.1 hf.2 (n := n) _ (getD_mem (d := (0, 0)) hk))
      have HY := Lib.hid (fun t (h0 : 0 ≤ t) (h1 : t ≤ 4096) => arrF_yes hO (t := t) h0 (by omega))
      have HBd := Lib.hid (fun t (h0 : 0 ≤ t) => arr_ge hO h0)
      rw [hE, slowL_ok hE] at K1
      obtain ⟨oa, c, rfl, -⟩ := hu
      have hI : ¬ (40 : Int) < (l.length : Int) := by omega
      generalize l.length = m at *
      generalize hcl : (faults (slow l f n)).length = z at *
      subst hC0
      have hcl2 := Lib.hid hcl
      generalize slow l f n = S at *
      obtain ⟨hn0, hn1⟩ := hn
      obtain ⟨hf0, hf1⟩ := hf
      clear hE hO hS hcl
      generalize hsl : S.length = s at *
      go_enter Tryd.func7, Tryd.ntmps7
      go_wp2_with fail
      refine (K1.out _ HU.out).mono ?_
      rintro e w1 ⟨oa1, c1, rfl, hs1, b1⟩
      rw [hsl] at hs1 ⊢
      have HU1 := Lib.hid (HU.out.below b1)
      have B1 := Lib.hid b1
      have S1 := Lib.hid hs1
      clear b1 HU hs1
      go_wp2_with fail
      refine (KC.out _ _ S1.out).mono ?_
      rintro e w2 ⟨oa2, c2, rfl, -, b2⟩
      rw [hcl2.out]
      have HU2 := Lib.hid (HU1.out.below b2)
      have B2 := Lib.hid (over B1.out b2)
      have S2 := Lib.hid (S1.out.below b2)
      clear b2 HU1 B1 S1 KC
      obtain ⟨oa3, c3, h3, ha3⟩ := S2.out
      simp only [Value.slice.injEq] at h3
      obtain ⟨rfl, -, rfl⟩ := h3
      have A1 := Lib.hid ha3
      rw [hsl] at A1
      clear ha3 S2 hsl
      go_wp2_with fail
      go_loopw [9] (fun i wr => ∃ k : Nat, k ≤ s ∧ i = .int .i64 k ∧ Hid (Below w2.heap.size w2 wr)) (fun i _ => s - (intOf i).toNat)
      case atStart => exact ⟨0, Nat.zero_le _, rfl, Below.refl _ _⟩
      case round =>
        obtain ⟨k, hk, rfl, HW⟩ := hrel
        by_cases hlt : k < s
        · obtain ⟨b1, o1, rfl, hab, hc0, hc1⟩ := A1.out k hlt
          have d0 := (HW.out.cell (p := ⟨b1, o1 + k * 2, none⟩) hab).trans hc0
          have d1 := (HW.out.cell (p := ⟨b1, o1 + k * 2 + 1, none⟩) hab).trans hc1
          unfold pT at d0
          unfold pA at d1
          clear hc0 hc1
          obtain ⟨h0, h1, h2⟩ := HM.out k hlt
          have HU3 := Lib.hid (HU2.out.below HW.out)
          have hbw := Nat.lt_of_lt_of_le hab HW.out.size
          generalize S.getD k (0, 0) = p at *
          obtain ⟨x, y⟩ := p
          simp only at d0 d1 h0 h1 h2
          have KA2 := Lib.hid (fun w hu => KA.out x w hu)
          rw [HY.out x h0 h1] at KA2
          have hbd := HBd.out x h0
          unfold newA at h2
          generalize arr l x = q at *
          by_cases hfx : f ≤ x
          · rw [if_pos hfx] at h2
            have hne : (y != q + n) = false := by rw [h2]; simp
            have HNE := Lib.hid hne
            clear h2 hne
            go_wp2_with fail
            refine (KA2.out _ HU3.out).mono ?_
            rintro e w3 ⟨rfl, b3⟩
            have e0 := (b3.cell (p := ⟨b1, o1 + k * 2, none⟩) hbw).trans d0
            have e1 := (b3.cell (p := ⟨b1, o1 + k * 2 + 1, none⟩) hbw).trans d1
            have HW3 := Lib.hid (over HW.out b3)
            have hne := HNE.out
            clear b3 d0 d1
            go_wp2_with fail
            go_roundw
            case rel => exact ⟨k + 1, by omega, by go_num, HW3⟩
            case measure => simp [intOf]; omega
          · rw [if_neg hfx] at h2
            have hne : (y != q) = false := by rw [h2]; simp
            have HNE := Lib.hid hne
            clear h2 hne
            go_wp2_with fail
            refine (KA2.out _ HU3.out).mono ?_
            rintro e w3 ⟨rfl, b3⟩
            have e0 := (b3.cell (p := ⟨b1, o1 + k * 2, none⟩) hbw).trans d0
            have e1 := (b3.cell (p := ⟨b1, o1 + k * 2 + 1, none⟩) hbw).trans d1
            have HW3 := Lib.hid (over HW.out b3)
            have hne := HNE.out
            clear b3 d0 d1
            go_wp2_with fail
            go_roundw
            case rel => exact ⟨k + 1, by omega, by go_num, HW3⟩
            case measure => simp [intOf]; omega
        · have hk' : k = s := by omega
          subst hk'
          go_wp2_with fail
          refine (KW.out _).mono ?_
          rintro e w5 ⟨rfl, b5⟩
          have B5 := Lib.hid (over (over B2.out HW.out) b5)
          go_wp2_with fail
          go_ret
          exact ⟨rfl, B5.out⟩
    · have hL := slowL_no (l := l) (f := f) (n := n) rfl hE
      rw [hL] at K1
      obtain ⟨oa, c, rfl, -⟩ := hu
      have hI : ¬ (40 : Int) < (l.length : Int) := by omega
      generalize l.length = m at *
      generalize slowE l f n = q at *
      have hq : (q != 0) = true := ne_neI hE
      clear hE hL
      go_enter Tryd.func7, Tryd.ntmps7
      go_wp2_with fail
      refine (K1.out _ HU.out).mono ?_
      rintro e w1 ⟨oa1, c1, rfl, -, b1⟩
      have B1 := Lib.hid b1
      clear b1
      go_wp2_with fail
      refine (KW.out _).mono ?_
      rintro e w5 ⟨rfl, b5⟩
      have B5 := Lib.hid (over B1.out b5)
      go_wp2_with fail
      go_ret
      exact ⟨rfl, B5.out⟩
  · obtain ⟨oa, c, rfl, -⟩ := hu
    exact travelDelays_long _ _ _ _ _ (by omega) w

end Go.Proofs.YtecegfjllncfmaaDoor.T
