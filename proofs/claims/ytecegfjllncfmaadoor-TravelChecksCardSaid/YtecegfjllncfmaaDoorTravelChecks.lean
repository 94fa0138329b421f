/-
  DERIVED. The walk of the law TravelChecks.
-/
import Derived.Test.YtecegfjllncfmaaDoorTravLaw
namespace Go.Proofs.YtecegfjllncfmaaDoor.T
open Go.RowKit
set_option maxRecDepth 8000

theorem travelChecks_long (n c : Nat) (oa : Option Addr) (h : 40 < n) (w : World) :
    Calls Tryd.prog 3 #[.slice oa n c] w fun e w' => e = .returned (.bool true) ∧ Below w.heap.size w w' := by
  have KW := Lib.hid awake_n
  have hI : (40 : Int) < (n : Int) := by omega
  go_enter Tryd.func3, Tryd.ntmps3
  go_wp2_with fail
  refine (KW.out _).mono ?_
  rintro e w1 ⟨rfl, b1⟩
  go_wp2_with fail
  go_ret
  exact ⟨rfl, b1⟩
set_option maxHeartbeats 800000 in
theorem travelChecks_walk (u : Value) (l : List (Int × Int)) (w : World) (hu : Ps w u l) :
    Calls Tryd.prog 3 #[u] w fun e w' => e = .returned (.bool true) ∧ Below w.heap.size w w' := by
  by_cases h : l.length ≤ 40
  · have K1 := Lib.hid (fun w hu => check_n u l (by omega) w hu)
    have K2 := Lib.hid (fun w hu => refCheck_n u l (by omega) w hu)
    have HU := Lib.hid hu
    have KW := Lib.hid awake_n
    have hlen : (faults l).length ≤ 81 := by have := flt_len l l.length; unfold faults; omega
    obtain ⟨oa, c, rfl, -⟩ := hu
    have hI : ¬ (40 : Int) < (l.length : Int) := by omega
    generalize faults l = F at *
    generalize l.length = n at *
    generalize hm : F.length = m at *
    have hne : ((m : Int) != (m : Int)) = false := by simp
    go_enter Tryd.func3, Tryd.ntmps3
    go_wp2_with fail
    refine (K1.out _ HU.out).mono ?_
    rintro e w1 ⟨oa1, c1, rfl, hs1, b1⟩
    rw [hm] at hs1 ⊢
    have HU1 := Lib.hid (HU.out.below b1)
    have B1 := Lib.hid b1
    have S1 := Lib.hid hs1
    clear b1 hs1 HU
    go_wp2_with fail
    refine (K2.out _ HU1.out).mono ?_
    rintro e w2 ⟨oa2, c2, rfl, hs2, b2⟩
    rw [hm] at hs2 ⊢
    have S1 := Lib.hid (S1.out.below b2)
    have B2 := Lib.hid (over B1.out b2)
    have S2 := Lib.hid hs2
    clear b2 hs2 HU1 B1 K1 K2
    obtain ⟨oa3, c3, h3, ha3⟩ := S1.out
    obtain ⟨oa4, c4, h4, ha4⟩ := S2.out
    simp only [Value.slice.injEq] at h3 h4
    obtain ⟨rfl, -, rfl⟩ := h3
    obtain ⟨rfl, -, rfl⟩ := h4
    have A1 := Lib.hid ha3
    have A2 := Lib.hid ha4
    rw [hm] at A1 A2
    clear ha3 ha4 S1 S2 hm
    go_wp2_with fail
    go_loopw [5] (fun i wr => ∃ k : Nat, k ≤ m ∧ i = .int .i64 k ∧ Hid (Below w2.heap.size w2 wr)) (fun i _ => m - (intOf i).toNat)
    case atStart => exact ⟨0, Nat.zero_le _, rfl, Below.refl _ _⟩
    case round =>
      obtain ⟨k, hk, rfl, HW⟩ := hrel
      by_cases hlt : k < m
      · obtain ⟨b1, o1, rfl, hab, hc0, hc1⟩ := A1.out k hlt
        obtain ⟨b2, o2, rfl, hbb, he0, he1⟩ := A2.out k hlt
        have d0 := (HW.out.cell (p := ⟨b1, o1 + k * 2, none⟩) hab).trans hc0
        have d1 := (HW.out.cell (p := ⟨b1, o1 + k * 2 + 1, none⟩) hab).trans hc1
        have d2 := (HW.out.cell (p := ⟨b2, o2 + k * 2, none⟩) hbb).trans he0
        have d3 := (HW.out.cell (p := ⟨b2, o2 + k * 2 + 1, none⟩) hbb).trans he1
        unfold fE at d0 d2
        unfold fA at d1 d3
        clear hc0 hc1 he0 he1
        have hkI : (k : Int) < (m : Int) := by omega
        generalize F.getD k (0, ⟨#[]⟩) = p at *
        obtain ⟨x, y⟩ := p
        simp only at d0 d1 d2 d3
        go_wp2_with fail
        go_quiet (fail)
        go_wp2_with fail
        go_roundw
        case rel => exact ⟨k + 1, by omega, by go_num, below_drewN HW.out _⟩
        case measure => simp [intOf]; omega
      · have hk' : k = m := by omega
        subst hk'
        go_wp2_with fail
        refine (KW.out _).mono ?_
        rintro e w3 ⟨rfl, b3⟩
        have B3 := Lib.hid (over (over B2.out HW.out) b3)
        go_wp2_with fail
        go_ret
        exact ⟨rfl, B3.out⟩
  · obtain ⟨oa, c, rfl, -⟩ := hu
    exact travelChecks_long _ _ _ (by omega) w

end Go.Proofs.YtecegfjllncfmaaDoor.T
