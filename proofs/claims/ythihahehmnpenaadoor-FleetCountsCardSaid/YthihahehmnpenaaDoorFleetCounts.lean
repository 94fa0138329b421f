/-
  DERIVED. The walk of FleetCounts.
-/
import Derived.Test.YthihahehmnpenaaDoorFlAwake
namespace Go.Proofs.YthihahehmnpenaaDoor.T
open Go.RowKit
set_option maxRecDepth 8000

theorem fleetCounts_walk (v : Value) (l : List TyT) (hl : l.length ≤ 9223372036854775807) (hz : ∀ i, i < l.length → (l.getD i ty0).cap.length ≤ 9223372036854775807 ∧ (l.getD i ty0).name.size ≤ 9223372036854775807) (w : World) (hv : Ts w v l) (hT : Tab w) :
    Calls Tryd.prog 4 #[v] w fun e w' => e = .returned (.bool true) ∧ Below w.heap.size w w' := by
  have HF := Lib.hid (few_n v l hl hz w hv)
  have HT := Lib.hid hT
  have HV := Lib.hid hv
  cases hb : fewB l
  · rw [hb] at HF
    clear hz hv hT hb
    go_enter Tryd.func4, Tryd.ntmps4
    go_wp2_with fail
    refine HF.out.mono ?_
    rintro e w1 ⟨rfl, rfl⟩
    go_wp2_with fail
    refine (awake_n _ HT.out).mono ?_
    rintro e w2 ⟨rfl, b2⟩
    go_wp2_with fail
    go_ret
    exact ⟨rfl, b2⟩
  · obtain ⟨h10, hcs⟩ := few_spec hb
    rw [hb] at HF
    have K1 := Lib.hid (fun w hv => dims_n v l (by omega) w hv)
    have K2 := Lib.hid (fun w hv => refDims_n v l (by omega) w hv)
    have K3 := Lib.hid (fun w hv => total_n v l (by omega) w hv)
    have K4 := Lib.hid (fun w hv => refTotal_n v l (by omega) w hv)
    generalize dimsF l = d at *
    generalize totF l = t at *
    clear hz hv hT hb hcs h10 hl
    have hdd : ((d : Int) == (d : Int)) = true := by simp
    have htt : (t == t) = true := by simp
    go_enter Tryd.func4, Tryd.ntmps4
    go_wp2_with fail
    refine HF.out.mono ?_
    rintro e w1 ⟨rfl, rfl⟩
    go_wp2_with fail
    refine (K1.out _ HV.out).mono ?_
    rintro e w1 ⟨rfl, rfl⟩
    go_wp2_with fail
    refine (K2.out _ HV.out).mono ?_
    rintro e w1 ⟨rfl, rfl⟩
    go_wp2_with fail
    refine (K3.out _ HV.out).mono ?_
    rintro e w2 ⟨rfl, b2⟩
    have B2 := Lib.hid b2
    have HV2 := Lib.hid (HV.out.below b2)
    clear b2
    go_wp2_with fail
    refine (K4.out _ HV2.out).mono ?_
    rintro e w3 ⟨rfl, b3⟩
    have B3 := Lib.hid (over B2.out b3)
    have HT3 := Lib.hid (HT.out.over B3.out)
    clear b3
    go_wp2_with fail
    refine (awake_n _ HT3.out).mono ?_
    rintro e w4 ⟨rfl, b4⟩
    have B4 := Lib.hid (over B3.out b4)
    clear b4
    go_wp2_with fail
    go_ret
    exact ⟨rfl, B4.out⟩

end Go.Proofs.YthihahehmnpenaaDoor.T

