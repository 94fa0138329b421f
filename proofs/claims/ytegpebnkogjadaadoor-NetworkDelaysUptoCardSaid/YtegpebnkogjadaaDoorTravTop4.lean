/-
  DERIVED. The walks of travel: Arrive, Latest, Same; sort.Search.
-/
import Derived.Test.YtegpebnkogjadaaDoorTravTop3
import Derived.Test.YtegpebnkogjadaaDoorTravPure2
namespace Go.Proofs.YtegpebnkogjadaaDoor.T
open Go.RowKit
set_option maxRecDepth 8000

theorem arrive_day (u : Value) (l : List (Int × Int)) (t : Int) (h : t < 0 ∨ 1073741824 < t) (w : World) :
    Calls Tryd.prog 54 #[u, .int .i64 t] w fun e w' => e = .returned (.int .i64 (arrF l t)) ∧ Below w.heap.size w w' := by
  have HR : Hid (0 = arrF l t) := (arrF_day h).symm
  generalize arrF l t = r at *
  rcases h with h | h
  · go_enter Tryd.func54, Tryd.ntmps54
    go_wp2_with fail
    go_ret
    exact ⟨ret_int HR.out, Below.refl _ _⟩
  · have h2 : ¬ t < 0 := by omega
    go_enter Tryd.func54, Tryd.ntmps54
    go_wp2_with fail
    go_ret
    exact ⟨ret_int HR.out, Below.refl _ _⟩
theorem arrive_n (u : Value) (l : List (Int × Int)) (t : Int) (w : World) (hu : Ps w u l) (ht : Tab w) (hl9 : l.length ≤ 1000000000000000) :
    Calls Tryd.prog 54 #[u, .int .i64 t] w fun e w' => e = .returned (.int .i64 (arrF l t)) ∧ Below w.heap.size w w' := by
  by_cases h : t < 0 ∨ 1073741824 < t
  · exact arrive_day u l t h w
  · have h0 : 0 ≤ t := by omega
    have h1 : t ≤ 1073741824 := by omega
    have h2 : ¬ t < 0 := by omega
    have h3 : ¬ 1073741824 < t := by omega
    have K := Lib.hid (isTravel_n u l w hu ht hl9)
    have HU := Lib.hid hu
    clear ht
    cases hok : okB l
    · rw [hok] at K
      have HR : Hid (0 = arrF l t) := (arrF_not hok).symm
      generalize arrF l t = r at *
      clear h hu
      go_enter Tryd.func54, Tryd.ntmps54
      go_wp2_with fail
      refine K.out.mono ?_
      rintro e w1 ⟨rfl, b1⟩
      go_wp2_with fail
      go_ret
      exact ⟨ret_int HR.out, b1⟩
    · rw [hok] at K
      have HR : Hid (arr l t = arrF l t) := (arrF_yes ((okB_iff l).1 hok) h0 h1).symm
      have KA := Lib.hid (fun w hu => arrival_n u l t ((okB_iff l).1 hok) h0 h1 w hu)
      generalize arrF l t = r at *
      generalize arr l t = q at *
      clear h hu hok
      go_enter Tryd.func54, Tryd.ntmps54
      go_wp2_with fail
      refine K.out.mono ?_
      rintro e w1 ⟨rfl, b1⟩
      have B1 := Lib.hid b1
      have HU1 := Lib.hid (HU.out.below b1)
      clear b1
      go_wp2_with fail
      refine (KA.out _ HU1.out).mono ?_
      rintro e w2 ⟨rfl, b2⟩
      have B2 := Lib.hid (over B1.out b2)
      clear b2
      go_wp2_with fail
      go_ret
      exact ⟨ret_int HR.out, B2.out⟩


end Go.Proofs.YtegpebnkogjadaaDoor.T

