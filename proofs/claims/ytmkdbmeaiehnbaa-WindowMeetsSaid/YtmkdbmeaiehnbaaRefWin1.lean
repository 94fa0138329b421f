/-
  DERIVED. The walk of the specification's Check.
-/
import Derived.Test.YtmkdbmeaiehnbaaWinRow
namespace Go.Proofs.Ytmkdbmeaiehnbaa.V
open Go.RowKit
set_option maxRecDepth 8000

set_option maxHeartbeats 800000 in
theorem refCheck_n (p o c s : Int) (w : World) : Calls Try.prog 9 #[.agg #[.int .i64 p, .int .i64 o, .int .i64 c, .int .i64 s]] w fun e w' => e = .returned (.int .i64 (chk p o c s)) ∧ Below w.heap.size w w' := by
  by_cases h0 : p = -1
  · subst h0
    by_cases h1 : o = 0
    · subst h1
      by_cases h2 : c = 0
      · subst h2
        by_cases h3 : s = 0
        · subst h3
          have HR : Hid (0 = chk (-1) 0 0 0) := (chk_none ⟨rfl, rfl, rfl, rfl⟩).symm
          generalize chk (-1) 0 0 0 = r at *
          go_enter Try.func9, Try.ntmps9
          go_wp2_with fail
          go_ret
          exact ⟨ret_int HR.out, by go_grown⟩
        · have HR : Hid (2 = chk (-1) 0 0 s) := (chk_no (by omega) (by omega)).symm
          have e3 := ne_eqI h3
          generalize chk (-1) 0 0 s = r at *
          go_enter Try.func9, Try.ntmps9
          go_wp2_with fail
          go_ret
          exact ⟨ret_int HR.out, by go_grown⟩
      · have HR : Hid (2 = chk (-1) 0 c s) := (chk_no (by omega) (by omega)).symm
        have e3 := ne_eqI h2
        generalize chk (-1) 0 c s = r at *
        go_enter Try.func9, Try.ntmps9
        go_wp2_with fail
        go_ret
        exact ⟨ret_int HR.out, by go_grown⟩
    · have HR : Hid (2 = chk (-1) o c s) := (chk_no (by omega) (by omega)).symm
      have e3 := ne_eqI h1
      generalize chk (-1) o c s = r at *
      go_enter Try.func9, Try.ntmps9
      go_wp2_with fail
      go_ret
      exact ⟨ret_int HR.out, by go_grown⟩
  · have e0 := ne_eqI h0
    by_cases h1 : p < 0
    · have HR : Hid (2 = chk p o c s) := (chk_no (by omega) (by omega)).symm
      generalize chk p o c s = r at *
      go_enter Try.func9, Try.ntmps9
      go_wp2_with fail
      go_ret
      exact ⟨ret_int HR.out, by go_grown⟩
    · by_cases h2 : o < 0
      · have HR : Hid (2 = chk p o c s) := (chk_no (by omega) (by omega)).symm
        generalize chk p o c s = r at *
        go_enter Try.func9, Try.ntmps9
        go_wp2_with fail
        go_ret
        exact ⟨ret_int HR.out, by go_grown⟩
      · by_cases h3 : c < o
        · have HR : Hid (2 = chk p o c s) := (chk_no (by omega) (by omega)).symm
          generalize chk p o c s = r at *
          go_enter Try.func9, Try.ntmps9
          go_wp2_with fail
          go_ret
          exact ⟨ret_int HR.out, by go_grown⟩
        · by_cases h4 : 4096 < c
          · have HR : Hid (2 = chk p o c s) := (chk_no (by omega) (by omega)).symm
            generalize chk p o c s = r at *
            go_enter Try.func9, Try.ntmps9
            go_wp2_with fail
            go_ret
            exact ⟨ret_int HR.out, by go_grown⟩
          · by_cases h5 : s < 0
            · have HR : Hid (2 = chk p o c s) := (chk_no (by omega) (by omega)).symm
              generalize chk p o c s = r at *
              go_enter Try.func9, Try.ntmps9
              go_wp2_with fail
              go_ret
              exact ⟨ret_int HR.out, by go_grown⟩
            · by_cases h6 : 4096 < s
              · have HR : Hid (2 = chk p o c s) := (chk_no (by omega) (by omega)).symm
                generalize chk p o c s = r at *
                go_enter Try.func9, Try.ntmps9
                go_wp2_with fail
                go_ret
                exact ⟨ret_int HR.out, by go_grown⟩
              · have HR : Hid (0 = chk p o c s) := (chk_at (by omega)).symm
                generalize chk p o c s = r at *
                go_enter Try.func9, Try.ntmps9
                go_wp2_with fail
                go_ret
                exact ⟨ret_int HR.out, by go_grown⟩

end Go.Proofs.Ytmkdbmeaiehnbaa.V
