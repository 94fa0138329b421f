/-
  DERIVED. The walk of LoadsFit.
-/
import Derived.Test.YtcnagcdgpgijaaaLoadLaw
namespace Go.Proofs.Ytcnagcdgpgijaaa.L
open Go.RowKit
set_option maxRecDepth 8000

theorem loadsFit_walk (u v : Value) (a b : List Int) (d : Int) (hla : a.length ≤ 1000000000000000) (w : World) (hu : Li w u a) (hv : Li w v b) :
    Calls Try.prog 3 #[u, v, .int .i64 d] w fun e w' => e = .returned (.bool true) ∧ Below w.heap.size w w' := by
  have H1 := Lib.hid (loadRight_n u a d hla w hu)
  have H2 := Lib.hid (refRight_n u a d hla w hu)
  have H3 := Lib.hid (loadFits_n u v a b hla w hu hv)
  have H4 := Lib.hid (refFits_n u v a b hla w hu hv)
  have H5 := Lib.hid (fun w' (hb : Below w.heap.size w w') => loadFits_n u u a a hla w' (hu.below hb) (hu.below hb))
  have H6 := Lib.hid examples_n
  rw [fitsB_refl] at H5
  generalize rightB a d = r at *
  generalize fitsB a b = q at *
  have hrr : (r == r) = true := by simp
  have hqq : (q == q) = true := by simp
  clear hu hv
  go_enter Try.func3, Try.ntmps3
  go_wp2_with fail
  refine H1.out.mono ?_
  rintro e w1 ⟨rfl, rfl⟩
  go_wp2_with fail
  refine H2.out.mono ?_
  rintro e w1 ⟨rfl, rfl⟩
  go_wp2_with fail
  refine H3.out.mono ?_
  rintro e w1 ⟨rfl, rfl⟩
  go_wp2_with fail
  refine H4.out.mono ?_
  rintro e w1 ⟨rfl, b1⟩
  have HB1 := Lib.hid b1
  clear b1
  go_wp2_with fail
  refine (H5.out _ HB1.out).mono ?_
  rintro e w2 ⟨rfl, rfl⟩
  go_wp2_with fail
  refine (H6.out _).mono ?_
  rintro e w2 ⟨rfl, b2⟩
  have HB2 := Lib.hid b2
  clear b2
  go_wp2_with fail
  go_ret
  exact ⟨rfl, over HB1.out HB2.out⟩

end Go.Proofs.Ytcnagcdgpgijaaa.L
