/-
  DERIVED. The walks of fleet's small functions: isUpTo, isCount, isCapacity, areCosts, Dims, Total, Able, numbers.
-/
import Derived.Test.YthihahehmnpenaaDoorRefFl2
import Derived.Test.YthihahehmnpenaaDoorFlPure2
namespace Go.Proofs.YthihahehmnpenaaDoor.T
open Go.RowKit
set_option maxRecDepth 8000

theorem upTo_n (x m : Int) (w : World) : Calls Tryd.prog 32 #[.int .i64 x, .int .i64 m] w fun e w' => e = .returned (.bool (rgB 0 m x)) ∧ w = w' := by
  by_cases h1 : 0 ≤ x
  · have HR : Hid (decide (x ≤ m) = rgB 0 m x) := by show _ = _; unfold rgB; rw [decide_eq_true h1, Bool.true_and]
    generalize rgB 0 m x = r at *
    go_enter Tryd.func32, Tryd.ntmps32
    go_wp2_with fail
    go_ret
    exact ⟨ret_bool HR.out, rfl⟩
  · have HR : Hid (false = rgB 0 m x) := by show _ = _; unfold rgB; rw [decide_eq_false h1, Bool.false_and]
    have h2 : x < 0 := by omega
    generalize rgB 0 m x = r at *
    go_enter Tryd.func32, Tryd.ntmps32
    go_wp2_with fail
    go_ret
    exact ⟨ret_bool HR.out, rfl⟩
theorem count_n (x : Int) (w : World) : Calls Tryd.prog 27 #[.int .i64 x] w fun e w' => e = .returned (.bool (rgB 0 10 x)) ∧ w = w' := by
  have K := Lib.hid (fun w => upTo_n x 10 w)
  generalize rgB 0 10 x = r at *
  go_enter Tryd.func27, Tryd.ntmps27
  go_wp2_with fail
  refine (K.out _).mono ?_
  rintro e w1 ⟨rfl, rfl⟩
  go_wp2_with fail
  go_ret
  exact ⟨rfl, rfl⟩
theorem capacity_n (u : Value) (l : List Int) (d : Nat) (hl : l.length ≤ 1000000000) (hd : d ≤ 1000000000) (w : World) (hu : L.Li w u l) :
    Calls Tryd.prog 33 #[u, .int .i64 d] w fun e w' => e = .returned (.bool (capB l d)) ∧ w = w' := by
  have K := Lib.hid (fun w hu => L.loadRight_n u l d (by omega) w hu)
  have HU := Lib.hid hu
  obtain ⟨oa, c, rfl, -⟩ := hu
  have HC := Lib.hid (cap_right l d)
  generalize capB l d = r at *
  generalize L.rightB l d = q at *
  generalize l.length = n at *
  by_cases h1 : 1 ≤ d
  · have h1I : (1 : Int) ≤ (d : Int) := by omega
    by_cases h3 : d ≤ 3
    · have h3I : (d : Int) ≤ 3 := by omega
      have HR : Hid (q = r) := by show _ = _; rw [HC.out]; unfold rgB; rw [decide_eq_true h1I, decide_eq_true h3I]; rfl
      go_enter Tryd.func33, Tryd.ntmps33
      go_wp2_with fail
      refine (K.out _ HU.out).mono ?_
      rintro e w1 ⟨rfl, rfl⟩
      go_wp2_with fail
      go_ret
      exact ⟨ret_bool HR.out, rfl⟩
    · have h3I : ¬ (d : Int) ≤ 3 := by omega
      have HR : Hid (false = r) := by show _ = _; rw [HC.out]; unfold rgB; rw [decide_eq_false h3I, Bool.and_false, Bool.false_and]
      go_enter Tryd.func33, Tryd.ntmps33
      go_wp2_with fail
      go_ret
      exact ⟨ret_bool HR.out, rfl⟩
  · have h1I : ¬ (1 : Int) ≤ (d : Int) := by omega
    have HR : Hid (false = r) := by show _ = _; rw [HC.out]; unfold rgB; rw [decide_eq_false h1I, Bool.false_and, Bool.false_and]
    go_enter Tryd.func33, Tryd.ntmps33
    go_wp2_with fail
    go_ret
    exact ⟨ret_bool HR.out, rfl⟩
theorem costs_n (nm : ByteArray) (c1 c2 c3 sk c6 c7 c8 c9 c10 c11 c12 c13 : Int) (oc : Option Addr) (nc cc : Nat) (w : World) :
    Calls Tryd.prog 34 #[.agg #[.string nm, .int .i64 c1, .int .i64 c2, .int .i64 c3, .slice oc nc cc, .int .i64 sk, .int .i64 c6, .int .i64 c7, .int .i64 c8, .int .i64 c9, .int .i64 c10, .int .i64 c11, .int .i64 c12, .int .i64 c13]] w
      fun e w' => e = .returned (.bool (rgB 0 100000 c11 && rgB 0 100 c12 && rgB 0 100 c13)) ∧ Below w.heap.size w w' := by
  have K1 := Lib.hid (fun w => upTo_n c11 100000 w)
  have K2 := Lib.hid (fun w => upTo_n c12 100 w)
  have K3 := Lib.hid (fun w => upTo_n c13 100 w)
  generalize rgB 0 100000 c11 = r1 at *
  generalize rgB 0 100 c12 = r2 at *
  generalize rgB 0 100 c13 = r3 at *
  have BW := Lib.hid (below_alloc w (.cells #[.string nm, .int .i64 c1, .int .i64 c2, .int .i64 c3, .slice oc nc cc, .int .i64 sk, .int .i64 c6, .int .i64 c7, .int .i64 c8, .int .i64 c9, .int .i64 c10, .int .i64 c11, .int .i64 c12, .int .i64 c13] 36))
  cases r1
  · go_enter Tryd.func34, Tryd.ntmps34
    go_wp2_with fail
    refine (K1.out _).mono ?_
    rintro e w1 ⟨rfl, rfl⟩
    go_wp2_with fail
    go_ret
    exact ⟨rfl, BW.out⟩
  · cases r2
    · go_enter Tryd.func34, Tryd.ntmps34
      go_wp2_with fail
      refine (K1.out _).mono ?_
      rintro e w1 ⟨rfl, rfl⟩
      go_wp2_with fail
      refine (K2.out _).mono ?_
      rintro e w1 ⟨rfl, rfl⟩
      go_wp2_with fail
      go_ret
      exact ⟨rfl, BW.out⟩
    · go_enter Tryd.func34, Tryd.ntmps34
      go_wp2_with fail
      refine (K1.out _).mono ?_
      rintro e w1 ⟨rfl, rfl⟩
      go_wp2_with fail
      refine (K2.out _).mono ?_
      rintro e w1 ⟨rfl, rfl⟩
      go_wp2_with fail
      refine (K3.out _).mono ?_
      rintro e w1 ⟨rfl, rfl⟩
      go_wp2_with fail
      go_ret
      exact ⟨rfl, BW.out⟩
theorem dims_n (v : Value) (l : List TyT) (hl : l.length ≤ 1000000000) (w : World) (hv : Ts w v l) :
    Calls Tryd.prog 13 #[v] w fun e w' => e = .returned (.int .i64 (dimsF l : Nat)) ∧ w = w' := by
  obtain ⟨oa, c, rfl, ha⟩ := hv
  by_cases h : l.length = 0
  · have hl0 : l = [] := List.eq_nil_of_length_eq_zero h
    subst hl0
    go_enter Tryd.func13, Tryd.ntmps13
    go_wp2_with fail
    go_ret
    exact ⟨rfl, rfl⟩
  · obtain ⟨b, o, vc, rfl, hb, ⟨h0, h1, h2, h3, h4, h5, h6, h7, h8, h9, h10, h11, h12, h13⟩, hc⟩ := ha 0 (by omega)
    obtain ⟨oc, cc, rfl, -⟩ := hc
    have hd : Hid ((l.getD 0 ty0).cap.length = dimsF l) := rfl
    have hne : ((l.length : Int) == 0) = false := ne_eqN h
    have hpos : (0 : Int) < (l.length : Int) := by omega
    simp only [Nat.zero_mul, Nat.add_zero] at h0 h1 h2 h3 h4 h5 h6 h7 h8 h9 h10 h11 h12 h13
    generalize dimsF l = d at *
    generalize (l.getD 0 ty0).cap.length = d' at *
    generalize l.length = n at *
    go_enter Tryd.func13, Tryd.ntmps13
    go_wp2_with fail
    go_ret
    exact ⟨ret_int (by rw [hd.out]), rfl⟩
theorem able_n (nm : ByteArray) (c1 c2 c3 sk c6 c7 c8 c9 c10 c11 c12 c13 b : Int) (oc : Option Addr) (nc cc : Nat) (hs : sk ≤ 9223372036854775807) (hb : b ≤ 9223372036854775807) (w : World) :
    Calls Tryd.prog 17 #[.agg #[.string nm, .int .i64 c1, .int .i64 c2, .int .i64 c3, .slice oc nc cc, .int .i64 sk, .int .i64 c6, .int .i64 c7, .int .i64 c8, .int .i64 c9, .int .i64 c10, .int .i64 c11, .int .i64 c12, .int .i64 c13], .int .i64 b] w
      fun e w' => e = .returned (.bool (ableB sk b)) ∧ Below w.heap.size w w' := by
  have BW := Lib.hid (below_alloc w (.cells #[.string nm, .int .i64 c1, .int .i64 c2, .int .i64 c3, .slice oc nc cc, .int .i64 sk, .int .i64 c6, .int .i64 c7, .int .i64 c8, .int .i64 c9, .int .i64 c10, .int .i64 c11, .int .i64 c12, .int .i64 c13] 36))
  by_cases p1 : 0 ≤ sk
  · have n1 : ¬ sk < 0 := by omega
    by_cases p2 : 0 ≤ b
    · have n2 : ¬ b < 0 := by omega
      have HR := Lib.hid (able_bits p1 p2 hs hb)
      generalize ableB sk b = r at *
      go_enter Tryd.func17, Tryd.ntmps17
      go_wp2_with fail
      go_ret
      exact ⟨ret_bool HR.out, BW.out⟩
    · have HR : Hid (false = ableB sk b) := by show _ = _; unfold ableB; rw [decide_eq_false p2, Bool.and_false, Bool.false_and]
      have n2 : b < 0 := by omega
      generalize ableB sk b = r at *
      go_enter Tryd.func17, Tryd.ntmps17
      go_wp2_with fail
      go_ret
      exact ⟨ret_bool HR.out, BW.out⟩
  · have HR : Hid (false = ableB sk b) := by show _ = _; unfold ableB; rw [decide_eq_false p1, Bool.false_and, Bool.false_and]
    have n1 : sk < 0 := by omega
    generalize ableB sk b = r at *
    go_enter Tryd.func17, Tryd.ntmps17
    go_wp2_with fail
    go_ret
    exact ⟨ret_bool HR.out, BW.out⟩

end Go.Proofs.YthihahehmnpenaaDoor.T

