/-
  DERIVED. The walk of FleetAble.
-/
import Derived.Test.YthihahehmnpenaaDoorFlAwake
namespace Go.Proofs.YthihahehmnpenaaDoor.T
open Go.RowKit
set_option maxRecDepth 8000

theorem b_or (x y : Int) : bits .or .i64 x y = IntKind.i64.wrap (((x % 18446744073709551616).toNat ||| (y % 18446744073709551616).toNat : Nat) : Int) := by
  show IntKind.i64.wrap ((BitVec.ofInt 64 x ||| BitVec.ofInt 64 y).toNat : Int) = _
  rw [BitVec.toNat_or, BitVec.toNat_ofInt, BitVec.toNat_ofInt]; rfl
theorem or_able {sk a b : Int} (ha : 0 ≤ a) (hb : 0 ≤ b) (ha9 : a ≤ 9223372036854775807) (hb9 : b ≤ 9223372036854775807) : ∃ o, bits .or .i64 a b = o ∧ o ≤ 9223372036854775807 ∧ ableB sk o = (ableB sk a && ableB sk b) := by
  obtain ⟨n, rfl⟩ := Int.eq_ofNat_of_zero_le ha
  obtain ⟨m, rfl⟩ := Int.eq_ofNat_of_zero_le hb
  have hx : n ||| m < 2 ^ 63 := Nat.or_lt_two_pow (by omega) (by omega)
  refine ⟨((n ||| m : Nat) : Int), ?_, by omega, ?_⟩
  · rw [b_or, show ((n : Int) % 18446744073709551616).toNat = n by omega, show ((m : Int) % 18446744073709551616).toNat = m by omega, IntKind.wrap_i64]
    omega
  · unfold ableB
    rw [Int.toNat_natCast, Int.toNat_natCast, Int.toNat_natCast, able_or, decide_eq_true ha, decide_eq_true hb, decide_eq_true (show (0 : Int) ≤ ((n ||| m : Nat) : Int) by omega)]
    cases decide (0 ≤ sk) <;> simp

section
variable (nm : ByteArray) (c1 c2 c3 sk c6 c7 c8 c9 c10 c11 c12 c13 a b : Int) (oc : Option Addr) (nc cc : Nat)
set_option maxHeartbeats 12800000 in
theorem fleetAble_walk (hs : sk ≤ 9223372036854775807) (ha9 : a ≤ 9223372036854775807) (hb9 : b ≤ 9223372036854775807) (w : World) (hT : Tab w) :
    Calls Tryd.prog 5 #[.agg #[.string nm, .int .i64 c1, .int .i64 c2, .int .i64 c3, .slice oc nc cc, .int .i64 sk, .int .i64 c6, .int .i64 c7, .int .i64 c8, .int .i64 c9, .int .i64 c10, .int .i64 c11, .int .i64 c12, .int .i64 c13], .int .i64 a, .int .i64 b] w
      fun e w' => e = .returned (.bool true) ∧ Below w.heap.size w w' := by
  have KA := Lib.hid (fun w => able_n nm c1 c2 c3 sk c6 c7 c8 c9 c10 c11 c12 c13 a oc nc cc hs ha9 w)
  have KB := Lib.hid (fun w => able_n nm c1 c2 c3 sk c6 c7 c8 c9 c10 c11 c12 c13 b oc nc cc hs hb9 w)
  have RA := Lib.hid (fun w => refAble_n nm c1 c2 c3 sk c6 c7 c8 c9 c10 c11 c12 c13 a oc nc cc hs ha9 w)
  have RB := Lib.hid (fun w => refAble_n nm c1 c2 c3 sk c6 c7 c8 c9 c10 c11 c12 c13 b oc nc cc hs hb9 w)
  have HO := Lib.hid (fun (h1 : 0 ≤ a) (h2 : 0 ≤ b) => or_able (sk := sk) h1 h2 ha9 hb9)
  have KO := Lib.hid (fun o (ho : o ≤ 9223372036854775807) w => able_n nm c1 c2 c3 sk c6 c7 c8 c9 c10 c11 c12 c13 o oc nc cc hs ho w)
  obtain ⟨r1, h1⟩ : ∃ r, ableB sk a = r := ⟨_, rfl⟩
  obtain ⟨r2, h2⟩ : ∃ r, ableB sk b = r := ⟨_, rfl⟩
  rw [h1] at KA RA
  rw [h2] at KB RB
  simp only [h1, h2] at HO
  clear h1 h2 hs ha9 hb9
  have T0 := Tb.made w (.string nm) (.int .i64 c1) (.int .i64 c2) (.int .i64 c3) (.slice oc nc cc) (.int .i64 sk) (.int .i64 c6) (.int .i64 c7) (.int .i64 c8) (.int .i64 c9) (.int .i64 c10) (.int .i64 c11) (.int .i64 c12) (.int .i64 c13)
  have BW := below_alloc w (.cells #[.string nm, .int .i64 c1, .int .i64 c2, .int .i64 c3, .slice oc nc cc, .int .i64 sk, .int .i64 c6, .int .i64 c7, .int .i64 c8, .int .i64 c9, .int .i64 c10, .int .i64 c11, .int .i64 c12, .int .i64 c13] 36)
  obtain ⟨W0, hW0⟩ : ∃ W0, w.alloc (.cells #[.string nm, .int .i64 c1, .int .i64 c2, .int .i64 c3, .slice oc nc cc, .int .i64 sk, .int .i64 c6, .int .i64 c7, .int .i64 c8, .int .i64 c9, .int .i64 c10, .int .i64 c11, .int .i64 c12, .int .i64 c13] 36) = W0 := ⟨_, rfl⟩
  rw [hW0] at T0 BW
  have TA := Lib.hid T0
  have HB := Lib.hid BW
  have HT := Lib.hid hT
  clear T0 BW hT
  go_enter Tryd.func5, Tryd.ntmps5
  go_upto_region 1 with fail
  clear hW0
  go_cut [23, 6] from 8 to 23 (fun t f wx => t = .bool false ∧ f = .bool false ∧ Hid (Below w.heap.size w wx) ∧ Hid (Tb wx w.heap.size (.string nm) (.int .i64 c1) (.int .i64 c2) (.int .i64 c3) (.slice oc nc cc) (.int .i64 sk) (.int .i64 c6) (.int .i64 c7) (.int .i64 c8) (.int .i64 c9) (.int .i64 c10) (.int .i64 c11) (.int .i64 c12) (.int .i64 c13)))
  case first => as_aux_lemma =>
    have TA : Hid (Tb W0.drew w.heap.size (.string nm) (.int .i64 c1) (.int .i64 c2) (.int .i64 c3) (.slice oc nc cc) (.int .i64 sk) (.int .i64 c6) (.int .i64 c7) (.int .i64 c8) (.int .i64 c9) (.int .i64 c10) (.int .i64 c11) (.int .i64 c12) (.int .i64 c13)) := TA
    have HB : Hid (Below w.heap.size w W0.drew) := below_drew HB.out
    have f0 := TA.out.c0
    have f1 := TA.out.c1
    have f2 := TA.out.c2
    have f3 := TA.out.c3
    have f4 := TA.out.c4
    have f5 := TA.out.c5
    have f6 := TA.out.c6
    have f7 := TA.out.c7
    have f8 := TA.out.c8
    have f9 := TA.out.c9
    have f10 := TA.out.c10
    have f11 := TA.out.c11
    have f12 := TA.out.c12
    have f13 := TA.out.c13
    clear HO KO HT
    cases r1 <;> cases r2
    all_goals
      go_region_held3 (fun w' => w'.cell? ⟨w.heap.size, 0, none⟩ = some (.string nm) ∧ w'.cell? ⟨w.heap.size, 1, none⟩ = some (.int .i64 c1) ∧ w'.cell? ⟨w.heap.size, 2, none⟩ = some (.int .i64 c2) ∧ w'.cell? ⟨w.heap.size, 3, none⟩ = some (.int .i64 c3) ∧ w'.cell? ⟨w.heap.size, 4, none⟩ = some (.slice oc nc cc) ∧ w'.cell? ⟨w.heap.size, 5, none⟩ = some (.int .i64 sk) ∧ w'.cell? ⟨w.heap.size, 6, none⟩ = some (.int .i64 c6) ∧ w'.cell? ⟨w.heap.size, 7, none⟩ = some (.int .i64 c7) ∧ w'.cell? ⟨w.heap.size, 8, none⟩ = some (.int .i64 c8) ∧ w'.cell? ⟨w.heap.size, 9, none⟩ = some (.int .i64 c9) ∧ w'.cell? ⟨w.heap.size, 10, none⟩ = some (.int .i64 c10) ∧ w'.cell? ⟨w.heap.size, 11, none⟩ = some (.int .i64 c11) ∧ w'.cell? ⟨w.heap.size, 12, none⟩ = some (.int .i64 c12) ∧ w'.cell? ⟨w.heap.size, 13, none⟩ = some (.int .i64 c13))
        (first | exact ⟨f0, f1, f2, f3, f4, f5, f6, f7, f8, f9, f10, f11, f12, f13⟩)
        (first | ((first | go_at_call 17 | go_at_call 18); (first | (with_reducible refine (KA.out _).mono ?_) | (with_reducible refine (KB.out _).mono ?_) | (with_reducible refine (RA.out _).mono ?_) | (with_reducible refine (RB.out _).mono ?_)); rintro e wz ⟨rfl, bz⟩; have TA := Lib.hid (Tb.below TA.out bz); have HB := Lib.hid (over HB.out bz); have f0 := TA.out.c0; have f1 := TA.out.c1; have f2 := TA.out.c2; have f3 := TA.out.c3; have f4 := TA.out.c4; have f5 := TA.out.c5; have f6 := TA.out.c6; have f7 := TA.out.c7; have f8 := TA.out.c8; have f9 := TA.out.c9; have f10 := TA.out.c10; have f11 := TA.out.c11; have f12 := TA.out.c12; have f13 := TA.out.c13))
    all_goals
      go_wp2_with fail
      go_meet
      case rel => exact ⟨rfl, rfl, HB, TA⟩
  clear TA HB
  obtain ⟨rfl, rfl, HB, TA⟩ := hcut
  have f0 := TA.out.c0
  have f1 := TA.out.c1
  have f2 := TA.out.c2
  have f3 := TA.out.c3
  have f4 := TA.out.c4
  have f5 := TA.out.c5
  have f6 := TA.out.c6
  have f7 := TA.out.c7
  have f8 := TA.out.c8
  have f9 := TA.out.c9
  have f10 := TA.out.c10
  have f11 := TA.out.c11
  have f12 := TA.out.c12
  have f13 := TA.out.c13
  go_upto_region 3 with fail
  go_cut [7, 6] from 24 to 31 (fun t f wx => t = .bool (r1 && r2) ∧ f = .bool false ∧ Hid (Below w.heap.size w wx) ∧ Hid (Tb wx w.heap.size (.string nm) (.int .i64 c1) (.int .i64 c2) (.int .i64 c3) (.slice oc nc cc) (.int .i64 sk) (.int .i64 c6) (.int .i64 c7) (.int .i64 c8) (.int .i64 c9) (.int .i64 c10) (.int .i64 c11) (.int .i64 c12) (.int .i64 c13)))
  case first => as_aux_lemma =>
    cases r1
    · go_wp2_with fail
      refine (KA.out _).mono ?_
      rintro e w2 ⟨rfl, b2⟩
      have HB2 := Lib.hid (over HB.out b2)
      have TA2 := Lib.hid (TA.out.below b2)
      clear b2
      go_wp2_with fail
      go_meet
      case rel => exact ⟨rfl, rfl, HB2, TA2⟩
    · go_wp2_with fail
      refine (KA.out _).mono ?_
      rintro e w2 ⟨rfl, b2⟩
      have HB2 := Lib.hid (over HB.out b2)
      have TA2 := Lib.hid (TA.out.below b2)
      clear b2 f0 f1 f2 f3 f4 f5 f6 f7 f8 f9 f10 f11 f12 f13
      have f0 := TA2.out.c0
      have f1 := TA2.out.c1
      have f2 := TA2.out.c2
      have f3 := TA2.out.c3
      have f4 := TA2.out.c4
      have f5 := TA2.out.c5
      have f6 := TA2.out.c6
      have f7 := TA2.out.c7
      have f8 := TA2.out.c8
      have f9 := TA2.out.c9
      have f10 := TA2.out.c10
      have f11 := TA2.out.c11
      have f12 := TA2.out.c12
      have f13 := TA2.out.c13
      go_wp2_with fail
      refine (KB.out _).mono ?_
      rintro e w3 ⟨rfl, b3⟩
      have HB3 := Lib.hid (over HB2.out b3)
      have TA3 := Lib.hid (TA2.out.below b3)
      clear b3
      go_wp2_with fail
      go_meet
      case rel => exact ⟨by cases r2 <;> rfl, rfl, HB3, TA3⟩
  clear TA HB f0 f1 f2 f3 f4 f5 f6 f7 f8 f9 f10 f11 f12 f13 KA KB RA RB
  obtain ⟨rfl, rfl, HB, TA⟩ := hcut
  have HTc := Lib.hid (HT.out.over HB.out)
  by_cases p1 : a < 0
  · go_wp2_with fail
    refine (awake_n _ HTc.out).mono ?_
    rintro e w4 ⟨rfl, b4⟩
    have B4 := Lib.hid (over HB.out b4)
    clear b4
    go_wp2_with fail
    go_ret
    exact ⟨rfl, B4.out⟩
  · have q1 : 0 ≤ a := by omega
    by_cases p2 : b < 0
    · go_wp2_with fail
      refine (awake_n _ HTc.out).mono ?_
      rintro e w4 ⟨rfl, b4⟩
      have B4 := Lib.hid (over HB.out b4)
      clear b4
      go_wp2_with fail
      go_ret
      exact ⟨rfl, B4.out⟩
    · obtain ⟨o, ho, ho9, hor⟩ := HO.out q1 (by omega)
      have KO2 := Lib.hid (fun w => KO.out o ho9 w)
      rw [hor] at KO2
      clear hor HO KO q1
      have f0 := TA.out.c0
      have f1 := TA.out.c1
      have f2 := TA.out.c2
      have f3 := TA.out.c3
      have f4 := TA.out.c4
      have f5 := TA.out.c5
      have f6 := TA.out.c6
      have f7 := TA.out.c7
      have f8 := TA.out.c8
      have f9 := TA.out.c9
      have f10 := TA.out.c10
      have f11 := TA.out.c11
      have f12 := TA.out.c12
      have f13 := TA.out.c13
      generalize (r1 && r2) = rr at *
      have hrr : (rr == rr) = true := by simp
      go_wp2_with fail
      refine (KO2.out _).mono ?_
      rintro e w5 ⟨rfl, b5⟩
      have B5 := Lib.hid (over HB.out b5)
      have HT5 := Lib.hid (HT.out.over B5.out)
      clear b5 f0 f1 f2 f3 f4 f5 f6 f7 f8 f9 f10 f11 f12 f13
      go_wp2_with fail
      refine (awake_n _ HT5.out).mono ?_
      rintro e w4 ⟨rfl, b4⟩
      have B4 := Lib.hid (over B5.out b4)
      clear b4
      go_wp2_with fail
      go_ret
      exact ⟨rfl, B4.out⟩
end

end Go.Proofs.YthihahehmnpenaaDoor.T

