/-
  DERIVED. And and or of sets; the walk of lorrylaw05's plain.
-/
import Derived.Test.YtalfonpkefhlmaaDoorSetPure2
import Derived.Test.YtalfonpkefhlmaaDoorRefSet2
import Derived.Laws.BitsLemmas
import Derived.Laws.Bits64b
import Derived.Laws.Bits128
namespace Go.Proofs.YtalfonpkefhlmaaDoor.S
open Go.RowKit
set_option maxRecDepth 8000

theorem has_test (n i : Nat) : has n i = n.testBit i := by
  rw [Nat.testBit_eq_decide_div_mod_eq, has_div]
  by_cases h : n / 2 ^ i % 2 = 1
  · rw [h]; rfl
  · rw [decide_eq_false h, beq_eq_false_iff_ne]; exact h
theorem within_and (a b : Nat) : withinB (a &&& b) a = true := by
  rw [withinB, List.all_eq_true]
  intro i hi
  have h := ((mem_iff _ 63 i).1 hi).2
  rw [has_test, Nat.testBit_and, Bool.and_eq_true] at h
  rw [has_test]; exact h.1
theorem within_or (a b : Nat) : withinB a (a ||| b) = true := by
  rw [withinB, List.all_eq_true]
  intro i hi
  have h := ((mem_iff _ 63 i).1 hi).2
  rw [has_test] at h
  rw [has_test, Nat.testBit_or, h]; rfl
theorem i64_and63 (n : Int) : bits .and .i64 n 9223372036854775807 = n % 9223372036854775808 := by
  have h127 : (BitVec.ofInt 64 9223372036854775807).toNat = 2 ^ 63 - 1 := by decide
  have key : (BitVec.ofInt 64 n &&& BitVec.ofInt 64 9223372036854775807).toNat = (n % ((2 ^ 64 : Nat) : Int)).toNat % 2 ^ 63 := by
    rw [BitVec.toNat_and, BitVec.toNat_ofInt, h127, Nat.and_two_pow_sub_one_eq_mod]
  show IntKind.i64.wrap ((BitVec.ofInt 64 n &&& BitVec.ofInt 64 9223372036854775807).toNat : Nat) = n % 9223372036854775808
  rw [key, IntKind.wrap_i64]
  omega
theorem i64_and (a b : Nat) (ha : a < 9223372036854775808) (hb : b < 9223372036854775808) : bits .and .i64 (a : Int) (b : Int) = ((a &&& b : Nat) : Int) := by
  have hx : a &&& b < 2 ^ 63 := Nat.and_lt_two_pow _ (by omega)
  have h1 : (BitVec.ofInt 64 (a : Int)).toNat = a := by
    rw [BitVec.ofInt_natCast, BitVec.toNat_ofNat]; exact Nat.mod_eq_of_lt (by omega)
  have h2 : (BitVec.ofInt 64 (b : Int)).toNat = b := by
    rw [BitVec.ofInt_natCast, BitVec.toNat_ofNat]; exact Nat.mod_eq_of_lt (by omega)
  show IntKind.i64.wrap ((BitVec.ofInt 64 (a : Int) &&& BitVec.ofInt 64 (b : Int)).toNat : Int) = _
  rw [BitVec.toNat_and, h1, h2, IntKind.wrap_i64]
  omega
theorem i64_or (a b : Nat) (ha : a < 9223372036854775808) (hb : b < 9223372036854775808) : bits .or .i64 (a : Int) (b : Int) = ((a ||| b : Nat) : Int) := by
  have hx : a ||| b < 2 ^ 63 := Nat.or_lt_two_pow (by omega) (by omega)
  have h1 : (BitVec.ofInt 64 (a : Int)).toNat = a := by
    rw [BitVec.ofInt_natCast, BitVec.toNat_ofNat]; exact Nat.mod_eq_of_lt (by omega)
  have h2 : (BitVec.ofInt 64 (b : Int)).toNat = b := by
    rw [BitVec.ofInt_natCast, BitVec.toNat_ofNat]; exact Nat.mod_eq_of_lt (by omega)
  show IntKind.i64.wrap ((BitVec.ofInt 64 (a : Int) ||| BitVec.ofInt 64 (b : Int)).toNat : Int) = _
  rw [BitVec.toNat_or, h1, h2, IntKind.wrap_i64]
  omega
/-- a set of any number -/
def plainN (z : Int) : Nat := (z % 9223372036854775808).toNat
theorem plain_lt (z : Int) : plainN z < 2 ^ 63 := by unfold plainN; omega
theorem plain_bits (z : Int) : bits .and .i64 z 9223372036854775807 = (plainN z : Int) := by rw [i64_and63]; unfold plainN; omega
end Go.Proofs.YtalfonpkefhlmaaDoor.S

