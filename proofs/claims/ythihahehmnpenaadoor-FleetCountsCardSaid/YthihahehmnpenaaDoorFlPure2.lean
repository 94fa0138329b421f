/-
  DERIVED. Types of vehicles in plain lists: when two are the same; capacities by loads' right lists; and-not of skills; '==' of two arrays of twelve numbers.
-/
import Derived.Test.YthihahehmnpenaaDoorFlPure
import Derived.Test.YthihahehmnpenaaDoorFlLoad
import Derived.Laws.StructEq
namespace Go.Proofs.YthihahehmnpenaaDoor.T
open Go.RowKit
set_option maxRecDepth 8000

/-- are two types the same? -/
def sameT (a b : TyT) : Bool :=
  (a.cap == b.cap) && (a.name.toList == b.name.toList) && (a.count == b.count) && (a.fr == b.fr) && (a.to == b.to) && (a.skills == b.skills) && (a.prof == b.prof) && (a.opn == b.opn) && (a.cls == b.cls) && (a.drv == b.drv) && (a.rst == b.rst) && (a.fix == b.fix) && (a.pm == b.pm) && (a.pt == b.pt)
theorem same_refl (a : TyT) : sameT a a = true := by unfold sameT; simp
theorem same_comm (a b : TyT) : sameT a b = sameT b a := by
  unfold sameT
  rw [BEq.comm (a := a.cap), BEq.comm (a := a.name.toList), BEq.comm (a := a.count), BEq.comm (a := a.fr), BEq.comm (a := a.to), BEq.comm (a := a.skills), BEq.comm (a := a.prof), BEq.comm (a := a.opn), BEq.comm (a := a.cls), BEq.comm (a := a.drv), BEq.comm (a := a.rst), BEq.comm (a := a.fix), BEq.comm (a := a.pm), BEq.comm (a := a.pt)]
theorem in_rg : L.inRange = rgB 0 1000 := rfl
theorem cap_right (l : List Int) (d : Nat) : capB l d = (rgB 1 3 d && L.rightB l d) := by
  unfold capB L.rightB
  rw [in_rg]
  by_cases h : l.length = d
  · subst h
    simp
  · rw [show decide (l.length = d) = false from decide_eq_false h, show decide ((l.length : Int) = (d : Int)) = false from decide_eq_false (by omega)]
    simp

/-! ### and-not -/
theorem b_andNot (x y : Int) : bits .andNot .i64 x y = IntKind.i64.wrap (((x % 18446744073709551616).toNat &&& (18446744073709551616 - 1 - (y % 18446744073709551616).toNat) : Nat) : Int) := by
  show IntKind.i64.wrap ((BitVec.ofInt 64 x &&& ~~~ BitVec.ofInt 64 y).toNat : Int) = _
  rw [BitVec.toNat_and, BitVec.toNat_not, BitVec.toNat_ofInt, BitVec.toNat_ofInt]; rfl
theorem able_bits {a b : Int} (ha : 0 ≤ a) (hb : 0 ≤ b) (ha9 : a ≤ 9223372036854775807) (hb9 : b ≤ 9223372036854775807) : (bits .andNot .i64 b a == 0) = ableB a b := by
  obtain ⟨n, rfl⟩ := Int.eq_ofNat_of_zero_le ha
  obtain ⟨m, rfl⟩ := Int.eq_ofNat_of_zero_le hb
  unfold ableB
  rw [decide_eq_true ha, decide_eq_true hb, Bool.true_and, Bool.true_and, Int.toNat_natCast, Int.toNat_natCast]
  have hx : m &&& (18446744073709551616 - 1 - n) < 2 ^ 63 := Nat.lt_of_le_of_lt Nat.and_le_left (by omega)
  rw [b_andNot, show ((m : Int) % 18446744073709551616).toNat = m by omega, show ((n : Int) % 18446744073709551616).toNat = n by omega, IntKind.wrap_i64, Bool.eq_iff_iff, beq_iff_eq, ableK_iff]
  have hbit : ∀ i, (18446744073709551616 - 1 - n).testBit i = (decide (i < 64) && !n.testBit i) := by
    intro i
    have h1 := Nat.testBit_two_pow_sub_succ (n := 64) (x := n) (by omega) i
    rw [show (2 : Nat) ^ 64 - (n + 1) = 18446744073709551616 - 1 - n by omega] at h1
    exact h1
  constructor
  · intro h i hi hbi
    have hz : m &&& (18446744073709551616 - 1 - n) = 0 := by omega
    have h3 := congrArg (fun x => x.testBit i) hz
    simp only [Nat.testBit_and, hbit, Nat.zero_testBit] at h3
    rw [hbi, decide_eq_true (by omega)] at h3
    simpa using h3
  · intro h
    have hz : m &&& (18446744073709551616 - 1 - n) = 0 := by
      apply Nat.eq_of_testBit_eq
      intro i
      rw [Nat.testBit_and, hbit, Nat.zero_testBit]
      cases e : m.testBit i
      · rfl
      · have hi63 : i < 63 := by
          have hlt : m < 2 ^ 63 := by omega
          by_cases hi : i < 63
          · exact hi
          · have := Nat.testBit_lt_two_pow (Nat.lt_of_lt_of_le hlt (Nat.pow_le_pow_right (by omega) (show 63 ≤ i by omega)))
            rw [this] at e; cases e
        rw [h i hi63 e]; simp
    rw [hz]; rfl

end Go.Proofs.YthihahehmnpenaaDoor.T

