/-
  DERIVED. Plain Lean: the division of two words by one, in halves of words.
-/
import Derived.Test.YtgpjfgakhncdnaaDoorPureDiv
import Derived.Laws.BitsAllLaws
import Derived.IntWalk
import Derived.Lib.ItoaNum
namespace Go.Proofs.YtgpjfgakhncdnaaDoor

set_option maxRecDepth 100000
/-- what a word's half of a quotient is found by: q times the divisor's upper half and the rest r are U, and q is not too small -/
structure Half (U d y1 y0 q r : Nat) : Prop where
  sum : q * y1 + r = U
  low : (U * 4294967296 + d) / (y1 * 4294967296 + y0) ≤ q
  top : q ≤ 4294967297
theorem half_start (U d y1 y0 : Nat) (hU : U < y1 * 4294967296 + y0) (h1 : 2147483648 ≤ y1) (h0 : y0 < 4294967296) (hd : d < 4294967296) : Half U d y1 y0 (U / y1) (U % y1) := by
  have hy : 0 < y1 := by omega
  refine ⟨by rw [Nat.mul_comm]; exact Nat.div_add_mod U y1, ?_, ?_⟩
  · have h2 : (U * 4294967296 + d) / (y1 * 4294967296 + y0) ≤ (U * 4294967296 + d) / (y1 * 4294967296) := Nat.div_le_div_left (by omega) (by omega)
    have h3 : (U * 4294967296 + d) / (y1 * 4294967296) = U / y1 := by
      rw [Nat.mul_comm y1, ← Nat.div_div_eq_div_mul, show (U * 4294967296 + d) / 4294967296 = U by omega]
    omega
  · have h2 : U < y1 * 4294967296 + y1 * 2 := by omega
    have h3 : U / y1 < 4294967296 + 2 := by
      rw [Nat.div_lt_iff_lt_mul hy, Nat.add_mul, Nat.mul_comm 4294967296 y1, Nat.mul_comm 2 y1]
      exact h2
    omega
theorem half_stop {U d y1 y0 q r : Nat} (h : Half U d y1 y0 q r) (hy : 0 < y1) (hq : q * y0 ≤ 4294967296 * r + d) : q = (U * 4294967296 + d) / (y1 * 4294967296 + y0) := by
  apply Nat.le_antisymm _ h.low
  rw [Nat.le_div_iff_mul_le (by omega)]
  have h1 := h.sum
  have h2 : q * (y1 * 4294967296 + y0) = q * y1 * 4294967296 + q * y0 := by rw [Nat.mul_add, Nat.mul_assoc]
  omega
theorem half_step {U d y1 y0 q r : Nat} (h : Half U d y1 y0 q r) (hU : U < y1 * 4294967296 + y0) (hd : d < 4294967296) (hc : 4294967296 ≤ q ∨ 4294967296 * r + d < q * y0) :
    0 < q ∧ Half U d y1 y0 (q - 1) (r + y1) := by
  have hlt : (U * 4294967296 + d) / (y1 * 4294967296 + y0) < q := by
    rw [Nat.div_lt_iff_lt_mul (by omega)]
    rcases hc with hc | hc
    · have h1 : 4294967296 * (y1 * 4294967296 + y0) ≤ q * (y1 * 4294967296 + y0) := Nat.mul_le_mul_right _ hc
      have h2 : U + 1 ≤ y1 * 4294967296 + y0 := hU
      omega
    · have h1 := h.sum
      have h2 : q * (y1 * 4294967296 + y0) = q * y1 * 4294967296 + q * y0 := by rw [Nat.mul_add, Nat.mul_assoc]
      rw [h2]
      omega
  have hq : 0 < q := Nat.lt_of_le_of_lt (Nat.zero_le _) hlt
  refine ⟨hq, ?_, Nat.le_sub_one_of_lt hlt, by have := h.top; omega⟩
  have h1 := h.sum
  have h2 : q * y1 = (q - 1) * y1 + y1 := by
    rw [← Nat.succ_mul]
    congr 1
    omega
  omega
theorem half_break {U d y1 y0 q r : Nat} (h : Half U d y1 y0 q r) (hy : 0 < y1) (hq : q ≤ 4294967296) (h0 : y0 < 4294967296) (hr : 4294967296 ≤ r) : q = (U * 4294967296 + d) / (y1 * 4294967296 + y0) := by
  apply half_stop h hy
  have := Nat.mul_le_mul hq (show y0 ≤ 4294967295 by omega)
  omega
theorem two_halves (U u1 u0 Y : Nat) (hY : 0 < Y) : (U * 18446744073709551616 + (u1 * 4294967296 + u0)) / Y = (U * 4294967296 + u1) / Y * 4294967296 + ((U * 4294967296 + u1) % Y * 4294967296 + u0) / Y := by
  have h := Nat.div_add_mod (U * 4294967296 + u1) Y
  have e : U * 18446744073709551616 + (u1 * 4294967296 + u0) = ((U * 4294967296 + u1) % Y * 4294967296 + u0) + Y * ((U * 4294967296 + u1) / Y * 4294967296) := by
    rw [← Nat.mul_assoc]
    omega
  rw [e, Nat.add_mul_div_left _ _ hY]
  omega
theorem quo_half (U d Y : Nat) (hU : U < Y) (hd : d < 4294967296) : (U * 4294967296 + d) / Y < 4294967296 := by
  apply Nat.div_lt_of_lt_mul
  omega
/-- the shifted numbers -/
theorem shifted_eq (hi lo p t : Nat) (hpt : p * t = 18446744073709551616) (hp : 0 < p) :
    (hi * p + lo / t) * 18446744073709551616 + lo * p % 18446744073709551616 = (hi * 18446744073709551616 + lo) * p := by
  have h1 : lo * p = lo / t * 18446744073709551616 + lo * p % 18446744073709551616 := by
    have h2 : lo * p / (p * t) = lo / t := by rw [Nat.mul_comm lo p, Nat.mul_div_mul_left _ _ hp]
    rw [hpt] at h2
    have := Nat.div_add_mod (lo * p) 18446744073709551616
    rw [h2] at this
    omega
  have e1 : hi * p * 18446744073709551616 = hi * 18446744073709551616 * p := Nat.mul_right_comm _ _ _
  generalize lo * p % 18446744073709551616 = X at h1 ⊢
  rw [Nat.add_mul, Nat.add_mul, e1, h1, Nat.add_assoc]
theorem two_mods (U u1 u0 Y : Nat) : (U * 18446744073709551616 + (u1 * 4294967296 + u0)) % Y = ((U * 4294967296 + u1) % Y * 4294967296 + u0) % Y := by
  have h := Nat.div_add_mod (U * 4294967296 + u1) Y
  have e : U * 18446744073709551616 + (u1 * 4294967296 + u0) = ((U * 4294967296 + u1) % Y * 4294967296 + u0) + Y * ((U * 4294967296 + u1) / Y * 4294967296) := by
    rw [← Nat.mul_assoc]
    omega
  rw [e, Nat.add_mul_mod_self_left]
theorem bl_facts (y s : Nat) (hy : 0 < y) (hy64 : y < 18446744073709551616) (hs : Lib.bitLen y + s = 64) : 9223372036854775808 ≤ y * 2 ^ s ∧ y * 2 ^ s < 18446744073709551616 ∧ 2 ^ s * 2 ^ (64 - s) = 18446744073709551616 := by
  have hb := Lib.bitLenAux_bounds 64 y (by simpa using hy64) (by omega)
  have hbl : Lib.bitLen y = 64 - s := by omega
  rw [show Lib.bitLenAux 64 y = Lib.bitLen y from rfl, hbl] at hb
  obtain ⟨h1, h2, h3⟩ := hb
  have e : 2 ^ s * 2 ^ (64 - s) = 18446744073709551616 := by rw [← Nat.pow_add, show s + (64 - s) = 64 by omega]
  have e2 : 2 ^ (64 - s - 1) * 2 ^ s = 9223372036854775808 := by rw [← Nat.pow_add, show 64 - s - 1 + s = 63 by omega]
  have k1 := Nat.mul_le_mul_right (2 ^ s) h2
  have k2 := Nat.mul_lt_mul_of_pos_right h3 (Nat.pow_pos (n := s) (show 0 < 2 by omega))
  rw [Nat.mul_comm (2 ^ (64 - s))] at k2
  omega
theorem norm_facts (hi lo y s : Nat) (hy : hi < y) (hy64 : y < 18446744073709551616) (hlo : lo < 18446744073709551616) (hs : Lib.bitLen y + s = 64) :
    ∃ Y y1 y0 H b U M u1 u0 : Nat, IntKind.u64.wrap ((y : Int) * 2 ^ s) = (Y : Int) ∧ (Y : Int) / 4294967296 = (y1 : Int) ∧ bits .and .u64 (Y : Int) 4294967295 = (y0 : Int) ∧
      IntKind.u64.wrap ((hi : Int) * 2 ^ s) = (H : Int) ∧ (lo : Int) / 2 ^ (64 - s) = (b : Int) ∧ bits .or .u64 (H : Int) (b : Int) = (U : Int) ∧ IntKind.u64.wrap ((lo : Int) * 2 ^ s) = (M : Int) ∧ (M : Int) / 4294967296 = (u1 : Int) ∧ bits .and .u64 (M : Int) 4294967295 = (u0 : Int) ∧
      Y = y1 * 4294967296 + y0 ∧ 2147483648 ≤ y1 ∧ y1 < 4294967296 ∧ y0 < 4294967296 ∧ U < y1 * 4294967296 + y0 ∧ u1 < 4294967296 ∧ u0 < 4294967296 ∧
      (hi * 18446744073709551616 + lo) / y = (U * 18446744073709551616 + (u1 * 4294967296 + u0)) / (y1 * 4294967296 + y0) ∧
      (U * 18446744073709551616 + (u1 * 4294967296 + u0)) % (y1 * 4294967296 + y0) = (hi * 18446744073709551616 + lo) % y * 2 ^ s := by
  obtain ⟨k1, k2, k3⟩ := bl_facts y s (by omega) hy64 hs
  have hp : 0 < 2 ^ s := Nat.pow_pos (by omega)
  have ht : 0 < 2 ^ (64 - s) := Nat.pow_pos (by omega)
  have hb : lo / 2 ^ (64 - s) < 2 ^ s := by
    apply Nat.div_lt_of_lt_mul
    rw [Nat.mul_comm, k3]; exact hlo
  have hH : hi * 2 ^ s + 2 ^ s ≤ y * 2 ^ s := by
    have := Nat.mul_le_mul_right (2 ^ s) (show hi + 1 ≤ y by omega)
    rwa [Nat.succ_mul] at this
  have hcast : ∀ a : Nat, (a : Int) * 2 ^ s = ((a * 2 ^ s : Nat) : Int) := fun a => by push_cast; rfl
  have hmask : ∀ a : Nat, a < 18446744073709551616 → bits .and .u64 (a : Int) 4294967295 = ((a % 4294967296 : Nat) : Int) := fun a ha => by
    rw [show (4294967295 : Int) = ((4294967295 : Nat) : Int) from rfl, u64_and_nat a 4294967295 ha (by omega), show (4294967295 : Nat) = 2 ^ 32 - 1 from rfl, Nat.and_two_pow_sub_one_eq_mod]
  have hM : lo * 2 ^ s % 18446744073709551616 < 18446744073709551616 := Nat.mod_lt _ (by omega)
  have hsh := shifted_eq hi lo (2 ^ s) (2 ^ (64 - s)) k3 hp
  refine ⟨y * 2 ^ s, y * 2 ^ s / 4294967296, y * 2 ^ s % 4294967296, hi * 2 ^ s, lo / 2 ^ (64 - s), hi * 2 ^ s + lo / 2 ^ (64 - s), lo * 2 ^ s % 18446744073709551616, lo * 2 ^ s % 18446744073709551616 / 4294967296, lo * 2 ^ s % 18446744073709551616 % 4294967296, ?_, rfl, hmask _ k2, ?_, ?_, ?_, ?_, rfl, hmask _ hM, ?_, ?_, ?_, ?_, ?_, ?_, ?_, ?_, ?_⟩
  · rw [hcast]; exact IntWalk.u64_in _ (by omega)
  · rw [hcast]; exact IntWalk.u64_in _ (by omega)
  · rw [show (2 : Int) ^ (64 - s) = ((2 ^ (64 - s) : Nat) : Int) by push_cast; rfl]; rfl
  · rw [u64_or_nat _ _ (by omega) (by omega), Nat.mul_comm hi, ← Nat.two_pow_add_eq_or_of_lt hb]
  · rw [hcast, IntKind.wrap_u64]; rfl
  · omega
  · omega
  · omega
  · exact Nat.mod_lt _ (by omega)
  · omega
  · omega
  · exact Nat.mod_lt _ (by omega)
  · rw [Nat.div_add_mod', Nat.div_add_mod', hsh, Nat.mul_div_mul_right _ _ hp]
  · rw [Nat.div_add_mod', Nat.div_add_mod', hsh, Nat.mul_mod_mul_right]
theorem int_shr (a s : Nat) : ((a * 2 ^ s : Nat) : Int) / 2 ^ s = (a : Int) := by
  rw [show (2 : Int) ^ s = ((2 ^ s : Nat) : Int) by push_cast; rfl, ← Int.natCast_ediv, Nat.mul_div_cancel _ (Nat.pow_pos (by omega))]
theorem div_facts (U y1 : Nat) (hU : U < 18446744073709551616) : IntKind.u64.wrap ((U : Int) / (y1 : Int)) = ((U / y1 : Nat) : Int) ∧ IntKind.u64.wrap (((U / y1 : Nat) : Int) * (y1 : Int)) = ((U / y1 * y1 : Nat) : Int) ∧ IntKind.u64.wrap ((U : Int) - ((U / y1 * y1 : Nat) : Int)) = ((U % y1 : Nat) : Int) := by
  have h1 := Nat.div_le_self U y1
  have h3 : U / y1 * y1 + U % y1 = U := by rw [Nat.mul_comm]; exact Nat.div_add_mod U y1
  rw [show (U : Int) / (y1 : Int) = ((U / y1 : Nat) : Int) from rfl]
  generalize U / y1 = Q at *
  generalize U % y1 = R at *
  rw [← Int.natCast_mul]
  generalize Q * y1 = C at *
  refine ⟨IntWalk.u64_in _ (by omega), IntWalk.u64_in _ (by omega), ?_⟩
  rw [show (U : Int) - (C : Int) = (R : Int) by omega]; exact IntWalk.u64_in _ (by omega)
theorem rest_facts (U d q Y : Nat) (hq : q = (U * 4294967296 + d) / Y) (hY : 0 < Y) (hY64 : Y < 18446744073709551616) (hd : d < 4294967296) :
    ∃ A C R : Nat, IntKind.u64.wrap ((U : Int) * 4294967296) = (A : Int) ∧ IntKind.u64.wrap ((A : Int) + (d : Int)) = (A : Int) + (d : Int) ∧ IntKind.u64.wrap ((q : Int) * (Y : Int)) = (C : Int) ∧ IntKind.u64.wrap ((A : Int) + (d : Int) - (C : Int)) = (R : Int) ∧ R = (U * 4294967296 + d) % Y ∧ R < Y := by
  have h1 := Nat.div_add_mod (U * 4294967296 + d) Y
  rw [← hq, Nat.mul_comm] at h1
  have h2 := Nat.mod_lt (U * 4294967296 + d) hY
  generalize (U * 4294967296 + d) % Y = R at *
  refine ⟨U * 4294967296 % 18446744073709551616, q * Y % 18446744073709551616, R, ?_, ?_, ?_, ?_, rfl, h2⟩
  · rw [IntKind.wrap_u64]; omega
  · exact IntWalk.u64_in _ (by omega)
  · rw [IntKind.wrap_u64, ← Int.natCast_mul]; omega
  · rw [IntKind.wrap_u64]; omega

end Go.Proofs.YtgpjfgakhncdnaaDoor
