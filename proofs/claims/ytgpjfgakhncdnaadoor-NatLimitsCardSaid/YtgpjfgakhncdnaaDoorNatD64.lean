/-
  DERIVED. The walk of math/bits.Div64.
-/
import Derived.Test.YtgpjfgakhncdnaaDoorPureD64
import Derived.Test.YtgpjfgakhncdnaaDoorShelf
import Derived.Test.YtgpjfgakhncdnaaDoorNatGen
import Derived.Laws.Shifts
import Derived.Deep.QuietTactic
import Derived.BigQuiet
import Derived.Deep.Draws
namespace Go.Proofs.YtgpjfgakhncdnaaDoor
open Go.RowKit

theorem lz_any (y s : Nat) (hy : y < 18446744073709551616) (hs : Hid (Lib.bitLen y + s = 64)) (w : World) :
    Calls Tryd.prog 63 #[.int .u64 y] w fun e w' => e = .returned (.int .i64 (s : Int)) ∧ w = w' := by
  refine (Tryd.bits_LeadingZeros64 (y : Int) w (by omega) (by omega)).mono ?_
  rintro e w' ⟨rfl, hw⟩
  refine ⟨?_, hw.symm⟩
  have := hs.out
  rw [Int.toNat_natCast]
  exact ret_int (by omega)

theorem ret_dv {a b r s : Int} (h : a = b) (h2 : r = s) : Ending.returned (.tuple #[.int .u64 a, .int .u64 r]) = .returned (.tuple #[.int .u64 b, .int .u64 s]) := by rw [h, h2]
/-- what Div64 leaves: the quotient, the remainder, and the world as it was but for draws -/
def DvPost (Q R : Nat) (w : World) (e : Ending) (w' : World) : Prop := ∃ n : Nat, e = .returned (.tuple #[.int .u64 (Q : Int), .int .u64 (R : Int)]) ∧ w' = w.drewN n

theorem d64_zero (lo y : Nat) (hy : 0 < y) (hlo : lo < 18446744073709551616) (w : World) :
    Calls Tryd.prog 58 #[.int .u64 0, .int .u64 lo, .int .u64 y] w fun e w' => DvPost (lo / y) (lo % y) w e w' := by
  have hyI : (0 : Int) < (y : Int) := by omega
  obtain ⟨q, hq⟩ : ∃ q, lo / y = q := ⟨_, rfl⟩
  have hqq : q ≤ lo := by rw [← hq]; exact Nat.div_le_self lo y
  have hw1 : IntKind.u64.wrap ((lo : Int) / (y : Int)) = (q : Int) := by
    rw [show (lo : Int) / (y : Int) = ((lo / y : Nat) : Int) from rfl, hq]
    exact IntWalk.u64_in _ (by omega)
  rw [hq]
  clear hq
  go_enter Tryd.func58, Tryd.ntmps58
  go_wp2_with fail
  go_quiet (fail)
  go_wp2_with fail
  go_ret2
  exact ⟨_, rfl, rfl⟩

set_option maxHeartbeats 8000000 in
set_option maxRecDepth 100000 in
theorem d64_big (hi lo y s : Nat) (hhi : 0 < hi) (hy : hi < y) (hy64 : y < 18446744073709551616) (hlo : lo < 18446744073709551616) (hs : Hid (Lib.bitLen y + s = 64)) (hs64 : s ≤ 64) (w : World) :
    Calls Tryd.prog 58 #[.int .u64 hi, .int .u64 lo, .int .u64 y] w fun e w' => DvPost ((hi * 18446744073709551616 + lo) / y) ((hi * 18446744073709551616 + lo) % y) w e w' := by
  obtain ⟨Y, y1, y0, H, b, U, M, u1, u0, f1, f2, f3, f4, f5, f6, f7, f8, f9, hY, hy1, hy1b, hy0, hUb, hu1, hu0, hres, hrem⟩ := norm_facts hi lo y s hy hy64 hlo hs.out
  have HY := Lib.hid hY
  have HREM := Lib.hid hrem
  rw [hres]
  clear hY hres hrem
  have hy1p : 0 < y1 := by omega
  have hy1I : (0 : Int) < (y1 : Int) := by omega
  have hU1 := hUb
  have hd1 := hu1
  have hd2 := hu0
  have HF1 := Lib.hid (half_start U u1 y1 y0 hUb hy1 hy0 hu1)
  have hr1 : U % y1 < 4294967296 := Nat.lt_trans (Nat.mod_lt U hy1p) hy1b
  obtain ⟨g1, g2, g3⟩ := div_facts U y1 (by omega)
  generalize U / y1 = qa at *
  generalize U % y1 = ra at *
  generalize qa * y1 = ca at *
  have hy0' : ((y : Int) == 0) = false := by simp; omega
  have hh0 : ((hi : Int) == 0) = false := by simp; omega
  go_enter Tryd.func58, Tryd.ntmps58
  go_wp2_with (go_at_call 63; refine (lz_any y s hy64 hs _).mono ?_; rintro e w' ⟨rfl, rfl⟩)
  go_loop [15, 16] (fun a b => ∃ q r : Nat, a = .int .u64 q ∧ b = .int .u64 r ∧ r < 4294967296 ∧ q ≤ 4294967297 ∧ Hid (Half U u1 y1 y0 q r)) (fun a _ => (intOf a).toNat)
  case atStart => exact ⟨_, _, rfl, rfl, hr1, HF1.out.top, HF1⟩
  case round =>
    clear HF1 hr1
    obtain ⟨q, r, rfl, rfl, hr, hq, HF⟩ := hrel
    by_cases hA : (4294967296 : Int) ≤ (q : Int)
    · obtain ⟨hq0, hF⟩ := half_step HF.out hU1 hd1 (.inl (by omega))
      have HF2 := Lib.hid hF
      clear hF
      by_cases hB : (4294967296 : Int) ≤ (r : Int) + (y1 : Int)
      · obtain ⟨qx, hqx⟩ : ∃ qx, q - 1 = qx := ⟨_, rfl⟩
        have e1 : ((q : Int) - 1) = (qx : Int) := by omega
        have HQ1 : Hid (qx = (U * 4294967296 + u1) / (y1 * 4294967296 + y0)) := by show _ = _; rw [← hqx]; exact half_break HF2.out hy1p (by omega) hy0 (by omega)
        clear hqx HF2 HF
        have hz1 : qx < 4294967296 := by rw [HQ1.out]; exact quo_half _ _ _ hU1 hd1
        obtain ⟨A, C, R, k1, k2, k3, k4, hR, hRY⟩ := rest_facts U u1 qx Y (by rw [HY.out]; exact HQ1.out) (by have := HY.out; omega) (by have := HY.out; omega) hd1
        have hU2 : R < y1 * 4294967296 + y0 := by rw [← HY.out]; exact hRY
        have HRES2 : Hid ((U * 18446744073709551616 + (u1 * 4294967296 + u0)) / (y1 * 4294967296 + y0) = qx * 4294967296 + (R * 4294967296 + u0) / (y1 * 4294967296 + y0)) := by
          show _ = _; rw [two_halves U u1 u0 _ (by omega), ← HQ1.out, hR, HY.out]
        have HREM2 : Hid ((hi * 18446744073709551616 + lo) % y * 2 ^ s = (R * 4294967296 + u0) % (y1 * 4294967296 + y0)) := by
          show _ = _; rw [← HREM.out, two_mods, hR, HY.out]
        clear hR HQ1
        have HF2 := Lib.hid (half_start R u0 y1 y0 hU2 hy1 hy0 hd2)
        have hr2 : R % y1 < 4294967296 := Nat.lt_trans (Nat.mod_lt R hy1p) hy1b
        obtain ⟨g1, g2, g3⟩ := div_facts R y1 (by omega)
        generalize R / y1 = qb at *
        generalize R % y1 = rb at *
        generalize qb * y1 = cb at *
        go_wp2_with fail
        go_loop [18, 16] (fun a b => ∃ v r : Nat, a = .int .u64 v ∧ b = .int .u64 r ∧ r < 4294967296 ∧ v ≤ 4294967297 ∧ Hid (Half R u0 y1 y0 v r)) (fun a _ => (intOf a).toNat)
        case atStart => exact ⟨_, _, rfl, rfl, hr2, HF2.out.top, HF2⟩
        case round =>
          clear HF2 hr2
          obtain ⟨v, r, rfl, rfl, hr, hq, HF⟩ := hrel
          by_cases hA : (4294967296 : Int) ≤ (v : Int)
          · obtain ⟨hq0, hF⟩ := half_step HF.out hU2 hd2 (.inl (by omega))
            have HF2 := Lib.hid hF
            clear hF
            by_cases hB : (4294967296 : Int) ≤ (r : Int) + (y1 : Int)
            · obtain ⟨vx, hqx⟩ : ∃ vx, v - 1 = vx := ⟨_, rfl⟩
              have e1 : ((v : Int) - 1) = (vx : Int) := by omega
              have HQ2 : Hid (vx = (R * 4294967296 + u0) / (y1 * 4294967296 + y0)) := by show _ = _; rw [← hqx]; exact half_break HF2.out hy1p (by omega) hy0 (by omega)
              clear hqx HF2 HF
              have hz2 : vx < 4294967296 := by rw [HQ2.out]; exact quo_half _ _ _ hU2 hd2
              obtain ⟨A2, C2, R2, m1, m2, m3, m4, hR2, hRY2⟩ := rest_facts R u0 vx Y (by rw [HY.out]; exact HQ2.out) (by have := HY.out; omega) (by have := HY.out; omega) hd2
              have HR2 : Hid ((R2 : Int) / 2 ^ s = (((hi * 18446744073709551616 + lo) % y : Nat) : Int)) := by
                show _ = _; rw [hR2, HY.out, ← HREM2.out]; exact int_shr _ _
              clear hR2 hRY2
              go_wp2_with fail
              go_ret2
              exact ⟨0, ret_dv (by rw [HRES2.out, ← HQ2.out]; omega) HR2.out, rfl⟩
            · have e1 : ((v : Int) - 1) = ((v - 1 : Nat) : Int) := by omega
              go_wp2_with fail
              go_round
              case rel => exact ⟨v - 1, r + y1, by go_num, by go_num, by omega, by omega, HF2⟩
              case measure => simp [intOf]; omega
          · have hq3 : v < 4294967296 := by omega
            have hmul := Nat.mul_le_mul (show v ≤ 4294967295 by omega) (show y0 ≤ 4294967295 by omega)
            obtain ⟨m, hm⟩ : ∃ m, v * y0 = m := ⟨_, rfl⟩
            have hm1 : IntKind.u64.wrap ((v : Int) * (y0 : Int)) = (m : Int) := by
              rw [← Int.natCast_mul, hm]; exact IntWalk.u64_in _ (by omega)
            by_cases hC : (4294967296 * (r : Int) + (u0 : Int)) < (m : Int)
            · obtain ⟨hq0, hF⟩ := half_step HF.out hU2 hd2 (.inr (by omega))
              have HF2 := Lib.hid hF
              clear hF
              by_cases hB : (4294967296 : Int) ≤ (r : Int) + (y1 : Int)
              · obtain ⟨vx, hqx⟩ : ∃ vx, v - 1 = vx := ⟨_, rfl⟩
                have e1 : ((v : Int) - 1) = (vx : Int) := by omega
                have HQ2 : Hid (vx = (R * 4294967296 + u0) / (y1 * 4294967296 + y0)) := by show _ = _; rw [← hqx]; exact half_break HF2.out hy1p (by omega) hy0 (by omega)
                clear hqx HF2 HF
                have hz2 : vx < 4294967296 := by rw [HQ2.out]; exact quo_half _ _ _ hU2 hd2
                obtain ⟨A2, C2, R2, m1, m2, m3, m4, hR2, hRY2⟩ := rest_facts R u0 vx Y (by rw [HY.out]; exact HQ2.out) (by have := HY.out; omega) (by have := HY.out; omega) hd2
                have HR2 : Hid ((R2 : Int) / 2 ^ s = (((hi * 18446744073709551616 + lo) % y : Nat) : Int)) := by
                  show _ = _; rw [hR2, HY.out, ← HREM2.out]; exact int_shr _ _
                clear hR2 hRY2
                go_wp2_with fail
                go_ret2
                exact ⟨0, ret_dv (by rw [HRES2.out, ← HQ2.out]; omega) HR2.out, rfl⟩
              · have e1 : ((v : Int) - 1) = ((v - 1 : Nat) : Int) := by omega
                go_wp2_with fail
                go_round
                case rel => exact ⟨v - 1, r + y1, by go_num, by go_num, by omega, by omega, HF2⟩
                case measure => simp [intOf]; omega
            · have HQ2 := Lib.hid (half_stop HF.out hy1p (by omega))
              clear HF
              have hz2 : v < 4294967296 := by rw [HQ2.out]; exact quo_half _ _ _ hU2 hd2
              obtain ⟨A2, C2, R2, m1, m2, m3, m4, hR2, hRY2⟩ := rest_facts R u0 v Y (by rw [HY.out]; exact HQ2.out) (by have := HY.out; omega) (by have := HY.out; omega) hd2
              have HR2 : Hid ((R2 : Int) / 2 ^ s = (((hi * 18446744073709551616 + lo) % y : Nat) : Int)) := by
                show _ = _; rw [hR2, HY.out, ← HREM2.out]; exact int_shr _ _
              clear hR2 hRY2
              go_wp2_with fail
              go_ret2
              exact ⟨0, ret_dv (by rw [HRES2.out, ← HQ2.out]; omega) HR2.out, rfl⟩
      · have e1 : ((q : Int) - 1) = ((q - 1 : Nat) : Int) := by omega
        go_wp2_with fail
        go_round
        case rel => exact ⟨q - 1, r + y1, by go_num, by go_num, by omega, by omega, HF2⟩
        case measure => simp [intOf]; omega
    · have hq3 : q < 4294967296 := by omega
      have hmul := Nat.mul_le_mul (show q ≤ 4294967295 by omega) (show y0 ≤ 4294967295 by omega)
      obtain ⟨m, hm⟩ : ∃ m, q * y0 = m := ⟨_, rfl⟩
      have hm1 : IntKind.u64.wrap ((q : Int) * (y0 : Int)) = (m : Int) := by
        rw [← Int.natCast_mul, hm]; exact IntWalk.u64_in _ (by omega)
      by_cases hC : (4294967296 * (r : Int) + (u1 : Int)) < (m : Int)
      · obtain ⟨hq0, hF⟩ := half_step HF.out hU1 hd1 (.inr (by omega))
        have HF2 := Lib.hid hF
        clear hF
        by_cases hB : (4294967296 : Int) ≤ (r : Int) + (y1 : Int)
        · obtain ⟨qx, hqx⟩ : ∃ qx, q - 1 = qx := ⟨_, rfl⟩
          have e1 : ((q : Int) - 1) = (qx : Int) := by omega
          have HQ1 : Hid (qx = (U * 4294967296 + u1) / (y1 * 4294967296 + y0)) := by show _ = _; rw [← hqx]; exact half_break HF2.out hy1p (by omega) hy0 (by omega)
          clear hqx HF2 HF
          have hz1 : qx < 4294967296 := by rw [HQ1.out]; exact quo_half _ _ _ hU1 hd1
          obtain ⟨A, C, R, k1, k2, k3, k4, hR, hRY⟩ := rest_facts U u1 qx Y (by rw [HY.out]; exact HQ1.out) (by have := HY.out; omega) (by have := HY.out; omega) hd1
          have hU2 : R < y1 * 4294967296 + y0 := by rw [← HY.out]; exact hRY
          have HRES2 : Hid ((U * 18446744073709551616 + (u1 * 4294967296 + u0)) / (y1 * 4294967296 + y0) = qx * 4294967296 + (R * 4294967296 + u0) / (y1 * 4294967296 + y0)) := by
            show _ = _; rw [two_halves U u1 u0 _ (by omega), ← HQ1.out, hR, HY.out]
          have HREM2 : Hid ((hi * 18446744073709551616 + lo) % y * 2 ^ s = (R * 4294967296 + u0) % (y1 * 4294967296 + y0)) := by
            show _ = _; rw [← HREM.out, two_mods, hR, HY.out]
          clear hR HQ1
          have HF2 := Lib.hid (half_start R u0 y1 y0 hU2 hy1 hy0 hd2)
          have hr2 : R % y1 < 4294967296 := Nat.lt_trans (Nat.mod_lt R hy1p) hy1b
          obtain ⟨g1, g2, g3⟩ := div_facts R y1 (by omega)
          generalize R / y1 = qb at *
          generalize R % y1 = rb at *
          generalize qb * y1 = cb at *
          go_wp2_with fail
          go_loop [18, 16] (fun a b => ∃ v r : Nat, a = .int .u64 v ∧ b = .int .u64 r ∧ r < 4294967296 ∧ v ≤ 4294967297 ∧ Hid (Half R u0 y1 y0 v r)) (fun a _ => (intOf a).toNat)
          case atStart => exact ⟨_, _, rfl, rfl, hr2, HF2.out.top, HF2⟩
          case round =>
            clear HF2 hr2
            obtain ⟨v, r, rfl, rfl, hr, hq, HF⟩ := hrel
            by_cases hA : (4294967296 : Int) ≤ (v : Int)
            · obtain ⟨hq0, hF⟩ := half_step HF.out hU2 hd2 (.inl (by omega))
              have HF2 := Lib.hid hF
              clear hF
              by_cases hB : (4294967296 : Int) ≤ (r : Int) + (y1 : Int)
              · obtain ⟨vx, hqx⟩ : ∃ vx, v - 1 = vx := ⟨_, rfl⟩
                have e1 : ((v : Int) - 1) = (vx : Int) := by omega
                have HQ2 : Hid (vx = (R * 4294967296 + u0) / (y1 * 4294967296 + y0)) := by show _ = _; rw [← hqx]; exact half_break HF2.out hy1p (by omega) hy0 (by omega)
                clear hqx HF2 HF
                have hz2 : vx < 4294967296 := by rw [HQ2.out]; exact quo_half _ _ _ hU2 hd2
                obtain ⟨A2, C2, R2, m1, m2, m3, m4, hR2, hRY2⟩ := rest_facts R u0 vx Y (by rw [HY.out]; exact HQ2.out) (by have := HY.out; omega) (by have := HY.out; omega) hd2
                have HR2 : Hid ((R2 : Int) / 2 ^ s = (((hi * 18446744073709551616 + lo) % y : Nat) : Int)) := by
                  show _ = _; rw [hR2, HY.out, ← HREM2.out]; exact int_shr _ _
                clear hR2 hRY2
                go_wp2_with fail
                go_ret2
                exact ⟨0, ret_dv (by rw [HRES2.out, ← HQ2.out]; omega) HR2.out, rfl⟩
              · have e1 : ((v : Int) - 1) = ((v - 1 : Nat) : Int) := by omega
                go_wp2_with fail
                go_round
                case rel => exact ⟨v - 1, r + y1, by go_num, by go_num, by omega, by omega, HF2⟩
                case measure => simp [intOf]; omega
            · have hq3 : v < 4294967296 := by omega
              have hmul := Nat.mul_le_mul (show v ≤ 4294967295 by omega) (show y0 ≤ 4294967295 by omega)
              obtain ⟨m, hm⟩ : ∃ m, v * y0 = m := ⟨_, rfl⟩
              have hm1 : IntKind.u64.wrap ((v : Int) * (y0 : Int)) = (m : Int) := by
                rw [← Int.natCast_mul, hm]; exact IntWalk.u64_in _ (by omega)
              by_cases hC : (4294967296 * (r : Int) + (u0 : Int)) < (m : Int)
              · obtain ⟨hq0, hF⟩ := half_step HF.out hU2 hd2 (.inr (by omega))
                have HF2 := Lib.hid hF
                clear hF
                by_cases hB : (4294967296 : Int) ≤ (r : Int) + (y1 : Int)
                · obtain ⟨vx, hqx⟩ : ∃ vx, v - 1 = vx := ⟨_, rfl⟩
                  have e1 : ((v : Int) - 1) = (vx : Int) := by omega
                  have HQ2 : Hid (vx = (R * 4294967296 + u0) / (y1 * 4294967296 + y0)) := by show _ = _; rw [← hqx]; exact half_break HF2.out hy1p (by omega) hy0 (by omega)
                  clear hqx HF2 HF
                  have hz2 : vx < 4294967296 := by rw [HQ2.out]; exact quo_half _ _ _ hU2 hd2
                  obtain ⟨A2, C2, R2, m1, m2, m3, m4, hR2, hRY2⟩ := rest_facts R u0 vx Y (by rw [HY.out]; exact HQ2.out) (by have := HY.out; omega) (by have := HY.out; omega) hd2
                  have HR2 : Hid ((R2 : Int) / 2 ^ s = (((hi * 18446744073709551616 + lo) % y : Nat) : Int)) := by
                    show _ = _; rw [hR2, HY.out, ← HREM2.out]; exact int_shr _ _
                  clear hR2 hRY2
                  go_wp2_with fail
                  go_ret2
                  exact ⟨0, ret_dv (by rw [HRES2.out, ← HQ2.out]; omega) HR2.out, rfl⟩
                · have e1 : ((v : Int) - 1) = ((v - 1 : Nat) : Int) := by omega
                  go_wp2_with fail
                  go_round
                  case rel => exact ⟨v - 1, r + y1, by go_num, by go_num, by omega, by omega, HF2⟩
                  case measure => simp [intOf]; omega
              · have HQ2 := Lib.hid (half_stop HF.out hy1p (by omega))
                clear HF
                have hz2 : v < 4294967296 := by rw [HQ2.out]; exact quo_half _ _ _ hU2 hd2
                obtain ⟨A2, C2, R2, m1, m2, m3, m4, hR2, hRY2⟩ := rest_facts R u0 v Y (by rw [HY.out]; exact HQ2.out) (by have := HY.out; omega) (by have := HY.out; omega) hd2
                have HR2 : Hid ((R2 : Int) / 2 ^ s = (((hi * 18446744073709551616 + lo) % y : Nat) : Int)) := by
                  show _ = _; rw [hR2, HY.out, ← HREM2.out]; exact int_shr _ _
                clear hR2 hRY2
                go_wp2_with fail
                go_ret2
                exact ⟨0, ret_dv (by rw [HRES2.out, ← HQ2.out]; omega) HR2.out, rfl⟩
        · have e1 : ((q : Int) - 1) = ((q - 1 : Nat) : Int) := by omega
          go_wp2_with fail
          go_round
          case rel => exact ⟨q - 1, r + y1, by go_num, by go_num, by omega, by omega, HF2⟩
          case measure => simp [intOf]; omega
      · have HQ1 := Lib.hid (half_stop HF.out hy1p (by omega))
        clear HF
        have hz1 : q < 4294967296 := by rw [HQ1.out]; exact quo_half _ _ _ hU1 hd1
        obtain ⟨A, C, R, k1, k2, k3, k4, hR, hRY⟩ := rest_facts U u1 q Y (by rw [HY.out]; exact HQ1.out) (by have := HY.out; omega) (by have := HY.out; omega) hd1
        have hU2 : R < y1 * 4294967296 + y0 := by rw [← HY.out]; exact hRY
        have HRES2 : Hid ((U * 18446744073709551616 + (u1 * 4294967296 + u0)) / (y1 * 4294967296 + y0) = q * 4294967296 + (R * 4294967296 + u0) / (y1 * 4294967296 + y0)) := by
          show _ = _; rw [two_halves U u1 u0 _ (by omega), ← HQ1.out, hR, HY.out]
        have HREM2 : Hid ((hi * 18446744073709551616 + lo) % y * 2 ^ s = (R * 4294967296 + u0) % (y1 * 4294967296 + y0)) := by
          show _ = _; rw [← HREM.out, two_mods, hR, HY.out]
        clear hR HQ1
        have HF2 := Lib.hid (half_start R u0 y1 y0 hU2 hy1 hy0 hd2)
        have hr2 : R % y1 < 4294967296 := Nat.lt_trans (Nat.mod_lt R hy1p) hy1b
        obtain ⟨g1, g2, g3⟩ := div_facts R y1 (by omega)
        generalize R / y1 = qb at *
        generalize R % y1 = rb at *
        generalize qb * y1 = cb at *
        go_wp2_with fail
        go_loop [18, 16] (fun a b => ∃ v r : Nat, a = .int .u64 v ∧ b = .int .u64 r ∧ r < 4294967296 ∧ v ≤ 4294967297 ∧ Hid (Half R u0 y1 y0 v r)) (fun a _ => (intOf a).toNat)
        case atStart => exact ⟨_, _, rfl, rfl, hr2, HF2.out.top, HF2⟩
        case round =>
          clear HF2 hr2
          obtain ⟨v, r, rfl, rfl, hr, hq, HF⟩ := hrel
          by_cases hA : (4294967296 : Int) ≤ (v : Int)
          · obtain ⟨hq0, hF⟩ := half_step HF.out hU2 hd2 (.inl (by omega))
            have HF2 := Lib.hid hF
            clear hF
            by_cases hB : (4294967296 : Int) ≤ (r : Int) + (y1 : Int)
            · obtain ⟨vx, hqx⟩ : ∃ vx, v - 1 = vx := ⟨_, rfl⟩
              have e1 : ((v : Int) - 1) = (vx : Int) := by omega
              have HQ2 : Hid (vx = (R * 4294967296 + u0) / (y1 * 4294967296 + y0)) := by show _ = _; rw [← hqx]; exact half_break HF2.out hy1p (by omega) hy0 (by omega)
              clear hqx HF2 HF
              have hz2 : vx < 4294967296 := by rw [HQ2.out]; exact quo_half _ _ _ hU2 hd2
              obtain ⟨A2, C2, R2, m1, m2, m3, m4, hR2, hRY2⟩ := rest_facts R u0 vx Y (by rw [HY.out]; exact HQ2.out) (by have := HY.out; omega) (by have := HY.out; omega) hd2
              have HR2 : Hid ((R2 : Int) / 2 ^ s = (((hi * 18446744073709551616 + lo) % y : Nat) : Int)) := by
                show _ = _; rw [hR2, HY.out, ← HREM2.out]; exact int_shr _ _
              clear hR2 hRY2
              go_wp2_with fail
              go_ret2
              exact ⟨0, ret_dv (by rw [HRES2.out, ← HQ2.out]; omega) HR2.out, rfl⟩
            · have e1 : ((v : Int) - 1) = ((v - 1 : Nat) : Int) := by omega
              go_wp2_with fail
              go_round
              case rel => exact ⟨v - 1, r + y1, by go_num, by go_num, by omega, by omega, HF2⟩
              case measure => simp [intOf]; omega
          · have hq3 : v < 4294967296 := by omega
            have hmul := Nat.mul_le_mul (show v ≤ 4294967295 by omega) (show y0 ≤ 4294967295 by omega)
            obtain ⟨m, hm⟩ : ∃ m, v * y0 = m := ⟨_, rfl⟩
            have hm1 : IntKind.u64.wrap ((v : Int) * (y0 : Int)) = (m : Int) := by
              rw [← Int.natCast_mul, hm]; exact IntWalk.u64_in _ (by omega)
            by_cases hC : (4294967296 * (r : Int) + (u0 : Int)) < (m : Int)
            · obtain ⟨hq0, hF⟩ := half_step HF.out hU2 hd2 (.inr (by omega))
              have HF2 := Lib.hid hF
              clear hF
              by_cases hB : (4294967296 : Int) ≤ (r : Int) + (y1 : Int)
              · obtain ⟨vx, hqx⟩ : ∃ vx, v - 1 = vx := ⟨_, rfl⟩
                have e1 : ((v : Int) - 1) = (vx : Int) := by omega
                have HQ2 : Hid (vx = (R * 4294967296 + u0) / (y1 * 4294967296 + y0)) := by show _ = _; rw [← hqx]; exact half_break HF2.out hy1p (by omega) hy0 (by omega)
                clear hqx HF2 HF
                have hz2 : vx < 4294967296 := by rw [HQ2.out]; exact quo_half _ _ _ hU2 hd2
                obtain ⟨A2, C2, R2, m1, m2, m3, m4, hR2, hRY2⟩ := rest_facts R u0 vx Y (by rw [HY.out]; exact HQ2.out) (by have := HY.out; omega) (by have := HY.out; omega) hd2
                have HR2 : Hid ((R2 : Int) / 2 ^ s = (((hi * 18446744073709551616 + lo) % y : Nat) : Int)) := by
                  show _ = _; rw [hR2, HY.out, ← HREM2.out]; exact int_shr _ _
                clear hR2 hRY2
                go_wp2_with fail
                go_ret2
                exact ⟨0, ret_dv (by rw [HRES2.out, ← HQ2.out]; omega) HR2.out, rfl⟩
              · have e1 : ((v : Int) - 1) = ((v - 1 : Nat) : Int) := by omega
                go_wp2_with fail
                go_round
                case rel => exact ⟨v - 1, r + y1, by go_num, by go_num, by omega, by omega, HF2⟩
                case measure => simp [intOf]; omega
            · have HQ2 := Lib.hid (half_stop HF.out hy1p (by omega))
              clear HF
              have hz2 : v < 4294967296 := by rw [HQ2.out]; exact quo_half _ _ _ hU2 hd2
              obtain ⟨A2, C2, R2, m1, m2, m3, m4, hR2, hRY2⟩ := rest_facts R u0 v Y (by rw [HY.out]; exact HQ2.out) (by have := HY.out; omega) (by have := HY.out; omega) hd2
              have HR2 : Hid ((R2 : Int) / 2 ^ s = (((hi * 18446744073709551616 + lo) % y : Nat) : Int)) := by
                show _ = _; rw [hR2, HY.out, ← HREM2.out]; exact int_shr _ _
              clear hR2 hRY2
              go_wp2_with fail
              go_ret2
              exact ⟨0, ret_dv (by rw [HRES2.out, ← HQ2.out]; omega) HR2.out, rfl⟩

end Go.Proofs.YtgpjfgakhncdnaaDoor
