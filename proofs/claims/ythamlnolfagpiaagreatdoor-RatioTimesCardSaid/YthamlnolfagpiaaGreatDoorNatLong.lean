/-
  DERIVED. Merged by mkbase.py.
-/
import Derived.Test.YthamlnolfagpiaaGreatDoorNatBasic
import Derived.Test.YthamlnolfagpiaaGreatDoorBasePure
import Derived.Test.YthamlnolfagpiaaGreatDoorShelf
import Derived.Test.YthamlnolfagpiaaGreatDoorNatGen
import Derived.Laws.Shifts
import Derived.Deep.QuietTactic
import Derived.BigQuiet
import Derived.Deep.Draws
import Derived.Laws.Externs
import Derived.Test.YthamlnolfagpiaaGreatDoorNatRow
import Derived.Deep.AppendLies
import Derived.WalkMore
import Derived.Deep.LoopGhost
namespace Go.Proofs.YthamlnolfagpiaaGreatDoor
open Go.RowKit

/-- what takeTimes leaves: Q times the power bp o is taken from l; 'false': a power of the base is left over -/
def TkPost (g cap o n : Nat) (l : List Nat) (Q : Nat) (w : World) (e : Ending) (w' : World) : Prop :=
  ∃ (ok : Bool) (l' : List Nat), e = .returned (.bool ok) ∧ Rw w' g cap l' ∧ lo l' ∧ OnlyIn o (o + n + 1) l l' ∧ val l' + bp o * Q = val l + bp (o + n + 1) * (if ok then 0 else 1) ∧ w.grownBy w' (some g)
/-- what putBack leaves: Y times the power bp o is added to l; 'true': the power of the base that was left over has gone -/
def PbPost (g cap o n : Nat) (l : List Nat) (Y : Nat) (w : World) (e : Ending) (w' : World) : Prop :=
  ∃ (ok : Bool) (l' : List Nat), e = .returned (.bool ok) ∧ Rw w' g cap l' ∧ lo l' ∧ OnlyIn o (o + n + 1) l l' ∧ val l' + bp (o + n + 1) * (if ok then 1 else 0) = val l + bp o * Y ∧ w.grownBy w' (some g)

set_option maxHeartbeats 2000000 in
theorem takeTimes_any (g cap o c0 gy cy n q : Nat) (l ly : List Nat) (hlo : lo l) (hly : lo ly) (w : World) (hx : Rw w g cap l) (hy : Rw w gy cy ly) (hne : gy ≠ g) (hq : q < 1000000000) (hn : ly.length = n) (hl : o + n + 1 ≤ l.length) (hn9 : n ≤ 1000000) (hc0 : n + 1 ≤ c0) :
    Calls Tryz.prog 183 #[.slice (some ⟨g, o, none⟩) (n + 1) c0, .slice (some ⟨gy, 0, none⟩) n cy, .int .u64 q] w fun e w' => TkPost g cap o n l (q * val ly) w e w' := by
  have HX := Lib.hid hx
  have HY := Lib.hid hy
  have HLX := Lib.hid hlo
  have HLY := Lib.hid hly
  have HN := Lib.hid hn
  have HL := Lib.hid hl
  clear hx hy hlo hly hn hl
  go_enter Tryz.func183, Tryz.ntmps183
  go_wp2
  go_loopw [7, 13] (fun c i wr => ∃ (j cn : Nat) (lz : List Nat), j ≤ n ∧ i = .int .i64 j ∧ c = .int .u64 cn ∧ cn ≤ 1000000000 ∧ Hid (Rw wr g cap lz) ∧ Hid (lo lz) ∧ Hid (OnlyIn o (o + j) l lz) ∧ Hid (val lz + bp o * (q * val (ly.take j)) = val l + bp (o + j) * cn) ∧ Hid (w.grownBy wr (some g))) (fun _ i _ => n - (intOf i).toNat)
  case atStart => exact ⟨0, 0, l, Nat.zero_le _, rfl, rfl, by omega, HX, HLX, OnlyIn.refl o l, by show _ = _; simp [val_nil], only_refl w _⟩
  case round =>
    obtain ⟨j, cn, lz, hj, rfl, rfl, hcn, HZ, HLO, HO, HV, hb⟩ := hrel
    have HLN : Hid (lz.length = l.length) := HO.out.1
    by_cases hlt : j < n
    · have hcy := (HY.out.only hb.out (by simpa using hne)).cell j (by rw [HN.out]; exact hlt)
      have hy9 := lo_getD HLY.out j
      have HTY : Hid (val (ly.take (j + 1)) = val (ly.take j) + bp j * ly.getD j 0) := val_take_succ ly j (by rw [HN.out]; exact hlt)
      generalize ly.getD j 0 = y at *
      have hk : Hid (o + j < lz.length) := by show _ < _; rw [HLN.out]; have := HL.out; omega
      have hcz := HZ.out.cell (o + j) hk.out
      have hfz := HZ.out.frozen (o + j)
      have hz9 := lo_getD HLO.out (o + j)
      have HZZ := Lib.hid (Eq.refl (lz.getD (o + j) 0))
      generalize hzz : lz.getD (o + j) 0 = x at *
      have HZZ := Lib.hid hzz
      clear hzz
      have hqy := mul_le9 hq hy9
      obtain ⟨p, hp⟩ : ∃ p, p = q * y := ⟨_, rfl⟩
      obtain ⟨r, hr⟩ : ∃ r, r = (cn + p) % 1000000000 := ⟨_, rfl⟩
      obtain ⟨d, hd⟩ : ∃ d, d = (cn + p) / 1000000000 := ⟨_, rfl⟩
      rw [← hp] at hqy
      have hr9 : r < 1000000000 := by omega
      have hd9 : d < 1000000000 := by omega
      have hw1 : IntKind.u64.wrap ((q : Int) * (y : Int)) = (p : Int) := by
        rw [show (q : Int) * (y : Int) = ((q * y : Nat) : Int) by push_cast; rfl, ← hp]
        exact IntWalk.u64_in _ (by omega)
      have hw2 : IntKind.u64.wrap ((cn : Int) + (p : Int)) = (cn : Int) + (p : Int) := IntWalk.u64_in _ (by omega)
      have hw3 : ((cn : Int) + (p : Int)).tmod 1000000000 = (r : Int) := by
        rw [show (cn : Int) + (p : Int) = ((cn + p : Nat) : Int) by push_cast; rfl, hr]; rfl
      have hw4 : IntKind.u64.wrap (((cn : Int) + (p : Int)).tdiv 1000000000) = (d : Int) := by
        rw [show ((cn : Int) + (p : Int)).tdiv 1000000000 = (d : Int) by rw [show (cn : Int) + (p : Int) = ((cn + p : Nat) : Int) by push_cast; rfl, hd]; rfl]
        exact IntWalk.u64_in _ (by omega)
      have HS : Hid (r + 1000000000 * d = cn + q * y) := by show _ = _; rw [← hp]; omega
      clear hp hr hd hqy hy9
      by_cases ht : (x : Int) < (r : Int)
      · have HV2 := Lib.hid (tk_round lz o j q y cn x r d 1 (x + 1000000000 - r) _ _ hk.out HZZ.out HS.out (by omega) HV.out)
        have hcz2 : (wr.setCell ⟨g, o + j, none⟩ (.int .u64 ((x : Int) + 1000000000))).cell? ⟨g, o + j, none⟩ = some (.int .u64 ((x : Int) + 1000000000)) := by
          have h := (HZ.out.storeI (o + j) (x + 1000000000) (z := (x : Int) + 1000000000) (by omega)).cell (o + j) (by rw [List.length_set]; exact hk.out)
          rw [h, set_getD _ _ _ hk.out]; rfl
        have hfz2 := (HZ.out.storeI (o + j) (x + 1000000000) (z := (x : Int) + 1000000000) (by omega)).frozen (o + j)
        go_wp2
        go_roundw
        case rel => exact ⟨j + 1, d + 1, lz.set (o + j) (x + 1000000000 - r), by omega, by go_num, by go_num, by omega, ((HZ.out.storeI (o + j) (x + 1000000000) (by omega)).storeI (o + j) (x + 1000000000 - r) (by omega)).ext (by rw [List.set_set]), lo_set HLO.out _ _ (by omega), HO.out.set (by omega) _, by show _ = _; rw [HTY.out]; exact HV2.out, only_set (only_set hb.out _ _) _ _⟩
        case measure => simp [intOf]; omega
      · have HV2 := Lib.hid (tk_round lz o j q y cn x r d 0 (x - r) _ _ hk.out HZZ.out HS.out (by omega) HV.out)
        go_wp2
        go_roundw
        case rel => exact ⟨j + 1, d, lz.set (o + j) (x - r), by omega, by go_num, rfl, by omega, HZ.out.storeI (o + j) _ (by omega), lo_set HLO.out _ _ (by omega), HO.out.set (by omega) _, by show _ = _; rw [HTY.out]; exact HV2.out, only_set hb.out _ _⟩
        case measure => simp [intOf]; omega
    · have hj' : j = n := by omega
      subst hj'
      have hk : Hid (o + j < lz.length) := by show _ < _; rw [HLN.out]; have := HL.out; omega
      have hcz := HZ.out.cell (o + j) hk.out
      have hfz := HZ.out.frozen (o + j)
      have hz9 := lo_getD HLO.out (o + j)
      generalize hzz : lz.getD (o + j) 0 = x at *
      have HZZ := Lib.hid hzz
      clear hzz
      have HVY : Hid (val lz + bp o * (q * val ly) = val l + bp (o + j) * cn) := by
        have h := HV.out; rw [val_take_all ly j (by rw [HN.out]; exact Nat.le_refl _)] at h; exact h
      by_cases ht : (x : Int) < (cn : Int)
      · have HV2 := Lib.hid (tk_top lz o j cn x 1 (x + (1000000000 - cn)) _ _ hk.out HZZ.out (by omega) HVY.out)
        go_wp2
        go_ret
        exact ⟨false, _, rfl, HZ.out.storeI (o + j) (x + (1000000000 - cn)) (by omega), lo_set HLO.out _ _ (by omega), HO.out.set (by omega) _, HV2.out, only_set hb.out _ _⟩
      · have HV2 := Lib.hid (tk_top lz o j cn x 0 (x - cn) _ _ hk.out HZZ.out (by omega) HVY.out)
        go_wp2
        go_ret
        exact ⟨true, _, rfl, HZ.out.storeI (o + j) (x - cn) (by omega), lo_set HLO.out _ _ (by omega), HO.out.set (by omega) _, HV2.out, only_set hb.out _ _⟩

set_option maxHeartbeats 2000000 in
theorem putBack_any (g cap o c0 gy cy n : Nat) (l ly : List Nat) (hlo : lo l) (hly : lo ly) (w : World) (hx : Rw w g cap l) (hy : Rw w gy cy ly) (hne : gy ≠ g) (hn : ly.length = n) (hl : o + n + 1 ≤ l.length) (hn9 : n ≤ 1000000) (hc0 : n + 1 ≤ c0) :
    Calls Tryz.prog 184 #[.slice (some ⟨g, o, none⟩) (n + 1) c0, .slice (some ⟨gy, 0, none⟩) n cy] w fun e w' => PbPost g cap o n l (val ly) w e w' := by
  have HX := Lib.hid hx
  have HY := Lib.hid hy
  have HLX := Lib.hid hlo
  have HLY := Lib.hid hly
  have HN := Lib.hid hn
  have HL := Lib.hid hl
  clear hx hy hlo hly hn hl
  go_enter Tryz.func184, Tryz.ntmps184
  go_wp2
  go_loopw [5, 10] (fun c i wr => ∃ (j cn : Nat) (lz : List Nat), j ≤ n ∧ i = .int .i64 j ∧ c = .int .u64 cn ∧ cn ≤ 1 ∧ Hid (Rw wr g cap lz) ∧ Hid (lo lz) ∧ Hid (OnlyIn o (o + j) l lz) ∧ Hid (val lz + bp (o + j) * cn = val l + bp o * val (ly.take j)) ∧ Hid (w.grownBy wr (some g))) (fun _ i _ => n - (intOf i).toNat)
  case atStart => exact ⟨0, 0, l, Nat.zero_le _, rfl, rfl, by omega, HX, HLX, OnlyIn.refl o l, by show _ = _; simp [val_nil], only_refl w _⟩
  case round =>
    obtain ⟨j, cn, lz, hj, rfl, rfl, hcn, HZ, HLO, HO, HV, hb⟩ := hrel
    have HLN : Hid (lz.length = l.length) := HO.out.1
    have hk : Hid (o + j < lz.length) := by show _ < _; rw [HLN.out]; have := HL.out; omega
    have hcz := HZ.out.cell (o + j) hk.out
    have hfz := HZ.out.frozen (o + j)
    have hz9 := lo_getD HLO.out (o + j)
    generalize hzz : lz.getD (o + j) 0 = x at *
    have HZZ := Lib.hid hzz
    clear hzz
    by_cases hlt : j < n
    · have hcy := (HY.out.only hb.out (by simpa using hne)).cell j (by rw [HN.out]; exact hlt)
      have hy9 := lo_getD HLY.out j
      have HTY : Hid (val (ly.take (j + 1)) = val (ly.take j) + bp j * ly.getD j 0) := val_take_succ ly j (by rw [HN.out]; exact hlt)
      generalize ly.getD j 0 = y at *
      have HV2 := Lib.hid (pb_round lz o j y cn x (cn + (x + y)) _ _ hk.out HZZ.out rfl HV.out)
      go_wp2_with fail
      go_quiet (fail)
      go_wp2
      go_roundw
      case rel => exact ⟨j + 1, (cn + (x + y)) / 1000000000, lz.set (o + j) ((cn + (x + y)) % 1000000000), by omega, by go_num, by go_num, by omega, (HZ.out.drewN _).storeI (o + j) _ (by omega), lo_set HLO.out _ _ (by omega), HO.out.set (by omega) _, by show _ = _; rw [HTY.out]; exact HV2.out, only_set (only_drewN hb.out _) _ _⟩
      case measure => simp [intOf]; omega
    · have hj' : j = n := by omega
      subst hj'
      have HVY : Hid (val lz + bp (o + j) * cn = val l + bp o * val ly) := by
        have h := HV.out; rw [val_take_all ly j (by rw [HN.out]; exact Nat.le_refl _)] at h; exact h
      have HV2 := Lib.hid (pb_top lz o j cn x (cn + x) _ _ hk.out HZZ.out rfl HVY.out)
      by_cases ht : (1000000000 : Int) ≤ (cn : Int) + (x : Int)
      · have HD : Hid ((cn + x) / 1000000000 = 1) := by show _ = _; omega
        go_wp2
        go_ret
        refine ⟨true, _, ?_, HZ.out.storeI (o + j) ((cn + x) % 1000000000) (by omega), lo_set HLO.out _ _ (by omega), HO.out.set (by omega) _, ?_, only_set hb.out _ _⟩
        · exact ret_bool (by simp <;> omega)
        · have h := HV2.out; rw [HD.out] at h; exact h
      · have HD : Hid ((cn + x) / 1000000000 = 0) := by show _ = _; omega
        go_wp2
        go_ret
        refine ⟨false, _, ?_, HZ.out.storeI (o + j) ((cn + x) % 1000000000) (by omega), lo_set HLO.out _ _ (by omega), HO.out.set (by omega) _, ?_, only_set hb.out _ _⟩
        · exact ret_bool (by simp <;> omega)
        · have h := HV2.out; rw [HD.out] at h; exact h

end Go.Proofs.YthamlnolfagpiaaGreatDoor

namespace Go.Proofs.YthamlnolfagpiaaGreatDoor
open Go.RowKit

theorem lz_any (y s : Nat) (hy : y < 18446744073709551616) (hs : Hid (Lib.bitLen y + s = 64)) (w : World) :
    Calls Tryz.prog 216 #[.int .u64 y] w fun e w' => e = .returned (.int .i64 (s : Int)) ∧ w = w' := by
  refine (Tryz.bits_LeadingZeros64 (y : Int) w (by omega) (by omega)).mono ?_
  rintro e w' ⟨rfl, hw⟩
  refine ⟨?_, hw.symm⟩
  have := hs.out
  rw [Int.toNat_natCast]
  exact ret_int (by omega)

theorem ret_dv {a b r s : Int} (h : a = b) (h2 : r = s) : Ending.returned (.tuple #[.int .u64 a, .int .u64 r]) = .returned (.tuple #[.int .u64 b, .int .u64 s]) := by rw [h, h2]
/-- what Div64 leaves: the quotient, the remainder, and the world as it was but for draws -/
def DvPost (Q R : Nat) (w : World) (e : Ending) (w' : World) : Prop := ∃ n : Nat, e = .returned (.tuple #[.int .u64 (Q : Int), .int .u64 (R : Int)]) ∧ w' = w.drewN n

theorem d64_zero (lo y : Nat) (hy : 0 < y) (hlo : lo < 18446744073709551616) (w : World) :
    Calls Tryz.prog 207 #[.int .u64 0, .int .u64 lo, .int .u64 y] w fun e w' => DvPost (lo / y) (lo % y) w e w' := by
  have hyI : (0 : Int) < (y : Int) := by omega
  obtain ⟨q, hq⟩ : ∃ q, lo / y = q := ⟨_, rfl⟩
  have hqq : q ≤ lo := by rw [← hq]; exact Nat.div_le_self lo y
  have hw1 : IntKind.u64.wrap ((lo : Int) / (y : Int)) = (q : Int) := by
    rw [show (lo : Int) / (y : Int) = ((lo / y : Nat) : Int) from rfl, hq]
    exact IntWalk.u64_in _ (by omega)
  rw [hq]
  clear hq
  go_enter Tryz.func207, Tryz.ntmps207
  go_wp2_with fail
  go_quiet (fail)
  go_wp2_with fail
  go_ret2
  exact ⟨_, rfl, rfl⟩

set_option maxHeartbeats 8000000 in
set_option maxRecDepth 100000 in
theorem d64_big (hi lo y s : Nat) (hhi : 0 < hi) (hy : hi < y) (hy64 : y < 18446744073709551616) (hlo : lo < 18446744073709551616) (hs : Hid (Lib.bitLen y + s = 64)) (hs64 : s ≤ 64) (w : World) :
    Calls Tryz.prog 207 #[.int .u64 hi, .int .u64 lo, .int .u64 y] w fun e w' => DvPost ((hi * 18446744073709551616 + lo) / y) ((hi * 18446744073709551616 + lo) % y) w e w' := by
  obtain ⟨Y, y1, y0, H, b, U, M, u1, u0, f1, f2, f3, f4, f5, f6, f7, f8, f9, hY, hy1, hy1b, hy0, hUb, hu1, hu0, hres, hrem⟩ := norm_facts hi lo y s hy hy64 hlo hs.out
  have HY := Lib.hid hY
  have HREM := Lib.hid hrem
  rw [hres]
  clear hY hres hrem
  have hy1p : 0 < y1 := by omega
  have hy1I : (0 : Int) < (y1 : Int) := by omega
  have hU1 := hUb
  have hd1 := hu1
  have hd2 := hu0
  have HF1 := Lib.hid (half_start U u1 y1 y0 hUb hy1 hy0 hu1)
  have hr1 : U % y1 < 4294967296 := Nat.lt_trans (Nat.mod_lt U hy1p) hy1b
  obtain ⟨g1, g2, g3⟩ := div_facts U y1 (by omega)
  generalize U / y1 = qa at *
  generalize U % y1 = ra at *
  generalize qa * y1 = ca at *
  have hy0' : ((y : Int) == 0) = false := by simp; omega
  have hh0 : ((hi : Int) == 0) = false := by simp; omega
  go_enter Tryz.func207, Tryz.ntmps207
  go_wp2_with (go_at_call 216; refine (lz_any y s hy64 hs _).mono ?_; rintro e w' ⟨rfl, rfl⟩)
  go_loop [15, 16] (fun a b => ∃ q r : Nat, a = .int .u64 q ∧ b = .int .u64 r ∧ r < 4294967296 ∧ q ≤ 4294967297 ∧ Hid (Half U u1 y1 y0 q r)) (fun a _ => (intOf a).toNat)
  case atStart => exact ⟨_, _, rfl, rfl, hr1, HF1.out.top, HF1⟩
  case round =>
    clear HF1 hr1
    obtain ⟨q, r, rfl, rfl, hr, hq, HF⟩ := hrel
    by_cases hA : (4294967296 : Int) ≤ (q : Int)
    · obtain ⟨hq0, hF⟩ := half_step HF.out hU1 hd1 (.inl (by omega))
      have HF2 := Lib.hid hF
      clear hF
      by_cases hB : (4294967296 : Int) ≤ (r : Int) + (y1 : Int)
      · obtain ⟨qx, hqx⟩ : ∃ qx, q - 1 = qx := ⟨_, rfl⟩
        have e1 : ((q : Int) - 1) = (qx : Int) := by omega
        have HQ1 : Hid (qx = (U * 4294967296 + u1) / (y1 * 4294967296 + y0)) := by show _ = _; rw [← hqx]; exact half_break HF2.out hy1p (by omega) hy0 (by omega)
        clear hqx HF2 HF
        have hz1 : qx < 4294967296 := by rw [HQ1.out]; exact quo_half _ _ _ hU1 hd1
        obtain ⟨A, C, R, k1, k2, k3, k4, hR, hRY⟩ := rest_facts U u1 qx Y (by rw [HY.out]; exact HQ1.out) (by have := HY.out; omega) (by have := HY.out; omega) hd1
        have hU2 : R < y1 * 4294967296 + y0 := by rw [← HY.out]; exact hRY
        have HRES2 : Hid ((U * 18446744073709551616 + (u1 * 4294967296 + u0)) / (y1 * 4294967296 + y0) = qx * 4294967296 + (R * 4294967296 + u0) / (y1 * 4294967296 + y0)) := by
          show _ = _; rw [two_halves U u1 u0 _ (by omega), ← HQ1.out, hR, HY.out]
        have HREM2 : Hid ((hi * 18446744073709551616 + lo) % y * 2 ^ s = (R * 4294967296 + u0) % (y1 * 4294967296 + y0)) := by
          show _ = _; rw [← HREM.out, two_mods, hR, HY.out]
        clear hR HQ1
        have HF2 := Lib.hid (half_start R u0 y1 y0 hU2 hy1 hy0 hd2)
        have hr2 : R % y1 < 4294967296 := Nat.lt_trans (Nat.mod_lt R hy1p) hy1b
        obtain ⟨g1, g2, g3⟩ := div_facts R y1 (by omega)
        generalize R / y1 = qb at *
        generalize R % y1 = rb at *
        generalize qb * y1 = cb at *
        go_wp2_with fail
        go_loop [18, 16] (fun a b => ∃ v r : Nat, a = .int .u64 v ∧ b = .int .u64 r ∧ r < 4294967296 ∧ v ≤ 4294967297 ∧ Hid (Half R u0 y1 y0 v r)) (fun a _ => (intOf a).toNat)
        case atStart => exact ⟨_, _, rfl, rfl, hr2, HF2.out.top, HF2⟩
        case round =>
          clear HF2 hr2
          obtain ⟨v, r, rfl, rfl, hr, hq, HF⟩ := hrel
          by_cases hA : (4294967296 : Int) ≤ (v : Int)
          · obtain ⟨hq0, hF⟩ := half_step HF.out hU2 hd2 (.inl (by omega))
            have HF2 := Lib.hid hF
            clear hF
            by_cases hB : (4294967296 : Int) ≤ (r : Int) + (y1 : Int)
            · obtain ⟨vx, hqx⟩ : ∃ vx, v - 1 = vx := ⟨_, rfl⟩
              have e1 : ((v : Int) - 1) = (vx : Int) := by omega
              have HQ2 : Hid (vx = (R * 4294967296 + u0) / (y1 * 4294967296 + y0)) := by show _ = _; rw [← hqx]; exact half_break HF2.out hy1p (by omega) hy0 (by omega)
              clear hqx HF2 HF
              have hz2 : vx < 4294967296 := by rw [HQ2.out]; exact quo_half _ _ _ hU2 hd2
              obtain ⟨A2, C2, R2, m1, m2, m3, m4, hR2, hRY2⟩ := rest_facts R u0 vx Y (by rw [HY.out]; exact HQ2.out) (by have := HY.out; omega) (by have := HY.out; omega) hd2
              have HR2 : Hid ((R2 : Int) / 2 ^ s = (((hi * 18446744073709551616 + lo) % y : Nat) : Int)) := by
                show _ = _; rw [hR2, HY.out, ← HREM2.out]; exact int_shr _ _
              clear hR2 hRY2
              go_wp2_with fail
              go_ret2
              exact ⟨0, ret_dv (by rw [HRES2.out, ← HQ2.out]; omega) HR2.out, rfl⟩
            · have e1 : ((v : Int) - 1) = ((v - 1 : Nat) : Int) := by omega
              go_wp2_with fail
              go_round
              case rel => exact ⟨v - 1, r + y1, by go_num, by go_num, by omega, by omega, HF2⟩
              case measure => simp [intOf]; omega
          · have hq3 : v < 4294967296 := by omega
            have hmul := Nat.mul_le_mul (show v ≤ 4294967295 by omega) (show y0 ≤ 4294967295 by omega)
            obtain ⟨m, hm⟩ : ∃ m, v * y0 = m := ⟨_, rfl⟩
            have hm1 : IntKind.u64.wrap ((v : Int) * (y0 : Int)) = (m : Int) := by
              rw [← Int.natCast_mul, hm]; exact IntWalk.u64_in _ (by omega)
            by_cases hC : (4294967296 * (r : Int) + (u0 : Int)) < (m : Int)
            · obtain ⟨hq0, hF⟩ := half_step HF.out hU2 hd2 (.inr (by omega))
              have HF2 := Lib.hid hF
              clear hF
              by_cases hB : (4294967296 : Int) ≤ (r : Int) + (y1 : Int)
              · obtain ⟨vx, hqx⟩ : ∃ vx, v - 1 = vx := ⟨_, rfl⟩
                have e1 : ((v : Int) - 1) = (vx : Int) := by omega
                have HQ2 : Hid (vx = (R * 4294967296 + u0) / (y1 * 4294967296 + y0)) := by show _ = _; rw [← hqx]; exact half_break HF2.out hy1p (by omega) hy0 (by omega)
                clear hqx HF2 HF
                have hz2 : vx < 4294967296 := by rw [HQ2.out]; exact quo_half _ _ _ hU2 hd2
                obtain ⟨A2, C2, R2, m1, m2, m3, m4, hR2, hRY2⟩ := rest_facts R u0 vx Y (by rw [HY.out]; exact HQ2.out) (by have := HY.out; omega) (by have := HY.out; omega) hd2
                have HR2 : Hid ((R2 : Int) / 2 ^ s = (((hi * 18446744073709551616 + lo) % y : Nat) : Int)) := by
                  show _ = _; rw [hR2, HY.out, ← HREM2.out]; exact int_shr _ _
                clear hR2 hRY2
                go_wp2_with fail
                go_ret2
                exact ⟨0, ret_dv (by rw [HRES2.out, ← HQ2.out]; omega) HR2.out, rfl⟩
              · have e1 : ((v : Int) - 1) = ((v - 1 : Nat) : Int) := by omega
                go_wp2_with fail
                go_round
                case rel => exact ⟨v - 1, r + y1, by go_num, by go_num, by omega, by omega, HF2⟩
                case measure => simp [intOf]; omega
            · have HQ2 := Lib.hid (half_stop HF.out hy1p (by omega))
              clear HF
              have hz2 : v < 4294967296 := by rw [HQ2.out]; exact quo_half _ _ _ hU2 hd2
              obtain ⟨A2, C2, R2, m1, m2, m3, m4, hR2, hRY2⟩ := rest_facts R u0 v Y (by rw [HY.out]; exact HQ2.out) (by have := HY.out; omega) (by have := HY.out; omega) hd2
              have HR2 : Hid ((R2 : Int) / 2 ^ s = (((hi * 18446744073709551616 + lo) % y : Nat) : Int)) := by
                show _ = _; rw [hR2, HY.out, ← HREM2.out]; exact int_shr _ _
              clear hR2 hRY2
              go_wp2_with fail
              go_ret2
              exact ⟨0, ret_dv (by rw [HRES2.out, ← HQ2.out]; omega) HR2.out, rfl⟩
      · have e1 : ((q : Int) - 1) = ((q - 1 : Nat) : Int) := by omega
        go_wp2_with fail
        go_round
        case rel => exact ⟨q - 1, r + y1, by go_num, by go_num, by omega, by omega, HF2⟩
        case measure => simp [intOf]; omega
    · have hq3 : q < 4294967296 := by omega
      have hmul := Nat.mul_le_mul (show q ≤ 4294967295 by omega) (show y0 ≤ 4294967295 by omega)
      obtain ⟨m, hm⟩ : ∃ m, q * y0 = m := ⟨_, rfl⟩
      have hm1 : IntKind.u64.wrap ((q : Int) * (y0 : Int)) = (m : Int) := by
        rw [← Int.natCast_mul, hm]; exact IntWalk.u64_in _ (by omega)
      by_cases hC : (4294967296 * (r : Int) + (u1 : Int)) < (m : Int)
      · obtain ⟨hq0, hF⟩ := half_step HF.out hU1 hd1 (.inr (by omega))
        have HF2 := Lib.hid hF
        clear hF
        by_cases hB : (4294967296 : Int) ≤ (r : Int) + (y1 : Int)
        · obtain ⟨qx, hqx⟩ : ∃ qx, q - 1 = qx := ⟨_, rfl⟩
          have e1 : ((q : Int) - 1) = (qx : Int) := by omega
          have HQ1 : Hid (qx = (U * 4294967296 + u1) / (y1 * 4294967296 + y0)) := by show _ = _; rw [← hqx]; exact half_break HF2.out hy1p (by omega) hy0 (by omega)
          clear hqx HF2 HF
          have hz1 : qx < 4294967296 := by rw [HQ1.out]; exact quo_half _ _ _ hU1 hd1
          obtain ⟨A, C, R, k1, k2, k3, k4, hR, hRY⟩ := rest_facts U u1 qx Y (by rw [HY.out]; exact HQ1.out) (by have := HY.out; omega) (by have := HY.out; omega) hd1
          have hU2 : R < y1 * 4294967296 + y0 := by rw [← HY.out]; exact hRY
          have HRES2 : Hid ((U * 18446744073709551616 + (u1 * 4294967296 + u0)) / (y1 * 4294967296 + y0) = qx * 4294967296 + (R * 4294967296 + u0) / (y1 * 4294967296 + y0)) := by
            show _ = _; rw [two_halves U u1 u0 _ (by omega), ← HQ1.out, hR, HY.out]
          have HREM2 : Hid ((hi * 18446744073709551616 + lo) % y * 2 ^ s = (R * 4294967296 + u0) % (y1 * 4294967296 + y0)) := by
            show _ = _; rw [← HREM.out, two_mods, hR, HY.out]
          clear hR HQ1
          have HF2 := Lib.hid (half_start R u0 y1 y0 hU2 hy1 hy0 hd2)
          have hr2 : R % y1 < 4294967296 := Nat.lt_trans (Nat.mod_lt R hy1p) hy1b
          obtain ⟨g1, g2, g3⟩ := div_facts R y1 (by omega)
          generalize R / y1 = qb at *
          generalize R % y1 = rb at *
          generalize qb * y1 = cb at *
          go_wp2_with fail
          go_loop [18, 16] (fun a b => ∃ v r : Nat, a = .int .u64 v ∧ b = .int .u64 r ∧ r < 4294967296 ∧ v ≤ 4294967297 ∧ Hid (Half R u0 y1 y0 v r)) (fun a _ => (intOf a).toNat)
          case atStart => exact ⟨_, _, rfl, rfl, hr2, HF2.out.top, HF2⟩
          case round =>
            clear HF2 hr2
            obtain ⟨v, r, rfl, rfl, hr, hq, HF⟩ := hrel
            by_cases hA : (4294967296 : Int) ≤ (v : Int)
            · obtain ⟨hq0, hF⟩ := half_step HF.out hU2 hd2 (.inl (by omega))
              have HF2 := Lib.hid hF
              clear hF
              by_cases hB : (4294967296 : Int) ≤ (r : Int) + (y1 : Int)
              · obtain ⟨vx, hqx⟩ : ∃ vx, v - 1 = vx := ⟨_, rfl⟩
                have e1 : ((v : Int) - 1) = (vx : Int) := by omega
                have HQ2 : Hid (vx = (R * 4294967296 + u0) / (y1 * 4294967296 + y0)) := by show _ = _; rw [← hqx]; exact half_break HF2.out hy1p (by omega) hy0 (by omega)
                clear hqx HF2 HF
                have hz2 : vx < 4294967296 := by rw [HQ2.out]; exact quo_half _ _ _ hU2 hd2
                obtain ⟨A2, C2, R2, m1, m2, m3, m4, hR2, hRY2⟩ := rest_facts R u0 vx Y (by rw [HY.out]; exact HQ2.out) (by have := HY.out; omega) (by have := HY.out; omega) hd2
                have HR2 : Hid ((R2 : Int) / 2 ^ s = (((hi * 18446744073709551616 + lo) % y : Nat) : Int)) := by
                  show _ = _; rw [hR2, HY.out, ← HREM2.out]; exact int_shr _ _
                clear hR2 hRY2
                go_wp2_with fail
                go_ret2
                exact ⟨0, ret_dv (by rw [HRES2.out, ← HQ2.out]; omega) HR2.out, rfl⟩
              · have e1 : ((v : Int) - 1) = ((v - 1 : Nat) : Int) := by omega
                go_wp2_with fail
                go_round
                case rel => exact ⟨v - 1, r + y1, by go_num, by go_num, by omega, by omega, HF2⟩
                case measure => simp [intOf]; omega
            · have hq3 : v < 4294967296 := by omega
              have hmul := Nat.mul_le_mul (show v ≤ 4294967295 by omega) (show y0 ≤ 4294967295 by omega)
              obtain ⟨m, hm⟩ : ∃ m, v * y0 = m := ⟨_, rfl⟩
              have hm1 : IntKind.u64.wrap ((v : Int) * (y0 : Int)) = (m : Int) := by
                rw [← Int.natCast_mul, hm]; exact IntWalk.u64_in _ (by omega)
              by_cases hC : (4294967296 * (r : Int) + (u0 : Int)) < (m : Int)
              · obtain ⟨hq0, hF⟩ := half_step HF.out hU2 hd2 (.inr (by omega))
                have HF2 := Lib.hid hF
                clear hF
                by_cases hB : (4294967296 : Int) ≤ (r : Int) + (y1 : Int)
                · obtain ⟨vx, hqx⟩ : ∃ vx, v - 1 = vx := ⟨_, rfl⟩
                  have e1 : ((v : Int) - 1) = (vx : Int) := by omega
                  have HQ2 : Hid (vx = (R * 4294967296 + u0) / (y1 * 4294967296 + y0)) := by show _ = _; rw [← hqx]; exact half_break HF2.out hy1p (by omega) hy0 (by omega)
                  clear hqx HF2 HF
                  have hz2 : vx < 4294967296 := by rw [HQ2.out]; exact quo_half _ _ _ hU2 hd2
                  obtain ⟨A2, C2, R2, m1, m2, m3, m4, hR2, hRY2⟩ := rest_facts R u0 vx Y (by rw [HY.out]; exact HQ2.out) (by have := HY.out; omega) (by have := HY.out; omega) hd2
                  have HR2 : Hid ((R2 : Int) / 2 ^ s = (((hi * 18446744073709551616 + lo) % y : Nat) : Int)) := by
                    show _ = _; rw [hR2, HY.out, ← HREM2.out]; exact int_shr _ _
                  clear hR2 hRY2
                  go_wp2_with fail
                  go_ret2
                  exact ⟨0, ret_dv (by rw [HRES2.out, ← HQ2.out]; omega) HR2.out, rfl⟩
                · have e1 : ((v : Int) - 1) = ((v - 1 : Nat) : Int) := by omega
                  go_wp2_with fail
                  go_round
                  case rel => exact ⟨v - 1, r + y1, by go_num, by go_num, by omega, by omega, HF2⟩
                  case measure => simp [intOf]; omega
              · have HQ2 := Lib.hid (half_stop HF.out hy1p (by omega))
                clear HF
                have hz2 : v < 4294967296 := by rw [HQ2.out]; exact quo_half _ _ _ hU2 hd2
                obtain ⟨A2, C2, R2, m1, m2, m3, m4, hR2, hRY2⟩ := rest_facts R u0 v Y (by rw [HY.out]; exact HQ2.out) (by have := HY.out; omega) (by have := HY.out; omega) hd2
                have HR2 : Hid ((R2 : Int) / 2 ^ s = (((hi * 18446744073709551616 + lo) % y : Nat) : Int)) := by
                  show _ = _; rw [hR2, HY.out, ← HREM2.out]; exact int_shr _ _
                clear hR2 hRY2
                go_wp2_with fail
                go_ret2
                exact ⟨0, ret_dv (by rw [HRES2.out, ← HQ2.out]; omega) HR2.out, rfl⟩
        · have e1 : ((q : Int) - 1) = ((q - 1 : Nat) : Int) := by omega
          go_wp2_with fail
          go_round
          case rel => exact ⟨q - 1, r + y1, by go_num, by go_num, by omega, by omega, HF2⟩
          case measure => simp [intOf]; omega
      · have HQ1 := Lib.hid (half_stop HF.out hy1p (by omega))
        clear HF
        have hz1 : q < 4294967296 := by rw [HQ1.out]; exact quo_half _ _ _ hU1 hd1
        obtain ⟨A, C, R, k1, k2, k3, k4, hR, hRY⟩ := rest_facts U u1 q Y (by rw [HY.out]; exact HQ1.out) (by have := HY.out; omega) (by have := HY.out; omega) hd1
        have hU2 : R < y1 * 4294967296 + y0 := by rw [← HY.out]; exact hRY
        have HRES2 : Hid ((U * 18446744073709551616 + (u1 * 4294967296 + u0)) / (y1 * 4294967296 + y0) = q * 4294967296 + (R * 4294967296 + u0) / (y1 * 4294967296 + y0)) := by
          show _ = _; rw [two_halves U u1 u0 _ (by omega), ← HQ1.out, hR, HY.out]
        have HREM2 : Hid ((hi * 18446744073709551616 + lo) % y * 2 ^ s = (R * 4294967296 + u0) % (y1 * 4294967296 + y0)) := by
          show _ = _; rw [← HREM.out, two_mods, hR, HY.out]
        clear hR HQ1
        have HF2 := Lib.hid (half_start R u0 y1 y0 hU2 hy1 hy0 hd2)
        have hr2 : R % y1 < 4294967296 := Nat.lt_trans (Nat.mod_lt R hy1p) hy1b
        obtain ⟨g1, g2, g3⟩ := div_facts R y1 (by omega)
        generalize R / y1 = qb at *
        generalize R % y1 = rb at *
        generalize qb * y1 = cb at *
        go_wp2_with fail
        go_loop [18, 16] (fun a b => ∃ v r : Nat, a = .int .u64 v ∧ b = .int .u64 r ∧ r < 4294967296 ∧ v ≤ 4294967297 ∧ Hid (Half R u0 y1 y0 v r)) (fun a _ => (intOf a).toNat)
        case atStart => exact ⟨_, _, rfl, rfl, hr2, HF2.out.top, HF2⟩
        case round =>
          clear HF2 hr2
          obtain ⟨v, r, rfl, rfl, hr, hq, HF⟩ := hrel
          by_cases hA : (4294967296 : Int) ≤ (v : Int)
          · obtain ⟨hq0, hF⟩ := half_step HF.out hU2 hd2 (.inl (by omega))
            have HF2 := Lib.hid hF
            clear hF
            by_cases hB : (4294967296 : Int) ≤ (r : Int) + (y1 : Int)
            · obtain ⟨vx, hqx⟩ : ∃ vx, v - 1 = vx := ⟨_, rfl⟩
              have e1 : ((v : Int) - 1) = (vx : Int) := by omega
              have HQ2 : Hid (vx = (R * 4294967296 + u0) / (y1 * 4294967296 + y0)) := by show _ = _; rw [← hqx]; exact half_break HF2.out hy1p (by omega) hy0 (by omega)
              clear hqx HF2 HF
              have hz2 : vx < 4294967296 := by rw [HQ2.out]; exact quo_half _ _ _ hU2 hd2
              obtain ⟨A2, C2, R2, m1, m2, m3, m4, hR2, hRY2⟩ := rest_facts R u0 vx Y (by rw [HY.out]; exact HQ2.out) (by have := HY.out; omega) (by have := HY.out; omega) hd2
              have HR2 : Hid ((R2 : Int) / 2 ^ s = (((hi * 18446744073709551616 + lo) % y : Nat) : Int)) := by
                show _ = _; rw [hR2, HY.out, ← HREM2.out]; exact int_shr _ _
              clear hR2 hRY2
              go_wp2_with fail
              go_ret2
              exact ⟨0, ret_dv (by rw [HRES2.out, ← HQ2.out]; omega) HR2.out, rfl⟩
            · have e1 : ((v : Int) - 1) = ((v - 1 : Nat) : Int) := by omega
              go_wp2_with fail
              go_round
              case rel => exact ⟨v - 1, r + y1, by go_num, by go_num, by omega, by omega, HF2⟩
              case measure => simp [intOf]; omega
          · have hq3 : v < 4294967296 := by omega
            have hmul := Nat.mul_le_mul (show v ≤ 4294967295 by omega) (show y0 ≤ 4294967295 by omega)
            obtain ⟨m, hm⟩ : ∃ m, v * y0 = m := ⟨_, rfl⟩
            have hm1 : IntKind.u64.wrap ((v : Int) * (y0 : Int)) = (m : Int) := by
              rw [← Int.natCast_mul, hm]; exact IntWalk.u64_in _ (by omega)
            by_cases hC : (4294967296 * (r : Int) + (u0 : Int)) < (m : Int)
            · obtain ⟨hq0, hF⟩ := half_step HF.out hU2 hd2 (.inr (by omega))
              have HF2 := Lib.hid hF
              clear hF
              by_cases hB : (4294967296 : Int) ≤ (r : Int) + (y1 : Int)
              · obtain ⟨vx, hqx⟩ : ∃ vx, v - 1 = vx := ⟨_, rfl⟩
                have e1 : ((v : Int) - 1) = (vx : Int) := by omega
                have HQ2 : Hid (vx = (R * 4294967296 + u0) / (y1 * 4294967296 + y0)) := by show _ = _; rw [← hqx]; exact half_break HF2.out hy1p (by omega) hy0 (by omega)
                clear hqx HF2 HF
                have hz2 : vx < 4294967296 := by rw [HQ2.out]; exact quo_half _ _ _ hU2 hd2
                obtain ⟨A2, C2, R2, m1, m2, m3, m4, hR2, hRY2⟩ := rest_facts R u0 vx Y (by rw [HY.out]; exact HQ2.out) (by have := HY.out; omega) (by have := HY.out; omega) hd2
                have HR2 : Hid ((R2 : Int) / 2 ^ s = (((hi * 18446744073709551616 + lo) % y : Nat) : Int)) := by
                  show _ = _; rw [hR2, HY.out, ← HREM2.out]; exact int_shr _ _
                clear hR2 hRY2
                go_wp2_with fail
                go_ret2
                exact ⟨0, ret_dv (by rw [HRES2.out, ← HQ2.out]; omega) HR2.out, rfl⟩
              · have e1 : ((v : Int) - 1) = ((v - 1 : Nat) : Int) := by omega
                go_wp2_with fail
                go_round
                case rel => exact ⟨v - 1, r + y1, by go_num, by go_num, by omega, by omega, HF2⟩
                case measure => simp [intOf]; omega
            · have HQ2 := Lib.hid (half_stop HF.out hy1p (by omega))
              clear HF
              have hz2 : v < 4294967296 := by rw [HQ2.out]; exact quo_half _ _ _ hU2 hd2
              obtain ⟨A2, C2, R2, m1, m2, m3, m4, hR2, hRY2⟩ := rest_facts R u0 v Y (by rw [HY.out]; exact HQ2.out) (by have := HY.out; omega) (by have := HY.out; omega) hd2
              have HR2 : Hid ((R2 : Int) / 2 ^ s = (((hi * 18446744073709551616 + lo) % y : Nat) : Int)) := by
                show _ = _; rw [hR2, HY.out, ← HREM2.out]; exact int_shr _ _
              clear hR2 hRY2
              go_wp2_with fail
              go_ret2
              exact ⟨0, ret_dv (by rw [HRES2.out, ← HQ2.out]; omega) HR2.out, rfl⟩

end Go.Proofs.YthamlnolfagpiaaGreatDoor

namespace Go.Proofs.YthamlnolfagpiaaGreatDoor
open Go.RowKit

/-- what guess leaves -/
def GsPost (V Y : Nat) (w : World) (e : Ending) (w' : World) : Prop := ∃ (q n : Nat), e = .returned (.int .u64 (q : Int)) ∧ q < 1000000000 ∧ V / Y ≤ q ∧ w' = w.drewN n

set_option maxHeartbeats 1000000 in
theorem guess_n1 (g cap o c0 gy cy : Nat) (l ly : List Nat) (hlo : lo l) (w : World) (hx : Rw w g cap l) (hy : Rw w gy cy ly) (hn : ly.length = 1) (hl : o + 1 < l.length) (hP : pv l o 2 < 1000000000 * val ly) :
    Calls Tryz.prog 182 #[.slice (some ⟨g, o, none⟩) 2 c0, .slice (some ⟨gy, 0, none⟩) 1 cy] w fun e w' => GsPost (pv l o 2) (val ly) w e w' := by
  have hcy := hy.cell 0 (by omega)
  have hcp0 := hx.cell o (by omega)
  have hcp1 := hx.cell (o + 1) (by omega)
  have hp09 := lo_getD hlo o
  have hp19 := lo_getD hlo (o + 1)
  have hvy : val ly = ly.getD 0 0 := by
    have h := val_take_succ ly 0 (by omega)
    rw [show 0 + 1 = ly.length by omega, List.take_length] at h
    simpa [val_nil, bp_zero] using h
  have hG := guess_one l o (val ly) _ _ hl rfl rfl hP
  rw [hvy] at hG hP ⊢
  have hy0 : 0 < ly.getD 0 0 := by omega
  generalize ly.getD 0 0 = y at *
  generalize l.getD o 0 = p0 at *
  generalize l.getD (o + 1) 0 = p1 at *
  obtain ⟨_, hG2, hG3⟩ := hG
  have hyI : (0 : Int) < (y : Int) := by omega
  have e1 : IntKind.u64.wrap ((p1 : Int) * 1000000000) = (p1 : Int) * 1000000000 := IntWalk.u64_in _ (by omega)
  have e2 : IntKind.u64.wrap ((p1 : Int) * 1000000000 + (p0 : Int)) = (p1 : Int) * 1000000000 + (p0 : Int) := IntWalk.u64_in _ (by omega)
  obtain ⟨q, hq⟩ : ∃ q, (p1 * 1000000000 + p0) / y = q := ⟨_, rfl⟩
  rw [hq] at hG2 hG3
  have eN : ((p1 * 1000000000 + p0 : Nat) : Int) = (p1 : Int) * 1000000000 + (p0 : Int) := by omega
  have HD : Hid (((p1 : Int) * 1000000000 + (p0 : Int)) / (y : Int) = (q : Int)) := by show _ = _; rw [← eN, ← hq]; rfl
  clear eN
  have HG := Lib.hid hG3
  clear hG3 hq hvy hP
  go_enter Tryz.func182, Tryz.ntmps182
  go_wp2_with fail
  go_quiet (fail)
  go_wp2_with fail
  go_ret
  exact ⟨q, _, ret_int HD.out, hG2, HG.out, rfl⟩

theorem mul64_c (x h l : Nat) (hx : x < 1000000000000000000) (e : Hid (x * 1000000000 = h * 18446744073709551616 + l ∧ l < 18446744073709551616)) (w : World) :
    Calls Tryz.prog 205 #[.int .u64 x, .int .u64 1000000000] w fun e w' => e = .returned (.tuple #[.int .u64 h, .int .u64 l]) ∧ w' = w := by
  have H := Tryz.bits_Mul64 x 1000000000 (by omega) (by omega) w
  obtain ⟨h1, h2⟩ := e.out
  rw [show x * 1000000000 / 18446744073709551616 = h by omega, show x * 1000000000 % 18446744073709551616 = l by omega] at H
  exact H
theorem add64_c (l p l2 c : Nat) (e : l + p = c * 18446744073709551616 + l2) (h2 : l2 < 18446744073709551616) (w : World) :
    (callFunc 206 #[.int .u64 l, .int .u64 p, .int .u64 0]).run Tryz.prog w = .ok (.value (.tuple #[.int .u64 l2, .int .u64 c])) w := by
  rw [run_callFunc_extern Tryz.func206 (by kernel_rfl) (by kernel_rfl) (by kernel_rfl) (e := add64Entry) (by kernel_rfl), run_add64 l p 0 (by omega) (by omega) (by omega) (by omega)]
  rw [show ((l : Int) + p + 0) % 18446744073709551616 = (l2 : Int) by omega, show ((l : Int) + p + 0) / 18446744073709551616 = (c : Int) by omega]
  rfl
theorem d64_any (hi lo y Q R : Nat) (hy : hi < y) (hy64 : y < 18446744073709551616) (hlo : lo < 18446744073709551616) (hQ : Hid ((hi * 18446744073709551616 + lo) / y = Q)) (hR : Hid ((hi * 18446744073709551616 + lo) % y = R)) (w : World) :
    Calls Tryz.prog 207 #[.int .u64 hi, .int .u64 lo, .int .u64 y] w fun e w' => DvPost Q R w e w' := by
  rw [← hQ.out, ← hR.out]
  rcases Nat.eq_zero_or_pos hi with h | h
  · subst h
    rw [Nat.zero_mul, Nat.zero_add]
    exact d64_zero lo y (by omega) hlo w
  · have hb := Lib.bitLen_le y 64 (by omega) (by simpa using hy64)
    exact d64_big hi lo y (64 - Lib.bitLen y) h hy hy64 hlo (by show _ = _; omega) (by omega) w
theorem quiet_dv {P : Program} {f : FuncId} {args : Array Value} {w : World} {a n Q R : Nat} (h : Calls P f args (w.drewN (a + n)) fun e w' => DvPost Q R (w.drewN (a + n)) e w') :
    Calls P f args (w.drewN (a + n)) fun e w'' => e = .returned (.tuple #[.int .u64 (Q : Int), .int .u64 (R : Int)]) ∧ ∃ m, w'' = w.drewN (a + m) :=
  h.mono fun _ _ ⟨m, he, hm⟩ => ⟨he, n + m, by rw [hm, World.drewN_drewN, Nat.add_assoc]⟩

theorem quiet_same0 {P : Program} {f : FuncId} {args : Array Value} {w : World} {n : Nat} {v : Value} (h : Calls P f args (w.drewN n) fun e w' => e = .returned v ∧ w' = w.drewN n) :
    Calls P f args (w.drewN n) fun e w'' => e = .returned v ∧ ∃ m, w'' = w.drewN m :=
  h.mono fun _ _ ⟨he, hm⟩ => ⟨he, n, hm⟩

set_option maxHeartbeats 2000000 in
set_option maxRecDepth 100000 in
theorem guess_n2 (g cap o c0 gy cy k : Nat) (l ly : List Nat) (hlo : lo l) (hly : lo ly) (w : World) (hx : Rw w g cap l) (hy : Rw w gy cy ly) (hn : ly.length = k + 2) (hl : o + k + 2 < l.length) (hk9 : k ≤ 1000000) (hP : pv l o (k + 3) < 1000000000 * val ly) (htop : 0 < ly.getD (k + 1) 0) :
    Calls Tryz.prog 182 #[.slice (some ⟨g, o, none⟩) ((k + 2) + 1) c0, .slice (some ⟨gy, 0, none⟩) (k + 2) cy] w fun e w' => GsPost (pv l o (k + 3)) (val ly) w e w' := by
  have hcy0 := hy.cell k (by omega)
  have hcy1 := hy.cell (k + 1) (by omega)
  have hcp0 := hx.cell (o + k) (by omega)
  have hcp1 := hx.cell (o + (k + 1)) (by omega)
  have hcp2 := hx.cell (o + (k + 2)) (by omega)
  have hp09 := lo_getD hlo (o + k)
  have hp19 := lo_getD hlo (o + (k + 1))
  have hp29 := lo_getD hlo (o + (k + 2))
  have hy09 := lo_getD hly k
  have hy19 := lo_getD hly (k + 1)
  have HP : Hid (pv l o (k + 3) / val ly ≤ 999999999) := Nat.le_of_lt_succ (Nat.div_lt_of_lt_mul (by omega))
  have hG := guess_more l ly o k _ _ _ _ _ hlo hl hn rfl rfl rfl rfl rfl htop
  rw [show o + k + 1 = o + (k + 1) by omega, show o + k + 2 = o + (k + 2) by omega] at hG
  generalize ly.getD k 0 = y0 at *
  generalize ly.getD (k + 1) 0 = y1 at *
  generalize l.getD (o + k) 0 = p0 at *
  generalize l.getD (o + (k + 1)) 0 = p1 at *
  generalize l.getD (o + (k + 2)) 0 = p2 at *
  obtain ⟨x, hx0⟩ : ∃ x, p2 * 1000000000 + p1 = x := ⟨_, rfl⟩
  rw [hx0] at hG
  obtain ⟨h, a, ha⟩ : ∃ h a, x * 1000000000 = h * 18446744073709551616 + a ∧ a < 18446744073709551616 := ⟨x * 1000000000 / 18446744073709551616, x * 1000000000 % 18446744073709551616, (Nat.div_add_mod' _ _).symm, Nat.mod_lt _ (by omega)⟩
  obtain ⟨c, l2, hc, hl2⟩ : ∃ c l2, a + p0 = c * 18446744073709551616 + l2 ∧ l2 < 18446744073709551616 := ⟨(a + p0) / 18446744073709551616, (a + p0) % 18446744073709551616, (Nat.div_add_mod' _ _).symm, Nat.mod_lt _ (by omega)⟩
  have hx18 : x < 1000000000000000000 := by omega
  obtain ⟨hD, hN⟩ := guess_hi x p0 h a y1 y0 c l2 hx18 hp09 ha.1 hc htop
  rw [hN] at hG
  obtain ⟨q, hq⟩ : ∃ q, ((h + c) * 18446744073709551616 + l2) / (y1 * 1000000000 + y0) = q := ⟨_, rfl⟩
  rw [hq] at hG
  obtain ⟨D, hDD⟩ : ∃ D, y1 * 1000000000 + y0 = D := ⟨_, rfl⟩
  rw [hDD] at hD hq
  obtain ⟨hc2, hhc⟩ : ∃ hc2, h + c = hc2 := ⟨_, rfl⟩
  rw [hhc] at hD hq
  have HQ := Lib.hid hq
  obtain ⟨rm, hrm⟩ : ∃ rm, (hc2 * 18446744073709551616 + l2) % D = rm := ⟨_, rfl⟩
  have HRM := Lib.hid hrm
  clear hrm
  have HA := Lib.hid ha
  have HG := Lib.hid hG
  have hadd := fun W => add64_c a p0 l2 c hc hl2 W
  have e1 : IntKind.u64.wrap ((p2 : Int) * 1000000000) = (p2 : Int) * 1000000000 := IntWalk.u64_in _ (by omega)
  have e2 : IntKind.u64.wrap ((p2 : Int) * 1000000000 + (p1 : Int)) = (x : Int) := by rw [show (p2 : Int) * 1000000000 + (p1 : Int) = (x : Int) by omega]; exact IntWalk.u64_in _ (by omega)
  have e3 : IntKind.u64.wrap ((h : Int) + (c : Int)) = (hc2 : Int) := by rw [show (h : Int) + (c : Int) = (hc2 : Int) by omega]; exact IntWalk.u64_in _ (by omega)
  have e4 : IntKind.u64.wrap ((y1 : Int) * 1000000000) = (y1 : Int) * 1000000000 := IntWalk.u64_in _ (by omega)
  have e5 : IntKind.u64.wrap ((y1 : Int) * 1000000000 + (y0 : Int)) = (D : Int) := by rw [show (y1 : Int) * 1000000000 + (y0 : Int) = (D : Int) by omega]; exact IntWalk.u64_in _ (by omega)
  have hD64 : D < 18446744073709551616 := by omega
  clear hG hq hN ha hc hx0 hDD hhc hx hy
  go_enter Tryz.func182, Tryz.ntmps182
  go_wp2_with fail
  go_quiet ((go_at_call 205; exact quiet_same0 (mul64_c x h a hx18 HA _)))
  go_wp2_with (simp only [hadd])
  go_quiet ((go_at_call 207; exact quiet_dv (d64_any hc2 l2 D q rm hD hD64 hl2 HQ HRM _)))
  by_cases hqb : (q : Int) ≤ 999999999
  · go_wp2_with fail
    all_goals
      go_ret
      exact ⟨q, _, ret_int (by omega), by omega, HG.out, rfl⟩
  · go_wp2_with fail
    all_goals
      go_ret
      exact ⟨999999999, _, ret_int (by omega), by omega, HP.out, rfl⟩

end Go.Proofs.YthamlnolfagpiaaGreatDoor

namespace Go.Proofs.YthamlnolfagpiaaGreatDoor
open Go.RowKit

theorem guess_any (g cap o c0 gy cy n : Nat) (l ly : List Nat) (hlo : lo l) (hly : lo ly) (w : World) (hx : Rw w g cap l) (hy : Rw w gy cy ly) (hn : ly.length = n) (hn1 : 1 ≤ n) (hl : o + n + 1 ≤ l.length) (hn9 : n ≤ 1000000) (hP : pv l o (n + 1) < 1000000000 * val ly) (htop : 0 < ly.getD (n - 1) 0) :
    Calls Tryz.prog 182 #[.slice (some ⟨g, o, none⟩) (n + 1) c0, .slice (some ⟨gy, 0, none⟩) n cy] w fun e w' => GsPost (pv l o (n + 1)) (val ly) w e w' := by
  match n, hn1 with
  | 1, _ => exact guess_n1 g cap o c0 gy cy l ly hlo w hx hy hn (by omega) hP
  | k + 2, _ => exact guess_n2 g cap o c0 gy cy k l ly hlo hly w hx hy hn (by omega) (by omega) hP htop

theorem only_more {a b c : World} {gx g' : Nat} (h : a.grownBy b (some gx)) (k : b.grownBy c (some g')) (hg : g' = gx ∨ a.heap.size ≤ g') : a.grownBy c (some gx) :=
  ⟨k.os.trans h.os, k.tape.trans h.tape, k.output.trans h.output, Nat.le_trans h.size k.size, fun i hi hn => (k.block i (Nat.lt_of_lt_of_le hi h.size) (by
    intro e
    injection e with e
    rcases hg with hg | hg
    · exact hn (by rw [e, hg])
    · omega)).trans (h.block i hi hn)⟩
theorem only_none {a b c : World} {gx : Nat} (h : a.grownBy b (some gx)) (k : b.grownBy c none) : a.grownBy c (some gx) :=
  ⟨k.os.trans h.os, k.tape.trans h.tape, k.output.trans h.output, Nat.le_trans h.size k.size, fun i hi hn => (k.block i (Nat.lt_of_lt_of_le hi h.size) (by simp)).trans (h.block i hi hn)⟩
theorem only_alloc {a b : World} {gx : Nat} (h : a.grownBy b (some gx)) (o : Obj) : a.grownBy (b.alloc o) (some gx) := only_none h (World.grownBy_alloc b o none)

set_option maxRecDepth 100000 in
theorem div_short (ax : Option Addr) (nx cx gy cy n : Nat) (h : nx < n) (w : World) :
    Calls Tryz.prog 163 #[.slice ax nx cx, .slice (some ⟨gy, 0, none⟩) n cy] w fun e w' => e = .returned (.tuple #[.slice none 0 0, .slice ax nx cx]) ∧ w = w' := by
  go_enter Tryz.func163, Tryz.ntmps163
  go_wp2_with fail
  go_step3
  go_wp2_with fail
  rw [Exit.noGoto_ret]
  go_ret2
  exact ⟨rfl, rfl⟩

/-- what divide leaves where the dividend is not the shorter one: the quotient in a block of its own, the rest in the dividend's block or in one of its own -/
def DdPost (gx u v : Nat) (w : World) (e : Ending) (w' : World) : Prop :=
  ∃ gq cq gr cr, e = .returned (.tuple #[.slice (some ⟨gq, 0, none⟩) (limbs (u / v)).length cq, .slice (some ⟨gr, 0, none⟩) (limbs (u % v)).length cr]) ∧
    Rw w' gq cq (limbs (u / v)) ∧ Rw w' gr cr (limbs (u % v)) ∧ (gr = gx ∨ w.heap.size ≤ gr) ∧ w.heap.size ≤ gq ∧ w.grownBy w' (some gx)

set_option maxHeartbeats 8000000 in
set_option maxRecDepth 100000 in
theorem div_long (gx cx gy cy n N : Nat) (lx ly : List Nat) (hlx : lo lx) (hly : lo ly) (w : World) (hx : Rw w gx cx lx) (hy : Rw w gy cy ly) (hne : gy ≠ gx) (hn : ly.length = n) (hN : lx.length = N) (hn1 : 1 ≤ n) (hle : n ≤ N) (hN9 : N ≤ 1000000) (htop : 0 < ly.getD (n - 1) 0) :
    Calls Tryz.prog 163 #[.slice (some ⟨gx, 0, none⟩) N cx, .slice (some ⟨gy, 0, none⟩) n cy] w fun e w' => DdPost gx (val lx) (val ly) w e w' := by
  obtain ⟨i0, hi, hz0, hz1, hz2⟩ := info51'
  have hgy := hy.lt
  have hgx := hx.lt
  have HY := Lib.hid hy
  have HLY := Lib.hid hly
  have HLX := Lib.hid hlx
  have HT := Lib.hid htop
  have HYN := Lib.hid hn
  have HXN := Lib.hid hN
  have HST : Hid (val ((lx ++ [0]).drop (N - n + 1)) < val ly) := by
    have := dv_start lx ly hlx n hn hn1 (by omega) htop
    rwa [hN] at this
  have HYB : Hid (val ly < bp n) := by have := val_lt hly; rwa [hn] at this
  have HOW := Lib.hid ((hx.alloc (.cells #[.int .u64 ((0 : Nat) : Int)] 146)).own hN)
  have hmx : N + 1 ≤ maxLen := by unfold maxLen; omega
  have hby8 : (N + 1) * 8 ≤ 140737488355328 := by omega
  have hH : (w.alloc (.cells #[.int .u64 ((0 : Nat) : Int)] 146)).heap.size = w.heap.size + 1 := by simp
  clear hx hy hly hlx htop hn hN
  go_enter Tryz.func163, Tryz.ntmps163
  go_wp2_with fail
  go_step3
  go_wp2_with (at_builtin; refine wpList_append_lies _ rfl _ _ 127 rfl 0 146 i0 (.int .u64 0) 1 8 Tryz.underlying127 hi hz0 hz1 hz2 rfl (by decide) (.slice (some ⟨gx, 0, none⟩) N cx) N (lx.map u64) rfl HOW.out ⟨w.heap.size, 0, none⟩ 1 1 [.int .u64 ((0 : Nat) : Int)] rfl rfl (one_new w 0) (one_cell 0) (by omega) hmx hby8 (Nat.zero_le _) (w.heap.size + 1) hH ?_)
  intro g cr w2 hown2 hgrow2 hlies hg2
  have HR0 := Lib.hid (Rw.of_own HXN.out hown2)
  have HF0 : Hid (w.grownBy w2 (some gx)) := only_more (only_alloc (only_refl w _) _) hgrow2 (.inl rfl)
  have hgor : g = gx ∨ w.heap.size ≤ g := by
    rcases hlies with h | h
    · left; simpa [Value.ownBlock] using h.symm
    · right; omega
  have hsz2 := HF0.out.size
  clear hown2 hgrow2 hlies HOW
  go_wp2_with (at_make; refine wpList_make_full _ rfl _ _ 127 rfl 0 146 i0 (.int .u64 0) 1 Tryz.underlying127 hi hz0 hz1 _ _ _ _ (N - n + 1) rfl rfl ?e1 ?e2 ?e3 ?e4 (Nat.zero_le _) ?_)
  case e1 => omega
  case e2 => omega
  case e3 => omega
  case e4 => unfold maxLen; omega
  intro w3 hown3 hgrow3
  have HQ0 := Lib.hid (Rw.made hown3)
  have HF3 := Lib.hid (only_none HF0.out hgrow3)
  have HR3 : Hid (Rw w3 g cr (lx ++ [0])) := HR0.out.only hgrow3 (by simp)
  obtain ⟨gq, hgq⟩ : ∃ gq, w2.heap.size = gq := ⟨_, rfl⟩
  rw [hgq] at HQ0 hsz2 hg2 ⊢
  have hgne : g ≠ gq := by omega
  have hyne : gy ≠ gq := by omega
  have hyng : gy ≠ g := by omega
  clear hown3 hgrow3 hgq HR0 HF0
  go_wp2_with fail
  go_step3
  go_wp2_with fail
  go_loopg [8] (N - n + 1) (fun k i wr => ∃ (lr lq : List Nat), i = .int .i64 ((k : Int) - 1) ∧ k ≤ N - n + 1 ∧ Hid (lr.length = N + 1) ∧ Hid (lq.length = N - n + 1) ∧ Hid (Rw wr g cr lr) ∧ Hid (Rw wr gq (N - n + 1) lq) ∧ Hid (lo lr) ∧ Hid (lo lq) ∧ Hid (∀ j, j < k → lq.getD j 0 = 0) ∧ Hid (val lr + val ly * val lq = val lx) ∧ Hid (val (lr.drop k) < val ly) ∧ Hid (w.grownBy wr (some gx)))
  case atStart =>
    refine ⟨lx ++ [0], List.replicate (N - n + 1) 0, ?_, Nat.le_refl _, ?_, List.length_replicate, HR3, HQ0, lo_append.2 ⟨HLX.out, lo_cons.2 ⟨by omega, lo_nil⟩⟩, lo_zero _, fun j _ => by simp [List.getD_eq_getElem?_getD, List.getElem?_replicate]; split <;> rfl, ?_, HST, HF3⟩
    · go_num
    · show _ = _; rw [List.length_append, HXN.out]; rfl
    · show _ = _; rw [val_zero, val_append, val_cons, val_nil]; simp
  case round =>
    clear HR3 HQ0 HF3 HST
    obtain ⟨lr, lq, rfl, hk, HLR, HLQ, HR, HQ, HLOR, HLOQ, HZ, HV, HD, HF⟩ := hrel
    have hsz := HF.out.size
    match gk, hk, HZ, HD with
    | 0, hk, HZ, HD =>
      obtain ⟨hq, hr⟩ := dv_end HV.out (show val lr < val ly from HD.out)
      have HQV := Lib.hid hq
      have HRV := Lib.hid hr
      have HSZ := Lib.hid hsz2
      clear hq hr HV HD
      go_wp2_with fail
      refine (trim_to gq (N - n + 1) (N - n + 1) _ lq HLQ.out HLOQ.out HQV.out _ HQ.out (by omega)).mono ?_
      rintro e w' ⟨rfl, rfl, hq'⟩
      have HQ' := Lib.hid hq'
      clear hq'
      go_wp2_with fail
      refine (trim_to g cr (N + 1) _ lr HLR.out HLOR.out HRV.out _ HR.out (by omega)).mono ?_
      rintro e w' ⟨rfl, rfl, hr'⟩
      have HR' := Lib.hid hr'
      clear hr'
      go_wp2_with fail
      go_ret2
      exact ⟨gq, N - n + 1, g, cr, rfl, HQ'.out, HR'.out, hgor, HSZ.out, HF.out⟩
    | i + 1, hk, HZ, HD =>
      have hi2 : i + n ≤ N := by omega
      have hcr : N + 1 ≤ cr := by have := HR.out.le; have := HLR.out; omega
      have hci : ¬ cr = i := by omega
      have hsub : i + n + 1 - i = n + 1 := by omega
      have hln : Hid (i + n + 1 ≤ lr.length) := by show _ ≤ _; rw [HLR.out]; omega
      obtain ⟨hpv, h0, hlt⟩ := dv_part lr i n (val ly) HLOR.out hln.out HYB.out HD.out
      have HPV := Lib.hid hpv
      have HA0 := Lib.hid h0
      have hP : Hid (pv lr i (n + 1) < 1000000000 * val ly) := by show _ < _; rw [hpv]; exact hlt
      have HYW : Hid (Rw wr gy cy ly) := HY.out.only HF.out (by simpa using hne)
      have hlq : Hid (i < lq.length) := by show _ < _; rw [HLQ.out]; omega
      have hcq := HQ.out.cell i hlq.out
      rw [HZ.out i (by omega)] at hcq
      have hfq := HQ.out.frozen i
      clear hpv h0 hlt
      go_wp2_with (go_at_call 182; refine (guess_any g cr i (cr - i) gy cy n lr ly HLOR.out HLY.out _ HR.out HYW.out HYN.out hn1 hln.out (by omega) hP.out HT.out).mono ?_; rintro e w' ⟨qh, nd, rfl, hqb, hqp, rfl⟩)
      have hf0 : (wr.drewN nd).grownBy ((wr.drewN nd).setCell ⟨gq, i, none⟩ (.int .u64 (qh : Int))) (some gq) := only_set (only_refl _ _) i _
      have HF1 := Lib.hid (only_more (only_drewN HF.out nd) hf0 (.inr hsz2))
      have HR1 := Lib.hid ((HR.out.drewN nd).far (p := ⟨gq, i, none⟩) hgne (.int .u64 (qh : Int)))
      have HY1 := Lib.hid ((HYW.out.drewN nd).far (p := ⟨gq, i, none⟩) hyne (.int .u64 (qh : Int)))
      have HQ1 := Lib.hid ((HQ.out.drewN nd).store i qh)
      have HQP : Hid (val (lr.drop i) / val ly ≤ qh) := by show _ ≤ _; rw [← HPV.out]; exact hqp
      have HQZ := Lib.hid (HZ.out i (by omega))
      have hc0 : n + 1 ≤ cr - i := by omega
      clear hf0 hqp hcq hfq
      go_wp2_with fail
      refine (takeTimes_any g cr i (cr - i) gy cy n qh lr ly HLOR.out HLY.out _ HR1.out HY1.out hyng hqb HYN.out hln.out (by omega) hc0).mono ?_
      rintro e w2 ⟨ok, l1, rfl, hr1, hlo1, hO1, hv1, hf1⟩
      have hcan := dv_cancel lr lr l1 i n (qh * val ly) (if ok then 0 else 1) hln.out ⟨rfl, fun _ _ => rfl⟩ hO1 hv1
      have HF2 := Lib.hid (only_more HF1.out hf1 hgor)
      have HQ2 : Hid (Rw w2 gq (N - n + 1) (lq.set i qh)) := HQ1.out.only hf1 (by simp; omega)
      have HR2 := Lib.hid hr1
      have HLO1 := Lib.hid hlo1
      have HO1 := Lib.hid hO1
      have HL1 : Hid (l1.length = N + 1) := by show _ = _; rw [hO1.1]; exact HLR.out
      clear hr1 hlo1 hO1 hv1 hf1
      cases ok
      · have HC : Hid (val (l1.drop i) + qh * val ly = val (lr.drop i) + bp (n + 1)) := by show _ = _; simpa using hcan
        clear hcan
        go_wp2_with fail
        go_loopg [57] qh (fun qk _ wx => ∃ l' : List Nat, Hid (Rw wx g cr l') ∧ Hid (lo l') ∧ Hid (OnlyIn i (i + n + 1) lr l') ∧ Hid (Rw wx gq (N - n + 1) (lq.set i qk)) ∧ qk < 1000000000 ∧ Hid (val (l'.drop i) + qk * val ly = val (lr.drop i) + bp (n + 1)) ∧ Hid (w.grownBy wx (some gx)))
        case atStart => exact ⟨l1, HR2, HLO1, HO1, HQ2, hqb, HC, HF2⟩
        case round =>
          clear HR2 HLO1 HO1 HQ2 HC HF2 HL1 HF1 HR1 HY1 HQ1
          obtain ⟨l', HR, HLO', HO', HQ, hqk, HC, HF⟩ := hrel
          have hab := dv_above lr l' i n HLO'.out hln.out HO'.out HA0.out
          have hpos := dv_pos HC.out hab
          match gk, hqk, HC, HQ, hpos with
          | qm + 1, hqk, HC, HQ, hpos =>
            have hlq2 : Hid (i < (lq.set i (qm + 1)).length) := by show _ < _; rw [List.length_set]; exact hlq.out
            have hcq := HQ.out.cell i hlq2.out
            rw [set_getD _ _ _ hlq.out, show ((qm + 1 : Nat) : Int) = (qm : Int) + 1 by omega] at hcq
            have hfq := HQ.out.frozen i
            have HAB := Lib.hid hab
            have HYW : Hid (Rw wr gy cy ly) := HY.out.only HF.out (by simpa using hne)
            have HF3 := Lib.hid (only_more HF.out (only_set (only_refl _ (some gq)) i (.int .u64 (qm : Int))) (.inr hsz2))
            have HR3 := Lib.hid (HR.out.far (p := ⟨gq, i, none⟩) hgne (.int .u64 (qm : Int)))
            have HY3 := Lib.hid (HYW.out.far (p := ⟨gq, i, none⟩) hyne (.int .u64 (qm : Int)))
            have HQ3 := Lib.hid ((HQ.out.store i qm).ext (m := lq.set i qm) (by rw [List.set_set]))
            have hl' : Hid (i + n + 1 ≤ l'.length) := by show _ ≤ _; rw [HO'.out.1]; exact hln.out
            clear hab hpos
            go_wp2_with fail
            refine (putBack_any g cr i (cr - i) gy cy n l' ly HLO'.out HLY.out _ HR3.out HY3.out hyng HYN.out hl'.out (by omega) hc0).mono ?_
            rintro e w4 ⟨ok, l2, rfl, hr2, hlo2, hO2, hv2, hf2⟩
            have hO3 := HO'.out.trans hO2
            have hbk := dv_back lr l' l2 i n (val ly) (if ok then 1 else 0) hln.out HO'.out hO3 hv2
            have hls := dv_less HC.out (Nat.succ_pos _) hbk
            rw [Nat.add_sub_cancel] at hls
            have HF4 := Lib.hid (only_more HF3.out hf2 hgor)
            have HQ4 : Hid (Rw w4 gq (N - n + 1) (lq.set i qm)) := HQ3.out.only hf2 (by simp; omega)
            have HR4 := Lib.hid hr2
            have HLO2 := Lib.hid hlo2
            have HO3 := Lib.hid hO3
            have HL2 : Hid (l2.length = N + 1) := by show _ = _; rw [hO3.1]; exact HLR.out
            clear hr2 hlo2 hO2 hO3 hv2 hf2
            cases ok
            · have HC2 : Hid (val (l2.drop i) + qm * val ly = val (lr.drop i) + bp (n + 1)) := by show _ = _; simpa using hls
              clear hbk hls
              go_wp2_with fail
              go_roundg qm
              case measure => omega
              case rel => exact ⟨l2, HR4, HLO2, HO3, HQ4, by omega, HC2, HF4⟩
            · have HC2 : Hid (val (l2.drop i) + qm * val ly = val (lr.drop i)) := by
                show _ = _
                simp only [if_true, Nat.mul_one] at hls
                omega
              have HSM : Hid (val (l2.drop i) < val ly) := by
                show _ < _
                have := HAB.out
                simp only [if_true, Nat.mul_one] at hbk
                omega
              have HVD := Lib.hid (dv_done lr l2 lq i n qm (val ly) _ hln.out HO3.out hlq.out HQZ.out HV.out HC2.out)
              clear hbk hls
              go_wp2_with fail
              go_roundg i
              case measure => omega
              case rel => exact ⟨l2, lq.set i qm, by go_num, by omega, HL2, by show _ = _; rw [List.length_set]; exact HLQ.out, HR4, HQ4, HLO2, lo_set HLOQ.out _ _ (by omega), fun j hj => by rw [set_getD_ne _ _ _ _ (by omega)]; exact HZ.out j (by omega), HVD.out, HSM.out, HF4⟩
      · have HC : Hid (val (l1.drop i) + qh * val ly = val (lr.drop i)) := by show _ = _; simpa using hcan
        have HSM := Lib.hid (dv_small (Nat.lt_of_le_of_lt (Nat.zero_le _) HD.out) HC.out HQP.out)
        have HVD := Lib.hid (dv_done lr l1 lq i n qh (val ly) _ hln.out HO1.out hlq.out HQZ.out HV.out HC.out)
        clear hcan
        go_wp2_with fail
        go_roundg i
        case measure => omega
        case rel => exact ⟨l1, lq.set i qh, by go_num, by omega, HL1, by show _ = _; rw [List.length_set]; exact HLQ.out, HR2, HQ2, HLO1, lo_set HLOQ.out _ _ hqb, fun j hj => by rw [set_getD_ne _ _ _ _ (by omega)]; exact HZ.out j (by omega), HVD.out, HSM.out, HF2⟩

end Go.Proofs.YthamlnolfagpiaaGreatDoor

namespace Go.Proofs.YthamlnolfagpiaaGreatDoor
open Go.RowKit

theorem div_num (u v gx cx gy cy N n : Nat) (w : World) (hx : Rw w gx cx (limbs u)) (hy : Rw w gy cy (limbs v)) (hne : gy ≠ gx) (hN : (limbs u).length = N) (hn : (limbs v).length = n) (hv : 0 < v) (hle : n ≤ N) (hN9 : N ≤ 1000000) :
    Calls Tryz.prog 163 #[.slice (some ⟨gx, 0, none⟩) N cx, .slice (some ⟨gy, 0, none⟩) n cy] w fun e w' => DdPost gx u v w e w' := by
  have hn1 : 1 ≤ n := by
    rcases Nat.eq_zero_or_pos n with e | e
    · rw [e] at hn; rw [limbs_len0] at hn; omega
    · exact e
  have := div_long gx cx gy cy n N _ _ (limbs_lo u) (limbs_lo v) w hx hy hne hn hN hn1 hle hN9 (limbs_topj v (n - 1) (by omega))
  rwa [limbs_val, limbs_val] at this

theorem natDiv_bad (a b : ByteArray) (x : Int) (hx : Hid (wrongL a.data.toList b.data.toList = x)) (hx0 : (x != 0) = true) (w : World) (ha : a.size ≤ 1000000000) (hb : b.size ≤ 1000000000) :
    Calls Tryz.prog 138 #[.string a, .string b] w fun e w' => e = .returned (.tuple #[.string ⟨#[]⟩, .string ⟨#[]⟩, .int .i64 x]) ∧ Below w.heap.size w w' := by
  go_enter Tryz.func138, Tryz.ntmps138
  go_wp2_with fail
  refine (check_hid a b x hx _ ha hb).mono ?_
  rintro e w' ⟨rfl, rfl⟩
  go_wp2_with fail
  go_ret3
  exact ⟨rfl, Below.refl _ _⟩
theorem natDiv_zero (u : Nat) (w : World) (hu : (num u).size ≤ 4096) :
    Calls Tryz.prog 138 #[.string (num u), .string (num 0)] w fun e w' => e = .returned (.tuple #[.string ⟨#[]⟩, .string ⟨#[]⟩, .int .i64 10]) ∧ Below w.heap.size w w' := by
  have h0 : (num 0).size ≤ 4096 := by rw [← num_zero]; decide
  have hz := zero_eq 0
  rw [decide_eq_true rfl] at hz
  go_enter Tryz.func138, Tryz.ntmps138
  go_wp2_with fail
  refine (check_num u 0 _ hu h0).mono ?_
  rintro e w' ⟨rfl, rfl⟩
  go_wp2_with fail
  go_ret3
  exact ⟨rfl, Below.refl _ _⟩
theorem format_nil (w : World) :
    Calls Tryz.prog 134 #[.slice none 0 0] w fun e w' => e = .returned (.string (num 0)) ∧ w = w' := format_zero none 0 w

set_option maxHeartbeats 1000000 in
theorem natDiv_num (u v : Nat) (hv0 : 0 < v) (w : World) (hu : (num u).size ≤ 4096) (hv : (num v).size ≤ 4096) (ht : Tab w) :
    Calls Tryz.prog 138 #[.string (num u), .string (num v)] w fun e w' => e = .returned (.tuple #[.string (num (u / v)), .string (num (u % v)), .int .i64 0]) ∧ Below w.heap.size w w' := by
  have hlu := Nat.le_trans (limbs_len u 4096 hu) (show 4096 ≤ 1000000 by omega)
  have hlv := Nat.le_trans (limbs_len v 4096 hv) (show 4096 ≤ 1000000 by omega)
  have hlq : (limbs (u / v)).length ≤ 1000000 := Nat.le_trans (limbs_le (Nat.lt_of_le_of_lt (Nat.div_le_self u v) (limbs_lt u))) hlu
  have hlr : (limbs (u % v)).length ≤ 1000000 := Nat.le_trans (limbs_le (Nat.lt_of_le_of_lt (Nat.mod_le u v) (limbs_lt u))) hlu
  have hze := zero_eq v
  rw [decide_eq_false (by omega)] at hze
  go_enter Tryz.func138, Tryz.ntmps138
  go_wp2_with fail
  refine (check_num u v _ hu hv).mono ?_
  rintro e w' ⟨rfl, rfl⟩
  go_wp2_with fail
  refine (parse_num u _ (by omega)).mono ?_
  rintro e w1 ⟨gx, cx, rfl, hx, hgx, b1⟩
  have t1 := ht.below (Nat.le_refl _) b1
  have hs1 := b1.size
  have hxl := hx.lt
  go_wp2_with fail
  refine (parse_num v _ (by omega)).mono ?_
  rintro e w2 ⟨gy, cy, rfl, hy, hgy, b2⟩
  have t2 := t1.below (Nat.le_refl _) b2
  have hx2 := hx.below b2 hx.lt
  have hs2 := b2.size
  have B2 := b1.trans (b2.mono b1.size)
  have hne : gy ≠ gx := by omega
  clear b1 b2 t1 hx
  by_cases hsh : (limbs u).length < (limbs v).length
  · have hlt := limbs_less hsh
    have HQ : Hid (u / v = 0) := Nat.div_eq_of_lt hlt
    have HR : Hid (u % v = u) := Nat.mod_eq_of_lt hlt
    clear hlt
    go_wp2_with fail
    refine (div_short _ _ cx gy cy _ hsh _).mono ?_
    rintro e w' ⟨rfl, rfl⟩
    go_wp2_with fail
    refine (format_nil _).mono ?_
    rintro e w' ⟨rfl, rfl⟩
    go_wp2_with fail
    refine (format_any u gx cx _ hx2 t2 hlu).mono ?_
    rintro e w4 ⟨rfl, b4⟩
    have B4 := B2.trans (b4.mono B2.size)
    go_wp2_with fail
    go_ret3
    exact ⟨by rw [HQ.out, HR.out]; rfl, B4⟩
  · go_wp2_with fail
    refine (div_num u v gx cx gy cy _ _ _ hx2 hy hne rfl rfl hv0 (by omega) hlu).mono ?_
    rintro e w3 ⟨gq, cq, gr, cr, rfl, hq, hr, hgr, hgq, hf⟩
    have B3 := B2.trans (only_below hf (Nat.le_trans hs1 hs2) hgx)
    have t3 := ht.below (Nat.le_refl _) B3
    have hql := hq.lt
    clear hf hx2 hy
    go_wp2_with fail
    refine (format_any (u / v) gq cq _ hq t3 hlq).mono ?_
    rintro e w4 ⟨rfl, b4⟩
    have t4 := t3.below (Nat.le_refl _) b4
    have hr4 := hr.below b4 hr.lt
    have B4 := B3.trans (b4.mono B3.size)
    clear B3 b4 t3 hq hr
    go_wp2_with fail
    refine (format_any (u % v) gr cr _ hr4 t4 hlr).mono ?_
    rintro e w5 ⟨rfl, b5⟩
    have B5 := B4.trans (b5.mono B4.size)
    go_wp2_with fail
    go_ret3
    exact ⟨rfl, B5⟩

end Go.Proofs.YthamlnolfagpiaaGreatDoor

namespace Go.Proofs.YthamlnolfagpiaaGreatDoor
open Go.RowKit

theorem word_any (g cap n u : Nat) (l : List Nat) (hlo : lo l) (w : World) (h : Rw w g cap l) (hn : l.length = n) (hn2 : n ≤ 2) (hu : val l = u) :
    Calls Tryz.prog 162 #[.slice (some ⟨g, 0, none⟩) n cap] w fun e w' => e = .returned (.int .u64 (u : Int)) ∧ w = w' := by
  have hb : ∀ k, val (l.drop k) < 1000000000000000000 := fun k => by
    have h1 := val_lt (lo_drop hlo k)
    have h2 : bp (l.drop k).length ≤ bp 2 := bp_mono (by rw [List.length_drop]; omega)
    have h3 : bp 2 = 1000000000000000000 := by decide
    omega
  have HB := Lib.hid hb
  have HV : Hid (val (l.drop 0) = u) := hu
  have HL := Lib.hid h
  have HN := Lib.hid hn
  have HLO := Lib.hid hlo
  have HE : Hid (val (l.drop n) = 0) := by show _ = _; rw [List.drop_of_length_le (by omega)]; rfl
  clear hb h hn hlo hu
  go_enter Tryz.func162, Tryz.ntmps162
  go_wp2
  go_loop [3, 4] (fun a i => ∃ k v : Nat, a = .int .u64 v ∧ i = .int .i64 ((k : Int) - 1) ∧ k ≤ n ∧ Hid (val (l.drop k) = v)) (fun _ i => (intOf i + 1).toNat)
  case atStart => exact ⟨n, 0, rfl, rfl, Nat.le_refl _, HE⟩
  case round =>
    clear HE
    obtain ⟨k, v, rfl, rfl, hk, HK⟩ := hrel
    match k, hk, HK with
    | 0, hk, HK =>
      have HU : Hid (v = u) := by show _ = _; rw [← HK.out, HV.out]
      go_wp2
      go_ret
      exact ⟨ret_int (by rw [HU.out]), rfl⟩
    | j + 1, hk, HK =>
      have hc := HL.out.cell j (by rw [HN.out]; omega)
      have hd := val_drop l j (by rw [HN.out]; omega)
      have hbj := HB.out j
      rw [HK.out] at hd
      rw [hd] at hbj
      have HD := Lib.hid hd
      clear hd
      generalize l.getD j 0 = x at *
      have hbj2 : v * 1000000000 + x < 1000000000000000000 := by omega
      go_wp2
      go_round
      case rel => exact ⟨j, v * 1000000000 + x, by go_num, by go_num, by omega, by have := HD.out; show _ = _; omega⟩
      case measure => simp [intOf]

theorem two_new (w : World) (a b : Nat) : Rw (w.alloc (.cells #[.int .u64 (a : Int), .int .u64 (b : Int)] 146)) w.heap.size 2 [a, b] := by
  have := World.ownsRow_lit (base := 0) (size := 1) (e := 146) w #[.int .u64 (a : Int), .int .u64 (b : Int)] 2 (Nat.zero_le _) (by decide) rfl
  exact this
theorem small_any (u : Nat) (hu : u < 1000000000000000000) (w : World) :
    Calls Tryz.prog 160 #[.int .u64 u] w fun e w' => ∃ g cap, e = .returned (.slice (some ⟨g, 0, none⟩) (limbs u).length cap) ∧ Rw w' g cap (limbs u) ∧ w.heap.size ≤ g ∧ Below w.heap.size w w' := by
  have hr := two_new w (u % 1000000000) (u / 1000000000)
  rw [show ((u % 1000000000 : Nat) : Int) = (u : Int) % 1000000000 by omega, show ((u / 1000000000 : Nat) : Int) = (u : Int) / 1000000000 by omega] at hr
  have HR := Lib.hid hr
  have HV : Hid (val [u % 1000000000, u / 1000000000] = u) := by show _ = _; rw [val_cons, val_cons, val_nil]; omega
  have HLO : Hid (lo [u % 1000000000, u / 1000000000]) := lo_cons.2 ⟨by omega, lo_cons.2 ⟨by omega, lo_nil⟩⟩
  clear hr
  go_enter Tryz.func160, Tryz.ntmps160
  go_wp2_with (go_at_call 164; refine (trim_to w.heap.size 2 2 u _ rfl HLO.out HV.out _ HR.out (by omega)).mono ?_; rintro e w' ⟨rfl, rfl, hr'⟩)
  go_ret
  exact ⟨_, _, rfl, hr', Nat.le_refl _, (Below.refl _ _).alloc (Nat.le_refl _) _⟩

/-- what smallDivisor leaves -/
def SdPost (G : Nat) (w : World) (e : Ending) (w' : World) : Prop := ∃ n : Nat, e = .returned (.int .u64 (G : Int)) ∧ w' = w.drewN n
theorem smallDivisor_any (a b G : Nat) (ha : a < 18446744073709551616) (hb : b < 18446744073709551616) (hG : Nat.gcd a b = G) (w : World) :
    Calls Tryz.prog 161 #[.int .u64 a, .int .u64 b] w fun e w' => SdPost G w e w' := by
  have HG := Lib.hid hG
  clear hG
  go_enter Tryz.func161, Tryz.ntmps161
  go_wp2
  go_loopg [0, 1] b (fun k x y wr => ∃ c nd : Nat, x = .int .u64 c ∧ y = .int .u64 k ∧ c < 18446744073709551616 ∧ k < 18446744073709551616 ∧ Hid (Nat.gcd c k = G) ∧ wr = w.drewN nd)
  case atStart => exact ⟨a, 0, rfl, rfl, ha, hb, HG, rfl⟩
  case round =>
    clear HG
    obtain ⟨c, nd, rfl, rfl, hc, hk, HG, rfl⟩ := hrel
    rcases Nat.eq_zero_or_pos gk with h0 | h0
    · subst h0
      have HC : Hid (c = G) := by have := HG.out; rw [Nat.gcd_zero_right] at this; exact this
      go_wp2
      go_ret
      exact ⟨nd, ret_int (by rw [HC.out]), rfl⟩
    · have hkI : (0 : Int) < (gk : Int) := by omega
      have HG2 : Hid (Nat.gcd gk (c % gk) = G) := by show _ = _; rw [Nat.gcd_comm, ← Nat.gcd_rec, Nat.gcd_comm]; exact HG.out
      have hlt := Nat.mod_lt c h0
      have hmI : (c : Int) % (gk : Int) = ((c % gk : Nat) : Int) := rfl
      generalize c % gk = m at *
      have HMI := Lib.hid hmI
      clear hmI
      go_wp2_with fail
      go_quiet (fail)
      go_wp2_with fail
      go_roundg m
      case measure => exact hlt
      case rel => exact ⟨gk, nd + nq, rfl, congrArg (Value.int .u64) HMI.out, by omega, by omega, HG2, World.drewN_drewN _ _ _⟩

end Go.Proofs.YthamlnolfagpiaaGreatDoor

namespace Go.Proofs.YthamlnolfagpiaaGreatDoor
open Go.RowKit

theorem small_lt (u : Nat) (h : (limbs u).length ≤ 2) : u < 1000000000000000000 := by
  have h1 := limbs_lt u
  have h2 := bp_mono h
  have h3 : bp 2 = 1000000000000000000 := by decide
  omega
theorem word_num (g cap u n : Nat) (w : World) (h : Rw w g cap (limbs u)) (hn : (limbs u).length = n) (h2 : n ≤ 2) :
    Calls Tryz.prog 162 #[.slice (some ⟨g, 0, none⟩) n cap] w fun e w' => e = .returned (.int .u64 (u : Int)) ∧ w = w' :=
  word_any g cap n u _ (limbs_lo u) w h hn h2 (limbs_val u)
/-- what commonDivisor leaves -/
def CdPost (B G : Nat) (w : World) (e : Ending) (w' : World) : Prop := ∃ g cap, e = .returned (.slice (some ⟨g, 0, none⟩) (limbs G).length cap) ∧ Rw w' g cap (limbs G) ∧ Below B w w'

set_option maxHeartbeats 4000000 in
set_option maxRecDepth 100000 in
theorem cd_any (u v gx cx gy cy B G : Nat) (w : World) (hx : Rw w gx cx (limbs u)) (hy : Rw w gy cy (limbs v)) (hne : gy ≠ gx) (hu : (limbs u).length ≤ 1000000) (hv : (limbs v).length ≤ 1000000) (hG : Nat.gcd u v = G) (hBx : B ≤ gx) (hBy : B ≤ gy) (hBw : B ≤ w.heap.size) :
    Calls Tryz.prog 135 #[.slice (some ⟨gx, 0, none⟩) (limbs u).length cx, .slice (some ⟨gy, 0, none⟩) (limbs v).length cy] w fun e w' => CdPost B G w e w' := by
  have HX := Lib.hid hx
  have HY := Lib.hid hy
  have HG := Lib.hid hG
  clear hx hy hG
  go_enter Tryz.func135, Tryz.ntmps135
  go_wp2_with fail
  go_loopg [0, 1] v (fun k x y wr => ∃ a gx cx gy cy nx ny : Nat, x = .slice (some ⟨gx, 0, none⟩) nx cx ∧ y = .slice (some ⟨gy, 0, none⟩) ny cy ∧ Hid ((limbs a).length = nx) ∧ Hid ((limbs k).length = ny) ∧ nx ≤ 1000000 ∧ ny ≤ 1000000 ∧ Hid (Rw wr gx cx (limbs a)) ∧ Hid (Rw wr gy cy (limbs k)) ∧ gy ≠ gx ∧ B ≤ gx ∧ B ≤ gy ∧ B ≤ wr.heap.size ∧ Hid (Nat.gcd a k = G) ∧ Hid (Below B w wr))
  case atStart => exact ⟨u, gx, cx, gy, cy, _, _, rfl, rfl, rfl, rfl, hu, hv, HX, HY, hne, hBx, hBy, hBw, HG, Below.refl _ _⟩
  case round =>
    clear HX HY HG hne hu hv hBx hBy hBw
    clear gx cx gy cy
    obtain ⟨a, gx, cx, gy, cy, nx, ny, rfl, rfl, HNX, HNY, hx9, hy9, HX, HY, hne, hBx, hBy, hBw, HG, HB⟩ := hrel
    rcases Nat.eq_zero_or_pos gk with h0 | h0
    · subst h0
      have hny : ny = 0 := by rw [← HNY.out, limbs_zero]; rfl
      subst hny
      have HA : Hid (a = G) := by have := HG.out; rw [Nat.gcd_zero_right] at this; exact this
      go_wp2
      go_ret
      exact ⟨gx, cx, ret_sl (by rw [← HNX.out, HA.out]), by rw [← HA.out]; exact HX.out, HB.out⟩
    · have hny : 0 < ny := by
        rcases Nat.eq_zero_or_pos ny with e | e
        · have := HNY.out; rw [e, limbs_len0] at this; omega
        · exact e
      by_cases hs : nx ≤ 2 ∧ ny ≤ 2
      · obtain ⟨hs1, hs2⟩ := hs
        have ha := small_lt a (by rw [HNX.out]; exact hs1)
        have hk := small_lt gk (by rw [HNY.out]; exact hs2)
        have hGl : G < 1000000000000000000 := by rw [← HG.out]; exact Nat.lt_of_le_of_lt (Nat.gcd_le_right a h0) hk
        go_wp2_with fail
        refine (word_num gx cx a nx _ HX.out HNX.out hs1).mono ?_
        rintro e w' ⟨rfl, rfl⟩
        go_wp2_with fail
        refine (word_num gy cy gk ny _ HY.out HNY.out hs2).mono ?_
        rintro e w' ⟨rfl, rfl⟩
        go_wp2_with fail
        refine (smallDivisor_any a gk G (by omega) (by omega) HG.out _).mono ?_
        rintro e w' ⟨nd, rfl, rfl⟩
        go_wp2_with fail
        refine (small_any G hGl _).mono ?_
        rintro e w' ⟨g, cap, rfl, hr, hg, hb⟩
        have HR := Lib.hid hr
        have HB2 : Hid (Below B w w') := HB.out.trans ((below_drewN (Below.refl B _) nd).trans (hb.mono (by simpa using hBw)))
        clear hr hb
        go_wp2_with fail
        go_ret
        exact ⟨g, cap, rfl, HR.out, HB2.out⟩
      · have hlt := Nat.mod_lt a h0
        have HG2 : Hid (Nat.gcd gk (a % gk) = G) := by show _ = _; rw [Nat.gcd_comm, ← Nat.gcd_rec, Nat.gcd_comm]; exact HG.out
        have hcase : (nx ≤ 2 ∧ 2 < ny) ∨ 2 < nx := by omega
        by_cases hsh : nx < ny
        · have HM : Hid (a % gk = a) := Nat.mod_eq_of_lt (limbs_less (by rw [HNX.out, HNY.out]; exact hsh))
          rcases hcase with ⟨hc1, hc2⟩ | hc1
          all_goals
            go_wp2_with (go_at_call 163; refine (div_short _ nx cx gy cy ny hsh _).mono ?_; rintro e w' ⟨rfl, rfl⟩)
            go_roundg (a % gk)
            case measure => exact hlt
            case rel => exact ⟨gk, gy, cy, gx, cx, ny, nx, rfl, rfl, HNY, by show _ = _; rw [HM.out]; exact HNX.out, hy9, hx9, HY, by show Rw _ _ _ _; rw [HM.out]; exact HX.out, hne.symm, hBy, hBx, hBw, HG2, HB⟩
        · have hle : ny ≤ nx := by omega
          have hml : (limbs (a % gk)).length ≤ 1000000 := Nat.le_trans (limbs_le (Nat.lt_of_le_of_lt (Nat.mod_le a gk) (limbs_lt a))) (by rw [HNX.out]; exact hx9)
          rcases hcase with ⟨hc1, hc2⟩ | hc1
          · omega
          · go_wp2_with (go_at_call 163; refine (div_num a gk gx cx gy cy nx ny _ HX.out HY.out hne HNX.out HNY.out h0 hle hx9).mono ?_; rintro e w' ⟨gq, cq, gr, cr, rfl, hq, hr, hgr, hgq, hf⟩)
            have HR := Lib.hid hr
            have HY2 : Hid (Rw w' gy cy (limbs gk)) := HY.out.only hf (by simpa using hne)
            have hgy := HY.out.lt
            have hB2 : Below B w w' := HB.out.trans (only_below hf hBw hBx)
            have HB2 := Lib.hid hB2
            have hs2 := hf.size
            go_roundg (a % gk)
            case measure => exact hlt
            case rel => exact ⟨gk, gy, cy, gr, cr, ny, _, rfl, rfl, HNY, rfl, hy9, hml, HY2, HR, by omega, hBy, by omega, by omega, HG2, HB2⟩


theorem natGcd_bad (a b : ByteArray) (x : Int) (hx : Hid (wrongL a.data.toList b.data.toList = x)) (hx0 : (x != 0) = true) (w : World) (ha : a.size ≤ 1000000000) (hb : b.size ≤ 1000000000) :
    Calls Tryz.prog 106 #[.string a, .string b] w fun e w' => e = .returned (.tuple #[.string ⟨#[]⟩, .int .i64 x]) ∧ Below w.heap.size w w' := by
  go_enter Tryz.func106, Tryz.ntmps106
  go_wp2_with fail
  refine (check_hid a b x hx _ ha hb).mono ?_
  rintro e w' ⟨rfl, rfl⟩
  go_wp2_with fail
  go_ret2
  exact ⟨rfl, Below.refl _ _⟩
set_option maxHeartbeats 1000000 in
theorem natGcd_num (u v : Nat) (w : World) (hu : (num u).size ≤ 4096) (hv : (num v).size ≤ 4096) (ht : Tab w) :
    Calls Tryz.prog 106 #[.string (num u), .string (num v)] w fun e w' => e = .returned (.tuple #[.string (num (Nat.gcd u v)), .int .i64 0]) ∧ Below w.heap.size w w' := by
  have hlu := Nat.le_trans (limbs_len u 4096 hu) (show 4096 ≤ 1000000 by omega)
  have hlv := Nat.le_trans (limbs_len v 4096 hv) (show 4096 ≤ 1000000 by omega)
  obtain ⟨G, hG⟩ : ∃ G, Nat.gcd u v = G := ⟨_, rfl⟩
  have hlg : (limbs G).length ≤ 1000000 := by
    rcases Nat.eq_zero_or_pos u with h | h
    · subst h; rw [Nat.gcd_zero_left] at hG; rw [← hG]; exact hlv
    · exact Nat.le_trans (limbs_le (Nat.lt_of_le_of_lt (by rw [← hG]; exact Nat.gcd_le_left v h) (limbs_lt u))) hlu
  rw [hG]
  go_enter Tryz.func106, Tryz.ntmps106
  go_wp2_with fail
  refine (check_num u v _ hu hv).mono ?_
  rintro e w' ⟨rfl, rfl⟩
  go_wp2_with fail
  refine (parse_num u _ (by omega)).mono ?_
  rintro e w1 ⟨gx, cx, rfl, hx, hgx, b1⟩
  have t1 := ht.below (Nat.le_refl _) b1
  have hs1 := b1.size
  have hxl := hx.lt
  go_wp2_with fail
  refine (parse_num v _ (by omega)).mono ?_
  rintro e w2 ⟨gy, cy, rfl, hy, hgy, b2⟩
  have t2 := t1.below (Nat.le_refl _) b2
  have hx2 := hx.below b2 hx.lt
  have hs2 := b2.size
  have B2 := b1.trans (b2.mono b1.size)
  have hne : gy ≠ gx := by omega
  clear b1 b2 t1 hx
  go_wp2_with fail
  refine (cd_any u v gx cx gy cy w.heap.size G _ hx2 hy hne hlu hlv hG hgx (by omega) (by omega)).mono ?_
  rintro e w3 ⟨g, cap, rfl, hr, b3⟩
  have t3 := ht.below (Nat.le_refl _) (B2.trans b3)
  have B3 := B2.trans b3
  clear b3
  go_wp2_with fail
  refine (format_any G g cap _ hr t3 hlg).mono ?_
  rintro e w4 ⟨rfl, b4⟩
  have B4 := B3.trans (b4.mono B3.size)
  go_wp2_with fail
  go_ret2
  exact ⟨rfl, B4⟩

end Go.Proofs.YthamlnolfagpiaaGreatDoor

