/-
  DERIVED. The walk of guess.
-/
import Derived.Test.YtgpjfgakhncdnaaDoorPureGuess
import Derived.Test.YtgpjfgakhncdnaaDoorNatD64
import Derived.Test.YtgpjfgakhncdnaaDoorNatMul
import Derived.Laws.Externs
namespace Go.Proofs.YtgpjfgakhncdnaaDoor
open Go.RowKit

/-- what guess leaves -/
def GsPost (V Y : Nat) (w : World) (e : Ending) (w' : World) : Prop := ∃ (q n : Nat), e = .returned (.int .u64 (q : Int)) ∧ q < 1000000000 ∧ V / Y ≤ q ∧ w' = w.drewN n

set_option maxHeartbeats 1000000 in
theorem guess_n1 (g cap o c0 gy cy : Nat) (l ly : List Nat) (hlo : lo l) (w : World) (hx : Rw w g cap l) (hy : Rw w gy cy ly) (hn : ly.length = 1) (hl : o + 1 < l.length) (hP : pv l o 2 < 1000000000 * val ly) :
    Calls Tryd.prog 48 #[.slice (some ⟨g, o, none⟩) 2 c0, .slice (some ⟨gy, 0, none⟩) 1 cy] w fun e w' => GsPost (pv l o 2) (val ly) w e w' := by
  have hcy := hy.cell 0 (by omega)
  have hcp0 := hx.cell o (by omega)
  have hcp1 := hx.cell (o + 1) (by omega)
  have hp09 := lo_getD hlo o
  have hp19 := lo_getD hlo (o + 1)
  have hvy : val ly = ly.getD 0 0 := by
    have h := val_take_succ ly 0 (by omega)
    rw [show 0 + 1 = ly.length by omega, List.take_length] at h
    simpa [val_nil, bp_zero] using h
  have hG := guess_one l o (val ly) _ _ hl rfl rfl hP
  rw [hvy] at hG hP ⊢
  have hy0 : 0 < ly.getD 0 0 := by omega
  generalize ly.getD 0 0 = y at *
  generalize l.getD o 0 = p0 at *
  generalize l.getD (o + 1) 0 = p1 at *
  obtain ⟨_, hG2, hG3⟩ := hG
  have hyI : (0 : Int) < (y : Int) := by omega
  have e1 : IntKind.u64.wrap ((p1 : Int) * 1000000000) = (p1 : Int) * 1000000000 := IntWalk.u64_in _ (by omega)
  have e2 : IntKind.u64.wrap ((p1 : Int) * 1000000000 + (p0 : Int)) = (p1 : Int) * 1000000000 + (p0 : Int) := IntWalk.u64_in _ (by omega)
  obtain ⟨q, hq⟩ : ∃ q, (p1 * 1000000000 + p0) / y = q := ⟨_, rfl⟩
  rw [hq] at hG2 hG3
  have eN : ((p1 * 1000000000 + p0 : Nat) : Int) = (p1 : Int) * 1000000000 + (p0 : Int) := by omega
  have HD : Hid (((p1 : Int) * 1000000000 + (p0 : Int)) / (y : Int) = (q : Int)) := by show _ = _; rw [← eN, ← hq]; rfl
  clear eN
  have HG := Lib.hid hG3
  clear hG3 hq hvy hP
  go_enter Tryd.func48, Tryd.ntmps48
  go_wp2_with fail
  go_quiet (fail)
  go_wp2_with fail
  go_ret
  exact ⟨q, _, ret_int HD.out, hG2, HG.out, rfl⟩

theorem mul64_c (x h l : Nat) (hx : x < 1000000000000000000) (e : Hid (x * 1000000000 = h * 18446744073709551616 + l ∧ l < 18446744073709551616)) (w : World) :
    Calls Tryd.prog 56 #[.int .u64 x, .int .u64 1000000000] w fun e w' => e = .returned (.tuple #[.int .u64 h, .int .u64 l]) ∧ w' = w := by
  have H := Tryd.bits_Mul64 x 1000000000 (by omega) (by omega) w
  obtain ⟨h1, h2⟩ := e.out
  rw [show x * 1000000000 / 18446744073709551616 = h by omega, show x * 1000000000 % 18446744073709551616 = l by omega] at H
  exact H
theorem add64_c (l p l2 c : Nat) (e : l + p = c * 18446744073709551616 + l2) (h2 : l2 < 18446744073709551616) (w : World) :
    (callFunc 57 #[.int .u64 l, .int .u64 p, .int .u64 0]).run Tryd.prog w = .ok (.value (.tuple #[.int .u64 l2, .int .u64 c])) w := by
  rw [run_callFunc_extern Tryd.func57 (by kernel_rfl) (by kernel_rfl) (by kernel_rfl) (e := add64Entry) (by kernel_rfl), run_add64 l p 0 (by omega) (by omega) (by omega) (by omega)]
  rw [show ((l : Int) + p + 0) % 18446744073709551616 = (l2 : Int) by omega, show ((l : Int) + p + 0) / 18446744073709551616 = (c : Int) by omega]
  rfl
theorem d64_any (hi lo y Q R : Nat) (hy : hi < y) (hy64 : y < 18446744073709551616) (hlo : lo < 18446744073709551616) (hQ : Hid ((hi * 18446744073709551616 + lo) / y = Q)) (hR : Hid ((hi * 18446744073709551616 + lo) % y = R)) (w : World) :
    Calls Tryd.prog 58 #[.int .u64 hi, .int .u64 lo, .int .u64 y] w fun e w' => DvPost Q R w e w' := by
  rw [← hQ.out, ← hR.out]
  rcases Nat.eq_zero_or_pos hi with h | h
  · subst h
    rw [Nat.zero_mul, Nat.zero_add]
    exact d64_zero lo y (by omega) hlo w
  · have hb := Lib.bitLen_le y 64 (by omega) (by simpa using hy64)
    exact d64_big hi lo y (64 - Lib.bitLen y) h hy hy64 hlo (by show _ = _; omega) (by omega) w
theorem quiet_dv {P : Program} {f : FuncId} {args : Array Value} {w : World} {a n Q R : Nat} (h : Calls P f args (w.drewN (a + n)) fun e w' => DvPost Q R (w.drewN (a + n)) e w') :
    Calls P f args (w.drewN (a + n)) fun e w'' => e = .returned (.tuple #[.int .u64 (Q : Int), .int .u64 (R : Int)]) ∧ ∃ m, w'' = w.drewN (a + m) :=
  h.mono fun _ _ ⟨m, he, hm⟩ => ⟨he, n + m, by rw [hm, World.drewN_drewN, Nat.add_assoc]⟩

theorem quiet_same0 {P : Program} {f : FuncId} {args : Array Value} {w : World} {n : Nat} {v : Value} (h : Calls P f args (w.drewN n) fun e w' => e = .returned v ∧ w' = w.drewN n) :
    Calls P f args (w.drewN n) fun e w'' => e = .returned v ∧ ∃ m, w'' = w.drewN m :=
  h.mono fun _ _ ⟨he, hm⟩ => ⟨he, n, hm⟩

set_option maxHeartbeats 2000000 in
set_option maxRecDepth 100000 in
theorem guess_n2 (g cap o c0 gy cy k : Nat) (l ly : List Nat) (hlo : lo l) (hly : lo ly) (w : World) (hx : Rw w g cap l) (hy : Rw w gy cy ly) (hn : ly.length = k + 2) (hl : o + k + 2 < l.length) (hk9 : k ≤ 1000000) (hP : pv l o (k + 3) < 1000000000 * val ly) (htop : 0 < ly.getD (k + 1) 0) :
    Calls Tryd.prog 48 #[.slice (some ⟨g, o, none⟩) ((k + 2) + 1) c0, .slice (some ⟨gy, 0, none⟩) (k + 2) cy] w fun e w' => GsPost (pv l o (k + 3)) (val ly) w e w' := by
  have hcy0 := hy.cell k (by omega)
  have hcy1 := hy.cell (k + 1) (by omega)
  have hcp0 := hx.cell (o + k) (by omega)
  have hcp1 := hx.cell (o + (k + 1)) (by omega)
  have hcp2 := hx.cell (o + (k + 2)) (by omega)
  have hp09 := lo_getD hlo (o + k)
  have hp19 := lo_getD hlo (o + (k + 1))
  have hp29 := lo_getD hlo (o + (k + 2))
  have hy09 := lo_getD hly k
  have hy19 := lo_getD hly (k + 1)
  have HP : Hid (pv l o (k + 3) / val ly ≤ 999999999) := Nat.le_of_lt_succ (Nat.div_lt_of_lt_mul (by omega))
  have hG := guess_more l ly o k _ _ _ _ _ hlo hl hn rfl rfl rfl rfl rfl htop
  rw [show o + k + 1 = o + (k + 1) by omega, show o + k + 2 = o + (k + 2) by omega] at hG
  generalize ly.getD k 0 = y0 at *
  generalize ly.getD (k + 1) 0 = y1 at *
  generalize l.getD (o + k) 0 = p0 at *
  generalize l.getD (o + (k + 1)) 0 = p1 at *
  generalize l.getD (o + (k + 2)) 0 = p2 at *
  obtain ⟨x, hx0⟩ : ∃ x, p2 * 1000000000 + p1 = x := ⟨_, rfl⟩
  rw [hx0] at hG
  obtain ⟨h, a, ha⟩ : ∃ h a, x * 1000000000 = h * 18446744073709551616 + a ∧ a < 18446744073709551616 := ⟨x * 1000000000 / 18446744073709551616, x * 1000000000 % 18446744073709551616, (Nat.div_add_mod' _ _).symm, Nat.mod_lt _ (by omega)⟩
  obtain ⟨c, l2, hc, hl2⟩ : ∃ c l2, a + p0 = c * 18446744073709551616 + l2 ∧ l2 < 18446744073709551616 := ⟨(a + p0) / 18446744073709551616, (a + p0) % 18446744073709551616, (Nat.div_add_mod' _ _).symm, Nat.mod_lt _ (by omega)⟩
  have hx18 : x < 1000000000000000000 := by omega
  obtain ⟨hD, hN⟩ := guess_hi x p0 h a y1 y0 c l2 hx18 hp09 ha.1 hc htop
  rw [hN] at hG
  obtain ⟨q, hq⟩ : ∃ q, ((h + c) * 18446744073709551616 + l2) / (y1 * 1000000000 + y0) = q := ⟨_, rfl⟩
  rw [hq] at hG
  obtain ⟨D, hDD⟩ : ∃ D, y1 * 1000000000 + y0 = D := ⟨_, rfl⟩
  rw [hDD] at hD hq
  obtain ⟨hc2, hhc⟩ : ∃ hc2, h + c = hc2 := ⟨_, rfl⟩
  rw [hhc] at hD hq
  have HQ := Lib.hid hq
  obtain ⟨rm, hrm⟩ : ∃ rm, (hc2 * 18446744073709551616 + l2) % D = rm := ⟨_, rfl⟩
  have HRM := Lib.hid hrm
  clear hrm
  have HA := Lib.hid ha
  have HG := Lib.hid hG
  have hadd := fun W => add64_c a p0 l2 c hc hl2 W
  have e1 : IntKind.u64.wrap ((p2 : Int) * 1000000000) = (p2 : Int) * 1000000000 := IntWalk.u64_in _ (by omega)
  have e2 : IntKind.u64.wrap ((p2 : Int) * 1000000000 + (p1 : Int)) = (x : Int) := by rw [show (p2 : Int) * 1000000000 + (p1 : Int) = (x : Int) by omega]; exact IntWalk.u64_in _ (by omega)
  have e3 : IntKind.u64.wrap ((h : Int) + (c : Int)) = (hc2 : Int) := by rw [show (h : Int) + (c : Int) = (hc2 : Int) by omega]; exact IntWalk.u64_in _ (by omega)
  have e4 : IntKind.u64.wrap ((y1 : Int) * 1000000000) = (y1 : Int) * 1000000000 := IntWalk.u64_in _ (by omega)
  have e5 : IntKind.u64.wrap ((y1 : Int) * 1000000000 + (y0 : Int)) = (D : Int) := by rw [show (y1 : Int) * 1000000000 + (y0 : Int) = (D : Int) by omega]; exact IntWalk.u64_in _ (by omega)
  have hD64 : D < 18446744073709551616 := by omega
  clear hG hq hN ha hc hx0 hDD hhc hx hy
  go_enter Tryd.func48, Tryd.ntmps48
  go_wp2_with fail
  go_quiet ((go_at_call 56; exact quiet_same0 (mul64_c x h a hx18 HA _)))
  go_wp2_with (simp only [hadd])
  go_quiet ((go_at_call 58; exact quiet_dv (d64_any hc2 l2 D q rm hD hD64 hl2 HQ HRM _)))
  by_cases hqb : (q : Int) ≤ 999999999
  · go_wp2_with fail
    all_goals
      go_ret
      exact ⟨q, _, ret_int (by omega), by omega, HG.out, rfl⟩
  · go_wp2_with fail
    all_goals
      go_ret
      exact ⟨999999999, _, ret_int (by omega), by omega, HP.out, rfl⟩

end Go.Proofs.YtgpjfgakhncdnaaDoor
