/-
  DERIVED. HC: a part of the base of layer 13 (made by pack.py).
-/
import Derived.Test.YtomebalolmabnaaGreatDoorHB
/-! The walks of the small tests on bytes, and of both functions Name. -/
namespace Go.Proofs.YtomebalolmabnaaGreatDoor
open Go.RowKit

theorem ret_bool {a b : Bool} (h : a = b) : Ending.returned (.bool a) = .returned (.bool b) := by rw [h]

set_option maxHeartbeats 400000 in
theorem refDigit_any (c : Nat) (w : World) :
  Calls Tryz.prog 85 #[.int .u8 c] w fun e w' => e = .returned (.bool (dig c)) ∧ w = w' := by
 go_enter Tryz.func85, Tryz.ntmps85
 go_wp2
 all_goals
  go_ret
  exact ⟨ret_bool (by rw [Bool.eq_iff_iff]; simp [dig]; omega), rfl⟩

set_option maxHeartbeats 400000 in
theorem refLetter_any (c : Nat) (w : World) :
  Calls Tryz.prog 86 #[.int .u8 c] w fun e w' => e = .returned (.bool (ltr c)) ∧ w = w' := by
 go_enter Tryz.func86, Tryz.ntmps86
 go_wp2
 all_goals
  go_ret
  exact ⟨ret_bool (by rw [Bool.eq_iff_iff]; simp [ltr, let1]; omega), rfl⟩

set_option maxHeartbeats 400000 in
theorem refName_any (s : ByteArray) (w : World) :
    Calls Tryz.prog 60 #[.string s] w fun e w' => e = .returned (.bool (nameB s.data.toList)) ∧ w = w' := by
  by_cases h0 : s.size = 0
  · rw [nameB_no _ (Or.inl (by rw [empty_of s h0]))]
    have hs := empty_of s h0
    subst hs
    go_enter Tryz.func60, Tryz.ntmps60
    go_wp2
    go_ret
    exact ⟨rfl, rfl⟩
  have hpos : 0 < s.size := by omega
  by_cases h16 : s.size ≤ 16
  · by_cases hd : dig (s[0].toNat) = true
    · have HN : Hid (nameB s.data.toList = false) := nameB_no _ (Or.inr (Or.inr (by rw [head_of s hpos]; exact hd)))
      go_enter Tryz.func60, Tryz.ntmps60
      go_wp2_with (go_at_call 85; refine (refDigit_any _ _).mono ?_; rintro e w' ⟨rfl, rfl⟩)
      go_ret
      exact ⟨ret_bool HN.out.symm, rfl⟩
    have hd : dig (s[0].toNat) = false := by simpa using hd
    have HN : Hid (nameB s.data.toList = s.data.toList.all fun c => nam c.toNat) := nameB_all _ (ne_of s hpos) (by simpa using h16) (by rw [head_of s hpos]; exact hd)
    go_enter Tryz.func60, Tryz.ntmps60
    go_wp2_with (go_at_call 85; refine (refDigit_any _ _).mono ?_; rintro e w' ⟨rfl, rfl⟩)
    go_loop [3] (fun i => ∃ k : Nat, k ≤ s.size ∧ i = .int .i64 k ∧ Hid ((s.data.toList.take k).all (fun c => nam c.toNat) = true)) (fun i => s.size - (intOf i).toNat)
    case atStart => exact ⟨0, Nat.zero_le _, rfl, by rw [List.take_zero]; rfl⟩
    case round =>
      obtain ⟨k, hk, rfl, HA⟩ := hrel
      by_cases hlt : k < s.size
      · go_wp2_with (first | (go_at_call 85; refine (refDigit_any _ _).mono ?_; rintro e w' ⟨rfl, rfl⟩) | (go_at_call 86; refine (refLetter_any _ _).mono ?_; rintro e w' ⟨rfl, rfl⟩))
        all_goals first
          | (have hb := nam6 (c := s[k].toNat) (by assumption) (by assumption)
             go_ret
             exact ⟨ret_bool (by rw [HN.out, all_stop s _ k hlt hb]), rfl⟩)
          | (go_round
             case rel => exact ⟨k + 1, by omega, by go_num, all_step s _ k hlt HA.out (by first | exact nam5 (by assumption) | exact nam7 (by assumption))⟩
             case measure => simp [intOf]; omega)
      · have hk' : k = s.size := by omega
        subst hk'
        go_wp2
        go_ret
        exact ⟨ret_bool (by rw [HN.out, all_end s _ HA.out]), rfl⟩
  · have HN : Hid (nameB s.data.toList = false) := nameB_no _ (Or.inr (Or.inl (by simp; omega)))
    go_enter Tryz.func60, Tryz.ntmps60
    go_wp2
    go_ret
    exact ⟨ret_bool HN.out.symm, rfl⟩

end Go.Proofs.YtomebalolmabnaaGreatDoor




/-! The walks of travel: isTick, isTooLong, isPoint, isBefore. -/
namespace Go.Proofs.YtomebalolmabnaaGreatDoor.T
open Go.RowKit
set_option maxRecDepth 8000

theorem isTick_n (t : Int) (w : World) : Calls Tryz.prog 104 #[.int .i64 t] w fun e w' => e = .returned (.bool (tickB t)) ∧ w = w' := by
 by_cases h1 : 0 ≤ t
 ·have HR : Hid (decide (t ≤ 4096) = tickB t) := by show _ = _; unfold tickB; rw [decide_eq_true h1, Bool.true_and]
  generalize tickB t = r at *
  go_enter Tryz.func104, Tryz.ntmps104
  go_wp2_with fail
  go_ret
  exact ⟨ret_bool HR.out, rfl⟩
 ·have HR : Hid (false = tickB t) := by show _ = _; unfold tickB; rw [decide_eq_false h1, Bool.false_and]
  have h2 : t < 0 := by omega
  generalize tickB t = r at *
  go_enter Tryz.func104, Tryz.ntmps104
  go_wp2_with fail
  go_ret
  exact ⟨ret_bool HR.out, rfl⟩
theorem isTooLong_n (x y : Int) (h0 : 0 ≤ x) (h1 : x ≤ 4096) (w : World) : Calls Tryz.prog 105 #[.agg #[.int .i64 x, .int .i64 y]] w fun e w' => e = .returned (.bool (longB (x, y))) ∧ Below w.heap.size w w' := by
 have HR : Hid (decide (x + 4096 < y) = longB (x, y)) := rfl
 generalize longB (x, y) = r at *
 go_enter Tryz.func105, Tryz.ntmps105
 go_wp2_with fail
 go_ret
 exact ⟨ret_bool HR.out, by go_grown⟩
theorem isPoint_n (x y : Int) (w : World) : Calls Tryz.prog 100 #[.agg #[.int .i64 x, .int .i64 y]] w fun e w' => e = .returned (.bool (pointB (x, y))) ∧ Below w.heap.size w w' := by
 have K := Lib.hid (fun w => isTick_n x w)
 cases ht : tickB x
 ·have HR : Hid (false = pointB (x, y)) := by show _ = _; unfold pointB; rw [show tickB (x, y).1 = false from ht]; rfl
  rw [ht] at K
  generalize pointB (x, y) = r at *
  clear ht
  go_enter Tryz.func100, Tryz.ntmps100
  go_wp2_with fail
  refine (K.out _).mono ?_
  rintro e w1 ⟨rfl, rfl⟩
  go_wp2_with fail
  go_ret
  exact ⟨ret_bool HR.out, by go_grown⟩
 ·have hb : 0 ≤ x ∧ x ≤ 4096 := by unfold tickB at ht; simpa using ht
  obtain ⟨hb0, hb1⟩ := hb
  rw [ht] at K
  by_cases h : x ≤ y
  ·have HR : Hid ((!longB (x, y)) = pointB (x, y)) := by show _ = _; unfold pointB; rw [show tickB (x, y).1 = true from ht, decide_eq_true h]; rfl
   have L := Lib.hid (fun w => isTooLong_n x y hb0 hb1 w)
   generalize pointB (x, y) = r at *
   generalize longB (x, y) = q at *
   clear ht
   go_enter Tryz.func100, Tryz.ntmps100
   go_wp2_with fail
   refine (K.out _).mono ?_
   rintro e w1 ⟨rfl, rfl⟩
   go_wp2_with fail
   refine (L.out _).mono ?_
   rintro e w1 ⟨rfl, b1⟩
   have B1 := Lib.hid (over (w := w) (by go_grown) b1)
   clear b1
   go_wp2_with fail
   go_ret
   exact ⟨ret_bool HR.out, B1.out⟩
  ·have HR : Hid (false = pointB (x, y)) := by show _ = _; unfold pointB; rw [decide_eq_false h, Bool.false_and, Bool.and_false]
   have h2 : y < x := by omega
   generalize pointB (x, y) = r at *
   clear ht
   go_enter Tryz.func100, Tryz.ntmps100
   go_wp2_with fail
   refine (K.out _).mono ?_
   rintro e w1 ⟨rfl, rfl⟩
   go_wp2_with fail
   go_ret
   exact ⟨ret_bool HR.out, by go_grown⟩
theorem isBefore_n (x y x' y' : Int) (w : World) : Calls Tryz.prog 102 #[.agg #[.int .i64 x, .int .i64 y], .agg #[.int .i64 x', .int .i64 y']] w fun e w' => e = .returned (.bool (beforeB (x, y) (x', y'))) ∧ Below w.heap.size w w' := by
 by_cases h : x < x'
 ·have HR : Hid (decide (y ≤ y') = beforeB (x, y) (x', y')) := by show _ = _; unfold beforeB; rw [show decide ((x, y).1 < (x', y').1) = true from decide_eq_true h, Bool.true_and]
  generalize beforeB (x, y) (x', y') = r at *
  go_enter Tryz.func102, Tryz.ntmps102
  go_wp2_with fail
  go_ret
  exact ⟨ret_bool HR.out, by go_grown⟩
 ·have HR : Hid (false = beforeB (x, y) (x', y')) := by show _ = _; unfold beforeB; rw [show decide ((x, y).1 < (x', y').1) = false from decide_eq_false h, Bool.false_and]
  have h2 : x' ≤ x := by omega
  generalize beforeB (x, y) (x', y') = r at *
  go_enter Tryz.func102, Tryz.ntmps102
  go_wp2_with fail
  go_ret
  exact ⟨ret_bool HR.out, by go_grown⟩

end Go.Proofs.YtomebalolmabnaaGreatDoor.T




/-! The walks of travel: quotientUp, between, arrival. -/
namespace Go.Proofs.YtomebalolmabnaaGreatDoor.T
open Go.RowKit
set_option maxRecDepth 8000

theorem quotientUp_n (x y z : Int) (hx : 0 ≤ x) (hx2 : x ≤ 1073741824) (hy : 0 < y) (hy2 : y ≤ 1073741824) (hz : (x + y - 1) / y = z) (_hz0 : 0 ≤ z) (_hz1 : z ≤ 1073741824) (w : World) : Calls Tryz.prog 103 #[.int .i64 x, .int .i64 y] w fun e w' => e = .returned (.int .i64 z) ∧ w = w' := by
 have hye : (y == 0) = false := ne_eqI (by omega)
 obtain ⟨a, ha⟩ : ∃ a, x + y - 1 = a := ⟨_, rfl⟩
 have ha2 : x + y = a + 1 := by omega
 have ha0 : 0 ≤ a := by omega
 have ha1 : a ≤ 2147483648 := by omega
 have hz' : a / y = z := by rw [← ha]; exact hz
 have HZ := Lib.hid hz'
 have ha3 : a + 1 - 1 = a := by omega
 clear hz ha hx hx2
 go_enter Tryz.func103, Tryz.ntmps103
 go_wp2_with fail
 go_ret
 exact ⟨ret_int HZ.out, rfl⟩
theorem between_n (x y x' y' t r : Int) (h0 : 0 ≤ x) (h1 : x ≤ t) (h2 : t < x') (h3 : x' ≤ 4096) (h4 : 0 ≤ y) (h5 : y ≤ y') (h6 : y' ≤ 8192) (hr : quo (x, y) (x', y') t = r) (w : World) :
  Calls Tryz.prog 99 #[.agg #[.int .i64 x, .int .i64 y], .agg #[.int .i64 x', .int .i64 y'], .int .i64 t] w fun e w' => e = .returned (.int .i64 r) ∧ Below w.heap.size w w' := by
 have g1 := quo_ge (p := (x, y)) (q := (x', y')) (t := t) h1 (by show x < x'; omega) h5
 have g2 := quo_le (p := (x, y)) (q := (x', y')) (t := t) h1 (by show t ≤ x'; omega) (by show x < x'; omega) h5
 rw [hr] at g1 g2
 simp only at g1 g2
 obtain ⟨s, hs⟩ : ∃ s, t - x = s := ⟨_, rfl⟩
 obtain ⟨e, he⟩ : ∃ e, y' - y = e := ⟨_, rfl⟩
 obtain ⟨D, hD⟩ : ∃ D, x' - x = D := ⟨_, rfl⟩
 obtain ⟨m, hm⟩ : ∃ m, s * e = m := ⟨_, rfl⟩
 have hm0 : 0 ≤ m := by rw [← hm]; exact Int.mul_nonneg (by omega) (by omega)
 have hm1 : m ≤ 33554432 := by
  rw [← hm]
  have := Int.mul_le_mul (show s ≤ 4096 by omega) (show e ≤ 8192 by omega) (by omega) (by omega)
  omega
 obtain ⟨z, hz⟩ : ∃ z, (m + D - 1) / D = z := ⟨_, rfl⟩
 have hyz : y + z = r := by
  rw [← hr]
  unfold quo
  show y + z = y + ((t - x) * (y' - y) + (x' - x) - 1) / (x' - x)
  rw [hs, he, hD, hm, hz]
 have K := Lib.hid (fun w => quotientUp_n m D z hm0 (by omega) (by omega) (by omega) hz (by omega) (by omega) w)
 clear hz hr
 go_enter Tryz.func99, Tryz.ntmps99
 go_wp2_with fail
 go_quiet ((go_at_call 103; exact quiet_eq (K.out _)))
 go_wp2_with fail
 go_ret
 exact ⟨rfl, below_drewN (by go_grown) _⟩
theorem arrival_n (u : Value) (l : List (Int × Int)) (t : Int) (h : Ok l) (ht0 : 0 ≤ t) (ht1 : t ≤ 1073741824) (w : World) (hu : Ps w u l) :
  Calls Tryz.prog 97 #[u, .int .i64 t] w fun e w' => e = .returned (.int .i64 (arr l t)) ∧ Below w.heap.size w w' := by
 obtain ⟨oa, c, rfl, ha⟩ := hu
 have HR : Hid (arr l t = arrX l t 0) := rfl
 have hr := arr_ge h ht0
 generalize arr l t = r at *
 have HA := Lib.hid ha
 have HG := Lib.hid (fun i (hi : i < l.length) => h.at hi)
 have HL := Lib.hid (fun i (hi : i + 1 < l.length) => h.lt hi)
 have HS := Lib.hid (fun k (hk : k < l.length) ht => arrX_step (t := t) hk ht)
 have HX0 := Lib.hid (fun hk => arr_first (l := l) (t := t) hk)
 have HXE := Lib.hid (fun k hk => arrX_end (l := l) (t := t) (k := k) hk)
 have HXM := Lib.hid (fun k hk => arrX_mid (l := l) (t := t) (k := k) hk)
 have hn1 := h.least
 have hn2 := h.most
 have HN := Lib.hid (rfl : l.length = l.length)
 generalize hn : l.length = n at *
 clear ha hn h HN
 go_enter Tryz.func97, Tryz.ntmps97
 go_wp2_with fail
 go_loop [5] (fun i => ∃ k : Nat, k ≤ n ∧ i = .int .i64 k ∧ Hid (r = arrX l t k) ∧ Hid (0 < k → (l.getD (k - 1) (0, 0)).1 ≤ t)) (fun i => n - (intOf i).toNat)
 case atStart => exact ⟨0, Nat.zero_le _, rfl, HR, fun h => absurd h (Nat.lt_irrefl _)⟩
 case round =>
  clear HR
  obtain ⟨k, hk, rfl, HR, HB⟩ := hrel
  by_cases hlt : k < n
  ·obtain ⟨b, o, rfl, hab, hc0, hc1⟩ := HA.out k hlt
   have HG2 := HG.out k hlt
   have HS2 := Lib.hid (HS.out k hlt)
   have HXM2 := Lib.hid HXM.out
   unfold pT at hc0
   unfold pA at hc1
   by_cases ht : (l.getD k (0, 0)).1 ≤ t
   ·have HR2 : Hid (r = arrX l t (k + 1)) := by show _ = _; rw [HR.out, HS2.out ht]
    have HB2 : Hid (0 < k + 1 → (l.getD (k + 1 - 1) (0, 0)).1 ≤ t) := fun _ => ht
    generalize l.getD k (0, 0) = q at *
    obtain ⟨x, y⟩ := q
    clear HXM2 HS2 HG2
    go_wp2_with fail
    go_round
    case rel => exact ⟨k + 1, by omega, by go_num, HR2, HB2⟩
    case measure => simp [intOf]; omega
   ·have ht2 : t < (l.getD k (0, 0)).1 := by omega
    cases k with
    | zero =>
     have HF := Lib.hid (HX0.out hlt ht2)
     rw [← arrX_zero l t, ← HR.out] at HF
     simp only [Nat.zero_mul, Nat.add_zero] at hc0 hc1
     generalize l.getD 0 (0, 0) = q at *
     obtain ⟨x, y⟩ := q
     simp only at hc0 hc1 ht2 HG2
     have hF : t + (y - x) = r := HF.out.symm
     have hnI : (0 : Int) < (n : Int) := by omega
     clear HXM2 HS2
     go_wp2_with fail
     go_quiet (fail)
     go_wp2_with fail
     go_ret
     exact ⟨rfl, below_drewN (Below.refl _ _) _⟩
    | succ j =>
     obtain ⟨b', o', hbo, -, hd0, hd1⟩ := HA.out j (by omega)
     obtain ⟨rfl, rfl⟩ : b = b' ∧ o = o' := by simpa using hbo
     unfold pT at hd0
     unfold pA at hd1
     have HQ : Hid (quo (l.getD j (0, 0)) (l.getD (j + 1) (0, 0)) t = r) := by show _ = _; rw [HR.out, HXM2.out j hlt ht2]
     have hb1 := HB.out (by omega)
     simp only [Nat.add_sub_cancel] at hb1
     have HG3 := HG.out j (by omega)
     have HL3 := HL.out j hlt
     generalize l.getD (j + 1) (0, 0) = q at *
     generalize l.getD j (0, 0) = p at *
     obtain ⟨x, y⟩ := p
     obtain ⟨x', y'⟩ := q
     simp only at hc0 hc1 hd0 hd1 ht2 HG2 HG3 HL3 hb1
     have K := Lib.hid (fun w => between_n x y x' y' t r (by omega) hb1 ht2 (by omega) (by omega) (by omega) (by omega) HQ.out w)
     have e2 : (((j + 1 : Nat) : Int) == 0) = false := ne_eqI (by omega)
     have e3 : (((j + 1 : Nat) : Int) == (n : Int)) = false := ne_eqN (by omega)
     have hj0 : (0 : Int) ≤ (j : Int) := by omega
     have hj1 : (j : Int) < (n : Int) := by omega
     have hj2 : (j : Int) + 1 < (n : Int) := by omega
     have hj3 : (0 : Int) ≤ (j : Int) + 1 := by omega
     have hwj : IntKind.i64.wrap (j : Int) = (j : Int) := IntWalk.i64_in _ (by omega)
     clear HXM2 HS2 HG2 HG3 HL3 HQ HR HB hb1
     go_wp2_with fail
     go_region_with ((go_at_call 99; with_reducible refine (K.out _).mono ?_; rintro e wm ⟨rfl, bm⟩))
     all_goals
      go_wp2_with fail
      go_ret
      exact ⟨rfl, over (below_drew (Below.refl _ w)) bm⟩
  ·have hk' : k = n := by omega
   subst hk'
   obtain ⟨j, rfl⟩ : ∃ j, k = j + 1 := ⟨k - 1, by omega⟩
   obtain ⟨b, o, rfl, hab, hc0, hc1⟩ := HA.out j (by omega)
   have HG2 := HG.out j (by omega)
   have HF := Lib.hid (HXE.out j rfl)
   rw [← HR.out] at HF
   unfold pT at hc0
   unfold pA at hc1
   generalize l.getD j (0, 0) = q at *
   obtain ⟨x, y⟩ := q
   simp only at hc0 hc1 HG2
   have hF : t + (y - x) = r := HF.out.symm
   have e2 : (((j + 1 : Nat) : Int) == 0) = false := ne_eqI (by omega)
   have hj0 : (0 : Int) ≤ (j : Int) := by omega
   have hj1 : (j : Int) < ((j + 1 : Nat) : Int) := by omega
   clear HR HB
   go_wp2_with fail
   go_quiet (fail)
   go_wp2_with fail
   go_ret
   exact ⟨rfl, below_drewN (Below.refl _ _) _⟩

end Go.Proofs.YtomebalolmabnaaGreatDoor.T




/-! The walks of travel: Check, isTravel. -/
namespace Go.Proofs.YtomebalolmabnaaGreatDoor.T
open Go.RowKit
set_option maxRecDepth 8000

theorem fl0_yes {n : Nat} (h1 : 1 ≤ n) (h2 : n ≤ 16) : fl0 n = [] := (fl0_nil n).2 ⟨h1, h2⟩
theorem fl0_no {n : Nat} (h : n = 0 ∨ 16 < n) : fl0 n = [(4, ⟨#[]⟩)] := by unfold fl0; rw [if_neg (by omega)]
theorem fl1_yes {p : Int × Int} {i : Nat} (h : pointB p = true) : fl1 p i = [] := (fl1_nil p i).2 h
theorem fl1_no {p : Int × Int} {i : Nat} (h : pointB p = false) : fl1 p i = [(2, dec i)] := by unfold fl1; rw [h]; rfl
theorem fl3_zero (l : List (Int × Int)) : fl3 l 0 = [] := rfl
theorem fl3_yes {l : List (Int × Int)} {j : Nat} (h : beforeB (l.getD j (0, 0)) (l.getD (j + 1) (0, 0)) = true) : fl3 l (j + 1) = [] := (fl2_nil _ _ _).2 h
theorem fl3_no {l : List (Int × Int)} {j : Nat} (h : beforeB (l.getD j (0, 0)) (l.getD (j + 1) (0, 0)) = false) : fl3 l (j + 1) = [(13, dec (j + 1))] := by
 show fl2 _ _ _ = _
 show fl2 (l.getD j (0, 0)) (l.getD (j + 1) (0, 0)) (j + 1) = _
 unfold fl2; rw [h]; rfl

theorem cell_alloc_t {W : World} {a : Addr} {v : Value} (o : Obj) (h : W.cell? a = some v) : (W.alloc o).cell? a = some v := by
 have hb := World.block_lt_of_cell? _ _ h
 exact (below_alloc W o).cell hb ▸ h
def sizeB (n : Nat) : Bool := decide (1 ≤ n) && decide (n ≤ 16)
theorem sizeB_no {n : Nat} (h : sizeB n = false) : fl0 n = [] ++ [(4, ⟨#[]⟩)] := by
 unfold sizeB at h
 refine fl0_no ?_
 by_cases h1 : 1 ≤ n
 ·rw [decide_eq_true h1, Bool.true_and, decide_eq_false_iff_not] at h; omega
 ·omega
theorem sizeB_yes {n : Nat} (h : sizeB n = true) : fl0 n = [] := by
 unfold sizeB at h
 rw [Bool.and_eq_true, decide_eq_true_iff, decide_eq_true_iff] at h
 exact fl0_yes h.1 h.2

set_option maxHeartbeats 1600000 in
theorem check_n (u : Value) (l : List (Int × Int)) (hl : l.length ≤ 1000000) (w : World) (hu : Ps w u l) (ht : Tab w) :
  Calls Tryz.prog 98 #[u] w (ChkP (faults l) w) := by
 obtain ⟨oa, c, rfl, ha⟩ := hu
 have HT := Lib.hid ht
 clear ht
 have HA := Lib.hid ha
 have HS := Lib.hid (flt_succ l)
 have HL := Lib.hid (flt_len l)
 have HE : Hid (faults l = flt l l.length) := rfl
 have H0 : Hid (flt l 0 = fl0 l.length) := rfl
 obtain ⟨i0, hi, hz0, hz1, hz2⟩ := infoF
 generalize faults l = r at *
 generalize hn : l.length = n at *
 clear ha hn
 go_enter Tryz.func98, Tryz.ntmps98
 go_upto_region 2 with fail
 go_cut [13] from 6 (fun v wx => v = .bool (!sizeB n) ∧ w = wx)
 case first =>
  by_cases h : n = 0
  ·subst h
   go_wp2_with fail
   go_meet
   case rel => exact ⟨rfl, rfl⟩
  ·have h0 : ((n : Int) == 0) = false := ne_eqN h
   by_cases h2 : n ≤ 16
   ·have HT : Hid (false = (!sizeB n)) := by show _ = _; unfold sizeB; rw [decide_eq_true (show 1 ≤ n by omega), decide_eq_true h2]; rfl
    have h3 : ¬ ((16 : Int) < (n : Int)) := by omega
    go_wp2_with fail
    go_meet
    case rel => exact ⟨by rw [HT.out], rfl⟩
   ·have HT : Hid (true = (!sizeB n)) := by show _ = _; unfold sizeB; rw [decide_eq_false h2, Bool.and_false]; rfl
    have h3 : (16 : Int) < (n : Int) := by omega
    go_wp2_with fail
    go_meet
    case rel => exact ⟨by rw [HT.out], rfl⟩
 obtain ⟨rfl, rfl⟩ := hcut
 go_upto_if 13 with fail
 go_cut [3] from 6 (fun v wx => Hid (Gl w.heap.size wx v (fl0 n)) ∧ Hid (Below w.heap.size w wx))
 case first =>
  have HG0 : Hid (Gl w.heap.size w (.slice none 0 0) []) := Gl.nil _ _
  cases hs : sizeB n
  ·have HF : Hid (fl0 n = [] ++ [(4, ⟨#[]⟩)]) := sizeB_no hs
   clear hs
   go_wp2_with (at_builtin; refine wpList_append_own _ rfl _ _ 51 rfl w.heap.size 101 i0 (.agg #[.int .i64 0, .string ⟨#[]⟩]) 2 24 Tryz.underlying51 hi hz0 hz1 hz2 rfl (by decide) _ _ _ rfl (World.ownsRow.alloc HG0.out.own _) ⟨w.heap.size, 0, none⟩ 1 1 [.int .i64 4, .string ⟨#[]⟩] rfl rfl ?q1 ?q2 ?q3 ?q4 ?q5 ?_)
   case q1 => exact two_new _ _ _ _
   case q2 => exact fcells _ _
   case q3 => decide
   case q4 => decide
   case q5 => simp
   intro v3 w3 hown hgrow _
   go_wp2_with fail
   go_meet
   case rel => exact ⟨HF.out ▸ Gl.more hown, ((Below.refl _ w).alloc (Nat.le_refl _) _).grown hgrow (by simp) (fun k hk => by cases hk)⟩
  ·have HF : Hid (fl0 n = []) := sizeB_yes hs
   clear hs
   go_wp2_with fail
   go_meet
   case rel => exact ⟨HF.out ▸ HG0.out, Below.refl _ _⟩
 obtain ⟨HG, HB⟩ := hcut
 rw [← H0.out] at HG
 go_wp2_with fail
 go_loopg [3, 20] n (fun g v i wr => ∃ k : Nat, k ≤ n ∧ i = .int .i64 k ∧ n - k ≤ g ∧ Hid (Gl w.heap.size wr v (flt l k)) ∧ Hid (Below w.heap.size w wr))
 case atStart => exact ⟨0, Nat.zero_le _, rfl, Nat.le_refl _, HG, HB⟩
 case round =>
  clear HG HB
  obtain ⟨k, hk, rfl, hg, HG, HW⟩ := hrel
  by_cases hlt : k < n
  ·obtain ⟨b, o, rfl, hab, hc0, hc1⟩ := HA.out k hlt
   have d0 := (HW.out.cell (p := ⟨b, o + k * 2, none⟩) hab).trans hc0
   have d1 := (HW.out.cell (p := ⟨b, o + k * 2 + 1, none⟩) hab).trans hc1
   unfold pT at d0
   unfold pA at d1
   have HL2 := HL.out k
   have HS2 : Hid (flt l (k + 1) = flt l k ++ fl1 (l.getD k (0, 0)) k ++ fl3 l k) := HS.out k
   have HF3 : Hid (∀ j, k = j + 1 → beforeB (l.getD j (0, 0)) (l.getD k (0, 0)) = true → fl3 l k = []) := fun j e h => by subst e; exact fl3_yes h
   have HF4 : Hid (∀ j, k = j + 1 → beforeB (l.getD j (0, 0)) (l.getD k (0, 0)) = false → fl3 l k = [(13, dec k)]) := fun j e h => by subst e; exact fl3_no h
   generalize l.getD k (0, 0) = q at *
   obtain ⟨x, y⟩ := q
   simp only at d0 d1
   have KP := Lib.hid (fun w => isPoint_n x y w)
   have KI := Lib.hid (fun w ht => itoa_n k (by omega) w ht)
   have hsz := HW.out.size
   clear hc0 hc1
   go_upto_if 27 with (go_at_call 100; refine (KP.out _).mono ?_; rintro e w1 ⟨rfl, b1⟩)
   have HB1 : Hid (Below w.heap.size w w1) := (HW.out.alloc hsz (.cells #[.int .i64 x, .int .i64 y] 71)).trans (b1.mono (by simp; omega))
   have hne : some wr.heap.size ≠ u3.ownBlock := fun h => absurd (World.ownsRow.lt HG.out.own _ h.symm).2 (Nat.lt_irrefl _)
   have HG1 : Hid (Gl w.heap.size w1 u3 (flt l k)) := (HG.out.frame (below_alloc wr _)).frame b1
   have c0 : w1.cell? ⟨wr.heap.size, 0, none⟩ = some (.int .i64 x) := (b1.cell (p := ⟨wr.heap.size, 0, none⟩) (by simp)).trans (by simp)
   have c1 : w1.cell? ⟨wr.heap.size, 1, none⟩ = some (.int .i64 y) := (b1.cell (p := ⟨wr.heap.size, 1, none⟩) (by simp)).trans (by simp)
   have hsz1 := HB1.out.size
   have hpl : wr.heap.size < w1.heap.size := Nat.lt_of_lt_of_le (by simp) b1.size
   clear b1 d0 d1
   go_cut [3, 20] (fun v i wx => i = .int .i64 k ∧ Hid (Gl w.heap.size wx v (flt l k ++ fl1 (x, y) k)) ∧ Hid (Below w.heap.size w wx) ∧ wx.cell? ⟨wr.heap.size, 0, none⟩ = some (.int .i64 x) ∧ wx.cell? ⟨wr.heap.size, 1, none⟩ = some (.int .i64 y))
   case first =>
    cases hp : pointB (x, y)
    ·have HF : Hid (fl1 (x, y) k = [(2, dec k)]) := fl1_no hp
     clear hp
     go_wp2_with fail
     refine (KI.out _ (HT.out.over HB1.out)).mono ?_
     rintro e w2 ⟨rfl, b2⟩
     have HB2 := Lib.hid (over HB1.out b2)
     have HG2 := Lib.hid (HG1.out.frame b2)
     have c0 := (b2.cell (World.block_lt_of_cell? _ _ c0)).trans c0
     have c1 := (b2.cell (World.block_lt_of_cell? _ _ c1)).trans c1
     have hsz2 := HB2.out.size
     clear b2
     go_wp2_with (at_builtin; refine wpList_append_own _ rfl _ _ 51 rfl w.heap.size 101 i0 (.agg #[.int .i64 0, .string ⟨#[]⟩]) 2 24 Tryz.underlying51 hi hz0 hz1 hz2 rfl (by decide) _ _ _ rfl (World.ownsRow.alloc HG2.out.own _) ⟨w2.heap.size, 0, none⟩ 1 1 [.int .i64 2, .string (dec k)] rfl rfl ?q1 ?q2 ?q3 ?q4 ?q5 ?_)
     case q1 => exact two_new _ _ _ _
     case q2 => exact fcells _ _
     case q3 => unfold maxLen; omega
     case q4 => omega
     case q5 => simp; omega
     intro v3 w3 hown hgrow _
     have HG3 : Hid (Gl w.heap.size w3 v3 (flt l k ++ fl1 (x, y) k)) := by show Gl _ _ _ _; rw [HF.out]; exact Gl.more hown
     have HB3 : Hid (Below w.heap.size w w3) := (HB2.out.alloc (by omega) _).grown hgrow (by simp; omega) (HG2.out.blk)
     have c0 := hgrow.cell (cell_alloc_t _ c0) hne
     have c1 := hgrow.cell (cell_alloc_t _ c1) hne
     go_wp2_with fail
     go_meet
     case rel => exact ⟨rfl, HG3, HB3, c0, c1⟩
    ·have HF : Hid (fl1 (x, y) k = []) := fl1_yes hp
     have HG3 : Hid (Gl w.heap.size w1 u3 (flt l k ++ fl1 (x, y) k)) := by show Gl _ _ _ _; rw [HF.out, List.append_nil]; exact HG1.out
     clear hp
     go_wp2_with fail
     go_meet
     case rel => exact ⟨rfl, HG3, HB1, c0, c1⟩
   clear c0 c1 HB1 HG1 hsz1 hpl HG HW hsz hne KP
   obtain ⟨rfl, HG, HB, c0, c1⟩ := hcut
   have hsz := HB.out.size
   have hl1 := fl1_len (x, y) k
   have hfl : (flt l k ++ fl1 (x, y) k).length ≤ 2 * k + 2 := by rw [List.length_append]; omega
   generalize flt l k ++ fl1 (x, y) k = F at hfl HG HS2
   cases k with
   | zero =>
    have HG2 : Hid (Gl w.heap.size wc u3 (flt l (0 + 1))) := by show Gl _ _ _ _; rw [HS2.out, fl3_zero, List.append_nil]; exact HG.out
    go_wp2_with fail
    go_quiet (fail)
    go_wp2_with fail
    go_roundg (n - 1)
    case measure => omega
    case rel => exact ⟨1, by omega, by go_num, by omega, HG2.out.frame (below_drewN (Below.refl _ _) _), below_drewN HB.out _⟩
   | succ j =>
    obtain ⟨b', o', hbo, -, hc0, hc1⟩ := HA.out j (by omega)
    obtain ⟨rfl, rfl⟩ : b = b' ∧ o = o' := by simpa using hbo
    have d0 := (HB.out.cell (p := ⟨b, o + j * 2, none⟩) hab).trans hc0
    have d1 := (HB.out.cell (p := ⟨b, o + j * 2 + 1, none⟩) hab).trans hc1
    unfold pT at d0
    unfold pA at d1
    clear hc0 hc1 hbo
    have HF5 := Lib.hid (HF3.out j rfl)
    have HF6 := Lib.hid (HF4.out j rfl)
    generalize l.getD j (0, 0) = q at *
    obtain ⟨x0, y0⟩ := q
    simp only at d0 d1
    have KB := Lib.hid (fun w => isBefore_n x0 y0 x y w)
    have hj0 : (0 : Int) ≤ (j : Int) := by omega
    have hj1 : (j : Int) < (n : Int) := by omega
    have hj2 : (0 : Int) < (j : Int) + 1 := by omega
    have hwj : IntKind.i64.wrap (j : Int) = (j : Int) := IntWalk.i64_in _ (by omega)
    go_wp2_with fail
    go_region_with (go_at_call 102; with_reducible refine (KB.out _).mono ?_; rintro e wm ⟨rfl, bm⟩)
    all_goals
     have HBm := Lib.hid (over (below_drew HB.out) bm)
     have HGm := Lib.hid (HG.out.drew.frame bm)
     have hszm := HBm.out.size
     clear bm d0 d1 c0 c1
     cases hb : beforeB (x0, y0) (x, y)
     ·have HF : Hid (fl3 l (j + 1) = [(13, dec (j + 1))]) := HF6.out hb
      clear hb
      go_wp2_with fail
      refine (KI.out _ (HT.out.over HBm.out)).mono ?_
      rintro e w2 ⟨rfl, b2⟩
      have HB2 := Lib.hid (over HBm.out b2)
      have HG2 := Lib.hid (HGm.out.frame b2)
      have hsz2 := HB2.out.size
      clear b2
      go_wp2_with (at_builtin; refine wpList_append_own _ rfl _ _ 51 rfl w.heap.size 101 i0 (.agg #[.int .i64 0, .string ⟨#[]⟩]) 2 24 Tryz.underlying51 hi hz0 hz1 hz2 rfl (by decide) _ _ _ rfl (World.ownsRow.alloc HG2.out.own _) ⟨w2.heap.size, 0, none⟩ 1 1 [.int .i64 13, .string (dec (j + 1))] rfl rfl ?q1 ?q2 ?q3 ?q4 ?q5 ?_)
      case q1 => exact two_new _ _ _ _
      case q2 => exact fcells _ _
      case q3 => unfold maxLen; omega
      case q4 => omega
      case q5 => simp; omega
      intro v3 w3 hown hgrow _
      have HG3 : Hid (Gl w.heap.size w3 v3 (flt l (j + 1 + 1))) := by show Gl _ _ _ _; rw [HS2.out, HF.out]; exact Gl.more hown
      have HB3 : Hid (Below w.heap.size w w3) := (HB2.out.alloc (by omega) _).grown hgrow (by simp; omega) (HG2.out.blk)
      clear hown hgrow
      go_wp2_with fail
      go_roundg (n - (j + 2))
      case measure => omega
      case rel => exact ⟨j + 1 + 1, by omega, by go_num, by omega, HG3, HB3⟩
     ·have HF : Hid (fl3 l (j + 1) = []) := HF5.out hb
      have HG3 : Hid (Gl w.heap.size wm u3 (flt l (j + 1 + 1))) := by show Gl _ _ _ _; rw [HS2.out, HF.out, List.append_nil]; exact HGm.out
      clear hb
      go_wp2_with fail
      go_roundg (n - (j + 2))
      case measure => omega
      case rel => exact ⟨j + 1 + 1, by omega, by go_num, by omega, HG3, HBm⟩
  ·have hk' : k = n := by omega
   subst hk'
   have HR : Hid (flt l k = r) := HE.out.symm
   go_wp2_with fail
   go_ret
   exact chkP (HR.out ▸ HG.out) HW.out (Nat.le_refl _)

theorem isTravel_n (u : Value) (l : List (Int × Int)) (w : World) (hu : Ps w u l) (ht : Tab w) (hl9 : l.length ≤ 1000000000000000) :
  Calls Tryz.prog 96 #[u] w fun e w' => e = .returned (.bool (okB l)) ∧ Below w.heap.size w w' := by
 have hok := okB_len l
 by_cases h : l.length ≤ 16
 ·have K := Lib.hid (fun w hu ht => check_n u l (by omega) w hu ht)
  have HT := Lib.hid ht
  clear ht
  have HF : Hid (decide (((faults l).length : Int) = 0) = okB l) := by
   show _ = _
   rw [← hok, decide_eq_true h, Bool.true_and]
   rw [Bool.eq_iff_iff]; simp
  have HU := Lib.hid hu
  obtain ⟨oa, c, rfl, -⟩ := hu
  have h1 : (l.length : Int) ≤ 16 := by omega
  generalize okB l = r at *
  generalize l.length = n at *
  generalize (faults l) = fl at *
  clear hok
  go_enter Tryz.func96, Tryz.ntmps96
  go_wp2_with fail
  refine (K.out _ HU.out HT.out).mono ?_
  rintro e w1 ⟨oa1, c1, rfl, -, b1⟩
  go_wp2_with fail
  go_ret
  exact ⟨ret_bool HF.out, b1⟩
 ·have HF : Hid (false = okB l) := by show _ = _; rw [← hok, decide_eq_false h]; rfl
  obtain ⟨oa, c, rfl, -⟩ := hu
  have h1 : ¬ (l.length : Int) ≤ 16 := by omega
  have h2 : (16 : Int) < (l.length : Int) := by omega
  generalize okB l = r at *
  generalize l.length = n at *
  clear hok
  go_enter Tryz.func96, Tryz.ntmps96
  go_wp2_with fail
  go_ret
  exact ⟨ret_bool HF.out, Below.refl _ _⟩

end Go.Proofs.YtomebalolmabnaaGreatDoor.T




/-! The walks of travel: Arrive, Latest, Same; sort.Search. -/
namespace Go.Proofs.YtomebalolmabnaaGreatDoor.T
open Go.RowKit
set_option maxRecDepth 8000

theorem arrive_day (u : Value) (l : List (Int × Int)) (t : Int) (h : t < 0 ∨ 1073741824 < t) (w : World) :
  Calls Tryz.prog 93 #[u, .int .i64 t] w fun e w' => e = .returned (.int .i64 (arrF l t)) ∧ Below w.heap.size w w' := by
 have HR : Hid (0 = arrF l t) := (arrF_day h).symm
 generalize arrF l t = r at *
 rcases h with h | h
 ·go_enter Tryz.func93, Tryz.ntmps93
  go_wp2_with fail
  go_ret
  exact ⟨ret_int HR.out, Below.refl _ _⟩
 ·have h2 : ¬ t < 0 := by omega
  go_enter Tryz.func93, Tryz.ntmps93
  go_wp2_with fail
  go_ret
  exact ⟨ret_int HR.out, Below.refl _ _⟩
theorem arrive_n (u : Value) (l : List (Int × Int)) (t : Int) (w : World) (hu : Ps w u l) (ht : Tab w) (hl9 : l.length ≤ 1000000000000000) :
  Calls Tryz.prog 93 #[u, .int .i64 t] w fun e w' => e = .returned (.int .i64 (arrF l t)) ∧ Below w.heap.size w w' := by
 by_cases h : t < 0 ∨ 1073741824 < t
 ·exact arrive_day u l t h w
 ·have h0 : 0 ≤ t := by omega
  have h1 : t ≤ 1073741824 := by omega
  have h2 : ¬ t < 0 := by omega
  have h3 : ¬ 1073741824 < t := by omega
  have K := Lib.hid (isTravel_n u l w hu ht hl9)
  have HU := Lib.hid hu
  clear ht
  cases hok : okB l
  ·rw [hok] at K
   have HR : Hid (0 = arrF l t) := (arrF_not hok).symm
   generalize arrF l t = r at *
   clear h hu
   go_enter Tryz.func93, Tryz.ntmps93
   go_wp2_with fail
   refine K.out.mono ?_
   rintro e w1 ⟨rfl, b1⟩
   go_wp2_with fail
   go_ret
   exact ⟨ret_int HR.out, b1⟩
  ·rw [hok] at K
   have HR : Hid (arr l t = arrF l t) := (arrF_yes ((okB_iff l).1 hok) h0 h1).symm
   have KA := Lib.hid (fun w hu => arrival_n u l t ((okB_iff l).1 hok) h0 h1 w hu)
   generalize arrF l t = r at *
   generalize arr l t = q at *
   clear h hu hok
   go_enter Tryz.func93, Tryz.ntmps93
   go_wp2_with fail
   refine K.out.mono ?_
   rintro e w1 ⟨rfl, b1⟩
   have B1 := Lib.hid b1
   have HU1 := Lib.hid (HU.out.below b1)
   clear b1
   go_wp2_with fail
   refine (KA.out _ HU1.out).mono ?_
   rintro e w2 ⟨rfl, b2⟩
   have B2 := Lib.hid (over B1.out b2)
   clear b2
   go_wp2_with fail
   go_ret
   exact ⟨ret_int HR.out, B2.out⟩


end Go.Proofs.YtomebalolmabnaaGreatDoor.T




