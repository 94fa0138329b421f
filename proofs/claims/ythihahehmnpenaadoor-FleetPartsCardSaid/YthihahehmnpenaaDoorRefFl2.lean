/-
  DERIVED. The walks of the specification's capacity and Able.
-/
import Derived.Test.YthihahehmnpenaaDoorRefFl1
namespace Go.Proofs.YthihahehmnpenaaDoor.T
open Go.RowKit
set_option maxRecDepth 8000

theorem all_step {l : List Int} {k : Nat} (h : k < l.length) (p : Int → Bool) : (l.take (k + 1)).all p = ((l.take k).all p && p (l.getD k 0)) := by
  rw [take_more (d := 0) h, List.all_append]
  simp
theorem all_no {l : List Int} {k : Nat} (h : k < l.length) {p : Int → Bool} (hp : p (l.getD k 0) = false) : l.all p = false := by
  rw [List.all_eq_false]
  exact ⟨l.getD k 0, getD_mem h, by rw [hp]; simp⟩
set_option maxHeartbeats 1600000 in
theorem refCapacity_n (u : Value) (l : List Int) (d : Nat) (hl : l.length ≤ 1000000000) (w : World) (hu : L.Li w u l) :
    Calls Tryd.prog 37 #[u, .int .i64 d] w fun e w' => e = .returned (.bool (capB l d)) ∧ w = w' := by
  obtain ⟨oa, c, rfl, ha⟩ := hu
  have HA := Lib.hid ha
  have HC : Hid ((rgB 1 3 l.length && decide (l.length = d) && l.all (rgB 0 1000)) = capB l d) := rfl
  have K0 := Lib.hid (fun w => in_n (l.length : Int) 1 3 w)
  have HS := Lib.hid (fun k (h : k < l.length) => all_step h (rgB 0 1000))
  have HNo := Lib.hid (fun k (h : k < l.length) (hp : rgB 0 1000 (l.getD k 0) = false) => all_no h hp)
  have HZ : Hid ((l.take 0).all (rgB 0 1000) = true) := rfl
  have HE : Hid ((l.take l.length).all (rgB 0 1000) = l.all (rgB 0 1000)) := by show _ = _; rw [List.take_length]
  generalize capB l d = r at *
  generalize hn : l.length = n at *
  generalize rgB 1 3 (n : Int) = b0 at *
  clear ha hn
  cases b0
  · have HR : Hid (false = r) := by show _ = _; rw [← HC.out]; rfl
    go_enter Tryd.func37, Tryd.ntmps37
    go_wp2_with fail
    refine (K0.out _).mono ?_
    rintro e w1 ⟨rfl, rfl⟩
    go_wp2_with fail
    go_ret
    exact ⟨ret_bool HR.out, rfl⟩
  by_cases hd : n = d
  · subst hd
    have hne : ((n : Int) != (n : Int)) = false := by simp
    have HC2 : Hid (l.all (rgB 0 1000) = r) := by show _ = _; rw [← HC.out, decide_eq_true rfl]; rfl
    go_enter Tryd.func37, Tryd.ntmps37
    go_wp2_with fail
    refine (K0.out _).mono ?_
    rintro e w1 ⟨rfl, rfl⟩
    go_wp2_with fail
    go_loopw [5] (fun j wr => ∃ k : Nat, k ≤ n ∧ j = .int .i64 k ∧ Hid ((l.take k).all (rgB 0 1000) = true) ∧ w = wr) (fun j _ => n - (intOf j).toNat)
    case atStart => exact ⟨0, Nat.zero_le _, rfl, HZ, rfl⟩
    case round =>
      obtain ⟨k, hk, rfl, HK, rfl⟩ := hrel
      by_cases hlt : k < n
      · obtain ⟨a, rfl, hab, hc0⟩ := HA.out k hlt
        have d0 := hc0
        have hkI : (k : Int) < (n : Int) := by omega
        have HSk := Lib.hid (HS.out k hlt)
        have HNk := Lib.hid (HNo.out k hlt)
        have KI := Lib.hid (fun w => in_n (l.getD k 0) 0 1000 w)
        generalize l.getD k 0 = x at *
        rw [HK.out, Bool.true_and] at HSk
        cases hr : rgB 0 1000 x
        · rw [hr] at KI HNk
          have HR : Hid (false = r) := by show _ = _; rw [← HC2.out, HNk.out rfl]
          go_wp2_with fail
          refine (KI.out _).mono ?_
          rintro e w2 ⟨rfl, rfl⟩
          go_wp2_with fail
          go_ret
          exact ⟨ret_bool HR.out, rfl⟩
        · rw [hr] at KI HSk
          go_wp2_with fail
          refine (KI.out _).mono ?_
          rintro e w2 ⟨rfl, rfl⟩
          go_wp2_with fail
          go_roundw
          case rel => exact ⟨k + 1, by omega, by go_num, HSk, by first | trivial | rfl⟩
          case measure => simp [intOf] <;> omega
      · have hk' : k = n := by omega
        subst hk'
        have HR : Hid (true = r) := by show _ = _; rw [← HC2.out, ← HE.out, HK.out]
        go_wp2_with fail
        go_ret
        exact ⟨ret_bool HR.out, rfl⟩
  · have hne : ((n : Int) != (d : Int)) = true := ne_neN hd
    have HR : Hid (false = r) := by show _ = _; rw [← HC.out, decide_eq_false hd]; rfl
    go_enter Tryd.func37, Tryd.ntmps37
    go_wp2_with fail
    refine (K0.out _).mono ?_
    rintro e w1 ⟨rfl, rfl⟩
    go_wp2_with fail
    go_ret
    exact ⟨ret_bool HR.out, rfl⟩

/-! ### skills -/
def bitV (k : Nat) : Int := if k < 63 then ((2 ^ k : Nat) : Int) else -9223372036854775808
theorem bit_div {b : Int} (h : 0 ≤ b) (k : Nat) : (b / ((2 ^ k : Nat) : Int)).tmod 2 = if b.toNat.testBit k then 1 else 0 := by
  obtain ⟨m, rfl⟩ := Int.eq_ofNat_of_zero_le h
  rw [Int.toNat_natCast]
  have e : ((m : Int) / ((2 ^ k : Nat) : Int)).tmod 2 = ((m / 2 ^ k % 2 : Nat) : Int) := rfl
  rw [e, Nat.testBit_eq_decide_div_mod_eq]
  have := Nat.mod_two_eq_zero_or_one (m / 2 ^ k)
  rcases this with h2 | h2 <;> rw [h2] <;> rfl
theorem bit_range {k : Nat} (h : k < 63) : 1 ≤ 2 ^ k ∧ 2 ^ k ≤ 4611686018427387904 := by
  refine ⟨Nat.one_le_two_pow, ?_⟩
  have := Nat.pow_le_pow_right (n := 2) (by decide) (show k ≤ 62 by omega)
  simpa using this
set_option maxHeartbeats 1600000 in
theorem refAble_n (nm : ByteArray) (c1 c2 c3 sk c6 c7 c8 c9 c10 c11 c12 c13 b : Int) (oc : Option Addr) (nc cc : Nat) (hs : sk ≤ 9223372036854775807) (hb : b ≤ 9223372036854775807) (w : World) :
    Calls Tryd.prog 18 #[.agg #[.string nm, .int .i64 c1, .int .i64 c2, .int .i64 c3, .slice oc nc cc, .int .i64 sk, .int .i64 c6, .int .i64 c7, .int .i64 c8, .int .i64 c9, .int .i64 c10, .int .i64 c11, .int .i64 c12, .int .i64 c13], .int .i64 b] w
      fun e w' => e = .returned (.bool (ableB sk b)) ∧ Below w.heap.size w w' := by
  have T0 := Lib.hid (Tb.made w (.string nm) (.int .i64 c1) (.int .i64 c2) (.int .i64 c3) (.slice oc nc cc) (.int .i64 sk) (.int .i64 c6) (.int .i64 c7) (.int .i64 c8) (.int .i64 c9) (.int .i64 c10) (.int .i64 c11) (.int .i64 c12) (.int .i64 c13))
  have BW := Lib.hid (below_alloc w (.cells #[.string nm, .int .i64 c1, .int .i64 c2, .int .i64 c3, .slice oc nc cc, .int .i64 sk, .int .i64 c6, .int .i64 c7, .int .i64 c8, .int .i64 c9, .int .i64 c10, .int .i64 c11, .int .i64 c12, .int .i64 c13] 36))
  have g5 := T0.out.c5
  by_cases p1 : 0 ≤ sk
  · by_cases p2 : 0 ≤ b
    · have HR : Hid (ableK sk.toNat b.toNat 63 = ableB sk b) := by show _ = _; unfold ableB; rw [decide_eq_true p1, decide_eq_true p2]; rfl
      have n1 : ¬ sk < 0 := by omega
      have n2 : ¬ b < 0 := by omega
      have HD1 := Lib.hid (fun k => bit_div p1 k)
      have HD2 := Lib.hid (fun k => bit_div p2 k)
      have HV : Hid (∀ k, k < 63 → bitV k = ((2 ^ k : Nat) : Int)) := fun k h => if_pos h
      have HVe : Hid (bitV 63 = -9223372036854775808) := rfl
      have HV0 : Hid (bitV 0 = 1) := rfl
      have HKS : Hid (∀ k, ableK sk.toNat b.toNat (k + 1) = (ableK sk.toNat b.toNat k && (!(b.toNat.testBit k) || sk.toNat.testBit k))) := fun _ => rfl
      have HIF := Lib.hid (fun k (hk : k < 63) (h : (b.toNat.testBit k) = true) (h2 : (sk.toNat.testBit k) = false) => show ableK sk.toNat b.toNat 63 = false by
        cases e : ableK sk.toNat b.toNat 63
        · rfl
        · rw [(ableK_iff _ _ _).1 e k hk h] at h2
          cases h2)
      have HRG := Lib.hid (fun k (h : k < 63) => bit_range h)
      generalize ableB sk b = r at *
      go_enter Tryd.func18, Tryd.ntmps18
      go_wp2_with fail
      clear g5
      go_loopg [5] 63 (fun gg j wr => ∃ k : Nat, k ≤ 63 ∧ 63 - k ≤ gg ∧ j = .int .i64 (bitV k) ∧ Hid (ableK sk.toNat b.toNat k = true) ∧ Hid (Below (w.alloc (.cells #[.string nm, .int .i64 c1, .int .i64 c2, .int .i64 c3, .slice oc nc cc, .int .i64 sk, .int .i64 c6, .int .i64 c7, .int .i64 c8, .int .i64 c9, .int .i64 c10, .int .i64 c11, .int .i64 c12, .int .i64 c13] 36)).heap.size (w.alloc (.cells #[.string nm, .int .i64 c1, .int .i64 c2, .int .i64 c3, .slice oc nc cc, .int .i64 sk, .int .i64 c6, .int .i64 c7, .int .i64 c8, .int .i64 c9, .int .i64 c10, .int .i64 c11, .int .i64 c12, .int .i64 c13] 36)) wr))
      case atStart => exact ⟨0, by omega, by omega, by rw [HV0.out], rfl, Below.refl _ _⟩
      case round =>
        obtain ⟨k, hk, hg, rfl, HK, HW⟩ := hrel
        have g5 := (T0.out.below HW.out).c5
        by_cases hlt : k < 63
        · have hv := HV.out k hlt
          obtain ⟨r1, r2⟩ := HRG.out k hlt
          have hd1 := HD1.out k
          have hd2 := HD2.out k
          have HKSk := Lib.hid (HKS.out k)
          have HIFk := Lib.hid (HIF.out k hlt)
          rw [HK.out, Bool.true_and] at HKSk
          have HVn : Hid (bitV (k + 1) = IntKind.i64.wrap (((2 ^ k : Nat) : Int) * 2)) := by
            show _ = _
            by_cases h2 : k + 1 < 63
            · rw [HV.out _ h2, IntWalk.i64_in _ (by have := (HRG.out _ h2).2; rw [Nat.pow_succ] at this; omega), Nat.pow_succ]; omega
            · obtain rfl : k = 62 := by omega
              rfl
          rw [hv]
          obtain ⟨V, hV⟩ : ∃ V, IntKind.i64.wrap (((2 ^ k : Nat) : Int) * 2) = V := ⟨_, rfl⟩
          rw [hV] at HVn
          generalize 2 ^ k = P at *
          have hP0 : (0 : Int) < (P : Int) := by omega
          have hP1 : (P : Int) ≠ 0 := by omega
          have hP2 : ((P : Int) == 0) = false := ne_eqI hP1
          cases hb1 : b.toNat.testBit k
          · rw [hb1, if_neg (by simp)] at hd2
            have HK1 : Hid (ableK sk.toNat b.toNat (k + 1) = true) := by show _ = _; rw [HKSk.out, hb1]; rfl
            go_wp2_with fail
            go_roundg (63 - (k + 1))
            case measure => omega
            case rel => exact ⟨k + 1, by omega, by omega, by rw [HVn.out], HK1, HW⟩
          · rw [hb1, if_pos rfl] at hd2
            cases hs1 : sk.toNat.testBit k
            · rw [hs1, if_neg (by simp)] at hd1
              have HRf : Hid (false = r) := by show _ = _; rw [← HR.out, HIFk.out hb1 hs1]
              have BWx := Lib.hid (over BW.out HW.out)
              go_wp2_with fail
              go_ret
              exact ⟨ret_bool HRf.out, BWx.out⟩
            · rw [hs1, if_pos rfl] at hd1
              have HK1 : Hid (ableK sk.toNat b.toNat (k + 1) = true) := by show _ = _; rw [HKSk.out, hb1, hs1]; rfl
              go_wp2_with fail
              go_roundg (63 - (k + 1))
              case measure => omega
              case rel => exact ⟨k + 1, by omega, by omega, by rw [HVn.out], HK1, HW⟩
        · obtain rfl : k = 63 := by omega
          have HRt : Hid (true = r) := by show _ = _; rw [← HR.out, HK.out]
          rw [HVe.out]
          have BWx := Lib.hid (over BW.out HW.out)
          go_wp2_with fail
          go_ret
          exact ⟨ret_bool HRt.out, BWx.out⟩
    · have n1 : ¬ sk < 0 := by omega
      have n2 : b < 0 := by omega
      have HR : Hid (false = ableB sk b) := by show _ = _; unfold ableB; rw [decide_eq_false p2, Bool.and_false]; rfl
      generalize ableB sk b = r at *
      go_enter Tryd.func18, Tryd.ntmps18
      go_wp2_with fail
      go_ret
      exact ⟨ret_bool HR.out, BW.out⟩
  · have n1 : sk < 0 := by omega
    have HR : Hid (false = ableB sk b) := by show _ = _; unfold ableB; rw [decide_eq_false p1]; rfl
    generalize ableB sk b = r at *
    go_enter Tryd.func18, Tryd.ntmps18
    go_wp2_with fail
    go_ret
    exact ⟨ret_bool HR.out, BW.out⟩

end Go.Proofs.YthihahehmnpenaaDoor.T

