/-
  DERIVED. The walk of lorryref12's Needs.
-/
import Derived.Test.YtmoilpkgoabopaaDoorRefRu5
namespace Go.Proofs.YtmoilpkgoabopaaDoor.T
open Go.RowKit
set_option maxRecDepth 8000

theorem ofB_yes {p : Nat → Bool} {k : Nat} (h : p k = true) : U.ofB p (k + 1) = U.ofB p k + 2 ^ k := by rw [U.ofB, if_pos h]
theorem ofB_no {p : Nat → Bool} {k : Nat} (h : p k = false) : U.ofB p (k + 1) = U.ofB p k := by rw [U.ofB, if_neg (by rw [h]; simp)]
theorem ofB_le (p : Nat → Bool) {k n : Nat} (h : k ≤ n) : U.ofB p k < 2 ^ n := Nat.lt_of_lt_of_le (U.ofB_lt p k) (Nat.pow_le_pow_right (by omega) h)

set_option maxHeartbeats 3200000 in
theorem needs12_n (o0 o1 o2 o3 o4 o5 : Option Addr) (n0 n1 n2 n n4 c0 c1 c2 c3 c4 c5 : Nat) (be : List (Int × Int)) (q : Int) (hn : n ≤ 60) (hr : U.Rt n be) (hl : be.length ≤ 1000000) (w : World) (hu : Ps w (.slice o5 be.length c5) be) :
    Calls Tryd.prog 17 #[inV (.slice o0 n0 c0) (.slice o1 n1 c1) (.slice o2 n2 c2) (.slice o3 n c3) (.slice o4 n4 c4) (.slice o5 be.length c5), .int .i64 q] w fun e w' => e = .returned (.int .i64 (U.needsI n be q)) ∧ Below w.heap.size w w' := by
  have BI := below_alloc w (.cells #[.slice o0 n0 c0, .slice o1 n1 c1, .slice o2 n2 c2, .slice o3 n c3, .slice o4 n4 c4, .slice o5 be.length c5] 37)
  have I0 := Ib.made w (.slice o0 n0 c0) (.slice o1 n1 c1) (.slice o2 n2 c2) (.slice o3 n c3) (.slice o4 n4 c4) (.slice o5 be.length c5)
  have KR := Lib.hid (fun a w hv => reach12_n n (.slice o5 be.length c5) be a (by omega) hr hl w hv)
  have HU := Lib.hid (hu.below BI)
  have HB := Lib.hid BI
  have i3 := I0.c3
  have i5 := I0.c5
  unfold inV
  obtain ⟨W0, hW0⟩ : ∃ W0, w.alloc (.cells #[.slice o0 n0 c0, .slice o1 n1 c1, .slice o2 n2 c2, .slice o3 n c3, .slice o4 n4 c4, .slice o5 be.length c5] 37) = W0 := ⟨_, rfl⟩
  rw [hW0] at HU HB i3 i5
  have HW0 := Lib.hid hW0
  clear BI I0 hu hW0
  by_cases h0 : q < 0
  · have HR : Hid (0 = U.needsI n be q) := by show _ = _; unfold U.needsI; rw [if_pos (.inl h0)]
    generalize U.needsI n be q = r at *
    clear KR
    go_enter Tryd.func17, Tryd.ntmps17
    go_upto_region 1 with fail
    rw [HW0.out]
    go_wp2_with fail
    go_ret
    exact ⟨ret_int HR.out, HB.out⟩
  by_cases h1 : (n : Int) ≤ q
  · have HR : Hid (0 = U.needsI n be q) := by show _ = _; unfold U.needsI; rw [if_pos (.inr h1)]
    generalize U.needsI n be q = r at *
    clear KR
    go_enter Tryd.func17, Tryd.ntmps17
    go_upto_region 1 with fail
    rw [HW0.out]
    go_wp2_with fail
    go_ret
    exact ⟨ret_int HR.out, HB.out⟩
  obtain ⟨o, rfl⟩ := Int.eq_ofNat_of_zero_le (show 0 ≤ q by omega)
  have hon : o < n := by omega
  have HE : Hid (U.ofB (U.needP n be o) n = U.needN n be o) := rfl
  have HR : Hid ((U.needN n be o : Int) = U.needsI n be o) := (U.needsI_nat hon).symm
  have HP : Hid (∀ i, U.needP n be o i = (decide (i = o) || S.has (U.reach n be i) o)) := fun _ => rfl
  have HLt : Hid (∀ i, U.reach n be i < 2 ^ n) := fun i => U.reach_lt hr i (n + 1)
  have HY := Lib.hid (fun k h => ofB_yes (p := U.needP n be o) (k := k) h)
  have HNo := Lib.hid (fun k h => ofB_no (p := U.needP n be o) (k := k) h)
  have HLe := Lib.hid (fun k (h : k ≤ n) => ofB_le (U.needP n be o) h)
  have H0 : Hid (U.ofB (U.needP n be o) 0 = 0) := rfl
  generalize U.needsI n be o = r at *
  generalize U.needN n be o = rn at *
  generalize hm : be.length = m at *
  clear hr hm
  go_enter Tryd.func17, Tryd.ntmps17
  go_upto_region 1 with fail
  rw [HW0.out]
  clear HW0
  go_wp2_with fail
  go_loopg [6, 7] n (fun g s j wr => ∃ k : Nat, k ≤ n ∧ j = .int .i64 k ∧ n - k ≤ g ∧ s = .int .i64 (U.ofB (U.needP n be o) k : Nat) ∧ W0 = wr)
  case atStart => exact ⟨0, Nat.zero_le _, rfl, Nat.le_refl _, by rw [H0.out]; rfl, rfl⟩
  case round =>
    obtain ⟨k, hk, rfl, hg, rfl, rfl⟩ := hrel
    by_cases hlt : k < n
    · have hkI : (k : Int) < (n : Int) := by omega
      have hs9 := pow62 (show n ≤ 62 by omega) (HLe.out k hk)
      have HPk := Lib.hid (HP.out k)
      have HYk := Lib.hid (HY.out k)
      have HNk := Lib.hid (HNo.out k)
      have hk62 : k ≤ 62 := by omega
      obtain ⟨P, hP⟩ : ∃ P, 2 ^ k = P := ⟨_, rfl⟩
      have KP := Lib.hid (fun w => bit12_e k P hk62 hP w)
      have hPle := S.pow_le62 hk62
      rw [hP] at HYk hPle
      have KRk := Lib.hid (fun w hv => KR.out k w hv)
      have hrl := pow62 (show n ≤ 62 by omega) (HLt.out k)
      have KH := Lib.hid (fun w => has12_n (U.reach n be k) o (by omega) (by omega) w)
      generalize U.ofB (U.needP n be o) k = s at *
      generalize U.needP n be o k = pk at *
      generalize U.reach n be k = rk at *
      clear hP
      by_cases hko : k = o
      · subst hko
        have HX : Hid (U.ofB (U.needP n be k) (k + 1) = s + P) := HYk.out (by rw [HPk.out]; simp)
        go_wp2_with fail
        refine (KP.out _).mono ?_
        rintro e w1 ⟨rfl, rfl⟩
        go_wp2_with fail
        go_roundg (n - (k + 1))
        case measure => omega
        case rel => exact ⟨k + 1, by omega, by go_num, by omega, by rw [HX.out]; rfl, rfl⟩
      · have hkoI := ne_eqN hko
        cases hb : S.has rk o
        · have HX : Hid (U.ofB (U.needP n be o) (k + 1) = s) := HNk.out (by rw [HPk.out, hb, decide_eq_false hko]; rfl)
          rw [hb] at KH
          clear hb
          go_wp2_with fail
          refine (KRk.out _ HU.out).mono ?_
          rintro e w1 ⟨rfl, rfl⟩
          go_wp2_with fail
          refine (KH.out _).mono ?_
          rintro e w1 ⟨rfl, rfl⟩
          go_wp2_with fail
          go_roundg (n - (k + 1))
          case measure => omega
          case rel => exact ⟨k + 1, by omega, by go_num, by omega, by rw [HX.out], rfl⟩
        · have HX : Hid (U.ofB (U.needP n be o) (k + 1) = s + P) := HYk.out (by rw [HPk.out, hb]; simp)
          rw [hb] at KH
          clear hb
          go_wp2_with fail
          refine (KRk.out _ HU.out).mono ?_
          rintro e w1 ⟨rfl, rfl⟩
          go_wp2_with fail
          refine (KH.out _).mono ?_
          rintro e w1 ⟨rfl, rfl⟩
          go_wp2_with fail
          refine (KP.out _).mono ?_
          rintro e w1 ⟨rfl, rfl⟩
          go_wp2_with fail
          go_roundg (n - (k + 1))
          case measure => omega
          case rel => exact ⟨k + 1, by omega, by go_num, by omega, by rw [HX.out]; rfl, rfl⟩
    · have hkk : k = n := by omega
      subst hkk
      go_wp2_with fail
      go_ret
      exact ⟨ret_int (by rw [HE.out]; exact HR.out), HB.out⟩

end Go.Proofs.YtmoilpkgoabopaaDoor.T

