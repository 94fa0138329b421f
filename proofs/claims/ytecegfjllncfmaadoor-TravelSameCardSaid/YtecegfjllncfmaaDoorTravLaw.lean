/-
  DERIVED. The walk of the laws' awake.
-/
import Derived.Test.YtecegfjllncfmaaDoorRefTrav3
namespace Go.Proofs.YtecegfjllncfmaaDoor.T
open Go.RowKit
set_option maxRecDepth 8000

def exL : List (Int × Int) := [(0, 5), (20, 35)]
def exS : List (Int × Int) := [(0, 5), (9, 19), (10, 23), (20, 38)]
theorem lit2 (w : World) : Ps (w.alloc (.cells #[.int .i64 0, .int .i64 5, .int .i64 20, .int .i64 35] 38)) (.slice (some ⟨w.heap.size, 0, none⟩) 2 2) exL := by
  refine ⟨some ⟨w.heap.size, 0, none⟩, 2, rfl, fun i hi => ⟨w.heap.size, 0, rfl, by simp, ?_⟩⟩
  match i, hi with
  | 0, _ => exact ⟨by simp [exL, pT], by simp [exL, pA]⟩
  | 1, _ => exact ⟨by simp [exL, pT], by simp [exL, pA]⟩
theorem lit4 (w : World) : Ps (w.alloc (.cells #[.int .i64 0, .int .i64 5, .int .i64 9, .int .i64 19, .int .i64 10, .int .i64 23, .int .i64 20, .int .i64 38] 38)) (.slice (some ⟨w.heap.size, 0, none⟩) 4 4) exS := by
  refine ⟨some ⟨w.heap.size, 0, none⟩, 4, rfl, fun i hi => ⟨w.heap.size, 0, rfl, by simp, ?_⟩⟩
  match i, hi with
  | 0, _ => exact ⟨by simp [exS, pT], by simp [exS, pA]⟩
  | 1, _ => exact ⟨by simp [exS, pT], by simp [exS, pA]⟩
  | 2, _ => exact ⟨by simp [exS, pT], by simp [exS, pA]⟩
  | 3, _ => exact ⟨by simp [exS, pT], by simp [exS, pA]⟩
theorem ex_ok : okB exL = true := by decide +kernel
theorem ex_len : (faults exL).length = 0 := by decide +kernel
theorem ex_a10 : arrF exL 10 = 20 := by decide +kernel
theorem ex_a1 : arrF exL 1 = 7 := by decide +kernel
theorem ex_a30 : arrF exL 30 = 45 := by decide +kernel
theorem ex_b10 : arr exL (10 : Nat) ≤ 20 := by decide +kernel
theorem ex_b11 : ¬ arr exL (11 : Nat) ≤ 20 := by decide +kernel
theorem ex_cnt : cntF exL 20 = 11 := by
  have hO := (okB_iff exL).1 ex_ok
  obtain ⟨N, hN⟩ : ∃ N : Nat, N = 4097 := ⟨_, rfl⟩
  have h1 := (cntA_iff hO 20 N 10 (by omega)).2 ex_b10
  have h2 : ¬ 11 < cntA exL 20 N := fun h => ex_b11 ((cntA_iff hO 20 N 11 (by omega)).1 h)
  have h3 : cntF exL 20 = cntA exL 20 N := by unfold cntF; rw [ex_ok, if_pos rfl, hN]
  omega
theorem ex_E : slowE exL 10 3 = 0 := by decide +kernel
theorem ex_L : slowL exL 10 3 = exS := by decide +kernel

set_option maxHeartbeats 1600000 in
theorem awake_n (w : World) :
    Calls Tryd.prog 9 #[] w fun e w' => e = .returned (.bool true) ∧ Below w.heap.size w w' := by
  have K1 := Lib.hid (fun v w hu => latest_n v exL 20 w hu (by decide))
  rw [ex_cnt] at K1
  have K2 := Lib.hid (fun v w hu => slower_n v exL 10 3 w hu (by decide))
  rw [ex_E, ex_L] at K2
  have K3 := Lib.hid (fun v w hu => arrive_n v exL 10 w hu (by decide))
  rw [ex_a10] at K3
  have K4 := Lib.hid (fun v w hu => arrive_n v exL 1 w hu (by decide))
  rw [ex_a1] at K4
  have K5 := Lib.hid (fun v w hu => arrive_n v exL 30 w hu (by decide))
  rw [ex_a30] at K5
  have K6 := Lib.hid (fun u v w hu hv => points_n u v exS exS (by decide) w hu hv)
  rw [decide_eq_true (rfl : exS = exS)] at K6
  have K7 := Lib.hid (fun v w hu => check_n v exL (by decide) w hu)
  have H0 := Lib.hid (lit2 w)
  go_enter Tryd.func9, Tryd.ntmps9
  go_wp2_with fail
  refine (K1.out _ _ H0.out).mono ?_
  rintro e w1 ⟨rfl, b1⟩
  have H1 := Lib.hid (H0.out.below b1)
  have B1 := Lib.hid (over (below_alloc w _) b1)
  clear b1 H0
  have hl1 : latN 11 = 10 := rfl
  have hl2 : latB 11 = true := rfl
  go_wp2_with fail
  refine (K2.out _ _ H1.out).mono ?_
  rintro e w2 ⟨oa, c, rfl, hs, b2⟩
  have H2 := Lib.hid (H1.out.below b2)
  have B2 := Lib.hid (over B1.out b2)
  have S2 := Lib.hid hs
  clear b2 H1 B1 hs
  have hlen : exS.length = 4 := rfl
  rw [hlen] at S2 ⊢
  go_wp2_with fail
  refine (K3.out _ _ H2.out).mono ?_
  rintro e w3 ⟨rfl, b3⟩
  have H3 := Lib.hid (H2.out.below b3)
  have B3 := Lib.hid (over B2.out b3)
  have S3 := Lib.hid (S2.out.below b3)
  clear b3 H2 B2 S2
  go_wp2_with fail
  refine (K4.out _ _ H3.out).mono ?_
  rintro e w4 ⟨rfl, b4⟩
  have H4 := Lib.hid (H3.out.below b4)
  have B4 := Lib.hid (over B3.out b4)
  have S4 := Lib.hid (S3.out.below b4)
  clear b4 H3 B3 S3
  go_wp2_with fail
  refine (K5.out _ _ H4.out).mono ?_
  rintro e w5 ⟨rfl, b5⟩
  have H5 := Lib.hid (H4.out.below (b5.trans ((below_alloc w5 (.cells #[.int .i64 0, .int .i64 5, .int .i64 9, .int .i64 19, .int .i64 10, .int .i64 23, .int .i64 20, .int .i64 38] 38)).mono b5.size)))
  have B5 := Lib.hid (over (over B4.out b5) (below_alloc w5 (.cells #[.int .i64 0, .int .i64 5, .int .i64 9, .int .i64 19, .int .i64 10, .int .i64 23, .int .i64 20, .int .i64 38] 38)))
  have S5 := Lib.hid ((S4.out.below b5).below (below_alloc w5 (.cells #[.int .i64 0, .int .i64 5, .int .i64 9, .int .i64 19, .int .i64 10, .int .i64 23, .int .i64 20, .int .i64 38] 38)))
  have Z5 := Lib.hid (lit4 w5)
  clear b5 H4 B4 S4
  go_wp2_with fail
  refine (K6.out _ _ _ S5.out Z5.out).mono ?_
  rintro e w6 ⟨rfl, b6⟩
  have H6 := Lib.hid (H5.out.below b6)
  have B6 := Lib.hid (over B5.out b6)
  clear b6 H5 B5 S5 Z5
  go_wp2_with fail
  refine (K7.out _ _ H6.out).mono ?_
  rintro e w7 ⟨oa7, c7, rfl, -, b7⟩
  have B7 := Lib.hid (over B6.out b7)
  have hl7 := ex_len
  clear b7 B6
  rw [hl7]
  go_wp2_with fail
  go_ret
  exact ⟨rfl, B7.out⟩

end Go.Proofs.YtecegfjllncfmaaDoor.T
