/-
  DERIVED. The walks of the specification's Begin, Depart, Latest, Meet and Shift.
-/
import Derived.Test.YtmkdbmeaiehnbaaWinTop2
namespace Go.Proofs.Ytmkdbmeaiehnbaa.V
open Go.RowKit
set_option maxRecDepth 8000

theorem refBegin_n (p o c s a : Int) (hoc : o ≤ c) (w : World) : Calls Try.prog 13 #[.agg #[.int .i64 p, .int .i64 o, .int .i64 c, .int .i64 s], .int .i64 a] w fun e w' => e = .returned (.tuple #[.int .i64 (bgV o c a), .int .i64 (bgE c a)]) ∧ Below w.heap.size w w' := by
  by_cases h1 : c < a
  · have h2 : o < a := by omega
    have h3 : ¬ a < o := by omega
    have HR : Hid ((0, 14) = (bgV o c a, bgE c a)) := (bg_late h1).symm
    generalize bgV o c a = x at *
    generalize bgE c a = y at *
    go_enter Try.func13, Try.ntmps13
    go_wp2_with fail
    go_ret2
    exact ⟨ret_ints HR.out, by go_grown⟩
  · by_cases h2 : a < o
    · have h3 : ¬ o < a := by omega
      have h4 : ¬ c < o := by omega
      have HR : Hid ((o, 0) = (bgV o c a, bgE c a)) := (bg_soon h1 h2).symm
      generalize bgV o c a = x at *
      generalize bgE c a = y at *
      go_enter Try.func13, Try.ntmps13
      go_wp2_with fail
      go_ret2
      exact ⟨ret_ints HR.out, by go_grown⟩
    · by_cases h3 : o < a
      · have HR : Hid ((a, 0) = (bgV o c a, bgE c a)) := (bg_in h1 h2).symm
        generalize bgV o c a = x at *
        generalize bgE c a = y at *
        go_enter Try.func13, Try.ntmps13
        go_wp2_with fail
        go_ret2
        exact ⟨ret_ints HR.out, by go_grown⟩
      · have h4 : a = o := by omega
        subst h4
        have HR : Hid ((a, 0) = (bgV a c a, bgE c a)) := (bg_in h1 h2).symm
        generalize bgV a c a = x at *
        generalize bgE c a = y at *
        go_enter Try.func13, Try.ntmps13
        go_wp2_with fail
        go_ret2
        exact ⟨ret_ints HR.out, by go_grown⟩
theorem refDepart_n (p o c s a : Int) (ho : 0 ≤ o) (hoc : o ≤ c) (hc : c ≤ 4096) (hs : 0 ≤ s) (hs2 : s ≤ 4096) (w : World) : Calls Try.prog 15 #[.agg #[.int .i64 p, .int .i64 o, .int .i64 c, .int .i64 s], .int .i64 a] w fun e w' => e = .returned (.tuple #[.int .i64 (dpV o c s a), .int .i64 (bgE c a)]) ∧ Below w.heap.size w w' := by
  have K := Lib.hid (fun w => refBegin_n p o c s a hoc w)
  by_cases h1 : c < a
  · have HR : Hid ((0, 14) = (dpV o c s a, bgE c a)) := by show _ = _; unfold dpV bgE; rw [if_pos h1, if_pos h1]
    have hE : bgE c a = 14 := by unfold bgE; rw [if_pos h1]
    rw [hE] at K HR ⊢
    generalize bgV o c a = x at *
    generalize dpV o c s a = z at *
    clear hE
    go_enter Try.func15, Try.ntmps15
    go_wp2_with fail
    refine (K.out _).mono ?_
    rintro e w1 ⟨rfl, b1⟩
    have B1 := Lib.hid (over (w := w) (by go_grown) b1)
    clear b1
    go_wp2_with fail
    go_ret2
    exact ⟨ret_ints HR.out, B1.out⟩
  · obtain ⟨hx0, hx1, hx2⟩ := bg_le hoc h1
    have HR : Hid ((bgV o c a + s, 0) = (dpV o c s a, bgE c a)) := by show _ = _; unfold dpV bgE; rw [if_neg h1, if_neg h1]
    have hE : bgE c a = 0 := by unfold bgE; rw [if_neg h1]
    rw [hE] at K HR ⊢
    generalize bgV o c a = x at *
    generalize dpV o c s a = z at *
    clear hE
    go_enter Try.func15, Try.ntmps15
    go_wp2_with fail
    refine (K.out _).mono ?_
    rintro e w1 ⟨rfl, b1⟩
    have B1 := Lib.hid (over (w := w) (by go_grown) b1)
    have HB := (Bs.made w p o c s).below b1
    have g3 := HB.c3
    clear b1 HB
    go_wp2_with fail
    go_ret2
    exact ⟨ret_ints HR.out, B1.out⟩
theorem dp_in {o c s k : Int} (h0 : o ≤ k) (h1 : k ≤ c) : dpV o c s k = k + s := by unfold dpV bgV; rw [if_neg (by omega), if_neg (by omega), if_neg (by omega)]
theorem bg_ok {c k : Int} (h1 : k ≤ c) : bgE c k = 0 := by unfold bgE; rw [if_neg (by omega)]
theorem lt_hit {o c s d k : Int} (h0 : o ≤ k) (h1 : k ≤ c) (h2 : k + s ≤ d) (h3 : k < c → d < k + 1 + s) : (ltV o c s d, ltB o s d) = (k, true) := by
  by_cases h : k < c
  · have := h3 h
    rw [lt_in (by omega) (by omega), show d - s = k by omega]
  · rw [lt_all (by omega) (by omega), show c = k by omega]
theorem refLatest_n (p o c s d : Int) (ho : 0 ≤ o) (hoc : o ≤ c) (hc : c ≤ 4096) (hs : 0 ≤ s) (hs2 : s ≤ 4096) (w : World) : Calls Try.prog 17 #[.agg #[.int .i64 p, .int .i64 o, .int .i64 c, .int .i64 s], .int .i64 d] w fun e w' => e = .returned (.tuple #[.int .i64 (ltV o c s d), .bool (ltB o s d)]) ∧ Below w.heap.size w w' := by
  have K := Lib.hid (fun k (h0 : o ≤ k) (h1 : k ≤ c) w => by have := refDepart_n p o c s k ho hoc hc hs hs2 w; rw [dp_in h0 h1, bg_ok h1] at this; exact this)
  have HN := Lib.hid (fun (h : d < o + s) => (lt_no (o := o) (c := c) (s := s) (d := d) h).symm)
  have HY := Lib.hid (fun k (h0 : o ≤ k) (h1 : k ≤ c) (h2 : k + s ≤ d) (h3 : k < c → d < k + 1 + s) => (lt_hit (o := o) (c := c) (s := s) (d := d) h0 h1 h2 h3).symm)
  generalize ltV o c s d = x at *
  generalize ltB o s d = y at *
  have HB0 := Lib.hid (Bs.made w p o c s)
  have W0 := Lib.hid (below_alloc w (.cells #[.int .i64 p, .int .i64 o, .int .i64 c, .int .i64 s] 23))
  go_enter Try.func17, Try.ntmps17
  go_wp2_with fail
  go_loopw [6] (fun i wr => ∃ k : Int, o - 1 ≤ k ∧ k ≤ c ∧ i = .int .i64 k ∧ Hid (k < c → d < k + 1 + s) ∧ Hid (Bs wr w.heap.size p o c s) ∧ Hid (Below w.heap.size w wr)) (fun i _ => (intOf i + 1).toNat)
  case atStart => exact ⟨c, by omega, Int.le_refl _, rfl, fun h => absurd h (Int.lt_irrefl _), HB0.out, W0.out⟩
  case round =>
    clear HB0 W0
    obtain ⟨k, hk0, hk1, rfl, HI, HB, HW⟩ := hrel
    have g0 := HB.out.c0
    have g1 := HB.out.c1
    have g2 := HB.out.c2
    have g3 := HB.out.c3
    by_cases hlt : o ≤ k
    · have K1 := Lib.hid (fun w => K.out k hlt hk1 w)
      by_cases hhit : k + s ≤ d
      · have HR := Lib.hid (HY.out k hlt hk1 hhit HI.out)
        go_wp2_with fail
        refine (K1.out _).mono ?_
        rintro e w1 ⟨rfl, b1⟩
        have HW1 := Lib.hid (over HW.out b1)
        clear b1 g0 g1 g2 g3
        go_wp2_with fail
        go_ret2
        exact ⟨ret_intb HR.out, HW1.out⟩
      · have HI1 : Hid (k - 1 < c → d < k - 1 + 1 + s) := by show _ → _; intro _; omega
        go_wp2_with fail
        refine (K1.out _).mono ?_
        rintro e w1 ⟨rfl, b1⟩
        have HW1 := Lib.hid (over HW.out b1)
        have HB1 := Lib.hid (HB.out.below b1)
        clear b1 g0 g1 g2 g3
        go_wp2_with fail
        go_roundw
        case rel => exact ⟨k - 1, by omega, by omega, by go_num, HI1, HB1, HW1⟩
        case measure => simp [intOf]; omega
    · have HR := Lib.hid (HN.out (by have := HI.out (by omega); omega))
      go_wp2_with fail
      go_ret2
      exact ⟨ret_intb HR.out, HW.out⟩
set_option maxHeartbeats 800000 in
theorem refMeet_n (p o c s p' o' c' s' : Int) (w : World) : Calls Try.prog 19 #[.agg #[.int .i64 p, .int .i64 o, .int .i64 c, .int .i64 s], .agg #[.int .i64 p', .int .i64 o', .int .i64 c', .int .i64 s']] w fun e w' => e = .returned (if mC c c' < mO o o' then .tuple #[.agg #[.int .i64 0, .int .i64 0, .int .i64 0, .int .i64 0], .bool false] else .tuple #[.agg #[.int .i64 p, .int .i64 (mO o o'), .int .i64 (mC c c'), .int .i64 s], .bool true]) ∧ Below w.heap.size w w' := by
  by_cases h1 : o < o'
  · by_cases h2 : c' < c
    · have EO : mO o o' = o' := by unfold mO; rw [if_pos h1]
      have EC : mC c c' = c' := by unfold mC; rw [if_pos h2]
      rw [EO, EC]
      clear EO EC
      by_cases h3 : c' < o'
      · rw [if_pos h3]
        go_enter Try.func19, Try.ntmps19
        go_wp2_with fail
        refine bodyPost_ret (v := .tuple #[.agg #[.int .i64 0, .int .i64 0, .int .i64 0, .int .i64 0], .bool false]) (by simp [results, Try.results19, go_sem]) rfl ⟨rfl, by go_grown⟩
      · rw [if_neg h3]
        go_enter Try.func19, Try.ntmps19
        go_wp2_with fail
        refine bodyPost_ret (v := .tuple #[.agg #[.int .i64 p, .int .i64 o', .int .i64 c', .int .i64 s], .bool true]) (by simp [results, Try.results19, go_sem]) rfl ⟨rfl, by go_grown⟩
    · have EO : mO o o' = o' := by unfold mO; rw [if_pos h1]
      have EC : mC c c' = c := by unfold mC; rw [if_neg h2]
      rw [EO, EC]
      clear EO EC
      by_cases h3 : c < o'
      · rw [if_pos h3]
        go_enter Try.func19, Try.ntmps19
        go_wp2_with fail
        refine bodyPost_ret (v := .tuple #[.agg #[.int .i64 0, .int .i64 0, .int .i64 0, .int .i64 0], .bool false]) (by simp [results, Try.results19, go_sem]) rfl ⟨rfl, by go_grown⟩
      · rw [if_neg h3]
        go_enter Try.func19, Try.ntmps19
        go_wp2_with fail
        refine bodyPost_ret (v := .tuple #[.agg #[.int .i64 p, .int .i64 o', .int .i64 c, .int .i64 s], .bool true]) (by simp [results, Try.results19, go_sem]) rfl ⟨rfl, by go_grown⟩
  · by_cases h2 : c' < c
    · have EO : mO o o' = o := by unfold mO; rw [if_neg h1]
      have EC : mC c c' = c' := by unfold mC; rw [if_pos h2]
      rw [EO, EC]
      clear EO EC
      by_cases h3 : c' < o
      · rw [if_pos h3]
        go_enter Try.func19, Try.ntmps19
        go_wp2_with fail
        refine bodyPost_ret (v := .tuple #[.agg #[.int .i64 0, .int .i64 0, .int .i64 0, .int .i64 0], .bool false]) (by simp [results, Try.results19, go_sem]) rfl ⟨rfl, by go_grown⟩
      · rw [if_neg h3]
        go_enter Try.func19, Try.ntmps19
        go_wp2_with fail
        refine bodyPost_ret (v := .tuple #[.agg #[.int .i64 p, .int .i64 o, .int .i64 c', .int .i64 s], .bool true]) (by simp [results, Try.results19, go_sem]) rfl ⟨rfl, by go_grown⟩
    · have EO : mO o o' = o := by unfold mO; rw [if_neg h1]
      have EC : mC c c' = c := by unfold mC; rw [if_neg h2]
      rw [EO, EC]
      clear EO EC
      by_cases h3 : c < o
      · rw [if_pos h3]
        go_enter Try.func19, Try.ntmps19
        go_wp2_with fail
        refine bodyPost_ret (v := .tuple #[.agg #[.int .i64 0, .int .i64 0, .int .i64 0, .int .i64 0], .bool false]) (by simp [results, Try.results19, go_sem]) rfl ⟨rfl, by go_grown⟩
      · rw [if_neg h3]
        go_enter Try.func19, Try.ntmps19
        go_wp2_with fail
        refine bodyPost_ret (v := .tuple #[.agg #[.int .i64 p, .int .i64 o, .int .i64 c, .int .i64 s], .bool true]) (by simp [results, Try.results19, go_sem]) rfl ⟨rfl, by go_grown⟩
theorem refShift_none (o c s n : Int) (w : World) : Calls Try.prog 21 #[.agg #[.int .i64 (-1), .int .i64 o, .int .i64 c, .int .i64 s], .int .i64 n] w fun e w' => e = .returned (.tuple #[.agg #[.int .i64 (-1), .int .i64 o, .int .i64 c, .int .i64 s], .int .i64 0]) ∧ Below w.heap.size w w' := by
  go_enter Try.func21, Try.ntmps21
  go_wp2_with fail
  refine bodyPost_ret (v := .tuple #[.agg #[.int .i64 (-1), .int .i64 o, .int .i64 c, .int .i64 s], .int .i64 0]) (by simp [results, Try.results21, go_sem]) rfl ⟨rfl, by go_grown⟩
theorem refShift_no (p o c s n : Int) (hp : 0 ≤ p) (ho : 0 ≤ o) (hoc : o ≤ c) (hc : c ≤ 4096) (h : n < -o ∨ 4096 - c < n) (w : World) : Calls Try.prog 21 #[.agg #[.int .i64 p, .int .i64 o, .int .i64 c, .int .i64 s], .int .i64 n] w fun e w' => e = .returned (.tuple #[.agg #[.int .i64 0, .int .i64 0, .int .i64 0, .int .i64 0], .int .i64 2]) ∧ Below w.heap.size w w' := by
  have hp1 : (p == -1) = false := ne_eqI (by omega)
  by_cases h1 : n < -o
  · have h2 : n < 0 - o := by omega
    clear h
    go_enter Try.func21, Try.ntmps21
    go_wp2_with fail
    refine bodyPost_ret (v := .tuple #[.agg #[.int .i64 0, .int .i64 0, .int .i64 0, .int .i64 0], .int .i64 2]) (by simp [results, Try.results21, go_sem]) rfl ⟨rfl, by go_grown⟩
  · have h2 : 4096 - c < n := by omega
    have h3 : ¬ n < 0 - o := by omega
    clear h
    go_enter Try.func21, Try.ntmps21
    go_wp2_with fail
    refine bodyPost_ret (v := .tuple #[.agg #[.int .i64 0, .int .i64 0, .int .i64 0, .int .i64 0], .int .i64 2]) (by simp [results, Try.results21, go_sem]) rfl ⟨rfl, by go_grown⟩
theorem refShift_yes (p o c s n : Int) (hp : 0 ≤ p) (ho : 0 ≤ o) (hoc : o ≤ c) (hc : c ≤ 4096) (h1 : ¬ n < -o) (h2 : ¬ 4096 - c < n) (w : World) : Calls Try.prog 21 #[.agg #[.int .i64 p, .int .i64 o, .int .i64 c, .int .i64 s], .int .i64 n] w fun e w' => e = .returned (.tuple #[.agg #[.int .i64 p, .int .i64 (o + n), .int .i64 (c + n), .int .i64 s], .int .i64 0]) ∧ Below w.heap.size w w' := by
  have hp1 : (p == -1) = false := ne_eqI (by omega)
  have h3 : ¬ n < 0 - o := by omega
  go_enter Try.func21, Try.ntmps21
  go_wp2_with fail
  refine bodyPost_ret (v := .tuple #[.agg #[.int .i64 p, .int .i64 (o + n), .int .i64 (c + n), .int .i64 s], .int .i64 0]) (by simp [results, Try.results21, go_sem]) rfl ⟨rfl, by go_grown⟩

end Go.Proofs.Ytmkdbmeaiehnbaa.V
