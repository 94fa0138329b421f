/-
  DERIVED. The walks of window: Begin, Depart, Latest, Meet, Shift.
-/
import Derived.Test.YtmkdbmeaiehnbaaWinTop1
namespace Go.Proofs.Ytmkdbmeaiehnbaa.V
open Go.RowKit
set_option maxRecDepth 8000

theorem begin_n (p o c s a : Int) (hoc : o ≤ c) (w : World) : Calls Try.prog 12 #[.agg #[.int .i64 p, .int .i64 o, .int .i64 c, .int .i64 s], .int .i64 a] w fun e w' => e = .returned (.tuple #[.int .i64 (bgV o c a), .int .i64 (bgE c a)]) ∧ Below w.heap.size w w' := by
  by_cases h1 : c < a
  · have h2 : o < a := by omega
    have h3 : ¬ a < o := by omega
    have HR : Hid ((0, 14) = (bgV o c a, bgE c a)) := (bg_late h1).symm
    generalize bgV o c a = x at *
    generalize bgE c a = y at *
    go_enter Try.func12, Try.ntmps12
    go_wp2_with fail
    go_ret2
    exact ⟨ret_ints HR.out, by go_grown⟩
  · by_cases h2 : a < o
    · have h3 : ¬ o < a := by omega
      have h4 : ¬ c < o := by omega
      have HR : Hid ((o, 0) = (bgV o c a, bgE c a)) := (bg_soon h1 h2).symm
      generalize bgV o c a = x at *
      generalize bgE c a = y at *
      go_enter Try.func12, Try.ntmps12
      go_wp2_with fail
      go_ret2
      exact ⟨ret_ints HR.out, by go_grown⟩
    · by_cases h3 : o < a
      · have HR : Hid ((a, 0) = (bgV o c a, bgE c a)) := (bg_in h1 h2).symm
        generalize bgV o c a = x at *
        generalize bgE c a = y at *
        go_enter Try.func12, Try.ntmps12
        go_wp2_with fail
        go_ret2
        exact ⟨ret_ints HR.out, by go_grown⟩
      · have h4 : a = o := by omega
        subst h4
        have HR : Hid ((a, 0) = (bgV a c a, bgE c a)) := (bg_in h1 h2).symm
        generalize bgV a c a = x at *
        generalize bgE c a = y at *
        go_enter Try.func12, Try.ntmps12
        go_wp2_with fail
        go_ret2
        exact ⟨ret_ints HR.out, by go_grown⟩
theorem depart_n (p o c s a : Int) (ho : 0 ≤ o) (hoc : o ≤ c) (hc : c ≤ 4096) (hs : 0 ≤ s) (hs2 : s ≤ 4096) (w : World) : Calls Try.prog 14 #[.agg #[.int .i64 p, .int .i64 o, .int .i64 c, .int .i64 s], .int .i64 a] w fun e w' => e = .returned (.tuple #[.int .i64 (dpV o c s a), .int .i64 (bgE c a)]) ∧ Below w.heap.size w w' := by
  have K := Lib.hid (fun w => begin_n p o c s a hoc w)
  by_cases h1 : c < a
  · have HR : Hid ((0, 14) = (dpV o c s a, bgE c a)) := by show _ = _; unfold dpV bgE; rw [if_pos h1, if_pos h1]
    have hE : bgE c a = 14 := by unfold bgE; rw [if_pos h1]
    rw [hE] at K HR ⊢
    generalize bgV o c a = x at *
    generalize dpV o c s a = z at *
    clear hE
    go_enter Try.func14, Try.ntmps14
    go_wp2_with fail
    refine (K.out _).mono ?_
    rintro e w1 ⟨rfl, b1⟩
    have B1 := Lib.hid (over (w := w) (by go_grown) b1)
    clear b1
    go_wp2_with fail
    go_ret2
    exact ⟨ret_ints HR.out, B1.out⟩
  · obtain ⟨hx0, hx1, hx2⟩ := bg_le hoc h1
    have HR : Hid ((bgV o c a + s, 0) = (dpV o c s a, bgE c a)) := by show _ = _; unfold dpV bgE; rw [if_neg h1, if_neg h1]
    have hE : bgE c a = 0 := by unfold bgE; rw [if_neg h1]
    rw [hE] at K HR ⊢
    generalize bgV o c a = x at *
    generalize dpV o c s a = z at *
    clear hE
    go_enter Try.func14, Try.ntmps14
    go_wp2_with fail
    refine (K.out _).mono ?_
    rintro e w1 ⟨rfl, b1⟩
    have B1 := Lib.hid (over (w := w) (by go_grown) b1)
    have HB := (Bs.made w p o c s).below b1
    have g3 := HB.c3
    clear b1 HB
    go_wp2_with fail
    go_ret2
    exact ⟨ret_ints HR.out, B1.out⟩
theorem lt_no {o c s d : Int} (h : d < o + s) : (ltV o c s d, ltB o s d) = (0, false) := by unfold ltV ltB; rw [if_pos h, decide_eq_false (by omega)]
theorem lt_in {o c s d : Int} (h : ¬ d < o + s) (h2 : d - s < c) : (ltV o c s d, ltB o s d) = (d - s, true) := by unfold ltV ltB; rw [if_neg h, if_pos h2, decide_eq_true (by omega)]
theorem lt_all {o c s d : Int} (h : ¬ d < o + s) (h2 : ¬ d - s < c) : (ltV o c s d, ltB o s d) = (c, true) := by unfold ltV ltB; rw [if_neg h, if_neg h2, decide_eq_true (by omega)]
theorem latest_n (p o c s d : Int) (ho : 0 ≤ o) (hoc : o ≤ c) (hc : c ≤ 4096) (hs : 0 ≤ s) (hs2 : s ≤ 4096) (hd : d ≤ 9223372036854775807) (w : World) : Calls Try.prog 16 #[.agg #[.int .i64 p, .int .i64 o, .int .i64 c, .int .i64 s], .int .i64 d] w fun e w' => e = .returned (.tuple #[.int .i64 (ltV o c s d), .bool (ltB o s d)]) ∧ Below w.heap.size w w' := by
  by_cases h1 : d < o + s
  · have HR : Hid ((0, false) = (ltV o c s d, ltB o s d)) := (lt_no h1).symm
    generalize ltV o c s d = x at *
    generalize ltB o s d = y at *
    go_enter Try.func16, Try.ntmps16
    go_wp2_with fail
    go_ret2
    exact ⟨ret_intb HR.out, by go_grown⟩
  · by_cases h2 : d - s < c
    · have HR : Hid ((d - s, true) = (ltV o c s d, ltB o s d)) := (lt_in h1 h2).symm
      generalize ltV o c s d = x at *
      generalize ltB o s d = y at *
      go_enter Try.func16, Try.ntmps16
      go_wp2_with fail
      go_ret2
      exact ⟨ret_intb HR.out, by go_grown⟩
    · have HR : Hid ((c, true) = (ltV o c s d, ltB o s d)) := (lt_all h1 h2).symm
      generalize ltV o c s d = x at *
      generalize ltB o s d = y at *
      go_enter Try.func16, Try.ntmps16
      go_wp2_with fail
      go_ret2
      exact ⟨ret_intb HR.out, by go_grown⟩
set_option maxHeartbeats 800000 in
theorem meet_n (p o c s p' o' c' s' : Int) (w : World) : Calls Try.prog 18 #[.agg #[.int .i64 p, .int .i64 o, .int .i64 c, .int .i64 s], .agg #[.int .i64 p', .int .i64 o', .int .i64 c', .int .i64 s']] w fun e w' => e = .returned (if mC c c' < mO o o' then .tuple #[.agg #[.int .i64 0, .int .i64 0, .int .i64 0, .int .i64 0], .bool false] else .tuple #[.agg #[.int .i64 p, .int .i64 (mO o o'), .int .i64 (mC c c'), .int .i64 s], .bool true]) ∧ Below w.heap.size w w' := by
  by_cases h1 : o < o'
  · by_cases h2 : c' < c
    · have EO : mO o o' = o' := by unfold mO; rw [if_pos h1]
      have EC : mC c c' = c' := by unfold mC; rw [if_pos h2]
      rw [EO, EC]
      clear EO EC
      by_cases h3 : c' < o'
      · rw [if_pos h3]
        go_enter Try.func18, Try.ntmps18
        go_wp2_with fail
        refine bodyPost_ret (v := .tuple #[.agg #[.int .i64 0, .int .i64 0, .int .i64 0, .int .i64 0], .bool false]) (by simp [results, Try.results18, go_sem]) rfl ⟨rfl, by go_grown⟩
      · rw [if_neg h3]
        go_enter Try.func18, Try.ntmps18
        go_wp2_with fail
        refine bodyPost_ret (v := .tuple #[.agg #[.int .i64 p, .int .i64 o', .int .i64 c', .int .i64 s], .bool true]) (by simp [results, Try.results18, go_sem]) rfl ⟨rfl, by go_grown⟩
    · have EO : mO o o' = o' := by unfold mO; rw [if_pos h1]
      have EC : mC c c' = c := by unfold mC; rw [if_neg h2]
      rw [EO, EC]
      clear EO EC
      by_cases h3 : c < o'
      · rw [if_pos h3]
        go_enter Try.func18, Try.ntmps18
        go_wp2_with fail
        refine bodyPost_ret (v := .tuple #[.agg #[.int .i64 0, .int .i64 0, .int .i64 0, .int .i64 0], .bool false]) (by simp [results, Try.results18, go_sem]) rfl ⟨rfl, by go_grown⟩
      · rw [if_neg h3]
        go_enter Try.func18, Try.ntmps18
        go_wp2_with fail
        refine bodyPost_ret (v := .tuple #[.agg #[.int .i64 p, .int .i64 o', .int .i64 c, .int .i64 s], .bool true]) (by simp [results, Try.results18, go_sem]) rfl ⟨rfl, by go_grown⟩
  · by_cases h2 : c' < c
    · have EO : mO o o' = o := by unfold mO; rw [if_neg h1]
      have EC : mC c c' = c' := by unfold mC; rw [if_pos h2]
      rw [EO, EC]
      clear EO EC
      by_cases h3 : c' < o
      · rw [if_pos h3]
        go_enter Try.func18, Try.ntmps18
        go_wp2_with fail
        refine bodyPost_ret (v := .tuple #[.agg #[.int .i64 0, .int .i64 0, .int .i64 0, .int .i64 0], .bool false]) (by simp [results, Try.results18, go_sem]) rfl ⟨rfl, by go_grown⟩
      · rw [if_neg h3]
        go_enter Try.func18, Try.ntmps18
        go_wp2_with fail
        refine bodyPost_ret (v := .tuple #[.agg #[.int .i64 p, .int .i64 o, .int .i64 c', .int .i64 s], .bool true]) (by simp [results, Try.results18, go_sem]) rfl ⟨rfl, by go_grown⟩
    · have EO : mO o o' = o := by unfold mO; rw [if_neg h1]
      have EC : mC c c' = c := by unfold mC; rw [if_neg h2]
      rw [EO, EC]
      clear EO EC
      by_cases h3 : c < o
      · rw [if_pos h3]
        go_enter Try.func18, Try.ntmps18
        go_wp2_with fail
        refine bodyPost_ret (v := .tuple #[.agg #[.int .i64 0, .int .i64 0, .int .i64 0, .int .i64 0], .bool false]) (by simp [results, Try.results18, go_sem]) rfl ⟨rfl, by go_grown⟩
      · rw [if_neg h3]
        go_enter Try.func18, Try.ntmps18
        go_wp2_with fail
        refine bodyPost_ret (v := .tuple #[.agg #[.int .i64 p, .int .i64 o, .int .i64 c, .int .i64 s], .bool true]) (by simp [results, Try.results18, go_sem]) rfl ⟨rfl, by go_grown⟩
theorem shift_none (o c s n : Int) (w : World) : Calls Try.prog 20 #[.agg #[.int .i64 (-1), .int .i64 o, .int .i64 c, .int .i64 s], .int .i64 n] w fun e w' => e = .returned (.tuple #[.agg #[.int .i64 (-1), .int .i64 o, .int .i64 c, .int .i64 s], .int .i64 0]) ∧ Below w.heap.size w w' := by
  go_enter Try.func20, Try.ntmps20
  go_wp2_with fail
  refine bodyPost_ret (v := .tuple #[.agg #[.int .i64 (-1), .int .i64 o, .int .i64 c, .int .i64 s], .int .i64 0]) (by simp [results, Try.results20, go_sem]) rfl ⟨rfl, by go_grown⟩
theorem shift_no (p o c s n : Int) (hp : 0 ≤ p) (ho : 0 ≤ o) (hoc : o ≤ c) (hc : c ≤ 4096) (h : n < -o ∨ 4096 - c < n) (w : World) : Calls Try.prog 20 #[.agg #[.int .i64 p, .int .i64 o, .int .i64 c, .int .i64 s], .int .i64 n] w fun e w' => e = .returned (.tuple #[.agg #[.int .i64 0, .int .i64 0, .int .i64 0, .int .i64 0], .int .i64 2]) ∧ Below w.heap.size w w' := by
  have hp1 : (p == -1) = false := ne_eqI (by omega)
  by_cases h1 : n < -o
  · have h2 : n < 0 - o := by omega
    clear h
    go_enter Try.func20, Try.ntmps20
    go_wp2_with fail
    refine bodyPost_ret (v := .tuple #[.agg #[.int .i64 0, .int .i64 0, .int .i64 0, .int .i64 0], .int .i64 2]) (by simp [results, Try.results20, go_sem]) rfl ⟨rfl, by go_grown⟩
  · have h2 : 4096 - c < n := by omega
    have h3 : ¬ n < 0 - o := by omega
    clear h
    go_enter Try.func20, Try.ntmps20
    go_wp2_with fail
    refine bodyPost_ret (v := .tuple #[.agg #[.int .i64 0, .int .i64 0, .int .i64 0, .int .i64 0], .int .i64 2]) (by simp [results, Try.results20, go_sem]) rfl ⟨rfl, by go_grown⟩
theorem shift_yes (p o c s n : Int) (hp : 0 ≤ p) (ho : 0 ≤ o) (hoc : o ≤ c) (hc : c ≤ 4096) (h1 : ¬ n < -o) (h2 : ¬ 4096 - c < n) (w : World) : Calls Try.prog 20 #[.agg #[.int .i64 p, .int .i64 o, .int .i64 c, .int .i64 s], .int .i64 n] w fun e w' => e = .returned (.tuple #[.agg #[.int .i64 p, .int .i64 (o + n), .int .i64 (c + n), .int .i64 s], .int .i64 0]) ∧ Below w.heap.size w w' := by
  have hp1 : (p == -1) = false := ne_eqI (by omega)
  have h3 : ¬ n < 0 - o := by omega
  go_enter Try.func20, Try.ntmps20
  go_wp2_with fail
  refine bodyPost_ret (v := .tuple #[.agg #[.int .i64 p, .int .i64 (o + n), .int .i64 (c + n), .int .i64 s], .int .i64 0]) (by simp [results, Try.results20, go_sem]) rfl ⟨rfl, by go_grown⟩

end Go.Proofs.Ytmkdbmeaiehnbaa.V
