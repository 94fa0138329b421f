/-
  DERIVED. The walk of layer 4's examples; equal answers of the program and of the specification.
-/
import Derived.Test.YthamlnolfagpiaaGreatDoorRatioIf
namespace Go.Proofs.YthamlnolfagpiaaGreatDoor.D
open Go.RowKit
set_option maxRecDepth 8000

theorem awake_any (w : World) (hT : Tab w) :
    Calls Tryz.prog 11 #[] w fun e w' => e = .returned (.bool true) ∧ Below w.heap.size w w' := by
  have EA : Hid (∀ w : World, Tab w → Calls Tryz.prog 24 #[.string ⟨#[49, 47, 50]⟩, .string ⟨#[49, 47, 51]⟩] w fun e w' => e = .returned (.tuple #[.string ⟨#[53, 47, 54]⟩, .int .i64 0]) ∧ Below w.heap.size w w') := by
    intro w ht
    rw [t12, t13, t56]
    exact rAdd_r (mkRat 1 2) (mkRat 1 3) (mkRat 5 6) (by decide +kernel) (szL (by decide +kernel) (by decide +kernel) (by omega)) (szL (by decide +kernel) (by decide +kernel) (by omega)) w ht
  have EM : Hid (∀ w : World, Tab w → Calls Tryz.prog 32 #[.string ⟨#[54]⟩, .string ⟨#[45, 52]⟩] w fun e w' => e = .returned (.tuple #[.string ⟨#[45, 51, 47, 50]⟩, .int .i64 0]) ∧ Below w.heap.size w w') := by
    intro w ht
    rw [p6, m4, t32]
    exact rMake_num 6 (-4) (mkRat (-3) 2) (by decide) (by decide +kernel) (Nat.le_trans (nd_le _ 0 (by decide)) (by omega)) (Nat.le_trans (nd_le _ 0 (by decide)) (by omega)) w ht
  have EF : Hid (∀ w : World, Tab w → Calls Tryz.prog 16 #[.string ⟨#[45, 51, 47, 50]⟩] w fun e w' => e = .returned (.tuple #[.string ⟨#[45, 50]⟩, .int .i64 0]) ∧ Below w.heap.size w w') := by
    intro w ht
    rw [t32, m2]
    exact rFloor_r (mkRat (-3) 2) (-2) (by decide +kernel) (szL (by decide +kernel) (by decide +kernel) (by omega)) w ht
  have EC : Hid (∀ w : World, Tab w → Calls Tryz.prog 20 #[.string ⟨#[49, 47, 51]⟩, .string ⟨#[49, 47, 50]⟩] w fun e w' => e = .returned (.int .i64 (-1)) ∧ Below w.heap.size w w') := by
    intro w ht
    rw [t12, t13]
    exact rCompare_r (mkRat 1 3) (mkRat 1 2) (-1) (by decide +kernel) (szL (by decide +kernel) (by decide +kernel) (by omega)) (szL (by decide +kernel) (by decide +kernel) (by omega)) w ht
  have ER : Hid (∀ w : World, Tab w → Calls Tryz.prog 14 #[.string ⟨#[45, 51, 47, 52]⟩] w fun e w' => e = .returned (.bool true) ∧ Below w.heap.size w w') := by
    intro w ht
    have := rRight_any ⟨#[45, 51, 47, 52]⟩ (by decide) w ht
    rwa [show rightR (⟨#[45, 51, 47, 52]⟩ : ByteArray).data.toList = true by rw [t34]; exact rightR_rtx (r := mkRat (-3) 4) (szL (by decide +kernel) (by decide +kernel) (by omega))] at this
  have EN : Hid (∀ w : World, Tab w → Calls Tryz.prog 14 #[.string ⟨#[50, 47, 52]⟩] w fun e w' => e = .returned (.bool false) ∧ Below w.heap.size w w') := by
    intro w ht
    have := rRight_any ⟨#[50, 47, 52]⟩ (by decide) w ht
    rwa [show rightR (⟨#[50, 47, 52]⟩ : ByteArray).data.toList = false from t24] at this
  go_enter Tryz.func11, Tryz.ntmps11
  have B0 : Below w.heap.size w w := Below.refl _ _
  have T0 := hT
  go_wp2_with fail
  refine (EA.out _ T0).mono ?_
  rintro e w1 ⟨rfl, b1⟩
  have B1 := over4 B0 b1
  have T1 := T0.below (Nat.le_refl _) b1
  clear B0 b1 T0
  go_wp2_with fail
  refine (EM.out _ T1).mono ?_
  rintro e w2 ⟨rfl, b2⟩
  have B2 := over4 B1 b2
  have T2 := T1.below (Nat.le_refl _) b2
  clear B1 b2 T1
  go_wp2_with fail
  refine (EF.out _ T2).mono ?_
  rintro e w3 ⟨rfl, b3⟩
  have B3 := over4 B2 b3
  have T3 := T2.below (Nat.le_refl _) b3
  clear B2 b3 T2
  go_wp2_with fail
  refine (EC.out _ T3).mono ?_
  rintro e w4 ⟨rfl, b4⟩
  have B4 := over4 B3 b4
  have T4 := T3.below (Nat.le_refl _) b4
  clear B3 b4 T3
  go_wp2_with fail
  refine (ER.out _ T4).mono ?_
  rintro e w5 ⟨rfl, b5⟩
  have B5 := over4 B4 b5
  have T5 := T4.below (Nat.le_refl _) b5
  clear B4 b5 T4
  go_wp2_with fail
  refine (EN.out _ T5).mono ?_
  rintro e w6 ⟨rfl, b6⟩
  have B6 := over4 B5 b6
  have T6 := T5.below (Nat.le_refl _) b6
  clear B5 b6 T5
  go_wp2_with fail
  go_ret
  exact ⟨rfl, B6⟩

theorem short_e (a b : ByteArray) (q : Bool) (hq : Hid ((decide (a.size ≤ 300) && decide (b.size ≤ 300)) = q)) (w : World) :
    Calls Tryz.prog 10 #[.string a, .string b] w fun e w' => e = .returned (.bool q) ∧ Below w.heap.size w w' := by
  by_cases h1 : a.size ≤ 300
  · by_cases h2 : b.size ≤ 300
    · have HK : Hid (q = true) := by show _ = _; rw [← hq.out, decide_eq_true h1, decide_eq_true h2]; rfl
      go_enter Tryz.func10, Tryz.ntmps10
      go_wp2_with fail
      go_ret
      exact ⟨ret_bool (by rw [HK.out]; exact decide_eq_true (by omega)), Below.refl _ _⟩
    · have HK : Hid (q = false) := by show _ = _; rw [← hq.out, decide_eq_true h1, decide_eq_false h2]; rfl
      have h2' : 300 < b.size := by omega
      clear h2
      go_enter Tryz.func10, Tryz.ntmps10
      go_wp2_with fail
      go_ret
      exact ⟨ret_bool (by rw [HK.out]; exact decide_eq_false (by omega)), Below.refl _ _⟩
  · have HK : Hid (q = false) := by show _ = _; rw [← hq.out, decide_eq_false h1]; rfl
    have h1' : 300 < a.size := by omega
    clear h1
    go_enter Tryz.func10, Tryz.ntmps10
    go_wp2_with fail
    go_ret
    exact ⟨ret_bool HK.out.symm, Below.refl _ _⟩

/-- the program and the specification answer alike -/
def Two (f g : FuncId) (args : Array Value) (v : Value) : Prop :=
  (∀ w : World, Tab w → Calls Tryz.prog f args w fun e w' => e = .returned v ∧ Below w.heap.size w w') ∧ (∀ w : World, Calls Tryz.prog g args w fun e w' => e = .returned v ∧ Below w.heap.size w w')
theorem str_cases (a : ByteArray) (ha : a.size ≤ 300) : rightR a.data.toList = false ∨ ∃ r : Rat, a = rtx r ∧ Sz 300 r := by
  cases h : rightR a.data.toList
  · exact .inl rfl
  · obtain ⟨r, _, rfl⟩ := rightR_str a h
    exact .inr ⟨r, rfl, sz_of ha⟩
theorem two_right (a : ByteArray) (ha : a.size ≤ 300) : ∃ q, Two 14 15 #[.string a] (.bool q) :=
  ⟨_, fun w ht => rRight_any a (by omega) w ht, fun w => refRight4_any a (by omega) w⟩
theorem two_parts (a : ByteArray) (ha : a.size ≤ 300) : ∃ p q e, Two 12 13 #[.string a] (.tuple #[.string p, .string q, .int .i64 e]) := by
  rcases str_cases a ha with h | ⟨r, rfl, hr⟩
  · exact ⟨_, _, _, fun w ht => rParts_bad a h (by omega) w ht, fun w => parts4_bad a h (by omega) w⟩
  · exact ⟨_, _, _, fun w ht => rParts_r r (sz_mono hr (by omega)) w ht, fun w => parts4_r r (by omega) w⟩
theorem two_sign (a : ByteArray) (ha : a.size ≤ 300) : ∃ c, Two 22 23 #[.string a] (.int .i64 c) := by
  rcases str_cases a ha with h | ⟨r, rfl, hr⟩
  · exact ⟨_, fun w ht => rSign_bad a h (by omega) w ht, fun w => sign4_bad a h (by omega) w⟩
  · exact ⟨_, fun w ht => rSign_r r _ rfl (sz_mono hr (by omega)) w ht, fun w => sign4_r r _ rfl (sz_mono hr (by omega)) w⟩
theorem two_floor (a : ByteArray) (ha : a.size ≤ 300) : ∃ s e, Two 16 17 #[.string a] (.tuple #[.string s, .int .i64 e]) := by
  rcases str_cases a ha with h | ⟨r, rfl, hr⟩
  · exact ⟨_, _, fun w ht => rFloor_bad a h (by omega) w ht, fun w => floor4_bad a h (by omega) w⟩
  · exact ⟨_, _, fun w ht => rFloor_r r _ rfl (sz_mono hr (by omega)) w ht, fun w => floor4_r r _ rfl (sz_mono hr (by omega)) w⟩
theorem two_ceil (a : ByteArray) (ha : a.size ≤ 300) : ∃ s e, Two 18 19 #[.string a] (.tuple #[.string s, .int .i64 e]) := by
  rcases str_cases a ha with h | ⟨r, rfl, hr⟩
  · exact ⟨_, _, fun w ht => rCeil_bad a h (by omega) w ht, fun w => ceil4_bad a h (by omega) w⟩
  · exact ⟨_, _, fun w ht => rCeil_r r _ rfl (sz_mono hr (by omega)) w ht, fun w => ceil4_r r _ rfl (sz_mono hr (by omega)) w⟩
theorem two_compare (a b : ByteArray) (ha : a.size ≤ 300) (hb : b.size ≤ 300) : ∃ c, Two 20 21 #[.string a, .string b] (.int .i64 c) := by
  rcases str_cases a ha with h | ⟨r, rfl, hr⟩
  · exact ⟨_, fun w ht => rCompare_bad a b (.inl h) (by omega) (by omega) w ht, fun w => compare4_bad a b (.inl h) (by omega) (by omega) w⟩
  rcases str_cases b hb with h | ⟨s, rfl, hs⟩
  · exact ⟨_, fun w ht => rCompare_bad _ b (.inr h) (by omega) (by omega) w ht, fun w => compare4_bad _ b (.inr h) (by omega) (by omega) w⟩
  · exact ⟨_, fun w ht => rCompare_r r s _ rfl (sz_mono hr (by omega)) (sz_mono hs (by omega)) w ht, fun w => compare4_r r s _ rfl (sz_mono hr (by omega)) (sz_mono hs (by omega)) w⟩
theorem two_add (a b : ByteArray) (ha : a.size ≤ 300) (hb : b.size ≤ 300) : ∃ s e, Two 24 25 #[.string a, .string b] (.tuple #[.string s, .int .i64 e]) := by
  rcases str_cases a ha with h | ⟨r, rfl, hr⟩
  · exact ⟨_, _, fun w ht => rAdd_bad a b (.inl h) (by omega) (by omega) w ht, fun w => add4_bad a b (.inl h) (by omega) (by omega) w⟩
  rcases str_cases b hb with h | ⟨s, rfl, hs⟩
  · exact ⟨_, _, fun w ht => rAdd_bad _ b (.inr h) (by omega) (by omega) w ht, fun w => add4_bad _ b (.inr h) (by omega) (by omega) w⟩
  · exact ⟨_, _, fun w ht => rAdd_r r s _ rfl (sz_mono hr (by omega)) (sz_mono hs (by omega)) w ht, fun w => add4_r r s (sz_mono hr (by omega)) (sz_mono hs (by omega)) w⟩
theorem two_sub (a b : ByteArray) (ha : a.size ≤ 300) (hb : b.size ≤ 300) : ∃ s e, Two 26 27 #[.string a, .string b] (.tuple #[.string s, .int .i64 e]) := by
  rcases str_cases a ha with h | ⟨r, rfl, hr⟩
  · exact ⟨_, _, fun w ht => rSub_bad a b (.inl h) (by omega) (by omega) w ht, fun w => sub4_bad a b (.inl h) (by omega) (by omega) w⟩
  rcases str_cases b hb with h | ⟨s, rfl, hs⟩
  · exact ⟨_, _, fun w ht => rSub_bad _ b (.inr h) (by omega) (by omega) w ht, fun w => sub4_bad _ b (.inr h) (by omega) (by omega) w⟩
  · exact ⟨_, _, fun w ht => rSub_r r s _ rfl (sz_mono hr (by omega)) (sz_mono hs (by omega)) w ht, fun w => sub4_r r s (sz_mono hr (by omega)) (sz_mono hs (by omega)) w⟩
theorem two_mul (a b : ByteArray) (ha : a.size ≤ 300) (hb : b.size ≤ 300) : ∃ s e, Two 28 29 #[.string a, .string b] (.tuple #[.string s, .int .i64 e]) := by
  rcases str_cases a ha with h | ⟨r, rfl, hr⟩
  · exact ⟨_, _, fun w ht => rMul_bad a b (.inl h) (by omega) (by omega) w ht, fun w => mul4_bad a b (.inl h) (by omega) (by omega) w⟩
  rcases str_cases b hb with h | ⟨s, rfl, hs⟩
  · exact ⟨_, _, fun w ht => rMul_bad _ b (.inr h) (by omega) (by omega) w ht, fun w => mul4_bad _ b (.inr h) (by omega) (by omega) w⟩
  · exact ⟨_, _, fun w ht => rMul_r r s _ rfl (sz_mono hr (by omega)) (sz_mono hs (by omega)) w ht, fun w => mul4_r r s (sz_mono hr (by omega)) (sz_mono hs (by omega)) w⟩
theorem two_div (a b : ByteArray) (ha : a.size ≤ 300) (hb : b.size ≤ 300) : ∃ s e, Two 30 31 #[.string a, .string b] (.tuple #[.string s, .int .i64 e]) := by
  rcases str_cases a ha with h | ⟨r, rfl, hr⟩
  · exact ⟨_, _, fun w ht => rDiv_bad a b (.inl h) (by omega) (by omega) w ht, fun w => div4_bad a b (.inl h) (by omega) (by omega) w⟩
  rcases str_cases b hb with h | ⟨s, rfl, hs⟩
  · exact ⟨_, _, fun w ht => rDiv_bad _ b (.inr h) (by omega) (by omega) w ht, fun w => div4_bad _ b (.inr h) (by omega) (by omega) w⟩
  by_cases h0 : s = 0
  · subst h0
    exact ⟨_, _, fun w ht => rDiv_zero r (sz_mono hr (by omega)) w ht, fun w => div4_zero r (sz_mono hr (by omega)) w⟩
  · exact ⟨_, _, fun w ht => rDiv_r r s _ h0 rfl (sz_mono hr (by omega)) (sz_mono hs (by omega)) w ht, fun w => div4_r r s h0 (sz_mono hr (by omega)) (sz_mono hs (by omega)) w⟩
theorem two_make (a b : ByteArray) (ha : a.size ≤ 300) (hb : b.size ≤ 300) : ∃ s e, Two 32 33 #[.string a, .string b] (.tuple #[.string s, .int .i64 e]) ∧ ((e != 0) = true ∨ (e = 0 ∧ rightR s.data.toList = true ∧ s.size ≤ 100000)) := by
  cases h1 : rightI a.data.toList
  · exact ⟨_, _, ⟨fun w ht => rMake_bad a b (.inl h1) (by omega) (by omega) w ht, fun w => make4_bad a b (.inl h1) (by omega) (by omega) w⟩, .inl (by decide)⟩
  cases h2 : rightI b.data.toList
  · exact ⟨_, _, ⟨fun w ht => rMake_bad a b (.inr h2) (by omega) (by omega) w ht, fun w => make4_bad a b (.inr h2) (by omega) (by omega) w⟩, .inl (by decide)⟩
  obtain ⟨x, rfl⟩ := rightI_str a h1
  obtain ⟨y, rfl⟩ := rightI_str b h2
  have hx := nd_sz ha
  have hy := nd_sz hb
  by_cases h0 : y = 0
  · subst h0
    exact ⟨_, _, ⟨fun w ht => rMake_zero x (by omega) w ht, fun w => make4_zero x (by omega) w⟩, .inl (by decide)⟩
  · have hsz := sz_divInt h0 hx hy
    exact ⟨_, _, ⟨fun w ht => rMake_num x y _ h0 rfl (by omega) (by omega) w ht, fun w => make4_num x y h0 (by omega) (by omega) w⟩, .inr ⟨rfl, rightR_rtx (sz_mono hsz (by omega)), by have := sz_text (sz_mono hsz (show 300 ≤ 1900 by omega)); omega⟩⟩

end Go.Proofs.YthamlnolfagpiaaGreatDoor.D

