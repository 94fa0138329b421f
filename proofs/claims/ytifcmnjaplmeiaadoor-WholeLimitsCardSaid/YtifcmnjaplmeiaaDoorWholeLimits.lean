/-
  DERIVED. The walk of WholeLimits.
-/
import Derived.Test.YtifcmnjaplmeiaaDoorWholeNines
namespace Go.Proofs.YtifcmnjaplmeiaaDoor.D
open Go.RowKit
set_option maxRecDepth 8000

theorem nd_pow' (u k : Nat) (h1 : 10 ^ k ≤ u) (h2 : u < 10 ^ (k + 1)) : nd u = k + 1 :=
  Nat.le_antisymm (nd_le u k h2) (le_nd u k h1)
theorem lim_facts (neg : Bool) (N : Nat) (hN : 1 ≤ N) (z : Int) (hz : sgn neg (10 ^ N - 1) = z) : nd z.natAbs = N ∧ nd (z + sgn neg 1).natAbs = N + 1 ∧ nd (z * 10).natAbs = N + 1 := by
  obtain ⟨k, rfl⟩ : ∃ k, N = k + 1 := ⟨N - 1, by omega⟩
  have h0 := ten_pos' k
  have h1 := pow_ten' k
  have h2 := pow_ten' (k + 1)
  have e1 : z.natAbs = 10 ^ (k + 1) - 1 := by rw [← hz, sgn_abs]
  have e2 : (z + sgn neg 1).natAbs = 10 ^ (k + 1) := by
    generalize 10 ^ (k + 1) = T at *
    cases neg <;> simp [sgn] at hz ⊢ <;> omega
  have e3 : (z * 10).natAbs = (10 ^ (k + 1) - 1) * 10 := by rw [Int.natAbs_mul, e1]; rfl
  rw [e1, e2, e3]
  refine ⟨nd_pow' _ k (by omega) (by omega), nd_pow' _ (k + 1) (Nat.le_refl _) (by omega), nd_pow' _ (k + 1) (by omega) (by omega)⟩
theorem fmd_one (z : Int) : fmd z 1 = 0 := by have := fmd_lt z 1 (by decide); omega
theorem fdv_one (z : Int) : fdv z 1 = z := by have := fdv_mul z 1 (by decide); rw [fmd_one] at this; omega
theorem nines_i (i : Int) (neg : Bool) (n : Nat) (hi : i = (n : Int)) (h1 : 1 ≤ n) (hn : n ≤ 5000) (z : Int) (hz : Hid (sgn neg (10 ^ n - 1) = z)) (w : World) :
    Calls Tryd.prog 34 #[.int .i64 i, .bool neg] w fun e w' => e = .returned (.string (inum z)) ∧ Below w.heap.size w w' := by
  subst hi; exact nines_any neg n h1 hn z hz w
theorem i10 : (⟨#[49, 48]⟩ : ByteArray) = inum 10 := lit_pos [49, 48] 10 (by decide) (by decide)
theorem lit_num2 {P : Program} {f : FuncId} {w : World} {s : Value} {a b : ByteArray} {Q : Ending → World → Prop} (h : a = b) (k : Calls P f #[s, .string b] w Q) : Calls P f #[s, .string a] w Q := by rw [h]; exact k
theorem neg_neg_sgn (neg : Bool) (n : Nat) (z : Int) (hz : sgn neg n = z) : sgn (!neg) n = -z := by rw [← hz]; cases neg <;> simp [sgn]

set_option maxRecDepth 100000 in
set_option maxHeartbeats 2000000 in
theorem limits_small_false (m N : Nat) (hm : m ≤ 255) (hN : (4094 + (m : Int) % 5) = (N : Int)) (h3 : N < 4096) (w : World) (hT : Tab w) :
    Calls Tryd.prog 7 #[.int .u8 (m : Int), .bool false] w fun e w' => e = .returned (.bool true) ∧ Below w.heap.size w w' := by
  obtain ⟨z, hz⟩ : ∃ z, sgn false (10 ^ N - 1) = z := ⟨_, rfl⟩
  obtain ⟨f1, f2, f3⟩ := lim_facts false N (by omega) z hz
  have HZ := Lib.hid hz
  have HZ' : Hid (sgn true (10 ^ N - 1) = -z) := Lib.hid (neg_neg_sgn false _ z hz)
  have hsz : (inum z).size ≤ 5000 := by have := szk (x := z) (k := N) (by omega); omega
  obtain ⟨s, hs⟩ : ∃ s, z + 1 = s := ⟨_, rfl⟩
  obtain ⟨p, hp⟩ : ∃ p, z * 10 = p := ⟨_, rfl⟩
  rw [show sgn false 1 = 1 from rfl, hs] at f2
  rw [hp] at f3
  have n1 : nd (1 : Int).natAbs ≤ 4096 := nd_small (by decide)
  have n10 : nd (10 : Int).natAbs ≤ 4096 := nd_small (by decide)
  have s1 : (inum 1).size ≤ 100000 := by have := szk n1; omega
  have s10 : (inum 10).size ≤ 100000 := by have := szk n10; omega
  have HS := Lib.hid hs
  have HP := Lib.hid hp
  have hze := zero_eqI 0
  rw [decide_eq_true rfl] at hze
  have G : Hid (nd z.natAbs = N ∧ nd s.natAbs = N + 1 ∧ nd p.natAbs = N + 1) := Lib.hid ⟨f1, f2, f3⟩
  have HNN : Hid (N < 4096) := Lib.hid h3
  clear hz hs hp f1 f2 f3
  skip
  go_enter Tryd.func7, Tryd.ntmps7
  have B0 : Below w.heap.size w w := Below.refl _ _
  have T0 := hT
  go_wp2_with fail
  refine (nines_i _ false N (by omega) (by omega) (by omega) z HZ _).mono ?_
  rintro e w1 ⟨rfl, b1⟩
  have B1 := B0.trans (b1.mono B0.size)
  have T1 := T0.below (Nat.le_refl _) b1
  clear B0 b1 T0
  go_wp2_with fail
  refine (lit_num2 i1 (wAdd_num z 1 s HS (by have := G.out; have := HNN.out; omega) n1 (by have := G.out; have := HNN.out; omega) _ T1)).mono ?_
  rintro e w2 ⟨rfl, b2⟩
  have B2 := B1.trans (b2.mono B1.size)
  have T2 := T1.below (Nat.le_refl _) b2
  clear B1 b2 T1
  go_wp2_with fail
  refine (lit_num2 i10 (wMul_num z 10 p HP (by have := G.out; have := HNN.out; omega) n10 (by have := G.out; have := HNN.out; omega) _ T2)).mono ?_
  rintro e w3 ⟨rfl, b3⟩
  have B3 := B2.trans (b3.mono B2.size)
  have T3 := T2.below (Nat.le_refl _) b3
  clear B2 b3 T2
  go_wp2_with fail
  refine (wNeg_num z (by have := G.out; have := HNN.out; omega) _ T3).mono ?_
  rintro e w4 ⟨rfl, b4⟩
  have B4 := B3.trans (b4.mono B3.size)
  have T4 := T3.below (Nat.le_refl _) b4
  clear B3 b4 T3
  go_wp2_with fail
  refine (lit_num2 i1 (wDiv_num z 1 z 0 (by decide) (Lib.hid (fdv_one z)) (Lib.hid (fmd_one z)) (by have := G.out; have := HNN.out; omega) (nd_small (by decide)) _ T4)).mono ?_
  rintro e w5 ⟨rfl, b5⟩
  have B5 := B4.trans (b5.mono B4.size)
  have T5 := T4.below (Nat.le_refl _) b5
  clear B4 b5 T4
  go_wp2_with fail
  refine (wInt_over z (by have := G.out; have := HNN.out; omega) (by omega) _ T5).mono ?_
  rintro e w6 ⟨rfl, b6⟩
  have B6 := B5.trans (b6.mono B5.size)
  have T6 := T5.below (Nat.le_refl _) b6
  clear B5 b6 T5
  go_wp2_with fail
  refine (wRight_e _ true (right_inum z) (by omega) _ T6).mono ?_
  rintro e w7 ⟨rfl, b7⟩
  have B7 := B6.trans (b7.mono B6.size)
  have T7 := T6.below (Nat.le_refl _) b7
  clear B6 b7 T6
  go_wp2_with fail
  refine (nines_i _ true N (by omega) (by omega) (by omega) (-z) HZ' _).mono ?_
  rintro e w8 ⟨rfl, b8⟩
  have B8 := B7.trans (b8.mono B7.size)
  have T8 := T7.below (Nat.le_refl _) b8
  clear B7 b8 T7
  go_wp2_with fail
  refine (examples3_any _ T8).mono ?_
  rintro e w9 ⟨rfl, b9⟩
  have B9 := B8.trans (b9.mono B8.size)
  have T9 := T8.below (Nat.le_refl _) b9
  clear B8 b9 T8
  go_wp2_with fail
  go_ret
  exact ⟨rfl, B9⟩

set_option maxRecDepth 100000 in
set_option maxHeartbeats 2000000 in
theorem limits_edge_false (m N : Nat) (hm : m ≤ 255) (hN : (4094 + (m : Int) % 5) = (N : Int)) (h3 : N = 4096) (w : World) (hT : Tab w) :
    Calls Tryd.prog 7 #[.int .u8 (m : Int), .bool false] w fun e w' => e = .returned (.bool true) ∧ Below w.heap.size w w' := by
  obtain ⟨z, hz⟩ : ∃ z, sgn false (10 ^ N - 1) = z := ⟨_, rfl⟩
  obtain ⟨f1, f2, f3⟩ := lim_facts false N (by omega) z hz
  have HZ := Lib.hid hz
  have HZ' : Hid (sgn true (10 ^ N - 1) = -z) := Lib.hid (neg_neg_sgn false _ z hz)
  have hsz : (inum z).size ≤ 5000 := by have := szk (x := z) (k := N) (by omega); omega
  obtain ⟨s, hs⟩ : ∃ s, z + 1 = s := ⟨_, rfl⟩
  obtain ⟨p, hp⟩ : ∃ p, z * 10 = p := ⟨_, rfl⟩
  rw [show sgn false 1 = 1 from rfl, hs] at f2
  rw [hp] at f3
  have n1 : nd (1 : Int).natAbs ≤ 4096 := nd_small (by decide)
  have n10 : nd (10 : Int).natAbs ≤ 4096 := nd_small (by decide)
  have s1 : (inum 1).size ≤ 100000 := by have := szk n1; omega
  have s10 : (inum 10).size ≤ 100000 := by have := szk n10; omega
  have HS := Lib.hid hs
  have HP := Lib.hid hp
  have hze := zero_eqI 0
  rw [decide_eq_true rfl] at hze
  have G : Hid (nd z.natAbs = N ∧ nd s.natAbs = N + 1 ∧ nd p.natAbs = N + 1) := Lib.hid ⟨f1, f2, f3⟩
  have HNN : Hid (N = 4096) := Lib.hid h3
  clear hz hs hp f1 f2 f3 h3
  have hNe : (N : Int) = 4096 := by have := HNN.out; omega
  go_enter Tryd.func7, Tryd.ntmps7
  have B0 : Below w.heap.size w w := Below.refl _ _
  have T0 := hT
  go_wp2_with fail
  refine (nines_i _ false N (by omega) (by omega) (by omega) z HZ _).mono ?_
  rintro e w1 ⟨rfl, b1⟩
  have B1 := B0.trans (b1.mono B0.size)
  have T1 := T0.below (Nat.le_refl _) b1
  clear B0 b1 T0
  go_wp2_with fail
  refine (lit_num2 i1 (wAdd_over z 1 s HS (by have := G.out; have := HNN.out; omega) n1 (by have := G.out; have := HNN.out; omega) _ T1)).mono ?_
  rintro e w2 ⟨rfl, b2⟩
  have B2 := B1.trans (b2.mono B1.size)
  have T2 := T1.below (Nat.le_refl _) b2
  clear B1 b2 T1
  go_wp2_with fail
  refine (lit_num2 i10 (wMul_over z 10 p HP (by have := G.out; have := HNN.out; omega) n10 (by have := G.out; have := HNN.out; omega) _ T2)).mono ?_
  rintro e w3 ⟨rfl, b3⟩
  have B3 := B2.trans (b3.mono B2.size)
  have T3 := T2.below (Nat.le_refl _) b3
  clear B2 b3 T2
  go_wp2_with fail
  refine (wNeg_num z (by have := G.out; have := HNN.out; omega) _ T3).mono ?_
  rintro e w4 ⟨rfl, b4⟩
  have B4 := B3.trans (b4.mono B3.size)
  have T4 := T3.below (Nat.le_refl _) b4
  clear B3 b4 T3
  go_wp2_with fail
  refine (lit_num2 i1 (wDiv_num z 1 z 0 (by decide) (Lib.hid (fdv_one z)) (Lib.hid (fmd_one z)) (by have := G.out; have := HNN.out; omega) (nd_small (by decide)) _ T4)).mono ?_
  rintro e w5 ⟨rfl, b5⟩
  have B5 := B4.trans (b5.mono B4.size)
  have T5 := T4.below (Nat.le_refl _) b5
  clear B4 b5 T4
  go_wp2_with fail
  refine (wInt_over z (by have := G.out; have := HNN.out; omega) (by omega) _ T5).mono ?_
  rintro e w6 ⟨rfl, b6⟩
  have B6 := B5.trans (b6.mono B5.size)
  have T6 := T5.below (Nat.le_refl _) b6
  clear B5 b6 T5
  go_wp2_with fail
  refine (wRight_e _ true (right_inum z) (by omega) _ T6).mono ?_
  rintro e w7 ⟨rfl, b7⟩
  have B7 := B6.trans (b7.mono B6.size)
  have T7 := T6.below (Nat.le_refl _) b7
  clear B6 b7 T6
  go_wp2_with fail
  refine (nines_i _ true N (by omega) (by omega) (by omega) (-z) HZ' _).mono ?_
  rintro e w8 ⟨rfl, b8⟩
  have B8 := B7.trans (b8.mono B7.size)
  have T8 := T7.below (Nat.le_refl _) b8
  clear B7 b8 T7
  go_wp2_with fail
  refine (examples3_any _ T8).mono ?_
  rintro e w9 ⟨rfl, b9⟩
  have B9 := B8.trans (b9.mono B8.size)
  have T9 := T8.below (Nat.le_refl _) b9
  clear B8 b9 T8
  go_wp2_with fail
  go_ret
  exact ⟨rfl, B9⟩

set_option maxRecDepth 100000 in
set_option maxHeartbeats 2000000 in
theorem limits_big_false (m N : Nat) (hm : m ≤ 255) (hN : (4094 + (m : Int) % 5) = (N : Int)) (h3 : 4096 < N) (w : World) (hT : Tab w) :
    Calls Tryd.prog 7 #[.int .u8 (m : Int), .bool false] w fun e w' => e = .returned (.bool true) ∧ Below w.heap.size w w' := by
  obtain ⟨z, hz⟩ : ∃ z, sgn false (10 ^ N - 1) = z := ⟨_, rfl⟩
  obtain ⟨f1, f2, f3⟩ := lim_facts false N (by omega) z hz
  have HZ := Lib.hid hz
  have HZ' : Hid (sgn true (10 ^ N - 1) = -z) := Lib.hid (neg_neg_sgn false _ z hz)
  have hsz : (inum z).size ≤ 5000 := by have := szk (x := z) (k := N) (by omega); omega
  obtain ⟨s, hs⟩ : ∃ s, z + 1 = s := ⟨_, rfl⟩
  obtain ⟨p, hp⟩ : ∃ p, z * 10 = p := ⟨_, rfl⟩
  rw [show sgn false 1 = 1 from rfl, hs] at f2
  rw [hp] at f3
  have n1 : nd (1 : Int).natAbs ≤ 4096 := nd_small (by decide)
  have n10 : nd (10 : Int).natAbs ≤ 4096 := nd_small (by decide)
  have s1 : (inum 1).size ≤ 100000 := by have := szk n1; omega
  have s10 : (inum 10).size ≤ 100000 := by have := szk n10; omega
  have HS := Lib.hid hs
  have HP := Lib.hid hp
  have hze := zero_eqI 0
  rw [decide_eq_true rfl] at hze
  have G : Hid (nd z.natAbs = N ∧ nd s.natAbs = N + 1 ∧ nd p.natAbs = N + 1) := Lib.hid ⟨f1, f2, f3⟩
  have HNN : Hid (4096 < N) := Lib.hid h3
  clear hz hs hp f1 f2 f3
  skip
  go_enter Tryd.func7, Tryd.ntmps7
  have B0 : Below w.heap.size w w := Below.refl _ _
  have T0 := hT
  go_wp2_with fail
  refine (nines_i _ false N (by omega) (by omega) (by omega) z HZ _).mono ?_
  rintro e w1 ⟨rfl, b1⟩
  have B1 := B0.trans (b1.mono B0.size)
  have T1 := T0.below (Nat.le_refl _) b1
  clear B0 b1 T0
  go_wp2_with fail
  refine (lit_num2 i1 (wAdd_size z 1 (.inl (by have := G.out; have := HNN.out; omega)) (by omega) s1 _ T1)).mono ?_
  rintro e w2 ⟨rfl, b2⟩
  have B2 := B1.trans (b2.mono B1.size)
  have T2 := T1.below (Nat.le_refl _) b2
  clear B1 b2 T1
  go_wp2_with fail
  refine (lit_num2 i10 (wMul_size z 10 (.inl (by have := G.out; have := HNN.out; omega)) (by omega) s10 _ T2)).mono ?_
  rintro e w3 ⟨rfl, b3⟩
  have B3 := B2.trans (b3.mono B2.size)
  have T3 := T2.below (Nat.le_refl _) b3
  clear B2 b3 T2
  go_wp2_with fail
  refine (wNeg_size z (by have := G.out; have := HNN.out; omega) (by omega) _ T3).mono ?_
  rintro e w4 ⟨rfl, b4⟩
  have B4 := B3.trans (b4.mono B3.size)
  have T4 := T3.below (Nat.le_refl _) b4
  clear B3 b4 T3
  go_wp2_with fail
  refine (lit_num2 i1 (wDiv_size z 1 (.inl (by have := G.out; have := HNN.out; omega)) (by omega) (by have := szk (nd_small (z := 1) (by decide)); omega) _ T4)).mono ?_
  rintro e w5 ⟨rfl, b5⟩
  have B5 := B4.trans (b5.mono B4.size)
  have T5 := T4.below (Nat.le_refl _) b5
  clear B4 b5 T4
  go_wp2_with fail
  refine (wInt_over z (by have := G.out; have := HNN.out; omega) (by omega) _ T5).mono ?_
  rintro e w6 ⟨rfl, b6⟩
  have B6 := B5.trans (b6.mono B5.size)
  have T6 := T5.below (Nat.le_refl _) b6
  clear B5 b6 T5
  go_wp2_with fail
  refine (wRight_e _ true (right_inum z) (by omega) _ T6).mono ?_
  rintro e w7 ⟨rfl, b7⟩
  have B7 := B6.trans (b7.mono B6.size)
  have T7 := T6.below (Nat.le_refl _) b7
  clear B6 b7 T6
  go_wp2_with fail
  refine (examples3_any _ T7).mono ?_
  rintro e w8 ⟨rfl, b8⟩
  have B8 := B7.trans (b8.mono B7.size)
  have T8 := T7.below (Nat.le_refl _) b8
  clear B7 b8 T7
  go_wp2_with fail
  go_ret
  exact ⟨rfl, B8⟩

set_option maxRecDepth 100000 in
set_option maxHeartbeats 2000000 in
theorem limits_small_true (m N : Nat) (hm : m ≤ 255) (hN : (4094 + (m : Int) % 5) = (N : Int)) (h3 : N < 4096) (w : World) (hT : Tab w) :
    Calls Tryd.prog 7 #[.int .u8 (m : Int), .bool true] w fun e w' => e = .returned (.bool true) ∧ Below w.heap.size w w' := by
  obtain ⟨z, hz⟩ : ∃ z, sgn true (10 ^ N - 1) = z := ⟨_, rfl⟩
  obtain ⟨f1, f2, f3⟩ := lim_facts true N (by omega) z hz
  have HZ := Lib.hid hz
  have HZ' : Hid (sgn false (10 ^ N - 1) = -z) := Lib.hid (neg_neg_sgn true _ z hz)
  have hsz : (inum z).size ≤ 5000 := by have := szk (x := z) (k := N) (by omega); omega
  obtain ⟨s, hs⟩ : ∃ s, z + (-1) = s := ⟨_, rfl⟩
  obtain ⟨p, hp⟩ : ∃ p, z * 10 = p := ⟨_, rfl⟩
  rw [show sgn true 1 = (-1) from rfl, hs] at f2
  rw [hp] at f3
  have n1 : nd ((-1) : Int).natAbs ≤ 4096 := nd_small (by decide)
  have n10 : nd (10 : Int).natAbs ≤ 4096 := nd_small (by decide)
  have s1 : (inum (-1)).size ≤ 100000 := by have := szk n1; omega
  have s10 : (inum 10).size ≤ 100000 := by have := szk n10; omega
  have HS := Lib.hid hs
  have HP := Lib.hid hp
  have hze := zero_eqI 0
  rw [decide_eq_true rfl] at hze
  have G : Hid (nd z.natAbs = N ∧ nd s.natAbs = N + 1 ∧ nd p.natAbs = N + 1) := Lib.hid ⟨f1, f2, f3⟩
  have HNN : Hid (N < 4096) := Lib.hid h3
  clear hz hs hp f1 f2 f3
  skip
  go_enter Tryd.func7, Tryd.ntmps7
  have B0 : Below w.heap.size w w := Below.refl _ _
  have T0 := hT
  go_wp2_with fail
  refine (nines_i _ true N (by omega) (by omega) (by omega) z HZ _).mono ?_
  rintro e w1 ⟨rfl, b1⟩
  have B1 := B0.trans (b1.mono B0.size)
  have T1 := T0.below (Nat.le_refl _) b1
  clear B0 b1 T0
  go_wp2_with fail
  refine (lit_num2 im1 (wAdd_num z (-1) s HS (by have := G.out; have := HNN.out; omega) n1 (by have := G.out; have := HNN.out; omega) _ T1)).mono ?_
  rintro e w2 ⟨rfl, b2⟩
  have B2 := B1.trans (b2.mono B1.size)
  have T2 := T1.below (Nat.le_refl _) b2
  clear B1 b2 T1
  go_wp2_with fail
  refine (lit_num2 i10 (wMul_num z 10 p HP (by have := G.out; have := HNN.out; omega) n10 (by have := G.out; have := HNN.out; omega) _ T2)).mono ?_
  rintro e w3 ⟨rfl, b3⟩
  have B3 := B2.trans (b3.mono B2.size)
  have T3 := T2.below (Nat.le_refl _) b3
  clear B2 b3 T2
  go_wp2_with fail
  refine (wNeg_num z (by have := G.out; have := HNN.out; omega) _ T3).mono ?_
  rintro e w4 ⟨rfl, b4⟩
  have B4 := B3.trans (b4.mono B3.size)
  have T4 := T3.below (Nat.le_refl _) b4
  clear B3 b4 T3
  go_wp2_with fail
  refine (lit_num2 i1 (wDiv_num z 1 z 0 (by decide) (Lib.hid (fdv_one z)) (Lib.hid (fmd_one z)) (by have := G.out; have := HNN.out; omega) (nd_small (by decide)) _ T4)).mono ?_
  rintro e w5 ⟨rfl, b5⟩
  have B5 := B4.trans (b5.mono B4.size)
  have T5 := T4.below (Nat.le_refl _) b5
  clear B4 b5 T4
  go_wp2_with fail
  refine (wInt_over z (by have := G.out; have := HNN.out; omega) (by omega) _ T5).mono ?_
  rintro e w6 ⟨rfl, b6⟩
  have B6 := B5.trans (b6.mono B5.size)
  have T6 := T5.below (Nat.le_refl _) b6
  clear B5 b6 T5
  go_wp2_with fail
  refine (wRight_e _ true (right_inum z) (by omega) _ T6).mono ?_
  rintro e w7 ⟨rfl, b7⟩
  have B7 := B6.trans (b7.mono B6.size)
  have T7 := T6.below (Nat.le_refl _) b7
  clear B6 b7 T6
  go_wp2_with fail
  refine (nines_i _ false N (by omega) (by omega) (by omega) (-z) HZ' _).mono ?_
  rintro e w8 ⟨rfl, b8⟩
  have B8 := B7.trans (b8.mono B7.size)
  have T8 := T7.below (Nat.le_refl _) b8
  clear B7 b8 T7
  go_wp2_with fail
  refine (examples3_any _ T8).mono ?_
  rintro e w9 ⟨rfl, b9⟩
  have B9 := B8.trans (b9.mono B8.size)
  have T9 := T8.below (Nat.le_refl _) b9
  clear B8 b9 T8
  go_wp2_with fail
  go_ret
  exact ⟨rfl, B9⟩

set_option maxRecDepth 100000 in
set_option maxHeartbeats 2000000 in
theorem limits_edge_true (m N : Nat) (hm : m ≤ 255) (hN : (4094 + (m : Int) % 5) = (N : Int)) (h3 : N = 4096) (w : World) (hT : Tab w) :
    Calls Tryd.prog 7 #[.int .u8 (m : Int), .bool true] w fun e w' => e = .returned (.bool true) ∧ Below w.heap.size w w' := by
  obtain ⟨z, hz⟩ : ∃ z, sgn true (10 ^ N - 1) = z := ⟨_, rfl⟩
  obtain ⟨f1, f2, f3⟩ := lim_facts true N (by omega) z hz
  have HZ := Lib.hid hz
  have HZ' : Hid (sgn false (10 ^ N - 1) = -z) := Lib.hid (neg_neg_sgn true _ z hz)
  have hsz : (inum z).size ≤ 5000 := by have := szk (x := z) (k := N) (by omega); omega
  obtain ⟨s, hs⟩ : ∃ s, z + (-1) = s := ⟨_, rfl⟩
  obtain ⟨p, hp⟩ : ∃ p, z * 10 = p := ⟨_, rfl⟩
  rw [show sgn true 1 = (-1) from rfl, hs] at f2
  rw [hp] at f3
  have n1 : nd ((-1) : Int).natAbs ≤ 4096 := nd_small (by decide)
  have n10 : nd (10 : Int).natAbs ≤ 4096 := nd_small (by decide)
  have s1 : (inum (-1)).size ≤ 100000 := by have := szk n1; omega
  have s10 : (inum 10).size ≤ 100000 := by have := szk n10; omega
  have HS := Lib.hid hs
  have HP := Lib.hid hp
  have hze := zero_eqI 0
  rw [decide_eq_true rfl] at hze
  have G : Hid (nd z.natAbs = N ∧ nd s.natAbs = N + 1 ∧ nd p.natAbs = N + 1) := Lib.hid ⟨f1, f2, f3⟩
  have HNN : Hid (N = 4096) := Lib.hid h3
  clear hz hs hp f1 f2 f3 h3
  have hNe : (N : Int) = 4096 := by have := HNN.out; omega
  go_enter Tryd.func7, Tryd.ntmps7
  have B0 : Below w.heap.size w w := Below.refl _ _
  have T0 := hT
  go_wp2_with fail
  refine (nines_i _ true N (by omega) (by omega) (by omega) z HZ _).mono ?_
  rintro e w1 ⟨rfl, b1⟩
  have B1 := B0.trans (b1.mono B0.size)
  have T1 := T0.below (Nat.le_refl _) b1
  clear B0 b1 T0
  go_wp2_with fail
  refine (lit_num2 im1 (wAdd_over z (-1) s HS (by have := G.out; have := HNN.out; omega) n1 (by have := G.out; have := HNN.out; omega) _ T1)).mono ?_
  rintro e w2 ⟨rfl, b2⟩
  have B2 := B1.trans (b2.mono B1.size)
  have T2 := T1.below (Nat.le_refl _) b2
  clear B1 b2 T1
  go_wp2_with fail
  refine (lit_num2 i10 (wMul_over z 10 p HP (by have := G.out; have := HNN.out; omega) n10 (by have := G.out; have := HNN.out; omega) _ T2)).mono ?_
  rintro e w3 ⟨rfl, b3⟩
  have B3 := B2.trans (b3.mono B2.size)
  have T3 := T2.below (Nat.le_refl _) b3
  clear B2 b3 T2
  go_wp2_with fail
  refine (wNeg_num z (by have := G.out; have := HNN.out; omega) _ T3).mono ?_
  rintro e w4 ⟨rfl, b4⟩
  have B4 := B3.trans (b4.mono B3.size)
  have T4 := T3.below (Nat.le_refl _) b4
  clear B3 b4 T3
  go_wp2_with fail
  refine (lit_num2 i1 (wDiv_num z 1 z 0 (by decide) (Lib.hid (fdv_one z)) (Lib.hid (fmd_one z)) (by have := G.out; have := HNN.out; omega) (nd_small (by decide)) _ T4)).mono ?_
  rintro e w5 ⟨rfl, b5⟩
  have B5 := B4.trans (b5.mono B4.size)
  have T5 := T4.below (Nat.le_refl _) b5
  clear B4 b5 T4
  go_wp2_with fail
  refine (wInt_over z (by have := G.out; have := HNN.out; omega) (by omega) _ T5).mono ?_
  rintro e w6 ⟨rfl, b6⟩
  have B6 := B5.trans (b6.mono B5.size)
  have T6 := T5.below (Nat.le_refl _) b6
  clear B5 b6 T5
  go_wp2_with fail
  refine (wRight_e _ true (right_inum z) (by omega) _ T6).mono ?_
  rintro e w7 ⟨rfl, b7⟩
  have B7 := B6.trans (b7.mono B6.size)
  have T7 := T6.below (Nat.le_refl _) b7
  clear B6 b7 T6
  go_wp2_with fail
  refine (nines_i _ false N (by omega) (by omega) (by omega) (-z) HZ' _).mono ?_
  rintro e w8 ⟨rfl, b8⟩
  have B8 := B7.trans (b8.mono B7.size)
  have T8 := T7.below (Nat.le_refl _) b8
  clear B7 b8 T7
  go_wp2_with fail
  refine (examples3_any _ T8).mono ?_
  rintro e w9 ⟨rfl, b9⟩
  have B9 := B8.trans (b9.mono B8.size)
  have T9 := T8.below (Nat.le_refl _) b9
  clear B8 b9 T8
  go_wp2_with fail
  go_ret
  exact ⟨rfl, B9⟩

set_option maxRecDepth 100000 in
set_option maxHeartbeats 2000000 in
theorem limits_big_true (m N : Nat) (hm : m ≤ 255) (hN : (4094 + (m : Int) % 5) = (N : Int)) (h3 : 4096 < N) (w : World) (hT : Tab w) :
    Calls Tryd.prog 7 #[.int .u8 (m : Int), .bool true] w fun e w' => e = .returned (.bool true) ∧ Below w.heap.size w w' := by
  obtain ⟨z, hz⟩ : ∃ z, sgn true (10 ^ N - 1) = z := ⟨_, rfl⟩
  obtain ⟨f1, f2, f3⟩ := lim_facts true N (by omega) z hz
  have HZ := Lib.hid hz
  have HZ' : Hid (sgn false (10 ^ N - 1) = -z) := Lib.hid (neg_neg_sgn true _ z hz)
  have hsz : (inum z).size ≤ 5000 := by have := szk (x := z) (k := N) (by omega); omega
  obtain ⟨s, hs⟩ : ∃ s, z + (-1) = s := ⟨_, rfl⟩
  obtain ⟨p, hp⟩ : ∃ p, z * 10 = p := ⟨_, rfl⟩
  rw [show sgn true 1 = (-1) from rfl, hs] at f2
  rw [hp] at f3
  have n1 : nd ((-1) : Int).natAbs ≤ 4096 := nd_small (by decide)
  have n10 : nd (10 : Int).natAbs ≤ 4096 := nd_small (by decide)
  have s1 : (inum (-1)).size ≤ 100000 := by have := szk n1; omega
  have s10 : (inum 10).size ≤ 100000 := by have := szk n10; omega
  have HS := Lib.hid hs
  have HP := Lib.hid hp
  have hze := zero_eqI 0
  rw [decide_eq_true rfl] at hze
  have G : Hid (nd z.natAbs = N ∧ nd s.natAbs = N + 1 ∧ nd p.natAbs = N + 1) := Lib.hid ⟨f1, f2, f3⟩
  have HNN : Hid (4096 < N) := Lib.hid h3
  clear hz hs hp f1 f2 f3
  skip
  go_enter Tryd.func7, Tryd.ntmps7
  have B0 : Below w.heap.size w w := Below.refl _ _
  have T0 := hT
  go_wp2_with fail
  refine (nines_i _ true N (by omega) (by omega) (by omega) z HZ _).mono ?_
  rintro e w1 ⟨rfl, b1⟩
  have B1 := B0.trans (b1.mono B0.size)
  have T1 := T0.below (Nat.le_refl _) b1
  clear B0 b1 T0
  go_wp2_with fail
  refine (lit_num2 im1 (wAdd_size z (-1) (.inl (by have := G.out; have := HNN.out; omega)) (by omega) s1 _ T1)).mono ?_
  rintro e w2 ⟨rfl, b2⟩
  have B2 := B1.trans (b2.mono B1.size)
  have T2 := T1.below (Nat.le_refl _) b2
  clear B1 b2 T1
  go_wp2_with fail
  refine (lit_num2 i10 (wMul_size z 10 (.inl (by have := G.out; have := HNN.out; omega)) (by omega) s10 _ T2)).mono ?_
  rintro e w3 ⟨rfl, b3⟩
  have B3 := B2.trans (b3.mono B2.size)
  have T3 := T2.below (Nat.le_refl _) b3
  clear B2 b3 T2
  go_wp2_with fail
  refine (wNeg_size z (by have := G.out; have := HNN.out; omega) (by omega) _ T3).mono ?_
  rintro e w4 ⟨rfl, b4⟩
  have B4 := B3.trans (b4.mono B3.size)
  have T4 := T3.below (Nat.le_refl _) b4
  clear B3 b4 T3
  go_wp2_with fail
  refine (lit_num2 i1 (wDiv_size z 1 (.inl (by have := G.out; have := HNN.out; omega)) (by omega) (by have := szk (nd_small (z := 1) (by decide)); omega) _ T4)).mono ?_
  rintro e w5 ⟨rfl, b5⟩
  have B5 := B4.trans (b5.mono B4.size)
  have T5 := T4.below (Nat.le_refl _) b5
  clear B4 b5 T4
  go_wp2_with fail
  refine (wInt_over z (by have := G.out; have := HNN.out; omega) (by omega) _ T5).mono ?_
  rintro e w6 ⟨rfl, b6⟩
  have B6 := B5.trans (b6.mono B5.size)
  have T6 := T5.below (Nat.le_refl _) b6
  clear B5 b6 T5
  go_wp2_with fail
  refine (wRight_e _ true (right_inum z) (by omega) _ T6).mono ?_
  rintro e w7 ⟨rfl, b7⟩
  have B7 := B6.trans (b7.mono B6.size)
  have T7 := T6.below (Nat.le_refl _) b7
  clear B6 b7 T6
  go_wp2_with fail
  refine (examples3_any _ T7).mono ?_
  rintro e w8 ⟨rfl, b8⟩
  have B8 := B7.trans (b8.mono B7.size)
  have T8 := T7.below (Nat.le_refl _) b8
  clear B7 b8 T7
  go_wp2_with fail
  go_ret
  exact ⟨rfl, B8⟩

theorem wholeLimits_walk (m : Nat) (neg : Bool) (hm : m ≤ 255) (w : World) (hT : Tab w) :
    Calls Tryd.prog 7 #[.int .u8 (m : Int), .bool neg] w fun e w' => e = .returned (.bool true) ∧ Below w.heap.size w w' := by
  have hN : (4094 + (m : Int) % 5) = ((4094 + m % 5 : Nat) : Int) := by omega
  generalize 4094 + m % 5 = N at *
  rcases Nat.lt_trichotomy N 4096 with h | h | h
  · cases neg
    · exact limits_small_false m N hm hN h w hT
    · exact limits_small_true m N hm hN h w hT
  · cases neg
    · exact limits_edge_false m N hm hN h w hT
    · exact limits_edge_true m N hm hN h w hT
  · cases neg
    · exact limits_big_false m N hm hN h w hT
    · exact limits_big_true m N hm hN h w hT

end Go.Proofs.YtifcmnjaplmeiaaDoor.D
