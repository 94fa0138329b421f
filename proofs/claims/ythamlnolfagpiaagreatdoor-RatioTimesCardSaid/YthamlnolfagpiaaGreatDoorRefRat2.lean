/-
  DERIVED. The walks of lorryref04's reduced, Make, Of, both and over.
-/
import Derived.Test.YthamlnolfagpiaaGreatDoorRefRat1
import Derived.Handy
namespace Go.Proofs.YthamlnolfagpiaaGreatDoor.D
open Go.RowKit
set_option maxRecDepth 8000

/-! ### plain Lean -/
theorem fdv_ediv (x y : Int) (hy : 0 < y) : fdv x y = x / y ∧ fmd x y = x % y := by
  have h1 := fdv_mul x y (by omega)
  have h2 := fmd_lt x y (by omega)
  have h3 : 0 ≤ fmd x y := by
    by_cases h : fmd x y = 0
    · omega
    · have := fmd_sgn x y h
      omega
  have := (Int.ediv_emod_unique (a := x) (q := fdv x y) (r := fmd x y) hy).2 ⟨by rw [Int.mul_comm y]; omega, h3, by omega⟩
  exact ⟨this.1.symm, this.2.symm⟩
theorem fdv_nat (u v : Nat) (hv : 0 < v) : fdv (u : Int) (v : Int) = ((u / v : Nat) : Int) := by rw [(fdv_ediv _ _ (by omega)).1, Int.natCast_ediv]
theorem quot_one (a : Int) (n g : Nat) (hn : 0 < n) (hg : Nat.gcd a.natAbs n = g) (h : n / g = 1) : rtx (mkRat a n) = inum (a / (g : Int)) := by
  obtain ⟨h1, h2⟩ := num_quot a n hn
  rw [hg] at h1 h2
  rw [rtx, rtxL_one (by rw [h2, h]), h1]; rfl
theorem quot_two (a : Int) (n g : Nat) (hn : 0 < n) (hg : Nat.gcd a.natAbs n = g) (h : n / g ≠ 1) : rtx (mkRat a n) = inum (a / (g : Int)) ++ ⟨#[47]⟩ ++ num (n / g) := by
  obtain ⟨h1, h2⟩ := num_quot a n hn
  rw [hg] at h1 h2
  rw [rtx, rtxL_two (by rw [h2]; exact h), h1, h2]
  apply ByteArray.ext
  simp [inum, num]
theorem div_size (a : Int) (g : Nat) (k : Nat) (h : (inum a).size ≤ k) : (inum (a / (g : Int))).size ≤ k + 1 := by
  have h1 := nd_sz h
  refine sz_nd (Nat.le_trans (nd_mono ?_) h1)
  rcases Nat.eq_zero_or_pos g with e | e
  · subst e; simp
  · have := Int.natAbs_ediv_le_natAbs a (g : Int)
    exact this

/-! ### the specification's integers, once more -/
theorem refDiv_e (x y q r : Int) (hy : y ≠ 0) (hq : Hid (fdv x y = q)) (hr : Hid (fmd x y = r)) (w : World) (ha : (inum x).size ≤ 4096) (hb : (inum y).size ≤ 4096) :
    Calls Tryz.prog 47 #[.string (inum x), .string (inum y)] w fun e w' => e = .returned (.tuple #[.string (inum q), .string (inum r), .int .i64 0]) ∧ Below w.heap.size w w' := by
  have := refDiv3_num x y hy w ha hb
  rwa [hq.out, hr.out] at this
theorem sgnI_pos {z : Int} (h : 0 < z) : sgnI z = 1 := by rw [sgnI, if_neg (by omega), if_neg (by omega)]
theorem sgnI_neg {z : Int} (h : z < 0) : sgnI z = -1 := by rw [sgnI, if_pos h]
theorem sgnI_zero : sgnI 0 = 0 := by decide
theorem refSign_e (z c : Int) (hc : Hid (sgnI z = c)) (w : World) (ha : (inum z).size ≤ 1000000000) :
    Calls Tryz.prog 100 #[.string (inum z)] w fun e w' => e = .returned (.int .i64 c) ∧ w = w' := by
  have := refSign3_num z w ha
  rwa [hc.out] at this

/-! ### reduced -/
set_option maxHeartbeats 1000000 in
theorem reduced_pos (a b : Int) (n : Nat) (hb : b = (n : Int)) (hn : 0 < n) (ha : (inum a).size ≤ 4000) (hbs : (inum b).size ≤ 4000) (w : World) :
    Calls Tryz.prog 61 #[.string (inum a), .string (inum b)] w fun e w' => e = .returned (.string (rtx (mkRat a n))) ∧ Below w.heap.size w w' := by
  obtain ⟨a', ha'⟩ : ∃ a', a = a' := ⟨_, rfl⟩
  subst ha'
  have hsa' : (inum a).size ≤ 4001 := by omega
  subst hb
  rw [inum_nat] at *
  have HS : Hid (∀ w : World, Calls Tryz.prog 100 #[.string (num n)] w fun e w' => e = .returned (.int .i64 1) ∧ w = w') := by
    intro w
    have := refSign_e (n : Int) 1 (sgnI_pos (by omega)) w (by rw [inum_nat]; omega)
    rwa [inum_nat] at this
  have hns := hbs
  obtain ⟨g, hg⟩ : ∃ g, Nat.gcd a.natAbs n = g := ⟨_, rfl⟩
  have hg0 : 0 < g := by rw [← hg]; exact Nat.gcd_pos_of_pos_right _ hn
  have hgn : g ≤ n := by rw [← hg]; exact Nat.gcd_le_right _ hn
  obtain ⟨u, hu⟩ : ∃ u, a.natAbs = u := ⟨_, rfl⟩
  have hus : (num u).size ≤ 4096 := by have := num_inum4 a; rw [hu] at this; omega
  have hgs : (num g).size ≤ 4000 := by rw [num_size] at *; exact Nat.le_trans (nd_mono hgn) hns
  have HA : Hid (∀ w : World, Calls Tryz.prog 44 #[.string (inum a)] w fun e w' => e = .returned (.tuple #[.string (num u), .int .i64 0]) ∧ Below w.heap.size w w') := fun w => refAbs_e a u hu w (by omega)
  have HG : Hid (∀ w : World, Calls Tryz.prog 45 #[.string (num u), .string (num n)] w fun e w' => e = .returned (.tuple #[.string (num g), .int .i64 0]) ∧ Below w.heap.size w w') := fun w => refGcd_e u n g (by rw [← hu]; exact hg) w hus (by omega)
  obtain ⟨P, hP⟩ : ∃ P, a / (g : Int) = P := ⟨_, rfl⟩
  obtain ⟨R, hR⟩ : ∃ R, fmd a (g : Int) = R := ⟨_, rfl⟩
  have HP : Hid (∀ w : World, Calls Tryz.prog 47 #[.string (inum a), .string (num g)] w fun e w' => e = .returned (.tuple #[.string (inum P), .string (inum R), .int .i64 0]) ∧ Below w.heap.size w w') := by
    intro w
    have := refDiv_e a (g : Int) P R (by omega) (by rw [(fdv_ediv _ _ (by omega)).1]; exact hP) hR w (by omega) (by rw [inum_nat]; omega)
    rwa [inum_nat] at this
  obtain ⟨Q, hQ⟩ : ∃ Q, n / g = Q := ⟨_, rfl⟩
  obtain ⟨R2, hR2⟩ : ∃ R, fmd (n : Int) (g : Int) = R := ⟨_, rfl⟩
  have HQ : Hid (∀ w : World, Calls Tryz.prog 47 #[.string (num n), .string (num g)] w fun e w' => e = .returned (.tuple #[.string (num Q), .string (inum R2), .int .i64 0]) ∧ Below w.heap.size w w') := by
    intro w
    have := refDiv_e (n : Int) (g : Int) (Q : Int) R2 (by omega) (by rw [fdv_nat _ _ hg0, hQ]; exact Lib.hid rfl) hR2 w (by rw [inum_nat]; omega) (by rw [inum_nat]; omega)
    rwa [inum_nat, inum_nat, inum_nat] at this
  have hPs : (inum P).size ≤ 4002 := by rw [← hP]; exact div_size _ _ _ hsa'
  have hQs : (num Q).size ≤ 4000 := by
    rw [num_size] at *
    refine Nat.le_trans (nd_mono ?_) hns
    rw [← hQ]; exact Nat.div_le_self _ _
  have hone := one_eq Q
  by_cases h1 : Q = 1
  · have HT : Hid (rtx (mkRat a n) = inum P) := by show _ = _; rw [quot_one a n g hn hg (by rw [hQ]; exact h1), hP]
    rw [decide_eq_true h1] at hone
    clear h1 hg hu hP hR hQ hR2 hg0 hgn
    go_enter Tryz.func61, Tryz.ntmps61
    go_wp2_with fail
    refine (HS.out _).mono ?_
    rintro e w' ⟨rfl, rfl⟩
    go_wp2_with fail
    refine (HA.out _).mono ?_
    rintro e w1 ⟨rfl, b1⟩
    have B1 := b1
    go_wp2_with fail
    refine (HG.out _).mono ?_
    rintro e w2 ⟨rfl, b2⟩
    have B2 := B1.trans (b2.mono B1.size)
    go_wp2_with fail
    refine (HP.out _).mono ?_
    rintro e w3 ⟨rfl, b3⟩
    have B3 := B2.trans (b3.mono B2.size)
    go_wp2_with fail
    refine (HQ.out _).mono ?_
    rintro e w4 ⟨rfl, b4⟩
    have B4 := B3.trans (b4.mono B3.size)
    go_wp2_with fail
    go_ret
    exact ⟨ret_str HT.out.symm, B4⟩
  · have HT : Hid (rtx (mkRat a n) = inum P ++ ⟨#[47]⟩ ++ num Q) := by show _ = _; rw [quot_two a n g hn hg (by rw [hQ]; exact h1), hP, hQ]
    rw [decide_eq_false h1] at hone
    clear h1 hg hu hP hR hQ hR2 hg0 hgn
    go_enter Tryz.func61, Tryz.ntmps61
    go_wp2_with fail
    refine (HS.out _).mono ?_
    rintro e w' ⟨rfl, rfl⟩
    go_wp2_with fail
    refine (HA.out _).mono ?_
    rintro e w1 ⟨rfl, b1⟩
    have B1 := b1
    go_wp2_with fail
    refine (HG.out _).mono ?_
    rintro e w2 ⟨rfl, b2⟩
    have B2 := B1.trans (b2.mono B1.size)
    go_wp2_with fail
    refine (HP.out _).mono ?_
    rintro e w3 ⟨rfl, b3⟩
    have B3 := B2.trans (b3.mono B2.size)
    go_wp2_with fail
    refine (HQ.out _).mono ?_
    rintro e w4 ⟨rfl, b4⟩
    have B4 := B3.trans (b4.mono B3.size)
    go_wp2_with fail
    go_ret
    exact ⟨ret_str HT.out.symm, B4⟩
set_option maxHeartbeats 1000000 in
theorem reduced_neg (a b : Int) (n : Nat) (hb : b = -(n : Int)) (hn : 0 < n) (ha : (inum a).size ≤ 4000) (hbs : (inum b).size ≤ 4000) (w : World) :
    Calls Tryz.prog 61 #[.string (inum a), .string (inum b)] w fun e w' => e = .returned (.string (rtx (mkRat (-a) n))) ∧ Below w.heap.size w w' := by
  obtain ⟨a', ha'⟩ : ∃ a', -a = a' := ⟨_, rfl⟩
  have hsa' : (inum a').size ≤ 4001 := by
    have := nd_sz ha
    rw [← ha']
    exact sz_nd (by rw [Int.natAbs_neg]; exact this)
  have HNA : Hid (∀ w : World, Calls Tryz.prog 49 #[.string (inum a)] w fun e w' => e = .returned (.tuple #[.string (inum a'), .int .i64 0]) ∧ Below w.heap.size w w') := by
    intro w
    have := refNeg3_num a w (by omega)
    rwa [ha'] at this
  have HNB : Hid (∀ w : World, Calls Tryz.prog 49 #[.string (inum b)] w fun e w' => e = .returned (.tuple #[.string (num n), .int .i64 0]) ∧ Below w.heap.size w w') := by
    intro w
    have := refNeg3_num b w (by omega)
    rwa [hb, Int.neg_neg, inum_nat, ← hb] at this
  have HS : Hid (∀ w : World, Calls Tryz.prog 100 #[.string (inum b)] w fun e w' => e = .returned (.int .i64 (-1)) ∧ w = w') :=
    fun w => refSign_e b (-1) (sgnI_neg (by omega)) w (by omega)
  have hns : (num n).size ≤ 4000 := by
    have := nd_sz hbs
    rw [num_size]
    rw [hb, Int.natAbs_neg] at this
    exact this
  have hsb := hbs
  generalize hsbd : inum b = sb at *
  rw [ha']
  obtain ⟨g, hg⟩ : ∃ g, Nat.gcd a'.natAbs n = g := ⟨_, rfl⟩
  have hg0 : 0 < g := by rw [← hg]; exact Nat.gcd_pos_of_pos_right _ hn
  have hgn : g ≤ n := by rw [← hg]; exact Nat.gcd_le_right _ hn
  obtain ⟨u, hu⟩ : ∃ u, a'.natAbs = u := ⟨_, rfl⟩
  have hus : (num u).size ≤ 4096 := by have := num_inum4 a'; rw [hu] at this; omega
  have hgs : (num g).size ≤ 4000 := by rw [num_size] at *; exact Nat.le_trans (nd_mono hgn) hns
  have HA : Hid (∀ w : World, Calls Tryz.prog 44 #[.string (inum a')] w fun e w' => e = .returned (.tuple #[.string (num u), .int .i64 0]) ∧ Below w.heap.size w w') := fun w => refAbs_e a' u hu w (by omega)
  have HG : Hid (∀ w : World, Calls Tryz.prog 45 #[.string (num u), .string (num n)] w fun e w' => e = .returned (.tuple #[.string (num g), .int .i64 0]) ∧ Below w.heap.size w w') := fun w => refGcd_e u n g (by rw [← hu]; exact hg) w hus (by omega)
  obtain ⟨P, hP⟩ : ∃ P, a' / (g : Int) = P := ⟨_, rfl⟩
  obtain ⟨R, hR⟩ : ∃ R, fmd a' (g : Int) = R := ⟨_, rfl⟩
  have HP : Hid (∀ w : World, Calls Tryz.prog 47 #[.string (inum a'), .string (num g)] w fun e w' => e = .returned (.tuple #[.string (inum P), .string (inum R), .int .i64 0]) ∧ Below w.heap.size w w') := by
    intro w
    have := refDiv_e a' (g : Int) P R (by omega) (by rw [(fdv_ediv _ _ (by omega)).1]; exact hP) hR w (by omega) (by rw [inum_nat]; omega)
    rwa [inum_nat] at this
  obtain ⟨Q, hQ⟩ : ∃ Q, n / g = Q := ⟨_, rfl⟩
  obtain ⟨R2, hR2⟩ : ∃ R, fmd (n : Int) (g : Int) = R := ⟨_, rfl⟩
  have HQ : Hid (∀ w : World, Calls Tryz.prog 47 #[.string (num n), .string (num g)] w fun e w' => e = .returned (.tuple #[.string (num Q), .string (inum R2), .int .i64 0]) ∧ Below w.heap.size w w') := by
    intro w
    have := refDiv_e (n : Int) (g : Int) (Q : Int) R2 (by omega) (by rw [fdv_nat _ _ hg0, hQ]; exact Lib.hid rfl) hR2 w (by rw [inum_nat]; omega) (by rw [inum_nat]; omega)
    rwa [inum_nat, inum_nat, inum_nat] at this
  have hPs : (inum P).size ≤ 4002 := by rw [← hP]; exact div_size _ _ _ hsa'
  have hQs : (num Q).size ≤ 4000 := by
    rw [num_size] at *
    refine Nat.le_trans (nd_mono ?_) hns
    rw [← hQ]; exact Nat.div_le_self _ _
  have hone := one_eq Q
  by_cases h1 : Q = 1
  · have HT : Hid (rtx (mkRat a' n) = inum P) := by show _ = _; rw [quot_one a' n g hn hg (by rw [hQ]; exact h1), hP]
    rw [decide_eq_true h1] at hone
    clear h1 hg hu hP hR hQ hR2 hg0 hgn ha' hb hsbd
    go_enter Tryz.func61, Tryz.ntmps61
    go_wp2_with fail
    refine (HS.out _).mono ?_
    rintro e w' ⟨rfl, rfl⟩
    go_wp2_with fail
    refine (HNA.out _).mono ?_
    rintro e wa ⟨rfl, ba⟩
    go_wp2_with fail
    refine (HNB.out _).mono ?_
    rintro e wb ⟨rfl, bb⟩
    have Bb := ba.trans (bb.mono ba.size)
    go_wp2_with fail
    refine (HA.out _).mono ?_
    rintro e w1 ⟨rfl, b1⟩
    have B1 := Bb.trans (b1.mono Bb.size)
    go_wp2_with fail
    refine (HG.out _).mono ?_
    rintro e w2 ⟨rfl, b2⟩
    have B2 := B1.trans (b2.mono B1.size)
    go_wp2_with fail
    refine (HP.out _).mono ?_
    rintro e w3 ⟨rfl, b3⟩
    have B3 := B2.trans (b3.mono B2.size)
    go_wp2_with fail
    refine (HQ.out _).mono ?_
    rintro e w4 ⟨rfl, b4⟩
    have B4 := B3.trans (b4.mono B3.size)
    go_wp2_with fail
    go_ret
    exact ⟨ret_str HT.out.symm, B4⟩
  · have HT : Hid (rtx (mkRat a' n) = inum P ++ ⟨#[47]⟩ ++ num Q) := by show _ = _; rw [quot_two a' n g hn hg (by rw [hQ]; exact h1), hP, hQ]
    rw [decide_eq_false h1] at hone
    clear h1 hg hu hP hR hQ hR2 hg0 hgn ha' hb hsbd
    go_enter Tryz.func61, Tryz.ntmps61
    go_wp2_with fail
    refine (HS.out _).mono ?_
    rintro e w' ⟨rfl, rfl⟩
    go_wp2_with fail
    refine (HNA.out _).mono ?_
    rintro e wa ⟨rfl, ba⟩
    go_wp2_with fail
    refine (HNB.out _).mono ?_
    rintro e wb ⟨rfl, bb⟩
    have Bb := ba.trans (bb.mono ba.size)
    go_wp2_with fail
    refine (HA.out _).mono ?_
    rintro e w1 ⟨rfl, b1⟩
    have B1 := Bb.trans (b1.mono Bb.size)
    go_wp2_with fail
    refine (HG.out _).mono ?_
    rintro e w2 ⟨rfl, b2⟩
    have B2 := B1.trans (b2.mono B1.size)
    go_wp2_with fail
    refine (HP.out _).mono ?_
    rintro e w3 ⟨rfl, b3⟩
    have B3 := B2.trans (b3.mono B2.size)
    go_wp2_with fail
    refine (HQ.out _).mono ?_
    rintro e w4 ⟨rfl, b4⟩
    have B4 := B3.trans (b4.mono B3.size)
    go_wp2_with fail
    go_ret
    exact ⟨ret_str HT.out.symm, B4⟩
theorem reduced4 (a b : Int) (h0 : b ≠ 0) (ha : (inum a).size ≤ 4000) (hb : (inum b).size ≤ 4000) (w : World) :
    Calls Tryz.prog 61 #[.string (inum a), .string (inum b)] w fun e w' => e = .returned (.string (rtx (Rat.divInt a b))) ∧ Below w.heap.size w w' := by
  by_cases h : 0 < b
  · have := reduced_pos a b b.natAbs (by omega) (by omega) ha hb w
    rwa [← divInt_pos, show ((b.natAbs : Nat) : Int) = b by omega] at this
  · have := reduced_neg a b b.natAbs (by omega) (by omega) ha hb w
    rwa [← divInt_pos, show ((b.natAbs : Nat) : Int) = -b by omega, ← divInt_neg] at this

end Go.Proofs.YthamlnolfagpiaaGreatDoor.D

