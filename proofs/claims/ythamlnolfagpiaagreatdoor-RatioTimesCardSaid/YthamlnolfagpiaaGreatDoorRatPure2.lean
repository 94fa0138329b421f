/-
  DERIVED. Plain Lean: sizes, order and literal texts of rational numbers.
-/
import Derived.Test.YthamlnolfagpiaaGreatDoorRefRat5
namespace Go.Proofs.YthamlnolfagpiaaGreatDoor.D

/-! ### sizes -/
theorem sz_mono {r : Rat} {j k : Nat} (h : Sz j r) (hk : j ≤ k) : Sz k r := ⟨Nat.le_trans h.1 hk, Nat.le_trans h.2 hk⟩
theorem sz_mkRat {a : Int} {n k : Nat} (hn : 0 < n) (ha : nd a.natAbs ≤ k) (hk : nd n ≤ k) : Sz k (mkRat a n) := by
  obtain ⟨h1, h2⟩ := num_quot a n hn
  refine ⟨?_, ?_⟩
  · rw [h1]; exact Nat.le_trans (nd_mono (Int.natAbs_ediv_le_natAbs a _)) ha
  · rw [h2]; exact Nat.le_trans (nd_mono (Nat.div_le_self _ _)) hk
theorem sz_divInt {a b : Int} {k : Nat} (hb : b ≠ 0) (ha : nd a.natAbs ≤ k) (hk : nd b.natAbs ≤ k) : Sz k (Rat.divInt a b) := by
  by_cases h : 0 < b
  · have := sz_mkRat (a := a) (n := b.natAbs) (by omega) ha hk
    rwa [← divInt_pos, show ((b.natAbs : Nat) : Int) = b by omega] at this
  · have := sz_mkRat (a := -a) (n := b.natAbs) (by omega) (by rw [Int.natAbs_neg]; exact ha) hk
    rwa [← divInt_pos, show ((b.natAbs : Nat) : Int) = -b by omega, ← divInt_neg] at this
theorem nd_mulN {u v j k : Nat} (hu : nd u ≤ j) (hv : nd v ≤ k) : nd (u * v) ≤ j + k := nd_mul u v j k hu hv
theorem sz_add {r s : Rat} {j k : Nat} (hr : Sz j r) (hs : Sz k s) : Sz (j + k + 1) (r + s) := by
  rw [← add_quot]
  have h1 := nda_mul (x := r.num) (y := (s.den : Int)) rfl hr.1 (nd_den hs)
  have h2 := nda_mul (x := s.num) (y := (r.den : Int)) rfl hs.1 (nd_den hr)
  refine sz_mkRat (Nat.mul_pos (rat_den_pos r) (rat_den_pos s)) (nda_add rfl h1 (by rw [Nat.add_comm]; exact h2)) ?_
  exact Nat.le_trans (nd_mulN hr.2 hs.2) (by omega)
theorem sz_mul {r s : Rat} {j k : Nat} (hr : Sz j r) (hs : Sz k s) : Sz (j + k) (r * s) := by
  rw [← mul_quot]
  exact sz_mkRat (Nat.mul_pos (rat_den_pos r) (rat_den_pos s)) (nda_mul rfl hr.1 hs.1) (nd_mulN hr.2 hs.2)
theorem sz_sub {r s : Rat} {j k : Nat} (hr : Sz j r) (hs : Sz k s) : Sz (j + k + 1) (r - s) := by
  rw [Rat.sub_eq_add_neg]; exact sz_add hr (sz_neg hs)
theorem sz_int {z : Int} {k : Nat} (h : nd z.natAbs ≤ k) (hk : 1 ≤ k) : Sz k (z : Rat) := by
  refine ⟨by rw [Rat.num_intCast]; exact h, ?_⟩
  rw [Rat.den_intCast]
  exact Nat.le_trans (nd_le 1 0 (by omega)) hk

/-! ### order -/
theorem sgnI_quot (a : Int) (n : Nat) (hn : 0 < n) : sgnI (mkRat a n).num = sgnI a := by
  obtain ⟨h1, _⟩ := num_quot a n hn
  have hg : 0 < Nat.gcd a.natAbs n := Nat.gcd_pos_of_pos_right _ hn
  have hd : ((Nat.gcd a.natAbs n : Nat) : Int) ∣ a := Int.ofNat_dvd_left.2 (Nat.gcd_dvd_left _ _)
  have e : (mkRat a n).num * (Nat.gcd a.natAbs n : Nat) = a := by rw [h1]; exact Int.ediv_mul_cancel hd
  have := sgnI_mul_pos (a := (mkRat a n).num) (b := (Nat.gcd a.natAbs n : Nat)) (by omega)
  rw [e] at this
  exact this.symm
theorem cmpR_sub (r s : Rat) : cmpR r s = sgnI (r - s).num := by
  rw [Rat.sub_def', sgnI_quot _ _ (Nat.mul_pos (rat_den_pos r) (rat_den_pos s))]; rfl
theorem cmpR_opp (r s : Rat) : cmpR s r = -cmpR r s := by
  unfold cmpR crs
  rw [← sgnI_opp]; congr 1; grind
theorem sgnI_le {z : Int} (h : z ≤ 0) : sgnI z ≤ 0 := by unfold sgnI; split; omega; split <;> omega
theorem sgnI_ge {z : Int} (h : 0 ≤ z) : 0 ≤ sgnI z := by unfold sgnI; split; omega; split <;> omega
theorem cmpR_flo (r : Rat) : cmpR ((flo r : Int) : Rat) r ≤ 0 := by
  apply sgnI_le
  rw [Rat.num_intCast, Rat.den_intCast]
  have h1 := Int.mul_ediv_add_emod r.num r.den
  have h2 := Int.emod_nonneg r.num (show (r.den : Int) ≠ 0 by have := den_pos' r; omega)
  unfold flo
  grind
theorem cmpR_cei (r : Rat) : 0 ≤ cmpR ((cei r : Int) : Rat) r := by
  apply sgnI_ge
  rw [Rat.num_intCast, Rat.den_intCast]
  have h1 := Int.mul_ediv_add_emod (-r.num) r.den
  have h2 := Int.emod_nonneg (-r.num) (show (r.den : Int) ≠ 0 by have := den_pos' r; omega)
  unfold cei
  grind
/-- the next integers are the same, and the number itself, or differ by 1 -/
theorem flo_cei (r : Rat) : (cei r = flo r ∧ r = ((flo r : Int) : Rat)) ∨ (cei r = flo r + 1 ∧ cei r ≠ flo r) := by
  have hd := den_pos' r
  have h1 := Int.mul_ediv_add_emod r.num r.den
  have h2 := Int.emod_nonneg r.num (show (r.den : Int) ≠ 0 by omega)
  have h3 := Int.emod_lt_of_pos r.num hd
  by_cases h0 : r.num % (r.den : Int) = 0
  · left
    have e : r.num = (r.den : Int) * flo r := by unfold flo; omega
    have hden : r.den = 1 := by
      have hg := rat_gcd r
      rw [e, Int.natAbs_mul, Int.natAbs_natCast, Nat.gcd_comm, Nat.gcd_mul_right_right] at hg
      exact hg
    have hn : r.num = flo r := by rw [hden] at e; omega
    refine ⟨?_, ?_⟩
    · unfold cei; rw [hden, hn]; simp
    · apply Rat.ext
      · rw [Rat.num_intCast]; exact hn
      · rw [Rat.den_intCast]; exact hden
  · right
    have e2 : (-r.num) / (r.den : Int) = -(flo r) - 1 := by
      have := (Int.ediv_emod_unique (a := -r.num) (q := -(flo r) - 1) (r := (r.den : Int) - r.num % r.den) hd).2 ⟨by unfold flo; grind, by omega, by omega⟩
      exact this.1
    unfold cei
    rw [e2]
    omega
theorem nd_flo {r : Rat} {k : Nat} (h : Sz k r) : nd (flo r).natAbs ≤ k := nd_ediv h.1
theorem nd_cei {r : Rat} {k : Nat} (h : Sz k r) : nd (cei r).natAbs ≤ k := by
  unfold cei
  rw [Int.natAbs_neg]
  exact nd_ediv (by rw [Int.natAbs_neg]; exact h.1)

/-! ### literal texts -/
theorem lit_rat (p q : List UInt8) (z : Int) (n : Nat) (hp : (⟨p.toArray⟩ : ByteArray) = inum z) (hq : (⟨q.toArray⟩ : ByteArray) = num n) (r : Rat) (h1 : r.num = z) (h2 : r.den = n) (hn : n ≠ 1) : (⟨(p ++ 47 :: q).toArray⟩ : ByteArray) = rtx r := by
  have e1 := congrArg (fun s : ByteArray => s.data.toList) hp
  have e2 := congrArg (fun s : ByteArray => s.data.toList) hq
  simp only [inum_data, num_data] at e1 e2
  rw [rtx, rtxL_two (by rw [h2]; exact hn), h1, h2, ← e1, ← e2]
theorem d1 : (⟨#[49]⟩ : ByteArray) = num 1 := lit_num [49] 1 (by decide) (by decide)
theorem d2 : (⟨#[50]⟩ : ByteArray) = num 2 := lit_num [50] 2 (by decide) (by decide)
theorem d3 : (⟨#[51]⟩ : ByteArray) = num 3 := lit_num [51] 3 (by decide) (by decide)
theorem d4 : (⟨#[52]⟩ : ByteArray) = num 4 := lit_num [52] 4 (by decide) (by decide)
theorem d6 : (⟨#[54]⟩ : ByteArray) = num 6 := lit_num [54] 6 (by decide) (by decide)
theorem p1 : (⟨#[49]⟩ : ByteArray) = inum 1 := lit_pos [49] 1 (by decide) (by decide)
theorem p2 : (⟨#[50]⟩ : ByteArray) = inum 2 := lit_pos [50] 2 (by decide) (by decide)
theorem p5 : (⟨#[53]⟩ : ByteArray) = inum 5 := lit_pos [53] 5 (by decide) (by decide)
theorem p6 : (⟨#[54]⟩ : ByteArray) = inum 6 := lit_pos [54] 6 (by decide) (by decide)
theorem m2 : (⟨#[45, 50]⟩ : ByteArray) = inum (-2) := lit_neg [50] 2 (by decide) (by decide) (by decide)
theorem m3 : (⟨#[45, 51]⟩ : ByteArray) = inum (-3) := lit_neg [51] 3 (by decide) (by decide) (by decide)
theorem m4 : (⟨#[45, 52]⟩ : ByteArray) = inum (-4) := lit_neg [52] 4 (by decide) (by decide) (by decide)
theorem t12 : (⟨#[49, 47, 50]⟩ : ByteArray) = rtx (mkRat 1 2) := lit_rat [49] [50] 1 2 p1 d2 _ (by decide +kernel) (by decide +kernel) (by decide)
theorem t13 : (⟨#[49, 47, 51]⟩ : ByteArray) = rtx (mkRat 1 3) := lit_rat [49] [51] 1 3 p1 d3 _ (by decide +kernel) (by decide +kernel) (by decide)
theorem t56 : (⟨#[53, 47, 54]⟩ : ByteArray) = rtx (mkRat 5 6) := lit_rat [53] [54] 5 6 p5 d6 _ (by decide +kernel) (by decide +kernel) (by decide)
theorem t32 : (⟨#[45, 51, 47, 50]⟩ : ByteArray) = rtx (mkRat (-3) 2) := lit_rat [45, 51] [50] (-3) 2 m3 d2 _ (by decide +kernel) (by decide +kernel) (by decide)
theorem t34 : (⟨#[45, 51, 47, 52]⟩ : ByteArray) = rtx (mkRat (-3) 4) := lit_rat [45, 51] [52] (-3) 4 m3 d4 _ (by decide +kernel) (by decide +kernel) (by decide)
theorem t24 : rightR [50, 47, 52] = false := by
  refine rightR_no fun r _ he => ?_
  have h1 := cut_rtx r
  rw [← he] at h1
  have e1 : cutS [50, 47, 52] = ([50], some [52]) := by decide
  rw [e1] at h1
  have h2 := congrArg Prod.fst h1
  have h3 := congrArg Prod.snd h1
  simp only at h2 h3
  have e2 : ([50] : List UInt8) = inumL 2 := by
    have := congrArg (fun s : ByteArray => s.data.toList) p2
    exact this
  have e4 : ([52] : List UInt8) = Lib.decDigits 4 := by
    have := congrArg (fun s : ByteArray => s.data.toList) d4
    exact this
  by_cases hd : r.den = 1
  · rw [if_pos hd] at h3; cases h3
  · rw [if_neg hd, e4] at h3
    rw [e2] at h2
    have hn := inumL_inj h2
    have hde := dec_inj (Option.some.inj h3)
    have hg := rat_gcd r
    rw [← hn, ← hde] at hg
    revert hg; decide
theorem szL {r : Rat} (h1 : r.num.natAbs < 10) (h2 : r.den < 10) {k : Nat} (hk : 1 ≤ k) : Sz k r := ⟨Nat.le_trans (nd_le _ 0 (by omega)) (by omega), Nat.le_trans (nd_le _ 0 (by omega)) (by omega)⟩

end Go.Proofs.YthamlnolfagpiaaGreatDoor.D

