/-
  DERIVED. The walks of lorryref04's Compare, Sign, Floor and Ceil.
-/
import Derived.Test.YthamlnolfagpiaaGreatDoorRefRat4
namespace Go.Proofs.YthamlnolfagpiaaGreatDoor.D
open Go.RowKit
set_option maxRecDepth 8000

/-- how two rational numbers compare -/
def cmpR (r s : Rat) : Int := crs r.num r.den s.num s.den
/-- the next integers -/
def flo (r : Rat) : Int := r.num / (r.den : Int)
def cei (r : Rat) : Int := -(-r.num / (r.den : Int))
theorem den_pos' (r : Rat) : (0 : Int) < (r.den : Int) := by have := rat_den_pos r; omega
theorem rtx_zero : rtx 0 = ⟨#[48]⟩ := by rw [rtx, rtxL_one rfl]; exact congrArg (fun l : List UInt8 => (⟨l.toArray⟩ : ByteArray)) inum_zeroL
theorem sz_zero {k : Nat} (hk : 1 ≤ k) : Sz k 0 := ⟨Nat.le_trans (nd_le _ 0 (by decide)) (by omega), Nat.le_trans (nd_le _ 0 (by decide)) (by omega)⟩
theorem cmpR_zero (r : Rat) : cmpR r 0 = sgnI r.num := by
  show sgnI (r.num * (1 : Int) - 0 * r.den) = _
  rw [Int.mul_one, Int.zero_mul, Int.sub_zero]
theorem compare4_r (r s : Rat) (c : Int) (hc : cmpR r s = c) (hr : Sz 1900 r) (hs : Sz 1900 s) (w : World) :
    Calls Tryz.prog 21 #[.string (rtx r), .string (rtx s)] w fun e w' => e = .returned (.int .i64 c) ∧ Below w.heap.size w w' := by
  have HB := Lib.hid (fun w => both_r r s (sz_text hr) (sz_text hs) w)
  have HO : Hid (∀ w : World, Calls Tryz.prog 55 #[.string (inum r.num), .string (num r.den), .string (inum s.num), .string (num s.den)] w fun e w' => e = .returned (.int .i64 c) ∧ Below w.heap.size w w') := by
    intro w
    have := ordered4 r.num r.den s.num s.den c (den_pos' r) (den_pos' s) hc (Nat.le_trans hr.1 (by omega)) (Nat.le_trans (nd_den hr) (by omega)) (Nat.le_trans hs.1 (by omega)) (Nat.le_trans (nd_den hs) (by omega)) w
    rwa [inum_nat, inum_nat] at this
  clear hc
  go_enter Tryz.func21, Tryz.ntmps21
  go_wp2_with fail
  refine (HB.out _).mono ?_
  rintro e w1 ⟨rfl, b1⟩
  have hs1 := b1.size
  go_wp2_with fail
  refine (HO.out _).mono ?_
  rintro e w2 ⟨rfl, b2⟩
  have B2 := over4 (w := w) (by go_grown) b2
  go_wp2_with fail
  go_ret
  exact ⟨rfl, B2⟩
theorem sign4_bad (a : ByteArray) (h : rightR a.data.toList = false) (ha : a.size ≤ 4000) (w : World) :
    Calls Tryz.prog 23 #[.string a] w fun e w' => e = .returned (.int .i64 0) ∧ Below w.heap.size w w' := by
  have HC := Lib.hid (fun w => compare4_bad a ⟨#[48]⟩ (.inl h) ha (by decide) w)
  clear h
  go_enter Tryz.func23, Tryz.ntmps23
  go_wp2_with fail
  refine (HC.out _).mono ?_
  rintro e w1 ⟨rfl, b1⟩
  go_wp2_with fail
  go_ret
  exact ⟨rfl, b1⟩
theorem sign4_r (r : Rat) (c : Int) (hc : sgnI r.num = c) (hr : Sz 1900 r) (w : World) :
    Calls Tryz.prog 23 #[.string (rtx r)] w fun e w' => e = .returned (.int .i64 c) ∧ Below w.heap.size w w' := by
  have HC : Hid (∀ w : World, Calls Tryz.prog 21 #[.string (rtx r), .string ⟨#[48]⟩] w fun e w' => e = .returned (.int .i64 c) ∧ Below w.heap.size w w') := by
    intro w
    have := compare4_r r 0 c (by rw [cmpR_zero]; exact hc) hr (sz_zero (by omega)) w
    rwa [rtx_zero] at this
  clear hc
  go_enter Tryz.func23, Tryz.ntmps23
  go_wp2_with fail
  refine (HC.out _).mono ?_
  rintro e w1 ⟨rfl, b1⟩
  go_wp2_with fail
  go_ret
  exact ⟨rfl, b1⟩
theorem floor4_bad (a : ByteArray) (h : rightR a.data.toList = false) (ha : a.size ≤ 4000) (w : World) :
    Calls Tryz.prog 17 #[.string a] w fun e w' => e = .returned (.tuple #[.string ⟨#[]⟩, .int .i64 3]) ∧ Below w.heap.size w w' := by
  have HP := Lib.hid (fun w => parts4_bad a h ha w)
  clear h
  go_enter Tryz.func17, Tryz.ntmps17
  go_wp2_with fail
  refine (HP.out _).mono ?_
  rintro e w1 ⟨rfl, b1⟩
  go_wp2_with fail
  go_ret2
  exact ⟨rfl, b1⟩
theorem ceil4_bad (a : ByteArray) (h : rightR a.data.toList = false) (ha : a.size ≤ 4000) (w : World) :
    Calls Tryz.prog 19 #[.string a] w fun e w' => e = .returned (.tuple #[.string ⟨#[]⟩, .int .i64 3]) ∧ Below w.heap.size w w' := by
  have HP := Lib.hid (fun w => parts4_bad a h ha w)
  clear h
  go_enter Tryz.func19, Tryz.ntmps19
  go_wp2_with fail
  refine (HP.out _).mono ?_
  rintro e w1 ⟨rfl, b1⟩
  go_wp2_with fail
  go_ret2
  exact ⟨rfl, b1⟩
theorem divN (x : Int) (n : Nat) (a r : Int) (hn : 0 < n) (ha : x / (n : Int) = a) (hr : x % (n : Int) = r) (h1 : nd x.natAbs ≤ 3900) (h2 : nd n ≤ 3900) (w : World) :
    Calls Tryz.prog 47 #[.string (inum x), .string (num n)] w fun e w' => e = .returned (.tuple #[.string (inum a), .string (inum r), .int .i64 0]) ∧ Below w.heap.size w w' := by
  have := divP x n a r (by omega) ha hr h1 (by rw [Int.natAbs_natCast]; exact h2) w
  rwa [inum_nat] at this
theorem floor4_r (r : Rat) (f : Int) (hf : flo r = f) (hr : Sz 1900 r) (w : World) :
    Calls Tryz.prog 17 #[.string (rtx r)] w fun e w' => e = .returned (.tuple #[.string (inum f), .int .i64 0]) ∧ Below w.heap.size w w' := by
  have HP := Lib.hid (fun w => parts4_r r (sz_text hr) w)
  have HD := Lib.hid (fun w => divN r.num r.den f _ (rat_den_pos r) hf rfl (Nat.le_trans hr.1 (by omega)) (Nat.le_trans hr.2 (by omega)) w)
  clear hf
  go_enter Tryz.func17, Tryz.ntmps17
  go_wp2_with fail
  refine (HP.out _).mono ?_
  rintro e w1 ⟨rfl, b1⟩
  go_wp2_with fail
  refine (HD.out _).mono ?_
  rintro e w2 ⟨rfl, b2⟩
  go_wp2_with fail
  go_ret2
  exact ⟨rfl, over4 b1 b2⟩
theorem neg3_e (x y : Int) (hy : -x = y) (h : nd x.natAbs ≤ 3900) (w : World) :
    Calls Tryz.prog 49 #[.string (inum x)] w fun e w' => e = .returned (.tuple #[.string (inum y), .int .i64 0]) ∧ Below w.heap.size w w' := by
  subst hy
  exact refNeg3_num x w (sz_inum h (by omega))
theorem ceil4_r (r : Rat) (f : Int) (hf : cei r = f) (hr : Sz 1900 r) (w : World) :
    Calls Tryz.prog 19 #[.string (rtx r)] w fun e w' => e = .returned (.tuple #[.string (inum f), .int .i64 0]) ∧ Below w.heap.size w w' := by
  have HP := Lib.hid (fun w => parts4_r r (sz_text hr) w)
  have h1 : nd r.num.natAbs ≤ 3900 := Nat.le_trans hr.1 (by omega)
  have h2 : nd (-r.num).natAbs ≤ 3900 := by rw [Int.natAbs_neg]; exact h1
  obtain ⟨x, hx⟩ : ∃ x, -r.num = x := ⟨_, rfl⟩
  obtain ⟨y, hy⟩ : ∃ y, x / (r.den : Int) = y := ⟨_, rfl⟩
  have hyf : -y = f := by rw [← hf, ← hy, ← hx]; rfl
  rw [hx] at h2
  have h3 : nd y.natAbs ≤ 3900 := by rw [← hy]; exact nd_ediv h2
  have HN := Lib.hid (fun w => neg3_e r.num x hx h1 w)
  have HD := Lib.hid (fun w => divN x r.den y _ (rat_den_pos r) hy rfl h2 (Nat.le_trans hr.2 (by omega)) w)
  have HN2 := Lib.hid (fun w => neg3_e y f hyf h3 w)
  clear hf hx hy hyf
  go_enter Tryz.func19, Tryz.ntmps19
  go_wp2_with fail
  refine (HP.out _).mono ?_
  rintro e w1 ⟨rfl, b1⟩
  go_wp2_with fail
  refine (HN.out _).mono ?_
  rintro e w2 ⟨rfl, b2⟩
  go_wp2_with fail
  refine (HD.out _).mono ?_
  rintro e w3 ⟨rfl, b3⟩
  go_wp2_with fail
  refine (HN2.out _).mono ?_
  rintro e w4 ⟨rfl, b4⟩
  go_wp2_with fail
  go_ret2
  exact ⟨rfl, over4 (over4 (over4 b1 b2) b3) b4⟩

end Go.Proofs.YthamlnolfagpiaaGreatDoor.D

