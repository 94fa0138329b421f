/-
  DERIVED. Plain Lean: rational numbers as texts.
-/
import Derived.Test.YthamlnolfagpiaaGreatDoorIntPure
namespace Go.Proofs.YthamlnolfagpiaaGreatDoor.D

/-- a rational number's text -/
def rtxL (r : Rat) : List UInt8 := if r.den = 1 then inumL r.num else inumL r.num ++ 47 :: Lib.decDigits r.den
def rtx (r : Rat) : ByteArray := ⟨(rtxL r).toArray⟩
theorem rtx_data (r : Rat) : (rtx r).data.toList = rtxL r := rfl
theorem rtxL_one {r : Rat} (h : r.den = 1) : rtxL r = inumL r.num := by rw [rtxL, if_pos h]
theorem rtxL_two {r : Rat} (h : r.den ≠ 1) : rtxL r = inumL r.num ++ 47 :: Lib.decDigits r.den := by rw [rtxL, if_neg h]
/-- a text's parts, at the first slash -/
def cutS : List UInt8 → List UInt8 × Option (List UInt8)
  | [] => ([], none)
  | c :: t => if c.toNat = 47 then ([], some t) else (c :: (cutS t).1, (cutS t).2)
def noSl (l : List UInt8) : Bool := l.all fun c => !(c.toNat == 47)
theorem cutS_all (l : List UInt8) (h : noSl l = true) : cutS l = (l, none) := by
  induction l with
  | nil => rfl
  | cons c t ih =>
    simp only [noSl, List.all_cons, Bool.and_eq_true] at h
    have hc : c.toNat ≠ 47 := by intro e; rw [e] at h; simp at h
    rw [cutS, if_neg hc, ih h.2]
theorem cutS_app (p q : List UInt8) (h : noSl p = true) : cutS (p ++ 47 :: q) = (p, some q) := by
  induction p with
  | nil => rfl
  | cons c t ih =>
    simp only [noSl, List.all_cons, Bool.and_eq_true] at h
    have hc : c.toNat ≠ 47 := by intro e; rw [e] at h; simp at h
    rw [List.cons_append, cutS, if_neg hc, ih h.2]
theorem noSl_digs (l : List UInt8) (h : digs l = true) : noSl l = true := by
  rw [noSl, List.all_eq_true]
  intro c hc
  have := (List.all_eq_true.1 h) c hc
  have hb := dig_bd this
  have : c.toNat ≠ 47 := by omega
  simp [this]
theorem noSl_inum (z : Int) : noSl (inumL z) = true := by
  by_cases h : z < 0
  · rw [inumL_neg h, noSl, List.all_cons]
    have := noSl_digs _ (dec_digs z.natAbs)
    rw [noSl] at this
    rw [this]; rfl
  · rw [inumL_pos (by omega)]; exact noSl_digs _ (dec_digs _)
theorem cut_rtx (r : Rat) : cutS (rtxL r) = (inumL r.num, if r.den = 1 then none else some (Lib.decDigits r.den)) := by
  by_cases h : r.den = 1
  · rw [rtxL_one h, if_pos h, cutS_all _ (noSl_inum _)]
  · rw [rtxL_two h, if_neg h, cutS_app _ _ (noSl_inum _)]
theorem rtxL_inj {r s : Rat} (h : rtxL r = rtxL s) : r = s := by
  have h1 := cut_rtx r
  rw [h, cut_rtx s] at h1
  have h2 := inumL_inj (congrArg Prod.fst h1)
  have h3 := congrArg Prod.snd h1
  simp only at h3
  apply Rat.ext h2.symm
  by_cases a : r.den = 1 <;> by_cases b : s.den = 1
  · rw [a, b]
  · rw [if_pos a, if_neg b] at h3; cases h3
  · rw [if_neg a, if_pos b] at h3; cases h3
  · rw [if_neg a, if_neg b] at h3
    exact (dec_inj (Option.some.inj h3)).symm
theorem rtx_inj {r s : Rat} (h : rtx r = rtx s) : r = s := rtxL_inj (by rw [← rtx_data, h, rtx_data])
theorem eq_rtx (r s : Rat) : ((rtx r).toList == (rtx s).toList) = decide (r = s) := by
  rw [ByteArray.toList_eq, ByteArray.toList_eq, rtx_data, rtx_data, Bool.eq_iff_iff, beq_iff_eq, decide_eq_true_iff]
  exact ⟨rtxL_inj, fun h => by rw [h]⟩
/-- an integer's text is a rational number's -/
theorem rtx_int (z : Int) : rtx (z : Rat) = inum z := by
  rw [rtx, rtxL_one (Rat.den_intCast z), inum, Rat.num_intCast]

/-- the numerator and the denominator have at most k digits -/
def Sz (k : Nat) (r : Rat) : Prop := nd r.num.natAbs ≤ k ∧ nd r.den ≤ k
/-- which texts are right -/
noncomputable def rightR (l : List UInt8) : Bool := @decide (∃ r : Rat, Sz 4096 r ∧ l = rtxL r) (Classical.propDecidable _)
theorem rightR_rtx {r : Rat} (h : Sz 4096 r) : rightR (rtxL r) = true := (@decide_eq_true_iff _ (Classical.propDecidable _)).2 ⟨r, h, rfl⟩
theorem rightR_of {l : List UInt8} (h : rightR l = true) : ∃ r : Rat, Sz 4096 r ∧ l = rtxL r := (@decide_eq_true_iff _ (Classical.propDecidable _)).1 h
theorem rightR_str (s : ByteArray) (h : rightR s.data.toList = true) : ∃ r : Rat, Sz 4096 r ∧ s = rtx r := by
  obtain ⟨r, hr, he⟩ := rightR_of h
  exact ⟨r, hr, by rw [rtx, ← he, Lib.mk_data]⟩
theorem rightR_no {l : List UInt8} (h : ∀ r : Rat, Sz 4096 r → l ≠ rtxL r) : rightR l = false := by
  refine (@decide_eq_false_iff_not _ (Classical.propDecidable _)).2 ?_
  rintro ⟨r, hr, he⟩
  exact h r hr he
/-- what a right text's parts are -/
theorem rightR_one (l : List UInt8) (z : Int) (hz : nd z.natAbs ≤ 4096) (hl : l = inumL z) : rightR l = true := by
  have h1 : l = rtxL (z : Rat) := by rw [rtxL_one (Rat.den_intCast _), Rat.num_intCast]; exact hl
  rw [h1]
  refine rightR_rtx ⟨by rw [Rat.num_intCast]; exact hz, ?_⟩
  rw [Rat.den_intCast]
  exact Nat.le_trans (nd_le 1 0 (by omega)) (by omega)
theorem rightR_two (z : Int) (n : Nat) (hn : 1 < n) (hg : Nat.gcd z.natAbs n = 1) (hz : nd z.natAbs ≤ 4096) (hd : nd n ≤ 4096) : rightR (inumL z ++ 47 :: Lib.decDigits n) = true := by
  have h1 : inumL z ++ 47 :: Lib.decDigits n = rtxL (Rat.mk' z n (by omega) hg) := by
    rw [rtxL_two (show (Rat.mk' z n (by omega) hg).den ≠ 1 by show n ≠ 1; omega)]
  rw [h1]
  exact rightR_rtx ⟨hz, hd⟩
theorem rat_gcd (r : Rat) : Nat.gcd r.num.natAbs r.den = 1 := r.reduced
theorem rat_den_pos (r : Rat) : 0 < r.den := Nat.pos_of_ne_zero r.den_nz
/-- with a numerator 0 the denominator is 1 -/
theorem rat_zero_den {r : Rat} (h : r.num = 0) : r.den = 1 := by
  have := rat_gcd r
  rw [h] at this
  simpa using this

/-! ### quotients -/
/-- a quotient in lowest terms -/
theorem num_quot (a : Int) (b : Nat) (hb : 0 < b) : (mkRat a b).num = a / (Nat.gcd a.natAbs b : Nat) ∧ (mkRat a b).den = b / Nat.gcd a.natAbs b := by
  rw [Rat.num_mkRat, Rat.den_mkRat, if_neg (by omega), if_neg (by omega), Nat.gcd_comm]
  exact ⟨rfl, rfl⟩
theorem add_quot (r s : Rat) : mkRat (r.num * s.den + s.num * r.den) (r.den * s.den) = r + s := (Rat.add_def' r s).symm
theorem mul_quot (r s : Rat) : mkRat (r.num * s.num) (r.den * s.den) = r * s := (Rat.mul_def' r s).symm
theorem div_quot (r s : Rat) : Rat.divInt (r.num * s.den) (r.den * s.num) = r / s := by
  rw [Rat.div_def, Rat.inv_def]
  conv => rhs; lhs; rw [← Rat.num_divInt_den r]
  rw [Rat.divInt_mul_divInt]
theorem divInt_pos (a : Int) (b : Nat) : Rat.divInt a (b : Int) = mkRat a b := Rat.divInt_ofNat a b
theorem divInt_neg (a b : Int) : Rat.divInt a b = Rat.divInt (-a) (-b) := (Rat.neg_divInt_neg a b).symm

end Go.Proofs.YthamlnolfagpiaaGreatDoor.D

