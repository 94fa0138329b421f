/-
  DERIVED. Plain Lean: decimal numerals of any size, digit by digit.
-/
import Derived.Test.YtgpjfgakhncdnaaDoorPureN
import GoSem.Op.String
namespace Go.Proofs.YtgpjfgakhncdnaaDoor

/-- the numeral of u, as a string -/
def num (u : Nat) : ByteArray := ⟨(Lib.decDigits u).toArray⟩
theorem num_data (u : Nat) : (num u).data.toList = Lib.decDigits u := rfl
theorem num_size (u : Nat) : (num u).size = (Lib.decDigits u).length := by rw [Lib.size_eq, num_data]

/-- which texts are right -/
def rightL (l : List UInt8) : Bool := !l.isEmpty && (decide (l.length ≤ 1) || !((l.headD 0).toNat == 48)) && digs l
theorem right_num (u : Nat) : rightL (Lib.decDigits u) = true := by
  obtain ⟨a, b, c, d⟩ := dec_spec (u + 1) u (by omega)
  unfold rightL
  by_cases h0 : u = 0
  · subst h0; rw [dec_small (by omega)]; rfl
  · have := d h0
    have h1 : (((Lib.decDigits u).headD 0).toNat == 48) = false := beq_eq_false_iff_ne.2 this
    rw [h1, b]
    cases hx : Lib.decDigits u with
    | nil => exact absurd hx a
    | cons _ _ => simp
theorem num_right (l : List UInt8) (h : rightL l = true) : Lib.decDigits (valA 0 l) = l := by
  unfold rightL at h
  simp only [Bool.and_eq_true, Bool.or_eq_true, decide_eq_true_eq, Bool.not_eq_true'] at h
  obtain ⟨⟨h0, h1⟩, h2⟩ := h
  match l, h0, h1, h2 with
  | [c], _, _, h2 =>
    have hc := dig_bd (digs_cons.1 h2).1
    rw [valA_cons, valA_nil, dec_small (by omega), show 48 + (0 * 10 + (c.toNat - 48)) = c.toNat by omega]; simp
  | c :: d :: r, _, h1, h2 =>
    have h1 : ((c :: d :: r).headD 0).toNat ≠ 48 := by
      rcases h1 with h1 | h1
      · simp at h1
      · exact beq_eq_false_iff_ne.1 h1
    exact dec_inv _ _ rfl (by simp) h2 h1
theorem right_iff (l : List UInt8) : rightL l = true ↔ ∃ u, l = Lib.decDigits u :=
  ⟨fun h => ⟨_, (num_right l h).symm⟩, fun ⟨u, h⟩ => by rw [h]; exact right_num u⟩
theorem right_str (s : ByteArray) (h : rightL s.data.toList = true) : ∃ u, s = num u := by
  refine ⟨valA 0 s.data.toList, ?_⟩
  rw [num, num_right _ h, Lib.mk_data]
theorem dec_val (u : Nat) : valA 0 (Lib.decDigits u) = u := (dec_spec (u + 1) u (by omega)).2.2.1
theorem dec_inj {u v : Nat} (h : Lib.decDigits u = Lib.decDigits v) : u = v := by rw [← dec_val u, h, dec_val]
theorem num_inj {u v : Nat} (h : num u = num v) : u = v := dec_inj (by rw [← num_data u, h, num_data])

/-! ### lengths -/
/-- the number of digits -/
def nd (u : Nat) : Nat := (Lib.decDigits u).length
theorem nd_pos (u : Nat) : 1 ≤ nd u := by
  have := (dec_spec (u + 1) u (by omega)).1
  unfold nd
  have : (Lib.decDigits u).length ≠ 0 := by simpa using this
  omega
theorem lt_nd (u : Nat) : u < 10 ^ nd u := by unfold nd; rw [Lib.decDigits_length]; exact Lib.lt_pow_nDigits u
theorem nd_le (u k : Nat) (h : u < 10 ^ (k + 1)) : nd u ≤ k + 1 := by
  unfold nd
  induction k generalizing u with
  | zero => rw [dec_small (by simpa using h)]; simp
  | succ k ih =>
    by_cases h1 : u < 10
    · rw [dec_small h1]; simp
    · rw [dec_big h1, List.length_append]
      have := ih (u / 10) (by rw [Nat.pow_succ] at h; omega)
      simp; omega
theorem le_nd (u k : Nat) (h : 10 ^ k ≤ u) : k + 1 ≤ nd u := by
  have h1 := lt_nd u
  apply Decidable.byContradiction
  intro h2
  have : 10 ^ nd u ≤ 10 ^ k := Nat.pow_le_pow_right (by omega) (by omega)
  omega
theorem nd_mono {u v : Nat} (h : u ≤ v) : nd u ≤ nd v := by
  have h1 := lt_nd v
  have h2 := nd_pos v
  obtain ⟨k, hk⟩ : ∃ k, nd v = k + 1 := ⟨nd v - 1, by omega⟩
  rw [hk] at h1 ⊢
  exact nd_le u k (by omega)

/-- a digit, counted from the right -/
theorem dig_at (u k : Nat) (h : k < nd u) : ((Lib.decDigits u).getD (nd u - 1 - k) 0).toNat = 48 + u / 10 ^ k % 10 := by
  have e : nd u = Lib.nDigits u := Lib.decDigits_length u
  rw [Lib.decDigits_eq, List.getD_eq_getElem?_getD, List.getElem?_map, List.getElem?_range (by omega)]
  simp only [Option.map_some, Option.getD_some, Lib.dg]
  rw [show Lib.nDigits u - 1 - (nd u - 1 - k) = k by omega]
  exact toNat_digit _ (by omega)
theorem dig_over (u k : Nat) (h : nd u ≤ k) : u / 10 ^ k % 10 = 0 := by
  have h1 := lt_nd u
  have : 10 ^ nd u ≤ 10 ^ k := Nat.pow_le_pow_right (by omega) h
  rw [Nat.div_eq_of_lt (by omega)]

/-! ### numerals with leading zeros -/
/-- the k low digits of u -/
def padL : Nat → Nat → List UInt8
  | 0, _ => []
  | k + 1, u => UInt8.ofNat (48 + u / 10 ^ k % 10) :: padL k u
theorem padL_len : ∀ (k u : Nat), (padL k u).length = k
  | 0, _ => rfl
  | k + 1, u => by rw [padL, List.length_cons, padL_len k u]
theorem padL_snoc : ∀ (k u : Nat), padL (k + 1) u = padL k (u / 10) ++ [UInt8.ofNat (48 + u % 10)]
  | 0, u => by simp [padL]
  | k + 1, u => by
    rw [padL, padL_snoc k u, padL, Nat.div_div_eq_div_mul, ← Nat.pow_succ']; rfl
theorem padL_dec : ∀ (k u : Nat), nd u = k + 1 → padL (k + 1) u = Lib.decDigits u
  | 0, u, h => by
    have := lt_nd u
    rw [h] at this
    rw [padL_snoc, padL, dec_small (by simpa using this), List.nil_append, Nat.mod_eq_of_lt (by simpa using this)]
  | k + 1, u, h => by
    have h1 : ¬ u < 10 := by
      intro h1
      have := nd_le u 0 (by simpa using h1)
      omega
    have h2 : nd (u / 10) = k + 1 := by
      have : nd u = nd (u / 10) + 1 := by unfold nd; rw [dec_big h1]; simp
      omega
    rw [padL_snoc, dec_big h1, padL_dec k (u / 10) h2]

/-- what trim does -/
def trimL : List UInt8 → List UInt8
  | [] => []
  | [c] => [c]
  | c :: d :: r => if c.toNat = 48 then trimL (d :: r) else c :: d :: r
theorem trim_pad : ∀ (k u : Nat), u < 10 ^ (k + 1) → trimL (padL (k + 1) u) = Lib.decDigits u
  | 0, u, h => by
    have h1 : u < 10 := by simpa using h
    have : nd u = 1 := by have := nd_pos u; have := nd_le u 0 h; omega
    rw [← padL_dec 0 u this]; rfl
  | k + 1, u, h => by
    by_cases h0 : u / 10 ^ (k + 1) % 10 = 0
    · have h1 : u < 10 ^ (k + 1) := by
        have h2 : u / 10 ^ (k + 1) < 10 := Nat.div_lt_of_lt_mul (by rw [← Nat.pow_succ]; exact h)
        have h3 : u / 10 ^ (k + 1) = 0 := by
          generalize u / 10 ^ (k + 1) = q at h0 h2
          omega
        rcases Nat.lt_or_ge u (10 ^ (k + 1)) with h4 | h4
        · exact h4
        · have := (Nat.div_pos_iff (a := u) (b := 10 ^ (k + 1))).2 ⟨Nat.pow_pos (by omega), h4⟩
          omega
      rw [padL, padL, trimL, if_pos (by rw [toNat_digit _ (by omega), h0]), ← padL]
      exact trim_pad k u h1
    · rw [padL, padL, trimL, if_neg (by rw [toNat_digit _ (by omega)]; omega), ← padL, ← padL]
      apply padL_dec
      have h4 : 10 ^ (k + 1) ≤ u := by
        rcases Nat.lt_or_ge u (10 ^ (k + 1)) with h5 | h5
        · rw [Nat.div_eq_of_lt h5] at h0; exact absurd rfl h0
        · exact h5
      have := le_nd u (k + 1) h4
      have := nd_le u (k + 1) h
      omega

/-! ### order -/
theorem valA_lin (l : List UInt8) : ∀ x, valA x l = x * 10 ^ l.length + valA 0 l := by
  induction l with
  | nil => intro x; rw [valA_nil, valA_nil]; simp
  | cons c r ih =>
    intro x
    rw [valA_cons, valA_cons, ih, ih (0 * 10 + (c.toNat - 48)), List.length_cons, Nat.pow_succ]
    rw [Nat.zero_mul, Nat.zero_add, Nat.add_mul, Nat.mul_assoc x 10, Nat.mul_comm 10, Nat.add_assoc]
theorem valA_lt (l : List UInt8) (h : digs l = true) : valA 0 l < 10 ^ l.length := by
  induction l with
  | nil => rw [valA_nil]; simp
  | cons c r ih =>
    have hc := dig_bd (digs_cons.1 h).1
    have := ih (digs_cons.1 h).2
    rw [valA_cons, valA_lin, List.length_cons, Nat.pow_succ]
    have h2 : (0 * 10 + (c.toNat - 48)) * 10 ^ r.length ≤ 9 * 10 ^ r.length := Nat.mul_le_mul_right _ (by omega)
    omega
theorem bl_val (a : List UInt8) : ∀ (b : List UInt8), digs a = true → digs b = true → a.length = b.length → (Op.bytesLess a b = true ↔ valA 0 a < valA 0 b) := by
  induction a with
  | nil => intro b _ _ hl; cases b with
    | nil => simp [Op.bytesLess]
    | cons _ _ => simp at hl
  | cons c r ih =>
    intro b ha hb hl
    match b, hb, hl with
    | d :: s, hb, hl =>
      have hl : r.length = s.length := by simpa using hl
      have hc := dig_bd (digs_cons.1 ha).1
      have hd := dig_bd (digs_cons.1 hb).1
      have h1 := valA_lt r (digs_cons.1 ha).2
      have h2 := valA_lt s (digs_cons.1 hb).2
      have ih := ih s (digs_cons.1 ha).2 (digs_cons.1 hb).2 hl
      rw [valA_cons, valA_cons, valA_lin r, valA_lin s, ← hl]
      rw [← hl] at h2
      rw [Op.bytesLess]
      rcases Nat.lt_trichotomy c.toNat d.toNat with h | h | h
      · have e : decide (c < d) = true := decide_eq_true (UInt8.lt_iff_toNat_lt.2 h)
        have hm : (0 * 10 + (c.toNat - 48) + 1) * 10 ^ r.length ≤ (0 * 10 + (d.toNat - 48)) * 10 ^ r.length := Nat.mul_le_mul_right _ (by omega)
        rw [Nat.add_mul, Nat.one_mul] at hm
        rw [e]; simp only [Bool.true_or, true_iff]; omega
      · have e : c = d := UInt8.toNat_inj.1 h
        subst e
        have e : decide (c < c) = false := decide_eq_false (by rw [UInt8.lt_iff_toNat_lt]; omega)
        rw [e]; simp only [beq_self_eq_true, Bool.true_and, Bool.false_or]
        rw [ih]; omega
      · have e : decide (c < d) = false := decide_eq_false (by rw [UInt8.lt_iff_toNat_lt]; omega)
        have e2 : (c == d) = false := beq_eq_false_iff_ne.2 (fun e => by rw [e] at h; omega)
        have hm : (0 * 10 + (d.toNat - 48) + 1) * 10 ^ r.length ≤ (0 * 10 + (c.toNat - 48)) * 10 ^ r.length := Nat.mul_le_mul_right _ (by omega)
        rw [Nat.add_mul, Nat.one_mul] at hm
        rw [e, e2]; simp only [Bool.false_and, Bool.or_self, Bool.false_eq_true, false_iff]; omega
theorem dec_digs (u : Nat) : digs (Lib.decDigits u) = true := (dec_spec (u + 1) u (by omega)).2.1
theorem bl_num (u v : Nat) (h : nd u = nd v) : Op.bytesLess (num u).toList (num v).toList = decide (u < v) := by
  rw [ByteArray.toList_eq, ByteArray.toList_eq, num_data, num_data]
  have := bl_val (Lib.decDigits u) (Lib.decDigits v) (dec_digs u) (dec_digs v) h
  rw [dec_val, dec_val] at this
  rw [Bool.eq_iff_iff, this, decide_eq_true_iff]
theorem nd_lt {u v : Nat} (h : nd u < nd v) : u < v := by
  apply Decidable.byContradiction
  intro h2
  have := nd_mono (show v ≤ u by omega)
  omega
theorem eq_num (u v : Nat) : ((num u).toList == (num v).toList) = decide (u = v) := by
  rw [ByteArray.toList_eq, ByteArray.toList_eq, num_data, num_data, Bool.eq_iff_iff, beq_iff_eq, decide_eq_true_iff]
  exact ⟨dec_inj, fun h => by rw [h]⟩

def cmpN (u v : Nat) : Int := if u < v then -1 else if u = v then 0 else 1

end Go.Proofs.YtgpjfgakhncdnaaDoor
