/-
  DERIVED. Plain Lean: decimal forms are read and written.
-/
import Derived.Test.YtgpjfgakhncdnaaDoorPure
import Derived.Lib.ParseIntB
import Derived.Lib.ItoaNum
import Derived.Lib.Strings
namespace Go.Proofs.YtgpjfgakhncdnaaDoor

def digs (l : List UInt8) : Bool := l.all fun c => dig c.toNat
/-- the number that digits spell behind a -/
def valA (a : Nat) (l : List UInt8) : Nat := l.foldl (fun a c => a * 10 + (c.toNat - 48)) a

theorem dig_bd {c : Nat} (h : dig c = true) : 48 ≤ c ∧ c ≤ 57 := by simpa [dig] using h
theorem digs_cons {c : UInt8} {r : List UInt8} : digs (c :: r) = true ↔ dig c.toNat = true ∧ digs r = true := by simp [digs]
theorem valA_nil (a : Nat) : valA a [] = a := by rw [valA, List.foldl_nil]
theorem valA_cons (a : Nat) (c : UInt8) (r : List UInt8) : valA a (c :: r) = valA (a * 10 + (c.toNat - 48)) r := by rw [valA, valA, List.foldl_cons]
theorem valA_ge (l : List UInt8) : ∀ (a : Nat), a ≤ valA a l := by
  induction l with
  | nil => intro a; rw [valA_nil]; exact Nat.le_refl _
  | cons c r ih => intro a; have := ih (a * 10 + (c.toNat - 48)); rw [valA_cons]; omega
theorem valA_snoc (c : UInt8) (l : List UInt8) : ∀ (a : Nat), valA a (l ++ [c]) = valA a l * 10 + (c.toNat - 48) := by
  induction l with
  | nil => intro a; rw [List.nil_append, valA_cons, valA_nil, valA_nil]
  | cons x r ih => intro a; rw [List.cons_append, valA_cons, valA_cons]; exact ih _

theorem pum (M : Nat) (hM : M = 18446744073709551615) : ∀ (l : List UInt8) (a : Nat), a ≤ M → digs l = true → Lib.parseUintM M a l = if valA a l ≤ M then .ok (valA a l) else .range
  | [], a, ha, _ => by rw [valA_nil, Lib.parseUintM, if_pos ha]
  | c :: r, a, ha, h => by
    have hd := dig_bd (digs_cons.1 h).1
    have hge := valA_ge r (a * 10 + (c.toNat - 48))
    rw [valA_cons]
    rw [Lib.parseUintM, if_pos hd]
    by_cases h1 : 1844674407370955162 ≤ a
    · rw [if_pos h1, if_neg (by omega)]
    rw [if_neg h1]
    by_cases h2 : M < a * 10 + (c.toNat - 48)
    · rw [if_pos h2, if_neg (by omega)]
    · rw [if_neg h2]
      exact pum M hM r _ (by omega) (digs_cons.1 h).2

theorem parse_pos (l : List UInt8) (hne : l ≠ []) (h : digs l = true) : Lib.parseIntB 64 l = if valA 0 l < 9223372036854775808 then .ok (valA 0 l : Int) else .range := by
  match l, hne, h with
  | c :: r, _, h =>
    have hd := dig_bd (digs_cons.1 h).1
    have hp := pum (2 ^ 64 - 1) (by decide) (c :: r) 0 (by omega) h
    have n1 : ¬ (c.toNat = 43 ∨ c.toNat = 45) := by omega
    have n2 : ¬ c.toNat = 45 := by omega
    simp only [Lib.parseIntB, Lib.parseUintB, if_neg n1, hp]
    rw [if_neg (by simp)]
    by_cases h1 : valA 0 (c :: r) ≤ 2 ^ 64 - 1
    · rw [if_pos h1]
      by_cases h2 : valA 0 (c :: r) < 9223372036854775808
      · rw [if_pos h2]; simp only [n2, not_false_eq_true, true_and, false_and, if_false]
        rw [if_neg (by omega)]
      · rw [if_neg h2]; simp only [n2, not_false_eq_true, true_and]
        rw [if_pos (by omega)]
    · rw [if_neg h1, if_neg (by omega)]

theorem parse_neg (l : List UInt8) (hne : l ≠ []) (h : digs l = true) : Lib.parseIntB 64 (45 :: l) = if valA 0 l ≤ 9223372036854775808 then .ok (-(valA 0 l : Int)) else .range := by
  have hp := pum (2 ^ 64 - 1) (by decide) l 0 (by omega) h
  have n1 : ((45 : UInt8).toNat = 43 ∨ (45 : UInt8).toNat = 45) := by decide
  have n2 : (45 : UInt8).toNat = 45 := by decide
  simp only [Lib.parseIntB, Lib.parseUintB, if_pos n1, hp, if_neg hne]
  by_cases h1 : valA 0 l ≤ 2 ^ 64 - 1
  · rw [if_pos h1]
    by_cases h2 : valA 0 l ≤ 9223372036854775808
    · rw [if_pos h2]; simp only [n2, not_true, false_and, true_and, if_false, if_true]
      rw [if_neg (by omega)]
    · rw [if_neg h2]; simp only [n2, not_true, false_and, true_and, if_false]
      rw [if_pos (by omega)]
  · rw [if_neg h1, if_neg (by omega)]

/-- the digits of a number that may be negative -/
def dgs (l : List UInt8) : List UInt8 := Lib.trimPrefix l [45]
def isDecB (l : List UInt8) : Bool := l == [48] || (!(dgs l).isEmpty && !((dgs l).headD 0).toNat == 48 && digs (dgs l))
theorem dgs_neg (r : List UInt8) : dgs (45 :: r) = r := by simp [dgs, Lib.trimPrefix, Lib.hasPrefix]
theorem dgs_pos (c : UInt8) (r : List UInt8) (h : c.toNat ≠ 45) : dgs (c :: r) = c :: r := by
  have : ¬ c = 45 := fun e => h (by rw [e]; rfl)
  have h2 : ¬ (45 : UInt8) = c := fun e => this e.symm
  simp [dgs, Lib.trimPrefix, Lib.hasPrefix, h2]

/-- what Number returns -/
def numL (l : List UInt8) : Int × Int :=
  if isDecB l = false then (0, 3)
  else if (l.headD 0).toNat = 45 then (if valA 0 (dgs l) ≤ 9223372036854775808 then (-(valA 0 (dgs l) : Int), 0) else (0, 4))
  else (if valA 0 (dgs l) < 9223372036854775808 then ((valA 0 (dgs l) : Int), 0) else (0, 4))

theorem isDec_digs (l : List UInt8) (h : isDecB l = true) : dgs l ≠ [] ∧ digs (dgs l) = true ∧ (l = [48] ∨ ((dgs l).headD 0).toNat ≠ 48) := by
  simp only [isDecB, Bool.or_eq_true, Bool.and_eq_true, beq_iff_eq] at h
  rcases h with h | h
  · subst h; exact ⟨by decide, by decide, Or.inl rfl⟩
  · obtain ⟨⟨h1, h2⟩, h3⟩ := h
    refine ⟨by simpa using h1, h3, Or.inr ?_⟩
    intro e; rw [e] at h2; simp at h2

theorem parse_dec (l : List UInt8) (h : isDecB l = true) : (∃ v, Lib.parseIntB 64 l = .ok v ∧ numL l = (v, 0)) ∨ (Lib.parseIntB 64 l = .range ∧ numL l = (0, 4)) := by
  obtain ⟨h1, h2, _⟩ := isDec_digs l h
  unfold numL
  rw [if_neg (by rw [h]; simp)]
  match l, h1, h2 with
  | c :: r, h1, h2 =>
    by_cases hc : c.toNat = 45
    · have : c = 45 := UInt8.toNat_inj.1 (by simpa using hc)
      subst this
      rw [dgs_neg] at h1 h2 ⊢
      rw [if_pos (by rfl)]
      have hp := parse_neg r h1 h2
      by_cases hv : valA 0 r ≤ 9223372036854775808
      · rw [if_pos hv] at hp ⊢; exact Or.inl ⟨_, hp, rfl⟩
      · rw [if_neg hv] at hp ⊢; exact Or.inr ⟨hp, rfl⟩
    · rw [dgs_pos c r hc] at h1 h2 ⊢
      rw [if_neg (by exact hc)]
      have hp := parse_pos (c :: r) h1 h2
      by_cases hv : valA 0 (c :: r) < 9223372036854775808
      · rw [if_pos hv] at hp ⊢; exact Or.inl ⟨_, hp, rfl⟩
      · rw [if_neg hv] at hp ⊢; exact Or.inr ⟨hp, rfl⟩

/-! ### the digits of a number -/
theorem dec_small {u : Nat} (h : u < 10) : Lib.decDigits u = [UInt8.ofNat (48 + u)] := by rw [Lib.decDigits, dif_pos h]
theorem dec_big {u : Nat} (h : ¬ u < 10) : Lib.decDigits u = Lib.decDigits (u / 10) ++ [UInt8.ofNat (48 + u % 10)] := by rw [Lib.decDigits, dif_neg h]
theorem toNat_digit (d : Nat) (h : d < 10) : (UInt8.ofNat (48 + d)).toNat = 48 + d := UInt8.toNat_ofNat_of_lt' (by simp [UInt8.size]; omega)

theorem dec_spec : ∀ (n u : Nat), u < n → Lib.decDigits u ≠ [] ∧ digs (Lib.decDigits u) = true ∧ valA 0 (Lib.decDigits u) = u ∧ (u ≠ 0 → ((Lib.decDigits u).headD 0).toNat ≠ 48)
  | 0, _, h => by omega
  | n + 1, u, h => by
    by_cases h1 : u < 10
    · rw [dec_small h1]
      have ht := toNat_digit u h1
      refine ⟨by simp, ?_, ?_, ?_⟩
      · rw [digs_cons, ht]; exact ⟨by simp [dig]; omega, rfl⟩
      · rw [valA_cons, valA_nil, ht]; omega
      · intro h0; show (UInt8.ofNat (48 + u)).toNat ≠ 48; rw [ht]; omega
    · rw [dec_big h1]
      obtain ⟨a, b, c, d⟩ := dec_spec n (u / 10) (by omega)
      have ht := toNat_digit (u % 10) (by omega)
      refine ⟨by simp, ?_, ?_, ?_⟩
      · simp only [digs, List.all_append, Bool.and_eq_true]
        refine ⟨b, ?_⟩
        simp only [List.all_cons, List.all_nil, Bool.and_true, ht]
        simp [dig]; omega
      · rw [valA_snoc, c, ht]; omega
      · intro _
        have := d (by omega)
        match Lib.decDigits (u / 10), a, this with
        | x :: r, _, this => exact this

theorem dec_inv : ∀ (n : Nat) (d : List UInt8), d.length = n → d ≠ [] → digs d = true → (d.headD 0).toNat ≠ 48 → Lib.decDigits (valA 0 d) = d
  | 0, d, h, hne, _, _ => absurd (List.eq_nil_of_length_eq_zero h) hne
  | n + 1, d, h, hne, hd, hh => by
    obtain ⟨r, c, rfl⟩ : ∃ r c, d = r ++ [c] := ⟨d.dropLast, d.getLast hne, (List.dropLast_concat_getLast hne).symm⟩
    simp only [digs, List.all_append, Bool.and_eq_true, List.all_cons, List.all_nil, Bool.and_true] at hd
    have hc := dig_bd hd.2
    rw [valA_snoc]
    match r, h, hne, hd, hh with
    | [], _, _, _, _ =>
      rw [valA_nil, Nat.zero_mul, Nat.zero_add, dec_small (by omega)]
      rw [show 48 + (c.toNat - 48) = c.toNat by omega]; simp
    | x :: r, h, hne, hd, hh =>
      have hx : x.toNat ≠ 48 := hh
      have hx2 := dig_bd (digs_cons.1 (show digs (x :: r) = true from hd.1)).1
      have h1 : 1 ≤ valA 0 (x :: r) := by have := valA_ge r (0 * 10 + (x.toNat - 48)); rw [valA_cons]; omega
      have ih := dec_inv n (x :: r) (by simpa using h) (by simp) hd.1 hh
      rw [dec_big (by omega), show (valA 0 (x :: r) * 10 + (c.toNat - 48)) / 10 = valA 0 (x :: r) by omega, ih,
        show (valA 0 (x :: r) * 10 + (c.toNat - 48)) % 10 = c.toNat - 48 by omega, show 48 + (c.toNat - 48) = c.toNat by omega]
      simp

/-- numbers are read back -/
theorem numL_itoa (n : Int) (h0 : -9223372036854775808 ≤ n) (h1 : n ≤ 9223372036854775807) : numL (Lib.itoa n) = (n, 0) := by
  by_cases hn : n < 0
  · obtain ⟨a, b, c, d⟩ := dec_spec (n.natAbs + 1) n.natAbs (by omega)
    have d := d (by omega)
    have hi : Lib.itoa n = 45 :: Lib.decDigits n.natAbs := by simp [Lib.itoa, hn]
    rw [hi]
    have hdec : isDecB (45 :: Lib.decDigits n.natAbs) = true := by
      simp only [isDecB, dgs_neg, b, Bool.and_true, Bool.or_eq_true, Bool.and_eq_true]
      right
      exact ⟨by simpa using a, by simpa using d⟩
    unfold numL
    rw [if_neg (by rw [hdec]; simp), if_pos (by rfl), dgs_neg, c, if_pos (by omega)]
    congr 1; omega
  · obtain ⟨a, b, c, d⟩ := dec_spec (n.toNat + 1) n.toNat (by omega)
    have hi : Lib.itoa n = Lib.decDigits n.toNat := by simp [Lib.itoa, hn]
    rw [hi]
    generalize hl : Lib.decDigits n.toNat = l at *
    match l, a, b, c, d with
    | x :: r, a, b, c, d =>
      have hx := dig_bd (digs_cons.1 b).1
      have h45 : x.toNat ≠ 45 := by omega
      have hdec : isDecB (x :: r) = true := by
        simp only [isDecB, dgs_pos x r h45, b, Bool.and_true, Bool.or_eq_true, Bool.and_eq_true]
        by_cases hz : n.toNat = 0
        · left
          rw [hz, dec_small (by omega)] at hl
          rw [← hl]; rfl
        · right
          exact ⟨by simp, by simpa using d hz⟩
      unfold numL
      rw [if_neg (by rw [hdec]; simp), if_neg (by exact h45), dgs_pos x r h45, c, if_pos (by omega)]
      congr 1; omega

/-- what is read is written so -/
theorem itoa_numL (l : List UInt8) (k : Int) (h : numL l = (k, 0)) : Lib.itoa k = l := by
  unfold numL at h
  by_cases hdec : isDecB l = false
  · rw [if_pos hdec] at h; simp at h
  rw [if_neg hdec] at h
  obtain ⟨h1, h2, h3⟩ := isDec_digs l (by simpa using hdec)
  match l, h1, h2, h3, h with
  | c :: r, h1, h2, h3, h =>
    by_cases hc : c.toNat = 45
    · have : c = 45 := UInt8.toNat_inj.1 (by simpa using hc)
      subst this
      rw [if_pos (by rfl)] at h
      rw [dgs_neg] at h1 h2 h3 h
      by_cases hv : valA 0 r ≤ 9223372036854775808
      · rw [if_pos hv] at h
        have hk := (Prod.mk.inj h).1
        have h48 : (r.headD 0).toNat ≠ 48 := by
          rcases h3 with h3 | h3
          · simp at h3
          · exact h3
        have hi := dec_inv r.length r rfl h1 h2 h48
        have hpos : 1 ≤ valA 0 r := by
          match r, h1, h2, h48 with
          | x :: r, _, h2, h48 =>
            have hx := dig_bd (digs_cons.1 h2).1
            have hx2 : x.toNat ≠ 48 := h48
            have := valA_ge r (0 * 10 + (x.toNat - 48)); rw [valA_cons]; omega
        rw [Lib.itoa, if_pos (by omega), show k.natAbs = valA 0 r by omega, hi]
      · rw [if_neg hv] at h; simp at h
    · rw [if_neg (by exact hc)] at h
      rw [dgs_pos c r hc] at h1 h2 h3 h
      by_cases hv : valA 0 (c :: r) < 9223372036854775808
      · rw [if_pos hv] at h
        have hk := (Prod.mk.inj h).1
        rw [Lib.itoa, if_neg (by omega), show k.toNat = valA 0 (c :: r) by omega]
        rcases h3 with h3 | h3
        · rw [h3]; rw [valA_cons, valA_nil, show 0 * 10 + ((48 : UInt8).toNat - 48) = 0 from rfl, dec_small (by omega)]; rfl
        · exact dec_inv (c :: r).length (c :: r) rfl h1 h2 h3
      · rw [if_neg hv] at h; simp at h

end Go.Proofs.YtgpjfgakhncdnaaDoor
