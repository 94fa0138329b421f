/-
  DERIVED. Merged by mkbase.py.
-/
import Derived.Lib.ParseIntB
import Derived.Lib.ItoaNum
import Derived.Lib.Strings
import GoSem.Op.String
import Derived.Laws.BitsAllLaws
import Derived.IntWalk
namespace Go.Proofs.YthamlnolfagpiaaGreatDoor

/-- a digit -/
def dig (c : Nat) : Bool := decide (48 ≤ c) && decide (c ≤ 57)
/-- a letter -/
def let1 (c : Nat) : Bool := decide (97 ≤ c) && decide (c ≤ 122) || decide (65 ≤ c) && decide (c ≤ 90)
/-- printable -/
def prn (c : Nat) : Bool := decide (32 ≤ c) && decide (c ≤ 126)
/-- of a word -/
def wrd (c : Nat) : Bool := prn c && c != 32 && c != 34
/-- of a name -/
def nam (c : Nat) : Bool := let1 c || dig c || c == 95

def nameB (l : List UInt8) : Bool := !l.isEmpty && decide (l.length ≤ 16) && !dig (l.headD 0).toNat && l.all fun c => nam c.toNat

theorem nam1 {c : Nat} (h : let1 c = true) : nam c = true := by simp [nam, h]
theorem nam2 {c : Nat} (h : dig c = true) : nam c = true := by simp [nam, h]
theorem nam3 {c : Nat} (h : ((c : Int) != 95) = false) : nam c = true := by
  have : c = 95 := by simp at h; omega
  simp [nam, this]
theorem nam4 {c : Nat} (h1 : ¬ let1 c = true) (h2 : ¬ dig c = true) (h3 : ((c : Int) != 95) = true) : nam c = false := by
  have : c ≠ 95 := by simp at h3; omega
  simp [nam, h1, h2, this]
/-- what the specification calls a letter -/
def ltr (c : Nat) : Bool := let1 c || c == 95
theorem nam5 {c : Nat} (h : ltr c = true) : nam c = true := by
  simp [ltr] at h; rcases h with h | h <;> simp [nam, h]
theorem nam6 {c : Nat} (h1 : ¬ ltr c = true) (h2 : (!dig c) = true) : nam c = false := by
  simp [ltr] at h1; simp at h2; simp [nam, h1, h2]
theorem nam7 {c : Nat} (h : (!dig c) = false) : nam c = true := by simp at h; simp [nam, h]
theorem nameB_all (l : List UInt8) (h0 : l ≠ []) (h : l.length ≤ 16) (hd : dig (l.headD 0).toNat = false) : nameB l = l.all fun c => nam c.toNat := by
  unfold nameB; rw [hd]; simp [h, h0]
theorem nameB_no (l : List UInt8) (h : l = [] ∨ 16 < l.length ∨ dig (l.headD 0).toNat = true) : nameB l = false := by
  rcases h with h | h | h
  · simp [nameB, h]
  · simp [nameB]; intro _ h2; omega
  · unfold nameB; rw [h]; simp

theorem take_snoc (s : ByteArray) (k : Nat) (h : k < s.size) : s.data.toList.take (k + 1) = s.data.toList.take k ++ [s[k]] := by
  rw [List.take_succ_eq_append_getElem (by simpa using h)]; rfl
theorem all_step (s : ByteArray) (p : UInt8 → Bool) (k : Nat) (h : k < s.size) (ha : (s.data.toList.take k).all p = true) (hp : p s[k] = true) : (s.data.toList.take (k + 1)).all p = true := by
  rw [take_snoc s k h, List.all_append, ha]; simp [hp]
theorem all_stop (s : ByteArray) (p : UInt8 → Bool) (k : Nat) (h : k < s.size) (hp : p s[k] = false) : s.data.toList.all p = false := by
  rw [List.all_eq_false]; exact ⟨s[k], by rw [← Array.mem_toList_iff.symm]; exact Array.getElem_mem h, by simp [hp]⟩
theorem all_end (s : ByteArray) (p : UInt8 → Bool) (ha : (s.data.toList.take s.size).all p = true) : s.data.toList.all p = true := by
  rwa [List.take_of_length_le (by simp)] at ha
theorem head_of (s : ByteArray) (h : 0 < s.size) : s.data.toList.headD 0 = s[0] := by
  obtain ⟨⟨l⟩⟩ := s
  cases l with
  | nil => simp [ByteArray.size] at h
  | cons a l => rfl
theorem ne_of (s : ByteArray) (h : 0 < s.size) : s.data.toList ≠ [] := by
  obtain ⟨⟨l⟩⟩ := s
  cases l with
  | nil => simp [ByteArray.size] at h
  | cons a l => simp
theorem empty_of (s : ByteArray) (h : s.size = 0) : s = ⟨#[]⟩ := by
  obtain ⟨⟨l⟩⟩ := s
  cases l with
  | nil => rfl
  | cons a l => simp [ByteArray.size] at h

/-! ### forms -/
def hexI (c : Nat) : Int := if dig c then (c : Int) - 48 else if 97 ≤ c ∧ c ≤ 102 then (c : Int) - 87 else -1
def rhex (c d : Nat) : Nat × Nat :=
  if hexI c < 0 ∨ hexI d < 0 then (0, 0)
  else if hexI c * 16 + hexI d = 10 ∨ prn (hexI c * 16 + hexI d).toNat = true then (0, 0) else ((hexI c * 16 + hexI d).toNat, 4)
def rhexL (l : List UInt8) : Nat × Nat := if l.length < 4 then (0, 0) else rhex (l.getD 2 0).toNat (l.getD 3 0).toNat
/-- what readEscape finds at a backslash -/
def resc (l : List UInt8) : Nat × Nat :=
  if l.length < 2 then (0, 0)
  else if (l.getD 1 0).toNat = 34 ∨ (l.getD 1 0).toNat = 92 then ((l.getD 1 0).toNat, 2)
  else if (l.getD 1 0).toNat = 110 then (10, 2)
  else if (l.getD 1 0).toNat = 120 then rhexL l else (0, 0)
/-- what readForm finds -/
def rfm (l : List UInt8) : Nat × Nat :=
  if l.length = 0 then (0, 0)
  else if (l.getD 0 0).toNat = 34 ∨ prn (l.getD 0 0).toNat = false then (0, 0)
  else if (l.getD 0 0).toNat = 92 then resc l
  else ((l.getD 0 0).toNat, 1)

/-- a digit of base 16 -/
def hexd (n : Nat) : UInt8 := if n < 10 then UInt8.ofNat (48 + n) else UInt8.ofNat (87 + n)
/-- the form of a byte -/
def formL (c : Nat) : List UInt8 :=
  if c = 34 then [92, 34] else if c = 92 then [92, 92] else if c = 10 then [92, 110]
  else if prn c = true then [UInt8.ofNat c] else [92, 120, hexd (c / 16), hexd (c % 16)]

theorem getD_of (s : ByteArray) (i : Nat) (h : i < s.size) : s.data.toList.getD i 0 = s[i] := by
  rw [List.getD_eq_getElem?_getD, List.getElem?_eq_getElem (by simpa using h)]; rfl
theorem len_of (s : ByteArray) : s.data.toList.length = s.size := by simp

theorem rhex_le (c d : Nat) : (rhex c d).2 ≤ 4 := by unfold rhex; split <;> (try split) <;> simp
theorem resc_le (l : List UInt8) : (resc l).2 ≤ 4 := by
  unfold resc rhexL
  split
  · simp
  · split
    · simp
    · split
      · simp
      · split
        · split
          · simp
          · exact rhex_le _ _
        · simp
theorem rfm_le (l : List UInt8) : (rfm l).2 ≤ 4 := by
  unfold rfm
  split
  · simp
  · split
    · simp
    · split
      · exact resc_le l
      · simp

/-- what quotedLength returns from index i on -/
def qgo (l : List UInt8) : Nat → Nat → Nat
  | 0, _ => 0
  | f + 1, i => if i < l.length then (if (l.getD i 0).toNat = 34 then i + 1 else if (rfm (l.drop i)).2 = 0 then 0 else qgo l f (i + (rfm (l.drop i)).2)) else 0
/-- what quotedLength returns -/
def qlen (l : List UInt8) : Nat := if l.length = 0 ∨ (l.getD 0 0).toNat ≠ 34 then 0 else qgo l l.length 1
theorem qgo_end (l : List UInt8) (f i : Nat) (h : ¬ i < l.length) : qgo l f i = 0 := by
  cases f with
  | zero => rfl
  | succ f => simp [qgo, h]
theorem qgo_quote (l : List UInt8) (f i : Nat) (h : i < l.length) (hf : l.length ≤ f + i) (hq : (l.getD i 0).toNat = 34) : qgo l f i = i + 1 := by
  obtain ⟨g, rfl⟩ : ∃ g, f = g + 1 := ⟨f - 1, by omega⟩
  simp only [qgo, if_pos h, if_pos hq]
theorem qgo_none (l : List UInt8) (f i : Nat) (h : i < l.length) (hq : (l.getD i 0).toNat ≠ 34) (hn : (rfm (l.drop i)).2 = 0) : qgo l f i = 0 := by
  cases f with
  | zero => rfl
  | succ f => simp only [qgo, if_pos h, if_neg hq, if_pos hn]
theorem qgo_next (l : List UInt8) (f i : Nat) (h : i < l.length) (hf : l.length ≤ f + i) (hq : (l.getD i 0).toNat ≠ 34) (hn : (rfm (l.drop i)).2 ≠ 0) : qgo l f i = qgo l (f - 1) (i + (rfm (l.drop i)).2) := by
  obtain ⟨g, rfl⟩ : ∃ g, f = g + 1 := ⟨f - 1, by omega⟩
  simp only [qgo, if_pos h, if_neg hq, if_neg hn]; rfl

theorem hexI_lt (c : Nat) : hexI c < 16 := by
  unfold hexI dig; split
  · rename_i h; simp at h; omega
  · split <;> omega
theorem hexI_ge (c : Nat) : -1 ≤ hexI c := by
  unfold hexI dig; split
  · rename_i h; simp at h; omega
  · split <;> omega

end Go.Proofs.YthamlnolfagpiaaGreatDoor

namespace Go.Proofs.YthamlnolfagpiaaGreatDoor

def digs (l : List UInt8) : Bool := l.all fun c => dig c.toNat
/-- the number that digits spell behind a -/
def valA (a : Nat) (l : List UInt8) : Nat := l.foldl (fun a c => a * 10 + (c.toNat - 48)) a

theorem dig_bd {c : Nat} (h : dig c = true) : 48 ≤ c ∧ c ≤ 57 := by simpa [dig] using h
theorem digs_cons {c : UInt8} {r : List UInt8} : digs (c :: r) = true ↔ dig c.toNat = true ∧ digs r = true := by simp [digs]
theorem valA_nil (a : Nat) : valA a [] = a := by rw [valA, List.foldl_nil]
theorem valA_cons (a : Nat) (c : UInt8) (r : List UInt8) : valA a (c :: r) = valA (a * 10 + (c.toNat - 48)) r := by rw [valA, valA, List.foldl_cons]
theorem valA_ge (l : List UInt8) : ∀ (a : Nat), a ≤ valA a l := by
  induction l with
  | nil => intro a; rw [valA_nil]; exact Nat.le_refl _
  | cons c r ih => intro a; have := ih (a * 10 + (c.toNat - 48)); rw [valA_cons]; omega
theorem valA_snoc (c : UInt8) (l : List UInt8) : ∀ (a : Nat), valA a (l ++ [c]) = valA a l * 10 + (c.toNat - 48) := by
  induction l with
  | nil => intro a; rw [List.nil_append, valA_cons, valA_nil, valA_nil]
  | cons x r ih => intro a; rw [List.cons_append, valA_cons, valA_cons]; exact ih _

theorem pum (M : Nat) (hM : M = 18446744073709551615) : ∀ (l : List UInt8) (a : Nat), a ≤ M → digs l = true → Lib.parseUintM M a l = if valA a l ≤ M then .ok (valA a l) else .range
  | [], a, ha, _ => by rw [valA_nil, Lib.parseUintM, if_pos ha]
  | c :: r, a, ha, h => by
    have hd := dig_bd (digs_cons.1 h).1
    have hge := valA_ge r (a * 10 + (c.toNat - 48))
    rw [valA_cons]
    rw [Lib.parseUintM, if_pos hd]
    by_cases h1 : 1844674407370955162 ≤ a
    · rw [if_pos h1, if_neg (by omega)]
    rw [if_neg h1]
    by_cases h2 : M < a * 10 + (c.toNat - 48)
    · rw [if_pos h2, if_neg (by omega)]
    · rw [if_neg h2]
      exact pum M hM r _ (by omega) (digs_cons.1 h).2

theorem parse_pos (l : List UInt8) (hne : l ≠ []) (h : digs l = true) : Lib.parseIntB 64 l = if valA 0 l < 9223372036854775808 then .ok (valA 0 l : Int) else .range := by
  match l, hne, h with
  | c :: r, _, h =>
    have hd := dig_bd (digs_cons.1 h).1
    have hp := pum (2 ^ 64 - 1) (by decide) (c :: r) 0 (by omega) h
    have n1 : ¬ (c.toNat = 43 ∨ c.toNat = 45) := by omega
    have n2 : ¬ c.toNat = 45 := by omega
    simp only [Lib.parseIntB, Lib.parseUintB, if_neg n1, hp]
    rw [if_neg (by simp)]
    by_cases h1 : valA 0 (c :: r) ≤ 2 ^ 64 - 1
    · rw [if_pos h1]
      by_cases h2 : valA 0 (c :: r) < 9223372036854775808
      · rw [if_pos h2]; simp only [n2, not_false_eq_true, true_and, false_and, if_false]
        rw [if_neg (by omega)]
      · rw [if_neg h2]; simp only [n2, not_false_eq_true, true_and]
        rw [if_pos (by omega)]
    · rw [if_neg h1, if_neg (by omega)]

theorem parse_neg (l : List UInt8) (hne : l ≠ []) (h : digs l = true) : Lib.parseIntB 64 (45 :: l) = if valA 0 l ≤ 9223372036854775808 then .ok (-(valA 0 l : Int)) else .range := by
  have hp := pum (2 ^ 64 - 1) (by decide) l 0 (by omega) h
  have n1 : ((45 : UInt8).toNat = 43 ∨ (45 : UInt8).toNat = 45) := by decide
  have n2 : (45 : UInt8).toNat = 45 := by decide
  simp only [Lib.parseIntB, Lib.parseUintB, if_pos n1, hp, if_neg hne]
  by_cases h1 : valA 0 l ≤ 2 ^ 64 - 1
  · rw [if_pos h1]
    by_cases h2 : valA 0 l ≤ 9223372036854775808
    · rw [if_pos h2]; simp only [n2, not_true, false_and, true_and, if_false, if_true]
      rw [if_neg (by omega)]
    · rw [if_neg h2]; simp only [n2, not_true, false_and, true_and, if_false]
      rw [if_pos (by omega)]
  · rw [if_neg h1, if_neg (by omega)]

/-- the digits of a number that may be negative -/
def dgs (l : List UInt8) : List UInt8 := Lib.trimPrefix l [45]
def isDecB (l : List UInt8) : Bool := l == [48] || (!(dgs l).isEmpty && !((dgs l).headD 0).toNat == 48 && digs (dgs l))
theorem dgs_neg (r : List UInt8) : dgs (45 :: r) = r := by simp [dgs, Lib.trimPrefix, Lib.hasPrefix]
theorem dgs_pos (c : UInt8) (r : List UInt8) (h : c.toNat ≠ 45) : dgs (c :: r) = c :: r := by
  have : ¬ c = 45 := fun e => h (by rw [e]; rfl)
  have h2 : ¬ (45 : UInt8) = c := fun e => this e.symm
  simp [dgs, Lib.trimPrefix, Lib.hasPrefix, h2]

/-- what Number returns -/
def numL (l : List UInt8) : Int × Int :=
  if isDecB l = false then (0, 3)
  else if (l.headD 0).toNat = 45 then (if valA 0 (dgs l) ≤ 9223372036854775808 then (-(valA 0 (dgs l) : Int), 0) else (0, 4))
  else (if valA 0 (dgs l) < 9223372036854775808 then ((valA 0 (dgs l) : Int), 0) else (0, 4))

theorem isDec_digs (l : List UInt8) (h : isDecB l = true) : dgs l ≠ [] ∧ digs (dgs l) = true ∧ (l = [48] ∨ ((dgs l).headD 0).toNat ≠ 48) := by
  simp only [isDecB, Bool.or_eq_true, Bool.and_eq_true, beq_iff_eq] at h
  rcases h with h | h
  · subst h; exact ⟨by decide, by decide, Or.inl rfl⟩
  · obtain ⟨⟨h1, h2⟩, h3⟩ := h
    refine ⟨by simpa using h1, h3, Or.inr ?_⟩
    intro e; rw [e] at h2; simp at h2

theorem parse_dec (l : List UInt8) (h : isDecB l = true) : (∃ v, Lib.parseIntB 64 l = .ok v ∧ numL l = (v, 0)) ∨ (Lib.parseIntB 64 l = .range ∧ numL l = (0, 4)) := by
  obtain ⟨h1, h2, _⟩ := isDec_digs l h
  unfold numL
  rw [if_neg (by rw [h]; simp)]
  match l, h1, h2 with
  | c :: r, h1, h2 =>
    by_cases hc : c.toNat = 45
    · have : c = 45 := UInt8.toNat_inj.1 (by simpa using hc)
      subst this
      rw [dgs_neg] at h1 h2 ⊢
      rw [if_pos (by rfl)]
      have hp := parse_neg r h1 h2
      by_cases hv : valA 0 r ≤ 9223372036854775808
      · rw [if_pos hv] at hp ⊢; exact Or.inl ⟨_, hp, rfl⟩
      · rw [if_neg hv] at hp ⊢; exact Or.inr ⟨hp, rfl⟩
    · rw [dgs_pos c r hc] at h1 h2 ⊢
      rw [if_neg (by exact hc)]
      have hp := parse_pos (c :: r) h1 h2
      by_cases hv : valA 0 (c :: r) < 9223372036854775808
      · rw [if_pos hv] at hp ⊢; exact Or.inl ⟨_, hp, rfl⟩
      · rw [if_neg hv] at hp ⊢; exact Or.inr ⟨hp, rfl⟩

/-! ### the digits of a number -/
theorem dec_small {u : Nat} (h : u < 10) : Lib.decDigits u = [UInt8.ofNat (48 + u)] := by rw [Lib.decDigits, dif_pos h]
theorem dec_big {u : Nat} (h : ¬ u < 10) : Lib.decDigits u = Lib.decDigits (u / 10) ++ [UInt8.ofNat (48 + u % 10)] := by rw [Lib.decDigits, dif_neg h]
theorem toNat_digit (d : Nat) (h : d < 10) : (UInt8.ofNat (48 + d)).toNat = 48 + d := UInt8.toNat_ofNat_of_lt' (by simp [UInt8.size]; omega)

theorem dec_spec : ∀ (n u : Nat), u < n → Lib.decDigits u ≠ [] ∧ digs (Lib.decDigits u) = true ∧ valA 0 (Lib.decDigits u) = u ∧ (u ≠ 0 → ((Lib.decDigits u).headD 0).toNat ≠ 48)
  | 0, _, h => by omega
  | n + 1, u, h => by
    by_cases h1 : u < 10
    · rw [dec_small h1]
      have ht := toNat_digit u h1
      refine ⟨by simp, ?_, ?_, ?_⟩
      · rw [digs_cons, ht]; exact ⟨by simp [dig]; omega, rfl⟩
      · rw [valA_cons, valA_nil, ht]; omega
      · intro h0; show (UInt8.ofNat (48 + u)).toNat ≠ 48; rw [ht]; omega
    · rw [dec_big h1]
      obtain ⟨a, b, c, d⟩ := dec_spec n (u / 10) (by omega)
      have ht := toNat_digit (u % 10) (by omega)
      refine ⟨by simp, ?_, ?_, ?_⟩
      · simp only [digs, List.all_append, Bool.and_eq_true]
        refine ⟨b, ?_⟩
        simp only [List.all_cons, List.all_nil, Bool.and_true, ht]
        simp [dig]; omega
      · rw [valA_snoc, c, ht]; omega
      · intro _
        have := d (by omega)
        match Lib.decDigits (u / 10), a, this with
        | x :: r, _, this => exact this

theorem dec_inv : ∀ (n : Nat) (d : List UInt8), d.length = n → d ≠ [] → digs d = true → (d.headD 0).toNat ≠ 48 → Lib.decDigits (valA 0 d) = d
  | 0, d, h, hne, _, _ => absurd (List.eq_nil_of_length_eq_zero h) hne
  | n + 1, d, h, hne, hd, hh => by
    obtain ⟨r, c, rfl⟩ : ∃ r c, d = r ++ [c] := ⟨d.dropLast, d.getLast hne, (List.dropLast_concat_getLast hne).symm⟩
    simp only [digs, List.all_append, Bool.and_eq_true, List.all_cons, List.all_nil, Bool.and_true] at hd
    have hc := dig_bd hd.2
    rw [valA_snoc]
    match r, h, hne, hd, hh with
    | [], _, _, _, _ =>
      rw [valA_nil, Nat.zero_mul, Nat.zero_add, dec_small (by omega)]
      rw [show 48 + (c.toNat - 48) = c.toNat by omega]; simp
    | x :: r, h, hne, hd, hh =>
      have hx : x.toNat ≠ 48 := hh
      have hx2 := dig_bd (digs_cons.1 (show digs (x :: r) = true from hd.1)).1
      have h1 : 1 ≤ valA 0 (x :: r) := by have := valA_ge r (0 * 10 + (x.toNat - 48)); rw [valA_cons]; omega
      have ih := dec_inv n (x :: r) (by simpa using h) (by simp) hd.1 hh
      rw [dec_big (by omega), show (valA 0 (x :: r) * 10 + (c.toNat - 48)) / 10 = valA 0 (x :: r) by omega, ih,
        show (valA 0 (x :: r) * 10 + (c.toNat - 48)) % 10 = c.toNat - 48 by omega, show 48 + (c.toNat - 48) = c.toNat by omega]
      simp

/-- numbers are read back -/
theorem numL_itoa (n : Int) (h0 : -9223372036854775808 ≤ n) (h1 : n ≤ 9223372036854775807) : numL (Lib.itoa n) = (n, 0) := by
  by_cases hn : n < 0
  · obtain ⟨a, b, c, d⟩ := dec_spec (n.natAbs + 1) n.natAbs (by omega)
    have d := d (by omega)
    have hi : Lib.itoa n = 45 :: Lib.decDigits n.natAbs := by simp [Lib.itoa, hn]
    rw [hi]
    have hdec : isDecB (45 :: Lib.decDigits n.natAbs) = true := by
      simp only [isDecB, dgs_neg, b, Bool.and_true, Bool.or_eq_true, Bool.and_eq_true]
      right
      exact ⟨by simpa using a, by simpa using d⟩
    unfold numL
    rw [if_neg (by rw [hdec]; simp), if_pos (by rfl), dgs_neg, c, if_pos (by omega)]
    congr 1; omega
  · obtain ⟨a, b, c, d⟩ := dec_spec (n.toNat + 1) n.toNat (by omega)
    have hi : Lib.itoa n = Lib.decDigits n.toNat := by simp [Lib.itoa, hn]
    rw [hi]
    generalize hl : Lib.decDigits n.toNat = l at *
    match l, a, b, c, d with
    | x :: r, a, b, c, d =>
      have hx := dig_bd (digs_cons.1 b).1
      have h45 : x.toNat ≠ 45 := by omega
      have hdec : isDecB (x :: r) = true := by
        simp only [isDecB, dgs_pos x r h45, b, Bool.and_true, Bool.or_eq_true, Bool.and_eq_true]
        by_cases hz : n.toNat = 0
        · left
          rw [hz, dec_small (by omega)] at hl
          rw [← hl]; rfl
        · right
          exact ⟨by simp, by simpa using d hz⟩
      unfold numL
      rw [if_neg (by rw [hdec]; simp), if_neg (by exact h45), dgs_pos x r h45, c, if_pos (by omega)]
      congr 1; omega

/-- what is read is written so -/
theorem itoa_numL (l : List UInt8) (k : Int) (h : numL l = (k, 0)) : Lib.itoa k = l := by
  unfold numL at h
  by_cases hdec : isDecB l = false
  · rw [if_pos hdec] at h; simp at h
  rw [if_neg hdec] at h
  obtain ⟨h1, h2, h3⟩ := isDec_digs l (by simpa using hdec)
  match l, h1, h2, h3, h with
  | c :: r, h1, h2, h3, h =>
    by_cases hc : c.toNat = 45
    · have : c = 45 := UInt8.toNat_inj.1 (by simpa using hc)
      subst this
      rw [if_pos (by rfl)] at h
      rw [dgs_neg] at h1 h2 h3 h
      by_cases hv : valA 0 r ≤ 9223372036854775808
      · rw [if_pos hv] at h
        have hk := (Prod.mk.inj h).1
        have h48 : (r.headD 0).toNat ≠ 48 := by
          rcases h3 with h3 | h3
          · simp at h3
          · exact h3
        have hi := dec_inv r.length r rfl h1 h2 h48
        have hpos : 1 ≤ valA 0 r := by
          match r, h1, h2, h48 with
          | x :: r, _, h2, h48 =>
            have hx := dig_bd (digs_cons.1 h2).1
            have hx2 : x.toNat ≠ 48 := h48
            have := valA_ge r (0 * 10 + (x.toNat - 48)); rw [valA_cons]; omega
        rw [Lib.itoa, if_pos (by omega), show k.natAbs = valA 0 r by omega, hi]
      · rw [if_neg hv] at h; simp at h
    · rw [if_neg (by exact hc)] at h
      rw [dgs_pos c r hc] at h1 h2 h3 h
      by_cases hv : valA 0 (c :: r) < 9223372036854775808
      · rw [if_pos hv] at h
        have hk := (Prod.mk.inj h).1
        rw [Lib.itoa, if_neg (by omega), show k.toNat = valA 0 (c :: r) by omega]
        rcases h3 with h3 | h3
        · rw [h3]; rw [valA_cons, valA_nil, show 0 * 10 + ((48 : UInt8).toNat - 48) = 0 from rfl, dec_small (by omega)]; rfl
        · exact dec_inv (c :: r).length (c :: r) rfl h1 h2 h3
      · rw [if_neg hv] at h; simp at h

end Go.Proofs.YthamlnolfagpiaaGreatDoor

namespace Go.Proofs.YthamlnolfagpiaaGreatDoor

/-- the numeral of u, as a string -/
def num (u : Nat) : ByteArray := ⟨(Lib.decDigits u).toArray⟩
theorem num_data (u : Nat) : (num u).data.toList = Lib.decDigits u := rfl
theorem num_size (u : Nat) : (num u).size = (Lib.decDigits u).length := by rw [Lib.size_eq, num_data]

/-- which texts are right -/
def rightL (l : List UInt8) : Bool := !l.isEmpty && (decide (l.length ≤ 1) || !((l.headD 0).toNat == 48)) && digs l
theorem right_num (u : Nat) : rightL (Lib.decDigits u) = true := by
  obtain ⟨a, b, c, d⟩ := dec_spec (u + 1) u (by omega)
  unfold rightL
  by_cases h0 : u = 0
  · subst h0; rw [dec_small (by omega)]; rfl
  · have := d h0
    have h1 : (((Lib.decDigits u).headD 0).toNat == 48) = false := beq_eq_false_iff_ne.2 this
    rw [h1, b]
    cases hx : Lib.decDigits u with
    | nil => exact absurd hx a
    | cons _ _ => simp
theorem num_right (l : List UInt8) (h : rightL l = true) : Lib.decDigits (valA 0 l) = l := by
  unfold rightL at h
  simp only [Bool.and_eq_true, Bool.or_eq_true, decide_eq_true_eq, Bool.not_eq_true'] at h
  obtain ⟨⟨h0, h1⟩, h2⟩ := h
  match l, h0, h1, h2 with
  | [c], _, _, h2 =>
    have hc := dig_bd (digs_cons.1 h2).1
    rw [valA_cons, valA_nil, dec_small (by omega), show 48 + (0 * 10 + (c.toNat - 48)) = c.toNat by omega]; simp
  | c :: d :: r, _, h1, h2 =>
    have h1 : ((c :: d :: r).headD 0).toNat ≠ 48 := by
      rcases h1 with h1 | h1
      · simp at h1
      · exact beq_eq_false_iff_ne.1 h1
    exact dec_inv _ _ rfl (by simp) h2 h1
theorem right_iff (l : List UInt8) : rightL l = true ↔ ∃ u, l = Lib.decDigits u :=
  ⟨fun h => ⟨_, (num_right l h).symm⟩, fun ⟨u, h⟩ => by rw [h]; exact right_num u⟩
theorem right_str (s : ByteArray) (h : rightL s.data.toList = true) : ∃ u, s = num u := by
  refine ⟨valA 0 s.data.toList, ?_⟩
  rw [num, num_right _ h, Lib.mk_data]
theorem dec_val (u : Nat) : valA 0 (Lib.decDigits u) = u := (dec_spec (u + 1) u (by omega)).2.2.1
theorem dec_inj {u v : Nat} (h : Lib.decDigits u = Lib.decDigits v) : u = v := by rw [← dec_val u, h, dec_val]
theorem num_inj {u v : Nat} (h : num u = num v) : u = v := dec_inj (by rw [← num_data u, h, num_data])

/-! ### lengths -/
/-- the number of digits -/
def nd (u : Nat) : Nat := (Lib.decDigits u).length
theorem nd_pos (u : Nat) : 1 ≤ nd u := by
  have := (dec_spec (u + 1) u (by omega)).1
  unfold nd
  have : (Lib.decDigits u).length ≠ 0 := by simpa using this
  omega
theorem lt_nd (u : Nat) : u < 10 ^ nd u := by unfold nd; rw [Lib.decDigits_length]; exact Lib.lt_pow_nDigits u
theorem nd_le (u k : Nat) (h : u < 10 ^ (k + 1)) : nd u ≤ k + 1 := by
  unfold nd
  induction k generalizing u with
  | zero => rw [dec_small (by simpa using h)]; simp
  | succ k ih =>
    by_cases h1 : u < 10
    · rw [dec_small h1]; simp
    · rw [dec_big h1, List.length_append]
      have := ih (u / 10) (by rw [Nat.pow_succ] at h; omega)
      simp; omega
theorem le_nd (u k : Nat) (h : 10 ^ k ≤ u) : k + 1 ≤ nd u := by
  have h1 := lt_nd u
  apply Decidable.byContradiction
  intro h2
  have : 10 ^ nd u ≤ 10 ^ k := Nat.pow_le_pow_right (by omega) (by omega)
  omega
theorem nd_mono {u v : Nat} (h : u ≤ v) : nd u ≤ nd v := by
  have h1 := lt_nd v
  have h2 := nd_pos v
  obtain ⟨k, hk⟩ : ∃ k, nd v = k + 1 := ⟨nd v - 1, by omega⟩
  rw [hk] at h1 ⊢
  exact nd_le u k (by omega)

/-- a digit, counted from the right -/
theorem dig_at (u k : Nat) (h : k < nd u) : ((Lib.decDigits u).getD (nd u - 1 - k) 0).toNat = 48 + u / 10 ^ k % 10 := by
  have e : nd u = Lib.nDigits u := Lib.decDigits_length u
  rw [Lib.decDigits_eq, List.getD_eq_getElem?_getD, List.getElem?_map, List.getElem?_range (by omega)]
  simp only [Option.map_some, Option.getD_some, Lib.dg]
  rw [show Lib.nDigits u - 1 - (nd u - 1 - k) = k by omega]
  exact toNat_digit _ (by omega)
theorem dig_over (u k : Nat) (h : nd u ≤ k) : u / 10 ^ k % 10 = 0 := by
  have h1 := lt_nd u
  have : 10 ^ nd u ≤ 10 ^ k := Nat.pow_le_pow_right (by omega) h
  rw [Nat.div_eq_of_lt (by omega)]

/-! ### numerals with leading zeros -/
/-- the k low digits of u -/
def padL : Nat → Nat → List UInt8
  | 0, _ => []
  | k + 1, u => UInt8.ofNat (48 + u / 10 ^ k % 10) :: padL k u
theorem padL_len : ∀ (k u : Nat), (padL k u).length = k
  | 0, _ => rfl
  | k + 1, u => by rw [padL, List.length_cons, padL_len k u]
theorem padL_snoc : ∀ (k u : Nat), padL (k + 1) u = padL k (u / 10) ++ [UInt8.ofNat (48 + u % 10)]
  | 0, u => by simp [padL]
  | k + 1, u => by
    rw [padL, padL_snoc k u, padL, Nat.div_div_eq_div_mul, ← Nat.pow_succ']; rfl
theorem padL_dec : ∀ (k u : Nat), nd u = k + 1 → padL (k + 1) u = Lib.decDigits u
  | 0, u, h => by
    have := lt_nd u
    rw [h] at this
    rw [padL_snoc, padL, dec_small (by simpa using this), List.nil_append, Nat.mod_eq_of_lt (by simpa using this)]
  | k + 1, u, h => by
    have h1 : ¬ u < 10 := by
      intro h1
      have := nd_le u 0 (by simpa using h1)
      omega
    have h2 : nd (u / 10) = k + 1 := by
      have : nd u = nd (u / 10) + 1 := by unfold nd; rw [dec_big h1]; simp
      omega
    rw [padL_snoc, dec_big h1, padL_dec k (u / 10) h2]

/-- what trim does -/
def trimL : List UInt8 → List UInt8
  | [] => []
  | [c] => [c]
  | c :: d :: r => if c.toNat = 48 then trimL (d :: r) else c :: d :: r
theorem trim_pad : ∀ (k u : Nat), u < 10 ^ (k + 1) → trimL (padL (k + 1) u) = Lib.decDigits u
  | 0, u, h => by
    have h1 : u < 10 := by simpa using h
    have : nd u = 1 := by have := nd_pos u; have := nd_le u 0 h; omega
    rw [← padL_dec 0 u this]; rfl
  | k + 1, u, h => by
    by_cases h0 : u / 10 ^ (k + 1) % 10 = 0
    · have h1 : u < 10 ^ (k + 1) := by
        have h2 : u / 10 ^ (k + 1) < 10 := Nat.div_lt_of_lt_mul (by rw [← Nat.pow_succ]; exact h)
        have h3 : u / 10 ^ (k + 1) = 0 := by
          generalize u / 10 ^ (k + 1) = q at h0 h2
          omega
        rcases Nat.lt_or_ge u (10 ^ (k + 1)) with h4 | h4
        · exact h4
        · have := (Nat.div_pos_iff (a := u) (b := 10 ^ (k + 1))).2 ⟨Nat.pow_pos (by omega), h4⟩
          omega
      rw [padL, padL, trimL, if_pos (by rw [toNat_digit _ (by omega), h0]), ← padL]
      exact trim_pad k u h1
    · rw [padL, padL, trimL, if_neg (by rw [toNat_digit _ (by omega)]; omega), ← padL, ← padL]
      apply padL_dec
      have h4 : 10 ^ (k + 1) ≤ u := by
        rcases Nat.lt_or_ge u (10 ^ (k + 1)) with h5 | h5
        · rw [Nat.div_eq_of_lt h5] at h0; exact absurd rfl h0
        · exact h5
      have := le_nd u (k + 1) h4
      have := nd_le u (k + 1) h
      omega

/-! ### order -/
theorem valA_lin (l : List UInt8) : ∀ x, valA x l = x * 10 ^ l.length + valA 0 l := by
  induction l with
  | nil => intro x; rw [valA_nil, valA_nil]; simp
  | cons c r ih =>
    intro x
    rw [valA_cons, valA_cons, ih, ih (0 * 10 + (c.toNat - 48)), List.length_cons, Nat.pow_succ]
    rw [Nat.zero_mul, Nat.zero_add, Nat.add_mul, Nat.mul_assoc x 10, Nat.mul_comm 10, Nat.add_assoc]
theorem valA_lt (l : List UInt8) (h : digs l = true) : valA 0 l < 10 ^ l.length := by
  induction l with
  | nil => rw [valA_nil]; simp
  | cons c r ih =>
    have hc := dig_bd (digs_cons.1 h).1
    have := ih (digs_cons.1 h).2
    rw [valA_cons, valA_lin, List.length_cons, Nat.pow_succ]
    have h2 : (0 * 10 + (c.toNat - 48)) * 10 ^ r.length ≤ 9 * 10 ^ r.length := Nat.mul_le_mul_right _ (by omega)
    omega
theorem bl_val (a : List UInt8) : ∀ (b : List UInt8), digs a = true → digs b = true → a.length = b.length → (Op.bytesLess a b = true ↔ valA 0 a < valA 0 b) := by
  induction a with
  | nil => intro b _ _ hl; cases b with
    | nil => simp [Op.bytesLess]
    | cons _ _ => simp at hl
  | cons c r ih =>
    intro b ha hb hl
    match b, hb, hl with
    | d :: s, hb, hl =>
      have hl : r.length = s.length := by simpa using hl
      have hc := dig_bd (digs_cons.1 ha).1
      have hd := dig_bd (digs_cons.1 hb).1
      have h1 := valA_lt r (digs_cons.1 ha).2
      have h2 := valA_lt s (digs_cons.1 hb).2
      have ih := ih s (digs_cons.1 ha).2 (digs_cons.1 hb).2 hl
      rw [valA_cons, valA_cons, valA_lin r, valA_lin s, ← hl]
      rw [← hl] at h2
      rw [Op.bytesLess]
      rcases Nat.lt_trichotomy c.toNat d.toNat with h | h | h
      · have e : decide (c < d) = true := decide_eq_true (UInt8.lt_iff_toNat_lt.2 h)
        have hm : (0 * 10 + (c.toNat - 48) + 1) * 10 ^ r.length ≤ (0 * 10 + (d.toNat - 48)) * 10 ^ r.length := Nat.mul_le_mul_right _ (by omega)
        rw [Nat.add_mul, Nat.one_mul] at hm
        rw [e]; simp only [Bool.true_or, true_iff]; omega
      · have e : c = d := UInt8.toNat_inj.1 h
        subst e
        have e : decide (c < c) = false := decide_eq_false (by rw [UInt8.lt_iff_toNat_lt]; omega)
        rw [e]; simp only [beq_self_eq_true, Bool.true_and, Bool.false_or]
        rw [ih]; omega
      · have e : decide (c < d) = false := decide_eq_false (by rw [UInt8.lt_iff_toNat_lt]; omega)
        have e2 : (c == d) = false := beq_eq_false_iff_ne.2 (fun e => by rw [e] at h; omega)
        have hm : (0 * 10 + (d.toNat - 48) + 1) * 10 ^ r.length ≤ (0 * 10 + (c.toNat - 48)) * 10 ^ r.length := Nat.mul_le_mul_right _ (by omega)
        rw [Nat.add_mul, Nat.one_mul] at hm
        rw [e, e2]; simp only [Bool.false_and, Bool.or_self, Bool.false_eq_true, false_iff]; omega
theorem dec_digs (u : Nat) : digs (Lib.decDigits u) = true := (dec_spec (u + 1) u (by omega)).2.1
theorem bl_num (u v : Nat) (h : nd u = nd v) : Op.bytesLess (num u).toList (num v).toList = decide (u < v) := by
  rw [ByteArray.toList_eq, ByteArray.toList_eq, num_data, num_data]
  have := bl_val (Lib.decDigits u) (Lib.decDigits v) (dec_digs u) (dec_digs v) h
  rw [dec_val, dec_val] at this
  rw [Bool.eq_iff_iff, this, decide_eq_true_iff]
theorem nd_lt {u v : Nat} (h : nd u < nd v) : u < v := by
  apply Decidable.byContradiction
  intro h2
  have := nd_mono (show v ≤ u by omega)
  omega
theorem eq_num (u v : Nat) : ((num u).toList == (num v).toList) = decide (u = v) := by
  rw [ByteArray.toList_eq, ByteArray.toList_eq, num_data, num_data, Bool.eq_iff_iff, beq_iff_eq, decide_eq_true_iff]
  exact ⟨dec_inj, fun h => by rw [h]⟩

def cmpN (u v : Nat) : Int := if u < v then -1 else if u = v then 0 else 1

end Go.Proofs.YthamlnolfagpiaaGreatDoor

namespace Go.Proofs.YthamlnolfagpiaaGreatDoor

/-- the digit n, as a byte -/
def dchr (n : Nat) : UInt8 := UInt8.ofNat (48 + n)

/-! ### carries -/
/-- the carry out of the k low digits -/
def cy (u v k : Nat) : Nat := (u % 10 ^ k + v % 10 ^ k) / 10 ^ k
theorem ten_pos (k : Nat) : 0 < 10 ^ k := Nat.pow_pos (by omega)
theorem cy_zero (u v : Nat) : cy u v 0 = 0 := by simp [cy, Nat.mod_one]
theorem cy_le (u v k : Nat) : cy u v k ≤ 1 := by
  have h1 := Nat.mod_lt u (ten_pos k)
  have h2 := Nat.mod_lt v (ten_pos k)
  have : cy u v k < 2 := Nat.div_lt_of_lt_mul (by omega)
  omega
theorem cy_quo (u v k : Nat) : (u + v) / 10 ^ k = u / 10 ^ k + v / 10 ^ k + cy u v k := by
  have hp := ten_pos k
  have h1 := Nat.div_add_mod u (10 ^ k)
  have h2 := Nat.div_add_mod v (10 ^ k)
  rw [cy]
  generalize 10 ^ k = P at *
  have e : u + v = (u % P + v % P) + P * (u / P + v / P) := by rw [Nat.mul_add]; omega
  rw [e, Nat.add_mul_div_left _ _ hp]; omega
theorem cy_dig (u v k : Nat) : (u + v) / 10 ^ k % 10 = (u / 10 ^ k % 10 + v / 10 ^ k % 10 + cy u v k) % 10 := by
  rw [cy_quo]; omega
theorem mod_succ (u k : Nat) : u % 10 ^ (k + 1) = 10 ^ k * (u / 10 ^ k % 10) + u % 10 ^ k := by
  rw [Nat.pow_succ, Nat.mod_mul]; omega
theorem cy_succ (u v k : Nat) : cy u v (k + 1) = (u / 10 ^ k % 10 + v / 10 ^ k % 10 + cy u v k) / 10 := by
  have hp := ten_pos k
  unfold cy
  rw [mod_succ, mod_succ, Nat.pow_succ, ← Nat.div_div_eq_div_mul]
  generalize u / 10 ^ k % 10 = a
  generalize v / 10 ^ k % 10 = b
  generalize u % 10 ^ k = x
  generalize v % 10 ^ k = y
  generalize 10 ^ k = P at *
  congr 1
  have e : P * a + x + (P * b + y) = (x + y) + P * (a + b) := by rw [Nat.mul_add]; omega
  rw [e, Nat.add_mul_div_left _ _ hp]; omega
theorem cy_end (u v k : Nat) (hu : u < 10 ^ k) (hv : v < 10 ^ k) : cy u v k = (u + v) / 10 ^ k := by
  rw [cy, Nat.mod_eq_of_lt hu, Nat.mod_eq_of_lt hv]
theorem lt_pow_of_nd {u k : Nat} (h : nd u ≤ k) : u < 10 ^ k := by
  have := lt_nd u
  have : 10 ^ nd u ≤ 10 ^ k := Nat.pow_le_pow_right (by omega) h
  omega
theorem nd_le_of_lt {u k : Nat} (hk : 0 < k) (h : u < 10 ^ k) : nd u ≤ k := by
  obtain ⟨j, rfl⟩ : ∃ j, k = j + 1 := ⟨k - 1, by omega⟩
  exact nd_le u j h
/-- all digits read: no carry is left -/
theorem sum_none (u v k : Nat) (hu : nd u ≤ k) (hv : nd v ≤ k) (hk : k = nd u ∨ k = nd v) (h : cy u v k = 0) : padL k (u + v) = Lib.decDigits (u + v) := by
  have h0 := nd_pos u
  have h1 := nd_mono (show u ≤ u + v by omega)
  have h2 := nd_mono (show v ≤ u + v by omega)
  rw [cy_end u v k (lt_pow_of_nd hu) (lt_pow_of_nd hv)] at h
  have h3 : u + v < 10 ^ k := by
    apply Decidable.byContradiction
    intro h4
    have := (Nat.div_pos_iff (a := u + v) (b := 10 ^ k)).2 ⟨ten_pos k, by omega⟩
    omega
  have h4 := nd_le_of_lt (by omega) h3
  obtain ⟨j, rfl⟩ : ∃ j, k = j + 1 := ⟨k - 1, by omega⟩
  exact padL_dec j (u + v) (by rcases hk with hk | hk <;> omega)
theorem sum_some (u v k : Nat) (hu : nd u ≤ k) (hv : nd v ≤ k) (h : cy u v k = 1) : dchr 1 :: padL k (u + v) = Lib.decDigits (u + v) := by
  rw [cy_end u v k (lt_pow_of_nd hu) (lt_pow_of_nd hv)] at h
  have h1 : 10 ^ k ≤ u + v := by
    rcases Nat.lt_or_ge (u + v) (10 ^ k) with h4 | h4
    · rw [Nat.div_eq_of_lt h4] at h; omega
    · exact h4
  have h2 := le_nd (u + v) k h1
  have h3 : u + v < 10 ^ (k + 1) := by
    have := lt_pow_of_nd hu
    have := lt_pow_of_nd hv
    rw [Nat.pow_succ]; omega
  have h4 := nd_le (u + v) k h3
  rw [← padL_dec k (u + v) (by omega), padL, h]; rfl
theorem padL_cons (k u d : Nat) (h : u / 10 ^ k % 10 = d) : dchr d :: padL k u = padL (k + 1) u := by rw [padL, h]; rfl

/-! ### borrows: the borrow of u - v is the carry of (u - v) + v -/
theorem bw_step (u v k : Nat) (h : v ≤ u) :
    ((u - v) / 10 ^ k % 10 : Nat) + (v / 10 ^ k % 10 : Nat) + cy (u - v) v k = (u / 10 ^ k % 10) + 10 * cy (u - v) v (k + 1) := by
  have h1 := cy_dig (u - v) v k
  have h2 := cy_succ (u - v) v k
  rw [Nat.sub_add_cancel h] at h1
  omega

/-! ### one digit more -/
theorem trim_snoc (r d : Nat) (hd : d < 10) : trimL (Lib.decDigits r ++ [dchr d]) = Lib.decDigits (10 * r + d) := by
  by_cases h0 : r = 0
  · subst h0
    rw [dec_small (by omega)]
    show trimL [UInt8.ofNat (48 + 0), dchr d] = _
    rw [trimL, if_pos (by rfl), trimL, dec_small (by omega), Nat.mul_zero, Nat.zero_add]; rfl
  · have e : 10 * r + d = (10 * r + d) := rfl
    have h1 : ¬ (10 * r + d) < 10 := by omega
    rw [dec_big h1, show (10 * r + d) / 10 = r by omega, show (10 * r + d) % 10 = d by omega]
    obtain ⟨a, _, _, hd0⟩ := dec_spec (r + 1) r (by omega)
    have hd0 := hd0 h0
    match hx : Lib.decDigits r, a, hd0 with
    | c :: t, _, hd0 =>
      cases t with
      | nil => show trimL [c, _] = _; rw [trimL, if_neg (by simpa using hd0)]; rfl
      | cons x y => show trimL (c :: x :: (y ++ _)) = _; rw [trimL, if_neg (by simpa using hd0)]; rfl
/-- the number that the first k digits of u denote -/
def pre (u k : Nat) : Nat := u / 10 ^ (nd u - k)
theorem pre_zero (u : Nat) : pre u 0 = 0 := by rw [pre]; exact Nat.div_eq_of_lt (lt_nd u)
theorem pre_all (u : Nat) : pre u (nd u) = u := by rw [pre, Nat.sub_self]; simp
theorem pre_succ (u k : Nat) (h : k < nd u) : pre u (k + 1) = 10 * pre u k + u / 10 ^ (nd u - 1 - k) % 10 := by
  unfold pre
  rw [show nd u - k = (nd u - 1 - k) + 1 by omega, show nd u - (k + 1) = nd u - 1 - k by omega, Nat.pow_succ, ← Nat.div_div_eq_div_mul]
  omega
theorem dig_fwd (u k : Nat) (h : k < nd u) : ((Lib.decDigits u).getD k 0).toNat = 48 + u / 10 ^ (nd u - 1 - k) % 10 := by
  rw [← dig_at u (nd u - 1 - k) (by omega), show nd u - 1 - (nd u - 1 - k) = k by omega]
/-- one step of the long division -/
theorem div_step (p v d : Nat) (hv : 0 < v) : (10 * p + d) / v = 10 * (p / v) + (10 * (p % v) + d) / v ∧ (10 * p + d) % v = (10 * (p % v) + d) % v := by
  have h1 := Nat.div_add_mod p v
  have e : 10 * p + d = (10 * (p % v) + d) + v * (10 * (p / v)) := by
    have : 10 * (v * (p / v)) = v * (10 * (p / v)) := by rw [← Nat.mul_assoc, Nat.mul_comm 10 v, Nat.mul_assoc]
    omega
  constructor
  · rw [e, Nat.add_mul_div_left _ _ hv]; omega
  · rw [e, Nat.add_mul_mod_self_left]
theorem small_quo (x v n : Nat) (h1 : n * v ≤ x) (h2 : x - n * v < v) : x / v = n ∧ x % v = x - n * v := by
  have hv : 0 < v := by omega
  have e : x = (x - n * v) + v * n := by rw [Nat.mul_comm]; rw [Nat.mul_comm] at h1; omega
  constructor
  · conv => lhs; rw [e]
    rw [Nat.add_mul_div_left _ _ hv, Nat.div_eq_of_lt h2, Nat.zero_add]
  · conv => lhs; rw [e]
    rw [Nat.add_mul_mod_self_left, Nat.mod_eq_of_lt h2]
theorem quo_lt (r v d : Nat) (hr : r < v) (hd : d < 10) : (10 * r + d) / v < 10 := Nat.div_lt_of_lt_mul (by omega)

/-! ### lengths of results -/
theorem nd_add (u v k : Nat) (hu : nd u ≤ k) (hv : nd v ≤ k) : nd (u + v) ≤ k + 1 := by
  have := lt_pow_of_nd hu
  have := lt_pow_of_nd hv
  exact nd_le _ _ (by rw [Nat.pow_succ]; omega)
theorem nd_mul (u v j k : Nat) (hu : nd u ≤ j) (hv : nd v ≤ k) : nd (u * v) ≤ j + k := by
  have h1 := lt_pow_of_nd hu
  have h2 := lt_pow_of_nd hv
  have h0 := nd_pos u
  apply nd_le_of_lt (by omega)
  rw [Nat.pow_add]
  rcases Nat.eq_zero_or_pos v with h | h
  · subst h; rw [Nat.mul_zero, ← Nat.pow_add]; exact ten_pos _
  · exact Nat.mul_lt_mul_of_lt_of_le h1 (Nat.le_of_lt h2) (by omega)

end Go.Proofs.YthamlnolfagpiaaGreatDoor

namespace Go.Proofs.YthamlnolfagpiaaGreatDoor

/-- the powers of the base -/
def bp (k : Nat) : Nat := 1000000000 ^ k
theorem bp_zero : bp 0 = 1 := rfl
theorem bp_succ (k : Nat) : bp (k + 1) = 1000000000 * bp k := by unfold bp; rw [Nat.pow_succ, Nat.mul_comm]
theorem bp_pos (k : Nat) : 0 < bp k := Nat.pow_pos (by omega)
theorem bp_add (j k : Nat) : bp (j + k) = bp j * bp k := by unfold bp; rw [Nat.pow_add]
theorem bp_mono {j k : Nat} (h : j ≤ k) : bp j ≤ bp k := Nat.pow_le_pow_right (by omega) h

def val : List Nat → Nat
  | [] => 0
  | a :: l => a + 1000000000 * val l
theorem val_nil : val [] = 0 := rfl
theorem val_cons (a : Nat) (l : List Nat) : val (a :: l) = a + 1000000000 * val l := rfl
/-- each limb is below the base -/
def lo (l : List Nat) : Prop := ∀ a ∈ l, a < 1000000000
theorem lo_nil : lo [] := by intro a h; cases h
theorem lo_cons {a : Nat} {l : List Nat} : lo (a :: l) ↔ a < 1000000000 ∧ lo l := by
  unfold lo; simp
theorem lo_append {l m : List Nat} : lo (l ++ m) ↔ lo l ∧ lo m := by
  unfold lo; simp only [List.mem_append]
  exact ⟨fun h => ⟨fun a ha => h a (.inl ha), fun a ha => h a (.inr ha)⟩, fun h a ha => ha.elim (h.1 a) (h.2 a)⟩
theorem lo_take {l : List Nat} (h : lo l) (k : Nat) : lo (l.take k) := fun a ha => h a (List.mem_of_mem_take ha)
theorem lo_drop {l : List Nat} (h : lo l) (k : Nat) : lo (l.drop k) := fun a ha => h a (List.mem_of_mem_drop ha)
theorem lo_getD {l : List Nat} (h : lo l) (i : Nat) : l.getD i 0 < 1000000000 := by
  rw [List.getD_eq_getElem?_getD]
  cases hx : l[i]? with
  | none => simp
  | some a => simpa using h a (List.mem_of_getElem? hx)
theorem lo_set {l : List Nat} (h : lo l) (i c : Nat) (hc : c < 1000000000) : lo (l.set i c) := by
  intro a ha
  rcases List.mem_or_eq_of_mem_set ha with ha | rfl
  · exact h a ha
  · exact hc
theorem val_append (l m : List Nat) : val (l ++ m) = val l + bp l.length * val m := by
  induction l with
  | nil => simp [val_nil, bp_zero]
  | cons a l ih => rw [List.cons_append, val_cons, val_cons, ih, List.length_cons, bp_succ, Nat.mul_add, Nat.mul_assoc]; omega
theorem val_lt {l : List Nat} (h : lo l) : val l < bp l.length := by
  induction l with
  | nil => simp [val_nil, bp_zero]
  | cons a l ih =>
    have h1 := ih (lo_cons.1 h).2
    have h2 := (lo_cons.1 h).1
    rw [val_cons, List.length_cons, bp_succ]; omega
theorem val_zero (n : Nat) : val (List.replicate n 0) = 0 := by
  induction n with
  | zero => rfl
  | succ n ih => rw [List.replicate_succ, val_cons, ih]
theorem lo_zero (n : Nat) : lo (List.replicate n 0) := by
  intro a ha
  have := List.eq_of_mem_replicate ha
  omega
theorem val_set (l : List Nat) (i c : Nat) (h : i < l.length) : val (l.set i c) + bp i * l.getD i 0 = val l + bp i * c := by
  induction l generalizing i with
  | nil => simp at h
  | cons a l ih =>
    cases i with
    | zero => simp [val_cons, bp_zero]; omega
    | succ i =>
      have := ih i (by simpa using h)
      rw [List.set_cons_succ, val_cons, val_cons, List.getD_cons_succ, bp_succ, Nat.mul_assoc, Nat.mul_assoc]
      omega
theorem val_take_succ (l : List Nat) (i : Nat) (h : i < l.length) : val (l.take (i + 1)) = val (l.take i) + bp i * l.getD i 0 := by
  have e : l.take (i + 1) = l.take i ++ [l.getD i 0] := by
    rw [List.take_add_one, List.getElem?_eq_getElem h]
    simp [List.getD_eq_getElem?_getD, List.getElem?_eq_getElem h]
  rw [e, val_append, val_cons, val_nil, List.length_take, Nat.min_eq_left (by omega)]
  simp
theorem val_take_all (l : List Nat) (i : Nat) (h : l.length ≤ i) : val (l.take i) = val l := by rw [List.take_of_length_le h]
theorem val_split (l : List Nat) (i : Nat) (h : i ≤ l.length) : val l = val (l.take i) + bp i * val (l.drop i) := by
  have := val_append (l.take i) (l.drop i)
  rw [List.take_append_drop, List.length_take, Nat.min_eq_left h] at this
  exact this
theorem val_drop (l : List Nat) (i : Nat) (h : i < l.length) : val (l.drop i) = l.getD i 0 + 1000000000 * val (l.drop (i + 1)) := by
  rw [List.drop_eq_getElem_cons h, val_cons]
  simp [List.getD_eq_getElem?_getD, List.getElem?_eq_getElem h]
theorem set_take (l : List Nat) (i j c : Nat) (h : i ≤ j) : (l.set j c).take i = l.take i := by
  rw [List.take_set_of_le h]
theorem set_getD (l : List Nat) (i c : Nat) (h : i < l.length) : (l.set i c).getD i 0 = c := by
  simp [List.getD_eq_getElem?_getD, h]
theorem set_getD_ne (l : List Nat) (i j c : Nat) (h : i ≠ j) : (l.set i c).getD j 0 = l.getD j 0 := by
  simp [List.getD_eq_getElem?_getD, List.getElem?_set_ne h]

/-- the canonical row of a number -/
def limbs (n : Nat) : List Nat := if h : n = 0 then [] else n % 1000000000 :: limbs (n / 1000000000)
termination_by n
decreasing_by omega
theorem limbs_zero : limbs 0 = [] := by rw [limbs]; simp
theorem limbs_pos {n : Nat} (h : n ≠ 0) : limbs n = n % 1000000000 :: limbs (n / 1000000000) := by rw [limbs]; simp [h]
theorem limbs_val (n : Nat) : val (limbs n) = n := by
  induction n using Nat.strongRecOn with
  | _ n ih =>
    by_cases h : n = 0
    · subst h; rw [limbs_zero, val_nil]
    · rw [limbs_pos h, val_cons, ih (n / 1000000000) (by omega)]; omega
theorem limbs_lo (n : Nat) : lo (limbs n) := by
  induction n using Nat.strongRecOn with
  | _ n ih =>
    by_cases h : n = 0
    · subst h; rw [limbs_zero]; exact lo_nil
    · rw [limbs_pos h]; exact lo_cons.2 ⟨by omega, ih _ (by omega)⟩
theorem limbs_of (l : List Nat) (h : lo l) (hl : l = [] ∨ l.getD (l.length - 1) 0 ≠ 0) : limbs (val l) = l := by
  induction l with
  | nil => rw [val_nil, limbs_zero]
  | cons a l ih =>
    have ha := (lo_cons.1 h).1
    have hl' : (a :: l).getD l.length 0 ≠ 0 := by simpa using hl
    cases l with
    | nil =>
      have ha0 : a ≠ 0 := by simpa using hl'
      have e : val [a] = a := by simp [val_cons, val_nil]
      have e2 : a / 1000000000 = 0 := by omega
      rw [e, limbs_pos ha0, e2, limbs_zero, Nat.mod_eq_of_lt ha]
    | cons b m =>
      have h2 : (b :: m).getD ((b :: m).length - 1) 0 ≠ 0 := by simpa using hl'
      have hi := ih (lo_cons.1 h).2 (.inr h2)
      have hv : val (b :: m) ≠ 0 := by
        intro e
        rw [e, limbs_zero] at hi
        cases hi
      generalize hX : b :: m = X at *
      have e1 : (a + 1000000000 * val X) % 1000000000 = a := by omega
      have e2 : (a + 1000000000 * val X) / 1000000000 = val X := by omega
      rw [val_cons, limbs_pos (by omega), e1, e2, hi]
theorem limbs_top (n : Nat) : limbs n = [] ∨ (limbs n).getD ((limbs n).length - 1) 0 ≠ 0 := by
  induction n using Nat.strongRecOn with
  | _ n ih =>
    by_cases h : n = 0
    · subst h; exact .inl limbs_zero
    · right
      rw [limbs_pos h]
      rcases ih (n / 1000000000) (by omega) with e | e
      · rw [e]
        have h0 : n / 1000000000 = 0 := by have := limbs_val (n / 1000000000); rw [e, val_nil] at this; omega
        simp; omega
      · cases hx : limbs (n / 1000000000) with
        | nil => rw [hx] at e; simp at e
        | cons b m => rw [hx] at e; simpa using e
theorem limbs_ge {n : Nat} (h : 0 < (limbs n).length) : bp ((limbs n).length - 1) ≤ n := by
  have ht : (limbs n).getD ((limbs n).length - 1) 0 ≠ 0 := by
    rcases limbs_top n with e | e
    · rw [e] at h; simp at h
    · exact e
  have h1 := val_take_succ (limbs n) ((limbs n).length - 1) (by omega)
  rw [show (limbs n).length - 1 + 1 = (limbs n).length by omega, List.take_length, limbs_val] at h1
  have : bp ((limbs n).length - 1) * 1 ≤ bp ((limbs n).length - 1) * (limbs n).getD ((limbs n).length - 1) 0 := Nat.mul_le_mul_left _ (by omega)
  omega
theorem limbs_lt (n : Nat) : n < bp (limbs n).length := by have := val_lt (limbs_lo n); rwa [limbs_val] at this
theorem limbs_len0 {n : Nat} : (limbs n).length = 0 ↔ n = 0 := by
  constructor
  · intro h; have := limbs_lt n; rw [h, bp_zero] at this; omega
  · intro h; rw [h, limbs_zero]; rfl
theorem limbs_le {n k : Nat} (h : n < bp k) : (limbs n).length ≤ k := by
  by_cases h0 : 0 < (limbs n).length
  · have h1 := limbs_ge h0
    rcases Nat.lt_or_ge k (limbs n).length with h2 | h2
    · have := bp_mono (show k ≤ (limbs n).length - 1 by omega); omega
    · exact h2
  · omega
theorem limbs_less {u v : Nat} (h : (limbs u).length < (limbs v).length) : u < v := by
  have h1 := limbs_lt u
  have h2 := limbs_ge (n := v) (by omega)
  have h3 := bp_mono (show (limbs u).length ≤ (limbs v).length - 1 by omega)
  omega

/-! ### one column -/
theorem col_sum {Z c P X Y z c' x y : Nat} (h : Z + P * c = X + Y) (hz : z + 1000000000 * c' = c + x + y) :
    (Z + P * z) + 1000000000 * P * c' = (X + P * x) + (Y + P * y) := by
  have h1 : P * (z + 1000000000 * c') = P * (c + x + y) := by rw [hz]
  rw [Nat.mul_add, Nat.mul_add, Nat.mul_add] at h1
  have h2 : P * (1000000000 * c') = 1000000000 * P * c' := by ac_rfl
  omega
theorem col_dif {Z Y X b P z y x b' : Nat} (h : Z + Y = X + P * b) (hz : z + (b + y) = x + 1000000000 * b') :
    (Z + P * z) + (Y + P * y) = (X + P * x) + 1000000000 * P * b' := by
  have h1 : P * (z + (b + y)) = P * (x + 1000000000 * b') := by rw [hz]
  rw [Nat.mul_add, Nat.mul_add, Nat.mul_add] at h1
  have h2 : P * (1000000000 * b') = 1000000000 * P * b' := by ac_rfl
  omega

theorem sum_round (lz : List Nat) (k cn x y X Y X' Y' n : Nat) (hlen : lz.length = n + 1) (hk : k < n) (h0 : lz.getD k 0 = 0) (hv : val lz + bp k * cn = X + Y) (hX : X' = X + bp k * x) (hY : Y' = Y + bp k * y) :
    val (lz.set k ((cn + x + y) % 1000000000)) + bp (k + 1) * ((cn + x + y) / 1000000000) = X' + Y' := by
  have h1 := val_set lz k ((cn + x + y) % 1000000000) (by omega)
  rw [h0, Nat.mul_zero, Nat.add_zero] at h1
  rw [h1, bp_succ, hX, hY]
  exact col_sum hv (by omega)
theorem zero_after (lz : List Nat) (k c : Nat) (h : ∀ j, k ≤ j → lz.getD j 0 = 0) : ∀ j, k + 1 ≤ j → (lz.set k c).getD j 0 = 0 := by
  intro j hj
  rw [set_getD_ne _ _ _ _ (by omega)]
  exact h j (by omega)
theorem sum_last (lz : List Nat) (c Z n : Nat) (hlen : lz.length = n + 1) (h0 : lz.getD n 0 = 0) (hv : val lz + bp n * c = Z) : val (lz.set n c) = Z := by
  have h1 := val_set lz n c (by omega)
  rw [h0, Nat.mul_zero, Nat.add_zero] at h1
  rw [h1, hv]

theorem dif_round (lz : List Nat) (k b x y c b' X Y X' Y' : Nat) (hk : k < lz.length) (h0 : lz.getD k 0 = 0) (hv : val lz + Y = X + bp k * b) (hX : X' = X + bp k * x) (hY : Y' = Y + bp k * y) (hc : c + (b + y) = x + 1000000000 * b') :
    val (lz.set k c) + Y' = X' + bp (k + 1) * b' := by
  have h1 := val_set lz k c hk
  rw [h0, Nat.mul_zero, Nat.add_zero] at h1
  rw [h1, bp_succ, hX, hY]
  exact col_dif hv hc
theorem dif_end (lz : List Nat) (u v b n : Nat) (hlo : lo lz) (hn : lz.length = n) (hv : val lz + v = u + bp n * b) (h : v ≤ u) : val lz = u - v := by
  have h1 := val_lt hlo
  rw [hn] at h1
  rcases Nat.eq_zero_or_pos b with rfl | hb
  · omega
  · have : bp n * 1 ≤ bp n * b := Nat.mul_le_mul_left _ hb
    omega
theorem mul_round (lz : List Nat) (i j c z x y A Y Y' s : Nat) (hk : i + j < lz.length) (h0 : lz.getD (i + j) 0 = z) (hv : val lz + bp (i + j) * c = A + bp i * (x * Y)) (hY : Y' = Y + bp j * y) (hs : s = c + (z + x * y)) :
    val (lz.set (i + j) (s % 1000000000)) + bp (i + j + 1) * (s / 1000000000) = A + bp i * (x * Y') := by
  have h1 := val_set lz (i + j) (s % 1000000000) hk
  rw [h0] at h1
  have h2 : bp (i + j + 1) * (s / 1000000000) = bp (i + j) * (1000000000 * (s / 1000000000)) := by rw [bp_succ]; ac_rfl
  have h3 : bp (i + j) * (s % 1000000000) + bp (i + j) * (1000000000 * (s / 1000000000)) = bp (i + j) * s := by
    rw [← Nat.mul_add, Nat.mod_add_div]
  have h4 : bp (i + j) * s = bp (i + j) * c + bp (i + j) * z + bp (i + j) * (x * y) := by rw [hs, Nat.mul_add, Nat.mul_add]; omega
  have h5 : bp i * (x * Y') = bp i * (x * Y) + bp (i + j) * (x * y) := by
    rw [hY, Nat.mul_add, Nat.mul_add, bp_add]
    congr 1
    ac_rfl
  omega
theorem mul_last (lz : List Nat) (i m c x X Y X' : Nat) (hk : i + m < lz.length) (h0 : lz.getD (i + m) 0 = 0) (hv : val lz + bp (i + m) * c = X * Y + bp i * (x * Y)) (hX : X' = X + bp i * x) : val (lz.set (i + m) c) = X' * Y := by
  have h1 := val_set lz (i + m) c hk
  rw [h0, Nat.mul_zero, Nat.add_zero] at h1
  rw [h1, hv, hX, Nat.add_mul, Nat.mul_assoc]

end Go.Proofs.YthamlnolfagpiaaGreatDoor

namespace Go.Proofs.YthamlnolfagpiaaGreatDoor

theorem bp_ten (k : Nat) : bp k = 10 ^ (9 * k) := by unfold bp; rw [Nat.pow_mul]
theorem grp_step (u L i a : Nat) (hi : i < L) (ha : a ≤ i) : u / 10 ^ (L - (i + 1)) % 10 ^ (i + 1 - a) = u / 10 ^ (L - i) % 10 ^ (i - a) * 10 + u / 10 ^ (L - 1 - i) % 10 := by
  have e1 : L - (i + 1) = L - 1 - i := by omega
  have e2 : L - i = (L - 1 - i) + 1 := by omega
  have e3 : i + 1 - a = (i - a) + 1 := by omega
  rw [e1, e2, e3, Nat.pow_succ (m := L - 1 - i), ← Nat.div_div_eq_div_mul, Nat.pow_succ, Nat.mul_comm (10 ^ (i - a)) 10, Nat.mod_mul]
  omega
theorem grp_lt (u j t : Nat) (ht : t ≤ 9) : u / 10 ^ j % 10 ^ t < 1000000000 := by
  have h1 := Nat.mod_lt (u / 10 ^ j) (ten_pos t)
  have h2 : 10 ^ t ≤ 10 ^ 9 := Nat.pow_le_pow_right (by omega) ht
  have h3 : (10 : Nat) ^ 9 = 1000000000 := by decide
  omega
theorem grp_end (u k E : Nat) (lz : List Nat) (gr : Nat) (hl : lz.length = k) (hv : val lz = u % bp k) (hu : u < 10 ^ (9 * k + E)) (hg : gr = u / 10 ^ (9 * k) % 10 ^ (E - (E - 9))) :
    val (lz ++ [gr]) = u % bp (k + 1) := by
  rw [val_append, hl, hv, val_cons, val_nil, Nat.mul_zero, Nat.add_zero, bp_succ, Nat.mul_comm 1000000000, Nat.mod_mul]
  have hgr : gr = u / bp k % 1000000000 := by
    rw [hg, ← bp_ten]
    rcases Nat.lt_or_ge E 9 with h | h
    · have e : E - (E - 9) = E := by omega
      have h1 : u / bp k < 10 ^ E := by
        rw [bp_ten]
        apply Nat.div_lt_of_lt_mul
        rw [← Nat.pow_add]; exact hu
      have h2 : 10 ^ E ≤ 10 ^ 9 := Nat.pow_le_pow_right (by omega) (by omega)
      have h3 : (10 : Nat) ^ 9 = 1000000000 := by decide
      rw [e, Nat.mod_eq_of_lt h1, Nat.mod_eq_of_lt (by omega)]
    · have e : E - (E - 9) = 9 := by omega
      rw [e]
  rw [← hgr]
theorem grp_all (u k L : Nat) (hu : u < 10 ^ L) (h : L ≤ 9 * k) : u % bp k = u := by
  apply Nat.mod_eq_of_lt
  rw [bp_ten]
  exact Nat.lt_of_lt_of_le hu (Nat.pow_le_pow_right (by omega) h)
theorem num_byte (u i : Nat) (h : i < (num u).size) : (num u)[i].toNat = 48 + u / 10 ^ ((num u).size - 1 - i) % 10 := by
  have h1 := dig_fwd u i (by unfold nd; rw [← num_size]; exact h)
  rw [num_size]
  unfold nd at h1
  rw [← h1]
  congr 1
  simp [num, List.getD_eq_getElem?_getD]
  rw [List.getElem?_eq_getElem (by rw [← num_size]; exact h)]
  rfl

theorem dec_snoc (m d : Nat) (hm : 0 < m) (hd : d < 10) : Lib.decDigits (10 * m + d) = Lib.decDigits m ++ [dchr d] := by
  rw [Lib.decDigits, dif_neg (by omega), show (10 * m + d) / 10 = m by omega, show (10 * m + d) % 10 = d by omega]
  rfl
theorem dec_pad (k : Nat) : ∀ (T a : Nat), 0 < T → a < 10 ^ k → Lib.decDigits (T * 10 ^ k + a) = Lib.decDigits T ++ padL k a := by
  induction k with
  | zero =>
    intro T a hT ha
    have : a = 0 := by simpa using ha
    subst this
    simp [padL]
  | succ k ih =>
    intro T a hT ha
    have h1 : T * 10 ^ (k + 1) + a = 10 * (T * 10 ^ k + a / 10) + a % 10 := by rw [Nat.pow_succ, ← Nat.mul_assoc]; omega
    have h2 : a / 10 < 10 ^ k := by rw [Nat.pow_succ] at ha; omega
    have h3 : 0 < T * 10 ^ k := Nat.mul_pos hT (ten_pos k)
    rw [h1, dec_snoc _ _ (by omega) (by omega), ih T (a / 10) hT h2, padL_snoc, List.append_assoc]
    rfl
theorem fmt_step (l : List Nat) (j : Nat) (hlo : lo l) (hj : j < l.length) (hT : 0 < val (l.drop (j + 1))) : Lib.decDigits (val (l.drop j)) = Lib.decDigits (val (l.drop (j + 1))) ++ padL 9 (l.getD j 0) := by
  have h := lo_getD hlo j
  rw [val_drop l j hj, ← dec_pad 9 _ _ hT (by simpa using h)]
  congr 1
  omega
theorem drop_pos (l : List Nat) (j : Nat) (hj : j < l.length) (h : 0 < val (l.drop (j + 1))) : 0 < val (l.drop j) := by
  rw [val_drop l j hj]; omega
theorem top_drop (l : List Nat) (j : Nat) (h : l.length = j + 1) : val (l.drop j) = l.getD j 0 := by
  rw [val_drop l j (by omega), List.drop_of_length_le (by omega), val_nil]; omega
theorem dec_len9 (a : Nat) (h : a < 1000000000) : (Lib.decDigits a).length ≤ 9 := nd_le a 8 (by simpa using h)
theorem limbs_topj (u : Nat) (j : Nat) (h : (limbs u).length = j + 1) : 0 < (limbs u).getD j 0 := by
  rcases limbs_top u with e | e
  · rw [e] at h; cases h
  · rw [h] at e; exact Nat.pos_of_ne_zero e

end Go.Proofs.YthamlnolfagpiaaGreatDoor

namespace Go.Proofs.YthamlnolfagpiaaGreatDoor

theorem tk_round (l : List Nat) (o j q y c x r d b c' L Yj : Nat) (hk : o + j < l.length) (hx : l.getD (o + j) 0 = x) (hs : r + 1000000000 * d = c + q * y) (hc : c' + r = x + 1000000000 * b)
    (hv : val l + bp o * (q * Yj) = L + bp (o + j) * c) :
    val (l.set (o + j) c') + bp o * (q * (Yj + bp j * y)) = L + bp (o + j + 1) * (d + b) := by
  have h1 := val_set l (o + j) c' hk
  rw [hx] at h1
  have e1 : bp (o + j) * (c' + r) = bp (o + j) * (x + 1000000000 * b) := by rw [hc]
  have e2 : bp (o + j) * (r + 1000000000 * d) = bp (o + j) * (c + q * y) := by rw [hs]
  have e4 : bp o * (q * (Yj + bp j * y)) = bp o * (q * Yj) + bp (o + j) * (q * y) := by
    rw [Nat.mul_add, Nat.mul_add, bp_add]
    congr 1
    ac_rfl
  have e5 : bp (o + j + 1) * (d + b) = bp (o + j) * (1000000000 * d) + bp (o + j) * (1000000000 * b) := by
    rw [bp_succ, Nat.mul_add]
    congr 1 <;> ac_rfl
  rw [Nat.mul_add, Nat.mul_add] at e1 e2
  omega
theorem tk_top (l : List Nat) (o n c x b c' L Q : Nat) (hk : o + n < l.length) (hx : l.getD (o + n) 0 = x) (hc : c' + c = x + 1000000000 * b) (hv : val l + Q = L + bp (o + n) * c) :
    val (l.set (o + n) c') + Q = L + bp (o + n + 1) * b := by
  have h1 := val_set l (o + n) c' hk
  rw [hx] at h1
  have e1 : bp (o + n) * (c' + c) = bp (o + n) * (x + 1000000000 * b) := by rw [hc]
  have e5 : bp (o + n + 1) * b = bp (o + n) * (1000000000 * b) := by rw [bp_succ]; ac_rfl
  rw [Nat.mul_add, Nat.mul_add] at e1
  omega
theorem pb_round (l : List Nat) (o j y c x s L Yj : Nat) (hk : o + j < l.length) (hx : l.getD (o + j) 0 = x) (hs : s = c + (x + y)) (hv : val l + bp (o + j) * c = L + bp o * Yj) :
    val (l.set (o + j) (s % 1000000000)) + bp (o + j + 1) * (s / 1000000000) = L + bp o * (Yj + bp j * y) := by
  have h1 := val_set l (o + j) (s % 1000000000) hk
  rw [hx] at h1
  have e2 : bp (o + j) * s = bp (o + j) * (s % 1000000000) + bp (o + j) * (1000000000 * (s / 1000000000)) := by rw [← Nat.mul_add, Nat.mod_add_div]
  have e3 : bp (o + j) * s = bp (o + j) * c + (bp (o + j) * x + bp (o + j) * y) := by rw [hs, Nat.mul_add, Nat.mul_add]
  have e4 : bp o * (Yj + bp j * y) = bp o * Yj + bp (o + j) * y := by
    rw [Nat.mul_add, bp_add, Nat.mul_assoc]
  have e5 : bp (o + j + 1) * (s / 1000000000) = bp (o + j) * (1000000000 * (s / 1000000000)) := by rw [bp_succ]; ac_rfl
  omega
theorem pb_top (l : List Nat) (o n c x s L Q : Nat) (hk : o + n < l.length) (hx : l.getD (o + n) 0 = x) (hs : s = c + x) (hv : val l + bp (o + n) * c = L + Q) :
    val (l.set (o + n) (s % 1000000000)) + bp (o + n + 1) * (s / 1000000000) = L + Q := by
  have h1 := val_set l (o + n) (s % 1000000000) hk
  rw [hx] at h1
  have e2 : bp (o + n) * s = bp (o + n) * (s % 1000000000) + bp (o + n) * (1000000000 * (s / 1000000000)) := by rw [← Nat.mul_add, Nat.mod_add_div]
  have e3 : bp (o + n) * s = bp (o + n) * c + bp (o + n) * x := by rw [hs, Nat.mul_add]
  have e5 : bp (o + n + 1) * (s / 1000000000) = bp (o + n) * (1000000000 * (s / 1000000000)) := by rw [bp_succ]; ac_rfl
  omega
/-- l' differs from l in the limbs from o up to m alone -/
def OnlyIn (o m : Nat) (l l' : List Nat) : Prop := l'.length = l.length ∧ ∀ i, i < o ∨ m ≤ i → l'.getD i 0 = l.getD i 0
theorem OnlyIn.refl (o : Nat) (l : List Nat) : OnlyIn o o l l := ⟨rfl, fun _ _ => rfl⟩
theorem OnlyIn.set {o m : Nat} {l l' : List Nat} (h : OnlyIn o m l l') (hm : o ≤ m) (c : Nat) : OnlyIn o (m + 1) l (l'.set m c) :=
  ⟨by rw [List.length_set]; exact h.1, fun i hi => by rw [set_getD_ne _ _ _ _ (by omega)]; exact h.2 i (by omega)⟩

end Go.Proofs.YthamlnolfagpiaaGreatDoor

namespace Go.Proofs.YthamlnolfagpiaaGreatDoor

set_option maxRecDepth 100000
/-- what a word's half of a quotient is found by: q times the divisor's upper half and the rest r are U, and q is not too small -/
structure Half (U d y1 y0 q r : Nat) : Prop where
  sum : q * y1 + r = U
  low : (U * 4294967296 + d) / (y1 * 4294967296 + y0) ≤ q
  top : q ≤ 4294967297
theorem half_start (U d y1 y0 : Nat) (hU : U < y1 * 4294967296 + y0) (h1 : 2147483648 ≤ y1) (h0 : y0 < 4294967296) (hd : d < 4294967296) : Half U d y1 y0 (U / y1) (U % y1) := by
  have hy : 0 < y1 := by omega
  refine ⟨by rw [Nat.mul_comm]; exact Nat.div_add_mod U y1, ?_, ?_⟩
  · have h2 : (U * 4294967296 + d) / (y1 * 4294967296 + y0) ≤ (U * 4294967296 + d) / (y1 * 4294967296) := Nat.div_le_div_left (by omega) (by omega)
    have h3 : (U * 4294967296 + d) / (y1 * 4294967296) = U / y1 := by
      rw [Nat.mul_comm y1, ← Nat.div_div_eq_div_mul, show (U * 4294967296 + d) / 4294967296 = U by omega]
    omega
  · have h2 : U < y1 * 4294967296 + y1 * 2 := by omega
    have h3 : U / y1 < 4294967296 + 2 := by
      rw [Nat.div_lt_iff_lt_mul hy, Nat.add_mul, Nat.mul_comm 4294967296 y1, Nat.mul_comm 2 y1]
      exact h2
    omega
theorem half_stop {U d y1 y0 q r : Nat} (h : Half U d y1 y0 q r) (hy : 0 < y1) (hq : q * y0 ≤ 4294967296 * r + d) : q = (U * 4294967296 + d) / (y1 * 4294967296 + y0) := by
  apply Nat.le_antisymm _ h.low
  rw [Nat.le_div_iff_mul_le (by omega)]
  have h1 := h.sum
  have h2 : q * (y1 * 4294967296 + y0) = q * y1 * 4294967296 + q * y0 := by rw [Nat.mul_add, Nat.mul_assoc]
  omega
theorem half_step {U d y1 y0 q r : Nat} (h : Half U d y1 y0 q r) (hU : U < y1 * 4294967296 + y0) (hd : d < 4294967296) (hc : 4294967296 ≤ q ∨ 4294967296 * r + d < q * y0) :
    0 < q ∧ Half U d y1 y0 (q - 1) (r + y1) := by
  have hlt : (U * 4294967296 + d) / (y1 * 4294967296 + y0) < q := by
    rw [Nat.div_lt_iff_lt_mul (by omega)]
    rcases hc with hc | hc
    · have h1 : 4294967296 * (y1 * 4294967296 + y0) ≤ q * (y1 * 4294967296 + y0) := Nat.mul_le_mul_right _ hc
      have h2 : U + 1 ≤ y1 * 4294967296 + y0 := hU
      omega
    · have h1 := h.sum
      have h2 : q * (y1 * 4294967296 + y0) = q * y1 * 4294967296 + q * y0 := by rw [Nat.mul_add, Nat.mul_assoc]
      rw [h2]
      omega
  have hq : 0 < q := Nat.lt_of_le_of_lt (Nat.zero_le _) hlt
  refine ⟨hq, ?_, Nat.le_sub_one_of_lt hlt, by have := h.top; omega⟩
  have h1 := h.sum
  have h2 : q * y1 = (q - 1) * y1 + y1 := by
    rw [← Nat.succ_mul]
    congr 1
    omega
  omega
theorem half_break {U d y1 y0 q r : Nat} (h : Half U d y1 y0 q r) (hy : 0 < y1) (hq : q ≤ 4294967296) (h0 : y0 < 4294967296) (hr : 4294967296 ≤ r) : q = (U * 4294967296 + d) / (y1 * 4294967296 + y0) := by
  apply half_stop h hy
  have := Nat.mul_le_mul hq (show y0 ≤ 4294967295 by omega)
  omega
theorem two_halves (U u1 u0 Y : Nat) (hY : 0 < Y) : (U * 18446744073709551616 + (u1 * 4294967296 + u0)) / Y = (U * 4294967296 + u1) / Y * 4294967296 + ((U * 4294967296 + u1) % Y * 4294967296 + u0) / Y := by
  have h := Nat.div_add_mod (U * 4294967296 + u1) Y
  have e : U * 18446744073709551616 + (u1 * 4294967296 + u0) = ((U * 4294967296 + u1) % Y * 4294967296 + u0) + Y * ((U * 4294967296 + u1) / Y * 4294967296) := by
    rw [← Nat.mul_assoc]
    omega
  rw [e, Nat.add_mul_div_left _ _ hY]
  omega
theorem quo_half (U d Y : Nat) (hU : U < Y) (hd : d < 4294967296) : (U * 4294967296 + d) / Y < 4294967296 := by
  apply Nat.div_lt_of_lt_mul
  omega
/-- the shifted numbers -/
theorem shifted_eq (hi lo p t : Nat) (hpt : p * t = 18446744073709551616) (hp : 0 < p) :
    (hi * p + lo / t) * 18446744073709551616 + lo * p % 18446744073709551616 = (hi * 18446744073709551616 + lo) * p := by
  have h1 : lo * p = lo / t * 18446744073709551616 + lo * p % 18446744073709551616 := by
    have h2 : lo * p / (p * t) = lo / t := by rw [Nat.mul_comm lo p, Nat.mul_div_mul_left _ _ hp]
    rw [hpt] at h2
    have := Nat.div_add_mod (lo * p) 18446744073709551616
    rw [h2] at this
    omega
  have e1 : hi * p * 18446744073709551616 = hi * 18446744073709551616 * p := Nat.mul_right_comm _ _ _
  generalize lo * p % 18446744073709551616 = X at h1 ⊢
  rw [Nat.add_mul, Nat.add_mul, e1, h1, Nat.add_assoc]
theorem two_mods (U u1 u0 Y : Nat) : (U * 18446744073709551616 + (u1 * 4294967296 + u0)) % Y = ((U * 4294967296 + u1) % Y * 4294967296 + u0) % Y := by
  have h := Nat.div_add_mod (U * 4294967296 + u1) Y
  have e : U * 18446744073709551616 + (u1 * 4294967296 + u0) = ((U * 4294967296 + u1) % Y * 4294967296 + u0) + Y * ((U * 4294967296 + u1) / Y * 4294967296) := by
    rw [← Nat.mul_assoc]
    omega
  rw [e, Nat.add_mul_mod_self_left]
theorem bl_facts (y s : Nat) (hy : 0 < y) (hy64 : y < 18446744073709551616) (hs : Lib.bitLen y + s = 64) : 9223372036854775808 ≤ y * 2 ^ s ∧ y * 2 ^ s < 18446744073709551616 ∧ 2 ^ s * 2 ^ (64 - s) = 18446744073709551616 := by
  have hb := Lib.bitLenAux_bounds 64 y (by simpa using hy64) (by omega)
  have hbl : Lib.bitLen y = 64 - s := by omega
  rw [show Lib.bitLenAux 64 y = Lib.bitLen y from rfl, hbl] at hb
  obtain ⟨h1, h2, h3⟩ := hb
  have e : 2 ^ s * 2 ^ (64 - s) = 18446744073709551616 := by rw [← Nat.pow_add, show s + (64 - s) = 64 by omega]
  have e2 : 2 ^ (64 - s - 1) * 2 ^ s = 9223372036854775808 := by rw [← Nat.pow_add, show 64 - s - 1 + s = 63 by omega]
  have k1 := Nat.mul_le_mul_right (2 ^ s) h2
  have k2 := Nat.mul_lt_mul_of_pos_right h3 (Nat.pow_pos (n := s) (show 0 < 2 by omega))
  rw [Nat.mul_comm (2 ^ (64 - s))] at k2
  omega
theorem norm_facts (hi lo y s : Nat) (hy : hi < y) (hy64 : y < 18446744073709551616) (hlo : lo < 18446744073709551616) (hs : Lib.bitLen y + s = 64) :
    ∃ Y y1 y0 H b U M u1 u0 : Nat, IntKind.u64.wrap ((y : Int) * 2 ^ s) = (Y : Int) ∧ (Y : Int) / 4294967296 = (y1 : Int) ∧ bits .and .u64 (Y : Int) 4294967295 = (y0 : Int) ∧
      IntKind.u64.wrap ((hi : Int) * 2 ^ s) = (H : Int) ∧ (lo : Int) / 2 ^ (64 - s) = (b : Int) ∧ bits .or .u64 (H : Int) (b : Int) = (U : Int) ∧ IntKind.u64.wrap ((lo : Int) * 2 ^ s) = (M : Int) ∧ (M : Int) / 4294967296 = (u1 : Int) ∧ bits .and .u64 (M : Int) 4294967295 = (u0 : Int) ∧
      Y = y1 * 4294967296 + y0 ∧ 2147483648 ≤ y1 ∧ y1 < 4294967296 ∧ y0 < 4294967296 ∧ U < y1 * 4294967296 + y0 ∧ u1 < 4294967296 ∧ u0 < 4294967296 ∧
      (hi * 18446744073709551616 + lo) / y = (U * 18446744073709551616 + (u1 * 4294967296 + u0)) / (y1 * 4294967296 + y0) ∧
      (U * 18446744073709551616 + (u1 * 4294967296 + u0)) % (y1 * 4294967296 + y0) = (hi * 18446744073709551616 + lo) % y * 2 ^ s := by
  obtain ⟨k1, k2, k3⟩ := bl_facts y s (by omega) hy64 hs
  have hp : 0 < 2 ^ s := Nat.pow_pos (by omega)
  have ht : 0 < 2 ^ (64 - s) := Nat.pow_pos (by omega)
  have hb : lo / 2 ^ (64 - s) < 2 ^ s := by
    apply Nat.div_lt_of_lt_mul
    rw [Nat.mul_comm, k3]; exact hlo
  have hH : hi * 2 ^ s + 2 ^ s ≤ y * 2 ^ s := by
    have := Nat.mul_le_mul_right (2 ^ s) (show hi + 1 ≤ y by omega)
    rwa [Nat.succ_mul] at this
  have hcast : ∀ a : Nat, (a : Int) * 2 ^ s = ((a * 2 ^ s : Nat) : Int) := fun a => by push_cast; rfl
  have hmask : ∀ a : Nat, a < 18446744073709551616 → bits .and .u64 (a : Int) 4294967295 = ((a % 4294967296 : Nat) : Int) := fun a ha => by
    rw [show (4294967295 : Int) = ((4294967295 : Nat) : Int) from rfl, u64_and_nat a 4294967295 ha (by omega), show (4294967295 : Nat) = 2 ^ 32 - 1 from rfl, Nat.and_two_pow_sub_one_eq_mod]
  have hM : lo * 2 ^ s % 18446744073709551616 < 18446744073709551616 := Nat.mod_lt _ (by omega)
  have hsh := shifted_eq hi lo (2 ^ s) (2 ^ (64 - s)) k3 hp
  refine ⟨y * 2 ^ s, y * 2 ^ s / 4294967296, y * 2 ^ s % 4294967296, hi * 2 ^ s, lo / 2 ^ (64 - s), hi * 2 ^ s + lo / 2 ^ (64 - s), lo * 2 ^ s % 18446744073709551616, lo * 2 ^ s % 18446744073709551616 / 4294967296, lo * 2 ^ s % 18446744073709551616 % 4294967296, ?_, rfl, hmask _ k2, ?_, ?_, ?_, ?_, rfl, hmask _ hM, ?_, ?_, ?_, ?_, ?_, ?_, ?_, ?_, ?_⟩
  · rw [hcast]; exact IntWalk.u64_in _ (by omega)
  · rw [hcast]; exact IntWalk.u64_in _ (by omega)
  · rw [show (2 : Int) ^ (64 - s) = ((2 ^ (64 - s) : Nat) : Int) by push_cast; rfl]; rfl
  · rw [u64_or_nat _ _ (by omega) (by omega), Nat.mul_comm hi, ← Nat.two_pow_add_eq_or_of_lt hb]
  · rw [hcast, IntKind.wrap_u64]; rfl
  · omega
  · omega
  · omega
  · exact Nat.mod_lt _ (by omega)
  · omega
  · omega
  · exact Nat.mod_lt _ (by omega)
  · rw [Nat.div_add_mod', Nat.div_add_mod', hsh, Nat.mul_div_mul_right _ _ hp]
  · rw [Nat.div_add_mod', Nat.div_add_mod', hsh, Nat.mul_mod_mul_right]
theorem int_shr (a s : Nat) : ((a * 2 ^ s : Nat) : Int) / 2 ^ s = (a : Int) := by
  rw [show (2 : Int) ^ s = ((2 ^ s : Nat) : Int) by push_cast; rfl, ← Int.natCast_ediv, Nat.mul_div_cancel _ (Nat.pow_pos (by omega))]
theorem div_facts (U y1 : Nat) (hU : U < 18446744073709551616) : IntKind.u64.wrap ((U : Int) / (y1 : Int)) = ((U / y1 : Nat) : Int) ∧ IntKind.u64.wrap (((U / y1 : Nat) : Int) * (y1 : Int)) = ((U / y1 * y1 : Nat) : Int) ∧ IntKind.u64.wrap ((U : Int) - ((U / y1 * y1 : Nat) : Int)) = ((U % y1 : Nat) : Int) := by
  have h1 := Nat.div_le_self U y1
  have h3 : U / y1 * y1 + U % y1 = U := by rw [Nat.mul_comm]; exact Nat.div_add_mod U y1
  rw [show (U : Int) / (y1 : Int) = ((U / y1 : Nat) : Int) from rfl]
  generalize U / y1 = Q at *
  generalize U % y1 = R at *
  rw [← Int.natCast_mul]
  generalize Q * y1 = C at *
  refine ⟨IntWalk.u64_in _ (by omega), IntWalk.u64_in _ (by omega), ?_⟩
  rw [show (U : Int) - (C : Int) = (R : Int) by omega]; exact IntWalk.u64_in _ (by omega)
theorem rest_facts (U d q Y : Nat) (hq : q = (U * 4294967296 + d) / Y) (hY : 0 < Y) (hY64 : Y < 18446744073709551616) (hd : d < 4294967296) :
    ∃ A C R : Nat, IntKind.u64.wrap ((U : Int) * 4294967296) = (A : Int) ∧ IntKind.u64.wrap ((A : Int) + (d : Int)) = (A : Int) + (d : Int) ∧ IntKind.u64.wrap ((q : Int) * (Y : Int)) = (C : Int) ∧ IntKind.u64.wrap ((A : Int) + (d : Int) - (C : Int)) = (R : Int) ∧ R = (U * 4294967296 + d) % Y ∧ R < Y := by
  have h1 := Nat.div_add_mod (U * 4294967296 + d) Y
  rw [← hq, Nat.mul_comm] at h1
  have h2 := Nat.mod_lt (U * 4294967296 + d) hY
  generalize (U * 4294967296 + d) % Y = R at *
  refine ⟨U * 4294967296 % 18446744073709551616, q * Y % 18446744073709551616, R, ?_, ?_, ?_, ?_, rfl, h2⟩
  · rw [IntKind.wrap_u64]; omega
  · exact IntWalk.u64_in _ (by omega)
  · rw [IntKind.wrap_u64, ← Int.natCast_mul]; omega
  · rw [IntKind.wrap_u64]; omega

end Go.Proofs.YthamlnolfagpiaaGreatDoor

namespace Go.Proofs.YthamlnolfagpiaaGreatDoor

/-- the value of the j limbs from o on -/
def pv (l : List Nat) (o j : Nat) : Nat := val ((l.drop o).take j)
theorem pv_zero (l : List Nat) (o : Nat) : pv l o 0 = 0 := by simp [pv, val_nil]
theorem pv_succ (l : List Nat) (o j : Nat) (h : o + j < l.length) : pv l o (j + 1) = pv l o j + bp j * l.getD (o + j) 0 := by
  unfold pv
  rw [val_take_succ _ _ (by rw [List.length_drop]; omega)]
  congr 2
  simp [List.getD_eq_getElem?_getD, List.getElem?_drop]
theorem pv_lt (l : List Nat) (o j : Nat) (hlo : lo l) : pv l o j < bp j := by
  have h := val_lt (lo_take (lo_drop hlo o) j)
  exact Nat.lt_of_lt_of_le h (bp_mono (List.length_take_le _ _))
theorem guess_one (l : List Nat) (o y p0 p1 : Nat) (h : o + 1 < l.length) (h0 : l.getD o 0 = p0) (h1 : l.getD (o + 1) 0 = p1) (hP : pv l o 2 < 1000000000 * y) :
    pv l o 2 = p1 * 1000000000 + p0 ∧ (p1 * 1000000000 + p0) / y < 1000000000 ∧ pv l o 2 / y ≤ (p1 * 1000000000 + p0) / y := by
  have e : pv l o 2 = p1 * 1000000000 + p0 := by
    rw [pv_succ l o 1 h, pv_succ l o 0 (by omega), pv_zero, bp_zero, bp_succ, bp_zero, Nat.add_zero, h0, h1]; omega
  rw [e] at hP ⊢
  refine ⟨rfl, ?_, Nat.le_refl _⟩
  apply Nat.div_lt_of_lt_mul
  omega
theorem guess_more (l ly : List Nat) (o k p0 p1 p2 y0 y1 : Nat) (hlo : lo l) (h : o + k + 2 < l.length) (hy : ly.length = k + 2) (h0 : l.getD (o + k) 0 = p0) (h1 : l.getD (o + k + 1) 0 = p1) (h2 : l.getD (o + k + 2) 0 = p2) (g0 : ly.getD k 0 = y0) (g1 : ly.getD (k + 1) 0 = y1) (hy1 : 0 < y1) :
    pv l o (k + 3) / val ly ≤ ((p2 * 1000000000 + p1) * 1000000000 + p0) / (y1 * 1000000000 + y0) := by
  have e : pv l o (k + 3) = bp k * ((p2 * 1000000000 + p1) * 1000000000 + p0) + pv l o k := by
    rw [pv_succ l o (k + 2) (by omega), pv_succ l o (k + 1) (by omega), pv_succ l o k (by omega), show bp (k + 2) = 1000000000 * (1000000000 * bp k) by rw [bp_succ, bp_succ], bp_succ, show o + (k + 2) = o + k + 2 by omega, show o + (k + 1) = o + k + 1 by omega, h0, h1, h2]
    have e1 : bp k * ((p2 * 1000000000 + p1) * 1000000000 + p0) = bp k * (p2 * 1000000000 * 1000000000) + bp k * (p1 * 1000000000) + bp k * p0 := by
      rw [Nat.add_mul, Nat.mul_add, Nat.mul_add]
    have e2 : bp k * (p2 * 1000000000 * 1000000000) = 1000000000 * (1000000000 * bp k) * p2 := by ac_rfl
    have e3 : bp k * (p1 * 1000000000) = 1000000000 * bp k * p1 := by ac_rfl
    omega
  have hd : pv l o (k + 3) / bp k = (p2 * 1000000000 + p1) * 1000000000 + p0 := by
    rw [e, Nat.mul_add_div (bp_pos k), Nat.div_eq_of_lt (pv_lt l o k hlo), Nat.add_zero]
  have hy2 : bp k * (y1 * 1000000000 + y0) ≤ val ly := by
    have e4 : val ly = val (ly.take k) + bp k * y0 + 1000000000 * bp k * y1 := by
      have a1 := val_take_succ ly (k + 1) (by omega)
      have a2 := val_take_succ ly k (by omega)
      rw [show k + 1 + 1 = ly.length by omega, List.take_length, g1, bp_succ] at a1
      rw [g0] at a2
      omega
    have e5 : bp k * (y1 * 1000000000 + y0) = 1000000000 * bp k * y1 + bp k * y0 := by
      rw [Nat.mul_add]
      congr 1
      ac_rfl
    omega
  have hp : 0 < bp k * (y1 * 1000000000 + y0) := Nat.mul_pos (bp_pos k) (by omega)
  refine Nat.le_trans (Nat.div_le_div_left hy2 hp) ?_
  rw [← Nat.div_div_eq_div_mul, hd]
  exact Nat.le_refl _
theorem guess_hi (x p0 h l y1 y0 c l2 : Nat) (hx : x < 1000000000000000000) (hp0 : p0 < 1000000000) (e1 : x * 1000000000 = h * 18446744073709551616 + l) (e2 : l + p0 = c * 18446744073709551616 + l2) (hy : 0 < y1) :
    h + c < y1 * 1000000000 + y0 ∧ x * 1000000000 + p0 = (h + c) * 18446744073709551616 + l2 := by
  omega

end Go.Proofs.YthamlnolfagpiaaGreatDoor

namespace Go.Proofs.YthamlnolfagpiaaGreatDoor

theorem OnlyIn.trans {o m : Nat} {l l' l'' : List Nat} (h : OnlyIn o m l l') (k : OnlyIn o m l' l'') : OnlyIn o m l l'' :=
  ⟨k.1.trans h.1, fun i hi => (k.2 i hi).trans (h.2 i hi)⟩
theorem OnlyIn.at {o m : Nat} {l l' : List Nat} (h : OnlyIn o m l l') (i : Nat) (hi : i < o ∨ m ≤ i) : l'[i]? = l[i]? := by
  have h1 := h.2 i hi
  have h2 := h.1
  rw [List.getD_eq_getElem?_getD, List.getD_eq_getElem?_getD] at h1
  by_cases hlt : i < l.length
  · rw [List.getElem?_eq_getElem hlt, List.getElem?_eq_getElem (by omega)] at *
    simpa using h1
  · rw [List.getElem?_eq_none (by omega), List.getElem?_eq_none (by omega)]
theorem OnlyIn.takes {o m : Nat} {l l' : List Nat} (h : OnlyIn o m l l') : l'.take o = l.take o := by
  apply List.ext_getElem?
  intro i
  rw [List.getElem?_take, List.getElem?_take]
  by_cases hi : i < o
  · rw [if_pos hi, if_pos hi, h.at i (.inl hi)]
  · rw [if_neg hi, if_neg hi]
theorem OnlyIn.drops {o m : Nat} {l l' : List Nat} (h : OnlyIn o m l l') : l'.drop m = l.drop m := by
  apply List.ext_getElem?
  intro i
  rw [List.getElem?_drop, List.getElem?_drop, h.at (m + i) (.inr (by omega))]
theorem dv_part (lr : List Nat) (i n Y : Nat) (hlo : lo lr) (hl : i + n + 1 ≤ lr.length) (hY : Y < bp n) (h : val (lr.drop (i + 1)) < Y) :
    pv lr i (n + 1) = val (lr.drop i) ∧ val (lr.drop (i + n + 1)) = 0 ∧ val (lr.drop i) < 1000000000 * Y := by
  have h1 := val_drop lr i (by omega)
  have h2 := lo_getD hlo i
  have h3 : val (lr.drop i) < 1000000000 * Y := by omega
  have h4 := val_split (lr.drop i) (n + 1) (by rw [List.length_drop]; omega)
  rw [List.drop_drop, ← Nat.add_assoc] at h4
  have h5 : val (lr.drop (i + n + 1)) = 0 := by
    rcases Nat.eq_zero_or_pos (val (lr.drop (i + n + 1))) with e | e
    · exact e
    · have h6 : bp (n + 1) * 1 ≤ bp (n + 1) * val (lr.drop (i + n + 1)) := Nat.mul_le_mul_left _ e
      rw [bp_succ] at h6 h4
      omega
  refine ⟨?_, h5, h3⟩
  rw [h5] at h4
  unfold pv
  omega
theorem dv_above (lr l' : List Nat) (i n : Nat) (hlo : lo l') (hl : i + n + 1 ≤ lr.length) (hO : OnlyIn i (i + n + 1) lr l') (h0 : val (lr.drop (i + n + 1)) = 0) : val (l'.drop i) < bp (n + 1) := by
  have h4 := val_split (l'.drop i) (n + 1) (by rw [List.length_drop, hO.1]; omega)
  rw [List.drop_drop, ← Nat.add_assoc, hO.drops, h0, Nat.mul_zero, Nat.add_zero] at h4
  rw [h4]
  exact pv_lt l' i (n + 1) hlo
theorem dv_split (lr l' : List Nat) (i n : Nat) (hl : i + n + 1 ≤ lr.length) (hO : OnlyIn i (i + n + 1) lr l') : val l' = val (lr.take i) + bp i * val (l'.drop i) := by
  rw [← hO.takes]
  exact val_split l' i (by rw [hO.1]; omega)
theorem dv_cancel (lr l1 l2 : List Nat) (i n Q b : Nat) (hl : i + n + 1 ≤ lr.length) (h1 : OnlyIn i (i + n + 1) lr l1) (h2 : OnlyIn i (i + n + 1) lr l2) (h : val l2 + bp i * Q = val l1 + bp (i + n + 1) * b) :
    val (l2.drop i) + Q = val (l1.drop i) + bp (n + 1) * b := by
  rw [dv_split lr l1 i n hl h1, dv_split lr l2 i n hl h2, Nat.add_assoc i n 1, bp_add, Nat.mul_assoc] at h
  have h3 : bp i * (val (l2.drop i) + Q) = bp i * (val (l1.drop i) + bp (n + 1) * b) := by
    rw [Nat.mul_add, Nat.mul_add]; omega
  exact Nat.eq_of_mul_eq_mul_left (bp_pos i) h3
theorem dv_back (lr l1 l2 : List Nat) (i n Q b : Nat) (hl : i + n + 1 ≤ lr.length) (h1 : OnlyIn i (i + n + 1) lr l1) (h2 : OnlyIn i (i + n + 1) lr l2) (h : val l2 + bp (i + n + 1) * b = val l1 + bp i * Q) :
    val (l2.drop i) + bp (n + 1) * b = val (l1.drop i) + Q :=
  (dv_cancel lr l2 l1 i n Q b hl h2 h1 h.symm).symm
theorem dv_done (lr lf lq : List Nat) (i n q Y u : Nat) (hl : i + n + 1 ≤ lr.length) (hO : OnlyIn i (i + n + 1) lr lf) (hq : i < lq.length) (h0 : lq.getD i 0 = 0) (hu : val lr + Y * val lq = u) (h : val (lf.drop i) + q * Y = val (lr.drop i)) :
    val lf + Y * val (lq.set i q) = u := by
  have h1 := val_set lq i q hq
  rw [h0, Nat.mul_zero, Nat.add_zero] at h1
  have h2 := dv_split lr lr i n hl ⟨rfl, fun _ _ => rfl⟩
  have h3 := dv_split lr lf i n hl hO
  have h4 : bp i * (val (lf.drop i) + q * Y) = bp i * val (lr.drop i) := by rw [h]
  rw [Nat.mul_add] at h4
  have h5 : Y * (val lq + bp i * q) = Y * val lq + bp i * (q * Y) := by
    rw [Nat.mul_add]
    congr 1
    ac_rfl
  rw [h1, h5]
  omega
theorem dv_small {X q Y P : Nat} (hY : 0 < Y) (h : X + q * Y = P) (hq : P / Y ≤ q) : X < Y := by
  have h1 : P < Y * (P / Y + 1) := by
    have := Nat.div_add_mod P Y
    have := Nat.mod_lt P hY
    rw [Nat.mul_add]; omega
  have h2 : Y * (P / Y + 1) ≤ Y * (q + 1) := Nat.mul_le_mul_left _ (by omega)
  rw [Nat.mul_add Y q 1, Nat.mul_comm Y q] at h2
  omega
theorem dv_pos {X q Y P T : Nat} (h : X + q * Y = P + T) (hX : X < T) : 0 < q := by
  rcases Nat.eq_zero_or_pos q with e | e
  · subst e; omega
  · exact e
theorem dv_less {X X' q Y P T b : Nat} (h : X + q * Y = P + T) (hq : 0 < q) (h2 : X' + T * b = X + Y) : X' + T * b + (q - 1) * Y = P + T := by
  have : q * Y = (q - 1) * Y + Y := by
    rw [← Nat.succ_mul]
    congr 1
    omega
  omega
theorem dv_start (lx ly : List Nat) (hlx : lo lx) (n : Nat) (hn : ly.length = n) (hn1 : 1 ≤ n) (hle : n ≤ lx.length) (htop : 0 < ly.getD (n - 1) 0) : val ((lx ++ [0]).drop (lx.length - n + 1)) < val ly := by
  have h1 : val ((lx ++ [0]).drop (lx.length - n + 1)) < bp (n - 1) := by
    rw [List.drop_append_of_le_length (by omega), val_append, val_cons, val_nil]
    have h2 := val_lt (lo_drop hlx (lx.length - n + 1))
    rw [List.length_drop, show lx.length - (lx.length - n + 1) = n - 1 by omega] at h2
    simpa using h2
  have h3 := val_take_succ ly (n - 1) (by omega)
  rw [show n - 1 + 1 = ly.length by omega, List.take_length] at h3
  have h4 : bp (n - 1) * 1 ≤ bp (n - 1) * ly.getD (n - 1) 0 := Nat.mul_le_mul_left _ htop
  omega
theorem dv_end {r q Y u : Nat} (h : r + Y * q = u) (hr : r < Y) : q = u / Y ∧ r = u % Y := by
  subst h
  rw [Nat.add_mul_div_left _ _ (by omega), Nat.add_mul_mod_self_left, Nat.div_eq_of_lt hr, Nat.mod_eq_of_lt hr]
  simp

end Go.Proofs.YthamlnolfagpiaaGreatDoor

