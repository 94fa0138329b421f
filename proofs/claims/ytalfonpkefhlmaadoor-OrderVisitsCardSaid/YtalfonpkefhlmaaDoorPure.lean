/-
  DERIVED. Plain Lean: what the functions of package text and of its specification compute, on lists of bytes.
-/
namespace Go.Proofs.YtalfonpkefhlmaaDoor

/-- a digit -/
def dig (c : Nat) : Bool := decide (48 ≤ c) && decide (c ≤ 57)
/-- a letter -/
def let1 (c : Nat) : Bool := decide (97 ≤ c) && decide (c ≤ 122) || decide (65 ≤ c) && decide (c ≤ 90)
/-- printable -/
def prn (c : Nat) : Bool := decide (32 ≤ c) && decide (c ≤ 126)
/-- of a word -/
def wrd (c : Nat) : Bool := prn c && c != 32 && c != 34
/-- of a name -/
def nam (c : Nat) : Bool := let1 c || dig c || c == 95

def nameB (l : List UInt8) : Bool := !l.isEmpty && decide (l.length ≤ 16) && !dig (l.headD 0).toNat && l.all fun c => nam c.toNat

theorem nam1 {c : Nat} (h : let1 c = true) : nam c = true := by simp [nam, h]
theorem nam2 {c : Nat} (h : dig c = true) : nam c = true := by simp [nam, h]
theorem nam3 {c : Nat} (h : ((c : Int) != 95) = false) : nam c = true := by
  have : c = 95 := by simp at h; omega
  simp [nam, this]
theorem nam4 {c : Nat} (h1 : ¬ let1 c = true) (h2 : ¬ dig c = true) (h3 : ((c : Int) != 95) = true) : nam c = false := by
  have : c ≠ 95 := by simp at h3; omega
  simp [nam, h1, h2, this]
/-- what the specification calls a letter -/
def ltr (c : Nat) : Bool := let1 c || c == 95
theorem nam5 {c : Nat} (h : ltr c = true) : nam c = true := by
  simp [ltr] at h; rcases h with h | h <;> simp [nam, h]
theorem nam6 {c : Nat} (h1 : ¬ ltr c = true) (h2 : (!dig c) = true) : nam c = false := by
  simp [ltr] at h1; simp at h2; simp [nam, h1, h2]
theorem nam7 {c : Nat} (h : (!dig c) = false) : nam c = true := by simp at h; simp [nam, h]
theorem nameB_all (l : List UInt8) (h0 : l ≠ []) (h : l.length ≤ 16) (hd : dig (l.headD 0).toNat = false) : nameB l = l.all fun c => nam c.toNat := by
  unfold nameB; rw [hd]; simp [h, h0]
theorem nameB_no (l : List UInt8) (h : l = [] ∨ 16 < l.length ∨ dig (l.headD 0).toNat = true) : nameB l = false := by
  rcases h with h | h | h
  · simp [nameB, h]
  · simp [nameB]; intro _ h2; omega
  · unfold nameB; rw [h]; simp

theorem take_snoc (s : ByteArray) (k : Nat) (h : k < s.size) : s.data.toList.take (k + 1) = s.data.toList.take k ++ [s[k]] := by
  rw [List.take_succ_eq_append_getElem (by simpa using h)]; rfl
theorem all_step (s : ByteArray) (p : UInt8 → Bool) (k : Nat) (h : k < s.size) (ha : (s.data.toList.take k).all p = true) (hp : p s[k] = true) : (s.data.toList.take (k + 1)).all p = true := by
  rw [take_snoc s k h, List.all_append, ha]; simp [hp]
theorem all_stop (s : ByteArray) (p : UInt8 → Bool) (k : Nat) (h : k < s.size) (hp : p s[k] = false) : s.data.toList.all p = false := by
  rw [List.all_eq_false]; exact ⟨s[k], by rw [← Array.mem_toList_iff.symm]; exact Array.getElem_mem h, by simp [hp]⟩
theorem all_end (s : ByteArray) (p : UInt8 → Bool) (ha : (s.data.toList.take s.size).all p = true) : s.data.toList.all p = true := by
  rwa [List.take_of_length_le (by simp)] at ha
theorem head_of (s : ByteArray) (h : 0 < s.size) : s.data.toList.headD 0 = s[0] := by
  obtain ⟨⟨l⟩⟩ := s
  cases l with
  | nil => simp [ByteArray.size] at h
  | cons a l => rfl
theorem ne_of (s : ByteArray) (h : 0 < s.size) : s.data.toList ≠ [] := by
  obtain ⟨⟨l⟩⟩ := s
  cases l with
  | nil => simp [ByteArray.size] at h
  | cons a l => simp
theorem empty_of (s : ByteArray) (h : s.size = 0) : s = ⟨#[]⟩ := by
  obtain ⟨⟨l⟩⟩ := s
  cases l with
  | nil => rfl
  | cons a l => simp [ByteArray.size] at h

/-! ### forms -/
def hexI (c : Nat) : Int := if dig c then (c : Int) - 48 else if 97 ≤ c ∧ c ≤ 102 then (c : Int) - 87 else -1
def rhex (c d : Nat) : Nat × Nat :=
  if hexI c < 0 ∨ hexI d < 0 then (0, 0)
  else if hexI c * 16 + hexI d = 10 ∨ prn (hexI c * 16 + hexI d).toNat = true then (0, 0) else ((hexI c * 16 + hexI d).toNat, 4)
def rhexL (l : List UInt8) : Nat × Nat := if l.length < 4 then (0, 0) else rhex (l.getD 2 0).toNat (l.getD 3 0).toNat
/-- what readEscape finds at a backslash -/
def resc (l : List UInt8) : Nat × Nat :=
  if l.length < 2 then (0, 0)
  else if (l.getD 1 0).toNat = 34 ∨ (l.getD 1 0).toNat = 92 then ((l.getD 1 0).toNat, 2)
  else if (l.getD 1 0).toNat = 110 then (10, 2)
  else if (l.getD 1 0).toNat = 120 then rhexL l else (0, 0)
/-- what readForm finds -/
def rfm (l : List UInt8) : Nat × Nat :=
  if l.length = 0 then (0, 0)
  else if (l.getD 0 0).toNat = 34 ∨ prn (l.getD 0 0).toNat = false then (0, 0)
  else if (l.getD 0 0).toNat = 92 then resc l
  else ((l.getD 0 0).toNat, 1)

/-- a digit of base 16 -/
def hexd (n : Nat) : UInt8 := if n < 10 then UInt8.ofNat (48 + n) else UInt8.ofNat (87 + n)
/-- the form of a byte -/
def formL (c : Nat) : List UInt8 :=
  if c = 34 then [92, 34] else if c = 92 then [92, 92] else if c = 10 then [92, 110]
  else if prn c = true then [UInt8.ofNat c] else [92, 120, hexd (c / 16), hexd (c % 16)]

theorem getD_of (s : ByteArray) (i : Nat) (h : i < s.size) : s.data.toList.getD i 0 = s[i] := by
  rw [List.getD_eq_getElem?_getD, List.getElem?_eq_getElem (by simpa using h)]; rfl
theorem len_of (s : ByteArray) : s.data.toList.length = s.size := by simp

theorem rhex_le (c d : Nat) : (rhex c d).2 ≤ 4 := by unfold rhex; split <;> (try split) <;> simp
theorem resc_le (l : List UInt8) : (resc l).2 ≤ 4 := by
  unfold resc rhexL
  split
  · simp
  · split
    · simp
    · split
      · simp
      · split
        · split
          · simp
          · exact rhex_le _ _
        · simp
theorem rfm_le (l : List UInt8) : (rfm l).2 ≤ 4 := by
  unfold rfm
  split
  · simp
  · split
    · simp
    · split
      · exact resc_le l
      · simp

/-- what quotedLength returns from index i on -/
def qgo (l : List UInt8) : Nat → Nat → Nat
  | 0, _ => 0
  | f + 1, i => if i < l.length then (if (l.getD i 0).toNat = 34 then i + 1 else if (rfm (l.drop i)).2 = 0 then 0 else qgo l f (i + (rfm (l.drop i)).2)) else 0
/-- what quotedLength returns -/
def qlen (l : List UInt8) : Nat := if l.length = 0 ∨ (l.getD 0 0).toNat ≠ 34 then 0 else qgo l l.length 1
theorem qgo_end (l : List UInt8) (f i : Nat) (h : ¬ i < l.length) : qgo l f i = 0 := by
  cases f with
  | zero => rfl
  | succ f => simp [qgo, h]
theorem qgo_quote (l : List UInt8) (f i : Nat) (h : i < l.length) (hf : l.length ≤ f + i) (hq : (l.getD i 0).toNat = 34) : qgo l f i = i + 1 := by
  obtain ⟨g, rfl⟩ : ∃ g, f = g + 1 := ⟨f - 1, by omega⟩
  simp only [qgo, if_pos h, if_pos hq]
theorem qgo_none (l : List UInt8) (f i : Nat) (h : i < l.length) (hq : (l.getD i 0).toNat ≠ 34) (hn : (rfm (l.drop i)).2 = 0) : qgo l f i = 0 := by
  cases f with
  | zero => rfl
  | succ f => simp only [qgo, if_pos h, if_neg hq, if_pos hn]
theorem qgo_next (l : List UInt8) (f i : Nat) (h : i < l.length) (hf : l.length ≤ f + i) (hq : (l.getD i 0).toNat ≠ 34) (hn : (rfm (l.drop i)).2 ≠ 0) : qgo l f i = qgo l (f - 1) (i + (rfm (l.drop i)).2) := by
  obtain ⟨g, rfl⟩ : ∃ g, f = g + 1 := ⟨f - 1, by omega⟩
  simp only [qgo, if_pos h, if_neg hq, if_neg hn]; rfl

theorem hexI_lt (c : Nat) : hexI c < 16 := by
  unfold hexI dig; split
  · rename_i h; simp at h; omega
  · split <;> omega
theorem hexI_ge (c : Nat) : -1 ≤ hexI c := by
  unfold hexI dig; split
  · rename_i h; simp at h; omega
  · split <;> omega

end Go.Proofs.YtalfonpkefhlmaaDoor

