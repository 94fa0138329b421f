/-
  DERIVED. Plain Lean: the parts of a line.
-/
import Derived.Test.YthbpmolookmjaaaDoorPure
namespace Go.Proofs.YthbpmolookmjaaaDoor

def plen (l : List UInt8) : Nat := if 0 < qlen l then qlen l else (l.takeWhile fun c => wrd c.toNat).length

theorem takeWhile_len (s : ByteArray) (p : UInt8 → Bool) (k : Nat) (hk : k ≤ s.size) (ha : (s.data.toList.take k).all p = true) (he : k = s.size ∨ ∃ h : k < s.size, p s[k] = false) : (s.data.toList.takeWhile p).length = k := by
  have e : s.data.toList = s.data.toList.take k ++ s.data.toList.drop k := (List.take_append_drop k _).symm
  have hlen : (s.data.toList.take k).length = k := by simp; omega
  rw [e, List.takeWhile_append_of_pos (by simpa using ha)]
  have hd : (s.data.toList.drop k).takeWhile p = [] := by
    rcases he with he | ⟨h, hp⟩
    · rw [List.drop_of_length_le (by simp; omega)]; rfl
    · rw [List.drop_eq_getElem_cons (by simpa using h), List.takeWhile_cons]
      have : s.data.toList[k]'(by simpa using h) = s[k] := rfl
      rw [this, hp]; rfl
  rw [hd]; simpa using hlen

/-- the parts of a line that is not empty -/
def wgo : Nat → List UInt8 → Option (List (List UInt8))
  | 0, _ => none
  | f + 1, l =>
    if plen l = 0 then none
    else if plen l = l.length then some [l.take (plen l)]
    else if (l.getD (plen l) 0).toNat ≠ 32 then none
    else (wgo f (l.drop (plen l + 1))).map (l.take (plen l) :: ·)
def wordsL (l : List UInt8) : Option (List (List UInt8)) := if l.length = 0 then some [] else wgo (l.length + 1) l

theorem qgo_le (l : List UInt8) : ∀ f i, qgo l f i ≤ l.length
  | 0, _ => Nat.zero_le _
  | f + 1, i => by
    unfold qgo
    split
    · split
      · omega
      · split
        · exact Nat.zero_le _
        · exact qgo_le l f _
    · exact Nat.zero_le _
theorem qlen_le (l : List UInt8) : qlen l ≤ l.length := by
  unfold qlen
  split
  · exact Nat.zero_le _
  · exact qgo_le l _ _
theorem plen_le (l : List UInt8) : plen l ≤ l.length := by
  unfold plen
  split
  · exact qlen_le l
  · exact (List.takeWhile_sublist _).length_le

/-- one step of the words -/
theorem wgo_none (l : List UInt8) (f : Nat) (h : plen l = 0) : wgo (f + 1) l = none := by simp [wgo, h]
theorem wgo_last (l : List UInt8) (f : Nat) (h0 : plen l ≠ 0) (h : plen l = l.length) : wgo (f + 1) l = some [l.take (plen l)] := by simp only [wgo, if_neg h0, if_pos h]
theorem wgo_bad (l : List UInt8) (f : Nat) (h0 : plen l ≠ 0) (h : plen l ≠ l.length) (h32 : (l.getD (plen l) 0).toNat ≠ 32) : wgo (f + 1) l = none := by simp only [wgo, if_neg h0, if_neg h, if_pos h32]
theorem wgo_next (l : List UInt8) (f : Nat) (h0 : plen l ≠ 0) (h : plen l ≠ l.length) (h32 : (l.getD (plen l) 0).toNat = 32) : wgo (f + 1) l = (wgo f (l.drop (plen l + 1))).map (l.take (plen l) :: ·) := by
  simp only [wgo, if_neg h0, if_neg h, h32, ne_eq, not_true, if_false]

end Go.Proofs.YthbpmolookmjaaaDoor
