/-
  DERIVED. Plain Lean: lines are split and joined.
-/
import Derived.Test.YthbpmolookmjaaaDoorPure3
import Derived.Lib.Join
namespace Go.Proofs.YthbpmolookmjaaaDoor

theorem join_more (x y : List UInt8) (r : List (List UInt8)) : Lib.join (x :: y :: r) [32] = x ++ 32 :: Lib.join (y :: r) [32] := by
  rw [Lib.join_cons, Lib.join_cons y r]
  simp [Lib.joinTail]

/-- the number of bytes of the word at the head -/
def wl (l : List UInt8) : Nat := (l.takeWhile fun c => wrd c.toNat).length
theorem wl_nil : wl [] = 0 := rfl
theorem wl_yes (c : UInt8) (r : List UInt8) (h : wrd c.toNat = true) : wl (c :: r) = wl r + 1 := by simp [wl, h]
theorem wl_no (c : UInt8) (r : List UInt8) (h : wrd c.toNat = false) : wl (c :: r) = 0 := by simp [wl, h]
theorem wl_le (l : List UInt8) : wl l ≤ l.length := (List.takeWhile_sublist _).length_le
theorem wrd_bd {c : Nat} : wrd c = true ↔ 33 ≤ c ∧ c ≤ 126 ∧ c ≠ 34 := by simp [wrd, prn]; omega

/-- a part that stands alone -/
def IsPart (p : List UInt8) : Prop := (∃ m, p = quoteL m) ∨ (p ≠ [] ∧ ∀ c ∈ p, wrd c.toNat = true)

theorem wl_part (p t : List UInt8) (hp : ∀ c ∈ p, wrd c.toNat = true) (ht : t = [] ∨ ∃ u, t = 32 :: u) : wl (p ++ t) = p.length := by
  unfold wl
  rw [List.takeWhile_append_of_pos (by simpa using hp)]
  have : t.takeWhile (fun c => wrd c.toNat) = [] := by
    rcases ht with ht | ⟨u, ht⟩
    · rw [ht]; rfl
    · rw [ht, List.takeWhile_cons]; rfl
  rw [this, List.append_nil]

theorem qlen_head (l : List UInt8) (h : (l.headD 0).toNat ≠ 34) : qlen l = 0 := by
  unfold qlen
  rw [if_pos]
  right
  intro e
  apply h
  rw [← e]
  cases l <;> rfl

/-- where a word begins there is no Quote -/
theorem plen_word (l : List UInt8) (h : wl l ≠ 0) : plen l = wl l := by
  have hq : qlen l = 0 := by
    apply qlen_head
    match l, h with
    | [], h => exact absurd rfl h
    | c :: r, h =>
      intro e
      have e : c.toNat = 34 := e
      apply h
      exact wl_no c r (by rw [e]; rfl)
  unfold plen
  rw [if_neg (by omega)]; rfl
theorem plen_quote (l : List UInt8) (h : wl l = 0) : plen l = qlen l := by
  unfold plen
  split
  · rfl
  · have : (l.takeWhile fun c => wrd c.toNat).length = 0 := h
    omega

theorem plen_part (p t : List UInt8) (hp : IsPart p) (ht : t = [] ∨ ∃ u, t = 32 :: u) : plen (p ++ t) = p.length := by
  rcases hp with ⟨m, rfl⟩ | ⟨h0, hw⟩
  · have h := qlen_quoteL m t
    unfold plen
    rw [h, if_pos (by rw [quoteL]; simp)]
  · have h := wl_part p t hw ht
    have : p.length ≠ 0 := by simpa using h0
    rw [plen_word _ (by omega), h]

theorem part_pos (p : List UInt8) (hp : IsPart p) : 1 ≤ p.length := by
  rcases hp with ⟨m, rfl⟩ | ⟨h0, _⟩
  · rw [quoteL]; simp
  · have : p.length ≠ 0 := by simpa using h0
    omega

/-- the parts of a joined line are found again -/
theorem wgo_join : ∀ (r : List (List UInt8)) (x : List UInt8) (f : Nat), IsPart x → (∀ p ∈ r, IsPart p) → r.length < f → wgo f (Lib.join (x :: r) [32]) = some (x :: r)
  | [], x, f, hx, _, hf => by
    obtain ⟨g, rfl⟩ : ∃ g, f = g + 1 := ⟨f - 1, by omega⟩
    rw [Lib.join_one]
    have hp := plen_part x [] hx (Or.inl rfl)
    rw [List.append_nil] at hp
    have := part_pos x hx
    rw [wgo_last x g (by omega) hp, hp, List.take_length]
  | y :: r, x, f, hx, hr, hf => by
    obtain ⟨g, rfl⟩ : ∃ g, f = g + 1 := ⟨f - 1, by omega⟩
    rw [join_more]
    have hp := plen_part x (32 :: Lib.join (y :: r) [32]) hx (Or.inr ⟨_, rfl⟩)
    have := part_pos x hx
    have ih := wgo_join r y g (hr y (by simp)) (fun p hp => hr p (by simp [hp])) (by simp at hf; omega)
    rw [wgo_next _ g (by omega) (by rw [hp]; simp) (by rw [hp]; simp [List.getD_eq_getElem?_getD]), hp]
    have hd : List.drop (x.length + 1) (x ++ 32 :: Lib.join (y :: r) [32]) = Lib.join (y :: r) [32] := by
      rw [← List.drop_drop, List.drop_left]; rfl
    rw [hd, ih, List.take_left]; rfl
theorem join_len (r : List (List UInt8)) (x : List UInt8) : r.length ≤ (Lib.join (x :: r) [32]).length := by
  induction r generalizing x with
  | nil => simp
  | cons y r ih => rw [join_more, List.length_append, List.length_cons, List.length_cons]; have := ih y; omega
theorem words_join (ps : List (List UInt8)) (h : ∀ p ∈ ps, IsPart p) : wordsL (Lib.join ps [32]) = some ps := by
  match ps, h with
  | [], _ => rfl
  | x :: r, h =>
    have hx := h x (by simp)
    have hl : (Lib.join (x :: r) [32]).length ≠ 0 := by
      have := part_pos x hx
      cases r with
      | nil => rw [Lib.join_one]; omega
      | cons y r => rw [join_more]; simp
    have := join_len r x
    rw [wordsL, if_neg hl, wgo_join r x _ hx (fun p hp => h p (by simp [hp])) (by omega)]

/-- the parts of a line are joined to the line -/
theorem wgo_inv : ∀ (f : Nat) (l : List UInt8) (ps : List (List UInt8)), wgo f l = some ps → ps ≠ [] ∧ Lib.join ps [32] = l
  | 0, _, _, h => by cases h
  | f + 1, l, ps, h => by
    by_cases h0 : plen l = 0
    · rw [wgo_none l f h0] at h; cases h
    by_cases h1 : plen l = l.length
    · rw [wgo_last l f h0 h1, h1, List.take_length] at h
      have := Option.some.inj h
      subst this
      exact ⟨by simp, Lib.join_one _ _⟩
    by_cases h2 : (l.getD (plen l) 0).toNat = 32
    · rw [wgo_next l f h0 h1 h2] at h
      cases hr : wgo f (l.drop (plen l + 1)) with
      | none => rw [hr] at h; cases h
      | some qs =>
        rw [hr] at h
        have := Option.some.inj h
        subst this
        obtain ⟨hq0, hq⟩ := wgo_inv f _ qs hr
        refine ⟨by simp, ?_⟩
        match qs, hq0, hq with
        | y :: r, _, hq =>
          rw [join_more, hq]
          have hle := plen_le l
          have hlt : plen l < l.length := by omega
          have e : l.getD (plen l) 0 = 32 := UInt8.toNat_inj.1 (by simpa using h2)
          have hd : l.drop (plen l) = 32 :: l.drop (plen l + 1) := by
            rw [List.drop_eq_getElem_cons hlt]
            have : l[plen l] = 32 := by rw [← e]; simp [List.getD_eq_getElem?_getD, hlt]
            rw [this]
          rw [← hd, List.take_append_drop]
    · rw [wgo_bad l f h0 h1 h2] at h; cases h
theorem words_inv (l : List UInt8) (ps : List (List UInt8)) (h : wordsL l = some ps) : Lib.join ps [32] = l := by
  unfold wordsL at h
  split at h
  · rename_i h0
    have := Option.some.inj h
    subst this
    exact (List.eq_nil_of_length_eq_zero h0).symm
  · exact (wgo_inv _ _ _ h).2

/-- the last byte of a part is no space -/
theorem part_last (l : List UInt8) (h : plen l ≠ 0) : (l.getD (plen l - 1) 0).toNat ≠ 32 := by
  by_cases hw : wl l = 0
  · have hq := plen_quote l hw
    rw [hq] at h ⊢
    obtain ⟨m, t, hm⟩ := qlen_inv l h
    have h1 := qlen_quoteL m t
    rw [← hm] at h1
    rw [h1]
    have hl : (quoteL m).length = (flat m).length + 2 := by simp [quoteL]
    have : l.getD ((quoteL m).length - 1) 0 = 34 := by
      rw [hm, hl, show (flat m).length + 2 - 1 = (flat m).length + 1 by omega]
      simp [quoteL, List.getD_eq_getElem?_getD]
    rw [this]; decide
  · rw [plen_word l hw]
    have e : l = l.takeWhile (fun c => wrd c.toNat) ++ l.dropWhile (fun c => wrd c.toNat) := List.takeWhile_append_dropWhile.symm
    have hlt : wl l - 1 < (l.takeWhile (fun c => wrd c.toNat)).length := by have : wl l = (l.takeWhile (fun c => wrd c.toNat)).length := rfl; omega
    have hm : l.getD (wl l - 1) 0 = (l.takeWhile (fun c => wrd c.toNat))[wl l - 1] := by
      rw [List.getD_eq_getElem?_getD]
      rw (occs := .pos [1]) [e]
      rw [List.getElem?_append_left hlt, List.getElem?_eq_getElem hlt]; rfl
    rw [hm]
    have hin : (l.takeWhile (fun c => wrd c.toNat))[wl l - 1] ∈ l.takeWhile (fun c => wrd c.toNat) := List.getElem_mem hlt
    have := List.all_eq_true.1 (List.all_takeWhile (l := l) (p := fun c => wrd c.toNat)) _ hin
    have := wrd_bd.1 this
    omega

end Go.Proofs.YthbpmolookmjaaaDoor
