/-
  DERIVED. Plain Lean: forms are read back; which texts are Quotes.
-/
import Derived.Test.YthbpmolookmjaaaDoorPure2
namespace Go.Proofs.YthbpmolookmjaaaDoor

theorem hexI_hexd_fin : ∀ a : Fin 16, hexI (hexd a.val).toNat = a.val := by decide +kernel
theorem hexd_hexI_fin : ∀ c : Fin 256, 0 ≤ hexI c.val → hexd (hexI c.val).toNat = UInt8.ofNat c.val := by decide +kernel
theorem hexI_hexd (a : Nat) (h : a < 16) : hexI (hexd a).toNat = a := hexI_hexd_fin ⟨a, h⟩
theorem hexd_hexI (c : UInt8) (h : 0 ≤ hexI c.toNat) : hexd (hexI c.toNat).toNat = c := by
  have := hexd_hexI_fin ⟨c.toNat, c.toNat_lt⟩ h
  rw [this]; simp
theorem ofNat_toNat (c : UInt8) : UInt8.ofNat c.toNat = c := by simp

theorem formL_pos (c : Nat) : 1 ≤ (formL c).length := by
  unfold formL
  split
  · simp
  · split
    · simp
    · split
      · simp
      · split <;> simp

/-- a form is read back -/
theorem rfm_form (c : UInt8) (t : List UInt8) : rfm (formL c.toNat ++ t) = (c.toNat, (formL c.toNat).length) := by
  have hc := c.toNat_lt
  by_cases c1 : c.toNat = 34
  · simp [formL, c1, rfm, resc, prn]
  by_cases c2 : c.toNat = 92
  · simp [formL, c2, rfm, resc, prn]
  by_cases c3 : c.toNat = 10
  · simp [formL, c3, rfm, resc, prn]
  cases hp : prn c.toNat
  · have hf : formL c.toNat = [92, 120, hexd (c.toNat / 16), hexd (c.toNat % 16)] := by simp [formL, c1, c2, c3, hp]
    rw [hf]
    have a1 := hexI_hexd (c.toNat / 16) (by omega)
    have a2 := hexI_hexd (c.toNat % 16) (by omega)
    have hr : rhex (hexd (c.toNat / 16)).toNat (hexd (c.toNat % 16)).toNat = (c.toNat, 4) := by
      have e : (((c.toNat / 16 : Nat) : Int) * 16 + ((c.toNat % 16 : Nat) : Int)) = (c.toNat : Int) := by omega
      unfold rhex
      rw [a1, a2, e, if_neg (by omega), Int.toNat_natCast, if_neg (by rw [hp]; simp; omega)]
    simp [rfm, resc, rhexL, prn, hr]
    rw [if_neg (by omega), if_neg (by omega)]
  · have hf : formL c.toNat = [c] := by simp [formL, c1, c2, c3, hp]
    rw [hf]
    simp [rfm, c1, c2, hp]

/-- what is read is a form -/
theorem rfm_inv (l : List UInt8) (h : (rfm l).2 ≠ 0) : ∃ c : UInt8, (rfm l).1 = c.toNat ∧ (formL c.toNat).length = (rfm l).2 ∧ ∃ t, l = formL c.toNat ++ t := by
  match l, h with
  | [], h => exact absurd rfl h
  | a :: t, h =>
    by_cases c1 : a.toNat = 34
    · exact absurd (by simp [rfm, c1]) h
    cases hp : prn a.toNat
    · exact absurd (by simp [rfm, hp]) h
    by_cases c2 : a.toNat = 92
    · have ha : a = 92 := UInt8.toNat_inj.1 (by simpa using c2)
      subst ha
      have hr : rfm (92 :: t) = resc (92 :: t) := by simp [rfm, prn]
      rw [hr] at h ⊢
      match t, h with
      | [], h => exact absurd (by simp [resc]) h
      | b :: t, h =>
        by_cases b1 : b.toNat = 34 ∨ b.toNat = 92
        · have hr : resc (92 :: b :: t) = (b.toNat, 2) := by simp [resc, b1]
          rw [hr]
          have hf : formL b.toNat = [92, b] := by
            rcases b1 with b1 | b1
            · have : b = 34 := UInt8.toNat_inj.1 (by simpa using b1)
              subst this; rfl
            · have : b = 92 := UInt8.toNat_inj.1 (by simpa using b1)
              subst this; rfl
          exact ⟨b, rfl, by rw [hf]; rfl, t, by rw [hf]; rfl⟩
        by_cases b2 : b.toNat = 110
        · have hb : b = 110 := UInt8.toNat_inj.1 (by simpa using b2)
          subst hb
          have hr : resc (92 :: 110 :: t) = (10, 2) := by simp [resc]
          rw [hr]
          exact ⟨10, rfl, rfl, t, rfl⟩
        by_cases b3 : b.toNat = 120
        · have hb : b = 120 := UInt8.toNat_inj.1 (by simpa using b3)
          subst hb
          have hr : resc (92 :: 120 :: t) = rhexL (92 :: 120 :: t) := by simp [resc]; intro hx; omega
          rw [hr] at h ⊢
          match t, h with
          | [], h => exact absurd (by simp [rhexL]) h
          | [_], h => exact absurd (by simp [rhexL]) h
          | c :: d :: t, h =>
            have hr : rhexL (92 :: 120 :: c :: d :: t) = rhex c.toNat d.toNat := by simp [rhexL]; intro hx; omega
            rw [hr] at h ⊢
            unfold rhex at h ⊢
            by_cases d1 : hexI c.toNat < 0 ∨ hexI d.toNat < 0
            · rw [if_pos d1] at h; exact absurd rfl h
            rw [if_neg d1] at h ⊢
            by_cases d2 : hexI c.toNat * 16 + hexI d.toNat = 10 ∨ prn (hexI c.toNat * 16 + hexI d.toNat).toNat = true
            · rw [if_pos d2] at h; exact absurd rfl h
            rw [if_neg d2]
            have u1 := hexI_lt c.toNat; have u2 := hexI_lt d.toNat
            have e1 := hexd_hexI c (by omega); have e2 := hexd_hexI d (by omega)
            generalize hx : hexI c.toNat = x at *
            generalize hy : hexI d.toNat = y at *
            have hv : (x * 16 + y).toNat < 256 := by omega
            have hu : (UInt8.ofNat (x * 16 + y).toNat).toNat = (x * 16 + y).toNat := UInt8.toNat_ofNat_of_lt' (by simpa using hv)
            have hpn : prn (x * 16 + y).toNat = false := by
              cases hq : prn (x * 16 + y).toNat
              · rfl
              · exact absurd (Or.inr hq) d2
            have n1 : (x * 16 + y).toNat ≠ 34 := by intro e; rw [e] at hpn; simp [prn] at hpn
            have n2 : (x * 16 + y).toNat ≠ 92 := by intro e; rw [e] at hpn; simp [prn] at hpn
            have n3 : (x * 16 + y).toNat ≠ 10 := by omega
            have hf : formL (x * 16 + y).toNat = [92, 120, c, d] := by
              unfold formL
              rw [if_neg n1, if_neg n2, if_neg n3, if_neg (by rw [hpn]; simp)]
              rw [show (x * 16 + y).toNat / 16 = x.toNat by omega, show (x * 16 + y).toNat % 16 = y.toNat by omega, e1, e2]
            exact ⟨UInt8.ofNat (x * 16 + y).toNat, hu.symm, by rw [hu, hf]; rfl, t, by rw [hu, hf]; rfl⟩
        · exact absurd (by simp [resc, b1, b2, b3]) h
    · have hr : rfm (a :: t) = (a.toNat, 1) := by simp [rfm, c1, hp, c2]
      have n3 : a.toNat ≠ 10 := by intro e; rw [e] at hp; simp [prn] at hp
      have hf : formL a.toNat = [a] := by simp [formL, c1, c2, n3, hp]
      rw [hr]
      exact ⟨a, rfl, by rw [hf]; rfl, t, by rw [hf]; rfl⟩

/-- the forms of bytes -/
def flat (m : List UInt8) : List UInt8 := m.flatMap fun c => formL c.toNat
def quoteL (m : List UInt8) : List UInt8 := 34 :: (flat m ++ [34])

theorem flat_nil : flat [] = [] := rfl
theorem flat_cons (c : UInt8) (m : List UInt8) : flat (c :: m) = formL c.toNat ++ flat m := rfl
theorem flat_snoc (m : List UInt8) (c : UInt8) : flat (m ++ [c]) = flat m ++ formL c.toNat := by simp [flat]
theorem formL_head (c : UInt8) (t : List UInt8) : ((formL c.toNat ++ t).getD 0 0).toNat ≠ 34 := by
  have := rfm_form c t
  intro e
  have hp := formL_pos c.toNat
  have h0 : (formL c.toNat ++ t).length ≠ 0 := by rw [List.length_append]; omega
  rw [rfm, if_neg h0, if_pos (Or.inl e)] at this
  have := congrArg Prod.snd this
  simp at this
  omega

/-- from index i on: the rest of a Quote is found -/
theorem qgo_quoteL (l : List UInt8) : ∀ (m : List UInt8) (t : List UInt8) (f i : Nat), l.length ≤ f + i → l.drop i = flat m ++ 34 :: t → qgo l f i = i + (flat m).length + 1
  | [], t, f, i, hf, h => by
    have hlt : i < l.length := by
      rcases Nat.lt_or_ge i l.length with h' | h'
      · exact h'
      · rw [List.drop_of_length_le h'] at h; simp [flat_nil] at h
    have hg : l.getD i 0 = 34 := by
      have := congrArg (fun x => x.getD 0 0) h
      simpa [flat_nil, List.getD_eq_getElem?_getD] using this
    rw [qgo_quote l f i hlt hf (by rw [hg]; rfl)]; rfl
  | c :: m, t, f, i, hf, h => by
    rw [flat_cons, List.append_assoc] at h
    have hp := formL_pos c.toNat
    have hlt : i < l.length := by
      rcases Nat.lt_or_ge i l.length with h' | h'
      · exact h'
      · rw [List.drop_of_length_le h'] at h
        have := congrArg List.length h
        rw [List.length_append] at this
        simp only [List.length_nil] at this
        omega
    have hg : (l.getD i 0).toNat ≠ 34 := by
      have e : l.getD i 0 = (l.drop i).getD 0 0 := by simp [List.getD_eq_getElem?_getD]
      rw [e, h]
      exact formL_head c _
    have hr : rfm (l.drop i) = (c.toNat, (formL c.toNat).length) := by rw [h]; exact rfm_form c _
    rw [qgo_next l f i hlt hf hg (by rw [hr]; show (formL c.toNat).length ≠ 0; omega), hr]
    have hd : l.drop (i + (formL c.toNat).length) = flat m ++ 34 :: t := by
      rw [← List.drop_drop, h, List.drop_left]
    rw [qgo_quoteL l m t (f - 1) (i + (formL c.toNat).length) (by omega) hd, flat_cons, List.length_append]
    omega

theorem qgo_inv (l : List UInt8) : ∀ (f i : Nat), qgo l f i ≠ 0 → ∃ m t, l.drop i = flat m ++ 34 :: t
  | 0, _, h => absurd rfl h
  | f + 1, i, h => by
    unfold qgo at h
    by_cases hlt : i < l.length
    · rw [if_pos hlt] at h
      by_cases hq : (l.getD i 0).toNat = 34
      · refine ⟨[], l.drop (i + 1), ?_⟩
        rw [List.drop_eq_getElem_cons hlt]
        have : l[i] = 34 := UInt8.toNat_inj.1 (by simpa [List.getD_eq_getElem?_getD, hlt] using hq)
        rw [this]; rfl
      · rw [if_neg hq] at h
        by_cases hn : (rfm (l.drop i)).2 = 0
        · rw [if_pos hn] at h; exact absurd rfl h
        · rw [if_neg hn] at h
          obtain ⟨m, t, hm⟩ := qgo_inv l f _ h
          obtain ⟨c, _, hl, u, hu⟩ := rfm_inv _ hn
          refine ⟨c :: m, t, ?_⟩
          rw [← hl, ← List.drop_drop, hu, List.drop_left] at hm
          rw [hu, hm, flat_cons, List.append_assoc]
    · rw [if_neg hlt] at h; exact absurd rfl h

theorem qlen_quoteL (m t : List UInt8) : qlen (quoteL m ++ t) = (quoteL m).length := by
  unfold qlen quoteL
  rw [if_neg (by simp)]
  rw [qgo_quoteL _ m t _ 1 (by simp) (by simp)]
  simp
  omega
theorem qlen_inv (l : List UInt8) (h : qlen l ≠ 0) : ∃ m t, l = quoteL m ++ t := by
  unfold qlen at h
  split at h
  · exact absurd rfl h
  · rename_i hc
    obtain ⟨m, t, hm⟩ := qgo_inv l _ _ h
    match l, hc, hm with
    | [], hc, _ => simp at hc
    | a :: l, hc, hm =>
      have ha : a = 34 := UInt8.toNat_inj.1 (by simpa using hc)
      subst ha
      refine ⟨m, t, ?_⟩
      simp at hm
      simp [quoteL, hm]

end Go.Proofs.YthbpmolookmjaaaDoor
