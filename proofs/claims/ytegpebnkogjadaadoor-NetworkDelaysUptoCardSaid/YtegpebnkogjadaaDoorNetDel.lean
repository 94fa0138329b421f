/-
  DERIVED. A delayed network in plain lists: it is right, and how its arrivals differ.
-/
import Derived.Test.YtegpebnkogjadaaDoorNetLaw
import Derived.Test.YtegpebnkogjadaaDoorNetErr5
namespace Go.Proofs.YtegpebnkogjadaaDoor.T
open Go.RowKit
set_option maxRecDepth 8000

theorem dlE_lenD (l : List (Int × Int)) (t n : Int) : (dlE l t n).1.length ≤ l.length + 1 := by
  unfold dlE
  repeat' split
  all_goals simp
theorem upd_getD {l : List ArcT} {f g t n : Int} {i : Nat} (hi : i < l.length) : (l.map (updF f g t n)).getD i arc0 = updF f g t n (l.getD i arc0) := by
  rw [List.getD_eq_getElem?_getD, List.getElem?_map, List.getD_eq_getElem?_getD, List.getElem?_eq_getElem hi]; rfl
theorem upd_smallD {pl : List ByteArray} {l : List ArcT} (h : NetOk pl l) (f g t n : Int) (i : Nat) (hi : i < (l.map (updF f g t n)).length) : ((l.map (updF f g t n)).getD i arc0).tr.length + ((l.map (updF f g t n)).getD i arc0).sl.length ≤ 34 := by
  rw [List.length_map] at hi
  rw [upd_getD hi]
  have h1 := h.tr_le hi
  have h2 := dlE_lenD (l.getD i arc0).sl t n
  unfold updF
  split <;> (try simp only) <;> omega
theorem slowS_app (l m : List (Int × Int)) (d : Int) : slowS (l ++ m) d = slowS l d + slowS m d := by
  induction l with
  | nil => simp [slowS]
  | cons p l ih => simp only [List.cons_append, slowS, ih]; omega
theorem slowS_set (l : List (Int × Int)) (k : Nat) (x y d : Int) (hk : k < l.length) (hx : (l.getD k (0, 0)).1 = x) : slowS (l.set k (x, (l.getD k (0, 0)).2 + y)) d = slowS l d + (if x ≤ d then y else 0) := by
  induction l generalizing k with
  | nil => cases hk
  | cons p l ih =>
    cases k with
    | zero =>
      simp only [List.getD_cons_zero] at hx ⊢
      subst hx
      simp only [List.set_cons_zero, slowS]
      split <;> omega
    | succ k =>
      simp only [List.getD_cons_succ] at hx ⊢
      simp only [List.set_cons_succ, slowS]
      rw [ih k (by simpa using hk) hx]
      omega
def lastP (l : List (Int × Int)) : Int × Int := l.getD (l.length - 1) (0, 0)
theorem dlE_ok {l : List (Int × Int)} {t n : Int} (h : (dlE l t n).2 = 0) :
    ((l.length = 0 ∨ (lastP l).1 < t) ∧ l.length < 16 ∧ (dlE l t n).1 = l ++ [(t, n)]) ∨ (0 < l.length ∧ (lastP l).1 = t ∧ (lastP l).2 + n ≤ 4096 ∧ (dlE l t n).1 = l.set (l.length - 1) (t, (lastP l).2 + n)) := by
  unfold dlE at h ⊢
  unfold lastP
  by_cases h1 : 0 < l.length ∧ t < (l.getD (l.length - 1) (0, 0)).1
  · rw [if_pos h1] at h; cases h
  rw [if_neg h1] at h ⊢
  by_cases h2 : 0 < l.length ∧ t = (l.getD (l.length - 1) (0, 0)).1
  · rw [if_pos h2] at h ⊢
    by_cases h3 : 4096 < (l.getD (l.length - 1) (0, 0)).2 + n
    · rw [if_pos h3] at h; cases h
    · rw [if_neg h3]
      exact .inr ⟨h2.1, h2.2.symm, by omega, by rw [← h2.2]⟩
  · rw [if_neg h2] at h ⊢
    by_cases h3 : 16 ≤ l.length
    · rw [if_pos h3] at h; cases h
    · rw [if_neg h3]
      refine .inl ⟨?_, by omega, rfl⟩
      by_cases h4 : l.length = 0
      · exact .inl h4
      · right; omega
theorem dlE_errs (l : List (Int × Int)) (t n : Int) : (dlE l t n).2 = 0 ∨ (dlE l t n).2 = 2 ∨ (dlE l t n).2 = 4 := by
  unfold dlE
  repeat' split
  all_goals simp
theorem dlE_slow {l : List (Int × Int)} {t n : Int} (h : (dlE l t n).2 = 0) (d : Int) : slowS (dlE l t n).1 d = slowS l d + (if t ≤ d then n else 0) := by
  rcases dlE_ok h with ⟨-, -, e⟩ | ⟨h0, h1, -, e⟩
  · rw [e, slowS_app]
    simp [slowS]
  · rw [e]
    exact slowS_set l _ t n d (by omega) h1
theorem slowB_app {l : List (Int × Int)} {p : Int × Int} {k : Nat} (hk : k < l.length) : slowB (l ++ [p]) k = slowB l k := by
  have h (j : Nat) (hj : j < l.length) : (l ++ [p]).getD j (0, 0) = l.getD j (0, 0) := by
    rw [List.getD_eq_getElem?_getD, List.getD_eq_getElem?_getD, List.getElem?_append_left hj]
  unfold slowB
  rw [h k hk, h (k - 1) (by omega)]
theorem dlE_fine {l : List (Int × Int)} {t n : Int} (ht : tickB t = true) (hn : tickB n = true) (hl : l.length ≤ 16) (hs : ∀ k, k < l.length → slowB l k = true) (h : (dlE l t n).2 = 0) :
    (dlE l t n).1.length ≤ 16 ∧ ∀ k, k < (dlE l t n).1.length → slowB (dlE l t n).1 k = true := by
  rcases dlE_ok h with ⟨h0, h1, e⟩ | ⟨h0, h1, h2, e⟩
  · rw [e]
    refine ⟨by simp; omega, fun k hk => ?_⟩
    rw [List.length_append, List.length_singleton] at hk
    by_cases hkl : k < l.length
    · rw [slowB_app hkl]; exact hs k hkl
    · have e2 : k = l.length := by omega
      subst e2
      have g1 : (l ++ [(t, n)]).getD l.length (0, 0) = (t, n) := by rw [List.getD_eq_getElem?_getD, List.getElem?_append_right (Nat.le_refl _)]; simp
      unfold slowB
      rw [g1, ht, hn]
      rcases h0 with h0 | h0
      · rw [h0]; rfl
      · have g2 : (l ++ [(t, n)]).getD (l.length - 1) (0, 0) = lastP l ∨ l.length = 0 := by
          by_cases hz : l.length = 0
          · exact .inr hz
          · left
            unfold lastP
            rw [List.getD_eq_getElem?_getD, List.getD_eq_getElem?_getD, List.getElem?_append_left (by omega)]
        rcases g2 with g2 | g2
        · rw [g2, decide_eq_false (show ¬ t ≤ (lastP l).1 by omega), Bool.and_false]; rfl
        · rw [g2]; rfl
  · rw [e]
    refine ⟨by rw [List.length_set]; exact hl, fun k hk => ?_⟩
    rw [List.length_set] at hk
    have hold := hs k hk
    have gset (j : Nat) (hj : j ≠ l.length - 1) : (l.set (l.length - 1) (t, (lastP l).2 + n)).getD j (0, 0) = l.getD j (0, 0) := by
      rw [List.getD_eq_getElem?_getD, List.getD_eq_getElem?_getD, List.getElem?_set_ne (by omega)]
    by_cases hkl : k = l.length - 1
    · subst hkl
      have g1 : (l.set (l.length - 1) (t, (lastP l).2 + n)).getD (l.length - 1) (0, 0) = (t, (lastP l).2 + n) := by
        rw [List.getD_eq_getElem?_getD, List.getElem?_set_self (by omega)]; rfl
      have hb := (slowB_tick hold).2
      have hn2 := (tickB_iff n).1 hn
      have htick : tickB ((lastP l).2 + n) = true := (tickB_iff _).2 ⟨by unfold lastP; omega, h2⟩
      unfold slowB at hold ⊢
      rw [g1, ht, htick]
      by_cases hz : l.length - 1 = 0
      · rw [hz]; rfl
      · rw [gset _ (by omega)]
        rw [show (l.getD (l.length - 1) (0, 0)).1 = t from h1] at hold
        simp only [Bool.and_eq_true] at hold
        simpa using hold.2
    · unfold slowB at hold ⊢
      rw [gset k hkl]
      by_cases hz : k = 0
      · subst hz
        simpa using hold
      · rw [gset (k - 1) (by omega)]
        exact hold

theorem sErr_nil {f g t n : Int} : ∀ {l : List ArcT}, sErr f g t n l = 0 → ∀ a ∈ l, hitF f g a = true → (dlE a.sl t n).2 = 0
  | [], _, a, h, _ => by cases h
  | b :: l, h, a, hm, hh => by
    unfold sErr at h
    by_cases h1 : hitF f g b = true ∧ (dlE b.sl t n).2 ≠ 0
    · rw [if_pos h1] at h; exact absurd h h1.2
    · rw [if_neg h1] at h
      rcases List.mem_cons.1 hm with rfl | hm
      · by_cases h2 : (dlE a.sl t n).2 = 0
        · exact h2
        · exact absurd ⟨hh, h2⟩ h1
      · exact sErr_nil h a hm hh
theorem sErr_errs (f g t n : Int) : ∀ l : List ArcT, sErr f g t n l = 0 ∨ sErr f g t n l = 2 ∨ sErr f g t n l = 4
  | [] => .inl rfl
  | b :: l => by
    unfold sErr
    split
    · exact dlE_errs _ _ _
    · exact sErr_errs f g t n l
theorem sloE_errs {np : Nat} {l : List ArcT} {f g t n : Int} (h : (inB np f && inB np g) = true) : sloE np l f g t n = 0 ∨ sloE np l f g t n = 12 ∨ sloE np l f g t n = 2 ∨ sloE np l f g t n = 4 := by
  unfold sloE
  rw [h, if_pos rfl]
  have := sErr_errs f g t n l
  split
  · split
    · omega
    · split <;> omega
  · omega
theorem sloE_ok {np : Nat} {l : List ArcT} {f g t n : Int} (h : sloE np l f g t n = 0) : tickB t = true ∧ tickB n = true ∧ ∀ a ∈ l, hitF f g a = true → (dlE a.sl t n).2 = 0 := by
  unfold sloE at h
  split at h
  · split at h
    · rename_i h1
      rw [Bool.and_eq_true] at h1
      by_cases h2 : sErr f g t n l = 0
      · exact ⟨h1.1, h1.2, sErr_nil h2⟩
      · rw [if_pos h2] at h; exact absurd h h2
    · cases h
  · cases h

/-! ### the delayed network -/
section
variable {pl : List ByteArray} {l : List ArcT} {f g t n : Int}
theorem upd_fr (a : ArcT) : (updF f g t n a).fr = a.fr := by unfold updF; split <;> rfl
theorem upd_to (a : ArcT) : (updF f g t n a).to = a.to := by unfold updF; split <;> rfl
theorem upd_prof (a : ArcT) : (updF f g t n a).prof = a.prof := by unfold updF; split <;> rfl
theorem upd_miles (a : ArcT) : (updF f g t n a).miles = a.miles := by unfold updF; split <;> rfl
theorem upd_tr (a : ArcT) : (updF f g t n a).tr = a.tr := by unfold updF; split <;> rfl
theorem upd_like (a b : ArcT) : likeB (updF f g t n a) (updF f g t n b) = likeB a b := by unfold likeB; rw [upd_fr, upd_fr, upd_to, upd_to, upd_prof, upd_prof]
theorem upd_twice (a : ArcT) (i : Nat) : twiceB (l.map (updF f g t n)) (updF f g t n a) i = twiceB l a i := by
  unfold twiceB
  rw [← List.map_take, List.any_map]
  congr 1
  funext b
  exact upd_like a b
theorem upd_arc {np : Nat} {a : ArcT} (h : ArcOk np a) (ht : tickB t = true) (hn : tickB n = true) (hd : hitF f g a = true → (dlE a.sl t n).2 = 0) : ArcOk np (updF f g t n a) := by
  by_cases hh : hitF f g a = true
  · have e : updF f g t n a = ⟨a.fr, a.to, a.prof, a.miles, a.tr, (dlE a.sl t n).1⟩ := by unfold updF; rw [if_pos hh]
    obtain ⟨h1, h2⟩ := dlE_fine ht hn h.len h.slow (hd hh)
    rw [e]
    exact ⟨h.fr, h.to, h.ne, h.prof, h.miles, h.tr, h1, h2⟩
  · have e : updF f g t n a = a := by unfold updF; rw [if_neg hh]
    rw [e]; exact h
theorem getD_mem2 {l : List ArcT} {i : Nat} (h : i < l.length) : l.getD i arc0 ∈ l := by
  rw [List.getD_eq_getElem?_getD, List.getElem?_eq_getElem h]; exact List.getElem_mem h
theorem upd_net (hN : netF pl l = []) (hS : sloE pl.length l f g t n = 0) : netF pl (l.map (updF f g t n)) = [] := by
  have hO := netOk_of hN
  obtain ⟨ht, hn, hd⟩ := sloE_ok hS
  obtain ⟨h0, -⟩ := ntF_nil pl l _ hN
  have key : ∀ k, k ≤ (l.map (updF f g t n)).length → ntF pl (l.map (updF f g t n)) k = [] := fun k => by
    induction k with
    | zero =>
      intro _
      show nf0 pl (l.map (updF f g t n)).length = []
      rw [List.length_map]; exact h0
    | succ k ih =>
      intro hk
      show ntF pl _ k ++ arF pl.length _ k = []
      rw [ih (by omega), List.nil_append]
      rw [List.length_map] at hk
      rw [arF_nil, upd_getD (by omega), upd_twice]
      exact ⟨upd_arc (hO.arcs k (by omega)) ht hn (hd _ (getD_mem2 (by omega))), hO.once k (by omega)⟩
  exact key _ (Nat.le_refl _)
theorem find_here {i : Nat} (hi : i < l.length) (h1 : (l.getD i arc0).fr = f) (h2 : (l.getD i arc0).to = g) (ho : twiceB l (l.getD i arc0) i = false) : findA l (l.getD i arc0).prof f g = some (l.getD i arc0) := by
  have hh : ∀ b, hitB (l.getD i arc0).prof f g b = likeB (l.getD i arc0) b := fun b => by
    unfold hitB likeB
    rw [h1, h2, decide_eq_decide.2 (eq_comm (a := f) (b := b.fr)), decide_eq_decide.2 (eq_comm (a := g) (b := b.to)), decide_eq_decide.2 (eq_comm (a := (l.getD i arc0).prof) (b := b.prof))]
  unfold findA
  have e : l = l.take i ++ (l.getD i arc0 :: l.drop (i + 1)) := by rw [← drop_more (d := arc0) hi, List.take_append_drop]
  have hn : (l.take i).find? (hitB (l.getD i arc0).prof f g) = none := by
    rw [List.find?_eq_none]
    intro b hb hx
    unfold twiceB at ho
    rw [List.any_eq_false] at ho
    exact ho b hb (by rw [← hh b]; exact hx)
  have hs : hitB (l.getD i arc0).prof f g (l.getD i arc0) = true := hit_yes h1 h2 rfl
  generalize hx : l.getD i arc0 = x at *
  rw [e, List.find?_append, hn, List.find?_cons, hs]
  rfl
theorem goV_here {np : Nat} {i : Nat} (hi : i < l.length) (hA : ArcOk np (l.getD i arc0)) (h1 : (l.getD i arc0).fr = f) (h2 : (l.getD i arc0).to = g) (ho : twiceB l (l.getD i arc0) i = false) (d : Int) :
    goV np l (l.getD i arc0).prof f g d = (arrA (l.getD i arc0) d, (l.getD i arc0).miles, 0) := by
  have hne : f ≠ g := by rw [← h1, ← h2]; exact hA.ne
  have b1 : inB np f = true := by unfold inB; rw [← h1, decide_eq_true hA.fr.1, decide_eq_true hA.fr.2]; rfl
  have b2 : inB np g = true := by unfold inB; rw [← h2, decide_eq_true hA.to.1, decide_eq_true hA.to.2]; rfl
  unfold goV
  rw [b1, b2, if_pos (by rfl), if_neg hne, find_here hi h1 h2 ho]
theorem arrA_upd {a : ArcT} (h1 : a.fr = f) (h2 : a.to = g) (hd : (dlE a.sl t n).2 = 0) (d : Int) : arrA (updF f g t n a) d = arrA a d + (if t ≤ d then n else 0) := by
  have hh : hitF f g a = true := hitF_yes h1 h2
  have e : updF f g t n a = ⟨a.fr, a.to, a.prof, a.miles, a.tr, (dlE a.sl t n).1⟩ := by unfold updF; rw [if_pos hh]
  rw [e]
  unfold arrA
  simp only
  rw [dlE_slow hd]
  omega
theorem wt_bound {l : List ArcT} {c : Nat} (h : ∀ i, i < l.length → (l.getD i arc0).tr.length + (l.getD i arc0).sl.length ≤ c) : wtA l ≤ c * l.length := by
  have key : ∀ k, k ≤ l.length → wtA (l.take k) ≤ c * k := fun k => by
    induction k with
    | zero => intro _; simp [wtA]
    | succ k ih =>
      intro hk
      rw [wt_take (by omega), Nat.mul_succ]
      have := ih (by omega)
      have := h k (by omega)
      omega
  have := key l.length (Nat.le_refl _)
  rwa [List.take_length] at this
theorem upd_wfa (h : Wfa l) : Wfa (l.map (updF f g t n)) := fun i hi => by
  rw [List.length_map] at hi
  rw [upd_getD hi, upd_fr, upd_to, upd_prof]
  exact h i hi
end

end Go.Proofs.YtegpebnkogjadaaDoor.T

