/-
  DERIVED. Earliest arrivals: the places settled in the order of their arrivals, and the arcs improved again and again, give the same list.
-/
import Derived.Test.YtegpebnkogjadaaDoorRefNet6
namespace Go.Proofs.YtegpebnkogjadaaDoor.T

/-! ### arrivals never fall -/
theorem slowS_mono : ∀ (l : List (Int × Int)) {s t : Int}, (∀ k, k < l.length → 0 ≤ (l.getD k (0, 0)).2 ∧ (l.getD k (0, 0)).2 ≤ 4096) → s ≤ t → slowS l s ≤ slowS l t
  | [], _, _, _, _ => Int.le_refl _
  | p :: l, s, t, h, hst => by
    have h0 := h 0 (by simp)
    simp only [List.getD_cons_zero] at h0
    have := slowS_mono l (s := s) (t := t) (fun k hk => by have := h (k + 1) (by simpa using hk); simpa using this) hst
    show (if p.1 ≤ s then p.2 else 0) + slowS l s ≤ (if p.1 ≤ t then p.2 else 0) + slowS l t
    split <;> split <;> omega
theorem arrA_mono {np : Nat} {a : ArcT} (h : ArcOk np a) {s t : Int} (hst : s ≤ t) : arrA a s ≤ arrA a t := by
  have h1 := arr_le h.tr hst
  have h2 := slowS_mono a.sl (fun k hk => (slowB_tick (h.slow k hk)).2) hst
  unfold arrA
  omega

/-! ### one arc for a way -/
theorem find_once {pl : List ByteArray} {l : List ArcT} (hN : NetOk pl l) {a : ArcT} (ha : a ∈ l) : findA l a.prof a.fr a.to = some a := by
  obtain ⟨i, hi, rfl⟩ := List.mem_iff_getElem.1 ha
  have e0 : l.getD i arc0 = l[i] := by rw [List.getD_eq_getElem?_getD, List.getElem?_eq_getElem hi]; rfl
  have h1 := hN.once i hi
  rw [e0] at h1
  unfold findA
  rw [List.find?_eq_some_iff_getElem]
  refine ⟨by unfold hitB; simp, i, hi, rfl, fun j hj => ?_⟩
  unfold twiceB at h1
  rw [List.any_eq_false] at h1
  have h2 := h1 l[j] (List.mem_take_iff_getElem.2 ⟨j, by omega, rfl⟩)
  unfold likeB at h2
  unfold hitB
  simp only [Bool.and_eq_true, decide_eq_true_eq] at h2
  simp only [Bool.not_eq_true', Bool.and_eq_false_iff, decide_eq_false_iff_not]
  by_cases e1 : l[j].fr = l[i].fr
  · by_cases e2 : l[j].to = l[i].to
    · exact .inr (fun e3 => h2 ⟨⟨e1.symm, e2.symm⟩, e3.symm⟩)
    · exact .inl (.inr e2)
  · exact .inl (.inl e1)

/-! ### ways -/
/-- a way of n arcs arrives at p at x -/
inductive Rch (l : List ArcT) (pr : Int) (f : Nat) (t : Int) : Nat → Nat → Int → Prop
  | here : Rch l pr f t 0 f t
  | step {n u : Nat} {x : Int} (a : ArcT) : Rch l pr f t n u x → a ∈ l → a.prof = pr → a.fr.toNat = u → Rch l pr f t (n + 1) a.to.toNat (arrA a x)
theorem rch_ge {pl : List ByteArray} {l : List ArcT} (hN : NetOk pl l) {pr : Int} {f : Nat} {t : Int} (ht : 0 ≤ t) {n p : Nat} {x : Int} (h : Rch l pr f t n p x) : t ≤ x ∧ x ≤ t + 73728 * n := by
  induction h with
  | here => omega
  | step a h ha _ _ ih =>
    have := arrA_bd (hN.mem ha) (t := _) (Int.le_trans ht ih.1)
    omega
theorem rch_lt {pl : List ByteArray} {l : List ArcT} (hN : NetOk pl l) {pr : Int} {f : Nat} {t : Int} (hf : f < pl.length) {n p : Nat} {x : Int} (h : Rch l pr f t n p x) : p < pl.length := by
  cases h with
  | here => exact hf
  | step a h ha _ _ => have := (hN.mem ha).to; omega

/-! ### the specification's list -/
theorem getD_set_same {d : List Int} {k : Nat} {x : Int} (h : k < d.length) : (d.set k x).getD k 0 = x := by
  rw [List.getD_eq_getElem?_getD, List.getElem?_set_self h]; rfl
theorem getD_set_other {d : List Int} {k i : Nat} {x : Int} (h : k ≠ i) : (d.set k x).getD i 0 = d.getD i 0 := by
  rw [List.getD_eq_getElem?_getD, List.getElem?_set_ne h, ← List.getD_eq_getElem?_getD]
/-- what all lists of the specification keep -/
structure Ev (np : Nat) (l : List ArcT) (pr : Int) (f : Nat) (t : Int) (d : List Int) : Prop where
  len : d.length = np
  lo : ∀ p, p < np → -1 ≤ d.getD p 0
  rch : ∀ p, p < np → 0 ≤ d.getD p 0 → ∃ n, Rch l pr f t n p (d.getD p 0)
/-- no place has got worse -/
def Bet (d d' : List Int) : Prop := ∀ p : Nat, 0 ≤ d.getD p 0 → 0 ≤ d'.getD p 0 ∧ d'.getD p 0 ≤ d.getD p 0
theorem Bet.refl (d : List Int) : Bet d d := fun _ h => ⟨h, Int.le_refl _⟩
theorem Bet.trans {d d' d'' : List Int} (h : Bet d d') (h' : Bet d' d'') : Bet d d'' := fun p hp => by
  have h1 := h p hp
  have h2 := h' p h1.1
  exact ⟨h2.1, Int.le_trans h2.2 h1.2⟩
section
variable {pl : List ByteArray} {l : List ArcT} {pr : Int} {f : Nat} {t : Int}
theorem stpE_bet {d : List Int} {a : ArcT} (hok : ArcOk pl.length a) (hl : d.length = pl.length) : Bet d (stpE pr d a) := by
  intro p hp
  unfold stpE
  split
  · rename_i h
    have hb := arrA_bd hok h.2
    split
    · rename_i h2
      by_cases e : a.to.toNat = p
      · subst e
        rw [getD_set_same (by have := hok.to; omega)]
        rcases h2 with h2 | h2 <;> omega
      · rw [getD_set_other e]; omega
    · omega
  · omega
theorem stpE_ev {d : List Int} {a : ArcT} (hN : NetOk pl l) (ha : a ∈ l) (hE : Ev pl.length l pr f t d) : Ev pl.length l pr f t (stpE pr d a) := by
  have hok := hN.mem ha
  unfold stpE
  split
  · rename_i h
    have hb := arrA_bd hok h.2
    have hto := hok.to
    have hfr := hok.fr
    split
    · refine ⟨by rw [List.length_set]; exact hE.len, fun p hp => ?_, fun p hp h0 => ?_⟩
      · by_cases e : a.to.toNat = p
        · subst e
          rw [getD_set_same (by have := hE.len; omega)]
          omega
        · rw [getD_set_other e]; exact hE.lo p hp
      · by_cases e : a.to.toNat = p
        · subst e
          rw [getD_set_same (by have := hE.len; omega)]
          obtain ⟨n, hn⟩ := hE.rch a.fr.toNat (by omega) h.2
          exact ⟨n + 1, .step a hn ha h.1 rfl⟩
        · rw [getD_set_other e] at h0 ⊢; exact hE.rch p hp h0
    · exact hE
  · exact hE
theorem rndE_ev {d : List Int} (hN : NetOk pl l) (hE : Ev pl.length l pr f t d) : ∀ k, k ≤ l.length → Ev pl.length l pr f t (rndE pr l d k)
  | 0, _ => hE
  | k + 1, h => by
    rw [rndE_succ (by omega)]
    exact stpE_ev hN (getD_mem (by omega)) (rndE_ev hN hE k (by omega))
theorem rndE_bet {d : List Int} (hN : NetOk pl l) (hE : Ev pl.length l pr f t d) (j : Nat) : ∀ k, j + k ≤ l.length → Bet (rndE pr l d j) (rndE pr l d (j + k))
  | 0, _ => Bet.refl _
  | k + 1, h => by
    rw [← Nat.add_assoc, rndE_succ (by omega)]
    exact (rndE_bet hN hE j k (by omega)).trans (stpE_bet (hN.mem (getD_mem (by omega))) (rndE_ev hN hE (j + k) (by omega)).len)
/-- a round improves over each arc -/
theorem rndE_arc {d : List Int} (hN : NetOk pl l) (hE : Ev pl.length l pr f t d) {a : ArcT} (ha : a ∈ l) (hp : a.prof = pr) {x : Int} (h0 : 0 ≤ d.getD a.fr.toNat 0) (hx : d.getD a.fr.toNat 0 ≤ x) :
    0 ≤ (rndE pr l d l.length).getD a.to.toNat 0 ∧ (rndE pr l d l.length).getD a.to.toNat 0 ≤ arrA a x := by
  obtain ⟨i, hi, rfl⟩ := List.mem_iff_getElem.1 ha
  have e0 : l.getD i arc0 = l[i] := by rw [List.getD_eq_getElem?_getD, List.getElem?_eq_getElem hi]; rfl
  have hok := hN.mem ha
  have h1 := rndE_bet (d := d) hN hE 0 i (by omega) l[i].fr.toNat h0
  rw [Nat.zero_add] at h1
  have hm := rndE_ev hN hE i (by omega)
  have h1' : (rndE pr l d i).getD l[i].fr.toNat 0 ≤ x := Int.le_trans h1.2 hx
  have h2 : 0 ≤ (rndE pr l d (i + 1)).getD l[i].to.toNat 0 ∧ (rndE pr l d (i + 1)).getD l[i].to.toNat 0 ≤ arrA l[i] x := by
    rw [rndE_succ hi, e0]
    have hmo := arrA_mono hok h1'
    have hb := arrA_bd hok h1.1
    unfold stpE
    rw [if_pos ⟨hp, h1.1⟩]
    have hto := hok.to
    split
    · rw [getD_set_same (by have := hm.len; omega)]
      omega
    · rename_i h3
      omega
  have h3 := rndE_bet (d := d) hN hE (i + 1) (l.length - (i + 1)) (by omega) l[i].to.toNat h2.1
  rw [show i + 1 + (l.length - (i + 1)) = l.length by omega] at h3
  exact ⟨h3.1, Int.le_trans h3.2 h2.2⟩
theorem iniE_at (f t : Int) {np k : Nat} (h : k < np) : (iniE f t np).getD k 0 = if (k : Int) = f then t else -1 := by
  unfold iniE
  rw [List.getD_eq_getElem?_getD, List.getElem?_map, List.getElem?_range h]; rfl
theorem earE_ev (hN : NetOk pl l) (ht : 0 ≤ t) : ∀ r, Ev pl.length l pr f t (earE pr l (iniE f t pl.length) r)
  | 0 => by
    refine ⟨iniE_len _ _ _, fun p hp => ?_, fun p hp h0 => ?_⟩
    · show -1 ≤ (iniE f t pl.length).getD p 0
      rw [iniE_at _ _ hp]; split <;> omega
    · have h0 : 0 ≤ (iniE f t pl.length).getD p 0 := h0
      show ∃ n, Rch l pr f t n p ((iniE f t pl.length).getD p 0)
      rw [iniE_at _ _ hp] at h0 ⊢
      split at h0
      · rename_i e
        have : p = f := by omega
        subst this
        rw [if_pos rfl]
        exact ⟨0, .here⟩
      · omega
  | r + 1 => rndE_ev hN (earE_ev hN ht r) _ (Nat.le_refl _)
theorem earE_le (hN : NetOk pl l) (ht : 0 ≤ t) (hf : f < pl.length) : ∀ (r n p : Nat) (x : Int), Rch l pr f t n p x → n ≤ r → 0 ≤ (earE pr l (iniE f t pl.length) r).getD p 0 ∧ (earE pr l (iniE f t pl.length) r).getD p 0 ≤ x
  | 0, n, p, x, h, hn => by
    cases h with
    | here =>
      show 0 ≤ (iniE f t pl.length).getD f 0 ∧ (iniE f t pl.length).getD f 0 ≤ t
      rw [iniE_at _ _ hf, if_pos rfl]; omega
    | step a h ha hp hu => omega
  | r + 1, n, p, x, h, hn => by
    have hE := earE_ev (pr := pr) (f := f) hN ht r
    by_cases e : n ≤ r
    · have h1 := earE_le hN ht hf r n p x h e
      have h2 := rndE_bet hN hE 0 l.length (by omega) p h1.1
      rw [Nat.zero_add] at h2
      exact ⟨h2.1, Int.le_trans h2.2 h1.2⟩
    · cases h with
      | here => omega
      | @step m u y a h ha hp hu =>
        have h1 := earE_le hN ht hf r _ _ _ h (by omega)
        subst hu
        exact rndE_arc hN hE ha hp h1.1 h1.2

/-! ### the places settled one by one -/
def earlier (b n : Int) : Int := if b = -1 then n else if n < b then n else b
def rlx (pr : Int) (l : List ArcT) (u : Nat) (d : List Int) (v : Nat) : List Int :=
  match findA l pr u v with
  | some a => d.set v (earlier (d.getD v 0) (arrA a (d.getD u 0)))
  | none => d
def rlxN (pr : Int) (l : List ArcT) (u : Nat) (d : List Int) : Nat → List Int
  | 0 => d
  | k + 1 => rlx pr l u (rlxN pr l u d k) k
theorem rlx_len (pr : Int) (l : List ArcT) (u : Nat) (d : List Int) (v : Nat) : (rlx pr l u d v).length = d.length := by
  unfold rlx; split <;> simp
theorem rlxN_len (pr : Int) (l : List ArcT) (u : Nat) (d : List Int) : ∀ k, (rlxN pr l u d k).length = d.length
  | 0 => rfl
  | k + 1 => by show (rlx pr l u (rlxN pr l u d k) k).length = _; rw [rlx_len, rlxN_len pr l u d k]
theorem find_self (hN : NetOk pl l) (u : Nat) : findA l pr u u = none := by
  cases h : findA l pr u u with
  | none => rfl
  | some a =>
    obtain ⟨ha, h1, h2, -⟩ := find_mem h
    exact absurd (h1.trans h2.symm) (hN.mem ha).ne
/-- what a place holds behind k steps -/
theorem rlxN_at (hN : NetOk pl l) (u : Nat) (d : List Int) (hl : d.length = pl.length) : ∀ k, k ≤ pl.length → ∀ v, v < pl.length → (rlxN pr l u d k).getD v 0 =
    if v < k then (match findA l pr u v with | some a => earlier (d.getD v 0) (arrA a (d.getD u 0)) | none => d.getD v 0) else d.getD v 0
  | 0, _, v, _ => by rw [if_neg (by omega)]; rfl
  | k + 1, hk, v, hv => by
    have ihu : (rlxN pr l u d k).getD u 0 = d.getD u 0 := by
      by_cases hu : u < pl.length
      · rw [rlxN_at hN u d hl k (by omega) u hu, find_self hN u]; split <;> rfl
      · rw [List.getD_eq_getElem?_getD, List.getD_eq_getElem?_getD, List.getElem?_eq_none (by rw [rlxN_len]; omega), List.getElem?_eq_none (by omega)]
    have ihv := rlxN_at hN u d hl k (by omega) v hv
    show (rlx pr l u (rlxN pr l u d k) k).getD v 0 = _
    unfold rlx
    by_cases e : k = v
    · subst e
      rw [if_neg (by omega)] at ihv
      rw [if_pos (by omega)]
      cases findA l pr u k with
      | none => exact ihv
      | some a => simp only; rw [getD_set_same (by rw [rlxN_len]; omega), ihv, ihu]
    · have h2 : (v < k + 1) = (v < k) := by rw [eq_iff_iff]; omega
      simp only [h2]
      rw [← ihv]
      cases findA l pr u k with
      | none => rfl
      | some a => simp only; rw [getD_set_other e]
/-- what the settling keeps: m places are left -/
structure DI (pl : List ByteArray) (l : List ArcT) (pr : Int) (f : Nat) (t : Int) (d : List Int) (lf : List Bool) (m : Nat) : Prop where
  dl : d.length = pl.length
  ll : lf.length = pl.length
  cnt : lf.count true = m
  lo : ∀ p, p < pl.length → -1 ≤ d.getD p 0
  src : d.getD f 0 = t
  rch : ∀ p, p < pl.length → 0 ≤ d.getD p 0 → ∃ n, Rch l pr f t n p (d.getD p 0) ∧ n ≤ m ∧ (lf.getD p false = true → n < m)
  shut : ∀ u, u < pl.length → lf.getD u false = true → 0 ≤ d.getD u 0 ∧ ∀ a, a ∈ l → a.prof = pr → a.fr.toNat = u → 0 ≤ d.getD a.to.toNat 0 ∧ d.getD a.to.toNat 0 ≤ arrA a (d.getD u 0)
  ord : ∀ u v, u < pl.length → v < pl.length → lf.getD u false = true → lf.getD v false = false → 0 ≤ d.getD v 0 → d.getD u 0 ≤ d.getD v 0
/-- the place that is settled next -/
structure Nx (np : Nat) (d : List Int) (lf : List Bool) (u : Nat) : Prop where
  lt : u < np
  new : lf.getD u false = false
  at_ : 0 ≤ d.getD u 0
  least : ∀ q, q < np → lf.getD q false = false → 0 ≤ d.getD q 0 → d.getD u 0 ≤ d.getD q 0
theorem getD_rep {α : Type} {n k : Nat} {x y : α} (h : k < n) : (List.replicate n x).getD k y = x := by
  rw [List.getD_eq_getElem?_getD, List.getElem?_replicate, if_pos h]; rfl
theorem DI.start (ht : 0 ≤ t) (hf : f < pl.length) : DI pl l pr f t ((List.replicate pl.length (-1)).set f t) (List.replicate pl.length false) 0 := by
  refine ⟨by simp, by simp, by simp [List.count_replicate], fun p hp => ?_, getD_set_same (by simpa using hf), fun p hp h0 => ?_, fun u hu h => ?_, fun u v hu _ h => ?_⟩
  · by_cases e : f = p
    · subst e; rw [getD_set_same (by simpa using hf)]; omega
    · rw [getD_set_other e, getD_rep hp]; omega
  · by_cases e : f = p
    · subst e; rw [getD_set_same (by simpa using hf)]
      refine ⟨0, .here, Nat.le_refl _, fun h => ?_⟩
      rw [getD_rep hp] at h; cases h
    · rw [getD_set_other e, getD_rep hp] at h0; omega
  · rw [getD_rep hu] at h; cases h
  · rw [getD_rep hu] at h; cases h
theorem Nx.start (hf : f < pl.length) (ht : 0 ≤ t) : Nx pl.length ((List.replicate pl.length (-1)).set f t) (List.replicate pl.length false) f := by
  refine ⟨hf, getD_rep hf, by rw [getD_set_same (by simpa using hf)]; exact ht, fun q hq _ h0 => ?_⟩
  by_cases e : f = q
  · subst e; exact Int.le_refl _
  · rw [getD_set_other e, getD_rep hq] at h0; omega
theorem getB_set_same {lf : List Bool} {k : Nat} {x : Bool} (h : k < lf.length) : (lf.set k x).getD k false = x := by
  rw [List.getD_eq_getElem?_getD, List.getElem?_set_self h]; rfl
theorem getB_set_other {lf : List Bool} {k i : Nat} {x : Bool} (h : k ≠ i) : (lf.set k x).getD i false = lf.getD i false := by
  rw [List.getD_eq_getElem?_getD, List.getElem?_set_ne h, ← List.getD_eq_getElem?_getD]
theorem count_set {lf : List Bool} {k : Nat} (h : k < lf.length) (hk : lf.getD k false = false) : (lf.set k true).count true = lf.count true + 1 := by
  have e : lf[k] = false := by rw [List.getD_eq_getElem?_getD, List.getElem?_eq_getElem h] at hk; exact hk
  rw [List.count_set h, e]; simp
theorem DI.round (hN : NetOk pl l) (ht : 0 ≤ t) {d : List Int} {lf : List Bool} {m u : Nat} (h : DI pl l pr f t d lf m) (hf : f < pl.length) (hu : Nx pl.length d lf u) :
    DI pl l pr f t (rlxN pr l u d pl.length) (lf.set u true) (m + 1) := by
  have hat := fun v (hv : v < pl.length) => (rlxN_at (pr := pr) hN u d h.dl pl.length (Nat.le_refl _) v hv).trans (if_pos hv)
  have hll := h.ll
  have huL : u < lf.length := by rw [hll]; exact hu.lt
  -- what a relaxed arc gives
  have hnew : ∀ v a, findA l pr u v = some a → d.getD u 0 ≤ arrA a (d.getD u 0) := fun v a ha => (arrA_bd (hN.mem (find_mem ha).1) hu.at_).1
  have hself : (rlxN pr l u d pl.length).getD u 0 = d.getD u 0 := by rw [hat u hu.lt, find_self hN u]
  -- never worse
  have hbet : ∀ v, v < pl.length → 0 ≤ d.getD v 0 → 0 ≤ (rlxN pr l u d pl.length).getD v 0 ∧ (rlxN pr l u d pl.length).getD v 0 ≤ d.getD v 0 := fun v hv h0 => by
    rw [hat v hv]
    cases ha : findA l pr u v with
    | none => exact ⟨h0, Int.le_refl _⟩
    | some a =>
      have := hnew v a ha
      have := hu.at_
      simp only [earlier]
      rw [if_neg (by omega)]
      split <;> omega
  -- each value is an old one or a new one
  have hval : ∀ v, v < pl.length → (rlxN pr l u d pl.length).getD v 0 = d.getD v 0 ∨ ∃ a, findA l pr u v = some a ∧ (rlxN pr l u d pl.length).getD v 0 = arrA a (d.getD u 0) := fun v hv => by
    rw [hat v hv]
    cases ha : findA l pr u v with
    | none => exact .inl rfl
    | some a =>
      simp only [earlier]
      split
      · exact .inr ⟨a, rfl, rfl⟩
      · split
        · exact .inr ⟨a, rfl, rfl⟩
        · exact .inl rfl
  -- whoever is left keeps its value
  have hkeep : ∀ v, v < pl.length → lf.getD v false = true → (rlxN pr l u d pl.length).getD v 0 = d.getD v 0 := fun v hv hl => by
    have h0 := (h.shut v hv hl).1
    have ho := h.ord v u hv hu.lt hl hu.new hu.at_
    rw [hat v hv]
    cases ha : findA l pr u v with
    | none => rfl
    | some a =>
      have := hnew v a ha
      simp only [earlier]
      rw [if_neg (by omega), if_neg (by omega)]
  have hlf : ∀ v, (lf.set u true).getD v false = true ↔ v = u ∨ lf.getD v false = true := fun v => by
    by_cases e : u = v
    · subst e; rw [getB_set_same huL]; simp
    · rw [getB_set_other e]
      constructor
      · exact .inr
      · rintro (h | h)
        · exact absurd h.symm e
        · exact h
  have hlk : ∀ v, v < pl.length → (v = u ∨ lf.getD v false = true) → (rlxN pr l u d pl.length).getD v 0 = d.getD v 0 := fun v hv hl => by
    rcases hl with rfl | hl
    · exact hself
    · exact hkeep v hv hl
  refine ⟨by rw [rlxN_len, h.dl], by rw [List.length_set, hll], by rw [count_set huL hu.new, h.cnt], fun p hp => ?_, ?_, fun p hp h0 => ?_, fun v hv hl => ?_, fun v q hv hq hl hq2 h0 => ?_⟩
  · rcases hval p hp with e | ⟨a, ha, e⟩
    · rw [e]; exact h.lo p hp
    · rw [e]; have := hnew p a ha; have := hu.at_; omega
  · have h1 := hbet f hf (by rw [h.src]; exact ht)
    rw [h.src] at h1
    rcases hval f hf with e | ⟨a, ha, e⟩
    · rw [e, h.src]
    · obtain ⟨n, hn, -⟩ := h.rch u hu.lt hu.at_
      have := (rch_ge hN ht hn).1
      have := hnew f a ha
      omega
  · by_cases hl : p = u ∨ lf.getD p false = true
    · have e := hlk p hp hl
      rw [e] at h0 ⊢
      obtain ⟨n, hn, hm, hlt⟩ := h.rch p hp h0
      exact ⟨n, hn, by omega, fun _ => by omega⟩
    · rcases hval p hp with e | ⟨a, ha, e⟩
      · rw [e] at h0 ⊢
        obtain ⟨n, hn, hm, hlt⟩ := h.rch p hp h0
        exact ⟨n, hn, by omega, fun _ => by omega⟩
      · rw [e]
        obtain ⟨n, hn, hm, -⟩ := h.rch u hu.lt hu.at_
        obtain ⟨hmem, h1, h2, h3⟩ := find_mem ha
        refine ⟨n + 1, ?_, by omega, fun hl2 => absurd ((hlf p).1 hl2) hl⟩
        have := Rch.step (l := l) (pr := pr) (f := f) (t := t) a hn hmem h3 (by omega)
        rw [h2] at this
        exact this
  · have hl2 := (hlf v).1 hl
    have e := hlk v hv hl2
    have hv0 : 0 ≤ d.getD v 0 := by
      rcases hl2 with rfl | hl2
      · exact hu.at_
      · exact (h.shut v hv hl2).1
    rw [e]
    refine ⟨hv0, fun a ha hp hfr => ?_⟩
    have hok := hN.mem ha
    have hto := hok.to
    have htv : a.to.toNat < pl.length := by omega
    by_cases e2 : v = u
    · subst e2
      have hfd : findA l pr (v : Int) (a.to.toNat : Int) = some a := by
        have := find_once hN ha
        rw [hp] at this
        rw [show (v : Int) = a.fr by have := hok.fr; omega, show (a.to.toNat : Int) = a.to by omega]
        exact this
      rw [hat _ htv, hfd]
      have := hnew _ a hfd
      have := h.lo _ htv
      simp only [earlier]
      split
      · omega
      · split <;> omega
    · have hl3 : lf.getD v false = true := by
        rcases hl2 with h | h
        · exact absurd h e2
        · exact h
      have h1 := (h.shut v hv hl3).2 a ha hp hfr
      have h2 := hbet _ htv h1.1
      omega
  · have hl2 := (hlf v).1 hl
    have hnq : ¬ (q = u ∨ lf.getD q false = true) := fun hh => by
      rw [(hlf q).2 hh] at hq2; cases hq2
    have hqf : lf.getD q false = false := by
      cases hx : lf.getD q false
      · rfl
      · exact absurd (.inr hx) hnq
    rw [hlk v hv hl2]
    have hvu : d.getD v 0 ≤ d.getD u 0 := by
      rcases hl2 with rfl | hl2
      · exact Int.le_refl _
      · exact h.ord v u hv hu.lt hl2 hu.new hu.at_
    rcases hval q hq with e | ⟨a, ha, e⟩
    · rw [e] at h0 ⊢
      have := hu.least q hq hqf h0
      omega
    · rw [e]
      have := hnew q a ha
      omega
theorem count_le (lf : List Bool) : lf.count true ≤ lf.length := List.count_le_length
theorem DI.bound (hN : NetOk pl l) (ht : 0 ≤ t) {d : List Int} {lf : List Bool} {m : Nat} (h : DI pl l pr f t d lf m) : ∀ p, p < pl.length → -1 ≤ d.getD p 0 ∧ d.getD p 0 ≤ t + 73728 * 24 := fun p hp => by
  refine ⟨h.lo p hp, ?_⟩
  by_cases h0 : 0 ≤ d.getD p 0
  · obtain ⟨n, hn, hm, -⟩ := h.rch p hp h0
    have h1 := (rch_ge hN ht hn).2
    have h2 := count_le lf
    rw [h.cnt, h.ll] at h2
    have := hN.places
    omega
  · omega
/-- when all that are reached are left, the list is the specification's -/
theorem DI.done (hN : NetOk pl l) (ht : 0 ≤ t) (hf : f < pl.length) {d : List Int} {lf : List Bool} {m : Nat} (h : DI pl l pr f t d lf m) (hall : ∀ p, p < pl.length → 0 ≤ d.getD p 0 → lf.getD p false = true) :
    d = earL pl.length l pr f t := by
  have hE := earE_ev (pr := pr) (f := f) hN ht pl.length
  have hm : m ≤ pl.length := by
    have := count_le lf
    rw [h.cnt, h.ll] at this; exact this
  -- every way is at least as late
  have hway : ∀ n p x, Rch l pr f t n p x → 0 ≤ d.getD p 0 ∧ d.getD p 0 ≤ x := by
    intro n p x hr
    induction hr with
    | here => rw [h.src]; exact ⟨ht, Int.le_refl _⟩
    | @step n u x a hr ha hp hu ih =>
      have hlu := rch_lt hN hf hr
      have h1 := (h.shut u hlu (hall u hlu ih.1)).2 a ha hp hu
      have h2 := arrA_mono (hN.mem ha) ih.2
      omega
  refine List.ext_getElem (by rw [h.dl]; exact hE.len.symm) fun p h1 h2 => ?_
  have hp : p < pl.length := by rw [← h.dl]; exact h1
  have e1 : d[p] = d.getD p 0 := by rw [List.getD_eq_getElem?_getD, List.getElem?_eq_getElem h1]; rfl
  have e2 : (earL pl.length l pr f t)[p] = (earL pl.length l pr f t).getD p 0 := by rw [List.getD_eq_getElem?_getD, List.getElem?_eq_getElem h2]; rfl
  rw [e1, e2]
  show _ = (earE pr l (iniE f t pl.length) pl.length).getD p 0
  by_cases h0 : 0 ≤ d.getD p 0
  · obtain ⟨n, hn, hnm, -⟩ := h.rch p hp h0
    have h3 := earE_le hN ht hf pl.length n p _ hn (by omega)
    obtain ⟨n', hn'⟩ := hE.rch p hp h3.1
    have h4 := (hway n' p _ hn').2
    omega
  · by_cases h5 : 0 ≤ (earE pr l (iniE f t pl.length) pl.length).getD p 0
    · obtain ⟨n', hn'⟩ := hE.rch p hp h5
      exact absurd (hway n' p _ hn').1 h0
    · have := h.lo p hp
      have := hE.lo p hp
      omega
theorem DI.most {d : List Int} {lf : List Bool} {m : Nat} (h : DI pl l pr f t d lf m) : m ≤ pl.length := by
  have := count_le lf
  rw [h.cnt, h.ll] at this; exact this
theorem DI.room {d : List Int} {lf : List Bool} {m u : Nat} (h : DI pl l pr f t d lf m) (hu : Nx pl.length d lf u) : m < pl.length := by
  have h1 := count_set (lf := lf) (k := u) (by rw [h.ll]; exact hu.lt) hu.new
  have h2 := count_le (lf.set u true)
  rw [List.length_set, h.ll] at h2
  have := h.cnt
  omega
end
/-- from no place nothing is reached -/
theorem earL_out {pl : List ByteArray} {l : List ArcT} (hN : NetOk pl l) {pr f t : Int} (hf : inB pl.length f = false) : earL pl.length l pr f t = List.replicate pl.length (-1) := by
  have hini : iniE f t pl.length = List.replicate pl.length (-1) := by
    refine List.ext_getElem (by rw [iniE_len]; simp) fun p h1 h2 => ?_
    rw [iniE_len] at h1
    have e1 := iniE_at f t h1
    rw [List.getD_eq_getElem?_getD, List.getElem?_eq_getElem (by rw [iniE_len]; exact h1)] at e1
    simp only [Option.getD_some] at e1
    rw [e1, List.getElem_replicate, if_neg]
    intro e
    unfold inB at hf
    simp only [Bool.and_eq_false_iff, decide_eq_false_iff_not] at hf
    omega
  have hst : ∀ a, a ∈ l → stpE pr (List.replicate pl.length (-1)) a = List.replicate pl.length (-1) := fun a ha => by
    unfold stpE
    rw [if_neg]
    rintro ⟨-, h⟩
    rw [getD_rep (by have := (hN.mem ha).fr; omega)] at h
    omega
  have hrd : ∀ k, k ≤ l.length → rndE pr l (List.replicate pl.length (-1)) k = List.replicate pl.length (-1) := by
    intro k
    induction k with
    | zero => intro _; rfl
    | succ k ih => intro h; rw [rndE_succ (by omega), ih (by omega)]; exact hst _ (getD_mem (by omega))
  unfold earL
  rw [hini]
  have : ∀ r, earE pr l (List.replicate pl.length (-1)) r = List.replicate pl.length (-1) := by
    intro r
    induction r with
    | zero => rfl
    | succ r ih => show rndE pr l (earE pr l _ r) l.length = _; rw [ih]; exact hrd _ (Nat.le_refl _)
  exact this _

/-! ### which place comes next -/
def nxt (d : List Int) (lf : List Bool) : Nat → Nat × Bool
  | 0 => (0, false)
  | k + 1 => if d.getD k 0 ≠ -1 ∧ lf.getD k false = false ∧ ((nxt d lf k).2 = false ∨ d.getD k 0 < d.getD (nxt d lf k).1 0) then (k, true) else nxt d lf k
theorem nxt_lt (d : List Int) (lf : List Bool) : ∀ k, 0 < k → (nxt d lf k).1 < k
  | 0, h => absurd h (Nat.lt_irrefl _)
  | k + 1, _ => by
    unfold nxt
    split
    · exact Nat.lt_succ_self k
    · rcases Nat.eq_zero_or_pos k with e | e
      · subst e; exact Nat.lt_succ_self 0
      · have := nxt_lt d lf k e; omega
theorem nxt_no (d : List Int) (lf : List Bool) : ∀ k, (nxt d lf k).2 = false → (nxt d lf k).1 = 0 ∧ ∀ q, q < k → d.getD q 0 ≠ -1 → lf.getD q false = true
  | 0, _ => ⟨rfl, fun q hq => absurd hq (Nat.not_lt_zero _)⟩
  | k + 1, h => by
    unfold nxt at h ⊢
    split at h
    · cases h
    · rename_i hc
      rw [if_neg hc]
      obtain ⟨h1, h2⟩ := nxt_no d lf k h
      refine ⟨h1, fun q hq hd => ?_⟩
      by_cases e : q = k
      · subst e
        cases hb : lf.getD q false
        · exact absurd ⟨hd, hb, .inl h⟩ hc
        · rfl
      · exact h2 q (by omega) hd
theorem nxt_yes (d : List Int) (lf : List Bool) : ∀ k, (nxt d lf k).2 = true → (nxt d lf k).1 < k ∧ lf.getD (nxt d lf k).1 false = false ∧ d.getD (nxt d lf k).1 0 ≠ -1 ∧ ∀ q, q < k → lf.getD q false = false → d.getD q 0 ≠ -1 → d.getD (nxt d lf k).1 0 ≤ d.getD q 0
  | 0, h => by cases h
  | k + 1, h => by
    by_cases hc : d.getD k 0 ≠ -1 ∧ lf.getD k false = false ∧ ((nxt d lf k).2 = false ∨ d.getD k 0 < d.getD (nxt d lf k).1 0)
    · have e : nxt d lf (k + 1) = (k, true) := by show (if _ then _ else _) = _; rw [if_pos hc]
      rw [e]
      refine ⟨Nat.lt_succ_self k, hc.2.1, hc.1, fun q hq hl hd => ?_⟩
      by_cases e : q = k
      · subst e; exact Int.le_refl _
      · rcases hc.2.2 with h2 | h2
        · have := (nxt_no d lf k h2).2 q (by omega) hd
          rw [hl] at this; cases this
        · cases hb : (nxt d lf k).2
          · have := (nxt_no d lf k hb).2 q (by omega) hd
            rw [hl] at this; cases this
          · have := (nxt_yes d lf k hb).2.2.2 q (by omega) hl hd
            show d.getD k 0 ≤ d.getD q 0
            omega
    · have e : nxt d lf (k + 1) = nxt d lf k := by show (if _ then _ else _) = _; rw [if_neg hc]
      rw [e] at h ⊢
      obtain ⟨h1, h2, h3, h4⟩ := nxt_yes d lf k h
      refine ⟨by omega, h2, h3, fun q hq hl hd => ?_⟩
      by_cases e : q = k
      · subst e
        have : ¬ d.getD q 0 < d.getD (nxt d lf q).1 0 := fun h5 => hc ⟨hd, hl, .inr h5⟩
        omega
      · exact h4 q (by omega) hl hd
theorem nxt_nx {np : Nat} {d : List Int} {lf : List Bool} (hlo : ∀ p, p < np → -1 ≤ d.getD p 0) (h : (nxt d lf np).2 = true) : Nx np d lf (nxt d lf np).1 := by
  obtain ⟨h1, h2, h3, h4⟩ := nxt_yes d lf np h
  exact ⟨h1, h2, by have := hlo _ h1; omega, fun q hq hl h0 => h4 q hq hl (by omega)⟩
theorem nxt_all {np : Nat} {d : List Int} {lf : List Bool} (h : (nxt d lf np).2 = false) : ∀ p, p < np → 0 ≤ d.getD p 0 → lf.getD p false = true := fun p hp h0 => (nxt_no d lf np h).2 p hp (by omega)

end Go.Proofs.YtegpebnkogjadaaDoor.T

