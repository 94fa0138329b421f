/-
  DERIVED. Travel functions in plain lists of pairs: arrivals of any list, latest departures, delays, equal arrivals.
-/
import Derived.Test.YtmoilpkgoabopaaDoorTravPure
namespace Go.Proofs.YtmoilpkgoabopaaDoor.T

def dayB (t : Int) : Bool := decide (0 ≤ t) && decide (t ≤ 1073741824)
def arrF (l : List (Int × Int)) (t : Int) : Int := if okB l = true ∧ dayB t = true then arr l t else 0
theorem arrF_yes {l : List (Int × Int)} {t : Int} (h : Ok l) (h0 : 0 ≤ t) (h1 : t ≤ 1073741824) : arrF l t = arr l t := by
  unfold arrF
  rw [if_pos ⟨(okB_iff l).2 h, by unfold dayB; rw [decide_eq_true h0, decide_eq_true h1]; rfl⟩]
theorem arrF_day {l : List (Int × Int)} {t : Int} (h : t < 0 ∨ 1073741824 < t) : arrF l t = 0 := by
  unfold arrF
  rw [if_neg]
  rintro ⟨-, h2⟩
  unfold dayB at h2
  rw [Bool.and_eq_true, decide_eq_true_iff, decide_eq_true_iff] at h2
  omega
theorem arrF_not {l : List (Int × Int)} {t : Int} (h : okB l = false) : arrF l t = 0 := by
  unfold arrF
  rw [if_neg]
  rintro ⟨h2, -⟩
  rw [h] at h2; cases h2
theorem arrF_bounds (l : List (Int × Int)) (t : Int) : 0 ≤ arrF l t ∧ arrF l t ≤ 1073750016 := by
  unfold arrF
  by_cases h : okB l = true ∧ dayB t = true
  · rw [if_pos h]
    have h2 := h.2
    unfold dayB at h2
    rw [Bool.and_eq_true, decide_eq_true_iff, decide_eq_true_iff] at h2
    have := arr_ge ((okB_iff l).1 h.1) h2.1
    omega
  · rw [if_neg h]; omega

/-! ### the latest departure -/
/-- one more than the greatest departure below n with an arrival at a or before; 0: there is none -/
def cntA (l : List (Int × Int)) (a : Int) : Nat → Nat
  | 0 => 0
  | n + 1 => if arr l n ≤ a then n + 1 else cntA l a n
theorem cntA_zero (l : List (Int × Int)) (a : Int) : cntA l a 0 = 0 := rfl
theorem cntA_yes {l : List (Int × Int)} {a : Int} {n : Nat} (h : arr l n ≤ a) : cntA l a (n + 1) = n + 1 := if_pos h
theorem cntA_no {l : List (Int × Int)} {a : Int} {n : Nat} (h : ¬ arr l n ≤ a) : cntA l a (n + 1) = cntA l a n := if_neg h
theorem cntA_le (l : List (Int × Int)) (a : Int) : ∀ n, cntA l a n ≤ n
  | 0 => Nat.le_refl _
  | n + 1 => by
    by_cases h : arr l n ≤ a
    · rw [cntA_yes h]; exact Nat.le_refl _
    · rw [cntA_no h]; exact Nat.le_succ_of_le (cntA_le l a n)
theorem cntA_iff {l : List (Int × Int)} (h : Ok l) (a : Int) : ∀ (n t : Nat), t < n → (t < cntA l a n ↔ arr l t ≤ a)
  | 0, t, ht => absurd ht (Nat.not_lt_zero _)
  | n + 1, t, ht => by
    by_cases h1 : arr l n ≤ a
    · rw [cntA_yes h1]
      have := arr_le h (s := t) (t := n) (by omega)
      exact ⟨fun _ => by omega, fun _ => ht⟩
    · rw [cntA_no h1]
      by_cases e : t = n
      · subst e
        have := cntA_le l a t
        exact ⟨fun h => by omega, fun h => absurd h h1⟩
      · exact cntA_iff h a n t (by omega)
def cntF (l : List (Int × Int)) (a : Int) : Nat := if okB l = true then cntA l a 4097 else 0
def latN (c : Nat) : Int := if c = 0 then 0 else (c : Int) - 1
def latB (c : Nat) : Bool := if c = 0 then false else true
theorem latN_zero : latN 0 = 0 := rfl
theorem latB_zero : latB 0 = false := rfl
theorem latN_succ (c : Nat) : latN (c + 1) = c := by unfold latN; rw [if_neg (by omega)]; omega
theorem latB_succ (c : Nat) : latB (c + 1) = true := by unfold latB; rw [if_neg (by omega)]
theorem cntF_le (l : List (Int × Int)) (a : Int) : cntF l a ≤ 4097 := by
  unfold cntF; split
  · exact cntA_le _ _ _
  · omega

/-! ### equal arrivals -/
def eqN (a b : List (Int × Int)) : Nat → Bool
  | 0 => true
  | k + 1 => eqN a b k && decide (arr a k = arr b k)
theorem eqN_zero (a b : List (Int × Int)) : eqN a b 0 = true := rfl
theorem eqN_succ (a b : List (Int × Int)) (k : Nat) : eqN a b (k + 1) = (eqN a b k && decide (arr a k = arr b k)) := rfl
theorem eqN_false {a b : List (Int × Int)} {k : Nat} (h : arr a k ≠ arr b k) : ∀ n, k < n → eqN a b n = false
  | 0, hk => absurd hk (Nat.not_lt_zero _)
  | n + 1, hk => by
    rw [eqN_succ]
    by_cases e : k = n
    · subst e; rw [decide_eq_false h, Bool.and_false]
    · rw [eqN_false h n (by omega), Bool.false_and]
theorem eqN_true {a b : List (Int × Int)} : ∀ {n : Nat}, eqN a b n = true → ∀ k, k < n → arr a k = arr b k
  | 0, _, k, hk => absurd hk (Nat.not_lt_zero _)
  | n + 1, h, k, hk => by
    rw [eqN_succ, Bool.and_eq_true, decide_eq_true_iff] at h
    by_cases e : k = n
    · subst e; exact h.2
    · exact eqN_true h.1 k (by omega)
theorem eqN_symm (a b : List (Int × Int)) : ∀ n, eqN a b n = eqN b a n
  | 0 => rfl
  | n + 1 => by
    rw [eqN_succ, eqN_succ, eqN_symm a b n]
    congr 1
    rw [Bool.eq_iff_iff, decide_eq_true_iff, decide_eq_true_iff]
    exact eq_comm
theorem eqN_refl (a : List (Int × Int)) : ∀ n, eqN a a n = true
  | 0 => rfl
  | n + 1 => by rw [eqN_succ, eqN_refl a n]; simp
def sameB (a b : List (Int × Int)) : Bool := okB a && (okB b && eqN a b 4097)
theorem sameB_symm (a b : List (Int × Int)) : sameB a b = sameB b a := by
  unfold sameB
  rw [eqN_symm a b]
  cases okB a <;> cases okB b <;> simp
theorem sameB_refl (a : List (Int × Int)) : sameB a a = okB a := by
  unfold sameB
  rw [eqN_refl]
  cases okB a <;> simp
theorem sameB_at {a b : List (Int × Int)} (h : sameB a b = true) {t : Int} (h0 : 0 ≤ t) (h1 : t ≤ 4096) : arrF a t = arrF b t := by
  unfold sameB at h
  rw [Bool.and_eq_true, Bool.and_eq_true] at h
  obtain ⟨n, rfl⟩ := Int.eq_ofNat_of_zero_le h0
  rw [arrF_yes ((okB_iff a).1 h.1) (by omega) (by omega), arrF_yes ((okB_iff b).1 h.2.1) (by omega) (by omega)]
  exact eqN_true h.2.2 n (by omega)

/-! ### delays -/
def befB (f : Int) (p : Int × Int) : Bool := decide (p.1 < f - 1)
def aftB (f : Int) (p : Int × Int) : Bool := decide (f < p.1)
def addN (n : Int) (p : Int × Int) : Int × Int := (p.1, p.2 + n)
def sBef (l : List (Int × Int)) (f : Int) (k : Nat) : List (Int × Int) := (l.take k).filter (befB f)
def sAft (l : List (Int × Int)) (f n : Int) (k : Nat) : List (Int × Int) := ((l.take k).filter (aftB f)).map (addN n)
def sOne (l : List (Int × Int)) (f : Int) : List (Int × Int) := if 0 < f then [(f - 1, arr l (f - 1))] else []
def sMid (l : List (Int × Int)) (f n : Int) : List (Int × Int) := sBef l f l.length ++ sOne l f ++ [(f, arr l f + n)]
def slow (l : List (Int × Int)) (f n : Int) : List (Int × Int) := sMid l f n ++ sAft l f n l.length
theorem sBef_yes {l : List (Int × Int)} {f : Int} {k : Nat} (hk : k < l.length) (h : (l.getD k (0, 0)).1 < f - 1) : sBef l f (k + 1) = sBef l f k ++ [l.getD k (0, 0)] := by
  unfold sBef
  rw [take_more (d := (0, 0)) hk, List.filter_append]
  congr 1
  generalize l.getD k (0, 0) = q at *
  have : befB f q = true := decide_eq_true h
  simp [this]
theorem sBef_no {l : List (Int × Int)} {f : Int} {k : Nat} (hk : k < l.length) (h : ¬ (l.getD k (0, 0)).1 < f - 1) : sBef l f (k + 1) = sBef l f k := by
  unfold sBef
  rw [take_more (d := (0, 0)) hk, List.filter_append]
  generalize l.getD k (0, 0) = q at *
  have : befB f q = false := decide_eq_false h
  simp [this]
theorem sAft_yes {l : List (Int × Int)} {f n : Int} {k : Nat} (hk : k < l.length) (h : f < (l.getD k (0, 0)).1) : sAft l f n (k + 1) = sAft l f n k ++ [addN n (l.getD k (0, 0))] := by
  unfold sAft
  rw [take_more (d := (0, 0)) hk, List.filter_append, List.map_append]
  congr 1
  generalize l.getD k (0, 0) = q at *
  have : aftB f q = true := decide_eq_true h
  simp [this]
theorem sAft_no {l : List (Int × Int)} {f n : Int} {k : Nat} (hk : k < l.length) (h : ¬ f < (l.getD k (0, 0)).1) : sAft l f n (k + 1) = sAft l f n k := by
  unfold sAft
  rw [take_more (d := (0, 0)) hk, List.filter_append, List.map_append]
  generalize l.getD k (0, 0) = q at *
  have : aftB f q = false := decide_eq_false h
  simp [this]
theorem sBef_len (l : List (Int × Int)) (f : Int) (k : Nat) : (sBef l f k).length ≤ k := by
  unfold sBef
  have := List.length_filter_le (befB f) (l.take k)
  rw [List.length_take] at this
  omega
theorem sAft_len (l : List (Int × Int)) (f n : Int) (k : Nat) : (sAft l f n k).length ≤ k := by
  unfold sAft
  rw [List.length_map]
  have := List.length_filter_le (aftB f) (l.take k)
  rw [List.length_take] at this
  omega
theorem sOne_len (l : List (Int × Int)) (f : Int) : (sOne l f).length ≤ 1 := by unfold sOne; split <;> simp
theorem sMid_len (l : List (Int × Int)) (f n : Int) : (sMid l f n).length ≤ l.length + 2 := by
  unfold sMid
  rw [List.length_append, List.length_append]
  have := sBef_len l f l.length
  have := sOne_len l f
  simp; omega
/-- the new arrival -/
def newA (l : List (Int × Int)) (f n t : Int) : Int := arr l t + (if f ≤ t then n else 0)
section
variable {l : List (Int × Int)} (h : Ok l) {f n : Int} (hf0 : 0 ≤ f) (hf1 : f ≤ 4096) (hn : 0 ≤ n)
include h hf0 hf1
theorem slow_mem : ∀ x ∈ slow l f n, 0 ≤ x.1 ∧ x.1 ≤ 4096 ∧ x.2 = newA l f n x.1 := by
  intro x hx
  unfold slow sMid sBef sAft sOne at hx
  rw [List.take_length, List.mem_append, List.mem_append, List.mem_append] at hx
  unfold newA
  rcases hx with ((hx | hx) | hx) | hx
  · rw [List.mem_filter] at hx
    have h1 := h.good hx.1
    have h2 : x.1 < f - 1 := of_decide_eq_true hx.2
    unfold good at h1
    rw [if_neg (by omega), arr_mem h hx.1]
    omega
  · split at hx
    · simp only [List.mem_singleton] at hx
      subst hx
      simp only
      rw [if_neg (by omega)]
      omega
    · simp at hx
  · simp only [List.mem_singleton] at hx
    subst hx
    simp only
    rw [if_pos (Int.le_refl _)]
    omega
  · rw [List.mem_map] at hx
    obtain ⟨y, hy, rfl⟩ := hx
    rw [List.mem_filter] at hy
    have h1 := h.good hy.1
    have h2 : f < y.1 := of_decide_eq_true hy.2
    unfold good at h1
    unfold addN
    simp only
    rw [if_pos (by omega), arr_mem h hy.1]
    omega
omit hf0 hf1 in
theorem slow_asc : (slow l f n).Pairwise (fun a b => a.1 < b.1) := by
  unfold slow sMid sBef sAft sOne
  rw [List.take_length]
  refine List.pairwise_append.2 ⟨List.pairwise_append.2 ⟨List.pairwise_append.2 ⟨h.asc.filter _, ?_, ?_⟩, List.pairwise_singleton _ _, ?_⟩, ?_, ?_⟩
  · split <;> simp
  · intro a ha b hb
    have h2 : a.1 < f - 1 := of_decide_eq_true (List.mem_filter.1 ha).2
    split at hb
    · simp only [List.mem_singleton] at hb
      subst hb; exact h2
    · simp at hb
  · intro a ha b hb
    simp only [List.mem_singleton] at hb
    subst hb
    simp only
    rcases List.mem_append.1 ha with ha | ha
    · have h2 : a.1 < f - 1 := of_decide_eq_true (List.mem_filter.1 ha).2
      omega
    · split at ha
      · simp only [List.mem_singleton] at ha
        subst ha; simp only; omega
      · simp at ha
  · rw [List.pairwise_map]
    exact h.asc.filter _
  · intro a ha b hb
    obtain ⟨y, hy, rfl⟩ := List.mem_map.1 hb
    have h3 : f < y.1 := of_decide_eq_true (List.mem_filter.1 hy).2
    show a.1 < y.1
    rcases List.mem_append.1 ha with ha | ha
    · rcases List.mem_append.1 ha with ha | ha
      · have h2 : a.1 < f - 1 := of_decide_eq_true (List.mem_filter.1 ha).2
        omega
      · split at ha
        · simp only [List.mem_singleton] at ha
          subst ha; simp only; omega
        · simp at ha
    · simp only [List.mem_singleton] at ha
      subst ha; exact h3
include hn
omit hf0 hf1 in
theorem newA_le {s t : Int} (hst : s ≤ t) : newA l f n s ≤ newA l f n t := by
  unfold newA
  have := arr_le h hst
  split <;> split <;> omega
theorem slow_okB (hlen : (slow l f n).length ≤ 16) : okB (slow l f n) = !(slow l f n).any longB := by
  have hm := slow_mem h hf0 hf1 (n := n)
  have ha := slow_asc h (f := f) (n := n)
  have hp : ∀ x ∈ slow l f n, pointB x = !longB x := by
    intro x hx
    obtain ⟨h0, h1, h2⟩ := hm x hx
    have h3 := arr_ge h h0
    have h4 : x.1 ≤ x.2 := by rw [h2]; unfold newA; split <;> omega
    unfold pointB tickB
    rw [decide_eq_true h0, decide_eq_true h1, decide_eq_true h4]; rfl
  have h1 : 1 ≤ (slow l f n).length := by unfold slow sMid; simp; omega
  have hbf : ∀ i, i + 1 < (slow l f n).length → beforeB ((slow l f n).getD i (0, 0)) ((slow l f n).getD (i + 1) (0, 0)) = true := by
    intro i hi
    have h5 : ((slow l f n).getD i (0, 0)).1 < ((slow l f n).getD (i + 1) (0, 0)).1 := by
      have := List.pairwise_iff_getElem.1 ha i (i + 1) (by omega) hi (by omega)
      rw [List.getD_eq_getElem?_getD, List.getD_eq_getElem?_getD, List.getElem?_eq_getElem (by omega), List.getElem?_eq_getElem hi]
      exact this
    obtain ⟨_, _, e1⟩ := hm _ (getD_mem (d := (0, 0)) (show i < (slow l f n).length by omega))
    obtain ⟨_, _, e2⟩ := hm _ (getD_mem (d := (0, 0)) hi)
    rw [beforeB_iff]
    refine ⟨h5, ?_⟩
    rw [e1, e2]
    exact newA_le h hn (Int.le_of_lt h5)
  generalize slow l f n = S at *
  cases hany : S.any longB
  · have : Ok S := ⟨h1, hlen, fun i hi => by
      have hx := getD_mem (d := (0, 0)) hi
      rw [hp _ hx]
      cases e : longB (S.getD i (0, 0))
      · rfl
      · exact absurd (List.any_eq_true.2 ⟨_, hx, e⟩) (by rw [hany]; simp), hbf⟩
    exact (okB_iff S).2 this
  · refine okB_false fun hok => ?_
    obtain ⟨x, hx, hl⟩ := List.any_eq_true.1 hany
    obtain ⟨i, hi, he⟩ := List.getElem_of_mem hx
    have := hok.each i hi
    rw [List.getD_eq_getElem?_getD, List.getElem?_eq_getElem hi] at this
    simp only [Option.getD_some, he] at this
    rw [hp x hx, hl] at this
    cases this
end
/-- what Slower answers -/
def slowE (l : List (Int × Int)) (f n : Int) : Int :=
  if okB l = true ∧ tickB f = true ∧ tickB n = true then (if 16 < (slow l f n).length then 4 else if (slow l f n).any longB = true then 2 else 0) else 2
def slowL (l : List (Int × Int)) (f n : Int) : List (Int × Int) := if slowE l f n = 0 then slow l f n else []
theorem slowE_arg {l : List (Int × Int)} {f n : Int} (h : ¬ (okB l = true ∧ tickB f = true ∧ tickB n = true)) : slowE l f n = 2 := by unfold slowE; rw [if_neg h]
theorem slowE_size {l : List (Int × Int)} {f n : Int} (h : okB l = true ∧ tickB f = true ∧ tickB n = true) (h2 : 16 < (slow l f n).length) : slowE l f n = 4 := by unfold slowE; rw [if_pos h, if_pos h2]
theorem slowE_long {l : List (Int × Int)} {f n : Int} (h : okB l = true ∧ tickB f = true ∧ tickB n = true) (h2 : ¬ 16 < (slow l f n).length) (h3 : (slow l f n).any longB = true) : slowE l f n = 2 := by unfold slowE; rw [if_pos h, if_neg h2, if_pos h3]
theorem slowE_ok {l : List (Int × Int)} {f n : Int} (h : okB l = true ∧ tickB f = true ∧ tickB n = true) (h2 : ¬ 16 < (slow l f n).length) (h3 : (slow l f n).any longB = false) : slowE l f n = 0 := by unfold slowE; rw [if_pos h, if_neg h2, if_neg (by rw [h3]; simp)]
theorem slowL_no {l : List (Int × Int)} {f n x : Int} (h : slowE l f n = x) (hx : x ≠ 0) : slowL l f n = [] := by unfold slowL; rw [if_neg (by omega)]
theorem slowL_ok {l : List (Int × Int)} {f n : Int} (h : slowE l f n = 0) : slowL l f n = slow l f n := by unfold slowL; rw [if_pos h]
theorem tickB_iff (t : Int) : tickB t = true ↔ 0 ≤ t ∧ t ≤ 4096 := by unfold tickB; simp
/-- what is said of a delayed function -/
theorem slow_said {l : List (Int × Int)} {f n : Int} (h : slowE l f n = 0) : Ok l ∧ (0 ≤ f ∧ f ≤ 4096) ∧ (0 ≤ n ∧ n ≤ 4096) ∧ okB (slow l f n) = true ∧ (slow l f n).length ≤ 16 := by
  unfold slowE at h
  by_cases h1 : okB l = true ∧ tickB f = true ∧ tickB n = true
  · rw [if_pos h1] at h
    have hl := (okB_iff l).1 h1.1
    have hf := (tickB_iff f).1 h1.2.1
    have hn := (tickB_iff n).1 h1.2.2
    by_cases h2 : 16 < (slow l f n).length
    · rw [if_pos h2] at h; omega
    · rw [if_neg h2] at h
      by_cases h3 : (slow l f n).any longB = true
      · rw [if_pos h3] at h; omega
      · refine ⟨hl, hf, hn, ?_, by omega⟩
        rw [slow_okB hl hf.1 hf.2 hn.1 (by omega)]
        simpa using h3
  · rw [if_neg h1] at h; omega

end Go.Proofs.YtmoilpkgoabopaaDoor.T

