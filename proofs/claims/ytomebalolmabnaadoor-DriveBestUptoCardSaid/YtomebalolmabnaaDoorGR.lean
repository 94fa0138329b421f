/-
  DERIVED. GR: a part of the base of layer 13 (made by pack.py).
-/
import Derived.Test.YtomebalolmabnaaDoorGA
import Derived.Test.YtomebalolmabnaaDoorGQ
/-! The lists of rests follow each other; the first of least end is what is answered. -/
namespace Go.Proofs.YtomebalolmabnaaDoor.T
open Go.RowKit
set_option maxRecDepth 8000

def ChnT {α : Type} (nx : α → Option α) (e : Option α) : List α → Prop
 | [] => False
 | [a] => nx a = e
 | a :: b :: L => nx a = some b ∧ ChnT nx e (b :: L)
theorem ChnT.app {α : Type} {nx : α → Option α} {e : Option α} {b : α} {M : List α} (hM : ChnT nx e (b :: M)) : ∀ {L : List α}, ChnT nx (some b) L → ChnT nx e (L ++ b :: M)
 | [], h => absurd h id
 | [_], h => ⟨h, hM⟩
 | _ :: c :: L, h => ⟨h.1, ChnT.app hM (L := c :: L) h.2⟩
theorem ChnT.map {nx nx' : List Bool → Option (List Bool)} {e : Option (List Bool)} {r : Bool} : ∀ {L : List (List Bool)}, (∀ s ∈ L, ∀ s', nx s = some s' → nx' (r :: s) = some (r :: s')) → (∀ s ∈ L, nx s = none → nx' (r :: s) = e) → ChnT nx none L → ChnT nx' e (L.map (r :: ·))
 | [], _, _, h => absurd h id
 | [s], _, h2, h => h2 s (by simp) h
 | s :: c :: L, h1, h2, h => ⟨h1 s (by simp) c h.1, ChnT.map (L := c :: L) (fun q hq => h1 q (by simp only [List.mem_cons] at hq ⊢; exact .inr hq)) (fun q hq => h2 q (by simp only [List.mem_cons] at hq ⊢; exact .inr hq)) h.2⟩
def nxI (f : Nat) (R : List Bool) : Nat → Option (List Bool)
 | 0 => none
 | j + 1 => if j < f then none else if R.getD j false = false then some (R.take j ++ true :: List.replicate (R.length - (j + 1)) false) else nxI f R j
theorem nxI_cons (f : Nat) (b : Bool) (s : List Bool) : ∀ j, j ≤ s.length → nxI f (b :: s) (j + 1) = match nxI (f - 1) s j with | some s' => some (b :: s') | none => if 0 < f then none else if b = false then some (true :: List.replicate s.length false) else none
 | 0, _ => by
  show (if 0 < f then none else if b = false then some ([] ++ true :: List.replicate ((b :: s).length - (0 + 1)) false) else none) = _
  rfl
 | j + 1, hj => by
  show (if j + 1 < f then none else if (b :: s).getD (j + 1) false = false then some ((b :: s).take (j + 1) ++ true :: List.replicate ((b :: s).length - (j + 1 + 1)) false) else nxI f (b :: s) (j + 1)) = _
  rw [nxI_cons f b s j (by omega)]
  have e : (b :: s).getD (j + 1) false = s.getD j false := rfl
  show _ = match (if j < f - 1 then none else if s.getD j false = false then some (s.take j ++ true :: List.replicate (s.length - (j + 1)) false) else nxI (f - 1) s j) with | some s' => some (b :: s') | none => if 0 < f then none else if b = false then some (true :: List.replicate s.length false) else none
  by_cases h1 : j + 1 < f
  ·rw [if_pos h1, if_pos (show j < f - 1 by omega)]
   show none = if 0 < f then none else _
   rw [if_pos (by omega)]
  ·rw [if_neg h1, if_neg (show ¬ j < f - 1 by omega), e]
   by_cases h2 : s.getD j false = false
   ·rw [if_pos h2, if_pos h2]
    show some (b :: s.take j ++ true :: List.replicate (s.length + 1 - (j + 1 + 1)) false) = some (b :: (s.take j ++ true :: List.replicate (s.length - (j + 1)) false))
    rw [show s.length + 1 - (j + 1 + 1) = s.length - (j + 1) by omega]
    rfl
   ·rw [if_neg h2, if_neg h2]
namespace CrT
def hd (F : List Bool) (m k : Nat) : List Bool := F.drop k ++ List.replicate (m - (F.length - k)) false
theorem hd_zero (F : List Bool) (m : Nat) : hd F m 0 = bs0 F m := by unfold hd bs0; rw [List.drop_zero, Nat.sub_zero]
theorem hd_fix {F : List Bool} {m k : Nat} (hk : k < F.length) : hd F (m + 1) k = F.getD k false :: hd F m (k + 1) := by
 unfold hd
 rw [List.drop_eq_getElem_cons hk, List.getD_eq_getElem?_getD, List.getElem?_eq_getElem hk, show m + 1 - (F.length - k) = m - (F.length - (k + 1)) by omega]
 rfl
theorem hd_free {F : List Bool} {m k : Nat} (hk : ¬ k < F.length) : hd F m k = List.replicate m false := by
 unfold hd
 rw [List.drop_eq_nil_of_le (by omega), show F.length - k = 0 by omega]
 rfl
theorem ls_succ_fix {F : List Bool} {m k : Nat} (hk : k < F.length) : ls F (m + 1) k = (ls F m (k + 1)).map (F.getD k false :: ·) := by
 show (opts F k).flatMap (fun r => (ls F m (k + 1)).map (r :: ·)) = _
 unfold opts
 rw [if_pos hk]
 simp
theorem ls_succ_free {F : List Bool} {m k : Nat} (hk : ¬ k < F.length) : ls F (m + 1) k = (ls F m (k + 1)).map (false :: ·) ++ (ls F m (k + 1)).map (true :: ·) := by
 show (opts F k).flatMap (fun r => (ls F m (k + 1)).map (r :: ·)) = _
 unfold opts
 rw [if_neg hk]
 simp
theorem ls_hd (F : List Bool) : ∀ (m k : Nat), F.length - k ≤ m → ∃ L, ls F m k = hd F m k :: L
 | 0, k, h => ⟨[], by
   show [[]] = [hd F 0 k]
   rw [hd_free (by omega)]
   rfl⟩
 | m + 1, k, h => by
  obtain ⟨L, hL⟩ := ls_hd F m (k + 1) (by omega)
  by_cases hk : k < F.length
  ·rw [ls_succ_fix hk, hL, hd_fix hk]
   exact ⟨_, rfl⟩
  ·rw [ls_succ_free hk, hL, hd_free hk, hd_free (by omega)]
   exact ⟨_, rfl⟩
theorem ls_chn (F : List Bool) : ∀ (m k : Nat), ChnT (fun s => nxI (F.length - k) s m) none (ls F m k)
 | 0, _ => rfl
 | m + 1, k => by
  have ih := ls_chn F m (k + 1)
  have hlen := ls_len F m (k + 1)
  have hnx : ∀ (b : Bool) (s : List Bool), s ∈ ls F m (k + 1) → nxI (F.length - k) (b :: s) (m + 1) = match nxI (F.length - (k + 1)) s m with | some s' => some (b :: s') | none => if 0 < F.length - k then none else if b = false then some (true :: List.replicate m false) else none := fun b s hs => by
   have hs := hlen s hs
   rw [nxI_cons _ b s m (by omega), hs, show F.length - k - 1 = F.length - (k + 1) by omega]
  by_cases hk : k < F.length
  ·rw [ls_succ_fix hk]
   exact ChnT.map (fun s hs s' h => by rw [hnx _ s hs, h]) (fun s hs h => by rw [hnx _ s hs, h]; show (if 0 < F.length - k then none else _) = none; rw [if_pos (by omega)]) ih
  ·rw [ls_succ_free hk]
   obtain ⟨L, hL⟩ := ls_hd F m (k + 1) (by omega)
   have h1 : ChnT (fun s => nxI (F.length - k) s (m + 1)) (some (true :: hd F m (k + 1))) ((ls F m (k + 1)).map (false :: ·)) :=
    ChnT.map (fun s hs s' h => by rw [hnx _ s hs, h]) (fun s hs h => by
     rw [hnx _ s hs, h, hd_free (by omega)]
     show (if 0 < F.length - k then none else if false = false then some (true :: List.replicate m false) else none) = _
     rw [if_neg (by omega), if_pos rfl]) ih
   have h2 : ChnT (fun s => nxI (F.length - k) s (m + 1)) none ((ls F m (k + 1)).map (true :: ·)) :=
    ChnT.map (fun s hs s' h => by rw [hnx _ s hs, h]) (fun s hs h => by
     rw [hnx _ s hs, h]
     show (if 0 < F.length - k then none else if true = false then some (true :: List.replicate m false) else none) = _
     rw [if_neg (by omega), if_neg (by decide)]) ih
   rw [hL] at h2 ⊢
   rw [hL] at h1
   exact ChnT.app h2 h1
theorem ls_fol (F : List Bool) : ∀ (m k : Nat), ∀ s ∈ ls F m k, ∀ i, i < m → k + i < F.length → s.getD i false = F.getD (k + i) false
 | 0, _, _, _, i, h, _ => absurd h (Nat.not_lt_zero i)
 | m + 1, k, s, hs, i, hi, hk => by
  rw [ls_succ_fix (by omega)] at hs
  obtain ⟨q, hq, rfl⟩ := List.mem_map.1 hs
  match i with
  | 0 => rfl
  | i + 1 =>
   have h := ls_fol F m (k + 1) q hq i (by omega) (by omega)
   rw [show k + (i + 1) = k + 1 + i by omega]
   exact h
theorem en_run {c : CrT} {R : List Bool} (hR : R.length = c.n) : ∀ (m k : Nat), k + m = c.n → c.en (R.drop k) k (c.dn R k).1 (c.dn R k).2 = (c.dn R c.n).1
 | 0, k, hk => by
  rw [List.drop_eq_nil_of_le (by omega), show k = c.n by omega]
  rfl
 | m + 1, k, hk => by
  have e : R.drop k = R.getD k false :: R.drop (k + 1) := by
   rw [List.drop_eq_getElem_cons (by omega), List.getD_eq_getElem?_getD, List.getElem?_eq_getElem (by omega)]
   rfl
  rw [e]
  exact en_run hR m (k + 1) (by omega)
theorem fe_run {c : CrT} {R : List Bool} (hR : R.length = c.n) : ∀ (m k : Nat), k + m = c.n → c.run R k = 0 → (c.fe (R.drop k) k (c.dn R k).1 (c.dn R k).2 = decide (c.run R c.n = 0)) ∧ c.en (R.drop k) k (c.dn R k).1 (c.dn R k).2 = (c.dn R c.n).1
 | 0, k, hk, h0 => by
  rw [List.drop_eq_nil_of_le (by omega)]
  have e : k = c.n := by omega
  subst e
  exact ⟨by show true = _; rw [h0]; rfl, rfl⟩
 | m + 1, k, hk, h0 => by
  have e : R.drop k = R.getD k false :: R.drop (k + 1) := by
   rw [List.drop_eq_getElem_cons (by omega), List.getD_eq_getElem?_getD, List.getElem?_eq_getElem (by omega)]
   rfl
  rw [e]
  constructor
  ·show (decide (c.er R k = 0) && c.fe (R.drop (k + 1)) (k + 1) (c.dn R (k + 1)).1 (c.dn R (k + 1)).2) = _
   by_cases h1 : c.er R k = 0
   ·have h2 : c.run R (k + 1) = 0 := by rw [run_succ, if_neg (fun h => h h0)]; exact h1
    rw [(fe_run hR m (k + 1) (by omega) h2).1, h1]
    rfl
   ·rw [run_stop h0 h1 c.n (by omega), decide_eq_false h1]
    rfl
  ·show c.en (R.drop (k + 1)) (k + 1) (c.dn R (k + 1)).1 (c.dn R (k + 1)).2 = _
   exact en_run hR m (k + 1) (by omega)
end CrT
theorem minL_cong {ok ok' : List Bool → Bool} {en en' : List Bool → Int} : ∀ {L : List (List Bool)} (acc : Option (List Bool)), (∀ r ∈ L, ok r = ok' r) → (∀ r ∈ L, ok r = true → en r = en' r) → (∀ a, acc = some a → en a = en' a) → L.foldl (mstep ok en) acc = L.foldl (mstep ok' en') acc
 | [], _, _, _, _ => rfl
 | r :: L, acc, h1, h2, h3 => by
  have e : mstep ok en acc r = mstep ok' en' acc r ∧ ∀ a, mstep ok en acc r = some a → en a = en' a := by
   unfold mstep
   rw [← h1 r (by simp)]
   by_cases h : ok r = true
   ·rw [if_pos h, if_pos h]
    have er := h2 r (by simp) h
    cases acc with
    | none => exact ⟨rfl, fun a ha => by cases ha; exact er⟩
    | some b =>
     have eb := h3 b rfl
     show (if en r < en b then some r else some b) = (if en' r < en' b then some r else some b) ∧ ∀ a, (if en r < en b then some r else some b) = some a → en a = en' a
     rw [er, eb]
     refine ⟨rfl, fun a ha => ?_⟩
     split at ha <;> cases ha
     ·exact er
     ·exact eb
   ·rw [if_neg h, if_neg h]
    exact ⟨rfl, h3⟩
  show L.foldl (mstep ok en) (mstep ok en acc r) = L.foldl (mstep ok' en') (mstep ok' en' acc r)
  rw [← e.1]
  exact minL_cong _ (fun q hq => h1 q (by simp [hq])) (fun q hq => h2 q (by simp [hq])) e.2
theorem minL_first {ok : List Bool → Bool} {en : List Bool → Int} {b : List Bool} : ∀ {L : List (List Bool)}, (∀ r ∈ L, ok r = true → en b ≤ en r) → L.foldl (mstep ok en) (some b) = some b
 | [], _ => rfl
 | r :: L, h => by
  have e : mstep ok en (some b) r = some b := by
   unfold mstep
   split
   ·rename_i h1
    have := h r (by simp) h1
    show (if en r < en b then some r else some b) = some b
    rw [if_neg (by omega)]
   ·rfl
  show L.foldl (mstep ok en) (mstep ok en (some b) r) = _
  rw [e]
  exact minL_first (fun q hq => h q (by simp [hq]))
theorem best_all {x : InT} (hin : inF x = []) (hal : x.al.length ≤ 1000000) {ty st : Int} {l : List (Int × Bool)} {F : List Bool} (hp : posD x.tl x.ol ty st l = true) (hF : F.length ≤ l.length + 1) :
  match minL (fun R => decide (runE x ty st l R = 0)) (fun R => (runS x ty st l R).e) (CrT.ls F (l.length + 1) 0) with
  | some r => bestE x ty st l F = 0 ∧ bestS x ty st l F = runS x ty st l r
  | none => bestE x ty st l F = runE x ty st l (bs0 F (l.length + 1)) ∧ bestS x ty st l F = sh0 := by
 have hc := crs_ok hin hal hp
 have hn9 := crs_n x ty st l
 have hne := hc.net
 have hrs := hc.rst.1
 have hE := bestE_yes (F := F) hp hF
 have hmem := CrT.ls_len F (l.length + 1) 0
 have hrun : ∀ R : List Bool, R.length = l.length + 1 → runE x ty st l R = (crs x ty st l).run R (crs x ty st l).n := fun R h => runE_yes hp h
 obtain ⟨L, hL⟩ := CrT.ls_hd F (l.length + 1) 0 (by omega)
 rw [CrT.hd_zero] at hL
 have hb0 := bs0_len (F := F) (N := l.length + 1) hF
 have hsh : ∀ R : List Bool, R.length = l.length + 1 → runE x ty st l R = 0 → runS x ty st l R = (crs x ty st l).sheet R := fun R _ h0 => (runS_is h0).1
 -- when the last way is done
 have hd : ∀ R : List Bool, R.length = l.length + 1 → runE x ty st l R = 0 → (runS x ty st l R).e = ((crs x ty st l).dn R (crs x ty st l).n).1 := fun R hR h0 => by
  rw [hsh R hR h0]
  have h1 : ((crs x ty st l).dn R (l.length + 1)).1 = ((crs x ty st l).lg R l.length).beg + ((crs x ty st l).S.getD (l.length + 1) st0).s := rfl
  have h9 := CrT.lg_ok hc (Nat.le_refl _) ((hrun R hR).symm.trans h0) (show l.length < (crs x ty st l).n by omega)
  have hdb := CrT.dn_bd hc (R := R) l.length (by omega) (CrT.run_le ((hrun R hR).symm.trans h0) (by omega))
  have hgd := CrT.gD_bd hc (R.getD l.length false) ⟨hdb.1, hdb.2.1⟩
  have h10 : 0 ≤ ((crs x ty st l).lg R l.length).dep := hgd.1
  have h11 := h9.2.2.1
  show ((crs x ty st l).lg R ((crs x ty st l).n - 1)).arr = _
  rw [show (crs x ty st l).n - 1 = l.length by omega, show (crs x ty st l).n = l.length + 1 from hn9, h1, beg_is, crs_endS']
  show _ = (if ((crs x ty st l).lg R l.length).arr < 0 then 0 else ((crs x ty st l).lg R l.length).arr) + 0
  rw [if_neg (by omega)]
  omega
 have hfe : ∀ R : List Bool, R.length = l.length + 1 → (crs x ty st l).fe R 0 (crs x ty st l).rd 0 = decide (runE x ty st l R = 0) ∧ (crs x ty st l).en R 0 (crs x ty st l).rd 0 = ((crs x ty st l).dn R (crs x ty st l).n).1 := fun R hR => by
  have h := CrT.fe_run (c := crs x ty st l) (R := R) (by omega) (crs x ty st l).n 0 (by omega) rfl
  rw [List.drop_zero] at h
  exact ⟨by rw [hrun R hR]; exact h.1, h.2⟩
 have hmin : minL (fun R => decide (runE x ty st l R = 0)) (fun R => (runS x ty st l R).e) (CrT.ls F (l.length + 1) 0) = if ((crs x ty st l).best F (crs x ty st l).n 0 (crs x ty st l).rd 0).p = true then some ((crs x ty st l).fnd F) else none := by
  have h1 := (CrT.min_best hne hrs (F := F) (crs x ty st l).n 0 (crs x ty st l).rd 0).1
  show _ = if _ then some ((crs x ty st l).wy F (crs x ty st l).n 0 (crs x ty st l).rd 0) else none
  rw [← h1, hn9]
  exact minL_cong none (fun R hR => (hfe R (hmem R hR)).1.symm) (fun R hR h0 => (hd R (hmem R hR) (of_decide_eq_true h0)).trans (hfe R (hmem R hR)).2.symm) (fun a ha => by cases ha)
 by_cases h0 : runE x ty st l (bs0 F (l.length + 1)) = 0
 ·have hr0 := (hrun _ hb0).symm.trans h0
  have hm : minL (fun R => decide (runE x ty st l R = 0)) (fun R => (runS x ty st l R).e) (CrT.ls F (l.length + 1) 0) = some (bs0 F (l.length + 1)) := by
   rw [hL]
   show L.foldl _ (mstep _ _ none _) = _
   have e : mstep (fun R => decide (runE x ty st l R = 0)) (fun R => (runS x ty st l R).e) none (bs0 F (l.length + 1)) = some (bs0 F (l.length + 1)) := by
    unfold mstep
    rw [if_pos (decide_eq_true h0)]
    rfl
   rw [e]
   refine minL_first fun R hR hk => ?_
   have hRl := hmem R (by rw [hL]; simp [hR])
   have hk := of_decide_eq_true hk
   show (runS x ty st l (bs0 F (l.length + 1))).e ≤ (runS x ty st l R).e
   rw [hd _ hb0 h0, hd _ hRl hk]
   refine CrT.dn_le hne hrs (fun i hi => ?_) _
   rw [bs0_at] at hi
   split at hi
   ·rename_i h1
    rw [CrT.ls_fol F (l.length + 1) 0 R (by rw [hL]; simp [hR]) i (by omega) (by omega), Nat.zero_add]
    exact hi
   ·cases hi
  rw [hm]
  have hB : (crs x ty st l).bsR F = bs0 F (l.length + 1) := by
   unfold CrT.bsR
   rw [hn9, if_neg (fun h => by rw [← hn9] at h; rw [show (crs x ty st l).run (bs0 F (crs x ty st l).n) (crs x ty st l).n = 0 by rw [← hr0, hn9]] at h; cases h.1)]
  have h9 : bestE x ty st l F = 0 := by rw [hE, hB]; exact hr0
  exact ⟨h9, by unfold bestS; rw [if_pos h9, hB, hsh _ hb0 h0]⟩
 ·have hr0 : ¬ (crs x ty st l).run (bs0 F (crs x ty st l).n) (crs x ty st l).n = 0 := by rw [hn9, ← hn9, ← hrun _ (by rw [bs0_len (by omega)]; exact hn9)]; rw [hn9]; exact h0
  rw [hmin]
  by_cases hpp : ((crs x ty st l).best F (crs x ty st l).n 0 (crs x ty st l).rd 0).p = true
  ·rw [if_pos hpp]
   have hfp := CrT.fnd_p hpp (Nat.le_refl _)
   have hfl : ((crs x ty st l).fnd F).length = l.length + 1 := (CrT.fnd_len _ _).trans hn9
   have hf0 : runE x ty st l ((crs x ty st l).fnd F) = 0 := (hrun _ hfl).trans hfp.1
   have hfix := CrT.fnd_fix hpp (show F.length ≤ (crs x ty st l).n by omega)
   have hbe := best_first hin hal (F := F) (R := (crs x ty st l).fnd F) (by omega) (fun i hi => by
    have h5 : (((crs x ty st l).fnd F).take F.length)[i]? = F[i]? := by rw [hfix]
    rw [List.getElem?_take_of_lt hi] at h5
    rw [List.getD_eq_getElem?_getD, List.getD_eq_getElem?_getD, h5]) hf0
   have hB : (crs x ty st l).bsR F = (crs x ty st l).fnd F := by
    by_cases h16 : (crs x ty st l).run (bs0 F (crs x ty st l).n) (crs x ty st l).n = 16
    ·exact if_pos ⟨h16, hpp⟩
    ·have h1 : (crs x ty st l).bsR F = bs0 F (crs x ty st l).n := if_neg (fun h => h16 h.1)
     have h2 := hbe.1
     rw [hE, h1] at h2
     exact absurd h2 hr0
   exact ⟨hbe.1, by unfold bestS; rw [if_pos hbe.1, hB, hsh _ hfl hf0]⟩
  ·rw [if_neg hpp]
   have hB : (crs x ty st l).bsR F = bs0 F (crs x ty st l).n := if_neg (fun h => hpp h.2)
   have h9 : bestE x ty st l F = runE x ty st l (bs0 F (l.length + 1)) := by rw [hE, hB, hrun _ hb0, hn9]
   exact ⟨h9, by unfold bestS; rw [if_neg (by rw [h9]; exact h0)]⟩
end Go.Proofs.YtomebalolmabnaaDoor.T



/-! Own lists with room behind them: whole lists that are appended, single cells that are written. -/
namespace Go.Proofs.YtomebalolmabnaaDoor.T
open Go.RowKit
set_option maxRecDepth 8000

section
variable {α : Type} {E : α → List Value} {e : TypeId} {sz B : Nat} {w w' : World} {L : List α} {v : Value}
theorem flat_get (hr : Row E sz) (hsz : 0 < sz) (d : α) {L : List α} {j : Nat} {u : Value} (h : (L.flatMap E)[j]? = some u) : j / sz < L.length ∧ (E (L.getD (j / sz) d))[j % sz]? = some u := by
 have hj : j < L.length * sz := by have := (List.getElem?_eq_some_iff.1 h).1; rw [hr.flen] at this; exact this
 have h1 : j / sz < L.length := (Nat.div_lt_iff_lt_mul hsz).2 hj
 refine ⟨h1, ?_⟩
 have h2 := hr.at_ d L (j / sz) (j % sz) h1 (Nat.mod_lt _ hsz)
 rw [show j / sz * sz + j % sz = j by rw [Nat.mul_comm]; exact Nat.div_add_mod j sz] at h2
 rw [← h2]; exact h
theorem ap_all {P : Program} {t ty : TypeId} {z : Value} {bytes : Nat} (hr : Row E sz) (d : α) (ht : P.underlying t = some (.slice e)) (hinfo : (P.info? e).map (fun i => (i.zero, i.size, i.bytes)) = some (some z, sz, bytes)) (hz : z.cells.size = sz) (hsz : 0 < sz) (hb1 : bytes ≤ 1000) {b q c : Nat} {a : Addr} {M : List α} (hv : Ol E e sz B w v L) (hM : Rw w b q sz (fun k => E (M.getD k d)) M.length (some a)) (hB : B ≤ w.heap.size) (hn : L.length + M.length ≤ 1000000) :
  ∃ v' w', (Builtin.append_ #[t, t] ty #[v, .slice (some a) M.length c]).run P w = .ok v' w' ∧ Ol E e sz B w' v' (L ++ M) ∧ Below B w w' ∧ w.grownBy w' v.ownBlock ∧ (v'.ownBlock = v.ownBlock ∨ v'.ownBlock = some w.heap.size) := by
 obtain ⟨i, hi, hzz⟩ := Option.map_eq_some_iff.1 hinfo
 simp only [Prod.mk.injEq] at hzz
 obtain ⟨h1, h2, h3⟩ := hzz
 have hb9 : (L.length + M.length) * bytes ≤ 140737488355328 := Nat.le_trans (Nat.mul_le_mul hn hb1) (by decide)
 obtain ⟨v', w', g1, g2, g3, -, g5⟩ := run_append_own_at (P := P) w B t ty e i z sz bytes ht hi h1 h2 h3 hz hsz v L.length (L.flatMap E) hv a M.length c (M.flatMap E) (hr.flen M) (fun j u hj => by
  obtain ⟨hk, hu⟩ := flat_get hr hsz d hj
  have h8 := hM.cell hk (j % sz) hu
  obtain rfl : a = ⟨b, q, none⟩ := Option.some.inj (hM.oa hk)
  have h7 : (⟨b, q, none⟩ : Addr).add j = ⟨b, q + j / sz * sz + j % sz, none⟩ := by
   have h6 : j / sz * sz + j % sz = j := by rw [Nat.mul_comm]; exact Nat.div_add_mod j sz
   unfold Addr.add
   split
   ·rename_i h5; simp only [Addr.mk.injEq, and_true, true_and]; omega
   ·simp only [Addr.mk.injEq, and_true, true_and]; omega
  rw [h7]; exact h8) (fun u hu => by
  obtain ⟨x, -, hx⟩ := List.mem_flatMap.1 hu
  exact hr.one x u hx) (by unfold maxLen; omega) hb9 hB
 refine ⟨v', w', g1, ?_, ⟨g3.os, g3.tape, g3.output, g3.size, fun k hk => g3.block k (by omega) (fun e9 => by have := hv.blk e9.symm; omega)⟩, g3, g5⟩
 unfold Ol
 rw [List.length_append, List.flatMap_append]
 exact g2
theorem Ol.oz (h : Ol E e sz B w v L) (hne : 0 < L.length) : ∃ g c Z, v = .slice (some ⟨g, 0, none⟩) L.length c ∧ B ≤ g ∧ Cb w g (L.flatMap E ++ Z).toArray e := by
 rcases h.2 with ⟨-, h0⟩ | ⟨g, cap, cur, e9, hb, hg, -, -, -, ht⟩
 ·omega
 ·refine ⟨g, cap, cur.toList.drop (L.length * sz), e9, hb, ?_⟩
  have h1 : L.flatMap E ++ cur.toList.drop (L.length * sz) = cur.toList := by
   rw [← ht]
   exact List.take_append_drop _ _
  rw [h1]
  exact hg
theorem oz_at (hr : Row E sz) (d : α) {Z : List Value} {L : List α} {k j : Nat} (hk : k < L.length) (hj : j < sz) : (L.flatMap E ++ Z).toArray[k * sz + j]? = (E (L.getD k d))[j]? := by
 rw [List.getElem?_toArray, List.getElem?_append_left (by rw [hr.flen]; have := Nat.mul_le_mul_right sz (show k + 1 ≤ L.length by omega); rw [Nat.add_mul] at this; omega)]
 exact hr.at_ d L k j hk hj
theorem set_flat (hr : Row E sz) (d : α) {x : α} {u : Value} {j : Nat} (hj : j < sz) : ∀ (L : List α) (k : Nat), k < L.length → E x = (E (L.getD k d)).set j u → (L.flatMap E).set (k * sz + j) u = (L.set k x).flatMap E
 | [], _, h, _ => absurd h (Nat.not_lt_zero _)
 | y :: L, 0, _, hx => by
  rw [List.flatMap_cons, Nat.zero_mul, Nat.zero_add, List.set_append_left _ _ (by rw [hr.len]; exact hj), List.set_cons_zero, List.flatMap_cons, hx]
  rfl
 | y :: L, k + 1, hk, hx => by
  rw [List.flatMap_cons, List.set_append_right _ _ (by rw [hr.len, Nat.add_mul]; omega), hr.len, show (k + 1) * sz + j - sz = k * sz + j by rw [Nat.add_mul]; omega, set_flat hr d hj L k (by simpa using hk) hx, List.set_cons_succ, List.flatMap_cons]
theorem oz_set (hr : Row E sz) (d : α) {Z : List Value} {t : TypeId} {g : Nat} {L : List α} {x : α} {u : Value} {k j : Nat} (h : Cb w g (L.flatMap E ++ Z).toArray t) (hk : k < L.length) (hj : j < sz) (hx : E x = (E (L.getD k d)).set j u) : Cb (w.setCell ⟨g, k * sz + j, none⟩ u) g ((L.set k x).flatMap E ++ Z).toArray t := by
 have h1 := h.set (k * sz + j) u
 have h2 : (L.flatMap E ++ Z).toArray.setIfInBounds (k * sz + j) u = ((L.set k x).flatMap E ++ Z).toArray := by
  apply Array.toList_inj.1
  rw [Array.toList_setIfInBounds]
  show (L.flatMap E ++ Z).set (k * sz + j) u = _
  rw [List.set_append_left _ _ (by rw [hr.flen]; have := Nat.mul_le_mul_right sz (show k + 1 ≤ L.length by omega); rw [Nat.add_mul] at this; omega), set_flat hr d hj L k hk hx]
 rw [h2] at h1
 exact h1
theorem oz_rw (hr : Row E sz) (d : α) {Z : List Value} {t : TypeId} {g : Nat} {L : List α} (h : Cb w g (L.flatMap E ++ Z).toArray t) : Rw w g 0 sz (fun k => E (L.getD k d)) L.length (some ⟨g, 0, none⟩) := fun k hk => ⟨rfl, h.lt, fun j u hj => by
 have hjs : j < sz := by have := (List.getElem?_eq_some_iff.1 hj).1; rw [hr.len] at this; exact this
 rw [Nat.zero_add]
 exact h.cell _ (by rw [oz_at hr d hk hjs]; exact hj)⟩
end
end Go.Proofs.YtomebalolmabnaaDoor.T



/-! The specification of schedules: next (by gen_ge.py). -/
namespace Go.Proofs.YtomebalolmabnaaDoor.T
open Go.RowKit
set_option maxRecDepth 8000
attribute [local irreducible] wpList Code.wp wpAnyH

theorem nxI_no {f : Nat} {R : List Bool} : ∀ {j : Nat}, j ≤ f → nxI f R j = none
 | 0, _ => rfl
 | j + 1, h => by show (if j < f then none else _) = none; rw [if_pos (by omega)]
def clr (R : List Bool) (j : Nat) : List Bool := R.take j ++ List.replicate (R.length - j) false
theorem clr_len {R : List Bool} {j : Nat} (h : j ≤ R.length) : (clr R j).length = R.length := by unfold clr; rw [List.length_append, List.length_take, List.length_replicate]; omega
theorem clr_all (R : List Bool) : clr R R.length = R := by unfold clr; simp
theorem clr_at {R : List Bool} {i : Nat} (h : i < R.length) : (clr R (i + 1)).getD i false = R.getD i false := by
 unfold clr
 rw [List.getD_eq_getElem?_getD, List.getElem?_append_left (by rw [List.length_take]; omega), List.getElem?_take_of_lt (by omega), List.getD_eq_getElem?_getD]
theorem clr_set {R : List Bool} {i : Nat} (h : i < R.length) (b : Bool) : (clr R (i + 1)).set i b = R.take i ++ b :: List.replicate (R.length - (i + 1)) false := by
 unfold clr
 have e : R.take (i + 1) = R.take i ++ [R.getD i false] := by
  rw [List.take_add_one, List.getElem?_eq_getElem h, List.getD_eq_getElem?_getD, List.getElem?_eq_getElem h]
  rfl
 rw [e, List.append_assoc, List.set_append_right _ _ (by rw [List.length_take]; omega), List.length_take, show i - min i R.length = 0 by omega]
 rfl
theorem clr_less {R : List Bool} {i : Nat} (h : i < R.length) : (clr R (i + 1)).set i false = clr R i := by
 rw [clr_set h]
 unfold clr
 rw [show R.length - i = (R.length - (i + 1)) + 1 by omega, List.replicate_succ]
theorem nxI_len {f : Nat} {R R' : List Bool} : ∀ {j : Nat}, j ≤ R.length → nxI f R j = some R' → R'.length = R.length
 | 0, _, h => by cases h
 | j + 1, hj, h => by
  unfold nxI at h
  split at h
  ·cases h
  ·split at h
   ·cases h
    rw [List.length_append, List.length_take, List.length_cons, List.length_replicate]; omega
   ·exact nxI_len (by omega) h
theorem refNext_n (R : List Bool) (hR0 : 0 < R.length) (hRl : R.length ≤ 100000) (f : Nat) (cR bR qR : Nat) (w : World) (hR : Rw w bR qR 1 (bF R) R.length (some ⟨bR, qR, none⟩)) : Calls Tryd.prog 34 #[.slice (some ⟨bR, qR, none⟩) R.length cR, .int .i64 ((f : Nat) : Int)] w fun e w' => ((∃ R' bN cN, nxI f R R.length = some R' ∧ e = .returned (.tuple #[.slice (some ⟨bN, 0, none⟩) R.length cN, .bool true]) ∧ Rw w' bN 0 1 (bF R') R.length (some ⟨bN, 0, none⟩) ∧ w.heap.size ≤ bN) ∨ (nxI f R R.length = none ∧ e = .returned (.tuple #[.slice none 0 0, .bool false]))) ∧ Below w.heap.size w w' := by
 have HB : Below w.heap.size w w := Below.refl _ _
 refine sx_enter Tryd.func34 rfl [(0, .slice (some ⟨bR, qR, none⟩) R.length cR), (1, .int .i64 ((f : Nat) : Int))] (by kernel_rfl) ?_
 refine wp_seq (wp_region_lit ?_)
 refine Zv rfl (.slice none 0 0) ?_
 refine Zv rfl (.bool false) ?_
 refine wpList_nil (sx_norm (wp_seq (wp_region_lit ?_)))
 refine Zv rfl (.slice none 0 0) ?_
 refine wpList_nil (sx_norm (wp_seq (wp_region_lit ?_)))
 refine Zv rfl (.slice none 0 0) ?_
 refine Zv rfl (.slice (some ⟨bR, qR, none⟩) R.length cR) ?_
 obtain ⟨v9, W1, h9, hg9, hb, -, -⟩ := ap_all (P := Tryd.prog) (t := 31) (ty := 31) (z := .bool false) (bytes := 1) (c := cR) boRow false Tryd.underlying31 (by kernel_rfl) rfl (by decide) (by decide) (Ol.nil (E := boE) (e := 4) (sz := 1) (B := w.heap.size) (w := w) ) (hR.below HB) (by omega) (by show 0 + R.length ≤ _; omega)
 refine sx_mem (by kernel_rfl) rfl rfl v9 W1 (ex_append rfl (by kernel_rfl) (by kernel_rfl) h9) ?_
 replace HB := HB.trans (hb.mono (by omega))
 have z1 := hb.size
 rw [List.nil_append] at hg9
 obtain ⟨bN, cN, Z, e9, hbN, NT⟩ := Ol.oz hg9 hR0
 subst e9
 clear hg9 hb h9
 have yNT := NT.lt
 rw [← clr_all R] at NT
 refine Zv rfl (.slice (some ⟨bN, 0, none⟩) R.length cN) ?_
 refine wpList_nil (sx_norm (wp_seq (wp_seq (wp_region_lit ?_))))
 refine Zv rfl (.slice (some ⟨bN, 0, none⟩) R.length cN) ?_
 refine Zv rfl (.int .i64 ((R.length : Nat) : Int)) ?_
 refine sx_int (by kernel_rfl) rfl rfl .i64 (IntKind.i64.wrap (((R.length : Nat) : Int) - 1)) ((((R.length : Nat) : Int) - 1)) (by kernel_rfl) (by rw [IntKind.wrap_i64]; omega) ?_
 refine Zv rfl (.int .i64 (((R.length : Nat) : Int) - 1)) ?_
 refine wpList_nil (sx_norm (wp_block ?_))
 have yw0 := HB.size
 refine sx_loop (fun x9 : Nat × Int => [(0, .slice (some ⟨bR, qR, none⟩) R.length cR), (1, .int .i64 ((f : Nat) : Int)), (6, .slice (some ⟨bN, 0, none⟩) R.length cN), (7, .int .i64 x9.2), (8, .slice none 0 0), (9, .slice (some ⟨bR, qR, none⟩) R.length cR), (10, .slice (some ⟨bN, 0, none⟩) R.length cN), (11, .slice (some ⟨bN, 0, none⟩) R.length cN), (12, .int .i64 ((R.length : Nat) : Int)), (13, .int .i64 (((R.length : Nat) : Int) - 1))]) (fun gg x9 wr => x9.2 = (x9.1 : Int) - 1 ∧ x9.1 ≤ R.length ∧ x9.1 ≤ gg ∧ nxI f R R.length = nxI f R x9.1 ∧ Cb wr bN ((clr R x9.1).flatMap boE ++ Z).toArray 4 ∧ Below w.heap.size w wr) (R.length) ((R.length, ((R.length : Nat) : Int) - 1)) (by kernel_rfl) ⟨rfl, Nat.le_refl _, Nat.le_refl _, rfl, NT, HB⟩ ?_
 rintro gg ⟨j, z⟩ g' wr2 ⟨hz, hj, hg, hnx, NT, HB⟩
 dsimp only at hz hj hg hnx NT HB
 have yNT := NT.lt
 have zwb := HB.size
 refine wp_seq (wp_seq (wp_region_lit ?_))
 refine Zv rfl (.int .i64 z) ?_
 refine Zv rfl (.int .i64 ((f : Nat) : Int)) ?_
 by_cases C1 : z ≥ ((f : Nat) : Int)
 ·refine Zb rfl (decide (z ≥ ((f : Nat) : Int))) true (decide_eq_true (by omega)) ?_
  refine wpList_nil (sx_norm ?_)
  refine sx_true (by kernel_rfl) ?_
  refine wp_skip (sx_norm (wp_seq (wp_block (wp_seq (wp_seq ?_)))))
  obtain ⟨i, rfl⟩ : ∃ i, j = i + 1 := ⟨j - 1, by omega⟩
  obtain rfl : z = ((i : Nat) : Int) := by omega
  have hXl := clr_len (R := R) (j := i + 1) (by omega)
  refine wp_region_lit ?_
  refine Zv rfl (.slice (some ⟨bN, 0, none⟩) R.length cN) ?_
  refine Zv rfl (.int .i64 ((i : Nat) : Int)) ?_
  refine Zw rfl (.pointer (some ⟨bN, (i * 1 + 0), none⟩)) (ex_index rfl bN 0 R.length cN i 1 (i * 1 + 0) (by kernel_rfl) (by kernel_rfl) Tryd.underlying31 (by kernel_rfl) (by omega) (by omega)) ?_
  have hcl := oz_at boRow false (Z := Z) (L := clr R (i + 1)) (k := i) (j := 0) (by omega) (by decide)
  rw [clr_at (by omega)] at hcl
  by_cases C2 : (R.getD i false) = true
  ·refine Zw rfl (.bool true) (ex_load1 (v := .bool true) rfl (NT.cell _ (by rw [hcl, show (R.getD i false) = true by simpa using C2]; rfl)) (by kernel_rfl) Tryd.underlying4 rfl) ?_
   refine Zv rfl (.bool false) ?_
   refine wpList_nil (sx_norm ?_)
   refine sx_false (by kernel_rfl) ?_
   refine wp_skip (sx_norm (wp_region_lit ?_))
   refine Zv rfl (.slice (some ⟨bN, 0, none⟩) R.length cN) ?_
   refine Zv rfl (.int .i64 ((i : Nat) : Int)) ?_
   refine Zw rfl (.pointer (some ⟨bN, (i * 1 + 0), none⟩)) (ex_index rfl bN 0 R.length cN i 1 (i * 1 + 0) (by kernel_rfl) (by kernel_rfl) Tryd.underlying31 (by kernel_rfl) (by omega) (by omega)) ?_
   refine sx_do (by kernel_rfl) rfl (wr2.setCell ⟨bN, i * 1 + 0, none⟩ (.bool false)) (ex_storeC (k := i * 1 + 0) (old := .bool (R.getD i false)) (v := .bool false) rfl NT hcl (by kernel_rfl) (by kernel_rfl) (by kernel_rfl) (by kernel_rfl)) ?_
   obtain ⟨W3, hW⟩ : ∃ W, wr2.setCell ⟨bN, i * 1 + 0, none⟩ (.bool false) = W := ⟨_, rfl⟩
   have hg9 : wr2.grownBy W3 (some bN) := hW ▸ grown_set _ _ _ _
   have hq : Cb W3 bN ((clr R i).flatMap boE ++ Z).toArray 4 := by
    rw [← clr_less (by omega), ← hW]
    exact oz_set boRow false (x := false) NT (by omega) (by decide) rfl
   rw [hW]
   replace HB := HB.grown hg9 (by omega) (fun x e => by simp only [Option.some.injEq] at e; omega)
   have z2 := hg9.size
   replace NT := hq
   clear hq hg9 hW
   refine wpList_nil ?_
   refine sx_in ?_
   refine sx_norm (wp_region_lit ?_)
   refine Zv rfl (.int .i64 ((i : Nat) : Int)) ?_
   refine sx_int (by kernel_rfl) rfl rfl .i64 (IntKind.i64.wrap (((i : Nat) : Int) - 1)) ((((i : Nat) : Int) - 1)) (by kernel_rfl) (by rw [IntKind.wrap_i64]; omega) ?_
   refine Zv rfl (.int .i64 (((i : Nat) : Int) - 1)) ?_
   refine wpList_nil (sx_norm ?_)
   exact sx_again i (i, ((i : Nat) : Int) - 1) (by omega) (by kernel_rfl) ⟨rfl, by show i ≤ _; omega, Nat.le_refl _, by rw [hnx]; show (if i < f then none else _) = _; rw [if_neg (by omega), if_neg (by rw [C2]; decide)], NT, HB⟩
  refine Zw rfl (.bool false) (ex_load1 (v := .bool false) rfl (NT.cell _ (by rw [hcl, show (R.getD i false) = false by simpa using C2]; rfl)) (by kernel_rfl) Tryd.underlying4 rfl) ?_
  refine Zv rfl (.bool true) ?_
  refine wpList_nil (sx_norm ?_)
  refine sx_true (by kernel_rfl) ?_
  refine wp_seq (wp_region_lit ?_)
  refine Zv rfl (.slice (some ⟨bN, 0, none⟩) R.length cN) ?_
  refine Zv rfl (.int .i64 ((i : Nat) : Int)) ?_
  refine Zw rfl (.pointer (some ⟨bN, (i * 1 + 0), none⟩)) (ex_index rfl bN 0 R.length cN i 1 (i * 1 + 0) (by kernel_rfl) (by kernel_rfl) Tryd.underlying31 (by kernel_rfl) (by omega) (by omega)) ?_
  refine sx_do (by kernel_rfl) rfl (wr2.setCell ⟨bN, i * 1 + 0, none⟩ (.bool true)) (ex_storeC (k := i * 1 + 0) (old := .bool (R.getD i false)) (v := .bool true) rfl NT hcl (by kernel_rfl) (by kernel_rfl) (by kernel_rfl) (by kernel_rfl)) ?_
  obtain ⟨W4, hW⟩ : ∃ W, wr2.setCell ⟨bN, i * 1 + 0, none⟩ (.bool true) = W := ⟨_, rfl⟩
  have hg9 : wr2.grownBy W4 (some bN) := hW ▸ grown_set _ _ _ _
  have hq : Cb W4 bN (((R.take i ++ true :: List.replicate (R.length - (i + 1)) false)).flatMap boE ++ Z).toArray 4 := by
   rw [← clr_set (by omega), ← hW]
   exact oz_set boRow false (x := true) NT (by omega) (by decide) rfl
  rw [hW]
  replace HB := HB.grown hg9 (by omega) (fun x e => by simp only [Option.some.injEq] at e; omega)
  have z2 := hg9.size
  replace NT := hq
  clear hq hg9 hW
  refine wpList_nil (sx_norm (wp_seq (wp_region_lit ?_)))
  refine Zv rfl (.slice (some ⟨bN, 0, none⟩) R.length cN) ?_
  refine Zv rfl (.slice (some ⟨bN, 0, none⟩) R.length cN) ?_
  refine Zv rfl (.bool true) ?_
  refine wpList_nil (sx_norm (wp_ret (sx_rs ?_)))
  refine sx_rb ?_
  refine sx_rs (sx_rs ?_)
  refine sx_rb ?_
  refine sx_rs ?_
  refine sx_ret2 (.slice (some ⟨bN, 0, none⟩) R.length cN) (.bool true) rfl rfl rfl (by kernel_rfl) (by kernel_rfl) ⟨.inl ⟨R.take i ++ true :: List.replicate (R.length - (i + 1)) false, bN, cN, by rw [hnx]; show (if i < f then none else _) = _; rw [if_neg (by omega), if_pos (by simpa using C2)], rfl, by have h8 := oz_rw boRow false NT; rw [show (R.take i ++ true :: List.replicate (R.length - (i + 1)) false).length = R.length by rw [← clr_set (by omega), List.length_set]; exact hXl] at h8; exact h8, hbN⟩, HB⟩
 refine Zb rfl (decide (z ≥ ((f : Nat) : Int))) false (decide_eq_false (by omega)) ?_
 refine wpList_nil (sx_norm ?_)
 refine sx_false (by kernel_rfl) ?_
 refine wp_exit ?_
 refine sx_es ?_
 refine sx_es ?_
 refine sx_out ?_
 refine sx_norm (wp_seq (wp_region_lit ?_))
 refine Zv rfl (.slice none 0 0) ?_
 refine Zv rfl (.bool false) ?_
 refine wpList_nil (sx_norm (wp_ret ?_))
 refine sx_ret2 (.slice none 0 0) (.bool false) rfl rfl rfl (by kernel_rfl) (by kernel_rfl) ⟨.inr ⟨by rw [hnx]; exact nxI_no (by omega), rfl⟩, HB⟩

end Go.Proofs.YtomebalolmabnaaDoor.T



