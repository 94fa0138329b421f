/-
  DERIVED. GN: a part of the base of layer 13 (made by pack.py).
-/
import Derived.Test.YtnapmildbodigaaDoorGA
import Derived.Test.YtnapmildbodigaaDoorGG
import Derived.Test.YtnapmildbodigaaDoorDl
import Derived.Test.YtnapmildbodigaaDoorGK
import Derived.Test.YtnapmildbodigaaDoorLa
import Derived.Test.YtnapmildbodigaaDoorLb
/-! What is found is possible, and ends first. -/
namespace Go.Proofs.YtnapmildbodigaaDoor.T
open Go.RowKit
set_option maxRecDepth 8000

namespace CrT
/-- the end of the ways from stop k on, with these rests -/
def endV (c : CrT) (R : List Bool) : Nat → Nat → Int → Int → Int
 | 0, _, don, _ => don
 | m + 1, k, don, sin => endV c R m (k + 1) (c.leg k don sin (R.getD k false)).don (c.leg k don sin (R.getD k false)).sin
/-- are the ways from stop k on possible, with these rests? -/
def feas (c : CrT) (R : List Bool) : Nat → Nat → Int → Int → Prop
 | 0, _, _, _ => True
 | m + 1, k, don, sin => c.err k don sin (R.getD k false) = 0 ∧ feas c R m (k + 1) (c.leg k don sin (R.getD k false)).don (c.leg k don sin (R.getD k false)).sin
/-- the end of the ways from stop k on, without rests -/
def endF (c : CrT) : Nat → Nat → Int → Int
 | 0, _, don => don
 | m + 1, k, don => endF c m (k + 1) (c.leg k don 0 false).don
section
variable {c : CrT} (hn : NetOk c.pl c.al) (hr : 0 ≤ c.ty.rst)
include hn hr
/-- who departs later, or rests, is done later -/
theorem leg_le {k : Nat} {d d' s s' : Int} {r r' : Bool} (hd : d ≤ d') (h : r = true → r' = true) : (c.leg k d s r).arr ≤ (c.leg k d' s' r').arr ∧ (c.leg k d s r).don ≤ (c.leg k d' s' r').don ∧ (c.go k d r).2.2 = (c.go k d' r').2.2 := by
 have hg : c.gD d r ≤ c.gD d' r' := by
  unfold gD
  cases r <;> cases r' <;> simp at h ⊢ <;> omega
 have hm := goV_mono hn (pr := c.ty.prof) (f := (c.S.getD k st0).p) (t := (c.S.getD (k + 1) st0).p) hg
 have h1 : (c.go k d r).1 ≤ (c.go k d' r').1 := hm.2.2
 refine ⟨h1, ?_, hm.1⟩
 have hb : c.beg k d r ≤ c.beg k d' r' := by unfold beg; split <;> split <;> omega
 show c.beg k d r + (c.S.getD (k + 1) st0).s ≤ c.beg k d' r' + (c.S.getD (k + 1) st0).s
 omega
theorem endF_le (R : List Bool) : ∀ (m k : Nat) (d d' s : Int), d ≤ d' → c.endF m k d ≤ c.endV R m k d' s
 | 0, _, _, _, _, h => h
 | m + 1, k, d, d', s, h => endF_le R m (k + 1) _ _ _ (leg_le hn hr h (fun h => by cases h)).2.1
theorem dn_le {R R' : List Bool} (h : ∀ i, R.getD i false = true → R'.getD i false = true) : ∀ k, (c.dn R k).1 ≤ (c.dn R' k).1
 | 0 => Int.le_refl _
 | k + 1 => (leg_le hn hr (k := k) (s := (c.dn R k).2) (s' := (c.dn R' k).2) (dn_le h k) (h k)).2.1
end
/-- what is free ends as without rests -/
theorem free_end {c : CrT} {F : List Bool} : ∀ (m k : Nat) (don sin : Int), (c.best F m k don sin).f = true → (c.best F m k don sin).p = true ∧ (c.best F m k don sin).e = c.endF m k don
 | 0, _, _, _, _ => ⟨rfl, rfl⟩
 | m + 1, k, don, sin, h => by
  have hI := foldB_inv (st := stB c (c.best F m (k + 1)) k don sin) (fun b => b.f = true → b.p = true ∧ b.e = c.endF (m + 1) k don) (CrT.opts F k) ch0 (fun h => by cases h) (fun b r _ hb => by
   unfold stB
   split
   ·split
    ·intro hf
     simp only [Bool.and_eq_true] at hf
     have hr : r = false := by simpa using hf.2
     subst hr
     exact ⟨rfl, (free_end m (k + 1) _ _ hf.1).2⟩
    ·exact hb
   ·exact hb)
  rw [← c.best_succ] at hI
  exact hI h
end CrT
theorem foldB_min {c : CrT} {nx : Int → Int → ChT} {k : Nat} {don sin : Int} {r : Bool} (h0 : c.err k don sin r = 0) (hp : (nx (c.leg k don sin r).don (c.leg k don sin r).sin).p = true) : ∀ (O : List Bool) (b : ChT), (r ∈ O ∨ (b.p = true ∧ b.e ≤ (nx (c.leg k don sin r).don (c.leg k don sin r).sin).e)) →
  (foldB (stB c nx k don sin) O b).f = true ∨ ((foldB (stB c nx k don sin) O b).p = true ∧ (foldB (stB c nx k don sin) O b).e ≤ (nx (c.leg k don sin r).don (c.leg k don sin r).sin).e)
 | [], b, h => by
  rcases h with h | h
  ·cases h
  ·exact .inr h
 | q :: O, b, h => by
  show (if (stB c nx k don sin b q).f = true then stB c nx k don sin b q else foldB (stB c nx k don sin) O (stB c nx k don sin b q)).f = true ∨ ((if (stB c nx k don sin b q).f = true then stB c nx k don sin b q else foldB (stB c nx k don sin) O (stB c nx k don sin b q)).p = true ∧ (if (stB c nx k don sin b q).f = true then stB c nx k don sin b q else foldB (stB c nx k don sin) O (stB c nx k don sin b q)).e ≤ _)
  by_cases hf : (stB c nx k don sin b q).f = true
  ·rw [if_pos hf]; exact .inl hf
  ·rw [if_neg hf]
   refine foldB_min h0 hp O _ ?_
   have hkeep : b.p = true ∧ b.e ≤ (nx (c.leg k don sin r).don (c.leg k don sin r).sin).e → (stB c nx k don sin b q).p = true ∧ (stB c nx k don sin b q).e ≤ (nx (c.leg k don sin r).don (c.leg k don sin r).sin).e := fun hb => by
    unfold stB
    split
    ·split
     ·rename_i h2
      rcases h2.2 with h3 | h3
      ·rw [hb.1] at h3; cases h3
      ·exact ⟨rfl, Int.le_trans (Int.le_of_lt h3) hb.2⟩
     ·exact hb
    ·exact hb
   rcases h with h | h
   ·rcases List.mem_cons.1 h with h | h
    ·subst h
     right
     unfold stB
     rw [if_pos h0]
     split
     ·exact ⟨rfl, Int.le_refl _⟩
     ·rename_i h2
      have h3 : ¬ (b.p = false ∨ (nx (c.leg k don sin r).don (c.leg k don sin r).sin).e < b.e) := fun h => h2 ⟨hp, h⟩
      refine ⟨?_, ?_⟩
      ·cases hb : b.p
       ·exact absurd (.inl hb) h3
       ·rfl
      ·have : ¬ (nx (c.leg k don sin r).don (c.leg k don sin r).sin).e < b.e := fun h => h3 (.inr h)
       omega
    ·exact .inl h
   ·exact .inr (hkeep h)
namespace CrT
/-- whatever is possible ends no earlier than what is best -/
theorem best_least {c : CrT} (hn : NetOk c.pl c.al) (hr : 0 ≤ c.ty.rst) {F R : List Bool} (hO : ∀ i, R.getD i false ∈ opts F i) : ∀ (m k : Nat) (don sin : Int), c.feas R m k don sin → (c.best F m k don sin).p = true ∧ (c.best F m k don sin).e ≤ c.endV R m k don sin
 | 0, _, _, _, _ => ⟨rfl, Int.le_refl _⟩
 | m + 1, k, don, sin, h => by
  obtain ⟨h1, h2⟩ := h
  have ih := best_least hn hr hO m (k + 1) _ _ h2
  have hf := foldB_min (nx := c.best F m (k + 1)) h1 ih.1 (opts F k) ch0 (.inl (hO k))
  rw [← c.best_succ] at hf
  rcases hf with hf | hf
  ·have h3 := free_end (m + 1) k don sin hf
   exact ⟨h3.1, by rw [h3.2]; exact endF_le hn hr R (m + 1) k don don sin (Int.le_refl _)⟩
  ·exact ⟨hf.1, Int.le_trans hf.2 ih.2⟩
/-- a run without error is possible, and ends when its last way is done -/
theorem feas_run {c : CrT} {R : List Bool} (h : c.run R c.n = 0) : ∀ (m k : Nat), k + m = c.n → c.feas R m k (c.dn R k).1 (c.dn R k).2 ∧ c.endV R m k (c.dn R k).1 (c.dn R k).2 = (c.dn R c.n).1
 | 0, k, hk => ⟨trivial, by show (c.dn R k).1 = _; rw [show k = c.n by omega]⟩
 | m + 1, k, hk => by
  have ih := feas_run h m (k + 1) (by omega)
  exact ⟨⟨run_er h (by omega), ih.1⟩, ih.2⟩
end CrT
end Go.Proofs.YtnapmildbodigaaDoor.T


/-! The best schedule is valid, and none ends earlier. -/
namespace Go.Proofs.YtnapmildbodigaaDoor.T
open Go.RowKit
set_option maxRecDepth 8000

theorem crs_endS' (x : InT) (ty st : Int) (l : List (Int × Bool)) : (crs x ty st l).S.getD (l.length + 1) st0 = ⟨(x.tl.getD ty.toNat ty0).to, 0, (x.tl.getD ty.toNat ty0).cls, 0⟩ := by
 show (crsS _ x.ol l).getD (l.length + 1) st0 = _
 unfold crsS
 rw [List.getD_eq_getElem?_getD, List.getElem?_append_right (by simp)]
 simp
theorem rts_sheet {c : CrT} {R : List Bool} (hc : c.Ok) (h : R.length = c.n) : (c.sheet R).rts = R := by
 have hl := hc.len
 have hn : 1 ≤ c.n := by unfold CrT.n; omega
 apply ext_getD (d := false)
 ·rw [rts_len, tms_len, h]; omega
 intro i hi
 rw [rts_len, tms_len] at hi
 unfold ShT.rts
 match i, hi with
 | 0, _ => rfl
 | i + 1, hi =>
  show ((c.tms R).map (·.r)).getD i false = _
  unfold CrT.tms
  rw [List.map_map, List.getD_eq_getElem?_getD, List.getElem?_map, List.getElem?_range (by omega)]
  rfl
theorem bs0_at {F : List Bool} {N i : Nat} : (bs0 F N).getD i false = if i < F.length then F.getD i false else false := by
 unfold bs0
 split
 ·rename_i h
  rw [List.getD_eq_getElem?_getD, List.getElem?_append_left h, List.getD_eq_getElem?_getD]
 ·rename_i h
  rw [List.getD_eq_getElem?_getD, List.getElem?_append_right (by omega), List.getElem?_replicate]
  split <;> rfl
theorem run_first {c : CrT} {R : List Bool} : ∀ m, c.run R m ≠ 0 → ∃ k, k < m ∧ c.run R k = 0 ∧ c.er R k = c.run R m
 | 0, h => absurd rfl h
 | m + 1, h => by
  by_cases h1 : c.run R m = 0
  ·exact ⟨m, Nat.lt_succ_self m, h1, by rw [CrT.run_succ, if_neg (fun h => h h1)]⟩
  ·obtain ⟨k, hk, h2, h3⟩ := run_first m h1
   exact ⟨k, by omega, h2, by rw [h3, CrT.run_succ, if_pos h1]⟩
theorem bsR_len {c : CrT} {F : List Bool} (hF : F.length ≤ c.n) : (c.bsR F).length = c.n := by
 unfold CrT.bsR
 split
 ·exact CrT.fnd_len _ _
 ·exact bs0_len hF
theorem bsR_take {c : CrT} {F : List Bool} (hF : F.length ≤ c.n) : (c.bsR F).take F.length = F := by
 unfold CrT.bsR
 split
 ·rename_i h; exact CrT.fnd_fix h.2 hF
 ·exact bs0_take _ _
/-- the best schedule is valid -/
theorem best_valid {x : InT} (hin : inF x = []) (hal : x.al.length ≤ 1000000) {ty st : Int} {l : List (Int × Bool)} {F : List Bool} (h : bestE x ty st l F = 0) : chkE x ty st l F (bestS x ty st l F) = 0 := by
 have hS : bestS x ty st l F = (crs x ty st l).sheet ((crs x ty st l).bsR F) := if_pos h
 unfold bestE at h
 split at h
 ·rename_i h1
  have hc := crs_ok hin hal h1.1
  have hn := crs_n x ty st l
  have hl := bsR_len (c := crs x ty st l) (F := F) (by omega)
  have hr := rts_sheet hc hl
  rw [hS]
  exact chkE_0 h1.1 h1.2 (by rw [tms_len, hn]; omega) (by rw [hr]; exact bsR_take (by omega)) (by rw [hr]; exact h) (by rw [hr])
 ·cases h
/-- no list of rests that follows the route ends earlier -/
theorem best_first {x : InT} (hin : inF x = []) (hal : x.al.length ≤ 1000000) {ty st : Int} {l : List (Int × Bool)} {F R : List Bool} (hFR : F.length ≤ R.length) (hF : ∀ i, i < F.length → R.getD i false = F.getD i false) (h : runE x ty st l R = 0) : bestE x ty st l F = 0 ∧ (bestS x ty st l F).e ≤ (runS x ty st l R).e := by
 obtain ⟨hS, hp, hRl, hr0⟩ := runS_is h
 have hc := crs_ok hin hal hp
 have hn9 := crs_n x ty st l
 have hE := bestE_yes (F := F) hp (by omega)
 have hne := hc.net
 have hrs := hc.rst.1
 have hO : ∀ i, R.getD i false ∈ CrT.opts F i := fun i => by
  unfold CrT.opts
  split
  ·rename_i hi; rw [hF i hi]; simp
  ·cases R.getD i false <;> simp
 have hle : ∀ i, (bs0 F (crs x ty st l).n).getD i false = true → R.getD i false = true := fun i hi => by
  rw [bs0_at] at hi
  split at hi
  ·rename_i h1; rw [hF i h1]; exact hi
  ·cases hi
 have hdn := CrT.dn_le hne hrs hle
 have fin : ∀ B, (crs x ty st l).bsR F = B → (crs x ty st l).run B (crs x ty st l).n = 0 → ((crs x ty st l).lg B l.length).arr ≤ ((crs x ty st l).lg R l.length).arr → bestE x ty st l F = 0 ∧ (bestS x ty st l F).e ≤ (runS x ty st l R).e := fun B hB h0 ha => by
  have h1 : bestE x ty st l F = 0 := by rw [hE, hB]; exact h0
  refine ⟨h1, ?_⟩
  have h2 : bestS x ty st l F = (crs x ty st l).sheet B := by unfold bestS; rw [if_pos h1, hB]
  rw [h2, hS]
  show ((crs x ty st l).lg B ((crs x ty st l).n - 1)).arr ≤ ((crs x ty st l).lg R ((crs x ty st l).n - 1)).arr
  rw [show (crs x ty st l).n - 1 = l.length by omega]
  exact ha
 by_cases hb : (crs x ty st l).run (bs0 F (crs x ty st l).n) (crs x ty st l).n = 0
 ·exact fin _ (if_neg (fun h => by rw [hb] at h; cases h.1)) hb (CrT.leg_le hne hrs (hdn l.length) (hle l.length)).1
 ·obtain ⟨k, hk, hk0, hke⟩ := run_first _ hb
  have hkr := CrT.run_er hr0 hk
  have hll := CrT.leg_le hne hrs (k := k) (s := ((crs x ty st l).dn (bs0 F (crs x ty st l).n) k).2) (s' := ((crs x ty st l).dn R k).2) (hdn k) (hle k)
  have hlo := CrT.lg_ok hc (Nat.le_refl _) hr0 hk
  have h16 : (crs x ty st l).run (bs0 F (crs x ty st l).n) (crs x ty st l).n = 16 := by
   rw [← hke] at hb ⊢
   unfold CrT.er CrT.err at hb ⊢
   rw [if_neg (fun h => h (hll.2.2.trans hlo.1))] at hb ⊢
   have ha : ¬ ((crs x ty st l).S.getD (k + 1) st0).c < ((crs x ty st l).go k ((crs x ty st l).dn (bs0 F (crs x ty st l).n) k).1 ((bs0 F (crs x ty st l).n).getD k false)).1 := by
    have h1 : ((crs x ty st l).go k ((crs x ty st l).dn (bs0 F (crs x ty st l).n) k).1 ((bs0 F (crs x ty st l).n).getD k false)).1 ≤ ((crs x ty st l).lg R k).arr := hll.1
    have h2 := hlo.2.1
    omega
   rw [if_neg ha] at hb ⊢
   split
   ·rfl
   ·rename_i h1; rw [if_neg h1] at hb; exact absurd rfl hb
  have hfe := CrT.feas_run hr0 (crs x ty st l).n 0 (by omega)
  have hbl := CrT.best_least hne hrs hO (crs x ty st l).n 0 (crs x ty st l).rd 0 hfe.1
  have hpp := hbl.1
  have hfp := CrT.fnd_p hpp (Nat.le_refl _)
  have hB : (crs x ty st l).bsR F = (crs x ty st l).fnd F := if_pos ⟨h16, hpp⟩
  refine fin _ hB hfp.1 ?_
  have he1 : ((crs x ty st l).dn ((crs x ty st l).fnd F) (crs x ty st l).n).1 ≤ ((crs x ty st l).dn R (crs x ty st l).n).1 := by
   have h1 := hfp.2.2
   rw [Nat.sub_self] at h1
   have h2 : ((crs x ty st l).dn ((crs x ty st l).fnd F) (crs x ty st l).n).1 = ((crs x ty st l).best F (crs x ty st l).n 0 (crs x ty st l).rd 0).e := h1
   have h3 := hbl.2
   have h4 : (crs x ty st l).endV R (crs x ty st l).n 0 (crs x ty st l).rd 0 = ((crs x ty st l).dn R (crs x ty st l).n).1 := hfe.2
   omega
  rw [hn9] at he1
  have hd : ∀ B : List Bool, ((crs x ty st l).dn B (l.length + 1)).1 = (if ((crs x ty st l).lg B l.length).arr < 0 then 0 else ((crs x ty st l).lg B l.length).arr) + 0 := fun B => by
   have h1 : ((crs x ty st l).dn B (l.length + 1)).1 = ((crs x ty st l).lg B l.length).beg + ((crs x ty st l).S.getD (l.length + 1) st0).s := rfl
   rw [h1, beg_is, crs_endS']
  rw [hd, hd] at he1
  have h9 := CrT.lg_ok hc (Nat.le_refl _) hr0 (show l.length < (crs x ty st l).n by omega)
  have hdb := CrT.dn_bd hc (R := R) l.length (by omega) (CrT.run_le hr0 (by omega))
  have hgd := CrT.gD_bd hc (R.getD l.length false) ⟨hdb.1, hdb.2.1⟩
  have h10 : 0 ≤ ((crs x ty st l).lg R l.length).dep := hgd.1
  have h11 := h9.2.2.1
  split at he1 <;> split at he1 <;> omega
end Go.Proofs.YtnapmildbodigaaDoor.T


