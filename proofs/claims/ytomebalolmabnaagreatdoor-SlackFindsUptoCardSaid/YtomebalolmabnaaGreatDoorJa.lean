/-
  DERIVED. Ja: a part of the base of layer 13 (made by pack.py).
-/
import Derived.Test.YtomebalolmabnaaGreatDoorGA
import Derived.Test.YtomebalolmabnaaGreatDoorDn
import Derived.Test.YtomebalolmabnaaGreatDoorGJ
/-! Delays: how a schedule goes on from a later arrival, and how late an arrival can be. -/
namespace Go.Proofs.YtomebalolmabnaaGreatDoor.T
open Go.RowKit
set_option maxRecDepth 8000

namespace CrT
def arE (c : CrT) (k : Nat) (a s : Int) : Int := if (c.S.getD (k + 1) st0).c < a then c.late (k + 1) else if c.ty.drv < s then 16 else 0
def bgA (c : CrT) (k : Nat) (a : Int) : Int := if a < (c.S.getD (k + 1) st0).o then (c.S.getD (k + 1) st0).o else a
def dnA (c : CrT) (k : Nat) (a : Int) : Int := c.bgA k a + (c.S.getD (k + 1) st0).s
def onA (c : CrT) (R : List Bool) (k : Nat) (a s : Int) : LegT := c.leg (k + 1) (c.dnA k a) s (R.getD (k + 1) false)
def stA (c : CrT) (R : List Bool) (k : Nat) (a s : Int) : Nat → Int × Int
 | 0 => (a, s)
 | i + 1 => ((c.onA R (k + i) (stA c R k a s i).1 (stA c R k a s i).2).arr, (c.onA R (k + i) (stA c R k a s i).1 (stA c R k a s i).2).sin)
def ra (c : CrT) (R : List Bool) (k : Nat) (a s : Int) : Nat → Int
 | 0 => 0
 | i + 1 => if ra c R k a s i ≠ 0 then ra c R k a s i else c.arE (k + i) (c.stA R k a s i).1 (c.stA R k a s i).2
theorem ra_succ (c : CrT) (R : List Bool) (k : Nat) (a s : Int) (i : Nat) : c.ra R k a s (i + 1) = if c.ra R k a s i ≠ 0 then c.ra R k a s i else c.arE (k + i) (c.stA R k a s i).1 (c.stA R k a s i).2 := rfl
theorem ra_ok {c : CrT} {R : List Bool} {k : Nat} {a s : Int} {i : Nat} (h : c.ra R k a s (i + 1) = 0) : c.ra R k a s i = 0 ∧ c.arE (k + i) (c.stA R k a s i).1 (c.stA R k a s i).2 = 0 := by
 rw [ra_succ] at h
 split at h
 ·rename_i h1; exact absurd h h1
 ·rename_i h1; exact ⟨Decidable.of_not_not h1, h⟩
theorem ra_le {c : CrT} {R : List Bool} {k : Nat} {a s : Int} {i m : Nat} (h : c.ra R k a s m = 0) (hi : i ≤ m) : c.ra R k a s i = 0 := by
 induction m with
 | zero => rw [show i = 0 by omega]; exact h
 | succ m ih =>
  rcases Nat.lt_or_eq_of_le hi with h1 | h1
  ·exact ih (ra_ok h).1 (by omega)
  ·rw [h1]; exact h
theorem ra_stop {c : CrT} {R : List Bool} {k : Nat} {a s : Int} {i : Nat} (h0 : c.ra R k a s i = 0) (h : c.arE (k + i) (c.stA R k a s i).1 (c.stA R k a s i).2 ≠ 0) : ∀ m, i < m → c.ra R k a s m = c.arE (k + i) (c.stA R k a s i).1 (c.stA R k a s i).2
 | 0, h1 => absurd h1 (Nat.not_lt_zero i)
 | m + 1, h1 => by
  rw [ra_succ]
  rcases Nat.lt_or_eq_of_le (Nat.le_of_lt_succ h1) with h2 | h2
  ·rw [ra_stop h0 h m h2, if_pos h]
  ·rw [← h2, h0, if_neg (fun h => h rfl)]
theorem stA_front (c : CrT) (R : List Bool) (k : Nat) (a s : Int) : ∀ i, c.stA R k a s (i + 1) = c.stA R (k + 1) (c.onA R k a s).arr (c.onA R k a s).sin i
 | 0 => rfl
 | i + 1 => by
  show ((c.onA R (k + (i + 1)) (c.stA R k a s (i + 1)).1 (c.stA R k a s (i + 1)).2).arr, (c.onA R (k + (i + 1)) (c.stA R k a s (i + 1)).1 (c.stA R k a s (i + 1)).2).sin) = _
  rw [stA_front c R k a s i, show k + (i + 1) = k + 1 + i by omega]
  rfl
theorem ra_front (c : CrT) (R : List Bool) (k : Nat) (a s : Int) : ∀ i, c.ra R k a s (i + 1) = if c.arE k a s ≠ 0 then c.arE k a s else c.ra R (k + 1) (c.onA R k a s).arr (c.onA R k a s).sin i
 | 0 => by
  show (if (0 : Int) ≠ 0 then 0 else c.arE k a s) = if c.arE k a s ≠ 0 then c.arE k a s else 0
  rw [if_neg (fun h => h rfl)]
  split
  ·rfl
  ·rename_i h; exact Decidable.of_not_not h
 | i + 1 => by
  rw [ra_succ, ra_front c R k a s i, stA_front, show k + (i + 1) = k + 1 + i by omega]
  by_cases h : c.arE k a s ≠ 0
  ·rw [if_pos h, if_pos h, if_pos h]
  ·rw [if_neg h, if_neg h]
   rfl
theorem onA_lg (c : CrT) (R : List Bool) (k : Nat) : c.onA R k (c.lg R k).arr (c.lg R k).sin = c.lg R (k + 1) := rfl
theorem stA_lg (c : CrT) (R : List Bool) (k : Nat) : ∀ i, c.stA R k (c.lg R k).arr (c.lg R k).sin i = ((c.lg R (k + i)).arr, (c.lg R (k + i)).sin)
 | 0 => rfl
 | i + 1 => by
  show ((c.onA R (k + i) (c.stA R k (c.lg R k).arr (c.lg R k).sin i).1 (c.stA R k (c.lg R k).arr (c.lg R k).sin i).2).arr, (c.onA R (k + i) (c.stA R k (c.lg R k).arr (c.lg R k).sin i).1 (c.stA R k (c.lg R k).arr (c.lg R k).sin i).2).sin) = _
  rw [stA_lg c R k i, onA_lg]
  rfl
section
variable {c : CrT}
theorem arE_ok {k : Nat} {a s : Int} (h : c.arE k a s = 0) : a ≤ (c.S.getD (k + 1) st0).c ∧ s ≤ c.ty.drv := by
 unfold arE at h
 split at h
 ·unfold late at h; split at h <;> cases h
 ·split at h
  ·cases h
  ·exact ⟨by omega, by omega⟩
theorem arE_yes {k : Nat} {a s : Int} (h1 : a ≤ (c.S.getD (k + 1) st0).c) (h2 : s ≤ c.ty.drv) : c.arE k a s = 0 := by
 unfold arE
 rw [if_neg (by omega), if_neg (by omega)]
theorem arE_iff {k : Nat} {a s : Int} : c.arE k a s = 0 ↔ a ≤ (c.S.getD (k + 1) st0).c ∧ s ≤ c.ty.drv := ⟨arE_ok, fun h => arE_yes h.1 h.2⟩
end
section
variable {c : CrT} (hc : c.Ok) {R : List Bool}
include hc
theorem arE_lg {k m : Nat} (hm : m ≤ c.n) (h : c.run R m = 0) (hk : k < m) : c.arE k (c.lg R k).arr (c.lg R k).sin = 0 := by
 have h1 := lg_ok hc hm h hk
 unfold arE
 rw [if_neg (by omega), if_neg (by omega)]
theorem bgA_bd {k : Nat} {a : Int} (hk : k + 1 < c.S.length) (h0 : 0 ≤ a) (h : a ≤ (c.S.getD (k + 1) st0).c) : a ≤ c.bgA k a ∧ (c.S.getD (k + 1) st0).o ≤ c.bgA k a ∧ c.bgA k a ≤ (c.S.getD (k + 1) st0).c ∧ 0 ≤ c.dnA k a ∧ c.dnA k a ≤ 8192 := by
 have := hc.st (k + 1) hk
 unfold dnA bgA
 split <;> omega
theorem onA_bd {k : Nat} {a s : Int} (hrun : c.run R c.n = 0) (hk : k + 1 < c.n) (h0 : 0 ≤ a) (h : a ≤ (c.S.getD (k + 1) st0).c) : (c.go (k + 1) (c.dnA k a) (R.getD (k + 1) false)).2.2 = 0 ∧ 0 ≤ (c.onA R k a s).dep ∧ (c.onA R k a s).dep ≤ 12288 ∧ (c.onA R k a s).dep ≤ (c.onA R k a s).arr ∧ (c.onA R k a s).arr ≤ 86016 := by
 have hn : c.n = c.S.length - 1 := rfl
 have hb := bgA_bd hc (k := k) (by omega) h0 h
 have hg := gD_bd hc (R.getD (k + 1) false) ⟨hb.2.2.2.1, hb.2.2.2.2⟩
 have h1 := (lg_ok hc (Nat.le_refl _) hrun hk).1
 have h2 : ∀ d e : Int, d ≤ e → (goV c.pl.length c.al c.ty.prof (c.S.getD (k + 1) st0).p (c.S.getD (k + 1 + 1) st0).p d).2.2 = (goV c.pl.length c.al c.ty.prof (c.S.getD (k + 1) st0).p (c.S.getD (k + 1 + 1) st0).p e).2.2 := fun d e h => (goV_mono hc.net h).1
 have h3 : (c.go (k + 1) (c.dnA k a) (R.getD (k + 1) false)).2.2 = 0 := by
  rw [← h1]
  rcases Int.le_total (c.gD (c.dnA k a) (R.getD (k + 1) false)) (c.gD (c.dn R (k + 1)).1 (R.getD (k + 1) false)) with h4 | h4
  ·exact h2 _ _ h4
  ·exact (h2 _ _ h4).symm
 have h5 := goV_bd hc.net hg.1 h3
 have h6 : c.gD (c.dnA k a) (R.getD (k + 1) false) ≤ (c.onA R k a s).arr := h5.1
 have h7 : (c.onA R k a s).arr ≤ c.gD (c.dnA k a) (R.getD (k + 1) false) + 73728 := h5.2.1
 refine ⟨h3, hg.1, hg.2, h6, by omega⟩
theorem onA_mono {k : Nat} {a a' s s' : Int} (h : a ≤ a') : (c.onA R k a s).arr ≤ (c.onA R k a' s').arr ∧ (c.onA R k a s).dep ≤ (c.onA R k a' s').dep := by
 have hb : c.bgA k a ≤ c.bgA k a' := by unfold bgA; split <;> split <;> omega
 have hd : c.dnA k a ≤ c.dnA k a' := by unfold dnA; omega
 have hrs := hc.rst.1
 refine ⟨(leg_le hc.net hrs hd (fun h => h)).1, ?_⟩
 show c.gD (c.dnA k a) _ ≤ c.gD (c.dnA k a') _
 unfold gD
 split <;> omega
theorem stA_ge {k : Nat} {a s : Int} (h : (c.lg R k).arr ≤ a) : ∀ i, (c.lg R (k + i)).arr ≤ (c.stA R k a s i).1
 | 0 => h
 | i + 1 => by
  have h1 := onA_mono hc (R := R) (k := k + i) (s := (c.lg R (k + i)).sin) (s' := (c.stA R k a s i).2) (stA_ge (s := s) h i)
  rw [onA_lg] at h1
  exact h1.1
end
def okD (c : CrT) (R : List Bool) (k : Nat) (j : Int) : Prop := c.ra R k ((c.lg R k).arr + j) ((c.lg R k).sin + j) (c.n - k) = 0
instance (c : CrT) (R : List Bool) (k : Nat) (j : Int) : Decidable (c.okD R k j) := by unfold okD; infer_instance
def slF (c : CrT) (R : List Bool) (k : Nat) : Nat → Nat → Nat
 | 0, j => j
 | f + 1, j => if c.okD R k ((j : Int) + 1) then slF c R k f (j + 1) else j
def sl (c : CrT) (R : List Bool) (k : Nat) : Nat := c.slF R k 4097 0
theorem slF_ok (c : CrT) (R : List Bool) (k : Nat) : ∀ (f j : Nat), (∀ i : Nat, i ≤ j → c.okD R k i) → (∀ i : Nat, i ≤ c.slF R k f j → c.okD R k i) ∧ j ≤ c.slF R k f j ∧ c.slF R k f j ≤ j + f ∧ (c.slF R k f j < j + f → ¬ c.okD R k ((c.slF R k f j : Int) + 1))
 | 0, j, h => ⟨h, Nat.le_refl _, Nat.le_refl _, fun h => absurd h (Nat.lt_irrefl _)⟩
 | f + 1, j, h => by
  unfold slF
  by_cases h1 : c.okD R k ((j : Int) + 1)
  ·rw [if_pos h1]
   have ih := slF_ok c R k f (j + 1) (fun i hi => by
    rcases Nat.lt_or_eq_of_le hi with h2 | h2
    ·exact h i (by omega)
    ·rw [h2]; exact h1)
   exact ⟨ih.1, by omega, by omega, fun h => ih.2.2.2 (by omega)⟩
  ·rw [if_neg h1]
   exact ⟨h, Nat.le_refl _, by omega, fun _ => h1⟩
theorem okD_c {c : CrT} {R : List Bool} {k : Nat} (hk : k < c.n) {j : Int} (h : c.okD R k j) : (c.lg R k).arr + j ≤ (c.S.getD (k + 1) st0).c ∧ (c.lg R k).sin + j ≤ c.ty.drv := by
 unfold okD at h
 have h1 := ra_le h (show 1 ≤ c.n - k by omega)
 have h2 := (ra_ok h1).2
 exact arE_ok h2
section
variable {c : CrT} (hc : c.Ok) {R : List Bool} (hrun : c.run R c.n = 0)
include hc hrun
theorem okD_0 {k : Nat} (hk : k < c.n) : c.okD R k 0 := by
 unfold okD
 have h : ∀ i, k + i ≤ c.n → c.ra R k ((c.lg R k).arr + 0) ((c.lg R k).sin + 0) i = 0 := fun i hi => by
  induction i with
  | zero => rfl
  | succ i ih =>
   rw [ra_succ, ih (by omega), if_neg (fun h => h rfl), Int.add_zero, Int.add_zero, stA_lg]
   exact arE_lg hc (Nat.le_refl _) hrun (by omega)
 exact h _ (by omega)
theorem lg_arr {k : Nat} (hk : k < c.n) : 0 ≤ (c.lg R k).arr ∧ (c.lg R k).arr ≤ (c.S.getD (k + 1) st0).c ∧ (c.S.getD (k + 1) st0).c ≤ 4096 ∧ 0 ≤ (c.lg R k).sin ∧ (c.lg R k).sin ≤ c.ty.drv := by
 have h1 := lg_ok hc (Nat.le_refl _) hrun hk
 have h2 := dn_bd hc (R := R) k (by omega) (run_le hrun (by omega))
 have h3 := gD_bd hc (R.getD k false) ⟨h2.1, h2.2.1⟩
 have h4 : 0 ≤ (c.lg R k).dep := h3.1
 have h5 := hc.st (k + 1) (by unfold n at hk; omega)
 omega
theorem sl_is {k : Nat} (hk : k < c.n) : (∀ i : Nat, i ≤ c.sl R k → c.okD R k i) ∧ c.sl R k ≤ 4096 ∧ ¬ c.okD R k ((c.sl R k : Int) + 1) := by
 have h := slF_ok c R k 4097 0 (fun i hi => by rw [show i = 0 by omega]; exact okD_0 hc hrun hk)
 have h1 := okD_c hk (h.1 _ (Nat.le_refl _))
 have h2 := lg_arr hc hrun hk
 have h3 : c.sl R k = c.slF R k 4097 0 := rfl
 rw [← h3] at h h1
 exact ⟨h.1, by omega, h.2.2.2 (by omega)⟩
end
def ln (c : CrT) (R : List Bool) (k : Nat) : Nat := ((c.S.getD (k + 1) st0).c - (c.lg R k).arr + 1).toNat
def mo (c : CrT) (R : List Bool) : Nat → Nat → Nat → Int
 | 0, _, _ => c.ty.drv
 | m + 1, k, j =>
  if (c.onA R k ((c.lg R k).arr + j) 0).arr - (c.lg R (k + 1)).arr < 0 ∨ (c.ln R (k + 1) : Int) ≤ (c.onA R k ((c.lg R k).arr + j) 0).arr - (c.lg R (k + 1)).arr then -1
  else if R.getD (k + 1) false = false then mo c R m (k + 1) ((c.onA R k ((c.lg R k).arr + j) 0).arr - (c.lg R (k + 1)).arr).toNat - ((c.onA R k ((c.lg R k).arr + j) 0).arr - (c.onA R k ((c.lg R k).arr + j) 0).dep)
  else if mo c R m (k + 1) ((c.onA R k ((c.lg R k).arr + j) 0).arr - (c.lg R (k + 1)).arr).toNat - ((c.onA R k ((c.lg R k).arr + j) 0).arr - (c.onA R k ((c.lg R k).arr + j) 0).dep) < 0 then -1 else c.ty.drv
theorem mo_succ (c : CrT) (R : List Bool) (m k j : Nat) : c.mo R (m + 1) k j = if (c.onA R k ((c.lg R k).arr + j) 0).arr - (c.lg R (k + 1)).arr < 0 ∨ (c.ln R (k + 1) : Int) ≤ (c.onA R k ((c.lg R k).arr + j) 0).arr - (c.lg R (k + 1)).arr then -1
  else if R.getD (k + 1) false = false then c.mo R m (k + 1) ((c.onA R k ((c.lg R k).arr + j) 0).arr - (c.lg R (k + 1)).arr).toNat - ((c.onA R k ((c.lg R k).arr + j) 0).arr - (c.onA R k ((c.lg R k).arr + j) 0).dep)
  else if c.mo R m (k + 1) ((c.onA R k ((c.lg R k).arr + j) 0).arr - (c.lg R (k + 1)).arr).toNat - ((c.onA R k ((c.lg R k).arr + j) 0).arr - (c.onA R k ((c.lg R k).arr + j) 0).dep) < 0 then -1 else c.ty.drv := rfl
def moL (c : CrT) (R : List Bool) (k : Nat) : List Int := (List.range (c.ln R k)).map fun j => c.mo R (c.n - 1 - k) k j
theorem moL_len (c : CrT) (R : List Bool) (k : Nat) : (c.moL R k).length = c.ln R k := by unfold moL; simp
theorem moL_at {c : CrT} {R : List Bool} {k j : Nat} (h : j < c.ln R k) : (c.moL R k).getD j 0 = c.mo R (c.n - 1 - k) k j := by
 unfold moL
 rw [List.getD_eq_getElem?_getD, List.getElem?_map, List.getElem?_range h]
 rfl
section
variable {c : CrT} (hc : c.Ok) {R : List Bool} (hrun : c.run R c.n = 0)
include hc hrun
theorem mo_bd : ∀ (m k j : Nat), k + m + 1 = c.n → j < c.ln R k → -(100000 * ((m : Int) + 1)) ≤ c.mo R m k j ∧ c.mo R m k j ≤ c.ty.drv
 | 0, _, _, _, _ => by
  have := hc.drv
  show -(100000 * (((0 : Nat) : Int) + 1)) ≤ c.ty.drv ∧ c.ty.drv ≤ c.ty.drv
  omega
 | m + 1, k, j, hk, hj => by
  have hd := hc.drv
  have hl := lg_arr hc hrun (k := k) (by omega)
  have hl2 := lg_arr hc hrun (k := k + 1) (by omega)
  have hj2 := hj
  unfold ln at hj2
  have ho := onA_bd hc (R := R) (k := k) (a := (c.lg R k).arr + j) (s := 0) hrun (by omega) (by omega) (by omega)
  unfold mo
  split
  ·omega
  ·rename_i h1
   have ih := mo_bd m (k + 1) ((c.onA R k ((c.lg R k).arr + j) 0).arr - (c.lg R (k + 1)).arr).toNat (by omega) (by omega)
   split
   ·omega
   ·split <;> omega
theorem mo_iff : ∀ (m k j : Nat) (s : Int), k + m + 1 = c.n → 0 ≤ s → ((j < c.ln R k ∧ s ≤ c.mo R m k j) ↔ c.ra R k ((c.lg R k).arr + j) s (m + 1) = 0)
 | 0, k, j, s, hk, hs => by
  have hl := lg_arr hc hrun (k := k) (by omega)
  rw [ra_front]
  show _ ↔ (if c.arE k ((c.lg R k).arr + j) s ≠ 0 then c.arE k ((c.lg R k).arr + j) s else 0) = 0
  have e : (if c.arE k ((c.lg R k).arr + j) s ≠ 0 then c.arE k ((c.lg R k).arr + j) s else 0) = c.arE k ((c.lg R k).arr + j) s := by
   split
   ·rfl
   ·rename_i h; exact (Decidable.of_not_not h).symm
  rw [e, arE_iff]
  unfold ln
  show (_ ∧ s ≤ c.ty.drv) ↔ _
  constructor
  ·intro h; exact ⟨by omega, h.2⟩
  ·intro h; exact ⟨by omega, h.2⟩
 | m + 1, k, j, s, hk, hs => by
  have hd := hc.drv
  have hl := lg_arr hc hrun (k := k) (by omega)
  have hl2 := lg_arr hc hrun (k := k + 1) (by omega)
  rw [ra_front]
  have hm := (onA_mono hc (R := R) (k := k) (a := (c.lg R k).arr) (a' := (c.lg R k).arr + j) (s := (c.lg R k).sin) (s' := 0) (by omega)).1
  rw [onA_lg] at hm
  have eg : (c.onA R k ((c.lg R k).arr + j) s).arr = (c.onA R k ((c.lg R k).arr + j) 0).arr := rfl
  have es : (c.onA R k ((c.lg R k).arr + j) s).sin = gS s (R.getD (k + 1) false) + ((c.onA R k ((c.lg R k).arr + j) 0).arr - (c.onA R k ((c.lg R k).arr + j) 0).dep) := rfl
  have ea : (c.onA R k ((c.lg R k).arr + j) 0).arr = (c.lg R (k + 1)).arr + (((c.onA R k ((c.lg R k).arr + j) 0).arr - (c.lg R (k + 1)).arr).toNat : Nat) := by omega
  by_cases h1 : c.arE k ((c.lg R k).arr + j) s = 0
  ·rw [if_neg (fun h => h h1)]
   have h2 := arE_ok h1
   have ho := onA_bd hc (R := R) (k := k) (a := (c.lg R k).arr + j) (s := 0) hrun (by omega) (by omega) h2.1
   have hs2 : 0 ≤ gS s (R.getD (k + 1) false) + ((c.onA R k ((c.lg R k).arr + j) 0).arr - (c.onA R k ((c.lg R k).arr + j) 0).dep) := by unfold gS; split <;> omega
   have ih := mo_iff m (k + 1) ((c.onA R k ((c.lg R k).arr + j) 0).arr - (c.lg R (k + 1)).arr).toNat _ (by omega) hs2
   rw [← ea, ← es] at ih
   rw [eg, ← ih, es]
   have hj : j < c.ln R k := by unfold ln; omega
   rw [mo_succ]
   by_cases h3 : (c.onA R k ((c.lg R k).arr + j) 0).arr - (c.lg R (k + 1)).arr < 0 ∨ (c.ln R (k + 1) : Int) ≤ (c.onA R k ((c.lg R k).arr + j) 0).arr - (c.lg R (k + 1)).arr
   ·rw [if_pos h3]
    constructor
    ·intro h; omega
    ·intro h; omega
   ·rw [if_neg h3]
    by_cases h4 : R.getD (k + 1) false = false
    ·rw [if_pos h4, h4]
     show _ ↔ _ ∧ s + _ ≤ _
     constructor
     ·intro h; exact ⟨by omega, by omega⟩
     ·intro h; exact ⟨hj, by omega⟩
    ·rw [if_neg h4, show R.getD (k + 1) false = true by simpa using h4]
     show _ ↔ _ ∧ (0 : Int) + _ ≤ _
     split
     ·constructor
      ·intro h; omega
      ·intro h; omega
     ·constructor
      ·intro h; exact ⟨by omega, by omega⟩
      ·intro h; exact ⟨hj, h2.2⟩
  ·rw [if_pos h1]
   constructor
   ·intro h
    refine absurd (arE_yes ?_ ?_) h1
    ·have := h.1; unfold ln at this; omega
    ·have := (mo_bd hc hrun (m + 1) k j hk h.1).2; omega
   ·intro h; exact absurd h h1
theorem okD_iff {k : Nat} (hk : k < c.n) (j : Nat) : c.okD R k j ↔ j < c.ln R k ∧ (c.lg R k).sin + j ≤ c.mo R (c.n - 1 - k) k j := by
 have hl := lg_arr hc hrun hk
 unfold okD
 rw [mo_iff hc hrun (c.n - 1 - k) k j _ (by omega) (by omega), show c.n - 1 - k + 1 = c.n - k by omega]
end
def tmA (c : CrT) (R : List Bool) (k : Nat) (a s : Int) (i : Nat) : TmT := ⟨(c.stA R k a s i).1, c.bgA (k + i) (c.stA R k a s i).1, (c.onA R (k + i) (c.stA R k a s i).1 (c.stA R k a s i).2).dep, R.getD (k + i + 1) false⟩
def tmB (c : CrT) (R : List Bool) (k : Nat) (a s : Int) (i : Nat) : List TmT := (List.range (c.n - 1)).map fun j => if k ≤ j ∧ j < k + i then c.tmA R k a s (j - k) else c.tm R j
def afS (c : CrT) (R : List Bool) (k : Nat) (a s : Int) : ShT := ⟨R.getD 0 false, (c.lg R 0).dep, c.tmB R k a s (c.n - 1 - k), (c.stA R k a s (c.n - 1 - k)).1, c.mil R c.n⟩
theorem tmB_len (c : CrT) (R : List Bool) (k : Nat) (a s : Int) (i : Nat) : (c.tmB R k a s i).length = c.n - 1 := by unfold tmB; simp
theorem tmB_at {c : CrT} {R : List Bool} {k : Nat} {a s : Int} {i j : Nat} (h : j < c.n - 1) : (c.tmB R k a s i).getD j tm0 = if k ≤ j ∧ j < k + i then c.tmA R k a s (j - k) else c.tm R j := by
 unfold tmB
 rw [List.getD_eq_getElem?_getD, List.getElem?_map, List.getElem?_range h]
 rfl
theorem tmB_zero (c : CrT) (R : List Bool) (k : Nat) (a s : Int) : c.tmB R k a s 0 = (List.range (c.n - 1)).map (c.tm R) := by
 unfold tmB
 refine List.map_congr_left fun j _ => ?_
 rw [if_neg (by omega)]
theorem tmB_set {c : CrT} {R : List Bool} {k : Nat} {a s : Int} {i : Nat} (_h : k + i < c.n - 1) : (c.tmB R k a s i).set (k + i) (c.tmA R k a s i) = c.tmB R k a s (i + 1) := by
 apply ext_getD (d := tm0)
 ·rw [List.length_set, tmB_len, tmB_len]
 intro j hj
 rw [List.length_set, tmB_len] at hj
 rw [tmB_at hj, List.getD_eq_getElem?_getD, List.getElem?_set]
 by_cases h1 : k + i = j
 ·subst h1
  rw [if_pos rfl, if_pos (by rw [tmB_len]; omega), if_pos (by omega), show k + i - k = i by omega]
  rfl
 ·rw [if_neg h1, ← List.getD_eq_getElem?_getD, tmB_at hj]
  by_cases h2 : k ≤ j ∧ j < k + i
  ·rw [if_pos h2, if_pos (by omega)]
  ·rw [if_neg h2, if_neg (by omega)]
end CrT
end Go.Proofs.YtomebalolmabnaaGreatDoor.T



