/-
 DERIVED. KWF: a part of the base of layer 13 (made by pack.py).
-/
import Derived.Test.YtaallpebfcadjaaGreatDoorKPR
import Derived.Test.YtaallpebfcadjaaGreatDoorKPK
import Derived.Test.YtaallpebfcadjaaGreatDoorKWA
import Derived.Laws.AppendOwnNone
import Derived.Laws.OwnMore
import Derived.Maps.AppendAt
import Derived.Deep.DeepCutAuto
import Derived.Deep.Cut
import Derived.Deep.CutRange
import Derived.Lib.ItoaNum
import Derived.Test.YtaallpebfcadjaaGreatDoorRows
import Derived.WalkKit
import Derived.WalkSpells
import Derived.WalkLawsBesides
import Derived.WalkMore
import Derived.Below
import Derived.OwnWalk
import Derived.IntWalk
import Derived.Laws.AppendOwn
import Derived.Deep.AppendLies
import Derived.Deep.Draws
import Derived.Deep.QuietTactic
import Derived.Deep.RegionLaw
import Derived.Deep.RegionWith
import Derived.BigQuiet
import Derived.Lib.Hide
import Derived.WalkSmall
import Derived.Deep.Onto
import Derived.Deep.LoopGhost
import Derived.Handy
import Derived.Test.YtaallpebfcadjaaGreatDoorShelf
import Derived.Shelf.Abstract
import Derived.Test.YtaallpebfcadjaaGreatDoorKPC
import Derived.Test.YtaallpebfcadjaaGreatDoorKWE
/-! Stops in memory, and what the functions of window answer, in plain numbers. -/
namespace Go.Proofs.YtaallpebfcadjaaGreatDoor.V
open Go.RowKit
set_option maxRecDepth 8000
section
variable {w w' : World} {n : Nat} {p o c s : Int}
end
theorem none_iff (p o c s : Int) : noneB p o c s = true ↔ p = -1 ∧ o = 0 ∧ c = 0 ∧ s = 0 := by unfold noneB; rw [decide_eq_true_iff]
theorem chk_at {p o c s : Int} (h : 0 ≤ p ∧ 0 ≤ o ∧ o ≤ c ∧ c ≤ 4096 ∧ 0 ≤ s ∧ s ≤ 4096) : chk p o c s = 0 := by
 unfold chk; rw [(at_iff p o c s).2 h, Bool.or_true]; rfl
theorem chk_none {p o c s : Int} (h : p = -1 ∧ o = 0 ∧ c = 0 ∧ s = 0) : chk p o c s = 0 := by
 unfold chk; rw [(none_iff p o c s).2 h, Bool.true_or]; rfl
theorem chk_no {p o c s : Int} (h : ¬ (p = -1 ∧ o = 0 ∧ c = 0 ∧ s = 0)) (h2 : ¬ (0 ≤ p ∧ 0 ≤ o ∧ o ≤ c ∧ c ≤ 4096 ∧ 0 ≤ s ∧ s ≤ 4096)) : chk p o c s = 2 := by
 unfold chk noneB atB; rw [decide_eq_false h, decide_eq_false h2]; rfl
end Go.Proofs.YtaallpebfcadjaaGreatDoor.V
namespace Go.Proofs.YtaallpebfcadjaaGreatDoor.V
open Go.RowKit
set_option maxRecDepth 8000
set_option maxHeartbeats 800000 in
theorem refCheck_n (p o c s : Int) (w : World) : Calls Tryz.prog 115 #[.agg #[.int .i64 p, .int .i64 o, .int .i64 c, .int .i64 s]] w fun e w' => e = .returned (.int .i64 (chk p o c s)) ∧ Below w.heap.size w w' := by
 by_cases h0 : p = -1
 ·subst h0
  by_cases h1 : o = 0
  ·subst h1
   by_cases h2 : c = 0
   ·subst h2
    by_cases h3 : s = 0
    ·subst h3
     have HR : Hid (0 = chk (-1) 0 0 0) := (chk_none ⟨rfl, rfl, rfl, rfl⟩).symm
     generalize chk (-1) 0 0 0 = r at *
     go_enter Tryz.func115, Tryz.ntmps115
     go_wp2_with fail
     go_ret
     exact ⟨ret_int HR.out, by go_grown⟩
    ·have HR : Hid (2 = chk (-1) 0 0 s) := (chk_no (by omega) (by omega)).symm
     have e3 := ne_eqI h3
     generalize chk (-1) 0 0 s = r at *
     go_enter Tryz.func115, Tryz.ntmps115
     go_wp2_with fail
     go_ret
     exact ⟨ret_int HR.out, by go_grown⟩
   ·have HR : Hid (2 = chk (-1) 0 c s) := (chk_no (by omega) (by omega)).symm
    have e3 := ne_eqI h2
    generalize chk (-1) 0 c s = r at *
    go_enter Tryz.func115, Tryz.ntmps115
    go_wp2_with fail
    go_ret
    exact ⟨ret_int HR.out, by go_grown⟩
  ·have HR : Hid (2 = chk (-1) o c s) := (chk_no (by omega) (by omega)).symm
   have e3 := ne_eqI h1
   generalize chk (-1) o c s = r at *
   go_enter Tryz.func115, Tryz.ntmps115
   go_wp2_with fail
   go_ret
   exact ⟨ret_int HR.out, by go_grown⟩
 ·have e0 := ne_eqI h0
  by_cases h1 : p < 0
  ·have HR : Hid (2 = chk p o c s) := (chk_no (by omega) (by omega)).symm
   generalize chk p o c s = r at *
   go_enter Tryz.func115, Tryz.ntmps115
   go_wp2_with fail
   go_ret
   exact ⟨ret_int HR.out, by go_grown⟩
  ·by_cases h2 : o < 0
   ·have HR : Hid (2 = chk p o c s) := (chk_no (by omega) (by omega)).symm
    generalize chk p o c s = r at *
    go_enter Tryz.func115, Tryz.ntmps115
    go_wp2_with fail
    go_ret
    exact ⟨ret_int HR.out, by go_grown⟩
   ·by_cases h3 : c < o
    ·have HR : Hid (2 = chk p o c s) := (chk_no (by omega) (by omega)).symm
     generalize chk p o c s = r at *
     go_enter Tryz.func115, Tryz.ntmps115
     go_wp2_with fail
     go_ret
     exact ⟨ret_int HR.out, by go_grown⟩
    ·by_cases h4 : 4096 < c
     ·have HR : Hid (2 = chk p o c s) := (chk_no (by omega) (by omega)).symm
      generalize chk p o c s = r at *
      go_enter Tryz.func115, Tryz.ntmps115
      go_wp2_with fail
      go_ret
      exact ⟨ret_int HR.out, by go_grown⟩
     ·by_cases h5 : s < 0
      ·have HR : Hid (2 = chk p o c s) := (chk_no (by omega) (by omega)).symm
       generalize chk p o c s = r at *
       go_enter Tryz.func115, Tryz.ntmps115
       go_wp2_with fail
       go_ret
       exact ⟨ret_int HR.out, by go_grown⟩
      ·by_cases h6 : 4096 < s
       ·have HR : Hid (2 = chk p o c s) := (chk_no (by omega) (by omega)).symm
        generalize chk p o c s = r at *
        go_enter Tryz.func115, Tryz.ntmps115
        go_wp2_with fail
        go_ret
        exact ⟨ret_int HR.out, by go_grown⟩
       ·have HR : Hid (0 = chk p o c s) := (chk_at (by omega)).symm
        generalize chk p o c s = r at *
        go_enter Tryz.func115, Tryz.ntmps115
        go_wp2_with fail
        go_ret
        exact ⟨ret_int HR.out, by go_grown⟩
end Go.Proofs.YtaallpebfcadjaaGreatDoor.V
namespace Go.Proofs.YtaallpebfcadjaaGreatDoor.L
open Go.RowKit
set_option maxRecDepth 8000
theorem all_drop {l : List Int} {p : Int → Bool} {k : Nat} (h : k < l.length) : (l.drop k).all p = (p (l.getD k 0) && (l.drop (k + 1)).all p) := by
 rw [drop_more (d := 0) h, List.all_cons]
theorem refRight_len (l : List Int) (d : Int) (oa : Option Addr) (c : Nat) (h : (l.length : Int) ≠ d) (w : World) :
  Calls Tryz.prog 113 #[.slice oa l.length c, .int .i64 d] w fun e w' => e = .returned (.bool (rightB l d)) ∧ w = w' := by
 have HR : Hid (false = rightB l d) := by show _ = _; unfold rightB; rw [decide_eq_false h]; rfl
 have hne := ne_neI h
 generalize rightB l d = r at *
 generalize l.length = n at *
 go_enter Tryz.func113, Tryz.ntmps113
 go_wp2_with fail
 go_ret
 exact ⟨ret_bool HR.out, rfl⟩
theorem inRange_eq (x : Int) : inRange x = (decide (0 ≤ x) && decide (x ≤ 1000)) := rfl
theorem refRight_n (u : Value) (l : List Int) (d : Int) (hl9 : l.length ≤ 1000000000000000) (w : World) (hu : Li w u l) :
  Calls Tryz.prog 113 #[u, .int .i64 d] w fun e w' => e = .returned (.bool (rightB l d)) ∧ w = w' := by
 obtain ⟨oa, c, rfl, ha⟩ := hu
 by_cases h : (l.length : Int) = d
 ·subst h
  have HR : Hid (l.all inRange = rightB l l.length) := by show _ = _; unfold rightB; rw [decide_eq_true rfl]; rfl
  generalize rightB l l.length = r at *
  have HS := Lib.hid (fun k (h : k < l.length) => all_drop (p := inRange) h)
  have HE : Hid ((l.drop l.length).all inRange = true) := by show _ = _; rw [List.drop_length]; rfl
  have HA := Lib.hid ha
  generalize hn : l.length = n at *
  have hne : ((n : Int) != (n : Int)) = false := by simp
  clear ha hn
  go_enter Tryz.func113, Tryz.ntmps113
  go_wp2_with fail
  go_loop [5] (fun i => ∃ k : Nat, k ≤ n ∧ i = .int .i64 k ∧ Hid ((l.drop k).all inRange = r)) (fun i => n - (intOf i).toNat)
  case atStart => exact ⟨0, Nat.zero_le _, rfl, HR⟩
  case round =>
   clear HR
   obtain ⟨k, hk, rfl, HR⟩ := hrel
   by_cases hlt : k < n
   ·obtain ⟨ad, rfl, hab, hc⟩ := HA.out k hlt
    have HS2 := Lib.hid (HS.out k hlt)
    have HP2 := Lib.hid (inRange_eq (l.getD k 0))
    generalize l.getD k 0 = x at *
    by_cases h1 : x < 0
    ·have hf : Hid (false = r) := by show _ = _; rw [← HR.out, HS2.out, HP2.out]; simp; omega
     go_wp2_with fail
     go_ret
     exact ⟨ret_bool hf.out, rfl⟩
    ·by_cases h2 : 1000 < x
     ·have hf : Hid (false = r) := by show _ = _; rw [← HR.out, HS2.out, HP2.out]; simp; omega
      go_wp2_with fail
      go_ret
      exact ⟨ret_bool hf.out, rfl⟩
     ·have hf : Hid ((l.drop (k + 1)).all inRange = r) := by
       show _ = _
       rw [← HR.out, HS2.out, HP2.out, decide_eq_true (show 0 ≤ x by omega), decide_eq_true (show x ≤ 1000 by omega)]; rfl
      go_wp2_with fail
      go_round
      case rel => exact ⟨k + 1, by omega, by go_num, hf⟩
      case measure => simp [intOf]; omega
   ·have hk' : k = n := by omega
    subst hk'
    have hf : Hid (true = r) := by show _ = _; rw [← HR.out, HE.out]
    go_wp2_with fail
    go_ret
    exact ⟨ret_bool hf.out, rfl⟩
 ·exact refRight_len l d oa c h w
end Go.Proofs.YtaallpebfcadjaaGreatDoor.L
namespace Go.Proofs.YtaallpebfcadjaaGreatDoor.T
theorem sameO_refl (a : OrT) : sameO a a = true := by unfold sameO; simp
end Go.Proofs.YtaallpebfcadjaaGreatDoor.T
namespace Go.Proofs.YtaallpebfcadjaaGreatDoor.T
open Go.RowKit
set_option maxRecDepth 8000
def vE (f : Int × Bool) : Value := .int .i64 f.1
section
variable {P : Program} {w : World}
end
end Go.Proofs.YtaallpebfcadjaaGreatDoor.T
namespace Go.Proofs.YtaallpebfcadjaaGreatDoor.T
open Go.RowKit
set_option maxRecDepth 8000
theorem in_n_O (x lo hi : Int) (w : World) : Calls Tryz.prog 114 #[.int .i64 x, .int .i64 lo, .int .i64 hi] w fun e w' => e = .returned (.bool (rgB lo hi x)) ∧ w = w' := by
 by_cases h1 : lo ≤ x
 ·have HR : Hid (decide (x ≤ hi) = rgB lo hi x) := by show _ = _; unfold rgB; rw [decide_eq_true h1, Bool.true_and]
  generalize rgB lo hi x = r at *
  go_enter Tryz.func114, Tryz.ntmps114
  go_wp2_with fail
  go_ret
  exact ⟨ret_bool HR.out, rfl⟩
 ·have HR : Hid (false = rgB lo hi x) := by show _ = _; unfold rgB; rw [decide_eq_false h1, Bool.false_and]
  have h2 : x < lo := by omega
  generalize rgB lo hi x = r at *
  go_enter Tryz.func114, Tryz.ntmps114
  go_wp2_with fail
  go_ret
  exact ⟨ret_bool HR.out, rfl⟩
end Go.Proofs.YtaallpebfcadjaaGreatDoor.T
namespace Go.Proofs.YtaallpebfcadjaaGreatDoor.T
open Go.RowKit
set_option maxRecDepth 8000
set_option maxHeartbeats 1600000 in
theorem refSameI_n (u v : Value) (a b : List Int) (ha9 : a.length ≤ 9223372036854775807) (hb9 : b.length ≤ 9223372036854775807) (w : World) (hu : L.Li w u a) (hv : L.Li w v b) :
  Calls Tryz.prog 77 #[u, v] w fun e w' => e = .returned (.bool (a == b)) ∧ Below w.heap.size w w' := by
 obtain ⟨oa, ca, rfl, ha⟩ := hu
 obtain ⟨ob, cb, rfl, hb⟩ := hv
 obtain ⟨r, hr⟩ : ∃ r, (a == b) = r := ⟨_, rfl⟩
 rw [hr]
 have HE := Lib.hid hr
 clear hr
 by_cases hl : a.length = b.length
 ·have HA := Lib.hid ha
  have HB := Lib.hid hb
  generalize hn : a.length = n at *
  generalize hn' : b.length = n' at *
  subst hl
  have HN := Lib.hid hn
  have HN' := Lib.hid hn'
  clear hn hn' ha hb
  have hne : ((n : Int) != (n : Int)) = false := by simp
  go_enter Tryz.func77, Tryz.ntmps77
  go_wp2_with fail
  go_loopg [5] n (fun g i wr => ∃ k : Nat, k ≤ n ∧ i = .int .i64 k ∧ n - k ≤ g ∧ Hid (∀ j, j < k → a.getD j 0 = b.getD j 0) ∧ Hid (Below w.heap.size w wr))
  case atStart => exact ⟨0, Nat.zero_le _, rfl, Nat.le_refl _, fun j hj => absurd hj (Nat.not_lt_zero _), Below.refl _ _⟩
  case round =>
   obtain ⟨k, hk, rfl, hg, HQ, HW⟩ := hrel
   by_cases hlt : k < n
   ·obtain ⟨a1, rfl, hab, x0⟩ := HA.out k hlt
    obtain ⟨b1, rfl, hbb, y0⟩ := HB.out k hlt
    have x1 := (HW.out.cell (p := a1.add k) (by rw [L.add_block]; exact hab)).trans x0
    have y1 := (HW.out.cell (p := b1.add k) (by rw [L.add_block]; exact hbb)).trans y0
    clear x0 y0
    have hkI : (k : Int) < (n : Int) := by omega
    by_cases he : a.getD k 0 = b.getD k 0
    ·have HQ2 : Hid (∀ j, j < k + 1 → a.getD j 0 = b.getD j 0) := fun j hj => by
      by_cases e : j = k
      ·subst e; exact he
      ·exact HQ.out j (by omega)
     rw [← he] at y1
     generalize a.getD k 0 = x at x1 y1
     clear he HQ
     go_wp2_with fail
     go_quiet (fail)
     go_wp2_with fail
     go_roundg (n - (k + 1))
     case measure => omega
     case rel => exact ⟨k + 1, by omega, by go_num, by omega, HQ2, below_drewN HW.out _⟩
    ·have HR : Hid (false = r) := by
      show _ = _
      rw [← HE.out]
      symm
      rw [beq_eq_false_iff_ne]; intro h; exact he (by rw [h])
     have hxy := ne_neI he
     generalize a.getD k 0 = x at x1 hxy
     generalize b.getD k 0 = y at y1 hxy
     clear he HQ HE
     go_wp2_with fail
     go_quiet (fail)
     go_wp2_with fail
     go_ret
     exact ⟨ret_bool HR.out, below_drewN HW.out _⟩
   ·have HR : Hid (true = r) := by
     show _ = _
     rw [← HE.out]
     symm
     rw [beq_iff_eq]
     exact caps_eq (HN.out.trans HN'.out.symm) fun j hj => HQ.out j (by have := HN.out; omega)
    have hkI : ¬ (k : Int) < (n : Int) := by omega
    clear HQ HE
    go_wp2_with fail
    go_ret
    exact ⟨ret_bool HR.out, HW.out⟩
 ·have hne := ne_neN hl
  have HR : Hid (false = r) := by
   show _ = _
   rw [← HE.out]
   symm
   rw [beq_eq_false_iff_ne]; intro h; exact hl (by rw [h])
  clear HE
  generalize a.length = n at *
  generalize b.length = n' at *
  go_enter Tryz.func77, Tryz.ntmps77
  go_wp2_with fail
  go_ret
  exact ⟨ret_bool HR.out, Below.refl _ _⟩
end Go.Proofs.YtaallpebfcadjaaGreatDoor.T

