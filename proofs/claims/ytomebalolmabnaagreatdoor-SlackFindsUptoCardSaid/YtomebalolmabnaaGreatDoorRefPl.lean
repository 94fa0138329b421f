/-
  DERIVED. RefPl: a part of the base of layer 13 (made by pack.py).
-/
import Derived.Test.YtomebalolmabnaaGreatDoorHE
import Derived.Test.YtomebalolmabnaaGreatDoorRefNet3
import Derived.Test.YtomebalolmabnaaGreatDoorNetOwn
/-! The walk of the specification's checkPlaces, for longer lists. -/
namespace Go.Proofs.YtomebalolmabnaaGreatDoor.T
open Go.RowKit
set_option maxRecDepth 8000

set_option maxHeartbeats 3200000 in
theorem refPlacesW_n (vp va : Value) (l : List ByteArray) (hl : l.length ≤ 2000000) (w : World) (hp : Ss w vp l) :
  Calls Tryz.prog 40 #[.agg #[vp, va]] w (ChkP (plF l l.length) w) := by
 obtain ⟨oa, c, rfl, ha⟩ := hp
 have HA := Lib.hid ha
 have HS : Hid (∀ k, plF l (k + 1) = plF l k ++ plf l k) := fun _ => rfl
 have HL := Lib.hid (plF_len l)
 have HE : Hid (plF l l.length = plF l l.length) := rfl
 have H0 : Hid (plF l 0 = plf0 l.length) := rfl
 have HQ := Lib.hid (fun s k (hk : k < l.length) => seen_step (s := s) hk)
 obtain ⟨i0, hi, hz0, hz1, hz2⟩ := infoF
 generalize hr : plF l l.length = r at HE ⊢
 clear HE
 have HE := Lib.hid hr
 clear hr ha
 generalize hn : l.length = n at *
 clear hn
 obtain ⟨W0, hW0⟩ : ∃ W0, w.alloc (.cells #[.slice oa n c, va] 25) = W0 := ⟨_, rfl⟩
 have B0 : Hid (Below w.heap.size w W0) := by show Below _ _ _; rw [← hW0]; exact below_alloc _ _
 have N0 : Hid (Nb W0 w.heap.size (.slice oa n c) va) := by show Nb _ _ _ _; rw [← hW0]; exact Nb.made w _ _
 have g0 := N0.out.c0
 have g1 := N0.out.c1
 have hsz0 : w.heap.size < W0.heap.size := by rw [← hW0]; simp
 go_enter Tryz.func40, Tryz.ntmps40
 go_upto_if 11 with fail
 clear hW0
 go_cut [3] from 8 to 62 (fun v wx => Hid (Gl W0.heap.size wx v (plf0 n)) ∧ Hid (Below W0.heap.size W0 wx))
 case first =>
  have HG0 : Hid (Gl W0.heap.size W0 (.slice none 0 0) []) := Gl.nil _ _
  by_cases h : 24 < n
  ·have h2 : (24 : Int) < (n : Int) := by omega
   have HF : Hid (plf0 n = [] ++ [(4, sPlaces)]) := by show _ = _; unfold plf0; rw [if_pos h]; rfl
   unfold sPlaces at HF
   go_wp2_with (at_builtin; refine wpList_append_own _ rfl _ _ 51 rfl W0.heap.size 101 i0 (.agg #[.int .i64 0, .string ⟨#[]⟩]) 2 24 Tryz.underlying51 hi hz0 hz1 hz2 rfl (by decide) _ _ _ rfl (World.ownsRow.alloc HG0.out.own _) ⟨W0.heap.size, 0, none⟩ 1 1 [.int .i64 4, .string ⟨#[112, 108, 97, 99, 101, 115]⟩] rfl rfl ?q1 ?q2 ?q3 ?q4 ?q5 ?_)
   case q1 => exact two_new _ _ _ _
   case q2 => exact fcells _ _
   case q3 => decide
   case q4 => decide
   case q5 => simp
   intro v3 w3 hown hgrow _
   go_wp2_with fail
   go_meet
   case rel => exact ⟨HF.out ▸ Gl.more hown, (below_alloc W0 (.cells #[.int .i64 4, .string ⟨#[112, 108, 97, 99, 101, 115]⟩] 101)).grown hgrow (by simp) (fun k hk => by cases hk)⟩
  ·have h2 : ¬ (24 : Int) < (n : Int) := by omega
   have HF : Hid (plf0 n = []) := by show _ = _; unfold plf0; rw [if_neg h]
   go_wp2_with fail
   go_meet
   case rel => exact ⟨HF.out ▸ HG0.out, Below.refl _ _⟩
 clear g0 g1
 obtain ⟨HG, HB⟩ := hcut
 rw [← H0.out] at HG
 have g0 := (N0.out.below HB.out).c0
 have g1 := (N0.out.below HB.out).c1
 go_wp2_with fail
 go_loopg [3, 4] n (fun g v i wr => ∃ k : Nat, k ≤ n ∧ i = .int .i64 k ∧ n - k ≤ g ∧ Hid (Gl W0.heap.size wr v (plF l k)) ∧ Hid (Below W0.heap.size W0 wr))
 case atStart => exact ⟨0, Nat.zero_le _, rfl, Nat.le_refl _, HG, HB⟩
 case round =>
  clear HG HB g0 g1
  obtain ⟨k, hk, rfl, hg, HG, HW⟩ := hrel
  have g0 := (N0.out.below HW.out).c0
  have g1 := (N0.out.below HW.out).c1
  by_cases hlt : k < n
  ·obtain ⟨a, rfl, hab, hc0⟩ := HA.out k hlt
   have HL2 := HL.out k
   have HS2 : Hid (plF l (k + 1) = plF l k ++ plf l k) := HS.out k
   have KD := Lib.hid (fun w => decimal_n k (by omega) w)
   have hds := dec_size (k := k) (by omega)
   obtain ⟨s, hs⟩ : ∃ s, l.getD k ⟨#[]⟩ = s := ⟨_, rfl⟩
   have HSS := Lib.hid hs
   have KN := Lib.hid (fun w => refName_n s w)
   rw [hs] at hc0
   clear hs
   have HC := Lib.hid hc0
   have hab2 : a.block < W0.heap.size := Nat.lt_of_lt_of_le hab B0.out.size
   have HC0 := Lib.hid ((B0.out.cell (p := a.add k) (by rw [add_block]; exact hab)).trans HC.out)
   clear hc0 HC hab
   have hkI : (k : Int) < (n : Int) := by omega
   go_wp2_with fail
   refine (KD.out _).mono ?_
   rintro e w1 ⟨rfl, b1⟩
   have HB1 := Lib.hid (over HW.out b1)
   have HG1 := Lib.hid (HG.out.frame b1)
   have d0 := (HB1.out.cell (p := a.add k) (by rw [add_block]; exact hab2)).trans HC0.out
   clear b1 g0 g1 HG HW
   have hsz1 := HB1.out.size
   have g0 := (N0.out.below HB1.out).c0
   have g1 := (N0.out.below HB1.out).c1
   go_wp2_with fail
   refine (KN.out _).mono ?_
   rintro e w2 ⟨rfl, rfl⟩
   cases hnm : nmB s
   ·have HF : Hid (plf l k = [(5, placeS k)]) := plf_no HSS.out hnm
    clear hnm
    go_wp2_with (at_builtin; refine wpList_append_own _ rfl _ _ 51 rfl W0.heap.size 101 i0 (.agg #[.int .i64 0, .string ⟨#[]⟩]) 2 24 Tryz.underlying51 hi hz0 hz1 hz2 rfl (by decide) _ _ _ rfl (World.ownsRow.alloc HG1.out.own _) ⟨w1.heap.size, 0, none⟩ 1 1 [.int .i64 5, .string (⟨#[112, 108, 97, 99, 101, 32]⟩ ++ dec k)] rfl rfl ?q1 ?q2 ?q3 ?q4 ?q5 ?_)
    case q1 => exact two_new _ _ _ _
    case q2 => exact fcells _ _
    case q3 => unfold maxLen; omega
    case q4 => omega
    case q5 => simp; omega
    intro v3 w3 hown hgrow _
    have HG3 : Hid (Gl W0.heap.size w3 v3 (plF l (k + 1))) := by show Gl _ _ _ _; rw [HS2.out, HF.out]; exact Gl.more hown
    have HB3 : Hid (Below W0.heap.size W0 w3) := (HB1.out.alloc (by omega) _).grown hgrow (by simp; omega) (HG1.out.blk)
    clear hown hgrow d0 g0 g1
    go_wp2_with fail
    go_roundg (n - (k + 1))
    case measure => omega
    case rel => exact ⟨k + 1, by omega, by go_num, by omega, HG3, HB3⟩
   ·clear g0 g1 d0
    have HN1 : Hid (nmB s = true) := hnm
    clear hnm
    go_wp2_with fail
    go_loopw [6, 7] (fun t i wx => ∃ j : Nat, j ≤ k ∧ i = .int .i64 j ∧ t = .bool (seen l s j) ∧ Hid (Below w1.heap.size w1 wx)) (fun _ i _ => k - (intOf i).toNat)
    case atStart => exact ⟨0, Nat.zero_le _, rfl, rfl, Below.refl _ _⟩
    case round =>
     obtain ⟨j, hj, rfl, rfl, HV⟩ := hrel
     have HBj := Lib.hid (over HB1.out HV.out)
     have g0 := (N0.out.below HBj.out).c0
     have g1 := (N0.out.below HBj.out).c1
     by_cases hjk : j < k
     ·obtain ⟨a', ha', hab', hc'⟩ := HA.out j (by omega)
      obtain rfl : a = a' := by simpa using ha'
      have d0 := (HBj.out.cell (p := a.add k) (by rw [add_block]; exact hab2)).trans HC0.out
      have d1 := (HBj.out.cell (p := a.add j) (by rw [add_block]; exact hab2)).trans ((B0.out.cell (p := a.add j) (by rw [add_block]; exact hab')).trans hc')
      have HQ2 := Lib.hid (HQ.out s j (by omega))
      clear hc' ha'
      generalize l.getD j ⟨#[]⟩ = x at *
      have hjI : (j : Int) < (k : Int) := by omega
      have hjn : (j : Int) < (n : Int) := by omega
      cases hse : seen l s j
      ·rw [hse] at HQ2
       go_wp2_with fail
       go_quiet (fail)
       go_wp2_with fail
       go_roundw
       case rel => exact ⟨j + 1, by omega, by go_num, by rw [HQ2.out, Bool.false_or], below_drewN HV.out _⟩
       case measure => simp [intOf]; omega
      ·rw [hse] at HQ2
       go_wp2_with fail
       go_quiet (fail)
       go_wp2_with fail
       go_roundw
       case rel => exact ⟨j + 1, by omega, by go_num, by rw [HQ2.out]; rfl, below_drewN HV.out _⟩
       case measure => simp [intOf]; omega
     ·have hj' : j = k := by omega
      subst hj'
      have HGj := Lib.hid (HG1.out.frame HV.out)
      have hszj := HBj.out.size
      cases hse : seen l s j
      ·have HF : Hid (plf l j = []) := plf_new HSS.out HN1.out hse
       have HG3 : Hid (Gl W0.heap.size wr u3 (plF l (j + 1))) := by show Gl _ _ _ _; rw [HS2.out, HF.out, List.append_nil]; exact HGj.out
       clear hse
       go_wp2_with fail
       go_roundg (n - (j + 1))
       case measure => omega
       case rel => exact ⟨j + 1, by omega, by go_num, by omega, HG3, HBj⟩
      ·have HF : Hid (plf l j = [(6, placeS j)]) := plf_seen HSS.out HN1.out hse
       clear hse
       go_wp2_with (at_builtin; refine wpList_append_own _ rfl _ _ 51 rfl W0.heap.size 101 i0 (.agg #[.int .i64 0, .string ⟨#[]⟩]) 2 24 Tryz.underlying51 hi hz0 hz1 hz2 rfl (by decide) _ _ _ rfl (World.ownsRow.alloc HGj.out.own _) ⟨wr.heap.size, 0, none⟩ 1 1 [.int .i64 6, .string (⟨#[112, 108, 97, 99, 101, 32]⟩ ++ dec j)] rfl rfl ?q1 ?q2 ?q3 ?q4 ?q5 ?_)
       case q1 => exact two_new _ _ _ _
       case q2 => exact fcells _ _
       case q3 => unfold maxLen; omega
       case q4 => omega
       case q5 => simp; omega
       intro v3 w3 hown hgrow _
       have HG3 : Hid (Gl W0.heap.size w3 v3 (plF l (j + 1))) := by show Gl _ _ _ _; rw [HS2.out, HF.out]; exact Gl.more hown
       have HB3 : Hid (Below W0.heap.size W0 w3) := (HBj.out.alloc (by omega) _).grown hgrow (by simp; omega) (HGj.out.blk)
       clear hown hgrow g0 g1
       go_wp2_with fail
       go_roundg (n - (j + 1))
       case measure => omega
       case rel => exact ⟨j + 1, by omega, by go_num, by omega, HG3, HB3⟩
  ·have hk' : k = n := by omega
   subst hk'
   have HR := Lib.hid HE.out
   go_wp2_with fail
   go_ret
   exact chkP (HR.out ▸ HG.out) (over B0.out HW.out) (Nat.le_of_lt hsz0)

end Go.Proofs.YtomebalolmabnaaGreatDoor.T




