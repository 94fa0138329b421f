/-
 DERIVED. KWC: a part of the base of layer 13 (made by pack.py).
-/
import Derived.Test.YtaallpebfcadjaaGreatDoorKPC
import Derived.Test.YtaallpebfcadjaaGreatDoorKWA
import Derived.Test.YtaallpebfcadjaaGreatDoorKWB
import Derived.Test.YtaallpebfcadjaaGreatDoorKPK
/-! The walk of the specification's checkPlaces, for longer lists. -/
namespace Go.Proofs.YtaallpebfcadjaaGreatDoor.T
open Go.RowKit
set_option maxRecDepth 8000
set_option maxHeartbeats 3200000 in
theorem refPlacesW_n (vp va : Value) (l : List ByteArray) (hl : l.length ≤ 2000000) (w : World) (hp : Ss w vp l) :
  Calls Tryz.prog 65 #[.agg #[vp, va]] w (ChkP (plF l l.length) w) := by
 obtain ⟨oa, c, rfl, ha⟩ := hp
 have HA := Lib.hid ha
 have HS : Hid (∀ k, plF l (k + 1) = plF l k ++ plf l k) := fun _ => rfl
 have HL := Lib.hid (plF_len l)
 have HE : Hid (plF l l.length = plF l l.length) := rfl
 have H0 : Hid (plF l 0 = plf0 l.length) := rfl
 have HQ := Lib.hid (fun s k (hk : k < l.length) => seen_step (s := s) hk)
 obtain ⟨i0, hi, hz0, hz1, hz2⟩ := infoF
 generalize hr : plF l l.length = r at HE ⊢
 clear HE
 have HE := Lib.hid hr
 clear hr ha
 generalize hn : l.length = n at *
 clear hn
 obtain ⟨W0, hW0⟩ : ∃ W0, w.alloc (.cells #[.slice oa n c, va] 25) = W0 := ⟨_, rfl⟩
 have B0 : Hid (Below w.heap.size w W0) := by show Below _ _ _; rw [← hW0]; exact below_alloc _ _
 have N0 : Hid (Nb W0 w.heap.size (.slice oa n c) va) := by show Nb _ _ _ _; rw [← hW0]; exact Nb.made w _ _
 have g0 := N0.out.c0
 have g1 := N0.out.c1
 have hsz0 : w.heap.size < W0.heap.size := by rw [← hW0]; simp
 go_enter Tryz.func65, Tryz.ntmps65
 go_upto_if 11 with fail
 clear hW0
 go_cut [3] from 8 to 62 (fun v wx => Hid (Gl W0.heap.size wx v (plf0 n)) ∧ Hid (Below W0.heap.size W0 wx))
 case first =>
  have HG0 : Hid (Gl W0.heap.size W0 (.slice none 0 0) []) := Gl.nil _ _
  by_cases h : 24 < n
  ·have h2 : (24 : Int) < (n : Int) := by omega
   have HF : Hid (plf0 n = [] ++ [(4, sPlaces)]) := by show _ = _; unfold plf0; rw [if_pos h]; rfl
   unfold sPlaces at HF
   go_wp2_with (at_builtin; refine wpList_append_own _ rfl _ _ 33 rfl W0.heap.size 37 i0 (.agg #[.int .i64 0, .string ⟨#[]⟩]) 2 24 Tryz.underlying33 hi hz0 hz1 hz2 rfl (by decide) _ _ _ rfl (World.ownsRow.alloc HG0.out.own _) ⟨W0.heap.size, 0, none⟩ 1 1 [.int .i64 4, .string ⟨#[112, 108, 97, 99, 101, 115]⟩] rfl rfl ?q1 ?q2 ?q3 ?q4 ?q5 ?_)
   case q1 => exact two_new _ _ _ _
   case q2 => exact fcells _ _
   case q3 => decide
   case q4 => decide
   case q5 => simp
   intro v3 w3 hown hgrow _
   go_wp2_with fail
   go_meet
   case rel => exact ⟨HF.out ▸ Gl.more hown, (below_alloc W0 (.cells #[.int .i64 4, .string ⟨#[112, 108, 97, 99, 101, 115]⟩] 37)).grown hgrow (by simp) (fun k hk => by cases hk)⟩
  ·have h2 : ¬ (24 : Int) < (n : Int) := by omega
   have HF : Hid (plf0 n = []) := by show _ = _; unfold plf0; rw [if_neg h]
   go_wp2_with fail
   go_meet
   case rel => exact ⟨HF.out ▸ HG0.out, Below.refl _ _⟩
 clear g0 g1
 obtain ⟨HG, HB⟩ := hcut
 rw [← H0.out] at HG
 have g0 := (N0.out.below HB.out).c0
 have g1 := (N0.out.below HB.out).c1
 go_wp2_with fail
 go_loopg [3, 4] n (fun g v i wr => ∃ k : Nat, k ≤ n ∧ i = .int .i64 k ∧ n - k ≤ g ∧ Hid (Gl W0.heap.size wr v (plF l k)) ∧ Hid (Below W0.heap.size W0 wr))
 case atStart => exact ⟨0, Nat.zero_le _, rfl, Nat.le_refl _, HG, HB⟩
 case round =>
  clear HG HB g0 g1
  obtain ⟨k, hk, rfl, hg, HG, HW⟩ := hrel
  have g0 := (N0.out.below HW.out).c0
  have g1 := (N0.out.below HW.out).c1
  by_cases hlt : k < n
  ·obtain ⟨a, rfl, hab, hc0⟩ := HA.out k hlt
   have HL2 := HL.out k
   have HS2 : Hid (plF l (k + 1) = plF l k ++ plf l k) := HS.out k
   have KD := Lib.hid (fun w => decimal_n k (by omega) w)
   have hds := dec_size (k := k) (by omega)
   obtain ⟨s, hs⟩ : ∃ s, l.getD k ⟨#[]⟩ = s := ⟨_, rfl⟩
   have HSS := Lib.hid hs
   have KN := Lib.hid (fun w => refName_n s w)
   rw [hs] at hc0
   clear hs
   have HC := Lib.hid hc0
   have hab2 : a.block < W0.heap.size := Nat.lt_of_lt_of_le hab B0.out.size
   have HC0 := Lib.hid ((B0.out.cell (p := a.add k) (by rw [add_block]; exact hab)).trans HC.out)
   clear hc0 HC hab
   have hkI : (k : Int) < (n : Int) := by omega
   go_wp2_with fail
   refine (KD.out _).mono ?_
   rintro e w1 ⟨rfl, b1⟩
   have HB1 := Lib.hid (over HW.out b1)
   have HG1 := Lib.hid (HG.out.frame b1)
   have d0 := (HB1.out.cell (p := a.add k) (by rw [add_block]; exact hab2)).trans HC0.out
   clear b1 g0 g1 HG HW
   have hsz1 := HB1.out.size
   have g0 := (N0.out.below HB1.out).c0
   have g1 := (N0.out.below HB1.out).c1
   go_wp2_with fail
   refine (KN.out _).mono ?_
   rintro e w2 ⟨rfl, rfl⟩
   cases hnm : nmB s
   ·have HF : Hid (plf l k = [(5, placeS k)]) := plf_no HSS.out hnm
    clear hnm
    go_wp2_with (at_builtin; refine wpList_append_own _ rfl _ _ 33 rfl W0.heap.size 37 i0 (.agg #[.int .i64 0, .string ⟨#[]⟩]) 2 24 Tryz.underlying33 hi hz0 hz1 hz2 rfl (by decide) _ _ _ rfl (World.ownsRow.alloc HG1.out.own _) ⟨w1.heap.size, 0, none⟩ 1 1 [.int .i64 5, .string (⟨#[112, 108, 97, 99, 101, 32]⟩ ++ dec k)] rfl rfl ?q1 ?q2 ?q3 ?q4 ?q5 ?_)
    case q1 => exact two_new _ _ _ _
    case q2 => exact fcells _ _
    case q3 => unfold maxLen; omega
    case q4 => omega
    case q5 => simp; omega
    intro v3 w3 hown hgrow _
    have HG3 : Hid (Gl W0.heap.size w3 v3 (plF l (k + 1))) := by show Gl _ _ _ _; rw [HS2.out, HF.out]; exact Gl.more hown
    have HB3 : Hid (Below W0.heap.size W0 w3) := (HB1.out.alloc (by omega) _).grown hgrow (by simp; omega) (HG1.out.blk)
    clear hown hgrow d0 g0 g1
    go_wp2_with fail
    go_roundg (n - (k + 1))
    case measure => omega
    case rel => exact ⟨k + 1, by omega, by go_num, by omega, HG3, HB3⟩
   ·clear g0 g1 d0
    have HN1 : Hid (nmB s = true) := hnm
    clear hnm
    go_wp2_with fail
    go_loopw [6, 7] (fun t i wx => ∃ j : Nat, j ≤ k ∧ i = .int .i64 j ∧ t = .bool (seen l s j) ∧ Hid (Below w1.heap.size w1 wx)) (fun _ i _ => k - (intOf i).toNat)
    case atStart => exact ⟨0, Nat.zero_le _, rfl, rfl, Below.refl _ _⟩
    case round =>
     obtain ⟨j, hj, rfl, rfl, HV⟩ := hrel
     have HBj := Lib.hid (over HB1.out HV.out)
     have g0 := (N0.out.below HBj.out).c0
     have g1 := (N0.out.below HBj.out).c1
     by_cases hjk : j < k
     ·obtain ⟨a', ha', hab', hc'⟩ := HA.out j (by omega)
      obtain rfl : a = a' := by simpa using ha'
      have d0 := (HBj.out.cell (p := a.add k) (by rw [add_block]; exact hab2)).trans HC0.out
      have d1 := (HBj.out.cell (p := a.add j) (by rw [add_block]; exact hab2)).trans ((B0.out.cell (p := a.add j) (by rw [add_block]; exact hab')).trans hc')
      have HQ2 := Lib.hid (HQ.out s j (by omega))
      clear hc' ha'
      generalize l.getD j ⟨#[]⟩ = x at *
      have hjI : (j : Int) < (k : Int) := by omega
      have hjn : (j : Int) < (n : Int) := by omega
      cases hse : seen l s j
      ·rw [hse] at HQ2
       go_wp2_with fail
       go_quiet (fail)
       go_wp2_with fail
       go_roundw
       case rel => exact ⟨j + 1, by omega, by go_num, by rw [HQ2.out, Bool.false_or], below_drewN HV.out _⟩
       case measure => simp [intOf]; omega
      ·rw [hse] at HQ2
       go_wp2_with fail
       go_quiet (fail)
       go_wp2_with fail
       go_roundw
       case rel => exact ⟨j + 1, by omega, by go_num, by rw [HQ2.out]; rfl, below_drewN HV.out _⟩
       case measure => simp [intOf]; omega
     ·have hj' : j = k := by omega
      subst hj'
      have HGj := Lib.hid (HG1.out.frame HV.out)
      have hszj := HBj.out.size
      cases hse : seen l s j
      ·have HF : Hid (plf l j = []) := plf_new HSS.out HN1.out hse
       have HG3 : Hid (Gl W0.heap.size wr u3 (plF l (j + 1))) := by show Gl _ _ _ _; rw [HS2.out, HF.out, List.append_nil]; exact HGj.out
       clear hse
       go_wp2_with fail
       go_roundg (n - (j + 1))
       case measure => omega
       case rel => exact ⟨j + 1, by omega, by go_num, by omega, HG3, HBj⟩
      ·have HF : Hid (plf l j = [(6, placeS j)]) := plf_seen HSS.out HN1.out hse
       clear hse
       go_wp2_with (at_builtin; refine wpList_append_own _ rfl _ _ 33 rfl W0.heap.size 37 i0 (.agg #[.int .i64 0, .string ⟨#[]⟩]) 2 24 Tryz.underlying33 hi hz0 hz1 hz2 rfl (by decide) _ _ _ rfl (World.ownsRow.alloc HGj.out.own _) ⟨wr.heap.size, 0, none⟩ 1 1 [.int .i64 6, .string (⟨#[112, 108, 97, 99, 101, 32]⟩ ++ dec j)] rfl rfl ?q1 ?q2 ?q3 ?q4 ?q5 ?_)
       case q1 => exact two_new _ _ _ _
       case q2 => exact fcells _ _
       case q3 => unfold maxLen; omega
       case q4 => omega
       case q5 => simp; omega
       intro v3 w3 hown hgrow _
       have HG3 : Hid (Gl W0.heap.size w3 v3 (plF l (j + 1))) := by show Gl _ _ _ _; rw [HS2.out, HF.out]; exact Gl.more hown
       have HB3 : Hid (Below W0.heap.size W0 w3) := (HBj.out.alloc (by omega) _).grown hgrow (by simp; omega) (HGj.out.blk)
       clear hown hgrow g0 g1
       go_wp2_with fail
       go_roundg (n - (j + 1))
       case measure => omega
       case rel => exact ⟨j + 1, by omega, by go_num, by omega, HG3, HB3⟩
  ·have hk' : k = n := by omega
   subst hk'
   have HR := Lib.hid HE.out
   go_wp2_with fail
   go_ret
   exact chkP (HR.out ▸ HG.out) (over B0.out HW.out) (Nat.le_of_lt hsz0)
end Go.Proofs.YtaallpebfcadjaaGreatDoor.T
namespace Go.Proofs.YtaallpebfcadjaaGreatDoor.T
open Go.RowKit
set_option maxRecDepth 8000
set_option maxHeartbeats 1600000 in
theorem refNet_n (vp va : Value) (pl : List ByteArray) (l : List ArcT) (hp9 : pl.length ≤ 2000000) (hl : l.length ≤ 1000000) (hw9 : wtA l ≤ 1000000) (w : World) (hp : Ss w vp pl) (ha : As w va l) :
  Calls Tryz.prog 30 #[.agg #[vp, va]] w (ChkP (netF pl l) w) := by
 have KP := Lib.hid (fun w hp => refPlacesW_n vp va pl hp9 w hp)
 have KA := Lib.hid (fun i (hi : i < l.length) w hp ha => refArc_n vp va pl l i hi hl (by have := wt_le hi; omega) (by have := wt_le hi; omega) w hp ha)
 have HP := Lib.hid hp
 have HA := Lib.hid ha
 have HS : Hid (∀ k, ntF pl l (k + 1) = ntF pl l k ++ arF pl.length l k) := fun _ => rfl
 have HL := Lib.hid (fun k (hk : k ≤ l.length) => ntF_len pl l k hk)
 have HLA := Lib.hid (fun k => arF_len pl.length l k)
 have HWT := Lib.hid (fun k => wt_take_le l k)
 have HWL := Lib.hid (fun k (hk : k < l.length) => wt_le hk)
 have HE : Hid (ntF pl l l.length = netF pl l) := rfl
 have H0 : Hid (ntF pl l 0 = plF pl pl.length ++ if 1024 < l.length then [(4, sArcs)] else []) := rfl
 have hpl9 := plF_len pl pl.length
 obtain ⟨op, cp, rfl, -⟩ := hp
 obtain ⟨oa, c, rfl, -⟩ := ha
 obtain ⟨i0, hi, hz0, hz1, hz2⟩ := infoF
 generalize netF pl l = r at *
 generalize hn : l.length = n at *
 generalize hnp : pl.length = np at *
 clear hn hnp
 obtain ⟨W0, hW0⟩ : ∃ W0, w.alloc (.cells #[.slice op np cp, .slice oa n c] 25) = W0 := ⟨_, rfl⟩
 have N0 := Lib.hid (Nb.made w (.slice op np cp) (.slice oa n c))
 have hb0 := below_alloc w (.cells #[.slice op np cp, .slice oa n c] 25)
 have hsz0 : w.heap.size < W0.heap.size := by rw [← hW0]; simp
 rw [hW0] at N0 hb0
 have B0 := Lib.hid hb0
 have HP0 := Lib.hid (HP.out.below hb0)
 have HA0 := Lib.hid (HA.out.below hb0)
 have g0 := N0.out.c0
 have g1 := N0.out.c1
 clear hb0 HP HA
 go_enter Tryz.func30, Tryz.ntmps30
 go_wp2_with fail
 refine (KP.out _ HP0.out).mono ?_
 rintro e w1 ⟨oL, cL, rfl, ⟨-, hGl, -⟩, b1⟩
 have HG := Lib.hid hGl
 have HB := Lib.hid b1
 have g0 := (N0.out.below b1).c0
 have g1 := (N0.out.below b1).c1
 clear hGl b1 KP hW0
 generalize plF pl np = F0 at *
 have hsz := HB.out.size
 go_upto_if 10 with fail
 go_cut [3] from 4 (fun v wx => Hid (Gl W0.heap.size wx v (ntF pl l 0)) ∧ Hid (Below W0.heap.size W0 wx))
 case first =>
  by_cases h : 1024 < n
  ·have h2 : (1024 : Int) < (n : Int) := by omega
   have HF : Hid (ntF pl l 0 = F0 ++ [(4, sArcs)]) := by show _ = _; rw [H0.out, if_pos h]
   unfold sArcs at HF
   go_wp2_with (at_builtin; refine wpList_append_own _ rfl _ _ 33 rfl W0.heap.size 37 i0 (.agg #[.int .i64 0, .string ⟨#[]⟩]) 2 24 Tryz.underlying33 hi hz0 hz1 hz2 rfl (by decide) _ _ _ rfl (World.ownsRow.alloc HG.out.own _) ⟨w1.heap.size, 0, none⟩ 1 1 [.int .i64 4, .string ⟨#[97, 114, 99, 115]⟩] rfl rfl (two_new _ _ _ _) (fcells _ _) (by unfold maxLen; omega) (by omega) (by simp <;> omega) ?_)
   intro v3 w3 hown hgrow _
   have HG3 : Hid (Gl W0.heap.size w3 v3 (ntF pl l 0)) := by show Gl _ _ _ _; rw [HF.out]; exact Gl.more hown
   have HB3 : Hid (Below W0.heap.size W0 w3) := (HB.out.alloc (by omega) _).grown hgrow (by simp <;> omega) (HG.out.blk)
   go_wp2_with fail
   go_meet
   case rel => exact ⟨HG3, HB3⟩
  ·have h2 : ¬ (1024 : Int) < (n : Int) := by omega
   have HX := Lib.hid (HG.out.ext (show F0 = ntF pl l 0 by rw [H0.out, if_neg h, List.append_nil]))
   go_wp2_with fail
   go_meet
   case rel => exact ⟨HX, HB⟩
 clear HG HB g0 g1 hsz
 obtain ⟨HG, HB⟩ := hcut
 have g0 := (N0.out.below HB.out).c0
 have g1 := (N0.out.below HB.out).c1
 go_wp2_with fail
 go_loopg [3, 4] n (fun g v j wx => ∃ k : Nat, k ≤ n ∧ j = .int .i64 k ∧ n - k ≤ g ∧ Hid (Gl W0.heap.size wx v (ntF pl l k)) ∧ Hid (Below W0.heap.size W0 wx))
 case atStart => exact ⟨0, Nat.zero_le _, rfl, Nat.le_refl _, HG, HB⟩
 case round =>
  clear HG HB g0 g1
  obtain ⟨k, hk, rfl, hg, HG, HB⟩ := hrel
  have g0 := (N0.out.below HB.out).c0
  have g1 := (N0.out.below HB.out).c1
  by_cases hlt : k < n
  ·have HPk := Lib.hid (HP0.out.below HB.out)
   have HAk := Lib.hid (HA0.out.below HB.out)
   have KAk := Lib.hid (fun w hp ha => KA.out k hlt w hp ha)
   have HSk := Lib.hid (HS.out k)
   have hl1 := HL.out k hk
   have hl2 := HLA.out k
   have hl3 := HWT.out k
   have hl4 := HWL.out k hlt
   generalize (l.getD k arc0).tr.length + (l.getD k arc0).sl.length = z at *
   generalize arF np l k = X at *
   go_wp2_with fail
   refine (KAk.out _ HPk.out HAk.out).mono ?_
   rintro e w2 ⟨oA, cA, rfl, ⟨hFs, -, hnil⟩, b2⟩
   have HB2 := Lib.hid (over HB.out b2)
   have HG2 := Lib.hid (HG.out.frame b2)
   have hsz := HB2.out.size
   clear b2 g0 g1 HG HB HPk HAk KAk
   cases oA with
   | none =>
    have hX := fs_nil hFs
    subst hX
    have hc := hnil rfl
    subst hc
    have HG3 := Lib.hid (HG2.out.ext (show ntF pl l k = ntF pl l (k + 1) by rw [HSk.out, List.append_nil]))
    clear hFs hnil
    go_wp2_with (at_builtin; refine wpList_append_own_none rfl _ _ 33 rfl W0.heap.size 37 i0 2 Tryz.underlying33 hi _ _ _ rfl HG2.out.own rfl ?_)
    go_wp2_with fail
    go_roundg (n - (k + 1))
    case measure => omega
    case rel => exact ⟨k + 1, by omega, by go_num, by omega, HG3, HB2⟩
   | some ad =>
    have HFs := Lib.hid hFs
    clear hFs hnil
    go_wp2_with (at_builtin; refine wpList_append_own _ rfl _ _ 33 rfl W0.heap.size 37 i0 (.agg #[.int .i64 0, .string ⟨#[]⟩]) 2 24 Tryz.underlying33 hi hz0 hz1 hz2 rfl (by decide) _ _ _ rfl HG2.out.own ad X.length cA (flat fE fA X) rfl (flat_len X) (fs_news HFs.out) (flat_cells X) (by unfold maxLen; omega) (by omega) (by omega) ?_)
    intro v3 w3 hown hgrow _
    have HG3 : Hid (Gl W0.heap.size w3 v3 (ntF pl l (k + 1))) := by show Gl _ _ _ _; rw [HSk.out]; exact Gl.onto hown
    have HB3 : Hid (Below W0.heap.size W0 w3) := HB2.out.grown hgrow (by omega) (HG2.out.blk)
    clear hown hgrow
    go_wp2_with fail
    go_roundg (n - (k + 1))
    case measure => omega
    case rel => exact ⟨k + 1, by omega, by go_num, by omega, HG3, HB3⟩
  ·have hk' : k = n := by omega
   subst hk'
   have HR : Hid (ntF pl l k = r) := HE.out
   go_wp2_with fail
   go_ret
   exact chkP (HR.out ▸ HG.out) (over B0.out HB.out) (Nat.le_of_lt hsz0)
end Go.Proofs.YtaallpebfcadjaaGreatDoor.T
namespace Go.Proofs.YtaallpebfcadjaaGreatDoor.T
open Go.RowKit
set_option maxRecDepth 8000
theorem same_refl (a : TyT) : sameT a a = true := by unfold sameT; simp
end Go.Proofs.YtaallpebfcadjaaGreatDoor.T
namespace Go.Proofs.YtaallpebfcadjaaGreatDoor.T
open Go.RowKit
set_option maxRecDepth 8000
theorem in_n (x lo hi : Int) (w : World) : Calls Tryz.prog 67 #[.int .i64 x, .int .i64 lo, .int .i64 hi] w fun e w' => e = .returned (.bool (rgB lo hi x)) ∧ w = w' := by
 by_cases h1 : lo ≤ x
 ·have HR : Hid (decide (x ≤ hi) = rgB lo hi x) := by show _ = _; unfold rgB; rw [decide_eq_true h1, Bool.true_and]
  generalize rgB lo hi x = r at *
  go_enter Tryz.func67, Tryz.ntmps67
  go_wp2_with fail
  go_ret
  exact ⟨ret_bool HR.out, rfl⟩
 ·have HR : Hid (false = rgB lo hi x) := by show _ = _; unfold rgB; rw [decide_eq_false h1, Bool.false_and]
  have h2 : x < lo := by omega
  generalize rgB lo hi x = r at *
  go_enter Tryz.func67, Tryz.ntmps67
  go_wp2_with fail
  go_ret
  exact ⟨ret_bool HR.out, rfl⟩
theorem refDims_n (v : Value) (l : List TyT) (hl : l.length ≤ 1000000000) (w : World) (hv : Ts w v l) :
  Calls Tryz.prog 33 #[v] w fun e w' => e = .returned (.int .i64 (dimsF l : Nat)) ∧ w = w' := by
 obtain ⟨oa, c, rfl, ha⟩ := hv
 by_cases h : l.length = 0
 ·have hl0 : l = [] := List.eq_nil_of_length_eq_zero h
  subst hl0
  go_enter Tryz.func33, Tryz.ntmps33
  go_wp2_with fail
  go_ret
  exact ⟨rfl, rfl⟩
 ·obtain ⟨b, o, vc, rfl, hb, ⟨h0, h1, h2, h3, h4, h5, h6, h7, h8, h9, h10, h11, h12, h13⟩, hc⟩ := ha 0 (by omega)
  obtain ⟨oc, cc, rfl, -⟩ := hc
  have hd : Hid ((l.getD 0 ty0).cap.length = dimsF l) := rfl
  have hne : ((l.length : Int) == 0) = false := ne_eqN h
  have hpos : (0 : Int) < (l.length : Int) := by omega
  simp only [Nat.zero_mul, Nat.add_zero] at h0 h1 h2 h3 h4 h5 h6 h7 h8 h9 h10 h11 h12 h13
  generalize dimsF l = d at *
  generalize (l.getD 0 ty0).cap.length = d' at *
  generalize l.length = n at *
  go_enter Tryz.func33, Tryz.ntmps33
  go_wp2_with fail
  go_ret
  exact ⟨ret_int (by rw [hd.out]), rfl⟩
theorem known_more {l : List TyT} {s : ByteArray} {k i : Nat} (hk : k ≤ i) (h : knownB l s k = true) : knownB l s i = true := by
 unfold knownB at *
 rw [List.any_eq_true] at *
 obtain ⟨x, hx, hp⟩ := h
 exact ⟨x, (List.take_subset_take_left l hk) hx, hp⟩
set_option maxHeartbeats 1600000 in
theorem refKnown_n (v : Value) (l : List TyT) (i : Nat) (s : ByteArray) (hl : l.length ≤ 1000000000) (hi : i ≤ l.length) (w : World) (hv : Ts w v l) :
  Calls Tryz.prog 111 #[v, .int .i64 i, .string s] w fun e w' => e = .returned (.bool (knownB l s i)) ∧ Below w.heap.size w w' := by
 obtain ⟨oa, c, rfl, ha⟩ := hv
 have HA := Lib.hid ha
 have HS := Lib.hid (fun k (hk : k < l.length) => known_step (s := s) hk)
 have HM := Lib.hid (fun k (hk : k ≤ i) h => known_more (l := l) (s := s) hk h)
 have H0 := Lib.hid (known_zero l s)
 have HE : Hid (knownB l s i = knownB l s i) := rfl
 generalize hr : knownB l s i = r at HE HM ⊢
 clear HE
 have HE := Lib.hid hr
 generalize hn : l.length = n at *
 clear ha hn hr
 go_enter Tryz.func111, Tryz.ntmps111
 go_wp2_with fail
 go_loopw [7] (fun j wr => ∃ k : Nat, k ≤ i ∧ j = .int .i64 k ∧ Hid (knownB l s k = false) ∧ Hid (Below w.heap.size w wr)) (fun j _ => i - (intOf j).toNat)
 case atStart => exact ⟨0, Nat.zero_le _, rfl, H0, Below.refl _ _⟩
 case round =>
  obtain ⟨k, hk, rfl, HK, HW⟩ := hrel
  by_cases hlt : k < i
  ·obtain ⟨b, o, vc, rfl, hab, ⟨h0, -⟩, -⟩ := HA.out k (by omega)
   have d0 := (HW.out.cell (p := ⟨b, _, none⟩) hab).trans h0
   have hkI : (k : Int) < (i : Int) := by omega
   have hkN : (k : Int) < (n : Int) := by omega
   have HSk := Lib.hid (HS.out k (by omega))
   have HMk := Lib.hid (HM.out (k + 1) (by omega))
   clear h0
   generalize (l.getD k ty0).name = x at *
   rw [HK.out, Bool.false_or] at HSk
   cases hx : (x.toList == s.toList)
   ·have HK1 : Hid (knownB l s (k + 1) = false) := by show _ = _; rw [HSk.out, hx]
    go_wp2_with fail
    go_roundw
    case rel => exact ⟨k + 1, by omega, by go_num, HK1, HW⟩
    case measure => simp [intOf] <;> omega
   ·have HR : Hid (r = true) := HMk.out (by rw [HSk.out, hx])
    go_wp2_with fail
    go_ret
    exact ⟨ret_bool (by rw [HR.out]), HW.out⟩
  ·have hk' : k = i := by omega
   subst hk'
   have HR : Hid (r = false) := by show _ = _; rw [← HE.out, HK.out]
   go_wp2_with fail
   go_ret
   exact ⟨ret_bool (by rw [HR.out]), HW.out⟩
end Go.Proofs.YtaallpebfcadjaaGreatDoor.T
namespace Go.Proofs.YtaallpebfcadjaaGreatDoor.T
open Go.RowKit
set_option maxRecDepth 8000
theorem all_step {l : List Int} {k : Nat} (h : k < l.length) (p : Int → Bool) : (l.take (k + 1)).all p = ((l.take k).all p && p (l.getD k 0)) := by
 rw [take_more (d := 0) h, List.all_append]
 simp
theorem all_no {l : List Int} {k : Nat} (h : k < l.length) {p : Int → Bool} (hp : p (l.getD k 0) = false) : l.all p = false := by
 rw [List.all_eq_false]
 exact ⟨l.getD k 0, getD_mem h, by rw [hp]; simp⟩
set_option maxHeartbeats 1600000 in
theorem refCapacity_n (u : Value) (l : List Int) (d : Nat) (hl : l.length ≤ 1000000000) (w : World) (hu : L.Li w u l) :
  Calls Tryz.prog 112 #[u, .int .i64 d] w fun e w' => e = .returned (.bool (capB l d)) ∧ w = w' := by
 obtain ⟨oa, c, rfl, ha⟩ := hu
 have HA := Lib.hid ha
 have HC : Hid ((rgB 1 3 l.length && decide (l.length = d) && l.all (rgB 0 1000)) = capB l d) := rfl
 have K0 := Lib.hid (fun w => in_n (l.length : Int) 1 3 w)
 have HS := Lib.hid (fun k (h : k < l.length) => all_step h (rgB 0 1000))
 have HNo := Lib.hid (fun k (h : k < l.length) (hp : rgB 0 1000 (l.getD k 0) = false) => all_no h hp)
 have HZ : Hid ((l.take 0).all (rgB 0 1000) = true) := rfl
 have HE : Hid ((l.take l.length).all (rgB 0 1000) = l.all (rgB 0 1000)) := by show _ = _; rw [List.take_length]
 generalize capB l d = r at *
 generalize hn : l.length = n at *
 generalize rgB 1 3 (n : Int) = b0 at *
 clear ha hn
 cases b0
 ·have HR : Hid (false = r) := by show _ = _; rw [← HC.out]; rfl
  go_enter Tryz.func112, Tryz.ntmps112
  go_wp2_with fail
  refine (K0.out _).mono ?_
  rintro e w1 ⟨rfl, rfl⟩
  go_wp2_with fail
  go_ret
  exact ⟨ret_bool HR.out, rfl⟩
 by_cases hd : n = d
 ·subst hd
  have hne : ((n : Int) != (n : Int)) = false := by simp
  have HC2 : Hid (l.all (rgB 0 1000) = r) := by show _ = _; rw [← HC.out, decide_eq_true rfl]; rfl
  go_enter Tryz.func112, Tryz.ntmps112
  go_wp2_with fail
  refine (K0.out _).mono ?_
  rintro e w1 ⟨rfl, rfl⟩
  go_wp2_with fail
  go_loopw [5] (fun j wr => ∃ k : Nat, k ≤ n ∧ j = .int .i64 k ∧ Hid ((l.take k).all (rgB 0 1000) = true) ∧ w = wr) (fun j _ => n - (intOf j).toNat)
  case atStart => exact ⟨0, Nat.zero_le _, rfl, HZ, rfl⟩
  case round =>
   obtain ⟨k, hk, rfl, HK, rfl⟩ := hrel
   by_cases hlt : k < n
   ·obtain ⟨a, rfl, hab, hc0⟩ := HA.out k hlt
    have d0 := hc0
    have hkI : (k : Int) < (n : Int) := by omega
    have HSk := Lib.hid (HS.out k hlt)
    have HNk := Lib.hid (HNo.out k hlt)
    have KI := Lib.hid (fun w => in_n (l.getD k 0) 0 1000 w)
    generalize l.getD k 0 = x at *
    rw [HK.out, Bool.true_and] at HSk
    cases hr : rgB 0 1000 x
    ·rw [hr] at KI HNk
     have HR : Hid (false = r) := by show _ = _; rw [← HC2.out, HNk.out rfl]
     go_wp2_with fail
     refine (KI.out _).mono ?_
     rintro e w2 ⟨rfl, rfl⟩
     go_wp2_with fail
     go_ret
     exact ⟨ret_bool HR.out, rfl⟩
    ·rw [hr] at KI HSk
     go_wp2_with fail
     refine (KI.out _).mono ?_
     rintro e w2 ⟨rfl, rfl⟩
     go_wp2_with fail
     go_roundw
     case rel => exact ⟨k + 1, by omega, by go_num, HSk, by first | trivial | rfl⟩
     case measure => simp [intOf] <;> omega
   ·have hk' : k = n := by omega
    subst hk'
    have HR : Hid (true = r) := by show _ = _; rw [← HC2.out, ← HE.out, HK.out]
    go_wp2_with fail
    go_ret
    exact ⟨ret_bool HR.out, rfl⟩
 ·have hne : ((n : Int) != (d : Int)) = true := ne_neN hd
  have HR : Hid (false = r) := by show _ = _; rw [← HC.out, decide_eq_false hd]; rfl
  go_enter Tryz.func112, Tryz.ntmps112
  go_wp2_with fail
  refine (K0.out _).mono ?_
  rintro e w1 ⟨rfl, rfl⟩
  go_wp2_with fail
  go_ret
  exact ⟨ret_bool HR.out, rfl⟩
end Go.Proofs.YtaallpebfcadjaaGreatDoor.T

