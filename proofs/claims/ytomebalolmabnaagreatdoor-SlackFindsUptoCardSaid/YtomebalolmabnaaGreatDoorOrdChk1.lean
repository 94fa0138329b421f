/-
  DERIVED. OrdChk1: a part of the base of layer 13 (made by pack.py).
-/
import Derived.Deep.CutBlock
import Derived.Test.YtomebalolmabnaaGreatDoorHM
import Derived.Test.YtomebalolmabnaaGreatDoorHO
/-! The walk of the specification's rules of an order (written by gen_refordchk.py). -/
namespace Go.Proofs.YtomebalolmabnaaGreatDoor.T
open Go.RowKit
set_option maxRecDepth 8000

set_option maxHeartbeats 40000000 in
theorem refRulesO_n (np : Nat) (dims types : Int) (v : Value) (l : List OrT) (i : Nat) (hi : i < l.length) (hl : l.length ≤ 1000000) (hnp : np ≤ 9223372036854775807) (hc9 : (l.getD i or0).load.length ≤ 1000000000) (w : World) (hv : Os w v l) :
  Calls Tryz.prog 45 #[.int .i64 np, .int .i64 dims, .int .i64 types, v, .int .i64 i] w (ErrQ (orE np dims types l i) w) := by
 have HV := Lib.hid hv
 obtain ⟨ov, cv, rfl, ha⟩ := hv
 have HA := Lib.hid ha
 obtain ⟨b, o, vc, rfl, hab, ⟨h0, h1, h2, h3, h4, h5, h6, h7, h8, h9, h10, h11, h12, h13, h14, h15⟩, hcap⟩ := ha i hi
 obtain ⟨oc, cc, hvc, -⟩ := id hcap
 subst hvc
 have HC := Lib.hid hcap
 have HE : Hid (orE1 (l.getD i or0) ++ orE2 l i (l.getD i or0) ++ orE3 dims (l.getD i or0) ++ orE4 np (l.getD i or0) ++ orE5 (l.getD i or0) ++ orE6 (l.getD i or0) ++ orE7 (l.getD i or0) ++ orE8 types (l.getD i or0) = orE np dims types l i) := rfl
 have KC := Lib.hid (fun w hu => L.refRight_n (.slice oc (l.getD i or0).load.length cc) (l.getD i or0).load dims (by omega) w hu)
 have HKS := Lib.hid (fun k (hk : k < l.length) => knownO_step (s := (l.getD i or0).name) hk)
 have HKM := Lib.hid (fun k (hk : k ≤ i) h => knownO_more (l := l) (s := (l.getD i or0).name) hk h)
 have HK0 := Lib.hid (knownO_zero l (l.getD i or0).name)
 clear hcap ha
 generalize orE np dims types l i = r at *
 have HE2 : Hid ((if knownO l (l.getD i or0).name i then [6] else []) = orE2 l i (l.getD i or0)) := rfl
 generalize orE2 l i (l.getD i or0) = e2 at *
 generalize l.getD i or0 = a at *
 generalize hln : l.length = n at *
 obtain ⟨nm, load, pp, po, pc, ps, dp, dd, dc, ds, sk, pen, spl, las, now, off⟩ := a
 simp only at h0 h1 h2 h3 h4 h5 h6 h7 h8 h9 h10 h11 h12 h13 h14 h15 KC HE HE2 HC hc9 HKS HKM HK0
 obtain ⟨zb, hzb⟩ : ∃ z, (decide (pp ≠ -1) && decide (dp ≠ -1)) = z := ⟨_, rfl⟩
 have HS : Hid (splB pp dp spl = (rgB 1 4 spl && !(decide (1 < spl) && zb))) := by show _ = _; unfold splB; rw [hzb]
 have HE1 : Hid ((if nmT nm then [] else [5]) = orE1 ⟨nm, load, pp, po, pc, ps, dp, dd, dc, ds, sk, pen, spl, las, now, off⟩) := rfl
 generalize orE1 ⟨nm, load, pp, po, pc, ps, dp, dd, dc, ds, sk, pen, spl, las, now, off⟩ = e1 at *
 have HE3 : Hid ((if L.rightB load dims then [] else [17]) = orE3 dims ⟨nm, load, pp, po, pc, ps, dp, dd, dc, ds, sk, pen, spl, las, now, off⟩) := rfl
 generalize orE3 dims ⟨nm, load, pp, po, pc, ps, dp, dd, dc, ds, sk, pen, spl, las, now, off⟩ = e3 at *
 have HE4 : Hid ((if (rgB (-1) (np - 1) pp && rgB (-1) (np - 1) dp) then [] else [11]) = orE4 np ⟨nm, load, pp, po, pc, ps, dp, dd, dc, ds, sk, pen, spl, las, now, off⟩) := rfl
 generalize orE4 np ⟨nm, load, pp, po, pc, ps, dp, dd, dc, ds, sk, pen, spl, las, now, off⟩ = e4 at *
 have HE5 : Hid ((if (!(pp == -1 && dp == -1)) then [] else [19]) = orE5 ⟨nm, load, pp, po, pc, ps, dp, dd, dc, ds, sk, pen, spl, las, now, off⟩) := rfl
 generalize orE5 ⟨nm, load, pp, po, pc, ps, dp, dd, dc, ds, sk, pen, spl, las, now, off⟩ = e5 at *
 have HE6 : Hid ((if (V.chk pp po pc ps == 0 && V.chk dp dd dc ds == 0) then [] else [14]) = orE6 ⟨nm, load, pp, po, pc, ps, dp, dd, dc, ds, sk, pen, spl, las, now, off⟩) := rfl
 generalize orE6 ⟨nm, load, pp, po, pc, ps, dp, dd, dc, ds, sk, pen, spl, las, now, off⟩ = e6 at *
 have HE7 : Hid ((if rgB 0 1073741823 sk then [] else [18]) = orE7 ⟨nm, load, pp, po, pc, ps, dp, dd, dc, ds, sk, pen, spl, las, now, off⟩) := rfl
 generalize orE7 ⟨nm, load, pp, po, pc, ps, dp, dd, dc, ds, sk, pen, spl, las, now, off⟩ = e7 at *
 have HE8 : Hid ((if (rgB (-1) 1000000 pen && splB pp dp spl && typB types las && typB types now) then [] else [2]) = orE8 types ⟨nm, load, pp, po, pc, ps, dp, dd, dc, ds, sk, pen, spl, las, now, off⟩) := rfl
 generalize orE8 types ⟨nm, load, pp, po, pc, ps, dp, dd, dc, ds, sk, pen, spl, las, now, off⟩ = e8 at *
 have hL1 : e1.length ≤ 1 := by rw [← HE1.out]; exact if_len _ _
 have hL2 : e2.length ≤ 1 := by rw [← HE2.out]; split <;> simp
 have hL3 : e3.length ≤ 1 := by rw [← HE3.out]; exact if_len _ _
 have hL4 : e4.length ≤ 1 := by rw [← HE4.out]; exact if_len _ _
 have hL5 : e5.length ≤ 1 := by rw [← HE5.out]; exact if_len _ _
 have hL6 : e6.length ≤ 1 := by rw [← HE6.out]; exact if_len _ _
 have hL7 : e7.length ≤ 1 := by rw [← HE7.out]; exact if_len _ _
 have hL8 : e8.length ≤ 1 := by rw [← HE8.out]; exact if_len _ _
 have KP := Lib.hid (fun w => V.refCheck_n pp po pc ps w)
 have KD := Lib.hid (fun w => V.refCheck_n dp dd dc ds w)
 generalize V.chk pp po pc ps = k1 at *
 generalize V.chk dp dd dc ds = k2 at *
 have iI : (i : Int) < (n : Int) := by omega
 obtain ⟨W1, hW1⟩ : ∃ W1, w.alloc (.cells #[.string nm, .slice oc load.length cc, .int .i64 pp, .int .i64 po, .int .i64 pc, .int .i64 ps, .int .i64 dp, .int .i64 dd, .int .i64 dc, .int .i64 ds, .int .i64 sk, .int .i64 pen, .int .i64 spl, .int .i64 las, .int .i64 now, .bool off] 78) = W1 := ⟨_, rfl⟩
 have A1 := Ob.made w (.string nm) (.slice oc load.length cc) (.int .i64 pp) (.int .i64 po) (.int .i64 pc) (.int .i64 ps) (.int .i64 dp) (.int .i64 dd) (.int .i64 dc) (.int .i64 ds) (.int .i64 sk) (.int .i64 pen) (.int .i64 spl) (.int .i64 las) (.int .i64 now) (.bool off)
 have BL := below_alloc w (.cells #[.string nm, .slice oc load.length cc, .int .i64 pp, .int .i64 po, .int .i64 pc, .int .i64 ps, .int .i64 dp, .int .i64 dd, .int .i64 dc, .int .i64 ds, .int .i64 sk, .int .i64 pen, .int .i64 spl, .int .i64 las, .int .i64 now, .bool off] 78)
 rw [hW1] at A1 BL
 have A1 := Lib.hid A1
 have B1 := Lib.hid BL
 have HV1 := Lib.hid (HV.out.below BL)
 have HC1 := Lib.hid (HC.out.below BL)
 clear BL HV HC hln
 go_enter Tryz.func45, Tryz.ntmps45
 go_upto_region 3 with fail
 clear hW1 h0 h1 h2 h3 h4 h5 h6 h7 h8 h9 h10 h11 h12 h13 h14 h15
 have HG : Hid (Ge W1.heap.size W1 (.slice none 0 0) []) := Ge.nil _ _
 have HB : Hid (Below W1.heap.size W1 W1) := Below.refl _ _
 have hfl : ([] : List Int).length ≤ 0 := Nat.le_refl _
 have HE : Hid ([] ++ e1 ++ e2 ++ e3 ++ e4 ++ e5 ++ e6 ++ e7 ++ e8 = r) := HE
 obtain ⟨P, hP⟩ : ∃ P : List Int, [] = P := ⟨_, rfl⟩
 rw [hP] at HG hfl HE
 clear hP
 go_cut [22, 11] from 19 to 22 (fun v e wx => v = .bool (!nmT nm) ∧ Hid (Ge W1.heap.size wx e P) ∧ Hid (Below W1.heap.size W1 wx))
 case first => as_aux_lemma =>
  have a0 := (A1.out.below HB.out).c0
  go_wp2_with fail
  refine (refNameT_n nm _).mono ?_
  rintro e wz ⟨rfl, rfl⟩
  go_wp2_with fail
  go_meet
  case rel => exact ⟨rfl, HG, HB⟩
 clear HG HB
 obtain ⟨rfl, HG, HB⟩ := hcut
 go_upto_if 22 with fail
 go_cut [11] from 19 to 25 (fun v wx => Hid (Ge W1.heap.size wx v (P ++ e1)) ∧ Hid (Below W1.heap.size W1 wx))
 case first => as_aux_lemma =>
  have hsz := HB.out.size
  cases hb : (nmT nm)
  ·have HF := Lib.hid HE1.out
   rw [hb] at HF
   clear hb
   go_wp2_with (at_builtin; refine wpList_append_run rfl _ _ 104 rfl rfl rfl (ap_e1 _ 5 HG.out hsz (by omega)) ?_)
   intro v3 w3 hg3 hb3
   have HB3 := Lib.hid (HB.out.trans hb3)
   have HG3 : Hid (Ge W1.heap.size w3 v3 (P ++ e1)) := by show Ge _ _ _ _; rw [← HF.out]; exact hg3
   clear hg3 hb3
   go_wp2_with fail
   go_meet
   case rel => exact ⟨HG3, HB3⟩
  ·have HF := Lib.hid HE1.out
   rw [hb] at HF
   clear hb
   have HX := Lib.hid (HG.out.ext (show P = P ++ e1 by rw [← HF.out]; simp))
   go_wp2_with fail
   go_meet
   case rel => exact ⟨HX, HB⟩
 clear HG HB
 obtain ⟨HG, HB⟩ := hcut
 have hfl : (P ++ e1).length ≤ 1 := by rw [List.length_append]; omega
 generalize P ++ e1 = P1 at *
 go_upto_block 0 with fail
 go_cut [11, 13] from 26 to 41 (fun e j wx => Hid (Ge W1.heap.size wx e (P1 ++ e2)) ∧ Hid (Below W1.heap.size W1 wx))
 case first => as_aux_lemma =>
  go_wp2_with fail
  go_loopg [11, 13] i (fun g e j wr => ∃ k : Nat, k ≤ i ∧ j = .int .i64 k ∧ i - k ≤ g ∧ Hid (knownO l nm k = false) ∧ Hid (Ge W1.heap.size wr e P1) ∧ Hid (Below W1.heap.size W1 wr))
  case atStart => exact ⟨0, Nat.zero_le _, rfl, Nat.le_refl _, HK0, HG, HB⟩
  case round =>
   clear HG HB
   obtain ⟨k, hk, rfl, hg, HK, HG, HB⟩ := hrel
   by_cases hlt : k < i
   ·have hsz := HB.out.size
    obtain ⟨b2, o2, vc2, hbo, hab2, ⟨d0, -⟩, -⟩ := HA.out k (by omega)
    simp only [Option.some.injEq, Addr.mk.injEq, and_true] at hbo
    obtain ⟨rfl, rfl⟩ := hbo
    have d0 := (B1.out.cell (p := ⟨b, _, none⟩) hab).trans d0
    have d0 := (HB.out.cell (p := ⟨b, _, none⟩) (Nat.lt_of_lt_of_le hab B1.out.size)).trans d0
    have a0 := (A1.out.below HB.out).c0
    have hkI : (k : Int) < (i : Int) := by omega
    have hkN : (k : Int) < (n : Int) := by omega
    have HSk := Lib.hid (HKS.out k (by omega))
    have HMk := Lib.hid (HKM.out (k + 1) (by omega))
    generalize (l.getD k or0).name = x at *
    rw [HK.out, Bool.false_or] at HSk
    have HX : Hid (∀ z, Ge W1.heap.size (wr.drewN z) u11 P1) := fun _ => HG.out
    have HY : Hid (∀ z, Below W1.heap.size W1 (wr.drewN z)) := fun z => below_drewN HB.out z
    cases hx : (x.toList == nm.toList)
    ·have HK1 : Hid (knownO l nm (k + 1) = false) := by show _ = _; rw [HSk.out, hx]
     clear HK
     go_upto_region 8 with fail
     go_quiet (fail)
     go_wp2_with fail
     go_roundg (i - (k + 1))
     case measure => omega
     case rel => exact ⟨k + 1, by omega, by go_num, by omega, HK1, HX.out _, HY.out _⟩
    ·have HF : Hid ([6] = e2) := by show _ = _; rw [← HE2.out, HMk.out (by rw [HSk.out, hx])]; rfl
     go_upto_region 8 with fail
     go_quiet (fail)
     go_wp2_with (at_builtin; refine wpList_append_run rfl _ _ 104 rfl rfl rfl (ap_e1 _ 6 (HX.out _) (HY.out _).size (by omega)) ?_)
     intro v3 w3 hg3 hb3
     have HB3 := Lib.hid ((HY.out _).trans hb3)
     have HG3 : Hid (Ge W1.heap.size w3 v3 (P1 ++ e2)) := by show Ge _ _ _ _; rw [← HF.out]; exact hg3
     clear hg3 hb3
     go_wp2_with fail
     go_meet
     case rel => exact ⟨HG3, HB3⟩
   ·have hk' : k = i := by omega
    subst hk'
    have HF : Hid ([] = e2) := by show _ = _; rw [← HE2.out, HK.out]; rfl
    have HX := Lib.hid (HG.out.ext (show P1 = P1 ++ e2 by rw [← HF.out]; simp))
    go_wp2_with fail
    go_meet
    case rel => exact ⟨HX, HB⟩
 clear HG HB
 obtain ⟨HG, HB⟩ := hcut
 have hfl : (P1 ++ e2).length ≤ 2 := by rw [List.length_append]; omega
 generalize P1 ++ e2 = P2 at *
 go_upto_region 10 with fail
 go_cut [46, 11] from 42 to 46 (fun v e wx => v = .bool (!L.rightB load dims) ∧ Hid (Ge W1.heap.size wx e P2) ∧ Hid (Below W1.heap.size W1 wx))
 case first => as_aux_lemma =>
  have a1 := (A1.out.below HB.out).c1
  have HCz := Lib.hid (HC1.out.below HB.out)
  go_wp2_with fail
  refine (KC.out _ HCz.out).mono ?_
  rintro e wz ⟨rfl, rfl⟩
  go_wp2_with fail
  go_meet
  case rel => exact ⟨rfl, HG, HB⟩
 clear HG HB
 obtain ⟨rfl, HG, HB⟩ := hcut
 go_upto_if 46 with fail
 go_cut [11] from 42 to 49 (fun v wx => Hid (Ge W1.heap.size wx v (P2 ++ e3)) ∧ Hid (Below W1.heap.size W1 wx))
 case first => as_aux_lemma =>
  have hsz := HB.out.size
  cases hb : (L.rightB load dims)
  ·have HF := Lib.hid HE3.out
   rw [hb] at HF
   clear hb
   go_wp2_with (at_builtin; refine wpList_append_run rfl _ _ 104 rfl rfl rfl (ap_e1 _ 17 HG.out hsz (by omega)) ?_)
   intro v3 w3 hg3 hb3
   have HB3 := Lib.hid (HB.out.trans hb3)
   have HG3 : Hid (Ge W1.heap.size w3 v3 (P2 ++ e3)) := by show Ge _ _ _ _; rw [← HF.out]; exact hg3
   clear hg3 hb3
   go_wp2_with fail
   go_meet
   case rel => exact ⟨HG3, HB3⟩
  ·have HF := Lib.hid HE3.out
   rw [hb] at HF
   clear hb
   have HX := Lib.hid (HG.out.ext (show P2 = P2 ++ e3 by rw [← HF.out]; simp))
   go_wp2_with fail
   go_meet
   case rel => exact ⟨HX, HB⟩
 clear HG HB
 obtain ⟨HG, HB⟩ := hcut
 have hfl : (P2 ++ e3).length ≤ 3 := by rw [List.length_append]; omega
 generalize P2 ++ e3 = P3 at *
 go_upto_region 12 with fail
 go_cut [65, 11] from 50 to 65 (fun v e wx => v = .bool (!(rgB (-1) (np - 1) pp && rgB (-1) (np - 1) dp)) ∧ Hid (Ge W1.heap.size wx e P3) ∧ Hid (Below W1.heap.size W1 wx))
 case first => as_aux_lemma =>
  have a2 := (A1.out.below HB.out).c2
  have a6 := (A1.out.below HB.out).c6
  go_wp2_with fail
  refine (in_n_O (pp) (-1) (((np : Int) - 1)) _).mono ?_
  rintro e wz ⟨rfl, rfl⟩
  cases q0 : rgB (-1) (((np : Int) - 1)) pp
  ·go_wp2_with fail
   go_meet
   case rel => exact ⟨by simp [q0], HG, HB⟩
  ·go_wp2_with fail
   refine (in_n_O (dp) (-1) (((np : Int) - 1)) _).mono ?_
   rintro e wz ⟨rfl, rfl⟩
   cases q1 : rgB (-1) (((np : Int) - 1)) dp
   ·go_wp2_with fail
    go_meet
    case rel => exact ⟨by simp [q0, q1], HG, HB⟩
   ·go_wp2_with fail
    go_meet
    case rel => exact ⟨by simp [q0, q1], HG, HB⟩
 clear HG HB
 obtain ⟨rfl, HG, HB⟩ := hcut
 go_upto_if 65 with fail
 go_cut [11] from 50 to 68 (fun v wx => Hid (Ge W1.heap.size wx v (P3 ++ e4)) ∧ Hid (Below W1.heap.size W1 wx))
 case first => as_aux_lemma =>
  have hsz := HB.out.size
  cases hb : ((rgB (-1) (np - 1) pp && rgB (-1) (np - 1) dp))
  ·have HF := Lib.hid HE4.out
   rw [hb] at HF
   clear hb
   go_wp2_with (at_builtin; refine wpList_append_run rfl _ _ 104 rfl rfl rfl (ap_e1 _ 11 HG.out hsz (by omega)) ?_)
   intro v3 w3 hg3 hb3
   have HB3 := Lib.hid (HB.out.trans hb3)
   have HG3 : Hid (Ge W1.heap.size w3 v3 (P3 ++ e4)) := by show Ge _ _ _ _; rw [← HF.out]; exact hg3
   clear hg3 hb3
   go_wp2_with fail
   go_meet
   case rel => exact ⟨HG3, HB3⟩
  ·have HF := Lib.hid HE4.out
   rw [hb] at HF
   clear hb
   have HX := Lib.hid (HG.out.ext (show P3 = P3 ++ e4 by rw [← HF.out]; simp))
   go_wp2_with fail
   go_meet
   case rel => exact ⟨HX, HB⟩
 clear HG HB
 obtain ⟨HG, HB⟩ := hcut
 have hfl : (P3 ++ e4).length ≤ 4 := by rw [List.length_append]; omega
 generalize P3 ++ e4 = P4 at *
 go_upto_region 14 with fail
 go_cut [78, 11] from 69 to 78 (fun v e wx => v = .bool (!(!(pp == -1 && dp == -1))) ∧ Hid (Ge W1.heap.size wx e P4) ∧ Hid (Below W1.heap.size W1 wx))
 case first => as_aux_lemma =>
  have a2 := (A1.out.below HB.out).c2
  have a6 := (A1.out.below HB.out).c6
  cases q0 : (pp == -1)
  ·go_wp2_with fail
   go_meet
   case rel => exact ⟨by simp [q0], HG, HB⟩
  ·cases q1 : (dp == -1)
   ·go_wp2_with fail
    go_meet
    case rel => exact ⟨by simp [q0, q1], HG, HB⟩
   ·go_wp2_with fail
    go_meet
    case rel => exact ⟨by simp [q0, q1], HG, HB⟩
 clear HG HB
 obtain ⟨rfl, HG, HB⟩ := hcut
 go_upto_if 78 with fail
 go_cut [11] from 69 to 81 (fun v wx => Hid (Ge W1.heap.size wx v (P4 ++ e5)) ∧ Hid (Below W1.heap.size W1 wx))
 case first => as_aux_lemma =>
  have hsz := HB.out.size
  cases hb : ((!(pp == -1 && dp == -1)))
  ·have HF := Lib.hid HE5.out
   rw [hb] at HF
   clear hb
   go_wp2_with (at_builtin; refine wpList_append_run rfl _ _ 104 rfl rfl rfl (ap_e1 _ 19 HG.out hsz (by omega)) ?_)
   intro v3 w3 hg3 hb3
   have HB3 := Lib.hid (HB.out.trans hb3)
   have HG3 : Hid (Ge W1.heap.size w3 v3 (P4 ++ e5)) := by show Ge _ _ _ _; rw [← HF.out]; exact hg3
   clear hg3 hb3
   go_wp2_with fail
   go_meet
   case rel => exact ⟨HG3, HB3⟩
  ·have HF := Lib.hid HE5.out
   rw [hb] at HF
   clear hb
   have HX := Lib.hid (HG.out.ext (show P4 = P4 ++ e5 by rw [← HF.out]; simp))
   go_wp2_with fail
   go_meet
   case rel => exact ⟨HX, HB⟩
 clear HG HB
 obtain ⟨HG, HB⟩ := hcut
 have hfl : (P4 ++ e5).length ≤ 5 := by rw [List.length_append]; omega
 generalize P4 ++ e5 = P5 at *
 go_upto_region 16 with fail
 go_cut [91, 11] from 82 to 91 (fun v e wx => v = .bool (!(k1 == 0 && k2 == 0)) ∧ Hid (Ge W1.heap.size wx e P5) ∧ Hid (Below W1.heap.size W1 wx))
 case first => as_aux_lemma =>
  have a2 := (A1.out.below HB.out).c2
  have a3 := (A1.out.below HB.out).c3
  have a4 := (A1.out.below HB.out).c4
  have a5 := (A1.out.below HB.out).c5
  go_wp2_with fail
  refine (KP.out _).mono ?_
  rintro e wz ⟨rfl, bz⟩
  have HG := Lib.hid (HG.out.frame bz)
  have HB := Lib.hid (HB.out.trans (bz.mono HB.out.size))
  clear bz
  have a6 := (A1.out.below HB.out).c6
  have a7 := (A1.out.below HB.out).c7
  have a8 := (A1.out.below HB.out).c8
  have a9 := (A1.out.below HB.out).c9
  cases q0 : (k1 == 0)
  ·have q0' : (k1 != 0) = true := by rw [bne, q0]; rfl
   go_wp2_with fail
   go_meet
   case rel => exact ⟨by simp [q0], HG, HB⟩
  ·have q0' : (k1 != 0) = false := by rw [bne, q0]; rfl
   go_wp2_with fail
   refine (KD.out _).mono ?_
   rintro e wz ⟨rfl, bz⟩
   have HG := Lib.hid (HG.out.frame bz)
   have HB := Lib.hid (HB.out.trans (bz.mono HB.out.size))
   clear bz
   cases q1 : (k2 == 0)
   ·have q1' : (k2 != 0) = true := by rw [bne, q1]; rfl
    go_wp2_with fail
    go_meet
    case rel => exact ⟨by simp [q0, q1], HG, HB⟩
   ·have q1' : (k2 != 0) = false := by rw [bne, q1]; rfl
    go_wp2_with fail
    go_meet
    case rel => exact ⟨by simp [q0, q1], HG, HB⟩
 clear HG HB
 obtain ⟨rfl, HG, HB⟩ := hcut
 go_upto_if 91 with fail
 go_cut [11] from 82 to 94 (fun v wx => Hid (Ge W1.heap.size wx v (P5 ++ e6)) ∧ Hid (Below W1.heap.size W1 wx))
 case first => as_aux_lemma =>
  have hsz := HB.out.size
  cases hb : ((k1 == 0 && k2 == 0))
  ·have HF := Lib.hid HE6.out
   rw [hb] at HF
   clear hb
   go_wp2_with (at_builtin; refine wpList_append_run rfl _ _ 104 rfl rfl rfl (ap_e1 _ 14 HG.out hsz (by omega)) ?_)
   intro v3 w3 hg3 hb3
   have HB3 := Lib.hid (HB.out.trans hb3)
   have HG3 : Hid (Ge W1.heap.size w3 v3 (P5 ++ e6)) := by show Ge _ _ _ _; rw [← HF.out]; exact hg3
   clear hg3 hb3
   go_wp2_with fail
   go_meet
   case rel => exact ⟨HG3, HB3⟩
  ·have HF := Lib.hid HE6.out
   rw [hb] at HF
   clear hb
   have HX := Lib.hid (HG.out.ext (show P5 = P5 ++ e6 by rw [← HF.out]; simp))
   go_wp2_with fail
   go_meet
   case rel => exact ⟨HX, HB⟩
 clear HG HB
 obtain ⟨HG, HB⟩ := hcut
 have hfl : (P5 ++ e6).length ≤ 6 := by rw [List.length_append]; omega
 generalize P5 ++ e6 = P6 at *
 go_upto_region 18 with fail
 go_cut [98, 11] from 95 to 98 (fun v e wx => v = .bool (!rgB 0 1073741823 sk) ∧ Hid (Ge W1.heap.size wx e P6) ∧ Hid (Below W1.heap.size W1 wx))
 case first => as_aux_lemma =>
  have a10 := (A1.out.below HB.out).c10
  go_wp2_with fail
  refine (in_n_O (sk) (0) (1073741823) _).mono ?_
  rintro e wz ⟨rfl, rfl⟩
  go_wp2_with fail
  go_meet
  case rel => exact ⟨rfl, HG, HB⟩
 clear HG HB
 obtain ⟨rfl, HG, HB⟩ := hcut
 go_upto_if 98 with fail
 go_cut [11] from 95 to 101 (fun v wx => Hid (Ge W1.heap.size wx v (P6 ++ e7)) ∧ Hid (Below W1.heap.size W1 wx))
 case first => as_aux_lemma =>
  have hsz := HB.out.size
  cases hb : (rgB 0 1073741823 sk)
  ·have HF := Lib.hid HE7.out
   rw [hb] at HF
   clear hb
   go_wp2_with (at_builtin; refine wpList_append_run rfl _ _ 104 rfl rfl rfl (ap_e1 _ 18 HG.out hsz (by omega)) ?_)
   intro v3 w3 hg3 hb3
   have HB3 := Lib.hid (HB.out.trans hb3)
   have HG3 : Hid (Ge W1.heap.size w3 v3 (P6 ++ e7)) := by show Ge _ _ _ _; rw [← HF.out]; exact hg3
   clear hg3 hb3
   go_wp2_with fail
   go_meet
   case rel => exact ⟨HG3, HB3⟩
  ·have HF := Lib.hid HE7.out
   rw [hb] at HF
   clear hb
   have HX := Lib.hid (HG.out.ext (show P6 = P6 ++ e7 by rw [← HF.out]; simp))
   go_wp2_with fail
   go_meet
   case rel => exact ⟨HX, HB⟩
 clear HG HB
 obtain ⟨HG, HB⟩ := hcut
 have hfl : (P6 ++ e7).length ≤ 7 := by rw [List.length_append]; omega
 generalize P6 ++ e7 = P7 at *
 go_upto_region 20 with fail
 go_cut [14, 11] from 102 to 111 (fun v e wx => v = .bool zb ∧ Hid (Ge W1.heap.size wx e P7) ∧ Hid (Below W1.heap.size W1 wx))
 case first => as_aux_lemma =>
  have a2 := (A1.out.below HB.out).c2
  have a6 := (A1.out.below HB.out).c6
  by_cases q0 : pp = -1
  ·have q0' : (pp != -1) = false := by rw [bne, q0]; rfl
   go_wp2_with fail
   go_meet
   case rel => exact ⟨by rw [← hzb]; simp [q0], HG, HB⟩
  ·have q0' : (pp != -1) = true := by rw [bne_iff_ne]; exact q0
   by_cases q1 : dp = -1
   ·have q1' : (dp != -1) = false := by rw [bne, q1]; rfl
    go_wp2_with fail
    go_meet
    case rel => exact ⟨by rw [← hzb]; simp [q1], HG, HB⟩
   ·have q1' : (dp != -1) = true := by rw [bne_iff_ne]; exact q1
    go_wp2_with fail
    go_meet
    case rel => exact ⟨by rw [← hzb]; simp [q0, q1], HG, HB⟩
 clear HG HB
 obtain ⟨rfl, HG, HB⟩ := hcut
 clear hzb
 go_upto_region 21 with fail
 go_cut [151, 11] from 112 to 151 (fun v e wx => v = .bool (!(rgB (-1) 1000000 pen && splB pp dp spl && typB types las && typB types now)) ∧ Hid (Ge W1.heap.size wx e P7) ∧ Hid (Below W1.heap.size W1 wx))
 case first => as_aux_lemma =>
  have a11 := (A1.out.below HB.out).c11
  have a12 := (A1.out.below HB.out).c12
  have a13 := (A1.out.below HB.out).c13
  have a14 := (A1.out.below HB.out).c14
  go_wp2_with fail
  refine (in_n_O (pen) (-1) (1000000) _).mono ?_
  rintro e wz ⟨rfl, rfl⟩
  cases q0 : rgB (-1) (1000000) pen
  ·go_wp2_with fail
   go_meet
   case rel => exact ⟨by rw [HS.out]; unfold typB; first | (simp [q0]; done) | (simp [q0]; omega), HG, HB⟩
  ·go_wp2_with fail
   refine (in_n_O (spl) (1) (4) _).mono ?_
   rintro e wz ⟨rfl, rfl⟩
   cases q1 : rgB (1) (4) spl
   ·go_wp2_with fail
    go_meet
    case rel => exact ⟨by rw [HS.out]; unfold typB; first | (simp [q0, q1]; done) | (simp [q0, q1]; omega), HG, HB⟩
   ·by_cases s1 : 1 < spl
    ·have s1p : decide (1 < spl) = true := decide_eq_true s1
     cases zb
     ·by_cases t1 : las < -1
      ·have t1p : decide (-1 ≤ las) = false := decide_eq_false (by omega)
       have t1q : decide (las < -1) = true := decide_eq_true (by omega)
       go_wp2_with fail
       go_meet
       case rel => exact ⟨by rw [HS.out]; unfold typB; first | (simp [q0, q1, s1p, t1p]; done) | (simp [q0, q1, s1p, t1p, t1q]; omega), HG, HB⟩
      ·have t1p : decide (-1 ≤ las) = true := decide_eq_true (by omega)
       have t1q : decide (las < -1) = false := decide_eq_false (by omega)
       by_cases t2 : types ≤ las
       ·have t2p : decide (las < types) = false := decide_eq_false (by omega)
        have t2q : decide (types ≤ las) = true := decide_eq_true (by omega)
        go_wp2_with fail
        go_meet
        case rel => exact ⟨by rw [HS.out]; unfold typB; first | (simp [q0, q1, s1p, t1p, t2p]; done) | (simp [q0, q1, s1p, t1p, t1q, t2p, t2q]; omega), HG, HB⟩
       ·have t2p : decide (las < types) = true := decide_eq_true (by omega)
        have t2q : decide (types ≤ las) = false := decide_eq_false (by omega)
        by_cases t3 : now < -1
        ·have t3p : decide (-1 ≤ now) = false := decide_eq_false (by omega)
         have t3q : decide (now < -1) = true := decide_eq_true (by omega)
         go_wp2_with fail
         go_meet
         case rel => exact ⟨by rw [HS.out]; unfold typB; first | (simp [q0, q1, s1p, t1p, t2p, t3p]; done) | (simp [q0, q1, s1p, t1p, t1q, t2p, t2q, t3p, t3q]; omega), HG, HB⟩
        ·have t3p : decide (-1 ≤ now) = true := decide_eq_true (by omega)
         have t3q : decide (now < -1) = false := decide_eq_false (by omega)
         by_cases t4 : types ≤ now
         ·have t4p : decide (now < types) = false := decide_eq_false (by omega)
          have t4q : decide (types ≤ now) = true := decide_eq_true (by omega)
          go_wp2_with fail
          go_meet
          case rel => exact ⟨by rw [HS.out]; unfold typB; first | (simp [q0, q1, s1p, t1p, t2p, t3p, t4p]; done) | (simp [q0, q1, s1p, t1p, t1q, t2p, t2q, t3p, t3q, t4p, t4q]; omega), HG, HB⟩
         ·have t4p : decide (now < types) = true := decide_eq_true (by omega)
          have t4q : decide (types ≤ now) = false := decide_eq_false (by omega)
          go_wp2_with fail
          go_meet
          case rel => exact ⟨by rw [HS.out]; unfold typB; first | (simp [q0, q1, s1p, t1p, t2p, t3p, t4p]; done) | (simp [q0, q1, s1p, t1p, t1q, t2p, t2q, t3p, t3q, t4p, t4q]; omega), HG, HB⟩
     ·go_wp2_with fail
      go_meet
      case rel => exact ⟨by rw [HS.out]; unfold typB; first | (simp [q0, q1, s1p]; done) | (simp [q0, q1, s1p]; omega), HG, HB⟩
    ·have s1p : decide (1 < spl) = false := decide_eq_false s1
     by_cases t1 : las < -1
     ·have t1p : decide (-1 ≤ las) = false := decide_eq_false (by omega)
      have t1q : decide (las < -1) = true := decide_eq_true (by omega)
      go_wp2_with fail
      go_meet
      case rel => exact ⟨by rw [HS.out]; unfold typB; first | (simp [q0, q1, s1p, t1p]; done) | (simp [q0, q1, s1p, t1p, t1q]; omega), HG, HB⟩
     ·have t1p : decide (-1 ≤ las) = true := decide_eq_true (by omega)
      have t1q : decide (las < -1) = false := decide_eq_false (by omega)
      by_cases t2 : types ≤ las
      ·have t2p : decide (las < types) = false := decide_eq_false (by omega)
       have t2q : decide (types ≤ las) = true := decide_eq_true (by omega)
       go_wp2_with fail
       go_meet
       case rel => exact ⟨by rw [HS.out]; unfold typB; first | (simp [q0, q1, s1p, t1p, t2p]; done) | (simp [q0, q1, s1p, t1p, t1q, t2p, t2q]; omega), HG, HB⟩
      ·have t2p : decide (las < types) = true := decide_eq_true (by omega)
       have t2q : decide (types ≤ las) = false := decide_eq_false (by omega)
       by_cases t3 : now < -1
       ·have t3p : decide (-1 ≤ now) = false := decide_eq_false (by omega)
        have t3q : decide (now < -1) = true := decide_eq_true (by omega)
        go_wp2_with fail
        go_meet
        case rel => exact ⟨by rw [HS.out]; unfold typB; first | (simp [q0, q1, s1p, t1p, t2p, t3p]; done) | (simp [q0, q1, s1p, t1p, t1q, t2p, t2q, t3p, t3q]; omega), HG, HB⟩
       ·have t3p : decide (-1 ≤ now) = true := decide_eq_true (by omega)
        have t3q : decide (now < -1) = false := decide_eq_false (by omega)
        by_cases t4 : types ≤ now
        ·have t4p : decide (now < types) = false := decide_eq_false (by omega)
         have t4q : decide (types ≤ now) = true := decide_eq_true (by omega)
         go_wp2_with fail
         go_meet
         case rel => exact ⟨by rw [HS.out]; unfold typB; first | (simp [q0, q1, s1p, t1p, t2p, t3p, t4p]; done) | (simp [q0, q1, s1p, t1p, t1q, t2p, t2q, t3p, t3q, t4p, t4q]; omega), HG, HB⟩
        ·have t4p : decide (now < types) = true := decide_eq_true (by omega)
         have t4q : decide (types ≤ now) = false := decide_eq_false (by omega)
         go_wp2_with fail
         go_meet
         case rel => exact ⟨by rw [HS.out]; unfold typB; first | (simp [q0, q1, s1p, t1p, t2p, t3p, t4p]; done) | (simp [q0, q1, s1p, t1p, t1q, t2p, t2q, t3p, t3q, t4p, t4q]; omega), HG, HB⟩
 clear HG HB
 obtain ⟨rfl, HG, HB⟩ := hcut
 go_upto_if 151 with fail
 go_cut [11] from 112 to 154 (fun v wx => Hid (Ge W1.heap.size wx v (P7 ++ e8)) ∧ Hid (Below W1.heap.size W1 wx))
 case first => as_aux_lemma =>
  have hsz := HB.out.size
  cases hb : ((rgB (-1) 1000000 pen && splB pp dp spl && typB types las && typB types now))
  ·have HF := Lib.hid HE8.out
   rw [hb] at HF
   clear hb
   go_wp2_with (at_builtin; refine wpList_append_run rfl _ _ 104 rfl rfl rfl (ap_e1 _ 2 HG.out hsz (by omega)) ?_)
   intro v3 w3 hg3 hb3
   have HB3 := Lib.hid (HB.out.trans hb3)
   have HG3 : Hid (Ge W1.heap.size w3 v3 (P7 ++ e8)) := by show Ge _ _ _ _; rw [← HF.out]; exact hg3
   clear hg3 hb3
   go_wp2_with fail
   go_meet
   case rel => exact ⟨HG3, HB3⟩
  ·have HF := Lib.hid HE8.out
   rw [hb] at HF
   clear hb
   have HX := Lib.hid (HG.out.ext (show P7 = P7 ++ e8 by rw [← HF.out]; simp))
   go_wp2_with fail
   go_meet
   case rel => exact ⟨HX, HB⟩
 clear HG HB
 obtain ⟨HG, HB⟩ := hcut
 have hfl : (P7 ++ e8).length ≤ 8 := by rw [List.length_append]; omega
 generalize P7 ++ e8 = P8 at *
 have HR : Hid (P8 = r) := HE
 go_wp2_with fail
 go_ret
 exact errQ (Ge.ext HG.out HR.out) B1.out.size (over B1.out HB.out)

end Go.Proofs.YtomebalolmabnaaGreatDoor.T




