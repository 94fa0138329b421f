/-
  DERIVED. RefFl3: a part of the base of layer 13 (made by pack.py).
-/
import Derived.Test.YtomebalolmabnaaGreatDoorHB
import Derived.Test.YtomebalolmabnaaGreatDoorHK
/-! The walk of the specification's rules (written by gen_reffl3.py). -/
namespace Go.Proofs.YtomebalolmabnaaGreatDoor.T
open Go.RowKit
set_option maxRecDepth 8000

def ErrQ (l : List Int) (w : World) (e : Ending) (w' : World) : Prop := ∃ v, e = .returned v ∧ Ge w.heap.size w' v l ∧ Le w' v l ∧ Below w.heap.size w w'
theorem errQ {B : Nat} {l : List Int} {w w' : World} {v : Value} (h : Ge B w' v l) (hB : w.heap.size ≤ B) (hb : Below w.heap.size w w') : ErrQ l w (.returned v) w' := ⟨v, rfl, h.mono hB, h.le, hb⟩
theorem if_len (b : Bool) (x : Int) : (if b then [] else [x]).length ≤ 1 := by cases b <;> simp
theorem refNameT_n (s : ByteArray) (w : World) : Calls Tryz.prog 60 #[.string s] w fun e w' => e = .returned (.bool (nmT s)) ∧ w = w' := refName_any s w

set_option maxHeartbeats 40000000 in
theorem refRules_n (op : Option Addr) (np cp : Nat) (oa : Option Addr) (na ca : Nat) (v : Value) (l : List TyT) (i : Nat) (hi : i < l.length) (hl : l.length ≤ 1000000) (hnp : np ≤ 9223372036854775807) (hc9 : (l.getD i ty0).cap.length ≤ 1000000000) (w : World) (hv : Ts w v l) :
  Calls Tryz.prog 43 #[.agg #[.slice op np cp, .slice oa na ca], v, .int .i64 i] w (ErrQ (tyE np l i) w) := by
 have HV := Lib.hid hv
 obtain ⟨ov, cv, rfl, ha⟩ := hv
 obtain ⟨b, o, vc, rfl, hab, ⟨h0, h1, h2, h3, h4, h5, h6, h7, h8, h9, h10, h11, h12, h13⟩, hcap⟩ := ha i hi
 obtain ⟨oc, cc, hvc, -⟩ := id hcap
 subst hvc
 have HC := Lib.hid hcap
 have KK := Lib.hid (fun s w hv => refKnown_n (.slice (some ⟨b, o, none⟩) l.length cv) l i s (by omega) (by omega) w hv)
 have KD := Lib.hid (fun w hv => refDims_n (.slice (some ⟨b, o, none⟩) l.length cv) l (by omega) w hv)
 have HE : Hid (tyE1 (l.getD i ty0) ++ tyE2 l i (l.getD i ty0) ++ tyE3 (l.getD i ty0) ++ tyE4 np (l.getD i ty0) ++ tyE5 (dimsF l) (l.getD i ty0) ++ tyE6 (l.getD i ty0) ++ tyE7 (l.getD i ty0) ++ tyE8 (l.getD i ty0) ++ tyE9 (l.getD i ty0) = tyE np l i) := rfl
 have KC := Lib.hid (fun d w hu => refCapacity_n (.slice oc (l.getD i ty0).cap.length cc) (l.getD i ty0).cap d hc9 w hu)
 have hkn : Hid (∀ s, knownB l s i = knownB l s i) := fun _ => rfl
 clear hcap ha hkn
 generalize tyE np l i = r at *
 have HE2 : Hid ((if knownB l (l.getD i ty0).name i then [6] else []) = tyE2 l i (l.getD i ty0)) := rfl
 generalize dimsF l = dims at *
 obtain ⟨known, hknown⟩ : ∃ k : ByteArray → Bool, ∀ s, knownB l s i = k s := ⟨fun s => knownB l s i, fun _ => rfl⟩
 simp only [hknown] at KK HE2
 clear hknown
 generalize tyE2 l i (l.getD i ty0) = e2 at *
 generalize l.getD i ty0 = a at *
 generalize hln : l.length = n at *
 obtain ⟨nm, cnt, fr, dt, cap, sk, prof, opn, cls, drv, rst, fix, pm, pt⟩ := a
 simp only at h0 h1 h2 h3 h4 h5 h6 h7 h8 h9 h10 h11 h12 h13 KC HE HE2 HC hc9
 have HE1 : Hid ((if nmT nm then [] else [5]) = tyE1 ⟨nm, cnt, fr, dt, cap, sk, prof, opn, cls, drv, rst, fix, pm, pt⟩) := rfl
 generalize tyE1 ⟨nm, cnt, fr, dt, cap, sk, prof, opn, cls, drv, rst, fix, pm, pt⟩ = e1 at *
 have HE3 : Hid ((if rgB 0 10 cnt then [] else [22]) = tyE3 ⟨nm, cnt, fr, dt, cap, sk, prof, opn, cls, drv, rst, fix, pm, pt⟩) := rfl
 generalize tyE3 ⟨nm, cnt, fr, dt, cap, sk, prof, opn, cls, drv, rst, fix, pm, pt⟩ = e3 at *
 have HE4 : Hid ((if (rgB 0 (np - 1) fr && rgB 0 (np - 1) dt) then [] else [11]) = tyE4 np ⟨nm, cnt, fr, dt, cap, sk, prof, opn, cls, drv, rst, fix, pm, pt⟩) := rfl
 generalize tyE4 np ⟨nm, cnt, fr, dt, cap, sk, prof, opn, cls, drv, rst, fix, pm, pt⟩ = e4 at *
 have HE5 : Hid ((if capB cap dims then [] else [17]) = tyE5 dims ⟨nm, cnt, fr, dt, cap, sk, prof, opn, cls, drv, rst, fix, pm, pt⟩) := rfl
 generalize tyE5 dims ⟨nm, cnt, fr, dt, cap, sk, prof, opn, cls, drv, rst, fix, pm, pt⟩ = e5 at *
 have HE6 : Hid ((if rgB 0 1073741823 sk then [] else [18]) = tyE6 ⟨nm, cnt, fr, dt, cap, sk, prof, opn, cls, drv, rst, fix, pm, pt⟩) := rfl
 generalize tyE6 ⟨nm, cnt, fr, dt, cap, sk, prof, opn, cls, drv, rst, fix, pm, pt⟩ = e6 at *
 have HE7 : Hid ((if (rgB 0 cls opn && decide (cls ≤ 4096)) then [] else [15]) = tyE7 ⟨nm, cnt, fr, dt, cap, sk, prof, opn, cls, drv, rst, fix, pm, pt⟩) := rfl
 generalize tyE7 ⟨nm, cnt, fr, dt, cap, sk, prof, opn, cls, drv, rst, fix, pm, pt⟩ = e7 at *
 have HE8 : Hid ((if (rgB 1 4096 drv && rgB 0 4096 rst) then [] else [16]) = tyE8 ⟨nm, cnt, fr, dt, cap, sk, prof, opn, cls, drv, rst, fix, pm, pt⟩) := rfl
 generalize tyE8 ⟨nm, cnt, fr, dt, cap, sk, prof, opn, cls, drv, rst, fix, pm, pt⟩ = e8 at *
 have HE9 : Hid ((if (rgB 0 7 prof && rgB 0 100000 fix && rgB 0 100 pm && rgB 0 100 pt) then [] else [2]) = tyE9 ⟨nm, cnt, fr, dt, cap, sk, prof, opn, cls, drv, rst, fix, pm, pt⟩) := rfl
 generalize tyE9 ⟨nm, cnt, fr, dt, cap, sk, prof, opn, cls, drv, rst, fix, pm, pt⟩ = e9 at *
 have hL1 : e1.length ≤ 1 := by rw [← HE1.out]; exact if_len _ _
 have hL2 : e2.length ≤ 1 := by rw [← HE2.out]; split <;> simp
 have hL3 : e3.length ≤ 1 := by rw [← HE3.out]; exact if_len _ _
 have hL4 : e4.length ≤ 1 := by rw [← HE4.out]; exact if_len _ _
 have hL5 : e5.length ≤ 1 := by rw [← HE5.out]; exact if_len _ _
 have hL6 : e6.length ≤ 1 := by rw [← HE6.out]; exact if_len _ _
 have hL7 : e7.length ≤ 1 := by rw [← HE7.out]; exact if_len _ _
 have hL8 : e8.length ≤ 1 := by rw [← HE8.out]; exact if_len _ _
 have hL9 : e9.length ≤ 1 := by rw [← HE9.out]; exact if_len _ _
 have BW := below_alloc w (.cells #[.slice op np cp, .slice oa na ca] 25)
 have N0 := Nb.made w (.slice op np cp) (.slice oa na ca)
 have iI : (i : Int) < (n : Int) := by omega
 have d0 := (BW.cell (p := ⟨b, _, none⟩) hab).trans h0
 have d1 := (BW.cell (p := ⟨b, _, none⟩) hab).trans h1
 have d2 := (BW.cell (p := ⟨b, _, none⟩) hab).trans h2
 have d3 := (BW.cell (p := ⟨b, _, none⟩) hab).trans h3
 have d4 := (BW.cell (p := ⟨b, _, none⟩) hab).trans h4
 have d5 := (BW.cell (p := ⟨b, _, none⟩) hab).trans h5
 have d6 := (BW.cell (p := ⟨b, _, none⟩) hab).trans h6
 have d7 := (BW.cell (p := ⟨b, _, none⟩) hab).trans h7
 have d8 := (BW.cell (p := ⟨b, _, none⟩) hab).trans h8
 have d9 := (BW.cell (p := ⟨b, _, none⟩) hab).trans h9
 have d10 := (BW.cell (p := ⟨b, _, none⟩) hab).trans h10
 have d11 := (BW.cell (p := ⟨b, _, none⟩) hab).trans h11
 have d12 := (BW.cell (p := ⟨b, _, none⟩) hab).trans h12
 have d13 := (BW.cell (p := ⟨b, _, none⟩) hab).trans h13
 obtain ⟨W1, hW1⟩ : ∃ W1, (w.alloc (.cells #[.slice op np cp, .slice oa na ca] 25)).alloc (.cells #[.string nm, .int .i64 cnt, .int .i64 fr, .int .i64 dt, .slice oc cap.length cc, .int .i64 sk, .int .i64 prof, .int .i64 opn, .int .i64 cls, .int .i64 drv, .int .i64 rst, .int .i64 fix, .int .i64 pm, .int .i64 pt] 80) = W1 := ⟨_, rfl⟩
 have A1 := Tb.made (w.alloc (.cells #[.slice op np cp, .slice oa na ca] 25)) (.string nm) (.int .i64 cnt) (.int .i64 fr) (.int .i64 dt) (.slice oc cap.length cc) (.int .i64 sk) (.int .i64 prof) (.int .i64 opn) (.int .i64 cls) (.int .i64 drv) (.int .i64 rst) (.int .i64 fix) (.int .i64 pm) (.int .i64 pt)
 rw [show (w.alloc (.cells #[.slice op np cp, .slice oa na ca] 25)).heap.size = w.heap.size + 1 by simp] at A1
 have BL := below_alloc (w.alloc (.cells #[.slice op np cp, .slice oa na ca] 25)) (.cells #[.string nm, .int .i64 cnt, .int .i64 fr, .int .i64 dt, .slice oc cap.length cc, .int .i64 sk, .int .i64 prof, .int .i64 opn, .int .i64 cls, .int .i64 drv, .int .i64 rst, .int .i64 fix, .int .i64 pm, .int .i64 pt] 80)
 have N1 := N0.below BL
 have BB := over BW BL
 rw [hW1] at A1 BL N1 BB
 have A1 := Lib.hid A1
 have N1 := Lib.hid N1
 have B1 := Lib.hid BB
 have HV1 := Lib.hid (HV.out.below BB)
 have HC1 := Lib.hid (HC.out.below BB)
 clear BL BB N0 BW HV HC h0 h1 h2 h3 h4 h5 h6 h7 h8 h9 h10 h11 h12 h13 hln
 go_enter Tryz.func43, Tryz.ntmps43
 go_upto_region 3 with fail
 clear hW1 d0 d1 d2 d3 d4 d5 d6 d7 d8 d9 d10 d11 d12 d13
 have HG : Hid (Ge W1.heap.size W1 (.slice none 0 0) []) := Ge.nil _ _
 have HB : Hid (Below W1.heap.size W1 W1) := Below.refl _ _
 have hfl : ([] : List Int).length ≤ 0 := Nat.le_refl _
 have HE : Hid ([] ++ e1 ++ e2 ++ e3 ++ e4 ++ e5 ++ e6 ++ e7 ++ e8 ++ e9 = r) := HE
 obtain ⟨P, hP⟩ : ∃ P : List Int, [] = P := ⟨_, rfl⟩
 rw [hP] at HG hfl HE
 clear hP
 go_cut [16, 8] from 13 to 16 (fun v e wx => v = .bool (!nmT nm) ∧ Hid (Ge W1.heap.size wx e P) ∧ Hid (Below W1.heap.size W1 wx))
 case first => as_aux_lemma =>
  have a0 := (A1.out.below HB.out).c0
  go_wp2_with fail
  refine (refNameT_n nm _).mono ?_
  rintro e wz ⟨rfl, rfl⟩
  go_wp2_with fail
  go_meet
  case rel => exact ⟨rfl, HG, HB⟩
 clear HG HB
 obtain ⟨rfl, HG, HB⟩ := hcut
 go_upto_if 16 with fail
 go_cut [8] from 13 to 19 (fun v wx => Hid (Ge W1.heap.size wx v (P ++ e1)) ∧ Hid (Below W1.heap.size W1 wx))
 case first => as_aux_lemma =>
  have hsz := HB.out.size
  cases hb : (nmT nm)
  ·have HF := Lib.hid HE1.out
   rw [hb] at HF
   clear hb
   go_wp2_with (at_builtin; refine wpList_append_run rfl _ _ 104 rfl rfl rfl (ap_e1 _ 5 HG.out hsz (by omega)) ?_)
   intro v3 w3 hg3 hb3
   have HB3 := Lib.hid (HB.out.trans hb3)
   have HG3 : Hid (Ge W1.heap.size w3 v3 (P ++ e1)) := by show Ge _ _ _ _; rw [← HF.out]; exact hg3
   clear hg3 hb3
   go_wp2_with fail
   go_meet
   case rel => exact ⟨HG3, HB3⟩
  ·have HF := Lib.hid HE1.out
   rw [hb] at HF
   clear hb
   have HX := Lib.hid (HG.out.ext (show P = P ++ e1 by rw [← HF.out]; simp))
   go_wp2_with fail
   go_meet
   case rel => exact ⟨HX, HB⟩
 clear HG HB
 obtain ⟨HG, HB⟩ := hcut
 have hfl : (P ++ e1).length ≤ 1 := by rw [List.length_append]; omega
 generalize P ++ e1 = P1 at *
 go_upto_region 5 with fail
 go_cut [24, 8] from 20 to 24 (fun v e wx => v = .bool (known nm) ∧ Hid (Ge W1.heap.size wx e P1) ∧ Hid (Below W1.heap.size W1 wx))
 case first => as_aux_lemma =>
  have a0 := (A1.out.below HB.out).c0
  have HV2 := Lib.hid (HV1.out.below HB.out)
  go_wp2_with fail
  refine (KK.out _ _ HV2.out).mono ?_
  rintro e wz ⟨rfl, bz⟩
  have HG := Lib.hid (HG.out.frame bz)
  have HB := Lib.hid (HB.out.trans (bz.mono HB.out.size))
  clear bz
  go_wp2_with fail
  go_meet
  case rel => exact ⟨rfl, HG, HB⟩
 clear HG HB
 obtain ⟨rfl, HG, HB⟩ := hcut
 go_upto_if 24 with fail
 go_cut [8] from 20 to 27 (fun v wx => Hid (Ge W1.heap.size wx v (P1 ++ e2)) ∧ Hid (Below W1.heap.size W1 wx))
 case first => as_aux_lemma =>
  have hsz := HB.out.size
  cases hb : (known nm)
  ·have HF := Lib.hid HE2.out
   rw [hb] at HF
   clear hb
   have HX := Lib.hid (HG.out.ext (show P1 = P1 ++ e2 by rw [← HF.out]; simp))
   go_wp2_with fail
   go_meet
   case rel => exact ⟨HX, HB⟩
  ·have HF := Lib.hid HE2.out
   rw [hb] at HF
   clear hb
   go_wp2_with (at_builtin; refine wpList_append_run rfl _ _ 104 rfl rfl rfl (ap_e1 _ 6 HG.out hsz (by omega)) ?_)
   intro v3 w3 hg3 hb3
   have HB3 := Lib.hid (HB.out.trans hb3)
   have HG3 : Hid (Ge W1.heap.size w3 v3 (P1 ++ e2)) := by show Ge _ _ _ _; rw [← HF.out]; exact hg3
   clear hg3 hb3
   go_wp2_with fail
   go_meet
   case rel => exact ⟨HG3, HB3⟩
 clear HG HB
 obtain ⟨HG, HB⟩ := hcut
 have hfl : (P1 ++ e2).length ≤ 2 := by rw [List.length_append]; omega
 generalize P1 ++ e2 = P2 at *
 go_upto_region 7 with fail
 go_cut [31, 8] from 28 to 31 (fun v e wx => v = .bool (!rgB 0 10 cnt) ∧ Hid (Ge W1.heap.size wx e P2) ∧ Hid (Below W1.heap.size W1 wx))
 case first => as_aux_lemma =>
  have a1 := (A1.out.below HB.out).c1
  go_wp2_with fail
  refine (in_n (cnt) 0 10 _).mono ?_
  rintro e wz ⟨rfl, rfl⟩
  go_wp2_with fail
  go_meet
  case rel => exact ⟨rfl, HG, HB⟩
 clear HG HB
 obtain ⟨rfl, HG, HB⟩ := hcut
 go_upto_if 31 with fail
 go_cut [8] from 28 to 34 (fun v wx => Hid (Ge W1.heap.size wx v (P2 ++ e3)) ∧ Hid (Below W1.heap.size W1 wx))
 case first => as_aux_lemma =>
  have hsz := HB.out.size
  cases hb : (rgB 0 10 cnt)
  ·have HF := Lib.hid HE3.out
   rw [hb] at HF
   clear hb
   go_wp2_with (at_builtin; refine wpList_append_run rfl _ _ 104 rfl rfl rfl (ap_e1 _ 22 HG.out hsz (by omega)) ?_)
   intro v3 w3 hg3 hb3
   have HB3 := Lib.hid (HB.out.trans hb3)
   have HG3 : Hid (Ge W1.heap.size w3 v3 (P2 ++ e3)) := by show Ge _ _ _ _; rw [← HF.out]; exact hg3
   clear hg3 hb3
   go_wp2_with fail
   go_meet
   case rel => exact ⟨HG3, HB3⟩
  ·have HF := Lib.hid HE3.out
   rw [hb] at HF
   clear hb
   have HX := Lib.hid (HG.out.ext (show P2 = P2 ++ e3 by rw [← HF.out]; simp))
   go_wp2_with fail
   go_meet
   case rel => exact ⟨HX, HB⟩
 clear HG HB
 obtain ⟨HG, HB⟩ := hcut
 have hfl : (P2 ++ e3).length ≤ 3 := by rw [List.length_append]; omega
 generalize P2 ++ e3 = P3 at *
 go_upto_region 9 with fail
 go_cut [52, 8] from 35 to 52 (fun v e wx => v = .bool (!(rgB 0 (np - 1) fr && rgB 0 (np - 1) dt)) ∧ Hid (Ge W1.heap.size wx e P3) ∧ Hid (Below W1.heap.size W1 wx))
 case first => as_aux_lemma =>
  have a2 := (A1.out.below HB.out).c2
  have a3 := (A1.out.below HB.out).c3
  have g0 := (N1.out.below HB.out).c0
  go_wp2_with fail
  refine (in_n (fr) 0 ((np : Int) - 1) _).mono ?_
  rintro e wz ⟨rfl, rfl⟩
  cases q0 : rgB 0 ((np : Int) - 1) fr
  ·go_wp2_with fail
   go_meet
   case rel => exact ⟨by simp [q0], HG, HB⟩
  ·go_wp2_with fail
   refine (in_n (dt) 0 ((np : Int) - 1) _).mono ?_
   rintro e wz ⟨rfl, rfl⟩
   cases q1 : rgB 0 ((np : Int) - 1) dt
   ·go_wp2_with fail
    go_meet
    case rel => exact ⟨by simp [q0, q1], HG, HB⟩
   ·go_wp2_with fail
    go_meet
    case rel => exact ⟨by simp [q0, q1], HG, HB⟩
 clear HG HB
 obtain ⟨rfl, HG, HB⟩ := hcut
 go_upto_if 52 with fail
 go_cut [8] from 35 to 55 (fun v wx => Hid (Ge W1.heap.size wx v (P3 ++ e4)) ∧ Hid (Below W1.heap.size W1 wx))
 case first => as_aux_lemma =>
  have hsz := HB.out.size
  cases hb : ((rgB 0 (np - 1) fr && rgB 0 (np - 1) dt))
  ·have HF := Lib.hid HE4.out
   rw [hb] at HF
   clear hb
   go_wp2_with (at_builtin; refine wpList_append_run rfl _ _ 104 rfl rfl rfl (ap_e1 _ 11 HG.out hsz (by omega)) ?_)
   intro v3 w3 hg3 hb3
   have HB3 := Lib.hid (HB.out.trans hb3)
   have HG3 : Hid (Ge W1.heap.size w3 v3 (P3 ++ e4)) := by show Ge _ _ _ _; rw [← HF.out]; exact hg3
   clear hg3 hb3
   go_wp2_with fail
   go_meet
   case rel => exact ⟨HG3, HB3⟩
  ·have HF := Lib.hid HE4.out
   rw [hb] at HF
   clear hb
   have HX := Lib.hid (HG.out.ext (show P3 = P3 ++ e4 by rw [← HF.out]; simp))
   go_wp2_with fail
   go_meet
   case rel => exact ⟨HX, HB⟩
 clear HG HB
 obtain ⟨HG, HB⟩ := hcut
 have hfl : (P3 ++ e4).length ≤ 4 := by rw [List.length_append]; omega
 generalize P3 ++ e4 = P4 at *
 go_upto_region 11 with fail
 go_cut [61, 8] from 56 to 61 (fun v e wx => v = .bool (!capB cap dims) ∧ Hid (Ge W1.heap.size wx e P4) ∧ Hid (Below W1.heap.size W1 wx))
 case first => as_aux_lemma =>
  have a4 := (A1.out.below HB.out).c4
  have HVz : Hid (∀ z, Ts (wc.drewN z) _ l) := fun z => HV1.out.below (below_drewN HB.out z)
  have HCz : Hid (∀ z, L.Li (wc.drewN z) _ cap) := fun z => HC1.out.below (below_drewN HB.out z)
  have HX : Hid (∀ z, Ge W1.heap.size (wc.drewN z) u8 P4) := fun _ => HG.out
  have HY : Hid (∀ z, Below W1.heap.size W1 (wc.drewN z)) := fun z => below_drewN HB.out z
  go_quiet (first | (go_at_call 28; first | exact quiet_eq (KD.out _ (HVz.out _)) | exact quiet_eq (KD.out _ (HV1.out.below HB.out))) | (go_at_call 64; first | exact quiet_eq (KC.out dims _ (HCz.out _)) | exact quiet_eq (KC.out dims _ (HC1.out.below HB.out))))
  go_wp2_with fail
  go_meet
  case rel => exact ⟨rfl, HX.out _, HY.out _⟩
 clear HG HB
 obtain ⟨rfl, HG, HB⟩ := hcut
 go_upto_if 61 with fail
 go_cut [8] from 56 to 64 (fun v wx => Hid (Ge W1.heap.size wx v (P4 ++ e5)) ∧ Hid (Below W1.heap.size W1 wx))
 case first => as_aux_lemma =>
  have hsz := HB.out.size
  cases hb : (capB cap dims)
  ·have HF := Lib.hid HE5.out
   rw [hb] at HF
   clear hb
   go_wp2_with (at_builtin; refine wpList_append_run rfl _ _ 104 rfl rfl rfl (ap_e1 _ 17 HG.out hsz (by omega)) ?_)
   intro v3 w3 hg3 hb3
   have HB3 := Lib.hid (HB.out.trans hb3)
   have HG3 : Hid (Ge W1.heap.size w3 v3 (P4 ++ e5)) := by show Ge _ _ _ _; rw [← HF.out]; exact hg3
   clear hg3 hb3
   go_wp2_with fail
   go_meet
   case rel => exact ⟨HG3, HB3⟩
  ·have HF := Lib.hid HE5.out
   rw [hb] at HF
   clear hb
   have HX := Lib.hid (HG.out.ext (show P4 = P4 ++ e5 by rw [← HF.out]; simp))
   go_wp2_with fail
   go_meet
   case rel => exact ⟨HX, HB⟩
 clear HG HB
 obtain ⟨HG, HB⟩ := hcut
 have hfl : (P4 ++ e5).length ≤ 5 := by rw [List.length_append]; omega
 generalize P4 ++ e5 = P5 at *
 go_upto_region 13 with fail
 go_cut [68, 8] from 65 to 68 (fun v e wx => v = .bool (!rgB 0 1073741823 sk) ∧ Hid (Ge W1.heap.size wx e P5) ∧ Hid (Below W1.heap.size W1 wx))
 case first => as_aux_lemma =>
  have a5 := (A1.out.below HB.out).c5
  go_wp2_with fail
  refine (in_n (sk) 0 1073741823 _).mono ?_
  rintro e wz ⟨rfl, rfl⟩
  go_wp2_with fail
  go_meet
  case rel => exact ⟨rfl, HG, HB⟩
 clear HG HB
 obtain ⟨rfl, HG, HB⟩ := hcut
 go_upto_if 68 with fail
 go_cut [8] from 65 to 71 (fun v wx => Hid (Ge W1.heap.size wx v (P5 ++ e6)) ∧ Hid (Below W1.heap.size W1 wx))
 case first => as_aux_lemma =>
  have hsz := HB.out.size
  cases hb : (rgB 0 1073741823 sk)
  ·have HF := Lib.hid HE6.out
   rw [hb] at HF
   clear hb
   go_wp2_with (at_builtin; refine wpList_append_run rfl _ _ 104 rfl rfl rfl (ap_e1 _ 18 HG.out hsz (by omega)) ?_)
   intro v3 w3 hg3 hb3
   have HB3 := Lib.hid (HB.out.trans hb3)
   have HG3 : Hid (Ge W1.heap.size w3 v3 (P5 ++ e6)) := by show Ge _ _ _ _; rw [← HF.out]; exact hg3
   clear hg3 hb3
   go_wp2_with fail
   go_meet
   case rel => exact ⟨HG3, HB3⟩
  ·have HF := Lib.hid HE6.out
   rw [hb] at HF
   clear hb
   have HX := Lib.hid (HG.out.ext (show P5 = P5 ++ e6 by rw [← HF.out]; simp))
   go_wp2_with fail
   go_meet
   case rel => exact ⟨HX, HB⟩
 clear HG HB
 obtain ⟨HG, HB⟩ := hcut
 have hfl : (P5 ++ e6).length ≤ 6 := by rw [List.length_append]; omega
 generalize P5 ++ e6 = P6 at *
 go_upto_region 15 with fail
 go_cut [82, 8] from 72 to 82 (fun v e wx => v = .bool (!(rgB 0 cls opn && decide (cls ≤ 4096))) ∧ Hid (Ge W1.heap.size wx e P6) ∧ Hid (Below W1.heap.size W1 wx))
 case first => as_aux_lemma =>
  have a7 := (A1.out.below HB.out).c7
  have a8 := (A1.out.below HB.out).c8
  go_wp2_with fail
  refine (in_n (opn) 0 cls _).mono ?_
  rintro e wz ⟨rfl, rfl⟩
  cases q0 : rgB 0 cls opn
  ·go_wp2_with fail
   go_meet
   case rel => exact ⟨by simp [q0], HG, HB⟩
  ·by_cases c4 : cls ≤ 4096
   ·have c5 : ¬ (4096 : Int) < cls := by omega
    go_wp2_with fail
    go_meet
    case rel => exact ⟨by simp [q0, c4], HG, HB⟩
   ·have c5 : (4096 : Int) < cls := by omega
    go_wp2_with fail
    go_meet
    case rel => exact ⟨by simp [q0, c4], HG, HB⟩
 clear HG HB
 obtain ⟨rfl, HG, HB⟩ := hcut
 go_upto_if 82 with fail
 go_cut [8] from 72 to 85 (fun v wx => Hid (Ge W1.heap.size wx v (P6 ++ e7)) ∧ Hid (Below W1.heap.size W1 wx))
 case first => as_aux_lemma =>
  have hsz := HB.out.size
  cases hb : ((rgB 0 cls opn && decide (cls ≤ 4096)))
  ·have HF := Lib.hid HE7.out
   rw [hb] at HF
   clear hb
   go_wp2_with (at_builtin; refine wpList_append_run rfl _ _ 104 rfl rfl rfl (ap_e1 _ 15 HG.out hsz (by omega)) ?_)
   intro v3 w3 hg3 hb3
   have HB3 := Lib.hid (HB.out.trans hb3)
   have HG3 : Hid (Ge W1.heap.size w3 v3 (P6 ++ e7)) := by show Ge _ _ _ _; rw [← HF.out]; exact hg3
   clear hg3 hb3
   go_wp2_with fail
   go_meet
   case rel => exact ⟨HG3, HB3⟩
  ·have HF := Lib.hid HE7.out
   rw [hb] at HF
   clear hb
   have HX := Lib.hid (HG.out.ext (show P6 = P6 ++ e7 by rw [← HF.out]; simp))
   go_wp2_with fail
   go_meet
   case rel => exact ⟨HX, HB⟩
 clear HG HB
 obtain ⟨HG, HB⟩ := hcut
 have hfl : (P6 ++ e7).length ≤ 7 := by rw [List.length_append]; omega
 generalize P6 ++ e7 = P7 at *
 go_upto_region 17 with fail
 go_cut [95, 8] from 86 to 95 (fun v e wx => v = .bool (!(rgB 1 4096 drv && rgB 0 4096 rst)) ∧ Hid (Ge W1.heap.size wx e P7) ∧ Hid (Below W1.heap.size W1 wx))
 case first => as_aux_lemma =>
  have a9 := (A1.out.below HB.out).c9
  have a10 := (A1.out.below HB.out).c10
  go_wp2_with fail
  refine (in_n (drv) 1 4096 _).mono ?_
  rintro e wz ⟨rfl, rfl⟩
  cases q0 : rgB 1 4096 drv
  ·go_wp2_with fail
   go_meet
   case rel => exact ⟨by simp [q0], HG, HB⟩
  ·go_wp2_with fail
   refine (in_n (rst) 0 4096 _).mono ?_
   rintro e wz ⟨rfl, rfl⟩
   cases q1 : rgB 0 4096 rst
   ·go_wp2_with fail
    go_meet
    case rel => exact ⟨by simp [q0, q1], HG, HB⟩
   ·go_wp2_with fail
    go_meet
    case rel => exact ⟨by simp [q0, q1], HG, HB⟩
 clear HG HB
 obtain ⟨rfl, HG, HB⟩ := hcut
 go_upto_if 95 with fail
 go_cut [8] from 86 to 98 (fun v wx => Hid (Ge W1.heap.size wx v (P7 ++ e8)) ∧ Hid (Below W1.heap.size W1 wx))
 case first => as_aux_lemma =>
  have hsz := HB.out.size
  cases hb : ((rgB 1 4096 drv && rgB 0 4096 rst))
  ·have HF := Lib.hid HE8.out
   rw [hb] at HF
   clear hb
   go_wp2_with (at_builtin; refine wpList_append_run rfl _ _ 104 rfl rfl rfl (ap_e1 _ 16 HG.out hsz (by omega)) ?_)
   intro v3 w3 hg3 hb3
   have HB3 := Lib.hid (HB.out.trans hb3)
   have HG3 : Hid (Ge W1.heap.size w3 v3 (P7 ++ e8)) := by show Ge _ _ _ _; rw [← HF.out]; exact hg3
   clear hg3 hb3
   go_wp2_with fail
   go_meet
   case rel => exact ⟨HG3, HB3⟩
  ·have HF := Lib.hid HE8.out
   rw [hb] at HF
   clear hb
   have HX := Lib.hid (HG.out.ext (show P7 = P7 ++ e8 by rw [← HF.out]; simp))
   go_wp2_with fail
   go_meet
   case rel => exact ⟨HX, HB⟩
 clear HG HB
 obtain ⟨HG, HB⟩ := hcut
 have hfl : (P7 ++ e8).length ≤ 8 := by rw [List.length_append]; omega
 generalize P7 ++ e8 = P8 at *
 go_upto_region 19 with fail
 go_cut [120, 8] from 99 to 120 (fun v e wx => v = .bool (!(rgB 0 7 prof && rgB 0 100000 fix && rgB 0 100 pm && rgB 0 100 pt)) ∧ Hid (Ge W1.heap.size wx e P8) ∧ Hid (Below W1.heap.size W1 wx))
 case first => as_aux_lemma =>
  have a6 := (A1.out.below HB.out).c6
  have a11 := (A1.out.below HB.out).c11
  have a12 := (A1.out.below HB.out).c12
  have a13 := (A1.out.below HB.out).c13
  go_wp2_with fail
  refine (in_n (prof) 0 7 _).mono ?_
  rintro e wz ⟨rfl, rfl⟩
  cases q0 : rgB 0 7 prof
  ·go_wp2_with fail
   go_meet
   case rel => exact ⟨by simp [q0], HG, HB⟩
  ·go_wp2_with fail
   refine (in_n (fix) 0 100000 _).mono ?_
   rintro e wz ⟨rfl, rfl⟩
   cases q1 : rgB 0 100000 fix
   ·go_wp2_with fail
    go_meet
    case rel => exact ⟨by simp [q0, q1], HG, HB⟩
   ·go_wp2_with fail
    refine (in_n (pm) 0 100 _).mono ?_
    rintro e wz ⟨rfl, rfl⟩
    cases q2 : rgB 0 100 pm
    ·go_wp2_with fail
     go_meet
     case rel => exact ⟨by simp [q0, q1, q2], HG, HB⟩
    ·go_wp2_with fail
     refine (in_n (pt) 0 100 _).mono ?_
     rintro e wz ⟨rfl, rfl⟩
     cases q3 : rgB 0 100 pt
     ·go_wp2_with fail
      go_meet
      case rel => exact ⟨by simp [q0, q1, q2, q3], HG, HB⟩
     ·go_wp2_with fail
      go_meet
      case rel => exact ⟨by simp [q0, q1, q2, q3], HG, HB⟩
 clear HG HB
 obtain ⟨rfl, HG, HB⟩ := hcut
 go_upto_if 120 with fail
 go_cut [8] from 99 to 123 (fun v wx => Hid (Ge W1.heap.size wx v (P8 ++ e9)) ∧ Hid (Below W1.heap.size W1 wx))
 case first => as_aux_lemma =>
  have hsz := HB.out.size
  cases hb : ((rgB 0 7 prof && rgB 0 100000 fix && rgB 0 100 pm && rgB 0 100 pt))
  ·have HF := Lib.hid HE9.out
   rw [hb] at HF
   clear hb
   go_wp2_with (at_builtin; refine wpList_append_run rfl _ _ 104 rfl rfl rfl (ap_e1 _ 2 HG.out hsz (by omega)) ?_)
   intro v3 w3 hg3 hb3
   have HB3 := Lib.hid (HB.out.trans hb3)
   have HG3 : Hid (Ge W1.heap.size w3 v3 (P8 ++ e9)) := by show Ge _ _ _ _; rw [← HF.out]; exact hg3
   clear hg3 hb3
   go_wp2_with fail
   go_meet
   case rel => exact ⟨HG3, HB3⟩
  ·have HF := Lib.hid HE9.out
   rw [hb] at HF
   clear hb
   have HX := Lib.hid (HG.out.ext (show P8 = P8 ++ e9 by rw [← HF.out]; simp))
   go_wp2_with fail
   go_meet
   case rel => exact ⟨HX, HB⟩
 clear HG HB
 obtain ⟨HG, HB⟩ := hcut
 have hfl : (P8 ++ e9).length ≤ 9 := by rw [List.length_append]; omega
 generalize P8 ++ e9 = P9 at *
 have HR : Hid (P9 = r) := HE
 go_wp2_with fail
 go_ret
 exact errQ (Ge.ext HG.out HR.out) B1.out.size (over B1.out HB.out)

end Go.Proofs.YtomebalolmabnaaGreatDoor.T




