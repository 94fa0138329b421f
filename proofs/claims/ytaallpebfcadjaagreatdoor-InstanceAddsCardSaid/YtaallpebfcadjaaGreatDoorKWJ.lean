/-
 DERIVED. KWJ: a part of the base of layer 13 (made by pack.py).
-/
import Derived.Test.YtaallpebfcadjaaGreatDoorKWD
import Derived.Test.YtaallpebfcadjaaGreatDoorKWF
import Derived.Test.YtaallpebfcadjaaGreatDoorKWI
import Derived.Test.YtaallpebfcadjaaGreatDoorKQA
import Derived.Test.YtaallpebfcadjaaGreatDoorKQD
import Derived.Test.YtaallpebfcadjaaGreatDoorKQE
import Derived.Test.YtaallpebfcadjaaGreatDoorKWA
import Derived.Test.YtaallpebfcadjaaGreatDoorKWC
import Derived.Test.YtaallpebfcadjaaGreatDoorKWH
import Derived.Test.YtaallpebfcadjaaGreatDoorKQG
/-! The walk of the specification's Check of orders (written by gen_refordchk2.py). -/
namespace Go.Proofs.YtaallpebfcadjaaGreatDoor.T
open Go.RowKit
set_option maxRecDepth 8000
set_option maxHeartbeats 6400000 in
theorem refOrders_n (op : Option Addr) (np cp : Nat) (oa : Option Addr) (na ca : Nat) (dims types : Int) (v : Value) (l : List OrT) (hl : l.length ≤ 1000000) (hnp : np ≤ 9223372036854775807) (hc9 : ∀ i, i < l.length → (l.getD i or0).load.length ≤ 1000000000) (w : World) (hv : Os w v l) :
  Calls Tryz.prog 32 #[.agg #[.slice op np cp, .slice oa na ca], .int .i64 dims, .int .i64 types, v] w (ChkP (orderF np dims types l) w) := by
 have BW := below_alloc w (.cells #[.slice op np cp, .slice oa na ca] 25)
 have HV := Lib.hid (hv.below BW)
 have N0 := Lib.hid (Nb.made w (.slice op np cp) (.slice oa na ca))
 obtain ⟨ov, cv, rfl, -⟩ := hv
 have KR := Lib.hid (fun i (hi : i < l.length) w hv => refRulesO_n np dims types (.slice ov l.length cv) l i hi hl hnp (hc9 i hi) w hv)
 have HE : Hid (orF np dims types l l.length = orderF np dims types l) := rfl
 have H0 : Hid (orF np dims types l 0 = if l.length ≤ 10 then [] else [(4, ⟨#[]⟩)]) := rfl
 have HS : Hid (∀ k, orF np dims types l (k + 1) = orF np dims types l k ++ atT k (orE np dims types l k)) := fun _ => rfl
 have HL := Lib.hid (orF_len np dims types l)
 have HL2 := Lib.hid (fun k => orE_len np dims types l k)
 obtain ⟨W0, hW0⟩ : ∃ W0, w.alloc (.cells #[.slice op np cp, .slice oa na ca] 25) = W0 := ⟨_, rfl⟩
 have hsz0 : w.heap.size ≤ W0.heap.size := by rw [← hW0]; exact BW.size
 rw [hW0] at HV N0 BW
 have B0 := Lib.hid BW
 clear BW hc9
 generalize orderF np dims types l = r at *
 generalize hn : l.length = n at *
 go_enter Tryz.func32, Tryz.ntmps32
 go_upto_if 15 with fail
 clear hW0
 go_cut [9] from 13 to 19 (fun v wx => Hid (Gl W0.heap.size wx v (orF np dims types l 0)) ∧ Hid (Below W0.heap.size W0 wx))
 case first => as_aux_lemma =>
  by_cases hb : n ≤ 10
  ·have HF : Hid (orF np dims types l 0 = []) := by show _ = _; rw [H0.out, if_pos hb]
   have hq : decide ((10 : Int) < (n : Int)) = false := decide_eq_false (by omega)
   have hq2 : ¬ (10 : Int) < (n : Int) := by omega
   clear hb
   go_wp2_with fail
   go_meet
   case rel => exact ⟨HF.out ▸ Gl.nil _ _, Below.refl _ _⟩
  ·have HF : Hid (orF np dims types l 0 = [] ++ [(4, ⟨#[]⟩)]) := by show _ = _; rw [H0.out, if_neg hb]; rfl
   have hq : (10 : Int) < (n : Int) := by omega
   clear hb
   go_wp2_with (at_builtin; refine wpList_append_run rfl _ _ 33 rfl rfl rfl (ap_f1 _ 4 ⟨#[]⟩ (Gl.nil _ W0) (Nat.le_refl _) (by simp)) ?_)
   intro v3 w3 hg3 hb3
   go_wp2_with fail
   go_meet
   case rel => exact ⟨HF.out ▸ hg3, hb3⟩
 obtain ⟨HG, HB⟩ := hcut
 go_wp2_with fail
 go_loopg [9, 10] n (fun g v j wx => ∃ k : Nat, k ≤ n ∧ j = .int .i64 k ∧ n - k ≤ g ∧ Hid (Gl W0.heap.size wx v (orF np dims types l k)) ∧ Hid (Below W0.heap.size W0 wx))
 case atStart => exact ⟨0, Nat.zero_le _, rfl, Nat.le_refl _, HG, HB⟩
 case round =>
  clear HG HB H0
  obtain ⟨k, hkn, rfl, hg, HG, HB⟩ := hrel
  by_cases hlt : k < n
  ·have hkI : (k : Int) < (n : Int) := by omega
   have g0 := (N0.out.below HB.out).c0
   have g1 := (N0.out.below HB.out).c1
   have HVk := Lib.hid (HV.out.below HB.out)
   have KRk := Lib.hid (KR.out k hlt)
   have hl1 := HL.out k
   have hl2 := HL2.out k
   have HSk := Lib.hid (HS.out k)
   have KD := Lib.hid (fun w => decimal_n k (by omega) w)
   generalize orE np dims types l k = E at *
   generalize orF np dims types l k = F at *
   go_wp2_with fail
   refine (KRk.out _ HVk.out).mono ?_
   rintro e w2 ⟨vE, rfl, hGe, ⟨oE, cE, rfl, hLi, -⟩, b2⟩
   have HB2 := Lib.hid (over HB.out b2)
   have HG2 := Lib.hid (HG.out.frame b2)
   have HE2 := Lib.hid hLi
   have HN2 : Hid (∀ a, oE = some a → 0 < E.length → a.block < w2.heap.size ∧ u9.ownBlock ≠ some a.block) := fun a ha _ => by
    have h1 := World.ownsRow.lt hGe a.block (by rw [ha]; rfl)
    refine ⟨h1.2, fun h => ?_⟩
    have h2 := (World.ownsRow.lt HG.out.own a.block h).2
    omega
   clear g0 g1 hGe hLi b2 HB HG HVk KRk
   have HZ4 : Hid (F ++ atT k (E.take 0) = F) := List.append_nil _
   have HS4 := Lib.hid (fun m (hm : m < E.length) => atT_step (i := k) hm)
   have HL4 : Hid (∀ m, m ≤ E.length → (atT k (E.take m)).length = m) := fun m hm => by unfold atT; rw [List.length_map, List.length_take]; omega
   have HE4 : Hid (orF np dims types l (k + 1) = F ++ atT k (E.take E.length)) := by show _ = _; rw [HSk.out, List.take_length]
   clear HSk
   go_wp2_with fail
   go_loopg [9, 12] E.length (fun g v j wx => ∃ m : Nat, m ≤ E.length ∧ j = .int .i64 m ∧ E.length - m ≤ g ∧ Hid (Gl W0.heap.size wx v (F ++ atT k (E.take m))) ∧ Hid (Below W0.heap.size W0 wx) ∧ Hid (L.Li wx (.slice oE E.length cE) E) ∧ Hid (∀ a, oE = some a → 0 < E.length → a.block < wx.heap.size ∧ v.ownBlock ≠ some a.block))
   case atStart => exact ⟨0, Nat.zero_le _, rfl, Nat.le_refl _, HG2.out.ext HZ4.out.symm, HB2, HE2, HN2⟩
   case round =>
    clear HG2 HB2 HE2 HN2 HZ4
    obtain ⟨m, hm, rfl, hgm, HG, HB, HEl, HNl⟩ := hrel
    by_cases hlt2 : m < E.length
    ·have hEl := HEl.out
     obtain ⟨oE', cE', hvE, hall⟩ := hEl
     simp only [Value.slice.injEq] at hvE
     obtain ⟨rfl, -, rfl⟩ := hvE
     obtain ⟨a, rfl, hab, hc0⟩ := hall m hlt2
     have hmI : (m : Int) < (E.length : Int) := by omega
     have hl4 := HL4.out m hm
     have hlen : (F ++ atT k (E.take m)).length ≤ 90000000 := by rw [List.length_append]; omega
     have HX : Hid (F ++ atT k (E.take (m + 1)) = F ++ atT k (E.take m) ++ [(E.getD m 0, dec k)]) := by show _ = _; rw [HS4.out m hlt2, List.append_assoc]
     have d0 : wr.drew.cell? (a.add m) = some (.int .i64 (E.getD m 0)) := hc0
     have HGd : Gl W0.heap.size wr.drew u9 (F ++ atT k (E.take m)) := HG.out
     have HBd : Below W0.heap.size W0 wr.drew := below_drew HB.out
     have HEd : L.Li wr.drew (.slice (some a) E.length cE) E := HEl.out
     have HNd : ∀ a', some a = some a' → 0 < E.length → a'.block < wr.drew.heap.size ∧ u9.ownBlock ≠ some a'.block := HNl.out
     have HHG := Lib.hid HGd
     have HHE := Lib.hid HEd
     have HHN := Lib.hid HNd
     clear hc0 hall HG HEl HNl HGd HEd HNd
     generalize E.getD m 0 = x at *
     go_wp2_with fail
     go_region_law (first
      | (refine step_append_run (by rfl) _ _ 33 (by rfl) (by rfl) (by rfl) (ap_fk _ x (dec k) HGz.out hsz hlen HEz.out HNz.out) ?_; rintro v3 w3 ⟨hg3, hb3, he3, hn3⟩)
      | (go_simp; go_at_call 69; (with_reducible refine (KD.out _).mono ?_); rintro e wz ⟨rfl, bz⟩; have HGz := Lib.hid (HHG.out.frame bz); have HBz := HBd.trans (bz.mono HBd.size); have HEz := Lib.hid (HHE.out.below bz); have HNz := Lib.hid (fun a' ha h0 => And.intro (Nat.lt_of_lt_of_le (HHN.out a' ha h0).1 bz.size) (HHN.out a' ha h0).2); have hsz := HBz.size; have d0 := (bz.cell (p := a.add m) (by rw [L.add_block]; exact hab)).trans d0))
     all_goals
      have HG3 : Hid (Gl W0.heap.size w3 v3 (F ++ atT k (E.take (m + 1)))) := by show Gl _ _ _ _; rw [HX.out]; exact hg3
      have HB3 := Lib.hid (HBz.trans hb3)
      have HE3 := Lib.hid he3
      have HN3 := Lib.hid hn3
      clear hg3 hb3 he3 hn3 HBz HBd d0
      go_wp2_with fail
      go_roundg (E.length - (m + 1))
      case measure => omega
      case rel => exact ⟨m + 1, by omega, by go_num, by omega, HG3, HB3, HE3, HN3⟩
    ·have hm' : m = E.length := by omega
     have HG3 := Lib.hid (HG.out.ext (show F ++ atT k (E.take m) = orF np dims types l (k + 1) by rw [HE4.out, hm']))
     clear HG HEl HNl
     go_wp2_with fail
     go_roundg (n - (k + 1))
     case measure => omega
     case rel => exact ⟨k + 1, by omega, by go_num, by omega, HG3, HB⟩
  ·have hk' : k = n := by omega
   subst hk'
   have HR := Lib.hid HE.out
   go_wp2_with fail
   go_ret
   exact chkP (HR.out ▸ HG.out) (over B0.out HB.out) hsz0
end Go.Proofs.YtaallpebfcadjaaGreatDoor.T
namespace Go.Proofs.YtaallpebfcadjaaGreatDoor.T
open Go.RowKit
set_option maxRecDepth 8000
set_option maxHeartbeats 6400000 in
theorem refInst_n (o0 o1 o2 o3 o4 o5 : Option Addr) (c0 c1 c2 c3 c4 c5 : Nat) (x : InT) (hx : InB x) (w : World) (h0 : Ss w (.slice o0 x.pl.length c0) x.pl) (h1 : As w (.slice o1 x.al.length c1) x.al) (h2 : Ts w (.slice o2 x.tl.length c2) x.tl) (h3 : Os w (.slice o3 x.ol.length c3) x.ol) (h4 : Ps w (.slice o4 x.ap.length c4) x.ap) (h5 : Ps w (.slice o5 x.be.length c5) x.be) :
  Calls Tryz.prog 11 #[inV (.slice o0 x.pl.length c0) (.slice o1 x.al.length c1) (.slice o2 x.tl.length c2) (.slice o3 x.ol.length c3) (.slice o4 x.ap.length c4) (.slice o5 x.be.length c5)] w (ChkP (inF x) w) := by
 have hp1 := hx.pl
 have hp2 := hx.al
 have hp3 := hx.tl
 have hp4 := hx.ol
 have hp5 := hx.ap
 have hp6 := hx.be
 have BI := below_alloc w (.cells #[.slice o0 x.pl.length c0, .slice o1 x.al.length c1, .slice o2 x.tl.length c2, .slice o3 x.ol.length c3, .slice o4 x.ap.length c4, .slice o5 x.be.length c5] 30)
 have I0 := Ib.made w (.slice o0 x.pl.length c0) (.slice o1 x.al.length c1) (.slice o2 x.tl.length c2) (.slice o3 x.ol.length c3) (.slice o4 x.ap.length c4) (.slice o5 x.be.length c5)
 have K1 := Lib.hid (fun w hp ha => refNet_n (.slice o0 x.pl.length c0) (.slice o1 x.al.length c1) x.pl x.al (by omega) (by omega) hx.wt w hp ha)
 have K2 := Lib.hid (fun w hv => refFleet_n o0 x.pl.length c0 o1 x.al.length c1 (.slice o2 x.tl.length c2) x.tl (by omega) (by omega) hx.cap w hv)
 have K3 := Lib.hid (fun w hv => refDims_n (.slice o2 x.tl.length c2) x.tl (by omega) w hv)
 have K4 := Lib.hid (fun w hv => refOrders_n o0 x.pl.length c0 o1 x.al.length c1 (dimsF x.tl : Nat) (x.tl.length : Nat) (.slice o3 x.ol.length c3) x.ol (by omega) (by omega) hx.load w hv)
 have K5 := Lib.hid (fun w hv hu => check12_n (x.ol.length : Nat) (.slice o4 x.ap.length c4) (.slice o5 x.be.length c5) x.ap x.be (by omega) (by omega) w hv hu)
 obtain ⟨⟨n1, s1⟩, ⟨n2, s2⟩, ⟨n3, s3⟩, ⟨n4, s4⟩⟩ := in_parts hx
 have U1 := Lib.hid (fun u w hu => under13_n kNet (by decide) u (netF x.pl x.al) (by omega) s1.at w hu)
 have U2 := Lib.hid (fun u w hu => under13_n kTypes (by decide) u (fleetF x.pl.length x.tl) (by omega) s2.at w hu)
 have U3 := Lib.hid (fun u w hu => under13_n kOrders (by decide) u (orderF x.pl.length (dimsF x.tl : Nat) (x.tl.length : Nat) x.ol) (by omega) s3.at w hu)
 have U4 := Lib.hid (fun u w hu => under13_n kRules (by decide) u (checkF (x.ol.length : Nat) x.ap x.be) (by omega) s4.at w hu)
 have HE : Hid (undF kNet (netF x.pl x.al) ++ undF kTypes (fleetF x.pl.length x.tl) ++ undF kOrders (orderF x.pl.length (dimsF x.tl : Nat) (x.tl.length : Nat) x.ol) ++ undF kRules (checkF (x.ol.length : Nat) x.ap x.be) = inF x) := rfl
 rw [← und_len kNet] at n1
 rw [← und_len kTypes] at n2
 rw [← und_len kOrders] at n3
 rw [← und_len kRules] at n4
 have H0 := Lib.hid (h0.below BI)
 have H1 := Lib.hid (h1.below BI)
 have H2 := Lib.hid (h2.below BI)
 have H3 := Lib.hid (h3.below BI)
 have H4 := Lib.hid (h4.below BI)
 have H5 := Lib.hid (h5.below BI)
 have HB := Lib.hid BI
 obtain ⟨W0, hW0⟩ : ∃ W0, w.alloc (.cells #[.slice o0 x.pl.length c0, .slice o1 x.al.length c1, .slice o2 x.tl.length c2, .slice o3 x.ol.length c3, .slice o4 x.ap.length c4, .slice o5 x.be.length c5] 30) = W0 := ⟨_, rfl⟩
 rw [hW0] at H0 H1 H2 H3 H4 H5 HB I0
 have HI := Lib.hid I0
 have HW0 := Lib.hid hW0
 clear BI I0 h0 h1 h2 h3 h4 h5 hW0 s1 s2 s3 s4
 generalize inF x = r at *
 generalize undF kNet (netF x.pl x.al) = f1 at *
 generalize undF kTypes (fleetF x.pl.length x.tl) = f2 at *
 generalize undF kOrders (orderF x.pl.length (dimsF x.tl : Nat) (x.tl.length : Nat) x.ol) = f3 at *
 generalize undF kRules (checkF (x.ol.length : Nat) x.ap x.be) = f4 at *
 generalize netF x.pl x.al = g1 at *
 generalize fleetF x.pl.length x.tl = g2 at *
 generalize orderF x.pl.length (dimsF x.tl : Nat) (x.tl.length : Nat) x.ol = g3 at *
 generalize checkF (x.ol.length : Nat) x.ap x.be = g4 at *
 generalize dimsF x.tl = dm at *
 unfold kNet at U1
 unfold kTypes at U2
 unfold kOrders at U3
 unfold kRules at U4
 unfold inV
 go_enter Tryz.func11, Tryz.ntmps11
 go_upto_region 1 with fail
 rw [HW0.out]
 have hB0 := HB.out.size
 have HBr : Hid (Below W0.heap.size W0 W0) := Below.refl _ _
 have i0 := (HI.out.below HBr.out).c0
 have i1 := (HI.out.below HBr.out).c1
 have i2 := (HI.out.below HBr.out).c2
 have i3 := (HI.out.below HBr.out).c3
 have i4 := (HI.out.below HBr.out).c4
 have i5 := (HI.out.below HBr.out).c5
 go_wp2_with fail
 refine (K1.out _ H0.out H1.out).mono ?_
 intro e w1 h
 obtain ⟨v1, rfl, hf1, -, b1⟩ := Lf.of_chk h
 obtain ⟨ou, cu, rfl, hfs1, -⟩ := hf1
 have HF1 := Lib.hid hfs1
 have HB1 : Hid (Below W0.heap.size W0 w1) := b1
 clear h b1 hfs1 HW0 K1 i0 i1 i2 i3 i4 i5
 go_wp2_with fail
 refine (U1.out _ _ HF1.out).mono ?_
 intro e w2 h
 obtain ⟨v2, rfl, -, hg2, b2⟩ := Lf.of_chk h
 have HG2 : Hid (Gl W0.heap.size w2 v2 f1) := Gn.mono hg2 HB1.out.size
 have HB2 := Lib.hid (over HB1.out b2)
 clear h hg2 b2 HB1 HF1 U1
 have i0 := (HI.out.below HB2.out).c0
 have i1 := (HI.out.below HB2.out).c1
 have i2 := (HI.out.below HB2.out).c2
 have i3 := (HI.out.below HB2.out).c3
 have i4 := (HI.out.below HB2.out).c4
 have i5 := (HI.out.below HB2.out).c5
 go_wp2_with fail
 refine (K2.out _ (H2.out.below HB2.out)).mono ?_
 intro e w3 h
 obtain ⟨v3, rfl, hf3, -, b3⟩ := Lf.of_chk h
 obtain ⟨ou3, cu3, rfl, hfs3, -⟩ := hf3
 have HF3 := Lib.hid hfs3
 have HG3 := Lib.hid (HG2.out.frame b3)
 have HB3 := Lib.hid (over HB2.out b3)
 clear h b3 hfs3 HB2 HG2 K2 i0 i1 i2 i3 i4 i5
 go_wp2_with fail
 refine (U2.out _ _ HF3.out).mono ?_
 intro e w4 h
 obtain ⟨v4, rfl, hf4, -, b4⟩ := Lf.of_chk h
 have HF4 := Lib.hid hf4
 have HG4 := Lib.hid (HG3.out.frame b4)
 have HB4 := Lib.hid (over HB3.out b4)
 have hB4 := HB4.out.size
 clear h hf4 b4 HB3 HG3 HF3 U2
 go_wp2_with (at_builtin; refine wpList_append_run rfl _ _ 33 rfl rfl rfl (ap_f _ HG4.out HF4.out hB4 (by omega)) ?_)
 intro v5 w5 hg5 hb5 _ _
 obtain ⟨ln5, oa5, ca5, rfl⟩ : ∃ ln oa c, v5 = .slice oa ln c := by obtain ⟨_, _, e⟩ := Gn.form hg5; exact ⟨_, _, _, e⟩
 have HG5 := Lib.hid hg5
 have HB5 := Lib.hid (HB4.out.trans hb5)
 have hl12 : (f1 ++ f2).length ≤ 4000000 := by rw [List.length_append]; omega
 have hl123 : ((f1 ++ f2) ++ f3).length ≤ 5000000 := by rw [List.length_append]; omega
 clear hg5 hb5 HB4 HG4 HF4
 go_upto_region 3 with fail
 have HBd : Hid (Below W0.heap.size W0 w5.drew) := below_drew HB5.out
 have HGd : Hid (Gl W0.heap.size w5.drew (.slice oa5 ln5 ca5) (f1 ++ f2)) := HG5.out
 have J2 := Lib.hid (H2.out.below HBd.out)
 have J3 := Lib.hid (H3.out.below HBd.out)
 have i0 : w5.drew.cell? ⟨w.heap.size, 0, none⟩ = some (.slice o0 x.pl.length c0) := (HI.out.below HB5.out).c0
 have i1 : w5.drew.cell? ⟨w.heap.size, 1, none⟩ = some (.slice o1 x.al.length c1) := (HI.out.below HB5.out).c1
 have i2 : w5.drew.cell? ⟨w.heap.size, 2, none⟩ = some (.slice o2 x.tl.length c2) := (HI.out.below HB5.out).c2
 have i3 : w5.drew.cell? ⟨w.heap.size, 3, none⟩ = some (.slice o3 x.ol.length c3) := (HI.out.below HB5.out).c3
 go_region_held3 (fun w' => w'.cell? ⟨w.heap.size, 0, none⟩ = some (.slice o0 x.pl.length c0) ∧ w'.cell? ⟨w.heap.size, 1, none⟩ = some (.slice o1 x.al.length c1) ∧ w'.cell? ⟨w.heap.size, 2, none⟩ = some (.slice o2 x.tl.length c2) ∧ w'.cell? ⟨w.heap.size, 3, none⟩ = some (.slice o3 x.ol.length c3))
  (first | exact ⟨i0, i1, i2, i3⟩)
  (first
   | (refine step_append_run (by rfl) _ _ 33 (by rfl) (by rfl) (by rfl) (ap_f _ HGz.out HFz.out hBz (by omega)) ?_; rintro v3 w3 ⟨hg3, hb3, -, -⟩; have HG9 := Lib.hid hg3; have HB9 := Lib.hid (HBz.out.trans hb3); have i0 := (HI.out.below HB9.out).c0; have i1 := (HI.out.below HB9.out).c1; have i2 := (HI.out.below HB9.out).c2; have i3 := (HI.out.below HB9.out).c3)
   | (go_at_call 33; (with_reducible refine (K3.out _ J2.out).mono ?_); rintro e wz ⟨rfl, rfl⟩)
   | (go_at_call 32; (with_reducible refine (K4.out _ J3.out).mono ?_); intro e wy hy; obtain ⟨vy, rfl, hfy, -, by1⟩ := Lf.of_chk hy; obtain ⟨ouy, cuy, rfl, hfsy, -⟩ := hfy; have HGy := Lib.hid (HGd.out.frame by1); have HBy := Lib.hid (over HBd.out by1); have i0 := (HI.out.below HBy.out).c0; have i1 := (HI.out.below HBy.out).c1; have i2 := (HI.out.below HBy.out).c2; have i3 := (HI.out.below HBy.out).c3)
   | (go_at_call 29; (with_reducible refine (U3.out _ _ hfsy).mono ?_); intro e wz hz; obtain ⟨vz, rfl, hfz, -, bz⟩ := Lf.of_chk hz; have HFz := Lib.hid hfz; have HGz := Lib.hid (HGy.out.frame bz); have HBz := Lib.hid (over HBy.out bz); have hBz := HBz.out.size; have i0 := (HI.out.below HBz.out).c0; have i1 := (HI.out.below HBz.out).c1; have i2 := (HI.out.below HBz.out).c2; have i3 := (HI.out.below HBz.out).c3))
 all_goals
  have i4 := (HI.out.below HB9.out).c4
  have i5 := (HI.out.below HB9.out).c5
  clear HGz HFz HBz hBz HGy HBy hfsy J2 J3 HGd HBd HB5 HG5 hg3 hb3 bz by1 hfz
  go_wp2_with fail
  refine (K5.out _ (psI_below H4.out HB9.out) (psI_below H5.out HB9.out)).mono ?_
  intro e w6 h
  obtain ⟨v6, rfl, hf6, -, b6⟩ := Lf.of_chk h
  obtain ⟨ou6, cu6, rfl, hfs6, -⟩ := hf6
  have HF6 := Lib.hid hfs6
  have HG6 := Lib.hid (HG9.out.frame b6)
  have HB6 := Lib.hid (over HB9.out b6)
  clear h b6 hfs6 HB9 HG9 K5 i0 i1 i2 i3 i4 i5
  go_wp2_with fail
  refine (U4.out _ _ HF6.out).mono ?_
  intro e w7 h
  obtain ⟨v7, rfl, hf7, -, b7⟩ := Lf.of_chk h
  have HF7 := Lib.hid hf7
  have HG7 := Lib.hid (HG6.out.frame b7)
  have HB7 := Lib.hid (over HB6.out b7)
  have hB7 := HB7.out.size
  clear h hf7 b7 HB6 HG6 HF6 U4
  go_wp2_with (at_builtin; refine wpList_append_run rfl _ _ 33 rfl rfl rfl (ap_f _ HG7.out HF7.out hB7 (by omega)) ?_)
  intro v8 w8 hg8 hb8 _ _
  have HG8 : Hid (Gl W0.heap.size w8 v8 r) := by show Gl _ _ _ _; rw [← HE.out]; simpa only [List.append_assoc] using hg8
  have HB8 := Lib.hid (over HB.out (HB7.out.trans hb8))
  clear hg8 hb8
  go_wp2_with fail
  go_ret
  exact chkP HG8.out HB8.out hB0
end Go.Proofs.YtaallpebfcadjaaGreatDoor.T
namespace Go.Proofs.YtaallpebfcadjaaGreatDoor.T
open Go.RowKit
set_option maxRecDepth 8000
set_option maxHeartbeats 1600000 in
theorem refPoints_n (u v : Value) (a b : List (Int × Int)) (hl : a.length ≤ 1000000) (w : World) (hu : Ps w u a) (hv : Ps w v b) :
  Calls Tryz.prog 76 #[u, v] w fun e w' => e = .returned (.bool (a == b)) ∧ Below w.heap.size w w' := by
 have HU := Lib.hid hu
 have HV := Lib.hid hv
 obtain ⟨oa, ca, rfl, -⟩ := hu
 obtain ⟨ob, cb, rfl, -⟩ := hv
 by_cases hab : a.length = b.length
 ·have HY : Hid ((∀ i, i < a.length → a.getD i (0, 0) = b.getD i (0, 0)) → (a == b) = true) := fun h => eqb_of hab h
  have HNo : Hid (∀ i, a.getD i (0, 0) ≠ b.getD i (0, 0) → (a == b) = false) := fun i h => eqb_no h
  rw [← hab] at HV ⊢
  generalize (a == b) = r at *
  have HAB := Lib.hid hab
  generalize hn : a.length = n at *
  have HN := Lib.hid hn
  have hne : ((n : Int) != (n : Int)) = false := by simp
  have hgs : Tryz.prog.eqGuardType Tryz.prog.depth 105 = false := by kernel_rfl
  clear hn hab
  go_enter Tryz.func76, Tryz.ntmps76
  go_wp2_with fail
  go_loopg [5] n (fun g i wr => ∃ k : Nat, k ≤ n ∧ i = .int .i64 k ∧ n - k ≤ g ∧ Hid (∀ i, i < k → a.getD i (0, 0) = b.getD i (0, 0)) ∧ Hid (∀ z, Below w.heap.size w (wr.drewN z)))
  case atStart => exact ⟨0, Nat.zero_le _, rfl, Nat.le_refl _, fun i hi => absurd hi (Nat.not_lt_zero _), fun z => below_drewN (Below.refl _ _) z⟩
  case round =>
   obtain ⟨k, hk, rfl, hg, HK, HB⟩ := hrel
   have HB0 : Hid (Below w.heap.size w wr) := by have := HB.out 0; exact this
   by_cases hlt : k < n
   ·have hkI : (k : Int) < (n : Int) := by omega
    obtain ⟨b1, o1, rfl, hab1, x0, x1⟩ := ps_at (by have := HU.out.below HB0.out; rw [← HN.out] at this; exact this) (show k < a.length by rw [HN.out]; exact hlt)
    obtain ⟨b2, o2, rfl, hab2, y0, y1⟩ := ps_at (by have := HV.out.below HB0.out; rw [HAB.out] at this; exact this) (show k < b.length by rw [← HAB.out]; exact hlt)
    have HNk := Lib.hid (HNo.out k)
    have HKm : Hid (a.getD k (0, 0) = b.getD k (0, 0) → ∀ i, i < k + 1 → a.getD i (0, 0) = b.getD i (0, 0)) := fun h i hi => by
     by_cases e : i = k
     ·subst e; exact h
     ·exact HK.out i (by omega)
    generalize a.getD k (0, 0) = p at *
    generalize b.getD k (0, 0) = q at *
    by_cases hpq : p = q
    ·have HK2 := Lib.hid (HKm.out hpq)
     have hq := neqPt p.1 p.2 q.1 q.2
     rw [(pr_eq (p := p) (q := q)).2 hpq, Bool.not_true] at hq
     clear hpq
     go_upto_region 6 with fail
     go_quiet (fail)
     go_wp2_with fail
     go_roundg (n - (k + 1))
     case measure => omega
     case rel => exact ⟨k + 1, by omega, by go_num, by omega, HK2, fun z => below_drewN (below_drewN HB0.out _) z⟩
    ·have HX : Hid (r = false) := HNk.out hpq
     have hq := neqPt p.1 p.2 q.1 q.2
     have hpf : (p.1 == q.1 && p.2 == q.2) = false := by
      cases h : (p.1 == q.1 && p.2 == q.2)
      ·rfl
      ·exact absurd (pr_eq.1 h) hpq
     rw [hpf, Bool.not_false] at hq
     clear hpq hpf
     go_upto_region 6 with fail
     go_quiet (fail)
     go_wp2_with fail
     go_ret
     exact ⟨ret_bool (by rw [HX.out]), below_drewN HB0.out _⟩
   ·have hkk : k = n := by omega
    have hkI : ¬ (k : Int) < (n : Int) := by omega
    have HX : Hid (r = true) := HY.out (by rw [← hkk]; exact HK.out)
    go_wp2_with fail
    go_ret
    exact ⟨ret_bool (by rw [HX.out]), HB0.out⟩
 ·have HX : Hid ((a == b) = false) := eqb_len hab
  have hne : ((a.length : Int) != (b.length : Int)) = true := ne_neN hab
  generalize (a == b) = r at *
  clear hab
  go_enter Tryz.func76, Tryz.ntmps76
  go_wp2_with fail
  go_ret
  exact ⟨ret_bool (by rw [HX.out]), Below.refl _ _⟩
set_option maxHeartbeats 1600000 in
theorem refPairs_n (u v : Value) (a b : List (Int × Int)) (hl : a.length ≤ 1000000) (w : World) (hu : Ps w u a) (hv : Ps w v b) :
  Calls Tryz.prog 49 #[u, v] w fun e w' => e = .returned (.bool (a == b)) ∧ Below w.heap.size w w' := by
 have HU := Lib.hid hu
 have HV := Lib.hid hv
 obtain ⟨oa, ca, rfl, -⟩ := hu
 obtain ⟨ob, cb, rfl, -⟩ := hv
 by_cases hab : a.length = b.length
 ·have HY : Hid ((∀ i, i < a.length → a.getD i (0, 0) = b.getD i (0, 0)) → (a == b) = true) := fun h => eqb_of hab h
  have HNo : Hid (∀ i, a.getD i (0, 0) ≠ b.getD i (0, 0) → (a == b) = false) := fun i h => eqb_no h
  rw [← hab] at HV ⊢
  generalize (a == b) = r at *
  have HAB := Lib.hid hab
  generalize hn : a.length = n at *
  have HN := Lib.hid hn
  have hne : ((n : Int) != (n : Int)) = false := by simp
  have hgs : Tryz.prog.eqGuardType Tryz.prog.depth 75 = false := by kernel_rfl
  clear hn hab
  go_enter Tryz.func49, Tryz.ntmps49
  go_wp2_with fail
  go_loopg [5] n (fun g i wr => ∃ k : Nat, k ≤ n ∧ i = .int .i64 k ∧ n - k ≤ g ∧ Hid (∀ i, i < k → a.getD i (0, 0) = b.getD i (0, 0)) ∧ Hid (∀ z, Below w.heap.size w (wr.drewN z)))
  case atStart => exact ⟨0, Nat.zero_le _, rfl, Nat.le_refl _, fun i hi => absurd hi (Nat.not_lt_zero _), fun z => below_drewN (Below.refl _ _) z⟩
  case round =>
   obtain ⟨k, hk, rfl, hg, HK, HB⟩ := hrel
   have HB0 : Hid (Below w.heap.size w wr) := by have := HB.out 0; exact this
   by_cases hlt : k < n
   ·have hkI : (k : Int) < (n : Int) := by omega
    obtain ⟨b1, o1, rfl, hab1, x0, x1⟩ := ps_at (by have := HU.out.below HB0.out; rw [← HN.out] at this; exact this) (show k < a.length by rw [HN.out]; exact hlt)
    obtain ⟨b2, o2, rfl, hab2, y0, y1⟩ := ps_at (by have := HV.out.below HB0.out; rw [HAB.out] at this; exact this) (show k < b.length by rw [← HAB.out]; exact hlt)
    have HNk := Lib.hid (HNo.out k)
    have HKm : Hid (a.getD k (0, 0) = b.getD k (0, 0) → ∀ i, i < k + 1 → a.getD i (0, 0) = b.getD i (0, 0)) := fun h i hi => by
     by_cases e : i = k
     ·subst e; exact h
     ·exact HK.out i (by omega)
    generalize a.getD k (0, 0) = p at *
    generalize b.getD k (0, 0) = q at *
    by_cases hpq : p = q
    ·have HK2 := Lib.hid (HKm.out hpq)
     have hq := neqPr p.1 p.2 q.1 q.2
     rw [(pr_eq (p := p) (q := q)).2 hpq, Bool.not_true] at hq
     clear hpq
     go_upto_region 6 with fail
     go_quiet (fail)
     go_wp2_with fail
     go_roundg (n - (k + 1))
     case measure => omega
     case rel => exact ⟨k + 1, by omega, by go_num, by omega, HK2, fun z => below_drewN (below_drewN HB0.out _) z⟩
    ·have HX : Hid (r = false) := HNk.out hpq
     have hq := neqPr p.1 p.2 q.1 q.2
     have hpf : (p.1 == q.1 && p.2 == q.2) = false := by
      cases h : (p.1 == q.1 && p.2 == q.2)
      ·rfl
      ·exact absurd (pr_eq.1 h) hpq
     rw [hpf, Bool.not_false] at hq
     clear hpq hpf
     go_upto_region 6 with fail
     go_quiet (fail)
     go_wp2_with fail
     go_ret
     exact ⟨ret_bool (by rw [HX.out]), below_drewN HB0.out _⟩
   ·have hkk : k = n := by omega
    have hkI : ¬ (k : Int) < (n : Int) := by omega
    have HX : Hid (r = true) := HY.out (by rw [← hkk]; exact HK.out)
    go_wp2_with fail
    go_ret
    exact ⟨ret_bool (by rw [HX.out]), HB0.out⟩
 ·have HX : Hid ((a == b) = false) := eqb_len hab
  have hne : ((a.length : Int) != (b.length : Int)) = true := ne_neN hab
  generalize (a == b) = r at *
  clear hab
  go_enter Tryz.func49, Tryz.ntmps49
  go_wp2_with fail
  go_ret
  exact ⟨ret_bool (by rw [HX.out]), Below.refl _ _⟩
end Go.Proofs.YtaallpebfcadjaaGreatDoor.T

