/-
 DERIVED. KWL: a part of the base of layer 13 (made by pack.py).
-/
import Derived.Test.YtaallpebfcadjaaGreatDoorKQG
import Derived.Test.YtaallpebfcadjaaGreatDoorKWG
import Derived.Test.YtaallpebfcadjaaGreatDoorKWK
/-! The walk of lorryref13.Same (written by gen_refin6.py). -/
namespace Go.Proofs.YtaallpebfcadjaaGreatDoor.T
open Go.RowKit
set_option maxRecDepth 8000
set_option maxHeartbeats 12800000 in
theorem refSameIn_n (o0 o1 o2 o3 o4 o5 o0' o1' o2' o3' o4' o5' : Option Addr) (c0 c1 c2 c3 c4 c5 c0' c1' c2' c3' c4' c5' : Nat) (x x' : InT) (hx : InB x) (hx' : InB x') (ht : ∀ i, i < x.al.length → (x.al.getD i arc0).tr.length ≤ 1000000 ∧ (x.al.getD i arc0).sl.length ≤ 1000000) (w : World) (h0 : Ss w (.slice o0 x.pl.length c0) x.pl) (h1 : As w (.slice o1 x.al.length c1) x.al) (h2 : Ts w (.slice o2 x.tl.length c2) x.tl) (h3 : Os w (.slice o3 x.ol.length c3) x.ol) (h4 : Ps w (.slice o4 x.ap.length c4) x.ap) (h5 : Ps w (.slice o5 x.be.length c5) x.be) (h0' : Ss w (.slice o0' x'.pl.length c0') x'.pl) (h1' : As w (.slice o1' x'.al.length c1') x'.al) (h2' : Ts w (.slice o2' x'.tl.length c2') x'.tl) (h3' : Os w (.slice o3' x'.ol.length c3') x'.ol) (h4' : Ps w (.slice o4' x'.ap.length c4') x'.ap) (h5' : Ps w (.slice o5' x'.be.length c5') x'.be) :
  Calls Tryz.prog 17 #[inV (.slice o0 x.pl.length c0) (.slice o1 x.al.length c1) (.slice o2 x.tl.length c2) (.slice o3 x.ol.length c3) (.slice o4 x.ap.length c4) (.slice o5 x.be.length c5), inV (.slice o0' x'.pl.length c0') (.slice o1' x'.al.length c1') (.slice o2' x'.tl.length c2') (.slice o3' x'.ol.length c3') (.slice o4' x'.ap.length c4') (.slice o5' x'.be.length c5')] w fun e w' => e = .returned (.bool (sameI x x')) ∧ Below w.heap.size w w' := by
 unfold inV
 have B1 := below_alloc w (.cells #[.slice o0 x.pl.length c0, .slice o1 x.al.length c1, .slice o2 x.tl.length c2, .slice o3 x.ol.length c3, .slice o4 x.ap.length c4, .slice o5 x.be.length c5] 30)
 have B0 := over B1 (below_alloc (w.alloc (.cells #[.slice o0 x.pl.length c0, .slice o1 x.al.length c1, .slice o2 x.tl.length c2, .slice o3 x.ol.length c3, .slice o4 x.ap.length c4, .slice o5 x.be.length c5] 30)) (.cells #[.slice o0' x'.pl.length c0', .slice o1' x'.al.length c1', .slice o2' x'.tl.length c2', .slice o3' x'.ol.length c3', .slice o4' x'.ap.length c4', .slice o5' x'.be.length c5'] 30))
 have M1 := (Ib.made w (.slice o0 x.pl.length c0) (.slice o1 x.al.length c1) (.slice o2 x.tl.length c2) (.slice o3 x.ol.length c3) (.slice o4 x.ap.length c4) (.slice o5 x.be.length c5)).below (below_alloc (w.alloc (.cells #[.slice o0 x.pl.length c0, .slice o1 x.al.length c1, .slice o2 x.tl.length c2, .slice o3 x.ol.length c3, .slice o4 x.ap.length c4, .slice o5 x.be.length c5] 30)) (.cells #[.slice o0' x'.pl.length c0', .slice o1' x'.al.length c1', .slice o2' x'.tl.length c2', .slice o3' x'.ol.length c3', .slice o4' x'.ap.length c4', .slice o5' x'.be.length c5'] 30))
 have M2 := Ib.made (w.alloc (.cells #[.slice o0 x.pl.length c0, .slice o1 x.al.length c1, .slice o2 x.tl.length c2, .slice o3 x.ol.length c3, .slice o4 x.ap.length c4, .slice o5 x.be.length c5] 30)) (.slice o0' x'.pl.length c0') (.slice o1' x'.al.length c1') (.slice o2' x'.tl.length c2') (.slice o3' x'.ol.length c3') (.slice o4' x'.ap.length c4') (.slice o5' x'.be.length c5')
 rw [World.size_alloc] at M2
 have H0 := Lib.hid (h0.below B0)
 have H1 := Lib.hid (h1.below B0)
 have H2 := Lib.hid (h2.below B0)
 have H3 := Lib.hid (h3.below B0)
 have H4 := Lib.hid (h4.below B0)
 have H5 := Lib.hid (h5.below B0)
 have H0' := Lib.hid (h0'.below B0)
 have H1' := Lib.hid (h1'.below B0)
 have H2' := Lib.hid (h2'.below B0)
 have H3' := Lib.hid (h3'.below B0)
 have H4' := Lib.hid (h4'.below B0)
 have H5' := Lib.hid (h5'.below B0)
 obtain ⟨W0, hW0⟩ : ∃ W0, (w.alloc (.cells #[.slice o0 x.pl.length c0, .slice o1 x.al.length c1, .slice o2 x.tl.length c2, .slice o3 x.ol.length c3, .slice o4 x.ap.length c4, .slice o5 x.be.length c5] 30)).alloc (.cells #[.slice o0' x'.pl.length c0', .slice o1' x'.al.length c1', .slice o2' x'.tl.length c2', .slice o3' x'.ol.length c3', .slice o4' x'.ap.length c4', .slice o5' x'.be.length c5'] 30) = W0 := ⟨_, rfl⟩
 rw [hW0] at B0 M1 M2 H0 H1 H2 H3 H4 H5 H0' H1' H2' H3' H4' H5'
 have HW0 := Lib.hid hW0
 have HB := Lib.hid B0
 have HM1 := Lib.hid M1
 have HM2 := Lib.hid M2
 clear hW0 B1 B0 h0 h1 h2 h3 h4 h5 h0' h1' h2' h3' h4' h5'
 have KN := Lib.hid (fun w hp ha hp' ha' => refNets_n o0 o1 o0' o1' c0 c1 c0' c1' x.pl x'.pl x.al x'.al ⟨by have := hx.pl; omega, by have := hx.al; omega⟩ ht w hp ha hp' ha')
 have KA := Lib.hid (fun w hu hv => refPairs_n (.slice o4 x.ap.length c4) (.slice o4' x'.ap.length c4') x.ap x'.ap (by have := hx.ap; omega) w hu hv)
 have KB := Lib.hid (fun w hu hv => refPairs_n (.slice o5 x.be.length c5) (.slice o5' x'.be.length c5') x.be x'.be (by have := hx.be; omega) w hu hv)
 have hl1 := hx.tl
 have hl2 := hx.ol
 have HC1 := Lib.hid hx.cap
 have HC2 := Lib.hid hx'.cap
 have HD1 := Lib.hid hx.load
 have HD2 := Lib.hid hx'.load
 clear hx hx' ht
 have HE : Hid ((netsB x.pl x'.pl x.al x'.al && (decide (x.tl.length = x'.tl.length) && (decide (x.ol.length = x'.ol.length) && (allI x.tl.length (fun i => sameT (x.tl.getD i ty0) (x'.tl.getD i ty0)) && (allI x.ol.length (fun i => sameO (x.ol.getD i or0) (x'.ol.getD i or0)) && (x.ap == x'.ap && x.be == x'.be)))))) = sameI x x') := rfl
 generalize sameI x x' = r at *
 generalize netsB x.pl x'.pl x.al x'.al = zn at *
 generalize (x.ap == x'.ap) = za at *
 generalize (x.be == x'.be) = zb at *
 have m0 := HM1.out.c0
 have n0 := HM2.out.c0
 have m1 := HM1.out.c1
 have n1 := HM2.out.c1
 have hqq : (w.alloc (.cells #[.slice o0 x.pl.length c0, .slice o1 x.al.length c1, .slice o2 x.tl.length c2, .slice o3 x.ol.length c3, .slice o4 x.ap.length c4, .slice o5 x.be.length c5] 30)).heap.size = w.heap.size + 1 := by simp
 clear M1 M2
 go_enter Tryz.func17, Tryz.ntmps17
 go_upto_region 1 with fail
 rw [HW0.out]
 clear HW0
 go_wp2_with fail
 refine (KN.out _ H0.out H1.out H0'.out H1'.out).mono ?_
 rintro e W1 ⟨rfl, b1⟩
 have HB1 := Lib.hid b1
 clear b1 KN m0 m1 n0 n1 H0 H1 H0' H1'
 have m2 := (HM1.out.below HB1.out).c2
 have n2 := (HM2.out.below HB1.out).c2
 have m3 := (HM1.out.below HB1.out).c3
 have n3 := (HM2.out.below HB1.out).c3
 cases zn
 ·have HX : Hid (r = false) := by show _ = _; rw [← HE.out, Bool.false_and]
  clear HE
  go_wp2_with fail
  go_ret
  exact ⟨ret_bool (by rw [HX.out]), over HB.out HB1.out⟩
 by_cases g1 : x.tl.length = x'.tl.length
 rotate_left
 ·have HX : Hid (r = false) := by show _ = _; rw [← HE.out, decide_eq_false g1]; simp
  have hne1 := ne_neN g1
  clear g1 HE
  go_wp2_with fail
  go_ret
  exact ⟨ret_bool (by rw [HX.out]), over HB.out HB1.out⟩
 by_cases g2 : x.ol.length = x'.ol.length
 rotate_left
 ·have HX : Hid (r = false) := by show _ = _; rw [← HE.out, decide_eq_false g2]; simp
  have hne2 := ne_neN g2
  have hne1 : ((x.tl.length : Int) != (x'.tl.length : Int)) = false := by rw [g1]; simp
  clear g1 g2 HE
  go_wp2_with fail
  go_ret
  exact ⟨ret_bool (by rw [HX.out]), over HB.out HB1.out⟩
 have HS1 : Hid (∀ i, i < x.tl.length → sameT (x.tl.getD i ty0) (x'.tl.getD i ty0) = false → r = false) := fun i hi h => by rw [← HE.out, allI_no (p := fun i => sameT (x.tl.getD i ty0) (x'.tl.getD i ty0)) hi h]; simp
 have HS2 : Hid (∀ i, i < x.ol.length → sameO (x.ol.getD i or0) (x'.ol.getD i or0) = false → r = false) := fun i hi h => by rw [← HE.out, allI_no (p := fun i => sameO (x.ol.getD i or0) (x'.ol.getD i or0)) hi h]; simp
 have HY : Hid ((∀ i, i < x.tl.length → sameT (x.tl.getD i ty0) (x'.tl.getD i ty0) = true) → (∀ i, i < x.ol.length → sameO (x.ol.getD i or0) (x'.ol.getD i or0) = true) → r = (za && zb)) := fun h1 h2 => by rw [← HE.out, allI_yes h1, allI_yes h2, decide_eq_true g1, decide_eq_true g2]; simp
 rw [← g1] at n2 H2' HM2
 rw [← g2] at n3 H3' HM2
 have HG1 := Lib.hid g1
 have HG2 := Lib.hid g2
 clear HE g1 g2
 generalize hn : x.tl.length = n at *
 generalize hm : x.ol.length = m at *
 have HN := Lib.hid hn
 have HMm := Lib.hid hm
 have hne1 : ((n : Int) != (n : Int)) = false := by simp
 have hne2 : ((m : Int) != (m : Int)) = false := by simp
 clear hn hm
 go_wp2_with fail
 clear m2 m3 n2 n3 hne1 hne2
 go_loopg [5] n (fun g j wr => ∃ k : Nat, k ≤ n ∧ j = .int .i64 k ∧ n - k ≤ g ∧ Hid (∀ i, i < k → sameT (x.tl.getD i ty0) (x'.tl.getD i ty0) = true) ∧ Hid (Below W0.heap.size W0 wr))
 case atStart => exact ⟨0, Nat.zero_le _, rfl, Nat.le_refl _, fun i hi => absurd hi (Nat.not_lt_zero _), HB1⟩
 case round =>
  clear HB1
  obtain ⟨k, hkk, rfl, hgk, HK, HB0⟩ := hrel
  have m2 := (HM1.out.below HB0.out).c2
  have n2 := (HM2.out.below HB0.out).c2
  by_cases hltk : k < n
  ·have hkI : (k : Int) < (n : Int) := by omega
   obtain ⟨q1, e1, hoa, h1⟩ := H2.out.below HB0.out
   simp only [Value.slice.injEq] at hoa
   obtain ⟨rfl, -, rfl⟩ := hoa
   obtain ⟨b1, p1, vc, rfl, hb1, hac, hcp⟩ := h1 k (by rw [HN.out]; exact hltk)
   obtain ⟨q2, e2, hob, h2⟩ := H2'.out.below HB0.out
   simp only [Value.slice.injEq] at hob
   obtain ⟨rfl, -, rfl⟩ := hob
   obtain ⟨b2, p2, vc', rfl, hb2, hac', hcp'⟩ := h2 k (by rw [← HG1.out]; exact hltk)
   obtain ⟨oc, cc, rfl, -⟩ := id hcp
   obtain ⟨oc', cc', rfl, -⟩ := id hcp'
   have J1 : Hid (L.Li wr.drew (.slice oc (x.tl.getD k ty0).cap.length cc) (x.tl.getD k ty0).cap) := hcp
   have J2 : Hid (L.Li wr.drew (.slice oc' (x'.tl.getD k ty0).cap.length cc') (x'.tl.getD k ty0).cap) := hcp'
   have HBd : Hid (Below W0.heap.size W0 wr.drew) := below_drew HB0.out
   have KS := refSame_n (x.tl.getD k ty0) (x'.tl.getD k ty0) oc oc' cc cc' (by have := HC1.out k hltk; omega) (by have := HC2.out k (by rw [← HG1.out]; exact hltk); omega)
   unfold tyV at KS
   have KS := Lib.hid KS
   have HSk := Lib.hid (HS1.out k hltk)
   have HKm := Lib.hid (fun h => less_mo (k := k) HK.out h)
   obtain ⟨x0, x1, x2, x3, x4, x5, x6, x7, x8, x9, x10, x11, x12, x13⟩ := hac
   obtain ⟨y0, y1, y2, y3, y4, y5, y6, y7, y8, y9, y10, y11, y12, y13⟩ := hac'
   generalize x.tl.getD k ty0 = t at *
   generalize x'.tl.getD k ty0 = t' at *
   generalize sameT t t' = z at *
   clear h1 h2 hcp hcp'
   go_upto_region 6 with fail
   go_region_with (go_at_call 47; with_reducible refine (KS.out _ J1.out J2.out).mono ?_; rintro e w5 ⟨rfl, b5⟩; have HB5 := Lib.hid (over HBd.out b5))
   all_goals
    clear KS J1 J2 HBd
    cases z
    ·have HX : Hid (r = false) := HSk.out rfl
     go_wp2_with fail
     go_ret
     exact ⟨ret_bool (by rw [HX.out]), over HB.out HB5.out⟩
    ·have HK3 := Lib.hid (HKm.out rfl)
     go_wp2_with fail
     go_roundg (n - (k + 1))
     case measure => omega
     case rel => exact ⟨k + 1, by omega, by go_num, Nat.le_refl _, HK3, HB5⟩
  ·have hkkk : k = n := by omega
   have hkI : ¬ (k : Int) < (n : Int) := by omega
   have HKn : Hid (∀ i, i < n → sameT (x.tl.getD i ty0) (x'.tl.getD i ty0) = true) := by rw [← hkkk]; exact HK.out
   clear HK hkkk hltk
   go_wp2_with fail
   clear m2 n2
   go_loopg [6] m (fun g j wr => ∃ k : Nat, k ≤ m ∧ j = .int .i64 k ∧ m - k ≤ g ∧ Hid (∀ i, i < k → sameO (x.ol.getD i or0) (x'.ol.getD i or0) = true) ∧ Hid (Below W0.heap.size W0 wr))
   case atStart => exact ⟨0, Nat.zero_le _, rfl, Nat.le_refl _, fun i hi => absurd hi (Nat.not_lt_zero _), HB0⟩
   case round =>
    clear HB0
    obtain ⟨k2, hkk2, rfl, hgk2, HK2, HB0⟩ := hrel
    have m3 := (HM1.out.below HB0.out).c3
    have n3 := (HM2.out.below HB0.out).c3
    by_cases hltk2 : k2 < m
    ·have hkI : (k2 : Int) < (m : Int) := by omega
     obtain ⟨q1, e1, hoa, h1⟩ := H3.out.below HB0.out
     simp only [Value.slice.injEq] at hoa
     obtain ⟨rfl, -, rfl⟩ := hoa
     obtain ⟨b1, p1, vc, rfl, hb1, hac, hcp⟩ := h1 k2 (by rw [HMm.out]; exact hltk2)
     obtain ⟨q2, e2, hob, h2⟩ := H3'.out.below HB0.out
     simp only [Value.slice.injEq] at hob
     obtain ⟨rfl, -, rfl⟩ := hob
     obtain ⟨b2, p2, vc', rfl, hb2, hac', hcp'⟩ := h2 k2 (by rw [← HG2.out]; exact hltk2)
     obtain ⟨oc, cc, rfl, -⟩ := id hcp
     obtain ⟨oc', cc', rfl, -⟩ := id hcp'
     have J1 : Hid (L.Li wr.drew (.slice oc (x.ol.getD k2 or0).load.length cc) (x.ol.getD k2 or0).load) := hcp
     have J2 : Hid (L.Li wr.drew (.slice oc' (x'.ol.getD k2 or0).load.length cc') (x'.ol.getD k2 or0).load) := hcp'
     have HBd : Hid (Below W0.heap.size W0 wr.drew) := below_drew HB0.out
     have KS := refSameO_n (x.ol.getD k2 or0) (x'.ol.getD k2 or0) oc oc' cc cc' (by have := HD1.out k2 hltk2; omega) (by have := HD2.out k2 (by rw [← HG2.out]; exact hltk2); omega)
     unfold orV at KS
     have KS := Lib.hid KS
     have HSk := Lib.hid (HS2.out k2 hltk2)
     have HKm := Lib.hid (fun h => less_mo (k := k2) HK2.out h)
     obtain ⟨x0, x1, x2, x3, x4, x5, x6, x7, x8, x9, x10, x11, x12, x13, x14, x15⟩ := hac
     obtain ⟨y0, y1, y2, y3, y4, y5, y6, y7, y8, y9, y10, y11, y12, y13, y14, y15⟩ := hac'
     generalize x.ol.getD k2 or0 = t at *
     generalize x'.ol.getD k2 or0 = t' at *
     generalize sameO t t' = z at *
     clear h1 h2 hcp hcp'
     go_upto_region 11 with fail
     go_region_with (go_at_call 48; with_reducible refine (KS.out _ J1.out J2.out).mono ?_; rintro e w5 ⟨rfl, b5⟩; have HB5 := Lib.hid (over HBd.out b5))
     all_goals
      clear KS J1 J2 HBd
      cases z
      ·have HX : Hid (r = false) := HSk.out rfl
       go_wp2_with fail
       go_ret
       exact ⟨ret_bool (by rw [HX.out]), over HB.out HB5.out⟩
      ·have HK3 := Lib.hid (HKm.out rfl)
       go_wp2_with fail
       go_roundg (m - (k2 + 1))
       case measure => omega
       case rel => exact ⟨k2 + 1, by omega, by go_num, Nat.le_refl _, HK3, HB5⟩
    ·have hkkk2 : k2 = m := by omega
     have hkI : ¬ (k2 : Int) < (m : Int) := by omega
     have HKo : Hid (∀ i, i < m → sameO (x.ol.getD i or0) (x'.ol.getD i or0) = true) := by rw [← hkkk2]; exact HK2.out
     clear HK2 hkkk2 hltk2
     have HX := Lib.hid (HY.out HKn.out HKo.out)
     have m4 := (HM1.out.below HB0.out).c4
     have n4 := (HM2.out.below HB0.out).c4
     have m5 := (HM1.out.below HB0.out).c5
     have n5 := (HM2.out.below HB0.out).c5
     go_wp2_with fail
     refine (KA.out _ (psI_below H4.out HB0.out) (psI_below H4'.out HB0.out)).mono ?_
     rintro e W5 ⟨rfl, b5⟩
     have HB5 := Lib.hid (over HB0.out b5)
     clear b5 m4 n4 m5 n5
     have m5 := (HM1.out.below HB5.out).c5
     have n5 := (HM2.out.below HB5.out).c5
     cases za
     ·go_wp2_with fail
      go_ret
      exact ⟨ret_bool (by rw [HX.out]; rfl), over HB.out HB5.out⟩
     ·go_wp2_with fail
      refine (KB.out _ (psI_below H5.out HB5.out) (psI_below H5'.out HB5.out)).mono ?_
      rintro e W6 ⟨rfl, b6⟩
      have HB6 := Lib.hid (over HB5.out b6)
      go_wp2_with fail
      go_ret
      exact ⟨ret_bool (by rw [HX.out]; rfl), over HB.out HB6.out⟩
end Go.Proofs.YtaallpebfcadjaaGreatDoor.T

