/-
  DERIVED. RefIn3: a part of the base of layer 13 (made by pack.py).
-/
import Derived.Test.YtomebalolmabnaaGreatDoorRefNet5
import Derived.Test.YtomebalolmabnaaGreatDoorHQ
/-! The specification's Check of an instance that is of no greater bulk than the second form's. -/
namespace Go.Proofs.YtomebalolmabnaaGreatDoor.T
open Go.RowKit
set_option maxRecDepth 8000

structure InU (x : InT) : Prop where
  pl : x.pl.length ≤ 2000000
  al : x.al.length ≤ 1000000
  wt : wtA x.al ≤ 1000000
  tl : x.tl.length ≤ 1000000
  cap : ∀ i, i < x.tl.length → (x.tl.getD i ty0).cap.length ≤ 1000000000
  ol : x.ol.length ≤ 1000000
  load : ∀ i, i < x.ol.length → (x.ol.getD i or0).load.length ≤ 1000000000
  ap : x.ap.length ≤ 2000000
  be : x.be.length ≤ 2000000
theorem in_partsU {x : InT} (h : InU x) : ((netF x.pl x.al).length ≤ 9000002 ∧ ShF (netF x.pl x.al)) ∧ ((fleetF x.pl.length x.tl).length ≤ 9000001 ∧ ShF (fleetF x.pl.length x.tl)) ∧
  ((orderF x.pl.length (dimsF x.tl : Nat) (x.tl.length : Nat) x.ol).length ≤ 9000002 ∧ ShF (orderF x.pl.length (dimsF x.tl : Nat) (x.tl.length : Nat) x.ol)) ∧ ((checkF (x.ol.length : Nat) x.ap x.be).length ≤ 4000002 ∧ ShF (checkF (x.ol.length : Nat) x.ap x.be)) := by
 have h1 := h.pl
 have h2 := h.al
 have h3 := h.wt
 have h4 := h.tl
 have h5 := h.ol
 have h6 := h.ap
 have h7 := h.be
 refine ⟨⟨?_, ?_⟩, ⟨?_, ?_⟩, ⟨?_, ?_⟩, ⟨?_, ?_⟩⟩
 ·have := ntF_len x.pl x.al x.al.length (Nat.le_refl _)
  rw [List.take_length] at this
  unfold netF; omega
 ·exact sh_ntF _ _ (by omega) _ (by omega)
 ·have := flF_len9 x.pl.length x.tl x.tl.length
  unfold fleetF; omega
 ·exact sh_flF _ _ _ (by omega)
 ·have := orF_len x.pl.length (dimsF x.tl : Nat) (x.tl.length : Nat) x.ol x.ol.length
  unfold orderF; omega
 ·exact sh_orF _ _ _ _ _ (by omega)
 ·unfold checkF
  rw [List.length_append]
  have := pairF_len (x.ol.length : Nat) x.ap apartW true
  have := pairF_len (x.ol.length : Nat) x.be beforeW false
  omega
 ·unfold checkF pairF
  exact (sh_pfF _ _ _ _ (by decide) _ (by omega)).app (sh_pfF _ _ _ _ (by decide) _ (by omega))
set_option maxHeartbeats 6400000 in
theorem refInstU_n (o0 o1 o2 o3 o4 o5 : Option Addr) (c0 c1 c2 c3 c4 c5 : Nat) (x : InT) (hx : InU x) (w : World) (h0 : Ss w (.slice o0 x.pl.length c0) x.pl) (h1 : As w (.slice o1 x.al.length c1) x.al) (h2 : Ts w (.slice o2 x.tl.length c2) x.tl) (h3 : Os w (.slice o3 x.ol.length c3) x.ol) (h4 : Ps w (.slice o4 x.ap.length c4) x.ap) (h5 : Ps w (.slice o5 x.be.length c5) x.be) :
  Calls Tryz.prog 15 #[inV (.slice o0 x.pl.length c0) (.slice o1 x.al.length c1) (.slice o2 x.tl.length c2) (.slice o3 x.ol.length c3) (.slice o4 x.ap.length c4) (.slice o5 x.be.length c5)] w (ChkP (inF x) w) := by
 have hp1 := hx.pl
 have hp2 := hx.al
 have hp3 := hx.tl
 have hp4 := hx.ol
 have hp5 := hx.ap
 have hp6 := hx.be
 have BI := below_alloc w (.cells #[.slice o0 x.pl.length c0, .slice o1 x.al.length c1, .slice o2 x.tl.length c2, .slice o3 x.ol.length c3, .slice o4 x.ap.length c4, .slice o5 x.be.length c5] 30)
 have I0 := Ib.made w (.slice o0 x.pl.length c0) (.slice o1 x.al.length c1) (.slice o2 x.tl.length c2) (.slice o3 x.ol.length c3) (.slice o4 x.ap.length c4) (.slice o5 x.be.length c5)
 have K1 := Lib.hid (fun w hp ha => refNet_n (.slice o0 x.pl.length c0) (.slice o1 x.al.length c1) x.pl x.al (by omega) (by omega) hx.wt w hp ha)
 have K2 := Lib.hid (fun w hv => refFleet_n o0 x.pl.length c0 o1 x.al.length c1 (.slice o2 x.tl.length c2) x.tl (by omega) (by omega) hx.cap w hv)
 have K3 := Lib.hid (fun w hv => refDims_n (.slice o2 x.tl.length c2) x.tl (by omega) w hv)
 have K4 := Lib.hid (fun w hv => refOrders_n o0 x.pl.length c0 o1 x.al.length c1 (dimsF x.tl : Nat) (x.tl.length : Nat) (.slice o3 x.ol.length c3) x.ol (by omega) (by omega) hx.load w hv)
 have K5 := Lib.hid (fun w hv hu => check12_n (x.ol.length : Nat) (.slice o4 x.ap.length c4) (.slice o5 x.be.length c5) x.ap x.be (by omega) (by omega) w hv hu)
 obtain ⟨⟨n1, s1⟩, ⟨n2, s2⟩, ⟨n3, s3⟩, ⟨n4, s4⟩⟩ := in_partsU hx
 have U1 := Lib.hid (fun u w hu => under13_n kNet (by decide) u (netF x.pl x.al) (by omega) s1.at w hu)
 have U2 := Lib.hid (fun u w hu => under13_n kTypes (by decide) u (fleetF x.pl.length x.tl) (by omega) s2.at w hu)
 have U3 := Lib.hid (fun u w hu => under13_n kOrders (by decide) u (orderF x.pl.length (dimsF x.tl : Nat) (x.tl.length : Nat) x.ol) (by omega) s3.at w hu)
 have U4 := Lib.hid (fun u w hu => under13_n kRules (by decide) u (checkF (x.ol.length : Nat) x.ap x.be) (by omega) s4.at w hu)
 have HE : Hid (undF kNet (netF x.pl x.al) ++ undF kTypes (fleetF x.pl.length x.tl) ++ undF kOrders (orderF x.pl.length (dimsF x.tl : Nat) (x.tl.length : Nat) x.ol) ++ undF kRules (checkF (x.ol.length : Nat) x.ap x.be) = inF x) := rfl
 rw [← und_len kNet] at n1
 rw [← und_len kTypes] at n2
 rw [← und_len kOrders] at n3
 rw [← und_len kRules] at n4
 have H0 := Lib.hid (h0.below BI)
 have H1 := Lib.hid (h1.below BI)
 have H2 := Lib.hid (h2.below BI)
 have H3 := Lib.hid (h3.below BI)
 have H4 := Lib.hid (h4.below BI)
 have H5 := Lib.hid (h5.below BI)
 have HB := Lib.hid BI
 obtain ⟨W0, hW0⟩ : ∃ W0, w.alloc (.cells #[.slice o0 x.pl.length c0, .slice o1 x.al.length c1, .slice o2 x.tl.length c2, .slice o3 x.ol.length c3, .slice o4 x.ap.length c4, .slice o5 x.be.length c5] 30) = W0 := ⟨_, rfl⟩
 rw [hW0] at H0 H1 H2 H3 H4 H5 HB I0
 have HI := Lib.hid I0
 have HW0 := Lib.hid hW0
 clear BI I0 h0 h1 h2 h3 h4 h5 hW0 s1 s2 s3 s4
 generalize inF x = r at *
 generalize undF kNet (netF x.pl x.al) = f1 at *
 generalize undF kTypes (fleetF x.pl.length x.tl) = f2 at *
 generalize undF kOrders (orderF x.pl.length (dimsF x.tl : Nat) (x.tl.length : Nat) x.ol) = f3 at *
 generalize undF kRules (checkF (x.ol.length : Nat) x.ap x.be) = f4 at *
 generalize netF x.pl x.al = g1 at *
 generalize fleetF x.pl.length x.tl = g2 at *
 generalize orderF x.pl.length (dimsF x.tl : Nat) (x.tl.length : Nat) x.ol = g3 at *
 generalize checkF (x.ol.length : Nat) x.ap x.be = g4 at *
 generalize dimsF x.tl = dm at *
 unfold kNet at U1
 unfold kTypes at U2
 unfold kOrders at U3
 unfold kRules at U4
 unfold inV
 go_enter Tryz.func15, Tryz.ntmps15
 go_upto_region 1 with fail
 rw [HW0.out]
 have hB0 := HB.out.size
 have HBr : Hid (Below W0.heap.size W0 W0) := Below.refl _ _
 have i0 := (HI.out.below HBr.out).c0
 have i1 := (HI.out.below HBr.out).c1
 have i2 := (HI.out.below HBr.out).c2
 have i3 := (HI.out.below HBr.out).c3
 have i4 := (HI.out.below HBr.out).c4
 have i5 := (HI.out.below HBr.out).c5
 go_wp2_with fail
 refine (K1.out _ H0.out H1.out).mono ?_
 intro e w1 h
 obtain ⟨v1, rfl, hf1, -, b1⟩ := Lf.of_chk h
 obtain ⟨ou, cu, rfl, hfs1, -⟩ := hf1
 have HF1 := Lib.hid hfs1
 have HB1 : Hid (Below W0.heap.size W0 w1) := b1
 clear h b1 hfs1 HW0 K1 i0 i1 i2 i3 i4 i5
 go_wp2_with fail
 refine (U1.out _ _ HF1.out).mono ?_
 intro e w2 h
 obtain ⟨v2, rfl, -, hg2, b2⟩ := Lf.of_chk h
 have HG2 : Hid (Gl W0.heap.size w2 v2 f1) := Gn.mono hg2 HB1.out.size
 have HB2 := Lib.hid (over HB1.out b2)
 clear h hg2 b2 HB1 HF1 U1
 have i0 := (HI.out.below HB2.out).c0
 have i1 := (HI.out.below HB2.out).c1
 have i2 := (HI.out.below HB2.out).c2
 have i3 := (HI.out.below HB2.out).c3
 have i4 := (HI.out.below HB2.out).c4
 have i5 := (HI.out.below HB2.out).c5
 go_wp2_with fail
 refine (K2.out _ (H2.out.below HB2.out)).mono ?_
 intro e w3 h
 obtain ⟨v3, rfl, hf3, -, b3⟩ := Lf.of_chk h
 obtain ⟨ou3, cu3, rfl, hfs3, -⟩ := hf3
 have HF3 := Lib.hid hfs3
 have HG3 := Lib.hid (HG2.out.frame b3)
 have HB3 := Lib.hid (over HB2.out b3)
 clear h b3 hfs3 HB2 HG2 K2 i0 i1 i2 i3 i4 i5
 go_wp2_with fail
 refine (U2.out _ _ HF3.out).mono ?_
 intro e w4 h
 obtain ⟨v4, rfl, hf4, -, b4⟩ := Lf.of_chk h
 have HF4 := Lib.hid hf4
 have HG4 := Lib.hid (HG3.out.frame b4)
 have HB4 := Lib.hid (over HB3.out b4)
 have hB4 := HB4.out.size
 clear h hf4 b4 HB3 HG3 HF3 U2
 go_wp2_with (at_builtin; refine wpList_append_run rfl _ _ 51 rfl rfl rfl (ap_f _ HG4.out HF4.out hB4 (by omega)) ?_)
 intro v5 w5 hg5 hb5 _ _
 obtain ⟨ln5, oa5, ca5, rfl⟩ : ∃ ln oa c, v5 = .slice oa ln c := by obtain ⟨_, _, e⟩ := Gn.form hg5; exact ⟨_, _, _, e⟩
 have HG5 := Lib.hid hg5
 have HB5 := Lib.hid (HB4.out.trans hb5)
 have hl12 : (f1 ++ f2).length ≤ 29000000 := by rw [List.length_append]; omega
 have hl123 : ((f1 ++ f2) ++ f3).length ≤ 39000000 := by rw [List.length_append]; omega
 clear hg5 hb5 HB4 HG4 HF4
 go_upto_region 3 with fail
 have HBd : Hid (Below W0.heap.size W0 w5.drew) := below_drew HB5.out
 have HGd : Hid (Gl W0.heap.size w5.drew (.slice oa5 ln5 ca5) (f1 ++ f2)) := HG5.out
 have J2 := Lib.hid (H2.out.below HBd.out)
 have J3 := Lib.hid (H3.out.below HBd.out)
 have i0 : w5.drew.cell? ⟨w.heap.size, 0, none⟩ = some (.slice o0 x.pl.length c0) := (HI.out.below HB5.out).c0
 have i1 : w5.drew.cell? ⟨w.heap.size, 1, none⟩ = some (.slice o1 x.al.length c1) := (HI.out.below HB5.out).c1
 have i2 : w5.drew.cell? ⟨w.heap.size, 2, none⟩ = some (.slice o2 x.tl.length c2) := (HI.out.below HB5.out).c2
 have i3 : w5.drew.cell? ⟨w.heap.size, 3, none⟩ = some (.slice o3 x.ol.length c3) := (HI.out.below HB5.out).c3
 go_region_held3 (fun w' => w'.cell? ⟨w.heap.size, 0, none⟩ = some (.slice o0 x.pl.length c0) ∧ w'.cell? ⟨w.heap.size, 1, none⟩ = some (.slice o1 x.al.length c1) ∧ w'.cell? ⟨w.heap.size, 2, none⟩ = some (.slice o2 x.tl.length c2) ∧ w'.cell? ⟨w.heap.size, 3, none⟩ = some (.slice o3 x.ol.length c3))
  (first | exact ⟨i0, i1, i2, i3⟩)
  (first
   | (refine step_append_run (by rfl) _ _ 51 (by rfl) (by rfl) (by rfl) (ap_f _ HGz.out HFz.out hBz (by omega)) ?_; rintro v3 w3 ⟨hg3, hb3, -, -⟩; have HG9 := Lib.hid hg3; have HB9 := Lib.hid (HBz.out.trans hb3); have i0 := (HI.out.below HB9.out).c0; have i1 := (HI.out.below HB9.out).c1; have i2 := (HI.out.below HB9.out).c2; have i3 := (HI.out.below HB9.out).c3)
   | (go_at_call 28; (with_reducible refine (K3.out _ J2.out).mono ?_); rintro e wz ⟨rfl, rfl⟩)
   | (go_at_call 27; (with_reducible refine (K4.out _ J3.out).mono ?_); intro e wy hy; obtain ⟨vy, rfl, hfy, -, by1⟩ := Lf.of_chk hy; obtain ⟨ouy, cuy, rfl, hfsy, -⟩ := hfy; have HGy := Lib.hid (HGd.out.frame by1); have HBy := Lib.hid (over HBd.out by1); have i0 := (HI.out.below HBy.out).c0; have i1 := (HI.out.below HBy.out).c1; have i2 := (HI.out.below HBy.out).c2; have i3 := (HI.out.below HBy.out).c3)
   | (go_at_call 24; (with_reducible refine (U3.out _ _ hfsy).mono ?_); intro e wz hz; obtain ⟨vz, rfl, hfz, -, bz⟩ := Lf.of_chk hz; have HFz := Lib.hid hfz; have HGz := Lib.hid (HGy.out.frame bz); have HBz := Lib.hid (over HBy.out bz); have hBz := HBz.out.size; have i0 := (HI.out.below HBz.out).c0; have i1 := (HI.out.below HBz.out).c1; have i2 := (HI.out.below HBz.out).c2; have i3 := (HI.out.below HBz.out).c3))
 all_goals
  have i4 := (HI.out.below HB9.out).c4
  have i5 := (HI.out.below HB9.out).c5
  clear HGz HFz HBz hBz HGy HBy hfsy J2 J3 HGd HBd HB5 HG5 hg3 hb3 bz by1 hfz
  go_wp2_with fail
  refine (K5.out _ (psI_below H4.out HB9.out) (psI_below H5.out HB9.out)).mono ?_
  intro e w6 h
  obtain ⟨v6, rfl, hf6, -, b6⟩ := Lf.of_chk h
  obtain ⟨ou6, cu6, rfl, hfs6, -⟩ := hf6
  have HF6 := Lib.hid hfs6
  have HG6 := Lib.hid (HG9.out.frame b6)
  have HB6 := Lib.hid (over HB9.out b6)
  clear h b6 hfs6 HB9 HG9 K5 i0 i1 i2 i3 i4 i5
  go_wp2_with fail
  refine (U4.out _ _ HF6.out).mono ?_
  intro e w7 h
  obtain ⟨v7, rfl, hf7, -, b7⟩ := Lf.of_chk h
  have HF7 := Lib.hid hf7
  have HG7 := Lib.hid (HG6.out.frame b7)
  have HB7 := Lib.hid (over HB6.out b7)
  have hB7 := HB7.out.size
  clear h hf7 b7 HB6 HG6 HF6 U4
  go_wp2_with (at_builtin; refine wpList_append_run rfl _ _ 51 rfl rfl rfl (ap_f _ HG7.out HF7.out hB7 (by omega)) ?_)
  intro v8 w8 hg8 hb8 _ _
  have HG8 : Hid (Gl W0.heap.size w8 v8 r) := by show Gl _ _ _ _; rw [← HE.out]; simpa only [List.append_assoc] using hg8
  have HB8 := Lib.hid (over HB.out (HB7.out.trans hb8))
  clear hg8 hb8
  go_wp2_with fail
  go_ret
  exact chkP HG8.out HB8.out hB0
end Go.Proofs.YtomebalolmabnaaGreatDoor.T




