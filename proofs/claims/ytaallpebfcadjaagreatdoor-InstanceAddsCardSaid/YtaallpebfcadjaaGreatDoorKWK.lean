/-
 DERIVED. KWK: a part of the base of layer 13 (made by pack.py).
-/
import Derived.Test.YtaallpebfcadjaaGreatDoorKQG
import Derived.Test.YtaallpebfcadjaaGreatDoorKWJ
/-! The walk of lorryref13's nets (written by gen_refin5.py). -/
namespace Go.Proofs.YtaallpebfcadjaaGreatDoor.T
open Go.RowKit
set_option maxRecDepth 8000
set_option maxHeartbeats 12800000 in
theorem refNets_n (o0 o1 o0' o1' : Option Addr) (c0 c1 c0' c1' : Nat) (pl pl' : List ByteArray) (al al' : List ArcT) (hl : pl.length ≤ 1000000 ∧ al.length ≤ 1000000) (ht : ∀ i, i < al.length → (al.getD i arc0).tr.length ≤ 1000000 ∧ (al.getD i arc0).sl.length ≤ 1000000) (w : World) (hp : Ss w (.slice o0 pl.length c0) pl) (ha : As w (.slice o1 al.length c1) al) (hp' : Ss w (.slice o0' pl'.length c0') pl') (ha' : As w (.slice o1' al'.length c1') al') :
  Calls Tryz.prog 46 #[.agg #[.slice o0 pl.length c0, .slice o1 al.length c1], .agg #[.slice o0' pl'.length c0', .slice o1' al'.length c1']] w fun e w' => e = .returned (.bool (netsB pl pl' al al')) ∧ Below w.heap.size w w' := by
 have B1 := below_alloc w (.cells #[.slice o0 pl.length c0, .slice o1 al.length c1] 25)
 have B0 := over B1 (below_alloc (w.alloc (.cells #[.slice o0 pl.length c0, .slice o1 al.length c1] 25)) (.cells #[.slice o0' pl'.length c0', .slice o1' al'.length c1'] 25))
 have M1 := (Nb.made w (.slice o0 pl.length c0) (.slice o1 al.length c1)).below (below_alloc (w.alloc (.cells #[.slice o0 pl.length c0, .slice o1 al.length c1] 25)) (.cells #[.slice o0' pl'.length c0', .slice o1' al'.length c1'] 25))
 have M2 := Nb.made (w.alloc (.cells #[.slice o0 pl.length c0, .slice o1 al.length c1] 25)) (.slice o0' pl'.length c0') (.slice o1' al'.length c1')
 rw [World.size_alloc] at M2
 have HP := Lib.hid (hp.below B0)
 have HA := Lib.hid (ha.below B0)
 have HP' := Lib.hid (hp'.below B0)
 have HA' := Lib.hid (ha'.below B0)
 obtain ⟨W0, hW0⟩ : ∃ W0, (w.alloc (.cells #[.slice o0 pl.length c0, .slice o1 al.length c1] 25)).alloc (.cells #[.slice o0' pl'.length c0', .slice o1' al'.length c1'] 25) = W0 := ⟨_, rfl⟩
 rw [hW0] at B0 M1 M2 HP HA HP' HA'
 have HW0 := Lib.hid hW0
 have HB := Lib.hid B0
 have HM1 := Lib.hid M1
 have HM2 := Lib.hid M2
 have m0 := M1.c0
 have m1 := M1.c1
 have m2 := M2.c0
 have m3 := M2.c1
 have HTt := Lib.hid ht
 clear B0 B1 M1 M2 hW0 hp ha hp' ha' ht
 have HE : Hid (((decide (pl.length = pl'.length) && decide (al.length = al'.length)) && (allI pl.length (fun i => samS (pl.getD i ⟨#[]⟩) (pl'.getD i ⟨#[]⟩)) && allI al.length (fun i => samA (al.getD i arc0) (al'.getD i arc0)))) = netsB pl pl' al al') := rfl
 generalize netsB pl pl' al al' = r at *
 have hqq : (w.alloc (.cells #[.slice o0 pl.length c0, .slice o1 al.length c1] 25)).heap.size = w.heap.size + 1 := by simp
 by_cases g1 : pl.length = pl'.length
 ·by_cases g2 : al.length = al'.length
  ·have HS1 : Hid (∀ i, i < pl.length → samS (pl.getD i ⟨#[]⟩) (pl'.getD i ⟨#[]⟩) = false → r = false) := fun i hi h => by rw [← HE.out, allI_no (p := fun i => samS (pl.getD i ⟨#[]⟩) (pl'.getD i ⟨#[]⟩)) hi h]; simp
   have HA1 : Hid (∀ i, i < al.length → samA (al.getD i arc0) (al'.getD i arc0) = false → r = false) := fun i hi h => by rw [← HE.out, allI_no (p := fun i => samA (al.getD i arc0) (al'.getD i arc0)) hi h]; simp
   have HY : Hid ((∀ i, i < pl.length → samS (pl.getD i ⟨#[]⟩) (pl'.getD i ⟨#[]⟩) = true) → (∀ i, i < al.length → samA (al.getD i arc0) (al'.getD i arc0) = true) → r = true) := fun h1 h2 => by
    rw [← HE.out, allI_yes h1, allI_yes h2, decide_eq_true g1, decide_eq_true g2]; rfl
   rw [← g1] at HP' m2 HM2 ⊢
   rw [← g2] at HA' m3 HM2 ⊢
   have HG1 := Lib.hid g1
   have HG2 := Lib.hid g2
   rw [← g1, ← g2] at HW0
   clear HE g1 g2
   generalize hn : pl.length = n at *
   generalize hm : al.length = m at *
   have HN := Lib.hid hn
   have HMm := Lib.hid hm
   have hl1 := hl.1
   have hl2 := hl.2
   clear hl
   have hne1 : ((n : Int) != (n : Int)) = false := by simp
   have hne2 : ((m : Int) != (m : Int)) = false := by simp
   clear hn hm
   go_enter Tryz.func46, Tryz.ntmps46
   go_upto_region 1 with fail
   rw [HW0.out]
   clear HW0
   go_wp2_with fail
   go_loopg [5] n (fun g j wr => ∃ k : Nat, k ≤ n ∧ j = .int .i64 k ∧ n - k ≤ g ∧ Hid (∀ i, i < k → samS (pl.getD i ⟨#[]⟩) (pl'.getD i ⟨#[]⟩) = true) ∧ Hid (∀ z, Below W0.heap.size W0 (wr.drewN z)))
   case atStart => exact ⟨0, Nat.zero_le _, rfl, Nat.le_refl _, fun i hi => absurd hi (Nat.not_lt_zero _), fun z => below_drewN (Below.refl _ _) z⟩
   case round =>
    obtain ⟨k, hk, rfl, hg, HK, HBz⟩ := hrel
    have HB0 : Hid (Below W0.heap.size W0 wr) := by have := HBz.out 0; exact this
    have m0 := (HM1.out.below HB0.out).c0
    have m1 := (HM1.out.below HB0.out).c1
    have m2 := (HM2.out.below HB0.out).c0
    have m3 := (HM2.out.below HB0.out).c1
    by_cases hlt : k < n
    ·have hkI : (k : Int) < (n : Int) := by omega
     obtain ⟨q1, e1, hoa, h1⟩ := HP.out
     simp only [Value.slice.injEq] at hoa
     obtain ⟨rfl, -, rfl⟩ := hoa
     obtain ⟨a1, rfl, hab1, x0⟩ := h1 k (by rw [HN.out]; exact hlt)
     obtain ⟨q2, e2, hob, h2⟩ := HP'.out
     simp only [Value.slice.injEq] at hob
     obtain ⟨rfl, -, rfl⟩ := hob
     obtain ⟨a2, rfl, hab2, y0⟩ := h2 k (by rw [← HG1.out]; exact hlt)
     have x0 := (HB0.out.cell (p := a1.add k) (by rw [add_block]; exact hab1)).trans x0
     have y0 := (HB0.out.cell (p := a2.add k) (by rw [add_block]; exact hab2)).trans y0
     have HS1k := Lib.hid (HS1.out k hlt)
     have HKm := Lib.hid (fun h => less_mo (k := k) HK.out h)
     have HSm : Hid (samS (pl.getD k ⟨#[]⟩) (pl'.getD k ⟨#[]⟩) = ((pl.getD k ⟨#[]⟩).toList == (pl'.getD k ⟨#[]⟩).toList)) := rfl
     generalize samS (pl.getD k ⟨#[]⟩) (pl'.getD k ⟨#[]⟩) = sa at *
     generalize pl.getD k ⟨#[]⟩ = s at *
     generalize pl'.getD k ⟨#[]⟩ = s' at *
     obtain ⟨z, hz⟩ : ∃ z, (s.toList == s'.toList) = z := ⟨_, rfl⟩
     have hz2 : (s.toList != s'.toList) = !z := by rw [← hz]; rfl
     rw [hz] at HSm
     clear h1 h2
     cases z
     ·have HX : Hid (r = false) := HS1k.out HSm.out
      go_upto_region 6 with fail
      go_quiet (fail)
      go_wp2_with fail
      go_ret
      exact ⟨ret_bool (by rw [HX.out]), over HB.out (below_drewN HB0.out _)⟩
     ·have HK2 := Lib.hid (HKm.out HSm.out)
      go_upto_region 6 with fail
      go_quiet (fail)
      go_wp2_with fail
      go_roundg (n - (k + 1))
      case measure => omega
      case rel => exact ⟨k + 1, by omega, by go_num, Nat.le_refl _, HK2, fun z => below_drewN (below_drewN HB0.out _) z⟩
    ·have hkk : k = n := by omega
     have hkI : ¬ (k : Int) < (n : Int) := by omega
     have HKn : Hid (∀ i, i < n → samS (pl.getD i ⟨#[]⟩) (pl'.getD i ⟨#[]⟩) = true) := by rw [← hkk]; exact HK.out
     clear HK HS1 hkk
     go_wp2_with fail
     go_loopg [6] m (fun g j wr => ∃ k : Nat, k ≤ m ∧ j = .int .i64 k ∧ m - k ≤ g ∧ Hid (∀ i, i < k → samA (al.getD i arc0) (al'.getD i arc0) = true) ∧ Hid (Below W0.heap.size W0 wr))
     case atStart => exact ⟨0, Nat.zero_le _, rfl, Nat.le_refl _, fun i hi => absurd hi (Nat.not_lt_zero _), HB0⟩
     case round =>
      clear m0 m1 m2 m3 HB0 HBz
      obtain ⟨k2, hk2, rfl, hg2, HK, HB0⟩ := hrel
      have m0 := (HM1.out.below HB0.out).c0
      have m1 := (HM1.out.below HB0.out).c1
      have m2 := (HM2.out.below HB0.out).c0
      have m3 := (HM2.out.below HB0.out).c1
      by_cases hlt2 : k2 < m
      ·have hkI2 : (k2 : Int) < (m : Int) := by omega
       obtain ⟨q1, e1, hoa, h1⟩ := HA.out
       simp only [Value.slice.injEq] at hoa
       obtain ⟨rfl, -, rfl⟩ := hoa
       obtain ⟨b1, p1, vt, vs, rfl, hb1, hac, hpt, hps⟩ := h1 k2 (by rw [HMm.out]; exact hlt2)
       obtain ⟨q2, e2, hob, h2⟩ := HA'.out
       simp only [Value.slice.injEq] at hob
       obtain ⟨rfl, -, rfl⟩ := hob
       obtain ⟨b2, p2, vt', vs', rfl, hb2, hac', hpt', hps'⟩ := h2 k2 (by rw [← HG2.out]; exact hlt2)
       obtain ⟨x0, x1, x2, x3, x4, x5⟩ := hac.below hb1 HB0.out
       have HTk := HTt.out k2 hlt2
       have HT1 := Lib.hid (hpt.below HB0.out)
       have HT2 := Lib.hid (hps.below HB0.out)
       have HT3 := Lib.hid (hpt'.below HB0.out)
       have HT4 := Lib.hid (hps'.below HB0.out)
       have HA1k := Lib.hid (HA1.out k2 hlt2)
       have HKm := Lib.hid (fun h => less_mo (k := k2) HK.out h)
       have HSm : Hid (samA (al.getD k2 arc0) (al'.getD k2 arc0) = ((al.getD k2 arc0).fr == (al'.getD k2 arc0).fr && ((al.getD k2 arc0).to == (al'.getD k2 arc0).to && ((al.getD k2 arc0).prof == (al'.getD k2 arc0).prof && ((al.getD k2 arc0).miles == (al'.getD k2 arc0).miles && ((al.getD k2 arc0).tr == (al'.getD k2 arc0).tr && (al.getD k2 arc0).sl == (al'.getD k2 arc0).sl)))))) := rfl
       generalize samA (al.getD k2 arc0) (al'.getD k2 arc0) = sa at *
       generalize al.getD k2 arc0 = a at *
       generalize al'.getD k2 arc0 = a' at *
       obtain ⟨fr, tto, prof, miles, tr, sl⟩ := a
       obtain ⟨fr', tto', prof', miles', tr', sl'⟩ := a'
       have m5 := (HM2.out.below (over HB0.out (below_alloc wr (.cells #[.int .i64 fr, .int .i64 tto, .int .i64 prof, .int .i64 miles, vt, vs] 54)))).c1
       obtain ⟨y0, y1, y2, y3, y4, y5⟩ := hac'.below hb2 (over HB0.out (below_alloc wr (.cells #[.int .i64 fr, .int .i64 tto, .int .i64 prof, .int .i64 miles, vt, vs] 54)))
       simp only at x0 x1 x2 x3 x4 x5 y0 y1 y2 y3 y4 y5 HT1 HT2 HT3 HT4 HSm HTk
       clear h1 h2 hac hac' hpt hps hpt' hps'
       have KT := Lib.hid (fun w hu hv => refPoints_n vt vt' tr tr' HTk.1 w hu hv)
       have KS := Lib.hid (fun w hu hv => refPoints_n vs vs' sl sl' HTk.2 w hu hv)
       have hal := over (below_alloc wr (.cells #[.int .i64 fr, .int .i64 tto, .int .i64 prof, .int .i64 miles, vt, vs] 54)) (below_alloc (wr.alloc (.cells #[.int .i64 fr, .int .i64 tto, .int .i64 prof, .int .i64 miles, vt, vs] 54)) (.cells #[.int .i64 fr', .int .i64 tto', .int .i64 prof', .int .i64 miles', vt', vs'] 54))
       have A1 := (Ab.made wr (.int .i64 fr) (.int .i64 tto) (.int .i64 prof) (.int .i64 miles) vt vs).below (below_alloc (wr.alloc (.cells #[.int .i64 fr, .int .i64 tto, .int .i64 prof, .int .i64 miles, vt, vs] 54)) (.cells #[.int .i64 fr', .int .i64 tto', .int .i64 prof', .int .i64 miles', vt', vs'] 54))
       have A2 := Ab.made (wr.alloc (.cells #[.int .i64 fr, .int .i64 tto, .int .i64 prof, .int .i64 miles, vt, vs] 54)) (.int .i64 fr') (.int .i64 tto') (.int .i64 prof') (.int .i64 miles') vt' vs'
       rw [World.size_alloc] at A2
       have HB2 := Lib.hid (over HB0.out hal)
       have HT1 := Lib.hid (HT1.out.below hal)
       have HT2 := Lib.hid (HT2.out.below hal)
       have HT3 := Lib.hid (HT3.out.below hal)
       have HT4 := Lib.hid (HT4.out.below hal)
       obtain ⟨W3, hW3⟩ : ∃ W3, (wr.alloc (.cells #[.int .i64 fr, .int .i64 tto, .int .i64 prof, .int .i64 miles, vt, vs] 54)).alloc (.cells #[.int .i64 fr', .int .i64 tto', .int .i64 prof', .int .i64 miles', vt', vs'] 54) = W3 := ⟨_, rfl⟩
       rw [hW3] at A1 A2 HB2 HT1 HT2 HT3 HT4
       have HA1b := Lib.hid A1
       have HA2b := Lib.hid A2
       have HW3 := Lib.hid hW3
       clear hal A1 A2 hW3
       obtain ⟨ot1, ct1, rfl, ht1⟩ := HT1.out
       obtain ⟨ot2, ct2, rfl, ht2⟩ := HT2.out
       obtain ⟨ot3, ct3, rfl, ht3⟩ := HT3.out
       obtain ⟨ot4, ct4, rfl, ht4⟩ := HT4.out
       clear ht1 ht2 ht3 ht4
       go_upto_region 13 with fail
       rw [HW3.out]
       clear HW3 m5 x0 x1 x2 x3 x4 x5 y0 y1 y2 y3 y4 y5 m0 m1 m2 m3
       have c0 := HA1b.out.c0
       have d0 := HA2b.out.c0
       have c1 := HA1b.out.c1
       have d1 := HA2b.out.c1
       have c2 := HA1b.out.c2
       have d2 := HA2b.out.c2
       have c3 := HA1b.out.c3
       have d3 := HA2b.out.c3
       have c4 := HA1b.out.c4
       have d4 := HA2b.out.c4
       have c5 := HA1b.out.c5
       have d5 := HA2b.out.c5
       obtain ⟨z0, hz0⟩ : ∃ z, (fr != fr') = z := ⟨_, rfl⟩
       have hb5 : (fr == fr') = !z0 := by rw [← hz0]; simp [bne]
       rw [hb5] at HSm
       clear hb5
       cases z0
       rotate_left
       ·have HX : Hid (r = false) := HA1k.out (by rw [HSm.out]; simp)
        clear KT KS
        go_wp2_with fail
        go_ret
        exact ⟨ret_bool (by rw [HX.out]), over HB.out HB2.out⟩
       obtain ⟨z1, hz1⟩ : ∃ z, (tto != tto') = z := ⟨_, rfl⟩
       have hb6 : (tto == tto') = !z1 := by rw [← hz1]; simp [bne]
       rw [hb6] at HSm
       clear hb6
       cases z1
       rotate_left
       ·have HX : Hid (r = false) := HA1k.out (by rw [HSm.out]; simp)
        clear KT KS
        go_wp2_with fail
        go_ret
        exact ⟨ret_bool (by rw [HX.out]), over HB.out HB2.out⟩
       obtain ⟨z2, hz2⟩ : ∃ z, (prof != prof') = z := ⟨_, rfl⟩
       have hb7 : (prof == prof') = !z2 := by rw [← hz2]; simp [bne]
       rw [hb7] at HSm
       clear hb7
       cases z2
       rotate_left
       ·have HX : Hid (r = false) := HA1k.out (by rw [HSm.out]; simp)
        clear KT KS
        go_wp2_with fail
        go_ret
        exact ⟨ret_bool (by rw [HX.out]), over HB.out HB2.out⟩
       obtain ⟨z3, hz3⟩ : ∃ z, (miles != miles') = z := ⟨_, rfl⟩
       have hb8 : (miles == miles') = !z3 := by rw [← hz3]; simp [bne]
       rw [hb8] at HSm
       clear hb8
       cases z3
       rotate_left
       ·have HX : Hid (r = false) := HA1k.out (by rw [HSm.out]; simp)
        clear KT KS
        go_wp2_with fail
        go_ret
        exact ⟨ret_bool (by rw [HX.out]), over HB.out HB2.out⟩
       generalize (tr == tr') = z5 at *
       generalize (sl == sl') = z6 at *
       go_wp2_with fail
       refine (KT.out _ HT1.out HT3.out).mono ?_
       rintro e wz ⟨rfl, bz⟩
       have HA1c := Lib.hid (Ab.below HA1b.out bz)
       have HA2c := Lib.hid (Ab.below HA2b.out bz)
       have HB4 := Lib.hid (over HB2.out bz)
       have HT5 := Lib.hid (Sl.below HT2.out bz)
       have HT6 := Lib.hid (Sl.below HT4.out bz)
       clear bz c0 c1 c2 c3 c4 c5 d0 d1 d2 d3 d4 d5 KT
       have e5 := HA1c.out.c5
       have f5 := HA2c.out.c5
       cases z5
       ·have HX : Hid (r = false) := HA1k.out (by rw [HSm.out]; simp)
        clear KS
        go_wp2_with fail
        go_ret
        exact ⟨ret_bool (by rw [HX.out]), over HB.out HB4.out⟩
       ·go_wp2_with fail
        refine (KS.out _ HT5.out HT6.out).mono ?_
        rintro e wy ⟨rfl, by1⟩
        have HB5 := Lib.hid (over HB4.out by1)
        clear by1
        cases z6
        ·have HX : Hid (r = false) := HA1k.out (by rw [HSm.out]; simp)
         go_wp2_with fail
         go_ret
         exact ⟨ret_bool (by rw [HX.out]), over HB.out HB5.out⟩
        ·have HK2 := Lib.hid (HKm.out (by rw [HSm.out]; rfl))
         go_wp2_with fail
         go_roundg (m - (k2 + 1))
         case measure => omega
         case rel => exact ⟨k2 + 1, by omega, by go_num, Nat.le_refl _, HK2, HB5⟩
      ·have hkk2 : k2 = m := by omega
       have hkI2 : ¬ (k2 : Int) < (m : Int) := by omega
       have HX : Hid (r = true) := HY.out HKn.out (by rw [← hkk2]; exact HK.out)
       go_wp2_with fail
       go_ret
       exact ⟨ret_bool (by rw [HX.out]), over HB.out HB0.out⟩
  ·have HX : Hid (r = false) := by show _ = _; rw [← HE.out, decide_eq_false g2]; simp
   rw [← g1] at m2 HW0 ⊢
   have hne1 : ((pl.length : Int) != (pl.length : Int)) = false := by simp
   have hne2 := ne_neN g2
   clear g1 g2 HE
   go_enter Tryz.func46, Tryz.ntmps46
   go_upto_region 1 with fail
   rw [HW0.out]
   go_wp2_with fail
   go_ret
   exact ⟨ret_bool (by rw [HX.out]), HB.out⟩
 ·have HX : Hid (r = false) := by show _ = _; rw [← HE.out, decide_eq_false g1]; simp
  have hne1 := ne_neN g1
  clear g1 HE
  go_enter Tryz.func46, Tryz.ntmps46
  go_upto_region 1 with fail
  rw [HW0.out]
  go_wp2_with fail
  go_ret
  exact ⟨ret_bool (by rw [HX.out]), HB.out⟩
end Go.Proofs.YtaallpebfcadjaaGreatDoor.T

