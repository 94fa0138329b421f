/-
  DERIVED. The comparing functions of the specification and of the laws, where both sides are equal.
-/
import Derived.Test.YtegpebnkogjadaaDoorRefNet6
namespace Go.Proofs.YtegpebnkogjadaaDoor.T
open Go.RowKit
set_option maxRecDepth 8000

theorem samePoints_eq (u v : Value) (a : List (Int × Int)) (hl : a.length ≤ 1000000000) (w : World) (hu : Ps w u a) (hv : Ps w v a) :
    Calls Tryd.prog 36 #[u, v] w fun e w' => e = .returned (.bool true) ∧ Below w.heap.size w w' := by
  obtain ⟨oa, ca, rfl, ha⟩ := hu
  obtain ⟨ob, cb, rfl, hb⟩ := hv
  have HA := Lib.hid ha
  have HB := Lib.hid hb
  generalize a.length = n at *
  have hne : ((n : Int) != (n : Int)) = false := by simp
  clear ha hb
  go_enter Tryd.func36, Tryd.ntmps36
  go_wp2_with fail
  go_loopw [5] (fun i wr => ∃ k : Nat, k ≤ n ∧ i = .int .i64 k ∧ Hid (Below w.heap.size w wr)) (fun i _ => n - (intOf i).toNat)
  case atStart => exact ⟨0, Nat.zero_le _, rfl, Below.refl _ _⟩
  case round =>
    obtain ⟨k, hk, rfl, HW⟩ := hrel
    by_cases hlt : k < n
    · obtain ⟨b1, o1, rfl, hab, hc0, hc1⟩ := HA.out k hlt
      obtain ⟨b2, o2, rfl, hbb, he0, he1⟩ := HB.out k hlt
      have d0 := (HW.out.cell (p := ⟨b1, o1 + k * 2, none⟩) hab).trans hc0
      have d1 := (HW.out.cell (p := ⟨b1, o1 + k * 2 + 1, none⟩) hab).trans hc1
      have d2 := (HW.out.cell (p := ⟨b2, o2 + k * 2, none⟩) hbb).trans he0
      have d3 := (HW.out.cell (p := ⟨b2, o2 + k * 2 + 1, none⟩) hbb).trans he1
      unfold pT at d0 d2
      unfold pA at d1 d3
      clear hc0 hc1 he0 he1
      have hkI : (k : Int) < (n : Int) := by omega
      generalize a.getD k (0, 0) = p at *
      obtain ⟨x, y⟩ := p
      simp only at d0 d1 d2 d3
      go_wp2_with fail
      go_quiet (fail)
      go_wp2_with fail
      go_roundw
      case rel => exact ⟨k + 1, by omega, by go_num, below_drewN HW.out _⟩
      case measure => simp [intOf]; omega
    · have hk' : k = n := by omega
      subst hk'
      go_wp2_with fail
      go_ret
      exact ⟨rfl, HW.out⟩
theorem ints_eq (u v : Value) (a : List Int) (hl : a.length ≤ 1000000000) (w : World) (hu : L.Li w u a) (hv : L.Li w v a) :
    Calls Tryd.prog 18 #[u, v] w fun e w' => e = .returned (.bool true) ∧ Below w.heap.size w w' := by
  obtain ⟨oa, ca, rfl, ha⟩ := hu
  obtain ⟨ob, cb, rfl, hb⟩ := hv
  have HA := Lib.hid ha
  have HB := Lib.hid hb
  generalize a.length = n at *
  have hne : ((n : Int) != (n : Int)) = false := by simp
  clear ha hb
  go_enter Tryd.func18, Tryd.ntmps18
  go_wp2_with fail
  go_loopw [13] (fun i wr => ∃ k : Nat, k ≤ n ∧ i = .int .i64 k ∧ Hid (Below w.heap.size w wr)) (fun i _ => n - (intOf i).toNat)
  case atStart => exact ⟨0, Nat.zero_le _, rfl, Below.refl _ _⟩
  case round =>
    obtain ⟨k, hk, rfl, HW⟩ := hrel
    by_cases hlt : k < n
    · obtain ⟨b1, rfl, hab, hc0⟩ := HA.out k hlt
      obtain ⟨b2, rfl, hbb, he0⟩ := HB.out k hlt
      have d0 := (HW.out.cell (p := b1.add k) (by rw [L.add_block]; exact hab)).trans hc0
      have d2 := (HW.out.cell (p := b2.add k) (by rw [L.add_block]; exact hbb)).trans he0
      clear hc0 he0
      have hkI : (k : Int) < (n : Int) := by omega
      generalize a.getD k 0 = p at *
      go_wp2_with fail
      go_quiet (fail)
      go_wp2_with fail
      go_roundw
      case rel => exact ⟨k + 1, by omega, by go_num, below_drewN HW.out _⟩
      case measure => simp [intOf]; omega
    · have hk' : k = n := by omega
      subst hk'
      go_wp2_with fail
      go_ret
      exact ⟨rfl, HW.out⟩
theorem sameArc_eq (vt vs vt' vs' : Value) (a : ArcT) (ht9 : a.tr.length ≤ 1000000000) (hs9 : a.sl.length ≤ 1000000000) (w : World) (ht : Ps w vt a.tr) (hs : Ps w vs a.sl) (ht' : Ps w vt' a.tr) (hs' : Ps w vs' a.sl) :
    Calls Tryd.prog 17 #[.agg #[.int .i64 a.fr, .int .i64 a.to, .int .i64 a.prof, .int .i64 a.miles, vt, vs], .agg #[.int .i64 a.fr, .int .i64 a.to, .int .i64 a.prof, .int .i64 a.miles, vt', vs']] w fun e w' => e = .returned (.bool true) ∧ Below w.heap.size w w' := by
  have K1 := Lib.hid (fun w h h' => samePoints_eq vt vt' a.tr ht9 w h h')
  have K2 := Lib.hid (fun w h h' => samePoints_eq vs vs' a.sl hs9 w h h')
  have T1 := Lib.hid ht
  have T2 := Lib.hid ht'
  have S1 := Lib.hid hs
  have S2 := Lib.hid hs'
  obtain ⟨fr, dt, prof, miles, tr, sl⟩ := a
  simp only at K1 K2 T1 T2 S1 S2 ht hs ht' hs' ⊢
  obtain ⟨ot1, ct1, rfl, -⟩ := ht
  obtain ⟨os1, cs1, rfl, -⟩ := hs
  obtain ⟨ot2, ct2, rfl, -⟩ := ht'
  obtain ⟨os2, cs2, rfl, -⟩ := hs'
  obtain ⟨W0, hW0⟩ : ∃ W0, (w.alloc (.cells #[.int .i64 fr, .int .i64 dt, .int .i64 prof, .int .i64 miles, .slice ot1 tr.length ct1, .slice os1 sl.length cs1] 36)).alloc (.cells #[.int .i64 fr, .int .i64 dt, .int .i64 prof, .int .i64 miles, .slice ot2 tr.length ct2, .slice os2 sl.length cs2] 36) = W0 := ⟨_, rfl⟩
  have A1 := Lib.hid ((Ab.made w (.int .i64 fr) (.int .i64 dt) (.int .i64 prof) (.int .i64 miles) (.slice ot1 tr.length ct1) (.slice os1 sl.length cs1)).alloc (.cells #[.int .i64 fr, .int .i64 dt, .int .i64 prof, .int .i64 miles, .slice ot2 tr.length ct2, .slice os2 sl.length cs2] 36))
  have A2 := Ab.made (w.alloc (.cells #[.int .i64 fr, .int .i64 dt, .int .i64 prof, .int .i64 miles, .slice ot1 tr.length ct1, .slice os1 sl.length cs1] 36)) (.int .i64 fr) (.int .i64 dt) (.int .i64 prof) (.int .i64 miles) (.slice ot2 tr.length ct2) (.slice os2 sl.length cs2)
  have B0 := Lib.hid (over (below_alloc w (.cells #[.int .i64 fr, .int .i64 dt, .int .i64 prof, .int .i64 miles, .slice ot1 tr.length ct1, .slice os1 sl.length cs1] 36)) (below_alloc _ (.cells #[.int .i64 fr, .int .i64 dt, .int .i64 prof, .int .i64 miles, .slice ot2 tr.length ct2, .slice os2 sl.length cs2] 36)))
  rw [show (w.alloc (.cells #[.int .i64 fr, .int .i64 dt, .int .i64 prof, .int .i64 miles, .slice ot1 tr.length ct1, .slice os1 sl.length cs1] 36)).heap.size = w.heap.size + 1 by simp] at A2
  have A2 := Lib.hid A2
  rw [hW0] at A1 A2 B0
  have c0 := A1.out.c0
  have c1 := A1.out.c1
  have c2 := A1.out.c2
  have c3 := A1.out.c3
  have c4 := A1.out.c4
  have c5 := A1.out.c5
  have d0 := A2.out.c0
  have d1 := A2.out.c1
  have d2 := A2.out.c2
  have d3 := A2.out.c3
  have d4 := A2.out.c4
  have d5 := A2.out.c5
  have T1' := Lib.hid (T1.out.below B0.out)
  have T2' := Lib.hid (T2.out.below B0.out)
  go_enter Tryd.func17, Tryd.ntmps17
  go_wp2_with fail
  refine (K1.out _ T1'.out T2'.out).mono ?_
  rintro e w1 ⟨rfl, b1⟩
  have B1 := Lib.hid (over B0.out b1)
  have e5 := (A1.out.below b1).c5
  have f5 := (A2.out.below b1).c5
  have S1' := Lib.hid (S1.out.below B1.out)
  have S2' := Lib.hid (S2.out.below B1.out)
  clear b1 c0 c1 c2 c3 c4 c5 d0 d1 d2 d3 d4 d5 hW0
  go_wp2_with fail
  refine (K2.out _ S1'.out S2'.out).mono ?_
  rintro e w2 ⟨rfl, b2⟩
  have B2 := Lib.hid (over B1.out b2)
  clear b2 e5 f5
  go_wp2_with fail
  go_ret
  exact ⟨rfl, B2.out⟩

set_option maxHeartbeats 1600000 in
theorem sameNet_eq (vp va vp' va' : Value) (pl : List ByteArray) (l : List ArcT) (hp9 : pl.length ≤ 1000000) (hl : l.length ≤ 1000000) (hw9 : ∀ i, i < l.length → (l.getD i arc0).tr.length ≤ 1000000000 ∧ (l.getD i arc0).sl.length ≤ 1000000000) (w : World) (hp : Ss w vp pl) (ha : As w va l) (hp' : Ss w vp' pl) (ha' : As w va' l) :
    Calls Tryd.prog 23 #[.agg #[vp, va], .agg #[vp', va']] w fun e w' => e = .returned (.bool true) ∧ Below w.heap.size w w' := by
  obtain ⟨op, cp, rfl, hp⟩ := hp
  obtain ⟨oa, c, rfl, ha⟩ := ha
  obtain ⟨op', cp', rfl, hp'⟩ := hp'
  obtain ⟨oa', c', rfl, ha'⟩ := ha'
  have HP := Lib.hid hp
  have HP' := Lib.hid hp'
  have HA := Lib.hid ha
  have HA' := Lib.hid ha'
  have K := Lib.hid (fun i (hi : i < l.length) vt vs vt' vs' w ht hs ht' hs' => sameArc_eq vt vs vt' vs' (l.getD i arc0) (hw9 i hi).1 (hw9 i hi).2 w ht hs ht' hs')
  clear hp ha hp' ha' hw9
  generalize l.length = n at *
  generalize pl.length = np at *
  have hne : ((n : Int) != (n : Int)) = false := by simp
  have hnp : ((np : Int) != (np : Int)) = false := by simp
  obtain ⟨W0, hW0⟩ : ∃ W0, (w.alloc (.cells #[.slice op np cp, .slice oa n c] 25)).alloc (.cells #[.slice op' np cp', .slice oa' n c'] 25) = W0 := ⟨_, rfl⟩
  have N1 := Lib.hid ((Nb.made w (.slice op np cp) (.slice oa n c)).below (below_alloc _ (.cells #[.slice op' np cp', .slice oa' n c'] 25)))
  have N2 := Nb.made (w.alloc (.cells #[.slice op np cp, .slice oa n c] 25)) (.slice op' np cp') (.slice oa' n c')
  have B0 := Lib.hid (over (below_alloc w (.cells #[.slice op np cp, .slice oa n c] 25)) (below_alloc _ (.cells #[.slice op' np cp', .slice oa' n c'] 25)))
  rw [show (w.alloc (.cells #[.slice op np cp, .slice oa n c] 25)).heap.size = w.heap.size + 1 by simp] at N2
  have N2 := Lib.hid N2
  rw [hW0] at N1 N2 B0
  have g0 := N1.out.c0
  have g1 := N1.out.c1
  have e0 := N2.out.c0
  have e1 := N2.out.c1
  go_enter Tryd.func23, Tryd.ntmps23
  go_wp2_with fail
  clear hW0 g0 g1 e0 e1
  go_loopw [5] (fun i wr => ∃ k : Nat, k ≤ np ∧ i = .int .i64 k ∧ Hid (Below W0.heap.size W0 wr)) (fun i _ => np - (intOf i).toNat)
  case atStart => exact ⟨0, Nat.zero_le _, rfl, Below.refl _ _⟩
  case round =>
    obtain ⟨k, hk, rfl, HW⟩ := hrel
    have g0 := (N1.out.below HW.out).c0
    have g1 := (N1.out.below HW.out).c1
    have e0 := (N2.out.below HW.out).c0
    have e1 := (N2.out.below HW.out).c1
    have hbw := over B0.out HW.out
    by_cases hlt : k < np
    · obtain ⟨b1, rfl, hab, hc0⟩ := HP.out k hlt
      obtain ⟨b2, rfl, hbb, he0⟩ := HP'.out k hlt
      have d0 := (hbw.cell (p := b1.add k) (by rw [add_block]; exact hab)).trans hc0
      have d2 := (hbw.cell (p := b2.add k) (by rw [add_block]; exact hbb)).trans he0
      clear hc0 he0 hbw
      have hkI : (k : Int) < (np : Int) := by omega
      generalize pl.getD k ⟨#[]⟩ = p at *
      go_wp2_with fail
      go_quiet (fail)
      go_wp2_with fail
      go_roundw
      case rel => exact ⟨k + 1, by omega, by go_num, below_drewN HW.out _⟩
      case measure => simp [intOf]; omega
    · have hk' : k = np := by omega
      subst hk'
      go_wp2_with fail
      clear g0 g1 e0 e1 hbw
      go_loopw [6] (fun i wr => ∃ m : Nat, m ≤ n ∧ i = .int .i64 m ∧ Hid (Below W0.heap.size W0 wr)) (fun i _ => n - (intOf i).toNat)
      case atStart => exact ⟨0, Nat.zero_le _, rfl, HW⟩
      case round =>
        clear HW
        obtain ⟨m, hm, rfl, HW⟩ := hrel
        have g0 := (N1.out.below HW.out).c0
        have g1 := (N1.out.below HW.out).c1
        have e0 := (N2.out.below HW.out).c0
        have e1 := (N2.out.below HW.out).c1
        have hbw := over B0.out HW.out
        by_cases hmn : m < n
        · obtain ⟨b1, o1, vt, vs, rfl, hab, ⟨h0, h1, h2, h3, h4, h5⟩, hpt, hps⟩ := HA.out m hmn
          obtain ⟨b2, o2, vt', vs', rfl, hbb, ⟨k0, k1, k2, k3, k4, k5⟩, hpt', hps'⟩ := HA'.out m hmn
          have c0 := (hbw.cell (p := ⟨b1, _, none⟩) hab).trans h0
          have c1 := (hbw.cell (p := ⟨b1, _, none⟩) hab).trans h1
          have c2 := (hbw.cell (p := ⟨b1, _, none⟩) hab).trans h2
          have c3 := (hbw.cell (p := ⟨b1, _, none⟩) hab).trans h3
          have c4 := (hbw.cell (p := ⟨b1, _, none⟩) hab).trans h4
          have c5 := (hbw.cell (p := ⟨b1, _, none⟩) hab).trans h5
          have d0 := (hbw.cell (p := ⟨b2, _, none⟩) hbb).trans k0
          have d1 := (hbw.cell (p := ⟨b2, _, none⟩) hbb).trans k1
          have d2 := (hbw.cell (p := ⟨b2, _, none⟩) hbb).trans k2
          have d3 := (hbw.cell (p := ⟨b2, _, none⟩) hbb).trans k3
          have d4 := (hbw.cell (p := ⟨b2, _, none⟩) hbb).trans k4
          have d5 := (hbw.cell (p := ⟨b2, _, none⟩) hbb).trans k5
          have P1 : Hid (Ps wr.drew vt (l.getD m arc0).tr) := hpt.below (below_drew hbw)
          have P2 : Hid (Ps wr.drew vs (l.getD m arc0).sl) := hps.below (below_drew hbw)
          have P3 : Hid (Ps wr.drew vt' (l.getD m arc0).tr) := hpt'.below (below_drew hbw)
          have P4 : Hid (Ps wr.drew vs' (l.getD m arc0).sl) := hps'.below (below_drew hbw)
          have K9 := Lib.hid (fun w ht hs ht' hs' => K.out m hmn vt vs vt' vs' w ht hs ht' hs')
          have HBd := Lib.hid (below_drew HW.out)
          clear h0 h1 h2 h3 h4 h5 k0 k1 k2 k3 k4 k5 hpt hps hpt' hps' hbw
          generalize l.getD m arc0 = a at *
          have hmI : (m : Int) < (n : Int) := by omega
          go_wp2_with fail
          go_region_with (go_at_call 17; with_reducible refine (K9.out _ P1.out P2.out P3.out P4.out).mono ?_; rintro e w5 ⟨rfl, b5⟩; have HB5 := over HBd.out b5)
          all_goals
            go_wp2_with fail
            go_roundw
            case rel => exact ⟨m + 1, by omega, by go_num, HB5⟩
            case measure => simp [intOf] <;> omega
        · have hm' : m = n := by omega
          subst hm'
          go_wp2_with fail
          go_ret
          exact ⟨rfl, hbw⟩

end Go.Proofs.YtegpebnkogjadaaDoor.T

