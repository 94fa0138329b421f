/-
  DERIVED. KPQ: a part of the base of layer 13 (made by pack.py).
-/
import Derived.Test.YtaallpebfcadjaaGreatDoorKPP
import Derived.Test.YtaallpebfcadjaaGreatDoorKPJ
import Derived.Test.YtaallpebfcadjaaGreatDoorKPK
/-! The walks of fleet's faultsAt and Check. -/
namespace Go.Proofs.YtaallpebfcadjaaGreatDoor.T
open Go.RowKit
set_option maxRecDepth 8000

theorem flDecimal_n (i : Nat) (hi : i ≤ 1000000000) (w : World) (ht : Tab w) :
    Calls Tryz.prog 94 #[.int .i64 (i : Int)] w fun e w' => e = .returned (.string (dec i)) ∧ Below w.heap.size w w' := by
  have K := Lib.hid (fun w ht => itoa_n i hi w ht)
  have HT := Lib.hid ht
  clear ht
  go_enter Tryz.func94, Tryz.ntmps94
  go_wp2_with fail
  refine (K.out _ HT.out).mono ?_
  rintro e w1 ⟨rfl, b1⟩
  go_wp2_with fail
  go_ret
  exact ⟨rfl, b1⟩

theorem brk_step {l : List (Bool × Int)} {k : Nat} (h : k < l.length) : brk (l.take (k + 1)) = brk (l.take k) ++ (if (l.getD k (false, 0)).1 then [(l.getD k (false, 0)).2] else []) := by
  rw [take_more (d := (false, 0)) h]
  unfold brk
  rw [List.filter_append, List.map_append]
  congr 1
  generalize l.getD k (false, 0) = x
  obtain ⟨b, e⟩ := x
  cases b <;> rfl
theorem brk_len (l : List (Bool × Int)) (k : Nat) : (brk (l.take k)).length ≤ k := by
  unfold brk
  rw [List.length_map]
  refine Nat.le_trans (List.length_filter_le _ _) ?_
  rw [List.length_take]
  omega
theorem at_app (i : Nat) (l m : List Int) : atT i (l ++ m) = atT i l ++ atT i m := by unfold atT; rw [List.map_append]
theorem at_len (i : Nat) (l : List Int) : (atT i l).length = l.length := by unfold atT; rw [List.length_map]

set_option maxHeartbeats 6400000 in
theorem faultsAt_n_F (i : Nat) (hi : i ≤ 1000000000) (u : Value) (l : List (Bool × Int)) (hl : l.length ≤ 1000000) (w : World) (hu : Sl rE rA (false, 0) w u l) (hT : Tab w) :
    Calls Tryz.prog 60 #[.int .i64 (i : Int), u] w (ChkP (atT i (brk l)) w) := by
  have HU := Lib.hid hu
  obtain ⟨oa, c, rfl, ha⟩ := hu
  have HA := Lib.hid ha
  have HT := Lib.hid hT
  have KD := Lib.hid (fun w ht => flDecimal_n i hi w ht)
  have HS := Lib.hid (fun k (hk : k < l.length) => brk_step hk)
  have HL := Lib.hid (fun k => brk_len l k)
  have HE : Hid (atT i (brk (l.take l.length)) = atT i (brk l)) := by show _ = _; rw [List.take_length]
  generalize atT i (brk l) = r at *
  generalize hn : l.length = n at *
  clear ha hT hn
  go_enter Tryz.func60, Tryz.ntmps60
  go_wp2_with fail
  go_loopg [5, 10] n (fun g v j wx => ∃ k : Nat, k ≤ n ∧ j = .int .i64 k ∧ n - k ≤ g ∧ Hid (Gl w.heap.size wx v (atT i (brk (l.take k)))) ∧ Hid (Below w.heap.size w wx))
  case atStart => exact ⟨0, Nat.zero_le _, rfl, Nat.le_refl _, Gl.nil _ _, Below.refl _ _⟩
  case round =>
    obtain ⟨k, hkn, rfl, hg, HG, HB⟩ := hrel
    by_cases hlt : k < n
    · obtain ⟨b, o, rfl, hab, h0, h1⟩ := HA.out k hlt
      have hkI : (k : Int) < (n : Int) := by omega
      have HSk := Lib.hid (HS.out k hlt)
      have hlk := HL.out k
      unfold rE at h0
      unfold rA at h1
      have d0 := (HB.out.cell (p := ⟨b, _, none⟩) hab).trans h0
      have d1 := (HB.out.cell (p := ⟨b, _, none⟩) hab).trans h1
      clear h0 h1
      obtain ⟨t, x, htx⟩ : ∃ t x, l.getD k (false, 0) = (t, x) := ⟨_, _, rfl⟩
      rw [htx] at d0 d1 HSk
      simp only at d0 d1 HSk
      have HBl := below_alloc wr (.cells #[.bool t, .int .i64 x] 128)
      obtain ⟨q3, hq3⟩ : ∃ q3, wr.heap.size = q3 := ⟨_, rfl⟩
      obtain ⟨W3, hW3⟩ : ∃ W3, wr.alloc (.cells #[.bool t, .int .i64 x] 128) = W3 := ⟨_, rfl⟩
      have p0 : W3.cell? ⟨q3, 0, none⟩ = some (.bool t) := by rw [← hW3, ← hq3]; simp
      have p1 : W3.cell? ⟨q3, 1, none⟩ = some (.int .i64 x) := by rw [← hW3, ← hq3]; simp
      have hq4 : q3 < W3.heap.size := by rw [← hW3, ← hq3]; simp
      rw [hW3] at HBl
      have HB3 := Lib.hid (over HB.out HBl)
      have HG3 := Lib.hid (HG.out.frame HBl)
      clear HBl htx HB HG
      cases t
      · have HX : Hid (atT i (brk (l.take (k + 1))) = atT i (brk (l.take k))) := by show _ = _; rw [HSk.out]; simp
        have HG4 := Lib.hid (HG3.out.ext HX.out.symm)
        go_wp2_with fail
        go_roundg (n - (k + 1))
        case measure => omega
        case rel => exact ⟨k + 1, by omega, by go_num, by omega, HG4, HB3⟩
      · have HX : Hid (atT i (brk (l.take (k + 1))) = atT i (brk (l.take k)) ++ [(x, dec i)]) := by show _ = _; rw [HSk.out, at_app]; rfl
        have hlen : (atT i (brk (l.take k))).length ≤ 90000000 := by rw [at_len]; omega
        generalize atT i (brk (l.take k)) = F at *
        have HTd : Hid (Tab W3.drew) := HT.out.over (below_drew HB3.out)
        have HHG : Hid (Gl w.heap.size W3.drew u5 F) := HG3.out
        have HBd : Below w.heap.size w W3.drew := below_drew HB3.out
        clear HG3 HSk hlk
        go_wp2_with fail
        clear hW3 hq3
        go_region_law (first
          | (refine step_append_run (by rfl) _ _ 33 (by rfl) (by rfl) (by rfl) (ap_f1 _ x (dec i) HGz.out hsz hlen) ?_; rintro v3 w3 ⟨hg3, hb3⟩)
          | (go_simp; go_at_call 94; (with_reducible refine (KD.out _ HTd.out).mono ?_); rintro e wz ⟨rfl, bz⟩; have HGz := Lib.hid (HHG.out.frame bz); have HBz := HBd.trans (bz.mono HBd.size); have hsz := HBz.size; have p1 := (bz.cell (p := ⟨q3, 1, none⟩) hq4).trans p1))
        all_goals
          have HG3 : Hid (Gl w.heap.size w3 v3 (atT i (brk (l.take (k + 1))))) := by show Gl _ _ _ _; rw [HX.out]; exact hg3
          have HB4 := Lib.hid (HBz.trans hb3)
          clear hg3 hb3 HBz HBd p1
          go_wp2_with fail
          go_roundg (n - (k + 1))
          case measure => omega
          case rel => exact ⟨k + 1, by omega, by go_num, by omega, HG3, HB4⟩
    · have hk' : k = n := by omega
      subst hk'
      have HR := Lib.hid HE.out
      go_wp2_with fail
      go_ret
      exact chkP (HR.out ▸ HG.out) HB.out (Nat.le_refl _)

end Go.Proofs.YtaallpebfcadjaaGreatDoor.T


/-! The walk of fleet's Check (written by gen_fltop6.py). -/
namespace Go.Proofs.YtaallpebfcadjaaGreatDoor.T
open Go.RowKit
set_option maxRecDepth 8000

theorem rul_len (np dims : Nat) (t : TyT) (tw : Bool) : (rulL np dims t tw).length = 9 := rfl
theorem at_rules (np : Nat) (l : List TyT) (k : Nat) : atT k (brk (rulL np (dimsF l) (l.getD k ty0) (knownB l (l.getD k ty0).name k))) = atT k (tyE np l k) := by rw [brk_rules]

set_option maxHeartbeats 12800000 in
theorem flCheck_n (op : Option Addr) (np cp : Nat) (on : Option Addr) (na ca : Nat) (v : Value) (l : List TyT) (hl : l.length ≤ 1000000) (hnp : np ≤ 9223372036854775807) (hc9 : ∀ i, i < l.length → (l.getD i ty0).cap.length ≤ 1000000000 ∧ (l.getD i ty0).name.size ≤ maxLen) (w : World) (hv : Ts w v l) (hT : Tab w) :
    Calls Tryz.prog 25 #[.agg #[.slice op np cp, .slice on na ca], v] w (ChkP (fleetF np l) w) := by
  have BW := below_alloc w (.cells #[.slice op np cp, .slice on na ca] 25)
  have HV := Lib.hid (hv.below BW)
  have N0 := Lib.hid (Nb.made w (.slice op np cp) (.slice on na ca))
  have HT0 := Lib.hid (hT.over BW)
  have HD := Lib.hid (fun w hv => dims_n v l (by omega) w hv)
  obtain ⟨ov, cv, rfl, -⟩ := hv
  have HA := HV
  obtain ⟨ov', cv', hvv, ha⟩ := HA.out
  simp only [Value.slice.injEq, true_and] at hvv
  obtain ⟨rfl, rfl⟩ := hvv
  have HA := Lib.hid ha
  have HC9 := Lib.hid hc9
  have HE : Hid (flF np l l.length = fleetF np l) := rfl
  have H0 : Hid (flF np l 0 = if rgB 1 6 l.length then [] else [(4, ⟨#[]⟩)]) := rfl
  have HS : Hid (∀ k, flF np l (k + 1) = flF np l k ++ atT k (tyE np l k)) := fun _ => rfl
  have HR9 := Lib.hid (fun k => at_rules np l k)
  have HL := Lib.hid (flF_len np l)
  have HL2 := Lib.hid (fun k => tyE_len np l k)
  have HQ := Lib.hid (fun k (hk : k < l.length) s => known_step (l := l) (s := s) hk)
  have HQ0 := Lib.hid (fun s => known_zero l s)
  have hmm := makeMap_n (P := Tryz.prog) 87 9 4 .i64 (l.length : Int) Tryz.underlying87
  obtain ⟨W0, hW0⟩ : ∃ W0, w.alloc (.cells #[.slice op np cp, .slice on na ca] 25) = W0 := ⟨_, rfl⟩
  have hsz0 : w.heap.size ≤ W0.heap.size := by rw [← hW0]; exact BW.size
  rw [hW0] at HV N0 BW HA HT0
  have B0 := Lib.hid BW
  obtain ⟨dims, hdims⟩ : ∃ d, dimsF l = d := ⟨_, rfl⟩
  have hd9 : dims ≤ 1000000000 := by
    rw [← hdims]
    unfold dimsF
    by_cases h : 0 < l.length
    · exact (hc9 0 h).1
    · rw [show l = [] from List.eq_nil_of_length_eq_zero (by omega)]; simp [ty0]
  rw [hdims] at HD HR9
  clear BW hc9 ha hT hdims
  generalize fleetF np l = r at *
  generalize hn : l.length = n at *
  go_enter Tryz.func25, Tryz.ntmps25
  go_upto_region 2 with fail
  go_cut [16, 5] from 9 to 16 (fun t f wx => t = .bool (!rgB 1 6 n) ∧ f = .slice none 0 0 ∧ W0 = wx)
  case first =>
    by_cases h0 : n = 0
    · subst h0
      go_wp2_with fail
      go_meet
      case rel => exact ⟨rfl, rfl, rfl⟩
    · have hne : ((n : Int) == 0) = false := ne_eqN h0
      by_cases h6 : 6 < n
      · have h6I : (6 : Int) < (n : Int) := by omega
        have hr : rgB 1 6 n = false := by unfold rgB; rw [decide_eq_false (show ¬ (n : Int) ≤ 6 by omega), Bool.and_false]
        go_wp2_with fail
        go_meet
        case rel => exact ⟨by rw [hr]; rfl, rfl, rfl⟩
      · have h6I : ¬ (6 : Int) < (n : Int) := by omega
        have hr : rgB 1 6 n = true := by unfold rgB; rw [decide_eq_true (show (n : Int) ≤ 6 by omega), decide_eq_true (show 1 ≤ (n : Int) by omega)]; rfl
        go_wp2_with fail
        go_meet
        case rel => exact ⟨by rw [hr]; rfl, rfl, rfl⟩
  clear hW0
  obtain ⟨rfl, rfl, rfl⟩ := hcut
  go_upto_if 16 with fail
  go_cut [5] from 9 to 20 (fun v wx => Hid (Gl W0.heap.size wx v (flF np l 0)) ∧ Hid (Below W0.heap.size W0 wx))
  case first => as_aux_lemma =>
    cases hb : rgB 1 6 (n : Int)
    · have HF : Hid (flF np l 0 = [] ++ [(4, ⟨#[]⟩)]) := by show _ = _; rw [H0.out, hb]; rfl
      clear hb
      go_wp2_with (at_builtin; refine wpList_append_run rfl _ _ 33 rfl rfl rfl (ap_f1 _ 4 ⟨#[]⟩ (Gl.nil _ W0) (Nat.le_refl _) (by simp)) ?_)
      intro v3 w3 hg3 hb3
      go_wp2_with fail
      go_meet
      case rel => exact ⟨HF.out ▸ hg3, hb3⟩
    · have HF : Hid (flF np l 0 = []) := by show _ = _; rw [H0.out, hb]; rfl
      clear hb
      go_wp2_with fail
      go_meet
      case rel => exact ⟨HF.out ▸ Gl.nil _ _, Below.refl _ _⟩
  obtain ⟨HG, HB⟩ := hcut
  have HBm := Lib.hid (over HB.out (below_alloc wc (.map #[] 0)))
  have HGm := Lib.hid (HG.out.frame (below_alloc wc (.map #[] 0)))
  have HM : Hid (Sm (wc.alloc (.map #[] 0)) wc.heap.size 0 (fun s => knownB l s 0)) := (Sm.made wc).ext fun s => (HQ0.out s).symm
  have HN : Hid (∀ g, u5.ownBlock = some g → g ≠ wc.heap.size) := fun g e h => by
    have := own_lt HG.out e
    omega
  have hbm := HB.out.size
  clear HG HB
  go_wp2_with fail
  generalize wc.heap.size = bm at *
  clear hmm hn
  go_loopg [5, 26] n (fun g v j wx => ∃ k : Nat, k ≤ n ∧ j = .int .i64 k ∧ n - k ≤ g ∧ Hid (Gl W0.heap.size wx v (flF np l k)) ∧ Hid (Below W0.heap.size W0 wx) ∧ Hid (Sm wx bm k (fun s => knownB l s k)) ∧ Hid (∀ g, v.ownBlock = some g → g ≠ bm))
  case atStart => exact ⟨0, Nat.zero_le _, rfl, Nat.le_refl _, HGm, HBm, HM, HN⟩
  case round =>
    clear HGm HBm HM HN H0 HQ0
    obtain ⟨k, hkn, rfl, hg, HG, HB, HM, HN⟩ := hrel
    by_cases hlt : k < n
    · obtain ⟨b, o, vc, rfl, hab, ⟨h0, h1, h2, h3, h4, h5, h6, h7, h8, h9, h10, h11, h12, h13⟩, hcp⟩ := HA.out k hlt
      have hcp2 := Lib.hid (hcp.below HB.out)
      obtain ⟨oc, cc, rfl, -⟩ := hcp
      have d0 := (HB.out.cell (p := ⟨b, _, none⟩) hab).trans h0
      have d1 := (HB.out.cell (p := ⟨b, _, none⟩) hab).trans h1
      have d2 := (HB.out.cell (p := ⟨b, _, none⟩) hab).trans h2
      have d3 := (HB.out.cell (p := ⟨b, _, none⟩) hab).trans h3
      have d4 := (HB.out.cell (p := ⟨b, _, none⟩) hab).trans h4
      have d5 := (HB.out.cell (p := ⟨b, _, none⟩) hab).trans h5
      have d6 := (HB.out.cell (p := ⟨b, _, none⟩) hab).trans h6
      have d7 := (HB.out.cell (p := ⟨b, _, none⟩) hab).trans h7
      have d8 := (HB.out.cell (p := ⟨b, _, none⟩) hab).trans h8
      have d9 := (HB.out.cell (p := ⟨b, _, none⟩) hab).trans h9
      have d10 := (HB.out.cell (p := ⟨b, _, none⟩) hab).trans h10
      have d11 := (HB.out.cell (p := ⟨b, _, none⟩) hab).trans h11
      have d12 := (HB.out.cell (p := ⟨b, _, none⟩) hab).trans h12
      have d13 := (HB.out.cell (p := ⟨b, _, none⟩) hab).trans h13
      have hkI : (k : Int) < (n : Int) := by omega
      have hll := HL.out k
      have hl2 : (atT k (tyE np l k)).length ≤ 9 := by rw [at_len]; exact HL2.out k
      have HSk := Lib.hid (HS.out k)
      have HQk := Lib.hid (HQ.out k hlt)
      have HRk := Lib.hid (HR9.out k)
      obtain ⟨hcp9, hnm9⟩ := HC9.out k hlt
      clear h0 h1 h2 h3 h4 h5 h6 h7 h8 h9 h10 h11 h12 h13
      generalize l.getD k ty0 = a at *
      obtain ⟨nm, cnt, fr, dt, cap, sk, prof, opn, cls, drv, rst, fix, pm, pt⟩ := a
      simp only at d0 d1 d2 d3 d4 d5 d6 d7 d8 d9 d10 d11 d12 d13 hcp2 HQk HRk hcp9 hnm9
      have HM2 := Lib.hid (HM.out.below (below_alloc wr (.cells #[.string nm, .int .i64 cnt, .int .i64 fr, .int .i64 dt, .slice oc cap.length cc, .int .i64 sk, .int .i64 prof, .int .i64 opn, .int .i64 cls, .int .i64 drv, .int .i64 rst, .int .i64 fix, .int .i64 pm, .int .i64 pt] 56)))
      have HB2 := Lib.hid (over HB.out (below_alloc wr (.cells #[.string nm, .int .i64 cnt, .int .i64 fr, .int .i64 dt, .slice oc cap.length cc, .int .i64 sk, .int .i64 prof, .int .i64 opn, .int .i64 cls, .int .i64 drv, .int .i64 rst, .int .i64 fix, .int .i64 pm, .int .i64 pt] 56)))
      have HG2 := Lib.hid (HG.out.frame (below_alloc wr (.cells #[.string nm, .int .i64 cnt, .int .i64 fr, .int .i64 dt, .slice oc cap.length cc, .int .i64 sk, .int .i64 prof, .int .i64 opn, .int .i64 cls, .int .i64 drv, .int .i64 rst, .int .i64 fix, .int .i64 pm, .int .i64 pt] 56)))
      have HCp := Lib.hid (hcp2.out.below (below_alloc wr (.cells #[.string nm, .int .i64 cnt, .int .i64 fr, .int .i64 dt, .slice oc cap.length cc, .int .i64 sk, .int .i64 prof, .int .i64 opn, .int .i64 cls, .int .i64 drv, .int .i64 rst, .int .i64 fix, .int .i64 pm, .int .i64 pt] 56)))
      have TB := Tb.made wr (.string nm) (.int .i64 cnt) (.int .i64 fr) (.int .i64 dt) (.slice oc cap.length cc) (.int .i64 sk) (.int .i64 prof) (.int .i64 opn) (.int .i64 cls) (.int .i64 drv) (.int .i64 rst) (.int .i64 fix) (.int .i64 pm) (.int .i64 pt)
      obtain ⟨q3, hq3⟩ : ∃ q3, wr.heap.size = q3 := ⟨_, rfl⟩
      obtain ⟨W3, hW3⟩ : ∃ W3, wr.alloc (.cells #[.string nm, .int .i64 cnt, .int .i64 fr, .int .i64 dt, .slice oc cap.length cc, .int .i64 sk, .int .i64 prof, .int .i64 opn, .int .i64 cls, .int .i64 drv, .int .i64 rst, .int .i64 fix, .int .i64 pm, .int .i64 pt] 56) = W3 := ⟨_, rfl⟩
      rw [hW3] at HM2 HB2 HG2 HCp TB
      rw [hq3] at TB
      have hq4 : bm ≠ q3 := by have := HM.out.lt; omega
      have HNb := Lib.hid (N0.out.below HB2.out)
      have hlk := HM2.out.look1 hnm9
      have e0 := TB.c0
      have e1 := TB.c1
      have e2 := TB.c2
      have e3 := TB.c3
      have e4 := TB.c4
      have e5 := TB.c5
      have e6 := TB.c6
      have e7 := TB.c7
      have e8 := TB.c8
      have e9 := TB.c9
      have e10 := TB.c10
      have e11 := TB.c11
      have e12 := TB.c12
      have e13 := TB.c13
      have hnb := HNb.out.c0
      have hql := TB.lt
      have TB := Lib.hid TB
      obtain ⟨tw, htw⟩ : ∃ b, knownB l nm k = b := ⟨_, rfl⟩
      rw [htw] at hlk HRk
      have HTW := Lib.hid htw
      have KR := Lib.hid (fun w hc => rulesOf_n ⟨nm, cnt, fr, dt, cap, sk, prof, opn, cls, drv, rst, fix, pm, pt⟩ oc cc np dims tw hcp9 hd9 hnp w hc)
      unfold tyV at KR
      simp only at KR
      have KF := Lib.hid (fun u w hu hT => faultsAt_n_F k (by omega) u (rulL np dims ⟨nm, cnt, fr, dt, cap, sk, prof, opn, cls, drv, rst, fix, pm, pt⟩ tw) (by rw [rul_len]; omega) w hu hT)
      rw [HRk.out] at KF
      generalize rulL np dims ⟨nm, cnt, fr, dt, cap, sk, prof, opn, cls, drv, rst, fix, pm, pt⟩ tw = RL at *
      have hqo : some q3 ≠ u5.ownBlock := fun e => by have := own_lt HG.out e.symm; omega
      clear hcp2 HRk htw HM HB HG
      go_upto_region 8 with fail
      clear hW3 hq3 d0 d1 d2 d3 d4 d5 d6 d7 d8 d9 d10 d11 d12 d13
      refine wp_region_noPanic ?_
      refine wp_region_held_drew (S := fun w' => w'.cell? ⟨q3, 0, none⟩ = some (.string nm) ∧ w'.cell? ⟨q3, 1, none⟩ = some (.int .i64 cnt) ∧ w'.cell? ⟨q3, 2, none⟩ = some (.int .i64 fr) ∧ w'.cell? ⟨q3, 3, none⟩ = some (.int .i64 dt) ∧ w'.cell? ⟨q3, 4, none⟩ = some (.slice oc cap.length cc) ∧ w'.cell? ⟨q3, 5, none⟩ = some (.int .i64 sk) ∧ w'.cell? ⟨q3, 6, none⟩ = some (.int .i64 prof) ∧ w'.cell? ⟨q3, 7, none⟩ = some (.int .i64 opn) ∧ w'.cell? ⟨q3, 8, none⟩ = some (.int .i64 cls) ∧ w'.cell? ⟨q3, 9, none⟩ = some (.int .i64 drv) ∧ w'.cell? ⟨q3, 10, none⟩ = some (.int .i64 rst) ∧ w'.cell? ⟨q3, 11, none⟩ = some (.int .i64 fix) ∧ w'.cell? ⟨q3, 12, none⟩ = some (.int .i64 pm) ∧ w'.cell? ⟨q3, 13, none⟩ = some (.int .i64 pt) ∧ w'.cell? ⟨w.heap.size, 0, none⟩ = some (.slice op np cp) ∧ (Instr.lookup 87 (.map (some bm)) (.string nm) false).run Tryz.prog w' = .ok (.bool tw) w') (by kernel_rfl) ⟨e0, e1, e2, e3, e4, e5, e6, e7, e8, e9, e10, e11, e12, e13, hnb, (by have h := (show Sm W3.drew bm k (fun s => knownB l s k) from HM2.out).look1 hnm9; rw [HTW.out] at h; exact h)⟩ (fun hHeld => ?_)
      refine wpAnyH_take (i := 0) (oi := { dst := some 31, op := Op.move (Operand.tmp 5), type := 33, pos := "fleet.go:18", after := #[], guard := none }) (v := u5) rfl (by kernel_rfl) (by kernel_rfl) (by kernel_rfl) (fun _ _ _ h => h) (Or.inl ⟨by rfl, by intro w0 hSw; go_simp⟩) hHeld ?_
      simp only [Act.put, List.setIfInBounds_toArray, List.set_cons_zero, List.set_cons_succ]
      refine wpAnyH_take (i := 1) (oi := { dst := some 32, op := Op.move (Operand.tmp 7), type := 3, pos := "fleet.go:18", after := #[], guard := none }) (v := .int .i64 k) rfl (by kernel_rfl) (by kernel_rfl) (by kernel_rfl) (fun _ _ _ h => h) (Or.inl ⟨by rfl, by intro w0 hSw; go_simp⟩) hHeld ?_
      simp only [Act.put, List.setIfInBounds_toArray, List.set_cons_zero, List.set_cons_succ]
      refine wpAnyH_take (i := 2) (oi := { dst := some 33, op := Op.load 56 (Operand.tmp 8), type := 56, pos := "fleet.go:18", after := #[], guard := none }) (v := .agg #[.string nm, .int .i64 cnt, .int .i64 fr, .int .i64 dt, .slice oc cap.length cc, .int .i64 sk, .int .i64 prof, .int .i64 opn, .int .i64 cls, .int .i64 drv, .int .i64 rst, .int .i64 fix, .int .i64 pm, .int .i64 pt]) rfl (by kernel_rfl) (by kernel_rfl) (by kernel_rfl) (fun _ _ _ h => h) (Or.inl ⟨by rfl, by intro w0 hSw; go_simp⟩) hHeld ?_
      simp only [Act.put, List.setIfInBounds_toArray, List.set_cons_zero, List.set_cons_succ]
      refine wpAnyH_take (i := 3) (oi := { dst := some 34, op := Op.fieldAddr 25 (Operand.tmp 2) 0, type := 0, pos := "fleet.go:18", after := #[], guard := none }) (v := .pointer (some ⟨w.heap.size, 0, none⟩)) rfl (by kernel_rfl) (by kernel_rfl) (by kernel_rfl) (fun _ _ _ h => h) (Or.inl ⟨by rfl, by intro w0 hSw; go_simp⟩) hHeld ?_
      simp only [Act.put, List.setIfInBounds_toArray, List.set_cons_zero, List.set_cons_succ]
      refine wpAnyH_take (i := 4) (oi := { dst := some 35, op := Op.load 22 (Operand.tmp 34), type := 22, pos := "fleet.go:18", after := #[{ on := 3, ground := Ground.data }], guard := none }) (v := .slice op np cp) rfl (by kernel_rfl) (by kernel_rfl) (by kernel_rfl) (fun _ _ _ h => h) (Or.inl ⟨by rfl, by intro w0 hSw; go_simp⟩) hHeld ?_
      simp only [Act.put, List.setIfInBounds_toArray, List.set_cons_zero, List.set_cons_succ]
      refine wpAnyH_take (i := 5) (oi := { dst := some 36, op := Op.call { callee := Callee.builtin Builtin.len, args := #[Operand.tmp 35], argTypes := #[22] }, type := 3, pos := "fleet.go:18", after := #[{ on := 4, ground := Ground.data }], guard := none }) (v := .int .i64 np) rfl (by kernel_rfl) (by kernel_rfl) (by kernel_rfl) (fun _ _ _ h => h) (Or.inl ⟨by rfl, by intro w0 hSw; go_simp⟩) hHeld ?_
      simp only [Act.put, List.setIfInBounds_toArray, List.set_cons_zero, List.set_cons_succ]
      refine wpAnyH_take (i := 6) (oi := { dst := some 37, op := Op.move (Operand.tmp 1), type := 26, pos := "fleet.go:18", after := #[], guard := none }) (v := .slice (some ⟨b, o, none⟩) n cv) rfl (by kernel_rfl) (by kernel_rfl) (by kernel_rfl) (fun _ _ _ h => h) (Or.inl ⟨by rfl, by intro w0 hSw; go_simp⟩) hHeld ?_
      simp only [Act.put, List.setIfInBounds_toArray, List.set_cons_zero, List.set_cons_succ]
      refine wpAnyH_take (i := 8) (oi := { dst := some 39, op := Op.move (Operand.tmp 6), type := 87, pos := "fleet.go:18", after := #[], guard := none }) (v := .map (some bm)) rfl (by kernel_rfl) (by kernel_rfl) (by kernel_rfl) (fun _ _ _ h => h) (Or.inl ⟨by rfl, by intro w0 hSw; go_simp⟩) hHeld ?_
      simp only [Act.put, List.setIfInBounds_toArray, List.set_cons_zero, List.set_cons_succ]
      refine wpAnyH_take (i := 9) (oi := { dst := some 40, op := Op.fieldAddr 56 (Operand.tmp 8) 0, type := 0, pos := "fleet.go:18", after := #[], guard := none }) (v := .pointer (some ⟨q3, 0, none⟩)) rfl (by kernel_rfl) (by kernel_rfl) (by kernel_rfl) (fun _ _ _ h => h) (Or.inl ⟨by rfl, by intro w0 hSw; go_simp⟩) hHeld ?_
      simp only [Act.put, List.setIfInBounds_toArray, List.set_cons_zero, List.set_cons_succ]
      refine wpAnyH_take (i := 10) (oi := { dst := some 41, op := Op.load 9 (Operand.tmp 40), type := 9, pos := "fleet.go:18", after := #[{ on := 9, ground := Ground.data }], guard := none }) (v := .string nm) rfl (by kernel_rfl) (by kernel_rfl) (by kernel_rfl) (fun _ _ _ h => h) (Or.inl ⟨by rfl, by intro w0 hSw; go_simp⟩) hHeld ?_
      simp only [Act.put, List.setIfInBounds_toArray, List.set_cons_zero, List.set_cons_succ]
      refine wpAnyH_take (i := 11) (oi := { dst := some 42, op := Op.lookup 87 (Operand.tmp 39) (Operand.tmp 41) false, type := 4, pos := "fleet.go:18", after := #[{ on := 8, ground := Ground.data }, { on := 10, ground := Ground.data }], guard := none }) (v := .bool tw) rfl (by kernel_rfl) (by kernel_rfl) (by kernel_rfl) (fun _ _ _ h => h) (Or.inl ⟨by rfl, by intro w0 hSw; go_simp⟩) hHeld ?_
      simp only [Act.put, List.setIfInBounds_toArray, List.set_cons_zero, List.set_cons_succ]
      have HVd : Hid (Ts W3.drew (.slice (some ⟨b, o, none⟩) n cv) l) := HV.out.below (below_drew HB2.out)
      have HCpd : Hid (L.Li W3.drew (.slice oc cap.length cc) cap) := HCp.out
      have HMd : Hid (Sm W3.drew bm k (fun s => knownB l s k)) := HM2.out
      have HBd : Hid (Below W0.heap.size W0 W3.drew) := below_drew HB2.out
      have HGd : Hid (Gl W0.heap.size W3.drew u5 (flF np l k)) := HG2.out
      have hql : q3 < W3.drew.heap.size := hql
      have hnl : w.heap.size < W3.drew.heap.size := HNb.out.lt
      refine wpAnyH_ready (rs := [7]) (by kernel_rfl) (by simp) ?_
      refine AllReadyH.cons (o := { dst := some 38, op := Op.call { callee := Callee.value (Operand.func 27), args := #[Operand.tmp 37], argTypes := #[26] }, type := 3, pos := "fleet.go:18", after := #[{ on := 6, ground := Ground.data }], guard := none }) rfl (fun K hK => ?_) AllReadyH.nil
      go_simp
      go_at_call 27
      refine (HD.out _ HVd.out).mono ?_
      rintro e1 w1 ⟨rfl, rfl⟩
      go_wp2_with fail
      refine hK.out _ _ hHeld (fun _ => ?_)
      clear hK K
      refine wpAnyH_ready (rs := [12]) (by kernel_rfl) (by simp) ?_
      refine AllReadyH.cons (o := { dst := some 43, op := Op.call { callee := Callee.value (Operand.func 61), args := #[Operand.tmp 33, Operand.tmp 36, Operand.tmp 38, Operand.tmp 42], argTypes := #[56, 3, 3, 4] }, type := 89, pos := "fleet.go:18", after := #[{ on := 2, ground := Ground.data }, { on := 5, ground := Ground.data }, { on := 7, ground := Ground.data }, { on := 11, ground := Ground.data }, { on := 7, ground := Ground.chain }], guard := none }) rfl (fun K hK => ?_) AllReadyH.nil
      go_simp
      go_at_call 61
      refine (KR.out _ HCpd.out).mono ?_
      rintro e1 w5 ⟨oR, cR, rfl, hsl, b5⟩
      have HM5 := Lib.hid (HMd.out.below b5)
      have HB5 := Lib.hid (over HBd.out b5)
      have HG5 := Lib.hid (HGd.out.frame b5)
      have HS5 := Lib.hid hsl
      have HT5 := Lib.hid (HT0.out.over HB5.out)
      have x14 := (b5.cell (p := ⟨w.heap.size, 0, none⟩) hnl).trans hnb
      have x15 : (Instr.lookup 87 (.map (some bm)) (.string nm) false).run Tryz.prog w5 = .ok (.bool tw) w5 := by have h := HM5.out.look1 hnm9; rw [HTW.out] at h; exact h
      have x0 := (b5.cell (p := ⟨q3, 0, none⟩) hql).trans e0
      have x1 := (b5.cell (p := ⟨q3, 1, none⟩) hql).trans e1
      have x2 := (b5.cell (p := ⟨q3, 2, none⟩) hql).trans e2
      have x3 := (b5.cell (p := ⟨q3, 3, none⟩) hql).trans e3
      have x4 := (b5.cell (p := ⟨q3, 4, none⟩) hql).trans e4
      have x5 := (b5.cell (p := ⟨q3, 5, none⟩) hql).trans e5
      have x6 := (b5.cell (p := ⟨q3, 6, none⟩) hql).trans e6
      have x7 := (b5.cell (p := ⟨q3, 7, none⟩) hql).trans e7
      have x8 := (b5.cell (p := ⟨q3, 8, none⟩) hql).trans e8
      have x9 := (b5.cell (p := ⟨q3, 9, none⟩) hql).trans e9
      have x10 := (b5.cell (p := ⟨q3, 10, none⟩) hql).trans e10
      have x11 := (b5.cell (p := ⟨q3, 11, none⟩) hql).trans e11
      have x12 := (b5.cell (p := ⟨q3, 12, none⟩) hql).trans e12
      have x13 := (b5.cell (p := ⟨q3, 13, none⟩) hql).trans e13
      have hql5 := Nat.lt_of_lt_of_le hql b5.size
      have hnl5 := Nat.lt_of_lt_of_le hnl b5.size
      go_wp2_with fail
      refine hK.out _ _ ⟨x0, x1, x2, x3, x4, x5, x6, x7, x8, x9, x10, x11, x12, x13, x14, x15⟩ (fun _ => ?_)
      clear hK K hsl b5 e0 e1 e2 e3 e4 e5 e6 e7 e8 e9 e10 e11 e12 e13
      refine wpAnyH_ready (rs := [13]) (by kernel_rfl) (by simp) ?_
      refine AllReadyH.cons (o := { dst := some 44, op := Op.call { callee := Callee.value (Operand.func 60), args := #[Operand.tmp 32, Operand.tmp 43], argTypes := #[3, 89] }, type := 33, pos := "fleet.go:18", after := #[{ on := 1, ground := Ground.data }, { on := 12, ground := Ground.data }, { on := 12, ground := Ground.chain }], guard := none }) rfl (fun K hK => ?_) AllReadyH.nil
      go_simp
      go_at_call 60
      refine (KF.out _ _ HS5.out HT5.out).mono ?_
      intro e1 w6 h6
      obtain ⟨v6, rfl, hf6, -, b6⟩ := Lf.of_chk h6
      have HM6 := Lib.hid (HM5.out.below b6)
      have HB6 := Lib.hid (over HB5.out b6)
      have HG6 := Lib.hid (HG5.out.frame b6)
      have HF6 := Lib.hid hf6
      have hsz6 := HB6.out.size
      have y14 := (b6.cell (p := ⟨w.heap.size, 0, none⟩) hnl5).trans x14
      have y15 : (Instr.lookup 87 (.map (some bm)) (.string nm) false).run Tryz.prog w6 = .ok (.bool tw) w6 := by have h := HM6.out.look1 hnm9; rw [HTW.out] at h; exact h
      have y0 := (b6.cell (p := ⟨q3, 0, none⟩) hql5).trans x0
      have y1 := (b6.cell (p := ⟨q3, 1, none⟩) hql5).trans x1
      have y2 := (b6.cell (p := ⟨q3, 2, none⟩) hql5).trans x2
      have y3 := (b6.cell (p := ⟨q3, 3, none⟩) hql5).trans x3
      have y4 := (b6.cell (p := ⟨q3, 4, none⟩) hql5).trans x4
      have y5 := (b6.cell (p := ⟨q3, 5, none⟩) hql5).trans x5
      have y6 := (b6.cell (p := ⟨q3, 6, none⟩) hql5).trans x6
      have y7 := (b6.cell (p := ⟨q3, 7, none⟩) hql5).trans x7
      have y8 := (b6.cell (p := ⟨q3, 8, none⟩) hql5).trans x8
      have y9 := (b6.cell (p := ⟨q3, 9, none⟩) hql5).trans x9
      have y10 := (b6.cell (p := ⟨q3, 10, none⟩) hql5).trans x10
      have y11 := (b6.cell (p := ⟨q3, 11, none⟩) hql5).trans x11
      have y12 := (b6.cell (p := ⟨q3, 12, none⟩) hql5).trans x12
      have y13 := (b6.cell (p := ⟨q3, 13, none⟩) hql5).trans x13
      have hnl6 := Nat.lt_of_lt_of_le hnl5 b6.size
      go_wp2_with fail
      refine hK.out _ _ ⟨y0, y1, y2, y3, y4, y5, y6, y7, y8, y9, y10, y11, y12, y13, y14, y15⟩ (fun _ => ?_)
      clear hK K hf6 h6 b6 x0 x1 x2 x3 x4 x5 x6 x7 x8 x9 x10 x11 x12 x13 x14 x15
      refine wpAnyH_ready (rs := [14]) (by kernel_rfl) (by simp) ?_
      refine AllReadyH.cons (o := { dst := some 45, op := Op.call { callee := Callee.builtin Builtin.append, args := #[Operand.tmp 31, Operand.tmp 44], argTypes := #[33, 33] }, type := 33, pos := "fleet.go:18", after := #[{ on := 0, ground := Ground.data }, { on := 13, ground := Ground.data }, { on := 13, ground := Ground.chain }], guard := none }) rfl (fun K hK => ?_) AllReadyH.nil
      refine step_append_run rfl _ _ 33 rfl rfl rfl (ap_f _ HG6.out HF6.out hsz6 (by omega)) ?_
      rintro v3 w7 ⟨hg3, hb3, hgr, hat⟩
      have hbne : some bm ≠ u5.ownBlock := fun e => HN.out bm e.symm rfl
      have HM7 := Lib.hid (HM6.out.grown hgr hbne)
      have hM6lt := HM6.out.lt
      have HN7 : Hid (∀ g, v3.ownBlock = some g → g ≠ bm) := fun g e h => by
        rcases hat with hat | hat
        · rw [hat] at e; exact HN.out g e h
        · rw [hat] at e
          simp only [Option.some.injEq] at e
          omega
      have HG7 : Hid (Gl W0.heap.size w7 v3 (flF np l (k + 1))) := by show Gl _ _ _ _; rw [HSk.out]; exact hg3
      have HB7 := Lib.hid (HB6.out.trans hb3)
      have hwo : some w.heap.size ≠ u5.ownBlock := fun e => by have := HG6.out.blk _ e.symm; have := N0.out.lt; omega
      have z14 := hgr.cell (a := ⟨w.heap.size, 0, none⟩) y14 hwo
      have z15 : (Instr.lookup 87 (.map (some bm)) (.string nm) false).run Tryz.prog w7 = .ok (.bool tw) w7 := by have h := HM7.out.look1 hnm9; rw [HTW.out] at h; exact h
      have z0 := hgr.cell (a := ⟨q3, 0, none⟩) y0 hqo
      have z1 := hgr.cell (a := ⟨q3, 1, none⟩) y1 hqo
      have z2 := hgr.cell (a := ⟨q3, 2, none⟩) y2 hqo
      have z3 := hgr.cell (a := ⟨q3, 3, none⟩) y3 hqo
      have z4 := hgr.cell (a := ⟨q3, 4, none⟩) y4 hqo
      have z5 := hgr.cell (a := ⟨q3, 5, none⟩) y5 hqo
      have z6 := hgr.cell (a := ⟨q3, 6, none⟩) y6 hqo
      have z7 := hgr.cell (a := ⟨q3, 7, none⟩) y7 hqo
      have z8 := hgr.cell (a := ⟨q3, 8, none⟩) y8 hqo
      have z9 := hgr.cell (a := ⟨q3, 9, none⟩) y9 hqo
      have z10 := hgr.cell (a := ⟨q3, 10, none⟩) y10 hqo
      have z11 := hgr.cell (a := ⟨q3, 11, none⟩) y11 hqo
      have z12 := hgr.cell (a := ⟨q3, 12, none⟩) y12 hqo
      have z13 := hgr.cell (a := ⟨q3, 13, none⟩) y13 hqo
      refine hK.out _ _ ⟨z0, z1, z2, z3, z4, z5, z6, z7, z8, z9, z10, z11, z12, z13, z14, z15⟩ (fun hHeld => ?_)
      simp only [Act.put, List.setIfInBounds_toArray, List.set_cons_zero, List.set_cons_succ]
      clear hK K hg3 hb3 hgr hat y0 y1 y2 y3 y4 y5 y6 y7 y8 y9 y10 y11 y12 y13 y14 y15
      refine wpAnyH_take (i := 15) (oi := { dst := some 5, op := Op.assign (Operand.tmp 45), type := 33, pos := "fleet.go:18", after := #[{ on := 14, ground := Ground.data }, { on := 14, ground := Ground.chain }, { on := 0, ground := Ground.phase }, { on := 1, ground := Ground.phase }, { on := 2, ground := Ground.phase }, { on := 3, ground := Ground.phase }, { on := 4, ground := Ground.phase }, { on := 5, ground := Ground.phase }, { on := 6, ground := Ground.phase }, { on := 7, ground := Ground.phase }, { on := 8, ground := Ground.phase }, { on := 9, ground := Ground.phase }, { on := 10, ground := Ground.phase }, { on := 11, ground := Ground.phase }, { on := 12, ground := Ground.phase }, { on := 13, ground := Ground.phase }, { on := 14, ground := Ground.phase }], guard := none }) (v := v3) rfl (by kernel_rfl) (by kernel_rfl) (by kernel_rfl) (fun _ _ _ h => h) (Or.inl ⟨by rfl, by intro w0 hSw; go_simp⟩) hHeld ?_
      simp only [Act.put, List.setIfInBounds_toArray, List.set_cons_zero, List.set_cons_succ]
      refine wpAnyH_done (by kernel_rfl) ?_ _
      refine NoPanic.normal ?_
      obtain ⟨w8, hrun, hM8, hgr8⟩ := HM7.out.put (by unfold maxLen; omega) hnm9
      have HM8 : Hid (Sm w8 bm (k + 1) (fun s => knownB l s (k + 1))) := hM8.ext fun s' => by
        rw [HQk.out s']
        congr 1
        rw [Bool.eq_iff_iff, beq_iff_eq, beq_iff_eq]
        exact eq_comm
      have HB8 : Hid (Below W0.heap.size W0 w8) := HB7.out.grown hgr8 HB7.out.size (fun x e => by simp only [Option.some.injEq] at e; omega)
      have HG8 : Hid (Gl W0.heap.size w8 v3 (flF np l (k + 1))) := HG7.out.of_block fun g e => hgr8.block g (own_lt HG7.out e) (fun h => by simp only [Option.some.injEq] at h; exact HN7.out g e h)
      clear hM8 hgr8 hHeld z1 z2 z3 z4 z5 z6 z7 z8 z9 z10 z11 z12 z13 z14 z15
      go_wp2_with fail
      go_roundg (n - (k + 1))
      case measure => omega
      case rel => exact ⟨k + 1, by omega, by go_num, by omega, HG8, HB8, HM8, HN7⟩
    · have hk' : k = n := by omega
      subst hk'
      have HR := Lib.hid HE.out
      go_wp2_with fail
      go_ret
      exact chkP (HR.out ▸ HG.out) (over B0.out HB.out) hsz0

end Go.Proofs.YtaallpebfcadjaaGreatDoor.T


