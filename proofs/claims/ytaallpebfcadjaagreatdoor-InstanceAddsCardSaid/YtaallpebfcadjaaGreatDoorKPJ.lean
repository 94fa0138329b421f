/-
  DERIVED. KPJ: a part of the base of layer 13 (made by pack.py).
-/
import Derived.Test.YtaallpebfcadjaaGreatDoorKPC
import Derived.Test.YtaallpebfcadjaaGreatDoorKPG
import Derived.Test.YtaallpebfcadjaaGreatDoorKPH
import Derived.Test.YtaallpebfcadjaaGreatDoorKPI
/-! The walk of network's placeFaults. -/
namespace Go.Proofs.YtaallpebfcadjaaGreatDoor.T
open Go.RowKit
set_option maxRecDepth 8000

def kPlace : ByteArray := ⟨#[112, 108, 97, 99, 101]⟩
theorem plf_at {l : List ByteArray} {k : Nat} {s : ByteArray} (hs : l.getD k ⟨#[]⟩ = s) : atF kPlace k (plE s (seen l s k)) = plf l k := by
  unfold plf
  rw [hs]
  cases h1 : nmB s
  · show atF kPlace k (plE s (seen l s k)) = [(5, placeS k)]
    unfold plE
    rw [h1]
    rfl
  · cases h2 : seen l s k
    · show atF kPlace k (plE s false) = []
      unfold plE
      rw [h1]
      rfl
    · show atF kPlace k (plE s true) = [(6, placeS k)]
      unfold plE
      rw [h1]
      rfl
theorem own_lt {B : Nat} {w : World} {v : Value} {l : List (Int × ByteArray)} (h : Gl B w v l) {b : Nat} (e : v.ownBlock = some b) : b < w.heap.size := (World.ownsRow.lt h.own b e).2

set_option maxHeartbeats 6400000 in
theorem placeFaults_n (u : Value) (l : List ByteArray) (hl : l.length ≤ 2000000) (hz : ∀ i, i < l.length → (l.getD i ⟨#[]⟩).size ≤ maxLen) (w : World) (hu : Ss w u l) (hT : Tab w) :
    Calls Tryz.prog 58 #[u] w (ChkP (plF l l.length) w) := by
  obtain ⟨oa, c, rfl, ha⟩ := hu
  have HA := Lib.hid ha
  have HT := Lib.hid hT
  have HZ := Lib.hid hz
  have HS : Hid (∀ k, plF l (k + 1) = plF l k ++ plf l k) := fun _ => rfl
  have HL := Lib.hid (plF_len l)
  have HL2 := Lib.hid (plf_len l)
  have HE : Hid (plF l l.length = plF l l.length) := rfl
  have H0 : Hid (plF l 0 = plf0 l.length) := rfl
  have HQ := Lib.hid (fun k (hk : k < l.length) s => seen_step (l := l) (s := s) hk)
  have HPA := Lib.hid (fun k s (hs : l.getD k ⟨#[]⟩ = s) => plf_at hs)
  have hmm := makeMap_n (P := Tryz.prog) 87 9 4 .i64 (l.length : Int) Tryz.underlying87
  generalize hr : plF l l.length = r at HE ⊢
  clear HE
  have HE := Lib.hid hr
  clear hr ha hT hz
  generalize hn : l.length = n at *
  clear hn
  go_enter Tryz.func58, Tryz.ntmps58
  go_upto_if 9 with fail
  go_cut [3] from 7 to 13 (fun v wx => Hid (Gl w.heap.size wx v (plf0 n)) ∧ Hid (Below w.heap.size w wx))
  case first =>
    by_cases h : 24 < n
    · have h2 : (24 : Int) < (n : Int) := by omega
      have HF : Hid (plf0 n = [] ++ [(4, sPlaces)]) := by show _ = _; unfold plf0; rw [if_pos h]; rfl
      unfold sPlaces at HF
      go_wp2_with (at_builtin; refine wpList_append_run rfl _ _ 33 rfl rfl rfl (ap_f1 _ 4 ⟨#[112, 108, 97, 99, 101, 115]⟩ (Gl.nil _ w) (Nat.le_refl _) (by simp)) ?_)
      intro v3 w3 hg3 hb3
      go_wp2_with fail
      go_meet
      case rel => exact ⟨HF.out ▸ hg3, hb3⟩
    · have h2 : ¬ (24 : Int) < (n : Int) := by omega
      have HF : Hid (plf0 n = []) := by show _ = _; unfold plf0; rw [if_neg h]
      go_wp2_with fail
      go_meet
      case rel => exact ⟨HF.out ▸ Gl.nil _ _, Below.refl _ _⟩
  obtain ⟨HG, HB⟩ := hcut
  rw [← H0.out] at HG
  have HBm := Lib.hid (over HB.out (below_alloc wc (.map #[] 0)))
  have HGm := Lib.hid (HG.out.frame (below_alloc wc (.map #[] 0)))
  have HM : Hid (Sm (wc.alloc (.map #[] 0)) wc.heap.size 0 (fun s => seen l s 0)) := Sm.made wc
  have HN : Hid (∀ g, u3.ownBlock = some g → g ≠ wc.heap.size) := fun g e h => by
    have := own_lt HG.out e
    omega
  have hbm := HB.out.size
  clear HG HB
  go_wp2_with fail
  generalize wc.heap.size = bm at *
  clear hmm
  go_loopg [3, 19] n (fun g v j wx => ∃ k : Nat, k ≤ n ∧ j = .int .i64 k ∧ n - k ≤ g ∧ Hid (Gl w.heap.size wx v (plF l k)) ∧ Hid (Below w.heap.size w wx) ∧ Hid (Sm wx bm k (fun s => seen l s k)) ∧ Hid (∀ g, v.ownBlock = some g → g ≠ bm))
  case atStart => exact ⟨0, Nat.zero_le _, rfl, Nat.le_refl _, HGm, HBm, HM, HN⟩
  case round =>
    clear HGm HBm HM HN H0
    obtain ⟨k, hkn, rfl, hg, HG, HB, HM, HN⟩ := hrel
    by_cases hlt : k < n
    · obtain ⟨a, rfl, hab, hc0⟩ := HA.out k hlt
      have hll := HL.out k
      have hl2 := HL2.out k
      have HSk := Lib.hid (HS.out k)
      have hs9 := HZ.out k hlt
      have d0 := (HB.out.cell (p := a.add k) (by rw [add_block]; exact hab)).trans hc0
      have hkI : (k : Int) < (n : Int) := by omega
      obtain ⟨s, hs⟩ : ∃ s, l.getD k ⟨#[]⟩ = s := ⟨_, rfl⟩
      have HQk := Lib.hid (HQ.out k hlt)
      have HPk := Lib.hid (HPA.out k s hs)
      rw [hs] at d0 hs9 HQk
      have hlk := HM.out.look1 hs9
      have KP := Lib.hid (fun w => placeErrors_n s (seen l s k) w)
      have hpl : (plE s (seen l s k)).length ≤ 10000000 := by unfold plE; split <;> (try split) <;> simp
      have KF := Lib.hid (fun u w hu hT => faultsAt_n kPlace k u (plE s (seen l s k)) (by decide) (by omega) hpl w hu hT)
      rw [HPk.out] at KF
      unfold kPlace at KF
      clear hc0 hs HPk hpl
      go_wp2_with fail
      refine (KP.out _).mono ?_
      rintro e w1 ⟨v1, rfl, hv1, b1⟩
      have HB1 := Lib.hid (over HB.out b1)
      have HG1 := Lib.hid (HG.out.frame b1)
      have HM1 := Lib.hid (HM.out.below b1)
      have HV1 := Lib.hid hv1
      have HT1 := Lib.hid (HT.out.over HB1.out)
      clear b1 hlk d0 HG HB HM hv1 KP
      go_wp2_with fail
      refine (KF.out _ _ HV1.out HT1.out).mono ?_
      intro e w2 h2
      obtain ⟨v2, rfl, hf2, -, b2⟩ := Lf.of_chk h2
      have HB2 := Lib.hid (over HB1.out b2)
      have HG2 := Lib.hid (HG1.out.frame b2)
      have HM2 := Lib.hid (HM1.out.below b2)
      have HF2 := Lib.hid hf2
      have hsz := HB2.out.size
      clear b2 hf2 h2 HG1 HB1 HM1 HV1 HT1 KF
      go_wp2_with (at_builtin; refine wpList_append_run rfl _ _ 33 rfl rfl rfl (ap_f _ HG2.out HF2.out hsz (by omega)) ?_)
      intro v3 w3 hg3 hb3 hgr hat
      have hbne : some bm ≠ u3.ownBlock := fun e => HN.out bm e.symm rfl
      have HM3 := Lib.hid (HM2.out.grown hgr hbne)
      have hM2lt := HM2.out.lt
      have HN3 : Hid (∀ g, v3.ownBlock = some g → g ≠ bm) := fun g e h => by
        rcases hat with hat | hat
        · rw [hat] at e; exact HN.out g e h
        · rw [hat] at e
          simp only [Option.some.injEq] at e
          omega
      have HG3 : Hid (Gl w.heap.size w3 v3 (plF l (k + 1))) := by show Gl _ _ _ _; rw [HSk.out]; exact hg3
      have HB3 := Lib.hid (HB2.out.trans hb3)
      obtain ⟨w4, hrun, hM4, hgr4⟩ := HM3.out.put (by unfold maxLen; omega) hs9
      have HM4 : Hid (Sm w4 bm (k + 1) (fun s => seen l s (k + 1))) := hM4.ext fun s' => by
        rw [HQk.out s']
        congr 1
        rw [Bool.eq_iff_iff, beq_iff_eq, beq_iff_eq]
        exact eq_comm
      have HB4 : Hid (Below w.heap.size w w4) := HB3.out.grown hgr4 HB3.out.size (fun x e => by simp only [Option.some.injEq] at e; omega)
      have HG4 : Hid (Gl w.heap.size w4 v3 (plF l (k + 1))) := HG3.out.of_block fun g e => hgr4.block g (own_lt HG3.out e) (fun h => by simp only [Option.some.injEq] at h; exact HN3.out g e h)
      clear hg3 hb3 hgr hat HG2 HB2 HM2 HF2 HM3 HG3 HB3 hM4 hgr4 HN
      go_wp2_with fail
      go_roundg (n - (k + 1))
      case measure => omega
      case rel => exact ⟨k + 1, by omega, by go_num, by omega, HG4, HB4, HM4, HN3⟩
    · have hk' : k = n := by omega
      subst hk'
      have HR := Lib.hid HE.out
      go_wp2_with fail
      go_ret
      exact chkP (HR.out ▸ HG.out) HB.out (Nat.le_refl _)

end Go.Proofs.YtaallpebfcadjaaGreatDoor.T


/-! The walks of network's arcFaults and Check. -/
namespace Go.Proofs.YtaallpebfcadjaaGreatDoor.T
open Go.RowKit
set_option maxRecDepth 8000

def kArc : ByteArray := ⟨#[97, 114, 99]⟩
theorem atF_app (kind : ByteArray) (i : Nat) (a b : List Int) : atF kind i (a ++ b) = atF kind i a ++ atF kind i b := List.map_append ..
theorem slC_at (l : List (Int × Int)) (i : Nat) : ∀ k, atF kArc i (slC l k) = (if 16 < l.length then [(4, arcS i)] else []) ++ slF l i k
  | 0 => by
    rw [show slF l i 0 = [] from rfl, List.append_nil]
    show atF kArc i (slC0 l.length) = _
    unfold slC0
    split <;> rfl
  | k + 1 => by
    show atF kArc i (slC l k ++ if slowB l k then [] else [2]) = _ ++ (slF l i k ++ af6 l i k)
    rw [atF_app, slC_at l i k, List.append_assoc]
    congr 2
    unfold af6
    split <;> rfl
theorem arF_at {np : Nat} {l : List ArcT} {i : Nat} {a : ArcT} (ha : l.getD i arc0 = a) : atF kArc i (arE np a (twiceB l a i)) = arF np l i := by
  unfold arF arE slE
  rw [ha, atF_app, atF_app, atF_app, atF_app, slC_at, ← List.append_assoc]
  have h1 : atF kArc i (arE1 np a) = af1 np a i := by unfold arE1 af1; split <;> rfl
  have h2 : atF kArc i (arE2 a) = af2 a i := by unfold arE2 af2; split <;> rfl
  have h3 : atF kArc i (arE3 (twiceB l a i)) = af3 l a i := by unfold arE3 af3; split <;> rfl
  have h4 : atF kArc i (arE4 (faults a.tr)) = af4 (faults a.tr) i := by unfold atF arE4 af4; rw [List.map_map]; rfl
  rw [h1, h2, h3, h4]
  rfl
def afF (np : Nat) (l : List ArcT) : Nat → List (Int × ByteArray)
  | 0 => if 1024 < l.length then [(4, sArcs)] else []
  | k + 1 => afF np l k ++ arF np l k
theorem nt_af (pl : List ByteArray) (l : List ArcT) : ∀ k, ntF pl l k = plF pl pl.length ++ afF pl.length l k
  | 0 => rfl
  | k + 1 => by
    show ntF pl l k ++ arF pl.length l k = plF pl pl.length ++ (afF pl.length l k ++ arF pl.length l k)
    rw [nt_af pl l k, List.append_assoc]
theorem afF_len (np : Nat) (l : List ArcT) : ∀ k, k ≤ l.length → (afF np l k).length ≤ 1 + 5 * k + 2 * wtA (l.take k)
  | 0, _ => by unfold afF; split <;> simp <;> omega
  | k + 1, h => by
    show (afF np l k ++ arF np l k).length ≤ _
    rw [List.length_append, wt_take (by omega)]
    have := afF_len np l k (by omega)
    have := arF_len np l k
    omega
theorem arE_len (np : Nat) (l : List ArcT) (i : Nat) : (arE np (l.getD i arc0) (twiceB l (l.getD i arc0) i)).length = (arF np l i).length := by
  rw [← arF_at rfl, atF_len]

set_option maxHeartbeats 6400000 in
theorem arcFaults_n (vp va : Value) (pl : List ByteArray) (l : List ArcT) (hl : l.length ≤ 1000000) (hw9 : wtA l ≤ 1000000) (hI : Wfa l) (w : World) (hp : Ss w vp pl) (ha : As w va l) (hT : Tab w) :
    Calls Tryz.prog 59 #[.agg #[vp, va]] w (ChkP (afF pl.length l l.length) w) := by
  have HS : Hid (∀ k, afF pl.length l (k + 1) = afF pl.length l k ++ arF pl.length l k) := fun _ => rfl
  have HL := Lib.hid (fun k (hk : k ≤ l.length) => afF_len pl.length l k hk)
  have HLA := Lib.hid (fun k => arF_len pl.length l k)
  have HWT := Lib.hid (fun k => wt_take_le l k)
  have HWL := Lib.hid (fun k (hk : k < l.length) => wt_le hk)
  have HIW := Lib.hid hI
  have HTW := Lib.hid (fun k (hk : k < l.length) => ix_twice hk)
  have HAT := Lib.hid (fun k a (h : l.getD k arc0 = a) => arF_at (np := pl.length) h)
  have HAL := Lib.hid (fun k => arE_len pl.length l k)
  have HE : Hid (afF pl.length l l.length = afF pl.length l l.length) := rfl
  have H0 : Hid (afF pl.length l 0 = if 1024 < l.length then [(4, sArcs)] else []) := rfl
  have BW := below_alloc w (.cells #[vp, va] 25)
  have HA := ha.below BW
  have HT := Lib.hid (hT.over BW)
  have N0 := Nb.made w vp va
  obtain ⟨op, cp, hvp, -⟩ := id hp
  obtain ⟨oa, c, hva, -⟩ := id ha
  subst hvp
  subst hva
  have KF := Lib.hid (fun w h => firstArcs_n (.slice oa l.length c) l hl hI w h)
  have KE := Lib.hid (fun (a : ArcT) vt vs tw h1 h2 w hpt hps hT => arcErrors_n op pl.length cp oa l.length c a vt vs tw h1 h2 w hpt hps hT)
  obtain ⟨W0, hW0⟩ : ∃ W0, w.alloc (.cells #[.slice op pl.length cp, .slice oa l.length c] 25) = W0 := ⟨_, rfl⟩
  have hsz0 : w.heap.size ≤ W0.heap.size := by rw [← hW0]; exact BW.size
  rw [hW0] at HA HT N0 BW
  have HA := Lib.hid HA
  have N0 := Lib.hid N0
  have B0 := Lib.hid BW
  have g0 := N0.out.c0
  have g1 := N0.out.c1
  generalize hr : afF pl.length l l.length = r at HE ⊢
  clear HE
  have HE := Lib.hid hr
  clear hr hp ha hT BW hI
  generalize hn : l.length = n at *
  generalize pl.length = np at *
  have HNl := Lib.hid hn
  clear hn
  go_enter Tryz.func59, Tryz.ntmps59
  go_upto_if 11 with fail
  clear hW0
  go_cut [3] from 8 to 15 (fun v wx => Hid (Gl W0.heap.size wx v (afF np l 0)) ∧ Hid (Below W0.heap.size W0 wx))
  case first => as_aux_lemma =>
    by_cases h : 1024 < n
    · have h2 : (1024 : Int) < (n : Int) := by omega
      have HF : Hid (afF np l 0 = [] ++ [(4, sArcs)]) := by show _ = _; rw [H0.out, if_pos h]; rfl
      unfold sArcs at HF
      go_wp2_with (at_builtin; refine wpList_append_run rfl _ _ 33 rfl rfl rfl (ap_f1 _ 4 ⟨#[97, 114, 99, 115]⟩ (Gl.nil _ W0) (Nat.le_refl _) (by simp)) ?_)
      intro v3 w3 hg3 hb3
      go_wp2_with fail
      go_meet
      case rel => exact ⟨HF.out ▸ hg3, hb3⟩
    · have h2 : ¬ (1024 : Int) < (n : Int) := by omega
      have HF : Hid (afF np l 0 = []) := by show _ = _; rw [H0.out, if_neg h]
      go_wp2_with fail
      go_meet
      case rel => exact ⟨HF.out ▸ Gl.nil _ _, Below.refl _ _⟩
  clear g0 g1 H0
  obtain ⟨HG, HB⟩ := hcut
  have g1 := (N0.out.below HB.out).c1
  have HA1 := Lib.hid (HA.out.below HB.out)
  go_wp2_with fail
  refine (KF.out _ HA1.out).mono ?_
  rintro e w1 ⟨bm, rfl, hbm, hM, b1⟩
  have HN : Hid (∀ g, u3.ownBlock = some g → g ≠ bm) := fun g e h => by
    have := own_lt HG.out e
    omega
  have HB1 := Lib.hid (over HB.out b1)
  have HG1 := Lib.hid (HG.out.frame b1)
  have HM := Lib.hid hM
  have hbmB : W0.heap.size ≤ bm := Nat.le_trans HB.out.size hbm
  have g1 := (N0.out.below HB1.out).c1
  clear HG HB b1 hM HA1 KF hbm
  go_wp2_with fail
  clear g1
  go_loopg [3, 22] n (fun g v j wx => ∃ k : Nat, k ≤ n ∧ j = .int .i64 k ∧ n - k ≤ g ∧ Hid (Gl W0.heap.size wx v (afF np l k)) ∧ Hid (Below W0.heap.size W0 wx) ∧ Hid (Wm wx bm n (ixA l 0)) ∧ Hid (∀ g, v.ownBlock = some g → g ≠ bm))
  case atStart => exact ⟨0, Nat.zero_le _, rfl, Nat.le_refl _, HG1, HB1, HM, HN⟩
  case round =>
    clear HG1 HB1 HM HN
    obtain ⟨k, hkn, rfl, hg, HG, HB, HM, HN⟩ := hrel
    by_cases hlt : k < n
    · have hak := HA.out
      obtain ⟨oa', c', hva', hall⟩ := hak
      simp only [Value.slice.injEq] at hva'
      obtain ⟨rfl, -, rfl⟩ := hva'
      obtain ⟨b, o, vt, vs, hoa, hab, ⟨h0, h1, h2, h3, h4, h5⟩, hpt, hps⟩ := hall k (by rw [HNl.out]; exact hlt)
      subst hoa
      obtain ⟨ot, ct, hvt, -⟩ := id hpt
      obtain ⟨os, cs, hvs, -⟩ := id hps
      subst hvt
      subst hvs
      have hw1 := HWL.out k hlt
      have hll := HL.out k hkn
      have hl2 := HLA.out k
      have hl3 := HWT.out k
      have hl4 := HAL.out k
      have HSk := Lib.hid (HS.out k)
      obtain ⟨i64f, i64t, i64p⟩ := HIW.out k (by rw [HNl.out]; exact hlt)
      obtain ⟨jf, hjx, hjt⟩ := HTW.out k hlt
      have HATk := Lib.hid (HAT.out k _ rfl)
      generalize arF np l k = X at *
      obtain ⟨a, hak⟩ : ∃ a, l.getD k arc0 = a := ⟨_, rfl⟩
      rw [hak] at h0 h1 h2 h3 h4 h5 hpt hps hw1 hl2 hl4 HATk i64f i64t i64p hjx hjt
      generalize twiceB l a k = tw at *
      have hXl : X.length ≤ 3000000 := by omega
      have KE1 := Lib.hid (fun w hpt hps hT => KE.out a (.slice ot a.tr.length ct) (.slice os a.sl.length cs) tw (by omega) (by omega) w hpt hps hT)
      have KA := Lib.hid (fun u w hu hT => faultsAt_n kArc k u (arE np a tw) (by decide) (by omega) (by omega) w hu hT)
      rw [HATk.out] at KA
      unfold kArc at KA
      generalize arE np a tw = E1 at *
      obtain ⟨fr, dt, prof, miles, tr, sl⟩ := a
      simp only at h0 h1 h2 h3 h4 h5 hpt hps hw1 KE1 i64f i64t i64p hjx
      have d0 := (HB.out.cell (p := ⟨b, _, none⟩) hab).trans h0
      have d1 := (HB.out.cell (p := ⟨b, _, none⟩) hab).trans h1
      have d2 := (HB.out.cell (p := ⟨b, _, none⟩) hab).trans h2
      have d3 := (HB.out.cell (p := ⟨b, _, none⟩) hab).trans h3
      have d4 := (HB.out.cell (p := ⟨b, _, none⟩) hab).trans h4
      have d5 := (HB.out.cell (p := ⟨b, _, none⟩) hab).trans h5
      have hkI : (k : Int) < (n : Int) := by omega
      clear h0 h1 h2 h3 h4 h5 hall hl2 hl4 HATk hak
      obtain ⟨W3, hW3⟩ : ∃ W3, wr.alloc (.cells #[.int .i64 fr, .int .i64 dt, .int .i64 prof, .int .i64 miles, .slice ot tr.length ct, .slice os sl.length cs] 54) = W3 := ⟨_, rfl⟩
      obtain ⟨q3, hq3⟩ : ∃ q3, wr.heap.size = q3 := ⟨_, rfl⟩
      have A3 := Ab.made wr (.int .i64 fr) (.int .i64 dt) (.int .i64 prof) (.int .i64 miles) (.slice ot tr.length ct) (.slice os sl.length cs)
      have hbe := below_alloc wr (.cells #[.int .i64 fr, .int .i64 dt, .int .i64 prof, .int .i64 miles, .slice ot tr.length ct, .slice os sl.length cs] 54)
      rw [hW3] at A3 hbe
      rw [hq3] at A3
      have A3 := Lib.hid A3
      have HB3 := Lib.hid (over HB.out hbe)
      have HG3 := Lib.hid (HG.out.frame hbe)
      have HM3 := Lib.hid (HM.out.below hbe)
      clear hbe HB HG HM
      go_upto_region 8 with fail
      clear hW3 hq3 d0 d1 d2 d3 d4 d5
      have a0 := A3.out.c0
      have a1 := A3.out.c1
      have a2 := A3.out.c2
      have a3 := A3.out.c3
      have a4 := A3.out.c4
      have a5 := A3.out.c5
      go_wp2_with fail
      refine (wayOf_n _ _ _ _ _ _ _).mono ?_
      rintro e w4 ⟨rfl, b4⟩
      have HB4 := Lib.hid (over HB3.out b4)
      have HG4 := Lib.hid (HG3.out.frame b4)
      have HM4 := Lib.hid (HM3.out.below b4)
      have A4 := Lib.hid (A3.out.below b4)
      have hlk := HM4.out.look1 i64p i64f i64t
      rw [hjx] at hlk
      simp only [Option.getD_some] at hlk
      clear a0 a1 a2 a3 a4 a5 b4 HB3 HG3 HM3 A3
      have a0 := A4.out.c0
      have a1 := A4.out.c1
      have a2 := A4.out.c2
      have a3 := A4.out.c3
      have a4 := A4.out.c4
      have a5 := A4.out.c5
      have g0 := (N0.out.below HB4.out).c0
      have g1 := (N0.out.below HB4.out).c1
      have PT4 := Lib.hid (hpt.below HB4.out)
      have PS4 := Lib.hid (hps.below HB4.out)
      have HT4 := Lib.hid (HT.out.over HB4.out)
      have HTWx := Lib.hid hjt.symm
      clear hjt hpt hps
      go_upto_region 9 with fail
      rw [HTWx.out]
      clear HTWx hlk
      go_wp2_with fail
      refine (KE1.out _ PT4.out PS4.out HT4.out).mono ?_
      rintro e w5 ⟨v5, rfl, hv5, b5⟩
      have HB5 := Lib.hid (over HB4.out b5)
      have HG5 := Lib.hid (HG4.out.frame b5)
      have HM5 := Lib.hid (HM4.out.below b5)
      have HV5 := Lib.hid hv5
      have HT5 := Lib.hid (HT4.out.over b5)
      clear a0 a1 a2 a3 a4 a5 g0 g1 hv5 b5 HB4 HG4 HM4 HT4 A4 PT4 PS4 KE1
      go_wp2_with fail
      refine (KA.out _ _ HV5.out HT5.out).mono ?_
      intro e w6 h6
      obtain ⟨v6, rfl, hf6, -, b6⟩ := Lf.of_chk h6
      have HB6 := Lib.hid (over HB5.out b6)
      have HG6 := Lib.hid (HG5.out.frame b6)
      have HM6 := Lib.hid (HM5.out.below b6)
      have HF6 := Lib.hid hf6
      have hsz := HB6.out.size
      clear hf6 b6 h6 HB5 HG5 HM5 HV5 HT5 KA
      go_wp2_with (at_builtin; refine wpList_append_run rfl _ _ 33 rfl rfl rfl (ap_f _ HG6.out HF6.out hsz (by omega)) ?_)
      intro v7 w7 hg7 hb7 hgr hat
      have hbne : some bm ≠ u3.ownBlock := fun e => HN.out bm e.symm rfl
      have HM7 := Lib.hid (HM6.out.grown hgr hbne)
      have hM6lt := HM6.out.lt
      have HN7 : Hid (∀ g, v7.ownBlock = some g → g ≠ bm) := fun g e h => by
        rcases hat with hat | hat
        · rw [hat] at e; exact HN.out g e h
        · rw [hat] at e
          simp only [Option.some.injEq] at e
          omega
      have HG7 : Hid (Gl W0.heap.size w7 v7 (afF np l (k + 1))) := by show Gl _ _ _ _; rw [HSk.out]; exact hg7
      have HB7 := Lib.hid (HB6.out.trans hb7)
      clear hg7 hb7 hgr hat HB6 HG6 HM6 HF6 HN
      go_wp2_with fail
      go_roundg (n - (k + 1))
      case measure => omega
      case rel => exact ⟨k + 1, by omega, by go_num, by omega, HG7, HB7, HM7, HN7⟩
    · have hk' : k = n := by omega
      subst hk'
      have HR := Lib.hid HE.out
      go_wp2_with fail
      go_ret
      exact chkP (HR.out ▸ HG.out) (over B0.out HB.out) hsz0

set_option maxHeartbeats 3200000 in
/-- network's Check returns the specified faults -/
theorem netCheck_n (vp va : Value) (pl : List ByteArray) (l : List ArcT) (hp9 : pl.length ≤ 2000000) (hz : ∀ i, i < pl.length → (pl.getD i ⟨#[]⟩).size ≤ maxLen) (hl : l.length ≤ 1000000) (hw9 : wtA l ≤ 1000000) (hI : Wfa l) (w : World) (hp : Ss w vp pl) (ha : As w va l) (hT : Tab w) :
    Calls Tryz.prog 24 #[.agg #[vp, va]] w (ChkP (netF pl l) w) := by
  have HE : Hid (plF pl pl.length ++ afF pl.length l l.length = netF pl l) := (nt_af pl l l.length).symm
  have hL1 := plF_len pl pl.length
  have hL2 := afF_len pl.length l l.length (Nat.le_refl _)
  rw [List.take_length] at hL2
  have KP := Lib.hid (fun w hu hT => placeFaults_n vp pl hp9 hz w hu hT)
  have KA := Lib.hid (fun w hp ha hT => arcFaults_n vp va pl l hl hw9 hI w hp ha hT)
  have BW := below_alloc w (.cells #[vp, va] 25)
  have HP := hp.below BW
  have HA := ha.below BW
  have HT := hT.over BW
  have N := Nb.made w vp va
  have hBs := BW.size
  obtain ⟨op, cp, hvp, -⟩ := id hp
  obtain ⟨oa, c, hva, -⟩ := id ha
  subst hvp
  subst hva
  generalize netF pl l = r at *
  generalize plF pl pl.length = F1 at *
  generalize afF pl.length l l.length = F2 at *
  obtain ⟨W0, hW0⟩ : ∃ W0, w.alloc (.cells #[.slice op pl.length cp, .slice oa l.length c] 25) = W0 := ⟨_, rfl⟩
  rw [hW0] at HP HA HT BW N hBs
  have HP : Ss W0.drew (.slice op pl.length cp) pl := HP
  have HA : As W0.drew (.slice oa l.length c) l := HA
  have HT : Tab W0.drew := HT
  have N : Nb W0.drew w.heap.size (.slice op pl.length cp) (.slice oa l.length c) := N
  have BW : Below w.heap.size w W0.drew := below_drew BW
  have g0 := N.c0
  have g1 := N.c1
  have hfl : F1.length + F2.length ≤ 100000000 := by omega
  clear hp ha hT hL1 hL2 hz hI
  go_enter Tryz.func24, Tryz.ntmps24
  go_upto_region 1 with fail
  clear hW0
  have hW0s : W0.heap.size ≤ W0.drew.heap.size := Nat.le_refl _
  go_region_law (first
    | (refine step_append_run (by rfl) _ _ 33 (by rfl) (by rfl) (by rfl) (ap_f _ HG HF hW0s hfl) ?_; rintro v3 w3 ⟨hg3, hb3, -, -⟩)
    | (go_simp; go_at_call 58; (with_reducible refine (KP.out _ HP HT).mono ?_); intro e w1 h1; obtain ⟨v1, rfl, -, HG, b1⟩ := Lf.of_chk h1; have HP := HP.below b1; have HA := HA.below b1; have HT := HT.over b1; have N := N.below b1; have BW := over BW b1; have g0 := N.c0; have g1 := N.c1; have hW0s := b1.size)
    | (go_simp; go_at_call 59; (with_reducible refine (KA.out _ HP HA HT).mono ?_); intro e w2 h2; obtain ⟨v2, rfl, HF, -, b2⟩ := Lf.of_chk h2; have HG := HG.frame b2; have BW := over BW b2; have hW0s := Nat.le_trans hW0s b2.size))
  all_goals
    have BWx := Lib.hid BW
    have HGx := Lib.hid hg3
    have hbx := Lib.hid hb3
    clear g0 g1 N HP HA HT hg3 hb3
    go_wp2_with fail
    go_ret
    exact chkP (HE.out ▸ HGx.out) (BWx.out.trans (hbx.out.mono hBs)) hBs

end Go.Proofs.YtaallpebfcadjaaGreatDoor.T


