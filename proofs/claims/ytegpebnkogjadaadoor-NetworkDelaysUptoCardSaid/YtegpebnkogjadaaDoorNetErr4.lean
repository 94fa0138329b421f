/-
  DERIVED. The walk of network's placeFaults.
-/
import Derived.Test.YtegpebnkogjadaaDoorNetErr2
namespace Go.Proofs.YtegpebnkogjadaaDoor.T
open Go.RowKit
set_option maxRecDepth 8000

def kPlace : ByteArray := ⟨#[112, 108, 97, 99, 101]⟩
theorem plf_at {l : List ByteArray} {k : Nat} {s : ByteArray} (hs : l.getD k ⟨#[]⟩ = s) : atF kPlace k (plE s (seen l s k)) = plf l k := by
  unfold plf
  rw [hs]
  cases h1 : nmB s
  · show atF kPlace k (plE s (seen l s k)) = [(5, placeS k)]
    unfold plE
    rw [h1]
    rfl
  · cases h2 : seen l s k
    · show atF kPlace k (plE s false) = []
      unfold plE
      rw [h1]
      rfl
    · show atF kPlace k (plE s true) = [(6, placeS k)]
      unfold plE
      rw [h1]
      rfl
theorem own_lt {B : Nat} {w : World} {v : Value} {l : List (Int × ByteArray)} (h : Gl B w v l) {b : Nat} (e : v.ownBlock = some b) : b < w.heap.size := (World.ownsRow.lt h.own b e).2

set_option maxHeartbeats 6400000 in
theorem placeFaults_n (u : Value) (l : List ByteArray) (hl : l.length ≤ 2000000) (hz : ∀ i, i < l.length → (l.getD i ⟨#[]⟩).size ≤ maxLen) (w : World) (hu : Ss w u l) (hT : Tab w) :
    Calls Tryd.prog 25 #[u] w (ChkP (plF l l.length) w) := by
  obtain ⟨oa, c, rfl, ha⟩ := hu
  have HA := Lib.hid ha
  have HT := Lib.hid hT
  have HZ := Lib.hid hz
  have HS : Hid (∀ k, plF l (k + 1) = plF l k ++ plf l k) := fun _ => rfl
  have HL := Lib.hid (plF_len l)
  have HL2 := Lib.hid (plf_len l)
  have HE : Hid (plF l l.length = plF l l.length) := rfl
  have H0 : Hid (plF l 0 = plf0 l.length) := rfl
  have HQ := Lib.hid (fun k (hk : k < l.length) s => seen_step (l := l) (s := s) hk)
  have HPA := Lib.hid (fun k s (hs : l.getD k ⟨#[]⟩ = s) => plf_at hs)
  have hmm := makeMap_n (P := Tryd.prog) 76 9 4 .i64 (l.length : Int) Tryd.underlying76
  generalize hr : plF l l.length = r at HE ⊢
  clear HE
  have HE := Lib.hid hr
  clear hr ha hT hz
  generalize hn : l.length = n at *
  clear hn
  go_enter Tryd.func25, Tryd.ntmps25
  go_upto_if 9 with fail
  go_cut [3] from 7 to 13 (fun v wx => Hid (Gl w.heap.size wx v (plf0 n)) ∧ Hid (Below w.heap.size w wx))
  case first =>
    by_cases h : 24 < n
    · have h2 : (24 : Int) < (n : Int) := by omega
      have HF : Hid (plf0 n = [] ++ [(4, sPlaces)]) := by show _ = _; unfold plf0; rw [if_pos h]; rfl
      unfold sPlaces at HF
      go_wp2_with (at_builtin; refine wpList_append_run rfl _ _ 27 rfl rfl rfl (ap_f1 _ 4 ⟨#[112, 108, 97, 99, 101, 115]⟩ (Gl.nil _ w) (Nat.le_refl _) (by simp)) ?_)
      intro v3 w3 hg3 hb3
      go_wp2_with fail
      go_meet
      case rel => exact ⟨HF.out ▸ hg3, hb3⟩
    · have h2 : ¬ (24 : Int) < (n : Int) := by omega
      have HF : Hid (plf0 n = []) := by show _ = _; unfold plf0; rw [if_neg h]
      go_wp2_with fail
      go_meet
      case rel => exact ⟨HF.out ▸ Gl.nil _ _, Below.refl _ _⟩
  obtain ⟨HG, HB⟩ := hcut
  rw [← H0.out] at HG
  have HBm := Lib.hid (over HB.out (below_alloc wc (.map #[] 0)))
  have HGm := Lib.hid (HG.out.frame (below_alloc wc (.map #[] 0)))
  have HM : Hid (Sm (wc.alloc (.map #[] 0)) wc.heap.size 0 (fun s => seen l s 0)) := Sm.made wc
  have HN : Hid (∀ g, u3.ownBlock = some g → g ≠ wc.heap.size) := fun g e h => by
    have := own_lt HG.out e
    omega
  have hbm := HB.out.size
  clear HG HB
  go_wp2_with fail
  generalize wc.heap.size = bm at *
  clear hmm
  go_loopg [3, 19] n (fun g v j wx => ∃ k : Nat, k ≤ n ∧ j = .int .i64 k ∧ n - k ≤ g ∧ Hid (Gl w.heap.size wx v (plF l k)) ∧ Hid (Below w.heap.size w wx) ∧ Hid (Sm wx bm k (fun s => seen l s k)) ∧ Hid (∀ g, v.ownBlock = some g → g ≠ bm))
  case atStart => exact ⟨0, Nat.zero_le _, rfl, Nat.le_refl _, HGm, HBm, HM, HN⟩
  case round =>
    clear HGm HBm HM HN H0
    obtain ⟨k, hkn, rfl, hg, HG, HB, HM, HN⟩ := hrel
    by_cases hlt : k < n
    · obtain ⟨a, rfl, hab, hc0⟩ := HA.out k hlt
      have hll := HL.out k
      have hl2 := HL2.out k
      have HSk := Lib.hid (HS.out k)
      have hs9 := HZ.out k hlt
      have d0 := (HB.out.cell (p := a.add k) (by rw [add_block]; exact hab)).trans hc0
      have hkI : (k : Int) < (n : Int) := by omega
      obtain ⟨s, hs⟩ : ∃ s, l.getD k ⟨#[]⟩ = s := ⟨_, rfl⟩
      have HQk := Lib.hid (HQ.out k hlt)
      have HPk := Lib.hid (HPA.out k s hs)
      rw [hs] at d0 hs9 HQk
      have hlk := HM.out.look1 hs9
      have KP := Lib.hid (fun w => placeErrors_n s (seen l s k) w)
      have hpl : (plE s (seen l s k)).length ≤ 10000000 := by unfold plE; split <;> (try split) <;> simp
      have KF := Lib.hid (fun u w hu hT => faultsAt_n kPlace k u (plE s (seen l s k)) (by decide) (by omega) hpl w hu hT)
      rw [HPk.out] at KF
      unfold kPlace at KF
      clear hc0 hs HPk hpl
      go_wp2_with fail
      refine (KP.out _).mono ?_
      rintro e w1 ⟨v1, rfl, hv1, b1⟩
      have HB1 := Lib.hid (over HB.out b1)
      have HG1 := Lib.hid (HG.out.frame b1)
      have HM1 := Lib.hid (HM.out.below b1)
      have HV1 := Lib.hid hv1
      have HT1 := Lib.hid (HT.out.over HB1.out)
      clear b1 hlk d0 HG HB HM hv1 KP
      go_wp2_with fail
      refine (KF.out _ _ HV1.out HT1.out).mono ?_
      intro e w2 h2
      obtain ⟨v2, rfl, hf2, -, b2⟩ := Lf.of_chk h2
      have HB2 := Lib.hid (over HB1.out b2)
      have HG2 := Lib.hid (HG1.out.frame b2)
      have HM2 := Lib.hid (HM1.out.below b2)
      have HF2 := Lib.hid hf2
      have hsz := HB2.out.size
      clear b2 hf2 h2 HG1 HB1 HM1 HV1 HT1 KF
      go_wp2_with (at_builtin; refine wpList_append_run rfl _ _ 27 rfl rfl rfl (ap_f _ HG2.out HF2.out hsz (by omega)) ?_)
      intro v3 w3 hg3 hb3 hgr hat
      have hbne : some bm ≠ u3.ownBlock := fun e => HN.out bm e.symm rfl
      have HM3 := Lib.hid (HM2.out.grown hgr hbne)
      have hM2lt := HM2.out.lt
      have HN3 : Hid (∀ g, v3.ownBlock = some g → g ≠ bm) := fun g e h => by
        rcases hat with hat | hat
        · rw [hat] at e; exact HN.out g e h
        · rw [hat] at e
          simp only [Option.some.injEq] at e
          omega
      have HG3 : Hid (Gl w.heap.size w3 v3 (plF l (k + 1))) := by show Gl _ _ _ _; rw [HSk.out]; exact hg3
      have HB3 := Lib.hid (HB2.out.trans hb3)
      obtain ⟨w4, hrun, hM4, hgr4⟩ := HM3.out.put (by unfold maxLen; omega) hs9
      have HM4 : Hid (Sm w4 bm (k + 1) (fun s => seen l s (k + 1))) := hM4.ext fun s' => by
        rw [HQk.out s']
        congr 1
        rw [Bool.eq_iff_iff, beq_iff_eq, beq_iff_eq]
        exact eq_comm
      have HB4 : Hid (Below w.heap.size w w4) := HB3.out.grown hgr4 HB3.out.size (fun x e => by simp only [Option.some.injEq] at e; omega)
      have HG4 : Hid (Gl w.heap.size w4 v3 (plF l (k + 1))) := HG3.out.of_block fun g e => hgr4.block g (own_lt HG3.out e) (fun h => by simp only [Option.some.injEq] at h; exact HN3.out g e h)
      clear hg3 hb3 hgr hat HG2 HB2 HM2 HF2 HM3 HG3 HB3 hM4 hgr4 HN
      go_wp2_with fail
      go_roundg (n - (k + 1))
      case measure => omega
      case rel => exact ⟨k + 1, by omega, by go_num, by omega, HG4, HB4, HM4, HN3⟩
    · have hk' : k = n := by omega
      subst hk'
      have HR := Lib.hid HE.out
      go_wp2_with fail
      go_ret
      exact chkP (HR.out ▸ HG.out) HB.out (Nat.le_refl _)

end Go.Proofs.YtegpebnkogjadaaDoor.T

