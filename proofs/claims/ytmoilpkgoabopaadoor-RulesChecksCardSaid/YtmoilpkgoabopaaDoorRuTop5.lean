/-
  DERIVED. The walks of the landed rules' faults and Check.
-/
import Derived.Test.YtmoilpkgoabopaaDoorRuTop4
namespace Go.Proofs.YtmoilpkgoabopaaDoor.T
open Go.RowKit
set_option maxRecDepth 8000

set_option maxHeartbeats 12800000 in
theorem faultsT_n (n : Int) (v : Value) (l : List (Int × Int)) (word : ByteArray) (hl : l.length ≤ 1000) (hi : ∀ p ∈ l, In64 p) (hw : word.size ≤ 100) (w : World) (hT : Tab w) (hv : Ps w v l) :
    Calls Tryd.prog 25 #[.string word, .int .i64 n, v] w (ChkP (pairF n l word false) w) := by
  have HV := Lib.hid hv
  have HT := Lib.hid hT
  obtain ⟨oa, c, rfl, -⟩ := hv
  have HE : Hid (pfF n l word false l.length = pairF n l word false) := rfl
  have H0 : Hid (pfF n l word false 0 = if 16 < l.length then [(4, word)] else []) := rfl
  have HS : Hid (∀ k, pfF n l word false (k + 1) = pfF n l word false k ++ (pairE n false l k).map fun e => (e, atW word k)) := fun _ => rfl
  have HPE : Hid (∀ k, pairE n false l k = if badP n (l.getD k (0, 0)) then [2] else if seenP l k (l.getD k (0, 0)) then [6] else []) := fun _ => rfl
  have HL := Lib.hid (pfF_len n l word false)
  have HI := Lib.hid (fun k (hk : k < l.length) => hi _ (getD_mem (d := (0, 0)) hk))
  have HSe := Lib.hid (fun k (hk : k < l.length) p => seen_step (l := l) hk p)
  have hmm := makeMap_n (P := Tryd.prog) 67 45 4 .i64 (l.length : Int) Tryd.underlying67
  generalize pairF n l word false = r at *
  generalize hn : l.length = m at *
  have HM := Lib.hid hn
  clear hn hi hT
  go_enter Tryd.func25, Tryd.ntmps25
  go_upto_if 14 with fail
  go_cut [7] from 12 to 20 (fun v wx => Hid (Gl w.heap.size wx v (pfF n l word false 0)) ∧ Hid (Below w.heap.size w wx))
  case first =>
    by_cases hb : 16 < m
    · have hbI : (16 : Int) < (m : Int) := by omega
      have HF : Hid (pfF n l word false 0 = [] ++ [(4, word)]) := by show _ = _; rw [H0.out, if_pos hb]; rfl
      clear hb
      go_wp2_with (at_builtin; refine wpList_append_run rfl _ _ 24 rfl rfl rfl (ap_f1 _ 4 word (Gl.nil _ w) (Nat.le_refl _) (by simp)) ?_)
      intro v3 w3 hg3 hb3
      go_wp2_with fail
      go_meet
      case rel => exact ⟨HF.out ▸ hg3, hb3⟩
    · have hbI : ¬ (16 : Int) < (m : Int) := by omega
      have HF : Hid (pfF n l word false 0 = []) := by show _ = _; rw [H0.out, if_neg hb]
      clear hb
      go_wp2_with fail
      go_meet
      case rel => exact ⟨HF.out ▸ Gl.nil _ _, Below.refl _ _⟩
  obtain ⟨HG, HB⟩ := hcut
  have HBm := Lib.hid (over HB.out (below_alloc wc (.map #[] 0)))
  have HGm := Lib.hid (HG.out.frame (below_alloc wc (.map #[] 0)))
  have HMm : Hid (Pm (wc.alloc (.map #[] 0)) wc.heap.size 0 (seenP l 0)) := Pm.made wc
  have HNm : Hid (∀ g, u7.ownBlock = some g → g ≠ wc.heap.size) := fun g e h => by
    have := own_lt HG.out e
    omega
  have hbm := HB.out.size
  clear HG HB
  go_wp2_with fail
  generalize wc.heap.size = bm at *
  clear hmm H0
  go_loopg [7, 25] m (fun g v j wx => ∃ k : Nat, k ≤ m ∧ j = .int .i64 k ∧ m - k ≤ g ∧ Hid (Gl w.heap.size wx v (pfF n l word false k)) ∧ Hid (Below w.heap.size w wx) ∧ Hid (Pm wx bm k (seenP l k)) ∧ Hid (∀ g, v.ownBlock = some g → g ≠ bm))
  case atStart => exact ⟨0, Nat.zero_le _, rfl, Nat.le_refl _, HGm, HBm, HMm, HNm⟩
  case round =>
    clear HGm HBm HMm HNm
    obtain ⟨k, hkn, rfl, hg, HG, HB, HP, HN⟩ := hrel
    by_cases hlt : k < m
    · have hka : k < l.length := by rw [HM.out]; exact hlt
      obtain ⟨b, o, rfl, hab, x0, x1⟩ := ps_at (by have := HV.out.below HB.out; rw [← HM.out] at this; exact this) hka
      have hkI : (k : Int) < (m : Int) := by omega
      have hk9 : k ≤ 1000000000 := by omega
      have HSk := Lib.hid (HS.out k)
      have HPk := Lib.hid (HPE.out k)
      have HIk := Lib.hid (HI.out k hlt)
      have HLk := HL.out k
      have HSek := Lib.hid (HSe.out k hlt)
      have KD := Lib.hid (fun w hT => itoa_n k hk9 w hT)
      have hds := dec_size hk9
      obtain ⟨p, hp⟩ : ∃ p, l.getD k (0, 0) = p := ⟨_, rfl⟩
      rw [hp] at x0 x1 HPk HIk HSek
      have HAt : Hid (atW word k = word ++ ⟨#[32]⟩ ++ dec k) := rfl
      have KR := Lib.hid (fun w => isRight_n n p w)
      generalize atW word k = at' at *
      generalize dec k = dk at *
      clear hp HS HPE HI HSe HL
      have HQ0 := Lib.hid (Qb.made wr p.1 p.2)
      have HB0 := Lib.hid (over HB.out (below_alloc wr (.cells #[.int .i64 p.1, .int .i64 p.2] 45)))
      have HG0 := Lib.hid (HG.out.frame (below_alloc wr (.cells #[.int .i64 p.1, .int .i64 p.2] 45)))
      have HP0 := Lib.hid (HP.out.below (below_alloc wr (.cells #[.int .i64 p.1, .int .i64 p.2] 45)))
      have hqo : ∀ g, u7.ownBlock = some g → g ≠ wr.heap.size := fun g e h => by have := own_lt HG.out e; omega
      have hqm : bm ≠ wr.heap.size := by have := HP.out.lt; omega
      have hbr := HB.out.size
      obtain ⟨W1, hW1⟩ : ∃ W1, wr.alloc (.cells #[.int .i64 p.1, .int .i64 p.2] 45) = W1 := ⟨_, rfl⟩
      have HT0 := Lib.hid (HT.out.over HB0.out)
      rw [hW1] at HQ0 HB0 HG0 HP0 HT0
      have HW1 := Lib.hid hW1
      clear hW1 HG HB HP
      go_upto_region 8 with fail
      rw [HW1.out]
      clear HW1 x0 x1
      go_wp2_with fail
      refine (KD.out _ HT0.out).mono ?_
      rintro e w2 ⟨rfl, d2⟩
      have HQ2 := Lib.hid (HQ0.out.below d2)
      have HB2 := Lib.hid (over HB0.out d2)
      have HG2 := Lib.hid (HG0.out.frame d2)
      have HP2 := Lib.hid (HP0.out.below d2)
      clear d2 HQ0 HB0 HG0 HP0 HT0 KD
      generalize hq : wr.heap.size = q at *
      clear hq
      have y0 := HQ2.out.c0
      have y1 := HQ2.out.c1
      go_wp2_with fail
      refine (KR.out _).mono ?_
      rintro e w3 ⟨rfl, d3⟩
      have HQ3 := Lib.hid (HQ2.out.below d3)
      have HB3 := Lib.hid (over HB2.out d3)
      have HG3 := Lib.hid (HG2.out.frame d3)
      have HP3 := Lib.hid (HP2.out.below d3)
      have hB3 := HB3.out.size
      clear d3 HQ2 HB2 HG2 HP2 KR y0 y1
      cases hbd : badP n p
      · have hlk := HP3.out.look HIk.out
        rw [hbd] at HPk
        have y0 := HQ3.out.c0
        have y1 := HQ3.out.c1
        cases hsn : seenP l k p
        · have HF : Hid (pfF n l word false (k + 1) = pfF n l word false k) := by show _ = _; rw [HSk.out, HPk.out, hsn]; simp
          rw [hsn] at hlk
          obtain ⟨w5, hrun, hP5, hgr5⟩ := HP3.out.put (by unfold maxLen; omega) HIk.out
          have HP5 : Hid (Pm w5 bm (k + 1) (seenP l (k + 1))) := hP5.ext fun s => (HSek.out s).symm
          have HB5 : Hid (Below w.heap.size w w5) := HB3.out.grown hgr5 HB3.out.size (fun x e => by simp only [Option.some.injEq] at e; omega)
          have HG5 : Hid (Gl w.heap.size w5 u7 (pfF n l word false (k + 1))) := by
            show Gl _ _ _ _
            rw [HF.out]
            exact HG3.out.of_block fun g e => hgr5.block g (own_lt HG3.out e) (fun h => by simp only [Option.some.injEq] at h; exact HN.out g e h)
          clear hP5 hgr5 HG3 HB3 HP3 hbd hsn
          go_wp2_with fail
          go_roundg (m - (k + 1))
          case measure => omega
          case rel => exact ⟨k + 1, by omega, by go_num, by omega, HG5, HB5, HP5, HN⟩
        · have HF : Hid (pfF n l word false (k + 1) = pfF n l word false k ++ [(6, at')]) := by show _ = _; rw [HSk.out, HPk.out, hsn]; rfl
          rw [hsn] at hlk
          rw [HAt.out] at HF
          clear hbd hsn
          go_wp2_with (at_builtin; refine wpList_append_run rfl _ _ 24 rfl rfl rfl (ap_g1 _ 6 (word ++ ⟨#[32]⟩ ++ dk) HG3.out hB3 (by omega)) ?_)
          intro v4 w4 hg4 hb4 hgr hat
          have hal := below_alloc w3 (.cells #[.int .i64 6, .string (word ++ ⟨#[32]⟩ ++ dk)] 28)
          have HQ4 : Hid (Qb w4 q p.1 p.2) := (HQ3.out.below hal).grown hgr (fun e => hqo q e.symm rfl)
          have HP4 : Hid (Pm w4 bm k (seenP l k)) := (HP3.out.below hal).grown hgr (fun e => HN.out bm e.symm rfl)
          have hlm := HP3.out.lt
          have HN4 : Hid (∀ g, v4.ownBlock = some g → g ≠ bm) := fun g e h => by
            rcases hat with hat | hat
            · rw [hat] at e; exact HN.out g e h
            · rw [hat] at e
              simp only [Option.some.injEq] at e
              omega
          have HG4 : Hid (Gl w.heap.size w4 v4 (pfF n l word false (k + 1))) := by show Gl _ _ _ _; rw [HF.out]; exact hg4
          have HB4 := Lib.hid (HB3.out.trans hb4)
          obtain ⟨w5, hrun, hP5, hgr5⟩ := HP4.out.put (by unfold maxLen; omega) HIk.out
          have HP5 : Hid (Pm w5 bm (k + 1) (seenP l (k + 1))) := hP5.ext fun s => (HSek.out s).symm
          have HB5 : Hid (Below w.heap.size w w5) := HB4.out.grown hgr5 HB4.out.size (fun x e => by simp only [Option.some.injEq] at e; omega)
          have HG5 : Hid (Gl w.heap.size w5 v4 (pfF n l word false (k + 1))) := HG4.out.of_block fun g e => hgr5.block g (own_lt HG4.out e) (fun h => by simp only [Option.some.injEq] at h; exact HN4.out g e h)
          have y0 := HQ4.out.c0
          have y1 := HQ4.out.c1
          clear hP5 hgr5 HG3 HB3 HP3 hg4 hb4 hgr hat hal HG4 HB4 HP4 HQ3 hlk HN
          go_wp2_with fail
          go_roundg (m - (k + 1))
          case measure => omega
          case rel => exact ⟨k + 1, by omega, by go_num, by omega, HG5, HB5, HP5, HN4⟩
      · have HF : Hid (pfF n l word false (k + 1) = pfF n l word false k ++ [(2, at')]) := by show _ = _; rw [HSk.out, HPk.out, hbd]; rfl
        rw [HAt.out] at HF
        clear hbd
        go_wp2_with (at_builtin; refine wpList_append_run rfl _ _ 24 rfl rfl rfl (ap_g1 _ 2 (word ++ ⟨#[32]⟩ ++ dk) HG3.out hB3 (by omega)) ?_)
        intro v4 w4 hg4 hb4 hgr hat
        have hal := below_alloc w3 (.cells #[.int .i64 2, .string (word ++ ⟨#[32]⟩ ++ dk)] 28)
        have HQ4 : Hid (Qb w4 q p.1 p.2) := (HQ3.out.below hal).grown hgr (fun e => hqo q e.symm rfl)
        have HP4 : Hid (Pm w4 bm k (seenP l k)) := (HP3.out.below hal).grown hgr (fun e => HN.out bm e.symm rfl)
        have hlm := HP3.out.lt
        have HN4 : Hid (∀ g, v4.ownBlock = some g → g ≠ bm) := fun g e h => by
          rcases hat with hat | hat
          · rw [hat] at e; exact HN.out g e h
          · rw [hat] at e
            simp only [Option.some.injEq] at e
            omega
        have HG4 : Hid (Gl w.heap.size w4 v4 (pfF n l word false (k + 1))) := by show Gl _ _ _ _; rw [HF.out]; exact hg4
        have HB4 := Lib.hid (HB3.out.trans hb4)
        obtain ⟨w5, hrun, hP5, hgr5⟩ := HP4.out.put (by unfold maxLen; omega) HIk.out
        have HP5 : Hid (Pm w5 bm (k + 1) (seenP l (k + 1))) := hP5.ext fun s => (HSek.out s).symm
        have HB5 : Hid (Below w.heap.size w w5) := HB4.out.grown hgr5 HB4.out.size (fun x e => by simp only [Option.some.injEq] at e; omega)
        have HG5 : Hid (Gl w.heap.size w5 v4 (pfF n l word false (k + 1))) := HG4.out.of_block fun g e => hgr5.block g (own_lt HG4.out e) (fun h => by simp only [Option.some.injEq] at h; exact HN4.out g e h)
        have y0 := HQ4.out.c0
        have y1 := HQ4.out.c1
        clear hP5 hgr5 HG3 HB3 HP3 hg4 hb4 hgr hat hal HG4 HB4 HP4 HQ3 HN
        go_wp2_with fail
        go_roundg (m - (k + 1))
        case measure => omega
        case rel => exact ⟨k + 1, by omega, by go_num, by omega, HG5, HB5, HP5, HN4⟩
    · have hkk : k = m := by omega
      have hkI : ¬ (k : Int) < (m : Int) := by omega
      have HR : Hid (pfF n l word false k = r) := by show _ = _; rw [hkk]; exact HE.out
      go_wp2_with fail
      go_ret
      exact chkP (HR.out ▸ HG.out) HB.out (Nat.le_refl _)

theorem asc64 {l : List (Int × Int)} (h : ∀ p ∈ l, In64 p) : ∀ p ∈ ascL l, In64 p := by
  intro p hp
  unfold ascL at hp
  rw [List.mem_map] at hp
  obtain ⟨q, hq, rfl⟩ := hp
  obtain ⟨h1, h2⟩ := h q hq
  unfold I64 at h1 h2
  unfold ascP In64 I64
  simp only
  omega
set_option maxHeartbeats 3200000 in
theorem rulesCheck_t (n : Int) (v u : Value) (ap be : List (Int × Int)) (ha : ap.length ≤ 1000) (hb : be.length ≤ 1000) (hia : ∀ p ∈ ap, In64 p) (hib : ∀ p ∈ be, In64 p) (w : World) (hT : Tab w) (hv : Ps w v ap) (hu : Ps w u be) :
    Calls Tryd.prog 10 #[.int .i64 n, v, u] w (ChkP (checkF n ap be) w) := by
  have K1 := Lib.hid (fun w hv => ascending_n v ap ha w hv)
  have K2 := Lib.hid (fun v w hT hv => faultsT_n n v (ascL ap) apartW (by rw [ascL_len]; exact ha) (asc64 hia) (by decide) w hT hv)
  have K3 := Lib.hid (fun w hT hv => faultsT_n n u be beforeW hb hib (by decide) w hT hv)
  rw [asc_faults] at K2
  have HV := Lib.hid hv
  have HU := Lib.hid hu
  have HT := Lib.hid hT
  have HE : Hid (pairF n ap apartW true ++ pairF n be beforeW false = checkF n ap be) := rfl
  have h1 := pairF_len n ap apartW true
  have h2 := pairF_len n be beforeW false
  generalize checkF n ap be = r at *
  generalize pairF n ap apartW true = r1 at *
  generalize pairF n be beforeW false = r2 at *
  generalize ascL ap = al at *
  unfold apartW at K2
  unfold beforeW at K3
  clear hv hu hT hia hib
  go_enter Tryd.func10, Tryd.ntmps10
  go_wp2_with fail
  refine (K1.out _ HV.out).mono ?_
  rintro e w1 ⟨oa, c, rfl, ⟨hp, -, -⟩, b1⟩
  have HP1 := Lib.hid hp
  have HB1 := Lib.hid b1
  have HT1 := Lib.hid (HT.out.over b1)
  have HU1 := Lib.hid (ps_below HU.out b1)
  clear hp b1 HV HU HT
  go_wp2_with fail
  refine (K2.out _ _ HT1.out HP1.out).mono ?_
  intro e w2 h
  obtain ⟨v2, rfl, -, hg2, b2⟩ := Lf.of_chk h
  have HG2 : Hid (Gl w.heap.size w2 v2 r1) := Gn.mono hg2 HB1.out.size
  have HB2 := Lib.hid (over HB1.out b2)
  have HT2 := Lib.hid (HT1.out.over b2)
  have HU2 := Lib.hid (ps_below HU1.out b2)
  clear h hg2 b2 HP1 HB1 HT1 HU1
  go_wp2_with fail
  refine (K3.out _ HT2.out HU2.out).mono ?_
  intro e w3 h
  obtain ⟨v3, rfl, hf3, -, b3⟩ := Lf.of_chk h
  have HF3 := Lib.hid hf3
  have HG3 := Lib.hid (HG2.out.frame b3)
  have HB3 := Lib.hid (over HB2.out b3)
  have hsz := HB3.out.size
  clear h hf3 b3 HG2 HB2 HT2 HU2
  go_wp2_with (at_builtin; refine wpList_append_run rfl _ _ 24 rfl rfl rfl (ap_f _ HG3.out HF3.out hsz (by omega)) ?_)
  intro v4 w4 hg4 hb4 _ _
  go_wp2_with fail
  go_ret
  exact chkP (HE.out ▸ hg4) (HB3.out.trans hb4) (Nat.le_refl _)

end Go.Proofs.YtmoilpkgoabopaaDoor.T

