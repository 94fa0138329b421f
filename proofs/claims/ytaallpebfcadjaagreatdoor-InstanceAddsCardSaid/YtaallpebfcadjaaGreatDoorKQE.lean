/-
  DERIVED. KQE: a part of the base of layer 13 (made by pack.py).
-/
import Derived.Test.YtaallpebfcadjaaGreatDoorKQD
import Derived.Deep.CutBlock
import Derived.Test.YtaallpebfcadjaaGreatDoorKPB
import Derived.Test.YtaallpebfcadjaaGreatDoorKPC
import Derived.Test.YtaallpebfcadjaaGreatDoorKPK
import Derived.Test.YtaallpebfcadjaaGreatDoorKPX
import Derived.Test.YtaallpebfcadjaaGreatDoorKQA
/-! The walk of the landed order's Check, for any orders. -/
namespace Go.Proofs.YtaallpebfcadjaaGreatDoor.T
open Go.RowKit
set_option maxRecDepth 8000

theorem ord_own {B : Nat} {w : World} {v : Value} {l : List (Int × ByteArray)} (h : Gl B w v l) {b : Nat} (e : v.ownBlock = some b) : b < w.heap.size := (World.ownsRow.lt h.own b e).2
set_option maxHeartbeats 12800000 in
theorem ordCheck_n (np n1 c0 c1 : Nat) (o0 o1 : Option Addr) (dims types : Int) (u : Value) (l : List OrT) (hl : l.length ≤ 1000) (hz : ∀ i, i < l.length → (l.getD i or0).load.length ≤ 1000000000 ∧ (l.getD i or0).name.size ≤ maxLen) (w : World) (hT : Tab w) (hu : Os w u l) :
    Calls Tryz.prog 26 #[.agg #[.slice o0 np c0, .slice o1 n1 c1], .int .i64 dims, .int .i64 types, u] w (ChkP (orderF np dims types l) w) := by
  have HO := Lib.hid hu
  obtain ⟨oa, c, rfl, -⟩ := hu
  have HT := Lib.hid hT
  have hTl := hT.lt
  have HZ := Lib.hid hz
  have HE : Hid (orF np dims types l l.length = orderF np dims types l) := rfl
  have H0 : Hid (orF np dims types l 0 = orF0 l.length) := rfl
  have HS : Hid (∀ k, orF np dims types l (k + 1) = orF np dims types l k ++ atT k (brkO (rulO np dims types (l.getD k or0) (knownO l (l.getD k or0).name k)))) := fun k => by rw [brk_orders]; rfl
  have HL := Lib.hid (fun k => orF_len np dims types l k)
  have HQ := Lib.hid (fun k (hk : k < l.length) s => knownO_step (l := l) (s := s) hk)
  have HQ0 := Lib.hid (fun s => knownO_zero l s)
  have KF := Lib.hid (fun B0 k a oc cc tw v fl h1 h2 h3 w hB h4 h5 h6 h7 => appendFaults_g B0 np k dims types a oc cc tw v fl h1 h2 h3 w hB h4 h5 h6 h7)
  have hmm := makeMap_n (P := Tryz.prog) 87 9 4 .i64 (l.length : Int) Tryz.underlying87
  generalize orderF np dims types l = r at *
  generalize hm : l.length = m at *
  have HM := Lib.hid hm
  have BN := Lib.hid (below_alloc w (.cells #[.slice o0 np c0, .slice o1 n1 c1] 25))
  clear hm hT hz
  go_enter Tryz.func26, Tryz.ntmps26
  go_upto_if 16 with fail
  go_cut [9] from 14 to 20 (fun v wx => Hid (Gl w.heap.size wx v (orF0 m)) ∧ Hid (Below w.heap.size w wx) ∧ Hid (wx.cell? ⟨w.heap.size, 0, none⟩ = some (.slice o0 np c0)) ∧ Hid (∀ g, v.ownBlock = some g → g < wx.heap.size))
  case first =>
    have hn0 : (w.alloc (.cells #[.slice o0 np c0, .slice o1 n1 c1] 25)).cell? ⟨w.heap.size, 0, none⟩ = some (.slice o0 np c0) := by
      have h : (w.alloc (.cells #[.slice o0 np c0, .slice o1 n1 c1] 25)).heap[w.heap.size]? = some (.cells #[.slice o0 np c0, .slice o1 n1 c1] 25) := by
        show (w.heap.push _)[w.heap.size]? = _
        simp
      simp only [World.cell?]; rw [h]; rfl
    have HN0 := Lib.hid hn0
    have hlt0 : w.heap.size < (w.alloc (.cells #[.slice o0 np c0, .slice o1 n1 c1] 25)).heap.size := by simp
    clear hn0
    by_cases hb : 10 < m
    · have hbI : (10 : Int) < (m : Int) := by omega
      have HF : Hid (orF0 m = [] ++ [(4, ⟨#[]⟩)]) := by show _ = _; unfold orF0; rw [if_neg (by omega)]; rfl
      clear hb
      have hap := fun ty => ap_h1 (w := w.alloc (.cells #[.slice o0 np c0, .slice o1 n1 c1] 25)) ty 4 ⟨#[]⟩ (Gl.nil w.heap.size (w.alloc (.cells #[.slice o0 np c0, .slice o1 n1 c1] 25))) (Nat.le_of_lt hlt0) (by simp)
      simp only [World.size_alloc] at hap
      have HAp := Lib.hid hap
      clear hap
      go_wp2_with (at_builtin; refine wpList_append_run rfl _ _ 33 rfl rfl rfl (HAp.out _) ?_)
      intro v3 w3 hg3 hb3 hgr3 hat3
      have hc3 := hgr3.cell (a := ⟨w.heap.size, 0, none⟩) (((below_alloc (w.alloc (.cells #[.slice o0 np c0, .slice o1 n1 c1] 25)) (.cells #[.int .i64 4, .string ⟨#[]⟩] 37)).cell (p := ⟨w.heap.size, 0, none⟩) hlt0).trans HN0.out) (fun h => by cases h)
      have HB3 : Hid (Below w.heap.size w w3) := BN.out.trans hb3
      have HG3 := Lib.hid hg3
      clear hb3 hgr3 hat3 hg3
      go_wp2_with fail
      go_meet
      case rel => exact ⟨HF.out ▸ HG3.out, HB3, hc3, fun g e => ord_own HG3.out e⟩
    · have hbI : ¬ (10 : Int) < (m : Int) := by omega
      have HF : Hid (orF0 m = []) := by show _ = _; unfold orF0; rw [if_pos (by omega)]
      clear hb
      go_wp2_with fail
      go_meet
      case rel => exact ⟨HF.out ▸ Gl.nil _ _, BN.out, HN0.out, fun g e => by cases e⟩
  obtain ⟨HG, HB, HN0, HO9⟩ := hcut
  have z0 := HN0.out
  have B2 := below_alloc wc (.cells #[.int .i64 (np : Int), .int .i64 dims, .int .i64 types] 92)
  have B3 := over B2 (below_alloc _ (.map #[] 0))
  have HL2 := (Lm.made wc (.int .i64 (np : Int)) (.int .i64 dims) (.int .i64 types)).below (below_alloc _ (.map #[] 0))
  have HM2 := Sm.made (wc.alloc (.cells #[.int .i64 (np : Int), .int .i64 dims, .int .i64 types] 92))
  rw [show (wc.alloc (.cells #[.int .i64 (np : Int), .int .i64 dims, .int .i64 types] 92)).heap.size = wc.heap.size + 1 by simp] at HM2
  have hsz := HB.out.size
  obtain ⟨W2, hW2⟩ : ∃ W2, (wc.alloc (.cells #[.int .i64 (np : Int), .int .i64 dims, .int .i64 types] 92)).alloc (.map #[] 0) = W2 := ⟨_, rfl⟩
  rw [hW2] at HL2 HM2 B3
  have HLm := Lib.hid HL2
  have HSm := Lib.hid (HM2.ext (fun s => (HQ0.out s).symm))
  have HBm := Lib.hid (over HB.out B3)
  have HGm : Hid (Gl w.heap.size W2 u9 (orF np dims types l 0)) := by show Gl _ _ _ _; rw [H0.out]; exact HG.out.frame B3
  have HNm : Hid (∀ g, u9.ownBlock = some g → g ≠ wc.heap.size + 1 ∧ g ≠ wc.heap.size) := fun g e => by have := HO9.out g e; omega
  have HW2 := Lib.hid hW2
  clear HL2 HM2 B2 B3 hW2 HG HB H0 HN0 HO9 HQ0
  go_wp2_with fail
  rw [HW2.out]
  clear HW2 z0 hmm
  generalize hbm : wc.heap.size + 1 = bm at *
  generalize hq : wc.heap.size = q at *
  have hbl : w.heap.size ≤ bm := by omega
  have hqb : q ≠ bm := by omega
  clear hbm hq
  go_loopg [9, 32] m (fun g v j wr => ∃ k : Nat, k ≤ m ∧ j = .int .i64 k ∧ m - k ≤ g ∧ Hid (Gl w.heap.size wr v (orF np dims types l k)) ∧ Hid (Below w.heap.size w wr) ∧ Hid (Sm wr bm k (fun s => knownO l s k)) ∧ Hid (Lm wr q (.int .i64 (np : Int)) (.int .i64 dims) (.int .i64 types)) ∧ Hid (∀ g, v.ownBlock = some g → g ≠ bm ∧ g ≠ q))
  case atStart => exact ⟨0, Nat.zero_le _, rfl, Nat.le_refl _, HGm, HBm, HSm, HLm, HNm⟩
  case round =>
    clear HGm HBm HSm HLm HNm
    obtain ⟨k, hk, rfl, hg, HG, HB, HSm, HLm, HN⟩ := hrel
    by_cases hlt : k < m
    · have hkI : (k : Int) < (m : Int) := by omega
      obtain ⟨oa', c', hoa, hos⟩ := HO.out
      simp only [Value.slice.injEq] at hoa
      obtain ⟨rfl, -, rfl⟩ := hoa
      obtain ⟨b, o, vc, rfl, hab, hOc, hLi⟩ := hos k (by rw [HM.out]; exact hlt)
      obtain ⟨k0, k1, k2, k3, k4, k5, k6, k7, k8, k9, k10, k11, k12, k13, k14, k15⟩ := hOc
      have c0 := (HB.out.cell (p := ⟨b, _, none⟩) hab).trans k0
      have c1 := (HB.out.cell (p := ⟨b, _, none⟩) hab).trans k1
      have c2 := (HB.out.cell (p := ⟨b, _, none⟩) hab).trans k2
      have c3 := (HB.out.cell (p := ⟨b, _, none⟩) hab).trans k3
      have c4 := (HB.out.cell (p := ⟨b, _, none⟩) hab).trans k4
      have c5 := (HB.out.cell (p := ⟨b, _, none⟩) hab).trans k5
      have c6 := (HB.out.cell (p := ⟨b, _, none⟩) hab).trans k6
      have c7 := (HB.out.cell (p := ⟨b, _, none⟩) hab).trans k7
      have c8 := (HB.out.cell (p := ⟨b, _, none⟩) hab).trans k8
      have c9 := (HB.out.cell (p := ⟨b, _, none⟩) hab).trans k9
      have c10 := (HB.out.cell (p := ⟨b, _, none⟩) hab).trans k10
      have c11 := (HB.out.cell (p := ⟨b, _, none⟩) hab).trans k11
      have c12 := (HB.out.cell (p := ⟨b, _, none⟩) hab).trans k12
      have c13 := (HB.out.cell (p := ⟨b, _, none⟩) hab).trans k13
      have c14 := (HB.out.cell (p := ⟨b, _, none⟩) hab).trans k14
      have c15 := (HB.out.cell (p := ⟨b, _, none⟩) hab).trans k15
      have hbr := HB.out.size
      have hzk := HZ.out k hlt
      have HSk := Lib.hid (HS.out k)
      have HQk := Lib.hid (HQ.out k hlt)
      have hlk := HL.out k
      have HLi := Lib.hid (hLi.below HB.out)
      generalize l.getD k or0 = a at *
      obtain ⟨nm, load, pp, po, pc, ps, dp, dd, dc, ds, sk, pen, spl, las, now, off⟩ := a
      obtain ⟨oc, cc, rfl, -⟩ := hLi
      simp only at c0 c1 c2 c3 c4 c5 c6 c7 c8 c9 c10 c11 c12 c13 c14 c15 HLi HSk HQk hzk
      clear hos k0 k1 k2 k3 k4 k5 k6 k7 k8 k9 k10 k11 k12 k13 k14 k15
      have hal := below_alloc wr (.cells #[.string nm, .slice oc load.length cc, .int .i64 pp, .int .i64 po, .int .i64 pc, .int .i64 ps, .int .i64 dp, .int .i64 dd, .int .i64 dc, .int .i64 ds, .int .i64 sk, .int .i64 pen, .int .i64 spl, .int .i64 las, .int .i64 now, .bool off] 44)
      have TB := Ob.made wr (.string nm) (.slice oc load.length cc) (.int .i64 pp) (.int .i64 po) (.int .i64 pc) (.int .i64 ps) (.int .i64 dp) (.int .i64 dd) (.int .i64 dc) (.int .i64 ds) (.int .i64 sk) (.int .i64 pen) (.int .i64 spl) (.int .i64 las) (.int .i64 now) (.bool off)
      have HL3 := Lib.hid (HLm.out.below hal)
      have HS3 := Lib.hid (HSm.out.below hal)
      have HG3 := Lib.hid (HG.out.frame hal)
      have HB3 := Lib.hid (over HB.out hal)
      have HLi3 := Lib.hid (HLi.out.below hal)
      have hq3 : wr.heap.size < (wr.alloc (.cells #[.string nm, .slice oc load.length cc, .int .i64 pp, .int .i64 po, .int .i64 pc, .int .i64 ps, .int .i64 dp, .int .i64 dd, .int .i64 dc, .int .i64 ds, .int .i64 sk, .int .i64 pen, .int .i64 spl, .int .i64 las, .int .i64 now, .bool off] 44)).heap.size := by simp
      have hqo : ∀ g, u9.ownBlock = some g → g ≠ wr.heap.size := fun g e h => by have := ord_own HG.out e; omega
      have hqm : bm ≠ wr.heap.size := by have := HSm.out.lt; omega
      obtain ⟨W3, hW3⟩ : ∃ W3, wr.alloc (.cells #[.string nm, .slice oc load.length cc, .int .i64 pp, .int .i64 po, .int .i64 pc, .int .i64 ps, .int .i64 dp, .int .i64 dd, .int .i64 dc, .int .i64 ds, .int .i64 sk, .int .i64 pen, .int .i64 spl, .int .i64 las, .int .i64 now, .bool off] 44) = W3 := ⟨_, rfl⟩
      rw [hW3] at TB HL3 HS3 HG3 HB3 HLi3 hq3
      have HW3 := Lib.hid hW3
      have HTB := Lib.hid TB
      have hB3 := HB3.out.size
      have KA := Lib.hid (KF.out w.heap.size k ⟨nm, load, pp, po, pc, ps, dp, dd, dc, ds, sk, pen, spl, las, now, off⟩ oc cc (knownO l nm k) u9 (orF np dims types l k) hzk.1 (by omega) (by omega) W3 hB3 hTl (HT.out.over HB3.out) HG3.out HLi3.out)
      unfold orV at KA
      simp only at KA
      rw [← HSk.out] at KA
      clear hW3 TB hal HLm HSm HG HB HLi hlk
      go_upto_region 9 with fail
      rw [HW3.out]
      clear HW3 c0 c1 c2 c3 c4 c5 c6 c7 c8 c9 c10 c11 c12 c13 c14 c15
      generalize hqq : wr.heap.size = qo at *
      clear hqq
      have l0 := HL3.out.c0
      have l1 := HL3.out.c1
      have l2 := HL3.out.c2
      have hlook := HS3.out.look1 hzk.2
      have e0 := HTB.out.c0
      have e1 := HTB.out.c1
      have e2 := HTB.out.c2
      have e3 := HTB.out.c3
      have e4 := HTB.out.c4
      have e5 := HTB.out.c5
      have e6 := HTB.out.c6
      have e7 := HTB.out.c7
      have e8 := HTB.out.c8
      have e9 := HTB.out.c9
      have e10 := HTB.out.c10
      have e11 := HTB.out.c11
      have e12 := HTB.out.c12
      have e13 := HTB.out.c13
      have e14 := HTB.out.c14
      have e15 := HTB.out.c15
      go_wp2_with fail
      refine KA.out.mono ?_
      rintro e w4 ⟨v4, rfl, hg4, hb4, hn4, hf4⟩
      have hqv : some q ≠ u9.ownBlock := fun h => (HN.out q h.symm).2 rfl
      have hmv : some bm ≠ u9.ownBlock := fun h => (HN.out bm h.symm).1 rfl
      have hov : some qo ≠ u9.ownBlock := fun h => hqo qo h.symm rfl
      have HL4 : Hid (Lm w4 q (.int .i64 (np : Int)) (.int .i64 dims) (.int .i64 types)) := (hf4 q HL3.out.lt hqv).trans HL3.out
      have HS4 : Hid (Sm w4 bm k (fun s => knownO l s k)) := HS3.out.of_block (hf4 bm HS3.out.lt hmv)
      have hT4 : Ob w4 qo (.string nm) (.slice oc load.length cc) (.int .i64 pp) (.int .i64 po) (.int .i64 pc) (.int .i64 ps) (.int .i64 dp) (.int .i64 dd) (.int .i64 dc) (.int .i64 ds) (.int .i64 sk) (.int .i64 pen) (.int .i64 spl) (.int .i64 las) (.int .i64 now) (.bool off) := (hf4 qo HTB.out.lt hov).trans HTB.out
      have HG4 := Lib.hid hg4
      have HB4 : Hid (Below w.heap.size w w4) := HB3.out.trans hb4
      have HN4 : Hid (∀ g, v4.ownBlock = some g → g ≠ bm ∧ g ≠ q) := fun g e => by
        rcases hn4 g e with h | h
        · exact HN.out g h
        · have h1 := HS3.out.lt
          have h2 := HL3.out.lt
          omega
      obtain ⟨w8, hrun, hM8, hgr8⟩ := HS4.out.put (by unfold maxLen; omega) hzk.2
      have HM8 : Hid (Sm w8 bm (k + 1) (fun s => knownO l s (k + 1))) := hM8.ext fun s' => by
        rw [HQk.out s']
        congr 1
        rw [Bool.eq_iff_iff, beq_iff_eq, beq_iff_eq]
        exact eq_comm
      have HB8 : Hid (Below w.heap.size w w8) := HB4.out.grown hgr8 HB4.out.size (fun x e => by simp only [Option.some.injEq] at e; omega)
      have HG8 : Hid (Gl w.heap.size w8 v4 (orF np dims types l (k + 1))) := HG4.out.of_block fun g e => hgr8.block g (ord_own HG4.out e) (fun h => by simp only [Option.some.injEq] at h; exact (HN4.out g e).1 h)
      have HL8 : Hid (Lm w8 q (.int .i64 (np : Int)) (.int .i64 dims) (.int .i64 types)) := (hgr8.block q HL4.out.lt (fun h => hqb (by injection h))).trans HL4.out
      have f0 := hT4.c0
      clear hg4 hb4 hn4 hf4 hM8 hgr8 hT4 hlook l0 l1 l2 e0 e1 e2 e3 e4 e5 e6 e7 e8 e9 e10 e11 e12 e13 e14 e15 KA HG3 HB3 HL3 HS3 HTB HLi3 HG4 HB4 HS4 HL4
      go_wp2_with fail
      go_roundg (m - (k + 1))
      case measure => omega
      case rel => exact ⟨k + 1, by omega, by go_num, by omega, HG8, HB8, HM8, HL8, HN4⟩
    · have hkk : k = m := by omega
      have hkI : ¬ (k : Int) < (m : Int) := by omega
      have HR : Hid (orF np dims types l k = r) := by show _ = _; rw [hkk]; exact HE.out
      go_wp2_with fail
      go_ret
      exact chkP (HR.out ▸ HG.out) HB.out (Nat.le_refl _)

end Go.Proofs.YtaallpebfcadjaaGreatDoor.T


/-! The faults of an instance; the walk of lorryref13's Check. -/
namespace Go.Proofs.YtaallpebfcadjaaGreatDoor.T
open Go.RowKit
set_option maxRecDepth 8000

/-! ### the texts of faults are short -/
def ShF (l : List (Int × ByteArray)) : Prop := ∀ x ∈ l, x.2.size ≤ 1000
theorem ShF.nil : ShF [] := fun x h => by cases h
theorem ShF.one {e : Int} {s : ByteArray} (h : s.size ≤ 1000) : ShF [(e, s)] := fun x hx => by
  rw [List.mem_singleton] at hx; subst hx; exact h
theorem ShF.app {l m : List (Int × ByteArray)} (h1 : ShF l) (h2 : ShF m) : ShF (l ++ m) := fun x hx => by
  rcases List.mem_append.1 hx with hx | hx
  · exact h1 x hx
  · exact h2 x hx
theorem ShF.ite {c : Prop} [Decidable c] {l m : List (Int × ByteArray)} (h1 : ShF l) (h2 : ShF m) : ShF (if c then l else m) := by
  split
  · exact h1
  · exact h2
theorem ShF.map {α : Type} {l : List α} {f : α → Int} {s : ByteArray} (h : s.size ≤ 1000) : ShF (l.map fun x => (f x, s)) := fun x hx => by
  rw [List.mem_map] at hx
  obtain ⟨y, -, rfl⟩ := hx
  exact h
theorem ShF.at {l : List (Int × ByteArray)} (h : ShF l) : ∀ i, i < l.length → (l.getD i (0, ⟨#[]⟩)).2.size ≤ 1000000 := fun i hi => by
  rw [List.getD_eq_getElem?_getD, List.getElem?_eq_getElem hi]
  exact Nat.le_trans (h _ (List.getElem_mem hi)) (by decide)
theorem arcS_size {i : Nat} (h : i ≤ 1000000000) : (arcS i).size ≤ 1000 := by
  have := dec_size h
  unfold arcS sArc
  rw [ByteArray.size_append]
  show 4 + _ ≤ _
  omega
theorem placeS_size {i : Nat} (h : i ≤ 1000000000) : (placeS i).size ≤ 1000 := by
  have := dec_size h
  unfold placeS sPlace
  rw [ByteArray.size_append]
  show 6 + _ ≤ _
  omega
theorem sh_plF (l : List ByteArray) : ∀ k, k ≤ 1000000000 → ShF (plF l k)
  | 0, _ => by unfold plF plf0; exact ShF.ite (ShF.one (by decide)) ShF.nil
  | k + 1, h => by
    unfold plF plf
    exact (sh_plF l k (by omega)).app (ShF.ite (ShF.ite (ShF.one (placeS_size (by omega))) ShF.nil) (ShF.one (placeS_size (by omega))))
theorem sh_slF (l : List (Int × Int)) (i : Nat) (hi : i ≤ 1000000000) : ∀ k, ShF (slF l i k)
  | 0 => ShF.nil
  | k + 1 => by
    unfold slF af6
    exact (sh_slF l i hi k).app (ShF.ite ShF.nil (ShF.one (arcS_size hi)))
theorem sh_arF (np : Nat) (l : List ArcT) (i : Nat) (hi : i ≤ 1000000000) : ShF (arF np l i) := by
  unfold arF af1 af2 af3 af4 af5
  have h := arcS_size hi
  exact (((((ShF.ite ShF.nil (ShF.one h)).app (ShF.ite ShF.nil (ShF.one h))).app (ShF.ite (ShF.one h) ShF.nil)).app (ShF.map h)).app (ShF.ite (ShF.one h) ShF.nil)).app (sh_slF _ _ hi _)
theorem sh_ntF (pl : List ByteArray) (l : List ArcT) (hp : pl.length ≤ 1000000000) : ∀ k, k ≤ 1000000000 → ShF (ntF pl l k)
  | 0, _ => by
    unfold ntF nf0
    exact (sh_plF pl _ hp).app (ShF.ite (ShF.one (by decide)) ShF.nil)
  | k + 1, h => by
    unfold ntF
    exact (sh_ntF pl l hp k (by omega)).app (sh_arF _ _ _ (by omega))
theorem sh_at {i : Nat} (h : i ≤ 1000000000) (l : List Int) : ShF (atT i l) := by
  unfold atT
  exact ShF.map (Nat.le_trans (dec_size h) (by decide))
theorem sh_flF (np : Nat) (l : List TyT) : ∀ k, k ≤ 1000000000 → ShF (flF np l k)
  | 0, _ => by unfold flF flF0; exact ShF.ite ShF.nil (ShF.one (by decide))
  | k + 1, h => by unfold flF; exact (sh_flF np l k (by omega)).app (sh_at (by omega) _)
theorem sh_orF (np : Nat) (dims types : Int) (l : List OrT) : ∀ k, k ≤ 1000000000 → ShF (orF np dims types l k)
  | 0, _ => by unfold orF orF0; exact ShF.ite ShF.nil (ShF.one (by decide))
  | k + 1, h => by unfold orF; exact (sh_orF np dims types l k (by omega)).app (sh_at (by omega) _)
theorem atW_size {word : ByteArray} (hw : word.size ≤ 100) {i : Nat} (h : i ≤ 1000000000) : (atW word i).size ≤ 1000 := by
  have := dec_size h
  unfold atW
  rw [ByteArray.size_append, ByteArray.size_append]
  show _ + 1 + _ ≤ _
  omega
theorem sh_pfF (n : Int) (l : List (Int × Int)) (word : ByteArray) (turned : Bool) (hw : word.size ≤ 100) : ∀ k, k ≤ 1000000000 → ShF (pfF n l word turned k)
  | 0, _ => by unfold pfF; exact ShF.ite (ShF.one (by omega)) ShF.nil
  | k + 1, h => by unfold pfF; exact (sh_pfF n l word turned hw k (by omega)).app (ShF.map (f := fun e => e) (atW_size hw (by omega)))

theorem psI_below {w w' : World} {v : Value} {l : List (Int × Int)} (h : Ps w v l) (hb : Below w.heap.size w w') : Ps w' v l := Sl.below h hb

/-! ### an instance -/
structure InT where
  pl : List ByteArray
  al : List ArcT
  tl : List TyT
  ol : List OrT
  ap : List (Int × Int)
  be : List (Int × Int)
def kNet : ByteArray := ⟨#[110, 101, 116]⟩
def kTypes : ByteArray := ⟨#[116, 121, 112, 101, 115]⟩
def kOrders : ByteArray := ⟨#[111, 114, 100, 101, 114, 115]⟩
def kRules : ByteArray := ⟨#[114, 117, 108, 101, 115]⟩
/-- the faults of an instance -/
def inF (x : InT) : List (Int × ByteArray) :=
  undF kNet (netF x.pl x.al) ++ undF kTypes (fleetF x.pl.length x.tl) ++ undF kOrders (orderF x.pl.length (dimsF x.tl : Nat) (x.tl.length : Nat) x.ol) ++ undF kRules (checkF (x.ol.length : Nat) x.ap x.be)
/-- an instance that is not great -/
structure InB (x : InT) : Prop where
  pl : x.pl.length ≤ 1000
  al : x.al.length ≤ 1000
  wt : wtA x.al ≤ 1000000
  tl : x.tl.length ≤ 1000
  cap : ∀ i, i < x.tl.length → (x.tl.getD i ty0).cap.length ≤ 1000000000
  ol : x.ol.length ≤ 1000
  load : ∀ i, i < x.ol.length → (x.ol.getD i or0).load.length ≤ 1000000000
  ap : x.ap.length ≤ 1000
  be : x.be.length ≤ 1000
theorem und_len (word : ByteArray) (l : List (Int × ByteArray)) : (undF word l).length = l.length := by unfold undF; rw [List.length_map]
theorem flF_len9 (np : Nat) (l : List TyT) : ∀ k, (flF np l k).length ≤ 1 + 9 * k
  | 0 => by unfold flF flF0; split <;> simp
  | k + 1 => by
    unfold flF
    rw [List.length_append]
    have h1 := flF_len9 np l k
    have h2 : (atT k (tyE np l k)).length ≤ 9 := by
      unfold atT
      rw [List.length_map]
      exact tyE_len np l k
    omega
/-- the parts' faults: how many, and how long their texts are -/
theorem in_parts {x : InT} (h : InB x) : ((netF x.pl x.al).length ≤ 3000000 ∧ ShF (netF x.pl x.al)) ∧ ((fleetF x.pl.length x.tl).length ≤ 10000 ∧ ShF (fleetF x.pl.length x.tl)) ∧
    ((orderF x.pl.length (dimsF x.tl : Nat) (x.tl.length : Nat) x.ol).length ≤ 10000 ∧ ShF (orderF x.pl.length (dimsF x.tl : Nat) (x.tl.length : Nat) x.ol)) ∧ ((checkF (x.ol.length : Nat) x.ap x.be).length ≤ 10000 ∧ ShF (checkF (x.ol.length : Nat) x.ap x.be)) := by
  have h1 := h.pl
  have h2 := h.al
  have h3 := h.wt
  have h4 := h.tl
  have h5 := h.ol
  have h6 := h.ap
  have h7 := h.be
  refine ⟨⟨?_, ?_⟩, ⟨?_, ?_⟩, ⟨?_, ?_⟩, ⟨?_, ?_⟩⟩
  · have := ntF_len x.pl x.al x.al.length (Nat.le_refl _)
    rw [List.take_length] at this
    unfold netF; omega
  · exact sh_ntF _ _ (by omega) _ (by omega)
  · have := flF_len9 x.pl.length x.tl x.tl.length
    unfold fleetF; omega
  · exact sh_flF _ _ _ (by omega)
  · have := orF_len x.pl.length (dimsF x.tl : Nat) (x.tl.length : Nat) x.ol x.ol.length
    unfold orderF; omega
  · exact sh_orF _ _ _ _ _ (by omega)
  · unfold checkF
    rw [List.length_append]
    have := pairF_len (x.ol.length : Nat) x.ap apartW true
    have := pairF_len (x.ol.length : Nat) x.be beforeW false
    omega
  · unfold checkF pairF
    exact (sh_pfF _ _ _ _ (by decide) _ (by omega)).app (sh_pfF _ _ _ _ (by decide) _ (by omega))

end Go.Proofs.YtaallpebfcadjaaGreatDoor.T


