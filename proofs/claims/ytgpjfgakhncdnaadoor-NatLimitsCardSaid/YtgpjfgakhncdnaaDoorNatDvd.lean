/-
  DERIVED. The walk of divide.
-/
import Derived.Test.YtgpjfgakhncdnaaDoorPureDvd
import Derived.Test.YtgpjfgakhncdnaaDoorNatGuess
import Derived.Test.YtgpjfgakhncdnaaDoorNatTake
import Derived.Test.YtgpjfgakhncdnaaDoorNatTrim
import Derived.Test.YtgpjfgakhncdnaaDoorNatParse
import Derived.Deep.AppendLies
import Derived.WalkMore
import Derived.Deep.LoopGhost
namespace Go.Proofs.YtgpjfgakhncdnaaDoor
open Go.RowKit

theorem guess_any (g cap o c0 gy cy n : Nat) (l ly : List Nat) (hlo : lo l) (hly : lo ly) (w : World) (hx : Rw w g cap l) (hy : Rw w gy cy ly) (hn : ly.length = n) (hn1 : 1 ≤ n) (hl : o + n + 1 ≤ l.length) (hn9 : n ≤ 1000000) (hP : pv l o (n + 1) < 1000000000 * val ly) (htop : 0 < ly.getD (n - 1) 0) :
    Calls Tryd.prog 48 #[.slice (some ⟨g, o, none⟩) (n + 1) c0, .slice (some ⟨gy, 0, none⟩) n cy] w fun e w' => GsPost (pv l o (n + 1)) (val ly) w e w' := by
  match n, hn1 with
  | 1, _ => exact guess_n1 g cap o c0 gy cy l ly hlo w hx hy hn (by omega) hP
  | k + 2, _ => exact guess_n2 g cap o c0 gy cy k l ly hlo hly w hx hy hn (by omega) (by omega) hP htop

theorem only_more {a b c : World} {gx g' : Nat} (h : a.grownBy b (some gx)) (k : b.grownBy c (some g')) (hg : g' = gx ∨ a.heap.size ≤ g') : a.grownBy c (some gx) :=
  ⟨k.os.trans h.os, k.tape.trans h.tape, k.output.trans h.output, Nat.le_trans h.size k.size, fun i hi hn => (k.block i (Nat.lt_of_lt_of_le hi h.size) (by
    intro e
    injection e with e
    rcases hg with hg | hg
    · exact hn (by rw [e, hg])
    · omega)).trans (h.block i hi hn)⟩
theorem only_none {a b c : World} {gx : Nat} (h : a.grownBy b (some gx)) (k : b.grownBy c none) : a.grownBy c (some gx) :=
  ⟨k.os.trans h.os, k.tape.trans h.tape, k.output.trans h.output, Nat.le_trans h.size k.size, fun i hi hn => (k.block i (Nat.lt_of_lt_of_le hi h.size) (by simp)).trans (h.block i hi hn)⟩
theorem only_alloc {a b : World} {gx : Nat} (h : a.grownBy b (some gx)) (o : Obj) : a.grownBy (b.alloc o) (some gx) := only_none h (World.grownBy_alloc b o none)

set_option maxRecDepth 100000 in
theorem div_short (ax : Option Addr) (nx cx gy cy n : Nat) (h : nx < n) (w : World) :
    Calls Tryd.prog 39 #[.slice ax nx cx, .slice (some ⟨gy, 0, none⟩) n cy] w fun e w' => e = .returned (.tuple #[.slice none 0 0, .slice ax nx cx]) ∧ w = w' := by
  go_enter Tryd.func39, Tryd.ntmps39
  go_wp2_with fail
  go_step3
  go_wp2_with fail
  rw [Exit.noGoto_ret]
  go_ret2
  exact ⟨rfl, rfl⟩

/-- what divide leaves where the dividend is not the shorter one: the quotient in a block of its own, the rest in the dividend's block or in one of its own -/
def DdPost (gx u v : Nat) (w : World) (e : Ending) (w' : World) : Prop :=
  ∃ gq cq gr cr, e = .returned (.tuple #[.slice (some ⟨gq, 0, none⟩) (limbs (u / v)).length cq, .slice (some ⟨gr, 0, none⟩) (limbs (u % v)).length cr]) ∧
    Rw w' gq cq (limbs (u / v)) ∧ Rw w' gr cr (limbs (u % v)) ∧ (gr = gx ∨ w.heap.size ≤ gr) ∧ w.heap.size ≤ gq ∧ w.grownBy w' (some gx)

set_option maxHeartbeats 8000000 in
set_option maxRecDepth 100000 in
theorem div_long (gx cx gy cy n N : Nat) (lx ly : List Nat) (hlx : lo lx) (hly : lo ly) (w : World) (hx : Rw w gx cx lx) (hy : Rw w gy cy ly) (hne : gy ≠ gx) (hn : ly.length = n) (hN : lx.length = N) (hn1 : 1 ≤ n) (hle : n ≤ N) (hN9 : N ≤ 1000000) (htop : 0 < ly.getD (n - 1) 0) :
    Calls Tryd.prog 39 #[.slice (some ⟨gx, 0, none⟩) N cx, .slice (some ⟨gy, 0, none⟩) n cy] w fun e w' => DdPost gx (val lx) (val ly) w e w' := by
  obtain ⟨i0, hi, hz0, hz1, hz2⟩ := info51'
  have hgy := hy.lt
  have hgx := hx.lt
  have HY := Lib.hid hy
  have HLY := Lib.hid hly
  have HLX := Lib.hid hlx
  have HT := Lib.hid htop
  have HYN := Lib.hid hn
  have HXN := Lib.hid hN
  have HST : Hid (val ((lx ++ [0]).drop (N - n + 1)) < val ly) := by
    have := dv_start lx ly hlx n hn hn1 (by omega) htop
    rwa [hN] at this
  have HYB : Hid (val ly < bp n) := by have := val_lt hly; rwa [hn] at this
  have HOW := Lib.hid ((hx.alloc (.cells #[.int .u64 ((0 : Nat) : Int)] 51)).own hN)
  have hmx : N + 1 ≤ maxLen := by unfold maxLen; omega
  have hby8 : (N + 1) * 8 ≤ 140737488355328 := by omega
  have hH : (w.alloc (.cells #[.int .u64 ((0 : Nat) : Int)] 51)).heap.size = w.heap.size + 1 := by simp
  clear hx hy hly hlx htop hn hN
  go_enter Tryd.func39, Tryd.ntmps39
  go_wp2_with fail
  go_step3
  go_wp2_with (at_builtin; refine wpList_append_lies _ rfl _ _ 40 rfl 0 51 i0 (.int .u64 0) 1 8 Tryd.underlying40 hi hz0 hz1 hz2 rfl (by decide) (.slice (some ⟨gx, 0, none⟩) N cx) N (lx.map u64) rfl HOW.out ⟨w.heap.size, 0, none⟩ 1 1 [.int .u64 ((0 : Nat) : Int)] rfl rfl (one_new w 0) (one_cell 0) (by omega) hmx hby8 (Nat.zero_le _) (w.heap.size + 1) hH ?_)
  intro g cr w2 hown2 hgrow2 hlies hg2
  have HR0 := Lib.hid (Rw.of_own HXN.out hown2)
  have HF0 : Hid (w.grownBy w2 (some gx)) := only_more (only_alloc (only_refl w _) _) hgrow2 (.inl rfl)
  have hgor : g = gx ∨ w.heap.size ≤ g := by
    rcases hlies with h | h
    · left; simpa [Value.ownBlock] using h.symm
    · right; omega
  have hsz2 := HF0.out.size
  clear hown2 hgrow2 hlies HOW
  go_wp2_with (at_make; refine wpList_make_full _ rfl _ _ 40 rfl 0 51 i0 (.int .u64 0) 1 Tryd.underlying40 hi hz0 hz1 _ _ _ _ (N - n + 1) rfl rfl ?e1 ?e2 ?e3 ?e4 (Nat.zero_le _) ?_)
  case e1 => omega
  case e2 => omega
  case e3 => omega
  case e4 => unfold maxLen; omega
  intro w3 hown3 hgrow3
  have HQ0 := Lib.hid (Rw.made hown3)
  have HF3 := Lib.hid (only_none HF0.out hgrow3)
  have HR3 : Hid (Rw w3 g cr (lx ++ [0])) := HR0.out.only hgrow3 (by simp)
  obtain ⟨gq, hgq⟩ : ∃ gq, w2.heap.size = gq := ⟨_, rfl⟩
  rw [hgq] at HQ0 hsz2 hg2 ⊢
  have hgne : g ≠ gq := by omega
  have hyne : gy ≠ gq := by omega
  have hyng : gy ≠ g := by omega
  clear hown3 hgrow3 hgq HR0 HF0
  go_wp2_with fail
  go_step3
  go_wp2_with fail
  go_loopg [8] (N - n + 1) (fun k i wr => ∃ (lr lq : List Nat), i = .int .i64 ((k : Int) - 1) ∧ k ≤ N - n + 1 ∧ Hid (lr.length = N + 1) ∧ Hid (lq.length = N - n + 1) ∧ Hid (Rw wr g cr lr) ∧ Hid (Rw wr gq (N - n + 1) lq) ∧ Hid (lo lr) ∧ Hid (lo lq) ∧ Hid (∀ j, j < k → lq.getD j 0 = 0) ∧ Hid (val lr + val ly * val lq = val lx) ∧ Hid (val (lr.drop k) < val ly) ∧ Hid (w.grownBy wr (some gx)))
  case atStart =>
    refine ⟨lx ++ [0], List.replicate (N - n + 1) 0, ?_, Nat.le_refl _, ?_, List.length_replicate, HR3, HQ0, lo_append.2 ⟨HLX.out, lo_cons.2 ⟨by omega, lo_nil⟩⟩, lo_zero _, fun j _ => by simp [List.getD_eq_getElem?_getD, List.getElem?_replicate]; split <;> rfl, ?_, HST, HF3⟩
    · go_num
    · show _ = _; rw [List.length_append, HXN.out]; rfl
    · show _ = _; rw [val_zero, val_append, val_cons, val_nil]; simp
  case round =>
    clear HR3 HQ0 HF3 HST
    obtain ⟨lr, lq, rfl, hk, HLR, HLQ, HR, HQ, HLOR, HLOQ, HZ, HV, HD, HF⟩ := hrel
    have hsz := HF.out.size
    match gk, hk, HZ, HD with
    | 0, hk, HZ, HD =>
      obtain ⟨hq, hr⟩ := dv_end HV.out (show val lr < val ly from HD.out)
      have HQV := Lib.hid hq
      have HRV := Lib.hid hr
      have HSZ := Lib.hid hsz2
      clear hq hr HV HD
      go_wp2_with fail
      refine (trim_to gq (N - n + 1) (N - n + 1) _ lq HLQ.out HLOQ.out HQV.out _ HQ.out (by omega)).mono ?_
      rintro e w' ⟨rfl, rfl, hq'⟩
      have HQ' := Lib.hid hq'
      clear hq'
      go_wp2_with fail
      refine (trim_to g cr (N + 1) _ lr HLR.out HLOR.out HRV.out _ HR.out (by omega)).mono ?_
      rintro e w' ⟨rfl, rfl, hr'⟩
      have HR' := Lib.hid hr'
      clear hr'
      go_wp2_with fail
      go_ret2
      exact ⟨gq, N - n + 1, g, cr, rfl, HQ'.out, HR'.out, hgor, HSZ.out, HF.out⟩
    | i + 1, hk, HZ, HD =>
      have hi2 : i + n ≤ N := by omega
      have hcr : N + 1 ≤ cr := by have := HR.out.le; have := HLR.out; omega
      have hci : ¬ cr = i := by omega
      have hsub : i + n + 1 - i = n + 1 := by omega
      have hln : Hid (i + n + 1 ≤ lr.length) := by show _ ≤ _; rw [HLR.out]; omega
      obtain ⟨hpv, h0, hlt⟩ := dv_part lr i n (val ly) HLOR.out hln.out HYB.out HD.out
      have HPV := Lib.hid hpv
      have HA0 := Lib.hid h0
      have hP : Hid (pv lr i (n + 1) < 1000000000 * val ly) := by show _ < _; rw [hpv]; exact hlt
      have HYW : Hid (Rw wr gy cy ly) := HY.out.only HF.out (by simpa using hne)
      have hlq : Hid (i < lq.length) := by show _ < _; rw [HLQ.out]; omega
      have hcq := HQ.out.cell i hlq.out
      rw [HZ.out i (by omega)] at hcq
      have hfq := HQ.out.frozen i
      clear hpv h0 hlt
      go_wp2_with (go_at_call 48; refine (guess_any g cr i (cr - i) gy cy n lr ly HLOR.out HLY.out _ HR.out HYW.out HYN.out hn1 hln.out (by omega) hP.out HT.out).mono ?_; rintro e w' ⟨qh, nd, rfl, hqb, hqp, rfl⟩)
      have hf0 : (wr.drewN nd).grownBy ((wr.drewN nd).setCell ⟨gq, i, none⟩ (.int .u64 (qh : Int))) (some gq) := only_set (only_refl _ _) i _
      have HF1 := Lib.hid (only_more (only_drewN HF.out nd) hf0 (.inr hsz2))
      have HR1 := Lib.hid ((HR.out.drewN nd).far (p := ⟨gq, i, none⟩) hgne (.int .u64 (qh : Int)))
      have HY1 := Lib.hid ((HYW.out.drewN nd).far (p := ⟨gq, i, none⟩) hyne (.int .u64 (qh : Int)))
      have HQ1 := Lib.hid ((HQ.out.drewN nd).store i qh)
      have HQP : Hid (val (lr.drop i) / val ly ≤ qh) := by show _ ≤ _; rw [← HPV.out]; exact hqp
      have HQZ := Lib.hid (HZ.out i (by omega))
      have hc0 : n + 1 ≤ cr - i := by omega
      clear hf0 hqp hcq hfq
      go_wp2_with fail
      refine (takeTimes_any g cr i (cr - i) gy cy n qh lr ly HLOR.out HLY.out _ HR1.out HY1.out hyng hqb HYN.out hln.out (by omega) hc0).mono ?_
      rintro e w2 ⟨ok, l1, rfl, hr1, hlo1, hO1, hv1, hf1⟩
      have hcan := dv_cancel lr lr l1 i n (qh * val ly) (if ok then 0 else 1) hln.out ⟨rfl, fun _ _ => rfl⟩ hO1 hv1
      have HF2 := Lib.hid (only_more HF1.out hf1 hgor)
      have HQ2 : Hid (Rw w2 gq (N - n + 1) (lq.set i qh)) := HQ1.out.only hf1 (by simp; omega)
      have HR2 := Lib.hid hr1
      have HLO1 := Lib.hid hlo1
      have HO1 := Lib.hid hO1
      have HL1 : Hid (l1.length = N + 1) := by show _ = _; rw [hO1.1]; exact HLR.out
      clear hr1 hlo1 hO1 hv1 hf1
      cases ok
      · have HC : Hid (val (l1.drop i) + qh * val ly = val (lr.drop i) + bp (n + 1)) := by show _ = _; simpa using hcan
        clear hcan
        go_wp2_with fail
        go_loopg [57] qh (fun qk _ wx => ∃ l' : List Nat, Hid (Rw wx g cr l') ∧ Hid (lo l') ∧ Hid (OnlyIn i (i + n + 1) lr l') ∧ Hid (Rw wx gq (N - n + 1) (lq.set i qk)) ∧ qk < 1000000000 ∧ Hid (val (l'.drop i) + qk * val ly = val (lr.drop i) + bp (n + 1)) ∧ Hid (w.grownBy wx (some gx)))
        case atStart => exact ⟨l1, HR2, HLO1, HO1, HQ2, hqb, HC, HF2⟩
        case round =>
          clear HR2 HLO1 HO1 HQ2 HC HF2 HL1 HF1 HR1 HY1 HQ1
          obtain ⟨l', HR, HLO', HO', HQ, hqk, HC, HF⟩ := hrel
          have hab := dv_above lr l' i n HLO'.out hln.out HO'.out HA0.out
          have hpos := dv_pos HC.out hab
          match gk, hqk, HC, HQ, hpos with
          | qm + 1, hqk, HC, HQ, hpos =>
            have hlq2 : Hid (i < (lq.set i (qm + 1)).length) := by show _ < _; rw [List.length_set]; exact hlq.out
            have hcq := HQ.out.cell i hlq2.out
            rw [set_getD _ _ _ hlq.out, show ((qm + 1 : Nat) : Int) = (qm : Int) + 1 by omega] at hcq
            have hfq := HQ.out.frozen i
            have HAB := Lib.hid hab
            have HYW : Hid (Rw wr gy cy ly) := HY.out.only HF.out (by simpa using hne)
            have HF3 := Lib.hid (only_more HF.out (only_set (only_refl _ (some gq)) i (.int .u64 (qm : Int))) (.inr hsz2))
            have HR3 := Lib.hid (HR.out.far (p := ⟨gq, i, none⟩) hgne (.int .u64 (qm : Int)))
            have HY3 := Lib.hid (HYW.out.far (p := ⟨gq, i, none⟩) hyne (.int .u64 (qm : Int)))
            have HQ3 := Lib.hid ((HQ.out.store i qm).ext (m := lq.set i qm) (by rw [List.set_set]))
            have hl' : Hid (i + n + 1 ≤ l'.length) := by show _ ≤ _; rw [HO'.out.1]; exact hln.out
            clear hab hpos
            go_wp2_with fail
            refine (putBack_any g cr i (cr - i) gy cy n l' ly HLO'.out HLY.out _ HR3.out HY3.out hyng HYN.out hl'.out (by omega) hc0).mono ?_
            rintro e w4 ⟨ok, l2, rfl, hr2, hlo2, hO2, hv2, hf2⟩
            have hO3 := HO'.out.trans hO2
            have hbk := dv_back lr l' l2 i n (val ly) (if ok then 1 else 0) hln.out HO'.out hO3 hv2
            have hls := dv_less HC.out (Nat.succ_pos _) hbk
            rw [Nat.add_sub_cancel] at hls
            have HF4 := Lib.hid (only_more HF3.out hf2 hgor)
            have HQ4 : Hid (Rw w4 gq (N - n + 1) (lq.set i qm)) := HQ3.out.only hf2 (by simp; omega)
            have HR4 := Lib.hid hr2
            have HLO2 := Lib.hid hlo2
            have HO3 := Lib.hid hO3
            have HL2 : Hid (l2.length = N + 1) := by show _ = _; rw [hO3.1]; exact HLR.out
            clear hr2 hlo2 hO2 hO3 hv2 hf2
            cases ok
            · have HC2 : Hid (val (l2.drop i) + qm * val ly = val (lr.drop i) + bp (n + 1)) := by show _ = _; simpa using hls
              clear hbk hls
              go_wp2_with fail
              go_roundg qm
              case measure => omega
              case rel => exact ⟨l2, HR4, HLO2, HO3, HQ4, by omega, HC2, HF4⟩
            · have HC2 : Hid (val (l2.drop i) + qm * val ly = val (lr.drop i)) := by
                show _ = _
                simp only [if_true, Nat.mul_one] at hls
                omega
              have HSM : Hid (val (l2.drop i) < val ly) := by
                show _ < _
                have := HAB.out
                simp only [if_true, Nat.mul_one] at hbk
                omega
              have HVD := Lib.hid (dv_done lr l2 lq i n qm (val ly) _ hln.out HO3.out hlq.out HQZ.out HV.out HC2.out)
              clear hbk hls
              go_wp2_with fail
              go_roundg i
              case measure => omega
              case rel => exact ⟨l2, lq.set i qm, by go_num, by omega, HL2, by show _ = _; rw [List.length_set]; exact HLQ.out, HR4, HQ4, HLO2, lo_set HLOQ.out _ _ (by omega), fun j hj => by rw [set_getD_ne _ _ _ _ (by omega)]; exact HZ.out j (by omega), HVD.out, HSM.out, HF4⟩
      · have HC : Hid (val (l1.drop i) + qh * val ly = val (lr.drop i)) := by show _ = _; simpa using hcan
        have HSM := Lib.hid (dv_small (Nat.lt_of_le_of_lt (Nat.zero_le _) HD.out) HC.out HQP.out)
        have HVD := Lib.hid (dv_done lr l1 lq i n qh (val ly) _ hln.out HO1.out hlq.out HQZ.out HV.out HC.out)
        clear hcan
        go_wp2_with fail
        go_roundg i
        case measure => omega
        case rel => exact ⟨l1, lq.set i qh, by go_num, by omega, HL1, by show _ = _; rw [List.length_set]; exact HLQ.out, HR2, HQ2, HLO1, lo_set HLOQ.out _ _ hqb, fun j hj => by rw [set_getD_ne _ _ _ _ (by omega)]; exact HZ.out j (by omega), HVD.out, HSM.out, HF2⟩

end Go.Proofs.YtgpjfgakhncdnaaDoor
