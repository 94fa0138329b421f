/-
  DERIVED. The walks of loads: gather, Most, Sum, Trips.
-/
import Derived.Test.YtalfonpkefhlmaaDoorLoadTop2
namespace Go.Proofs.YtalfonpkefhlmaaDoor.L
open Go.RowKit
set_option maxRecDepth 8000

theorem gather_no (u : Value) (ls : List (List Int)) (d : Int) (g : Value) (f : Int → Int → Int) (hd : ¬ (0 ≤ d ∧ d ≤ 3)) (w : World) :
    Calls Tryd.prog 31 #[u, .int .i64 d, g] w (LE (gathL f ls d) (gathE ls d) w) := by
  have he : evenB ls d = false := by
    cases e : evenB ls d
    · rfl
    · exact absurd ((evenB_iff ls d).1 e).1 hd
  have HR : Hid (gathL f ls d = []) := by show _ = _; unfold gathL; rw [if_neg (by rw [he]; simp)]
  have HE : Hid (gathE ls d = 2) := by show _ = _; unfold gathE; rw [if_neg (by rw [he]; simp)]
  generalize gathL f ls d = r at *
  generalize gathE ls d = x at *
  clear he
  by_cases h0 : d < 0
  · go_enter Tryd.func31, Tryd.ntmps31
    go_wp2_with fail
    go_ret2
    exact ⟨_, ret_le HE.out.symm, HR.out ▸ Own.nil _ _, Below.refl _ _⟩
  · have h1 : 3 < d := by omega
    clear hd
    go_enter Tryd.func31, Tryd.ntmps31
    go_wp2_with fail
    go_ret2
    exact ⟨_, ret_le HE.out.symm, HR.out ▸ Own.nil _ _, Below.refl _ _⟩
theorem all_take {ls : List (List Int)} {D k : Nat} (h : k < ls.length) (h1 : ∀ l ∈ ls.take k, l.length = D) (h2 : (ls.getD k []).length = D) : ∀ l ∈ ls.take (k + 1), l.length = D := by
  intro l hl
  rw [take_more (d := []) h, List.mem_append] at hl
  rcases hl with hl | hl
  · exact h1 l hl
  · have : l = ls.getD k [] := by simpa using hl
    rw [this]; exact h2
set_option maxHeartbeats 3200000 in
theorem gather_n (u : Value) (ls : List (List Int)) (d : Int) (gf : FuncId) (eg : ∀ args w, (callFunc gf args).run Tryd.prog w = .ok (.enter gf args) w) (f : Int → Int → Int) (hl9 : ls.length ≤ 1000000000000000)
    (hP : ∀ k e, k < ls.length → ∀ w, Calls Tryd.prog gf #[.int .i64 (colL f (ls.take k) e), .int .i64 ((ls.getD k []).getD e 0)] w fun en w' => en = .returned (.int .i64 (f (colL f (ls.take k) e) ((ls.getD k []).getD e 0))) ∧ w = w')
    (w : World) (hu : Ls w u ls) :
    Calls Tryd.prog 31 #[u, .int .i64 d, .func (.func gf) #[] #[]] w (LE (gathL f ls d) (gathE ls d) w) := by
  by_cases hd : 0 ≤ d ∧ d ≤ 3
  · obtain ⟨hd0, hd3⟩ := hd
    obtain ⟨D, rfl⟩ := Int.eq_ofNat_of_zero_le hd0
    have hD3 : D ≤ 3 := by omega
    have HYES : Hid ((∀ l ∈ ls.take ls.length, l.length = D) → accL f (ls.take ls.length) D = gathL f ls D ∧ gathE ls D = 0) := by
      show _ → _
      intro h
      rw [List.take_length] at h ⊢
      have he : evenB ls D = true := (evenB_iff ls D).2 ⟨by omega, fun l hl => by rw [h l hl]⟩
      unfold gathL gathE
      rw [if_pos he, if_pos he]
      exact ⟨by simp, rfl⟩
    have HNO : Hid (∀ k, k < ls.length → (ls.getD k []).length ≠ D → gathL f ls D = [] ∧ gathE ls D = 2) := by
      intro k hk h
      have he : evenB ls D = false := by
        cases e : evenB ls D
        · rfl
        · have h1 := ((evenB_iff ls D).1 e).2 _ (getD_mem (d := []) hk)
          exact absurd (by omega) h
      unfold gathL gathE
      rw [if_neg (by rw [he]; simp), if_neg (by rw [he]; simp)]
      exact ⟨rfl, rfl⟩
    generalize gathL f ls D = r at *
    generalize gathE ls D = e0 at *
    have HP := Lib.hid hP
    have HT := Lib.hid (fun k (hk : k < ls.length) h1 h2 => all_take (D := D) hk h1 h2)
    have HAS := Lib.hid (fun k (hk : k < ls.length) => acc_step f ls D k hk)
    obtain ⟨i0, hi, hz0, hz1, hz2⟩ := infoInt
    obtain ⟨oa, c, rfl, ha⟩ := hu
    have HA := Lib.hid ha
    generalize hn : ls.length = n at *
    have HN := Lib.hid hn
    clear ha hn hd0 hd3 hP
    go_enter Tryd.func31, Tryd.ntmps31
    go_wp2_with (at_make; refine wpList_make_full _ rfl _ _ 36 rfl w.heap.size 3 i0 (.int .i64 0) 1 Tryd.underlying36 hi hz0 hz1 _ _ _ _ D rfl rfl ?e1 ?e2 ?e3 ?e4 (Nat.le_refl _) ?_)
    case e1 => rfl
    case e2 => rfl
    case e3 => rw [hz2]; omega
    case e4 => unfold maxLen; omega
    intro w1 hown hgrow
    have HRW : Hid (Rw w.heap.size w1 w.heap.size D (accL f (ls.take 0) D)) := by
      show Rw _ _ _ _ _
      exact Rw.made hown
    have HB1 : Hid (Below w.heap.size w w1) := (Below.refl _ w).grown hgrow (Nat.le_refl _) (fun k h => by cases h)
    have HALL : Hid (∀ l ∈ ls.take 0, l.length = D) := fun l hl => by simp at hl
    clear hown hgrow
    go_wp2_with fail
    go_loopw [23] (fun i wr => ∃ k : Nat, k ≤ n ∧ i = .int .i64 k ∧ Hid (∀ l ∈ ls.take k, l.length = D) ∧ Hid (Rw w.heap.size wr w.heap.size D (accL f (ls.take k) D)) ∧ Hid (Below w.heap.size w wr)) (fun i _ => n - (intOf i).toNat)
    case atStart => exact ⟨0, Nat.zero_le _, rfl, HALL, HRW, HB1⟩
    case round =>
      clear HRW HB1 HALL
      obtain ⟨k, hk, rfl, HALL, HRW, HW⟩ := hrel
      by_cases hlt : k < n
      · obtain ⟨ad, x, rfl, hab, hc, hx⟩ := HA.out k hlt
        obtain ⟨ob, cb, rfl, hb⟩ := hx
        have hc2 := (HW.out.cell (p := ad.add k) (by rw [add_block]; exact hab)).trans hc
        have HBX := Lib.hid hb
        clear hc hb
        by_cases hlen : (ls.getD k []).length = D
        · have HT2 := Lib.hid (HT.out k hlt HALL.out hlen)
          rw [hlen] at hc2 HBX
          have hne : ((D : Int) != (D : Int)) = false := by simp
          have HACL : Hid ((accL f (ls.take k) D).length = D) := accL_len f D _ HALL.out
          have HCOL : Hid (∀ e, e < D → (accL f (ls.take k) D).getD e 0 = colL f (ls.take k) e) := fun e he => acc_getD f D e he _ HALL.out
          have HAS2 := Lib.hid (HAS.out k hlt)
          have HZL : Hid ((zipL f (accL f (ls.take k) D) (ls.getD k [])).length = D) := zip_len f HACL.out hlen
          have HZG : Hid (∀ e, e < D → (zipL f (accL f (ls.take k) D) (ls.getD k [])).getD e 0 = f (colL f (ls.take k) e) ((ls.getD k []).getD e 0)) := fun e he => by
            rw [zip_getD f (by rw [HACL.out]; exact he) (by rw [hlen]; exact he), HCOL.out e he]
          have HP2 := Lib.hid (fun e => HP.out k e hlt)
          have HRW0 : Hid (Rw w.heap.size wr w.heap.size D (mix (zipL f (accL f (ls.take k) D) (ls.getD k [])) (accL f (ls.take k) D) 0)) := by
            show Rw _ _ _ _ _; rw [mix_zero]; exact HRW.out
          have HW0 := Lib.hid HW.out
          generalize zipL f (accL f (ls.take k) D) (ls.getD k []) = zl at *
          generalize accL f (ls.take k) D = acc at *
          generalize ls.getD k [] = xl at *
          clear hlen HRW
          go_wp2_with fail
          go_loopw [33] (fun j ws => ∃ q : Nat, q ≤ D ∧ j = .int .i64 q ∧ Hid (Rw w.heap.size ws w.heap.size D (mix zl acc q)) ∧ Hid (Below w.heap.size w ws)) (fun j _ => D - (intOf j).toNat)
          case atStart => exact ⟨0, Nat.zero_le _, rfl, HRW0, HW0⟩
          case round =>
            clear HRW0 HW0
            obtain ⟨q, hq, rfl, HRQ, HWQ⟩ := hrel
            by_cases hqD : q < D
            · obtain ⟨bd, rfl, hbb, hd⟩ := HBX.out q hqD
              have hd2 := (HWQ.out.cell (p := bd.add q) (by rw [add_block]; exact hbb)).trans hd
              have hrl : (mix zl acc q).length = D := by
                rw [mix_len (by rw [HZL.out, HACL.out]) (by rw [HACL.out]; omega), HACL.out]
              have hce := HRQ.out.cell q (by rw [hrl]; exact hqD)
              rw [mix_getD (by rw [HZL.out]; omega), HCOL.out q hqD] at hce
              have hfz := HRQ.out.frozen q
              have HST := Lib.hid (HRQ.out.store q (f (colL f (ls.take k) q) (xl.getD q 0)))
              have HST2 : Hid (Rw w.heap.size (wr.setCell ⟨w.heap.size, q, none⟩ (.int .i64 (f (colL f (ls.take k) q) (xl.getD q 0)))) w.heap.size D (mix zl acc (q + 1))) := by
                show Rw _ _ _ _ _
                have h1 := HST.out
                rw [← HZG.out q hqD, mix_set (by rw [HZL.out]; exact hqD) (by rw [HACL.out]; exact hqD)] at h1
                rw [← HZG.out q hqD]
                exact h1
              have HP3 := Lib.hid (HP2.out q)
              clear hd hrl HST
              generalize colL f (ls.take k) q = s at *
              generalize xl.getD q 0 = y at *
              generalize f s y = z at *
              go_wp2_with fail
              refine (HP3.out _).mono ?_
              rintro e w2 ⟨rfl, rfl⟩
              go_wp2_with fail
              go_roundw
              case rel => exact ⟨q + 1, by omega, by go_num, HST2, below_set HWQ.out (Nat.le_refl _) _ _⟩
              case measure => simp [intOf]; omega
            · have hq' : q = D := by omega
              subst hq'
              have HRN : Hid (Rw w.heap.size wr w.heap.size q (accL f (ls.take (k + 1)) q)) := by
                show Rw _ _ _ _ _
                have h1 := HRQ.out
                rw [mix_all HZL.out HACL.out] at h1
                rw [HAS2.out]; exact h1
              go_wp2_with fail
              go_roundw
              case rel => exact ⟨k + 1, by omega, by go_num, HT2, HRN, HWQ⟩
              case measure => simp [intOf]; omega
        · have hno := HNO.out k hlt hlen
          have HNR := Lib.hid hno.1
          have HNE := Lib.hid hno.2
          have hne := ne_neN hlen
          generalize (ls.getD k []).length = m at *
          clear hno hlen
          go_wp2_with fail
          go_ret2
          exact ⟨_, ret_le HNE.out.symm, HNR.out ▸ Own.nil _ _, HW.out⟩
      · have hk' : k = n := by omega
        subst hk'
        have hyes := HYES.out HALL.out
        have HG4 : Hid (Own w.heap.size wr (.slice (some ⟨w.heap.size, 0, none⟩) D D) r) := by
          show Own _ _ _ _
          have h1 := HRW.out
          have h2 := accL_len f D _ HALL.out
          unfold Rw at h1
          rw [h2, hyes.1] at h1
          exact h1
        have HYE := Lib.hid hyes.2
        clear hyes
        go_wp2_with fail
        go_ret2
        exact ⟨_, ret_le HYE.out.symm, HG4.out, HW.out⟩
  · exact gather_no u ls d _ f hd w

theorem loadSum_n (u : Value) (ls : List (List Int)) (d : Int) (hl9 : ls.length ≤ 1000000000000000) (hf : FitC addF ls) (w : World) (hu : Ls w u ls) :
    Calls Tryd.prog 21 #[u, .int .i64 d] w (LE (gathL addF ls d) (gathE ls d) w) := by
  have HC := Lib.hid (gather_n u ls d 32 (enters_of Tryd.func32 (by kernel_rfl) rfl) addF hl9 (fun k e hk w => plus_n _ _ (by have h := hf e (k + 1) (by omega); rw [col_step addF ls e k hk] at h; exact h) w) w hu)
  generalize gathL addF ls d = r at *
  generalize gathE ls d = x at *
  clear hu hf
  go_enter Tryd.func21, Tryd.ntmps21
  go_wp2_with fail
  refine HC.out.mono ?_
  rintro e w1 ⟨q, rfl, hq, b1⟩
  have HQ := Lib.hid hq
  have HB := Lib.hid b1
  clear hq b1
  go_wp2_with fail
  go_ret2
  exact ⟨_, rfl, HQ.out, HB.out⟩

end Go.Proofs.YtalfonpkefhlmaaDoor.L

