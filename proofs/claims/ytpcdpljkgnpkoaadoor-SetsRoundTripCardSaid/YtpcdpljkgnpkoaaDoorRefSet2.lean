/-
  DERIVED. The walks of lorryref05's Members, Least, Within, Of.
-/
import Derived.Test.YtpcdpljkgnpkoaaDoorRefSet1
namespace Go.Proofs.YtpcdpljkgnpkoaaDoor.S
open Go.RowKit
set_option maxRecDepth 8000

theorem mem_lt62 {n i : Nat} (h : i ∈ members n) : i ≤ 62 := by have := (mem_iff n 63 i).1 h; omega
theorem members_len (n : Nat) : (members n).length ≤ 63 := mem_len n 63
set_option maxHeartbeats 800000 in
theorem refMembers_n (n : Nat) (hn : n < 2 ^ 63) (w : World) :
    Calls Tryd.prog 14 #[.int .i64 n] w fun e w' => ∃ v, e = .returned v ∧ Owb w.heap.size w' v (members n) ∧ Below w.heap.size w w' := by
  obtain ⟨i0, hi, hz0, hz1, hz2⟩ := info3'
  have HNN := Lib.hid hn
  clear hn
  go_enter Tryd.func14, Tryd.ntmps14
  go_wp2
  go_loopw [3, 4] (fun v i wr => ∃ k : Nat, k ≤ 63 ∧ i = .int .i64 k ∧ Hid (Owb w.heap.size wr v (mem n k)) ∧ Hid (Below w.heap.size w wr)) (fun _ i _ => 63 - (intOf i).toNat)
  case atStart => exact ⟨0, Nat.zero_le _, rfl, Owb.nil _ w, Below.refl _ _⟩
  case round =>
    obtain ⟨k, hk, rfl, HOW, hb⟩ := hrel
    by_cases hlt : k < 63
    · cases hh : has n k
      · have HQ := Lib.hid hh
        have HO2 : Hid (mem n (k + 1) = mem n k) := mem_no hh
        clear hh
        go_wp2_with fail
        refine (refHas_e n k false HNN.out (by omega) HQ _).mono ?_
        rintro e w' ⟨rfl, rfl⟩
        go_wp2_with fail
        go_roundw
        case rel => exact ⟨k + 1, by omega, by go_num, by show Owb _ _ _ _; rw [HO2.out]; exact HOW.out, hb⟩
        case measure => simp [intOf]; omega
      · have HQ := Lib.hid hh
        have HO2 : Hid (mem n (k + 1) = mem n k ++ [k]) := mem_yes hh
        have hml := mem_len n k
        have hl9 : (mem n k).length ≤ 1000000 := by omega
        have hmx : (mem n k).length + 1 ≤ maxLen := by unfold maxLen; omega
        have hby : ((mem n k).length + 1) * 8 ≤ 140737488355328 := by omega
        have HOW2 := Lib.hid (HOW.out.alloc (.cells #[.int .i64 (k : Int)] 3))
        have hsz := hb.out.size
        have hszA : w.heap.size ≤ (wr.alloc (.cells #[.int .i64 (k : Int)] 3)).heap.size := by simp; omega
        clear hh
        go_wp2_with fail
        refine (refHas_e n k true HNN.out (by omega) HQ _).mono ?_
        rintro e w' ⟨rfl, rfl⟩
        go_wp2_with (at_builtin; refine wpList_append_own _ rfl _ _ 25 rfl w.heap.size 3 i0 (.int .i64 0) 1 8 Tryd.underlying25 hi hz0 hz1 hz2 rfl (by decide) _ _ _ rfl HOW2.out ⟨wr.heap.size, 0, none⟩ 1 1 [.int .i64 (k : Int)] rfl rfl (one_new wr (k : Int)) (one_cell (k : Int)) hmx hby hszA ?_)
        intro v2 w2 hown2 hgrow2 _
        have HO3 := Lib.hid (Owb.of_own (x := k) rfl rfl hown2)
        have HB3 := Lib.hid ((hb.out.alloc hsz (.cells #[.int .i64 (k : Int)] 3)).grown hgrow2 (by simp; omega) HOW.out.blk)
        clear hown2 hgrow2 HOW2
        go_wp2
        go_roundw
        case rel => exact ⟨k + 1, by omega, by go_num, by show Owb _ _ _ _; rw [HO2.out]; exact HO3.out, HB3⟩
        case measure => simp [intOf]; omega
    · have hk' : k = 63 := by omega
      subst hk'
      go_wp2
      go_ret
      exact ⟨_, rfl, HOW.out, hb.out⟩

theorem refLeast_n (n : Nat) (hn : n < 2 ^ 63) (w : World) :
    Calls Tryd.prog 16 #[.int .i64 n] w fun e w' => e = .returned (.int .i64 (leastI n)) ∧ Below w.heap.size w w' := by
  have HL : Hid (leastI n = match members n with | [] => -1 | i :: _ => (i : Int)) := rfl
  have HM := Lib.hid (refMembers_n n hn)
  generalize members n = l at *
  go_enter Tryd.func16, Tryd.ntmps16
  go_wp2_with fail
  refine (HM.out _).mono ?_
  rintro e w1 ⟨v, rfl, hv, b1⟩
  obtain ⟨A, c, rfl, hc, hel⟩ := hv.weak.shape
  clear hv
  match l, HL, hel with
  | [], HL, hel =>
    clear hel
    go_wp2_with fail
    go_ret
    exact ⟨ret_int HL.out.symm, b1⟩
  | i :: r, HL, hel =>
    obtain ⟨g, rfl, hg, hcell⟩ := hel 0 (by simp)
    have hpos : 0 < (i :: r).length := by simp
    have hcell : w1.cell? ⟨g, 0, none⟩ = some (.int .i64 (i : Int)) := hcell
    generalize (i :: r).length = m at *
    have hm : ((m : Int) == 0) = false := by simp; omega
    clear hel
    go_wp2_with fail
    go_ret
    exact ⟨ret_int HL.out.symm, b1⟩

theorem refWithin_n (a b : Nat) (ha : a < 2 ^ 63) (hb : b < 2 ^ 63) (w : World) :
    Calls Tryd.prog 18 #[.int .i64 a, .int .i64 b] w fun e w' => e = .returned (.bool (withinB a b)) ∧ Below w.heap.size w w' := by
  have HL : Hid (withinB a b = (members a).all (has b)) := rfl
  have HM := Lib.hid (refMembers_n a ha)
  have H62 : Hid (∀ i ∈ members a, i ≤ 62) := fun i hi => mem_lt62 hi
  have hln := members_len a
  generalize members a = l at *
  obtain ⟨m, hm⟩ : ∃ m, l.length = m := ⟨_, rfl⟩
  rw [hm] at hln
  have HMM := Lib.hid hm
  have HBB := Lib.hid hb
  clear ha hb
  go_enter Tryd.func18, Tryd.ntmps18
  go_wp2_with fail
  refine (HM.out _).mono ?_
  rintro e w1 ⟨v, rfl, hv, b1⟩
  obtain ⟨A, c, rfl, hc, hel⟩ := hv.weak.shape
  have HEL := Lib.hid hel
  rw [hm] at hc
  rw [hm]
  clear hv hel hm
  go_wp2_with fail
  go_loop [6] (fun i => ∃ k : Nat, k ≤ m ∧ i = .int .i64 k ∧ Hid ((l.take k).all (has b) = true)) (fun i => m - (intOf i).toNat)
  case atStart => exact ⟨0, Nat.zero_le _, rfl, rfl⟩
  case round =>
    obtain ⟨k, hk, rfl, HA⟩ := hrel
    by_cases hlt : k < m
    · have hkl : k < l.length := by rw [HMM.out]; exact hlt
      obtain ⟨g, rfl, hg, hcell⟩ := HEL.out k hkl
      have hx : l.getD k 0 = l[k] := by rw [List.getD_eq_getElem?_getD, List.getElem?_eq_getElem hkl]; rfl
      rw [hx] at hcell
      have h62 := H62.out l[k] (List.getElem_mem hkl)
      obtain ⟨q, hq⟩ : ∃ q, has b l[k] = q := ⟨_, rfl⟩
      have HQ := Lib.hid hq
      obtain ⟨x, hxk⟩ : ∃ x, l[k] = x := ⟨_, rfl⟩
      have HX := Lib.hid hxk
      rw [hxk] at hcell h62 HQ
      clear hx hxk hq
      cases q
      · have HF : Hid (withinB a b = false) := by
          show _ = _
          rw [HL.out, List.all_eq_false]
          exact ⟨l[k], List.getElem_mem hkl, by rw [HX.out, HQ.out]; simp⟩
        go_wp2_with fail
        refine (refHas_e b x false HBB.out h62 HQ _).mono ?_
        rintro e w' ⟨rfl, rfl⟩
        go_wp2_with fail
        go_ret
        exact ⟨ret_bool HF.out.symm, b1⟩
      · have HA2 : Hid ((l.take (k + 1)).all (has b) = true) := by
          show _ = _
          rw [List.take_succ_eq_append_getElem hkl, List.all_append, HA.out, List.all_cons, HX.out, HQ.out]; rfl
        go_wp2_with fail
        refine (refHas_e b x true HBB.out h62 HQ _).mono ?_
        rintro e w' ⟨rfl, rfl⟩
        go_wp2_with fail
        go_round
        case rel => exact ⟨k + 1, by omega, by go_num, HA2⟩
        case measure => simp [intOf]; omega
    · have hk' : k = m := by omega
      subst hk'
      have HT : Hid (withinB a b = true) := by
        show _ = _
        have := HA.out
        rw [List.take_of_length_le (by rw [HMM.out]; exact Nat.le_refl _)] at this
        rw [HL.out, this]
      go_wp2_with fail
      go_ret
      exact ⟨ret_bool HT.out.symm, b1⟩

end Go.Proofs.YtpcdpljkgnpkoaaDoor.S

