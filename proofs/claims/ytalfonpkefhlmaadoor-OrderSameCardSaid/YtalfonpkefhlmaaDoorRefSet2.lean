/-
  DERIVED. The walks of lorryref05's Members, Least, Within, Of.
-/
import Derived.Test.YtalfonpkefhlmaaDoorRefSet1
namespace Go.Proofs.YtalfonpkefhlmaaDoor.S
open Go.RowKit
set_option maxRecDepth 8000

theorem mem_lt62 {n i : Nat} (h : i ∈ members n) : i ≤ 62 := by have := (mem_iff n 63 i).1 h; omega
theorem members_len (n : Nat) : (members n).length ≤ 63 := mem_len n 63
set_option maxHeartbeats 800000 in
theorem refMembers_n (n : Nat) (hn : n < 2 ^ 63) (w : World) :
    Calls Tryd.prog 22 #[.int .i64 n] w fun e w' => ∃ v, e = .returned v ∧ Owb w.heap.size w' v (members n) ∧ Below w.heap.size w w' := by
  obtain ⟨i0, hi, hz0, hz1, hz2⟩ := info3'
  have HNN := Lib.hid hn
  clear hn
  go_enter Tryd.func22, Tryd.ntmps22
  go_wp2
  go_loopw [3, 4] (fun v i wr => ∃ k : Nat, k ≤ 63 ∧ i = .int .i64 k ∧ Hid (Owb w.heap.size wr v (mem n k)) ∧ Hid (Below w.heap.size w wr)) (fun _ i _ => 63 - (intOf i).toNat)
  case atStart => exact ⟨0, Nat.zero_le _, rfl, Owb.nil _ w, Below.refl _ _⟩
  case round =>
    obtain ⟨k, hk, rfl, HOW, hb⟩ := hrel
    by_cases hlt : k < 63
    · cases hh : has n k
      · have HQ := Lib.hid hh
        have HO2 : Hid (mem n (k + 1) = mem n k) := mem_no hh
        clear hh
        go_wp2_with fail
        refine (refHas_e n k false HNN.out (by omega) HQ _).mono ?_
        rintro e w' ⟨rfl, rfl⟩
        go_wp2_with fail
        go_roundw
        case rel => exact ⟨k + 1, by omega, by go_num, by show Owb _ _ _ _; rw [HO2.out]; exact HOW.out, hb⟩
        case measure => simp [intOf]; omega
      · have HQ := Lib.hid hh
        have HO2 : Hid (mem n (k + 1) = mem n k ++ [k]) := mem_yes hh
        have hml := mem_len n k
        have hl9 : (mem n k).length ≤ 1000000 := by omega
        have hmx : (mem n k).length + 1 ≤ maxLen := by unfold maxLen; omega
        have hby : ((mem n k).length + 1) * 8 ≤ 140737488355328 := by omega
        have HOW2 := Lib.hid (HOW.out.alloc (.cells #[.int .i64 (k : Int)] 3))
        have hsz := hb.out.size
        have hszA : w.heap.size ≤ (wr.alloc (.cells #[.int .i64 (k : Int)] 3)).heap.size := by simp; omega
        clear hh
        go_wp2_with fail
        refine (refHas_e n k true HNN.out (by omega) HQ _).mono ?_
        rintro e w' ⟨rfl, rfl⟩
        go_wp2_with (at_builtin; refine wpList_append_own _ rfl _ _ 36 rfl w.heap.size 3 i0 (.int .i64 0) 1 8 Tryd.underlying36 hi hz0 hz1 hz2 rfl (by decide) _ _ _ rfl HOW2.out ⟨wr.heap.size, 0, none⟩ 1 1 [.int .i64 (k : Int)] rfl rfl (one_new wr (k : Int)) (one_cell (k : Int)) hmx hby hszA ?_)
        intro v2 w2 hown2 hgrow2 _
        have HO3 := Lib.hid (Owb.of_own (x := k) rfl rfl hown2)
        have HB3 := Lib.hid ((hb.out.alloc hsz (.cells #[.int .i64 (k : Int)] 3)).grown hgrow2 (by simp; omega) HOW.out.blk)
        clear hown2 hgrow2 HOW2
        go_wp2
        go_roundw
        case rel => exact ⟨k + 1, by omega, by go_num, by show Owb _ _ _ _; rw [HO2.out]; exact HO3.out, HB3⟩
        case measure => simp [intOf]; omega
    · have hk' : k = 63 := by omega
      subst hk'
      go_wp2
      go_ret
      exact ⟨_, rfl, HOW.out, hb.out⟩

end Go.Proofs.YtalfonpkefhlmaaDoor.S

