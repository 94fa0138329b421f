/-
  DERIVED. The walks of lorryref06's Most and Sum.
-/
import Derived.Test.YtalfonpkefhlmaaDoorRefLoad3
namespace Go.Proofs.YtalfonpkefhlmaaDoor.L
open Go.RowKit
set_option maxRecDepth 8000

def maxF (x y : Int) : Int := max x y
theorem addF_e (x y : Int) : addF x y = x + y := rfl
theorem maxF_e (x y : Int) : maxF x y = if x < y then y else x := by unfold maxF; split <;> omega
/-- the sums of each dimension fit -/
def FitC (f : Int → Int → Int) (ls : List (List Int)) : Prop := ∀ d k, k ≤ ls.length → -4611686018427387904 ≤ colL f (ls.take k) d ∧ colL f (ls.take k) d ≤ 4611686018427387904
theorem col_zero (f : Int → Int → Int) (ls : List (List Int)) (d : Nat) : colL f (ls.take 0) d = 0 := rfl

theorem refSum_no (u : Value) (ls : List (List Int)) (d : Int) (hl9 : ls.length ≤ 1000000000000000) (he : evenB ls d = false) (w : World) (hu : Ls w u ls) :
    Calls Tryd.prog 23 #[u, .int .i64 d] w (LE (gathL addF ls d) (gathE ls d) w) := by
  have HR : Hid (gathL addF ls d = []) := by show _ = _; unfold gathL; rw [if_neg (by rw [he]; simp)]
  have HE : Hid (gathE ls d = 2) := by show _ = _; unfold gathE; rw [if_neg (by rw [he]; simp)]
  have HV := Lib.hid (even_n u ls d hl9 w hu)
  rw [he] at HV
  generalize gathL addF ls d = r at *
  generalize gathE ls d = x at *
  clear he hu
  go_enter Tryd.func23, Tryd.ntmps23
  go_wp2_with fail
  refine HV.out.mono ?_
  rintro e w1 ⟨rfl, rfl⟩
  go_wp2_with fail
  go_ret2
  exact ⟨_, ret_le HE.out.symm, HR.out ▸ Own.nil _ _, Below.refl _ _⟩
set_option maxHeartbeats 800000 in
theorem refSum_n (u : Value) (ls : List (List Int)) (d : Int) (hl9 : ls.length ≤ 1000000000000000) (hf : FitC addF ls) (w : World) (hu : Ls w u ls) :
    Calls Tryd.prog 23 #[u, .int .i64 d] w (LE (gathL addF ls d) (gathE ls d) w) := by
  cases he : evenB ls d
  · exact refSum_no u ls d hl9 he w hu
  · have HR : Hid (gathL addF ls d = accL addF ls d.toNat) := by show _ = _; unfold gathL; rw [if_pos he]
    have HE : Hid (gathE ls d = 0) := by show _ = _; unfold gathE; rw [if_pos he]
    have HV := Lib.hid (even_n u ls d hl9 w hu)
    rw [he] at HV
    generalize gathL addF ls d = r at *
    generalize gathE ls d = e0 at *
    obtain ⟨⟨hd0, hd3⟩, hlen⟩ := (evenB_iff ls d).1 he
    obtain ⟨D, rfl⟩ := Int.eq_ofNat_of_zero_le hd0
    have hlen2 : ∀ l ∈ ls, l.length = D := fun l hl => by have := hlen l hl; omega
    have hD3 : D ≤ 3 := by omega
    rw [show ((D : Int)).toNat = D by simp] at HR
    have HS := Lib.hid (fun k (hk : k < D) => acc_row addF D k hk ls hlen2)
    have HZ : Hid ((accL addF ls D).length = D) := accL_len addF D ls hlen2
    have HC := Lib.hid (fun dd k (hk : k < ls.length) => col_step addF ls dd k hk)
    have HL := Lib.hid (fun k (h : k < ls.length) => hlen2 _ (getD_mem (d := []) h))
    have HF := Lib.hid hf
    unfold FitC at HF
    have HT : Hid (ls.take ls.length = ls) := List.take_length
    obtain ⟨i0, hi, hz0, hz1, hz2⟩ := infoInt
    obtain ⟨oa, c, rfl, ha⟩ := hu
    have HA := Lib.hid ha
    generalize accL addF ls D = zl at *
    generalize hn : ls.length = n at *
    have HG0 : Hid (Own w.heap.size w (.slice none 0 0) (zl.take 0)) := Own.nil _ _
    clear ha hn hlen hlen2 hd0 hd3 he hf
    go_enter Tryd.func23, Tryd.ntmps23
    go_wp2_with fail
    refine HV.out.mono ?_
    rintro e w1 ⟨rfl, rfl⟩
    go_wp2_with fail
    go_loopw [6, 7, 8, 9] (fun v i _ _ wr => ∃ k : Nat, k ≤ D ∧ i = .int .i64 k ∧ Hid (Own w.heap.size wr v (zl.take k)) ∧ Hid (Below w.heap.size w wr)) (fun _ i _ _ _ => D - (intOf i).toNat)
    case atStart => exact ⟨0, Nat.zero_le _, rfl, HG0, Below.refl _ _⟩
    case round =>
      clear HG0
      obtain ⟨k, hk, rfl, HG, HW⟩ := hrel
      by_cases hlt : k < D
      · have HS2 := Lib.hid (HS.out k hlt)
        have HC2 := Lib.hid (HC.out k)
        have HF2 := Lib.hid (HF.out k)
        go_wp2_with fail
        go_loop [8, 9] (fun m j => ∃ q : Nat, q ≤ n ∧ j = .int .i64 q ∧ m = .int .i64 (colL addF (ls.take q) k)) (fun _ j => n - (intOf j).toNat)
        case atStart => exact ⟨0, Nat.zero_le _, rfl, rfl⟩
        case round =>
          obtain ⟨q, hq, rfl, rfl⟩ := hrel
          by_cases hqn : q < n
          · obtain ⟨ad, x, rfl, hab, hc, hx⟩ := HA.out q hqn
            obtain ⟨ob, cb, rfl, hb⟩ := hx
            rw [HL.out q hqn] at hb hc
            obtain ⟨bd, rfl, hbb, hd⟩ := hb k hlt
            have hc2 := (HW.out.cell (p := ad.add q) (by rw [add_block]; exact hab)).trans hc
            have hd2 := (HW.out.cell (p := bd.add k) (by rw [add_block]; exact hbb)).trans hd
            clear hb hc hd
            have HS3 := Lib.hid (HC2.out q hqn)
            have hf1 := HF2.out q (by omega)
            have hf2 := HF2.out (q + 1) (by omega)
            rw [HS3.out] at hf2
            generalize colL addF (ls.take q) k = s at *
            generalize (ls.getD q []).getD k 0 = y at *
            rw [addF_e] at hf2 HS3
            go_wp2_with fail
            go_round
            case rel => exact ⟨q + 1, by omega, by go_num, by rw [HS3.out]⟩
            case measure => simp [intOf]; omega
          · have hq' : q = n := by omega
            subst hq'
            have hf1 := HF2.out q (by omega)
            have HS3 : Hid (zl.take (k + 1) = zl.take k ++ [colL addF (ls.take q) k]) := by show _ = _; rw [HT.out]; exact HS2.out
            generalize colL addF (ls.take q) k = s at *
            have HKL : Hid ((zl.take k).length = k) := by show _ = _; rw [List.length_take, HZ.out]; omega
            generalize hzk : zl.take k = zk at *
            have hmx : zk.length + 1 ≤ maxLen := by unfold maxLen; rw [HKL.out]; omega
            have hby : (zk.length + 1) * 8 ≤ 140737488355328 := by rw [HKL.out]; omega
            have HOW2 := Lib.hid (HG.out.alloc (.cells #[.int .i64 s] 3))
            have hsz := HW.out.size
            have hszA : w.heap.size ≤ (wr.alloc (.cells #[.int .i64 s] 3)).heap.size := by simp; omega
            clear hzk
            go_wp2_with (at_builtin; refine wpList_append_own _ rfl _ _ 36 rfl w.heap.size 3 i0 (.int .i64 0) 1 8 Tryd.underlying36 hi hz0 hz1 hz2 rfl (by decide) _ _ _ rfl HOW2.out ⟨wr.heap.size, 0, none⟩ 1 1 [.int .i64 s] rfl rfl (one_new wr s) (one_cell s) hmx hby hszA ?_)
            intro v2 w2 hown2 hgrow2 _
            have HO3 : Hid (Own w.heap.size w2 v2 (zl.take (k + 1))) := by show Own _ _ _ _; rw [HS3.out]; exact Own.of_own rfl hown2
            have HB3 := Lib.hid ((HW.out.alloc hsz (.cells #[.int .i64 s] 3)).grown hgrow2 (by simp; omega) HG.out.blk)
            clear hown2 hgrow2 HOW2
            go_wp2_with fail
            go_roundw
            case rel => exact ⟨k + 1, by omega, by go_num, HO3, HB3⟩
            case measure => simp [intOf]; omega
      · have hk' : k = D := by omega
        subst hk'
        have HG4 : Hid (Own w.heap.size wr u6 r) := by
          show Own _ _ _ _
          have := HG.out
          rw [List.take_of_length_le (by rw [HZ.out]; exact Nat.le_refl _)] at this
          rw [HR.out]
          exact this
        go_wp2_with fail
        go_ret2
        exact ⟨_, ret_le HE.out.symm, HG4.out, HW.out⟩

end Go.Proofs.YtalfonpkefhlmaaDoor.L

