/-
  DERIVED. The walks of sets: Of, Members, lowest.
-/
import Derived.Test.YtalfonpkefhlmaaDoorSetTop1
import Derived.WalkMore
namespace Go.Proofs.YtalfonpkefhlmaaDoor.S
open Go.RowKit
set_option maxRecDepth 8000

theorem set_bit (m j : Nat) (hm : m < 9223372036854775808) (hj : j ≤ 62) (h : has m j = false) : bits .or .i64 (m : Int) (wrap64 (2 ^ j)) = ((m + 2 ^ j : Nat) : Int) := by
  have hp := pow_le62 hj
  have hw := w64 (q := 2 ^ j) (by omega)
  rw [show ((2 ^ j : Nat) : Int) = 2 ^ j by simp] at hw
  rw [hw]
  have h1 := i64_or m (2 ^ j) hm (by omega)
  rw [or_free m j h] at h1
  rw [← h1]; simp
/-- the members that are left once j of the least are taken -/
theorem members_lt : ∀ m i r, members m = i :: r → m < 9223372036854775808 → m &&& (m - 1) = m - 2 ^ i ∧ members (m - 2 ^ i) = r ∧ m - 2 ^ i < m ∧ 0 < m := by
  intro m i r h hm
  have h1 := mem_tail 63 m i r (by simpa using hm) h
  have := pow_p i
  exact ⟨h1.2.1, h1.2.2, by omega, by omega⟩
theorem one_drop {l : List Nat} {k i : Nat} {r : List Nat} (h : l.drop k = i :: r) : l.take (k + 1) = l.take k ++ [i] ∧ l.drop (k + 1) = r ∧ k < l.length := by
  have hk : k < l.length := by
    by_cases hk : k < l.length
    · exact hk
    · rw [List.drop_of_length_le (by omega)] at h; cases h
  rw [List.drop_eq_getElem_cons hk] at h
  injection h with h1 h2
  exact ⟨by rw [List.take_succ_eq_append_getElem hk, h1], h2, hk⟩
set_option maxHeartbeats 1000000 in
theorem setMembers_n (n : Nat) (hn : n < 2 ^ 63) (w : World) (hT : Tab w) :
    Calls Tryd.prog 20 #[.int .i64 n] w fun e w' => ∃ v, e = .returned v ∧ Owb w.heap.size w' v (members n) ∧ Below w.heap.size w w' := by
  obtain ⟨i0, hi, hz0, hz1, hz2⟩ := info3'
  have hn9 : n < 9223372036854775808 := by simpa using hn
  have HSZ := Lib.hid (fun w => size_e n (size n) hn9 rfl w)
  have hlen : (members n).length ≤ 63 := mem_len n 63
  have HLEN := Lib.hid hlen
  have hsz : size n ≤ 63 := cnt_le 63 n
  have HMN := Lib.hid hn
  generalize hl : members n = l at *
  generalize size n = c at *
  have HL := Lib.hid hl
  clear hl hlen hn
  go_enter Tryd.func20, Tryd.ntmps20
  go_wp2_with fail
  refine (HSZ.out _).mono ?_
  rintro e w' ⟨rfl, rfl⟩
  go_wp2_with (at_make; refine wpList_make_own _ rfl _ _ 36 rfl w.heap.size 3 i0 (.int .i64 0) 1 Tryd.underlying36 hi hz0 hz1 _ _ _ c rfl rfl ?e1 ?e3 ?e4 (Nat.le_refl _) ?_)
  case e1 => rfl
  case e3 => rw [hz2]; omega
  case e4 => unfold maxLen; omega
  intro w1 hown hgrow
  have HO1 : Hid (Owb w.heap.size w1 (.slice (some ⟨w.heap.size, 0, none⟩) 0 c) []) := hown
  have HB1 : Hid (Below w.heap.size w w1) := (Below.refl _ w).grown hgrow (Nat.le_refl _) (fun k h => by cases h)
  clear hown hgrow
  go_wp2
  go_loopw [3, 4] (fun v x wr => ∃ k m : Nat, x = .int .i64 m ∧ m < 9223372036854775808 ∧ Hid (members m = l.drop k) ∧ Hid (Owb w.heap.size wr v (l.take k)) ∧ Hid (Below w.heap.size w wr)) (fun _ x _ => (intOf x).toNat)
  case atStart => exact ⟨0, n, rfl, hn9, HL, HO1, HB1⟩
  case round =>
    clear HO1 HB1
    obtain ⟨k, m, rfl, hm, HM, HO, HB⟩ := hrel
    by_cases hm0 : m = 0
    · subst hm0
      have HK : Hid (l.take k = l) := by
        show _ = _
        have h := HM.out
        rw [show members 0 = [] from mem_zero 63] at h
        have h2 := List.take_append_drop k l
        rw [← h, List.append_nil] at h2
        exact h2
      go_wp2_with fail
      go_ret
      exact ⟨_, rfl, by rw [← HK.out]; exact HO.out, HB.out⟩
    · cases hd : members m with
      | nil => exact absurd (mem_nil 63 m (by simpa using hm) hd) hm0
      | cons i r =>
        have h2 := members_lt m i r hd hm
        have h3 := one_drop (HM.out.symm.trans hd)
        obtain ⟨q, hq⟩ : ∃ q, m - 2 ^ i = q := ⟨_, rfl⟩
        rw [hq] at h2
        have HLe := Lib.hid (fun w => least_cons m i r hm hd w)
        have HWe := Lib.hid (fun w => without_e m q h2.2.2.2 hm h2.1 w)
        have HM2 : Hid (members q = l.drop (k + 1)) := h2.2.1.trans h3.2.1.symm
        have HT2 : Hid (l.take (k + 1) = l.take k ++ [i]) := h3.1
        have hkl : (l.take k).length ≤ 63 := by have h4 := HLEN.out; rw [List.length_take]; omega
        have hql : q < m := h2.2.2.1
        have hTW : Tab wr := hT.below (Nat.le_refl _) HB.out
        have hne : ((m : Int) == 0) = false := eq0I hm0
        generalize hlk : l.take k = lk at *
        have hl9 : lk.length ≤ 1000000 := by omega
        have hmx : lk.length + 1 ≤ maxLen := by unfold maxLen; omega
        have hby : (lk.length + 1) * 8 ≤ 140737488355328 := by omega
        have HOW2 := Lib.hid (HO.out.alloc (.cells #[.int .i64 (i : Int)] 3))
        have hsz := HB.out.size
        have hszA : w.heap.size ≤ (wr.alloc (.cells #[.int .i64 (i : Int)] 3)).heap.size := by simp; omega
        clear hd h2 h3 hq hlk
        go_wp2_with fail
        refine (HLe.out _ hTW).mono ?_
        rintro e w' ⟨rfl, rfl⟩
        go_wp2_with (at_builtin; refine wpList_append_own _ rfl _ _ 36 rfl w.heap.size 3 i0 (.int .i64 0) 1 8 Tryd.underlying36 hi hz0 hz1 hz2 rfl (by decide) _ _ _ rfl HOW2.out ⟨wr.heap.size, 0, none⟩ 1 1 [.int .i64 (i : Int)] rfl rfl (one_new wr (i : Int)) (one_cell (i : Int)) hmx hby hszA ?_)
        intro v2 w2 hown2 hgrow2 _
        have HO3 := Lib.hid (Owb.of_own (x := i) rfl rfl hown2)
        have HB3 := Lib.hid ((HB.out.alloc hsz (.cells #[.int .i64 (i : Int)] 3)).grown hgrow2 (by simp; omega) HO.out.blk)
        clear hown2 hgrow2 HOW2
        go_wp2_with fail
        refine (HWe.out _).mono ?_
        rintro e w' ⟨rfl, rfl⟩
        go_wp2_with fail
        go_roundw
        case rel => exact ⟨k + 1, q, rfl, by omega, HM2, by show Owb _ _ _ _; rw [HT2.out]; exact HO3.out, HB3⟩
        case measure => simp [intOf]; omega

end Go.Proofs.YtalfonpkefhlmaaDoor.S

