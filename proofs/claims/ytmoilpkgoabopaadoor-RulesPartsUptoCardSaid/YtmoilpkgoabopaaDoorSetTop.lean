/-
  DERIVED. The walks of sets: Has, Within, Size, Least, Members (out of layer 5's texts: tools/mkrusets.py).
-/
import Derived.Test.YtmoilpkgoabopaaDoorSetBits
import Derived.WalkKit
import Derived.Lib.LaidTab
import Derived.WalkMore
namespace Go.Proofs.YtmoilpkgoabopaaDoor.S
open Go.RowKit
set_option maxRecDepth 8000

theorem isNumber_no (i : Int) (h : ¬ (0 ≤ i ∧ i ≤ 62)) (w : World) :
    Calls Tryd.prog 50 #[.int .i64 i] w fun e w' => e = .returned (.bool false) ∧ w = w' := by
  by_cases h0 : i < 0
  · go_enter Tryd.func50, Tryd.ntmps50
    go_wp2_with fail
    go_ret
    exact ⟨rfl, rfl⟩
  have h1 : 62 < i := by omega
  have h2 : decide (i ≤ 62) = false := decide_eq_false (by omega)
  go_enter Tryd.func50, Tryd.ntmps50
  go_wp2_with fail
  go_ret
  first
    | exact ⟨rfl, rfl⟩
    | exact ⟨ret_bool h2, rfl⟩
theorem isNumber_yes (i : Int) (h0 : 0 ≤ i) (h1 : i ≤ 62) (w : World) :
    Calls Tryd.prog 50 #[.int .i64 i] w fun e w' => e = .returned (.bool true) ∧ w = w' := by
  go_enter Tryd.func50, Tryd.ntmps50
  go_wp2_with fail
  go_ret
  exact ⟨rfl, rfl⟩
theorem tHas_n (n k : Nat) (hn : n < 9223372036854775808) (hk : k ≤ 62) (b : Bool) (hb : Hid (has n k = b)) (w : World) :
    Calls Tryd.prog 34 #[.int .i64 n, .int .i64 k] w fun e w' => e = .returned (.bool b) ∧ w = w' := by
  have HN := Lib.hid (isNumber_yes (k : Int) (by omega) (by omega))
  have h1 := i_has n k hn
  rw [hb.out, show ((n / 2 ^ k : Nat) : Int) = (n : Int) / 2 ^ k by simp] at h1
  have H1 := Lib.hid h1
  clear h1
  go_enter Tryd.func34, Tryd.ntmps34
  go_wp2_with fail
  refine (HN.out _).mono ?_
  rintro e w' ⟨rfl, rfl⟩
  go_wp2_with fail
  go_ret
  exact ⟨ret_bool H1.out, rfl⟩
theorem setHas_i (n : Nat) (i : Int) (hn : n < 2 ^ 63) (w : World) :
    Calls Tryd.prog 34 #[.int .i64 n, .int .i64 i] w fun e w' => e = .returned (.bool (hasI n i)) ∧ w = w' := by
  by_cases h : 0 ≤ i ∧ i ≤ 62
  · obtain ⟨k, rfl⟩ := Int.eq_ofNat_of_zero_le h.1
    rw [hasI_nat (by omega)]
    exact tHas_n n k (by simpa using hn) (by omega) _ rfl w
  · have HK : Hid (hasI n i = false) := by
      show _ = _
      by_cases h0 : i < 0
      · exact hasI_neg h0
      · exact hasI_big (by omega)
    have HN := Lib.hid (isNumber_no i h)
    clear h
    go_enter Tryd.func34, Tryd.ntmps34
    go_wp2_with fail
    refine (HN.out _).mono ?_
    rintro e w' ⟨rfl, rfl⟩
    go_wp2_with fail
    go_ret
    exact ⟨ret_bool HK.out.symm, rfl⟩
theorem without_e (n m : Nat) (h0 : 0 < n) (hn : n < 9223372036854775808) (hm : n &&& (n - 1) = m) (w : World) :
    Calls Tryd.prog 53 #[.int .i64 n] w fun e w' => e = .returned (.int .i64 m) ∧ w = w' := by
  have h1 := i64_and n (n - 1) hn (by omega)
  rw [hm, show ((n - 1 : Nat) : Int) = (n : Int) - 1 by omega] at h1
  have H1 := Lib.hid h1
  clear h1 hm
  go_enter Tryd.func53, Tryd.ntmps53
  go_wp2_with fail
  go_ret
  exact ⟨ret_int H1.out, rfl⟩
theorem setWithin_n (a b : Nat) (ha : a < 2 ^ 63) (hb : b < 2 ^ 63) (w : World) :
    Calls Tryd.prog 37 #[.int .i64 a, .int .i64 b] w fun e w' => e = .returned (.bool (withinB a b)) ∧ w = w' := by
  have h1 := i_within a b (by simpa using ha) (by simpa using hb)
  have H1 := Lib.hid h1
  clear h1
  go_enter Tryd.func37, Tryd.ntmps37
  go_wp2_with fail
  go_ret
  exact ⟨ret_bool H1.out, rfl⟩
set_option maxHeartbeats 1000000 in
theorem ones64 (n c : Nat) (hn : n < 9223372036854775808) (hc : size n = c) (w : World) :
    Calls Tryd.prog 76 #[.int .u64 n] w fun e w' => e = .returned (.int .i64 c) ∧ w = w' := by
  obtain ⟨a1, b1, y1, a2, b2, y2, s3, y3, y4, y5, y6, h1, h2, h3, h4, h5, h6, h7, h8, h9, h10, h11, h12, h13⟩ := ones_steps n (by omega)
  rw [cnt64 n hn, hc] at h13
  have H13 := Lib.hid h13
  clear h13 hc
  go_enter Tryd.func76, Tryd.ntmps76
  go_wp2_with fail
  go_ret
  exact ⟨ret_int H13.out, rfl⟩
theorem ones_n (n c : Nat) (hn : n < 9223372036854775808) (hc : size n = c) (w : World) :
    Calls Tryd.prog 67 #[.int .u64 n] w fun e w' => e = .returned (.int .i64 c) ∧ w = w' := by
  have H := Lib.hid (ones64 n c hn hc)
  clear hc
  go_enter Tryd.func67, Tryd.ntmps67
  go_wp2_with fail
  refine (H.out _).mono ?_
  rintro e w' ⟨rfl, rfl⟩
  go_wp2_with fail
  go_ret
  exact ⟨rfl, rfl⟩
theorem size_e (n c : Nat) (hn : n < 9223372036854775808) (hc : size n = c) (w : World) :
    Calls Tryd.prog 52 #[.int .i64 n] w fun e w' => e = .returned (.int .i64 c) ∧ w = w' := by
  have H := Lib.hid (ones_n n c hn hc)
  clear hc
  go_enter Tryd.func52, Tryd.ntmps52
  go_wp2_with fail
  refine (H.out _).mono ?_
  rintro e w' ⟨rfl, rfl⟩
  go_wp2_with fail
  go_ret
  exact ⟨rfl, rfl⟩

def dbI : List Int := dbTab.map fun (x : Nat) => (x : Int)
def Tab (w : World) : Prop := Lib.TabIs Tryd.prog w "math/bits.deBruijn64tab" .u8 dbI
theorem gTab : Tryd.prog.globalNamed "math/bits.deBruijn64tab" = some 1 := by kernel_rfl
theorem Tab.lt {w : World} (h : Tab w) : 1 < w.heap.size :=
  World.block_lt_of_cell? _ _ (Lib.TabIs.cell h gTab 0 (by decide))
theorem Tab.below {B : Nat} {w w' : World} (h : Tab w) (hB : w.heap.size ≤ B) (hb : Below B w w') : Tab w' := var?_below hb gTab (Nat.lt_of_lt_of_le h.lt hB) h
theorem Tab.over {w W : World} (h : Tab w) (b : Below w.heap.size w W) : Tab W := h.below (Nat.le_refl _) b
theorem dbI_at (k : Nat) (hk : k < 64) (j : Nat) (hj : 2 ^ k * 285870213051353865 % 18446744073709551616 / 288230376151711744 = j) : j < 64 ∧ dbI[j]? = some (k : Int) := by
  have h := dbTab_at k hk
  rw [hj] at h
  have hl : j < 64 := by
    rw [← hj]; omega
  refine ⟨hl, ?_⟩
  rw [dbI, List.getElem?_map]
  rw [List.getD_eq_getElem?_getD, List.getElem?_eq_getElem (show j < dbTab.length from hl)] at h
  rw [List.getElem?_eq_getElem (show j < dbTab.length from hl)]
  simp only [Option.getD_some] at h
  rw [h]; rfl
theorem trail64 (i q n : Nat) (hq : n = 2 ^ i * (2 * q + 1)) (hn : n < 9223372036854775808) (hi : i < 64) (w : World) (hT : Tab w) :
    Calls Tryd.prog 78 #[.int .u64 n] w fun e w' => e = .returned (.int .i64 i) ∧ w = w' := by
  have h0 : 0 < n := by rw [hq]; exact Nat.mul_pos (pow_p i) (by omega)
  have h1 := u_low i q n hq hn
  obtain ⟨j, hj⟩ : ∃ j, 2 ^ i * 285870213051353865 % 18446744073709551616 / 288230376151711744 = j := ⟨_, rfl⟩
  obtain ⟨hj64, hd⟩ := dbI_at i hi j hj
  have hc := Lib.TabIs.cell hT gTab j hj64
  obtain ⟨p, hp⟩ : ∃ p, 2 ^ i = p := ⟨_, rfl⟩
  rw [hp] at h1 hj
  obtain ⟨m, hm⟩ : ∃ m, p * 285870213051353865 % 18446744073709551616 = m := ⟨_, rfl⟩
  rw [hm] at hj
  have h2 : IntKind.u64.wrap ((p : Int) * 285870213051353865) = (m : Int) := by rw [IntKind.wrap_u64]; omega
  have h3 : (m : Int) / 288230376151711744 = (j : Int) := by omega
  have hne : ((n : Int) == 0) = false := eq0I (by omega)
  rw [show dbI.getD j 0 = (i : Int) by rw [List.getD_eq_getElem?_getD, hd]; rfl] at hc
  clear hq hp hm hj hT hd
  go_enter Tryd.func78, Tryd.ntmps78
  go_wp2_with fail
  go_ret
  exact ⟨rfl, rfl⟩
theorem trail_n (i q n : Nat) (hq : n = 2 ^ i * (2 * q + 1)) (hn : n < 9223372036854775808) (hi : i < 64) (w : World) (hT : Tab w) :
    Calls Tryd.prog 68 #[.int .u64 n] w fun e w' => e = .returned (.int .i64 i) ∧ w = w' := by
  have H := Lib.hid (fun w => trail64 i q n hq hn hi w)
  clear hq
  go_enter Tryd.func68, Tryd.ntmps68
  go_wp2_with fail
  refine (H.out _ hT).mono ?_
  rintro e w' ⟨rfl, rfl⟩
  go_wp2_with fail
  go_ret
  exact ⟨rfl, rfl⟩
theorem least_cons (n i : Nat) (r : List Nat) (hn : n < 9223372036854775808) (hm : members n = i :: r) (w : World) (hT : Tab w) :
    Calls Tryd.prog 54 #[.int .i64 n] w fun e w' => e = .returned (.int .i64 i) ∧ w = w' := by
  obtain ⟨q, hq⟩ := mem_head 63 n i r hm
  have hi : i ≤ 62 := mem_lt62 (n := n) (by rw [hm]; simp)
  have h0 : 0 < n := by rw [hq]; exact Nat.mul_pos (pow_p i) (by omega)
  have H := Lib.hid (fun w => trail_n i q n hq hn (by omega) w)
  have hne : ((n : Int) == 0) = false := eq0I (by omega)
  clear hq hm
  go_enter Tryd.func54, Tryd.ntmps54
  go_wp2_with fail
  refine (H.out _ hT).mono ?_
  rintro e w' ⟨rfl, rfl⟩
  go_wp2_with fail
  go_ret
  exact ⟨rfl, rfl⟩
theorem setLeast_n (n : Nat) (hn : n < 2 ^ 63) (w : World) (hT : Tab w) :
    Calls Tryd.prog 54 #[.int .i64 n] w fun e w' => e = .returned (.int .i64 (leastI n)) ∧ w = w' := by
  cases hm : members n with
  | nil =>
    have h0 := mem_nil 63 n hn hm
    subst h0
    have HK : Hid (leastI 0 = -1) := by show _ = _; rw [leastI, hm]
    clear hm
    go_enter Tryd.func54, Tryd.ntmps54
    go_wp2_with fail
    go_ret
    exact ⟨ret_int HK.out.symm, rfl⟩
  | cons i r =>
    have := least_cons n i r (by simpa using hn) hm w hT
    rwa [show leastI n = (i : Int) by rw [leastI, hm]]
theorem len64_c (w : World) :
    Calls Tryd.prog 65 #[.int .u64 8192] w fun e w' => e = .returned (.int .i64 14) ∧ w = w' := by
  go_enter Tryd.func65, Tryd.ntmps65
  go_wp2_with fail
  go_ret
  exact ⟨ret_int (by first | decide | decide +kernel), rfl⟩
theorem len_c (w : World) :
    Calls Tryd.prog 47 #[.int .u64 8192] w fun e w' => e = .returned (.int .i64 14) ∧ w = w' := by
  have H := Lib.hid len64_c
  go_enter Tryd.func47, Tryd.ntmps47
  go_wp2_with fail
  refine (H.out _).mono ?_
  rintro e w' ⟨rfl, rfl⟩
  go_wp2_with fail
  go_ret
  exact ⟨rfl, rfl⟩

theorem set_bit (m j : Nat) (hm : m < 9223372036854775808) (hj : j ≤ 62) (h : has m j = false) : bits .or .i64 (m : Int) (wrap64 (2 ^ j)) = ((m + 2 ^ j : Nat) : Int) := by
  have hp := pow_le62 hj
  have hw := w64 (q := 2 ^ j) (by omega)
  rw [show ((2 ^ j : Nat) : Int) = 2 ^ j by simp] at hw
  rw [hw]
  have h1 := i64_or m (2 ^ j) hm (by omega)
  rw [or_free m j h] at h1
  rw [← h1]; simp
/-- the members that are left once j of the least are taken -/
theorem members_lt : ∀ m i r, members m = i :: r → m < 9223372036854775808 → m &&& (m - 1) = m - 2 ^ i ∧ members (m - 2 ^ i) = r ∧ m - 2 ^ i < m ∧ 0 < m := by
  intro m i r h hm
  have h1 := mem_tail 63 m i r (by simpa using hm) h
  have := pow_p i
  exact ⟨h1.2.1, h1.2.2, by omega, by omega⟩
theorem one_drop {l : List Nat} {k i : Nat} {r : List Nat} (h : l.drop k = i :: r) : l.take (k + 1) = l.take k ++ [i] ∧ l.drop (k + 1) = r ∧ k < l.length := by
  have hk : k < l.length := by
    by_cases hk : k < l.length
    · exact hk
    · rw [List.drop_of_length_le (by omega)] at h; cases h
  rw [List.drop_eq_getElem_cons hk] at h
  injection h with h1 h2
  exact ⟨by rw [List.take_succ_eq_append_getElem hk, h1], h2, hk⟩
set_option maxHeartbeats 1000000 in
theorem setMembers_n (n : Nat) (hn : n < 2 ^ 63) (w : World) (hT : Tab w) :
    Calls Tryd.prog 41 #[.int .i64 n] w fun e w' => ∃ v, e = .returned v ∧ Owb w.heap.size w' v (members n) ∧ Below w.heap.size w w' := by
  obtain ⟨i0, hi, hz0, hz1, hz2⟩ := info3'
  have hn9 : n < 9223372036854775808 := by simpa using hn
  have HSZ := Lib.hid (fun w => size_e n (size n) hn9 rfl w)
  have hlen : (members n).length ≤ 63 := mem_len n 63
  have HLEN := Lib.hid hlen
  have hsz : size n ≤ 63 := cnt_le 63 n
  have HMN := Lib.hid hn
  generalize hl : members n = l at *
  generalize size n = c at *
  have HL := Lib.hid hl
  clear hl hlen hn
  go_enter Tryd.func41, Tryd.ntmps41
  go_wp2_with fail
  refine (HSZ.out _).mono ?_
  rintro e w' ⟨rfl, rfl⟩
  go_wp2_with (at_make; refine wpList_make_own _ rfl _ _ 48 rfl w.heap.size 3 i0 (.int .i64 0) 1 Tryd.underlying48 hi hz0 hz1 _ _ _ c rfl rfl ?e1 ?e3 ?e4 (Nat.le_refl _) ?_)
  case e1 => rfl
  case e3 => rw [hz2]; omega
  case e4 => unfold maxLen; omega
  intro w1 hown hgrow
  have HO1 : Hid (Owb w.heap.size w1 (.slice (some ⟨w.heap.size, 0, none⟩) 0 c) []) := hown
  have HB1 : Hid (Below w.heap.size w w1) := (Below.refl _ w).grown hgrow (Nat.le_refl _) (fun k h => by cases h)
  clear hown hgrow
  go_wp2
  go_loopw [3, 4] (fun v x wr => ∃ k m : Nat, x = .int .i64 m ∧ m < 9223372036854775808 ∧ Hid (members m = l.drop k) ∧ Hid (Owb w.heap.size wr v (l.take k)) ∧ Hid (Below w.heap.size w wr)) (fun _ x _ => (intOf x).toNat)
  case atStart => exact ⟨0, n, rfl, hn9, HL, HO1, HB1⟩
  case round =>
    clear HO1 HB1
    obtain ⟨k, m, rfl, hm, HM, HO, HB⟩ := hrel
    by_cases hm0 : m = 0
    · subst hm0
      have HK : Hid (l.take k = l) := by
        show _ = _
        have h := HM.out
        rw [show members 0 = [] from mem_zero 63] at h
        have h2 := List.take_append_drop k l
        rw [← h, List.append_nil] at h2
        exact h2
      go_wp2_with fail
      go_ret
      exact ⟨_, rfl, by rw [← HK.out]; exact HO.out, HB.out⟩
    · cases hd : members m with
      | nil => exact absurd (mem_nil 63 m (by simpa using hm) hd) hm0
      | cons i r =>
        have h2 := members_lt m i r hd hm
        have h3 := one_drop (HM.out.symm.trans hd)
        obtain ⟨q, hq⟩ : ∃ q, m - 2 ^ i = q := ⟨_, rfl⟩
        rw [hq] at h2
        have HLe := Lib.hid (fun w => least_cons m i r hm hd w)
        have HWe := Lib.hid (fun w => without_e m q h2.2.2.2 hm h2.1 w)
        have HM2 : Hid (members q = l.drop (k + 1)) := h2.2.1.trans h3.2.1.symm
        have HT2 : Hid (l.take (k + 1) = l.take k ++ [i]) := h3.1
        have hkl : (l.take k).length ≤ 63 := by have h4 := HLEN.out; rw [List.length_take]; omega
        have hql : q < m := h2.2.2.1
        have hTW : Tab wr := hT.below (Nat.le_refl _) HB.out
        have hne : ((m : Int) == 0) = false := eq0I hm0
        generalize hlk : l.take k = lk at *
        have hl9 : lk.length ≤ 1000000 := by omega
        have hmx : lk.length + 1 ≤ maxLen := by unfold maxLen; omega
        have hby : (lk.length + 1) * 8 ≤ 140737488355328 := by omega
        have HOW2 := Lib.hid (HO.out.alloc (.cells #[.int .i64 (i : Int)] 3))
        have hsz := HB.out.size
        have hszA : w.heap.size ≤ (wr.alloc (.cells #[.int .i64 (i : Int)] 3)).heap.size := by simp; omega
        clear hd h2 h3 hq hlk
        go_wp2_with fail
        refine (HLe.out _ hTW).mono ?_
        rintro e w' ⟨rfl, rfl⟩
        go_wp2_with (at_builtin; refine wpList_append_own _ rfl _ _ 48 rfl w.heap.size 3 i0 (.int .i64 0) 1 8 Tryd.underlying48 hi hz0 hz1 hz2 rfl (by decide) _ _ _ rfl HOW2.out ⟨wr.heap.size, 0, none⟩ 1 1 [.int .i64 (i : Int)] rfl rfl (one_new wr (i : Int)) (one_cell (i : Int)) hmx hby hszA ?_)
        intro v2 w2 hown2 hgrow2 _
        have HO3 := Lib.hid (Owb.of_own (x := i) rfl rfl hown2)
        have HB3 := Lib.hid ((HB.out.alloc hsz (.cells #[.int .i64 (i : Int)] 3)).grown hgrow2 (by simp; omega) HO.out.blk)
        clear hown2 hgrow2 HOW2
        go_wp2_with fail
        refine (HWe.out _).mono ?_
        rintro e w' ⟨rfl, rfl⟩
        go_wp2_with fail
        go_roundw
        case rel => exact ⟨k + 1, q, rfl, by omega, HM2, by show Owb _ _ _ _; rw [HT2.out]; exact HO3.out, HB3⟩
        case measure => simp [intOf]; omega

end Go.Proofs.YtmoilpkgoabopaaDoor.S

