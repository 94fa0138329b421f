/-
  DERIVED. The walks of sets: isNumber, Has, withoutLeast, the count of bits, Size, the lowest bit's place, Least, Within, the length of a constant.
-/
import Derived.Test.YtalfonpkefhlmaaDoorBitPure
import Derived.Lib.LaidTab
namespace Go.Proofs.YtalfonpkefhlmaaDoor.S
open Go.RowKit
set_option maxRecDepth 8000

theorem eq0I {a : Nat} (h : a ≠ 0) : (((a : Int) == 0) = false) := by
  rw [beq_eq_false_iff_ne]; omega

theorem without_e (n m : Nat) (h0 : 0 < n) (hn : n < 9223372036854775808) (hm : n &&& (n - 1) = m) (w : World) :
    Calls Tryd.prog 29 #[.int .i64 n] w fun e w' => e = .returned (.int .i64 m) ∧ w = w' := by
  have h1 := i64_and n (n - 1) hn (by omega)
  rw [hm, show ((n - 1 : Nat) : Int) = (n : Int) - 1 by omega] at h1
  have H1 := Lib.hid h1
  clear h1 hm
  go_enter Tryd.func29, Tryd.ntmps29
  go_wp2_with fail
  go_ret
  exact ⟨ret_int H1.out, rfl⟩
set_option maxHeartbeats 1000000 in
theorem ones64 (n c : Nat) (hn : n < 9223372036854775808) (hc : size n = c) (w : World) :
    Calls Tryd.prog 55 #[.int .u64 n] w fun e w' => e = .returned (.int .i64 c) ∧ w = w' := by
  obtain ⟨a1, b1, y1, a2, b2, y2, s3, y3, y4, y5, y6, h1, h2, h3, h4, h5, h6, h7, h8, h9, h10, h11, h12, h13⟩ := ones_steps n (by omega)
  rw [cnt64 n hn, hc] at h13
  have H13 := Lib.hid h13
  clear h13 hc
  go_enter Tryd.func55, Tryd.ntmps55
  go_wp2_with fail
  go_ret
  exact ⟨ret_int H13.out, rfl⟩
theorem ones_n (n c : Nat) (hn : n < 9223372036854775808) (hc : size n = c) (w : World) :
    Calls Tryd.prog 43 #[.int .u64 n] w fun e w' => e = .returned (.int .i64 c) ∧ w = w' := by
  have H := Lib.hid (ones64 n c hn hc)
  clear hc
  go_enter Tryd.func43, Tryd.ntmps43
  go_wp2_with fail
  refine (H.out _).mono ?_
  rintro e w' ⟨rfl, rfl⟩
  go_wp2_with fail
  go_ret
  exact ⟨rfl, rfl⟩
theorem size_e (n c : Nat) (hn : n < 9223372036854775808) (hc : size n = c) (w : World) :
    Calls Tryd.prog 28 #[.int .i64 n] w fun e w' => e = .returned (.int .i64 c) ∧ w = w' := by
  have H := Lib.hid (ones_n n c hn hc)
  clear hc
  go_enter Tryd.func28, Tryd.ntmps28
  go_wp2_with fail
  refine (H.out _).mono ?_
  rintro e w' ⟨rfl, rfl⟩
  go_wp2_with fail
  go_ret
  exact ⟨rfl, rfl⟩

def dbI : List Int := dbTab.map fun (x : Nat) => (x : Int)
def Tab (w : World) : Prop := Lib.TabIs Tryd.prog w "math/bits.deBruijn64tab" .u8 dbI
theorem gTab : Tryd.prog.globalNamed "math/bits.deBruijn64tab" = some 1 := by kernel_rfl
theorem Tab.lt {w : World} (h : Tab w) : 1 < w.heap.size :=
  World.block_lt_of_cell? _ _ (Lib.TabIs.cell h gTab 0 (by decide))
theorem Tab.below {B : Nat} {w w' : World} (h : Tab w) (hB : w.heap.size ≤ B) (hb : Below B w w') : Tab w' := var?_below hb gTab (Nat.lt_of_lt_of_le h.lt hB) h
theorem Tab.over {w W : World} (h : Tab w) (b : Below w.heap.size w W) : Tab W := h.below (Nat.le_refl _) b
theorem dbI_at (k : Nat) (hk : k < 64) (j : Nat) (hj : 2 ^ k * 285870213051353865 % 18446744073709551616 / 288230376151711744 = j) : j < 64 ∧ dbI[j]? = some (k : Int) := by
  have h := dbTab_at k hk
  rw [hj] at h
  have hl : j < 64 := by
    rw [← hj]; omega
  refine ⟨hl, ?_⟩
  rw [dbI, List.getElem?_map]
  rw [List.getD_eq_getElem?_getD, List.getElem?_eq_getElem (show j < dbTab.length from hl)] at h
  rw [List.getElem?_eq_getElem (show j < dbTab.length from hl)]
  simp only [Option.getD_some] at h
  rw [h]; rfl
theorem trail64 (i q n : Nat) (hq : n = 2 ^ i * (2 * q + 1)) (hn : n < 9223372036854775808) (hi : i < 64) (w : World) (hT : Tab w) :
    Calls Tryd.prog 57 #[.int .u64 n] w fun e w' => e = .returned (.int .i64 i) ∧ w = w' := by
  have h0 : 0 < n := by rw [hq]; exact Nat.mul_pos (pow_p i) (by omega)
  have h1 := u_low i q n hq hn
  obtain ⟨j, hj⟩ : ∃ j, 2 ^ i * 285870213051353865 % 18446744073709551616 / 288230376151711744 = j := ⟨_, rfl⟩
  obtain ⟨hj64, hd⟩ := dbI_at i hi j hj
  have hc := Lib.TabIs.cell hT gTab j hj64
  obtain ⟨p, hp⟩ : ∃ p, 2 ^ i = p := ⟨_, rfl⟩
  rw [hp] at h1 hj
  obtain ⟨m, hm⟩ : ∃ m, p * 285870213051353865 % 18446744073709551616 = m := ⟨_, rfl⟩
  rw [hm] at hj
  have h2 : IntKind.u64.wrap ((p : Int) * 285870213051353865) = (m : Int) := by rw [IntKind.wrap_u64]; omega
  have h3 : (m : Int) / 288230376151711744 = (j : Int) := by omega
  have hne : ((n : Int) == 0) = false := eq0I (by omega)
  rw [show dbI.getD j 0 = (i : Int) by rw [List.getD_eq_getElem?_getD, hd]; rfl] at hc
  clear hq hp hm hj hT hd
  go_enter Tryd.func57, Tryd.ntmps57
  go_wp2_with fail
  go_ret
  exact ⟨rfl, rfl⟩
theorem trail_n (i q n : Nat) (hq : n = 2 ^ i * (2 * q + 1)) (hn : n < 9223372036854775808) (hi : i < 64) (w : World) (hT : Tab w) :
    Calls Tryd.prog 44 #[.int .u64 n] w fun e w' => e = .returned (.int .i64 i) ∧ w = w' := by
  have H := Lib.hid (fun w => trail64 i q n hq hn hi w)
  clear hq
  go_enter Tryd.func44, Tryd.ntmps44
  go_wp2_with fail
  refine (H.out _ hT).mono ?_
  rintro e w' ⟨rfl, rfl⟩
  go_wp2_with fail
  go_ret
  exact ⟨rfl, rfl⟩
theorem least_cons (n i : Nat) (r : List Nat) (hn : n < 9223372036854775808) (hm : members n = i :: r) (w : World) (hT : Tab w) :
    Calls Tryd.prog 30 #[.int .i64 n] w fun e w' => e = .returned (.int .i64 i) ∧ w = w' := by
  obtain ⟨q, hq⟩ := mem_head 63 n i r hm
  have hi : i ≤ 62 := mem_lt62 (n := n) (by rw [hm]; simp)
  have h0 : 0 < n := by rw [hq]; exact Nat.mul_pos (pow_p i) (by omega)
  have H := Lib.hid (fun w => trail_n i q n hq hn (by omega) w)
  have hne : ((n : Int) == 0) = false := eq0I (by omega)
  clear hq hm
  go_enter Tryd.func30, Tryd.ntmps30
  go_wp2_with fail
  refine (H.out _ hT).mono ?_
  rintro e w' ⟨rfl, rfl⟩
  go_wp2_with fail
  go_ret
  exact ⟨rfl, rfl⟩
theorem setLeast_n (n : Nat) (hn : n < 2 ^ 63) (w : World) (hT : Tab w) :
    Calls Tryd.prog 30 #[.int .i64 n] w fun e w' => e = .returned (.int .i64 (leastI n)) ∧ w = w' := by
  cases hm : members n with
  | nil =>
    have h0 := mem_nil 63 n hn hm
    subst h0
    have HK : Hid (leastI 0 = -1) := by show _ = _; rw [leastI, hm]
    clear hm
    go_enter Tryd.func30, Tryd.ntmps30
    go_wp2_with fail
    go_ret
    exact ⟨ret_int HK.out.symm, rfl⟩
  | cons i r =>
    have := least_cons n i r (by simpa using hn) hm w hT
    rwa [show leastI n = (i : Int) by rw [leastI, hm]]
theorem len64_c (w : World) :
    Calls Tryd.prog 67 #[.int .u64 8192] w fun e w' => e = .returned (.int .i64 14) ∧ w = w' := by
  go_enter Tryd.func67, Tryd.ntmps67
  go_wp2_with fail
  go_ret
  exact ⟨ret_int (by first | decide | decide +kernel), rfl⟩
end Go.Proofs.YtalfonpkefhlmaaDoor.S

