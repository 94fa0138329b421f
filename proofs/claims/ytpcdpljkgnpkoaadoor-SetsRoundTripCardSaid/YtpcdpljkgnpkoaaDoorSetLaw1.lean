/-
  DERIVED. The walks of lorrylaw05's Same, plain.
-/
import Derived.Test.YtpcdpljkgnpkoaaDoorRefSet7
namespace Go.Proofs.YtpcdpljkgnpkoaaDoor.S
open Go.RowKit
set_option maxRecDepth 8000

theorem same_len (A B : Option Addr) (ca cb : Nat) (la lb : List Nat) (h : la.length ≠ lb.length) (w : World) :
    Calls Tryd.prog 12 #[.slice A la.length ca, .slice B lb.length cb] w fun e w' => e = .returned (.bool (decide (la = lb))) ∧ Below w.heap.size w w' := by
  have HK : Hid (decide (la = lb) = false) := decide_eq_false (fun e => h (by rw [e]))
  have hne := ne_eqI h
  generalize decide (la = lb) = d at *
  generalize la.length = m at *
  generalize lb.length = n at *
  go_enter Tryd.func12, Tryd.ntmps12
  go_wp2_with fail
  go_ret
  exact ⟨ret_bool HK.out.symm, Below.refl _ _⟩
theorem below_drewN {B : Nat} {a w : World} (h : Below B a w) (n : Nat) : Below B a (w.drewN n) := ⟨h.os, h.tape, h.output, h.size, h.block⟩
set_option maxHeartbeats 800000 in
theorem same_eqlen (A B : Option Addr) (ca cb m : Nat) (la lb : List Nat) (hla : la.length = m) (hlb : lb.length = m) (hm9 : m ≤ 1000000) (w : World) (hA : Ar w A la) (hB : Ar w B lb) :
    Calls Tryd.prog 12 #[.slice A m ca, .slice B m cb] w fun e w' => e = .returned (.bool (decide (la = lb))) ∧ Below w.heap.size w w' := by
  have HA := Lib.hid hA
  have HB := Lib.hid hB
  have HLA := Lib.hid hla
  have HLB := Lib.hid hlb
  have HT : Hid (la.take m = lb.take m → decide (la = lb) = true) := fun h => by
    rw [List.take_of_length_le (by omega), List.take_of_length_le (by omega)] at h
    exact decide_eq_true h
  have HF : Hid (∀ k, la.getD k 0 ≠ lb.getD k 0 → decide (la = lb) = false) := fun k h => decide_eq_false (fun e => h (by rw [e]))
  generalize decide (la = lb) = d at *
  clear hA hB hla hlb
  go_enter Tryd.func12, Tryd.ntmps12
  go_wp2_with fail
  go_loopw [5] (fun i wr => ∃ k : Nat, k ≤ m ∧ i = .int .i64 k ∧ Hid (la.take k = lb.take k) ∧ Hid (Below w.heap.size w wr)) (fun i _ => m - (intOf i).toNat)
  case atStart => exact ⟨0, Nat.zero_le _, rfl, rfl, Below.refl _ _⟩
  case round =>
    obtain ⟨k, hk, rfl, HE, HW⟩ := hrel
    by_cases hlt : k < m
    · obtain ⟨ga, rfl, hga, hca⟩ := HA.out k (by rw [HLA.out]; exact hlt)
      obtain ⟨gb, rfl, hgb, hcb⟩ := HB.out k (by rw [HLB.out]; exact hlt)
      have hca2 := (HW.out.cell (p := ⟨ga, k, none⟩) hga).trans hca
      have hcb2 := (HW.out.cell (p := ⟨gb, k, none⟩) hgb).trans hcb
      have HFK := Lib.hid (HF.out k)
      have HTA := Lib.hid (take_more (l := la) (k := k) (by rw [HLA.out]; exact hlt))
      have HTB := Lib.hid (take_more (l := lb) (k := k) (by rw [HLB.out]; exact hlt))
      generalize la.getD k 0 = x at *
      generalize lb.getD k 0 = y at *
      clear hca hcb hga hgb
      by_cases hxy : x = y
      · subst hxy
        have HE2 : Hid (la.take (k + 1) = lb.take (k + 1)) := by show _ = _; rw [HTA.out, HTB.out, HE.out]
        go_wp2_with fail
        go_quiet (fail)
        go_wp2_with fail
        go_roundw
        case rel => exact ⟨k + 1, by omega, by go_num, HE2, below_drewN HW.out _⟩
        case measure => simp [intOf]; omega
      · have hne := ne_eqI hxy
        go_wp2_with fail
        go_quiet (fail)
        go_wp2_with fail
        go_ret
        exact ⟨ret_bool (HFK.out hxy).symm, below_drewN HW.out _⟩
    · have hk' : k = m := by omega
      subst hk'
      go_wp2_with fail
      go_ret
      exact ⟨ret_bool (HT.out HE.out).symm, HW.out⟩
theorem same_n (A B : Option Addr) (ca cb : Nat) (la lb : List Nat) (hm9 : lb.length ≤ 1000000) (w : World) (hA : Ar w A la) (hB : Ar w B lb) :
    Calls Tryd.prog 12 #[.slice A la.length ca, .slice B lb.length cb] w fun e w' => e = .returned (.bool (decide (la = lb))) ∧ Below w.heap.size w w' := by
  by_cases h : la.length = lb.length
  · have := same_eqlen A B ca cb lb.length la lb h rfl hm9 w hA hB
    rwa [← h] at this ⊢
  · exact same_len A B ca cb la lb h w

end Go.Proofs.YtpcdpljkgnpkoaaDoor.S

