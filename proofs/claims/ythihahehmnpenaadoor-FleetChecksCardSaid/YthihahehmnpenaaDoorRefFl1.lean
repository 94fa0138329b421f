/-
  DERIVED. The walks of the specification's in, Dims, Total, known, capacity.
-/
import Derived.Test.YthihahehmnpenaaDoorFlRow
import Derived.Test.YthihahehmnpenaaDoorFlBase
namespace Go.Proofs.YthihahehmnpenaaDoor.T
open Go.RowKit
set_option maxRecDepth 8000

theorem in_n (x lo hi : Int) (w : World) : Calls Tryd.prog 23 #[.int .i64 x, .int .i64 lo, .int .i64 hi] w fun e w' => e = .returned (.bool (rgB lo hi x)) ∧ w = w' := by
  by_cases h1 : lo ≤ x
  · have HR : Hid (decide (x ≤ hi) = rgB lo hi x) := by show _ = _; unfold rgB; rw [decide_eq_true h1, Bool.true_and]
    generalize rgB lo hi x = r at *
    go_enter Tryd.func23, Tryd.ntmps23
    go_wp2_with fail
    go_ret
    exact ⟨ret_bool HR.out, rfl⟩
  · have HR : Hid (false = rgB lo hi x) := by show _ = _; unfold rgB; rw [decide_eq_false h1, Bool.false_and]
    have h2 : x < lo := by omega
    generalize rgB lo hi x = r at *
    go_enter Tryd.func23, Tryd.ntmps23
    go_wp2_with fail
    go_ret
    exact ⟨ret_bool HR.out, rfl⟩

theorem refDims_n (v : Value) (l : List TyT) (hl : l.length ≤ 1000000000) (w : World) (hv : Ts w v l) :
    Calls Tryd.prog 14 #[v] w fun e w' => e = .returned (.int .i64 (dimsF l : Nat)) ∧ w = w' := by
  obtain ⟨oa, c, rfl, ha⟩ := hv
  by_cases h : l.length = 0
  · have hl0 : l = [] := List.eq_nil_of_length_eq_zero h
    subst hl0
    go_enter Tryd.func14, Tryd.ntmps14
    go_wp2_with fail
    go_ret
    exact ⟨rfl, rfl⟩
  · obtain ⟨b, o, vc, rfl, hb, ⟨h0, h1, h2, h3, h4, h5, h6, h7, h8, h9, h10, h11, h12, h13⟩, hc⟩ := ha 0 (by omega)
    obtain ⟨oc, cc, rfl, -⟩ := hc
    have hd : Hid ((l.getD 0 ty0).cap.length = dimsF l) := rfl
    have hne : ((l.length : Int) == 0) = false := ne_eqN h
    have hpos : (0 : Int) < (l.length : Int) := by omega
    simp only [Nat.zero_mul, Nat.add_zero] at h0 h1 h2 h3 h4 h5 h6 h7 h8 h9 h10 h11 h12 h13
    generalize dimsF l = d at *
    generalize (l.getD 0 ty0).cap.length = d' at *
    generalize l.length = n at *
    go_enter Tryd.func14, Tryd.ntmps14
    go_wp2_with fail
    go_ret
    exact ⟨ret_int (by rw [hd.out]), rfl⟩

set_option maxHeartbeats 1600000 in
theorem refTotal_n (v : Value) (l : List TyT) (hl : l.length ≤ 1000000000) (w : World) (hv : Ts w v l) :
    Calls Tryd.prog 16 #[v] w fun e w' => e = .returned (.int .i64 (totF l)) ∧ Below w.heap.size w w' := by
  obtain ⟨oa, c, rfl, ha⟩ := hv
  have HA := Lib.hid ha
  have HE : Hid (totK l l.length = totF l) := rfl
  have HS : Hid (∀ k, totK l (k + 1) = totK l k + if rgB 0 10 (l.getD k ty0).count then (l.getD k ty0).count else 0) := fun _ => rfl
  have HB := Lib.hid (tot_bd l)
  have H0 : Hid (totK l 0 = 0) := rfl
  generalize totF l = r at *
  generalize hn : l.length = n at *
  clear ha hn
  go_enter Tryd.func16, Tryd.ntmps16
  go_wp2_with fail
  go_loopw [3, 4] (fun t i wr => ∃ k : Nat, k ≤ n ∧ i = .int .i64 k ∧ t = .int .i64 (totK l k) ∧ Hid (Below w.heap.size w wr)) (fun _ i _ => n - (intOf i).toNat)
  case atStart => exact ⟨0, Nat.zero_le _, rfl, by rw [H0.out], Below.refl _ _⟩
  case round =>
    obtain ⟨k, hk, rfl, rfl, HW⟩ := hrel
    by_cases hlt : k < n
    · obtain ⟨b, o, vc, rfl, hab, ⟨-, h1, -⟩, -⟩ := HA.out k hlt
      have d1 := (HW.out.cell (p := ⟨b, _, none⟩) hab).trans h1
      have hkI : (k : Int) < (n : Int) := by omega
      have hbd := HB.out k
      have HSk := Lib.hid (HS.out k)
      have KI := Lib.hid (fun w => in_n (l.getD k ty0).count 0 10 w)
      clear h1
      generalize (l.getD k ty0).count = x at *
      generalize totK l k = y at *
      cases hr : rgB 0 10 x
      · rw [hr] at KI
        have HX : Hid (totK l (k + 1) = y) := by show _ = _; rw [HSk.out, hr]; exact Int.add_zero _
        clear hr HSk
        go_wp2_with fail
        refine (KI.out _).mono ?_
        rintro e w1 ⟨rfl, rfl⟩
        go_wp2_with fail
        go_roundw
        case rel => exact ⟨k + 1, by omega, by go_num, by rw [HX.out], HW⟩
        case measure => simp [intOf] <;> omega
      · rw [hr] at KI
        have HX : Hid (totK l (k + 1) = y + x) := by show _ = _; rw [HSk.out, hr]; rfl
        unfold rgB at hr
        rw [Bool.and_eq_true, decide_eq_true_iff, decide_eq_true_iff] at hr
        obtain ⟨x0, x1⟩ := hr
        clear HSk
        go_wp2_with fail
        refine (KI.out _).mono ?_
        rintro e w1 ⟨rfl, rfl⟩
        go_wp2_with fail
        go_roundw
        case rel => exact ⟨k + 1, by omega, by go_num, by rw [HX.out], HW⟩
        case measure => simp [intOf] <;> omega
    · have hk' : k = n := by omega
      subst hk'
      have HR := Lib.hid HE.out
      go_wp2_with fail
      go_ret
      exact ⟨ret_int (by rw [HR.out]), HW.out⟩

theorem known_zero (l : List TyT) (s : ByteArray) : knownB l s 0 = false := rfl
theorem known_step {l : List TyT} {s : ByteArray} {k : Nat} (hk : k < l.length) : knownB l s (k + 1) = (knownB l s k || ((l.getD k ty0).name.toList == s.toList)) := by
  unfold knownB
  rw [take_more (d := ty0) hk, List.any_append]
  simp
theorem known_more {l : List TyT} {s : ByteArray} {k i : Nat} (hk : k ≤ i) (h : knownB l s k = true) : knownB l s i = true := by
  unfold knownB at *
  rw [List.any_eq_true] at *
  obtain ⟨x, hx, hp⟩ := h
  exact ⟨x, (List.take_subset_take_left l hk) hx, hp⟩

set_option maxHeartbeats 1600000 in
theorem refKnown_n (v : Value) (l : List TyT) (i : Nat) (s : ByteArray) (hl : l.length ≤ 1000000000) (hi : i ≤ l.length) (w : World) (hv : Ts w v l) :
    Calls Tryd.prog 36 #[v, .int .i64 i, .string s] w fun e w' => e = .returned (.bool (knownB l s i)) ∧ Below w.heap.size w w' := by
  obtain ⟨oa, c, rfl, ha⟩ := hv
  have HA := Lib.hid ha
  have HS := Lib.hid (fun k (hk : k < l.length) => known_step (s := s) hk)
  have HM := Lib.hid (fun k (hk : k ≤ i) h => known_more (l := l) (s := s) hk h)
  have H0 := Lib.hid (known_zero l s)
  have HE : Hid (knownB l s i = knownB l s i) := rfl
  generalize hr : knownB l s i = r at HE HM ⊢
  clear HE
  have HE := Lib.hid hr
  generalize hn : l.length = n at *
  clear ha hn hr
  go_enter Tryd.func36, Tryd.ntmps36
  go_wp2_with fail
  go_loopw [7] (fun j wr => ∃ k : Nat, k ≤ i ∧ j = .int .i64 k ∧ Hid (knownB l s k = false) ∧ Hid (Below w.heap.size w wr)) (fun j _ => i - (intOf j).toNat)
  case atStart => exact ⟨0, Nat.zero_le _, rfl, H0, Below.refl _ _⟩
  case round =>
    obtain ⟨k, hk, rfl, HK, HW⟩ := hrel
    by_cases hlt : k < i
    · obtain ⟨b, o, vc, rfl, hab, ⟨h0, -⟩, -⟩ := HA.out k (by omega)
      have d0 := (HW.out.cell (p := ⟨b, _, none⟩) hab).trans h0
      have hkI : (k : Int) < (i : Int) := by omega
      have hkN : (k : Int) < (n : Int) := by omega
      have HSk := Lib.hid (HS.out k (by omega))
      have HMk := Lib.hid (HM.out (k + 1) (by omega))
      clear h0
      generalize (l.getD k ty0).name = x at *
      rw [HK.out, Bool.false_or] at HSk
      cases hx : (x.toList == s.toList)
      · have HK1 : Hid (knownB l s (k + 1) = false) := by show _ = _; rw [HSk.out, hx]
        go_wp2_with fail
        go_roundw
        case rel => exact ⟨k + 1, by omega, by go_num, HK1, HW⟩
        case measure => simp [intOf] <;> omega
      · have HR : Hid (r = true) := HMk.out (by rw [HSk.out, hx])
        go_wp2_with fail
        go_ret
        exact ⟨ret_bool (by rw [HR.out]), HW.out⟩
    · have hk' : k = i := by omega
      subst hk'
      have HR : Hid (r = false) := by show _ = _; rw [← HE.out, HK.out]
      go_wp2_with fail
      go_ret
      exact ⟨ret_bool (by rw [HR.out]), HW.out⟩

end Go.Proofs.YthihahehmnpenaaDoor.T

