/-
  DERIVED. RefFl2: a part of the base of layer 13 (made by pack.py).
-/
import Derived.Test.YtnapmildbodigaaDoorHL
/-! The walks of the specification's capacity and Able. -/
namespace Go.Proofs.YtnapmildbodigaaDoor.T
open Go.RowKit
set_option maxRecDepth 8000

theorem all_step {l : List Int} {k : Nat} (h : k < l.length) (p : Int → Bool) : (l.take (k + 1)).all p = ((l.take k).all p && p (l.getD k 0)) := by
  rw [take_more (d := 0) h, List.all_append]
  simp
theorem all_no {l : List Int} {k : Nat} (h : k < l.length) {p : Int → Bool} (hp : p (l.getD k 0) = false) : l.all p = false := by
  rw [List.all_eq_false]
  exact ⟨l.getD k 0, getD_mem h, by rw [hp]; simp⟩
set_option maxHeartbeats 1600000 in
theorem refCapacity_n (u : Value) (l : List Int) (d : Nat) (hl : l.length ≤ 1000000000) (w : World) (hu : L.Li w u l) :
    Calls Tryd.prog 69 #[u, .int .i64 d] w fun e w' => e = .returned (.bool (capB l d)) ∧ w = w' := by
  obtain ⟨oa, c, rfl, ha⟩ := hu
  have HA := Lib.hid ha
  have HC : Hid ((rgB 1 3 l.length && decide (l.length = d) && l.all (rgB 0 1000)) = capB l d) := rfl
  have K0 := Lib.hid (fun w => in_n (l.length : Int) 1 3 w)
  have HS := Lib.hid (fun k (h : k < l.length) => all_step h (rgB 0 1000))
  have HNo := Lib.hid (fun k (h : k < l.length) (hp : rgB 0 1000 (l.getD k 0) = false) => all_no h hp)
  have HZ : Hid ((l.take 0).all (rgB 0 1000) = true) := rfl
  have HE : Hid ((l.take l.length).all (rgB 0 1000) = l.all (rgB 0 1000)) := by show _ = _; rw [List.take_length]
  generalize capB l d = r at *
  generalize hn : l.length = n at *
  generalize rgB 1 3 (n : Int) = b0 at *
  clear ha hn
  cases b0
  · have HR : Hid (false = r) := by show _ = _; rw [← HC.out]; rfl
    go_enter Tryd.func69, Tryd.ntmps69
    go_wp2_with fail
    refine (K0.out _).mono ?_
    rintro e w1 ⟨rfl, rfl⟩
    go_wp2_with fail
    go_ret
    exact ⟨ret_bool HR.out, rfl⟩
  by_cases hd : n = d
  · subst hd
    have hne : ((n : Int) != (n : Int)) = false := by simp
    have HC2 : Hid (l.all (rgB 0 1000) = r) := by show _ = _; rw [← HC.out, decide_eq_true rfl]; rfl
    go_enter Tryd.func69, Tryd.ntmps69
    go_wp2_with fail
    refine (K0.out _).mono ?_
    rintro e w1 ⟨rfl, rfl⟩
    go_wp2_with fail
    go_loopw [5] (fun j wr => ∃ k : Nat, k ≤ n ∧ j = .int .i64 k ∧ Hid ((l.take k).all (rgB 0 1000) = true) ∧ w = wr) (fun j _ => n - (intOf j).toNat)
    case atStart => exact ⟨0, Nat.zero_le _, rfl, HZ, rfl⟩
    case round =>
      obtain ⟨k, hk, rfl, HK, rfl⟩ := hrel
      by_cases hlt : k < n
      · obtain ⟨a, rfl, hab, hc0⟩ := HA.out k hlt
        have d0 := hc0
        have hkI : (k : Int) < (n : Int) := by omega
        have HSk := Lib.hid (HS.out k hlt)
        have HNk := Lib.hid (HNo.out k hlt)
        have KI := Lib.hid (fun w => in_n (l.getD k 0) 0 1000 w)
        generalize l.getD k 0 = x at *
        rw [HK.out, Bool.true_and] at HSk
        cases hr : rgB 0 1000 x
        · rw [hr] at KI HNk
          have HR : Hid (false = r) := by show _ = _; rw [← HC2.out, HNk.out rfl]
          go_wp2_with fail
          refine (KI.out _).mono ?_
          rintro e w2 ⟨rfl, rfl⟩
          go_wp2_with fail
          go_ret
          exact ⟨ret_bool HR.out, rfl⟩
        · rw [hr] at KI HSk
          go_wp2_with fail
          refine (KI.out _).mono ?_
          rintro e w2 ⟨rfl, rfl⟩
          go_wp2_with fail
          go_roundw
          case rel => exact ⟨k + 1, by omega, by go_num, HSk, by first | trivial | rfl⟩
          case measure => simp [intOf] <;> omega
      · have hk' : k = n := by omega
        subst hk'
        have HR : Hid (true = r) := by show _ = _; rw [← HC2.out, ← HE.out, HK.out]
        go_wp2_with fail
        go_ret
        exact ⟨ret_bool HR.out, rfl⟩
  · have hne : ((n : Int) != (d : Int)) = true := ne_neN hd
    have HR : Hid (false = r) := by show _ = _; rw [← HC.out, decide_eq_false hd]; rfl
    go_enter Tryd.func69, Tryd.ntmps69
    go_wp2_with fail
    refine (K0.out _).mono ?_
    rintro e w1 ⟨rfl, rfl⟩
    go_wp2_with fail
    go_ret
    exact ⟨ret_bool HR.out, rfl⟩

/-! ### skills -/
end Go.Proofs.YtnapmildbodigaaDoor.T



