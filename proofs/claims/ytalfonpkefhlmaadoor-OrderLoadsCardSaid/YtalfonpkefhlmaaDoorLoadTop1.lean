/-
  DERIVED. The walks of loads: Right, Fits, Trips and what they call.
-/
import Derived.Test.YtalfonpkefhlmaaDoorRefLoad4
import Derived.Shelf.Abstract
namespace Go.Proofs.YtalfonpkefhlmaaDoor.L
open Go.RowKit
set_option maxRecDepth 8000

theorem any_drop {l : List Int} {p : Int → Bool} {k : Nat} (h : k < l.length) : (l.drop k).any p = (p (l.getD k 0) || (l.drop (k + 1)).any p) := by
  rw [drop_more (d := 0) h, List.any_cons]

theorem isOutside_n (x : Int) (w : World) : Calls Tryd.prog 49 #[.int .i64 x] w fun e w' => e = .returned (.bool (outRange x)) ∧ w = w' := by
  by_cases h1 : x < 0
  · have HR : Hid (true = outRange x) := by show _ = _; unfold outRange; rw [decide_eq_true h1]; rfl
    generalize outRange x = r at *
    go_enter Tryd.func49, Tryd.ntmps49
    go_wp2_with fail
    go_ret
    exact ⟨ret_bool HR.out, rfl⟩
  · by_cases h2 : 1000 < x
    · have HR : Hid (true = outRange x) := by show _ = _; unfold outRange; rw [decide_eq_true h2, Bool.or_true]
      generalize outRange x = r at *
      go_enter Tryd.func49, Tryd.ntmps49
      go_wp2_with fail
      go_ret
      exact ⟨ret_bool HR.out, rfl⟩
    · have HR : Hid (false = outRange x) := by show _ = _; unfold outRange; rw [decide_eq_false h1, decide_eq_false h2]; rfl
      generalize outRange x = r at *
      go_enter Tryd.func49, Tryd.ntmps49
      go_wp2_with fail
      go_ret
      exact ⟨ret_bool HR.out, rfl⟩
/-- where the first number lies for which a predicate holds, or -1 -/
def IdxP (b : Bool) (w : World) (e : Ending) (w' : World) : Prop := ∃ r : Int, e = .returned (.int .i64 r) ∧ -1 ≤ r ∧ decide (0 ≤ r) = b ∧ w = w'
theorem indexFunc_n (u : Value) (l : List Int) (gf : FuncId) (eg : ∀ args w, (callFunc gf args).run Tryd.prog w = .ok (.enter gf args) w) (p : Int → Bool) (hl9 : l.length ≤ 1000000000000000) (hp : ∀ x w, Calls Tryd.prog gf #[.int .i64 x] w fun e w' => e = .returned (.bool (p x)) ∧ w = w') (w : World) (hu : Li w u l) :
    Calls Tryd.prog 58 #[u, .func (.func gf) #[] #[]] w (IdxP (l.any p) w) := by
  obtain ⟨oa, c, rfl, ha⟩ := hu
  have HR : Hid ((l.drop 0).any p = l.any p) := rfl
  generalize l.any p = r at *
  have HS := Lib.hid (fun k (hk : k < l.length) => any_drop (p := p) hk)
  have HE : Hid ((l.drop l.length).any p = false) := by show _ = _; rw [List.drop_length]; rfl
  have HA := Lib.hid ha
  have HP := Lib.hid hp
  generalize hn : l.length = n at *
  clear ha hn hp
  go_enter Tryd.func58, Tryd.ntmps58
  go_wp2_with fail
  go_loop [8] (fun i => ∃ k : Nat, k ≤ n ∧ i = .int .i64 k ∧ Hid ((l.drop k).any p = r)) (fun i => n - (intOf i).toNat)
  case atStart => exact ⟨0, Nat.zero_le _, rfl, HR⟩
  case round =>
    clear HR
    obtain ⟨k, hk, rfl, HR⟩ := hrel
    by_cases hlt : k < n
    · obtain ⟨ad, rfl, hab, hc⟩ := HA.out k hlt
      have HS2 := Lib.hid (HS.out k hlt)
      generalize l.getD k 0 = x at *
      have HP2 := Lib.hid (HP.out x)
      cases h1 : p x
      · have hf : Hid ((l.drop (k + 1)).any p = r) := by show _ = _; rw [← HR.out, HS2.out, h1]; rfl
        rw [h1] at HP2
        clear h1
        go_wp2_with fail
        refine (HP2.out _).mono ?_
        rintro e w1 ⟨rfl, rfl⟩
        go_wp2_with fail
        go_round
        case rel => exact ⟨k + 1, by omega, by go_num, hf⟩
        case measure => simp [intOf]; omega
      · have hf : Hid (true = r) := by show _ = _; rw [← HR.out, HS2.out, h1]; rfl
        rw [h1] at HP2
        clear h1
        go_wp2_with fail
        refine (HP2.out _).mono ?_
        rintro e w1 ⟨rfl, rfl⟩
        go_wp2_with fail
        go_ret
        exact ⟨(k : Int), rfl, by omega, by rw [← hf.out]; simp, rfl⟩
    · have hk' : k = n := by omega
      subst hk'
      have hf : Hid (false = r) := by show _ = _; rw [← HR.out, HE.out]
      go_wp2_with fail
      go_ret
      exact ⟨-1, rfl, by omega, by rw [← hf.out]; rfl, rfl⟩
theorem containsFunc_n (u : Value) (l : List Int) (gf : FuncId) (eg : ∀ args w, (callFunc gf args).run Tryd.prog w = .ok (.enter gf args) w) (p : Int → Bool) (hl9 : l.length ≤ 1000000000000000) (hp : ∀ x w, Calls Tryd.prog gf #[.int .i64 x] w fun e w' => e = .returned (.bool (p x)) ∧ w = w') (w : World) (hu : Li w u l) :
    Calls Tryd.prog 48 #[u, .func (.func gf) #[] #[]] w fun e w' => e = .returned (.bool (l.any p)) ∧ w = w' := by
  have HI := Lib.hid (indexFunc_n u l gf eg p hl9 hp w hu)
  generalize l.any p = r at *
  clear hp hu
  go_enter Tryd.func48, Tryd.ntmps48
  go_wp2_with fail
  refine HI.out.mono ?_
  rintro e w1 ⟨q, rfl, hq1, hq2, rfl⟩
  have HQ := Lib.hid hq2
  clear hq2
  go_wp2_with fail
  go_ret
  exact ⟨ret_bool HQ.out, rfl⟩

theorem loadRight_len (l : List Int) (d : Int) (oa : Option Addr) (c : Nat) (h : (l.length : Int) ≠ d) (w : World) :
    Calls Tryd.prog 36 #[.slice oa l.length c, .int .i64 d] w fun e w' => e = .returned (.bool (rightB l d)) ∧ w = w' := by
  have HR : Hid (false = rightB l d) := by show _ = _; unfold rightB; rw [decide_eq_false h]; rfl
  have hne := ne_eqI h
  generalize rightB l d = r at *
  generalize l.length = n at *
  go_enter Tryd.func36, Tryd.ntmps36
  go_wp2_with fail
  go_ret
  exact ⟨ret_bool HR.out, rfl⟩
theorem loadRight_n (u : Value) (l : List Int) (d : Int) (hl9 : l.length ≤ 1000000000000000) (w : World) (hu : Li w u l) :
    Calls Tryd.prog 36 #[u, .int .i64 d] w fun e w' => e = .returned (.bool (rightB l d)) ∧ w = w' := by
  by_cases h : (l.length : Int) = d
  · subst h
    have HR : Hid ((!l.any outRange) = rightB l l.length) := by show _ = _; unfold rightB; rw [decide_eq_true rfl, all_not_any]; rfl
    have HC := Lib.hid (containsFunc_n u l 49 (enters_of Tryd.func49 (by kernel_rfl) rfl) outRange hl9 isOutside_n w hu)
    obtain ⟨oa, c, rfl, -⟩ := hu
    generalize rightB l l.length = r at *
    generalize l.any outRange = q at *
    generalize l.length = n at *
    have hne : ((n : Int) == (n : Int)) = true := by simp
    go_enter Tryd.func36, Tryd.ntmps36
    go_wp2_with fail
    refine HC.out.mono ?_
    rintro e w1 ⟨rfl, rfl⟩
    go_wp2_with fail
    go_ret
    exact ⟨ret_bool HR.out, rfl⟩
  · obtain ⟨oa, c, rfl, -⟩ := hu
    exact loadRight_len l d oa c h w

end Go.Proofs.YtalfonpkefhlmaaDoor.L

