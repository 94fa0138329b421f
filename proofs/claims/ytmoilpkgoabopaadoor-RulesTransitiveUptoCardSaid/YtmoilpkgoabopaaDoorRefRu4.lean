/-
  DERIVED. The walk of lorryref12's reach.
-/
import Derived.Test.YtmoilpkgoabopaaDoorRefRu3
namespace Go.Proofs.YtmoilpkgoabopaaDoor.T
open Go.RowKit
set_option maxRecDepth 8000

theorem step_lt {n f s : Nat} {p : Int × Int} (hs : s < 2 ^ n) (hp : U.pb p < n) : U.stepR f s p < 2 ^ n := U.has_lt fun i hi => by
  rw [U.step_has, Bool.or_eq_true, Bool.and_eq_true, decide_eq_true_iff] at hi
  rcases hi with hi | ⟨-, rfl⟩
  · exact U.lt_has hs hi
  · exact hp
theorem round_take {f s : Nat} {l : List (Int × Int)} {i : Nat} (h : i < l.length) : U.roundR f (l.take (i + 1)) s = U.stepR f (U.roundR f (l.take i) s) (l.getD i (0, 0)) := by
  unfold U.roundR
  rw [take_more (d := (0, 0)) h, List.foldl_append]
  rfl
theorem fold_lt {n f : Nat} {l : List (Int × Int)} (hr : U.Rt n l) {s : Nat} (hs : s < 2 ^ n) : ∀ i, i ≤ l.length → U.roundR f (l.take i) s < 2 ^ n
  | 0, _ => by rw [List.take_zero]; exact hs
  | i + 1, h => by
    rw [round_take (by omega)]
    exact step_lt (fold_lt hr hs i (by omega)) (hr.a (getD_mem (by omega))).2.1
theorem pow62 {n x : Nat} (hn : n ≤ 62) (h : x < 2 ^ n) : x < 4611686018427387904 := Nat.lt_of_lt_of_le h (S.pow_le62 hn)

set_option maxHeartbeats 3200000 in
theorem reach12_n (n : Nat) (v : Value) (l : List (Int × Int)) (f : Nat) (hn : n ≤ 62) (hr : U.Rt n l) (hl : l.length ≤ 1000000) (w : World) (hv : Ps w v l) :
    Calls Tryd.prog 31 #[.int .i64 n, v, .int .i64 f] w fun e w' => e = .returned (.int .i64 (U.reach n l f : Nat)) ∧ w = w' := by
  have HV := Lib.hid hv
  obtain ⟨oa, c, rfl, -⟩ := hv
  have HE : Hid (U.reachK f l (n + 1) = U.reach n l f) := rfl
  have HS : Hid (∀ k, U.reachK f l (k + 1) = U.roundR f l (U.reachK f l k)) := fun _ => rfl
  have H0 : Hid (U.reachK f l 0 = 0) := rfl
  have HLt := Lib.hid (fun k => U.reach_lt hr f k)
  have HFl : Hid (∀ s, s < 2 ^ n → ∀ i, i ≤ l.length → U.roundR f (l.take i) s < 2 ^ n) := fun s hs i hi => fold_lt hr hs i hi
  have HSt := Lib.hid (fun s i (hi : i < l.length) => round_take (f := f) (s := s) hi)
  have HTk : Hid (∀ s, U.roundR f (l.take l.length) s = U.roundR f l s) := fun s => by rw [List.take_length]
  have HT0 : Hid (∀ s, U.roundR f (l.take 0) s = s) := fun s => by rw [List.take_zero]; rfl
  have HRt := Lib.hid hr
  generalize U.reach n l f = r at *
  generalize hm : l.length = m at *
  have HM := Lib.hid hm
  clear hr hm
  go_enter Tryd.func31, Tryd.ntmps31
  go_wp2_with fail
  go_loopg [7, 8] (n + 1) (fun g s j wr => ∃ k : Nat, k ≤ n + 1 ∧ j = .int .i64 k ∧ n + 1 - k ≤ g ∧ s = .int .i64 (U.reachK f l k : Nat) ∧ w = wr)
  case atStart => exact ⟨0, Nat.zero_le _, rfl, Nat.le_refl _, by rw [H0.out]; rfl, rfl⟩
  case round =>
    obtain ⟨k, hk, rfl, hg, rfl, rfl⟩ := hrel
    by_cases hlt : k ≤ n
    · have hkI : (k : Int) ≤ (n : Int) := by omega
      have HK := Lib.hid (HLt.out k)
      have HSk := Lib.hid (HS.out k)
      generalize U.reachK f l k = s0 at *
      have HFk := Lib.hid (fun i hi => HFl.out s0 HK.out i hi)
      have HT0k := Lib.hid (HT0.out s0)
      have HTkk := Lib.hid (HTk.out s0)
      have HStk := Lib.hid (fun i hi => HSt.out s0 i hi)
      clear HS H0 HLt HFl HT0 HTk HSt
      go_wp2_with fail
      go_loopg [7, 9] m (fun g2 s j wr => ∃ i : Nat, i ≤ m ∧ j = .int .i64 i ∧ m - i ≤ g2 ∧ s = .int .i64 (U.roundR f (l.take i) s0 : Nat) ∧ w = wr)
      case atStart => exact ⟨0, Nat.zero_le _, rfl, Nat.le_refl _, by rw [HT0k.out], rfl⟩
      case round =>
        obtain ⟨i, hi, rfl, hg2, rfl, rfl⟩ := hrel
        by_cases hilt : i < m
        · have hil : i < l.length := by rw [HM.out]; exact hilt
          have hiI : (i : Int) < (m : Int) := by omega
          obtain ⟨b, o, rfl, hab, x0, x1⟩ := ps_at (by have := HV.out; rw [← HM.out] at this; exact this) hil
          have hp := HRt.out.a (getD_mem (d := (0, 0)) hil)
          have hs9 := pow62 hn (HFk.out i hi)
          have HN := Lib.hid (HStk.out i hilt)
          have hs2 := pow62 hn (HFk.out (i + 1) hilt)
          rw [HN.out] at hs2
          generalize U.roundR f (l.take i) s0 = s at *
          generalize l.getD i (0, 0) = p at *
          have ha : U.pa p ≤ 62 := by omega
          have hb : U.pb p ≤ 62 := by omega
          rw [hp.2.2.2] at x0 x1
          simp only at x0 x1
          have KA := Lib.hid (fun w => has12_n s (U.pa p) (by omega) ha w)
          have KB := Lib.hid (fun w => has12_n s (U.pb p) (by omega) hb w)
          have HSp : Hid (U.stepR f s p = if (decide (U.pa p = f) || S.has s (U.pa p)) && !S.has s (U.pb p) then s + 2 ^ U.pb p else s) := rfl
          obtain ⟨P, hP⟩ : ∃ P, 2 ^ U.pb p = P := ⟨_, rfl⟩
          have KP := Lib.hid (fun w => bit12_e (U.pb p) P hb hP w)
          have hPle := S.pow_le62 hb
          rw [hP] at HSp hPle
          generalize U.stepR f s p = s' at *
          generalize S.has s (U.pa p) = ca at *
          generalize S.has s (U.pb p) = cb at *
          generalize U.pa p = x at *
          generalize U.pb p = y at *
          clear hp hP
          by_cases hxf : x = f
          · subst hxf
            cases cb
            · skip
              have HR : Hid (s' = s + P) := by show _ = _; rw [HSp.out]; simp 
              clear HSp
              go_wp2_with fail
              refine (KB.out _).mono ?_
              rintro e w1 ⟨rfl, rfl⟩
              go_wp2_with fail
              refine (KP.out _).mono ?_
              rintro e w1 ⟨rfl, rfl⟩
              go_wp2_with fail
              go_roundg (m - (i + 1))
              case measure => omega
              case rel => exact ⟨i + 1, by omega, by go_num, by omega, by rw [HN.out, HR.out]; rfl, rfl⟩
            · skip
              have HR : Hid (s' = s) := by show _ = _; rw [HSp.out]; simp 
              clear HSp
              go_wp2_with fail
              refine (KB.out _).mono ?_
              rintro e w1 ⟨rfl, rfl⟩
              go_wp2_with fail
              go_roundg (m - (i + 1))
              case measure => omega
              case rel => exact ⟨i + 1, by omega, by go_num, by omega, by rw [HN.out, HR.out], rfl⟩
          · have hxfI := ne_eqN hxf
            cases ca
            · skip
              have HR : Hid (s' = s) := by show _ = _; rw [HSp.out]; simp [hxf]
              clear HSp
              go_wp2_with fail
              refine (KA.out _).mono ?_
              rintro e w1 ⟨rfl, rfl⟩
              go_wp2_with fail
              go_roundg (m - (i + 1))
              case measure => omega
              case rel => exact ⟨i + 1, by omega, by go_num, by omega, by rw [HN.out, HR.out], rfl⟩
            · cases cb
              · skip
                have HR : Hid (s' = s + P) := by show _ = _; rw [HSp.out]; simp 
                clear HSp
                go_wp2_with fail
                refine (KA.out _).mono ?_
                rintro e w1 ⟨rfl, rfl⟩
                go_wp2_with fail
                refine (KB.out _).mono ?_
                rintro e w1 ⟨rfl, rfl⟩
                go_wp2_with fail
                refine (KP.out _).mono ?_
                rintro e w1 ⟨rfl, rfl⟩
                go_wp2_with fail
                go_roundg (m - (i + 1))
                case measure => omega
                case rel => exact ⟨i + 1, by omega, by go_num, by omega, by rw [HN.out, HR.out]; rfl, rfl⟩
              · skip
                have HR : Hid (s' = s) := by show _ = _; rw [HSp.out]; simp 
                clear HSp
                go_wp2_with fail
                refine (KA.out _).mono ?_
                rintro e w1 ⟨rfl, rfl⟩
                go_wp2_with fail
                refine (KB.out _).mono ?_
                rintro e w1 ⟨rfl, rfl⟩
                go_wp2_with fail
                go_roundg (m - (i + 1))
                case measure => omega
                case rel => exact ⟨i + 1, by omega, by go_num, by omega, by rw [HN.out, HR.out], rfl⟩
        · have hii : i = m := by omega
          subst hii
          have HX : Hid (U.roundR f (l.take i) s0 = U.reachK f l (k + 1)) := HTkk.out.trans HSk.out.symm
          go_wp2_with fail
          go_roundg (n + 1 - (k + 1))
          case measure => omega
          case rel => exact ⟨k + 1, by omega, by go_num, by omega, by rw [HX.out], rfl⟩
    · have hkk : k = n + 1 := by omega
      subst hkk
      have hkI : ¬ ((n + 1 : Nat) : Int) ≤ (n : Int) := by omega
      go_wp2_with fail
      go_ret
      exact ⟨ret_int (by rw [HE.out]), rfl⟩

end Go.Proofs.YtmoilpkgoabopaaDoor.T

