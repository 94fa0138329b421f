/-
  DERIVED. The walks of travel: quotientUp, between, arrival.
-/
import Derived.Test.YtegpebnkogjadaaDoorTravTop1
namespace Go.Proofs.YtegpebnkogjadaaDoor.T
open Go.RowKit
set_option maxRecDepth 8000

theorem quiet_eq {P : Program} {f : FuncId} {args : Array Value} {w : World} {n : Nat} {v : Value} (h : Calls P f args (w.drewN n) fun e w' => e = .returned v ∧ w.drewN n = w') :
    Calls P f args (w.drewN n) fun e w'' => e = .returned v ∧ ∃ m, w'' = w.drewN m := h.mono fun _ _ ⟨he, hm⟩ => ⟨he, n, hm.symm⟩
theorem quotientUp_n (x y z : Int) (hx : 0 ≤ x) (hx2 : x ≤ 1073741824) (hy : 0 < y) (hy2 : y ≤ 1073741824) (hz : (x + y - 1) / y = z) (_hz0 : 0 ≤ z) (_hz1 : z ≤ 1073741824) (w : World) : Calls Tryd.prog 77 #[.int .i64 x, .int .i64 y] w fun e w' => e = .returned (.int .i64 z) ∧ w = w' := by
  have hye : (y == 0) = false := ne_eqI (by omega)
  obtain ⟨a, ha⟩ : ∃ a, x + y - 1 = a := ⟨_, rfl⟩
  have ha2 : x + y = a + 1 := by omega
  have ha0 : 0 ≤ a := by omega
  have ha1 : a ≤ 2147483648 := by omega
  have hz' : a / y = z := by rw [← ha]; exact hz
  have HZ := Lib.hid hz'
  have ha3 : a + 1 - 1 = a := by omega
  clear hz ha hx hx2
  go_enter Tryd.func77, Tryd.ntmps77
  go_wp2_with fail
  go_ret
  exact ⟨ret_int HZ.out, rfl⟩
theorem between_n (x y x' y' t r : Int) (h0 : 0 ≤ x) (h1 : x ≤ t) (h2 : t < x') (h3 : x' ≤ 4096) (h4 : 0 ≤ y) (h5 : y ≤ y') (h6 : y' ≤ 8192) (hr : quo (x, y) (x', y') t = r) (w : World) :
    Calls Tryd.prog 73 #[.agg #[.int .i64 x, .int .i64 y], .agg #[.int .i64 x', .int .i64 y'], .int .i64 t] w fun e w' => e = .returned (.int .i64 r) ∧ Below w.heap.size w w' := by
  have g1 := quo_ge (p := (x, y)) (q := (x', y')) (t := t) h1 (by show x < x'; omega) h5
  have g2 := quo_le (p := (x, y)) (q := (x', y')) (t := t) h1 (by show t ≤ x'; omega) (by show x < x'; omega) h5
  rw [hr] at g1 g2
  simp only at g1 g2
  obtain ⟨s, hs⟩ : ∃ s, t - x = s := ⟨_, rfl⟩
  obtain ⟨e, he⟩ : ∃ e, y' - y = e := ⟨_, rfl⟩
  obtain ⟨D, hD⟩ : ∃ D, x' - x = D := ⟨_, rfl⟩
  obtain ⟨m, hm⟩ : ∃ m, s * e = m := ⟨_, rfl⟩
  have hm0 : 0 ≤ m := by rw [← hm]; exact Int.mul_nonneg (by omega) (by omega)
  have hm1 : m ≤ 33554432 := by
    rw [← hm]
    have := Int.mul_le_mul (show s ≤ 4096 by omega) (show e ≤ 8192 by omega) (by omega) (by omega)
    omega
  obtain ⟨z, hz⟩ : ∃ z, (m + D - 1) / D = z := ⟨_, rfl⟩
  have hyz : y + z = r := by
    rw [← hr]
    unfold quo
    show y + z = y + ((t - x) * (y' - y) + (x' - x) - 1) / (x' - x)
    rw [hs, he, hD, hm, hz]
  have K := Lib.hid (fun w => quotientUp_n m D z hm0 (by omega) (by omega) (by omega) hz (by omega) (by omega) w)
  clear hz hr
  go_enter Tryd.func73, Tryd.ntmps73
  go_wp2_with fail
  go_quiet ((go_at_call 77; exact quiet_eq (K.out _)))
  go_wp2_with fail
  go_ret
  exact ⟨rfl, below_drewN (by go_grown) _⟩
theorem arrival_n (u : Value) (l : List (Int × Int)) (t : Int) (h : Ok l) (ht0 : 0 ≤ t) (ht1 : t ≤ 1073741824) (w : World) (hu : Ps w u l) :
    Calls Tryd.prog 65 #[u, .int .i64 t] w fun e w' => e = .returned (.int .i64 (arr l t)) ∧ Below w.heap.size w w' := by
  obtain ⟨oa, c, rfl, ha⟩ := hu
  have HR : Hid (arr l t = arrX l t 0) := rfl
  have hr := arr_ge h ht0
  generalize arr l t = r at *
  have HA := Lib.hid ha
  have HG := Lib.hid (fun i (hi : i < l.length) => h.at hi)
  have HL := Lib.hid (fun i (hi : i + 1 < l.length) => h.lt hi)
  have HS := Lib.hid (fun k (hk : k < l.length) ht => arrX_step (t := t) hk ht)
  have HX0 := Lib.hid (fun hk => arr_first (l := l) (t := t) hk)
  have HXE := Lib.hid (fun k hk => arrX_end (l := l) (t := t) (k := k) hk)
  have HXM := Lib.hid (fun k hk => arrX_mid (l := l) (t := t) (k := k) hk)
  have hn1 := h.least
  have hn2 := h.most
  have HN := Lib.hid (rfl : l.length = l.length)
  generalize hn : l.length = n at *
  clear ha hn h HN
  go_enter Tryd.func65, Tryd.ntmps65
  go_wp2_with fail
  go_loop [5] (fun i => ∃ k : Nat, k ≤ n ∧ i = .int .i64 k ∧ Hid (r = arrX l t k) ∧ Hid (0 < k → (l.getD (k - 1) (0, 0)).1 ≤ t)) (fun i => n - (intOf i).toNat)
  case atStart => exact ⟨0, Nat.zero_le _, rfl, HR, fun h => absurd h (Nat.lt_irrefl _)⟩
  case round =>
    clear HR
    obtain ⟨k, hk, rfl, HR, HB⟩ := hrel
    by_cases hlt : k < n
    · obtain ⟨b, o, rfl, hab, hc0, hc1⟩ := HA.out k hlt
      have HG2 := HG.out k hlt
      have HS2 := Lib.hid (HS.out k hlt)
      have HXM2 := Lib.hid HXM.out
      unfold pT at hc0
      unfold pA at hc1
      by_cases ht : (l.getD k (0, 0)).1 ≤ t
      · have HR2 : Hid (r = arrX l t (k + 1)) := by show _ = _; rw [HR.out, HS2.out ht]
        have HB2 : Hid (0 < k + 1 → (l.getD (k + 1 - 1) (0, 0)).1 ≤ t) := fun _ => ht
        generalize l.getD k (0, 0) = q at *
        obtain ⟨x, y⟩ := q
        clear HXM2 HS2 HG2
        go_wp2_with fail
        go_round
        case rel => exact ⟨k + 1, by omega, by go_num, HR2, HB2⟩
        case measure => simp [intOf]; omega
      · have ht2 : t < (l.getD k (0, 0)).1 := by omega
        cases k with
        | zero =>
          have HF := Lib.hid (HX0.out hlt ht2)
          rw [← arrX_zero l t, ← HR.out] at HF
          simp only [Nat.zero_mul, Nat.add_zero] at hc0 hc1
          generalize l.getD 0 (0, 0) = q at *
          obtain ⟨x, y⟩ := q
          simp only at hc0 hc1 ht2 HG2
          have hF : t + (y - x) = r := HF.out.symm
          have hnI : (0 : Int) < (n : Int) := by omega
          clear HXM2 HS2
          go_wp2_with fail
          go_quiet (fail)
          go_wp2_with fail
          go_ret
          exact ⟨rfl, below_drewN (Below.refl _ _) _⟩
        | succ j =>
          obtain ⟨b', o', hbo, -, hd0, hd1⟩ := HA.out j (by omega)
          obtain ⟨rfl, rfl⟩ : b = b' ∧ o = o' := by simpa using hbo
          unfold pT at hd0
          unfold pA at hd1
          have HQ : Hid (quo (l.getD j (0, 0)) (l.getD (j + 1) (0, 0)) t = r) := by show _ = _; rw [HR.out, HXM2.out j hlt ht2]
          have hb1 := HB.out (by omega)
          simp only [Nat.add_sub_cancel] at hb1
          have HG3 := HG.out j (by omega)
          have HL3 := HL.out j hlt
          generalize l.getD (j + 1) (0, 0) = q at *
          generalize l.getD j (0, 0) = p at *
          obtain ⟨x, y⟩ := p
          obtain ⟨x', y'⟩ := q
          simp only at hc0 hc1 hd0 hd1 ht2 HG2 HG3 HL3 hb1
          have K := Lib.hid (fun w => between_n x y x' y' t r (by omega) hb1 ht2 (by omega) (by omega) (by omega) (by omega) HQ.out w)
          have e2 : (((j + 1 : Nat) : Int) == 0) = false := ne_eqI (by omega)
          have e3 : (((j + 1 : Nat) : Int) == (n : Int)) = false := ne_eqN (by omega)
          have hj0 : (0 : Int) ≤ (j : Int) := by omega
          have hj1 : (j : Int) < (n : Int) := by omega
          have hj2 : (j : Int) + 1 < (n : Int) := by omega
          have hj3 : (0 : Int) ≤ (j : Int) + 1 := by omega
          have hwj : IntKind.i64.wrap (j : Int) = (j : Int) := IntWalk.i64_in _ (by omega)
          clear HXM2 HS2 HG2 HG3 HL3 HQ HR HB hb1
          go_wp2_with fail
          go_region_with ((go_at_call 73; with_reducible refine (K.out _).mono ?_; rintro e wm ⟨rfl, bm⟩))
          all_goals
            go_wp2_with fail
            go_ret
            exact ⟨rfl, over (below_drew (Below.refl _ w)) bm⟩
    · have hk' : k = n := by omega
      subst hk'
      obtain ⟨j, rfl⟩ : ∃ j, k = j + 1 := ⟨k - 1, by omega⟩
      obtain ⟨b, o, rfl, hab, hc0, hc1⟩ := HA.out j (by omega)
      have HG2 := HG.out j (by omega)
      have HF := Lib.hid (HXE.out j rfl)
      rw [← HR.out] at HF
      unfold pT at hc0
      unfold pA at hc1
      generalize l.getD j (0, 0) = q at *
      obtain ⟨x, y⟩ := q
      simp only at hc0 hc1 HG2
      have hF : t + (y - x) = r := HF.out.symm
      have e2 : (((j + 1 : Nat) : Int) == 0) = false := ne_eqI (by omega)
      have hj0 : (0 : Int) ≤ (j : Int) := by omega
      have hj1 : (j : Int) < ((j + 1 : Nat) : Int) := by omega
      clear HR HB
      go_wp2_with fail
      go_quiet (fail)
      go_wp2_with fail
      go_ret
      exact ⟨rfl, below_drewN (Below.refl _ _) _⟩

end Go.Proofs.YtegpebnkogjadaaDoor.T

