/-
  DERIVED. The walks of lorryref06's Right, Fits, Same, even and of the laws' within, all.
-/
import Derived.Test.YtcnagcdgpgijaaaLoadPure
namespace Go.Proofs.Ytcnagcdgpgijaaa.L
open Go.RowKit
set_option maxRecDepth 8000

theorem all_drop {l : List Int} {p : Int → Bool} {k : Nat} (h : k < l.length) : (l.drop k).all p = (p (l.getD k 0) && (l.drop (k + 1)).all p) := by
  rw [drop_more (d := 0) h, List.all_cons]

theorem within_n (m : Int) (hm0 : 0 ≤ m) (hm1 : m ≤ 9000000000000000000) (u : Value) (l : List Int) (hl9 : l.length ≤ 1000000000000000) (w : World) (hu : Li w u l) :
    Calls Try.prog 14 #[u, .int .i64 m] w fun e w' => e = .returned (.bool (withinB m l)) ∧ w = w' := by
  obtain ⟨oa, c, rfl, ha⟩ := hu
  obtain ⟨p, hp⟩ : ∃ p : Int → Bool, (fun x => decide (-m ≤ x) && decide (x ≤ m)) = p := ⟨_, rfl⟩
  have HP : Hid (∀ x, p x = (decide (-m ≤ x) && decide (x ≤ m))) := fun x => by rw [← hp]
  have HR : Hid (l.all p = withinB m l) := by show _ = _; rw [← hp]; rfl
  generalize withinB m l = r at *
  have HS := Lib.hid (fun k (h : k < l.length) => all_drop (p := p) h)
  have HE : Hid ((l.drop l.length).all p = true) := by show _ = _; rw [List.drop_length]; rfl
  have HA := Lib.hid ha
  have hwm : IntKind.i64.wrap (-m) = -m := IntWalk.i64_in _ (by omega)
  generalize hn : l.length = n at *
  clear ha hp hn
  go_enter Try.func14, Try.ntmps14
  go_wp2_with fail
  go_loop [9] (fun i => ∃ k : Nat, k ≤ n ∧ i = .int .i64 k ∧ Hid ((l.drop k).all p = r)) (fun i => n - (intOf i).toNat)
  case atStart => exact ⟨0, Nat.zero_le _, rfl, HR⟩
  case round =>
    clear HR
    obtain ⟨k, hk, rfl, HR⟩ := hrel
    by_cases hlt : k < n
    · obtain ⟨ad, rfl, hab, hc⟩ := HA.out k hlt
      have HS2 := Lib.hid (HS.out k hlt)
      have HP2 := Lib.hid (HP.out (l.getD k 0))
      generalize l.getD k 0 = x at *
      by_cases h1 : x < -m
      · have hf : Hid (false = r) := by show _ = _; rw [← HR.out, HS2.out, HP2.out]; simp; omega
        go_wp2_with fail
        go_ret
        exact ⟨ret_bool hf.out, rfl⟩
      · by_cases h2 : m < x
        · have hf : Hid (false = r) := by show _ = _; rw [← HR.out, HS2.out, HP2.out]; simp; omega
          go_wp2_with fail
          go_ret
          exact ⟨ret_bool hf.out, rfl⟩
        · have hf : Hid ((l.drop (k + 1)).all p = r) := by
            show _ = _
            rw [← HR.out, HS2.out, HP2.out, decide_eq_true (show -m ≤ x by omega), decide_eq_true (show x ≤ m by omega)]; rfl
          go_wp2_with fail
          go_round
          case rel => exact ⟨k + 1, by omega, by go_num, hf⟩
          case measure => simp [intOf]; omega
    · have hk' : k = n := by omega
      subst hk'
      have hf : Hid (true = r) := by show _ = _; rw [← HR.out, HE.out]
      go_wp2_with fail
      go_ret
      exact ⟨ret_bool hf.out, rfl⟩

theorem refRight_len (l : List Int) (d : Int) (oa : Option Addr) (c : Nat) (h : (l.length : Int) ≠ d) (w : World) :
    Calls Try.prog 10 #[.slice oa l.length c, .int .i64 d] w fun e w' => e = .returned (.bool (rightB l d)) ∧ w = w' := by
  have HR : Hid (false = rightB l d) := by show _ = _; unfold rightB; rw [decide_eq_false h]; rfl
  have hne := ne_neI h
  generalize rightB l d = r at *
  generalize l.length = n at *
  go_enter Try.func10, Try.ntmps10
  go_wp2_with fail
  go_ret
  exact ⟨ret_bool HR.out, rfl⟩
theorem inRange_eq (x : Int) : inRange x = (decide (0 ≤ x) && decide (x ≤ 1000)) := rfl
theorem refRight_n (u : Value) (l : List Int) (d : Int) (hl9 : l.length ≤ 1000000000000000) (w : World) (hu : Li w u l) :
    Calls Try.prog 10 #[u, .int .i64 d] w fun e w' => e = .returned (.bool (rightB l d)) ∧ w = w' := by
  obtain ⟨oa, c, rfl, ha⟩ := hu
  by_cases h : (l.length : Int) = d
  · subst h
    have HR : Hid (l.all inRange = rightB l l.length) := by show _ = _; unfold rightB; rw [decide_eq_true rfl]; rfl
    generalize rightB l l.length = r at *
    have HS := Lib.hid (fun k (h : k < l.length) => all_drop (p := inRange) h)
    have HE : Hid ((l.drop l.length).all inRange = true) := by show _ = _; rw [List.drop_length]; rfl
    have HA := Lib.hid ha
    generalize hn : l.length = n at *
    have hne : ((n : Int) != (n : Int)) = false := by simp
    clear ha hn
    go_enter Try.func10, Try.ntmps10
    go_wp2_with fail
    go_loop [5] (fun i => ∃ k : Nat, k ≤ n ∧ i = .int .i64 k ∧ Hid ((l.drop k).all inRange = r)) (fun i => n - (intOf i).toNat)
    case atStart => exact ⟨0, Nat.zero_le _, rfl, HR⟩
    case round =>
      clear HR
      obtain ⟨k, hk, rfl, HR⟩ := hrel
      by_cases hlt : k < n
      · obtain ⟨ad, rfl, hab, hc⟩ := HA.out k hlt
        have HS2 := Lib.hid (HS.out k hlt)
        have HP2 := Lib.hid (inRange_eq (l.getD k 0))
        generalize l.getD k 0 = x at *
        by_cases h1 : x < 0
        · have hf : Hid (false = r) := by show _ = _; rw [← HR.out, HS2.out, HP2.out]; simp; omega
          go_wp2_with fail
          go_ret
          exact ⟨ret_bool hf.out, rfl⟩
        · by_cases h2 : 1000 < x
          · have hf : Hid (false = r) := by show _ = _; rw [← HR.out, HS2.out, HP2.out]; simp; omega
            go_wp2_with fail
            go_ret
            exact ⟨ret_bool hf.out, rfl⟩
          · have hf : Hid ((l.drop (k + 1)).all inRange = r) := by
              show _ = _
              rw [← HR.out, HS2.out, HP2.out, decide_eq_true (show 0 ≤ x by omega), decide_eq_true (show x ≤ 1000 by omega)]; rfl
            go_wp2_with fail
            go_round
            case rel => exact ⟨k + 1, by omega, by go_num, hf⟩
            case measure => simp [intOf]; omega
      · have hk' : k = n := by omega
        subst hk'
        have hf : Hid (true = r) := by show _ = _; rw [← HR.out, HE.out]
        go_wp2_with fail
        go_ret
        exact ⟨ret_bool hf.out, rfl⟩
  · exact refRight_len l d oa c h w

theorem refFits_len (a b : List Int) (oa ob : Option Addr) (ca cb : Nat) (h : a.length ≠ b.length) (w : World) :
    Calls Try.prog 12 #[.slice oa a.length ca, .slice ob b.length cb] w fun e w' => e = .returned (.bool (fitsB a b)) ∧ w = w' := by
  have HR : Hid (false = fitsB a b) := by show _ = _; unfold fitsB; rw [decide_eq_false h]; rfl
  have hne := ne_neN h
  generalize fitsB a b = r at *
  generalize a.length = n at *
  generalize b.length = m at *
  go_enter Try.func12, Try.ntmps12
  go_wp2_with fail
  go_ret
  exact ⟨ret_bool HR.out, rfl⟩
theorem leAll_drop {a b : List Int} {k : Nat} (h : k < a.length) (h2 : a.length = b.length) : leAll (a.drop k) (b.drop k) = (decide (a.getD k 0 ≤ b.getD k 0) && leAll (a.drop (k + 1)) (b.drop (k + 1))) := by
  rw [drop_more (d := 0) h, drop_more (d := 0) (show k < b.length by omega), leAll_step]
theorem refFits_n (u v : Value) (a b : List Int) (hl9 : a.length ≤ 1000000000000000) (w : World) (hu : Li w u a) (hv : Li w v b) :
    Calls Try.prog 12 #[u, v] w fun e w' => e = .returned (.bool (fitsB a b)) ∧ Below w.heap.size w w' := by
  obtain ⟨oa, ca, rfl, ha⟩ := hu
  obtain ⟨ob, cb, rfl, hb⟩ := hv
  by_cases h : a.length = b.length
  · have HR : Hid (leAll a b = fitsB a b) := by show _ = _; unfold fitsB; rw [decide_eq_true h]; rfl
    generalize fitsB a b = r at *
    have HS := Lib.hid (fun k (hk : k < a.length) => leAll_drop hk h)
    have HE : Hid (leAll (a.drop a.length) (b.drop a.length) = true) := by show _ = _; rw [List.drop_length]; rfl
    have HA := Lib.hid ha
    rw [← h] at hb ⊢
    have HB := Lib.hid hb
    generalize hn : a.length = n at *
    have hne : ((n : Int) != (n : Int)) = false := by simp
    clear ha hb hn h
    go_enter Try.func12, Try.ntmps12
    go_wp2_with fail
    go_loopw [5] (fun i wr => ∃ k : Nat, k ≤ n ∧ i = .int .i64 k ∧ Hid (leAll (a.drop k) (b.drop k) = r) ∧ Hid (Below w.heap.size w wr)) (fun i _ => n - (intOf i).toNat)
    case atStart => exact ⟨0, Nat.zero_le _, rfl, HR, Below.refl _ _⟩
    case round =>
      clear HR
      obtain ⟨k, hk, rfl, HR, HW⟩ := hrel
      by_cases hlt : k < n
      · obtain ⟨ad, rfl, hab, hc⟩ := HA.out k hlt
        obtain ⟨bd, rfl, hbb, hd⟩ := HB.out k hlt
        have hc2 := (HW.out.cell (p := ad.add k) (by rw [add_block]; exact hab)).trans hc
        have hd2 := (HW.out.cell (p := bd.add k) (by rw [add_block]; exact hbb)).trans hd
        clear hc hd
        have HS2 := Lib.hid (HS.out k hlt)
        generalize a.getD k 0 = x at *
        generalize b.getD k 0 = y at *
        by_cases h1 : y < x
        · have hf : Hid (false = r) := by show _ = _; rw [← HR.out, HS2.out, decide_eq_false (by omega)]; rfl
          go_wp2_with fail
          go_quiet (fail)
          go_wp2_with fail
          go_ret
          exact ⟨ret_bool hf.out, below_drewN HW.out _⟩
        · have hf : Hid (leAll (a.drop (k + 1)) (b.drop (k + 1)) = r) := by
            show _ = _
            rw [← HR.out, HS2.out, decide_eq_true (show x ≤ y by omega)]; rfl
          go_wp2_with fail
          go_quiet (fail)
          go_wp2_with fail
          go_roundw
          case rel => exact ⟨k + 1, by omega, by go_num, hf, below_drewN HW.out _⟩
          case measure => simp [intOf]; omega
      · have hk' : k = n := by omega
        subst hk'
        have hf : Hid (true = r) := by show _ = _; rw [← HR.out, HE.out]
        go_wp2_with fail
        go_ret
        exact ⟨ret_bool hf.out, HW.out⟩
  · exact (refFits_len a b oa ob ca cb h w).mono fun e w' ⟨he, hw⟩ => ⟨he, hw ▸ Below.refl _ _⟩

end Go.Proofs.Ytcnagcdgpgijaaa.L
