/-
  DERIVED. The walks of lorryref06's Same, even and of the laws' all.
-/
import Derived.Test.YtcnagcdgpgijaaaRefLoad1
namespace Go.Proofs.Ytcnagcdgpgijaaa.L
open Go.RowKit
set_option maxRecDepth 8000

theorem same_len (a b : List Int) (oa ob : Option Addr) (ca cb : Nat) (h : a.length ≠ b.length) (w : World) :
    Calls Try.prog 35 #[.slice oa a.length ca, .slice ob b.length cb] w fun e w' => e = .returned (.bool (decide (a = b))) ∧ w = w' := by
  have HR : Hid (false = decide (a = b)) := (decide_eq_false (fun e => h (by rw [e]))).symm
  have hne := ne_neN h
  generalize decide (a = b) = r at *
  generalize a.length = n at *
  generalize b.length = m at *
  go_enter Try.func35, Try.ntmps35
  go_wp2_with fail
  go_ret
  exact ⟨ret_bool HR.out, rfl⟩
theorem eq_drop {a b : List Int} {k : Nat} (h : k < a.length) (h2 : a.length = b.length) : decide (a.drop k = b.drop k) = (decide (a.getD k 0 = b.getD k 0) && decide (a.drop (k + 1) = b.drop (k + 1))) := by
  rw [drop_more (d := 0) h, drop_more (d := 0) (show k < b.length by omega), Bool.eq_iff_iff]; simp
theorem refSame_n (u v : Value) (a b : List Int) (hl9 : a.length ≤ 1000000000000000) (w : World) (hu : Li w u a) (hv : Li w v b) :
    Calls Try.prog 35 #[u, v] w fun e w' => e = .returned (.bool (decide (a = b))) ∧ Below w.heap.size w w' := by
  obtain ⟨oa, ca, rfl, ha⟩ := hu
  obtain ⟨ob, cb, rfl, hb⟩ := hv
  by_cases h : a.length = b.length
  · have HR : Hid (decide (a.drop 0 = b.drop 0) = decide (a = b)) := rfl
    generalize decide (a = b) = r at *
    have HS := Lib.hid (fun k (hk : k < a.length) => eq_drop hk h)
    have HE : Hid (decide (a.drop a.length = b.drop a.length) = true) := by show _ = _; rw [List.drop_length, h, List.drop_length]; rfl
    have HA := Lib.hid ha
    rw [← h] at hb ⊢
    have HB := Lib.hid hb
    generalize hn : a.length = n at *
    have hne : ((n : Int) != (n : Int)) = false := by simp
    clear ha hb hn h
    go_enter Try.func35, Try.ntmps35
    go_wp2_with fail
    go_loopw [5] (fun i wr => ∃ k : Nat, k ≤ n ∧ i = .int .i64 k ∧ Hid (decide (a.drop k = b.drop k) = r) ∧ Hid (Below w.heap.size w wr)) (fun i _ => n - (intOf i).toNat)
    case atStart => exact ⟨0, Nat.zero_le _, rfl, HR, Below.refl _ _⟩
    case round =>
      clear HR
      obtain ⟨k, hk, rfl, HR, HW⟩ := hrel
      by_cases hlt : k < n
      · obtain ⟨ad, rfl, hab, hc⟩ := HA.out k hlt
        obtain ⟨bd, rfl, hbb, hd⟩ := HB.out k hlt
        have hc2 := (HW.out.cell (p := ad.add k) (by rw [add_block]; exact hab)).trans hc
        have hd2 := (HW.out.cell (p := bd.add k) (by rw [add_block]; exact hbb)).trans hd
        clear hc hd
        have HS2 := Lib.hid (HS.out k hlt)
        generalize a.getD k 0 = x at *
        generalize b.getD k 0 = y at *
        by_cases h1 : x = y
        · subst h1
          have hf : Hid (decide (a.drop (k + 1) = b.drop (k + 1)) = r) := by
            show _ = _
            rw [← HR.out, HS2.out, decide_eq_true rfl]; rfl
          go_wp2_with fail
          go_quiet (fail)
          go_wp2_with fail
          go_roundw
          case rel => exact ⟨k + 1, by omega, by go_num, hf, below_drewN HW.out _⟩
          case measure => simp [intOf]; omega
        · have hf : Hid (false = r) := by show _ = _; rw [← HR.out, HS2.out, decide_eq_false h1]; rfl
          have hne2 := ne_eqI h1
          go_wp2_with fail
          go_quiet (fail)
          go_wp2_with fail
          go_ret
          exact ⟨ret_bool hf.out, below_drewN HW.out _⟩
      · have hk' : k = n := by omega
        subst hk'
        have hf : Hid (true = r) := by show _ = _; rw [← HR.out, HE.out]
        go_wp2_with fail
        go_ret
        exact ⟨ret_bool hf.out, HW.out⟩
  · exact (same_len a b oa ob ca cb h w).mono fun e w' ⟨he, hw⟩ => ⟨he, hw ▸ Below.refl _ _⟩
theorem same_n (u v : Value) (a b : List Int) (hl9 : a.length ≤ 1000000000000000) (w : World) (hu : Li w u a) (hv : Li w v b) :
    Calls Try.prog 24 #[u, v] w fun e w' => e = .returned (.bool (decide (a = b))) ∧ Below w.heap.size w w' := by
  have HS := Lib.hid (refSame_n u v a b hl9 w hu hv)
  generalize decide (a = b) = r at *
  go_enter Try.func24, Try.ntmps24
  go_wp2_with fail
  refine HS.out.mono ?_
  rintro e w1 ⟨rfl, b1⟩
  go_wp2_with fail
  go_ret
  exact ⟨rfl, b1⟩

theorem lall_drop {ls : List (List Int)} {p : List Int → Bool} {k : Nat} (h : k < ls.length) : (ls.drop k).all p = (p (ls.getD k []) && (ls.drop (k + 1)).all p) := by
  rw [drop_more (d := []) h, List.all_cons]

theorem even_n (u : Value) (ls : List (List Int)) (d : Int) (hl9 : ls.length ≤ 1000000000000000) (w : World) (hu : Ls w u ls) :
    Calls Try.prog 34 #[u, .int .i64 d] w fun e w' => e = .returned (.bool (evenB ls d)) ∧ w = w' := by
  obtain ⟨oa, c, rfl, ha⟩ := hu
  by_cases hd : 0 ≤ d ∧ d ≤ 3
  · obtain ⟨h0, h3⟩ := hd
    obtain ⟨p, hp⟩ : ∃ p : List Int → Bool, (fun l => decide ((l.length : Int) = d)) = p := ⟨_, rfl⟩
    have HP : Hid (∀ l, p l = decide ((l.length : Int) = d)) := fun x => by rw [← hp]
    have HR : Hid ((ls.drop 0).all p = evenB ls d) := by show _ = _; rw [← hp]; unfold evenB; rw [decide_eq_true h0, decide_eq_true h3]; rfl
    generalize evenB ls d = r at *
    have HS := Lib.hid (fun k (h : k < ls.length) => lall_drop (p := p) h)
    have HE : Hid ((ls.drop ls.length).all p = true) := by show _ = _; rw [List.drop_length]; rfl
    have HA := Lib.hid ha
    generalize hn : ls.length = n at *
    clear ha hp hn
    go_enter Try.func34, Try.ntmps34
    go_wp2_with fail
    go_loop [5] (fun i => ∃ k : Nat, k ≤ n ∧ i = .int .i64 k ∧ Hid ((ls.drop k).all p = r)) (fun i => n - (intOf i).toNat)
    case atStart => exact ⟨0, Nat.zero_le _, rfl, HR⟩
    case round =>
      clear HR
      obtain ⟨k, hk, rfl, HR⟩ := hrel
      by_cases hlt : k < n
      · obtain ⟨ad, x, rfl, hab, hc, hx⟩ := HA.out k hlt
        obtain ⟨ob, cb, rfl, -⟩ := hx
        have HS2 := Lib.hid (HS.out k hlt)
        have HP2 := Lib.hid (HP.out (ls.getD k []))
        generalize ls.getD k [] = l at *
        by_cases h1 : (l.length : Int) = d
        · have hf : Hid ((ls.drop (k + 1)).all p = r) := by
            show _ = _
            rw [← HR.out, HS2.out, HP2.out, decide_eq_true h1]; rfl
          have hne : ((l.length : Int) != d) = false := by rw [h1]; simp
          generalize l.length = m at *
          clear h1
          go_wp2_with fail
          go_round
          case rel => exact ⟨k + 1, by omega, by go_num, hf⟩
          case measure => simp [intOf]; omega
        · have hf : Hid (false = r) := by show _ = _; rw [← HR.out, HS2.out, HP2.out, decide_eq_false h1]; rfl
          have hne := ne_neI h1
          generalize l.length = m at *
          clear h1
          go_wp2_with fail
          go_ret
          exact ⟨ret_bool hf.out, rfl⟩
      · have hk' : k = n := by omega
        subst hk'
        have hf : Hid (true = r) := by show _ = _; rw [← HR.out, HE.out]
        go_wp2_with fail
        go_ret
        exact ⟨ret_bool hf.out, rfl⟩
  · have HR : Hid (false = evenB ls d) := by
      show _ = _
      cases e : evenB ls d
      · rfl
      · exact absurd ((evenB_iff ls d).1 e).1 hd
    generalize evenB ls d = r at *
    generalize ls.length = n at *
    clear ha
    by_cases h0 : d < 0
    · go_enter Try.func34, Try.ntmps34
      go_wp2_with fail
      go_ret
      exact ⟨ret_bool HR.out, rfl⟩
    · have h1 : 3 < d := by omega
      clear hd
      go_enter Try.func34, Try.ntmps34
      go_wp2_with fail
      go_ret
      exact ⟨ret_bool HR.out, rfl⟩

theorem all_n (u : Value) (ls : List (List Int)) (m : Int) (hm0 : 0 ≤ m) (hm1 : m ≤ 9000000000000000000) (hl9 : ls.length ≤ 1000000000000000) (hls : ∀ l ∈ ls, l.length ≤ 1000000000000000) (w : World) (hu : Ls w u ls) :
    Calls Try.prog 15 #[u, .int .i64 m] w fun e w' => e = .returned (.bool (allB m ls)) ∧ w = w' := by
  obtain ⟨oa, c, rfl, ha⟩ := hu
  by_cases hn20 : ls.length ≤ 20
  · have HR : Hid ((ls.drop 0).all (withinB m) = allB m ls) := by show _ = _; unfold allB; rw [decide_eq_true hn20]; rfl
    generalize allB m ls = r at *
    have HS := Lib.hid (fun k (h : k < ls.length) => lall_drop (p := withinB m) h)
    have HE : Hid ((ls.drop ls.length).all (withinB m) = true) := by show _ = _; rw [List.drop_length]; rfl
    have HA := Lib.hid ha
    have HL := Lib.hid (fun k (h : k < ls.length) => hls _ (getD_mem (d := []) h))
    generalize hn : ls.length = n at *
    clear ha hn hls
    go_enter Try.func15, Try.ntmps15
    go_wp2_with fail
    go_loop [12] (fun i => ∃ k : Nat, k ≤ n ∧ i = .int .i64 k ∧ Hid ((ls.drop k).all (withinB m) = r)) (fun i => n - (intOf i).toNat)
    case atStart => exact ⟨0, Nat.zero_le _, rfl, HR⟩
    case round =>
      clear HR
      obtain ⟨k, hk, rfl, HR⟩ := hrel
      by_cases hlt : k < n
      · obtain ⟨ad, x, rfl, hab, hc, hx⟩ := HA.out k hlt
        have HS2 := Lib.hid (HS.out k hlt)
        have HW := Lib.hid (within_n m hm0 hm1 x (ls.getD k []) (HL.out k hlt) w hx)
        obtain ⟨ob, cb, rfl, -⟩ := hx
        generalize ls.getD k [] = l at *
        cases h1 : withinB m l
        · have hf : Hid (false = r) := by show _ = _; rw [← HR.out, HS2.out, h1]; rfl
          rw [h1] at HW
          clear h1
          generalize l.length = ln at *
          go_wp2_with fail
          refine HW.out.mono ?_
          rintro e w1 ⟨rfl, rfl⟩
          go_wp2_with fail
          go_ret
          exact ⟨ret_bool hf.out, rfl⟩
        · have hf : Hid ((ls.drop (k + 1)).all (withinB m) = r) := by
            show _ = _
            rw [← HR.out, HS2.out, h1]; rfl
          rw [h1] at HW
          clear h1
          generalize l.length = ln at *
          go_wp2_with fail
          refine HW.out.mono ?_
          rintro e w1 ⟨rfl, rfl⟩
          go_wp2_with fail
          go_round
          case rel => exact ⟨k + 1, by omega, by go_num, hf⟩
          case measure => simp [intOf]; omega
      · have hk' : k = n := by omega
        subst hk'
        have hf : Hid (true = r) := by show _ = _; rw [← HR.out, HE.out]
        go_wp2_with fail
        go_ret
        exact ⟨ret_bool hf.out, rfl⟩
  · have HR : Hid (false = allB m ls) := by show _ = _; unfold allB; rw [decide_eq_false hn20]; rfl
    generalize allB m ls = r at *
    generalize ls.length = n at *
    clear ha hls
    go_enter Try.func15, Try.ntmps15
    go_wp2_with fail
    go_ret
    exact ⟨ret_bool HR.out, rfl⟩

end Go.Proofs.Ytcnagcdgpgijaaa.L
