/-
  DERIVED. The walks of lorryref06's Same, even and of the laws' all.
-/
import Derived.Test.YtalfonpkefhlmaaDoorRefLoad1
namespace Go.Proofs.YtalfonpkefhlmaaDoor.L
open Go.RowKit
set_option maxRecDepth 8000

theorem eq_drop {a b : List Int} {k : Nat} (h : k < a.length) (h2 : a.length = b.length) : decide (a.drop k = b.drop k) = (decide (a.getD k 0 = b.getD k 0) && decide (a.drop (k + 1) = b.drop (k + 1))) := by
  rw [drop_more (d := 0) h, drop_more (d := 0) (show k < b.length by omega), Bool.eq_iff_iff]; simp
theorem lall_drop {ls : List (List Int)} {p : List Int → Bool} {k : Nat} (h : k < ls.length) : (ls.drop k).all p = (p (ls.getD k []) && (ls.drop (k + 1)).all p) := by
  rw [drop_more (d := []) h, List.all_cons]

theorem even_n (u : Value) (ls : List (List Int)) (d : Int) (hl9 : ls.length ≤ 1000000000000000) (w : World) (hu : Ls w u ls) :
    Calls Tryd.prog 34 #[u, .int .i64 d] w fun e w' => e = .returned (.bool (evenB ls d)) ∧ w = w' := by
  obtain ⟨oa, c, rfl, ha⟩ := hu
  by_cases hd : 0 ≤ d ∧ d ≤ 3
  · obtain ⟨h0, h3⟩ := hd
    obtain ⟨p, hp⟩ : ∃ p : List Int → Bool, (fun l => decide ((l.length : Int) = d)) = p := ⟨_, rfl⟩
    have HP : Hid (∀ l, p l = decide ((l.length : Int) = d)) := fun x => by rw [← hp]
    have HR : Hid ((ls.drop 0).all p = evenB ls d) := by show _ = _; rw [← hp]; unfold evenB; rw [decide_eq_true h0, decide_eq_true h3]; rfl
    generalize evenB ls d = r at *
    have HS := Lib.hid (fun k (h : k < ls.length) => lall_drop (p := p) h)
    have HE : Hid ((ls.drop ls.length).all p = true) := by show _ = _; rw [List.drop_length]; rfl
    have HA := Lib.hid ha
    generalize hn : ls.length = n at *
    clear ha hp hn
    go_enter Tryd.func34, Tryd.ntmps34
    go_wp2_with fail
    go_loop [5] (fun i => ∃ k : Nat, k ≤ n ∧ i = .int .i64 k ∧ Hid ((ls.drop k).all p = r)) (fun i => n - (intOf i).toNat)
    case atStart => exact ⟨0, Nat.zero_le _, rfl, HR⟩
    case round =>
      clear HR
      obtain ⟨k, hk, rfl, HR⟩ := hrel
      by_cases hlt : k < n
      · obtain ⟨ad, x, rfl, hab, hc, hx⟩ := HA.out k hlt
        obtain ⟨ob, cb, rfl, -⟩ := hx
        have HS2 := Lib.hid (HS.out k hlt)
        have HP2 := Lib.hid (HP.out (ls.getD k []))
        generalize ls.getD k [] = l at *
        by_cases h1 : (l.length : Int) = d
        · have hf : Hid ((ls.drop (k + 1)).all p = r) := by
            show _ = _
            rw [← HR.out, HS2.out, HP2.out, decide_eq_true h1]; rfl
          have hne : ((l.length : Int) != d) = false := by rw [h1]; simp
          generalize l.length = m at *
          clear h1
          go_wp2_with fail
          go_round
          case rel => exact ⟨k + 1, by omega, by go_num, hf⟩
          case measure => simp [intOf]; omega
        · have hf : Hid (false = r) := by show _ = _; rw [← HR.out, HS2.out, HP2.out, decide_eq_false h1]; rfl
          have hne := ne_neI h1
          generalize l.length = m at *
          clear h1
          go_wp2_with fail
          go_ret
          exact ⟨ret_bool hf.out, rfl⟩
      · have hk' : k = n := by omega
        subst hk'
        have hf : Hid (true = r) := by show _ = _; rw [← HR.out, HE.out]
        go_wp2_with fail
        go_ret
        exact ⟨ret_bool hf.out, rfl⟩
  · have HR : Hid (false = evenB ls d) := by
      show _ = _
      cases e : evenB ls d
      · rfl
      · exact absurd ((evenB_iff ls d).1 e).1 hd
    generalize evenB ls d = r at *
    generalize ls.length = n at *
    clear ha
    by_cases h0 : d < 0
    · go_enter Tryd.func34, Tryd.ntmps34
      go_wp2_with fail
      go_ret
      exact ⟨ret_bool HR.out, rfl⟩
    · have h1 : 3 < d := by omega
      clear hd
      go_enter Tryd.func34, Tryd.ntmps34
      go_wp2_with fail
      go_ret
      exact ⟨ret_bool HR.out, rfl⟩

end Go.Proofs.YtalfonpkefhlmaaDoor.L

