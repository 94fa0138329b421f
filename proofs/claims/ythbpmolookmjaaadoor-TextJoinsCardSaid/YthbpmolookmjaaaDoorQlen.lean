/-
  DERIVED. The walks of quotedLength and partLength.
-/
import Derived.Test.YthbpmolookmjaaaDoorForm
namespace Go.Proofs.YthbpmolookmjaaaDoor
open Go.RowKit

set_option maxHeartbeats 400000 in
theorem quotedLength_any (s : ByteArray) (w : World) (hs : s.size ≤ 1000000000) :
    Calls Tryd.prog 34 #[.string s] w fun e w' => e = .returned (.int .i64 (qlen s.data.toList)) ∧ w = w' := by
  by_cases h : s.size = 0
  · have hs := empty_of s h
    subst hs
    go_enter Tryd.func34, Tryd.ntmps34
    go_wp2
    go_ret
    exact ⟨rfl, rfl⟩
  have h0 : 0 < s.size := by omega
  have hE := isE s h0
  have hE' := notE s h0
  by_cases c1 : s[0].toNat = 34
  · have HR : Hid (qlen s.data.toList = qgo s.data.toList s.size 1) := by
      show _ = _
      rw [qlen, if_neg (by rw [len_of, getD_of s 0 h0]; omega), len_of]
    have c1' : ((s[0].toNat : Int) != 34) = false := by simp; omega
    clear c1
    go_enter Tryd.func34, Tryd.ntmps34
    go_wp2_with fail
    go_loop [3] (fun v => ∃ i f : Nat, i ≤ s.size + 4 ∧ v = .int .i64 i ∧ s.size ≤ f + i ∧ Hid (qlen s.data.toList = qgo s.data.toList f i)) (fun v => s.size - (intOf v).toNat)
    case atStart => exact ⟨1, s.size, by omega, rfl, by omega, HR⟩
    case round =>
      clear HR
      obtain ⟨i, f, hi, rfl, hf, HR⟩ := hrel
      by_cases hlt : i < s.size
      · have hg := getD_of s i hlt
        by_cases c2 : s[i].toNat = 34
        · have HK : Hid (qlen s.data.toList = i + 1) := by show _ = _; rw [HR.out]; exact qgo_quote _ _ _ (by simpa using hlt) (by simpa using hf) (by rw [hg]; exact c2)
          have c2' : ((s[i].toNat : Int) == 34) = true := by simp; omega
          clear c2 hg
          go_wp2_with fail
          go_ret
          exact ⟨ret_int (by rw [HK.out]; omega), rfl⟩
        · have c2' : ((s[i].toNat : Int) == 34) = false := by simp; omega
          have hx : rfm (List.take (s.size - i) (List.drop i s.data.toList)) = rfm (s.data.toList.drop i) := by rw [List.take_of_length_le (by simp)]
          have h4 := rfm_le (s.data.toList.drop i)
          have HS : Hid _ := qgo_next s.data.toList f i (by simpa using hlt) (by simpa using hf) (by rw [hg]; exact c2)
          have HN : Hid _ := qgo_none s.data.toList f i (by simpa using hlt) (by rw [hg]; exact c2)
          clear c2 hg
          generalize rfm (s.data.toList.drop i) = p at *
          by_cases hz : p.2 = 0
          · have hz' : ((p.2 : Int) == 0) = true := by simp; omega
            have HK := HN.out hz
            have HK : Hid (qlen s.data.toList = 0) := by show _ = _; rw [HR.out]; exact HK
            clear hz HN HS
            go_wp2_with (go_at_call 35; refine (readForm_any _ _).mono ?_; rintro e w' ⟨rfl, rfl⟩)
            go_ret
            exact ⟨ret_int (by rw [HK.out]; rfl), rfl⟩
          · have hz' : ((p.2 : Int) == 0) = false := by simp; omega
            have HK := HS.out hz
            have HK : Hid (qlen s.data.toList = qgo s.data.toList (f - 1) (i + p.2)) := by show _ = _; rw [HR.out]; exact HK
            have h1 : 1 ≤ p.2 := by omega
            clear hz HN HS
            go_wp2_with (go_at_call 35; refine (readForm_any _ _).mono ?_; rintro e w' ⟨rfl, rfl⟩)
            go_round
            case rel => exact ⟨i + p.2, f - 1, by omega, by go_num, by omega, HK⟩
            case measure => simp [intOf]; omega
      · have HK : Hid (qlen s.data.toList = 0) := by show _ = _; rw [HR.out]; exact qgo_end _ _ _ (by simpa using hlt)
        go_wp2
        go_ret
        exact ⟨ret_int (by rw [HK.out]; rfl), rfl⟩
  · have HR : Hid (qlen s.data.toList = 0) := by
      show _ = _
      rw [qlen, if_pos (by rw [getD_of s 0 h0]; exact Or.inr c1)]
    have c1' : ((s[0].toNat : Int) != 34) = true := by simp; omega
    clear c1
    go_enter Tryd.func34, Tryd.ntmps34
    go_wp2
    go_ret
    exact ⟨ret_int (by rw [HR.out]; rfl), rfl⟩

end Go.Proofs.YthbpmolookmjaaaDoor
