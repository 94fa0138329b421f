/-
  DERIVED. The walks of isDecimal and Number.
-/
import Derived.Test.YthbpmolookmjaaaDoorQuoteB
import Derived.Test.YthbpmolookmjaaaDoorPureN
namespace Go.Proofs.YthbpmolookmjaaaDoor
open Go.RowKit

def dgsB (s : ByteArray) : ByteArray := ⟨(dgs s.data.toList).toArray⟩
theorem trimMinus_any (s : ByteArray) (w : World) :
    Calls Tryd.prog 41 #[.string s, .string ⟨#[45]⟩] w fun e w' => e = .returned (.string (dgsB s)) ∧ w = w' := by
  refine (Tryd.strings_TrimPrefix _ _ _).mono ?_
  rintro e w' ⟨he, hw⟩
  exact ⟨he, hw.symm⟩

theorem isDec_not (s : ByteArray) (h1 : s.data.toList ≠ [48]) (h : (dgsB s).size = 0 ∨ (∃ h : 0 < (dgsB s).size, (dgsB s)[0].toNat = 48) ∨ digs (dgsB s).data.toList = false) : isDecB s.data.toList = false := by
  have hd : (dgsB s).data.toList = dgs s.data.toList := rfl
  have h1' : (s.data.toList == [48]) = false := by simpa using h1
  rw [isDecB, h1', Bool.false_or]
  rcases h with h | ⟨h, h2⟩ | h
  · have : dgs s.data.toList = [] := by rw [← hd, empty_of _ h]
    rw [this]; rfl
  · rw [← hd, head_of _ h, h2]; simp
  · rw [← hd, h]; simp
theorem isDec_yes (s : ByteArray) (hp : 0 < (dgsB s).size) (h : (dgsB s)[0].toNat ≠ 48) (h2 : digs (dgsB s).data.toList = true) : isDecB s.data.toList = true := by
  have hd : (dgsB s).data.toList = dgs s.data.toList := rfl
  have hne := ne_of (dgsB s) hp
  have hb : ((dgsB s)[0].toNat == 48) = false := by simpa using h
  have he : (dgsB s).data.toList.isEmpty = false := by
    cases hx : (dgsB s).data.toList with
    | nil => exact absurd hx hne
    | cons _ _ => rfl
  rw [isDecB, ← hd, h2, head_of _ hp, hb, he]
  simp

set_option maxHeartbeats 400000 in
theorem isDecimal_any (s : ByteArray) (w : World) (hs : s.size ≤ 1000000000) :
    Calls Tryd.prog 28 #[.string s] w fun e w' => e = .returned (.bool (isDecB s.data.toList)) ∧ w = w' := by
  by_cases h48 : s.data.toList = [48]
  · have hb : (s.toList == [48]) = true := by rw [ByteArray.toList_eq, h48]; rfl
    have HR : Hid (isDecB s.data.toList = true) := by show _ = _; rw [h48]; rfl
    clear h48
    go_enter Tryd.func28, Tryd.ntmps28
    go_wp2
    go_ret
    exact ⟨ret_bool (by rw [HR.out]), rfl⟩
  have hb : (s.toList == [48]) = false := by rw [ByteArray.toList_eq]; simpa using h48
  have HN : Hid _ := isDec_not s h48
  have HY : Hid _ := isDec_yes s
  have hdl : (dgsB s).size ≤ s.size := by
    rw [← len_of, ← len_of]
    show (dgs s.data.toList).length ≤ _
    unfold dgs Lib.trimPrefix
    split <;> simp
  clear h48
  generalize hg : dgsB s = d at *
  have HG := Lib.hid hg
  clear hg
  by_cases hz : d.size = 0
  · have hd := empty_of d hz
    have HK := Lib.hid (HN.out (Or.inl hz))
    clear HN HY hz hdl
    subst hd
    go_enter Tryd.func28, Tryd.ntmps28
    go_wp2_with (go_at_call 41; refine (trimMinus_any _ _).mono ?_; rintro e w' ⟨rfl, rfl⟩; rw [HG.out])
    go_ret
    exact ⟨ret_bool (by rw [HK.out]), rfl⟩
  have h0 : 0 < d.size := by omega
  have hE := isE d h0
  have hE' := notE d h0
  by_cases c1 : d[0].toNat = 48
  · have HK := Lib.hid (HN.out (Or.inr (Or.inl ⟨h0, c1⟩)))
    have c1' : ((d[0].toNat : Int) == 48) = true := by simp; omega
    clear HN HY c1
    go_enter Tryd.func28, Tryd.ntmps28
    go_wp2_with (go_at_call 41; refine (trimMinus_any _ _).mono ?_; rintro e w' ⟨rfl, rfl⟩; rw [HG.out])
    go_ret
    exact ⟨ret_bool (by rw [HK.out]), rfl⟩
  have c1' : ((d[0].toNat : Int) == 48) = false := by simp; omega
  have HY := Lib.hid (HY.out h0 c1)
  clear c1
  go_enter Tryd.func28, Tryd.ntmps28
  go_wp2_with (go_at_call 41; refine (trimMinus_any _ _).mono ?_; rintro e w' ⟨rfl, rfl⟩; rw [HG.out])
  go_loop [4] (fun i => ∃ k : Nat, k ≤ d.size ∧ i = .int .i64 k ∧ Hid ((d.data.toList.take k).all (fun c => dig c.toNat) = true)) (fun i => d.size - (intOf i).toNat)
  case atStart => exact ⟨0, Nat.zero_le _, rfl, by rw [List.take_zero]; rfl⟩
  case round =>
    clear c1' hb
    obtain ⟨k, hk, rfl, HA⟩ := hrel
    by_cases hlt : k < d.size
    · cases hw : dig d[k].toNat
      · have HK := Lib.hid (HN.out (Or.inr (Or.inr (all_stop d _ k hlt hw))))
        go_wp2_with (go_at_call 24; refine (isDigit_any _ _).mono ?_; rintro e w' ⟨rfl, rfl⟩)
        go_ret
        exact ⟨ret_bool (by rw [HK.out]), rfl⟩
      · have HA' := Lib.hid (all_step d (fun c => dig c.toNat) k hlt HA.out hw)
        go_wp2_with (go_at_call 24; refine (isDigit_any _ _).mono ?_; rintro e w' ⟨rfl, rfl⟩)
        go_round
        case rel => exact ⟨k + 1, by omega, by go_num, HA'⟩
        case measure => simp [intOf]; omega
    · have hk' : k = d.size := by omega
      subst hk'
      have HK := Lib.hid (HY.out (all_end d _ HA.out))
      go_wp2
      go_ret
      exact ⟨ret_bool (by rw [HK.out]), rfl⟩

set_option maxHeartbeats 400000 in
theorem number_any (s : ByteArray) (w : World) (hs : s.size ≤ 1000000000) (tp : TypeId) (p : Value) (hvar : w.var? Tryd.prog "strconv.ErrRange" = some #[.iface tp p]) :
    Calls Tryd.prog 11 #[.string s] w fun e w' => e = .returned (.tuple #[.int .i64 (numL s.data.toList).1, .int .i64 (numL s.data.toList).2]) ∧ Below w.heap.size w w' := by
  cases hd : isDecB s.data.toList
  · have HN : Hid (numL s.data.toList = (0, 3)) := by show _ = _; rw [numL, if_pos hd]
    go_enter Tryd.func11, Tryd.ntmps11
    go_wp2_with (go_at_call 28; refine (isDecimal_any _ _ hs).mono ?_; rintro e w' ⟨rfl, rfl⟩)
    go_ret2
    exact ⟨ret_num HN.out, Below.refl _ _⟩
  rcases parse_dec _ hd with ⟨v, hp, hn⟩ | ⟨hp, hn⟩
  · have HN := Lib.hid hn
    have HP := Lib.hid hp
    clear hn hp
    go_enter Tryd.func11, Tryd.ntmps11
    go_wp2_with (go_at_call 28; refine (isDecimal_any _ _ hs).mono ?_; rintro e w' ⟨rfl, rfl⟩)
    refine (Tryd.strconv_ParseInt_10_at64_ok s (by omega) v HP.out _).mono ?_
    rintro e w1 ⟨rfl, hw⟩
    have hb : Below w.heap.size w w1 := by
      rcases hw with hw | ⟨t, hw⟩
      · exact hw ▸ Below.refl _ _
      · exact hw ▸ Lib.bytesWorld_below _ _ _
    clear hw
    go_wp2
    go_ret2
    exact ⟨ret_num HN.out, hb⟩
  · have HN := Lib.hid hn
    have HP := Lib.hid hp
    clear hn hp
    go_enter Tryd.func11, Tryd.ntmps11
    go_wp2_with (go_at_call 28; refine (isDecimal_any _ _ hs).mono ?_; rintro e w' ⟨rfl, rfl⟩)
    refine (Tryd.strconv_ParseInt_10_at64_range_var s (by omega) HP.out tp p _ hvar).mono ?_
    rintro e w1 ⟨N, rfl, _, _, hb⟩
    go_wp2
    go_ret2
    exact ⟨ret_num HN.out, hb⟩

end Go.Proofs.YthbpmolookmjaaaDoor
