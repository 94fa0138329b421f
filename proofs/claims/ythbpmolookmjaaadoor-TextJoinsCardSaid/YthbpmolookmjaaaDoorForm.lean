/-
  DERIVED. The walks of readHex, readEscape, readForm.
-/
import Derived.Test.YthbpmolookmjaaaDoorMem
import Derived.Test.YthbpmolookmjaaaDoorShelf
namespace Go.Proofs.YthbpmolookmjaaaDoor
open Go.RowKit

theorem hexI_index : ∀ n : Fin 256, Lib.indexByte [48, 49, 50, 51, 52, 53, 54, 55, 56, 57, 97, 98, 99, 100, 101, 102] (n.val : Int).toNat.toUInt8 = hexI n.val := by decide +kernel
theorem indexHex_any (c : UInt8) (w : World) :
    Calls Tryd.prog 71 #[.string ⟨#[48, 49, 50, 51, 52, 53, 54, 55, 56, 57, 97, 98, 99, 100, 101, 102]⟩, .int .u8 c.toNat] w fun e w' => e = .returned (.int .i64 (hexI c.toNat)) ∧ w = w' := by
  refine (Tryd.strings_IndexByte _ _ _).mono ?_
  rintro e w' ⟨rfl, rfl⟩
  exact ⟨ret_int (hexI_index ⟨c.toNat, c.toNat_lt⟩), rfl⟩

theorem or_hex : ∀ x y : Fin 16, bits .or .i64 ((x.val : Int) * 16) (y.val : Int) = ((x.val * 16 + y.val : Nat) : Int) := by decide +kernel
theorem rhex_ok (c d m : Nat) (hc : ¬ hexI c < 0) (hd : ¬ hexI d < 0) (hm : hexI c * 16 + hexI d = (m : Int)) : rhex c d = if m = 10 ∨ prn m = true then (0, 0) else (m, 4) := by
  simp only [rhex, hc, hd, or_self, if_false, hm, Int.toNat_natCast]
  by_cases h : m = 10
  · simp [h]
  · have : ¬ ((m : Int) = 10) := by omega
    simp [h, this]

theorem ret_form {a b : Int} {p q : Nat × Nat} (H : p = q) (h : a = q.1) (h' : b = q.2) : Ending.returned (.tuple #[.int .u8 a, .int .i64 b]) = .returned (.tuple #[.int .u8 p.1, .int .i64 p.2]) := by rw [H, h, h']

set_option maxHeartbeats 400000 in
theorem readHex_any (s : ByteArray) (w : World) :
    Calls Tryd.prog 60 #[.string s] w fun e w' => e = .returned (.tuple #[.int .u8 (rhexL s.data.toList).1, .int .i64 (rhexL s.data.toList).2]) ∧ w = w' := by
  by_cases h : s.size < 4
  · have HR : Hid (rhexL s.data.toList = (0, 0)) := by show _ = _; simp [rhexL, h]
    go_enter Tryd.func60, Tryd.ntmps60
    go_wp2
    go_ret2
    exact ⟨ret_form HR.out rfl rfl, rfl⟩
  have h2 : 2 < s.size := by omega
  have h3 : 3 < s.size := by omega
  have HR : Hid (rhexL s.data.toList = rhex s[2].toNat s[3].toNat) := by
    show _ = _
    rw [rhexL, if_neg (by rw [len_of]; omega), getD_of s 2 h2, getD_of s 3 h3]
  have a1 := hexI_lt s[2].toNat; have a2 := hexI_ge s[2].toNat; have b1 := hexI_lt s[3].toNat; have b2 := hexI_ge s[3].toNat
  by_cases ha : hexI s[2].toNat < 0
  · go_enter Tryd.func60, Tryd.ntmps60
    go_wp2_with (go_at_call 71; refine (indexHex_any _ _).mono ?_; rintro e w' ⟨rfl, rfl⟩)
    go_ret2
    exact ⟨ret_form (q := (0, 0)) (by rw [HR.out]; simp [rhex, ha]) rfl rfl, rfl⟩
  by_cases hb : hexI s[3].toNat < 0
  · go_enter Tryd.func60, Tryd.ntmps60
    go_wp2_with (go_at_call 71; refine (indexHex_any _ _).mono ?_; rintro e w' ⟨rfl, rfl⟩)
    go_ret2
    exact ⟨ret_form (q := (0, 0)) (by rw [HR.out]; simp [rhex, hb]) rfl rfl, rfl⟩
  obtain ⟨m, hm, hv, hlt⟩ : ∃ m : Nat, hexI s[2].toNat * 16 + hexI s[3].toNat = (m : Int) ∧ bits .or .i64 (hexI s[2].toNat * 16) (hexI s[3].toNat) = (m : Int) ∧ m < 256 := by
    obtain ⟨x, hx⟩ := Int.eq_ofNat_of_zero_le (a := hexI s[2].toNat) (by omega)
    obtain ⟨y, hy⟩ := Int.eq_ofNat_of_zero_le (a := hexI s[3].toNat) (by omega)
    refine ⟨x * 16 + y, by omega, ?_, by omega⟩
    rw [hx, hy]
    exact or_hex ⟨x, by omega⟩ ⟨y, by omega⟩
  have HK : Hid (rhexL s.data.toList = if m = 10 ∨ prn m = true then (0, 0) else (m, 4)) := by
    show _ = _
    rw [HR.out]; exact rhex_ok _ _ m ha hb hm
  clear HR hm
  have hmod : (m : Int) % 256 = m := by omega
  by_cases h10 : m = 10
  · have h10' : ((m : Int) == 10) = true := by simp; omega
    have HK : Hid (rhexL s.data.toList = (0, 0)) := by show _ = _; rw [HK.out, if_pos (Or.inl h10)]
    clear h10
    go_enter Tryd.func60, Tryd.ntmps60
    go_wp2_with (go_at_call 71; refine (indexHex_any _ _).mono ?_; rintro e w' ⟨rfl, rfl⟩)
    go_ret2
    exact ⟨ret_form HK.out rfl rfl, rfl⟩
  have h10' : ((m : Int) == 10) = false := by simp; omega
  cases hp : prn m
  · have HK : Hid (rhexL s.data.toList = (m, 4)) := by show _ = _; rw [HK.out, if_neg (by simp [h10, hp])]
    clear h10
    go_enter Tryd.func60, Tryd.ntmps60
    go_wp2_with (first | (go_at_call 71; refine (indexHex_any _ _).mono ?_; rintro e w' ⟨rfl, rfl⟩) | (go_at_call 47; refine (isPrintable_any _ _).mono ?_; rintro e w' ⟨rfl, rfl⟩))
    go_ret2
    exact ⟨ret_form HK.out rfl rfl, rfl⟩
  · have HK : Hid (rhexL s.data.toList = (0, 0)) := by show _ = _; rw [HK.out, if_pos (Or.inr hp)]
    clear h10
    go_enter Tryd.func60, Tryd.ntmps60
    go_wp2_with (first | (go_at_call 71; refine (indexHex_any _ _).mono ?_; rintro e w' ⟨rfl, rfl⟩) | (go_at_call 47; refine (isPrintable_any _ _).mono ?_; rintro e w' ⟨rfl, rfl⟩))
    go_ret2
    exact ⟨ret_form HK.out rfl rfl, rfl⟩


set_option maxHeartbeats 400000 in
theorem readEscape_any (s : ByteArray) (w : World) :
    Calls Tryd.prog 48 #[.string s] w fun e w' => e = .returned (.tuple #[.int .u8 (resc s.data.toList).1, .int .i64 (resc s.data.toList).2]) ∧ w = w' := by
  by_cases h : s.size < 2
  · have HR : Hid (resc s.data.toList = (0, 0)) := by show _ = _; simp [resc, h]
    go_enter Tryd.func48, Tryd.ntmps48
    go_wp2
    go_ret2
    exact ⟨ret_form HR.out rfl rfl, rfl⟩
  have h1 : 1 < s.size := by omega
  have HR : Hid (resc s.data.toList = if s[1].toNat = 34 ∨ s[1].toNat = 92 then (s[1].toNat, 2) else if s[1].toNat = 110 then (10, 2) else if s[1].toNat = 120 then rhexL s.data.toList else (0, 0)) := by
    show _ = _
    rw [resc, if_neg (by rw [len_of]; omega), getD_of s 1 h1]
  by_cases c1 : s[1].toNat = 34
  · have HK : Hid (resc s.data.toList = (s[1].toNat, 2)) := by show _ = _; rw [HR.out, if_pos (Or.inl c1)]
    have c1' : ((s[1].toNat : Int) == 34) = true := beqI c1
    clear HR c1
    go_enter Tryd.func48, Tryd.ntmps48
    go_wp2
    go_ret2
    exact ⟨ret_form HK.out rfl rfl, rfl⟩
  have c1' : ((s[1].toNat : Int) == 34) = false := bneI c1
  by_cases c2 : s[1].toNat = 92
  · have HK : Hid (resc s.data.toList = (s[1].toNat, 2)) := by show _ = _; rw [HR.out, if_pos (Or.inr c2)]
    have c2' : ((s[1].toNat : Int) == 92) = true := beqI c2
    clear HR c1 c2
    go_enter Tryd.func48, Tryd.ntmps48
    go_wp2
    go_ret2
    exact ⟨ret_form HK.out rfl rfl, rfl⟩
  have c2' : ((s[1].toNat : Int) == 92) = false := bneI c2
  by_cases c3 : s[1].toNat = 110
  · have HK : Hid (resc s.data.toList = (10, 2)) := by show _ = _; rw [HR.out, if_neg (by omega), if_pos c3]
    have c3' : ((s[1].toNat : Int) == 110) = true := beqI c3
    clear HR c1 c2 c3
    go_enter Tryd.func48, Tryd.ntmps48
    go_wp2
    go_ret2
    exact ⟨ret_form HK.out rfl rfl, rfl⟩
  have c3' : ((s[1].toNat : Int) == 110) = false := bneI c3
  by_cases c4 : s[1].toNat = 120
  · have HK : Hid (resc s.data.toList = rhexL s.data.toList) := by show _ = _; rw [HR.out, if_neg (by omega), if_neg c3, if_pos c4]
    have c4' : ((s[1].toNat : Int) == 120) = true := beqI c4
    clear HR c1 c2 c3 c4
    go_enter Tryd.func48, Tryd.ntmps48
    go_wp2_with (go_at_call 60; refine (readHex_any _ _).mono ?_; rintro e w' ⟨rfl, rfl⟩)
    go_ret2
    exact ⟨ret_form HK.out rfl rfl, rfl⟩
  have c4' : ((s[1].toNat : Int) == 120) = false := bneI c4
  have HK : Hid (resc s.data.toList = (0, 0)) := by show _ = _; rw [HR.out, if_neg (by omega), if_neg c3, if_neg c4]
  clear HR c1 c2 c3 c4
  go_enter Tryd.func48, Tryd.ntmps48
  go_wp2
  go_ret2
  exact ⟨ret_form HK.out rfl rfl, rfl⟩

set_option maxHeartbeats 400000 in
theorem readForm_any (s : ByteArray) (w : World) :
    Calls Tryd.prog 35 #[.string s] w fun e w' => e = .returned (.tuple #[.int .u8 (rfm s.data.toList).1, .int .i64 (rfm s.data.toList).2]) ∧ w = w' := by
  by_cases h : s.size = 0
  · have hs := empty_of s h
    subst hs
    go_enter Tryd.func35, Tryd.ntmps35
    go_wp2
    go_ret2
    exact ⟨rfl, rfl⟩
  have h0 : 0 < s.size := by omega
  have hE := isE s h0
  have hE' := notE s h0
  have HR : Hid (rfm s.data.toList = if s[0].toNat = 34 ∨ prn s[0].toNat = false then (0, 0) else if s[0].toNat = 92 then resc s.data.toList else (s[0].toNat, 1)) := by
    show _ = _
    rw [rfm, if_neg (by rw [len_of]; omega), getD_of s 0 h0]
  by_cases c1 : s[0].toNat = 34
  · have HK : Hid (rfm s.data.toList = (0, 0)) := by show _ = _; rw [HR.out, if_pos (Or.inl c1)]
    have c1' : ((s[0].toNat : Int) == 34) = true := beqI c1
    clear HR c1
    go_enter Tryd.func35, Tryd.ntmps35
    go_wp2
    go_ret2
    exact ⟨ret_form HK.out rfl rfl, rfl⟩
  have c1' : ((s[0].toNat : Int) == 34) = false := bneI c1
  cases hp : prn s[0].toNat
  · have HK : Hid (rfm s.data.toList = (0, 0)) := by show _ = _; rw [HR.out, if_pos (Or.inr hp)]
    clear HR c1
    go_enter Tryd.func35, Tryd.ntmps35
    go_wp2_with (go_at_call 47; refine (isPrintable_any _ _).mono ?_; rintro e w' ⟨rfl, rfl⟩)
    go_ret2
    exact ⟨ret_form HK.out rfl rfl, rfl⟩
  by_cases c2 : s[0].toNat = 92
  · have HK : Hid (rfm s.data.toList = resc s.data.toList) := by show _ = _; rw [HR.out, if_neg (by simp [c1, hp]), if_pos c2]
    have c2' : ((s[0].toNat : Int) == 92) = true := beqI c2
    clear HR c1 c2
    go_enter Tryd.func35, Tryd.ntmps35
    go_wp2_with (first | (go_at_call 47; refine (isPrintable_any _ _).mono ?_; rintro e w' ⟨rfl, rfl⟩) | (go_at_call 48; refine (readEscape_any _ _).mono ?_; rintro e w' ⟨rfl, rfl⟩))
    go_ret2
    exact ⟨ret_form HK.out rfl rfl, rfl⟩
  · have HK : Hid (rfm s.data.toList = (s[0].toNat, 1)) := by show _ = _; rw [HR.out, if_neg (by simp [c1, hp]), if_neg c2]
    have c2' : ((s[0].toNat : Int) == 92) = false := bneI c2
    clear HR c1 c2
    go_enter Tryd.func35, Tryd.ntmps35
    go_wp2_with (go_at_call 47; refine (isPrintable_any _ _).mono ?_; rintro e w' ⟨rfl, rfl⟩)
    go_ret2
    exact ⟨ret_form HK.out rfl rfl, rfl⟩

end Go.Proofs.YthbpmolookmjaaaDoor
