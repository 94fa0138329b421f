/-
  DERIVED. The walk of the specification's Number.
-/
import Derived.Test.YthbpmolookmjaaaDoorRefN
namespace Go.Proofs.YthbpmolookmjaaaDoor
open Go.RowKit

theorem getD_drop0 (l : List UInt8) (k : Nat) (h : k < l.length) : l.drop k = l.getD k 0 :: l.drop (k + 1) := by
  rw [List.drop_eq_getElem_cons h]; simp [List.getD_eq_getElem?_getD, h]
theorem digs_drop_no (l : List UInt8) (f k : Nat) (hf : f ≤ k) (hk : k < l.length) (h : dig (l.getD k 0).toNat = false) : digs (l.drop f) = false := by
  rw [digs, List.all_eq_false]
  refine ⟨l.getD k 0, ?_, by rw [h]; simp⟩
  rw [List.mem_iff_getElem?]
  exact ⟨k - f, by rw [List.getElem?_drop, show f + (k - f) = k by omega, List.getElem?_eq_getElem hk]; simp [List.getD_eq_getElem?_getD, hk]⟩
theorem digs_drop_yes (l : List UInt8) (f : Nat) (h : ∀ j, f ≤ j → j < l.length → dig (l.getD j 0).toNat = true) : digs (l.drop f) = true := by
  rw [digs, List.all_eq_true]
  intro c hc
  obtain ⟨i, hi⟩ := List.mem_iff_getElem?.1 hc
  rw [List.getElem?_drop] at hi
  obtain ⟨hl, he⟩ := List.getElem?_eq_some_iff.1 hi
  have := h (f + i) (by omega) hl
  rwa [List.getD_eq_getElem?_getD, hi, Option.getD_some] at this

/-- what the specification answers where the digits begin at f -/
structure Rd (l : List UInt8) (f : Nat) : Prop where
  no : digs (l.drop f) = false → numL l = (0, 3)
  big : digs (l.drop f) = true → 9223372036854775808 < valA 0 (l.drop f) → numL l = (0, 4)
  neg : digs (l.drop f) = true → f = 1 → valA 0 (l.drop f) ≤ 9223372036854775808 → numL l = (-(valA 0 (l.drop f) : Int), 0)
  pos : digs (l.drop f) = true → f = 0 → valA 0 (l.drop f) < 9223372036854775808 → numL l = ((valA 0 (l.drop f) : Int), 0)
  least : digs (l.drop f) = true → f = 0 → valA 0 (l.drop f) = 9223372036854775808 → numL l = (0, 4)

theorem rd_neg (r : List UInt8) (h : r ≠ []) (h48 : (r.headD 0).toNat ≠ 48) : Rd (45 :: r) 1 := by
  have hd : isDecB (45 :: r) = digs r := by
    have h1 : (!r.isEmpty) = true := by simpa using h
    have h2 : ((r.headD 0).toNat == 48) = false := beq_eq_false_iff_ne.2 h48
    rw [isDecB, dgs_neg, h1, h2]; simp
  have hh : (((45 : UInt8) :: r).headD 0).toNat = 45 := rfl
  refine ⟨fun h => ?_, fun h hb => ?_, fun h _ hb => ?_, fun _ h => by omega, fun _ h => by omega⟩ <;> simp only [List.drop_succ_cons, List.drop_zero] at * <;> unfold numL <;> rw [hd, h, dgs_neg]
  · simp
  · rw [if_neg (by simp), if_pos hh, if_neg (by omega)]
  · rw [if_neg (by simp), if_pos hh, if_pos hb]
theorem rd_pos (c : UInt8) (r : List UInt8) (hc : c.toNat ≠ 45) (h48 : c.toNat ≠ 48 ∨ r = []) : Rd (c :: r) 0 := by
  have hd : isDecB (c :: r) = digs (c :: r) := by
    rw [isDecB, dgs_pos c r hc]
    by_cases h1 : c.toNat = 48
    · rcases h48 with h | h
      · exact absurd h1 h
      · subst h
        have : c = 48 := UInt8.toNat_inj.1 (by simpa using h1)
        subst this; rfl
    · have h2 : (c.toNat == 48) = false := beq_eq_false_iff_ne.2 h1
      have h3 : ((c :: r) == [48]) = false := by
        apply beq_eq_false_iff_ne.2
        intro e; injection e with e _; exact h1 (by rw [e]; rfl)
      rw [h3, List.headD_cons, h2]; simp
  have hh : ¬ ((c :: r).headD 0).toNat = 45 := hc
  refine ⟨fun h => ?_, fun h hb => ?_, fun _ h => by omega, fun h _ hb => ?_, fun h _ hb => ?_⟩ <;> rw [List.drop_zero] at * <;> unfold numL <;> rw [hd, h, dgs_pos c r hc]
  · simp
  · rw [if_neg (by simp), if_neg hh, if_neg (by omega)]
  · rw [if_neg (by simp), if_neg hh, if_pos hb]
  · rw [if_neg (by simp), if_neg hh, if_neg (by omega)]



/-- the step of the second loop -/
theorem quo_lt (x t : Int) (c : Nat) (hc : 48 ≤ c) (hc2 : c ≤ 57) (ht : (-9223372036854775808 + ((c : Int) - 48)).tdiv 10 = t) : (x < t ↔ 10 * x - ((c : Int) - 48) < -9223372036854775808) ∧ -922337203685477581 ≤ t ∧ t ≤ 0 := by
  have e : (-9223372036854775808 + ((c : Int) - 48)) = -(9223372036854775808 - ((c : Int) - 48)) := by omega
  rw [e, Int.neg_tdiv, Int.tdiv_eq_ediv_of_nonneg (by omega)] at ht
  omega

set_option maxHeartbeats 1000000 in
theorem refNumber_neg (s : ByteArray) (w : World) (hs : s.size ≤ 1000000000) (h2 : 2 ≤ s.size) (c0 : s[0].toNat = 45) (c1 : s[1].toNat ≠ 48) (HR : Hid (Rd s.data.toList 1)) :
    Calls Tryd.prog 12 #[.string s] w fun e w' => e = .returned (.tuple #[.int .i64 (numL s.data.toList).1, .int .i64 (numL s.data.toList).2]) ∧ w = w' := by
  have c0' : ((s[0].toNat : Int) == 45) = true := beqI c0
  have c1' : ((s[1].toNat : Int) == 48) = false := bneI c1
  have hz : ((s.size : Int) == 1) = false := by simp; omega
  clear c0 c1
  go_enter Tryd.func12, Tryd.ntmps12
  go_wp2_with fail
  go_loop [5] (fun i => ∃ k : Nat, 1 ≤ k ∧ k ≤ s.size ∧ i = .int .i64 k ∧ Hid (∀ j, 1 ≤ j → j < k → dig (s.data.toList.getD j 0).toNat = true)) (fun i => s.size - (intOf i).toNat)
  case atStart => exact ⟨1, Nat.le_refl _, by omega, rfl, fun j h1 h2 => by omega⟩
  case round =>
    clear c0' c1' hz
    obtain ⟨k, hk1, hk, rfl, HA⟩ := hrel
    by_cases hlt : k < s.size
    · cases hw : dig s[k].toNat
      · have HK := Lib.hid (HR.out.no (digs_drop_no _ 1 k hk1 (by simpa using hlt) (by rw [getD_of s k hlt]; exact hw)))
        go_wp2_with (go_at_call 26; refine (refDigit_any _ _).mono ?_; rintro e w' ⟨rfl, rfl⟩)
        go_ret2
        exact ⟨ret_num HK.out, rfl⟩
      · have HA' : Hid (∀ j, 1 ≤ j → j < k + 1 → dig (s.data.toList.getD j 0).toNat = true) := fun j h1 h2 => by
          rcases Nat.lt_or_ge j k with h | h
          · exact HA.out j h1 h
          · have : j = k := by omega
            subst this
            rw [getD_of s j hlt]; exact hw
        go_wp2_with (go_at_call 26; refine (refDigit_any _ _).mono ?_; rintro e w' ⟨rfl, rfl⟩)
        go_round
        case rel => exact ⟨k + 1, by omega, by omega, by go_num, HA'⟩
        case measure => simp [intOf]; omega
    · have hk' : k = s.size := by omega
      subst hk'
      have HD := Lib.hid (digs_drop_yes s.data.toList 1 (fun j h1 h2 => HA.out j h1 (by simpa using h2)))
      have HC : Hid (∀ j (h : j < s.size), 1 ≤ j → 48 ≤ s[j].toNat ∧ s[j].toNat ≤ 57) := fun j h h1 => dig_bd (by rw [← getD_of s j h]; exact HA.out j h1 h)
      clear HA
      go_wp2_with fail
      go_loop [6, 7] (fun n i => ∃ (a : Nat) (x : Int) (k : Nat), 1 ≤ k ∧ k ≤ s.size ∧ i = .int .i64 k ∧ n = .int .i64 x ∧ -9223372036854775808 ≤ x ∧ x ≤ 0 ∧ Hid (x = -(a : Int)) ∧ Hid (valA 0 (s.data.toList.drop 1) = valA a (s.data.toList.drop k))) (fun _ i => s.size - (intOf i).toNat)
      case atStart => exact ⟨0, 0, 1, Nat.le_refl _, by omega, rfl, rfl, by omega, by omega, rfl, rfl⟩
      case round =>
        clear hk1 hk hlt
        obtain ⟨a, x, k, hk1, hk, rfl, rfl, hx0, hx1, HX, HV⟩ := hrel
        by_cases hlt : k < s.size
        · obtain ⟨t, ht⟩ : ∃ t, (-9223372036854775808 + ((s[k].toNat : Int) - 48)).tdiv 10 = t := ⟨_, rfl⟩
          have hc := HC.out k hlt hk1
          have hq := quo_lt x t _ hc.1 hc.2 ht
          have hc1 := hc.1
          have hc2 := hc.2
          have hwt : wrap64 t = t := by have := hq.2; unfold wrap64; omega
          have HS : Hid (valA 0 (s.data.toList.drop 1) = valA (a * 10 + (s[k].toNat - 48)) (s.data.toList.drop (k + 1))) := by
            show _ = _; rw [HV.out, getD_drop0 _ k (by simpa using hlt), valA_cons, getD_of s k hlt]
          clear HV hc
          by_cases hxt : x < t
          · have HK : Hid (numL s.data.toList = (0, 4)) := HR.out.big HD.out (by
              have := valA_ge (s.data.toList.drop (k + 1)) (a * 10 + (s[k].toNat - 48))
              have h2 := hq.1.1 hxt
              have h3 := HX.out
              rw [HS.out]; omega)
            clear hq
            go_wp2_with fail
            go_ret2
            exact ⟨ret_num HK.out, rfl⟩
          · have hy : -9223372036854775808 ≤ 10 * x - ((s[k].toNat : Int) - 48) := by
              have := hq.1
              omega
            have hy2 : -9223372036854775808 ≤ 10 * x := by omega
            have HX' : Hid (10 * x - ((s[k].toNat : Int) - 48) = -((a * 10 + (s[k].toNat - 48) : Nat) : Int)) := by
              have h3 := HX.out
              show _ = _
              omega
            clear hq HX
            go_wp2_with fail
            go_round
            case rel => exact ⟨_, _, k + 1, by omega, by omega, by go_num, rfl, by omega, by omega, HX', HS⟩
            case measure => simp [intOf]; omega
        · have hk' : k = s.size := by omega
          subst hk'
          have HW : Hid (valA 0 (s.data.toList.drop 1) = a) := by show _ = _; rw [HV.out, List.drop_of_length_le (by simp), valA_nil]
          clear HV
          have HK : Hid (numL s.data.toList = (x, 0)) := by
            have h3 := HX.out
            show _ = _
            rw [HR.out.neg HD.out rfl (by rw [HW.out]; omega), HW.out, h3]
          go_wp2_with fail
          go_ret2
          exact ⟨ret_num HK.out, rfl⟩

set_option maxHeartbeats 1000000 in
theorem refNumber_pos (s : ByteArray) (w : World) (hs : s.size ≤ 1000000000) (h2 : 1 ≤ s.size) (c0 : s[0].toNat ≠ 45) (c1 : s[0].toNat ≠ 48) (HR : Hid (Rd s.data.toList 0)) :
    Calls Tryd.prog 12 #[.string s] w fun e w' => e = .returned (.tuple #[.int .i64 (numL s.data.toList).1, .int .i64 (numL s.data.toList).2]) ∧ w = w' := by
  have c0' : ((s[0].toNat : Int) == 45) = false := bneI c0
  have hz : ((s.size : Int) == 0) = false := bneI (a := s.size) (b := 0) (by omega)
  have c1' : ((s[0].toNat : Int) == 48) = false := bneI c1
  clear c0 c1
  go_enter Tryd.func12, Tryd.ntmps12
  go_wp2_with fail
  go_loop [5] (fun i => ∃ k : Nat, 0 ≤ k ∧ k ≤ s.size ∧ i = .int .i64 k ∧ Hid (∀ j, 0 ≤ j → j < k → dig (s.data.toList.getD j 0).toNat = true)) (fun i => s.size - (intOf i).toNat)
  case atStart => exact ⟨0, Nat.le_refl _, by omega, rfl, fun j h1 h2 => by omega⟩
  case round =>
    clear c0' hz c1'
    obtain ⟨k, hk1, hk, rfl, HA⟩ := hrel
    by_cases hlt : k < s.size
    · cases hw : dig s[k].toNat
      · have HK := Lib.hid (HR.out.no (digs_drop_no _ 0 k hk1 (by simpa using hlt) (by rw [getD_of s k hlt]; exact hw)))
        go_wp2_with (go_at_call 26; refine (refDigit_any _ _).mono ?_; rintro e w' ⟨rfl, rfl⟩)
        go_ret2
        exact ⟨ret_num HK.out, rfl⟩
      · have HA' : Hid (∀ j, 0 ≤ j → j < k + 1 → dig (s.data.toList.getD j 0).toNat = true) := fun j h1 h2 => by
          rcases Nat.lt_or_ge j k with h | h
          · exact HA.out j h1 h
          · have : j = k := by omega
            subst this
            rw [getD_of s j hlt]; exact hw
        go_wp2_with (go_at_call 26; refine (refDigit_any _ _).mono ?_; rintro e w' ⟨rfl, rfl⟩)
        go_round
        case rel => exact ⟨k + 1, by omega, by omega, by go_num, HA'⟩
        case measure => simp [intOf]; omega
    · have hk' : k = s.size := by omega
      subst hk'
      have HD := Lib.hid (digs_drop_yes s.data.toList 0 (fun j h1 h2 => HA.out j h1 (by simpa using h2)))
      have HC : Hid (∀ j (h : j < s.size), 0 ≤ j → 48 ≤ s[j].toNat ∧ s[j].toNat ≤ 57) := fun j h h1 => dig_bd (by rw [← getD_of s j h]; exact HA.out j h1 h)
      clear HA
      go_wp2_with fail
      go_loop [6, 7] (fun n i => ∃ (a : Nat) (x : Int) (k : Nat), 0 ≤ k ∧ k ≤ s.size ∧ i = .int .i64 k ∧ n = .int .i64 x ∧ -9223372036854775808 ≤ x ∧ x ≤ 0 ∧ Hid (x = -(a : Int)) ∧ Hid (valA 0 (s.data.toList.drop 0) = valA a (s.data.toList.drop k))) (fun _ i => s.size - (intOf i).toNat)
      case atStart => exact ⟨0, 0, 0, Nat.le_refl _, by omega, rfl, rfl, by omega, by omega, rfl, rfl⟩
      case round =>
        clear hk1 hk hlt
        obtain ⟨a, x, k, hk1, hk, rfl, rfl, hx0, hx1, HX, HV⟩ := hrel
        by_cases hlt : k < s.size
        · obtain ⟨t, ht⟩ : ∃ t, (-9223372036854775808 + ((s[k].toNat : Int) - 48)).tdiv 10 = t := ⟨_, rfl⟩
          have hc := HC.out k hlt hk1
          have hq := quo_lt x t _ hc.1 hc.2 ht
          have hc1 := hc.1
          have hc2 := hc.2
          have hwt : wrap64 t = t := by have := hq.2; unfold wrap64; omega
          have HS : Hid (valA 0 (s.data.toList.drop 0) = valA (a * 10 + (s[k].toNat - 48)) (s.data.toList.drop (k + 1))) := by
            show _ = _; rw [HV.out, getD_drop0 _ k (by simpa using hlt), valA_cons, getD_of s k hlt]
          clear HV hc
          by_cases hxt : x < t
          · have HK : Hid (numL s.data.toList = (0, 4)) := HR.out.big HD.out (by
              have := valA_ge (s.data.toList.drop (k + 1)) (a * 10 + (s[k].toNat - 48))
              have h2 := hq.1.1 hxt
              have h3 := HX.out
              rw [HS.out]; omega)
            clear hq
            go_wp2_with fail
            go_ret2
            exact ⟨ret_num HK.out, rfl⟩
          · have hy : -9223372036854775808 ≤ 10 * x - ((s[k].toNat : Int) - 48) := by
              have := hq.1
              omega
            have hy2 : -9223372036854775808 ≤ 10 * x := by omega
            have HX' : Hid (10 * x - ((s[k].toNat : Int) - 48) = -((a * 10 + (s[k].toNat - 48) : Nat) : Int)) := by
              have h3 := HX.out
              show _ = _
              omega
            clear hq HX
            go_wp2_with fail
            go_round
            case rel => exact ⟨_, _, k + 1, by omega, by omega, by go_num, rfl, by omega, by omega, HX', HS⟩
            case measure => simp [intOf]; omega
        · have hk' : k = s.size := by omega
          subst hk'
          have HW : Hid (valA 0 (s.data.toList.drop 0) = a) := by show _ = _; rw [HV.out, List.drop_of_length_le (by simp), valA_nil]
          clear HV
          by_cases hx : x = -9223372036854775808
          · have HK : Hid (numL s.data.toList = (0, 4)) := by
              have h3 := HX.out
              show _ = _
              rw [HR.out.least HD.out rfl (by rw [HW.out]; omega)]
            have hx' : (x == -9223372036854775808) = true := by simp; omega
            clear hx
            go_wp2_with fail
            go_ret2
            exact ⟨ret_num HK.out, rfl⟩
          · have HK : Hid (numL s.data.toList = (-x, 0)) := by
              have h3 := HX.out
              show _ = _
              rw [HR.out.pos HD.out rfl (by rw [HW.out]; omega), HW.out, h3]; simp
            have hx' : (x == -9223372036854775808) = false := by simp; omega
            have hx2 : -9223372036854775807 ≤ x := by omega
            clear hx
            go_wp2_with fail
            go_ret2
            exact ⟨ret_num HK.out, rfl⟩

set_option maxHeartbeats 1000000 in
theorem refNumber_one (s : ByteArray) (w : World) (hs : s.size ≤ 1000000000) (h2 : 1 ≤ s.size) (c0 : s[0].toNat ≠ 45) (c1 : s[0].toNat = 48) (h3 : s.size ≤ 1) (HR : Hid (Rd s.data.toList 0)) :
    Calls Tryd.prog 12 #[.string s] w fun e w' => e = .returned (.tuple #[.int .i64 (numL s.data.toList).1, .int .i64 (numL s.data.toList).2]) ∧ w = w' := by
  have c0' : ((s[0].toNat : Int) == 45) = false := bneI c0
  have hz : ((s.size : Int) == 0) = false := bneI (a := s.size) (b := 0) (by omega)
  have c1' : ((s[0].toNat : Int) == 48) = true := beqI c1
  clear c0 c1
  go_enter Tryd.func12, Tryd.ntmps12
  go_wp2_with fail
  go_loop [5] (fun i => ∃ k : Nat, 0 ≤ k ∧ k ≤ s.size ∧ i = .int .i64 k ∧ Hid (∀ j, 0 ≤ j → j < k → dig (s.data.toList.getD j 0).toNat = true)) (fun i => s.size - (intOf i).toNat)
  case atStart => exact ⟨0, Nat.le_refl _, by omega, rfl, fun j h1 h2 => by omega⟩
  case round =>
    clear c0' hz c1'
    obtain ⟨k, hk1, hk, rfl, HA⟩ := hrel
    by_cases hlt : k < s.size
    · cases hw : dig s[k].toNat
      · have HK := Lib.hid (HR.out.no (digs_drop_no _ 0 k hk1 (by simpa using hlt) (by rw [getD_of s k hlt]; exact hw)))
        go_wp2_with (go_at_call 26; refine (refDigit_any _ _).mono ?_; rintro e w' ⟨rfl, rfl⟩)
        go_ret2
        exact ⟨ret_num HK.out, rfl⟩
      · have HA' : Hid (∀ j, 0 ≤ j → j < k + 1 → dig (s.data.toList.getD j 0).toNat = true) := fun j h1 h2 => by
          rcases Nat.lt_or_ge j k with h | h
          · exact HA.out j h1 h
          · have : j = k := by omega
            subst this
            rw [getD_of s j hlt]; exact hw
        go_wp2_with (go_at_call 26; refine (refDigit_any _ _).mono ?_; rintro e w' ⟨rfl, rfl⟩)
        go_round
        case rel => exact ⟨k + 1, by omega, by omega, by go_num, HA'⟩
        case measure => simp [intOf]; omega
    · have hk' : k = s.size := by omega
      subst hk'
      have HD := Lib.hid (digs_drop_yes s.data.toList 0 (fun j h1 h2 => HA.out j h1 (by simpa using h2)))
      have HC : Hid (∀ j (h : j < s.size), 0 ≤ j → 48 ≤ s[j].toNat ∧ s[j].toNat ≤ 57) := fun j h h1 => dig_bd (by rw [← getD_of s j h]; exact HA.out j h1 h)
      clear HA
      go_wp2_with fail
      go_loop [6, 7] (fun n i => ∃ (a : Nat) (x : Int) (k : Nat), 0 ≤ k ∧ k ≤ s.size ∧ i = .int .i64 k ∧ n = .int .i64 x ∧ -9223372036854775808 ≤ x ∧ x ≤ 0 ∧ Hid (x = -(a : Int)) ∧ Hid (valA 0 (s.data.toList.drop 0) = valA a (s.data.toList.drop k))) (fun _ i => s.size - (intOf i).toNat)
      case atStart => exact ⟨0, 0, 0, Nat.le_refl _, by omega, rfl, rfl, by omega, by omega, rfl, rfl⟩
      case round =>
        clear hk1 hk hlt
        obtain ⟨a, x, k, hk1, hk, rfl, rfl, hx0, hx1, HX, HV⟩ := hrel
        by_cases hlt : k < s.size
        · obtain ⟨t, ht⟩ : ∃ t, (-9223372036854775808 + ((s[k].toNat : Int) - 48)).tdiv 10 = t := ⟨_, rfl⟩
          have hc := HC.out k hlt hk1
          have hq := quo_lt x t _ hc.1 hc.2 ht
          have hc1 := hc.1
          have hc2 := hc.2
          have hwt : wrap64 t = t := by have := hq.2; unfold wrap64; omega
          have HS : Hid (valA 0 (s.data.toList.drop 0) = valA (a * 10 + (s[k].toNat - 48)) (s.data.toList.drop (k + 1))) := by
            show _ = _; rw [HV.out, getD_drop0 _ k (by simpa using hlt), valA_cons, getD_of s k hlt]
          clear HV hc
          by_cases hxt : x < t
          · have HK : Hid (numL s.data.toList = (0, 4)) := HR.out.big HD.out (by
              have := valA_ge (s.data.toList.drop (k + 1)) (a * 10 + (s[k].toNat - 48))
              have h2 := hq.1.1 hxt
              have h3 := HX.out
              rw [HS.out]; omega)
            clear hq
            go_wp2_with fail
            go_ret2
            exact ⟨ret_num HK.out, rfl⟩
          · have hy : -9223372036854775808 ≤ 10 * x - ((s[k].toNat : Int) - 48) := by
              have := hq.1
              omega
            have hy2 : -9223372036854775808 ≤ 10 * x := by omega
            have HX' : Hid (10 * x - ((s[k].toNat : Int) - 48) = -((a * 10 + (s[k].toNat - 48) : Nat) : Int)) := by
              have h3 := HX.out
              show _ = _
              omega
            clear hq HX
            go_wp2_with fail
            go_round
            case rel => exact ⟨_, _, k + 1, by omega, by omega, by go_num, rfl, by omega, by omega, HX', HS⟩
            case measure => simp [intOf]; omega
        · have hk' : k = s.size := by omega
          subst hk'
          have HW : Hid (valA 0 (s.data.toList.drop 0) = a) := by show _ = _; rw [HV.out, List.drop_of_length_le (by simp), valA_nil]
          clear HV
          by_cases hx : x = -9223372036854775808
          · have HK : Hid (numL s.data.toList = (0, 4)) := by
              have h3 := HX.out
              show _ = _
              rw [HR.out.least HD.out rfl (by rw [HW.out]; omega)]
            have hx' : (x == -9223372036854775808) = true := by simp; omega
            clear hx
            go_wp2_with fail
            go_ret2
            exact ⟨ret_num HK.out, rfl⟩
          · have HK : Hid (numL s.data.toList = (-x, 0)) := by
              have h3 := HX.out
              show _ = _
              rw [HR.out.pos HD.out rfl (by rw [HW.out]; omega), HW.out, h3]; simp
            have hx' : (x == -9223372036854775808) = false := by simp; omega
            have hx2 : -9223372036854775807 ≤ x := by omega
            clear hx
            go_wp2_with fail
            go_ret2
            exact ⟨ret_num HK.out, rfl⟩

theorem numL_nodec (l : List UInt8) (h : isDecB l = false) : numL l = (0, 3) := by rw [numL, if_pos h]
theorem cons_of (s : ByteArray) (h : 0 < s.size) : s.data.toList = s[0] :: s.data.toList.drop 1 := by
  have := getD_drop0 s.data.toList 0 (by simpa using h)
  rw [List.drop_zero, getD_of s 0 h] at this; exact this

set_option maxHeartbeats 400000 in
theorem refNumber_any (s : ByteArray) (w : World) (hs : s.size ≤ 1000000000) :
    Calls Tryd.prog 12 #[.string s] w fun e w' => e = .returned (.tuple #[.int .i64 (numL s.data.toList).1, .int .i64 (numL s.data.toList).2]) ∧ w = w' := by
  by_cases hz : s.size = 0
  · have hs := empty_of s hz
    subst hs
    go_enter Tryd.func12, Tryd.ntmps12
    go_wp2
    go_ret2
    exact ⟨ret_num (by decide +kernel), rfl⟩
  have h0 : 0 < s.size := by omega
  have hcons := cons_of s h0
  by_cases c0 : s[0].toNat = 45
  · have e0 : s[0] = 45 := UInt8.toNat_inj.1 (by simpa using c0)
    by_cases h2 : 2 ≤ s.size
    · have hc1 := getD_of s 1 (by omega)
      have hd1 : (s.data.toList.drop 1).headD 0 = s[1] := by rw [getD_drop0 _ 1 (by simp; omega), hc1]; rfl
      by_cases c1 : s[1].toNat = 48
      · have HK : Hid (numL s.data.toList = (0, 3)) := numL_nodec _ (by
          rw [hcons, e0, isDecB, dgs_neg, hd1, c1]; simp)
        have c0' : ((s[0].toNat : Int) == 45) = true := beqI c0
        have c1' : ((s[1].toNat : Int) == 48) = true := beqI c1
        have hz : ((s.size : Int) == 1) = false := bneI (a := s.size) (b := 1) (by omega)
        clear c0 c1 e0 hcons hc1 hd1
        go_enter Tryd.func12, Tryd.ntmps12
        go_wp2
        go_ret2
        exact ⟨ret_num HK.out, rfl⟩
      · refine refNumber_neg s w hs h2 c0 c1 ?_
        have := rd_neg (s.data.toList.drop 1) (by rw [getD_drop0 _ 1 (by simp; omega)]; simp) (by rw [hd1]; exact c1)
        show Rd _ _
        rw [hcons, e0]; exact this
    · have HK : Hid (numL s.data.toList = (0, 3)) := numL_nodec _ (by
        rw [hcons, e0, List.drop_of_length_le (by simp; omega)]; decide +kernel)
      have c0' : ((s[0].toNat : Int) == 45) = true := beqI c0
      have hz' : ((s.size : Int) == 1) = true := beqI (a := s.size) (b := 1) (by omega)
      clear c0 e0 hcons
      go_enter Tryd.func12, Tryd.ntmps12
      go_wp2
      go_ret2
      exact ⟨ret_num HK.out, rfl⟩
  · by_cases c1 : s[0].toNat = 48
    · by_cases h2 : 2 ≤ s.size
      · have HK : Hid (numL s.data.toList = (0, 3)) := numL_nodec _ (by
          have h1 : (s.data.toList == [48]) = false := by
            apply beq_eq_false_iff_ne.2
            intro e; have := congrArg List.length e; simp at this; omega
          rw [isDecB, h1, hcons, dgs_pos _ _ c0, List.headD_cons, c1]; simp)
        have c0' : ((s[0].toNat : Int) == 45) = false := bneI c0
        have c1' : ((s[0].toNat : Int) == 48) = true := beqI c1
        have hz' : ((s.size : Int) == 0) = false := bneI (a := s.size) (b := 0) (by omega)
        clear c0 c1 hcons
        go_enter Tryd.func12, Tryd.ntmps12
        go_wp2
        go_ret2
        exact ⟨ret_num HK.out, rfl⟩
      · refine refNumber_one s w hs h0 c0 c1 (by omega) ?_
        show Rd _ _
        rw [hcons]; exact rd_pos _ _ c0 (Or.inr (List.drop_of_length_le (by simp; omega)))
    · refine refNumber_pos s w hs h0 c0 c1 ?_
      show Rd _ _
      rw [hcons]; exact rd_pos _ _ c0 (Or.inl c1)

end Go.Proofs.YthbpmolookmjaaaDoor
