/-
  DERIVED. The walks of lorryref04's digits, halves, Right and Parts.
-/
import Derived.Test.YthamlnolfagpiaaGreatDoorRatPure
import Derived.Test.YthamlnolfagpiaaGreatDoorRefTwo
import Derived.Test.YthamlnolfagpiaaGreatDoorIntRef
import Derived.BigRegion
import Derived.Deep.RegionWith
import Derived.Deep.CutRange
import Derived.Deep.QuietTactic
import Derived.BigQuiet
namespace Go.Proofs.YthamlnolfagpiaaGreatDoor.D
open Go.RowKit
set_option maxRecDepth 8000

/-! ### halves -/
theorem noSl_at {l : List UInt8} (h : noSl l = true) (k : Nat) (hk : k < l.length) : l[k].toNat ≠ 47 := by
  have := (List.all_eq_true.1 h) l[k] (List.getElem_mem hk)
  intro e
  rw [e] at this
  simp at this
set_option maxHeartbeats 400000 in
theorem halves_none (s : ByteArray) (h : noSl s.data.toList = true) (hs : s.size ≤ 1000000000) (w : World) :
    Calls Tryz.prog 40 #[.string s] w fun e w' => e = .returned (.tuple #[.string s, .string ⟨#[49]⟩, .bool false]) ∧ w = w' := by
  have HA : Hid (∀ k (hk : k < s.size), ((s[k].toNat : Int) == 47) = false) := fun k hk => bneI (b := 47) (noSl_at h k (by simpa using hk))
  clear h
  go_enter Tryz.func40, Tryz.ntmps40
  go_wp2_with fail
  go_loop [5] (fun i => ∃ k : Nat, k ≤ s.size ∧ i = .int .i64 k) (fun i => s.size - (intOf i).toNat)
  case atStart => exact ⟨0, Nat.zero_le _, rfl⟩
  case round =>
    obtain ⟨k, hk, rfl⟩ := hrel
    by_cases hlt : k < s.size
    · have h1 := HA.out k hlt
      go_wp2_with fail
      go_round
      case rel => exact ⟨k + 1, by omega, by go_num⟩
      case measure => simp [intOf]; omega
    · have hk' : k = s.size := by omega
      subst hk'
      go_wp2_with fail
      go_ret3
      exact ⟨rfl, rfl⟩

theorem ext_pre (s p q : ByteArray) (h : s.data.toList = p.data.toList ++ 47 :: q.data.toList) : s.extract 0 p.size = p := by
  apply ByteArray.ext
  apply Array.toList_inj.1
  rw [Lib.extract_data, h, List.drop_zero, Nat.sub_zero, ← len_of, List.take_left']
  rfl
theorem ext_post (s p q : ByteArray) (h : s.data.toList = p.data.toList ++ 47 :: q.data.toList) : s.extract (p.size + 1) s.size = q := by
  have hl : s.data.toList.length = p.data.toList.length + (q.data.toList.length + 1) := by rw [h, List.length_append, List.length_cons]
  rw [len_of, len_of, len_of] at hl
  apply ByteArray.ext
  apply Array.toList_inj.1
  rw [drop_ext, h, show p.data.toList ++ 47 :: q.data.toList = (p.data.toList ++ [47]) ++ q.data.toList by simp, List.drop_left' (by simp)]
theorem half_size (s p q : ByteArray) (h : s.data.toList = p.data.toList ++ 47 :: q.data.toList) : s.size = p.size + (q.size + 1) := by
  have hl : s.data.toList.length = p.data.toList.length + (q.data.toList.length + 1) := by rw [h, List.length_append, List.length_cons]
  rwa [len_of, len_of, len_of] at hl
set_option maxHeartbeats 400000 in
theorem halves_some (s p q : ByteArray) (hp : noSl p.data.toList = true) (h : s.data.toList = p.data.toList ++ 47 :: q.data.toList) (hs : s.size ≤ 1000000000) (w : World) :
    Calls Tryz.prog 40 #[.string s] w fun e w' => e = .returned (.tuple #[.string p, .string q, .bool true]) ∧ Below w.heap.size w w' := by
  have hsz : p.size < s.size := by rw [half_size s p q h]; omega
  have HP := Lib.hid (ext_pre s p q h)
  have HQ := Lib.hid (ext_post s p q h)
  have HA : Hid (∀ k (hk : k < s.size), k < p.size → ((s[k].toNat : Int) == 47) = false) := by
    intro k hk hkp
    refine bneI (b := 47) ?_
    have e1 : s[k] = p.data.toList[k]'(by simpa using hkp) := by
      have : s[k] = s.data.toList[k]'(by simpa using hk) := rfl
      rw [this]
      simp only [h]
      exact List.getElem_append_left (by simpa using hkp)
    rw [e1]
    exact noSl_at hp k _
  have HB : Hid (∀ hk : p.size < s.size, ((s[p.size].toNat : Int) == 47) = true) := by
    intro hk
    have e1 : s[p.size] = 47 := by
      have : s[p.size] = s.data.toList[p.size]'(by simpa using hk) := rfl
      rw [this]
      simp only [h]
      rw [List.getElem_append_right (by simp)]
      simp
    rw [e1]; rfl
  generalize hn : p.size = n at *
  have HN := Lib.hid hn
  clear h hp hn
  go_enter Tryz.func40, Tryz.ntmps40
  go_wp2_with fail
  go_loop [5] (fun i => ∃ k : Nat, k ≤ n ∧ i = .int .i64 k) (fun i => n - (intOf i).toNat)
  case atStart => exact ⟨0, Nat.zero_le _, rfl⟩
  case round =>
    obtain ⟨k, hk, rfl⟩ := hrel
    by_cases hlt : k < n
    · have h1 := HA.out k (by omega) hlt
      go_wp2_with fail
      go_round
      case rel => exact ⟨k + 1, by omega, by go_num⟩
      case measure => simp [intOf]; omega
    · have hk' : k = n := by omega
      subst hk'
      have h1 := HB.out (by omega)
      go_wp2_with fail
      go_quiet (fail)
      go_wp2_with fail
      go_ret3
      exact ⟨by rw [HP.out, HQ.out]; rfl, below_drewN (Below.refl _ _) _⟩

/-! ### digits -/
theorem refDigits4_any (s : ByteArray) (w : World) (hs : s.size ≤ 1000000000) :
    Calls Tryz.prog 43 #[.string s] w fun e w' => e = .returned (.int .i64 (dg s : Nat)) ∧ w = w' := by
  by_cases hz : s.size = 0
  · have hs := empty_of s hz
    subst hs
    go_enter Tryz.func43, Tryz.ntmps43
    go_wp2
    go_ret
    exact ⟨rfl, rfl⟩
  have h0 : 0 < s.size := by omega
  have HD : Hid (dg s = if s[0].toNat = 45 then s.size - 1 else s.size) := by
    show _ = _
    have := head_of s h0
    unfold dg
    match hl : s.data.toList with
    | [] => have := len_of s; rw [hl] at this; simp at this; omega
    | c :: t =>
      rw [hl, List.headD_cons] at this
      subst this
      rfl
  by_cases h : s[0].toNat = 45
  · have HD2 : Hid (dg s = s.size - 1) := by show _ = _; rw [HD.out, if_pos h]
    have h1 : ((s[0].toNat : Int) == 45) = true := by rw [h]; rfl
    clear h
    go_enter Tryz.func43, Tryz.ntmps43
    go_wp2
    go_ret
    exact ⟨ret_int (by rw [HD2.out]; omega), rfl⟩
  · have HD2 : Hid (dg s = s.size) := by show _ = _; rw [HD.out, if_neg h]
    have h1 : ((s[0].toNat : Int) == 45) = false := by simp; omega
    clear h
    go_enter Tryz.func43, Tryz.ntmps43
    go_wp2
    go_ret
    exact ⟨ret_int (by rw [HD2.out]), rfl⟩

theorem refDigits4_d (s : ByteArray) (d : Nat) (hd : Hid (dg s = d)) (w : World) (hs : s.size ≤ 1000000000) :
    Calls Tryz.prog 43 #[.string s] w fun e w' => e = .returned (.int .i64 d) ∧ w = w' := by
  have := refDigits4_any s w hs
  rwa [hd.out] at this

/-! ### Right -/
theorem has_slash (l : List UInt8) (h : noSl l = false) : ∃ p q, l = p ++ 47 :: q ∧ noSl p = true := by
  induction l with
  | nil => cases h
  | cons c t ih =>
    by_cases hc : c.toNat = 47
    · exact ⟨[], t, by rw [show c = 47 from UInt8.toNat_inj.1 hc]; rfl, rfl⟩
    · have h2 : noSl t = false := by
        rw [noSl, List.all_cons] at h
        show (t.all fun c => !(c.toNat == 47)) = false
        simpa [hc] using h
      obtain ⟨p, q, he, hp⟩ := ih h2
      refine ⟨c :: p, q, by rw [he]; rfl, ?_⟩
      rw [noSl, List.all_cons]
      rw [noSl] at hp
      rw [hp]
      simp [hc]
theorem rightR_sl {s p q : ByteArray} (h : s.data.toList = p.data.toList ++ 47 :: q.data.toList) (hp : noSl p.data.toList = true) (hr : rightR s.data.toList = true) :
    ∃ r : Rat, r.den ≠ 1 ∧ p = inum r.num ∧ q = num r.den := by
  obtain ⟨r, _, he⟩ := rightR_of hr
  have h1 := cut_rtx r
  rw [← he, h, cutS_app _ _ hp] at h1
  have h2 := congrArg Prod.fst h1
  have h3 := congrArg Prod.snd h1
  simp only at h2 h3
  by_cases hd : r.den = 1
  · rw [if_pos hd] at h3; cases h3
  · rw [if_neg hd] at h3
    exact ⟨r, hd, by rw [inum, ← h2, Lib.mk_data], by rw [num, ← Option.some.inj h3, Lib.mk_data]⟩
theorem one_eq (v : Nat) : ((num v).toList == [49]) = decide (v = 1) := by
  rw [← eq_num v 1, show (num 1).toList = [49] by rw [ByteArray.toList_eq, num_data, Lib.decDigits_one (by omega)]; rfl]
theorem bad_of {b : Bool} (h : b = true → False) : Hid (b = false) := by show _ = _; cases b; rfl; exact absurd rfl h

set_option maxHeartbeats 400000 in
theorem right4_none (s : ByteArray) (h : noSl s.data.toList = true) (hs : s.size ≤ 4000) (w : World) :
    Calls Tryz.prog 15 #[.string s] w fun e w' => e = .returned (.bool (rightR s.data.toList)) ∧ w = w' := by
  have h49 : rightL (⟨#[49]⟩ : ByteArray).data.toList = true := by decide
  have H1 : Hid (∀ w : World, Calls Tryz.prog 42 #[.string ⟨#[49]⟩] w fun e w' => e = .returned (.bool true) ∧ w = w') := by
    intro w
    have := refRight_any ⟨#[49]⟩ w (by decide)
    rwa [h49] at this
  have H2 : Hid (∀ w : World, Calls Tryz.prog 43 #[.string ⟨#[49]⟩] w fun e w' => e = .returned (.int .i64 (1 : Nat)) ∧ w = w') :=
    fun w => refDigits4_d ⟨#[49]⟩ 1 (Lib.hid (by decide)) w (by decide)
  have HH := Lib.hid (fun w => halves_none s h (by omega) w)
  cases hr : rightI s.data.toList
  · have HK : Hid (rightR s.data.toList = false) := bad_of (by
      intro hR
      obtain ⟨r, _, he⟩ := rightR_of hR
      have h1 := cut_rtx r
      rw [← he, cutS_all _ h] at h1
      have h2 := congrArg Prod.fst h1
      simp only at h2
      rw [h2, rightI_inum] at hr
      cases hr)
    have HR := Lib.hid hr
    clear hr h h49
    go_enter Tryz.func15, Tryz.ntmps15
    go_wp2_with (first
      | (go_at_call 40; with_reducible refine (HH.out _).mono ?_; rintro e w' ⟨rfl, rfl⟩)
      | (go_at_call 41; with_reducible refine (refRight3_e s false HR _ (by omega)).mono ?_; rintro e w' ⟨rfl, rfl⟩))
    go_ret
    exact ⟨ret_bool HK.out.symm, rfl⟩
  · obtain ⟨z, hz⟩ := rightI_str s hr
    have hd := dg_inum z
    have hn : nd z.natAbs ≤ 4000 := nd_sz (by rw [← hz]; exact hs)
    have HK : Hid (rightR s.data.toList = true) := rightR_one _ z (by omega) (by rw [hz]; rfl)
    rw [← hz] at hd
    generalize nd z.natAbs = d at hd hn
    have HD := Lib.hid hd
    have HR := Lib.hid hr
    clear hr h hd hz h49
    go_enter Tryz.func15, Tryz.ntmps15
    go_wp2_with (first
      | (go_at_call 40; with_reducible refine (HH.out _).mono ?_; rintro e w' ⟨rfl, rfl⟩)
      | (go_at_call 41; with_reducible refine (refRight3_e s true HR _ (by omega)).mono ?_; rintro e w' ⟨rfl, rfl⟩)
      | (go_at_call 42; with_reducible refine (H1.out _).mono ?_; rintro e w' ⟨rfl, rfl⟩)
      | (go_at_call 43; with_reducible refine (refDigits4_d s d HD _ (by omega)).mono ?_; rintro e w' ⟨rfl, rfl⟩)
      | (go_at_call 43; with_reducible refine (H2.out _).mono ?_; rintro e w' ⟨rfl, rfl⟩))
    go_ret
    exact ⟨ret_bool HK.out.symm, rfl⟩

theorem refRight_e (s : ByteArray) (b : Bool) (hb : Hid (rightL s.data.toList = b)) (w : World) (hs : s.size ≤ 1000000000) :
    Calls Tryz.prog 42 #[.string s] w fun e w' => e = .returned (.bool b) ∧ w = w' := by
  have := refRight_any s w hs
  rwa [hb.out] at this
set_option maxHeartbeats 800000 in
theorem right4_p (s p q : ByteArray) (hp : noSl p.data.toList = true) (h : s.data.toList = p.data.toList ++ 47 :: q.data.toList) (hs : s.size ≤ 4000) (HR : Hid (rightI p.data.toList = false)) (w : World) :
    Calls Tryz.prog 15 #[.string s] w fun e w' => e = .returned (.bool false) ∧ Below w.heap.size w w' := by
  have hsz := half_size s p q h
  have HH := Lib.hid (fun w => halves_some s p q hp h (by omega) w)
  have hps : p.size ≤ 4000 := by omega
  have hqs : q.size ≤ 4000 := by omega
  clear h hp hsz
  go_enter Tryz.func15, Tryz.ntmps15
  go_wp2_with fail
  refine (HH.out _).mono ?_
  rintro e w1 ⟨rfl, b1⟩
  go_wp2_with (first
    | (go_at_call 41; with_reducible refine (refRight3_e p false HR _ (by omega)).mono ?_; rintro e w' ⟨rfl, rfl⟩))
  go_ret
  exact ⟨rfl, b1⟩
set_option maxHeartbeats 800000 in
theorem right4_q (s p q : ByteArray) (hp : noSl p.data.toList = true) (h : s.data.toList = p.data.toList ++ 47 :: q.data.toList) (hs : s.size ≤ 4000) (HR : Hid (rightI p.data.toList = true)) (HL : Hid (rightL q.data.toList = false)) (w : World) :
    Calls Tryz.prog 15 #[.string s] w fun e w' => e = .returned (.bool false) ∧ Below w.heap.size w w' := by
  have hsz := half_size s p q h
  have HH := Lib.hid (fun w => halves_some s p q hp h (by omega) w)
  have hps : p.size ≤ 4000 := by omega
  have hqs : q.size ≤ 4000 := by omega
  clear h hp hsz
  go_enter Tryz.func15, Tryz.ntmps15
  go_wp2_with fail
  refine (HH.out _).mono ?_
  rintro e w1 ⟨rfl, b1⟩
  go_wp2_with (first
    | (go_at_call 41; with_reducible refine (refRight3_e p true HR _ (by omega)).mono ?_; rintro e w' ⟨rfl, rfl⟩)
    | (go_at_call 42; with_reducible refine (refRight_e q false HL _ (by omega)).mono ?_; rintro e w' ⟨rfl, rfl⟩))
  go_ret
  exact ⟨rfl, b1⟩
set_option maxHeartbeats 800000 in
theorem right4_0 (s p q : ByteArray) (hp : noSl p.data.toList = true) (h : s.data.toList = p.data.toList ++ 47 :: q.data.toList) (hs : s.size ≤ 4000) (HR : Hid (rightI p.data.toList = true)) (HL : Hid (rightL q.data.toList = true)) (h0 : (p.toList == [48]) = true) (w : World) :
    Calls Tryz.prog 15 #[.string s] w fun e w' => e = .returned (.bool false) ∧ Below w.heap.size w w' := by
  have hsz := half_size s p q h
  have HH := Lib.hid (fun w => halves_some s p q hp h (by omega) w)
  have hps : p.size ≤ 4000 := by omega
  have hqs : q.size ≤ 4000 := by omega
  have hd : dg p ≤ 4000 := Nat.le_trans (dg_le p) hps
  have hd2 : dg q ≤ 4000 := Nat.le_trans (dg_le q) hqs
  obtain ⟨d, hde⟩ : ∃ d, dg p = d := ⟨_, rfl⟩
  obtain ⟨d2, hde2⟩ : ∃ d, dg q = d := ⟨_, rfl⟩
  rw [hde] at hd
  rw [hde2] at hd2
  have HD := Lib.hid hde
  have HD2 := Lib.hid hde2
  clear hde hde2
  clear h hp hsz
  go_enter Tryz.func15, Tryz.ntmps15
  go_wp2_with fail
  refine (HH.out _).mono ?_
  rintro e w1 ⟨rfl, b1⟩
  go_wp2_with (first
    | (go_at_call 41; with_reducible refine (refRight3_e p true HR _ (by omega)).mono ?_; rintro e w' ⟨rfl, rfl⟩)
    | (go_at_call 42; with_reducible refine (refRight_e q true HL _ (by omega)).mono ?_; rintro e w' ⟨rfl, rfl⟩)
    | (go_at_call 43; with_reducible refine (refDigits4_d p d HD _ (by omega)).mono ?_; rintro e w' ⟨rfl, rfl⟩)
    | (go_at_call 43; with_reducible refine (refDigits4_d q d2 HD2 _ (by omega)).mono ?_; rintro e w' ⟨rfl, rfl⟩))
  go_ret
  exact ⟨rfl, b1⟩
set_option maxHeartbeats 800000 in
theorem right4_00 (s p q : ByteArray) (hp : noSl p.data.toList = true) (h : s.data.toList = p.data.toList ++ 47 :: q.data.toList) (hs : s.size ≤ 4000) (HR : Hid (rightI p.data.toList = true)) (HL : Hid (rightL q.data.toList = true)) (h0 : (p.toList == [48]) = false) (h1 : (q.toList == [48]) = true) (w : World) :
    Calls Tryz.prog 15 #[.string s] w fun e w' => e = .returned (.bool false) ∧ Below w.heap.size w w' := by
  have hsz := half_size s p q h
  have HH := Lib.hid (fun w => halves_some s p q hp h (by omega) w)
  have hps : p.size ≤ 4000 := by omega
  have hqs : q.size ≤ 4000 := by omega
  have hd : dg p ≤ 4000 := Nat.le_trans (dg_le p) hps
  have hd2 : dg q ≤ 4000 := Nat.le_trans (dg_le q) hqs
  obtain ⟨d, hde⟩ : ∃ d, dg p = d := ⟨_, rfl⟩
  obtain ⟨d2, hde2⟩ : ∃ d, dg q = d := ⟨_, rfl⟩
  rw [hde] at hd
  rw [hde2] at hd2
  have HD := Lib.hid hde
  have HD2 := Lib.hid hde2
  clear hde hde2
  clear h hp hsz
  go_enter Tryz.func15, Tryz.ntmps15
  go_wp2_with fail
  refine (HH.out _).mono ?_
  rintro e w1 ⟨rfl, b1⟩
  go_wp2_with (first
    | (go_at_call 41; with_reducible refine (refRight3_e p true HR _ (by omega)).mono ?_; rintro e w' ⟨rfl, rfl⟩)
    | (go_at_call 42; with_reducible refine (refRight_e q true HL _ (by omega)).mono ?_; rintro e w' ⟨rfl, rfl⟩)
    | (go_at_call 43; with_reducible refine (refDigits4_d p d HD _ (by omega)).mono ?_; rintro e w' ⟨rfl, rfl⟩)
    | (go_at_call 43; with_reducible refine (refDigits4_d q d2 HD2 _ (by omega)).mono ?_; rintro e w' ⟨rfl, rfl⟩))
  go_ret
  exact ⟨rfl, b1⟩
set_option maxHeartbeats 800000 in
theorem right4_1 (s p q : ByteArray) (hp : noSl p.data.toList = true) (h : s.data.toList = p.data.toList ++ 47 :: q.data.toList) (hs : s.size ≤ 4000) (HR : Hid (rightI p.data.toList = true)) (HL : Hid (rightL q.data.toList = true)) (h0 : (p.toList == [48]) = false) (h1 : (q.toList == [48]) = false) (h2 : (q.toList == [49]) = true) (w : World) :
    Calls Tryz.prog 15 #[.string s] w fun e w' => e = .returned (.bool false) ∧ Below w.heap.size w w' := by
  have hsz := half_size s p q h
  have HH := Lib.hid (fun w => halves_some s p q hp h (by omega) w)
  have hps : p.size ≤ 4000 := by omega
  have hqs : q.size ≤ 4000 := by omega
  have hd : dg p ≤ 4000 := Nat.le_trans (dg_le p) hps
  have hd2 : dg q ≤ 4000 := Nat.le_trans (dg_le q) hqs
  obtain ⟨d, hde⟩ : ∃ d, dg p = d := ⟨_, rfl⟩
  obtain ⟨d2, hde2⟩ : ∃ d, dg q = d := ⟨_, rfl⟩
  rw [hde] at hd
  rw [hde2] at hd2
  have HD := Lib.hid hde
  have HD2 := Lib.hid hde2
  clear hde hde2
  clear h hp hsz
  go_enter Tryz.func15, Tryz.ntmps15
  go_wp2_with fail
  refine (HH.out _).mono ?_
  rintro e w1 ⟨rfl, b1⟩
  go_wp2_with (first
    | (go_at_call 41; with_reducible refine (refRight3_e p true HR _ (by omega)).mono ?_; rintro e w' ⟨rfl, rfl⟩)
    | (go_at_call 42; with_reducible refine (refRight_e q true HL _ (by omega)).mono ?_; rintro e w' ⟨rfl, rfl⟩)
    | (go_at_call 43; with_reducible refine (refDigits4_d p d HD _ (by omega)).mono ?_; rintro e w' ⟨rfl, rfl⟩)
    | (go_at_call 43; with_reducible refine (refDigits4_d q d2 HD2 _ (by omega)).mono ?_; rintro e w' ⟨rfl, rfl⟩))
  go_ret
  exact ⟨rfl, b1⟩
theorem refAbs_e (z : Int) (n : Nat) (hn : Hid (z.natAbs = n)) (w : World) (h : (inum z).size ≤ 4096) :
    Calls Tryz.prog 44 #[.string (inum z)] w fun e w' => e = .returned (.tuple #[.string (num n), .int .i64 0]) ∧ Below w.heap.size w w' := by
  have := refAbs3_num z w h
  rw [inum_nat, hn.out] at this
  exact this
theorem refGcd_e (u v g : Nat) (hg : Hid (Nat.gcd u v = g)) (w : World) (hu : (num u).size ≤ 4096) (hv : (num v).size ≤ 4096) :
    Calls Tryz.prog 45 #[.string (num u), .string (num v)] w fun e w' => e = .returned (.tuple #[.string (num g), .int .i64 0]) ∧ Below w.heap.size w w' := by
  have := refGcd_num u v w hu hv
  rw [hg.out] at this
  exact this.mono fun _ _ ⟨he, hw⟩ => ⟨he, hw ▸ Below.refl _ _⟩
theorem num_inum4 (z : Int) : (num z.natAbs).size ≤ (inum z).size := by rw [num_size, inum_size]; exact Nat.le_add_right _ _
set_option maxHeartbeats 800000 in
theorem right4_g (s p q : ByteArray) (z : Int) (n g : Nat) (b : Bool) (hp : noSl p.data.toList = true) (h : s.data.toList = p.data.toList ++ 47 :: q.data.toList) (hs : s.size ≤ 4000)
    (hz : p = inum z) (hn : q = num n) (h0 : (p.toList == [48]) = false) (h1 : (q.toList == [48]) = false) (h2 : (q.toList == [49]) = false) (hg : Nat.gcd z.natAbs n = g) (hb : ((num g).toList == [49]) = b) (w : World) :
    Calls Tryz.prog 15 #[.string s] w fun e w' => e = .returned (.bool b) ∧ Below w.heap.size w w' := by
  have hsz := half_size s p q h
  have HH := Lib.hid (fun w => halves_some s p q hp h (by omega) w)
  have hps : p.size ≤ 4000 := by omega
  have hqs : q.size ≤ 4000 := by omega
  have HR : Hid (rightI p.data.toList = true) := by show _ = _; rw [hz]; exact rightI_inum z
  have HL : Hid (rightL q.data.toList = true) := by show _ = _; rw [hn, num_data]; exact right_num n
  obtain ⟨u, hu⟩ : ∃ u, z.natAbs = u := ⟨_, rfl⟩
  have HA : Hid (∀ w : World, Calls Tryz.prog 44 #[.string p] w fun e w' => e = .returned (.tuple #[.string (num u), .int .i64 0]) ∧ Below w.heap.size w w') := by
    intro w
    rw [hz]
    exact refAbs_e z u hu w (by rw [← hz]; omega)
  have HG : Hid (∀ w : World, Calls Tryz.prog 45 #[.string (num u), .string q] w fun e w' => e = .returned (.tuple #[.string (num g), .int .i64 0]) ∧ Below w.heap.size w w') := by
    intro w
    rw [hn]
    have hh := num_inum4 z
    rw [hu, ← hz] at hh
    exact refGcd_e u n g (by rw [← hu]; exact hg) w (by omega) (by rw [← hn]; omega)
  have hd : dg p ≤ 4000 := Nat.le_trans (dg_le p) hps
  have hd2 : dg q ≤ 4000 := Nat.le_trans (dg_le q) hqs
  obtain ⟨d, hde⟩ : ∃ d, dg p = d := ⟨_, rfl⟩
  obtain ⟨d2, hde2⟩ : ∃ d, dg q = d := ⟨_, rfl⟩
  rw [hde] at hd
  rw [hde2] at hd2
  have HD := Lib.hid hde
  have HD2 := Lib.hid hde2
  clear hde hde2
  clear h hp hsz hz hn hg hu
  go_enter Tryz.func15, Tryz.ntmps15
  go_wp2_with fail
  refine (HH.out _).mono ?_
  rintro e w1 ⟨rfl, b1⟩
  go_wp2_with (first
    | (go_at_call 41; with_reducible refine (refRight3_e p true HR _ (by omega)).mono ?_; rintro e w' ⟨rfl, rfl⟩)
    | (go_at_call 42; with_reducible refine (refRight_e q true HL _ (by omega)).mono ?_; rintro e w' ⟨rfl, rfl⟩)
    | (go_at_call 43; with_reducible refine (refDigits4_d p d HD _ (by omega)).mono ?_; rintro e w' ⟨rfl, rfl⟩)
    | (go_at_call 43; with_reducible refine (refDigits4_d q d2 HD2 _ (by omega)).mono ?_; rintro e w' ⟨rfl, rfl⟩))
  refine (HA.out _).mono ?_
  rintro e w2 ⟨rfl, b2⟩
  have B2 := b1.trans (b2.mono b1.size)
  go_wp2_with fail
  refine (HG.out _).mono ?_
  rintro e w3 ⟨rfl, b3⟩
  have B3 := B2.trans (b3.mono B2.size)
  go_wp2_with fail
  go_ret
  exact ⟨rfl, B3⟩

theorem refRight4_any (s : ByteArray) (hs : s.size ≤ 4000) (w : World) :
    Calls Tryz.prog 15 #[.string s] w fun e w' => e = .returned (.bool (rightR s.data.toList)) ∧ Below w.heap.size w w' := by
  cases hsl : noSl s.data.toList
  · obtain ⟨pl, ql, he, hp⟩ := has_slash _ hsl
    obtain ⟨p, rfl⟩ : ∃ p : ByteArray, p.data.toList = pl := ⟨⟨pl.toArray⟩, by simp⟩
    obtain ⟨q, rfl⟩ : ∃ p : ByteArray, p.data.toList = ql := ⟨⟨ql.toArray⟩, by simp⟩
    have hno : (∀ r : Rat, r.den ≠ 1 → p = inum r.num → q = num r.den → False) → rightR s.data.toList = false := by
      intro hx
      cases hR : rightR s.data.toList
      · rfl
      · obtain ⟨r, h1, h2, h3⟩ := rightR_sl he hp hR
        exact (hx r h1 h2 h3).elim
    cases hr : rightI p.data.toList
    · rw [hno (by rintro r _ rfl _; rw [inum_data, rightI_inum] at hr; cases hr)]
      exact right4_p s p q hp he hs hr w
    cases hl : rightL q.data.toList
    · rw [hno (by rintro r _ _ rfl; rw [num_data, right_num] at hl; cases hl)]
      exact right4_q s p q hp he hs hr hl w
    obtain ⟨z, hz⟩ := rightI_str p hr
    obtain ⟨n, hn⟩ := right_str q hl
    have e0 := zero_eqI z
    have e1 := zero_eq n
    have e2 := one_eq n
    rw [← hz] at e0
    rw [← hn] at e1 e2
    by_cases c0 : z = 0
    · rw [hno (by
        intro r hd h1 _
        rw [hz, c0] at h1
        exact hd (rat_zero_den (inum_inj h1).symm))]
      exact right4_0 s p q hp he hs hr hl (by rw [e0]; exact decide_eq_true c0) w
    rw [decide_eq_false c0] at e0
    by_cases c1 : n = 0
    · rw [hno (by
        intro r _ _ h2
        rw [hn, c1] at h2
        have := rat_den_pos r
        have := num_inj h2
        omega)]
      exact right4_00 s p q hp he hs hr hl e0 (by rw [e1]; exact decide_eq_true c1) w
    rw [decide_eq_false c1] at e1
    by_cases c2 : n = 1
    · rw [hno (by
        intro r hd _ h2
        rw [hn, c2] at h2
        exact hd (num_inj h2).symm)]
      exact right4_1 s p q hp he hs hr hl e0 e1 (by rw [e2]; exact decide_eq_true c2) w
    rw [decide_eq_false c2] at e2
    have eg := one_eq (Nat.gcd z.natAbs n)
    by_cases c3 : Nat.gcd z.natAbs n = 1
    · have hsz := half_size s p q he
      have hR : rightR s.data.toList = true := by
        rw [he, hz, hn, inum_data, num_data]
        exact rightR_two z n (by omega) c3 (Nat.le_trans (nd_sz (k := 4000) (by rw [← hz]; omega)) (by omega)) (by have e := num_size n; rw [← hn] at e; show (Lib.decDigits n).length ≤ 4096; omega)
      rw [hR]
      exact right4_g s p q z n _ true hp he hs hz hn e0 e1 e2 rfl (by rw [eg]; exact decide_eq_true c3) w
    · rw [hno (by
        intro r _ h1 h2
        rw [hz] at h1
        rw [hn] at h2
        apply c3
        rw [inum_inj h1, num_inj h2]
        exact rat_gcd r)]
      exact right4_g s p q z n _ false hp he hs hz hn e0 e1 e2 rfl (by rw [eg]; exact decide_eq_false c3) w
  · exact (right4_none s hsl hs w).mono fun _ _ ⟨he, hw⟩ => ⟨he, hw ▸ Below.refl _ _⟩

/-! ### a right number's parts, and Parts -/
theorem rtx_halves (r : Rat) (hs : (rtx r).size ≤ 4000) (w : World) :
    Calls Tryz.prog 40 #[.string (rtx r)] w fun e w' => e = .returned (.tuple #[.string (inum r.num), .string (num r.den), .bool (decide (r.den ≠ 1))]) ∧ Below w.heap.size w w' := by
  by_cases h : r.den = 1
  · have e : rtx r = inum r.num := by rw [rtx, rtxL_one h]; rfl
    have e2 : (num 1) = ⟨#[49]⟩ := by rw [num, Lib.decDigits_one (by omega)]; rfl
    rw [e, h, e2]
    exact (halves_none _ (noSl_inum _) (by rw [← e]; omega) w).mono fun _ _ ⟨he, hw⟩ => ⟨he, hw ▸ Below.refl _ _⟩
  · rw [decide_eq_true h]
    exact halves_some (rtx r) (inum r.num) (num r.den) (noSl_inum _) (by rw [rtx_data, rtxL_two h, inum_data, num_data]) (by omega) w
theorem rtx_num_le (r : Rat) : (inum r.num).size ≤ (rtx r).size ∧ (num r.den).size ≤ (rtx r).size := by
  rw [← len_of (rtx r), rtx_data, ← len_of (inum r.num), inum_data, ← len_of (num r.den), num_data]
  by_cases h : r.den = 1
  · rw [rtxL_one h, h, Lib.decDigits_one (by omega)]
    obtain ⟨c, t, hc, _, _⟩ := dec_head r.num.natAbs
    refine ⟨Nat.le_refl _, ?_⟩
    have : 1 ≤ (inumL r.num).length := by unfold inumL; split <;> simp [hc]
    simpa using this
  · rw [rtxL_two h, List.length_append, List.length_cons]
    exact ⟨by omega, by omega⟩
theorem sz_of {r : Rat} {k : Nat} (h : (rtx r).size ≤ k) : Sz k r := by
  obtain ⟨h1, h2⟩ := rtx_num_le r
  exact ⟨nd_sz (Nat.le_trans h1 h), by rw [num_size] at h2; exact Nat.le_trans h2 h⟩
theorem right4_e (s : ByteArray) (b : Bool) (hb : Hid (rightR s.data.toList = b)) (hs : s.size ≤ 4000) (w : World) :
    Calls Tryz.prog 15 #[.string s] w fun e w' => e = .returned (.bool b) ∧ Below w.heap.size w w' := by
  have := refRight4_any s hs w
  rwa [hb.out] at this
theorem parts4_bad (s : ByteArray) (h : rightR s.data.toList = false) (hs : s.size ≤ 4000) (w : World) :
    Calls Tryz.prog 13 #[.string s] w fun e w' => e = .returned (.tuple #[.string ⟨#[]⟩, .string ⟨#[]⟩, .int .i64 3]) ∧ Below w.heap.size w w' := by
  have H := Lib.hid h
  clear h
  go_enter Tryz.func13, Tryz.ntmps13
  go_wp2_with fail
  refine (right4_e s false H hs _).mono ?_
  rintro e w1 ⟨rfl, b1⟩
  go_wp2_with fail
  go_ret3
  exact ⟨rfl, b1⟩
theorem parts4_r (r : Rat) (hs : (rtx r).size ≤ 4000) (w : World) :
    Calls Tryz.prog 13 #[.string (rtx r)] w fun e w' => e = .returned (.tuple #[.string (inum r.num), .string (num r.den), .int .i64 0]) ∧ Below w.heap.size w w' := by
  have hz := sz_of hs
  have H : Hid (rightR (rtx r).data.toList = true) := rightR_rtx ⟨Nat.le_trans hz.1 (by omega), Nat.le_trans hz.2 (by omega)⟩
  clear hz
  go_enter Tryz.func13, Tryz.ntmps13
  go_wp2_with fail
  refine (right4_e _ true H hs _).mono ?_
  rintro e w1 ⟨rfl, b1⟩
  go_wp2_with fail
  refine (rtx_halves r hs _).mono ?_
  rintro e w2 ⟨rfl, b2⟩
  go_wp2_with fail
  go_ret3
  exact ⟨rfl, b1.trans (b2.mono b1.size)⟩

end Go.Proofs.YthamlnolfagpiaaGreatDoor.D

