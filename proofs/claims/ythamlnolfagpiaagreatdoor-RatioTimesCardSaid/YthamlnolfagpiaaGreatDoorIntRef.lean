/-
  DERIVED. Merged by mkbase.py.
-/
import Derived.Test.YthamlnolfagpiaaGreatDoorDigRef
import Derived.Laws.OwnMore
import Derived.Test.YthamlnolfagpiaaGreatDoorIntPure
namespace Go.Proofs.YthamlnolfagpiaaGreatDoor.D
open Go.RowKit
set_option maxRecDepth 8000

/-- the sign's length -/
def offS (s : ByteArray) : Nat := if (s.data.toList.headD 0).toNat = 45 then 1 else 0
theorem rightI_parts (l : List UInt8) (o : Nat) (ho : o = if (l.headD 0).toNat = 45 then 1 else 0) (hl : o < l.length) :
    rightI l = (digs (l.drop o) && (!((l.getD o 0).toNat == 48) || l == [48])) := by
  match l, hl with
  | c :: t, hl =>
    rw [List.headD_cons] at ho
    unfold rightI
    by_cases hc : c.toNat = 45
    · rw [if_pos hc] at ho
      subst ho
      simp only [hc, if_true]
      match t, hl with
      | d :: r, hl =>
        have hne : ((c :: d :: r) == [48]) = false := by simp
        rw [hne, Bool.or_false, List.getD_cons_succ, List.getD_cons_zero, show (c :: d :: r).drop 1 = d :: r from rfl]
        unfold rightL
        by_cases h48 : d.toNat = 48
        · have hd : d = 48 := UInt8.toNat_inj.1 h48
          subst hd
          cases r with
          | nil => simp
          | cons x r => simp
        · have hd : d ≠ 48 := fun h => h48 (by rw [h]; rfl)
          have h1 : ((d :: r) == [48]) = false := by simp [hd]
          have h2 : (d.toNat == 48) = false := by simp [h48]
          rw [h1, List.headD_cons, h2]
          simp
    · rw [if_neg hc] at ho
      subst ho
      simp only [hc, if_false]
      rw [List.getD_cons_zero, List.drop_zero]
      unfold rightL
      by_cases h48 : c.toNat = 48
      · have hd : c = 48 := UInt8.toNat_inj.1 h48
        subst hd
        cases t with
        | nil => simp
        | cons x r => simp
      · have h2 : (c.toNat == 48) = false := by simp [h48]
        rw [List.headD_cons, h2]
        simp
theorem rightI_short (l : List UInt8) (o : Nat) (ho : o = if (l.headD 0).toNat = 45 then 1 else 0) (hl : l.length ≤ o) : rightI l = false := by
  match l, hl with
  | [], _ => rfl
  | c :: t, hl =>
    rw [List.headD_cons] at ho
    by_cases hc : c.toNat = 45
    · rw [if_pos hc] at ho
      subst ho
      have : t = [] := List.eq_nil_of_length_eq_zero (by rw [List.length_cons] at hl; omega)
      subst this
      unfold rightI
      simp [hc, rightL]
    · rw [if_neg hc] at ho
      subst ho
      rw [List.length_cons] at hl
      omega
theorem getD_at (s : ByteArray) (o : Nat) (h : o < s.size) : s.data.toList.getD o 0 = s[o] := by
  rw [List.getD_eq_getElem?_getD, List.getElem?_eq_getElem (by rw [len_of]; exact h)]; rfl
theorem eq_lit (s : ByteArray) (l : List UInt8) : (s.toList == (⟨l.toArray⟩ : ByteArray).toList) = (s.data.toList == l) := by
  rw [ByteArray.toList_eq, ByteArray.toList_eq]
theorem drop_step (s : ByteArray) (o k : Nat) (hk : k < s.size) (ho : o ≤ k) (ha : digs ((s.data.toList.take k).drop o) = true) (hp : dig s[k].toNat = true) : digs ((s.data.toList.take (k + 1)).drop o) = true := by
  rw [take_snoc s k hk, List.drop_append_of_le_length (by rw [List.length_take, len_of]; omega)]
  unfold digs at *
  rw [List.all_append, ha]; simp [hp]
theorem drop_stop (s : ByteArray) (o k : Nat) (hk : k < s.size) (ho : o ≤ k) (hp : dig s[k].toNat = false) : digs (s.data.toList.drop o) = false := by
  unfold digs
  rw [List.all_eq_false]
  refine ⟨s[k], ?_, by simp [hp]⟩
  rw [List.mem_iff_getElem?]
  refine ⟨k - o, ?_⟩
  rw [List.getElem?_drop, show o + (k - o) = k by omega, List.getElem?_eq_getElem (by rw [len_of]; exact hk)]; rfl

set_option maxHeartbeats 1000000 in
theorem refRight3_any (s : ByteArray) (w : World) (hs : s.size ≤ 1000000000) :
    Calls Tryz.prog 41 #[.string s] w fun e w' => e = .returned (.bool (rightI s.data.toList)) ∧ w = w' := by
  by_cases hz : s.size = 0
  · have hs := empty_of s hz
    subst hs
    go_enter Tryz.func41, Tryz.ntmps41
    go_wp2
    go_ret
    exact ⟨rfl, rfl⟩
  have h0 : 0 < s.size := by omega
  obtain ⟨b45, hb45⟩ : ∃ b, ((s[0].toNat : Int) == 45) = b := ⟨_, rfl⟩
  obtain ⟨o, ho⟩ : ∃ o, (if (s.data.toList.headD 0).toNat = 45 then 1 else 0) = o := ⟨_, rfl⟩
  have hbo : (b45 = true ∧ o = 1) ∨ (b45 = false ∧ o = 0) := by
    rw [head_of s h0] at ho
    by_cases h : s[0].toNat = 45
    · rw [if_pos h] at ho
      exact .inl ⟨by rw [← hb45, h]; rfl, ho.symm⟩
    · rw [if_neg h] at ho
      exact .inr ⟨by rw [← hb45]; simp; omega, ho.symm⟩
  by_cases hso : s.size ≤ o
  · have HK : Hid (rightI s.data.toList = false) := rightI_short _ o ho.symm (by rw [len_of]; exact hso)
    rcases hbo with ⟨rfl, rfl⟩ | ⟨rfl, rfl⟩
    · have h1 : s.size = 1 := by omega
      have h2 : ((s.size : Int) == 1) = true := by rw [h1]; rfl
      clear ho hz
      go_enter Tryz.func41, Tryz.ntmps41
      go_wp2
      go_ret
      exact ⟨ret_bool HK.out.symm, rfl⟩
    · omega
  have HR : Hid (rightI s.data.toList = (digs (s.data.toList.drop o) && (!(s[o].toNat == 48) || s.data.toList == [48]))) := by
    show _ = _
    rw [rightI_parts _ o ho.symm (by rw [len_of]; omega), getD_at s o (by omega)]
  obtain ⟨bl, hbl⟩ : ∃ b, (s.data.toList == [48]) = b := ⟨_, rfl⟩
  have hbl2 : (s.toList == (⟨#[48]⟩ : ByteArray).toList) = bl := by rw [← hbl]; exact eq_lit s [48]
  have HBL := Lib.hid hbl
  clear hz ho hbl
  rcases hbo with ⟨rfl, rfl⟩ | ⟨rfl, rfl⟩
  · have h2 : ((s.size : Int) == 1) = false := bneI (b := 1) (by omega)
    go_enter Tryz.func41, Tryz.ntmps41
    go_wp2
    go_loop [4] (fun i => ∃ k : Nat, 1 ≤ k ∧ k ≤ s.size ∧ i = .int .i64 k ∧ Hid (digs ((s.data.toList.take k).drop 1) = true)) (fun i => s.size - (intOf i).toNat)
    case atStart => exact ⟨1, by omega, by omega, rfl, by show _ = _; rw [List.drop_of_length_le (by rw [List.length_take]; omega)]; rfl⟩
    case round =>
      obtain ⟨k, hk1, hk, rfl, HA⟩ := hrel
      by_cases hlt : k < s.size
      · cases hw : dig s[k].toNat
        · have HK : Hid (rightI s.data.toList = false) := by show _ = _; rw [HR.out, drop_stop s 1 k hlt hk1 hw]; rfl
          have hn : s[k].toNat < 48 ∨ (48 ≤ s[k].toNat ∧ 57 < s[k].toNat) := by
            apply Decidable.byContradiction
            intro h
            rw [show dig s[k].toNat = true by simp [dig]; omega] at hw; cases hw
          clear hw
          rcases hn with hn | ⟨hn, hn2⟩
          · go_wp2
            go_ret
            exact ⟨ret_bool HK.out.symm, rfl⟩
          · go_wp2
            go_ret
            exact ⟨ret_bool HK.out.symm, rfl⟩
        · have HA' := Lib.hid (drop_step s 1 k hlt hk1 HA.out hw)
          have hd := dig_bd hw
          have hd1 := hd.1
          have hd2 := hd.2
          clear hw hd
          go_wp2
          go_round
          case rel => exact ⟨k + 1, by omega, by omega, by go_num, HA'⟩
          case measure => simp [intOf]; omega
      · have hk' : k = s.size := by omega
        subst hk'
        have HE : Hid (digs (s.data.toList.drop 1) = true) := by have := HA.out; rwa [List.take_of_length_le (by rw [len_of]; omega)] at this
        by_cases h48 : s[1].toNat = 48
        · have hb : ((s[1].toNat : Int) != 48) = false := by rw [h48]; rfl
          have HK : Hid (rightI s.data.toList = bl) := by show _ = _; rw [HR.out, HE.out, h48, HBL.out]; simp
          clear h48
          go_wp2
          go_ret
          exact ⟨ret_bool (by rw [HK.out, ← HBL.out, ByteArray.toList_eq]), rfl⟩
        · have hb : ((s[1].toNat : Int) != 48) = true := by simp; omega
          have HK : Hid (rightI s.data.toList = true) := by show _ = _; rw [HR.out, HE.out]; simp [h48]
          clear h48
          go_wp2
          go_ret
          exact ⟨ret_bool HK.out.symm, rfl⟩
  · have h2 : ((s.size : Int) == 0) = false := bneI (b := 0) (by omega)
    go_enter Tryz.func41, Tryz.ntmps41
    go_wp2
    go_loop [4] (fun i => ∃ k : Nat, 0 ≤ k ∧ k ≤ s.size ∧ i = .int .i64 k ∧ Hid (digs ((s.data.toList.take k).drop 0) = true)) (fun i => s.size - (intOf i).toNat)
    case atStart => exact ⟨0, by omega, by omega, rfl, by show _ = _; rw [List.drop_of_length_le (by rw [List.length_take]; omega)]; rfl⟩
    case round =>
      obtain ⟨k, hk1, hk, rfl, HA⟩ := hrel
      by_cases hlt : k < s.size
      · cases hw : dig s[k].toNat
        · have HK : Hid (rightI s.data.toList = false) := by show _ = _; rw [HR.out, drop_stop s 0 k hlt hk1 hw]; rfl
          have hn : s[k].toNat < 48 ∨ (48 ≤ s[k].toNat ∧ 57 < s[k].toNat) := by
            apply Decidable.byContradiction
            intro h
            rw [show dig s[k].toNat = true by simp [dig]; omega] at hw; cases hw
          clear hw
          rcases hn with hn | ⟨hn, hn2⟩
          · go_wp2
            go_ret
            exact ⟨ret_bool HK.out.symm, rfl⟩
          · go_wp2
            go_ret
            exact ⟨ret_bool HK.out.symm, rfl⟩
        · have HA' := Lib.hid (drop_step s 0 k hlt hk1 HA.out hw)
          have hd := dig_bd hw
          have hd1 := hd.1
          have hd2 := hd.2
          clear hw hd
          go_wp2
          go_round
          case rel => exact ⟨k + 1, by omega, by omega, by go_num, HA'⟩
          case measure => simp [intOf]; omega
      · have hk' : k = s.size := by omega
        subst hk'
        have HE : Hid (digs (s.data.toList.drop 0) = true) := by have := HA.out; rwa [List.take_of_length_le (by rw [len_of]; omega)] at this
        by_cases h48 : s[0].toNat = 48
        · have hb : ((s[0].toNat : Int) != 48) = false := by rw [h48]; rfl
          have HK : Hid (rightI s.data.toList = bl) := by show _ = _; rw [HR.out, HE.out, h48, HBL.out]; simp
          clear h48
          go_wp2
          go_ret
          exact ⟨ret_bool (by rw [HK.out, ← HBL.out, ByteArray.toList_eq]), rfl⟩
        · have hb : ((s[0].toNat : Int) != 48) = true := by simp; omega
          have HK : Hid (rightI s.data.toList = true) := by show _ = _; rw [HR.out, HE.out]; simp [h48]
          clear h48
          go_wp2
          go_ret
          exact ⟨ret_bool HK.out.symm, rfl⟩

theorem refDigits3_any (s : ByteArray) (w : World) (hs : s.size ≤ 1000000000) :
    Calls Tryz.prog 108 #[.string s] w fun e w' => e = .returned (.int .i64 (dg s : Nat)) ∧ w = w' := by
  by_cases hz : s.size = 0
  · have hs := empty_of s hz
    subst hs
    go_enter Tryz.func108, Tryz.ntmps108
    go_wp2
    go_ret
    exact ⟨rfl, rfl⟩
  have h0 : 0 < s.size := by omega
  have HD : Hid (dg s = if s[0].toNat = 45 then s.size - 1 else s.size) := by
    show _ = _
    have := head_of s h0
    unfold dg
    match hl : s.data.toList with
    | [] => have := len_of s; rw [hl] at this; simp at this; omega
    | c :: t =>
      rw [hl, List.headD_cons] at this
      subst this
      rfl
  by_cases h : s[0].toNat = 45
  · have HD2 : Hid (dg s = s.size - 1) := by show _ = _; rw [HD.out, if_pos h]
    have h1 : ((s[0].toNat : Int) == 45) = true := by rw [h]; rfl
    clear h
    go_enter Tryz.func108, Tryz.ntmps108
    go_wp2
    go_ret
    exact ⟨ret_int (by rw [HD2.out]; omega), rfl⟩
  · have HD2 : Hid (dg s = s.size) := by show _ = _; rw [HD.out, if_neg h]
    have h1 : ((s[0].toNat : Int) == 45) = false := by simp; omega
    clear h
    go_enter Tryz.func108, Tryz.ntmps108
    go_wp2
    go_ret
    exact ⟨ret_int (by rw [HD2.out]), rfl⟩

end Go.Proofs.YthamlnolfagpiaaGreatDoor.D

namespace Go.Proofs.YthamlnolfagpiaaGreatDoor.D
open Go.RowKit
set_option maxRecDepth 8000

theorem refRight3_e (s : ByteArray) (b : Bool) (hb : Hid (rightI s.data.toList = b)) (w : World) (hs : s.size ≤ 1000000000) :
    Calls Tryz.prog 41 #[.string s] w fun e w' => e = .returned (.bool b) ∧ w = w' := by
  have := refRight3_any s w hs
  rwa [hb.out] at this
theorem right_inum (z : Int) : Hid (rightI (inum z).data.toList = true) := rightI_inum z
theorem dg_le (s : ByteArray) : dg s ≤ s.size := by
  unfold dg
  split
  · split <;> omega
  · omega
theorem dg_of (z : Int) (n : Nat) (h : (inum z).size ≤ n) : dg (inum z) ≤ n := Nat.le_trans (dg_le _) h
theorem limbs_sz (z : Int) : (limbs z.natAbs).length ≤ (inum z).size := by
  rw [inum_size]
  have h1 := limbs_le (n := z.natAbs) (k := nd z.natAbs) (lt_nd _)
  omega

theorem refCheck3_bad (a b : ByteArray) (h : rightI a.data.toList = false ∨ rightI b.data.toList = false) (w : World) (ha : a.size ≤ 1000000000) (hb : b.size ≤ 1000000000) :
    Calls Tryz.prog 78 #[.string a, .string b] w fun e w' => e = .returned (.int .i64 3) ∧ w = w' := by
  by_cases h1 : rightI a.data.toList = false
  · have H1 := Lib.hid h1
    clear h h1
    go_enter Tryz.func78, Tryz.ntmps78
    go_wp2_with (go_at_call 41; with_reducible refine (refRight3_e a false H1 _ ha).mono ?_; rintro e w' ⟨rfl, rfl⟩)
    go_ret
    exact ⟨rfl, rfl⟩
  · have H1 : Hid (rightI a.data.toList = true) := Lib.hid (by simpa using h1)
    have H2 : Hid (rightI b.data.toList = false) := h.resolve_left h1
    clear h h1
    go_enter Tryz.func78, Tryz.ntmps78
    go_wp2_with (first
      | (go_at_call 41; with_reducible refine (refRight3_e a true H1 _ ha).mono ?_; rintro e w' ⟨rfl, rfl⟩)
      | (go_at_call 41; with_reducible refine (refRight3_e b false H2 _ hb).mono ?_; rintro e w' ⟨rfl, rfl⟩))
    go_ret
    exact ⟨rfl, rfl⟩

theorem refDigits3_d (s : ByteArray) (d : Nat) (hd : Hid (dg s = d)) (w : World) (hs : s.size ≤ 1000000000) :
    Calls Tryz.prog 108 #[.string s] w fun e w' => e = .returned (.int .i64 d) ∧ w = w' := by
  have := refDigits3_any s w hs
  rwa [hd.out] at this
theorem refCheck3_num (x y : Int) (w : World) (ha : (inum x).size ≤ 4096) (hb : (inum y).size ≤ 4096) :
    Calls Tryz.prog 78 #[.string (inum x), .string (inum y)] w fun e w' => e = .returned (.int .i64 0) ∧ w = w' := by
  have h1 := dg_of x _ ha
  have h2 := dg_of y _ hb
  obtain ⟨d1, hd1⟩ : ∃ d, dg (inum x) = d := ⟨_, rfl⟩
  obtain ⟨d2, hd2⟩ : ∃ d, dg (inum y) = d := ⟨_, rfl⟩
  rw [hd1] at h1
  rw [hd2] at h2
  have HD1 := Lib.hid hd1
  have HD2 := Lib.hid hd2
  clear hd1 hd2
  go_enter Tryz.func78, Tryz.ntmps78
  go_wp2_with (first
    | (go_at_call 41; with_reducible refine (refRight3_e _ true (right_inum _) _ (by omega)).mono ?_; rintro e w' ⟨rfl, rfl⟩)
    | (go_at_call 108; with_reducible refine (refDigits3_d (inum x) d1 HD1 _ (by omega)).mono ?_; rintro e w' ⟨rfl, rfl⟩)
    | (go_at_call 108; with_reducible refine (refDigits3_d (inum y) d2 HD2 _ (by omega)).mono ?_; rintro e w' ⟨rfl, rfl⟩))
  go_ret
  exact ⟨rfl, rfl⟩

theorem refResult3_ok (s : ByteArray) (w : World) (hs : s.size ≤ 4096) :
    Calls Tryz.prog 97 #[.string s] w fun e w' => e = .returned (.tuple #[.string s, .int .i64 0]) ∧ w = w' := by
  have h1 := dg_le s
  obtain ⟨d1, hd1⟩ : ∃ d, dg s = d := ⟨_, rfl⟩
  rw [hd1] at h1
  have HD1 := Lib.hid hd1
  clear hd1
  go_enter Tryz.func97, Tryz.ntmps97
  go_wp2_with (go_at_call 108; with_reducible refine (refDigits3_d s d1 HD1 _ (by omega)).mono ?_; rintro e w' ⟨rfl, rfl⟩)
  go_ret2
  exact ⟨rfl, rfl⟩

theorem eq_inum (x y : Int) : ((inum x).toList == (inum y).toList) = decide (x = y) := by
  rw [ByteArray.toList_eq, ByteArray.toList_eq, inum_data, inum_data, Bool.eq_iff_iff, beq_iff_eq, decide_eq_true_iff]
  exact ⟨inumL_inj, fun h => by rw [h]⟩
theorem inum_zero : inum 0 = ⟨#[48]⟩ := by
  rw [show (0 : Int) = ((0 : Nat) : Int) from rfl, inum_nat, num, Lib.decDigits_one (by omega)]; rfl
theorem inum_zeroL : inumL 0 = [48] := by rw [← inum_data, inum_zero]
theorem zero_eqI (x : Int) : ((inum x).toList == [48]) = decide (x = 0) := by
  rw [← eq_inum x 0, ← inum_zeroL, ByteArray.toList_eq (inum 0), inum_data]
def sgnI (z : Int) : Int := if z < 0 then -1 else if z = 0 then 0 else 1

theorem refSign3_bad (a : ByteArray) (h : Hid (rightI a.data.toList = false)) (w : World) (ha : a.size ≤ 1000000000) :
    Calls Tryz.prog 100 #[.string a] w fun e w' => e = .returned (.int .i64 0) ∧ w = w' := by
  go_enter Tryz.func100, Tryz.ntmps100
  go_wp2_with (go_at_call 41; with_reducible refine (refRight3_e a false h _ ha).mono ?_; rintro e w' ⟨rfl, rfl⟩)
  go_ret
  exact ⟨rfl, rfl⟩
theorem refSign3_num (z : Int) (w : World) (ha : (inum z).size ≤ 1000000000) :
    Calls Tryz.prog 100 #[.string (inum z)] w fun e w' => e = .returned (.int .i64 (sgnI z)) ∧ w = w' := by
  have hs := inum_size z
  have hnd := nd_pos z.natAbs
  have h0 : 0 < (inum z).size := by omega
  have HR := right_inum z
  have hz := zero_eqI z
  have HH : Hid (z < 0 → (inum z)[0].toNat = 45) := fun h => inum_head z h h0
  have HB : Hid (0 ≤ z → (inum z)[0].toNat = 48 + z.natAbs / 10 ^ ((inum z).size - 1 - 0) % 10) := fun h => inum_byte z 0 h0 (by rw [off_pos h]; omega)
  clear hs
  generalize inum z = s at *
  rcases Int.lt_trichotomy z 0 with h | h | h
  · have HK : Hid (sgnI z = -1) := by show _ = _; rw [sgnI, if_pos h]
    have hb : ((s[0].toNat : Int) == 45) = true := by rw [HH.out h]; rfl
    rw [decide_eq_false (by omega)] at hz
    clear h
    go_enter Tryz.func100, Tryz.ntmps100
    go_wp2_with (go_at_call 41; with_reducible refine (refRight3_e s true HR _ ha).mono ?_; rintro e w' ⟨rfl, rfl⟩)
    go_ret
    exact ⟨ret_int HK.out.symm, rfl⟩
  · have HK : Hid (sgnI z = 0) := by show _ = _; rw [sgnI, if_neg (by omega), if_pos h]
    rw [decide_eq_true h] at hz
    clear h
    go_enter Tryz.func100, Tryz.ntmps100
    go_wp2_with (go_at_call 41; with_reducible refine (refRight3_e s true HR _ ha).mono ?_; rintro e w' ⟨rfl, rfl⟩)
    go_ret
    exact ⟨ret_int HK.out.symm, rfl⟩
  · have HK : Hid (sgnI z = 1) := by show _ = _; rw [sgnI, if_neg (by omega), if_neg (by omega)]
    have hb : ((s[0].toNat : Int) == 45) = false := by rw [HB.out (by omega)]; simp; omega
    rw [decide_eq_false (by omega)] at hz
    clear h
    go_enter Tryz.func100, Tryz.ntmps100
    go_wp2_with (go_at_call 41; with_reducible refine (refRight3_e s true HR _ ha).mono ?_; rintro e w' ⟨rfl, rfl⟩)
    go_ret
    exact ⟨ret_int HK.out.symm, rfl⟩

theorem refParts3_e (z : Int) (m : Bool) (hm : Hid (decide (z < 0) = m)) (w : World) (hL : (inum z).size ≤ 1000000) :
    Calls Tryz.prog 79 #[.string (inum z)] w fun e w' => ∃ v, e = .returned (.tuple #[.bool m, v]) ∧ Ow w' v (limbs z.natAbs) ∧ Below w.heap.size w w' := by
  have := refParts3 z w hL
  rwa [hm.out] at this
theorem refText3_z (neg : Bool) (n : Nat) (z : Int) (hz : Hid (sgn neg n = z)) (v : Value) (w : World) (h : Ow w v (limbs n)) (hl : (limbs n).length ≤ 1000000) :
    Calls Tryz.prog 80 #[.bool neg, v] w fun e w' => e = .returned (.string (inum z)) ∧ Below w.heap.size w w' := by
  have := refText3 neg v _ (limbs_lo n) w h hl
  rwa [limbs_val, hz.out] at this

theorem refNeg3_bad (a : ByteArray) (h : rightI a.data.toList = false) (w : World) (ha : a.size ≤ 1000000000) :
    Calls Tryz.prog 49 #[.string a] w fun e w' => e = .returned (.tuple #[.string ⟨#[]⟩, .int .i64 3]) ∧ w = w' := by
  have H := Lib.hid h
  clear h
  go_enter Tryz.func49, Tryz.ntmps49
  go_wp2_with (go_at_call 78; with_reducible refine (refCheck3_bad a a (.inl H.out) _ ha ha).mono ?_; rintro e w' ⟨rfl, rfl⟩)
  go_ret2
  exact ⟨rfl, rfl⟩
theorem refAbs3_bad (a : ByteArray) (h : rightI a.data.toList = false) (w : World) (ha : a.size ≤ 1000000000) :
    Calls Tryz.prog 44 #[.string a] w fun e w' => e = .returned (.tuple #[.string ⟨#[]⟩, .int .i64 3]) ∧ w = w' := by
  have H := Lib.hid h
  clear h
  go_enter Tryz.func44, Tryz.ntmps44
  go_wp2_with (go_at_call 78; with_reducible refine (refCheck3_bad a a (.inl H.out) _ ha ha).mono ?_; rintro e w' ⟨rfl, rfl⟩)
  go_ret2
  exact ⟨rfl, rfl⟩
theorem refNeg3_num (z : Int) (w : World) (ha : (inum z).size ≤ 4096) :
    Calls Tryz.prog 49 #[.string (inum z)] w fun e w' => e = .returned (.tuple #[.string (inum (-z)), .int .i64 0]) ∧ Below w.heap.size w w' := by
  obtain ⟨m, hm⟩ : ∃ m, decide (z < 0) = m := ⟨_, rfl⟩
  have HM := Lib.hid hm
  have HZ : Hid (sgn (!m) z.natAbs = -z) := by
    show _ = _
    rw [← hm]
    unfold sgn
    by_cases h : z < 0
    · simp [h]; omega
    · simp [h]; omega
  have hl : (limbs z.natAbs).length ≤ 1000000 := Nat.le_trans (limbs_sz z) (by omega)
  have HL := Lib.hid hl
  clear hm hl
  go_enter Tryz.func49, Tryz.ntmps49
  go_wp2_with (go_at_call 78; with_reducible refine (refCheck3_num z z _ ha ha).mono ?_; rintro e w' ⟨rfl, rfl⟩)
  refine (refParts3_e z m HM _ (by omega)).mono ?_
  rintro e w1 ⟨v, rfl, hv, hB1⟩
  have HV := Lib.hid hv
  have HB1 := Lib.hid hB1
  clear hv hB1
  go_wp2_with fail
  refine (refText3_z (!m) _ _ HZ v _ HV.out HL.out).mono ?_
  rintro e w2 ⟨rfl, hB2⟩
  have HB2 := Lib.hid hB2
  clear hB2
  go_wp2_with fail
  go_ret2
  exact ⟨rfl, HB1.out.trans (HB2.out.mono HB1.out.size)⟩

theorem refAbs3_num (z : Int) (w : World) (ha : (inum z).size ≤ 4096) :
    Calls Tryz.prog 44 #[.string (inum z)] w fun e w' => e = .returned (.tuple #[.string (inum (z.natAbs : Int)), .int .i64 0]) ∧ Below w.heap.size w w' := by
  obtain ⟨m, hm⟩ : ∃ m, decide (z < 0) = m := ⟨_, rfl⟩
  have HM := Lib.hid hm
  have HZ : Hid (sgn false z.natAbs = (z.natAbs : Int)) := rfl
  have hl : (limbs z.natAbs).length ≤ 1000000 := Nat.le_trans (limbs_sz z) (by omega)
  have HL := Lib.hid hl
  clear hm hl
  go_enter Tryz.func44, Tryz.ntmps44
  go_wp2_with (go_at_call 78; with_reducible refine (refCheck3_num z z _ ha ha).mono ?_; rintro e w' ⟨rfl, rfl⟩)
  refine (refParts3_e z m HM _ (by omega)).mono ?_
  rintro e w1 ⟨v, rfl, hv, hB1⟩
  have HV := Lib.hid hv
  have HB1 := Lib.hid hB1
  clear hv hB1
  go_wp2_with fail
  refine (refText3_z false _ _ HZ v _ HV.out HL.out).mono ?_
  rintro e w2 ⟨rfl, hB2⟩
  have HB2 := Lib.hid hB2
  clear hB2
  go_wp2_with fail
  go_ret2
  exact ⟨rfl, HB1.out.trans (HB2.out.mono HB1.out.size)⟩

end Go.Proofs.YthamlnolfagpiaaGreatDoor.D

namespace Go.Proofs.YthamlnolfagpiaaGreatDoor.D
open Go.RowKit
set_option maxRecDepth 8000

theorem refCmp3_n (a b : Value) (u v : Nat) (c : Int) (hc : Hid (cmpN u v = c)) (w : World) (ha : Ow w a (limbs u)) (hb : Ow w b (limbs v)) (hl9 : (limbs u).length ≤ 1000000) (hm9 : (limbs v).length ≤ 1000000) :
    Calls Tryz.prog 117 #[a, b] w fun e w' => e = .returned (.int .i64 c) ∧ w = w' := refCmp3_c a b u v c hc w ha hb (by omega) hm9
theorem refPlus3_n (a b : Value) (u v : Nat) (w : World) (ha : Ow w a (limbs u)) (hb : Ow w b (limbs v)) (hl9 : (limbs u).length ≤ 1000000) (hm9 : (limbs v).length ≤ 1000000) :
    Calls Tryz.prog 85 #[a, b] w fun e w' => ∃ v', e = .returned v' ∧ Ow w' v' (limbs (u + v)) ∧ Below w.heap.size w w' := by
  have := refPlus3 a b _ _ (limbs_lo u) (limbs_lo v) w ha hb hl9 hm9
  rwa [limbs_val, limbs_val] at this
theorem limbs_add (u v n : Nat) (hu : (limbs u).length ≤ n) (hv : (limbs v).length ≤ n) : (limbs (u + v)).length ≤ n + 1 := by
  apply limbs_le
  have h1 := Nat.lt_of_lt_of_le (limbs_lt u) (bp_mono hu)
  have h2 := Nat.lt_of_lt_of_le (limbs_lt v) (bp_mono hv)
  rw [bp_succ]; omega
theorem limbs_mono {u v : Nat} (h : u ≤ v) : (limbs u).length ≤ (limbs v).length := limbs_le (Nat.lt_of_le_of_lt h (limbs_lt v))

/-! ### sum -/
theorem refSum3_same (m : Bool) (a b : Value) (u v : Nat) (z : Int) (hz : Hid (sgn m (u + v) = z)) (w : World) (ha : Ow w a (limbs u)) (hb : Ow w b (limbs v)) (hl9 : (limbs u).length ≤ 900000) (hm9 : (limbs v).length ≤ 900000) :
    Calls Tryz.prog 99 #[.bool m, a, .bool m, b] w fun e w' => e = .returned (.string (inum z)) ∧ Below w.heap.size w w' := by
  have HL := Lib.hid (limbs_add u v 900000 hl9 hm9)
  have HA := Lib.hid ha
  have HB := Lib.hid hb
  have HL1 := Lib.hid hl9
  have HL2 := Lib.hid hm9
  clear ha hb hl9 hm9
  go_enter Tryz.func99, Tryz.ntmps99
  go_wp2_with fail
  refine (refPlus3_n _ _ u v _ HA.out HB.out (Nat.le_trans HL1.out (by omega)) (Nat.le_trans HL2.out (by omega))).mono ?_
  rintro e w1 ⟨v', rfl, hv, hB1⟩
  have HV := Lib.hid hv
  have HB1 := Lib.hid hB1
  clear hv hB1
  go_wp2_with fail
  refine (refText3_z m _ _ hz v' _ HV.out (Nat.le_trans HL.out (by omega))).mono ?_
  rintro e w2 ⟨rfl, hB2⟩
  have HB2 := Lib.hid hB2
  clear hB2
  go_wp2_with fail
  go_ret
  exact ⟨rfl, HB1.out.trans (HB2.out.mono HB1.out.size)⟩

theorem refSum3_diff (m : Bool) (n : Bool) (hmn : (m == n) = false) (a b : Value) (u v : Nat) (z : Int) (hz : Hid (sgn m u + sgn n v = z)) (w : World) (ha : Ow w a (limbs u)) (hb : Ow w b (limbs v)) (hl9 : (limbs u).length ≤ 900000) (hm9 : (limbs v).length ≤ 900000) :
    Calls Tryz.prog 99 #[.bool m, a, .bool n, b] w fun e w' => e = .returned (.string (inum z)) ∧ Below w.heap.size w w' := by
  have HLu := Lib.hid (limbs_mono (show u - v ≤ u by omega))
  have HLv := Lib.hid (limbs_mono (show v - u ≤ v by omega))
  have HA := Lib.hid ha
  have HB := Lib.hid hb
  have HL1 := Lib.hid hl9
  have HL2 := Lib.hid hm9
  obtain ⟨c, hc⟩ : ∃ c, cmpN u v = c := ⟨_, rfl⟩
  have HC := Lib.hid hc
  clear ha hb hl9 hm9
  by_cases h : v ≤ u
  · have hc0 : 0 ≤ c := by rw [← hc]; unfold cmpN; rw [if_neg (by omega)]; split <;> omega
    have HZ : Hid (sgn m (u - v) = z) := by
      show _ = _
      rw [← hz.out]
      cases m <;> cases n <;> simp [sgn] at hmn ⊢ <;> omega
    clear hc
    go_enter Tryz.func99, Tryz.ntmps99
    go_wp2_with (go_at_call 117; with_reducible refine (refCmp3_n _ _ u v c HC _ HA.out HB.out (Nat.le_trans HL1.out (by omega)) (Nat.le_trans HL2.out (by omega))).mono ?_; rintro e w' ⟨rfl, rfl⟩)
    refine (refMinus3 _ _ u v _ HA.out HB.out h (Nat.le_trans HL1.out (by omega))).mono ?_
    rintro e w1 ⟨v', rfl, hv, hB1⟩
    have HV := Lib.hid hv.weak
    have HB1 := Lib.hid hB1
    clear hv hB1
    go_wp2_with fail
    refine (refText3_z m _ _ HZ v' _ HV.out (Nat.le_trans HLu.out (Nat.le_trans HL1.out (by omega)))).mono ?_
    rintro e w2 ⟨rfl, hB2⟩
    have HB2 := Lib.hid hB2
    clear hB2
    go_wp2_with fail
    go_ret
    exact ⟨rfl, HB1.out.trans (HB2.out.mono HB1.out.size)⟩
  · have hc0 : c < 0 := by rw [← hc]; unfold cmpN; rw [if_pos (by omega)]; omega
    have HZ : Hid (sgn n (v - u) = z) := by
      show _ = _
      rw [← hz.out]
      cases m <;> cases n <;> simp [sgn] at hmn ⊢ <;> omega
    have h' : u ≤ v := by omega
    clear hc
    go_enter Tryz.func99, Tryz.ntmps99
    go_wp2_with (go_at_call 117; with_reducible refine (refCmp3_n _ _ u v c HC _ HA.out HB.out (Nat.le_trans HL1.out (by omega)) (Nat.le_trans HL2.out (by omega))).mono ?_; rintro e w' ⟨rfl, rfl⟩)
    refine (refMinus3 _ _ v u _ HB.out HA.out h' (Nat.le_trans HL2.out (by omega))).mono ?_
    rintro e w1 ⟨v', rfl, hv, hB1⟩
    have HV := Lib.hid hv.weak
    have HB1 := Lib.hid hB1
    clear hv hB1
    go_wp2_with fail
    refine (refText3_z n _ _ HZ v' _ HV.out (Nat.le_trans HLv.out (Nat.le_trans HL2.out (by omega)))).mono ?_
    rintro e w2 ⟨rfl, hB2⟩
    have HB2 := Lib.hid hB2
    clear hB2
    go_wp2_with fail
    go_ret
    exact ⟨rfl, HB1.out.trans (HB2.out.mono HB1.out.size)⟩

theorem refSum3 (m n : Bool) (a b : Value) (u v : Nat) (z : Int) (hz : Hid (sgn m u + sgn n v = z)) (w : World) (ha : Ow w a (limbs u)) (hb : Ow w b (limbs v)) (hl9 : (limbs u).length ≤ 900000) (hm9 : (limbs v).length ≤ 900000) :
    Calls Tryz.prog 99 #[.bool m, a, .bool n, b] w fun e w' => e = .returned (.string (inum z)) ∧ Below w.heap.size w w' := by
  by_cases h : (m == n) = false
  · exact refSum3_diff m n h a b u v z hz w ha hb hl9 hm9
  · have : m = n := by simpa using h
    subst this
    exact refSum3_same m a b u v z (by show _ = _; rw [← hz.out]; cases m <;> simp [sgn] <;> omega) w ha hb hl9 hm9

/-! ### Compare -/
def cmpI (x y : Int) : Int := if x < y then -1 else if x = y then 0 else 1
theorem cmpI_pos (x y : Int) (hx : 0 ≤ x) (hy : 0 ≤ y) : cmpN x.natAbs y.natAbs = cmpI x y := by
  unfold cmpN cmpI
  by_cases h1 : x < y
  · rw [if_pos h1, if_pos (by omega)]
  · rw [if_neg h1, if_neg (by omega)]
    by_cases h2 : x = y
    · rw [if_pos h2, if_pos (by omega)]
    · rw [if_neg h2, if_neg (by omega)]
theorem cmpI_neg (x y : Int) (hx : x < 0) (hy : y < 0) : cmpN y.natAbs x.natAbs = cmpI x y := by
  unfold cmpN cmpI
  by_cases h1 : x < y
  · rw [if_pos h1, if_pos (by omega)]
  · rw [if_neg h1, if_neg (by omega)]
    by_cases h2 : x = y
    · rw [if_pos h2, if_pos (by omega)]
    · rw [if_neg h2, if_neg (by omega)]
theorem refCompare3_bad (a b : ByteArray) (h : rightI a.data.toList = false ∨ rightI b.data.toList = false) (w : World) (ha : a.size ≤ 1000000000) (hb : b.size ≤ 1000000000) :
    Calls Tryz.prog 94 #[.string a, .string b] w fun e w' => e = .returned (.int .i64 0) ∧ w = w' := by
  by_cases h1 : rightI a.data.toList = false
  · have H1 := Lib.hid h1
    clear h h1
    go_enter Tryz.func94, Tryz.ntmps94
    go_wp2_with (go_at_call 41; with_reducible refine (refRight3_e a false H1 _ ha).mono ?_; rintro e w' ⟨rfl, rfl⟩)
    go_ret
    exact ⟨rfl, rfl⟩
  · have H1 : Hid (rightI a.data.toList = true) := Lib.hid (by simpa using h1)
    have H2 : Hid (rightI b.data.toList = false) := h.resolve_left h1
    clear h h1
    go_enter Tryz.func94, Tryz.ntmps94
    go_wp2_with (first
      | (go_at_call 41; with_reducible refine (refRight3_e a true H1 _ ha).mono ?_; rintro e w' ⟨rfl, rfl⟩)
      | (go_at_call 41; with_reducible refine (refRight3_e b false H2 _ hb).mono ?_; rintro e w' ⟨rfl, rfl⟩))
    go_ret
    exact ⟨rfl, rfl⟩
theorem refCompare3_nn (x y : Int) (hm : decide (x < 0) = true) (hn : decide (y < 0) = true) (w : World) (ha : (inum x).size ≤ 4096) (hb : (inum y).size ≤ 4096) :
    Calls Tryz.prog 94 #[.string (inum x), .string (inum y)] w fun e w' => e = .returned (.int .i64 (cmpI x y)) ∧ Below w.heap.size w w' := by
  obtain ⟨c, hc⟩ : ∃ c, cmpI x y = c := ⟨_, rfl⟩
  have hx : x < 0 := by simpa using hm
  have hy : y < 0 := by simpa using hn
  have HM := Lib.hid hm
  have HN := Lib.hid hn
  have HLX : Hid ((limbs x.natAbs).length ≤ 4096) := Nat.le_trans (limbs_sz x) ha
  have HLY : Hid ((limbs y.natAbs).length ≤ 4096) := Nat.le_trans (limbs_sz y) hb
  have HC : Hid (cmpN y.natAbs x.natAbs = c) := by show _ = _; rw [← hc]; exact cmpI_neg x y hx hy
  rw [hc]
  clear hm hn hx hy hc
  go_enter Tryz.func94, Tryz.ntmps94
  go_wp2_with (go_at_call 41; with_reducible refine (refRight3_e _ true (right_inum _) _ (by omega)).mono ?_; rintro e w' ⟨rfl, rfl⟩)
  refine (refParts3_e x true HM _ (by omega)).mono ?_
  rintro e w1 ⟨k, rfl, hk, hB1⟩
  have HK := Lib.hid hk
  have HB1 := Lib.hid hB1
  clear hk hB1
  go_wp2_with fail
  refine (refParts3_e y true HN _ (by omega)).mono ?_
  rintro e w2 ⟨l, rfl, hl, hB2⟩
  have HL := Lib.hid hl
  have HK2 := Lib.hid (HK.out.frame hB2)
  have HB2 := Lib.hid (HB1.out.trans (hB2.mono HB1.out.size))
  clear hl hB2 HK
  go_wp2_with (go_at_call 117; with_reducible refine (refCmp3_n _ _ y.natAbs x.natAbs c HC _ HL.out HK2.out (Nat.le_trans HLY.out (by omega)) (Nat.le_trans HLX.out (by omega))).mono ?_; rintro e w' ⟨rfl, rfl⟩)
  go_ret
  exact ⟨rfl, HB2.out⟩
theorem refCompare3_np (x y : Int) (hm : decide (x < 0) = true) (hn : decide (y < 0) = false) (w : World) (ha : (inum x).size ≤ 4096) (hb : (inum y).size ≤ 4096) :
    Calls Tryz.prog 94 #[.string (inum x), .string (inum y)] w fun e w' => e = .returned (.int .i64 (cmpI x y)) ∧ Below w.heap.size w w' := by
  obtain ⟨c, hc⟩ : ∃ c, cmpI x y = c := ⟨_, rfl⟩
  have hx : x < 0 := by simpa using hm
  have hy : 0 ≤ y := by simpa using hn
  have HM := Lib.hid hm
  have HN := Lib.hid hn
  have HLX : Hid ((limbs x.natAbs).length ≤ 4096) := Nat.le_trans (limbs_sz x) ha
  have HLY : Hid ((limbs y.natAbs).length ≤ 4096) := Nat.le_trans (limbs_sz y) hb
  have HC : Hid (c = -1) := by show _ = _; rw [← hc, cmpI, if_pos (by omega)]
  rw [hc]
  clear hm hn hx hy hc
  go_enter Tryz.func94, Tryz.ntmps94
  go_wp2_with (go_at_call 41; with_reducible refine (refRight3_e _ true (right_inum _) _ (by omega)).mono ?_; rintro e w' ⟨rfl, rfl⟩)
  refine (refParts3_e x true HM _ (by omega)).mono ?_
  rintro e w1 ⟨k, rfl, hk, hB1⟩
  have HK := Lib.hid hk
  have HB1 := Lib.hid hB1
  clear hk hB1
  go_wp2_with fail
  refine (refParts3_e y false HN _ (by omega)).mono ?_
  rintro e w2 ⟨l, rfl, hl, hB2⟩
  have HL := Lib.hid hl
  have HK2 := Lib.hid (HK.out.frame hB2)
  have HB2 := Lib.hid (HB1.out.trans (hB2.mono HB1.out.size))
  clear hl hB2 HK
  go_wp2_with fail
  go_ret
  exact ⟨ret_int HC.out.symm, HB2.out⟩
theorem refCompare3_pn (x y : Int) (hm : decide (x < 0) = false) (hn : decide (y < 0) = true) (w : World) (ha : (inum x).size ≤ 4096) (hb : (inum y).size ≤ 4096) :
    Calls Tryz.prog 94 #[.string (inum x), .string (inum y)] w fun e w' => e = .returned (.int .i64 (cmpI x y)) ∧ Below w.heap.size w w' := by
  obtain ⟨c, hc⟩ : ∃ c, cmpI x y = c := ⟨_, rfl⟩
  have hx : 0 ≤ x := by simpa using hm
  have hy : y < 0 := by simpa using hn
  have HM := Lib.hid hm
  have HN := Lib.hid hn
  have HLX : Hid ((limbs x.natAbs).length ≤ 4096) := Nat.le_trans (limbs_sz x) ha
  have HLY : Hid ((limbs y.natAbs).length ≤ 4096) := Nat.le_trans (limbs_sz y) hb
  have HC : Hid (c = 1) := by show _ = _; rw [← hc, cmpI, if_neg (by omega), if_neg (by omega)]
  rw [hc]
  clear hm hn hx hy hc
  go_enter Tryz.func94, Tryz.ntmps94
  go_wp2_with (go_at_call 41; with_reducible refine (refRight3_e _ true (right_inum _) _ (by omega)).mono ?_; rintro e w' ⟨rfl, rfl⟩)
  refine (refParts3_e x false HM _ (by omega)).mono ?_
  rintro e w1 ⟨k, rfl, hk, hB1⟩
  have HK := Lib.hid hk
  have HB1 := Lib.hid hB1
  clear hk hB1
  go_wp2_with fail
  refine (refParts3_e y true HN _ (by omega)).mono ?_
  rintro e w2 ⟨l, rfl, hl, hB2⟩
  have HL := Lib.hid hl
  have HK2 := Lib.hid (HK.out.frame hB2)
  have HB2 := Lib.hid (HB1.out.trans (hB2.mono HB1.out.size))
  clear hl hB2 HK
  go_wp2_with fail
  go_ret
  exact ⟨ret_int HC.out.symm, HB2.out⟩
theorem refCompare3_pp (x y : Int) (hm : decide (x < 0) = false) (hn : decide (y < 0) = false) (w : World) (ha : (inum x).size ≤ 4096) (hb : (inum y).size ≤ 4096) :
    Calls Tryz.prog 94 #[.string (inum x), .string (inum y)] w fun e w' => e = .returned (.int .i64 (cmpI x y)) ∧ Below w.heap.size w w' := by
  obtain ⟨c, hc⟩ : ∃ c, cmpI x y = c := ⟨_, rfl⟩
  have hx : 0 ≤ x := by simpa using hm
  have hy : 0 ≤ y := by simpa using hn
  have HM := Lib.hid hm
  have HN := Lib.hid hn
  have HLX : Hid ((limbs x.natAbs).length ≤ 4096) := Nat.le_trans (limbs_sz x) ha
  have HLY : Hid ((limbs y.natAbs).length ≤ 4096) := Nat.le_trans (limbs_sz y) hb
  have HC : Hid (cmpN x.natAbs y.natAbs = c) := by show _ = _; rw [← hc]; exact cmpI_pos x y hx hy
  rw [hc]
  clear hm hn hx hy hc
  go_enter Tryz.func94, Tryz.ntmps94
  go_wp2_with (go_at_call 41; with_reducible refine (refRight3_e _ true (right_inum _) _ (by omega)).mono ?_; rintro e w' ⟨rfl, rfl⟩)
  refine (refParts3_e x false HM _ (by omega)).mono ?_
  rintro e w1 ⟨k, rfl, hk, hB1⟩
  have HK := Lib.hid hk
  have HB1 := Lib.hid hB1
  clear hk hB1
  go_wp2_with fail
  refine (refParts3_e y false HN _ (by omega)).mono ?_
  rintro e w2 ⟨l, rfl, hl, hB2⟩
  have HL := Lib.hid hl
  have HK2 := Lib.hid (HK.out.frame hB2)
  have HB2 := Lib.hid (HB1.out.trans (hB2.mono HB1.out.size))
  clear hl hB2 HK
  go_wp2_with (go_at_call 117; with_reducible refine (refCmp3_n _ _ x.natAbs y.natAbs c HC _ HK2.out HL.out (Nat.le_trans HLX.out (by omega)) (Nat.le_trans HLY.out (by omega))).mono ?_; rintro e w' ⟨rfl, rfl⟩)
  go_ret
  exact ⟨rfl, HB2.out⟩
theorem refCompare3_num (x y : Int) (w : World) (ha : (inum x).size ≤ 4096) (hb : (inum y).size ≤ 4096) :
    Calls Tryz.prog 94 #[.string (inum x), .string (inum y)] w fun e w' => e = .returned (.int .i64 (cmpI x y)) ∧ Below w.heap.size w w' := by
  cases hm : decide (x < 0) <;> cases hn : decide (y < 0)
  · exact refCompare3_pp x y hm hn w ha hb
  · exact refCompare3_pn x y hm hn w ha hb
  · exact refCompare3_np x y hm hn w ha hb
  · exact refCompare3_nn x y hm hn w ha hb

theorem refAdd3_bad (a b : ByteArray) (h : rightI a.data.toList = false ∨ rightI b.data.toList = false) (w : World) (ha : a.size ≤ 1000000000) (hb : b.size ≤ 1000000000) :
    Calls Tryz.prog 60 #[.string a, .string b] w fun e w' => e = .returned (.tuple #[.string ⟨#[]⟩, .int .i64 3]) ∧ w = w' := by
  have H := Lib.hid h
  clear h
  go_enter Tryz.func60, Tryz.ntmps60
  go_wp2_with (go_at_call 78; with_reducible refine (refCheck3_bad a b H.out _ ha hb).mono ?_; rintro e w' ⟨rfl, rfl⟩)
  go_ret2
  exact ⟨rfl, rfl⟩
theorem refMul3_bad (a b : ByteArray) (h : rightI a.data.toList = false ∨ rightI b.data.toList = false) (w : World) (ha : a.size ≤ 1000000000) (hb : b.size ≤ 1000000000) :
    Calls Tryz.prog 59 #[.string a, .string b] w fun e w' => e = .returned (.tuple #[.string ⟨#[]⟩, .int .i64 3]) ∧ w = w' := by
  have H := Lib.hid h
  clear h
  go_enter Tryz.func59, Tryz.ntmps59
  go_wp2_with (go_at_call 78; with_reducible refine (refCheck3_bad a b H.out _ ha hb).mono ?_; rintro e w' ⟨rfl, rfl⟩)
  go_ret2
  exact ⟨rfl, rfl⟩
theorem refDiv3_bad (a b : ByteArray) (h : rightI a.data.toList = false ∨ rightI b.data.toList = false) (w : World) (ha : a.size ≤ 1000000000) (hb : b.size ≤ 1000000000) :
    Calls Tryz.prog 47 #[.string a, .string b] w fun e w' => e = .returned (.tuple #[.string ⟨#[]⟩, .string ⟨#[]⟩, .int .i64 3]) ∧ w = w' := by
  have H := Lib.hid h
  clear h
  go_enter Tryz.func47, Tryz.ntmps47
  go_wp2_with (go_at_call 78; with_reducible refine (refCheck3_bad a b H.out _ ha hb).mono ?_; rintro e w' ⟨rfl, rfl⟩)
  go_ret3
  exact ⟨rfl, rfl⟩
theorem refAdd3_num (x y : Int) (w : World) (ha : (inum x).size ≤ 4096) (hb : (inum y).size ≤ 4096) (h : (inum (x + y)).size ≤ 4096) :
    Calls Tryz.prog 60 #[.string (inum x), .string (inum y)] w fun e w' => e = .returned (.tuple #[.string (inum (x + y)), .int .i64 0]) ∧ Below w.heap.size w w' := by
  obtain ⟨m, hm⟩ : ∃ m, decide (x < 0) = m := ⟨_, rfl⟩
  obtain ⟨n, hn⟩ : ∃ n, decide (y < 0) = n := ⟨_, rfl⟩
  have HM := Lib.hid hm
  have HN := Lib.hid hn
  have HLX : Hid ((limbs x.natAbs).length ≤ 4096) := Nat.le_trans (limbs_sz x) ha
  have HLY : Hid ((limbs y.natAbs).length ≤ 4096) := Nat.le_trans (limbs_sz y) hb
  have HZ : Hid (sgn m x.natAbs + sgn n y.natAbs = x + y) := by
    show _ = _
    have h1 := sgn_self x
    have h2 := sgn_self y
    rw [hm] at h1
    rw [hn] at h2
    rw [h1]
    rw [h2]
  clear hm hn
  generalize x + y = z at *
  go_enter Tryz.func60, Tryz.ntmps60
  go_wp2_with (go_at_call 78; with_reducible refine (refCheck3_num x y _ ha hb).mono ?_; rintro e w' ⟨rfl, rfl⟩)
  refine (refParts3_e x m HM _ (by omega)).mono ?_
  rintro e w1 ⟨k, rfl, hk, hB1⟩
  have HK := Lib.hid hk
  have HB1 := Lib.hid hB1
  clear hk hB1
  go_wp2_with fail
  refine (refParts3_e y n HN _ (by omega)).mono ?_
  rintro e w2 ⟨l, rfl, hl, hB2⟩
  have HL := Lib.hid hl
  have HK2 := Lib.hid (HK.out.frame hB2)
  have HB2 := Lib.hid (HB1.out.trans (hB2.mono HB1.out.size))
  clear hl hB2 HK
  go_wp2_with fail
  refine (refSum3 m n _ _ x.natAbs y.natAbs z HZ _ HK2.out HL.out (Nat.le_trans HLX.out (by omega)) (Nat.le_trans HLY.out (by omega))).mono ?_
  rintro e w3 ⟨rfl, hB3⟩
  have HB3 := Lib.hid (HB2.out.trans (hB3.mono HB2.out.size))
  clear hB3
  go_wp2_with (go_at_call 97; with_reducible refine (refResult3_ok (inum z) _ h).mono ?_; rintro e w' ⟨rfl, rfl⟩)
  go_ret2
  exact ⟨rfl, HB3.out⟩
theorem limbs_mul (u v n k : Nat) (hu : (limbs u).length ≤ n) (hv : (limbs v).length ≤ k) : (limbs (u * v)).length ≤ n + k := by
  apply limbs_le
  have h1 := Nat.lt_of_lt_of_le (limbs_lt u) (bp_mono hu)
  have h2 := Nat.lt_of_lt_of_le (limbs_lt v) (bp_mono hv)
  rw [bp_add]
  exact Nat.mul_lt_mul_of_lt_of_le h1 (Nat.le_of_lt h2) (by have := bp_pos k; omega)
theorem refTimes3_n (a b : Value) (u v : Nat) (w : World) (ha : Ow w a (limbs u)) (hb : Ow w b (limbs v)) (hl9 : (limbs u).length ≤ 1000000) (hm9 : (limbs v).length ≤ 1000000) :
    Calls Tryz.prog 98 #[a, b] w fun e w' => ∃ v', e = .returned v' ∧ Ow w' v' (limbs (u * v)) ∧ Below w.heap.size w w' := by
  have := refTimes3 a b _ _ (limbs_lo u) (limbs_lo v) w ha hb hl9 hm9
  rwa [limbs_val, limbs_val] at this
theorem sgn_mul (x y : Int) : sgn (decide (x < 0) != decide (y < 0)) (x.natAbs * y.natAbs) = x * y := by
  have h1 := sgn_self x
  have h2 := sgn_self y
  generalize x.natAbs = u at *
  generalize y.natAbs = v at *
  generalize decide (x < 0) = m at *
  generalize decide (y < 0) = n at *
  rw [← h1, ← h2]
  cases m <;> cases n <;> simp [sgn, Int.neg_mul, Int.mul_neg]
theorem refMul3_tt (x y : Int) (hm : decide (x < 0) = true) (hn : decide (y < 0) = true) (w : World) (ha : (inum x).size ≤ 4096) (hb : (inum y).size ≤ 4096) (h : (inum (x * y)).size ≤ 4096) :
    Calls Tryz.prog 59 #[.string (inum x), .string (inum y)] w fun e w' => e = .returned (.tuple #[.string (inum (x * y)), .int .i64 0]) ∧ Below w.heap.size w w' := by
  have HM := Lib.hid hm
  have HN := Lib.hid hn
  have HLX : Hid ((limbs x.natAbs).length ≤ 4096) := Nat.le_trans (limbs_sz x) ha
  have HLY : Hid ((limbs y.natAbs).length ≤ 4096) := Nat.le_trans (limbs_sz y) hb
  have HZ : Hid (sgn false (x.natAbs * y.natAbs) = x * y) := by
    show _ = _
    have := sgn_mul x y
    rwa [hm, hn] at this
  have HLM : Hid ((limbs (x.natAbs * y.natAbs)).length ≤ 4096 + 4096) := limbs_mul _ _ _ _ HLX.out HLY.out
  clear hm hn
  generalize x * y = z at *
  go_enter Tryz.func59, Tryz.ntmps59
  go_wp2_with (go_at_call 78; with_reducible refine (refCheck3_num x y _ ha hb).mono ?_; rintro e w' ⟨rfl, rfl⟩)
  refine (refParts3_e x true HM _ (by omega)).mono ?_
  rintro e w1 ⟨k, rfl, hk, hB1⟩
  have HK := Lib.hid hk
  have HB1 := Lib.hid hB1
  clear hk hB1
  go_wp2_with fail
  refine (refParts3_e y true HN _ (by omega)).mono ?_
  rintro e w2 ⟨l, rfl, hl, hB2⟩
  have HL := Lib.hid hl
  have HK2 := Lib.hid (HK.out.frame hB2)
  have HB2 := Lib.hid (HB1.out.trans (hB2.mono HB1.out.size))
  clear hl hB2 HK
  go_wp2_with fail
  refine (refTimes3_n _ _ x.natAbs y.natAbs _ HK2.out HL.out (Nat.le_trans HLX.out (by omega)) (Nat.le_trans HLY.out (by omega))).mono ?_
  rintro e w3 ⟨t, rfl, ht, hB3⟩
  have HT := Lib.hid ht
  have HB3 := Lib.hid (HB2.out.trans (hB3.mono HB2.out.size))
  clear hB3 ht
  go_wp2_with fail
  refine (refText3_z false _ _ HZ t _ HT.out (Nat.le_trans HLM.out (by omega))).mono ?_
  rintro e w4 ⟨rfl, hB4⟩
  have HB4 := Lib.hid (HB3.out.trans (hB4.mono HB3.out.size))
  clear hB4
  go_wp2_with (go_at_call 97; with_reducible refine (refResult3_ok (inum z) _ h).mono ?_; rintro e w' ⟨rfl, rfl⟩)
  go_ret2
  exact ⟨rfl, HB4.out⟩
theorem refMul3_tf (x y : Int) (hm : decide (x < 0) = true) (hn : decide (y < 0) = false) (w : World) (ha : (inum x).size ≤ 4096) (hb : (inum y).size ≤ 4096) (h : (inum (x * y)).size ≤ 4096) :
    Calls Tryz.prog 59 #[.string (inum x), .string (inum y)] w fun e w' => e = .returned (.tuple #[.string (inum (x * y)), .int .i64 0]) ∧ Below w.heap.size w w' := by
  have HM := Lib.hid hm
  have HN := Lib.hid hn
  have HLX : Hid ((limbs x.natAbs).length ≤ 4096) := Nat.le_trans (limbs_sz x) ha
  have HLY : Hid ((limbs y.natAbs).length ≤ 4096) := Nat.le_trans (limbs_sz y) hb
  have HZ : Hid (sgn true (x.natAbs * y.natAbs) = x * y) := by
    show _ = _
    have := sgn_mul x y
    rwa [hm, hn] at this
  have HLM : Hid ((limbs (x.natAbs * y.natAbs)).length ≤ 4096 + 4096) := limbs_mul _ _ _ _ HLX.out HLY.out
  clear hm hn
  generalize x * y = z at *
  go_enter Tryz.func59, Tryz.ntmps59
  go_wp2_with (go_at_call 78; with_reducible refine (refCheck3_num x y _ ha hb).mono ?_; rintro e w' ⟨rfl, rfl⟩)
  refine (refParts3_e x true HM _ (by omega)).mono ?_
  rintro e w1 ⟨k, rfl, hk, hB1⟩
  have HK := Lib.hid hk
  have HB1 := Lib.hid hB1
  clear hk hB1
  go_wp2_with fail
  refine (refParts3_e y false HN _ (by omega)).mono ?_
  rintro e w2 ⟨l, rfl, hl, hB2⟩
  have HL := Lib.hid hl
  have HK2 := Lib.hid (HK.out.frame hB2)
  have HB2 := Lib.hid (HB1.out.trans (hB2.mono HB1.out.size))
  clear hl hB2 HK
  go_wp2_with fail
  refine (refTimes3_n _ _ x.natAbs y.natAbs _ HK2.out HL.out (Nat.le_trans HLX.out (by omega)) (Nat.le_trans HLY.out (by omega))).mono ?_
  rintro e w3 ⟨t, rfl, ht, hB3⟩
  have HT := Lib.hid ht
  have HB3 := Lib.hid (HB2.out.trans (hB3.mono HB2.out.size))
  clear hB3 ht
  go_wp2_with fail
  refine (refText3_z true _ _ HZ t _ HT.out (Nat.le_trans HLM.out (by omega))).mono ?_
  rintro e w4 ⟨rfl, hB4⟩
  have HB4 := Lib.hid (HB3.out.trans (hB4.mono HB3.out.size))
  clear hB4
  go_wp2_with (go_at_call 97; with_reducible refine (refResult3_ok (inum z) _ h).mono ?_; rintro e w' ⟨rfl, rfl⟩)
  go_ret2
  exact ⟨rfl, HB4.out⟩
theorem refMul3_ft (x y : Int) (hm : decide (x < 0) = false) (hn : decide (y < 0) = true) (w : World) (ha : (inum x).size ≤ 4096) (hb : (inum y).size ≤ 4096) (h : (inum (x * y)).size ≤ 4096) :
    Calls Tryz.prog 59 #[.string (inum x), .string (inum y)] w fun e w' => e = .returned (.tuple #[.string (inum (x * y)), .int .i64 0]) ∧ Below w.heap.size w w' := by
  have HM := Lib.hid hm
  have HN := Lib.hid hn
  have HLX : Hid ((limbs x.natAbs).length ≤ 4096) := Nat.le_trans (limbs_sz x) ha
  have HLY : Hid ((limbs y.natAbs).length ≤ 4096) := Nat.le_trans (limbs_sz y) hb
  have HZ : Hid (sgn true (x.natAbs * y.natAbs) = x * y) := by
    show _ = _
    have := sgn_mul x y
    rwa [hm, hn] at this
  have HLM : Hid ((limbs (x.natAbs * y.natAbs)).length ≤ 4096 + 4096) := limbs_mul _ _ _ _ HLX.out HLY.out
  clear hm hn
  generalize x * y = z at *
  go_enter Tryz.func59, Tryz.ntmps59
  go_wp2_with (go_at_call 78; with_reducible refine (refCheck3_num x y _ ha hb).mono ?_; rintro e w' ⟨rfl, rfl⟩)
  refine (refParts3_e x false HM _ (by omega)).mono ?_
  rintro e w1 ⟨k, rfl, hk, hB1⟩
  have HK := Lib.hid hk
  have HB1 := Lib.hid hB1
  clear hk hB1
  go_wp2_with fail
  refine (refParts3_e y true HN _ (by omega)).mono ?_
  rintro e w2 ⟨l, rfl, hl, hB2⟩
  have HL := Lib.hid hl
  have HK2 := Lib.hid (HK.out.frame hB2)
  have HB2 := Lib.hid (HB1.out.trans (hB2.mono HB1.out.size))
  clear hl hB2 HK
  go_wp2_with fail
  refine (refTimes3_n _ _ x.natAbs y.natAbs _ HK2.out HL.out (Nat.le_trans HLX.out (by omega)) (Nat.le_trans HLY.out (by omega))).mono ?_
  rintro e w3 ⟨t, rfl, ht, hB3⟩
  have HT := Lib.hid ht
  have HB3 := Lib.hid (HB2.out.trans (hB3.mono HB2.out.size))
  clear hB3 ht
  go_wp2_with fail
  refine (refText3_z true _ _ HZ t _ HT.out (Nat.le_trans HLM.out (by omega))).mono ?_
  rintro e w4 ⟨rfl, hB4⟩
  have HB4 := Lib.hid (HB3.out.trans (hB4.mono HB3.out.size))
  clear hB4
  go_wp2_with (go_at_call 97; with_reducible refine (refResult3_ok (inum z) _ h).mono ?_; rintro e w' ⟨rfl, rfl⟩)
  go_ret2
  exact ⟨rfl, HB4.out⟩
theorem refMul3_ff (x y : Int) (hm : decide (x < 0) = false) (hn : decide (y < 0) = false) (w : World) (ha : (inum x).size ≤ 4096) (hb : (inum y).size ≤ 4096) (h : (inum (x * y)).size ≤ 4096) :
    Calls Tryz.prog 59 #[.string (inum x), .string (inum y)] w fun e w' => e = .returned (.tuple #[.string (inum (x * y)), .int .i64 0]) ∧ Below w.heap.size w w' := by
  have HM := Lib.hid hm
  have HN := Lib.hid hn
  have HLX : Hid ((limbs x.natAbs).length ≤ 4096) := Nat.le_trans (limbs_sz x) ha
  have HLY : Hid ((limbs y.natAbs).length ≤ 4096) := Nat.le_trans (limbs_sz y) hb
  have HZ : Hid (sgn false (x.natAbs * y.natAbs) = x * y) := by
    show _ = _
    have := sgn_mul x y
    rwa [hm, hn] at this
  have HLM : Hid ((limbs (x.natAbs * y.natAbs)).length ≤ 4096 + 4096) := limbs_mul _ _ _ _ HLX.out HLY.out
  clear hm hn
  generalize x * y = z at *
  go_enter Tryz.func59, Tryz.ntmps59
  go_wp2_with (go_at_call 78; with_reducible refine (refCheck3_num x y _ ha hb).mono ?_; rintro e w' ⟨rfl, rfl⟩)
  refine (refParts3_e x false HM _ (by omega)).mono ?_
  rintro e w1 ⟨k, rfl, hk, hB1⟩
  have HK := Lib.hid hk
  have HB1 := Lib.hid hB1
  clear hk hB1
  go_wp2_with fail
  refine (refParts3_e y false HN _ (by omega)).mono ?_
  rintro e w2 ⟨l, rfl, hl, hB2⟩
  have HL := Lib.hid hl
  have HK2 := Lib.hid (HK.out.frame hB2)
  have HB2 := Lib.hid (HB1.out.trans (hB2.mono HB1.out.size))
  clear hl hB2 HK
  go_wp2_with fail
  refine (refTimes3_n _ _ x.natAbs y.natAbs _ HK2.out HL.out (Nat.le_trans HLX.out (by omega)) (Nat.le_trans HLY.out (by omega))).mono ?_
  rintro e w3 ⟨t, rfl, ht, hB3⟩
  have HT := Lib.hid ht
  have HB3 := Lib.hid (HB2.out.trans (hB3.mono HB2.out.size))
  clear hB3 ht
  go_wp2_with fail
  refine (refText3_z false _ _ HZ t _ HT.out (Nat.le_trans HLM.out (by omega))).mono ?_
  rintro e w4 ⟨rfl, hB4⟩
  have HB4 := Lib.hid (HB3.out.trans (hB4.mono HB3.out.size))
  clear hB4
  go_wp2_with (go_at_call 97; with_reducible refine (refResult3_ok (inum z) _ h).mono ?_; rintro e w' ⟨rfl, rfl⟩)
  go_ret2
  exact ⟨rfl, HB4.out⟩
theorem refMul3_num (x y : Int) (w : World) (ha : (inum x).size ≤ 4096) (hb : (inum y).size ≤ 4096) (h : (inum (x * y)).size ≤ 4096) :
    Calls Tryz.prog 59 #[.string (inum x), .string (inum y)] w fun e w' => e = .returned (.tuple #[.string (inum (x * y)), .int .i64 0]) ∧ Below w.heap.size w w' := by
  cases hm : decide (x < 0) <;> cases hn : decide (y < 0)
  · exact refMul3_ff x y hm hn w ha hb h
  · exact refMul3_ft x y hm hn w ha hb h
  · exact refMul3_tf x y hm hn w ha hb h
  · exact refMul3_tt x y hm hn w ha hb h

end Go.Proofs.YthamlnolfagpiaaGreatDoor.D

namespace Go.Proofs.YthamlnolfagpiaaGreatDoor.D
open Go.RowKit
set_option maxRecDepth 8000

theorem limbs_one : limbs 1 = [1] := by rw [limbs_pos (by omega), limbs_zero]

theorem refDivide3_n (a b : Value) (u v : Nat) (hv : 0 < v) (w : World) (ha : Ow w a (limbs u)) (hb : Ow w b (limbs v)) (hl9 : (limbs u).length ≤ 1000000) (hm9 : (limbs v).length ≤ 1000000) :
    Calls Tryz.prog 84 #[a, b] w fun e w' => ∃ q r, e = .returned (.tuple #[q, r]) ∧ Ow w' q (limbs (u / v)) ∧ Ow w' r (limbs (u % v)) ∧ Below w.heap.size w w' := by
  have := refDivide3 a b _ v (limbs_lo u) w ha hb hl9 hm9 hv
  rwa [limbs_val] at this
theorem Ow.lit (w : World) : Ow (w.alloc (.cells #[.int .i64 1] 3)) (.slice (some ⟨w.heap.size, 0, none⟩) 1 1) (limbs 1) := by
  rw [limbs_one]
  exact World.ownsRow_lit w #[.int .i64 1] 1 (Nat.zero_le _) (by decide) rfl

theorem refDiv3_zero (x : Int) (w : World) (ha : (inum x).size ≤ 4096) :
    Calls Tryz.prog 47 #[.string (inum x), .string (inum 0)] w fun e w' => e = .returned (.tuple #[.string ⟨#[]⟩, .string ⟨#[]⟩, .int .i64 10]) ∧ Below w.heap.size w w' := by
  obtain ⟨m, hm⟩ : ∃ m, decide (x < 0) = m := ⟨_, rfl⟩
  have HM := Lib.hid hm
  have HN : Hid (decide ((0 : Int) < 0) = false) := rfl
  have hb : (inum 0).size ≤ 4096 := by rw [inum_zero]; decide
  clear hm
  go_enter Tryz.func47, Tryz.ntmps47
  go_wp2_with (go_at_call 78; with_reducible refine (refCheck3_num x 0 _ ha hb).mono ?_; rintro e w' ⟨rfl, rfl⟩)
  refine (refParts3_e x m HM _ (by omega)).mono ?_
  rintro e w1 ⟨k, rfl, hk, hB1⟩
  have HB1 := Lib.hid hB1
  clear hk hB1
  go_wp2_with fail
  refine (refParts3_e 0 false HN _ (by omega)).mono ?_
  rintro e w2 ⟨l, rfl, hl, hB2⟩
  obtain ⟨A, c, rfl⟩ := hl.empty (limbs_len0.2 rfl)
  have HB2 := Lib.hid (HB1.out.trans (hB2.mono HB1.out.size))
  clear hl hB2
  go_wp2_with fail
  go_ret3
  exact ⟨rfl, HB2.out⟩

set_option maxHeartbeats 1000000 in
theorem refDiv3_tt (x y : Int) (hm : decide (x < 0) = true) (hn : decide (y < 0) = true) (hy : y ≠ 0) (w : World) (ha : (inum x).size ≤ 4096) (hb : (inum y).size ≤ 4096) :
    Calls Tryz.prog 47 #[.string (inum x), .string (inum y)] w fun e w' => e = .returned (.tuple #[.string (inum (fdv x y)), .string (inum (fmd x y)), .int .i64 0]) ∧ Below w.heap.size w w' := by
  have HM := Lib.hid hm
  have HN := Lib.hid hn
  have HLX : Hid ((limbs x.natAbs).length ≤ 4096) := Nat.le_trans (limbs_sz x) ha
  have HLY : Hid ((limbs y.natAbs).length ≤ 4096) := Nat.le_trans (limbs_sz y) hb
  have HLOW : low x y = false := by unfold low; rw [hm, hn]; rfl
  have HZQ : Hid (sgn false (x.natAbs / y.natAbs) = fdv x y) := by show _ = _; unfold fdv; rw [HLOW, hm, hn]; rfl
  have HZR : Hid (sgn true (x.natAbs % y.natAbs) = fmd x y) := by show _ = _; unfold fmd; rw [HLOW, hn]; rfl
  have HY0 : Hid (0 < y.natAbs) := Lib.hid (by omega)
  have HLQ : Hid ((limbs (x.natAbs / y.natAbs)).length ≤ 4096) := Nat.le_trans (limbs_mono (Nat.div_le_self _ _)) HLX.out
  have HLR : Hid ((limbs (x.natAbs % y.natAbs)).length ≤ 4096) := Nat.le_trans (limbs_mono (Nat.mod_le _ _)) HLX.out
  have hyl : (((limbs y.natAbs).length : Int) == 0) = false := bneI (b := 0) (fun h => by have := limbs_len0.1 h; have := HY0.out; omega)
  generalize fdv x y = fq at *
  generalize fmd x y = fr at *
  clear hm hn HLOW hy
  go_enter Tryz.func47, Tryz.ntmps47
  go_wp2_with (go_at_call 78; with_reducible refine (refCheck3_num x y _ ha hb).mono ?_; rintro e w' ⟨rfl, rfl⟩)
  refine (refParts3_e x true HM _ (by omega)).mono ?_
  rintro e w1 ⟨k, rfl, hk, hB1⟩
  have HK := Lib.hid hk
  have HB1 := Lib.hid hB1
  clear hk hB1
  go_wp2_with fail
  refine (refParts3_e y true HN _ (by omega)).mono ?_
  rintro e w2 ⟨l, rfl, hl, hB2⟩
  have HL := Lib.hid hl
  have HK2 := Lib.hid (HK.out.frame hB2)
  have HB2 := Lib.hid (HB1.out.trans (hB2.mono HB1.out.size))
  obtain ⟨A2, c2, rfl, _, _⟩ := hl.shape
  clear hl hB2 HK
  go_wp2_with fail
  refine (refDivide3_n _ _ x.natAbs y.natAbs HY0.out _ HK2.out HL.out (Nat.le_trans HLX.out (by omega)) (Nat.le_trans HLY.out (by omega))).mono ?_
  rintro e w3 ⟨q, r, rfl, hq, hr, hB3⟩
  have HQ := Lib.hid hq
  have HR := Lib.hid hr
  have HLW := Lib.hid (HL.out.frame hB3)
  have HB3 := Lib.hid (HB2.out.trans (hB3.mono HB2.out.size))
  clear hB3 hq HB2 HK2
  clear hr HL
  go_wp2_with fail
  refine (refText3_z false _ _ HZQ _ _ HQ.out (Nat.le_trans HLQ.out (by omega))).mono ?_
  rintro e w6 ⟨rfl, hB6⟩
  have HR6 := Lib.hid (HR.out.frame hB6)
  have HB6 := Lib.hid (HB3.out.trans (hB6.mono HB3.out.size))
  clear hB6 HR HQ HB3
  go_wp2_with fail
  refine (refText3_z true _ _ HZR _ _ HR6.out (Nat.le_trans HLR.out (by omega))).mono ?_
  rintro e w7 ⟨rfl, hB7⟩
  have HB7 := Lib.hid (HB6.out.trans (hB7.mono HB6.out.size))
  clear hB7 HB6
  go_wp2_with fail
  go_ret3
  exact ⟨rfl, HB7.out⟩

set_option maxHeartbeats 1000000 in
theorem refDiv3_tfl (x y : Int) (hm : decide (x < 0) = true) (hn : decide (y < 0) = false) (hy : y ≠ 0) (hr : 0 < x.natAbs % y.natAbs) (w : World) (ha : (inum x).size ≤ 4096) (hb : (inum y).size ≤ 4096) :
    Calls Tryz.prog 47 #[.string (inum x), .string (inum y)] w fun e w' => e = .returned (.tuple #[.string (inum (fdv x y)), .string (inum (fmd x y)), .int .i64 0]) ∧ Below w.heap.size w w' := by
  have HM := Lib.hid hm
  have HN := Lib.hid hn
  have HLX : Hid ((limbs x.natAbs).length ≤ 4096) := Nat.le_trans (limbs_sz x) ha
  have HLY : Hid ((limbs y.natAbs).length ≤ 4096) := Nat.le_trans (limbs_sz y) hb
  have HLOW : low x y = true := by unfold low; rw [hm, hn]; simp; omega
  have HZQ : Hid (sgn true (x.natAbs / y.natAbs + 1) = fdv x y) := by show _ = _; unfold fdv; rw [HLOW, hm, hn]; rfl
  have HZR : Hid (sgn false (y.natAbs - x.natAbs % y.natAbs) = fmd x y) := by show _ = _; unfold fmd; rw [HLOW, hn]; rfl
  have HY0 : Hid (0 < y.natAbs) := Lib.hid (by omega)
  have HLQ : Hid ((limbs (x.natAbs / y.natAbs)).length ≤ 4096) := Nat.le_trans (limbs_mono (Nat.div_le_self _ _)) HLX.out
  have HLR : Hid ((limbs (x.natAbs % y.natAbs)).length ≤ 4096) := Nat.le_trans (limbs_mono (Nat.mod_le _ _)) HLX.out
  have hyl : (((limbs y.natAbs).length : Int) == 0) = false := bneI (b := 0) (fun h => by have := limbs_len0.1 h; have := HY0.out; omega)
  have hrl : 0 < (limbs (x.natAbs % y.natAbs)).length := by have := limbs_len0 (n := x.natAbs % y.natAbs); omega
  have HLQ1 : Hid ((limbs (x.natAbs / y.natAbs + 1)).length ≤ 4097) := limbs_add _ _ 4096 HLQ.out (by rw [limbs_one]; decide)
  have HLR1 : Hid ((limbs (y.natAbs - x.natAbs % y.natAbs)).length ≤ 4096) := Nat.le_trans (limbs_mono (Nat.sub_le _ _)) HLY.out
  have HRY : Hid (x.natAbs % y.natAbs ≤ y.natAbs) := Nat.le_of_lt (Nat.mod_lt _ HY0.out)
  have HL1 : Hid ((limbs 1).length ≤ 1000000) := Lib.hid (by rw [limbs_one]; decide)
  generalize fdv x y = fq at *
  generalize fmd x y = fr at *
  clear hm hn HLOW hy hr
  go_enter Tryz.func47, Tryz.ntmps47
  go_wp2_with (go_at_call 78; with_reducible refine (refCheck3_num x y _ ha hb).mono ?_; rintro e w' ⟨rfl, rfl⟩)
  refine (refParts3_e x true HM _ (by omega)).mono ?_
  rintro e w1 ⟨k, rfl, hk, hB1⟩
  have HK := Lib.hid hk
  have HB1 := Lib.hid hB1
  clear hk hB1
  go_wp2_with fail
  refine (refParts3_e y false HN _ (by omega)).mono ?_
  rintro e w2 ⟨l, rfl, hl, hB2⟩
  have HL := Lib.hid hl
  have HK2 := Lib.hid (HK.out.frame hB2)
  have HB2 := Lib.hid (HB1.out.trans (hB2.mono HB1.out.size))
  obtain ⟨A2, c2, rfl, _, _⟩ := hl.shape
  clear hl hB2 HK
  go_wp2_with fail
  refine (refDivide3_n _ _ x.natAbs y.natAbs HY0.out _ HK2.out HL.out (Nat.le_trans HLX.out (by omega)) (Nat.le_trans HLY.out (by omega))).mono ?_
  rintro e w3 ⟨q, r, rfl, hq, hr, hB3⟩
  have HQ := Lib.hid hq
  have HR := Lib.hid hr
  have HLW := Lib.hid (HL.out.frame hB3)
  have HB3 := Lib.hid (HB2.out.trans (hB3.mono HB2.out.size))
  clear hB3 hq HB2 HK2
  obtain ⟨A3, c3, rfl, _, _⟩ := hr.shape
  clear hr HL
  have hsz := HB3.out.size
  have HQ2 := Lib.hid (HQ.out.alloc (.cells #[.int .i64 1] 3))
  have HR2 := Lib.hid (HR.out.alloc (.cells #[.int .i64 1] 3))
  have HL2 := Lib.hid (HLW.out.alloc (.cells #[.int .i64 1] 3))
  have HB3a := Lib.hid (HB3.out.alloc hsz (.cells #[.int .i64 1] 3))
  clear hsz
  go_wp2_with fail
  refine (refPlus3_n _ _ (x.natAbs / y.natAbs) 1 _ HQ2.out (Ow.lit _) (Nat.le_trans HLQ.out (by omega)) HL1.out).mono ?_
  rintro e w4 ⟨q2, rfl, hq2, hB4⟩
  have HQ3 := Lib.hid hq2
  have HR3 := Lib.hid (HR2.out.frame hB4)
  have HL3 := Lib.hid (HL2.out.frame hB4)
  have HB4 := Lib.hid (HB3a.out.trans (hB4.mono HB3a.out.size))
  clear hq2 hB4 HQ2 HR2 HL2 HQ HR HLW HB3 HB3a
  go_wp2_with fail
  refine (refMinus3 _ _ y.natAbs (x.natAbs % y.natAbs) _ HL3.out HR3.out HRY.out (Nat.le_trans HLY.out (by omega))).mono ?_
  rintro e w5 ⟨r2, rfl, hr2, hB5⟩
  have HQ := Lib.hid (HQ3.out.frame hB5)
  have HR := Lib.hid hr2.weak
  have HB3 := Lib.hid (HB4.out.trans (hB5.mono HB4.out.size))
  clear hr2 hB5 HQ3 HR3 HL3 HB4
  go_wp2_with fail
  refine (refText3_z true _ _ HZQ _ _ HQ.out (Nat.le_trans HLQ1.out (by omega))).mono ?_
  rintro e w6 ⟨rfl, hB6⟩
  have HR6 := Lib.hid (HR.out.frame hB6)
  have HB6 := Lib.hid (HB3.out.trans (hB6.mono HB3.out.size))
  clear hB6 HR HQ HB3
  go_wp2_with fail
  refine (refText3_z false _ _ HZR _ _ HR6.out (Nat.le_trans HLR1.out (by omega))).mono ?_
  rintro e w7 ⟨rfl, hB7⟩
  have HB7 := Lib.hid (HB6.out.trans (hB7.mono HB6.out.size))
  clear hB7 HB6
  go_wp2_with fail
  go_ret3
  exact ⟨rfl, HB7.out⟩

set_option maxHeartbeats 1000000 in
theorem refDiv3_tf (x y : Int) (hm : decide (x < 0) = true) (hn : decide (y < 0) = false) (hy : y ≠ 0) (hr : x.natAbs % y.natAbs = 0) (w : World) (ha : (inum x).size ≤ 4096) (hb : (inum y).size ≤ 4096) :
    Calls Tryz.prog 47 #[.string (inum x), .string (inum y)] w fun e w' => e = .returned (.tuple #[.string (inum (fdv x y)), .string (inum (fmd x y)), .int .i64 0]) ∧ Below w.heap.size w w' := by
  have HM := Lib.hid hm
  have HN := Lib.hid hn
  have HLX : Hid ((limbs x.natAbs).length ≤ 4096) := Nat.le_trans (limbs_sz x) ha
  have HLY : Hid ((limbs y.natAbs).length ≤ 4096) := Nat.le_trans (limbs_sz y) hb
  have HLOW : low x y = false := by unfold low; rw [hm, hn]; simp; omega
  have HZQ : Hid (sgn true (x.natAbs / y.natAbs) = fdv x y) := by show _ = _; unfold fdv; rw [HLOW, hm, hn]; rfl
  have HZR : Hid (sgn false (x.natAbs % y.natAbs) = fmd x y) := by show _ = _; unfold fmd; rw [HLOW, hn]; rfl
  have HY0 : Hid (0 < y.natAbs) := Lib.hid (by omega)
  have HLQ : Hid ((limbs (x.natAbs / y.natAbs)).length ≤ 4096) := Nat.le_trans (limbs_mono (Nat.div_le_self _ _)) HLX.out
  have HLR : Hid ((limbs (x.natAbs % y.natAbs)).length ≤ 4096) := Nat.le_trans (limbs_mono (Nat.mod_le _ _)) HLX.out
  have hyl : (((limbs y.natAbs).length : Int) == 0) = false := bneI (b := 0) (fun h => by have := limbs_len0.1 h; have := HY0.out; omega)
  have hrl : ¬ 0 < (limbs (x.natAbs % y.natAbs)).length := by have := limbs_len0 (n := x.natAbs % y.natAbs); omega
  generalize fdv x y = fq at *
  generalize fmd x y = fr at *
  clear hm hn HLOW hy hr
  go_enter Tryz.func47, Tryz.ntmps47
  go_wp2_with (go_at_call 78; with_reducible refine (refCheck3_num x y _ ha hb).mono ?_; rintro e w' ⟨rfl, rfl⟩)
  refine (refParts3_e x true HM _ (by omega)).mono ?_
  rintro e w1 ⟨k, rfl, hk, hB1⟩
  have HK := Lib.hid hk
  have HB1 := Lib.hid hB1
  clear hk hB1
  go_wp2_with fail
  refine (refParts3_e y false HN _ (by omega)).mono ?_
  rintro e w2 ⟨l, rfl, hl, hB2⟩
  have HL := Lib.hid hl
  have HK2 := Lib.hid (HK.out.frame hB2)
  have HB2 := Lib.hid (HB1.out.trans (hB2.mono HB1.out.size))
  obtain ⟨A2, c2, rfl, _, _⟩ := hl.shape
  clear hl hB2 HK
  go_wp2_with fail
  refine (refDivide3_n _ _ x.natAbs y.natAbs HY0.out _ HK2.out HL.out (Nat.le_trans HLX.out (by omega)) (Nat.le_trans HLY.out (by omega))).mono ?_
  rintro e w3 ⟨q, r, rfl, hq, hr, hB3⟩
  have HQ := Lib.hid hq
  have HR := Lib.hid hr
  have HLW := Lib.hid (HL.out.frame hB3)
  have HB3 := Lib.hid (HB2.out.trans (hB3.mono HB2.out.size))
  clear hB3 hq HB2 HK2
  obtain ⟨A3, c3, rfl, _, _⟩ := hr.shape
  clear hr HL
  go_wp2_with fail
  refine (refText3_z true _ _ HZQ _ _ HQ.out (Nat.le_trans HLQ.out (by omega))).mono ?_
  rintro e w6 ⟨rfl, hB6⟩
  have HR6 := Lib.hid (HR.out.frame hB6)
  have HB6 := Lib.hid (HB3.out.trans (hB6.mono HB3.out.size))
  clear hB6 HR HQ HB3
  go_wp2_with fail
  refine (refText3_z false _ _ HZR _ _ HR6.out (Nat.le_trans HLR.out (by omega))).mono ?_
  rintro e w7 ⟨rfl, hB7⟩
  have HB7 := Lib.hid (HB6.out.trans (hB7.mono HB6.out.size))
  clear hB7 HB6
  go_wp2_with fail
  go_ret3
  exact ⟨rfl, HB7.out⟩

set_option maxHeartbeats 1000000 in
theorem refDiv3_ftl (x y : Int) (hm : decide (x < 0) = false) (hn : decide (y < 0) = true) (hy : y ≠ 0) (hr : 0 < x.natAbs % y.natAbs) (w : World) (ha : (inum x).size ≤ 4096) (hb : (inum y).size ≤ 4096) :
    Calls Tryz.prog 47 #[.string (inum x), .string (inum y)] w fun e w' => e = .returned (.tuple #[.string (inum (fdv x y)), .string (inum (fmd x y)), .int .i64 0]) ∧ Below w.heap.size w w' := by
  have HM := Lib.hid hm
  have HN := Lib.hid hn
  have HLX : Hid ((limbs x.natAbs).length ≤ 4096) := Nat.le_trans (limbs_sz x) ha
  have HLY : Hid ((limbs y.natAbs).length ≤ 4096) := Nat.le_trans (limbs_sz y) hb
  have HLOW : low x y = true := by unfold low; rw [hm, hn]; simp; omega
  have HZQ : Hid (sgn true (x.natAbs / y.natAbs + 1) = fdv x y) := by show _ = _; unfold fdv; rw [HLOW, hm, hn]; rfl
  have HZR : Hid (sgn true (y.natAbs - x.natAbs % y.natAbs) = fmd x y) := by show _ = _; unfold fmd; rw [HLOW, hn]; rfl
  have HY0 : Hid (0 < y.natAbs) := Lib.hid (by omega)
  have HLQ : Hid ((limbs (x.natAbs / y.natAbs)).length ≤ 4096) := Nat.le_trans (limbs_mono (Nat.div_le_self _ _)) HLX.out
  have HLR : Hid ((limbs (x.natAbs % y.natAbs)).length ≤ 4096) := Nat.le_trans (limbs_mono (Nat.mod_le _ _)) HLX.out
  have hyl : (((limbs y.natAbs).length : Int) == 0) = false := bneI (b := 0) (fun h => by have := limbs_len0.1 h; have := HY0.out; omega)
  have hrl : 0 < (limbs (x.natAbs % y.natAbs)).length := by have := limbs_len0 (n := x.natAbs % y.natAbs); omega
  have HLQ1 : Hid ((limbs (x.natAbs / y.natAbs + 1)).length ≤ 4097) := limbs_add _ _ 4096 HLQ.out (by rw [limbs_one]; decide)
  have HLR1 : Hid ((limbs (y.natAbs - x.natAbs % y.natAbs)).length ≤ 4096) := Nat.le_trans (limbs_mono (Nat.sub_le _ _)) HLY.out
  have HRY : Hid (x.natAbs % y.natAbs ≤ y.natAbs) := Nat.le_of_lt (Nat.mod_lt _ HY0.out)
  have HL1 : Hid ((limbs 1).length ≤ 1000000) := Lib.hid (by rw [limbs_one]; decide)
  generalize fdv x y = fq at *
  generalize fmd x y = fr at *
  clear hm hn HLOW hy hr
  go_enter Tryz.func47, Tryz.ntmps47
  go_wp2_with (go_at_call 78; with_reducible refine (refCheck3_num x y _ ha hb).mono ?_; rintro e w' ⟨rfl, rfl⟩)
  refine (refParts3_e x false HM _ (by omega)).mono ?_
  rintro e w1 ⟨k, rfl, hk, hB1⟩
  have HK := Lib.hid hk
  have HB1 := Lib.hid hB1
  clear hk hB1
  go_wp2_with fail
  refine (refParts3_e y true HN _ (by omega)).mono ?_
  rintro e w2 ⟨l, rfl, hl, hB2⟩
  have HL := Lib.hid hl
  have HK2 := Lib.hid (HK.out.frame hB2)
  have HB2 := Lib.hid (HB1.out.trans (hB2.mono HB1.out.size))
  obtain ⟨A2, c2, rfl, _, _⟩ := hl.shape
  clear hl hB2 HK
  go_wp2_with fail
  refine (refDivide3_n _ _ x.natAbs y.natAbs HY0.out _ HK2.out HL.out (Nat.le_trans HLX.out (by omega)) (Nat.le_trans HLY.out (by omega))).mono ?_
  rintro e w3 ⟨q, r, rfl, hq, hr, hB3⟩
  have HQ := Lib.hid hq
  have HR := Lib.hid hr
  have HLW := Lib.hid (HL.out.frame hB3)
  have HB3 := Lib.hid (HB2.out.trans (hB3.mono HB2.out.size))
  clear hB3 hq HB2 HK2
  obtain ⟨A3, c3, rfl, _, _⟩ := hr.shape
  clear hr HL
  have hsz := HB3.out.size
  have HQ2 := Lib.hid (HQ.out.alloc (.cells #[.int .i64 1] 3))
  have HR2 := Lib.hid (HR.out.alloc (.cells #[.int .i64 1] 3))
  have HL2 := Lib.hid (HLW.out.alloc (.cells #[.int .i64 1] 3))
  have HB3a := Lib.hid (HB3.out.alloc hsz (.cells #[.int .i64 1] 3))
  clear hsz
  go_wp2_with fail
  refine (refPlus3_n _ _ (x.natAbs / y.natAbs) 1 _ HQ2.out (Ow.lit _) (Nat.le_trans HLQ.out (by omega)) HL1.out).mono ?_
  rintro e w4 ⟨q2, rfl, hq2, hB4⟩
  have HQ3 := Lib.hid hq2
  have HR3 := Lib.hid (HR2.out.frame hB4)
  have HL3 := Lib.hid (HL2.out.frame hB4)
  have HB4 := Lib.hid (HB3a.out.trans (hB4.mono HB3a.out.size))
  clear hq2 hB4 HQ2 HR2 HL2 HQ HR HLW HB3 HB3a
  go_wp2_with fail
  refine (refMinus3 _ _ y.natAbs (x.natAbs % y.natAbs) _ HL3.out HR3.out HRY.out (Nat.le_trans HLY.out (by omega))).mono ?_
  rintro e w5 ⟨r2, rfl, hr2, hB5⟩
  have HQ := Lib.hid (HQ3.out.frame hB5)
  have HR := Lib.hid hr2.weak
  have HB3 := Lib.hid (HB4.out.trans (hB5.mono HB4.out.size))
  clear hr2 hB5 HQ3 HR3 HL3 HB4
  go_wp2_with fail
  refine (refText3_z true _ _ HZQ _ _ HQ.out (Nat.le_trans HLQ1.out (by omega))).mono ?_
  rintro e w6 ⟨rfl, hB6⟩
  have HR6 := Lib.hid (HR.out.frame hB6)
  have HB6 := Lib.hid (HB3.out.trans (hB6.mono HB3.out.size))
  clear hB6 HR HQ HB3
  go_wp2_with fail
  refine (refText3_z true _ _ HZR _ _ HR6.out (Nat.le_trans HLR1.out (by omega))).mono ?_
  rintro e w7 ⟨rfl, hB7⟩
  have HB7 := Lib.hid (HB6.out.trans (hB7.mono HB6.out.size))
  clear hB7 HB6
  go_wp2_with fail
  go_ret3
  exact ⟨rfl, HB7.out⟩

set_option maxHeartbeats 1000000 in
theorem refDiv3_ft (x y : Int) (hm : decide (x < 0) = false) (hn : decide (y < 0) = true) (hy : y ≠ 0) (hr : x.natAbs % y.natAbs = 0) (w : World) (ha : (inum x).size ≤ 4096) (hb : (inum y).size ≤ 4096) :
    Calls Tryz.prog 47 #[.string (inum x), .string (inum y)] w fun e w' => e = .returned (.tuple #[.string (inum (fdv x y)), .string (inum (fmd x y)), .int .i64 0]) ∧ Below w.heap.size w w' := by
  have HM := Lib.hid hm
  have HN := Lib.hid hn
  have HLX : Hid ((limbs x.natAbs).length ≤ 4096) := Nat.le_trans (limbs_sz x) ha
  have HLY : Hid ((limbs y.natAbs).length ≤ 4096) := Nat.le_trans (limbs_sz y) hb
  have HLOW : low x y = false := by unfold low; rw [hm, hn]; simp; omega
  have HZQ : Hid (sgn true (x.natAbs / y.natAbs) = fdv x y) := by show _ = _; unfold fdv; rw [HLOW, hm, hn]; rfl
  have HZR : Hid (sgn true (x.natAbs % y.natAbs) = fmd x y) := by show _ = _; unfold fmd; rw [HLOW, hn]; rfl
  have HY0 : Hid (0 < y.natAbs) := Lib.hid (by omega)
  have HLQ : Hid ((limbs (x.natAbs / y.natAbs)).length ≤ 4096) := Nat.le_trans (limbs_mono (Nat.div_le_self _ _)) HLX.out
  have HLR : Hid ((limbs (x.natAbs % y.natAbs)).length ≤ 4096) := Nat.le_trans (limbs_mono (Nat.mod_le _ _)) HLX.out
  have hyl : (((limbs y.natAbs).length : Int) == 0) = false := bneI (b := 0) (fun h => by have := limbs_len0.1 h; have := HY0.out; omega)
  have hrl : ¬ 0 < (limbs (x.natAbs % y.natAbs)).length := by have := limbs_len0 (n := x.natAbs % y.natAbs); omega
  generalize fdv x y = fq at *
  generalize fmd x y = fr at *
  clear hm hn HLOW hy hr
  go_enter Tryz.func47, Tryz.ntmps47
  go_wp2_with (go_at_call 78; with_reducible refine (refCheck3_num x y _ ha hb).mono ?_; rintro e w' ⟨rfl, rfl⟩)
  refine (refParts3_e x false HM _ (by omega)).mono ?_
  rintro e w1 ⟨k, rfl, hk, hB1⟩
  have HK := Lib.hid hk
  have HB1 := Lib.hid hB1
  clear hk hB1
  go_wp2_with fail
  refine (refParts3_e y true HN _ (by omega)).mono ?_
  rintro e w2 ⟨l, rfl, hl, hB2⟩
  have HL := Lib.hid hl
  have HK2 := Lib.hid (HK.out.frame hB2)
  have HB2 := Lib.hid (HB1.out.trans (hB2.mono HB1.out.size))
  obtain ⟨A2, c2, rfl, _, _⟩ := hl.shape
  clear hl hB2 HK
  go_wp2_with fail
  refine (refDivide3_n _ _ x.natAbs y.natAbs HY0.out _ HK2.out HL.out (Nat.le_trans HLX.out (by omega)) (Nat.le_trans HLY.out (by omega))).mono ?_
  rintro e w3 ⟨q, r, rfl, hq, hr, hB3⟩
  have HQ := Lib.hid hq
  have HR := Lib.hid hr
  have HLW := Lib.hid (HL.out.frame hB3)
  have HB3 := Lib.hid (HB2.out.trans (hB3.mono HB2.out.size))
  clear hB3 hq HB2 HK2
  obtain ⟨A3, c3, rfl, _, _⟩ := hr.shape
  clear hr HL
  go_wp2_with fail
  refine (refText3_z true _ _ HZQ _ _ HQ.out (Nat.le_trans HLQ.out (by omega))).mono ?_
  rintro e w6 ⟨rfl, hB6⟩
  have HR6 := Lib.hid (HR.out.frame hB6)
  have HB6 := Lib.hid (HB3.out.trans (hB6.mono HB3.out.size))
  clear hB6 HR HQ HB3
  go_wp2_with fail
  refine (refText3_z true _ _ HZR _ _ HR6.out (Nat.le_trans HLR.out (by omega))).mono ?_
  rintro e w7 ⟨rfl, hB7⟩
  have HB7 := Lib.hid (HB6.out.trans (hB7.mono HB6.out.size))
  clear hB7 HB6
  go_wp2_with fail
  go_ret3
  exact ⟨rfl, HB7.out⟩

set_option maxHeartbeats 1000000 in
theorem refDiv3_ff (x y : Int) (hm : decide (x < 0) = false) (hn : decide (y < 0) = false) (hy : y ≠ 0) (w : World) (ha : (inum x).size ≤ 4096) (hb : (inum y).size ≤ 4096) :
    Calls Tryz.prog 47 #[.string (inum x), .string (inum y)] w fun e w' => e = .returned (.tuple #[.string (inum (fdv x y)), .string (inum (fmd x y)), .int .i64 0]) ∧ Below w.heap.size w w' := by
  have HM := Lib.hid hm
  have HN := Lib.hid hn
  have HLX : Hid ((limbs x.natAbs).length ≤ 4096) := Nat.le_trans (limbs_sz x) ha
  have HLY : Hid ((limbs y.natAbs).length ≤ 4096) := Nat.le_trans (limbs_sz y) hb
  have HLOW : low x y = false := by unfold low; rw [hm, hn]; rfl
  have HZQ : Hid (sgn false (x.natAbs / y.natAbs) = fdv x y) := by show _ = _; unfold fdv; rw [HLOW, hm, hn]; rfl
  have HZR : Hid (sgn false (x.natAbs % y.natAbs) = fmd x y) := by show _ = _; unfold fmd; rw [HLOW, hn]; rfl
  have HY0 : Hid (0 < y.natAbs) := Lib.hid (by omega)
  have HLQ : Hid ((limbs (x.natAbs / y.natAbs)).length ≤ 4096) := Nat.le_trans (limbs_mono (Nat.div_le_self _ _)) HLX.out
  have HLR : Hid ((limbs (x.natAbs % y.natAbs)).length ≤ 4096) := Nat.le_trans (limbs_mono (Nat.mod_le _ _)) HLX.out
  have hyl : (((limbs y.natAbs).length : Int) == 0) = false := bneI (b := 0) (fun h => by have := limbs_len0.1 h; have := HY0.out; omega)
  generalize fdv x y = fq at *
  generalize fmd x y = fr at *
  clear hm hn HLOW hy
  go_enter Tryz.func47, Tryz.ntmps47
  go_wp2_with (go_at_call 78; with_reducible refine (refCheck3_num x y _ ha hb).mono ?_; rintro e w' ⟨rfl, rfl⟩)
  refine (refParts3_e x false HM _ (by omega)).mono ?_
  rintro e w1 ⟨k, rfl, hk, hB1⟩
  have HK := Lib.hid hk
  have HB1 := Lib.hid hB1
  clear hk hB1
  go_wp2_with fail
  refine (refParts3_e y false HN _ (by omega)).mono ?_
  rintro e w2 ⟨l, rfl, hl, hB2⟩
  have HL := Lib.hid hl
  have HK2 := Lib.hid (HK.out.frame hB2)
  have HB2 := Lib.hid (HB1.out.trans (hB2.mono HB1.out.size))
  obtain ⟨A2, c2, rfl, _, _⟩ := hl.shape
  clear hl hB2 HK
  go_wp2_with fail
  refine (refDivide3_n _ _ x.natAbs y.natAbs HY0.out _ HK2.out HL.out (Nat.le_trans HLX.out (by omega)) (Nat.le_trans HLY.out (by omega))).mono ?_
  rintro e w3 ⟨q, r, rfl, hq, hr, hB3⟩
  have HQ := Lib.hid hq
  have HR := Lib.hid hr
  have HLW := Lib.hid (HL.out.frame hB3)
  have HB3 := Lib.hid (HB2.out.trans (hB3.mono HB2.out.size))
  clear hB3 hq HB2 HK2
  clear hr HL
  go_wp2_with fail
  refine (refText3_z false _ _ HZQ _ _ HQ.out (Nat.le_trans HLQ.out (by omega))).mono ?_
  rintro e w6 ⟨rfl, hB6⟩
  have HR6 := Lib.hid (HR.out.frame hB6)
  have HB6 := Lib.hid (HB3.out.trans (hB6.mono HB3.out.size))
  clear hB6 HR HQ HB3
  go_wp2_with fail
  refine (refText3_z false _ _ HZR _ _ HR6.out (Nat.le_trans HLR.out (by omega))).mono ?_
  rintro e w7 ⟨rfl, hB7⟩
  have HB7 := Lib.hid (HB6.out.trans (hB7.mono HB6.out.size))
  clear hB7 HB6
  go_wp2_with fail
  go_ret3
  exact ⟨rfl, HB7.out⟩

theorem refDiv3_num (x y : Int) (hy : y ≠ 0) (w : World) (ha : (inum x).size ≤ 4096) (hb : (inum y).size ≤ 4096) :
    Calls Tryz.prog 47 #[.string (inum x), .string (inum y)] w fun e w' => e = .returned (.tuple #[.string (inum (fdv x y)), .string (inum (fmd x y)), .int .i64 0]) ∧ Below w.heap.size w w' := by
  cases hm : decide (x < 0) <;> cases hn : decide (y < 0)
  · exact refDiv3_ff x y hm hn hy w ha hb
  · rcases Nat.eq_zero_or_pos (x.natAbs % y.natAbs) with h | h
    · exact refDiv3_ft x y hm hn hy h w ha hb
    · exact refDiv3_ftl x y hm hn hy h w ha hb
  · rcases Nat.eq_zero_or_pos (x.natAbs % y.natAbs) with h | h
    · exact refDiv3_tf x y hm hn hy h w ha hb
    · exact refDiv3_tfl x y hm hn hy h w ha hb
  · exact refDiv3_tt x y hm hn hy w ha hb

end Go.Proofs.YthamlnolfagpiaaGreatDoor.D

namespace Go.Proofs.YthamlnolfagpiaaGreatDoor.D
open Go.RowKit
set_option maxRecDepth 8000

theorem of_step (lst : List Nat) (u N : Nat) (h : val lst + bp lst.length * u = N) : val (lst ++ [u % 10]) + bp (lst ++ [u % 10]).length * (u / 10) = N := by
  rw [val_append, List.length_append, show [u % 10].length = 1 from rfl, bp_succ, val_cons, val_nil, Nat.mul_zero, Nat.add_zero, Nat.add_assoc, Nat.mul_comm 10, Nat.mul_assoc, ← Nat.mul_add, show u % 10 + 10 * (u / 10) = u by omega]
  exact h
theorem of_len (lst : List Nat) (u N : Nat) (h : val lst + bp lst.length * u = N) (hu : 0 < u) (hN : N ≤ 9223372036854775808) : lst.length ≤ 20 := by
  apply Decidable.byContradiction
  intro hc
  have h1 := bp_mono (show 21 ≤ lst.length by omega)
  have h2 := Nat.le_mul_of_pos_right (bp lst.length) hu
  have h3 : bp 21 = 1000000000000000000000 := rfl
  omega
theorem of_end (lst : List Nat) (N : Nat) (h : val lst + bp lst.length * 0 = N) : val lst = N := by omega
theorem neg_tmod (u : Nat) : (-(u : Int)).tmod 10 = -((u % 10 : Nat) : Int) := by rw [Int.neg_tmod]; rfl
theorem neg_tdiv (u : Nat) : (-(u : Int)).tdiv 10 = -((u / 10 : Nat) : Int) := by rw [Int.neg_tdiv]; rfl

set_option maxHeartbeats 1000000 in
theorem refOf3_pos (N : Nat) (hN : N ≤ 9223372036854775807) (w : World) :
    Calls Tryz.prog 72 #[.int .i64 (N : Int)] w fun e w' => e = .returned (.string (inum (N : Int))) ∧ Below w.heap.size w w' := by
  obtain ⟨i0, hi, hz0, hz1, hz2⟩ := info3'
  have HZ : Hid (sgn false N = (N : Int)) := rfl
  have HNN := Lib.hid hN
  have hneg : ((N : Int) < 0) = False := by simp
  go_enter Tryz.func72, Tryz.ntmps72
  go_wp2
  go_loopw [0, 3] (fun i v wr => ∃ (u : Nat) (lst : List Nat), i = .int .i64 (u : Int) ∧ u ≤ N ∧ lst.length ≤ 21 ∧ Hid (lo lst) ∧ Hid (val lst + bp lst.length * u = N) ∧ Hid (Owb w.heap.size wr v lst) ∧ Hid (Below w.heap.size w wr)) (fun i _ _ => (intOf i).natAbs)
  case atStart => exact ⟨N, [], rfl, Nat.le_refl _, by decide, lo_nil, by show _ = _; rw [val_nil, show ([] : List Nat).length = 0 from rfl, bp_zero]; omega, Owb.nil _ w, Below.refl _ _⟩
  case round =>
    obtain ⟨u, lst, rfl, hu, hl21, HLO, HV, HOW, hb⟩ := hrel
    have HB := Lib.hid hb.out
    clear hb
    by_cases hu0 : u = 0
    · subst hu0
      have HV2 : Hid (val lst = N) := of_end lst N HV.out
      have hbz : ((((0 : Nat) : Int) : Int) != 0) = false := rfl
      go_wp2_with fail
      refine (refText3 false _ lst HLO.out _ HOW.out.weak (by omega)).mono ?_
      rintro e w2 ⟨rfl, hB2⟩
      rw [HV2.out, HZ.out]
      have HB2 := Lib.hid (HB.out.trans (hB2.mono HB.out.size))
      clear hB2
      go_wp2_with fail
      go_ret
      exact ⟨rfl, HB2.out⟩
    · have hl9 := of_len lst u N HV.out (by omega) (by have := HNN.out; omega)
      have HST := Lib.hid (of_step lst u N HV.out)
      have hmx : lst.length + 1 ≤ maxLen := by unfold maxLen; omega
      have hby : (lst.length + 1) * 8 ≤ 140737488355328 := by omega
      have HOW2 := Lib.hid (HOW.out.alloc (.cells #[.int .i64 ((u : Int) % 10)] 3))
      have HLO2 : Hid (lo (lst ++ [u % 10])) := lo_append.2 ⟨HLO.out, lo_cons.2 ⟨Nat.mod_lt _ (by omega), lo_nil⟩⟩
      have hlen2 : (lst ++ [u % 10]).length ≤ 21 := by rw [List.length_append, show [u % 10].length = 1 from rfl]; omega
      have hsz := HB.out.size
      have hszA : w.heap.size ≤ (wr.alloc (.cells #[.int .i64 ((u : Int) % 10)] 3)).heap.size := by simp; omega
      go_wp2_with (at_builtin; refine wpList_append_own _ rfl _ _ 39 rfl w.heap.size 3 i0 (.int .i64 0) 1 8 Tryz.underlying39 hi hz0 hz1 hz2 rfl (by decide) _ _ _ rfl HOW2.out ⟨wr.heap.size, 0, none⟩ 1 1 [.int .i64 ((u : Int) % 10)] rfl rfl (one_new wr ((u : Int) % 10)) (one_cell ((u : Int) % 10)) hmx hby hszA ?_)
      intro v2 w2 hown2 hgrow2 _
      have HO3 := Lib.hid (Owb.of_own (x := u % 10) (by omega) rfl hown2)
      have HB3 := Lib.hid ((HB.out.alloc hsz (.cells #[.int .i64 ((u : Int) % 10)] 3)).grown hgrow2 (by simp; omega) HOW.out.blk)
      clear hown2 hgrow2 HOW2 HOW HLO
      go_wp2
      go_roundw
      case rel => exact ⟨u / 10, lst ++ [u % 10], by go_num, by omega, hlen2, HLO2, HST, HO3, HB3⟩
      case measure => simp [intOf]; omega


set_option maxHeartbeats 1000000 in
theorem refOf3_neg (N : Nat) (hN : N ≤ 9223372036854775808) (h0 : 0 < N) (w : World) :
    Calls Tryz.prog 72 #[.int .i64 (-(N : Int))] w fun e w' => e = .returned (.string (inum (-(N : Int)))) ∧ Below w.heap.size w w' := by
  obtain ⟨i0, hi, hz0, hz1, hz2⟩ := info3'
  have HZ : Hid (sgn true N = (-(N : Int))) := rfl
  have HNN := Lib.hid hN
  have hneg : ((-(N : Int)) < 0) = True := by simp; omega
  go_enter Tryz.func72, Tryz.ntmps72
  go_wp2
  go_loopw [0, 3] (fun i v wr => ∃ (u : Nat) (lst : List Nat), i = .int .i64 (-(u : Int)) ∧ u ≤ N ∧ lst.length ≤ 21 ∧ Hid (lo lst) ∧ Hid (val lst + bp lst.length * u = N) ∧ Hid (Owb w.heap.size wr v lst) ∧ Hid (Below w.heap.size w wr)) (fun i _ _ => (intOf i).natAbs)
  case atStart => exact ⟨N, [], rfl, Nat.le_refl _, by decide, lo_nil, by show _ = _; rw [val_nil, show ([] : List Nat).length = 0 from rfl, bp_zero]; omega, Owb.nil _ w, Below.refl _ _⟩
  case round =>
    obtain ⟨u, lst, rfl, hu, hl21, HLO, HV, HOW, hb⟩ := hrel
    have HB := Lib.hid hb.out
    clear hb
    by_cases hu0 : u = 0
    · subst hu0
      have HV2 : Hid (val lst = N) := of_end lst N HV.out
      have hbz : (((-((0 : Nat) : Int)) : Int) != 0) = false := rfl
      go_wp2_with fail
      refine (refText3 true _ lst HLO.out _ HOW.out.weak (by omega)).mono ?_
      rintro e w2 ⟨rfl, hB2⟩
      rw [HV2.out, HZ.out]
      have HB2 := Lib.hid (HB.out.trans (hB2.mono HB.out.size))
      clear hB2
      go_wp2_with fail
      go_ret
      exact ⟨rfl, HB2.out⟩
    · have hl9 := of_len lst u N HV.out (by omega) (by have := HNN.out; omega)
      have HST := Lib.hid (of_step lst u N HV.out)
      by_cases h10 : 0 < (u : Int) % 10
      · have h10b : (0 < (u : Int) % 10) = True := by simp; omega
        have hmx : lst.length + 1 ≤ maxLen := by unfold maxLen; omega
        have hby : (lst.length + 1) * 8 ≤ 140737488355328 := by omega
        have HOW2 := Lib.hid (HOW.out.alloc (.cells #[.int .i64 ((u : Int) % 10)] 3))
        have HLO2 : Hid (lo (lst ++ [u % 10])) := lo_append.2 ⟨HLO.out, lo_cons.2 ⟨Nat.mod_lt _ (by omega), lo_nil⟩⟩
        have hlen2 : (lst ++ [u % 10]).length ≤ 21 := by rw [List.length_append, show [u % 10].length = 1 from rfl]; omega
        have hsz := HB.out.size
        have hszA : w.heap.size ≤ (wr.alloc (.cells #[.int .i64 ((u : Int) % 10)] 3)).heap.size := by simp; omega
        go_wp2_with (at_builtin; refine wpList_append_own _ rfl _ _ 39 rfl w.heap.size 3 i0 (.int .i64 0) 1 8 Tryz.underlying39 hi hz0 hz1 hz2 rfl (by decide) _ _ _ rfl HOW2.out ⟨wr.heap.size, 0, none⟩ 1 1 [.int .i64 ((u : Int) % 10)] rfl rfl (one_new wr ((u : Int) % 10)) (one_cell ((u : Int) % 10)) hmx hby hszA ?_)
        intro v2 w2 hown2 hgrow2 _
        have HO3 := Lib.hid (Owb.of_own (x := u % 10) (by omega) rfl hown2)
        have HB3 := Lib.hid ((HB.out.alloc hsz (.cells #[.int .i64 ((u : Int) % 10)] 3)).grown hgrow2 (by simp; omega) HOW.out.blk)
        clear hown2 hgrow2 HOW2 HOW HLO
        go_wp2
        go_roundw
        case rel => exact ⟨u / 10, lst ++ [u % 10], by go_num, by omega, hlen2, HLO2, HST, HO3, HB3⟩
        case measure => simp [intOf]; omega
  
      · have hmx : lst.length + 1 ≤ maxLen := by unfold maxLen; omega
        have hby : (lst.length + 1) * 8 ≤ 140737488355328 := by omega
        have HOW2 := Lib.hid (HOW.out.alloc (.cells #[.int .i64 (-((u : Int) % 10))] 3))
        have HLO2 : Hid (lo (lst ++ [u % 10])) := lo_append.2 ⟨HLO.out, lo_cons.2 ⟨Nat.mod_lt _ (by omega), lo_nil⟩⟩
        have hlen2 : (lst ++ [u % 10]).length ≤ 21 := by rw [List.length_append, show [u % 10].length = 1 from rfl]; omega
        have hsz := HB.out.size
        have hszA : w.heap.size ≤ (wr.alloc (.cells #[.int .i64 (-((u : Int) % 10))] 3)).heap.size := by simp; omega
        go_wp2_with (at_builtin; refine wpList_append_own _ rfl _ _ 39 rfl w.heap.size 3 i0 (.int .i64 0) 1 8 Tryz.underlying39 hi hz0 hz1 hz2 rfl (by decide) _ _ _ rfl HOW2.out ⟨wr.heap.size, 0, none⟩ 1 1 [.int .i64 (-((u : Int) % 10))] rfl rfl (one_new wr (-((u : Int) % 10))) (one_cell (-((u : Int) % 10))) hmx hby hszA ?_)
        intro v2 w2 hown2 hgrow2 _
        have HO3 := Lib.hid (Owb.of_own (x := u % 10) (by omega) rfl hown2)
        have HB3 := Lib.hid ((HB.out.alloc hsz (.cells #[.int .i64 (-((u : Int) % 10))] 3)).grown hgrow2 (by simp; omega) HOW.out.blk)
        clear hown2 hgrow2 HOW2 HOW HLO
        go_wp2
        go_roundw
        case rel => exact ⟨u / 10, lst ++ [u % 10], by go_num, by omega, hlen2, HLO2, HST, HO3, HB3⟩
        case measure => simp [intOf]; omega
  
  
theorem refOf3_any (z : Int) (h1 : -9223372036854775808 ≤ z) (h2 : z ≤ 9223372036854775807) (w : World) :
    Calls Tryz.prog 72 #[.int .i64 z] w fun e w' => e = .returned (.string (inum z)) ∧ Below w.heap.size w w' := by
  by_cases h : 0 ≤ z
  · obtain ⟨N, rfl⟩ := Int.eq_ofNat_of_zero_le h
    exact refOf3_pos N (by omega) w
  · obtain ⟨N, hN⟩ := Int.eq_ofNat_of_zero_le (show 0 ≤ -z by omega)
    obtain rfl : z = -(N : Int) := by omega
    exact refOf3_neg N (by omega) (by omega) w

end Go.Proofs.YthamlnolfagpiaaGreatDoor.D

