/-
  DERIVED. The walks of the landed rules' small functions: every, ahead, waiting, hasCancelled, hasPair, canFollow.
-/
import Derived.Test.YtmoilpkgoabopaaDoorRuLaw1
import Derived.Test.YtmoilpkgoabopaaDoorRuPure3
import Derived.Test.YtmoilpkgoabopaaDoorSetTop
namespace Go.Proofs.YtmoilpkgoabopaaDoor.U
theorem has_full {n a : Nat} (h : a < n) : S.has (2 ^ n - 1) a = true := by
  rw [has_bit, Nat.testBit_two_pow_sub_one, decide_eq_true h]
end Go.Proofs.YtmoilpkgoabopaaDoor.U
namespace Go.Proofs.YtmoilpkgoabopaaDoor.T
open Go.RowKit
set_option maxRecDepth 8000

theorem or_bit (m j : Nat) (hm : m < 9223372036854775808) (hj : j ≤ 62) : bits .or .i64 (m : Int) (wrap64 (2 ^ j)) = ((m ||| 2 ^ j : Nat) : Int) := by
  have hp := S.pow_le62 hj
  have hw := S.w64 (q := 2 ^ j) (by omega)
  rw [show ((2 ^ j : Nat) : Int) = 2 ^ j by simp] at hw
  rw [hw]
  have h1 := S.i64_or m (2 ^ j) hm (by omega)
  rw [← h1]; simp
theorem i_minus (s t : Nat) (hs : s < 9223372036854775808) (ht : t < 9223372036854775808) : bits .andNot .i64 (s : Int) (t : Int) = ((U.minus s t : Nat) : Int) := by
  have h := U.minus_le s t
  rw [S.b_andNot, S.nat_mod s hs, S.nat_mod t ht]
  exact S.wrap_n _ (by unfold U.minus at h; omega)
theorem every_n (o0 o1 o2 o3 o4 o5 : Option Addr) (n0 n1 n2 n n4 n5 c0 c1 c2 c3 c4 c5 : Nat) (hn : n ≤ 10) (w : World) :
    Calls Tryd.prog 33 #[.agg #[.slice o0 n0 c0, .slice o1 n1 c1, .slice o2 n2 c2, .slice o3 n c3, .slice o4 n4 c4, .slice o5 n5 c5]] w fun e w' => e = .returned (.int .i64 ((2 ^ n - 1 : Nat) : Int)) ∧ Below w.heap.size w w' := by
  have BI := below_alloc w (.cells #[.slice o0 n0 c0, .slice o1 n1 c1, .slice o2 n2 c2, .slice o3 n c3, .slice o4 n4 c4, .slice o5 n5 c5] 37)
  have HB := Lib.hid BI
  clear BI
  have hp10 := U.pow_le hn
  have hp0 : 0 < 2 ^ n := Nat.pow_pos (by omega)
  have hw : wrap64 (2 ^ n) = ((2 ^ n : Nat) : Int) := by
    have := S.w64 (q := 2 ^ n) (by omega)
    rw [← this]; simp
  have hmin : min (n : Int) 63 = n := by omega
  have HR : Hid (((2 ^ n - 1 : Nat) : Int) = ((2 ^ n : Nat) : Int) - 1) := by show _ = _; omega
  generalize ((2 ^ n - 1 : Nat) : Int) = r at *
  generalize hP : (2 : Nat) ^ n = P at *
  clear hP
  go_enter Tryd.func33, Tryd.ntmps33
  go_wp2_with fail
  go_ret
  exact ⟨ret_int (by rw [HR.out]), HB.out⟩

set_option maxHeartbeats 3200000 in
theorem ahead_n (n : Nat) (v : Value) (l : List (Int × Int)) (s : Nat) (hn : n ≤ 10) (hr : U.Rt n l) (hl : l.length ≤ 1000) (hs : s < 2 ^ n) (w : World) (hv : Ps w v l) :
    Calls Tryd.prog 35 #[v, .int .i64 ((2 ^ n - 1 : Nat) : Int), .int .i64 s] w fun e w' => e = .returned (.int .i64 (U.ahd l s : Nat)) ∧ Below w.heap.size w w' := by
  have HV := Lib.hid hv
  obtain ⟨oa, c, rfl, -⟩ := hv
  have hp10 := U.pow_le hn
  have HE : Hid (U.ahdK l s l.length = U.ahd l s) := rfl
  have H0 : Hid (U.ahdK l s 0 = 0) := rfl
  have HY := Lib.hid (fun k (h : S.has s (U.pb (l.getD k (0, 0))) = true) => (show U.ahdK l s (k + 1) = U.ahdK l s k ||| 2 ^ U.pa (l.getD k (0, 0)) by rw [U.ahdK, if_pos h]))
  have HNo := Lib.hid (fun k (h : S.has s (U.pb (l.getD k (0, 0))) = false) => (show U.ahdK l s (k + 1) = U.ahdK l s k by rw [U.ahdK, if_neg (by rw [h]; simp)]))
  have HLt := Lib.hid (fun k (h : k ≤ l.length) => Nat.lt_of_lt_of_le (U.ahdK_lt hr s h) hp10)
  have HG := Lib.hid (fun k (h : k < l.length) => U.getD_rt hr h)
  have KA := Lib.hid (fun a (h : a < n) w => S.tHas_n (2 ^ n - 1) a (by omega) (by omega) true (by exact U.has_full h) w)
  have KB := Lib.hid (fun a (h : a < n) b (hb : S.has s a = b) w => S.tHas_n s a (by omega) (by omega) b (by exact hb) w)
  clear hs hp10
  generalize U.ahd l s = r at *
  generalize 2 ^ n - 1 = q at *
  generalize hm : l.length = m at *
  have HM := Lib.hid hm
  clear hr hm
  go_enter Tryd.func35, Tryd.ntmps35
  go_wp2_with fail
  go_loopg [7, 12] m (fun g f j wr => ∃ k : Nat, k ≤ m ∧ j = .int .i64 k ∧ m - k ≤ g ∧ f = .int .i64 (U.ahdK l s k : Nat) ∧ Hid (Below w.heap.size w wr))
  case atStart => exact ⟨0, Nat.zero_le _, rfl, Nat.le_refl _, by rw [H0.out]; rfl, Below.refl _ _⟩
  case round =>
    obtain ⟨k, hk, rfl, hg, rfl, HB⟩ := hrel
    by_cases hlt : k < m
    · have hkI : (k : Int) < (m : Int) := by omega
      have hka : k < l.length := by rw [HM.out]; exact hlt
      obtain ⟨b, o, rfl, hab, x0, x1⟩ := ps_at (by have := HV.out.below HB.out; rw [← HM.out] at this; exact this) hka
      obtain ⟨ha, hb, he⟩ := HG.out k hlt
      have e0 : (l.getD k (0, 0)).1 = (U.pa (l.getD k (0, 0)) : Int) := congrArg Prod.fst he
      have e1 : (l.getD k (0, 0)).2 = (U.pb (l.getD k (0, 0)) : Int) := congrArg Prod.snd he
      rw [e0] at x0
      rw [e1] at x1
      have HYk := Lib.hid (HY.out k)
      have HNk := Lib.hid (HNo.out k)
      have hf9 := HLt.out k hk
      have KAk := Lib.hid (fun w => KA.out _ ha w)
      clear e0 e1 he
      generalize U.pa (l.getD k (0, 0)) = x at *
      generalize U.pb (l.getD k (0, 0)) = y at *
      have HB2 := Lib.hid (over HB.out (below_alloc wr (.cells #[.int .i64 x, .int .i64 y] 45)))
      generalize U.ahdK l s k = f at *
      cases hh : S.has s y
      · have KBk := Lib.hid (fun w => KB.out _ hb false hh w)
        have HX : Hid (U.ahdK l s (k + 1) = f) := HNk.out hh
        clear hh HY HNo HYk HNk
        go_wp2_with fail
        refine (KAk.out _).mono ?_
        rintro e w1 ⟨rfl, rfl⟩
        go_wp2_with fail
        refine (KBk.out _).mono ?_
        rintro e w1 ⟨rfl, rfl⟩
        go_wp2_with fail
        go_roundg (m - (k + 1))
        case measure => omega
        case rel => exact ⟨k + 1, by omega, by go_num, by omega, by rw [HX.out], HB2⟩
      · have KBk := Lib.hid (fun w => KB.out _ hb true hh w)
        have HX : Hid (U.ahdK l s (k + 1) = f ||| 2 ^ x) := HYk.out hh
        have HS := or_bit f x (by omega) (by omega)
        obtain ⟨f2, hf2⟩ : ∃ f2, f ||| 2 ^ x = f2 := ⟨_, rfl⟩
        rw [hf2] at HS HX
        clear hh hf2 HY HNo HYk HNk
        go_wp2_with fail
        refine (KAk.out _).mono ?_
        rintro e w1 ⟨rfl, rfl⟩
        go_wp2_with fail
        refine (KBk.out _).mono ?_
        rintro e w1 ⟨rfl, rfl⟩
        go_wp2_with fail
        go_roundg (m - (k + 1))
        case measure => omega
        case rel => exact ⟨k + 1, by omega, by go_num, by omega, by rw [HX.out], HB2⟩
    · have hkk : k = m := by omega
      have HR : Hid (U.ahdK l s k = r) := by show _ = _; rw [hkk]; exact HE.out
      have hkI : ¬ (k : Int) < (m : Int) := by omega
      generalize U.ahdK l s k = f at *
      go_wp2_with fail
      go_ret
      exact ⟨ret_int (by rw [HR.out]), HB.out⟩

set_option maxHeartbeats 3200000 in
theorem waiting_n (n : Nat) (v : Value) (l : List (Int × Int)) (s d : Nat) (hn : n ≤ 10) (hr : U.Rt n l) (hl : l.length ≤ 1000) (hs : s < 2 ^ n) (hd : d < 2 ^ n) (w : World) (hv : Ps w v l) :
    Calls Tryd.prog 51 #[v, .int .i64 s, .int .i64 d] w fun e w' => e = .returned (.int .i64 (U.wtg l s d : Nat)) ∧ Below w.heap.size w w' := by
  have HV := Lib.hid hv
  obtain ⟨oa, c, rfl, -⟩ := hv
  have hp10 := U.pow_le hn
  have HE : Hid (U.wtgK l s d l.length = U.wtg l s d) := rfl
  have H0 : Hid (U.wtgK l s d 0 = 0) := rfl
  have HY := Lib.hid (fun k (h : (S.has s (U.pb (l.getD k (0, 0))) && !S.has d (U.pa (l.getD k (0, 0)))) = true) => (show U.wtgK l s d (k + 1) = U.wtgK l s d k ||| 2 ^ U.pb (l.getD k (0, 0)) by rw [U.wtgK, if_pos h]))
  have HNo := Lib.hid (fun k (h : (S.has s (U.pb (l.getD k (0, 0))) && !S.has d (U.pa (l.getD k (0, 0)))) = false) => (show U.wtgK l s d (k + 1) = U.wtgK l s d k by rw [U.wtgK, if_neg (by rw [h]; simp)]))
  have HLt := Lib.hid (fun k (h : k ≤ l.length) => Nat.lt_of_lt_of_le (U.wtgK_lt hr s d h) hp10)
  have HG := Lib.hid (fun k (h : k < l.length) => U.getD_rt hr h)
  have KA := Lib.hid (fun a (h : a < n) b (hb : S.has d a = b) w => S.tHas_n d a (by omega) (by omega) b (by exact hb) w)
  have KB := Lib.hid (fun a (h : a < n) b (hb : S.has s a = b) w => S.tHas_n s a (by omega) (by omega) b (by exact hb) w)
  clear hs hd hp10
  generalize U.wtg l s d = r at *
  generalize hm : l.length = m at *
  have HM := Lib.hid hm
  clear hr hm
  go_enter Tryd.func51, Tryd.ntmps51
  go_wp2_with fail
  go_loopg [7, 12] m (fun g f j wr => ∃ k : Nat, k ≤ m ∧ j = .int .i64 k ∧ m - k ≤ g ∧ f = .int .i64 (U.wtgK l s d k : Nat) ∧ Hid (Below w.heap.size w wr))
  case atStart => exact ⟨0, Nat.zero_le _, rfl, Nat.le_refl _, by rw [H0.out]; rfl, Below.refl _ _⟩
  case round =>
    obtain ⟨k, hk, rfl, hg, rfl, HB⟩ := hrel
    by_cases hlt : k < m
    · have hkI : (k : Int) < (m : Int) := by omega
      have hka : k < l.length := by rw [HM.out]; exact hlt
      obtain ⟨b, o, rfl, hab, x0, x1⟩ := ps_at (by have := HV.out.below HB.out; rw [← HM.out] at this; exact this) hka
      obtain ⟨ha, hb, he⟩ := HG.out k hlt
      have e0 : (l.getD k (0, 0)).1 = (U.pa (l.getD k (0, 0)) : Int) := congrArg Prod.fst he
      have e1 : (l.getD k (0, 0)).2 = (U.pb (l.getD k (0, 0)) : Int) := congrArg Prod.snd he
      rw [e0] at x0
      rw [e1] at x1
      have HYk := Lib.hid (HY.out k)
      have HNk := Lib.hid (HNo.out k)
      have hf9 := HLt.out k hk
      clear e0 e1 he
      generalize U.pa (l.getD k (0, 0)) = x at *
      generalize U.pb (l.getD k (0, 0)) = y at *
      have HB2 := Lib.hid (over HB.out (below_alloc wr (.cells #[.int .i64 x, .int .i64 y] 45)))
      generalize U.wtgK l s d k = f at *
      cases hh : S.has s y
      · have KBk := Lib.hid (fun w => KB.out _ hb false hh w)
        have HX : Hid (U.wtgK l s d (k + 1) = f) := HNk.out (by rw [hh]; rfl)
        clear hh HY HNo HYk HNk
        go_wp2_with fail
        refine (KBk.out _).mono ?_
        rintro e w1 ⟨rfl, rfl⟩
        go_wp2_with fail
        go_roundg (m - (k + 1))
        case measure => omega
        case rel => exact ⟨k + 1, by omega, by go_num, by omega, by rw [HX.out], HB2⟩
      · have KBk := Lib.hid (fun w => KB.out _ hb true hh w)
        cases hx : S.has d x
        · have KAk := Lib.hid (fun w => KA.out _ ha false hx w)
          have HX : Hid (U.wtgK l s d (k + 1) = f ||| 2 ^ y) := HYk.out (by rw [hh, hx]; rfl)
          have HS := or_bit f y (by omega) (by omega)
          obtain ⟨f2, hf2⟩ : ∃ f2, f ||| 2 ^ y = f2 := ⟨_, rfl⟩
          rw [hf2] at HS HX
          clear hh hx hf2 HY HNo HYk HNk
          go_wp2_with fail
          refine (KBk.out _).mono ?_
          rintro e w1 ⟨rfl, rfl⟩
          go_wp2_with fail
          refine (KAk.out _).mono ?_
          rintro e w1 ⟨rfl, rfl⟩
          go_wp2_with fail
          go_roundg (m - (k + 1))
          case measure => omega
          case rel => exact ⟨k + 1, by omega, by go_num, by omega, by rw [HX.out], HB2⟩
        · have KAk := Lib.hid (fun w => KA.out _ ha true hx w)
          have HX : Hid (U.wtgK l s d (k + 1) = f) := HNk.out (by rw [hh, hx]; rfl)
          clear hh hx HY HNo HYk HNk
          go_wp2_with fail
          refine (KBk.out _).mono ?_
          rintro e w1 ⟨rfl, rfl⟩
          go_wp2_with fail
          refine (KAk.out _).mono ?_
          rintro e w1 ⟨rfl, rfl⟩
          go_wp2_with fail
          go_roundg (m - (k + 1))
          case measure => omega
          case rel => exact ⟨k + 1, by omega, by go_num, by omega, by rw [HX.out], HB2⟩
    · have hkk : k = m := by omega
      have HR : Hid (U.wtgK l s d k = r) := by show _ = _; rw [hkk]; exact HE.out
      have hkI : ¬ (k : Int) < (m : Int) := by omega
      generalize U.wtgK l s d k = f at *
      go_wp2_with fail
      go_ret
      exact ⟨ret_int (by rw [HR.out]), HB.out⟩

set_option maxHeartbeats 3200000 in
theorem hasPair_n (n : Nat) (v : Value) (l : List (Int × Int)) (s : Nat) (hn : n ≤ 10) (hr : U.Rt n l) (hl : l.length ≤ 1000) (hs : s < 2 ^ n) (w : World) (hv : Ps w v l) :
    Calls Tryd.prog 39 #[v, .int .i64 s] w fun e w' => e = .returned (.bool (U.apartE l s)) ∧ Below w.heap.size w w' := by
  have HV := Lib.hid hv
  obtain ⟨oa, c, rfl, -⟩ := hv
  have hp10 := U.pow_le hn
  have HY : Hid (∀ i, i < l.length → (S.has s (U.pa (l.getD i (0, 0))) && S.has s (U.pb (l.getD i (0, 0)))) = true → U.apartE l s = true) := fun i hi h => anyl_yes (p := fun p => S.has s (U.pa p) && S.has s (U.pb p)) hi h
  have HNo : Hid ((∀ i, i < l.length → (S.has s (U.pa (l.getD i (0, 0))) && S.has s (U.pb (l.getD i (0, 0)))) = false) → U.apartE l s = false) := fun h => anyl_no (p := fun p => S.has s (U.pa p) && S.has s (U.pb p)) h
  have HG := Lib.hid (fun k (h : k < l.length) => U.getD_rt hr h)
  have KB := Lib.hid (fun a (h : a < n) b (hb : S.has s a = b) w => S.tHas_n s a (by omega) (by omega) b (by exact hb) w)
  clear hs hp10
  generalize U.apartE l s = r at *
  generalize hm : l.length = m at *
  have HM := Lib.hid hm
  clear hr hm
  go_enter Tryd.func39, Tryd.ntmps39
  go_wp2_with fail
  go_loopg [9] m (fun g j wr => ∃ k : Nat, k ≤ m ∧ j = .int .i64 k ∧ m - k ≤ g ∧ Hid (∀ i, i < k → (S.has s (U.pa (l.getD i (0, 0))) && S.has s (U.pb (l.getD i (0, 0)))) = false) ∧ Hid (Below w.heap.size w wr))
  case atStart => exact ⟨0, Nat.zero_le _, rfl, Nat.le_refl _, fun i hi => absurd hi (Nat.not_lt_zero _), Below.refl _ _⟩
  case round =>
    obtain ⟨k, hk, rfl, hg, HK, HB⟩ := hrel
    by_cases hlt : k < m
    · have hkI : (k : Int) < (m : Int) := by omega
      have hka : k < l.length := by rw [HM.out]; exact hlt
      obtain ⟨b, o, rfl, hab, x0, x1⟩ := ps_at (by have := HV.out.below HB.out; rw [← HM.out] at this; exact this) hka
      obtain ⟨ha, hb, he⟩ := HG.out k hlt
      have e0 : (l.getD k (0, 0)).1 = (U.pa (l.getD k (0, 0)) : Int) := congrArg Prod.fst he
      have e1 : (l.getD k (0, 0)).2 = (U.pb (l.getD k (0, 0)) : Int) := congrArg Prod.snd he
      rw [e0] at x0
      rw [e1] at x1
      have HYk := Lib.hid (HY.out k hlt)
      have HMore := Lib.hid (fun h => less_more (k := k) HK.out h)
      clear e0 e1 he
      generalize U.pa (l.getD k (0, 0)) = x at *
      generalize U.pb (l.getD k (0, 0)) = y at *
      have HB2 := Lib.hid (over HB.out (below_alloc wr (.cells #[.int .i64 x, .int .i64 y] 45)))
      cases hx : S.has s x
      · have KAk := Lib.hid (fun w => KB.out _ ha false hx w)
        have HK2 := Lib.hid (HMore.out (by rw [hx]; rfl))
        clear hx
        go_wp2_with fail
        refine (KAk.out _).mono ?_
        rintro e w1 ⟨rfl, rfl⟩
        go_wp2_with fail
        go_roundg (m - (k + 1))
        case measure => omega
        case rel => exact ⟨k + 1, by omega, by go_num, by omega, HK2, HB2⟩
      · have KAk := Lib.hid (fun w => KB.out _ ha true hx w)
        cases hh : S.has s y
        · have KBk := Lib.hid (fun w => KB.out _ hb false hh w)
          have HK2 := Lib.hid (HMore.out (by rw [hx, hh]; rfl))
          clear hx hh
          go_wp2_with fail
          refine (KAk.out _).mono ?_
          rintro e w1 ⟨rfl, rfl⟩
          go_wp2_with fail
          refine (KBk.out _).mono ?_
          rintro e w1 ⟨rfl, rfl⟩
          go_wp2_with fail
          go_roundg (m - (k + 1))
          case measure => omega
          case rel => exact ⟨k + 1, by omega, by go_num, by omega, HK2, HB2⟩
        · have KBk := Lib.hid (fun w => KB.out _ hb true hh w)
          have HX : Hid (r = true) := HYk.out (by rw [hx, hh]; rfl)
          clear hx hh
          go_wp2_with fail
          refine (KAk.out _).mono ?_
          rintro e w1 ⟨rfl, rfl⟩
          go_wp2_with fail
          refine (KBk.out _).mono ?_
          rintro e w1 ⟨rfl, rfl⟩
          go_wp2_with fail
          go_ret
          exact ⟨ret_bool (by rw [HX.out]), HB2.out⟩
    · have hkk : k = m := by omega
      have HX : Hid (r = false) := HNo.out (by rw [← hkk]; exact HK.out)
      have hkI : ¬ (k : Int) < (m : Int) := by omega
      go_wp2_with fail
      go_ret
      exact ⟨ret_bool (by rw [HX.out]), HB.out⟩

set_option maxHeartbeats 3200000 in
theorem hasCancelled_n (n c : Nat) (oa : Option Addr) (off : Nat → Bool) (s : Nat) (hn : n ≤ 10) (hs : s < 2 ^ n) (w : World) (ho : Ofs w oa n off) :
    Calls Tryd.prog 38 #[.slice oa n c, .int .i64 s] w fun e w' => e = .returned (.bool (U.offE n off s)) ∧ Below w.heap.size w w' := by
  have HO := Lib.hid ho
  have hp10 := U.pow_le hn
  have HY : Hid (∀ i, i < n → (S.has s i && off i) = true → U.offE n off s = true) := fun i hi h => any_yes (p := fun i => S.has s i && off i) hi h
  have HNo : Hid ((∀ i, i < n → (S.has s i && off i) = false) → U.offE n off s = false) := fun h => any_no (p := fun i => S.has s i && off i) h
  have KB := Lib.hid (fun a (h : a < n) b (hb : S.has s a = b) w => S.tHas_n s a (by omega) (by omega) b (by exact hb) w)
  clear hs hp10 ho
  generalize U.offE n off s = r at *
  go_enter Tryd.func38, Tryd.ntmps38
  go_wp2_with fail
  go_loopg [8] n (fun g j wr => ∃ k : Nat, k ≤ n ∧ j = .int .i64 k ∧ n - k ≤ g ∧ Hid (∀ i, i < k → (S.has s i && off i) = false) ∧ Hid (Below w.heap.size w wr))
  case atStart => exact ⟨0, Nat.zero_le _, rfl, Nat.le_refl _, fun i hi => absurd hi (Nat.not_lt_zero _), Below.refl _ _⟩
  case round =>
    obtain ⟨k, hk, rfl, hg, HK, HB⟩ := hrel
    by_cases hlt : k < n
    · have hkI : (k : Int) < (n : Int) := by omega
      obtain ⟨b, o, rfl, hab, x15⟩ := Ofs.below HO.out HB.out k hlt
      have HYk := Lib.hid (HY.out k hlt)
      have HMore := Lib.hid (fun h => less_more (k := k) HK.out h)
      cases hof : off k
      · rw [hof] at x15
        have HK2 := Lib.hid (HMore.out (by rw [hof, Bool.and_false]))
        clear hof
        go_wp2_with fail
        go_roundg (n - (k + 1))
        case measure => omega
        case rel => exact ⟨k + 1, by omega, by go_num, by omega, HK2, HB⟩
      · rw [hof] at x15
        cases hx : S.has s k
        · have KAk := Lib.hid (fun w => KB.out _ hlt false hx w)
          have HK2 := Lib.hid (HMore.out (by rw [hx]; rfl))
          clear hof hx
          go_wp2_with fail
          refine (KAk.out _).mono ?_
          rintro e w1 ⟨rfl, rfl⟩
          go_wp2_with fail
          go_roundg (n - (k + 1))
          case measure => omega
          case rel => exact ⟨k + 1, by omega, by go_num, by omega, HK2, HB⟩
        · have KAk := Lib.hid (fun w => KB.out _ hlt true hx w)
          have HX : Hid (r = true) := HYk.out (by rw [hx, hof]; rfl)
          clear hof hx
          go_wp2_with fail
          refine (KAk.out _).mono ?_
          rintro e w1 ⟨rfl, rfl⟩
          go_wp2_with fail
          go_ret
          exact ⟨ret_bool (by rw [HX.out]), HB.out⟩
    · have hkk : k = n := by omega
      have HX : Hid (r = false) := HNo.out (by rw [← hkk]; exact HK.out)
      have hkI : ¬ (k : Int) < (n : Int) := by omega
      go_wp2_with fail
      go_ret
      exact ⟨ret_bool (by rw [HX.out]), HB.out⟩

set_option maxHeartbeats 3200000 in
theorem canFollow_n (n : Nat) (v : Value) (l : List (Int × Int)) (s : Nat) (hn : n ≤ 10) (hr : U.Rt n l) (hl : l.length ≤ 1000) (hs : s < 2 ^ n) (w : World) (hv : Ps w v l) :
    Calls Tryd.prog 40 #[v, .int .i64 s] w fun e w' => e = .returned (.bool (U.canF n l s)) ∧ Below w.heap.size w w' := by
  have HV := Lib.hid hv
  obtain ⟨oa, c, rfl, -⟩ := hv
  have hp10 := U.pow_le hn
  have HW := Lib.hid (fun d (hd : d < 2 ^ n) w hv => waiting_n n (.slice oa l.length c) l s d hn hr hl hs hd w hv)
  have HI0 := Lib.hid (U.CfI.start l s)
  have HIlt := Lib.hid (fun d (h : U.CfI l s d) => U.CfI.lt hs h)
  have HIst := Lib.hid (fun d (h : U.CfI l s d) => U.CfI.step hr hn hs h)
  have HIgr := Lib.hid (fun d (h : U.CfI l s d) => U.CfI.grow hr hn hs h)
  have HIfx := Lib.hid (fun d (h : U.CfI l s d) => U.CfI.fix hr hn hs h)
  have HWl : Hid (∀ d, U.wtg l s d < 2 ^ n) := fun d => U.wtgK_lt hr s d (Nat.le_refl _)
  have HFo : Hid (∀ d, U.minus s (U.wtg l s d) = U.fol l s d) := fun _ => rfl
  have hs9 : s < 1024 := by omega
  generalize U.canF n l s = r at *
  generalize hm : l.length = m at *
  generalize 2 ^ n = P at *
  clear hr hm hs
  go_enter Tryd.func40, Tryd.ntmps40
  go_wp2_with fail
  go_loopg [5, 6] (P + 1) (fun g dv tv wr => ∃ (d : Nat) (t : Int), dv = .int .i64 d ∧ tv = .int .i64 t ∧ -1 ≤ t ∧ t ≤ d ∧ ((P : Int) - t).toNat ≤ g ∧ Hid (U.CfI l s d) ∧ Hid (0 ≤ t → U.fol l s t.toNat = d) ∧ Hid (Below w.heap.size w wr))
  case atStart => exact ⟨0, -1, rfl, rfl, by omega, by omega, by omega, HI0, fun h => absurd h (by decide), Below.refl _ _⟩
  case round =>
    obtain ⟨d, t, rfl, rfl, ht0, ht1, hg, HI, HF, HB⟩ := hrel
    have hdP := HIlt.out d HI.out
    by_cases he : (d : Int) = t
    · have HX : Hid ((d == s) = r) := HIfx.out d HI.out (by have := HF.out (by omega); rw [← he, Int.toNat_natCast] at this; exact this)
      have hd' : ((d : Int) == (s : Int)) = (d == s) := by
        rw [Bool.eq_iff_iff, beq_iff_eq, beq_iff_eq]; omega
      have HD := Lib.hid hd'
      have hne : ((d : Int) != t) = false := by rw [he]; simp
      subst he
      clear hd'
      go_wp2_with fail
      go_ret
      exact ⟨ret_bool (by rw [← HX.out, ← HD.out]), HB.out⟩
    · have hne : ((d : Int) != t) = true := by rw [bne_iff_ne]; exact he
      have htd : t < (d : Int) := by omega
      have HVw := Lib.hid (HV.out.below HB.out)
      have KW := Lib.hid (fun w hv => HW.out d hdP w hv)
      have hwl := HWl.out d
      have HFod := Lib.hid (HFo.out d)
      have HI2 := Lib.hid (HIst.out d HI.out)
      have hgr := HIgr.out d HI.out
      generalize U.wtg l s d = wt at *
      have HM := i_minus s wt (by omega) (by omega)
      rw [HFod.out] at HM
      have HF2 : Hid (0 ≤ (d : Int) → U.fol l s (d : Int).toNat = U.fol l s d) := fun _ => by rw [Int.toNat_natCast]
      generalize U.fol l s d = d2 at *
      clear he
      go_wp2_with fail
      refine (KW.out _ HVw.out).mono ?_
      rintro e w1 ⟨rfl, b1⟩
      have HB1 := Lib.hid (over HB.out b1)
      clear b1
      go_wp2_with fail
      go_roundg ((P : Int) - d).toNat
      case measure => omega
      case rel => exact ⟨d2, d, rfl, rfl, by omega, by omega, Nat.le_refl _, HI2, HF2, HB1⟩

end Go.Proofs.YtmoilpkgoabopaaDoor.T

