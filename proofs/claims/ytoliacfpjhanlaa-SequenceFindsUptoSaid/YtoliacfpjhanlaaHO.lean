/-
  DERIVED. HO: a part of the base of layer 13 (made by pack.py).
-/
import Derived.Laws.StructEq
import Derived.ChangeKeysEq
import Derived.Deep.RegionHeld3
import Derived.Test.YtoliacfpjhanlaaHM
import Derived.Test.YtoliacfpjhanlaaHN
import Derived.Test.YtoliacfpjhanlaaHJ
import Derived.Test.YtoliacfpjhanlaaRefFl3
import Derived.Test.YtoliacfpjhanlaaHL
/-! The walks of the landed rules' small functions: every, ahead, waiting, hasCancelled, hasPair, canFollow. -/
namespace Go.Proofs.Ytoliacfpjhanlaa.U
theorem has_full {n a : Nat} (h : a < n) : S.has (2 ^ n - 1) a = true := by
  rw [has_bit, Nat.testBit_two_pow_sub_one, decide_eq_true h]
end Go.Proofs.Ytoliacfpjhanlaa.U
namespace Go.Proofs.Ytoliacfpjhanlaa.T
open Go.RowKit
set_option maxRecDepth 8000

theorem or_bit (m j : Nat) (hm : m < 9223372036854775808) (hj : j ≤ 62) : bits .or .i64 (m : Int) (wrap64 (2 ^ j)) = ((m ||| 2 ^ j : Nat) : Int) := by
  have hp := S.pow_le62 hj
  have hw := S.w64 (q := 2 ^ j) (by omega)
  rw [show ((2 ^ j : Nat) : Int) = 2 ^ j by simp] at hw
  rw [hw]
  have h1 := S.i64_or m (2 ^ j) hm (by omega)
  rw [← h1]; simp
theorem i_minus (s t : Nat) (hs : s < 9223372036854775808) (ht : t < 9223372036854775808) : bits .andNot .i64 (s : Int) (t : Int) = ((U.minus s t : Nat) : Int) := by
  have h := U.minus_le s t
  rw [S.b_andNot, S.nat_mod s hs, S.nat_mod t ht]
  exact S.wrap_n _ (by unfold U.minus at h; omega)
theorem every_n (o0 o1 o2 o3 o4 o5 : Option Addr) (n0 n1 n2 n n4 n5 c0 c1 c2 c3 c4 c5 : Nat) (hn : n ≤ 10) (w : World) :
    Calls Try.prog 68 #[.agg #[.slice o0 n0 c0, .slice o1 n1 c1, .slice o2 n2 c2, .slice o3 n c3, .slice o4 n4 c4, .slice o5 n5 c5]] w fun e w' => e = .returned (.int .i64 ((2 ^ n - 1 : Nat) : Int)) ∧ Below w.heap.size w w' := by
  have BI := below_alloc w (.cells #[.slice o0 n0 c0, .slice o1 n1 c1, .slice o2 n2 c2, .slice o3 n c3, .slice o4 n4 c4, .slice o5 n5 c5] 30)
  have HB := Lib.hid BI
  clear BI
  have hp10 := U.pow_le hn
  have hp0 : 0 < 2 ^ n := Nat.pow_pos (by omega)
  have hw : wrap64 (2 ^ n) = ((2 ^ n : Nat) : Int) := by
    have := S.w64 (q := 2 ^ n) (by omega)
    rw [← this]; simp
  have hmin : min (n : Int) 63 = n := by omega
  have HR : Hid (((2 ^ n - 1 : Nat) : Int) = ((2 ^ n : Nat) : Int) - 1) := by show _ = _; omega
  generalize ((2 ^ n - 1 : Nat) : Int) = r at *
  generalize hP : (2 : Nat) ^ n = P at *
  clear hP
  go_enter Try.func68, Try.ntmps68
  go_wp2_with fail
  go_ret
  exact ⟨ret_int (by rw [HR.out]), HB.out⟩

set_option maxHeartbeats 3200000 in
theorem waiting_n (n : Nat) (v : Value) (l : List (Int × Int)) (s d : Nat) (hn : n ≤ 10) (hr : U.Rt n l) (hl : l.length ≤ 1000) (hs : s < 2 ^ n) (hd : d < 2 ^ n) (w : World) (hv : Ps w v l) :
    Calls Try.prog 85 #[v, .int .i64 s, .int .i64 d] w fun e w' => e = .returned (.int .i64 (U.wtg l s d : Nat)) ∧ Below w.heap.size w w' := by
  have HV := Lib.hid hv
  obtain ⟨oa, c, rfl, -⟩ := hv
  have hp10 := U.pow_le hn
  have HE : Hid (U.wtgK l s d l.length = U.wtg l s d) := rfl
  have H0 : Hid (U.wtgK l s d 0 = 0) := rfl
  have HY := Lib.hid (fun k (h : (S.has s (U.pb (l.getD k (0, 0))) && !S.has d (U.pa (l.getD k (0, 0)))) = true) => (show U.wtgK l s d (k + 1) = U.wtgK l s d k ||| 2 ^ U.pb (l.getD k (0, 0)) by rw [U.wtgK, if_pos h]))
  have HNo := Lib.hid (fun k (h : (S.has s (U.pb (l.getD k (0, 0))) && !S.has d (U.pa (l.getD k (0, 0)))) = false) => (show U.wtgK l s d (k + 1) = U.wtgK l s d k by rw [U.wtgK, if_neg (by rw [h]; simp)]))
  have HLt := Lib.hid (fun k (h : k ≤ l.length) => Nat.lt_of_lt_of_le (U.wtgK_lt hr s d h) hp10)
  have HG := Lib.hid (fun k (h : k < l.length) => U.getD_rt hr h)
  have KA := Lib.hid (fun a (h : a < n) b (hb : S.has d a = b) w => S.tHas_n d a (by omega) (by omega) b (by exact hb) w)
  have KB := Lib.hid (fun a (h : a < n) b (hb : S.has s a = b) w => S.tHas_n s a (by omega) (by omega) b (by exact hb) w)
  clear hs hd hp10
  generalize U.wtg l s d = r at *
  generalize hm : l.length = m at *
  have HM := Lib.hid hm
  clear hr hm
  go_enter Try.func85, Try.ntmps85
  go_wp2_with fail
  go_loopg [7, 12] m (fun g f j wr => ∃ k : Nat, k ≤ m ∧ j = .int .i64 k ∧ m - k ≤ g ∧ f = .int .i64 (U.wtgK l s d k : Nat) ∧ Hid (Below w.heap.size w wr))
  case atStart => exact ⟨0, Nat.zero_le _, rfl, Nat.le_refl _, by rw [H0.out]; rfl, Below.refl _ _⟩
  case round =>
    obtain ⟨k, hk, rfl, hg, rfl, HB⟩ := hrel
    by_cases hlt : k < m
    · have hkI : (k : Int) < (m : Int) := by omega
      have hka : k < l.length := by rw [HM.out]; exact hlt
      obtain ⟨b, o, rfl, hab, x0, x1⟩ := ps_at (by have := HV.out.below HB.out; rw [← HM.out] at this; exact this) hka
      obtain ⟨ha, hb, he⟩ := HG.out k hlt
      have e0 : (l.getD k (0, 0)).1 = (U.pa (l.getD k (0, 0)) : Int) := congrArg Prod.fst he
      have e1 : (l.getD k (0, 0)).2 = (U.pb (l.getD k (0, 0)) : Int) := congrArg Prod.snd he
      rw [e0] at x0
      rw [e1] at x1
      have HYk := Lib.hid (HY.out k)
      have HNk := Lib.hid (HNo.out k)
      have hf9 := HLt.out k hk
      clear e0 e1 he
      generalize U.pa (l.getD k (0, 0)) = x at *
      generalize U.pb (l.getD k (0, 0)) = y at *
      have HB2 := Lib.hid (over HB.out (below_alloc wr (.cells #[.int .i64 x, .int .i64 y] 96)))
      generalize U.wtgK l s d k = f at *
      cases hh : S.has s y
      · have KBk := Lib.hid (fun w => KB.out _ hb false hh w)
        have HX : Hid (U.wtgK l s d (k + 1) = f) := HNk.out (by rw [hh]; rfl)
        clear hh HY HNo HYk HNk
        go_wp2_with fail
        refine (KBk.out _).mono ?_
        rintro e w1 ⟨rfl, rfl⟩
        go_wp2_with fail
        go_roundg (m - (k + 1))
        case measure => omega
        case rel => exact ⟨k + 1, by omega, by go_num, by omega, by rw [HX.out], HB2⟩
      · have KBk := Lib.hid (fun w => KB.out _ hb true hh w)
        cases hx : S.has d x
        · have KAk := Lib.hid (fun w => KA.out _ ha false hx w)
          have HX : Hid (U.wtgK l s d (k + 1) = f ||| 2 ^ y) := HYk.out (by rw [hh, hx]; rfl)
          have HS := or_bit f y (by omega) (by omega)
          obtain ⟨f2, hf2⟩ : ∃ f2, f ||| 2 ^ y = f2 := ⟨_, rfl⟩
          rw [hf2] at HS HX
          clear hh hx hf2 HY HNo HYk HNk
          go_wp2_with fail
          refine (KBk.out _).mono ?_
          rintro e w1 ⟨rfl, rfl⟩
          go_wp2_with fail
          refine (KAk.out _).mono ?_
          rintro e w1 ⟨rfl, rfl⟩
          go_wp2_with fail
          go_roundg (m - (k + 1))
          case measure => omega
          case rel => exact ⟨k + 1, by omega, by go_num, by omega, by rw [HX.out], HB2⟩
        · have KAk := Lib.hid (fun w => KA.out _ ha true hx w)
          have HX : Hid (U.wtgK l s d (k + 1) = f) := HNk.out (by rw [hh, hx]; rfl)
          clear hh hx HY HNo HYk HNk
          go_wp2_with fail
          refine (KBk.out _).mono ?_
          rintro e w1 ⟨rfl, rfl⟩
          go_wp2_with fail
          refine (KAk.out _).mono ?_
          rintro e w1 ⟨rfl, rfl⟩
          go_wp2_with fail
          go_roundg (m - (k + 1))
          case measure => omega
          case rel => exact ⟨k + 1, by omega, by go_num, by omega, by rw [HX.out], HB2⟩
    · have hkk : k = m := by omega
      have HR : Hid (U.wtgK l s d k = r) := by show _ = _; rw [hkk]; exact HE.out
      have hkI : ¬ (k : Int) < (m : Int) := by omega
      generalize U.wtgK l s d k = f at *
      go_wp2_with fail
      go_ret
      exact ⟨ret_int (by rw [HR.out]), HB.out⟩

set_option maxHeartbeats 3200000 in
theorem hasPair_n (n : Nat) (v : Value) (l : List (Int × Int)) (s : Nat) (hn : n ≤ 10) (hr : U.Rt n l) (hl : l.length ≤ 1000) (hs : s < 2 ^ n) (w : World) (hv : Ps w v l) :
    Calls Try.prog 70 #[v, .int .i64 s] w fun e w' => e = .returned (.bool (U.apartE l s)) ∧ Below w.heap.size w w' := by
  have HV := Lib.hid hv
  obtain ⟨oa, c, rfl, -⟩ := hv
  have hp10 := U.pow_le hn
  have HY : Hid (∀ i, i < l.length → (S.has s (U.pa (l.getD i (0, 0))) && S.has s (U.pb (l.getD i (0, 0)))) = true → U.apartE l s = true) := fun i hi h => anyl_yes (p := fun p => S.has s (U.pa p) && S.has s (U.pb p)) hi h
  have HNo : Hid ((∀ i, i < l.length → (S.has s (U.pa (l.getD i (0, 0))) && S.has s (U.pb (l.getD i (0, 0)))) = false) → U.apartE l s = false) := fun h => anyl_no (p := fun p => S.has s (U.pa p) && S.has s (U.pb p)) h
  have HG := Lib.hid (fun k (h : k < l.length) => U.getD_rt hr h)
  have KB := Lib.hid (fun a (h : a < n) b (hb : S.has s a = b) w => S.tHas_n s a (by omega) (by omega) b (by exact hb) w)
  clear hs hp10
  generalize U.apartE l s = r at *
  generalize hm : l.length = m at *
  have HM := Lib.hid hm
  clear hr hm
  go_enter Try.func70, Try.ntmps70
  go_wp2_with fail
  go_loopg [9] m (fun g j wr => ∃ k : Nat, k ≤ m ∧ j = .int .i64 k ∧ m - k ≤ g ∧ Hid (∀ i, i < k → (S.has s (U.pa (l.getD i (0, 0))) && S.has s (U.pb (l.getD i (0, 0)))) = false) ∧ Hid (Below w.heap.size w wr))
  case atStart => exact ⟨0, Nat.zero_le _, rfl, Nat.le_refl _, fun i hi => absurd hi (Nat.not_lt_zero _), Below.refl _ _⟩
  case round =>
    obtain ⟨k, hk, rfl, hg, HK, HB⟩ := hrel
    by_cases hlt : k < m
    · have hkI : (k : Int) < (m : Int) := by omega
      have hka : k < l.length := by rw [HM.out]; exact hlt
      obtain ⟨b, o, rfl, hab, x0, x1⟩ := ps_at (by have := HV.out.below HB.out; rw [← HM.out] at this; exact this) hka
      obtain ⟨ha, hb, he⟩ := HG.out k hlt
      have e0 : (l.getD k (0, 0)).1 = (U.pa (l.getD k (0, 0)) : Int) := congrArg Prod.fst he
      have e1 : (l.getD k (0, 0)).2 = (U.pb (l.getD k (0, 0)) : Int) := congrArg Prod.snd he
      rw [e0] at x0
      rw [e1] at x1
      have HYk := Lib.hid (HY.out k hlt)
      have HMore := Lib.hid (fun h => less_more (k := k) HK.out h)
      clear e0 e1 he
      generalize U.pa (l.getD k (0, 0)) = x at *
      generalize U.pb (l.getD k (0, 0)) = y at *
      have HB2 := Lib.hid (over HB.out (below_alloc wr (.cells #[.int .i64 x, .int .i64 y] 96)))
      cases hx : S.has s x
      · have KAk := Lib.hid (fun w => KB.out _ ha false hx w)
        have HK2 := Lib.hid (HMore.out (by rw [hx]; rfl))
        clear hx
        go_wp2_with fail
        refine (KAk.out _).mono ?_
        rintro e w1 ⟨rfl, rfl⟩
        go_wp2_with fail
        go_roundg (m - (k + 1))
        case measure => omega
        case rel => exact ⟨k + 1, by omega, by go_num, by omega, HK2, HB2⟩
      · have KAk := Lib.hid (fun w => KB.out _ ha true hx w)
        cases hh : S.has s y
        · have KBk := Lib.hid (fun w => KB.out _ hb false hh w)
          have HK2 := Lib.hid (HMore.out (by rw [hx, hh]; rfl))
          clear hx hh
          go_wp2_with fail
          refine (KAk.out _).mono ?_
          rintro e w1 ⟨rfl, rfl⟩
          go_wp2_with fail
          refine (KBk.out _).mono ?_
          rintro e w1 ⟨rfl, rfl⟩
          go_wp2_with fail
          go_roundg (m - (k + 1))
          case measure => omega
          case rel => exact ⟨k + 1, by omega, by go_num, by omega, HK2, HB2⟩
        · have KBk := Lib.hid (fun w => KB.out _ hb true hh w)
          have HX : Hid (r = true) := HYk.out (by rw [hx, hh]; rfl)
          clear hx hh
          go_wp2_with fail
          refine (KAk.out _).mono ?_
          rintro e w1 ⟨rfl, rfl⟩
          go_wp2_with fail
          refine (KBk.out _).mono ?_
          rintro e w1 ⟨rfl, rfl⟩
          go_wp2_with fail
          go_ret
          exact ⟨ret_bool (by rw [HX.out]), HB2.out⟩
    · have hkk : k = m := by omega
      have HX : Hid (r = false) := HNo.out (by rw [← hkk]; exact HK.out)
      have hkI : ¬ (k : Int) < (m : Int) := by omega
      go_wp2_with fail
      go_ret
      exact ⟨ret_bool (by rw [HX.out]), HB.out⟩

set_option maxHeartbeats 3200000 in
theorem hasCancelled_n (n c : Nat) (oa : Option Addr) (off : Nat → Bool) (s : Nat) (hn : n ≤ 10) (hs : s < 2 ^ n) (w : World) (ho : Ofs w oa n off) :
    Calls Try.prog 69 #[.slice oa n c, .int .i64 s] w fun e w' => e = .returned (.bool (U.offE n off s)) ∧ Below w.heap.size w w' := by
  have HO := Lib.hid ho
  have hp10 := U.pow_le hn
  have HY : Hid (∀ i, i < n → (S.has s i && off i) = true → U.offE n off s = true) := fun i hi h => any_yes (p := fun i => S.has s i && off i) hi h
  have HNo : Hid ((∀ i, i < n → (S.has s i && off i) = false) → U.offE n off s = false) := fun h => any_no (p := fun i => S.has s i && off i) h
  have KB := Lib.hid (fun a (h : a < n) b (hb : S.has s a = b) w => S.tHas_n s a (by omega) (by omega) b (by exact hb) w)
  clear hs hp10 ho
  generalize U.offE n off s = r at *
  go_enter Try.func69, Try.ntmps69
  go_wp2_with fail
  go_loopg [8] n (fun g j wr => ∃ k : Nat, k ≤ n ∧ j = .int .i64 k ∧ n - k ≤ g ∧ Hid (∀ i, i < k → (S.has s i && off i) = false) ∧ Hid (Below w.heap.size w wr))
  case atStart => exact ⟨0, Nat.zero_le _, rfl, Nat.le_refl _, fun i hi => absurd hi (Nat.not_lt_zero _), Below.refl _ _⟩
  case round =>
    obtain ⟨k, hk, rfl, hg, HK, HB⟩ := hrel
    by_cases hlt : k < n
    · have hkI : (k : Int) < (n : Int) := by omega
      obtain ⟨b, o, rfl, hab, x15⟩ := Ofs.below HO.out HB.out k hlt
      have HYk := Lib.hid (HY.out k hlt)
      have HMore := Lib.hid (fun h => less_more (k := k) HK.out h)
      cases hof : off k
      · rw [hof] at x15
        have HK2 := Lib.hid (HMore.out (by rw [hof, Bool.and_false]))
        clear hof
        go_wp2_with fail
        go_roundg (n - (k + 1))
        case measure => omega
        case rel => exact ⟨k + 1, by omega, by go_num, by omega, HK2, HB⟩
      · rw [hof] at x15
        cases hx : S.has s k
        · have KAk := Lib.hid (fun w => KB.out _ hlt false hx w)
          have HK2 := Lib.hid (HMore.out (by rw [hx]; rfl))
          clear hof hx
          go_wp2_with fail
          refine (KAk.out _).mono ?_
          rintro e w1 ⟨rfl, rfl⟩
          go_wp2_with fail
          go_roundg (n - (k + 1))
          case measure => omega
          case rel => exact ⟨k + 1, by omega, by go_num, by omega, HK2, HB⟩
        · have KAk := Lib.hid (fun w => KB.out _ hlt true hx w)
          have HX : Hid (r = true) := HYk.out (by rw [hx, hof]; rfl)
          clear hof hx
          go_wp2_with fail
          refine (KAk.out _).mono ?_
          rintro e w1 ⟨rfl, rfl⟩
          go_wp2_with fail
          go_ret
          exact ⟨ret_bool (by rw [HX.out]), HB.out⟩
    · have hkk : k = n := by omega
      have HX : Hid (r = false) := HNo.out (by rw [← hkk]; exact HK.out)
      have hkI : ¬ (k : Int) < (n : Int) := by omega
      go_wp2_with fail
      go_ret
      exact ⟨ret_bool (by rw [HX.out]), HB.out⟩

set_option maxHeartbeats 3200000 in
theorem canFollow_n (n : Nat) (v : Value) (l : List (Int × Int)) (s : Nat) (hn : n ≤ 10) (hr : U.Rt n l) (hl : l.length ≤ 1000) (hs : s < 2 ^ n) (w : World) (hv : Ps w v l) :
    Calls Try.prog 71 #[v, .int .i64 s] w fun e w' => e = .returned (.bool (U.canF n l s)) ∧ Below w.heap.size w w' := by
  have HV := Lib.hid hv
  obtain ⟨oa, c, rfl, -⟩ := hv
  have hp10 := U.pow_le hn
  have HW := Lib.hid (fun d (hd : d < 2 ^ n) w hv => waiting_n n (.slice oa l.length c) l s d hn hr hl hs hd w hv)
  have HI0 := Lib.hid (U.CfI.start l s)
  have HIlt := Lib.hid (fun d (h : U.CfI l s d) => U.CfI.lt hs h)
  have HIst := Lib.hid (fun d (h : U.CfI l s d) => U.CfI.step hr hn hs h)
  have HIgr := Lib.hid (fun d (h : U.CfI l s d) => U.CfI.grow hr hn hs h)
  have HIfx := Lib.hid (fun d (h : U.CfI l s d) => U.CfI.fix hr hn hs h)
  have HWl : Hid (∀ d, U.wtg l s d < 2 ^ n) := fun d => U.wtgK_lt hr s d (Nat.le_refl _)
  have HFo : Hid (∀ d, U.minus s (U.wtg l s d) = U.fol l s d) := fun _ => rfl
  have hs9 : s < 1024 := by omega
  generalize U.canF n l s = r at *
  generalize hm : l.length = m at *
  generalize 2 ^ n = P at *
  clear hr hm hs
  go_enter Try.func71, Try.ntmps71
  go_wp2_with fail
  go_loopg [5, 6] (P + 1) (fun g dv tv wr => ∃ (d : Nat) (t : Int), dv = .int .i64 d ∧ tv = .int .i64 t ∧ -1 ≤ t ∧ t ≤ d ∧ ((P : Int) - t).toNat ≤ g ∧ Hid (U.CfI l s d) ∧ Hid (0 ≤ t → U.fol l s t.toNat = d) ∧ Hid (Below w.heap.size w wr))
  case atStart => exact ⟨0, -1, rfl, rfl, by omega, by omega, by omega, HI0, fun h => absurd h (by decide), Below.refl _ _⟩
  case round =>
    obtain ⟨d, t, rfl, rfl, ht0, ht1, hg, HI, HF, HB⟩ := hrel
    have hdP := HIlt.out d HI.out
    by_cases he : (d : Int) = t
    · have HX : Hid ((d == s) = r) := HIfx.out d HI.out (by have := HF.out (by omega); rw [← he, Int.toNat_natCast] at this; exact this)
      have hd' : ((d : Int) == (s : Int)) = (d == s) := by
        rw [Bool.eq_iff_iff, beq_iff_eq, beq_iff_eq]; omega
      have HD := Lib.hid hd'
      have hne : ((d : Int) != t) = false := by rw [he]; simp
      subst he
      clear hd'
      go_wp2_with fail
      go_ret
      exact ⟨ret_bool (by rw [← HX.out, ← HD.out]), HB.out⟩
    · have hne : ((d : Int) != t) = true := by rw [bne_iff_ne]; exact he
      have htd : t < (d : Int) := by omega
      have HVw := Lib.hid (HV.out.below HB.out)
      have KW := Lib.hid (fun w hv => HW.out d hdP w hv)
      have hwl := HWl.out d
      have HFod := Lib.hid (HFo.out d)
      have HI2 := Lib.hid (HIst.out d HI.out)
      have hgr := HIgr.out d HI.out
      generalize U.wtg l s d = wt at *
      have HM := i_minus s wt (by omega) (by omega)
      rw [HFod.out] at HM
      have HF2 : Hid (0 ≤ (d : Int) → U.fol l s (d : Int).toNat = U.fol l s d) := fun _ => by rw [Int.toNat_natCast]
      generalize U.fol l s d = d2 at *
      clear he
      go_wp2_with fail
      refine (KW.out _ HVw.out).mono ?_
      rintro e w1 ⟨rfl, b1⟩
      have HB1 := Lib.hid (over HB.out b1)
      clear b1
      go_wp2_with fail
      go_roundg ((P : Int) - d).toNat
      case measure => omega
      case rel => exact ⟨d2, d, rfl, rfl, by omega, by omega, Nat.le_refl _, HI2, HF2, HB1⟩

end Go.Proofs.Ytoliacfpjhanlaa.T



/-! The walks of the landed rules' Needs, Allowed, Never. -/
namespace Go.Proofs.Ytoliacfpjhanlaa.T
open Go.RowKit
set_option maxRecDepth 8000

theorem within_full {s n : Nat} (hs : s < 2 ^ n) : S.withinB s (2 ^ n - 1) = true := by
  rw [S.withinB, List.all_eq_true]
  intro i hi
  exact U.has_full (U.lt_has hs ((S.mem_iff _ 63 i).1 hi).2)
theorem within_not {s n : Nat} (hs : 2 ^ n ≤ s) (hs9 : s < 2 ^ 63) : S.withinB s (2 ^ n - 1) = false := by
  cases h : S.withinB s (2 ^ n - 1)
  · rfl
  · rw [S.withinB, List.all_eq_true] at h
    have : s < 2 ^ n := U.has_lt fun i hi => by
      have h1 : i < 63 := U.lt_has hs9 hi
      have h2 := h i ((S.mem_iff _ 63 i).2 ⟨h1, hi⟩)
      rw [U.has_bit, Nat.testBit_two_pow_sub_one, decide_eq_true_iff] at h2
      exact h2
    omega

set_option maxHeartbeats 3200000 in
theorem allowedT_n (o0 o1 o2 o3 o4 o5 : Option Addr) (n0 n1 n2 n c0 c1 c2 c3 c4 c5 : Nat) (off : Nat → Bool) (ap be : List (Int × Int)) (q : Int) (hq : -9223372036854775808 ≤ q ∧ q ≤ 9223372036854775807) (hn : n ≤ 10) (hra : U.Rt n ap) (hr : U.Rt n be) (hla : ap.length ≤ 1000) (hl : be.length ≤ 1000) (w : World) (ho : Ofs w o3 n off) (hv : Ps w (.slice o4 ap.length c4) ap) (hu : Ps w (.slice o5 be.length c5) be) :
    Calls Try.prog 36 #[.agg #[.slice o0 n0 c0, .slice o1 n1 c1, .slice o2 n2 c2, .slice o3 n c3, .slice o4 ap.length c4, .slice o5 be.length c5], .int .i64 q] w fun e w' => e = .returned (.int .i64 (U.allowE n off ap be q)) ∧ Below w.heap.size w w' := by
  have BI := below_alloc w (.cells #[.slice o0 n0 c0, .slice o1 n1 c1, .slice o2 n2 c2, .slice o3 n c3, .slice o4 ap.length c4, .slice o5 be.length c5] 30)
  have I0 := Ib.made w (.slice o0 n0 c0) (.slice o1 n1 c1) (.slice o2 n2 c2) (.slice o3 n c3) (.slice o4 ap.length c4) (.slice o5 be.length c5)
  have KE := Lib.hid (fun w => every_n o0 o1 o2 o3 o4 o5 n0 n1 n2 n ap.length be.length c0 c1 c2 c3 c4 c5 hn w)
  have HV := Lib.hid (hv.below BI)
  have HU := Lib.hid (hu.below BI)
  have HO := Lib.hid (ho.below BI)
  have HB := Lib.hid BI
  have i0 := I0.c0
  have i1 := I0.c1
  have i2 := I0.c2
  have i3 := I0.c3
  have i4 := I0.c4
  have i5 := I0.c5
  have hql := I0.lt
  obtain ⟨W0, hW0⟩ : ∃ W0, w.alloc (.cells #[.slice o0 n0 c0, .slice o1 n1 c1, .slice o2 n2 c2, .slice o3 n c3, .slice o4 ap.length c4, .slice o5 be.length c5] 30) = W0 := ⟨_, rfl⟩
  rw [hW0] at HV HU HO HB i0 i1 i2 i3 i4 i5 hql
  have HW0 := Lib.hid hW0
  clear BI I0 hu hv ho hW0
  have hp10 := U.pow_le hn
  by_cases h0 : q < 0
  · have HX : Hid (2 = U.allowE n off ap be q) := by show _ = _; unfold U.allowE; rw [if_pos (.inl h0)]
    generalize U.allowE n off ap be q = r at *
    clear hr hra KE hp10
    go_enter Try.func36, Try.ntmps36
    go_upto_region 1 with fail
    rw [HW0.out]
    go_wp2_with fail
    go_ret
    exact ⟨ret_int HX.out, HB.out⟩
  have h0I : decide (q < 0) = false := decide_eq_false h0
  obtain ⟨s, rfl⟩ := Int.eq_ofNat_of_zero_le (show 0 ≤ q by omega)
  have hs9 : s < 2 ^ 63 := by omega
  have KW := Lib.hid (fun w => S.setWithin_n s (2 ^ n - 1) hs9 (by omega) w)
  by_cases hs : s < 2 ^ n
  · rw [within_full hs] at KW
    have KC := Lib.hid (fun w ho => hasCancelled_n n c3 o3 off s hn hs w ho)
    have KP := Lib.hid (fun w hv => hasPair_n n (.slice o4 ap.length c4) ap s hn hra hla hs w hv)
    have KF := Lib.hid (fun w hv => canFollow_n n (.slice o5 be.length c5) be s hn hr hl hs w hv)
    have HR : Hid ((if U.offE n off s then 9 else if U.apartE ap s then 20 else if U.canF n be s then 0 else 21) = U.allowE n off ap be (s : Int)) := by show _ = _; rw [U.allowE_nat hs, U.allow_can]
    generalize U.allowE n off ap be (s : Int) = r at *
    generalize U.offE n off s = b1 at *
    generalize U.apartE ap s = b2 at *
    generalize U.canF n be s = b3 at *
    generalize ap.length = ma at *
    generalize be.length = mb at *
    generalize 2 ^ n - 1 = qn at *
    clear hr hra h0 hp10 hs
    go_enter Try.func36, Try.ntmps36
    go_upto_region 1 with fail
    rw [HW0.out]
    go_wp2_with fail
    refine (KE.out _).mono ?_
    rintro e w1 ⟨rfl, d1⟩
    have HB1 := Lib.hid (over HB.out d1)
    have HU1 := Lib.hid (HU.out.below d1)
    have HV1 := Lib.hid (HV.out.below d1)
    have HO1 := Lib.hid (HO.out.below d1)
    have i3 := (d1.cell (p := ⟨w.heap.size, 3, none⟩) hql).trans i3
    have i4 := (d1.cell (p := ⟨w.heap.size, 4, none⟩) hql).trans i4
    have i5 := (d1.cell (p := ⟨w.heap.size, 5, none⟩) hql).trans i5
    have hql := Nat.lt_of_lt_of_le hql d1.size
    clear d1 HB HU HV HO HW0 i0 i1 i2
    go_wp2_with fail
    refine (KW.out _).mono ?_
    rintro e w2 ⟨rfl, rfl⟩
    go_wp2_with fail
    refine (KC.out _ HO1.out).mono ?_
    rintro e w2 ⟨rfl, d2⟩
    have HB2 := Lib.hid (over HB1.out d2)
    have HU2 := Lib.hid (HU1.out.below d2)
    have HV2 := Lib.hid (HV1.out.below d2)
    have i4 := (d2.cell (p := ⟨w.heap.size, 4, none⟩) hql).trans i4
    have i5 := (d2.cell (p := ⟨w.heap.size, 5, none⟩) hql).trans i5
    have hql := Nat.lt_of_lt_of_le hql d2.size
    clear d2 HB1 HU1 HV1 HO1 i3
    cases b1
    · go_wp2_with fail
      refine (KP.out _ HV2.out).mono ?_
      rintro e w3 ⟨rfl, d3⟩
      have HB3 := Lib.hid (over HB2.out d3)
      have HU3 := Lib.hid (HU2.out.below d3)
      have i5 := (d3.cell (p := ⟨w.heap.size, 5, none⟩) hql).trans i5
      clear d3 HB2 HU2 HV2 i4
      cases b2
      · go_wp2_with fail
        refine (KF.out _ HU3.out).mono ?_
        rintro e w4 ⟨rfl, d4⟩
        have HB4 := Lib.hid (over HB3.out d4)
        clear d4 HB3 HU3 i5
        cases b3
        · go_wp2_with fail
          go_ret
          exact ⟨ret_int HR.out, HB4.out⟩
        · go_wp2_with fail
          go_ret
          exact ⟨ret_int HR.out, HB4.out⟩
      · go_wp2_with fail
        go_ret
        exact ⟨ret_int HR.out, HB3.out⟩
    · go_wp2_with fail
      go_ret
      exact ⟨ret_int HR.out, HB2.out⟩
  · rw [within_not (by omega) hs9] at KW
    have HX : Hid (2 = U.allowE n off ap be (s : Int)) := by show _ = _; unfold U.allowE; rw [if_pos (.inr (by omega))]
    generalize U.allowE n off ap be (s : Int) = r at *
    generalize 2 ^ n - 1 = qn at *
    clear hr hra hs h0 hp10
    go_enter Try.func36, Try.ntmps36
    go_upto_region 1 with fail
    rw [HW0.out]
    go_wp2_with fail
    refine (KE.out _).mono ?_
    rintro e w1 ⟨rfl, d1⟩
    have HB1 := Lib.hid (over HB.out d1)
    clear d1 HB HU HV HO HW0
    go_wp2_with fail
    refine (KW.out _).mono ?_
    rintro e w2 ⟨rfl, rfl⟩
    go_wp2_with fail
    go_ret
    exact ⟨ret_int HX.out, HB1.out⟩

end Go.Proofs.Ytoliacfpjhanlaa.T



/-! What is wrong with orders: the errors of an order, the faults of all. -/
namespace Go.Proofs.Ytoliacfpjhanlaa.T
open Go.RowKit
set_option maxRecDepth 8000

/-- has one of the first j orders this name? -/
def knownO (l : List OrT) (s : ByteArray) (j : Nat) : Bool := (l.take j).any fun x => x.name.toList == s.toList
def orE1 (a : OrT) : List Int := if nmT a.name then [] else [5]
def orE2 (l : List OrT) (i : Nat) (a : OrT) : List Int := if knownO l a.name i then [6] else []
def orE3 (dims : Int) (a : OrT) : List Int := if L.rightB a.load dims then [] else [17]
def orE4 (np : Nat) (a : OrT) : List Int := if rgB (-1) (np - 1) a.pp && rgB (-1) (np - 1) a.dp then [] else [11]
def orE5 (a : OrT) : List Int := if !(decide (a.pp = -1) && decide (a.dp = -1)) then [] else [19]
def orE6 (a : OrT) : List Int := if decide (V.chk a.pp a.po a.pc a.ps = 0) && decide (V.chk a.dp a.dd a.dc a.ds = 0) then [] else [14]
def orE7 (a : OrT) : List Int := if rgB 0 1073741823 a.sk then [] else [18]
/-- can it be divided as it says? -/
def splB (pp dp spl : Int) : Bool := rgB 1 4 spl && !(decide (1 < spl) && (decide (pp ≠ -1) && decide (dp ≠ -1)))
/-- a type, or none -/
def typB (types x : Int) : Bool := decide (-1 ≤ x) && decide (x < types)
def orE8 (types : Int) (a : OrT) : List Int := if rgB (-1) 1000000 a.pen && splB a.pp a.dp a.spl && typB types a.las && typB types a.now then [] else [2]
/-- the errors of the i-th order -/
def orE (np : Nat) (dims types : Int) (l : List OrT) (i : Nat) : List Int :=
  orE1 (l.getD i or0) ++ orE2 l i (l.getD i or0) ++ orE3 dims (l.getD i or0) ++ orE4 np (l.getD i or0) ++ orE5 (l.getD i or0) ++ orE6 (l.getD i or0) ++ orE7 (l.getD i or0) ++ orE8 types (l.getD i or0)
def orF0 (n : Nat) : List (Int × ByteArray) := if n ≤ 10 then [] else [(4, ⟨#[]⟩)]
/-- the faults of the first k orders -/
def orF (np : Nat) (dims types : Int) (l : List OrT) : Nat → List (Int × ByteArray)
  | 0 => orF0 l.length
  | k + 1 => orF np dims types l k ++ atT k (orE np dims types l k)
def orderF (np : Nat) (dims types : Int) (l : List OrT) : List (Int × ByteArray) := orF np dims types l l.length
theorem orE_len (np : Nat) (dims types : Int) (l : List OrT) (i : Nat) : (orE np dims types l i).length ≤ 8 := by
  unfold orE
  simp only [List.length_append]
  have h1 : (orE1 (l.getD i or0)).length ≤ 1 := by unfold orE1; exact if_len _ _
  have h2 : (orE2 l i (l.getD i or0)).length ≤ 1 := by unfold orE2; split <;> simp
  have h3 : (orE3 dims (l.getD i or0)).length ≤ 1 := by unfold orE3; exact if_len _ _
  have h4 : (orE4 np (l.getD i or0)).length ≤ 1 := by unfold orE4; exact if_len _ _
  have h5 : (orE5 (l.getD i or0)).length ≤ 1 := by unfold orE5; exact if_len _ _
  have h6 : (orE6 (l.getD i or0)).length ≤ 1 := by unfold orE6; exact if_len _ _
  have h7 : (orE7 (l.getD i or0)).length ≤ 1 := by unfold orE7; exact if_len _ _
  have h8 : (orE8 types (l.getD i or0)).length ≤ 1 := by unfold orE8; exact if_len _ _
  omega
theorem orF_len (np : Nat) (dims types : Int) (l : List OrT) : ∀ k, (orF np dims types l k).length ≤ 1 + 8 * k
  | 0 => by unfold orF orF0; split <;> simp
  | k + 1 => by
    unfold orF atT
    rw [List.length_append, List.length_map]
    have := orF_len np dims types l k
    have := orE_len np dims types l k
    omega

/-! ### names -/
theorem knownO_zero (l : List OrT) (s : ByteArray) : knownO l s 0 = false := by unfold knownO; rw [List.take_zero]; rfl
theorem knownO_step {l : List OrT} {s : ByteArray} {k : Nat} (hk : k < l.length) : knownO l s (k + 1) = (knownO l s k || (l.getD k or0).name.toList == s.toList) := by
  unfold knownO
  rw [take_more (d := or0) hk, List.any_append]
  simp
theorem knownO_more {l : List OrT} {s : ByteArray} {k m : Nat} (hk : k ≤ m) (h : knownO l s k = true) : knownO l s m = true := by
  unfold knownO at *
  obtain ⟨x, hx, hp⟩ := List.any_eq_true.1 h
  exact List.any_eq_true.2 ⟨x, (List.take_subset_take_left l hk) hx, hp⟩

/-! ### as the program says it: rules that hold or do not -/
end Go.Proofs.Ytoliacfpjhanlaa.T



