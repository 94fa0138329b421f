/-
  DERIVED. The walks of travel: Arrive, Latest, Same; sort.Search.
-/
import Derived.Test.YtecegfjllncfmaaDoorTravTop3
import Derived.Test.YtecegfjllncfmaaDoorTravPure2
import Derived.Shelf.Abstract
namespace Go.Proofs.YtecegfjllncfmaaDoor.T
open Go.RowKit
set_option maxRecDepth 8000

theorem arrive_day (u : Value) (l : List (Int × Int)) (t : Int) (h : t < 0 ∨ 1073741824 < t) (w : World) :
    Calls Tryd.prog 14 #[u, .int .i64 t] w fun e w' => e = .returned (.int .i64 (arrF l t)) ∧ Below w.heap.size w w' := by
  have HR : Hid (0 = arrF l t) := (arrF_day h).symm
  generalize arrF l t = r at *
  rcases h with h | h
  · go_enter Tryd.func14, Tryd.ntmps14
    go_wp2_with fail
    go_ret
    exact ⟨ret_int HR.out, Below.refl _ _⟩
  · have h2 : ¬ t < 0 := by omega
    go_enter Tryd.func14, Tryd.ntmps14
    go_wp2_with fail
    go_ret
    exact ⟨ret_int HR.out, Below.refl _ _⟩
theorem arrive_n (u : Value) (l : List (Int × Int)) (t : Int) (w : World) (hu : Ps w u l) (hl9 : l.length ≤ 1000000000000000) :
    Calls Tryd.prog 14 #[u, .int .i64 t] w fun e w' => e = .returned (.int .i64 (arrF l t)) ∧ Below w.heap.size w w' := by
  by_cases h : t < 0 ∨ 1073741824 < t
  · exact arrive_day u l t h w
  · have h0 : 0 ≤ t := by omega
    have h1 : t ≤ 1073741824 := by omega
    have h2 : ¬ t < 0 := by omega
    have h3 : ¬ 1073741824 < t := by omega
    have K := Lib.hid (isTravel_n u l w hu hl9)
    have HU := Lib.hid hu
    cases hok : okB l
    · rw [hok] at K
      have HR : Hid (0 = arrF l t) := (arrF_not hok).symm
      generalize arrF l t = r at *
      clear h hu
      go_enter Tryd.func14, Tryd.ntmps14
      go_wp2_with fail
      refine K.out.mono ?_
      rintro e w1 ⟨rfl, b1⟩
      go_wp2_with fail
      go_ret
      exact ⟨ret_int HR.out, b1⟩
    · rw [hok] at K
      have HR : Hid (arr l t = arrF l t) := (arrF_yes ((okB_iff l).1 hok) h0 h1).symm
      have KA := Lib.hid (fun w hu => arrival_n u l t ((okB_iff l).1 hok) h0 h1 w hu)
      generalize arrF l t = r at *
      generalize arr l t = q at *
      clear h hu hok
      go_enter Tryd.func14, Tryd.ntmps14
      go_wp2_with fail
      refine K.out.mono ?_
      rintro e w1 ⟨rfl, b1⟩
      have B1 := Lib.hid b1
      have HU1 := Lib.hid (HU.out.below b1)
      clear b1
      go_wp2_with fail
      refine (KA.out _ HU1.out).mono ?_
      rintro e w2 ⟨rfl, b2⟩
      have B2 := Lib.hid (over B1.out b2)
      clear b2
      go_wp2_with fail
      go_ret
      exact ⟨ret_int HR.out, B2.out⟩

set_option maxHeartbeats 800000 in
/-- sort.Search against a closure that answers 'c ≤ i' -/
theorem search_n (g : Nat) (cb : Array Value) (n c : Nat) (eg : ∀ args w, (callFunc g args).run Tryd.prog w = .ok (.enter g args) w) (hn : n ≤ 1000000) (hc : c ≤ n) (w : World)
    (hf : ∀ (i : Nat) w1, i < n → Below w.heap.size w w1 → Calls Tryd.prog g (#[.int .i64 i] ++ cb) w1 fun e w' => e = .returned (.bool (decide (c ≤ i))) ∧ Below w1.heap.size w1 w') :
    Calls Tryd.prog 26 #[.int .i64 n, .func (.func g) #[] cb] w fun e w' => e = .returned (.int .i64 c) ∧ Below w.heap.size w w' := by
  have HF := Lib.hid hf
  clear hf
  go_enter Tryd.func26, Tryd.ntmps26
  go_wp2_with fail
  go_loopg [5, 6] n (fun k s5 s6 wr => ∃ lo hi : Nat, s5 = .int .i64 lo ∧ s6 = .int .i64 hi ∧ lo ≤ c ∧ c ≤ hi ∧ hi ≤ n ∧ hi - lo ≤ k ∧ Hid (Below w.heap.size w wr))
  case atStart => exact ⟨0, n, rfl, rfl, Nat.zero_le _, hc, Nat.le_refl _, by omega, Below.refl _ _⟩
  case round =>
    obtain ⟨lo, hi, rfl, rfl, h1, h2, h3, hg, HB⟩ := hrel
    by_cases hlt : lo < hi
    · have K := HF.out ((lo + hi) / 2) wr (by omega) HB.out
      rw [show (((lo + hi) / 2 : Nat) : Int) = ((lo : Int) + (hi : Int)) / 2 by omega] at K
      by_cases hp : c ≤ (lo + hi) / 2
      · rw [decide_eq_true hp] at K
        have HP := Lib.hid hp
        clear hp
        go_wp2_with (go_at_fn g; refine K.mono ?_; rintro e w1 ⟨rfl, b1⟩)
        have HB1 := Lib.hid (over HB.out b1)
        go_roundg ((lo + hi) / 2 - lo)
        case measure => omega
        case rel => exact ⟨lo, (lo + hi) / 2, rfl, by rw [show ((lo : Int) + (hi : Int)) / 2 = (((lo + hi) / 2 : Nat) : Int) by omega], h1, HP.out, by omega, Nat.le_refl _, HB1⟩
      · rw [decide_eq_false hp] at K
        have HP := Lib.hid hp
        clear hp
        go_wp2_with (go_at_fn g; refine K.mono ?_; rintro e w1 ⟨rfl, b1⟩)
        have HB1 := Lib.hid (over HB.out b1)
        go_roundg (hi - ((lo + hi) / 2 + 1))
        case measure => omega
        case rel => exact ⟨(lo + hi) / 2 + 1, hi, by rw [show ((lo : Int) + (hi : Int)) / 2 + 1 = (((lo + hi) / 2 + 1 : Nat) : Int) by omega], rfl, by have := HP.out; omega, h2, h3, Nat.le_refl _, HB1⟩
    · obtain rfl : lo = c := by omega
      go_wp2_with fail
      go_ret
      exact ⟨rfl, HB.out⟩

/-- the closure of Latest -/
theorem latFn_n (u : Value) (l : List (Int × Int)) (a : Int) (i c B : Nat) (h : Ok l) (hi : i < 4097) (hc : c = cntA l a 4097) (w : World) (hu : Ps w u l) (h0 : w.cell? ⟨B, 0, none⟩ = some u) (h1 : w.cell? ⟨B + 1, 0, none⟩ = some (.int .i64 a)) (hB : B + 1 < w.heap.size) :
    Calls Tryd.prog 27 #[.int .i64 i, .pointer (some ⟨B, 0, none⟩), .pointer (some ⟨B + 1, 0, none⟩)] w fun e w' => e = .returned (.bool (decide (c ≤ i))) ∧ Below w.heap.size w w' := by
  have K := Lib.hid (fun w hu => arrival_n u l i h (by omega) (by omega) w hu)
  have HU : Hid (Ps w.drew u l) := hu
  have hd1 : w.drew.cell? ⟨B + 1, 0, none⟩ = some (.int .i64 a) := h1
  have hdB : B + 1 < w.drew.heap.size := hB
  have HR : Hid (decide (a < arr l i) = decide (c ≤ i)) := by
    show _ = _
    rw [Bool.eq_iff_iff, decide_eq_true_iff, decide_eq_true_iff, hc]
    have := cntA_iff h a 4097 i hi
    omega
  generalize decide (c ≤ i) = r at *
  generalize arr l i = q at *
  clear hu hc
  go_enter Tryd.func27, Tryd.ntmps27
  go_wp2_with fail
  go_region_with (go_at_call 28; with_reducible refine (K.out _ HU.out).mono ?_; rintro e wm ⟨rfl, bm⟩; have h2 := (bm.cell (p := ⟨B + 1, 0, none⟩) hdB).trans hd1)
  all_goals
    go_wp2_with fail
    go_ret
    exact ⟨ret_bool HR.out, over (below_drew (Below.refl _ w)) bm⟩

/-- a latest departure and whether there is one -/
def LtP (c : Nat) (w : World) (e : Ending) (w' : World) : Prop := e = .returned (.tuple #[.int .i64 (latN c), .bool (latB c)]) ∧ Below w.heap.size w w'
theorem ret_lat {x y : Int} {b d : Bool} (h : x = y) (h2 : b = d) : Ending.returned (.tuple #[.int .i64 x, .bool b]) = .returned (.tuple #[.int .i64 y, .bool d]) := by rw [h, h2]
set_option maxHeartbeats 800000 in
theorem latest_n (u : Value) (l : List (Int × Int)) (a : Int) (w : World) (hu : Ps w u l) (hl9 : l.length ≤ 1000000000000000) :
    Calls Tryd.prog 12 #[u, .int .i64 a] w (LtP (cntF l a) w) := by
  obtain ⟨oa, c0, hv, -⟩ := id hu
  subst hv
  have K := Lib.hid (fun w hu => isTravel_n (.slice oa l.length c0) l w hu hl9)
  have HU := Lib.hid hu
  cases hok : okB l
  · rw [hok] at K
    have HC : Hid (cntF l a = 0) := by show _ = _; unfold cntF; rw [hok]; rfl
    generalize cntF l a = c at *
    have HU1 := Lib.hid (hu.below ((below_alloc w (.cells #[.slice oa l.length c0] 22)).trans ((below_alloc (w.alloc (.cells #[.slice oa l.length c0] 22)) (.cells #[.int .i64 a] 3)).mono (by simp))))
    clear hu
    go_enter Tryd.func12, Tryd.ntmps12
    go_wp2_with fail
    refine (K.out _ HU1.out).mono ?_
    rintro e w1 ⟨rfl, b1⟩
    have B1 := Lib.hid (over (w := w) (by go_grown) b1)
    clear b1
    go_wp2_with fail
    go_ret2
    exact ⟨by rw [HC.out]; rfl, B1.out⟩
  · rw [hok] at K
    have hO := (okB_iff l).1 hok
    have HC : Hid (cntF l a = cntA l a 4097) := by show _ = _; unfold cntF; rw [hok]; rfl
    have hcl := cntF_le l a
    have KS := Lib.hid (fun B w hf => search_n 27 #[.pointer (some ⟨B, 0, none⟩), .pointer (some ⟨B + 1, 0, none⟩)] 4097 (cntF l a) (enters_of Tryd.func27 (by kernel_rfl) rfl) (by decide) hcl w hf)
    have KF := Lib.hid (fun i hi B w hu h0 h1 hB => latFn_n (.slice oa l.length c0) l a i (cntF l a) B hO hi HC.out w hu h0 h1 hB)
    generalize cntF l a = c at *
    have HU1 := Lib.hid (hu.below ((below_alloc w (.cells #[.slice oa l.length c0] 22)).trans ((below_alloc (w.alloc (.cells #[.slice oa l.length c0] 22)) (.cells #[.int .i64 a] 3)).mono (by simp))))
    clear hu hok HC
    go_enter Tryd.func12, Tryd.ntmps12
    go_wp2_with fail
    refine (K.out _ HU1.out).mono ?_
    rintro e w1 ⟨rfl, b1⟩
    have B1 := Lib.hid (over (w := w) (by go_grown) b1)
    have HU2 := Lib.hid (HU1.out.below b1)
    have e0 : w1.cell? ⟨w.heap.size, 0, none⟩ = some (.slice oa l.length c0) := (b1.cell (p := ⟨w.heap.size, 0, none⟩) (by simp; omega)).trans (cell_alloc_t _ (by simp))
    have e1 : w1.cell? ⟨w.heap.size + 1, 0, none⟩ = some (.int .i64 a) := (b1.cell (p := ⟨w.heap.size + 1, 0, none⟩) (by simp)).trans (by simp [World.cell?_alloc_at])
    have hsz : w.heap.size + 1 < w1.heap.size := by have := b1.size; simp at this; omega
    clear b1
    have KS2 := Lib.hid (KS.out w.heap.size w1 (fun i w2 hi hb => KF.out i hi w.heap.size w2 (HU2.out.below hb) ((hb.cell (p := ⟨w.heap.size, 0, none⟩) (by dsimp only; omega)).trans e0) ((hb.cell (p := ⟨w.heap.size + 1, 0, none⟩) hsz).trans e1) (Nat.lt_of_lt_of_le hsz hb.size)))
    go_wp2_with fail
    refine KS2.out.mono ?_
    rintro e w2 ⟨rfl, b2⟩
    have B2 := Lib.hid (over B1.out b2)
    clear b2
    cases c with
    | zero =>
      go_wp2_with fail
      go_ret2
      exact ⟨rfl, B2.out⟩
    | succ c =>
      have h0 : (((c + 1 : Nat) : Int) == 0) = false := ne_eqI (by omega)
      go_wp2_with fail
      go_ret2
      exact ⟨ret_lat (latN_succ c).symm (latB_succ c).symm, B2.out⟩

theorem same_n (u v : Value) (a b : List (Int × Int)) (w : World) (hu : Ps w u a) (hv : Ps w v b) (hl9 : a.length ≤ 1000000000000000) (hl8 : b.length ≤ 1000000000000000) :
    Calls Tryd.prog 19 #[u, v] w fun e w' => e = .returned (.bool (sameB a b)) ∧ Below w.heap.size w w' := by
  have KA := Lib.hid (fun w hu => isTravel_n u a w hu hl9)
  have KB := Lib.hid (fun w hu => isTravel_n v b w hu hl8)
  have HU := Lib.hid hu
  have HV := Lib.hid hv
  cases ha : okB a
  · rw [ha] at KA
    have HR : Hid (false = sameB a b) := by show _ = _; unfold sameB; rw [ha]; rfl
    generalize sameB a b = r at *
    clear hu hv
    go_enter Tryd.func19, Tryd.ntmps19
    go_wp2_with fail
    refine (KA.out _ HU.out).mono ?_
    rintro e w1 ⟨rfl, b1⟩
    go_wp2_with fail
    go_ret
    exact ⟨ret_bool HR.out, b1⟩
  · rw [ha] at KA
    cases hb : okB b
    · rw [hb] at KB
      have HR : Hid (false = sameB a b) := by show _ = _; unfold sameB; rw [ha, hb]; rfl
      generalize sameB a b = r at *
      clear hu hv
      go_enter Tryd.func19, Tryd.ntmps19
      go_wp2_with fail
      refine (KA.out _ HU.out).mono ?_
      rintro e w1 ⟨rfl, b1⟩
      have B1 := Lib.hid b1
      have HV1 := Lib.hid (HV.out.below b1)
      clear b1
      go_wp2_with fail
      refine (KB.out _ HV1.out).mono ?_
      rintro e w2 ⟨rfl, b2⟩
      go_wp2_with fail
      go_ret
      exact ⟨ret_bool HR.out, over B1.out b2⟩
    · rw [hb] at KB
      have hA := (okB_iff a).1 ha
      have hB := (okB_iff b).1 hb
      obtain ⟨N, hN⟩ : ∃ N : Nat, N = 4097 := ⟨_, rfl⟩
      have HN := Lib.hid hN
      have HR : Hid (eqN a b N = sameB a b) := by show _ = _; unfold sameB; rw [ha, hb, Bool.true_and, Bool.true_and, hN]
      clear hN
      generalize sameB a b = r at *
      have RA := Lib.hid (fun (t : Nat) (ht : t < 4097) w hu => arrival_n u a t hA (by omega) (by omega) w hu)
      have RB := Lib.hid (fun (t : Nat) (ht : t < 4097) w hu => arrival_n v b t hB (by omega) (by omega) w hu)
      have HF := Lib.hid (fun k (hk : k < 4097) h => eqN_false (a := a) (b := b) (k := k) h N (by have := HN.out; omega))
      have HT := Lib.hid (eqN_succ a b)
      have HZ : Hid (eqN a b 0 = true) := rfl
      clear hu hv ha hb hA hB
      go_enter Tryd.func19, Tryd.ntmps19
      go_wp2_with fail
      refine (KA.out _ HU.out).mono ?_
      rintro e w1 ⟨rfl, b1⟩
      have B1 := Lib.hid b1
      have HV1 := Lib.hid (HV.out.below b1)
      clear b1
      go_wp2_with fail
      refine (KB.out _ HV1.out).mono ?_
      rintro e w2 ⟨rfl, b2⟩
      have B2 := Lib.hid (over B1.out b2)
      clear b2 KA KB HV1 B1
      go_wp2_with fail
      go_loopw [14] (fun i wr => ∃ k : Nat, k ≤ 4097 ∧ i = .int .i64 k ∧ Hid (eqN a b k = true) ∧ Hid (Below w.heap.size w wr)) (fun i _ => 4097 - (intOf i).toNat)
      case atStart => exact ⟨0, Nat.zero_le _, rfl, HZ, B2⟩
      case round =>
        clear B2 HZ
        obtain ⟨k, hk, rfl, HE, HW⟩ := hrel
        by_cases hlt : k < 4097
        · have hltI : (k : Int) < 4097 := by omega
          have HU1 := Lib.hid (HU.out.below HW.out)
          have HV1 := Lib.hid (HV.out.below HW.out)
          have RA2 := Lib.hid (RA.out k hlt)
          have RB2 := Lib.hid (RB.out k hlt)
          have HF2 := Lib.hid (HF.out k hlt)
          have HT2 : Hid (eqN a b (k + 1) = (eqN a b k && decide (arr a k = arr b k))) := HT.out k
          generalize arr a k = x at *
          generalize arr b k = y at *
          by_cases hxy : x = y
          · subst hxy
            have HE2 : Hid (eqN a b (k + 1) = true) := by show _ = _; rw [HT2.out, HE.out]; simp
            have hne : (x != x) = false := by simp
            clear HF2
            go_wp2_with fail
            refine (RA2.out _ HU1.out).mono ?_
            rintro e w3 ⟨rfl, b3⟩
            have B3 := Lib.hid (over HW.out b3)
            have HV3 := Lib.hid (HV1.out.below b3)
            clear b3
            go_wp2_with fail
            refine (RB2.out _ HV3.out).mono ?_
            rintro e w4 ⟨rfl, b4⟩
            have B4 := Lib.hid (over B3.out b4)
            clear b4
            go_wp2_with fail
            go_roundw
            case rel => exact ⟨k + 1, by omega, by go_num, HE2, B4⟩
            case measure => simp [intOf]; omega
          · have HE2 : Hid (false = r) := by show _ = _; rw [← HR.out]; exact (HF2.out hxy).symm
            have hne : (x != y) = true := ne_neI hxy
            clear HF2 hxy
            go_wp2_with fail
            refine (RA2.out _ HU1.out).mono ?_
            rintro e w3 ⟨rfl, b3⟩
            have B3 := Lib.hid (over HW.out b3)
            have HV3 := Lib.hid (HV1.out.below b3)
            clear b3
            go_wp2_with fail
            refine (RB2.out _ HV3.out).mono ?_
            rintro e w4 ⟨rfl, b4⟩
            have B4 := Lib.hid (over B3.out b4)
            clear b4
            go_wp2_with fail
            go_ret
            exact ⟨ret_bool HE2.out, B4.out⟩
        · have hk' : k = 4097 := by omega
          subst hk'
          have HE2 : Hid (true = r) := by show _ = _; rw [← HR.out, HN.out, HE.out]
          go_wp2_with fail
          go_ret
          exact ⟨ret_bool HE2.out, HW.out⟩

end Go.Proofs.YtecegfjllncfmaaDoor.T
