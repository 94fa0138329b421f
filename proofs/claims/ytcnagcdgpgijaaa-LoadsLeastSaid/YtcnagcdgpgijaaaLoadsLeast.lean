/-
  DERIVED. The walk of LoadsLeast.
-/
import Derived.Test.YtcnagcdgpgijaaaLoadsBounds
namespace Go.Proofs.Ytcnagcdgpgijaaa.L
open Go.RowKit
set_option maxRecDepth 8000

theorem quoUp_iff {x y n : Int} (hy : 0 < y) : quoUp x y ≤ n ↔ x ≤ n * y := by
  unfold quoUp
  have h := Int.ediv_lt_iff_lt_mul (a := x - 1) (b := n) hy
  omega
/-- the numbers of n vehicles -/
def timesL (n : Int) (c : List Int) : List Int := c.map fun y => n * y
/-- what trips answer, and whether the load fits so many vehicles -/
def Least (n m : Int) (p : Int × Int) (b : Bool) : Prop := (p.2 = 0 ∧ b = decide (p.1 ≤ n)) ∨ (p.2 = 24 ∧ b = false ∧ m ≤ n)
theorem trips_least (n : Int) (hn : 0 ≤ n) : ∀ (a c : List Int) (m : Int), a.length = c.length → (∀ x ∈ a, 0 ≤ x) → (∀ y ∈ c, 0 ≤ y) →
    (tripsF m a c).2 = 0 ∧ (decide (m ≤ n) && leAll a (timesL n c)) = decide ((tripsF m a c).1 ≤ n) ∨ (tripsF m a c).2 = 24 ∧ leAll a (timesL n c) = false
  | [], [], m, _, _, _ => .inl ⟨rfl, Bool.and_true _⟩
  | [], _ :: _, _, h, _, _ => by simp at h
  | _ :: _, [], _, h, _, _ => by simp at h
  | x :: a, y :: c, m, h, ha, hc => by
    have hx := ha x (by simp)
    have hy := hc y (by simp)
    have ih := fun m => trips_least n hn a c m (by simpa using h) (fun x h => ha x (by simp [h])) (fun y h => hc y (by simp [h]))
    have e : leAll (x :: a) (timesL n (y :: c)) = (decide (x ≤ n * y) && leAll a (timesL n c)) := rfl
    rw [e]
    by_cases h1 : x ≤ 0
    · rw [tripsF_skip h1, decide_eq_true (show x ≤ n * y by have := Int.mul_nonneg hn hy; omega), Bool.true_and]
      exact ih m
    · by_cases h2 : y = 0
      · subst h2
        rw [tripsF_inf (by omega), decide_eq_false (show ¬ x ≤ n * 0 by omega)]
        exact .inr ⟨rfl, rfl⟩
      · rw [tripsF_take (by omega) (by omega)]
        rcases ih (max m (quoUp x y)) with ⟨h3, h4⟩ | ⟨h3, h4⟩
        · refine .inl ⟨h3, ?_⟩
          rw [← h4, ← Bool.and_assoc]
          congr 1
          rw [Bool.eq_iff_iff]
          have h5 := quoUp_iff (x := x) (n := n) (show 0 < y by omega)
          simp only [Bool.and_eq_true, decide_eq_true_iff]
          rw [← h5]
          omega
        · exact .inr ⟨h3, by rw [h4, Bool.and_false]⟩
theorem least_of {a c : List Int} {n : Nat} {rn re : Int} (ha : rightB a c.length = true) (hc : rightB c a.length = true) (hr : tripsR a c = (rn, re)) :
    (re = 0 ∧ fitsB a (timesL n c) = decide (rn ≤ (n : Int))) ∨ (re = 24 ∧ fitsB a (timesL n c) = false) := by
  have hlen : a.length = c.length := by have := right_len ha; omega
  have hap : ∀ x ∈ a, 0 ≤ x := fun x hx => by
    obtain ⟨i, hi, rfl⟩ := List.getElem_of_mem hx
    have := (right_getD ha i).1
    rwa [List.getD_eq_getElem?_getD, List.getElem?_eq_getElem hi] at this
  have hcp : ∀ x ∈ c, 0 ≤ x := fun x hx => by
    obtain ⟨i, hi, rfl⟩ := List.getElem_of_mem hx
    have := (right_getD hc i).1
    rwa [List.getD_eq_getElem?_getD, List.getElem?_eq_getElem hi] at this
  have hneg : c.any negB = false := by
    rw [List.any_eq_false]
    intro x hx
    have := hcp x hx
    unfold negB
    simp; exact this
  have h := trips_least (n : Int) (by omega) a c 0 hlen hap hcp
  have e : tripsF 0 a c = (rn, re) := by rw [← hr]; unfold tripsR; rw [if_pos ⟨hlen, hneg⟩]
  rw [e] at h
  have e2 : fitsB a (timesL n c) = leAll a (timesL n c) := by
    unfold fitsB
    rw [decide_eq_true (show a.length = (timesL n c).length by unfold timesL; rw [List.length_map]; exact hlen), Bool.true_and]
  rw [e2]
  rcases h with ⟨h1, h2⟩ | ⟨h1, h2⟩
  · rw [decide_eq_true (show (0 : Int) ≤ (n : Int) by omega), Bool.true_and] at h2
    exact .inl ⟨h1, h2⟩
  · exact .inr ⟨h1, h2⟩
theorem times_more {n : Int} {c : List Int} {k : Nat} (h : k < c.length) : (timesL n c).take (k + 1) = (timesL n c).take k ++ [n * c.getD k 0] := by
  have e : (timesL n c).getD k 0 = n * c.getD k 0 := by
    unfold timesL
    rw [List.getD_eq_getElem?_getD, List.getElem?_map, List.getElem?_eq_getElem h, List.getD_eq_getElem?_getD, List.getElem?_eq_getElem h]; rfl
  rw [take_more (d := 0) (by unfold timesL; rw [List.length_map]; exact h), e]

theorem loadsLeast_ex (u v : Value) (a c : List Int) (n16 : Nat) (hla : a.length ≤ 1000000000000000) (hlc : c.length ≤ 1000000000000000) (h : ¬ (rightB a c.length = true ∧ rightB c a.length = true)) (w : World) (hu : Li w u a) (hv : Li w v c) :
    Calls Try.prog 8 #[u, v, .int .u16 n16] w fun e w' => e = .returned (.bool true) ∧ Below w.heap.size w w' := by
  have H1 := Lib.hid (refRight_n u a c.length hla w hu)
  have H2 := Lib.hid (refRight_n v c a.length hlc w hv)
  have H6 := Lib.hid examples_n
  obtain ⟨oa, ca, rfl, -⟩ := hu
  obtain ⟨oc, cc, rfl, -⟩ := hv
  cases h1 : rightB a c.length
  · rw [h1] at H1
    clear h1 h
    generalize a.length = n at *
    generalize c.length = p at *
    go_enter Try.func8, Try.ntmps8
    go_wp2_with fail
    refine H1.out.mono ?_
    rintro e w1 ⟨rfl, rfl⟩
    go_wp2_with fail
    refine (H6.out _).mono ?_
    rintro e w2 ⟨rfl, b2⟩
    go_wp2_with fail
    go_ret
    exact ⟨rfl, b2⟩
  · cases h2 : rightB c a.length
    · rw [h1] at H1
      rw [h2] at H2
      clear h1 h2 h
      generalize a.length = n at *
      generalize c.length = p at *
      go_enter Try.func8, Try.ntmps8
      go_wp2_with fail
      refine H1.out.mono ?_
      rintro e w1 ⟨rfl, rfl⟩
      go_wp2_with fail
      refine H2.out.mono ?_
      rintro e w1 ⟨rfl, rfl⟩
      go_wp2_with fail
      refine (H6.out _).mono ?_
      rintro e w2 ⟨rfl, b2⟩
      go_wp2_with fail
      go_ret
      exact ⟨rfl, b2⟩
    · exact absurd ⟨h1, h2⟩ h

set_option maxHeartbeats 1600000 in
theorem loadsLeast_walk (u v : Value) (a c : List Int) (n16 : Nat) (hn16 : n16 < 65536) (hla : a.length ≤ 1000000000000000) (hlc : c.length * 8 ≤ 140737488355328) (w : World) (hu : Li w u a) (hv : Li w v c) :
    Calls Try.prog 8 #[u, v, .int .u16 n16] w fun e w' => e = .returned (.bool true) ∧ Below w.heap.size w w' := by
  by_cases h : rightB a c.length = true ∧ rightB c a.length = true
  · obtain ⟨h1, h2⟩ := h
    have H1 := Lib.hid (refRight_n u a c.length hla w hu)
    have H2 := Lib.hid (refRight_n v c a.length (by omega) w hv)
    rw [h1] at H1
    rw [h2] at H2
    have H6 := Lib.hid examples_n
    obtain ⟨rn, re, hr⟩ : ∃ rn re, tripsR a c = (rn, re) := ⟨_, _, rfl⟩
    have hleast := least_of (n := n16) h1 h2 hr
    have KT := Lib.hid (fun w1 (B : Below w.heap.size w w1) => loadTrips_n u v a c rn re hr hla (right_within (by decide) h1) (right_within (by decide) h2) w1 (hu.below B) (hv.below B))
    have KF := Lib.hid (fun x w1 (B : Below w.heap.size w w1) (V : Li w1 x (timesL n16 c)) => loadFits_n u x a (timesL n16 c) hla w1 (hu.below B) V)
    have HG := Lib.hid (fun k => right_getD h2 k)
    have HM := Lib.hid (fun k (hk : k < c.length) => times_more (n := (n16 : Int)) hk)
    have HTL : Hid ((timesL n16 c).length = c.length) := by show _ = _; unfold timesL; rw [List.length_map]
    obtain ⟨oa, ca, rfl⟩ : ∃ oa ca, u = .slice oa a.length ca := ⟨hu.choose, hu.choose_spec.choose, hu.choose_spec.choose_spec.1⟩
    obtain ⟨oc, cc, rfl, hc⟩ := hv
    have HC := Lib.hid hc
    obtain ⟨i0, hi, hz0, hz1, hz2⟩ := infoInt
    generalize fitsB a (timesL n16 c) = fb at *
    generalize timesL n16 c = tl at *
    have HG0 : Hid (Own w.heap.size w (.slice none 0 0) (tl.take 0)) := Own.nil _ _
    have HLE := Lib.hid hleast
    clear h1 h2 hu hc hr hleast hla
    generalize a.length = p at *
    generalize hn : c.length = n at *
    clear hn
    go_enter Try.func8, Try.ntmps8
    go_wp2_with fail
    refine H1.out.mono ?_
    rintro e w1 ⟨rfl, rfl⟩
    go_wp2_with fail
    refine H2.out.mono ?_
    rintro e w1 ⟨rfl, rfl⟩
    go_wp2_with fail
    go_loopw [7, 27] (fun v i wr => ∃ k : Nat, k ≤ n ∧ i = .int .i64 k ∧ Hid (Own w.heap.size wr v (tl.take k)) ∧ Hid (Below w.heap.size w wr)) (fun _ i _ => n - (intOf i).toNat)
    case atStart => exact ⟨0, Nat.zero_le _, rfl, HG0, Below.refl _ _⟩
    case round =>
      clear HG0
      obtain ⟨k, hk, rfl, HO, HW⟩ := hrel
      by_cases hlt : k < n
      · obtain ⟨ad, rfl, hab, hc⟩ := HC.out k hlt
        have hc2 := (HW.out.cell (p := ad.add k) (by rw [add_block]; exact hab)).trans hc
        have HS3 := Lib.hid (HM.out k hlt)
        have hg := HG.out k
        have HKL : Hid ((tl.take k).length = k) := by show _ = _; rw [List.length_take, HTL.out]; omega
        generalize c.getD k 0 = y at *
        have hm0 : 0 ≤ (n16 : Int) * y := Int.mul_nonneg (by omega) hg.1
        have hm1 : (n16 : Int) * y ≤ 65536 * 1000 := Int.mul_le_mul (by omega) hg.2 hg.1 (by decide)
        have hwm : IntKind.i64.wrap ((n16 : Int) * y) = (n16 : Int) * y := IntWalk.i64_in _ (by omega)
        generalize hs : (n16 : Int) * y = s at *
        have HSS := Lib.hid hs
        generalize hzk : tl.take k = zk at *
        have hmx : zk.length + 1 ≤ maxLen := by unfold maxLen; rw [HKL.out]; omega
        have hby : (zk.length + 1) * 8 ≤ 140737488355328 := by rw [HKL.out]; omega
        have HOW2 := Lib.hid (HO.out.alloc (.cells #[.int .i64 s] 3))
        have hsz := HW.out.size
        have hszA : w.heap.size ≤ (wr.alloc (.cells #[.int .i64 s] 3)).heap.size := by simp; omega
        clear hzk hc
        go_wp2_with (at_builtin; refine wpList_append_own _ rfl _ _ 22 rfl w.heap.size 3 i0 (.int .i64 0) 1 8 Try.underlying22 hi hz0 hz1 hz2 rfl (by decide) _ _ _ rfl HOW2.out ⟨wr.heap.size, 0, none⟩ 1 1 [.int .i64 s] rfl rfl (one_new wr s) (one_cell s) hmx hby hszA ?_)
        intro v2 w2 hown2 hgrow2 _
        have HO3 : Hid (Own w.heap.size w2 v2 (tl.take (k + 1))) := by show Own _ _ _ _; rw [HS3.out]; exact Own.of_own rfl hown2
        have HB3 := Lib.hid ((HW.out.alloc hsz (.cells #[.int .i64 s] 3)).grown hgrow2 (by simp; omega) HO.out.blk)
        clear hown2 hgrow2 HOW2
        go_wp2_with fail
        go_roundw
        case rel => exact ⟨k + 1, by omega, by go_num, HO3, HB3⟩
        case measure => simp [intOf]; omega
      · have hk' : k = n := by omega
        subst hk'
        have HG4 : Hid (Li wr u7 tl) := by
          show Li _ _ _
          have := HO.out
          rw [List.take_of_length_le (by rw [HTL.out]; exact Nat.le_refl _)] at this
          exact this.li
        rcases HLE.out with ⟨he, hf⟩ | ⟨he, hf⟩
        · subst he
          have HFB := Lib.hid hf
          clear HLE hf
          go_wp2_with fail
          refine (KT.out _ HW.out).mono ?_
          rintro e w1 ⟨rfl, rfl⟩
          go_wp2_with fail
          refine (KF.out _ _ HW.out HG4.out).mono ?_
          rintro e w1 ⟨rfl, rfl⟩
          have hqq : (fb == decide (rn ≤ (n16 : Int))) = true := by rw [HFB.out]; simp
          clear HFB
          go_wp2_with fail
          refine (H6.out _).mono ?_
          rintro e w4 ⟨rfl, b4⟩
          have B4 := Lib.hid (over HW.out b4)
          clear b4
          go_wp2_with fail
          go_ret
          exact ⟨rfl, B4.out⟩
        · subst he hf
          clear HLE
          go_wp2_with fail
          refine (KT.out _ HW.out).mono ?_
          rintro e w1 ⟨rfl, rfl⟩
          go_wp2_with fail
          refine (KF.out _ _ HW.out HG4.out).mono ?_
          rintro e w1 ⟨rfl, rfl⟩
          go_wp2_with fail
          refine (H6.out _).mono ?_
          rintro e w4 ⟨rfl, b4⟩
          have B4 := Lib.hid (over HW.out b4)
          clear b4
          go_wp2_with fail
          go_ret
          exact ⟨rfl, B4.out⟩
  · exact loadsLeast_ex u v a c n16 hla (by omega) h w hu hv

end Go.Proofs.Ytcnagcdgpgijaaa.L
