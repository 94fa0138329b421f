/-
  DERIVED. The walk of LoadsAdd.
-/
import Derived.Test.YtcnagcdgpgijaaaLoadLaw
namespace Go.Proofs.Ytcnagcdgpgijaaa.L
open Go.RowKit
set_option maxRecDepth 8000

theorem combL_len (f : Int → Int → Int) (a b : List Int) : (combL f a b).length ≤ a.length := by
  unfold combL
  split
  · rename_i h; rw [zip_len f rfl h.symm]; exact Nat.le_refl _
  · simp
theorem gathL_len (f : Int → Int → Int) (ls : List (List Int)) (d : Int) : (gathL f ls d).length ≤ 3 := by
  unfold gathL
  split
  · rename_i h
    have h1 := (evenB_iff ls d).1 h
    rw [accL_len f d.toNat ls (fun l hl => by have := h1.2 l hl; omega)]
    omega
  · simp
theorem getD_far {l : List Int} {k : Nat} (h : l.length ≤ k) : l.getD k 0 = 0 := by
  rw [List.getD_eq_getElem?_getD, List.getElem?_eq_none h]; rfl
theorem within_any {m : Int} (hm : 0 ≤ m) {l : List Int} (h : withinB m l = true) (k : Nat) : -m ≤ l.getD k 0 ∧ l.getD k 0 ≤ m := by
  by_cases hk : k < l.length
  · exact within_getD h hk
  · rw [getD_far (by omega)]; omega
theorem fit_add' {a b : List Int} (ha : withinB 1073741824 a = true) (hb : withinB 1073741824 b = true) : Fit2 addF a b := by
  intro k _
  have h1 := within_any (by decide) ha k
  have h2 := within_any (by decide) hb k
  unfold addF; omega
theorem fit_sub' {a b : List Int} (ha : withinB 1073741824 a = true) (hb : withinB 1073741824 b = true) : Fit2 subF a b := by
  intro k _
  have h1 := within_any (by decide) ha k
  have h2 := within_any (by decide) hb k
  unfold subF; omega
theorem fit_sum {ls : List (List Int)} (h : allB 1073741824 ls = true) : FitC addF ls := by
  intro d k hk
  obtain ⟨h1, h2⟩ := allB_iff.1 h
  have h3 := col_bound (m := 1073741824) (by decide) addF (fun _ _ => rfl) ls d h2 k hk
  omega
theorem max_within {m : Int} (hm : 0 ≤ m) (ls : List (List Int)) (d : Nat) (h : ∀ l ∈ ls, withinB m l = true) : ∀ k, k ≤ ls.length → -m ≤ colL maxF (ls.take k) d ∧ colL maxF (ls.take k) d ≤ m := by
  intro k
  induction k with
  | zero => intro _; rw [col_zero]; omega
  | succ k ih =>
    intro hk
    have h1 := ih (by omega)
    rw [col_step maxF ls d k (by omega)]
    have h2 := within_any hm (h (ls.getD k []) (getD_mem (by omega))) d
    show -m ≤ max _ _ ∧ max _ _ ≤ m
    omega
theorem fit_max {ls : List (List Int)} (h : allB 1073741824 ls = true) : FitC maxF ls := by
  intro d k hk
  have h3 := max_within (m := 1073741824) (by decide) ls d (allB_iff.1 h).2 k hk
  omega

theorem loadsAdd_ex (u v x : Value) (a b : List Int) (ls : List (List Int)) (d : Int) (hla : a.length ≤ 1000000000000000) (hlb : b.length ≤ 1000000000000000) (hll : ls.length ≤ 1000000000000000) (hle : ∀ l ∈ ls, l.length ≤ 1000000000000000)
    (h : ¬ (withinB 1073741824 a = true ∧ withinB 1073741824 b = true ∧ allB 1073741824 ls = true)) (w : World) (hu : Li w u a) (hv : Li w v b) (hx : Ls w x ls) :
    Calls Try.prog 4 #[u, v, x, .int .i64 d] w fun e w' => e = .returned (.bool true) ∧ Below w.heap.size w w' := by
  have H1 := Lib.hid (within_n 1073741824 (by decide) (by decide) u a hla w hu)
  have H2 := Lib.hid (within_n 1073741824 (by decide) (by decide) v b hlb w hv)
  have H3 := Lib.hid (all_n x ls 1073741824 (by decide) (by decide) hll hle w hx)
  have H6 := Lib.hid examples_n
  clear hu hv hx
  cases h1 : withinB 1073741824 a
  · rw [h1] at H1
    clear h1 h
    go_enter Try.func4, Try.ntmps4
    go_wp2_with fail
    refine H1.out.mono ?_
    rintro e w1 ⟨rfl, rfl⟩
    go_wp2_with fail
    refine (H6.out _).mono ?_
    rintro e w2 ⟨rfl, b2⟩
    go_wp2_with fail
    go_ret
    exact ⟨rfl, b2⟩
  · cases h2 : withinB 1073741824 b
    · rw [h1] at H1
      rw [h2] at H2
      clear h1 h2 h
      go_enter Try.func4, Try.ntmps4
      go_wp2_with fail
      refine H1.out.mono ?_
      rintro e w1 ⟨rfl, rfl⟩
      go_wp2_with fail
      refine H2.out.mono ?_
      rintro e w1 ⟨rfl, rfl⟩
      go_wp2_with fail
      refine (H6.out _).mono ?_
      rintro e w2 ⟨rfl, b2⟩
      go_wp2_with fail
      go_ret
      exact ⟨rfl, b2⟩
    · cases h3 : allB 1073741824 ls
      · rw [h1] at H1
        rw [h2] at H2
        rw [h3] at H3
        clear h1 h2 h3 h
        go_enter Try.func4, Try.ntmps4
        go_wp2_with fail
        refine H1.out.mono ?_
        rintro e w1 ⟨rfl, rfl⟩
        go_wp2_with fail
        refine H2.out.mono ?_
        rintro e w1 ⟨rfl, rfl⟩
        go_wp2_with fail
        refine H3.out.mono ?_
        rintro e w1 ⟨rfl, rfl⟩
        go_wp2_with fail
        refine (H6.out _).mono ?_
        rintro e w2 ⟨rfl, b2⟩
        go_wp2_with fail
        go_ret
        exact ⟨rfl, b2⟩
      · exact absurd ⟨h1, h2, h3⟩ h
set_option maxHeartbeats 1600000 in
theorem loadsAdd_walk (u v x : Value) (a b : List Int) (ls : List (List Int)) (d : Int) (hla : a.length * 8 ≤ 140737488355328) (hlb : b.length ≤ 1000000000000000) (hll : ls.length ≤ 1000000000000000) (hle : ∀ l ∈ ls, l.length ≤ 1000000000000000)
    (w : World) (hu : Li w u a) (hv : Li w v b) (hx : Ls w x ls) :
    Calls Try.prog 4 #[u, v, x, .int .i64 d] w fun e w' => e = .returned (.bool true) ∧ Below w.heap.size w w' := by
  have hla9 : a.length ≤ 1000000000000000 := by omega
  by_cases h : withinB 1073741824 a = true ∧ withinB 1073741824 b = true ∧ allB 1073741824 ls = true
  · obtain ⟨h1, h2, h3⟩ := h
    have H1 := Lib.hid (within_n 1073741824 (by decide) (by decide) u a hla9 w hu)
    have H2 := Lib.hid (within_n 1073741824 (by decide) (by decide) v b hlb w hv)
    have H3 := Lib.hid (all_n x ls 1073741824 (by decide) (by decide) hll hle w hx)
    rw [h1] at H1
    rw [h2] at H2
    rw [h3] at H3
    have K1 := Lib.hid (fun w1 (B : Below w.heap.size w w1) => loadAdd_n u v a b hla (fit_add' h1 h2) w1 (hu.below B) (hv.below B))
    have K2 := Lib.hid (fun w1 (B : Below w.heap.size w w1) => refAdd_n u v a b hla (fit_add' h1 h2) w1 (hu.below B) (hv.below B))
    have K3 := Lib.hid (fun w1 (B : Below w.heap.size w w1) => loadSub_n u v a b hla (fit_sub' h1 h2) w1 (hu.below B) (hv.below B))
    have K4 := Lib.hid (fun w1 (B : Below w.heap.size w w1) => refSub_n u v a b hla (fit_sub' h1 h2) w1 (hu.below B) (hv.below B))
    have K5 := Lib.hid (fun w1 (B : Below w.heap.size w w1) => loadMost_n x ls d hll w1 (hx.below B))
    have K6 := Lib.hid (fun w1 (B : Below w.heap.size w w1) => refMost_n x ls d hll (fit_max h3) w1 (hx.below B))
    have K7 := Lib.hid (fun w1 (B : Below w.heap.size w w1) => loadSum_n x ls d hll (fit_sum h3) w1 (hx.below B))
    have K8 := Lib.hid (fun w1 (B : Below w.heap.size w w1) => refSum_n x ls d hll (fit_sum h3) w1 (hx.below B))
    have H6 := Lib.hid examples_n
    have L1 := Nat.le_trans (combL_len addF a b) hla9
    have L2 := Nat.le_trans (combL_len subF a b) hla9
    have L3 : (gathL maxF ls d).length ≤ 1000000000000000 := Nat.le_trans (gathL_len maxF ls d) (by decide)
    have L4 : (gathL addF ls d).length ≤ 1000000000000000 := Nat.le_trans (gathL_len addF ls d) (by decide)
    generalize combL addF a b = r1 at *
    generalize combL subF a b = r2 at *
    generalize gathL maxF ls d = r3 at *
    generalize gathL addF ls d = r4 at *
    generalize combE a b = x1 at *
    generalize gathE ls d = x2 at *
    have S1 := Lib.hid (fun u v => same_n u v r1 r1 L1)
    have S2 := Lib.hid (fun u v => same_n u v r2 r2 L2)
    have S3 := Lib.hid (fun u v => same_n u v r3 r3 L3)
    have S4 := Lib.hid (fun u v => same_n u v r4 r4 L4)
    rw [show decide (r1 = r1) = true by simp] at S1
    rw [show decide (r2 = r2) = true by simp] at S2
    rw [show decide (r3 = r3) = true by simp] at S3
    rw [show decide (r4 = r4) = true by simp] at S4
    have hx1 : (x1 == x1) = true := by simp
    have hx2 : (x2 == x2) = true := by simp
    clear h1 h2 h3 hu hv hx L1 L2 L3 L4
    go_enter Try.func4, Try.ntmps4
    go_wp2_with fail
    refine H1.out.mono ?_
    rintro e w1 ⟨rfl, rfl⟩
    go_wp2_with fail
    refine H2.out.mono ?_
    rintro e w1 ⟨rfl, rfl⟩
    go_wp2_with fail
    refine H3.out.mono ?_
    rintro e w1 ⟨rfl, rfl⟩
    go_wp2_with fail
    refine (K1.out _ (Below.refl _ _)).mono ?_
    rintro e w1 ⟨v1, rfl, hv1, b1⟩
    have B1 := Lib.hid b1
    have V1 := Lib.hid hv1.li
    clear hv1 b1
    go_wp2_with fail
    refine (K2.out _ B1.out).mono ?_
    rintro e w2 ⟨v2, rfl, hv2, b2⟩
    have B2 := Lib.hid (over B1.out b2)
    have V2 := Lib.hid hv2.li
    have V1 := Lib.hid (V1.out.below b2)
    clear hv2 b2 B1
    go_wp2_with fail
    refine (K3.out _ B2.out).mono ?_
    rintro e w3 ⟨v3, rfl, hv3, b3⟩
    have B3 := Lib.hid (over B2.out b3)
    have V3 := Lib.hid hv3.li
    have V1 := Lib.hid (V1.out.below b3)
    have V2 := Lib.hid (V2.out.below b3)
    clear hv3 b3 B2
    go_wp2_with fail
    refine (K4.out _ B3.out).mono ?_
    rintro e w4 ⟨v4, rfl, hv4, b4⟩
    have B4 := Lib.hid (over B3.out b4)
    have V4 := Lib.hid hv4.li
    have V1 := Lib.hid (V1.out.below b4)
    have V2 := Lib.hid (V2.out.below b4)
    have V3 := Lib.hid (V3.out.below b4)
    clear hv4 b4 B3
    go_wp2_with fail
    refine (K5.out _ B4.out).mono ?_
    rintro e w5 ⟨v5, rfl, hv5, b5⟩
    have B5 := Lib.hid (over B4.out b5)
    have V5 := Lib.hid hv5.li
    have V1 := Lib.hid (V1.out.below b5)
    have V2 := Lib.hid (V2.out.below b5)
    have V3 := Lib.hid (V3.out.below b5)
    have V4 := Lib.hid (V4.out.below b5)
    clear hv5 b5 B4
    go_wp2_with fail
    refine (K6.out _ B5.out).mono ?_
    rintro e w6 ⟨v6, rfl, hv6, b6⟩
    have B6 := Lib.hid (over B5.out b6)
    have V6 := Lib.hid hv6.li
    have V1 := Lib.hid (V1.out.below b6)
    have V2 := Lib.hid (V2.out.below b6)
    have V3 := Lib.hid (V3.out.below b6)
    have V4 := Lib.hid (V4.out.below b6)
    have V5 := Lib.hid (V5.out.below b6)
    clear hv6 b6 B5
    go_wp2_with fail
    refine (K7.out _ B6.out).mono ?_
    rintro e w7 ⟨v7, rfl, hv7, b7⟩
    have B7 := Lib.hid (over B6.out b7)
    have V7 := Lib.hid hv7.li
    have V1 := Lib.hid (V1.out.below b7)
    have V2 := Lib.hid (V2.out.below b7)
    have V3 := Lib.hid (V3.out.below b7)
    have V4 := Lib.hid (V4.out.below b7)
    have V5 := Lib.hid (V5.out.below b7)
    have V6 := Lib.hid (V6.out.below b7)
    clear hv7 b7 B6
    go_wp2_with fail
    refine (K8.out _ B7.out).mono ?_
    rintro e w8 ⟨v8, rfl, hv8, b8⟩
    have B8 := Lib.hid (over B7.out b8)
    have V8 := Lib.hid hv8.li
    have V1 := Lib.hid (V1.out.below b8)
    have V2 := Lib.hid (V2.out.below b8)
    have V3 := Lib.hid (V3.out.below b8)
    have V4 := Lib.hid (V4.out.below b8)
    have V5 := Lib.hid (V5.out.below b8)
    have V6 := Lib.hid (V6.out.below b8)
    have V7 := Lib.hid (V7.out.below b8)
    clear hv8 b8 B7
    go_wp2_with fail
    refine (S1.out _ _ _ V1.out V2.out).mono ?_
    rintro e w9 ⟨rfl, b9⟩
    have B9 := Lib.hid (over B8.out b9)
    have V3 := Lib.hid (V3.out.below b9)
    have V4 := Lib.hid (V4.out.below b9)
    have V5 := Lib.hid (V5.out.below b9)
    have V6 := Lib.hid (V6.out.below b9)
    have V7 := Lib.hid (V7.out.below b9)
    have V8 := Lib.hid (V8.out.below b9)
    clear b9 B8
    go_wp2_with fail
    refine (S2.out _ _ _ V3.out V4.out).mono ?_
    rintro e w10 ⟨rfl, b10⟩
    have B10 := Lib.hid (over B9.out b10)
    have V5 := Lib.hid (V5.out.below b10)
    have V6 := Lib.hid (V6.out.below b10)
    have V7 := Lib.hid (V7.out.below b10)
    have V8 := Lib.hid (V8.out.below b10)
    clear b10 B9
    go_wp2_with fail
    refine (S3.out _ _ _ V5.out V6.out).mono ?_
    rintro e w11 ⟨rfl, b11⟩
    have B11 := Lib.hid (over B10.out b11)
    have V7 := Lib.hid (V7.out.below b11)
    have V8 := Lib.hid (V8.out.below b11)
    clear b11 B10
    go_wp2_with fail
    refine (S4.out _ _ _ V7.out V8.out).mono ?_
    rintro e w12 ⟨rfl, b12⟩
    have B12 := Lib.hid (over B11.out b12)
    clear b12 B11
    go_wp2_with fail
    refine (H6.out _).mono ?_
    rintro e w13 ⟨rfl, b13⟩
    have B13 := Lib.hid (over B12.out b13)
    clear b13 B12
    go_wp2_with fail
    go_ret
    exact ⟨rfl, B13.out⟩
  · exact loadsAdd_ex u v x a b ls d hla9 hlb hll hle h w hu hv hx

end Go.Proofs.Ytcnagcdgpgijaaa.L
