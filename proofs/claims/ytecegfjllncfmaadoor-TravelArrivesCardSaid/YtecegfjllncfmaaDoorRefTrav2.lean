/-
  DERIVED. The walks of lorryref07's Arrive, Latest, Same.
-/
import Derived.Test.YtecegfjllncfmaaDoorRefTrav1
namespace Go.Proofs.YtecegfjllncfmaaDoor.T
open Go.RowKit
set_option maxRecDepth 8000

theorem below_set {B : Nat} {a w : World} {g : Nat} (h : Below B a w) (hg : B ≤ g) (k : Nat) (u : Value) : Below B a (w.setCell ⟨g, k, none⟩ u) := h.setCell hg u
theorem Ok.first {l : List (Int × Int)} (h : Ok l) : ∀ k, k < l.length → (l.getD 0 (0, 0)).1 ≤ (l.getD k (0, 0)).1
  | 0, _ => Int.le_refl _
  | k + 1, hk => by
    have h1 := h.first k (by omega)
    have h2 := (h.lt hk).1
    omega
theorem Ok.firstlt {l : List (Int × Int)} (h : Ok l) {k : Nat} (hk : k + 1 < l.length) : (l.getD 0 (0, 0)).1 < (l.getD (k + 1) (0, 0)).1 := by
  have h1 := h.first k (by omega)
  have h2 := (h.lt hk).1
  omega
/-- a contract of Check where the list is a travel function -/
theorem refCheck_yes (u : Value) (l : List (Int × Int)) (hl : l.length ≤ 100) (h : okB l = true) (w : World) (hu : Ps w u l) :
    Calls Tryd.prog 11 #[u] w fun e w' => ∃ oa c, e = .returned (.slice oa 0 c) ∧ Below w.heap.size w w' := by
  refine (refCheck_n u l hl w hu).mono ?_
  rintro e w' ⟨oa, c, rfl, -, hb⟩
  have : (faults l).length = 0 := by unfold okB at h; exact of_decide_eq_true h
  exact ⟨oa, c, by rw [this], hb⟩
theorem refCheck_no (u : Value) (l : List (Int × Int)) (hl : l.length ≤ 100) (h : okB l = false) (w : World) (hu : Ps w u l) :
    Calls Tryd.prog 11 #[u] w fun e w' => ∃ oa m c, e = .returned (.slice oa (m + 1) c) ∧ Below w.heap.size w w' := by
  refine (refCheck_n u l hl w hu).mono ?_
  rintro e w' ⟨oa, c, rfl, -, hb⟩
  have : (faults l).length ≠ 0 := by unfold okB at h; exact of_decide_eq_false h
  exact ⟨oa, (faults l).length - 1, c, by rw [Nat.sub_add_cancel (by omega)], hb⟩

theorem refArrive_no (u : Value) (l : List (Int × Int)) (t : Int) (hl : l.length ≤ 100) (h : okB l = false) (w : World) (hu : Ps w u l) :
    Calls Tryd.prog 15 #[u, .int .i64 t] w fun e w' => e = .returned (.int .i64 (arrF l t)) ∧ Below w.heap.size w w' := by
  have HR : Hid (0 = arrF l t) := (arrF_not h).symm
  have K := Lib.hid (refCheck_no u l hl h w hu)
  generalize arrF l t = r at *
  clear hu h
  go_enter Tryd.func15, Tryd.ntmps15
  go_wp2_with fail
  refine K.out.mono ?_
  rintro e w1 ⟨oa, m, c, rfl, b1⟩
  have hm : (0 : Int) < ((m + 1 : Nat) : Int) := by omega
  go_wp2_with fail
  go_ret
  exact ⟨ret_int HR.out, b1⟩
theorem refArrive_day (u : Value) (l : List (Int × Int)) (t : Int) (hl : l.length ≤ 100) (h : okB l = true) (ht : t < 0 ∨ 1073741824 < t) (w : World) (hu : Ps w u l) :
    Calls Tryd.prog 15 #[u, .int .i64 t] w fun e w' => e = .returned (.int .i64 (arrF l t)) ∧ Below w.heap.size w w' := by
  have HR : Hid (0 = arrF l t) := (arrF_day ht).symm
  have K := Lib.hid (refCheck_yes u l hl h w hu)
  generalize arrF l t = r at *
  clear hu h
  rcases ht with ht | ht
  · go_enter Tryd.func15, Tryd.ntmps15
    go_wp2_with fail
    refine K.out.mono ?_
    rintro e w1 ⟨oa, c, rfl, b1⟩
    go_wp2_with fail
    go_ret
    exact ⟨ret_int HR.out, b1⟩
  · have ht2 : ¬ t < 0 := by omega
    go_enter Tryd.func15, Tryd.ntmps15
    go_wp2_with fail
    refine K.out.mono ?_
    rintro e w1 ⟨oa, c, rfl, b1⟩
    go_wp2_with fail
    go_ret
    exact ⟨ret_int HR.out, b1⟩

set_option maxHeartbeats 1600000 in
theorem refArrive_early (u : Value) (l : List (Int × Int)) (t : Int) (hl : l.length ≤ 100) (h : okB l = true) (ht0 : 0 ≤ t) (ht1 : t ≤ 1073741824) (hf : t < (l.getD 0 (0, 0)).1) (w : World) (hu : Ps w u l) :
    Calls Tryd.prog 15 #[u, .int .i64 t] w fun e w' => e = .returned (.int .i64 (arrF l t)) ∧ Below w.heap.size w w' := by
  have hO := (okB_iff l).1 h
  have hr : arrF l t = t + ((l.getD 0 (0, 0)).2 - (l.getD 0 (0, 0)).1) := (arrF_yes hO ht0 ht1).trans (arr_first hO.least hf)
  have HF := Lib.hid hr
  generalize arrF l t = r at *
  have K := Lib.hid (refCheck_yes u l hl h w hu)
  have HU := Lib.hid hu
  obtain ⟨oa, c, rfl, ha⟩ := hu
  have HA := Lib.hid ha
  have HG := Lib.hid (fun i (hi : i < l.length) => hO.at hi)
  have HE := Lib.hid (fun i (hi : i < l.length) => Int.lt_of_lt_of_le hf (hO.first i hi))
  have hn1 := hO.least
  generalize hn : l.length = n at *
  clear ha hn h hO hf hr
  have ht2 : ¬ t < 0 := by omega
  have ht3 : ¬ 1073741824 < t := by omega
  go_enter Tryd.func15, Tryd.ntmps15
  go_wp2_with fail
  refine K.out.mono ?_
  rintro e w1 ⟨oa1, c1, rfl, b1⟩
  have B1 := Lib.hid b1
  clear b1 K
  go_wp2_with fail
  go_loopw [5] (fun i wr => ∃ k : Nat, k < n ∧ i = .int .i64 k ∧ Hid (Below w.heap.size w wr)) (fun i _ => n - (intOf i).toNat)
  case atStart => exact ⟨0, by omega, rfl, B1⟩
  case round =>
    clear B1
    obtain ⟨k, hk, rfl, HW⟩ := hrel
    have hsz := HW.out.size
    by_cases hlt : k + 1 < n
    · obtain ⟨b, o, rfl, hab, hc0, hc1⟩ := HA.out k hk
      obtain ⟨b', o', hbo, -, he0, he1⟩ := HA.out (k + 1) hlt
      obtain ⟨rfl, rfl⟩ : b = b' ∧ o = o' := by simpa using hbo
      have d0 := (HW.out.cell (p := ⟨b, o + k * 2, none⟩) hab).trans hc0
      have d1 := (HW.out.cell (p := ⟨b, o + k * 2 + 1, none⟩) hab).trans hc1
      have d2 := (HW.out.cell (p := ⟨b, o + (k + 1) * 2, none⟩) hab).trans he0
      have d3 := (HW.out.cell (p := ⟨b, o + (k + 1) * 2 + 1, none⟩) hab).trans he1
      unfold pT at d0 d2
      unfold pA at d1 d3
      have hx := HE.out k hk
      have hkI : (k : Int) + 1 < (n : Int) := by omega
      have hbw : b < wr.heap.size := by omega
      clear hc0 hc1 he0 he1 hbo
      generalize l.getD k (0, 0) = p at *
      generalize l.getD (k + 1) (0, 0) = q at *
      obtain ⟨x, y⟩ := p
      obtain ⟨x', y'⟩ := q
      simp only at d0 d1 d2 d3 hx
      have hx2 : ¬ x ≤ t := by omega
      have HB := Lib.hid ((HW.out.alloc hsz (.cells #[.int .i64 x, .int .i64 y] 38)).alloc (by simp; omega) (.cells #[.int .i64 x', .int .i64 y'] 38))
      go_wp2_with fail
      go_roundw
      case rel => exact ⟨k + 1, hlt, by go_num, HB⟩
      case measure => simp [intOf]; omega
    · have hk' : n = k + 1 := by omega
      subst hk'
      obtain ⟨b, o, rfl, hab, hc0, hc1⟩ := HA.out 0 (by omega)
      have d0 := (HW.out.cell (p := ⟨b, o + 0 * 2, none⟩) hab).trans hc0
      have d1 := (HW.out.cell (p := ⟨b, o + 0 * 2 + 1, none⟩) hab).trans hc1
      have hx := HE.out 0 (by omega)
      have hg := HG.out 0 (by omega)
      unfold pT at d0
      unfold pA at d1
      simp only [Nat.zero_mul, Nat.add_zero] at d0 d1
      clear hc0 hc1
      generalize l.getD 0 (0, 0) = q at *
      obtain ⟨x, y⟩ := q
      simp only at d0 d1 hx hg HF
      have hx2 : ¬ x < t := by omega
      have hF : t + y - x = r := by have := HF.out; omega
      have HB := Lib.hid (HW.out.alloc hsz (.cells #[.int .i64 x, .int .i64 y] 38))
      go_wp2_with fail
      go_ret
      exact ⟨rfl, HB.out⟩

set_option maxHeartbeats 1600000 in
theorem refArrive_late (u : Value) (l : List (Int × Int)) (t : Int) (hl : l.length ≤ 100) (h : okB l = true) (ht0 : 0 ≤ t) (ht1 : t ≤ 1073741824) (hf : (l.getD 0 (0, 0)).1 ≤ t) (w : World) (hu : Ps w u l) :
    Calls Tryd.prog 15 #[u, .int .i64 t] w fun e w' => e = .returned (.int .i64 (arrF l t)) ∧ Below w.heap.size w w' := by
  have hO := (okB_iff l).1 h
  have hr : arrF l t = arr l t := arrF_yes hO ht0 ht1
  have hb := arr_ge hO ht0
  rw [hr]
  clear hr
  have HX0 : Hid (arr l t = arrX l t (0 + 1)) := by show _ = _; rw [← arrX_step hO.least hf]; rfl
  generalize arr l t = r at *
  have K := Lib.hid (refCheck_yes u l hl h w hu)
  have HU := Lib.hid hu
  obtain ⟨oa, c, rfl, ha⟩ := hu
  have HA := Lib.hid ha
  have HG := Lib.hid (fun i (hi : i < l.length) => hO.at hi)
  have HL := Lib.hid (fun i (hi : i + 1 < l.length) => hO.lt hi)
  have HFL := Lib.hid (fun i (hi : i + 1 < l.length) => hO.firstlt hi)
  have HS := Lib.hid (fun k (hk : k < l.length) ht => arrX_step (t := t) hk ht)
  have HXE := Lib.hid (fun k hk => arrX_end (l := l) (t := t) (k := k) hk)
  have HXM := Lib.hid (fun k hk => arrX_mid (l := l) (t := t) (k := k) hk)
  have HFT := Lib.hid hf
  have hn1 := hO.least
  generalize hn : l.length = n at *
  clear ha hn h hO hf
  have ht2 : ¬ t < 0 := by omega
  have ht3 : ¬ 1073741824 < t := by omega
  go_enter Tryd.func15, Tryd.ntmps15
  go_wp2_with fail
  refine K.out.mono ?_
  rintro e w1 ⟨oa1, c1, rfl, b1⟩
  have B1 := Lib.hid b1
  clear b1 K
  go_wp2_with fail
  go_loopw [5] (fun i wr => ∃ k : Nat, k < n ∧ i = .int .i64 k ∧ Hid ((l.getD k (0, 0)).1 ≤ t) ∧ Hid (r = arrX l t (k + 1)) ∧ Hid (Below w.heap.size w wr)) (fun i _ => n - (intOf i).toNat)
  case atStart => exact ⟨0, by omega, rfl, HFT, HX0, B1⟩
  case round =>
    clear B1 HX0
    obtain ⟨k, hk, rfl, HT, HX, HW⟩ := hrel
    have hsz := HW.out.size
    by_cases hlt : k + 1 < n
    · obtain ⟨b, o, rfl, hab, hc0, hc1⟩ := HA.out k hk
      obtain ⟨b', o', hbo, -, he0, he1⟩ := HA.out (k + 1) hlt
      obtain ⟨rfl, rfl⟩ : b = b' ∧ o = o' := by simpa using hbo
      have d0 := (HW.out.cell (p := ⟨b, o + k * 2, none⟩) hab).trans hc0
      have d1 := (HW.out.cell (p := ⟨b, o + k * 2 + 1, none⟩) hab).trans hc1
      have d2 := (HW.out.cell (p := ⟨b, o + (k + 1) * 2, none⟩) hab).trans he0
      have d3 := (HW.out.cell (p := ⟨b, o + (k + 1) * 2 + 1, none⟩) hab).trans he1
      unfold pT at d0 d2
      unfold pA at d1 d3
      have hx := HT.out
      have hkI : (k : Int) + 1 < (n : Int) := by omega
      have hbw : b < wr.heap.size := by omega
      have hg := HG.out k hk
      have hg2 := HG.out (k + 1) hlt
      have hll := HL.out k hlt
      have HS2 := Lib.hid (HS.out (k + 1) hlt)
      have HM2 := Lib.hid (HXM.out k hlt)
      clear hc0 hc1 he0 he1 hbo HT
      generalize l.getD k (0, 0) = p at *
      by_cases hq : t < (l.getD (k + 1) (0, 0)).1
      · have HQ : Hid (quo p (l.getD (k + 1) (0, 0)) t = r) := by show _ = _; rw [HX.out]; exact (HM2.out hq).symm
        generalize l.getD (k + 1) (0, 0) = q at *
        obtain ⟨x, y⟩ := p
        obtain ⟨x', y'⟩ := q
        simp only at d0 d1 d2 d3 hx hg hg2 hll hq
        have HB := Lib.hid ((HW.out.alloc hsz (.cells #[.int .i64 x, .int .i64 y] 38)).alloc (by simp; omega) (.cells #[.int .i64 x', .int .i64 y'] 38))
        have g1 := quo_ge (p := (x, y)) (q := (x', y')) (t := t) hx (by show x < x'; omega) hll.2
        have g2 := quo_le (p := (x, y)) (q := (x', y')) (t := t) hx (by show t ≤ x'; omega) (by show x < x'; omega) hll.2
        rw [HQ.out] at g1 g2
        simp only at g1 g2
        obtain ⟨hll1, hll2⟩ := hll
        obtain ⟨hga, hgb, hgc, hgd⟩ := hg
        obtain ⟨hge, hgf, hgg, hgh⟩ := hg2
        obtain ⟨s, hs⟩ : ∃ s, t - x = s := ⟨_, rfl⟩
        obtain ⟨e, he⟩ : ∃ e, y' - y = e := ⟨_, rfl⟩
        obtain ⟨D, hD⟩ : ∃ D, x' - x = D := ⟨_, rfl⟩
        obtain ⟨m, hm⟩ : ∃ m, s * e = m := ⟨_, rfl⟩
        have hm0 : 0 ≤ m := by rw [← hm]; exact Int.mul_nonneg (by omega) (by omega)
        have hm1 : m ≤ 33554432 := by
          rw [← hm]
          have := Int.mul_le_mul (show s ≤ 4096 by omega) (show e ≤ 8192 by omega) (by omega) (by omega)
          omega
        obtain ⟨A1, hA1⟩ : ∃ A1, m + x' = A1 := ⟨_, rfl⟩
        obtain ⟨A2, hA2⟩ : ∃ A2, A1 - x = A2 := ⟨_, rfl⟩
        obtain ⟨A3, hA3⟩ : ∃ A3, A2 - 1 = A3 := ⟨_, rfl⟩
        obtain ⟨z, hz⟩ : ∃ z, A3 / D = z := ⟨_, rfl⟩
        have hyz : y + z = r := by
          rw [← HQ.out]
          unfold quo
          show y + z = y + ((t - x) * (y' - y) + (x' - x) - 1) / (x' - x)
          rw [hs, he, hD, hm, ← hz]
          congr 2
          omega
        have hA30 : 0 ≤ A3 := by omega
        have hDz : (D == 0) = false := ne_eqI (by omega)
        have hxt : x ≤ t := hx
        clear HQ HX HS2 HM2
        go_wp2_with fail
        go_quiet (fail)
        go_wp2_with fail
        go_ret
        exact ⟨rfl, below_drewN HB.out _⟩
      · have hq2 : (l.getD (k + 1) (0, 0)).1 ≤ t := by omega
        have HX2 : Hid (r = arrX l t (k + 1 + 1)) := by show _ = _; rw [HX.out, HS2.out hq2]
        have HT2 := Lib.hid hq2
        have hgg : ∃ q, l.getD (k + 1) (0, 0) = q := ⟨_, rfl⟩
        obtain ⟨q, hqq⟩ := hgg
        rw [hqq] at d2 d3 hq hq2
        obtain ⟨x, y⟩ := p
        obtain ⟨x', y'⟩ := q
        simp only at d0 d1 d2 d3 hx hq hq2
        clear hqq HM2 HS2 HX hg hg2 hll
        have HB := Lib.hid ((HW.out.alloc hsz (.cells #[.int .i64 x, .int .i64 y] 38)).alloc (by simp; omega) (.cells #[.int .i64 x', .int .i64 y'] 38))
        have hq3 : ¬ t < x' := by omega
        go_wp2_with fail
        go_roundw
        case rel => exact ⟨k + 1, hlt, by go_num, HT2, HX2, HB⟩
        case measure => simp [intOf]; omega
    · have hk' : n = k + 1 := by omega
      subst hk'
      have HE := Lib.hid (HXE.out k rfl)
      rw [← HX.out] at HE
      obtain ⟨b, o, rfl, hab, hc0, hc1⟩ := HA.out 0 (by omega)
      obtain ⟨b', o', hbo, -, he0, he1⟩ := HA.out k (by omega)
      obtain ⟨rfl, rfl⟩ : b = b' ∧ o = o' := by simpa using hbo
      have d0 := (HW.out.cell (p := ⟨b, o + 0 * 2, none⟩) hab).trans hc0
      have d1 := (HW.out.cell (p := ⟨b, o + 0 * 2 + 1, none⟩) hab).trans hc1
      have d2 := (HW.out.cell (p := ⟨b, o + k * 2, none⟩) hab).trans he0
      have d3 := (HW.out.cell (p := ⟨b, o + k * 2 + 1, none⟩) hab).trans he1
      unfold pT at d0 d2
      unfold pA at d1 d3
      simp only [Nat.zero_mul, Nat.add_zero] at d0 d1
      have hx := HFT.out
      have hg := HG.out 0 (by omega)
      have hg2 := HG.out k (by omega)
      have hbw : b < wr.heap.size := by omega
      have HFK : Hid (¬ (l.getD 0 (0, 0)).1 < t → l.getD k (0, 0) = l.getD 0 (0, 0)) := by
        intro hne
        cases k with
        | zero => rfl
        | succ j =>
          have h1 := HFL.out j (by omega)
          have h2 := HT.out
          omega
      clear hc0 hc1 he0 he1 hbo HT
      generalize l.getD 0 (0, 0) = p at *
      generalize l.getD k (0, 0) = q at *
      by_cases hlate : p.1 < t
      · obtain ⟨x, y⟩ := p
        obtain ⟨x', y'⟩ := q
        simp only at d0 d1 d2 d3 hx hg hg2 hlate HE
        obtain ⟨hga, hgb, hgc, hgd⟩ := hg
        obtain ⟨hge, hgf, hgg, hgh⟩ := hg2
        have hF : t + y' - x' = r := by have := HE.out; omega
        have HB2 := Lib.hid (HW.out.alloc hsz (.cells #[.int .i64 x', .int .i64 y'] 38))
        go_wp2_with fail
        go_ret
        exact ⟨rfl, HB2.out⟩
      · obtain rfl := HFK.out hlate
        obtain ⟨x, y⟩ := q
        simp only at d0 d1 hx hg hlate HE
        obtain ⟨hga, hgb, hgc, hgd⟩ := hg
        have hF : t + y - x = r := by have := HE.out; omega
        have HB := Lib.hid (HW.out.alloc hsz (.cells #[.int .i64 x, .int .i64 y] 38))
        clear d2 d3
        go_wp2_with fail
        go_ret
        exact ⟨rfl, HB.out⟩

theorem refArrive_n (u : Value) (l : List (Int × Int)) (t : Int) (hl : l.length ≤ 100) (w : World) (hu : Ps w u l) :
    Calls Tryd.prog 15 #[u, .int .i64 t] w fun e w' => e = .returned (.int .i64 (arrF l t)) ∧ Below w.heap.size w w' := by
  cases h : okB l
  · exact refArrive_no u l t hl h w hu
  · by_cases ht : t < 0 ∨ 1073741824 < t
    · exact refArrive_day u l t hl h ht w hu
    · by_cases hf : t < (l.getD 0 (0, 0)).1
      · exact refArrive_early u l t hl h (by omega) (by omega) hf w hu
      · exact refArrive_late u l t hl h (by omega) (by omega) (by omega) w hu

/-! ### Latest, Same -/
theorem refLatest_n (u : Value) (l : List (Int × Int)) (a : Int) (hl : l.length ≤ 100) (w : World) (hu : Ps w u l) :
    Calls Tryd.prog 13 #[u, .int .i64 a] w (LtP (cntF l a) w) := by
  have HU := Lib.hid hu
  cases hok : okB l
  · have K := Lib.hid (refCheck_no u l hl hok w hu)
    have HC : Hid (cntF l a = 0) := by show _ = _; unfold cntF; rw [hok]; rfl
    generalize cntF l a = c at *
    clear hu hok
    go_enter Tryd.func13, Tryd.ntmps13
    go_wp2_with fail
    refine K.out.mono ?_
    rintro e w1 ⟨oa, m, c1, rfl, b1⟩
    have hm : (0 : Int) < ((m + 1 : Nat) : Int) := by omega
    go_wp2_with fail
    go_ret2
    exact ⟨by rw [HC.out]; rfl, b1⟩
  · have K := Lib.hid (refCheck_yes u l hl hok w hu)
    have hO := (okB_iff l).1 hok
    obtain ⟨N, hN⟩ : ∃ N : Nat, N = 4097 := ⟨_, rfl⟩
    have HN := Lib.hid hN
    have HC : Hid (cntA l a N = cntF l a) := by show _ = _; unfold cntF; rw [hok, if_pos rfl, hN]
    clear hN
    have KA := Lib.hid (fun t w hu => refArrive_n u l t hl w hu)
    have KY := Lib.hid (fun (k : Nat) (h : k < 4097) => arrF_yes hO (t := k) (by omega) (by omega))
    have CY := Lib.hid (fun n h => cntA_yes (l := l) (a := a) (n := n) h)
    have CN := Lib.hid (fun n h => cntA_no (l := l) (a := a) (n := n) h)
    generalize cntF l a = c at *
    clear hu hok hO
    go_enter Tryd.func13, Tryd.ntmps13
    go_wp2_with fail
    refine K.out.mono ?_
    rintro e w1 ⟨oa, c1, rfl, b1⟩
    have B1 := Lib.hid b1
    clear b1 K
    go_wp2_with fail
    go_loopw [6] (fun i wr => ∃ k : Nat, k ≤ 4097 ∧ i = .int .i64 ((k : Int) - 1) ∧ Hid (cntA l a k = c) ∧ Hid (Below w.heap.size w wr)) (fun i _ => (intOf i + 1).toNat)
    case atStart => exact ⟨4097, Nat.le_refl _, rfl, by show _ = _; rw [← HC.out, HN.out], B1⟩
    case round =>
      clear B1 HC
      obtain ⟨k, hk, rfl, HC, HW⟩ := hrel
      cases k with
      | zero =>
        have HZ : Hid (c = 0) := HC.out.symm
        go_wp2_with fail
        go_ret2
        exact ⟨by rw [HZ.out]; rfl, HW.out⟩
      | succ j =>
        have hj0 : (0 : Int) ≤ (j : Int) := by omega
        have hjw : ((j + 1 : Nat) : Int) - 1 = (j : Int) := by omega
        rw [hjw]
        have HU1 := Lib.hid (HU.out.below HW.out)
        have KA2 := Lib.hid (fun w hu => KA.out (j : Int) w hu)
        rw [KY.out j (by omega)] at KA2
        have CY2 := Lib.hid (CY.out j)
        have CN2 := Lib.hid (CN.out j)
        generalize arr l (j : Int) = q at *
        by_cases hq : q ≤ a
        · have HE : Hid (c = j + 1) := by show _ = _; rw [← HC.out, CY2.out hq]
          clear CY2 CN2
          go_wp2_with fail
          refine (KA2.out _ HU1.out).mono ?_
          rintro e w2 ⟨rfl, b2⟩
          have B2 := Lib.hid (over HW.out b2)
          clear b2
          go_wp2_with fail
          go_ret2
          exact ⟨by rw [HE.out]; exact ret_lat (latN_succ j).symm (latB_succ j).symm, B2.out⟩
        · have HE : Hid (cntA l a j = c) := by show _ = _; rw [← HC.out, CN2.out (by omega)]
          clear CY2 CN2
          go_wp2_with fail
          refine (KA2.out _ HU1.out).mono ?_
          rintro e w2 ⟨rfl, b2⟩
          have B2 := Lib.hid (over HW.out b2)
          clear b2
          go_wp2_with fail
          go_roundw
          case rel => exact ⟨j, by omega, by go_num, HE, B2⟩
          case measure => simp [intOf]

theorem refSame_n (u v : Value) (a b : List (Int × Int)) (hl : a.length ≤ 100) (hl2 : b.length ≤ 100) (w : World) (hu : Ps w u a) (hv : Ps w v b) :
    Calls Tryd.prog 20 #[u, v] w fun e w' => e = .returned (.bool (sameB a b)) ∧ Below w.heap.size w w' := by
  have HU := Lib.hid hu
  have HV := Lib.hid hv
  cases ha : okB a
  · have KA := Lib.hid (fun w hu => refCheck_no u a hl ha w hu)
    have HR : Hid (false = sameB a b) := by show _ = _; unfold sameB; rw [ha]; rfl
    generalize sameB a b = r at *
    clear hu hv
    go_enter Tryd.func20, Tryd.ntmps20
    go_wp2_with fail
    refine (KA.out _ HU.out).mono ?_
    rintro e w1 ⟨oa, m, c, rfl, b1⟩
    have hm : (0 : Int) < ((m + 1 : Nat) : Int) := by omega
    go_wp2_with fail
    go_ret
    exact ⟨ret_bool HR.out, b1⟩
  · have KA := Lib.hid (fun w hu => refCheck_yes u a hl ha w hu)
    cases hb : okB b
    · have KB := Lib.hid (fun w hu => refCheck_no v b hl2 hb w hu)
      have HR : Hid (false = sameB a b) := by show _ = _; unfold sameB; rw [ha, hb]; rfl
      generalize sameB a b = r at *
      clear hu hv
      go_enter Tryd.func20, Tryd.ntmps20
      go_wp2_with fail
      refine (KA.out _ HU.out).mono ?_
      rintro e w1 ⟨oa, c, rfl, b1⟩
      have B1 := Lib.hid b1
      have HV1 := Lib.hid (HV.out.below b1)
      clear b1
      go_wp2_with fail
      refine (KB.out _ HV1.out).mono ?_
      rintro e w2 ⟨oa2, m, c2, rfl, b2⟩
      have hm : (0 : Int) < ((m + 1 : Nat) : Int) := by omega
      go_wp2_with fail
      go_ret
      exact ⟨ret_bool HR.out, over B1.out b2⟩
    · have KB := Lib.hid (fun w hu => refCheck_yes v b hl2 hb w hu)
      have hA := (okB_iff a).1 ha
      have hB := (okB_iff b).1 hb
      obtain ⟨N, hN⟩ : ∃ N : Nat, N = 4097 := ⟨_, rfl⟩
      have HN := Lib.hid hN
      have HR : Hid (eqN a b N = sameB a b) := by show _ = _; unfold sameB; rw [ha, hb, Bool.true_and, Bool.true_and, hN]
      clear hN
      generalize sameB a b = r at *
      have RA := Lib.hid (fun t w hu => refArrive_n u a t hl w hu)
      have RB := Lib.hid (fun t w hu => refArrive_n v b t hl2 w hu)
      have YA := Lib.hid (fun (k : Nat) (h : k < 4097) => arrF_yes hA (t := k) (by omega) (by omega))
      have YB := Lib.hid (fun (k : Nat) (h : k < 4097) => arrF_yes hB (t := k) (by omega) (by omega))
      have HF := Lib.hid (fun k (hk : k < 4097) h => eqN_false (a := a) (b := b) (k := k) h N (by have := HN.out; omega))
      have HT := Lib.hid (eqN_succ a b)
      have HZ : Hid (eqN a b 0 = true) := rfl
      clear hu hv ha hb hA hB
      go_enter Tryd.func20, Tryd.ntmps20
      go_wp2_with fail
      refine (KA.out _ HU.out).mono ?_
      rintro e w1 ⟨oa, c, rfl, b1⟩
      have B1 := Lib.hid b1
      have HV1 := Lib.hid (HV.out.below b1)
      clear b1
      go_wp2_with fail
      refine (KB.out _ HV1.out).mono ?_
      rintro e w2 ⟨oa2, c2, rfl, b2⟩
      have B2 := Lib.hid (over B1.out b2)
      clear b2 KA KB HV1 B1
      go_wp2_with fail
      go_loopw [5] (fun i wr => ∃ k : Nat, k ≤ 4097 ∧ i = .int .i64 k ∧ Hid (eqN a b k = true) ∧ Hid (Below w.heap.size w wr)) (fun i _ => 4097 - (intOf i).toNat)
      case atStart => exact ⟨0, Nat.zero_le _, rfl, HZ, B2⟩
      case round =>
        clear B2 HZ
        obtain ⟨k, hk, rfl, HE, HW⟩ := hrel
        by_cases hlt : k < 4097
        · have hltI : (k : Int) ≤ 4096 := by omega
          have HU1 := Lib.hid (HU.out.below HW.out)
          have HV1 := Lib.hid (HV.out.below HW.out)
          have RA2 := Lib.hid (fun w hu => RA.out (k : Int) w hu)
          have RB2 := Lib.hid (fun w hu => RB.out (k : Int) w hu)
          rw [YA.out k hlt] at RA2
          rw [YB.out k hlt] at RB2
          have HF2 := Lib.hid (HF.out k hlt)
          have HT2 : Hid (eqN a b (k + 1) = (eqN a b k && decide (arr a k = arr b k))) := HT.out k
          generalize arr a k = x at *
          generalize arr b k = y at *
          by_cases hxy : x = y
          · subst hxy
            have HE2 : Hid (eqN a b (k + 1) = true) := by show _ = _; rw [HT2.out, HE.out]; simp
            have hne : (x != x) = false := by simp
            clear HF2
            go_wp2_with fail
            refine (RA2.out _ HU1.out).mono ?_
            rintro e w3 ⟨rfl, b3⟩
            have B3 := Lib.hid (over HW.out b3)
            have HV3 := Lib.hid (HV1.out.below b3)
            clear b3
            go_wp2_with fail
            refine (RB2.out _ HV3.out).mono ?_
            rintro e w4 ⟨rfl, b4⟩
            have B4 := Lib.hid (over B3.out b4)
            clear b4
            go_wp2_with fail
            go_roundw
            case rel => exact ⟨k + 1, by omega, by go_num, HE2, B4⟩
            case measure => simp [intOf]; omega
          · have HE2 : Hid (false = r) := by show _ = _; rw [← HR.out]; exact (HF2.out hxy).symm
            have hne : (x != y) = true := ne_neI hxy
            clear HF2 hxy
            go_wp2_with fail
            refine (RA2.out _ HU1.out).mono ?_
            rintro e w3 ⟨rfl, b3⟩
            have B3 := Lib.hid (over HW.out b3)
            have HV3 := Lib.hid (HV1.out.below b3)
            clear b3
            go_wp2_with fail
            refine (RB2.out _ HV3.out).mono ?_
            rintro e w4 ⟨rfl, b4⟩
            have B4 := Lib.hid (over B3.out b4)
            clear b4
            go_wp2_with fail
            go_ret
            exact ⟨ret_bool HE2.out, B4.out⟩
        · have hk' : k = 4097 := by omega
          subst hk'
          have HE2 : Hid (true = r) := by show _ = _; rw [← HR.out, HN.out, HE.out]
          go_wp2_with fail
          go_ret
          exact ⟨ret_bool HE2.out, HW.out⟩

end Go.Proofs.YtecegfjllncfmaaDoor.T
