/-
  DERIVED. HE: a part of the base of layer 13 (made by pack.py).
-/
import Derived.Test.YtnapmildbodigaaDoorRefTrav1
import Derived.Maps.AppendAt
import Derived.Test.YtnapmildbodigaaDoorHB
/-! The walks of lorryref07's Arrive, Latest, Same. -/
namespace Go.Proofs.YtnapmildbodigaaDoor.T
open Go.RowKit
set_option maxRecDepth 8000

theorem Ok.first {l : List (Int × Int)} (h : Ok l) : ∀ k, k < l.length → (l.getD 0 (0, 0)).1 ≤ (l.getD k (0, 0)).1
  | 0, _ => Int.le_refl _
  | k + 1, hk => by
    have h1 := h.first k (by omega)
    have h2 := (h.lt hk).1
    omega
theorem Ok.firstlt {l : List (Int × Int)} (h : Ok l) {k : Nat} (hk : k + 1 < l.length) : (l.getD 0 (0, 0)).1 < (l.getD (k + 1) (0, 0)).1 := by
  have h1 := h.first k (by omega)
  have h2 := (h.lt hk).1
  omega
/-- a contract of Check where the list is a travel function -/
theorem refCheck_yes (u : Value) (l : List (Int × Int)) (hl : l.length ≤ 1000000) (h : okB l = true) (w : World) (hu : Ps w u l) :
    Calls Tryd.prog 66 #[u] w fun e w' => ∃ oa c, e = .returned (.slice oa 0 c) ∧ Below w.heap.size w w' := by
  refine (refCheck_n u l hl w hu).mono ?_
  rintro e w' ⟨oa, c, rfl, -, hb⟩
  have : (faults l).length = 0 := by unfold okB at h; exact of_decide_eq_true h
  exact ⟨oa, c, by rw [this], hb⟩
theorem refCheck_no (u : Value) (l : List (Int × Int)) (hl : l.length ≤ 1000000) (h : okB l = false) (w : World) (hu : Ps w u l) :
    Calls Tryd.prog 66 #[u] w fun e w' => ∃ oa m c, e = .returned (.slice oa (m + 1) c) ∧ Below w.heap.size w w' := by
  refine (refCheck_n u l hl w hu).mono ?_
  rintro e w' ⟨oa, c, rfl, -, hb⟩
  have : (faults l).length ≠ 0 := by unfold okB at h; exact of_decide_eq_false h
  exact ⟨oa, (faults l).length - 1, c, by rw [Nat.sub_add_cancel (by omega)], hb⟩

theorem refArrive_no (u : Value) (l : List (Int × Int)) (t : Int) (hl : l.length ≤ 1000000) (h : okB l = false) (w : World) (hu : Ps w u l) :
    Calls Tryd.prog 87 #[u, .int .i64 t] w fun e w' => e = .returned (.int .i64 (arrF l t)) ∧ Below w.heap.size w w' := by
  have HR : Hid (0 = arrF l t) := (arrF_not h).symm
  have K := Lib.hid (refCheck_no u l hl h w hu)
  generalize arrF l t = r at *
  clear hu h
  go_enter Tryd.func87, Tryd.ntmps87
  go_wp2_with fail
  refine K.out.mono ?_
  rintro e w1 ⟨oa, m, c, rfl, b1⟩
  have hm : (0 : Int) < ((m + 1 : Nat) : Int) := by omega
  go_wp2_with fail
  go_ret
  exact ⟨ret_int HR.out, b1⟩
theorem refArrive_day (u : Value) (l : List (Int × Int)) (t : Int) (hl : l.length ≤ 1000000) (h : okB l = true) (ht : t < 0 ∨ 1073741824 < t) (w : World) (hu : Ps w u l) :
    Calls Tryd.prog 87 #[u, .int .i64 t] w fun e w' => e = .returned (.int .i64 (arrF l t)) ∧ Below w.heap.size w w' := by
  have HR : Hid (0 = arrF l t) := (arrF_day ht).symm
  have K := Lib.hid (refCheck_yes u l hl h w hu)
  generalize arrF l t = r at *
  clear hu h
  rcases ht with ht | ht
  · go_enter Tryd.func87, Tryd.ntmps87
    go_wp2_with fail
    refine K.out.mono ?_
    rintro e w1 ⟨oa, c, rfl, b1⟩
    go_wp2_with fail
    go_ret
    exact ⟨ret_int HR.out, b1⟩
  · have ht2 : ¬ t < 0 := by omega
    go_enter Tryd.func87, Tryd.ntmps87
    go_wp2_with fail
    refine K.out.mono ?_
    rintro e w1 ⟨oa, c, rfl, b1⟩
    go_wp2_with fail
    go_ret
    exact ⟨ret_int HR.out, b1⟩

set_option maxHeartbeats 1600000 in
theorem refArrive_early (u : Value) (l : List (Int × Int)) (t : Int) (hl : l.length ≤ 1000000) (h : okB l = true) (ht0 : 0 ≤ t) (ht1 : t ≤ 1073741824) (hf : t < (l.getD 0 (0, 0)).1) (w : World) (hu : Ps w u l) :
    Calls Tryd.prog 87 #[u, .int .i64 t] w fun e w' => e = .returned (.int .i64 (arrF l t)) ∧ Below w.heap.size w w' := by
  have hO := (okB_iff l).1 h
  have hr : arrF l t = t + ((l.getD 0 (0, 0)).2 - (l.getD 0 (0, 0)).1) := (arrF_yes hO ht0 ht1).trans (arr_first hO.least hf)
  have HF := Lib.hid hr
  generalize arrF l t = r at *
  have K := Lib.hid (refCheck_yes u l hl h w hu)
  have HU := Lib.hid hu
  obtain ⟨oa, c, rfl, ha⟩ := hu
  have HA := Lib.hid ha
  have HG := Lib.hid (fun i (hi : i < l.length) => hO.at hi)
  have HE := Lib.hid (fun i (hi : i < l.length) => Int.lt_of_lt_of_le hf (hO.first i hi))
  have hn1 := hO.least
  generalize hn : l.length = n at *
  clear ha hn h hO hf hr
  have ht2 : ¬ t < 0 := by omega
  have ht3 : ¬ 1073741824 < t := by omega
  go_enter Tryd.func87, Tryd.ntmps87
  go_wp2_with fail
  refine K.out.mono ?_
  rintro e w1 ⟨oa1, c1, rfl, b1⟩
  have B1 := Lib.hid b1
  clear b1 K
  go_wp2_with fail
  go_loopw [5] (fun i wr => ∃ k : Nat, k < n ∧ i = .int .i64 k ∧ Hid (Below w.heap.size w wr)) (fun i _ => n - (intOf i).toNat)
  case atStart => exact ⟨0, by omega, rfl, B1⟩
  case round =>
    clear B1
    obtain ⟨k, hk, rfl, HW⟩ := hrel
    have hsz := HW.out.size
    by_cases hlt : k + 1 < n
    · obtain ⟨b, o, rfl, hab, hc0, hc1⟩ := HA.out k hk
      obtain ⟨b', o', hbo, -, he0, he1⟩ := HA.out (k + 1) hlt
      obtain ⟨rfl, rfl⟩ : b = b' ∧ o = o' := by simpa using hbo
      have d0 := (HW.out.cell (p := ⟨b, o + k * 2, none⟩) hab).trans hc0
      have d1 := (HW.out.cell (p := ⟨b, o + k * 2 + 1, none⟩) hab).trans hc1
      have d2 := (HW.out.cell (p := ⟨b, o + (k + 1) * 2, none⟩) hab).trans he0
      have d3 := (HW.out.cell (p := ⟨b, o + (k + 1) * 2 + 1, none⟩) hab).trans he1
      unfold pT at d0 d2
      unfold pA at d1 d3
      have hx := HE.out k hk
      have hkI : (k : Int) + 1 < (n : Int) := by omega
      have hbw : b < wr.heap.size := by omega
      clear hc0 hc1 he0 he1 hbo
      generalize l.getD k (0, 0) = p at *
      generalize l.getD (k + 1) (0, 0) = q at *
      obtain ⟨x, y⟩ := p
      obtain ⟨x', y'⟩ := q
      simp only at d0 d1 d2 d3 hx
      have hx2 : ¬ x ≤ t := by omega
      have HB := Lib.hid ((HW.out.alloc hsz (.cells #[.int .i64 x, .int .i64 y] 92)).alloc (by simp; omega) (.cells #[.int .i64 x', .int .i64 y'] 92))
      go_wp2_with fail
      go_roundw
      case rel => exact ⟨k + 1, hlt, by go_num, HB⟩
      case measure => simp [intOf]; omega
    · have hk' : n = k + 1 := by omega
      subst hk'
      obtain ⟨b, o, rfl, hab, hc0, hc1⟩ := HA.out 0 (by omega)
      have d0 := (HW.out.cell (p := ⟨b, o + 0 * 2, none⟩) hab).trans hc0
      have d1 := (HW.out.cell (p := ⟨b, o + 0 * 2 + 1, none⟩) hab).trans hc1
      have hx := HE.out 0 (by omega)
      have hg := HG.out 0 (by omega)
      unfold pT at d0
      unfold pA at d1
      simp only [Nat.zero_mul, Nat.add_zero] at d0 d1
      clear hc0 hc1
      generalize l.getD 0 (0, 0) = q at *
      obtain ⟨x, y⟩ := q
      simp only at d0 d1 hx hg HF
      have hx2 : ¬ x < t := by omega
      have hF : t + y - x = r := by have := HF.out; omega
      have HB := Lib.hid (HW.out.alloc hsz (.cells #[.int .i64 x, .int .i64 y] 92))
      go_wp2_with fail
      go_ret
      exact ⟨rfl, HB.out⟩

set_option maxHeartbeats 1600000 in
theorem refArrive_late (u : Value) (l : List (Int × Int)) (t : Int) (hl : l.length ≤ 1000000) (h : okB l = true) (ht0 : 0 ≤ t) (ht1 : t ≤ 1073741824) (hf : (l.getD 0 (0, 0)).1 ≤ t) (w : World) (hu : Ps w u l) :
    Calls Tryd.prog 87 #[u, .int .i64 t] w fun e w' => e = .returned (.int .i64 (arrF l t)) ∧ Below w.heap.size w w' := by
  have hO := (okB_iff l).1 h
  have hr : arrF l t = arr l t := arrF_yes hO ht0 ht1
  have hb := arr_ge hO ht0
  rw [hr]
  clear hr
  have HX0 : Hid (arr l t = arrX l t (0 + 1)) := by show _ = _; rw [← arrX_step hO.least hf]; rfl
  generalize arr l t = r at *
  have K := Lib.hid (refCheck_yes u l hl h w hu)
  have HU := Lib.hid hu
  obtain ⟨oa, c, rfl, ha⟩ := hu
  have HA := Lib.hid ha
  have HG := Lib.hid (fun i (hi : i < l.length) => hO.at hi)
  have HL := Lib.hid (fun i (hi : i + 1 < l.length) => hO.lt hi)
  have HFL := Lib.hid (fun i (hi : i + 1 < l.length) => hO.firstlt hi)
  have HS := Lib.hid (fun k (hk : k < l.length) ht => arrX_step (t := t) hk ht)
  have HXE := Lib.hid (fun k hk => arrX_end (l := l) (t := t) (k := k) hk)
  have HXM := Lib.hid (fun k hk => arrX_mid (l := l) (t := t) (k := k) hk)
  have HFT := Lib.hid hf
  have hn1 := hO.least
  generalize hn : l.length = n at *
  clear ha hn h hO hf
  have ht2 : ¬ t < 0 := by omega
  have ht3 : ¬ 1073741824 < t := by omega
  go_enter Tryd.func87, Tryd.ntmps87
  go_wp2_with fail
  refine K.out.mono ?_
  rintro e w1 ⟨oa1, c1, rfl, b1⟩
  have B1 := Lib.hid b1
  clear b1 K
  go_wp2_with fail
  go_loopw [5] (fun i wr => ∃ k : Nat, k < n ∧ i = .int .i64 k ∧ Hid ((l.getD k (0, 0)).1 ≤ t) ∧ Hid (r = arrX l t (k + 1)) ∧ Hid (Below w.heap.size w wr)) (fun i _ => n - (intOf i).toNat)
  case atStart => exact ⟨0, by omega, rfl, HFT, HX0, B1⟩
  case round =>
    clear B1 HX0
    obtain ⟨k, hk, rfl, HT, HX, HW⟩ := hrel
    have hsz := HW.out.size
    by_cases hlt : k + 1 < n
    · obtain ⟨b, o, rfl, hab, hc0, hc1⟩ := HA.out k hk
      obtain ⟨b', o', hbo, -, he0, he1⟩ := HA.out (k + 1) hlt
      obtain ⟨rfl, rfl⟩ : b = b' ∧ o = o' := by simpa using hbo
      have d0 := (HW.out.cell (p := ⟨b, o + k * 2, none⟩) hab).trans hc0
      have d1 := (HW.out.cell (p := ⟨b, o + k * 2 + 1, none⟩) hab).trans hc1
      have d2 := (HW.out.cell (p := ⟨b, o + (k + 1) * 2, none⟩) hab).trans he0
      have d3 := (HW.out.cell (p := ⟨b, o + (k + 1) * 2 + 1, none⟩) hab).trans he1
      unfold pT at d0 d2
      unfold pA at d1 d3
      have hx := HT.out
      have hkI : (k : Int) + 1 < (n : Int) := by omega
      have hbw : b < wr.heap.size := by omega
      have hg := HG.out k hk
      have hg2 := HG.out (k + 1) hlt
      have hll := HL.out k hlt
      have HS2 := Lib.hid (HS.out (k + 1) hlt)
      have HM2 := Lib.hid (HXM.out k hlt)
      clear hc0 hc1 he0 he1 hbo HT
      generalize l.getD k (0, 0) = p at *
      by_cases hq : t < (l.getD (k + 1) (0, 0)).1
      · have HQ : Hid (quo p (l.getD (k + 1) (0, 0)) t = r) := by show _ = _; rw [HX.out]; exact (HM2.out hq).symm
        generalize l.getD (k + 1) (0, 0) = q at *
        obtain ⟨x, y⟩ := p
        obtain ⟨x', y'⟩ := q
        simp only at d0 d1 d2 d3 hx hg hg2 hll hq
        have HB := Lib.hid ((HW.out.alloc hsz (.cells #[.int .i64 x, .int .i64 y] 92)).alloc (by simp; omega) (.cells #[.int .i64 x', .int .i64 y'] 92))
        have g1 := quo_ge (p := (x, y)) (q := (x', y')) (t := t) hx (by show x < x'; omega) hll.2
        have g2 := quo_le (p := (x, y)) (q := (x', y')) (t := t) hx (by show t ≤ x'; omega) (by show x < x'; omega) hll.2
        rw [HQ.out] at g1 g2
        simp only at g1 g2
        obtain ⟨hll1, hll2⟩ := hll
        obtain ⟨hga, hgb, hgc, hgd⟩ := hg
        obtain ⟨hge, hgf, hgg, hgh⟩ := hg2
        obtain ⟨s, hs⟩ : ∃ s, t - x = s := ⟨_, rfl⟩
        obtain ⟨e, he⟩ : ∃ e, y' - y = e := ⟨_, rfl⟩
        obtain ⟨D, hD⟩ : ∃ D, x' - x = D := ⟨_, rfl⟩
        obtain ⟨m, hm⟩ : ∃ m, s * e = m := ⟨_, rfl⟩
        have hm0 : 0 ≤ m := by rw [← hm]; exact Int.mul_nonneg (by omega) (by omega)
        have hm1 : m ≤ 33554432 := by
          rw [← hm]
          have := Int.mul_le_mul (show s ≤ 4096 by omega) (show e ≤ 8192 by omega) (by omega) (by omega)
          omega
        obtain ⟨A1, hA1⟩ : ∃ A1, m + x' = A1 := ⟨_, rfl⟩
        obtain ⟨A2, hA2⟩ : ∃ A2, A1 - x = A2 := ⟨_, rfl⟩
        obtain ⟨A3, hA3⟩ : ∃ A3, A2 - 1 = A3 := ⟨_, rfl⟩
        obtain ⟨z, hz⟩ : ∃ z, A3 / D = z := ⟨_, rfl⟩
        have hyz : y + z = r := by
          rw [← HQ.out]
          unfold quo
          show y + z = y + ((t - x) * (y' - y) + (x' - x) - 1) / (x' - x)
          rw [hs, he, hD, hm, ← hz]
          congr 2
          omega
        have hA30 : 0 ≤ A3 := by omega
        have hDz : (D == 0) = false := ne_eqI (by omega)
        have hxt : x ≤ t := hx
        clear HQ HX HS2 HM2
        go_wp2_with fail
        go_quiet (fail)
        go_wp2_with fail
        go_ret
        exact ⟨rfl, below_drewN HB.out _⟩
      · have hq2 : (l.getD (k + 1) (0, 0)).1 ≤ t := by omega
        have HX2 : Hid (r = arrX l t (k + 1 + 1)) := by show _ = _; rw [HX.out, HS2.out hq2]
        have HT2 := Lib.hid hq2
        have hgg : ∃ q, l.getD (k + 1) (0, 0) = q := ⟨_, rfl⟩
        obtain ⟨q, hqq⟩ := hgg
        rw [hqq] at d2 d3 hq hq2
        obtain ⟨x, y⟩ := p
        obtain ⟨x', y'⟩ := q
        simp only at d0 d1 d2 d3 hx hq hq2
        clear hqq HM2 HS2 HX hg hg2 hll
        have HB := Lib.hid ((HW.out.alloc hsz (.cells #[.int .i64 x, .int .i64 y] 92)).alloc (by simp; omega) (.cells #[.int .i64 x', .int .i64 y'] 92))
        have hq3 : ¬ t < x' := by omega
        go_wp2_with fail
        go_roundw
        case rel => exact ⟨k + 1, hlt, by go_num, HT2, HX2, HB⟩
        case measure => simp [intOf]; omega
    · have hk' : n = k + 1 := by omega
      subst hk'
      have HE := Lib.hid (HXE.out k rfl)
      rw [← HX.out] at HE
      obtain ⟨b, o, rfl, hab, hc0, hc1⟩ := HA.out 0 (by omega)
      obtain ⟨b', o', hbo, -, he0, he1⟩ := HA.out k (by omega)
      obtain ⟨rfl, rfl⟩ : b = b' ∧ o = o' := by simpa using hbo
      have d0 := (HW.out.cell (p := ⟨b, o + 0 * 2, none⟩) hab).trans hc0
      have d1 := (HW.out.cell (p := ⟨b, o + 0 * 2 + 1, none⟩) hab).trans hc1
      have d2 := (HW.out.cell (p := ⟨b, o + k * 2, none⟩) hab).trans he0
      have d3 := (HW.out.cell (p := ⟨b, o + k * 2 + 1, none⟩) hab).trans he1
      unfold pT at d0 d2
      unfold pA at d1 d3
      simp only [Nat.zero_mul, Nat.add_zero] at d0 d1
      have hx := HFT.out
      have hg := HG.out 0 (by omega)
      have hg2 := HG.out k (by omega)
      have hbw : b < wr.heap.size := by omega
      have HFK : Hid (¬ (l.getD 0 (0, 0)).1 < t → l.getD k (0, 0) = l.getD 0 (0, 0)) := by
        intro hne
        cases k with
        | zero => rfl
        | succ j =>
          have h1 := HFL.out j (by omega)
          have h2 := HT.out
          omega
      clear hc0 hc1 he0 he1 hbo HT
      generalize l.getD 0 (0, 0) = p at *
      generalize l.getD k (0, 0) = q at *
      by_cases hlate : p.1 < t
      · obtain ⟨x, y⟩ := p
        obtain ⟨x', y'⟩ := q
        simp only at d0 d1 d2 d3 hx hg hg2 hlate HE
        obtain ⟨hga, hgb, hgc, hgd⟩ := hg
        obtain ⟨hge, hgf, hgg, hgh⟩ := hg2
        have hF : t + y' - x' = r := by have := HE.out; omega
        have HB2 := Lib.hid (HW.out.alloc hsz (.cells #[.int .i64 x', .int .i64 y'] 92))
        go_wp2_with fail
        go_ret
        exact ⟨rfl, HB2.out⟩
      · obtain rfl := HFK.out hlate
        obtain ⟨x, y⟩ := q
        simp only at d0 d1 hx hg hlate HE
        obtain ⟨hga, hgb, hgc, hgd⟩ := hg
        have hF : t + y - x = r := by have := HE.out; omega
        have HB := Lib.hid (HW.out.alloc hsz (.cells #[.int .i64 x, .int .i64 y] 92))
        clear d2 d3
        go_wp2_with fail
        go_ret
        exact ⟨rfl, HB.out⟩

theorem refArrive_n (u : Value) (l : List (Int × Int)) (t : Int) (hl : l.length ≤ 1000000) (w : World) (hu : Ps w u l) :
    Calls Tryd.prog 87 #[u, .int .i64 t] w fun e w' => e = .returned (.int .i64 (arrF l t)) ∧ Below w.heap.size w w' := by
  cases h : okB l
  · exact refArrive_no u l t hl h w hu
  · by_cases ht : t < 0 ∨ 1073741824 < t
    · exact refArrive_day u l t hl h ht w hu
    · by_cases hf : t < (l.getD 0 (0, 0)).1
      · exact refArrive_early u l t hl h (by omega) (by omega) hf w hu
      · exact refArrive_late u l t hl h (by omega) (by omega) (by omega) w hu


end Go.Proofs.YtnapmildbodigaaDoor.T



/-! How many points a list of arcs has. -/
namespace Go.Proofs.YtnapmildbodigaaDoor.T

/-- how many points the arcs have -/
def wtA (l : List ArcT) : Nat := (l.map fun a => a.tr.length + a.sl.length).sum
theorem wt_le {l : List ArcT} {i : Nat} (h : i < l.length) : (l.getD i arc0).tr.length + (l.getD i arc0).sl.length ≤ wtA l := by
  unfold wtA
  induction l generalizing i with
  | nil => cases h
  | cons a l ih =>
    rw [List.map_cons, List.sum_cons]
    cases i with
    | zero => simp
    | succ i =>
      have := ih (i := i) (by simpa using h)
      simp only [List.getD_cons_succ]
      omega
theorem wt_take {l : List ArcT} {k : Nat} (h : k < l.length) : wtA (l.take (k + 1)) = wtA (l.take k) + ((l.getD k arc0).tr.length + (l.getD k arc0).sl.length) := by
  unfold wtA
  rw [take_more (d := arc0) h, List.map_append, List.sum_append]
  simp
theorem wt_take_le (l : List ArcT) (k : Nat) : wtA (l.take k) ≤ wtA l := by
  unfold wtA
  conv => rhs; rw [← List.take_append_drop k l]
  rw [List.map_append, List.sum_append]
  omega

end Go.Proofs.YtnapmildbodigaaDoor.T



/-! The walks of the specification's tick, Place, Arrive; the laws' tick. -/
namespace Go.Proofs.YtnapmildbodigaaDoor.T
open Go.RowKit
set_option maxRecDepth 8000

theorem refTick_n (t : Int) (w : World) : Calls Tryd.prog 67 #[.int .i64 t] w fun e w' => e = .returned (.bool (tickB t)) ∧ w = w' := by
  by_cases h1 : 0 ≤ t
  · have HR : Hid (decide (t ≤ 4096) = tickB t) := by show _ = _; unfold tickB; rw [decide_eq_true h1, Bool.true_and]
    generalize tickB t = r at *
    go_enter Tryd.func67, Tryd.ntmps67
    go_wp2_with fail
    go_ret
    exact ⟨ret_bool HR.out, rfl⟩
  · have HR : Hid (false = tickB t) := by show _ = _; unfold tickB; rw [decide_eq_false h1, Bool.false_and]
    have h2 : t < 0 := by omega
    generalize tickB t = r at *
    go_enter Tryd.func67, Tryd.ntmps67
    go_wp2_with fail
    go_ret
    exact ⟨ret_bool HR.out, rfl⟩
theorem refPlace_n (op : Option Addr) (n c : Nat) (va : Value) (x : Int) (w : World) :
    Calls Tryd.prog 82 #[.agg #[.slice op n c, va], .int .i64 x] w fun e w' => e = .returned (.bool (inB n x)) ∧ Below w.heap.size w w' := by
  by_cases h1 : 0 ≤ x
  · have HR : Hid (decide (x < n) = inB n x) := by show _ = _; unfold inB; rw [decide_eq_true h1, Bool.true_and]
    generalize inB n x = r at *
    go_enter Tryd.func82, Tryd.ntmps82
    go_wp2_with fail
    go_ret
    exact ⟨ret_bool HR.out, by go_grown⟩
  · have HR : Hid (false = inB n x) := by show _ = _; unfold inB; rw [decide_eq_false h1, Bool.false_and]
    have h2 : x < 0 := by omega
    generalize inB n x = r at *
    go_enter Tryd.func82, Tryd.ntmps82
    go_wp2_with fail
    go_ret
    exact ⟨ret_bool HR.out, by go_grown⟩

/-! ### Arrive -/
theorem slowB_tick {l : List (Int × Int)} {k : Nat} (h : slowB l k = true) : (0 ≤ (l.getD k (0, 0)).1 ∧ (l.getD k (0, 0)).1 ≤ 4096) ∧ 0 ≤ (l.getD k (0, 0)).2 ∧ (l.getD k (0, 0)).2 ≤ 4096 := by
  unfold slowB at h
  rw [Bool.and_eq_true, Bool.and_eq_true] at h
  obtain ⟨⟨h1, h2⟩, -⟩ := h
  unfold tickB at h1 h2
  simp only [Bool.and_eq_true, decide_eq_true_iff] at h1 h2
  exact ⟨h1, h2⟩
theorem slowS_step {l : List (Int × Int)} {t : Int} {k : Nat} (hk : k < l.length) : slowS (l.drop k) t = (if (l.getD k (0, 0)).1 ≤ t then (l.getD k (0, 0)).2 else 0) + slowS (l.drop (k + 1)) t := by
  rw [drop_more (d := (0, 0)) hk]; rfl
theorem slowS_le (t : Int) : ∀ (l : List (Int × Int)), (∀ k, k < l.length → 0 ≤ (l.getD k (0, 0)).2 ∧ (l.getD k (0, 0)).2 ≤ 4096) → 0 ≤ slowS l t ∧ slowS l t ≤ 4096 * l.length
  | [], _ => by simp [slowS]
  | p :: l, h => by
    have h0 := h 0 (by simp)
    have h1 := slowS_le t l (fun k hk => by have := h (k + 1) (by simpa using hk); simpa using this)
    simp only [List.getD_cons_zero] at h0
    show 0 ≤ (if p.1 ≤ t then p.2 else 0) + slowS l t ∧ (if p.1 ≤ t then p.2 else 0) + slowS l t ≤ _
    rw [List.length_cons]
    split <;> omega
set_option maxHeartbeats 800000 in
theorem refArrive9_n (np : Nat) (a : ArcT) (vt vs : Value) (t : Int) (ha : ArcOk np a) (ht0 : 0 ≤ t) (ht1 : t ≤ 1073741824) (w : World) (ht : Ps w vt a.tr) (hs : Ps w vs a.sl) :
    Calls Tryd.prog 84 #[.agg #[.int .i64 a.fr, .int .i64 a.to, .int .i64 a.prof, .int .i64 a.miles, vt, vs], .int .i64 t] w fun e w' => e = .returned (.int .i64 (arrA a t)) ∧ Below w.heap.size w w' := by
  have KA := Lib.hid (fun w hu => refArrive_n vt a.tr t (by have := ha.tr.most; omega) w hu)
  rw [arrF_yes ha.tr ht0 ht1] at KA
  have hb := arr_ge ha.tr ht0
  have HE : Hid (arr a.tr t + slowS (a.sl.drop 0) t = arrA a t) := rfl
  have HQ := Lib.hid (fun k (hk : k < a.sl.length) => slowB_tick (ha.slow k hk))
  have hlen := ha.len
  have HT := Lib.hid ht
  have HS := Lib.hid hs
  have HST := Lib.hid (fun k (hk : k < a.sl.length) => slowS_step (t := t) hk)
  have HZ : Hid (slowS (a.sl.drop a.sl.length) t = 0) := by show _ = _; rw [List.drop_length]; rfl
  obtain ⟨fr, dt, prof, miles, tr, sl⟩ := a
  simp only at KA HE HQ hlen HT HS HST HZ hb ⊢
  clear ha ht hs
  obtain ⟨ob, c, hvs, -⟩ := HS.out
  subst hvs
  generalize arrA _ t = r at *
  generalize arr tr t = x0 at *
  obtain ⟨W0, hW0⟩ : ∃ W0, w.alloc (.cells #[.int .i64 fr, .int .i64 dt, .int .i64 prof, .int .i64 miles, vt, .slice ob sl.length c] 95) = W0 := ⟨_, rfl⟩
  have B0 : Hid (Below w.heap.size w W0) := by show Below _ _ _; rw [← hW0]; exact below_alloc _ _
  have a4 : W0.cell? ⟨w.heap.size, 4, none⟩ = some vt := by rw [← hW0]; simp
  have a5 : W0.cell? ⟨w.heap.size, 5, none⟩ = some (.slice ob sl.length c) := by rw [← hW0]; simp
  have hsz : w.heap.size < W0.heap.size := by rw [← hW0]; simp
  generalize hn : sl.length = n at *
  go_enter Tryd.func84, Tryd.ntmps84
  go_wp2_with fail
  clear hW0
  refine (KA.out _ (HT.out.below B0.out)).mono ?_
  rintro e w1 ⟨rfl, b1⟩
  have B1 := Lib.hid (over B0.out b1)
  have c5 := (b1.cell (p := ⟨w.heap.size, 5, none⟩) hsz).trans a5
  have hsz1 : w.heap.size < w1.heap.size := Nat.lt_of_lt_of_le hsz b1.size
  have S1 := Lib.hid (HS.out.below B1.out)
  clear b1 B0 a4 a5 hsz HT HS KA
  obtain ⟨oa3, c3, h3, ha3⟩ := S1.out
  simp only [Value.slice.injEq] at h3
  obtain ⟨rfl, -, rfl⟩ := h3
  rw [hn] at ha3
  have A1 := Lib.hid ha3
  clear ha3 S1
  go_wp2_with fail
  go_loopw [5, 6] (fun x i wr => ∃ (k : Nat) (z : Int), k ≤ n ∧ x = .int .i64 z ∧ i = .int .i64 k ∧ 0 ≤ z ∧ z ≤ t + 8192 + 4096 * k ∧ Hid (z + slowS (sl.drop k) t = r) ∧ w1 = wr) (fun _ i _ => n - (intOf i).toNat)
  case atStart => exact ⟨0, x0, Nat.zero_le _, rfl, rfl, by omega, by omega, HE, rfl⟩
  case round =>
    clear HE
    obtain ⟨k, z, hk, rfl, rfl, hz0, hz1, HI, rfl⟩ := hrel
    by_cases hlt : k < n
    · obtain ⟨b, o, rfl, hab, d0, d1⟩ := A1.out k hlt
      obtain ⟨⟨q0, q1⟩, q2, q3⟩ := HQ.out k hlt
      have hst := HST.out k hlt
      unfold pT at d0
      unfold pA at d1
      generalize sl.getD k (0, 0) = p at *
      obtain ⟨x, y⟩ := p
      simp only at d0 d1 q0 q1 q2 q3 hst
      by_cases hx : x ≤ t
      · have HI2 : Hid (z + y + slowS (sl.drop (k + 1)) t = r) := by show _ = _; rw [← HI.out, hst, if_pos hx]; omega
        clear hst HI
        go_wp2_with fail
        go_roundw
        case rel => exact ⟨k + 1, z + y, by omega, rfl, by go_num, by omega, by omega, HI2, by first | rfl | trivial⟩
        case measure => simp [intOf]; omega
      · have HI2 : Hid (z + slowS (sl.drop (k + 1)) t = r) := by show _ = _; rw [← HI.out, hst, if_neg hx]; omega
        clear hst HI
        go_wp2_with fail
        go_roundw
        case rel => exact ⟨k + 1, z, by omega, rfl, by go_num, by omega, by omega, HI2, by first | rfl | trivial⟩
        case measure => simp [intOf]; omega
    · have hk' : k = n := by omega
      subst hk'
      have HR : Hid (z = r) := by show _ = _; rw [← HI.out, HZ.out]; omega
      go_wp2_with fail
      go_ret
      exact ⟨ret_int HR.out, B1.out⟩

end Go.Proofs.YtnapmildbodigaaDoor.T



