/-
  DERIVED. HE: a part of the base of layer 13 (made by pack.py).
-/
import Derived.Test.YtomebalolmabnaaGreatDoorRefTrav1
import Derived.Maps.AppendAt
import Derived.Test.YtomebalolmabnaaGreatDoorHB
/-! The walks of lorryref07's Arrive, Latest, Same. -/
namespace Go.Proofs.YtomebalolmabnaaGreatDoor.T
open Go.RowKit
set_option maxRecDepth 8000

theorem Ok.first {l : List (Int × Int)} (h : Ok l) : ∀ k, k < l.length → (l.getD 0 (0, 0)).1 ≤ (l.getD k (0, 0)).1
 | 0, _ => Int.le_refl _
 | k + 1, hk => by
  have h1 := h.first k (by omega)
  have h2 := (h.lt hk).1
  omega
theorem Ok.firstlt {l : List (Int × Int)} (h : Ok l) {k : Nat} (hk : k + 1 < l.length) : (l.getD 0 (0, 0)).1 < (l.getD (k + 1) (0, 0)).1 := by
 have h1 := h.first k (by omega)
 have h2 := (h.lt hk).1
 omega
theorem refCheck_yes (u : Value) (l : List (Int × Int)) (hl : l.length ≤ 1000000) (h : okB l = true) (w : World) (hu : Ps w u l) :
  Calls Tryz.prog 61 #[u] w fun e w' => ∃ oa c, e = .returned (.slice oa 0 c) ∧ Below w.heap.size w w' := by
 refine (refCheck_n u l hl w hu).mono ?_
 rintro e w' ⟨oa, c, rfl, -, hb⟩
 have : (faults l).length = 0 := by unfold okB at h; exact of_decide_eq_true h
 exact ⟨oa, c, by rw [this], hb⟩
theorem refCheck_no (u : Value) (l : List (Int × Int)) (hl : l.length ≤ 1000000) (h : okB l = false) (w : World) (hu : Ps w u l) :
  Calls Tryz.prog 61 #[u] w fun e w' => ∃ oa m c, e = .returned (.slice oa (m + 1) c) ∧ Below w.heap.size w w' := by
 refine (refCheck_n u l hl w hu).mono ?_
 rintro e w' ⟨oa, c, rfl, -, hb⟩
 have : (faults l).length ≠ 0 := by unfold okB at h; exact of_decide_eq_false h
 exact ⟨oa, (faults l).length - 1, c, by rw [Nat.sub_add_cancel (by omega)], hb⟩

theorem refArrive_no (u : Value) (l : List (Int × Int)) (t : Int) (hl : l.length ≤ 1000000) (h : okB l = false) (w : World) (hu : Ps w u l) :
  Calls Tryz.prog 91 #[u, .int .i64 t] w fun e w' => e = .returned (.int .i64 (arrF l t)) ∧ Below w.heap.size w w' := by
 have HR : Hid (0 = arrF l t) := (arrF_not h).symm
 have K := Lib.hid (refCheck_no u l hl h w hu)
 generalize arrF l t = r at *
 clear hu h
 go_enter Tryz.func91, Tryz.ntmps91
 go_wp2_with fail
 refine K.out.mono ?_
 rintro e w1 ⟨oa, m, c, rfl, b1⟩
 have hm : (0 : Int) < ((m + 1 : Nat) : Int) := by omega
 go_wp2_with fail
 go_ret
 exact ⟨ret_int HR.out, b1⟩
theorem refArrive_day (u : Value) (l : List (Int × Int)) (t : Int) (hl : l.length ≤ 1000000) (h : okB l = true) (ht : t < 0 ∨ 1073741824 < t) (w : World) (hu : Ps w u l) :
  Calls Tryz.prog 91 #[u, .int .i64 t] w fun e w' => e = .returned (.int .i64 (arrF l t)) ∧ Below w.heap.size w w' := by
 have HR : Hid (0 = arrF l t) := (arrF_day ht).symm
 have K := Lib.hid (refCheck_yes u l hl h w hu)
 generalize arrF l t = r at *
 clear hu h
 rcases ht with ht | ht
 ·go_enter Tryz.func91, Tryz.ntmps91
  go_wp2_with fail
  refine K.out.mono ?_
  rintro e w1 ⟨oa, c, rfl, b1⟩
  go_wp2_with fail
  go_ret
  exact ⟨ret_int HR.out, b1⟩
 ·have ht2 : ¬ t < 0 := by omega
  go_enter Tryz.func91, Tryz.ntmps91
  go_wp2_with fail
  refine K.out.mono ?_
  rintro e w1 ⟨oa, c, rfl, b1⟩
  go_wp2_with fail
  go_ret
  exact ⟨ret_int HR.out, b1⟩

set_option maxHeartbeats 1600000 in
theorem refArrive_early (u : Value) (l : List (Int × Int)) (t : Int) (hl : l.length ≤ 1000000) (h : okB l = true) (ht0 : 0 ≤ t) (ht1 : t ≤ 1073741824) (hf : t < (l.getD 0 (0, 0)).1) (w : World) (hu : Ps w u l) :
  Calls Tryz.prog 91 #[u, .int .i64 t] w fun e w' => e = .returned (.int .i64 (arrF l t)) ∧ Below w.heap.size w w' := by
 have hO := (okB_iff l).1 h
 have hr : arrF l t = t + ((l.getD 0 (0, 0)).2 - (l.getD 0 (0, 0)).1) := (arrF_yes hO ht0 ht1).trans (arr_first hO.least hf)
 have HF := Lib.hid hr
 generalize arrF l t = r at *
 have K := Lib.hid (refCheck_yes u l hl h w hu)
 have HU := Lib.hid hu
 obtain ⟨oa, c, rfl, ha⟩ := hu
 have HA := Lib.hid ha
 have HG := Lib.hid (fun i (hi : i < l.length) => hO.at hi)
 have HE := Lib.hid (fun i (hi : i < l.length) => Int.lt_of_lt_of_le hf (hO.first i hi))
 have hn1 := hO.least
 generalize hn : l.length = n at *
 clear ha hn h hO hf hr
 have ht2 : ¬ t < 0 := by omega
 have ht3 : ¬ 1073741824 < t := by omega
 go_enter Tryz.func91, Tryz.ntmps91
 go_wp2_with fail
 refine K.out.mono ?_
 rintro e w1 ⟨oa1, c1, rfl, b1⟩
 have B1 := Lib.hid b1
 clear b1 K
 go_wp2_with fail
 go_loopw [5] (fun i wr => ∃ k : Nat, k < n ∧ i = .int .i64 k ∧ Hid (Below w.heap.size w wr)) (fun i _ => n - (intOf i).toNat)
 case atStart => exact ⟨0, by omega, rfl, B1⟩
 case round =>
  clear B1
  obtain ⟨k, hk, rfl, HW⟩ := hrel
  have hsz := HW.out.size
  by_cases hlt : k + 1 < n
  ·obtain ⟨b, o, rfl, hab, hc0, hc1⟩ := HA.out k hk
   obtain ⟨b', o', hbo, -, he0, he1⟩ := HA.out (k + 1) hlt
   obtain ⟨rfl, rfl⟩ : b = b' ∧ o = o' := by simpa using hbo
   have d0 := (HW.out.cell (p := ⟨b, o + k * 2, none⟩) hab).trans hc0
   have d1 := (HW.out.cell (p := ⟨b, o + k * 2 + 1, none⟩) hab).trans hc1
   have d2 := (HW.out.cell (p := ⟨b, o + (k + 1) * 2, none⟩) hab).trans he0
   have d3 := (HW.out.cell (p := ⟨b, o + (k + 1) * 2 + 1, none⟩) hab).trans he1
   unfold pT at d0 d2
   unfold pA at d1 d3
   have hx := HE.out k hk
   have hkI : (k : Int) + 1 < (n : Int) := by omega
   have hbw : b < wr.heap.size := by omega
   clear hc0 hc1 he0 he1 hbo
   generalize l.getD k (0, 0) = p at *
   generalize l.getD (k + 1) (0, 0) = q at *
   obtain ⟨x, y⟩ := p
   obtain ⟨x', y'⟩ := q
   simp only at d0 d1 d2 d3 hx
   have hx2 : ¬ x ≤ t := by omega
   have HB := Lib.hid ((HW.out.alloc hsz (.cells #[.int .i64 x, .int .i64 y] 71)).alloc (by simp; omega) (.cells #[.int .i64 x', .int .i64 y'] 71))
   go_wp2_with fail
   go_roundw
   case rel => exact ⟨k + 1, hlt, by go_num, HB⟩
   case measure => simp [intOf]; omega
  ·have hk' : n = k + 1 := by omega
   subst hk'
   obtain ⟨b, o, rfl, hab, hc0, hc1⟩ := HA.out 0 (by omega)
   have d0 := (HW.out.cell (p := ⟨b, o + 0 * 2, none⟩) hab).trans hc0
   have d1 := (HW.out.cell (p := ⟨b, o + 0 * 2 + 1, none⟩) hab).trans hc1
   have hx := HE.out 0 (by omega)
   have hg := HG.out 0 (by omega)
   unfold pT at d0
   unfold pA at d1
   simp only [Nat.zero_mul, Nat.add_zero] at d0 d1
   clear hc0 hc1
   generalize l.getD 0 (0, 0) = q at *
   obtain ⟨x, y⟩ := q
   simp only at d0 d1 hx hg HF
   have hx2 : ¬ x < t := by omega
   have hF : t + y - x = r := by have := HF.out; omega
   have HB := Lib.hid (HW.out.alloc hsz (.cells #[.int .i64 x, .int .i64 y] 71))
   go_wp2_with fail
   go_ret
   exact ⟨rfl, HB.out⟩

set_option maxHeartbeats 1600000 in
theorem refArrive_late (u : Value) (l : List (Int × Int)) (t : Int) (hl : l.length ≤ 1000000) (h : okB l = true) (ht0 : 0 ≤ t) (ht1 : t ≤ 1073741824) (hf : (l.getD 0 (0, 0)).1 ≤ t) (w : World) (hu : Ps w u l) :
  Calls Tryz.prog 91 #[u, .int .i64 t] w fun e w' => e = .returned (.int .i64 (arrF l t)) ∧ Below w.heap.size w w' := by
 have hO := (okB_iff l).1 h
 have hr : arrF l t = arr l t := arrF_yes hO ht0 ht1
 have hb := arr_ge hO ht0
 rw [hr]
 clear hr
 have HX0 : Hid (arr l t = arrX l t (0 + 1)) := by show _ = _; rw [← arrX_step hO.least hf]; rfl
 generalize arr l t = r at *
 have K := Lib.hid (refCheck_yes u l hl h w hu)
 have HU := Lib.hid hu
 obtain ⟨oa, c, rfl, ha⟩ := hu
 have HA := Lib.hid ha
 have HG := Lib.hid (fun i (hi : i < l.length) => hO.at hi)
 have HL := Lib.hid (fun i (hi : i + 1 < l.length) => hO.lt hi)
 have HFL := Lib.hid (fun i (hi : i + 1 < l.length) => hO.firstlt hi)
 have HS := Lib.hid (fun k (hk : k < l.length) ht => arrX_step (t := t) hk ht)
 have HXE := Lib.hid (fun k hk => arrX_end (l := l) (t := t) (k := k) hk)
 have HXM := Lib.hid (fun k hk => arrX_mid (l := l) (t := t) (k := k) hk)
 have HFT := Lib.hid hf
 have hn1 := hO.least
 generalize hn : l.length = n at *
 clear ha hn h hO hf
 have ht2 : ¬ t < 0 := by omega
 have ht3 : ¬ 1073741824 < t := by omega
 go_enter Tryz.func91, Tryz.ntmps91
 go_wp2_with fail
 refine K.out.mono ?_
 rintro e w1 ⟨oa1, c1, rfl, b1⟩
 have B1 := Lib.hid b1
 clear b1 K
 go_wp2_with fail
 go_loopw [5] (fun i wr => ∃ k : Nat, k < n ∧ i = .int .i64 k ∧ Hid ((l.getD k (0, 0)).1 ≤ t) ∧ Hid (r = arrX l t (k + 1)) ∧ Hid (Below w.heap.size w wr)) (fun i _ => n - (intOf i).toNat)
 case atStart => exact ⟨0, by omega, rfl, HFT, HX0, B1⟩
 case round =>
  clear B1 HX0
  obtain ⟨k, hk, rfl, HT, HX, HW⟩ := hrel
  have hsz := HW.out.size
  by_cases hlt : k + 1 < n
  ·obtain ⟨b, o, rfl, hab, hc0, hc1⟩ := HA.out k hk
   obtain ⟨b', o', hbo, -, he0, he1⟩ := HA.out (k + 1) hlt
   obtain ⟨rfl, rfl⟩ : b = b' ∧ o = o' := by simpa using hbo
   have d0 := (HW.out.cell (p := ⟨b, o + k * 2, none⟩) hab).trans hc0
   have d1 := (HW.out.cell (p := ⟨b, o + k * 2 + 1, none⟩) hab).trans hc1
   have d2 := (HW.out.cell (p := ⟨b, o + (k + 1) * 2, none⟩) hab).trans he0
   have d3 := (HW.out.cell (p := ⟨b, o + (k + 1) * 2 + 1, none⟩) hab).trans he1
   unfold pT at d0 d2
   unfold pA at d1 d3
   have hx := HT.out
   have hkI : (k : Int) + 1 < (n : Int) := by omega
   have hbw : b < wr.heap.size := by omega
   have hg := HG.out k hk
   have hg2 := HG.out (k + 1) hlt
   have hll := HL.out k hlt
   have HS2 := Lib.hid (HS.out (k + 1) hlt)
   have HM2 := Lib.hid (HXM.out k hlt)
   clear hc0 hc1 he0 he1 hbo HT
   generalize l.getD k (0, 0) = p at *
   by_cases hq : t < (l.getD (k + 1) (0, 0)).1
   ·have HQ : Hid (quo p (l.getD (k + 1) (0, 0)) t = r) := by show _ = _; rw [HX.out]; exact (HM2.out hq).symm
    generalize l.getD (k + 1) (0, 0) = q at *
    obtain ⟨x, y⟩ := p
    obtain ⟨x', y'⟩ := q
    simp only at d0 d1 d2 d3 hx hg hg2 hll hq
    have HB := Lib.hid ((HW.out.alloc hsz (.cells #[.int .i64 x, .int .i64 y] 71)).alloc (by simp; omega) (.cells #[.int .i64 x', .int .i64 y'] 71))
    have g1 := quo_ge (p := (x, y)) (q := (x', y')) (t := t) hx (by show x < x'; omega) hll.2
    have g2 := quo_le (p := (x, y)) (q := (x', y')) (t := t) hx (by show t ≤ x'; omega) (by show x < x'; omega) hll.2
    rw [HQ.out] at g1 g2
    simp only at g1 g2
    obtain ⟨hll1, hll2⟩ := hll
    obtain ⟨hga, hgb, hgc, hgd⟩ := hg
    obtain ⟨hge, hgf, hgg, hgh⟩ := hg2
    obtain ⟨s, hs⟩ : ∃ s, t - x = s := ⟨_, rfl⟩
    obtain ⟨e, he⟩ : ∃ e, y' - y = e := ⟨_, rfl⟩
    obtain ⟨D, hD⟩ : ∃ D, x' - x = D := ⟨_, rfl⟩
    obtain ⟨m, hm⟩ : ∃ m, s * e = m := ⟨_, rfl⟩
    have hm0 : 0 ≤ m := by rw [← hm]; exact Int.mul_nonneg (by omega) (by omega)
    have hm1 : m ≤ 33554432 := by
     rw [← hm]
     have := Int.mul_le_mul (show s ≤ 4096 by omega) (show e ≤ 8192 by omega) (by omega) (by omega)
     omega
    obtain ⟨A1, hA1⟩ : ∃ A1, m + x' = A1 := ⟨_, rfl⟩
    obtain ⟨A2, hA2⟩ : ∃ A2, A1 - x = A2 := ⟨_, rfl⟩
    obtain ⟨A3, hA3⟩ : ∃ A3, A2 - 1 = A3 := ⟨_, rfl⟩
    obtain ⟨z, hz⟩ : ∃ z, A3 / D = z := ⟨_, rfl⟩
    have hyz : y + z = r := by
     rw [← HQ.out]
     unfold quo
     show y + z = y + ((t - x) * (y' - y) + (x' - x) - 1) / (x' - x)
     rw [hs, he, hD, hm, ← hz]
     congr 2
     omega
    have hA30 : 0 ≤ A3 := by omega
    have hDz : (D == 0) = false := ne_eqI (by omega)
    have hxt : x ≤ t := hx
    clear HQ HX HS2 HM2
    go_wp2_with fail
    go_quiet (fail)
    go_wp2_with fail
    go_ret
    exact ⟨rfl, below_drewN HB.out _⟩
   ·have hq2 : (l.getD (k + 1) (0, 0)).1 ≤ t := by omega
    have HX2 : Hid (r = arrX l t (k + 1 + 1)) := by show _ = _; rw [HX.out, HS2.out hq2]
    have HT2 := Lib.hid hq2
    have hgg : ∃ q, l.getD (k + 1) (0, 0) = q := ⟨_, rfl⟩
    obtain ⟨q, hqq⟩ := hgg
    rw [hqq] at d2 d3 hq hq2
    obtain ⟨x, y⟩ := p
    obtain ⟨x', y'⟩ := q
    simp only at d0 d1 d2 d3 hx hq hq2
    clear hqq HM2 HS2 HX hg hg2 hll
    have HB := Lib.hid ((HW.out.alloc hsz (.cells #[.int .i64 x, .int .i64 y] 71)).alloc (by simp; omega) (.cells #[.int .i64 x', .int .i64 y'] 71))
    have hq3 : ¬ t < x' := by omega
    go_wp2_with fail
    go_roundw
    case rel => exact ⟨k + 1, hlt, by go_num, HT2, HX2, HB⟩
    case measure => simp [intOf]; omega
  ·have hk' : n = k + 1 := by omega
   subst hk'
   have HE := Lib.hid (HXE.out k rfl)
   rw [← HX.out] at HE
   obtain ⟨b, o, rfl, hab, hc0, hc1⟩ := HA.out 0 (by omega)
   obtain ⟨b', o', hbo, -, he0, he1⟩ := HA.out k (by omega)
   obtain ⟨rfl, rfl⟩ : b = b' ∧ o = o' := by simpa using hbo
   have d0 := (HW.out.cell (p := ⟨b, o + 0 * 2, none⟩) hab).trans hc0
   have d1 := (HW.out.cell (p := ⟨b, o + 0 * 2 + 1, none⟩) hab).trans hc1
   have d2 := (HW.out.cell (p := ⟨b, o + k * 2, none⟩) hab).trans he0
   have d3 := (HW.out.cell (p := ⟨b, o + k * 2 + 1, none⟩) hab).trans he1
   unfold pT at d0 d2
   unfold pA at d1 d3
   simp only [Nat.zero_mul, Nat.add_zero] at d0 d1
   have hx := HFT.out
   have hg := HG.out 0 (by omega)
   have hg2 := HG.out k (by omega)
   have hbw : b < wr.heap.size := by omega
   have HFK : Hid (¬ (l.getD 0 (0, 0)).1 < t → l.getD k (0, 0) = l.getD 0 (0, 0)) := by
    intro hne
    cases k with
    | zero => rfl
    | succ j =>
     have h1 := HFL.out j (by omega)
     have h2 := HT.out
     omega
   clear hc0 hc1 he0 he1 hbo HT
   generalize l.getD 0 (0, 0) = p at *
   generalize l.getD k (0, 0) = q at *
   by_cases hlate : p.1 < t
   ·obtain ⟨x, y⟩ := p
    obtain ⟨x', y'⟩ := q
    simp only at d0 d1 d2 d3 hx hg hg2 hlate HE
    obtain ⟨hga, hgb, hgc, hgd⟩ := hg
    obtain ⟨hge, hgf, hgg, hgh⟩ := hg2
    have hF : t + y' - x' = r := by have := HE.out; omega
    have HB2 := Lib.hid (HW.out.alloc hsz (.cells #[.int .i64 x', .int .i64 y'] 71))
    go_wp2_with fail
    go_ret
    exact ⟨rfl, HB2.out⟩
   ·obtain rfl := HFK.out hlate
    obtain ⟨x, y⟩ := q
    simp only at d0 d1 hx hg hlate HE
    obtain ⟨hga, hgb, hgc, hgd⟩ := hg
    have hF : t + y - x = r := by have := HE.out; omega
    have HB := Lib.hid (HW.out.alloc hsz (.cells #[.int .i64 x, .int .i64 y] 71))
    clear d2 d3
    go_wp2_with fail
    go_ret
    exact ⟨rfl, HB.out⟩

theorem refArrive_n (u : Value) (l : List (Int × Int)) (t : Int) (hl : l.length ≤ 1000000) (w : World) (hu : Ps w u l) :
  Calls Tryz.prog 91 #[u, .int .i64 t] w fun e w' => e = .returned (.int .i64 (arrF l t)) ∧ Below w.heap.size w w' := by
 cases h : okB l
 ·exact refArrive_no u l t hl h w hu
 ·by_cases ht : t < 0 ∨ 1073741824 < t
  ·exact refArrive_day u l t hl h ht w hu
  ·by_cases hf : t < (l.getD 0 (0, 0)).1
   ·exact refArrive_early u l t hl h (by omega) (by omega) hf w hu
   ·exact refArrive_late u l t hl h (by omega) (by omega) (by omega) w hu


end Go.Proofs.YtomebalolmabnaaGreatDoor.T




/-! How many points a list of arcs has. -/
namespace Go.Proofs.YtomebalolmabnaaGreatDoor.T

def wtA (l : List ArcT) : Nat := (l.map fun a => a.tr.length + a.sl.length).sum
theorem wt_le {l : List ArcT} {i : Nat} (h : i < l.length) : (l.getD i arc0).tr.length + (l.getD i arc0).sl.length ≤ wtA l := by
 unfold wtA
 induction l generalizing i with
 | nil => cases h
 | cons a l ih =>
  rw [List.map_cons, List.sum_cons]
  cases i with
  | zero => simp
  | succ i =>
   have := ih (i := i) (by simpa using h)
   simp only [List.getD_cons_succ]
   omega
theorem wt_take {l : List ArcT} {k : Nat} (h : k < l.length) : wtA (l.take (k + 1)) = wtA (l.take k) + ((l.getD k arc0).tr.length + (l.getD k arc0).sl.length) := by
 unfold wtA
 rw [take_more (d := arc0) h, List.map_append, List.sum_append]
 simp
theorem wt_take_le (l : List ArcT) (k : Nat) : wtA (l.take k) ≤ wtA l := by
 unfold wtA
 conv => rhs; rw [← List.take_append_drop k l]
 rw [List.map_append, List.sum_append]
 omega

end Go.Proofs.YtomebalolmabnaaGreatDoor.T




/-! The walks of the specification's tick, Place, Arrive; the laws' tick. -/
namespace Go.Proofs.YtomebalolmabnaaGreatDoor.T
open Go.RowKit
set_option maxRecDepth 8000

theorem refTick_n (t : Int) (w : World) : Calls Tryz.prog 62 #[.int .i64 t] w fun e w' => e = .returned (.bool (tickB t)) ∧ w = w' := by
 by_cases h1 : 0 ≤ t
 ·have HR : Hid (decide (t ≤ 4096) = tickB t) := by show _ = _; unfold tickB; rw [decide_eq_true h1, Bool.true_and]
  generalize tickB t = r at *
  go_enter Tryz.func62, Tryz.ntmps62
  go_wp2_with fail
  go_ret
  exact ⟨ret_bool HR.out, rfl⟩
 ·have HR : Hid (false = tickB t) := by show _ = _; unfold tickB; rw [decide_eq_false h1, Bool.false_and]
  have h2 : t < 0 := by omega
  generalize tickB t = r at *
  go_enter Tryz.func62, Tryz.ntmps62
  go_wp2_with fail
  go_ret
  exact ⟨ret_bool HR.out, rfl⟩
theorem refPlace_n (op : Option Addr) (n c : Nat) (va : Value) (x : Int) (w : World) :
  Calls Tryz.prog 79 #[.agg #[.slice op n c, va], .int .i64 x] w fun e w' => e = .returned (.bool (inB n x)) ∧ Below w.heap.size w w' := by
 by_cases h1 : 0 ≤ x
 ·have HR : Hid (decide (x < n) = inB n x) := by show _ = _; unfold inB; rw [decide_eq_true h1, Bool.true_and]
  generalize inB n x = r at *
  go_enter Tryz.func79, Tryz.ntmps79
  go_wp2_with fail
  go_ret
  exact ⟨ret_bool HR.out, by go_grown⟩
 ·have HR : Hid (false = inB n x) := by show _ = _; unfold inB; rw [decide_eq_false h1, Bool.false_and]
  have h2 : x < 0 := by omega
  generalize inB n x = r at *
  go_enter Tryz.func79, Tryz.ntmps79
  go_wp2_with fail
  go_ret
  exact ⟨ret_bool HR.out, by go_grown⟩

theorem slowB_tick {l : List (Int × Int)} {k : Nat} (h : slowB l k = true) : (0 ≤ (l.getD k (0, 0)).1 ∧ (l.getD k (0, 0)).1 ≤ 4096) ∧ 0 ≤ (l.getD k (0, 0)).2 ∧ (l.getD k (0, 0)).2 ≤ 4096 := by
 unfold slowB at h
 rw [Bool.and_eq_true, Bool.and_eq_true] at h
 obtain ⟨⟨h1, h2⟩, -⟩ := h
 unfold tickB at h1 h2
 simp only [Bool.and_eq_true, decide_eq_true_iff] at h1 h2
 exact ⟨h1, h2⟩
theorem slowS_step {l : List (Int × Int)} {t : Int} {k : Nat} (hk : k < l.length) : slowS (l.drop k) t = (if (l.getD k (0, 0)).1 ≤ t then (l.getD k (0, 0)).2 else 0) + slowS (l.drop (k + 1)) t := by
 rw [drop_more (d := (0, 0)) hk]; rfl
theorem slowS_le (t : Int) : ∀ (l : List (Int × Int)), (∀ k, k < l.length → 0 ≤ (l.getD k (0, 0)).2 ∧ (l.getD k (0, 0)).2 ≤ 4096) → 0 ≤ slowS l t ∧ slowS l t ≤ 4096 * l.length
 | [], _ => by simp [slowS]
 | p :: l, h => by
  have h0 := h 0 (by simp)
  have h1 := slowS_le t l (fun k hk => by have := h (k + 1) (by simpa using hk); simpa using this)
  simp only [List.getD_cons_zero] at h0
  show 0 ≤ (if p.1 ≤ t then p.2 else 0) + slowS l t ∧ (if p.1 ≤ t then p.2 else 0) + slowS l t ≤ _
  rw [List.length_cons]
  split <;> omega
set_option maxHeartbeats 800000 in
theorem refArrive9_n (np : Nat) (a : ArcT) (vt vs : Value) (t : Int) (ha : ArcOk np a) (ht0 : 0 ≤ t) (ht1 : t ≤ 1073741824) (w : World) (ht : Ps w vt a.tr) (hs : Ps w vs a.sl) :
  Calls Tryz.prog 81 #[.agg #[.int .i64 a.fr, .int .i64 a.to, .int .i64 a.prof, .int .i64 a.miles, vt, vs], .int .i64 t] w fun e w' => e = .returned (.int .i64 (arrA a t)) ∧ Below w.heap.size w w' := by
 have KA := Lib.hid (fun w hu => refArrive_n vt a.tr t (by have := ha.tr.most; omega) w hu)
 rw [arrF_yes ha.tr ht0 ht1] at KA
 have hb := arr_ge ha.tr ht0
 have HE : Hid (arr a.tr t + slowS (a.sl.drop 0) t = arrA a t) := rfl
 have HQ := Lib.hid (fun k (hk : k < a.sl.length) => slowB_tick (ha.slow k hk))
 have hlen := ha.len
 have HT := Lib.hid ht
 have HS := Lib.hid hs
 have HST := Lib.hid (fun k (hk : k < a.sl.length) => slowS_step (t := t) hk)
 have HZ : Hid (slowS (a.sl.drop a.sl.length) t = 0) := by show _ = _; rw [List.drop_length]; rfl
 obtain ⟨fr, dt, prof, miles, tr, sl⟩ := a
 simp only at KA HE HQ hlen HT HS HST HZ hb ⊢
 clear ha ht hs
 obtain ⟨ob, c, hvs, -⟩ := HS.out
 subst hvs
 generalize arrA _ t = r at *
 generalize arr tr t = x0 at *
 obtain ⟨W0, hW0⟩ : ∃ W0, w.alloc (.cells #[.int .i64 fr, .int .i64 dt, .int .i64 prof, .int .i64 miles, vt, .slice ob sl.length c] 74) = W0 := ⟨_, rfl⟩
 have B0 : Hid (Below w.heap.size w W0) := by show Below _ _ _; rw [← hW0]; exact below_alloc _ _
 have a4 : W0.cell? ⟨w.heap.size, 4, none⟩ = some vt := by rw [← hW0]; simp
 have a5 : W0.cell? ⟨w.heap.size, 5, none⟩ = some (.slice ob sl.length c) := by rw [← hW0]; simp
 have hsz : w.heap.size < W0.heap.size := by rw [← hW0]; simp
 generalize hn : sl.length = n at *
 go_enter Tryz.func81, Tryz.ntmps81
 go_wp2_with fail
 clear hW0
 refine (KA.out _ (HT.out.below B0.out)).mono ?_
 rintro e w1 ⟨rfl, b1⟩
 have B1 := Lib.hid (over B0.out b1)
 have c5 := (b1.cell (p := ⟨w.heap.size, 5, none⟩) hsz).trans a5
 have hsz1 : w.heap.size < w1.heap.size := Nat.lt_of_lt_of_le hsz b1.size
 have S1 := Lib.hid (HS.out.below B1.out)
 clear b1 B0 a4 a5 hsz HT HS KA
 obtain ⟨oa3, c3, h3, ha3⟩ := S1.out
 simp only [Value.slice.injEq] at h3
 obtain ⟨rfl, -, rfl⟩ := h3
 rw [hn] at ha3
 have A1 := Lib.hid ha3
 clear ha3 S1
 go_wp2_with fail
 go_loopw [5, 6] (fun x i wr => ∃ (k : Nat) (z : Int), k ≤ n ∧ x = .int .i64 z ∧ i = .int .i64 k ∧ 0 ≤ z ∧ z ≤ t + 8192 + 4096 * k ∧ Hid (z + slowS (sl.drop k) t = r) ∧ w1 = wr) (fun _ i _ => n - (intOf i).toNat)
 case atStart => exact ⟨0, x0, Nat.zero_le _, rfl, rfl, by omega, by omega, HE, rfl⟩
 case round =>
  clear HE
  obtain ⟨k, z, hk, rfl, rfl, hz0, hz1, HI, rfl⟩ := hrel
  by_cases hlt : k < n
  ·obtain ⟨b, o, rfl, hab, d0, d1⟩ := A1.out k hlt
   obtain ⟨⟨q0, q1⟩, q2, q3⟩ := HQ.out k hlt
   have hst := HST.out k hlt
   unfold pT at d0
   unfold pA at d1
   generalize sl.getD k (0, 0) = p at *
   obtain ⟨x, y⟩ := p
   simp only at d0 d1 q0 q1 q2 q3 hst
   by_cases hx : x ≤ t
   ·have HI2 : Hid (z + y + slowS (sl.drop (k + 1)) t = r) := by show _ = _; rw [← HI.out, hst, if_pos hx]; omega
    clear hst HI
    go_wp2_with fail
    go_roundw
    case rel => exact ⟨k + 1, z + y, by omega, rfl, by go_num, by omega, by omega, HI2, by first | rfl | trivial⟩
    case measure => simp [intOf]; omega
   ·have HI2 : Hid (z + slowS (sl.drop (k + 1)) t = r) := by show _ = _; rw [← HI.out, hst, if_neg hx]; omega
    clear hst HI
    go_wp2_with fail
    go_roundw
    case rel => exact ⟨k + 1, z, by omega, rfl, by go_num, by omega, by omega, HI2, by first | rfl | trivial⟩
    case measure => simp [intOf]; omega
  ·have hk' : k = n := by omega
   subst hk'
   have HR : Hid (z = r) := by show _ = _; rw [← HI.out, HZ.out]; omega
   go_wp2_with fail
   go_ret
   exact ⟨ret_int HR.out, B1.out⟩

end Go.Proofs.YtomebalolmabnaaGreatDoor.T




/-! The walks of the specification's Find and Go. -/
namespace Go.Proofs.YtomebalolmabnaaGreatDoor.T
open Go.RowKit
set_option maxRecDepth 8000

def Ab (w : World) (n : Nat) (x0 x1 x2 x3 x4 x5 : Value) : Prop := w.heap[n]? = some (.cells #[x0, x1, x2, x3, x4, x5] 74)
section
variable {w w' : World} {n : Nat} {x0 x1 x2 x3 x4 x5 : Value}
theorem Ab.c0 (h : Ab w n x0 x1 x2 x3 x4 x5) : w.cell? ⟨n, 0, none⟩ = some x0 := by unfold Ab at h; simp [World.cell?, h]
theorem Ab.c1 (h : Ab w n x0 x1 x2 x3 x4 x5) : w.cell? ⟨n, 1, none⟩ = some x1 := by unfold Ab at h; simp [World.cell?, h]
theorem Ab.c2 (h : Ab w n x0 x1 x2 x3 x4 x5) : w.cell? ⟨n, 2, none⟩ = some x2 := by unfold Ab at h; simp [World.cell?, h]
theorem Ab.c3 (h : Ab w n x0 x1 x2 x3 x4 x5) : w.cell? ⟨n, 3, none⟩ = some x3 := by unfold Ab at h; simp [World.cell?, h]
theorem Ab.c4 (h : Ab w n x0 x1 x2 x3 x4 x5) : w.cell? ⟨n, 4, none⟩ = some x4 := by unfold Ab at h; simp [World.cell?, h]
theorem Ab.c5 (h : Ab w n x0 x1 x2 x3 x4 x5) : w.cell? ⟨n, 5, none⟩ = some x5 := by unfold Ab at h; simp [World.cell?, h]
theorem Ab.f (h : Ab w n x0 x1 x2 x3 x4 x5) (k : Nat) : w.frozen? ⟨n, k, none⟩ = false := by unfold Ab at h; simp [World.frozen?, h]
theorem Ab.lt (h : Ab w n x0 x1 x2 x3 x4 x5) : n < w.heap.size := by
 apply Decidable.byContradiction
 intro hc
 unfold Ab at h
 rw [Array.getElem?_eq_none (by omega)] at h; cases h
theorem Ab.below (h : Ab w n x0 x1 x2 x3 x4 x5) (hb : Below w.heap.size w w') : Ab w' n x0 x1 x2 x3 x4 x5 := (hb.block n h.lt).trans h
theorem Ab.alloc (h : Ab w n x0 x1 x2 x3 x4 x5) (o : Obj) : Ab (w.alloc o) n x0 x1 x2 x3 x4 x5 := (Below.heap_alloc w o n h.lt).trans h
theorem Ab.made (w : World) (x0 x1 x2 x3 x4 x5 : Value) : Ab (w.alloc (.cells #[x0, x1, x2, x3, x4, x5] 74)) w.heap.size x0 x1 x2 x3 x4 x5 := by
 show (w.heap.push _)[w.heap.size]? = _
 simp
theorem Ab.put (h : Ab w n x0 x1 x2 x3 x4 x5) (y0 y1 y2 y3 y4 y5 : Value) :
  Ab ((((((w.setCell ⟨n, 0, none⟩ y0).setCell ⟨n, 1, none⟩ y1).setCell ⟨n, 2, none⟩ y2).setCell ⟨n, 3, none⟩ y3).setCell ⟨n, 4, none⟩ y4).setCell ⟨n, 5, none⟩ y5) n y0 y1 y2 y3 y4 y5 := by
 unfold Ab at *; simp [World.setCell, Array.getElem?_modify, h]
end
theorem below_put6 {B : Nat} {a w : World} {n : Nat} (h : Below B a w) (hn : B ≤ n) (y0 y1 y2 y3 y4 y5 : Value) :
  Below B a ((((((w.setCell ⟨n, 0, none⟩ y0).setCell ⟨n, 1, none⟩ y1).setCell ⟨n, 2, none⟩ y2).setCell ⟨n, 3, none⟩ y3).setCell ⟨n, 4, none⟩ y4).setCell ⟨n, 5, none⟩ y5) :=
 (((((h.setCell hn _).setCell hn _).setCell hn _).setCell hn _).setCell hn _).setCell hn _

def hitB (pr f t : Int) (a : ArcT) : Bool := decide (a.fr = f) && decide (a.to = t) && decide (a.prof = pr)
def findA (l : List ArcT) (pr f t : Int) : Option ArcT := l.find? (hitB pr f t)
theorem find_step {l : List ArcT} {pr f t : Int} {k : Nat} (hk : k < l.length) : findA (l.drop k) pr f t = if hitB pr f t (l.getD k arc0) then some (l.getD k arc0) else findA (l.drop (k + 1)) pr f t := by
 rw [drop_more (d := arc0) hk]
 unfold findA
 rw [List.find?_cons]
 split <;> simp_all
theorem hit_yes {pr f t : Int} {a : ArcT} (h1 : a.fr = f) (h2 : a.to = t) (h3 : a.prof = pr) : hitB pr f t a = true := by unfold hitB; rw [decide_eq_true h1, decide_eq_true h2, decide_eq_true h3]; rfl
theorem hit_no {pr f t : Int} {a : ArcT} (h : a.fr ≠ f ∨ a.to ≠ t ∨ a.prof ≠ pr) : hitB pr f t a = false := by
 cases e : hitB pr f t a
 ·rfl
 ·unfold hitB at e
  simp only [Bool.and_eq_true, decide_eq_true_iff] at e
  obtain ⟨⟨h1, h2⟩, h3⟩ := e
  rcases h with h | h | h
  ·exact absurd h1 h
  ·exact absurd h2 h
  ·exact absurd h3 h
def FdP (x : Option ArcT) (w : World) (e : Ending) (w' : World) : Prop :=
  ∃ vt vs, e = .returned (.tuple #[.agg #[.int .i64 (x.getD arc0).fr, .int .i64 (x.getD arc0).to, .int .i64 (x.getD arc0).prof, .int .i64 (x.getD arc0).miles, vt, vs], .bool x.isSome]) ∧
    Ps w' vt (x.getD arc0).tr ∧ Ps w' vs (x.getD arc0).sl ∧ Below w.heap.size w w'
def v0 : Value := .int .i64 0
set_option maxHeartbeats 1600000 in
theorem refFind_n (vp va : Value) (l : List ArcT) (pr f t : Int) (hl : l.length ≤ 1000000000) (w : World) (ha : As w va l) :
  Calls Tryz.prog 80 #[.agg #[vp, va], .int .i64 pr, .int .i64 f, .int .i64 t] w (FdP (findA l pr f t) w) := by
 have HE : Hid (findA (l.drop 0) pr f t = findA l pr f t) := rfl
 have HST := Lib.hid (fun k (hk : k < l.length) => find_step (pr := pr) (f := f) (t := t) hk)
 have HZ : Hid (findA (l.drop l.length) pr f t = none) := by show _ = _; rw [List.drop_length]; rfl
 generalize findA l pr f t = r at *
 obtain ⟨oa, c, rfl, ha⟩ := ha
 have HA := Lib.hid ha
 clear ha
 generalize hn : l.length = n at *
 obtain ⟨W0, hW0⟩ : ∃ W0, (w.alloc (.cells #[vp, .slice oa n c] 25)).alloc (.cells #[.int .i64 0, .int .i64 0, .int .i64 0, .int .i64 0, .slice none 0 0, .slice none 0 0] 74) = W0 := ⟨_, rfl⟩
 have B0 : Hid (Below w.heap.size w W0) := by show Below _ _ _; rw [← hW0]; exact over (below_alloc _ _) (below_alloc _ _)
 have N0 : Hid (Nb W0 w.heap.size vp (.slice oa n c)) := by show Nb _ _ _ _; rw [← hW0]; exact (Nb.made w vp (.slice oa n c)).below (below_alloc _ _)
 have R0 : Hid (Ab W0 (w.heap.size + 1) (.int .i64 0) (.int .i64 0) (.int .i64 0) (.int .i64 0) (.slice none 0 0) (.slice none 0 0)) := by
  show Ab _ _ _ _ _ _ _ _
  have := Ab.made (w.alloc (.cells #[vp, .slice oa n c] 25)) (.int .i64 0) (.int .i64 0) (.int .i64 0) (.int .i64 0) (.slice none 0 0) (.slice none 0 0)
  rw [← hW0]
  simpa using this
 go_enter Tryz.func80, Tryz.ntmps80
 go_wp2_with fail
 clear hW0
 go_loopw [10] (fun i wr => ∃ k : Nat, k ≤ n ∧ i = .int .i64 k ∧ Hid (findA (l.drop k) pr f t = r) ∧ Hid (Nb wr w.heap.size vp (.slice oa n c)) ∧ Hid (Ab wr (w.heap.size + 1) (.int .i64 0) (.int .i64 0) (.int .i64 0) (.int .i64 0) (.slice none 0 0) (.slice none 0 0)) ∧ Hid (Below w.heap.size w wr)) (fun i _ => n - (intOf i).toNat)
 case atStart => exact ⟨0, Nat.zero_le _, rfl, HE, N0, R0, B0⟩
 case round =>
  clear HE N0 R0 B0
  obtain ⟨k, hk, rfl, HI, HN, HR, HW⟩ := hrel
  have g0 := HN.out.c0
  have g1 := HN.out.c1
  by_cases hlt : k < n
  ·obtain ⟨b, o, vt, vs, rfl, hab, ⟨h0, h1, h2, h3, h4, h5⟩, hpt, hps⟩ := HA.out k hlt
   have hst := HST.out k hlt
   have d0 := (HW.out.cell (p := ⟨b, _, none⟩) hab).trans h0
   have d1 := (HW.out.cell (p := ⟨b, _, none⟩) hab).trans h1
   have d2 := (HW.out.cell (p := ⟨b, _, none⟩) hab).trans h2
   have d3 := (HW.out.cell (p := ⟨b, _, none⟩) hab).trans h3
   have d4 := (HW.out.cell (p := ⟨b, _, none⟩) hab).trans h4
   have d5 := (HW.out.cell (p := ⟨b, _, none⟩) hab).trans h5
   have PT := Lib.hid hpt
   have PS := Lib.hid hps
   clear h0 h1 h2 h3 h4 h5
   obtain ⟨ot, ct, hvt, -⟩ := id hpt
   obtain ⟨os, cs, hvs, -⟩ := id hps
   subst hvt
   subst hvs
   clear hpt hps
   generalize l.getD k arc0 = a at *
   obtain ⟨fr, dt, prof, miles, tr, sl⟩ := a
   simp only at d0 d1 d2 d3 d4 d5 PT PS hst
   have hkI : (k : Int) < (n : Int) := by omega
   by_cases hh : fr = f ∧ dt = t ∧ prof = pr
   ·obtain ⟨rfl, rfl, rfl⟩ := hh
    have HX : Hid (some (ArcT.mk fr dt prof miles tr sl) = r) := by show _ = _; rw [← HI.out, hst, (hit_yes rfl rfl rfl : hitB prof fr dt ⟨fr, dt, prof, miles, tr, sl⟩ = true)]; rfl
    obtain ⟨q, hq⟩ : ∃ q, wr.heap.size = q := ⟨_, rfl⟩
    have hsz := HW.out.size
    obtain ⟨W1, hW1⟩ : ∃ W1, wr.alloc (.cells #[.int .i64 fr, .int .i64 dt, .int .i64 prof, .int .i64 miles, .slice ot tr.length ct, .slice os sl.length cs] 74) = W1 := ⟨_, rfl⟩
    have R1 := Lib.hid (HR.out.alloc (.cells #[.int .i64 fr, .int .i64 dt, .int .i64 prof, .int .i64 miles, .slice ot tr.length ct, .slice os sl.length cs] 74))
    have A1 := Lib.hid (Ab.made wr (.int .i64 fr) (.int .i64 dt) (.int .i64 prof) (.int .i64 miles) (.slice ot tr.length ct) (.slice os sl.length cs))
    have B1 := Lib.hid (HW.out.alloc hsz (.cells #[.int .i64 fr, .int .i64 dt, .int .i64 prof, .int .i64 miles, .slice ot tr.length ct, .slice os sl.length cs] 74))
    rw [hW1] at R1 A1 B1
    rw [hq] at A1
    clear hst HI HR HN HW
    have q0 := R1.out.f 0
    have q1 := R1.out.f 1
    have q2 := R1.out.f 2
    have q3 := R1.out.f 3
    have q4 := R1.out.f 4
    have q5 := R1.out.f 5
    have c0 := A1.out.c0
    have c1 := A1.out.c1
    have c2 := A1.out.c2
    have c3 := A1.out.c3
    have c4 := A1.out.c4
    have c5 := A1.out.c5
    have e0 := R1.out.c0
    have e1 := R1.out.c1
    have e2 := R1.out.c2
    have e3 := R1.out.c3
    have e4 := R1.out.c4
    have e5 := R1.out.c5
    go_wp2_with fail
    clear q0 q1 q2 q3 q4 q5 c0 c1 c2 c3 c4 c5 e0 e1 e2 e3 e4 e5
    have HF := R1.out.put (.int .i64 fr) (.int .i64 dt) (.int .i64 prof) (.int .i64 miles) (.slice ot tr.length ct) (.slice os sl.length cs)
    have x0 := HF.c0
    have x1 := HF.c1
    have x2 := HF.c2
    have x3 := HF.c3
    have x4 := HF.c4
    have x5 := HF.c5
    refine bodyPost_ret (v := .tuple #[.agg #[.int .i64 fr, .int .i64 dt, .int .i64 prof, .int .i64 miles, .slice ot tr.length ct, .slice os sl.length cs], .bool true]) (by simp [results, Tryz.results80, go_sem, x0, x1, x2, x3, x4, x5]) rfl ?_
    rw [← HX.out]
    have BF := below_put6 (n := w.heap.size + 1) B1.out (by omega) (.int .i64 fr) (.int .i64 dt) (.int .i64 prof) (.int .i64 miles) (.slice ot tr.length ct) (.slice os sl.length cs)
    exact ⟨_, _, rfl, PT.out.below BF, PS.out.below BF, BF⟩
   ·have hno : hitB pr f t ⟨fr, dt, prof, miles, tr, sl⟩ = false := hit_no (by
     by_cases e1 : fr = f
     ·by_cases e2 : dt = t
      ·exact .inr (.inr fun e3 => hh ⟨e1, e2, e3⟩)
      ·exact .inr (.inl e2)
     ·exact .inl e1)
    rw [hno] at hst
    have HI2 : Hid (findA (l.drop (k + 1)) pr f t = r) := by show _ = _; rw [← HI.out, hst]; rfl
    have N1 := Lib.hid (HN.out.below (below_alloc wr (.cells #[.int .i64 fr, .int .i64 dt, .int .i64 prof, .int .i64 miles, .slice ot tr.length ct, .slice os sl.length cs] 74)))
    have R1 := Lib.hid (HR.out.alloc (.cells #[.int .i64 fr, .int .i64 dt, .int .i64 prof, .int .i64 miles, .slice ot tr.length ct, .slice os sl.length cs] 74))
    have B1 := Lib.hid (HW.out.alloc HW.out.size (.cells #[.int .i64 fr, .int .i64 dt, .int .i64 prof, .int .i64 miles, .slice ot tr.length ct, .slice os sl.length cs] 74))
    clear hst HI hno
    by_cases e1 : fr = f
    ·subst e1
     by_cases e2 : dt = t
     ·subst e2
      have e3 := ne_eqI (fun e3 => hh ⟨rfl, rfl, e3⟩ : prof ≠ pr)
      clear hh
      go_wp2_with fail
      go_roundw
      case rel => exact ⟨k + 1, by omega, by go_num, HI2, N1, R1, B1⟩
      case measure => simp [intOf]; omega
     ·have e3 := ne_eqI e2
      clear hh
      go_wp2_with fail
      go_roundw
      case rel => exact ⟨k + 1, by omega, by go_num, HI2, N1, R1, B1⟩
      case measure => simp [intOf]; omega
    ·have e3 := ne_eqI e1
     clear hh
     go_wp2_with fail
     go_roundw
     case rel => exact ⟨k + 1, by omega, by go_num, HI2, N1, R1, B1⟩
     case measure => simp [intOf]; omega
  ·have hk' : k = n := by omega
   subst hk'
   have HX : Hid (none = r) := by show _ = _; rw [← HI.out, HZ.out]
   have q0 := HR.out.f 0
   have q1 := HR.out.f 1
   have q2 := HR.out.f 2
   have q3 := HR.out.f 3
   have q4 := HR.out.f 4
   have q5 := HR.out.f 5
   have e0 := HR.out.c0
   have e1 := HR.out.c1
   have e2 := HR.out.c2
   have e3 := HR.out.c3
   have e4 := HR.out.c4
   have e5 := HR.out.c5
   have hlt1 := HR.out.lt
   go_wp2_with fail
   clear q0 q1 q2 q3 q4 q5 e0 e1 e2 e3 e4 e5
   have HF := HR.out.put (.int .i64 0) (.int .i64 0) (.int .i64 0) (.int .i64 0) (.slice none 0 0) (.slice none 0 0)
   have x0 := HF.c0
   have x1 := HF.c1
   have x2 := HF.c2
   have x3 := HF.c3
   have x4 := HF.c4
   have x5 := HF.c5
   refine bodyPost_ret (v := .tuple #[.agg #[.int .i64 0, .int .i64 0, .int .i64 0, .int .i64 0, .slice none 0 0, .slice none 0 0], .bool false]) (by simp [results, Tryz.results80, go_sem, x0, x1, x2, x3, x4, x5]) rfl ?_
   rw [← HX.out]
   exact ⟨_, _, rfl, Sl.nil _, Sl.nil _, below_put6 (n := w.heap.size + 1) HW.out (by omega) _ _ _ _ _ _⟩

theorem find_mem {l : List ArcT} {pr f t : Int} {a : ArcT} (h : findA l pr f t = some a) : a ∈ l ∧ a.fr = f ∧ a.to = t ∧ a.prof = pr := by
 unfold findA at h
 have h1 := List.mem_of_find?_eq_some h
 have h2 := List.find?_some h
 unfold hitB at h2
 simp only [Bool.and_eq_true, decide_eq_true_iff] at h2
 exact ⟨h1, h2.1.1, h2.1.2, h2.2⟩
theorem NetOk.mem {pl : List ByteArray} {l : List ArcT} (h : NetOk pl l) {a : ArcT} (ha : a ∈ l) : ArcOk pl.length a := by
 obtain ⟨i, hi, rfl⟩ := List.mem_iff_getElem.1 ha
 have := h.arcs i hi
 rwa [List.getD_eq_getElem?_getD, List.getElem?_eq_getElem hi] at this

def goV (np : Nat) (l : List ArcT) (pr f t d : Int) : Int × Int × Int :=
  if inB np f && inB np t then (if f = t then (d, 0, 0) else match findA l pr f t with | some a => (arrA a d, a.miles, 0) | none => (0, 0, 12)) else (0, 0, 11)
def GoP (x : Int × Int × Int) (w : World) (e : Ending) (w' : World) : Prop := e = .returned (.tuple #[.int .i64 x.1, .int .i64 x.2.1, .int .i64 x.2.2]) ∧ Below w.heap.size w w'

theorem ret_three {a b c : Int} {r : Int × Int × Int} (h : (a, b, c) = r) : Ending.returned (.tuple #[.int .i64 a, .int .i64 b, .int .i64 c]) = .returned (.tuple #[.int .i64 r.1, .int .i64 r.2.1, .int .i64 r.2.2]) := by rw [← h]

set_option maxHeartbeats 1600000 in
theorem refGo_n (vp va : Value) (pl : List ByteArray) (l : List ArcT) (pr f t d : Int) (hl : l.length ≤ 1000000000) (hN : NetOk pl l) (hd0 : 0 ≤ d) (hd1 : d ≤ 1073741824) (w : World) (hp : Ss w vp pl) (ha : As w va l) :
  Calls Tryz.prog 57 #[.agg #[vp, va], .int .i64 pr, .int .i64 f, .int .i64 t, .int .i64 d] w (GoP (goV pl.length l pr f t d) w) := by
 obtain ⟨op, cp, rfl, -⟩ := hp
 obtain ⟨oa, ca, hva, -⟩ := id ha
 subst hva
 have HA := Lib.hid ha
 have K1 := Lib.hid (fun w => refPlace_n op pl.length cp (.slice oa l.length ca) f w)
 have K2 := Lib.hid (fun w => refPlace_n op pl.length cp (.slice oa l.length ca) t w)
 have N0 := Lib.hid (Nb.made w (.slice op pl.length cp) (.slice oa l.length ca))
 cases h1 : inB pl.length f
 ·have HR : Hid ((0, 0, 11) = goV pl.length l pr f t d) := by show _ = _; unfold goV; rw [h1]; rfl
  rw [h1] at K1
  generalize goV pl.length l pr f t d = r at *
  clear h1 ha hN
  go_enter Tryz.func57, Tryz.ntmps57
  go_wp2_with fail
  refine (K1.out _).mono ?_
  rintro e w1 ⟨rfl, b1⟩
  have B1 := Lib.hid (over (w := w) (by go_grown) b1)
  clear b1
  go_wp2_with fail
  go_ret3
  exact ⟨ret_three HR.out, B1.out⟩
 cases h2 : inB pl.length t
 ·have HR : Hid ((0, 0, 11) = goV pl.length l pr f t d) := by show _ = _; unfold goV; rw [h1, h2]; rfl
  rw [h1] at K1
  rw [h2] at K2
  generalize goV pl.length l pr f t d = r at *
  clear h1 h2 ha hN
  go_enter Tryz.func57, Tryz.ntmps57
  go_wp2_with fail
  refine (K1.out _).mono ?_
  rintro e w1 ⟨rfl, b1⟩
  have B1 := Lib.hid (over (w := w) (by go_grown) b1)
  have N1 := Lib.hid (N0.out.below b1)
  have g0 := N1.out.c0
  have g1 := N1.out.c1
  clear b1
  go_wp2_with fail
  refine (K2.out _).mono ?_
  rintro e w2 ⟨rfl, b2⟩
  have B2 := Lib.hid (over B1.out b2)
  clear b2
  go_wp2_with fail
  go_ret3
  exact ⟨ret_three HR.out, B2.out⟩
 rw [h1] at K1
 rw [h2] at K2
 by_cases hft : f = t
 ·have HR : Hid ((d, 0, 0) = goV pl.length l pr f t d) := by show _ = _; unfold goV; rw [h1, h2, if_pos hft]; rfl
  subst hft
  generalize goV pl.length l pr f f d = r at *
  clear h1 h2 ha hN
  go_enter Tryz.func57, Tryz.ntmps57
  go_wp2_with fail
  refine (K1.out _).mono ?_
  rintro e w1 ⟨rfl, b1⟩
  have B1 := Lib.hid (over (w := w) (by go_grown) b1)
  have N1 := Lib.hid (N0.out.below b1)
  have g0 := N1.out.c0
  have g1 := N1.out.c1
  clear b1
  go_wp2_with fail
  refine (K2.out _).mono ?_
  rintro e w2 ⟨rfl, b2⟩
  have B2 := Lib.hid (over B1.out b2)
  clear b2
  go_wp2_with fail
  go_ret3
  exact ⟨ret_three HR.out, B2.out⟩
 have K3 := Lib.hid (fun w ha => refFind_n (.slice op pl.length cp) (.slice oa l.length ca) l pr f t hl w ha)
 have hne := ne_eqI hft
 cases hF : findA l pr f t with
 | none =>
  have HR : Hid ((0, 0, 12) = goV pl.length l pr f t d) := by show _ = _; unfold goV; rw [h1, h2, if_neg hft, hF]; rfl
  rw [hF] at K3
  generalize goV pl.length l pr f t d = r at *
  clear h1 h2 ha hN hft hF
  go_enter Tryz.func57, Tryz.ntmps57
  go_wp2_with fail
  refine (K1.out _).mono ?_
  rintro e w1 ⟨rfl, b1⟩
  have B1 := Lib.hid (over (w := w) (by go_grown) b1)
  have N1 := Lib.hid (N0.out.below b1)
  have g0 := N1.out.c0
  have g1 := N1.out.c1
  clear b1
  go_wp2_with fail
  refine (K2.out _).mono ?_
  rintro e w2 ⟨rfl, b2⟩
  have B2 := Lib.hid (over B1.out b2)
  have N2 := Lib.hid (N1.out.below b2)
  clear b2 g0 g1
  have g0 := N2.out.c0
  have g1 := N2.out.c1
  go_wp2_with fail
  refine (K3.out _ (HA.out.below B2.out)).mono ?_
  rintro e w3 ⟨vt, vs, rfl, ht, hs, b3⟩
  have B3 := Lib.hid (over B2.out b3)
  obtain ⟨ot, ct, rfl, -⟩ := ht
  obtain ⟨os, cs, rfl, -⟩ := hs
  clear b3 g0 g1
  unfold arc0
  go_wp2_with fail
  go_ret3
  exact ⟨ret_three HR.out, over B3.out (below_alloc _ _)⟩
 | some a =>
  have HR : Hid ((arrA a d, a.miles, 0) = goV pl.length l pr f t d) := by show _ = _; unfold goV; rw [h1, h2, if_neg hft, hF]; rfl
  rw [hF] at K3
  have hok := hN.mem (find_mem hF).1
  have K4 := Lib.hid (fun vt vs w ht hs => refArrive9_n pl.length a vt vs d hok hd0 hd1 w ht hs)
  generalize goV pl.length l pr f t d = r at *
  clear h1 h2 ha hN hft hF hok
  obtain ⟨fr, dt, prof, miles, tr, sl⟩ := a
  generalize arrA _ d = x at *
  simp only at K4 HR
  go_enter Tryz.func57, Tryz.ntmps57
  go_wp2_with fail
  refine (K1.out _).mono ?_
  rintro e w1 ⟨rfl, b1⟩
  have B1 := Lib.hid (over (w := w) (by go_grown) b1)
  have N1 := Lib.hid (N0.out.below b1)
  have g0 := N1.out.c0
  have g1 := N1.out.c1
  clear b1
  go_wp2_with fail
  refine (K2.out _).mono ?_
  rintro e w2 ⟨rfl, b2⟩
  have B2 := Lib.hid (over B1.out b2)
  have N2 := Lib.hid (N1.out.below b2)
  clear b2 g0 g1
  have g0 := N2.out.c0
  have g1 := N2.out.c1
  go_wp2_with fail
  refine (K3.out _ (HA.out.below B2.out)).mono ?_
  rintro e w3 ⟨vt, vs, rfl, ht, hs, b3⟩
  have B3 := Lib.hid (over B2.out b3)
  have HT := Lib.hid ht
  have HS := Lib.hid hs
  obtain ⟨ot, ct, rfl, -⟩ := ht
  obtain ⟨os, cs, rfl, -⟩ := hs
  clear b3 g0 g1
  simp only [Option.getD_some, Option.isSome_some] at HT HS ⊢
  obtain ⟨W4, hW4⟩ : ∃ W4, w3.alloc (.cells #[.int .i64 fr, .int .i64 dt, .int .i64 prof, .int .i64 miles, .slice ot tr.length ct, .slice os sl.length cs] 74) = W4 := ⟨_, rfl⟩
  obtain ⟨q, hq⟩ : ∃ q, w3.heap.size = q := ⟨_, rfl⟩
  have A3 := Lib.hid (Ab.made w3 (.int .i64 fr) (.int .i64 dt) (.int .i64 prof) (.int .i64 miles) (.slice ot tr.length ct) (.slice os sl.length cs))
  have hb3 := below_alloc w3 (.cells #[.int .i64 fr, .int .i64 dt, .int .i64 prof, .int .i64 miles, .slice ot tr.length ct, .slice os sl.length cs] 74)
  have B4 := Lib.hid (below_drew (over B3.out hb3))
  have HT4 := Lib.hid (HT.out.below hb3)
  have HS4 := Lib.hid (HS.out.below hb3)
  rw [hW4] at A3 B4 HT4 HS4
  rw [hq] at A3
  have A4 : Hid (Ab W4.drew q (.int .i64 fr) (.int .i64 dt) (.int .i64 prof) (.int .i64 miles) (.slice ot tr.length ct) (.slice os sl.length cs)) := A3
  have HT5 : Hid (Ps W4.drew (.slice ot tr.length ct) tr) := HT4
  have HS5 : Hid (Ps W4.drew (.slice os sl.length cs) sl) := HS4
  have c0 := A3.out.c0
  have c1 := A3.out.c1
  have c2 := A3.out.c2
  have c3 := A3.out.c3
  have c4 := A3.out.c4
  have c5 := A3.out.c5
  clear hb3 B3 HT HS HT4 HS4 A3
  go_wp2_with fail
  go_region_with (go_at_call 81; with_reducible refine (K4.out _ _ _ HT5.out HS5.out).mono ?_; rintro e w5 ⟨rfl, b5⟩; have A5 := A4.out.below b5; have d3 := A5.c3; have B5 := over B4.out b5)
  all_goals
   go_wp2_with fail
   go_ret3
   exact ⟨ret_three HR.out, B5⟩

end Go.Proofs.YtomebalolmabnaaGreatDoor.T




