/-
  DERIVED. The walk of the landed rules' joined.
-/
import Derived.Test.YtmoilpkgoabopaaDoorRuTop6
namespace Go.Proofs.YtmoilpkgoabopaaDoor.T
open Go.RowKit
set_option maxRecDepth 8000

theorem jn_start (w : World) : Jn w.heap.size (((w.alloc (.cells #[.slice none 0 0] 22)).alloc (.map #[] 0)).alloc (.cells #[.map (some (w.heap.size + 1))] 67)) w.heap.size (w.heap.size + 1) (w.heap.size + 1 + 1) (.slice none 0 0) [] := by
  have h1 := ((Boxed.new w 22 (.slice none 0 0)).alloc (.map #[] 0)).alloc (.cells #[.map (some (w.heap.size + 1))] 67)
  have h2 := (Pm.made (w.alloc (.cells #[.slice none 0 0] 22))).below (below_alloc _ (.cells #[.map (some (w.heap.size + 1))] 67))
  have h3 := Boxed.new ((w.alloc (.cells #[.slice none 0 0] 22)).alloc (.map #[] 0)) 67 (.map (some (w.heap.size + 1)))
  simp only [World.size_alloc] at h2 h3
  exact ⟨h1, Gq.nil _ _, h3, h2.ext (fun p => by simp), Nat.le_refl _, by omega⟩
theorem pre_get {c c' : List (Int × Int)} (h : c <+: c') {j : Nat} (hj : j < c.length) : c'.getD j (0, 0) = c.getD j (0, 0) := by
  obtain ⟨d, rfl⟩ := h
  rw [List.getD_eq_getElem?_getD, List.getD_eq_getElem?_getD, List.getElem?_append_left hj]
theorem pre_mem {c c' : List (Int × Int)} (h : c <+: c') {x : Int × Int} (hx : x ∈ c) : x ∈ c' := h.subset hx
theorem Jn.heap {B : Nat} {w w' : World} {bc bm bs : Nat} {v : Value} {c : List (Int × Int)} (h : Jn B w bc bm bs v c) (e : w'.heap = w.heap) : Jn B w' bc bm bs v c :=
  ⟨by have := h.box; unfold Boxed at this ⊢; rw [e]; exact this, h.own.of_block (fun _ _ => by rw [e]), by have := h.mbox; unfold Boxed at this ⊢; rw [e]; exact this, h.seen.of_block (by rw [e]), h.lc, h.lm⟩
/-- what joined returns -/
def JoP (l : List (Int × Int)) (w : World) (e : Ending) (w' : World) : Prop :=
  ∃ v c, e = .returned v ∧ Gq w.heap.size w' v c ∧ U.JoI l c ∧ (∀ p ∈ l, p ∈ c) ∧ (∀ p ∈ c, ∀ q ∈ l, q.1 = p.2 → (p.1, q.2) ∈ c) ∧ Below w.heap.size w w'
theorem rt_64 {n : Nat} {l : List (Int × Int)} (hr : U.Rt n l) (hn : n ≤ 10) {p : Int × Int} (hp : p ∈ l) : In64 p := by
  obtain ⟨h1, h2, h3, h4, -⟩ := hr p hp
  unfold In64 I64
  omega
theorem jo_64 {n : Nat} {l c : List (Int × Int)} (hr : U.Rt n l) (hn : n ≤ 10) (h : U.JoI l c) {p : Int × Int} (hp : p ∈ c) : 0 ≤ p.1 ∧ p.1 < 10 ∧ 0 ≤ p.2 ∧ p.2 < 10 := by
  obtain ⟨h1, h2, h3⟩ := h.ch p hp
  have := h3.lt hr
  unfold U.pa U.pb at this
  omega
set_option maxHeartbeats 12800000 in
theorem joined_n (n : Nat) (u : Value) (l : List (Int × Int)) (hn : n ≤ 10) (hr : U.Rt n l) (hl : l.length ≤ 1000) (w : World) (hu : Ps w u l) :
    Calls Tryd.prog 28 #[u] w (JoP l w) := by
  have HV := Lib.hid hu
  obtain ⟨oa, cu, rfl, -⟩ := hu
  have HI0 := Lib.hid (U.JoI.nil l)
  have HLn := Lib.hid (fun c (h : U.JoI l c) => h.len hr hn)
  have H1 := Lib.hid (fun c (h : U.JoI l c) p (hp : p ∈ l) => h.addP (show 0 ≤ p.1 ∧ 0 ≤ p.2 ∧ U.Ch l (U.pa p) (U.pb p) from ⟨(hr p hp).1, (hr p hp).2.2.1, U.Ch.one hp rfl⟩))
  have H2 := Lib.hid (fun c (h : U.JoI l c) x (hx : x ∈ c) q (hq : q ∈ l) (e : q.1 = x.2) => h.addP (p := (x.1, q.2)) (show 0 ≤ x.1 ∧ 0 ≤ q.2 ∧ U.Ch l (U.pa (x.1, q.2)) (U.pb (x.1, q.2)) from ⟨(h.ch x hx).1, (hr q hq).2.2.1, by
    have h3 := (h.ch x hx).2.2
    have h4 : U.pb x = U.pa q := by unfold U.pb U.pa; rw [e]
    rw [h4] at h3
    exact h3.more hq⟩))
  have H64 := Lib.hid (fun p (hp : p ∈ l) => rt_64 hr hn hp)
  have H10 := Lib.hid (fun c (h : U.JoI l c) p (hp : p ∈ c) => jo_64 hr hn h hp)
  have J0 := jn_start w
  have B0 := over (over (below_alloc w (.cells #[.slice none 0 0] 22)) (below_alloc _ (.map #[] 0))) (below_alloc _ (.cells #[.map (some (w.heap.size + 1))] 67))
  have hmm := makeMap0 (P := Tryd.prog) 67
  obtain ⟨W0, hW0⟩ : ∃ W0, (((w.alloc (.cells #[.slice none 0 0] 22)).alloc (.map #[] 0)).alloc (.cells #[.map (some (w.heap.size + 1))] 67)) = W0 := ⟨_, rfl⟩
  rw [hW0] at J0 B0
  have HJ0 := Lib.hid J0
  have HB0 := Lib.hid B0
  have HW0 := Lib.hid hW0
  clear J0 B0 hW0 hr
  generalize hm : l.length = m at *
  have HM := Lib.hid hm
  clear hm
  go_enter Tryd.func28, Tryd.ntmps28
  go_upto_region 4 with fail
  rw [HW0.out]
  clear HW0 hmm
  generalize hbm : w.heap.size + 1 = bm at *
  generalize hbs : bm + 1 = bs at *
  obtain ⟨B, hB⟩ : ∃ B, w.heap.size = B := ⟨_, rfl⟩
  have HBB := Lib.hid hB
  rw [hB] at HJ0 HB0 ⊢
  clear hbm hbs hB
  go_wp2_with fail
  go_loopg [15] m (fun g j wr => ∃ (k : Nat) (v : Value) (c : List (Int × Int)), k ≤ m ∧ j = .int .i64 k ∧ m - k ≤ g ∧ Hid (Jn B wr B bm bs v c) ∧ Hid (U.JoI l c) ∧ Hid (∀ i, i < k → l.getD i (0, 0) ∈ c) ∧ Hid (Below B w wr))
  case atStart => exact ⟨0, _, _, Nat.zero_le _, rfl, Nat.le_refl _, HJ0, HI0, fun i hi => absurd hi (Nat.not_lt_zero _), HB0⟩
  case round =>
    clear HJ0 HI0 HB0
    obtain ⟨k, v, c, hk, rfl, hg, HJ, HI, HK, HB⟩ := hrel
    by_cases hlt : k < m
    · have hkI : (k : Int) < (m : Int) := by omega
      have hka : k < l.length := by rw [HM.out]; exact hlt
      have hBs : B ≤ wr.heap.size := by have := HB.out.size; rw [HBB.out] at this; exact this
      obtain ⟨b, o, rfl, hab, x0, x1⟩ := ps_at (by have := HV.out.below (by rw [HBB.out]; exact HB.out); rw [← HM.out] at this; exact this) hka
      have HLk := HLn.out c HI.out
      have hmem : l.getD k (0, 0) ∈ l := getD_mem hka
      have HI2 := Lib.hid (H1.out c HI.out _ hmem)
      have h64 := H64.out _ hmem
      have HK2 : Hid (∀ i, i < k + 1 → l.getD i (0, 0) ∈ U.addP c (l.getD k (0, 0))) := fun i hi => by
        rw [U.addP_mem]
        by_cases e : i = k
        · exact .inr (by rw [e])
        · exact .inl (HK.out i (by omega))
      generalize l.getD k (0, 0) = p at *
      have hal := below_alloc wr (.cells #[.int .i64 p.1, .int .i64 p.2] 45)
      have HJ1 := Lib.hid (HJ.out.below hal)
      have HB1 : Hid (Below B w (wr.alloc (.cells #[.int .i64 p.1, .int .i64 p.2] 45))) := HB.out.trans (hal.mono hBs)
      have KA := Lib.hid (add_n B B bm bs v c p h64 (by omega) (wr.alloc (.cells #[.int .i64 p.1, .int .i64 p.2] 45)) (by rw [World.size_alloc]; omega) HJ1.out)
      clear hal HJ1 HJ HI HB HK hmem
      go_wp2_with fail
      refine KA.out.mono ?_
      rintro e w2 ⟨rfl, ⟨v2, hj2⟩, b2⟩
      have HJ2 := Lib.hid hj2
      have HB2 := Lib.hid (HB1.out.trans b2)
      clear hj2 b2 HB1 KA
      go_wp2_with fail
      go_roundg (m - (k + 1))
      case measure => omega
      case rel => exact ⟨k + 1, v2, U.addP c p, by omega, by go_num, by omega, HJ2, HI2, HK2, HB2⟩
    · have hkk : k = m := by omega
      have hkI : ¬ (k : Int) < (m : Int) := by omega
      have HC : Hid (∀ p ∈ l, p ∈ c) := fun p hp => by
        obtain ⟨i, hi, rfl⟩ := List.getElem_of_mem hp
        have := HK.out i (by rw [hkk, ← HM.out]; exact hi)
        rw [List.getD_eq_getElem?_getD, List.getElem?_eq_getElem hi] at this
        exact this
      clear HK hkk
      go_wp2_with fail
      go_loopg [8] 101 (fun g iv wr => ∃ (k : Nat) (v : Value) (c : List (Int × Int)), k ≤ c.length ∧ iv = .int .i64 k ∧ 101 - k ≤ g ∧ Hid (Jn B wr B bm bs v c) ∧ Hid (U.JoI l c) ∧ Hid (∀ p ∈ l, p ∈ c) ∧ Hid (∀ j, j < k → ∀ q ∈ l, q.1 = (c.getD j (0, 0)).2 → ((c.getD j (0, 0)).1, q.2) ∈ c) ∧ Hid (Below B w wr))
      case atStart => exact ⟨0, v, c, Nat.zero_le _, rfl, Nat.le_refl _, HJ, HI, HC, fun j hj => absurd hj (Nat.not_lt_zero _), HB⟩
      case round =>
        clear HJ HI HC HB
        obtain ⟨k, v, c, hk, rfl, hg, HJ, HI, HC, HK, HB⟩ := hrel
        have HLk := HLn.out c HI.out
        obtain ⟨oc, cc, rfl⟩ := Gn.form HJ.out.own
        have z0 := HJ.out.box.cell
        by_cases hlt : k < c.length
        · have hkI : (k : Int) < (c.length : Int) := by omega
          generalize hcl : c.length = nc at *
          have HCl := Lib.hid hcl
          clear hcl
          go_wp2_with fail
          clear z0
          go_loopg [31] m (fun g2 j wr2 => ∃ (t : Nat) (v' : Value) (c' : List (Int × Int)), t ≤ m ∧ j = .int .i64 t ∧ m - t ≤ g2 ∧ Hid (Jn B wr2 B bm bs v' c') ∧ Hid (U.JoI l c') ∧ Hid (c <+: c') ∧ Hid (∀ i, i < t → (l.getD i (0, 0)).1 = (c.getD k (0, 0)).2 → ((c.getD k (0, 0)).1, (l.getD i (0, 0)).2) ∈ c') ∧ Hid (Below B w wr2))
          case atStart => exact ⟨0, _, c, Nat.zero_le _, rfl, Nat.le_refl _, HJ, HI, List.prefix_refl _, fun i hi => absurd hi (Nat.not_lt_zero _), HB⟩
          case round =>
            clear HJ HB
            obtain ⟨t, v', c', ht, rfl, hg2, HJ, HI', HPf, HK', HB⟩ := hrel
            by_cases htl : t < m
            · have htI : (t : Int) < (m : Int) := by omega
              have hta : t < l.length := by rw [HM.out]; exact htl
              have hBs : B ≤ wr.heap.size := by have := HB.out.size; rw [HBB.out] at this; exact this
              obtain ⟨b, o, rfl, hab, x0, x1⟩ := ps_at (by have := HV.out.below (by rw [HBB.out]; exact HB.out); rw [← HM.out] at this; exact this) hta
              have HLk' := HLn.out c' HI'.out
              have hkc : k < c.length := by rw [HCl.out]; exact hlt
              have hkc' : k < c'.length := Nat.lt_of_lt_of_le hkc HPf.out.length_le
              have hgp := pre_get HPf.out hkc
              have hpm : c'.getD k (0, 0) ∈ c' := getD_mem hkc'
              have hqm : l.getD t (0, 0) ∈ l := getD_mem hta
              have hp10 := H10.out c' HI'.out _ hpm
              have hq64 := H64.out _ hqm
              have HI2 := Lib.hid (fun e => H2.out c' HI'.out _ hpm _ hqm e)
              rw [hgp] at HI2 hp10
              have HKn := Lib.hid (fun (i : Nat) (hi : i < t + 1) (hne : i ≠ t) => HK'.out i (by omega))
              obtain ⟨oc', cc', rfl⟩ := Gn.form HJ.out.own
              obtain ⟨b2, o2, hoc, hl2, y0, y1⟩ := ps_at (Gn.sl (E0 := pT) (E1 := pA) (d := ((0 : Int), (0 : Int))) HJ.out.own) hkc'
              subst hoc
              rw [hgp] at y0 y1
              generalize hq : l.getD t (0, 0) = q at *
              have HQq := Lib.hid hq
              clear hq hgp
              generalize hp : c.getD k (0, 0) = p at *
              have HPp := Lib.hid hp
              clear hp
              have hal := below_alloc wr (.cells #[.int .i64 q.1, .int .i64 q.2] 45)
              have HJ3 := Lib.hid (HJ.out.below hal)
              have HB3 : Hid (Below B w (wr.alloc (.cells #[.int .i64 q.1, .int .i64 q.2] 45))) := HB.out.trans (hal.mono hBs)
              have HQ3 := Lib.hid (Qb.made wr q.1 q.2)
              have y0 := (hal.cell (p := ⟨b2, _, none⟩) hl2).trans y0
              have y1 := (hal.cell (p := ⟨b2, _, none⟩) hl2).trans y1
              obtain ⟨W3, hW3⟩ : ∃ W3, wr.alloc (.cells #[.int .i64 q.1, .int .i64 q.2] 45) = W3 := ⟨_, rfl⟩
              have hsz3 : B ≤ W3.heap.size := by rw [← hW3, World.size_alloc]; omega
              rw [hW3] at HJ3 HB3 HQ3 y0 y1
              have HW3 := Lib.hid hW3
              clear hal hW3 HJ HB
              go_upto_region 15 with fail
              rw [HW3.out]
              clear HW3 x0 x1
              generalize wr.heap.size = lq at *
              have u0 := HQ3.out.c0
              have u1 := HQ3.out.c1
              have z0 := HJ3.out.box.cell
              have KA0 := Lib.hid (fun v W (hB : B ≤ W.heap.size) hJ => add_n B B bm bs v c' (p.1, q.2) ⟨⟨by omega, by omega⟩, hq64.2⟩ (by omega) W hB hJ)
              generalize hnc : c'.length = nc' at *
              clear hnc
              by_cases e : q.1 = p.2
              · have eI : (q.1 == p.2) = true := by rw [e]; simp
                have HI5 := Lib.hid (HI2.out e)
                have KA := Lib.hid (fun W hB hJ => KA0.out (.slice (some ⟨b2, o2, none⟩) nc' cc') W hB hJ)
                go_quiet (fail)
                go_upto_region 16 with fail
                have HK5 : Hid (∀ i, i < t + 1 → (l.getD i (0, 0)).1 = p.2 → (p.1, (l.getD i (0, 0)).2) ∈ U.addP c' (p.1, q.2)) := fun i hi hh => by
                  rw [U.addP_mem]
                  by_cases hit : i = t
                  · subst hit; rw [HQq.out]; exact .inr rfl
                  · exact .inl (HKn.out i hi hit hh)
                have HPf5 : Hid (c <+: U.addP c' (p.1, q.2)) := HPf.out.trans (U.addP_pre c' (p.1, q.2))
                go_region_with (refine (KA.out (W3.drewN (nq + 1)) hsz3 (HJ3.out.heap rfl)).mono ?_; rintro e w5 ⟨rfl, ⟨v5, hj5⟩, b5⟩)
                all_goals
                  have HJ5 := Lib.hid hj5
                  have HB5 := Lib.hid ((below_drewN HB3.out _).trans b5)
                  clear hj5 b5
                  go_wp2_with fail
                  go_roundg (m - (t + 1))
                  case measure => omega
                  case rel => exact ⟨t + 1, v5, U.addP c' (p.1, q.2), by omega, by go_num, by omega, HJ5, HI5, HPf5, HK5, HB5⟩
              · have eI := ne_eqI e
                have HK5 : Hid (∀ i, i < t + 1 → (l.getD i (0, 0)).1 = p.2 → (p.1, (l.getD i (0, 0)).2) ∈ c') := fun i hi hh => by
                  by_cases hit : i = t
                  · subst hit; rw [HQq.out] at hh; exact absurd hh e
                  · exact HKn.out i hi hit hh
                go_quiet (fail)
                go_wp2_with fail
                go_roundg (m - (t + 1))
                case measure => omega
                case rel => exact ⟨t + 1, _, c', by omega, by go_num, by omega, HJ3.out.heap rfl, HI', HPf, HK5, below_drewN HB3.out _⟩
            · have htk : t = m := by omega
              have htI : ¬ (t : Int) < (m : Int) := by omega
              have hkc : k < c.length := by rw [HCl.out]; exact hlt
              have HC2 : Hid (∀ p ∈ l, p ∈ c') := fun p hp => pre_mem HPf.out (HC.out p hp)
              have HK2 : Hid (∀ j, j < k + 1 → ∀ q ∈ l, q.1 = (c'.getD j (0, 0)).2 → ((c'.getD j (0, 0)).1, q.2) ∈ c') := fun j hj q hq he => by
                rw [pre_get HPf.out (show j < c.length by omega)] at he ⊢
                by_cases ejk : j = k
                · subst ejk
                  obtain ⟨i, hi, rfl⟩ := List.getElem_of_mem hq
                  have h1 := HK'.out i (by rw [htk, ← HM.out]; exact hi)
                  rw [List.getD_eq_getElem?_getD (l := l), List.getElem?_eq_getElem hi] at h1
                  exact h1 he
                · exact pre_mem HPf.out (HK.out j (by omega) q hq he)
              have hk2 : k + 1 ≤ c'.length := Nat.le_trans hkc HPf.out.length_le
              clear HK' HC HK HI
              go_wp2_with fail
              go_roundg (101 - (k + 1))
              case measure => omega
              case rel => exact ⟨k + 1, v', c', hk2, by go_num, by omega, HJ, HI', HC2, HK2, HB⟩
        · have hkk : k = c.length := by omega
          have hkI : ¬ (k : Int) < (c.length : Int) := by omega
          have HK2 : Hid (∀ p ∈ c, ∀ q ∈ l, q.1 = p.2 → (p.1, q.2) ∈ c) := fun p hp q hq e => by
            obtain ⟨i, hi, rfl⟩ := List.getElem_of_mem hp
            have h1 := HK.out i (by rw [hkk]; exact hi) q hq
            rw [List.getD_eq_getElem?_getD, List.getElem?_eq_getElem hi] at h1
            exact h1 e
          generalize c.length = nc at *
          go_wp2_with fail
          go_ret
          exact ⟨_, c, rfl, by rw [HBB.out]; exact HJ.out.own, HI.out, HC.out, HK2.out, by rw [HBB.out]; exact HB.out⟩

end Go.Proofs.YtmoilpkgoabopaaDoor.T

