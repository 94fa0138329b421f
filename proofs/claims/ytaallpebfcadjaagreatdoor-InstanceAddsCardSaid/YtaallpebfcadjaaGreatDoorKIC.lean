/-
  DERIVED. KIC: a part of the base of layer 13 (made by pack.py).
-/
import Derived.Test.YtaallpebfcadjaaGreatDoorKQG
import Derived.Test.YtaallpebfcadjaaGreatDoorKIB
import Derived.Test.YtaallpebfcadjaaGreatDoorKPO
/-! The walks of slices.Equal of points and of pairs (as RefIn4's). -/
namespace Go.Proofs.YtaallpebfcadjaaGreatDoor.T
open Go.RowKit
set_option maxRecDepth 8000

set_option maxHeartbeats 1600000 in
theorem eqPts_n (u v : Value) (a b : List (Int × Int)) (hl : a.length ≤ 1000000) (w : World) (hu : Ps w u a) (hv : Ps w v b) :
    Calls Tryz.prog 72 #[u, v] w fun e w' => e = .returned (.bool (a == b)) ∧ Below w.heap.size w w' := by
  have HU := Lib.hid hu
  have HV := Lib.hid hv
  obtain ⟨oa, ca, rfl, -⟩ := hu
  obtain ⟨ob, cb, rfl, -⟩ := hv
  by_cases hab : a.length = b.length
  · have HY : Hid ((∀ i, i < a.length → a.getD i (0, 0) = b.getD i (0, 0)) → (a == b) = true) := fun h => eqb_of hab h
    have HNo : Hid (∀ i, a.getD i (0, 0) ≠ b.getD i (0, 0) → (a == b) = false) := fun i h => eqb_no h
    rw [← hab] at HV ⊢
    generalize (a == b) = r at *
    have HAB := Lib.hid hab
    generalize hn : a.length = n at *
    have HN := Lib.hid hn
    have hne : ((n : Int) != (n : Int)) = false := by simp
    have hgs : Tryz.prog.eqGuardType Tryz.prog.depth 105 = false := by kernel_rfl
    clear hn hab
    go_enter Tryz.func72, Tryz.ntmps72
    go_wp2_with fail
    go_loopg [13] n (fun g i wr => ∃ k : Nat, k ≤ n ∧ i = .int .i64 k ∧ n - k ≤ g ∧ Hid (∀ i, i < k → a.getD i (0, 0) = b.getD i (0, 0)) ∧ Hid (∀ z, Below w.heap.size w (wr.drewN z)))
    case atStart => exact ⟨0, Nat.zero_le _, rfl, Nat.le_refl _, fun i hi => absurd hi (Nat.not_lt_zero _), fun z => below_drewN (Below.refl _ _) z⟩
    case round =>
      obtain ⟨k, hk, rfl, hg, HK, HB⟩ := hrel
      have HB0 : Hid (Below w.heap.size w wr) := by have := HB.out 0; exact this
      by_cases hlt : k < n
      · have hkI : (k : Int) < (n : Int) := by omega
        obtain ⟨b1, o1, rfl, hab1, x0, x1⟩ := ps_at (by have := HU.out.below HB0.out; rw [← HN.out] at this; exact this) (show k < a.length by rw [HN.out]; exact hlt)
        obtain ⟨b2, o2, rfl, hab2, y0, y1⟩ := ps_at (by have := HV.out.below HB0.out; rw [HAB.out] at this; exact this) (show k < b.length by rw [← HAB.out]; exact hlt)
        have HNk := Lib.hid (HNo.out k)
        have HKm : Hid (a.getD k (0, 0) = b.getD k (0, 0) → ∀ i, i < k + 1 → a.getD i (0, 0) = b.getD i (0, 0)) := fun h i hi => by
          by_cases e : i = k
          · subst e; exact h
          · exact HK.out i (by omega)
        generalize a.getD k (0, 0) = p at *
        generalize b.getD k (0, 0) = q at *
        by_cases hpq : p = q
        · have HK2 := Lib.hid (HKm.out hpq)
          have hq := neqPt p.1 p.2 q.1 q.2
          rw [(pr_eq (p := p) (q := q)).2 hpq, Bool.not_true] at hq
          clear hpq
          go_upto_region 6 with fail
          go_quiet (fail)
          go_wp2_with fail
          go_roundg (n - (k + 1))
          case measure => omega
          case rel => exact ⟨k + 1, by omega, by go_num, by omega, HK2, fun z => below_drewN (below_drewN HB0.out _) z⟩
        · have HX : Hid (r = false) := HNk.out hpq
          have hq := neqPt p.1 p.2 q.1 q.2
          have hpf : (p.1 == q.1 && p.2 == q.2) = false := by
            cases h : (p.1 == q.1 && p.2 == q.2)
            · rfl
            · exact absurd (pr_eq.1 h) hpq
          rw [hpf, Bool.not_false] at hq
          clear hpq hpf
          go_upto_region 6 with fail
          go_quiet (fail)
          go_wp2_with fail
          go_ret
          exact ⟨ret_bool (by rw [HX.out]), below_drewN HB0.out _⟩
      · have hkk : k = n := by omega
        have hkI : ¬ (k : Int) < (n : Int) := by omega
        have HX : Hid (r = true) := HY.out (by rw [← hkk]; exact HK.out)
        go_wp2_with fail
        go_ret
        exact ⟨ret_bool (by rw [HX.out]), HB0.out⟩
  · have HX : Hid ((a == b) = false) := eqb_len hab
    have hne : ((a.length : Int) != (b.length : Int)) = true := ne_neN hab
    generalize (a == b) = r at *
    clear hab
    go_enter Tryz.func72, Tryz.ntmps72
    go_wp2_with fail
    go_ret
    exact ⟨ret_bool (by rw [HX.out]), Below.refl _ _⟩
set_option maxHeartbeats 1600000 in
theorem eqPrs_n (u v : Value) (a b : List (Int × Int)) (hl : a.length ≤ 1000000) (w : World) (hu : Ps w u a) (hv : Ps w v b) :
    Calls Tryz.prog 45 #[u, v] w fun e w' => e = .returned (.bool (a == b)) ∧ Below w.heap.size w w' := by
  have HU := Lib.hid hu
  have HV := Lib.hid hv
  obtain ⟨oa, ca, rfl, -⟩ := hu
  obtain ⟨ob, cb, rfl, -⟩ := hv
  by_cases hab : a.length = b.length
  · have HY : Hid ((∀ i, i < a.length → a.getD i (0, 0) = b.getD i (0, 0)) → (a == b) = true) := fun h => eqb_of hab h
    have HNo : Hid (∀ i, a.getD i (0, 0) ≠ b.getD i (0, 0) → (a == b) = false) := fun i h => eqb_no h
    rw [← hab] at HV ⊢
    generalize (a == b) = r at *
    have HAB := Lib.hid hab
    generalize hn : a.length = n at *
    have HN := Lib.hid hn
    have hne : ((n : Int) != (n : Int)) = false := by simp
    have hgs : Tryz.prog.eqGuardType Tryz.prog.depth 75 = false := by kernel_rfl
    clear hn hab
    go_enter Tryz.func45, Tryz.ntmps45
    go_wp2_with fail
    go_loopg [13] n (fun g i wr => ∃ k : Nat, k ≤ n ∧ i = .int .i64 k ∧ n - k ≤ g ∧ Hid (∀ i, i < k → a.getD i (0, 0) = b.getD i (0, 0)) ∧ Hid (∀ z, Below w.heap.size w (wr.drewN z)))
    case atStart => exact ⟨0, Nat.zero_le _, rfl, Nat.le_refl _, fun i hi => absurd hi (Nat.not_lt_zero _), fun z => below_drewN (Below.refl _ _) z⟩
    case round =>
      obtain ⟨k, hk, rfl, hg, HK, HB⟩ := hrel
      have HB0 : Hid (Below w.heap.size w wr) := by have := HB.out 0; exact this
      by_cases hlt : k < n
      · have hkI : (k : Int) < (n : Int) := by omega
        obtain ⟨b1, o1, rfl, hab1, x0, x1⟩ := ps_at (by have := HU.out.below HB0.out; rw [← HN.out] at this; exact this) (show k < a.length by rw [HN.out]; exact hlt)
        obtain ⟨b2, o2, rfl, hab2, y0, y1⟩ := ps_at (by have := HV.out.below HB0.out; rw [HAB.out] at this; exact this) (show k < b.length by rw [← HAB.out]; exact hlt)
        have HNk := Lib.hid (HNo.out k)
        have HKm : Hid (a.getD k (0, 0) = b.getD k (0, 0) → ∀ i, i < k + 1 → a.getD i (0, 0) = b.getD i (0, 0)) := fun h i hi => by
          by_cases e : i = k
          · subst e; exact h
          · exact HK.out i (by omega)
        generalize a.getD k (0, 0) = p at *
        generalize b.getD k (0, 0) = q at *
        by_cases hpq : p = q
        · have HK2 := Lib.hid (HKm.out hpq)
          have hq := neqPr p.1 p.2 q.1 q.2
          rw [(pr_eq (p := p) (q := q)).2 hpq, Bool.not_true] at hq
          clear hpq
          go_upto_region 6 with fail
          go_quiet (fail)
          go_wp2_with fail
          go_roundg (n - (k + 1))
          case measure => omega
          case rel => exact ⟨k + 1, by omega, by go_num, by omega, HK2, fun z => below_drewN (below_drewN HB0.out _) z⟩
        · have HX : Hid (r = false) := HNk.out hpq
          have hq := neqPr p.1 p.2 q.1 q.2
          have hpf : (p.1 == q.1 && p.2 == q.2) = false := by
            cases h : (p.1 == q.1 && p.2 == q.2)
            · rfl
            · exact absurd (pr_eq.1 h) hpq
          rw [hpf, Bool.not_false] at hq
          clear hpq hpf
          go_upto_region 6 with fail
          go_quiet (fail)
          go_wp2_with fail
          go_ret
          exact ⟨ret_bool (by rw [HX.out]), below_drewN HB0.out _⟩
      · have hkk : k = n := by omega
        have hkI : ¬ (k : Int) < (n : Int) := by omega
        have HX : Hid (r = true) := HY.out (by rw [← hkk]; exact HK.out)
        go_wp2_with fail
        go_ret
        exact ⟨ret_bool (by rw [HX.out]), HB0.out⟩
  · have HX : Hid ((a == b) = false) := eqb_len hab
    have hne : ((a.length : Int) != (b.length : Int)) = true := ne_neN hab
    generalize (a == b) = r at *
    clear hab
    go_enter Tryz.func45, Tryz.ntmps45
    go_wp2_with fail
    go_ret
    exact ⟨ret_bool (by rw [HX.out]), Below.refl _ _⟩

end Go.Proofs.YtaallpebfcadjaaGreatDoor.T


/-! The walks of slices.Equal of texts and of the landed instance's sameArc. -/
namespace Go.Proofs.YtaallpebfcadjaaGreatDoor.T
open Go.RowKit
set_option maxRecDepth 8000

theorem ss_cells {w : World} {b o : Nat} {c : Nat} {l : List ByteArray} (h : Ss w (.slice (some ⟨b, o, none⟩) l.length c) l) : ∀ j, j < l.length → w.cell? ⟨b, o + j, none⟩ = some (.string (l.getD j ByteArray.empty)) := fun j hj => by
  obtain ⟨oa, c', hv, h⟩ := h
  simp only [Value.slice.injEq] at hv
  obtain ⟨rfl, -, rfl⟩ := hv
  obtain ⟨a, ha, -, hc⟩ := h j hj
  simp only [Option.some.injEq] at ha
  subst ha
  rw [add_pl] at hc
  exact hc
theorem psI_below2 {w w' : World} {v : Value} {l : List (Int × Int)} (h : Ps w v l) (hb : Below w.heap.size w w') : Ps w' v l := Sl.below h hb
theorem eqStrs_n (u v : Value) (a b : List ByteArray) (ha9 : a.length ≤ 1000000000) (hb9 : b.length ≤ 1000000000) (w : World) (hu : Ss w u a) (hv : Ss w v b) :
    Calls Tryz.prog 38 #[u, v] w fun e w' => e = .returned (.bool (decide (a = b))) ∧ ∃ q, w' = w.drewN q := by
  have HU := hu
  have HV := hv
  obtain ⟨oa, ca, rfl, hca⟩ := hu
  obtain ⟨ob, cb, rfl, hcb⟩ := hv
  by_cases hn : a.length = b.length
  · by_cases h0 : a.length = 0
    · have ea : a = [] := List.eq_nil_of_length_eq_zero h0
      have eb : b = [] := List.eq_nil_of_length_eq_zero (by omega)
      subst ea; subst eb
      refine (Tryz.slices_Equal_string_empty oa ob ca 0 cb w (by omega)).mono ?_
      rintro e w' ⟨rfl, rfl⟩
      exact ⟨by simp, 0, rfl⟩
    · obtain ⟨pa, rfl, -, xa⟩ := hca 0 (by omega)
      obtain ⟨pb, rfl, -, xb⟩ := hcb 0 (by omega)
      obtain ⟨b1, o1, s1⟩ := pa
      obtain ⟨b2, o2, s2⟩ := pb
      have hs1 : s1 = none := by simpa [Addr.add] using World.cell?_spot xa
      have hs2 : s2 = none := by simpa [Addr.add] using World.cell?_spot xb
      subst hs1; subst hs2
      refine (Tryz.slices_Equal_string b1 o1 a.length ca b2 o2 b.length cb a b w (Nat.le_refl _) (Nat.le_refl _) (by omega) (by omega) (ss_cells HU) (ss_cells HV)).mono ?_
      rintro e w' ⟨rfl, hq⟩
      exact ⟨by rw [List.take_length, List.take_length], hq⟩
  · refine (Tryz.slices_Equal_string_lens oa ob a.length ca b.length cb w hn).mono ?_
    rintro e w' ⟨rfl, rfl⟩
    refine ⟨ret_bool ?_, 0, rfl⟩
    symm
    rw [decide_eq_false_iff_not]
    intro h
    exact hn (by rw [h])
/-- block q holds these cells -/
def Cb (w : World) (q : Nat) (cs : Array Value) (t : TypeId) : Prop := w.heap[q]? = some (.cells cs t)
theorem Cb.cell {w : World} {q : Nat} {cs : Array Value} {t : TypeId} (h : Cb w q cs t) (k : Nat) {v : Value} (hk : cs[k]? = some v) : w.cell? ⟨q, k, none⟩ = some v := by
  unfold Cb at h
  simp [World.cell?, h, hk]
theorem Cb.f {w : World} {q : Nat} {cs : Array Value} {t : TypeId} (h : Cb w q cs t) (k : Nat) : w.frozen? ⟨q, k, none⟩ = false := by unfold Cb at h; simp [World.frozen?, h]
theorem Cb.lt {w : World} {q : Nat} {cs : Array Value} {t : TypeId} (h : Cb w q cs t) : q < w.heap.size := by
  apply Decidable.byContradiction
  intro hc
  unfold Cb at h
  rw [Array.getElem?_eq_none (by omega)] at h; cases h
theorem Cb.below {w w' : World} {q : Nat} {cs : Array Value} {t : TypeId} (h : Cb w q cs t) (hb : Below w.heap.size w w') : Cb w' q cs t := (hb.block q h.lt).trans h
theorem Cb.made (w : World) (cs : Array Value) (t : TypeId) : Cb (w.alloc (.cells cs t)) w.heap.size cs t := by
  show (w.heap.push _)[w.heap.size]? = _
  simp
theorem Cb.old {w : World} {q : Nat} {cs : Array Value} {t : TypeId} (h : Cb w q cs t) (o : Obj) : Cb (w.alloc o) q cs t := h.below (below_alloc w o)
/-- an arc by value -/
def arcV (a : ArcT) (vt vs : Value) : Value := .agg #[.int .i64 a.fr, .int .i64 a.to, .int .i64 a.prof, .int .i64 a.miles, vt, vs]
set_option maxHeartbeats 6400000 in
theorem sameArc_n (a b : ArcT) (vt vs ut us : Value) (h1 : a.tr.length ≤ 1000000 ∧ a.sl.length ≤ 1000000) (w : World) (ht : Ps w vt a.tr) (hs : Ps w vs a.sl) (gt : Ps w ut b.tr) (gs : Ps w us b.sl) :
    Calls Tryz.prog 40 #[arcV a vt vs, arcV b ut us] w fun e w' => e = .returned (.bool (samA a b)) ∧ Below w.heap.size w w' := by
  obtain ⟨fr, dt, pr, mi, tr, sl⟩ := a
  obtain ⟨fr', dt', pr', mi', tr', sl'⟩ := b
  simp only at h1 ht hs gt gs
  unfold arcV
  simp only
  have HE : Hid ((fr == fr' && (dt == dt' && (pr == pr' && (mi == mi' && (tr == tr' && sl == sl'))))) = samA ⟨fr, dt, pr, mi, tr, sl⟩ ⟨fr', dt', pr', mi', tr', sl'⟩) := rfl
  generalize samA ⟨fr, dt, pr, mi, tr, sl⟩ ⟨fr', dt', pr', mi', tr', sl'⟩ = r at *
  have K1 := Lib.hid (fun w h1' h2' => eqPts_n vt ut tr tr' h1.1 w h1' h2')
  have K2 := Lib.hid (fun w h1' h2' => eqPts_n vs us sl sl' h1.2 w h1' h2')
  obtain ⟨ot, ct, rfl, -⟩ := id ht
  obtain ⟨os, cs, rfl, -⟩ := id hs
  obtain ⟨pt, dt1, rfl, -⟩ := id gt
  obtain ⟨ps, ds1, rfl, -⟩ := id gs
  have BA := below_alloc w (.cells #[.int .i64 fr, .int .i64 dt, .int .i64 pr, .int .i64 mi, .slice ot tr.length ct, .slice os sl.length cs] 54)
  have BB := below_alloc (w.alloc (.cells #[.int .i64 fr, .int .i64 dt, .int .i64 pr, .int .i64 mi, .slice ot tr.length ct, .slice os sl.length cs] 54)) (.cells #[.int .i64 fr', .int .i64 dt', .int .i64 pr', .int .i64 mi', .slice pt tr'.length dt1, .slice ps sl'.length ds1] 54)
  have B0 := over BA BB
  have J1 := Lib.hid (ht.below B0)
  have J2 := Lib.hid (hs.below B0)
  have J3 := Lib.hid (gt.below B0)
  have J4 := Lib.hid (gs.below B0)
  have HB := Lib.hid B0
  clear ht hs gt gs h1 BA BB B0
  generalize (tr == tr') = z4 at *
  generalize (sl == sl') = z5 at *
  cases e0 : (fr == fr')
  · have HX : Hid (r = false) := by show _ = _; rw [← HE.out, e0]; rfl
    go_enter Tryz.func40, Tryz.ntmps40
    go_wp2_with fail
    go_ret
    exact ⟨ret_bool (by rw [HX.out]), HB.out⟩
  cases e1 : (dt == dt')
  · have HX : Hid (r = false) := by show _ = _; rw [← HE.out, e1]; simp
    go_enter Tryz.func40, Tryz.ntmps40
    go_wp2_with fail
    go_ret
    exact ⟨ret_bool (by rw [HX.out]), HB.out⟩
  cases e2 : (pr == pr')
  · have HX : Hid (r = false) := by show _ = _; rw [← HE.out, e2]; simp
    go_enter Tryz.func40, Tryz.ntmps40
    go_wp2_with fail
    go_ret
    exact ⟨ret_bool (by rw [HX.out]), HB.out⟩
  cases e3 : (mi == mi')
  · have HX : Hid (r = false) := by show _ = _; rw [← HE.out, e3]; simp
    go_enter Tryz.func40, Tryz.ntmps40
    go_wp2_with fail
    go_ret
    exact ⟨ret_bool (by rw [HX.out]), HB.out⟩
  have HX : Hid (r = (z4 && z5)) := by show _ = _; rw [← HE.out, e0, e1, e2, e3]; rfl
  clear HE
  have M1 := (Cb.made w #[.int .i64 fr, .int .i64 dt, .int .i64 pr, .int .i64 mi, .slice ot tr.length ct, .slice os sl.length cs] 54).old (.cells #[.int .i64 fr', .int .i64 dt', .int .i64 pr', .int .i64 mi', .slice pt tr'.length dt1, .slice ps sl'.length ds1] 54)
  have M2 := Cb.made (w.alloc (.cells #[.int .i64 fr, .int .i64 dt, .int .i64 pr, .int .i64 mi, .slice ot tr.length ct, .slice os sl.length cs] 54)) #[.int .i64 fr', .int .i64 dt', .int .i64 pr', .int .i64 mi', .slice pt tr'.length dt1, .slice ps sl'.length ds1] 54
  rw [World.size_alloc] at M2
  obtain ⟨W0, hW0⟩ : ∃ W0, (w.alloc (.cells #[.int .i64 fr, .int .i64 dt, .int .i64 pr, .int .i64 mi, .slice ot tr.length ct, .slice os sl.length cs] 54)).alloc (.cells #[.int .i64 fr', .int .i64 dt', .int .i64 pr', .int .i64 mi', .slice pt tr'.length dt1, .slice ps sl'.length ds1] 54) = W0 := ⟨_, rfl⟩
  rw [hW0] at M1 M2 J1 J2 J3 J4 HB
  have HM1 := Lib.hid M1
  have HM2 := Lib.hid M2
  have HW0 := Lib.hid hW0
  clear M1 M2 hW0
  go_enter Tryz.func40, Tryz.ntmps40
  go_upto_region 1 with fail
  rw [HW0.out]
  clear HW0
  have m0 := HM1.out.cell 0 rfl
  have m1 := HM1.out.cell 1 rfl
  have m2 := HM1.out.cell 2 rfl
  have m3 := HM1.out.cell 3 rfl
  have m4 := HM1.out.cell 4 rfl
  have n0 := HM2.out.cell 0 rfl
  have n1 := HM2.out.cell 1 rfl
  have n2 := HM2.out.cell 2 rfl
  have n3 := HM2.out.cell 3 rfl
  have n4 := HM2.out.cell 4 rfl
  go_wp2_with fail
  refine (K1.out _ J1.out J3.out).mono ?_
  rintro e w1 ⟨rfl, hb⟩
  have HB1 := Lib.hid hb
  clear hb
  have m5 := (HM1.out.below HB1.out).cell 5 rfl
  have n5 := (HM2.out.below HB1.out).cell 5 rfl
  clear m0 m1 m2 m3 m4 n0 n1 n2 n3 n4
  cases z4
  · go_wp2_with fail
    go_ret
    exact ⟨ret_bool (by rw [HX.out]; rfl), over HB.out HB1.out⟩
  · go_wp2_with fail
    refine (K2.out _ (psI_below2 J2.out HB1.out) (psI_below2 J4.out HB1.out)).mono ?_
    rintro e w2 ⟨rfl, hb⟩
    have HB2 := Lib.hid hb
    clear hb
    go_wp2_with fail
    go_ret
    exact ⟨ret_bool (by rw [HX.out]; rfl), over (over HB.out HB1.out) HB2.out⟩

end Go.Proofs.YtaallpebfcadjaaGreatDoor.T


/-! The walks of slices.EqualFunc over arcs, types and orders (written by gen_ineq3.py). -/
namespace Go.Proofs.YtaallpebfcadjaaGreatDoor.T
open Go.RowKit
set_option maxRecDepth 8000


set_option maxHeartbeats 12800000 in
theorem eqArcs_n (gf : FuncId) (eg : ∀ args w, (callFunc gf args).run Tryz.prog w = .ok (.enter gf args) w) (p : Nat → Bool) (v u : Value) (a b : List ArcT) (hl : a.length ≤ 1000000)
    (hp : ∀ i, i < a.length → i < b.length → ∀ (o10 o11 o20 o21 : Option Addr) (c10 c11 c20 c21 : Nat) (w : World), Ps w (.slice o10 (a.getD i arc0).tr.length c10) (a.getD i arc0).tr → Ps w (.slice o11 (a.getD i arc0).sl.length c11) (a.getD i arc0).sl → Ps w (.slice o20 (b.getD i arc0).tr.length c20) (b.getD i arc0).tr → Ps w (.slice o21 (b.getD i arc0).sl.length c21) (b.getD i arc0).sl → Calls Tryz.prog gf #[arcV (a.getD i arc0) (.slice o10 (a.getD i arc0).tr.length c10) (.slice o11 (a.getD i arc0).sl.length c11), arcV (b.getD i arc0) (.slice o20 (b.getD i arc0).tr.length c20) (.slice o21 (b.getD i arc0).sl.length c21)] w fun e w' => e = .returned (.bool (p i)) ∧ Below w.heap.size w w') (w : World) (hv : As w v a) (hu : As w u b) :
    Calls Tryz.prog 39 #[v, u, .func (.func gf) #[] #[]] w fun e w' => e = .returned (.bool (decide (a.length = b.length) && allI a.length p)) ∧ Below w.heap.size w w' := by
  have HV := Lib.hid hv
  have HU := Lib.hid hu
  obtain ⟨oa, ca, rfl, -⟩ := hv
  obtain ⟨ob, cb, rfl, -⟩ := hu
  have KP := Lib.hid hp
  clear hp
  by_cases hab : a.length = b.length
  · have HR : Hid ((decide (a.length = b.length) && allI a.length p) = allI a.length p) := by show _ = _; rw [decide_eq_true hab, Bool.true_and]
    have HNo := Lib.hid (fun i (hi : i < a.length) h => allI_no (p := p) hi h)
    have HY := Lib.hid (fun h => allI_yes (n := a.length) (p := p) h)
    generalize (decide (a.length = b.length) && allI a.length p) = r0 at *
    generalize allI a.length p = r at *
    have HU2 : Hid (As w (.slice ob a.length cb) b) := by show As _ _ _; rw [hab]; exact HU.out
    rw [← hab]
    have HAB := Lib.hid hab
    generalize hn : a.length = n at *
    have HN := Lib.hid hn
    have hne : ((n : Int) != (n : Int)) = false := by simp
    clear hn hab HU
    go_enter Tryz.func39, Tryz.ntmps39
    go_wp2_with fail
    go_loopg [17] n (fun g j wr => ∃ k : Nat, k ≤ n ∧ j = .int .i64 k ∧ n - k ≤ g ∧ Hid (∀ i, i < k → p i = true) ∧ Hid (Below w.heap.size w wr))
    case atStart => exact ⟨0, Nat.zero_le _, rfl, Nat.le_refl _, fun i hi => absurd hi (Nat.not_lt_zero _), Below.refl _ _⟩
    case round =>
      obtain ⟨k, hk, rfl, hg, HK, HB⟩ := hrel
      by_cases hlt : k < n
      · have hkI : (k : Int) < (n : Int) := by omega
        obtain ⟨oa', c', hoa, hos⟩ := HV.out.below HB.out
        rw [HN.out] at hoa
        simp only [Value.slice.injEq] at hoa
        obtain ⟨rfl, -, rfl⟩ := hoa
        obtain ⟨b1, o1, vt, vs, rfl, hb1, hac, hvt, hvs⟩ := hos k (by rw [HN.out]; exact hlt)
        obtain ⟨ob', d', hob, hot⟩ := HU2.out.below HB.out
        rw [← HAB.out] at hob
        simp only [Value.slice.injEq] at hob
        obtain ⟨rfl, -, rfl⟩ := hob
        obtain ⟨b2, o2, ut, us, rfl, hb2, hbc, gvt, gvs⟩ := hot k (by rw [← HAB.out]; exact hlt)
        have HPk := Lib.hid (fun o10 o11 o20 o21 c10 c11 c20 c21 => KP.out k hlt (by rw [← HAB.out]; exact hlt) o10 o11 o20 o21 c10 c11 c20 c21)
        have HNk := Lib.hid (HNo.out k hlt)
        have HKm := Lib.hid (fun h => less_mo (k := k) HK.out h)
        obtain ⟨o10, c10, rfl, -⟩ := id hvt
        obtain ⟨o11, c11, rfl, -⟩ := id hvs
        obtain ⟨o20, c20, rfl, -⟩ := id gvt
        obtain ⟨o21, c21, rfl, -⟩ := id gvs
        obtain ⟨x0, x1, x2, x3, x4, x5⟩ := hac
        obtain ⟨y0, y1, y2, y3, y4, y5⟩ := hbc
        clear hos hot
        generalize a.getD k arc0 = s at *
        generalize b.getD k arc0 = t at *
        unfold arcV at HPk
        have hal := below_alloc wr (.cells #[.int .i64 s.fr, .int .i64 s.to, .int .i64 s.prof, .int .i64 s.miles, (.slice o10 s.tr.length c10), (.slice o11 s.sl.length c11)] 54)
        have M1 := Cb.made wr #[.int .i64 s.fr, .int .i64 s.to, .int .i64 s.prof, .int .i64 s.miles, (.slice o10 s.tr.length c10), (.slice o11 s.sl.length c11)] 54
        obtain ⟨W1, hW1⟩ : ∃ W1, wr.alloc (.cells #[.int .i64 s.fr, .int .i64 s.to, .int .i64 s.prof, .int .i64 s.miles, (.slice o10 s.tr.length c10), (.slice o11 s.sl.length c11)] 54) = W1 := ⟨_, rfl⟩
        rw [hW1] at hal M1
        have HW1 := Lib.hid hW1
        have y0 := (hal.cell (p := ⟨b2, _, none⟩) hb2).trans y0
        have y1 := (hal.cell (p := ⟨b2, _, none⟩) hb2).trans y1
        have y2 := (hal.cell (p := ⟨b2, _, none⟩) hb2).trans y2
        have y3 := (hal.cell (p := ⟨b2, _, none⟩) hb2).trans y3
        have y4 := (hal.cell (p := ⟨b2, _, none⟩) hb2).trans y4
        have y5 := (hal.cell (p := ⟨b2, _, none⟩) hb2).trans y5
        have hbl := below_alloc W1 (.cells #[.int .i64 t.fr, .int .i64 t.to, .int .i64 t.prof, .int .i64 t.miles, (.slice o20 t.tr.length c20), (.slice o21 t.sl.length c21)] 54)
        have M2 := Cb.made W1 #[.int .i64 t.fr, .int .i64 t.to, .int .i64 t.prof, .int .i64 t.miles, (.slice o20 t.tr.length c20), (.slice o21 t.sl.length c21)] 54
        have M1 := M1.old (.cells #[.int .i64 t.fr, .int .i64 t.to, .int .i64 t.prof, .int .i64 t.miles, (.slice o20 t.tr.length c20), (.slice o21 t.sl.length c21)] 54)
        obtain ⟨W2, hW2⟩ : ∃ W2, W1.alloc (.cells #[.int .i64 t.fr, .int .i64 t.to, .int .i64 t.prof, .int .i64 t.miles, (.slice o20 t.tr.length c20), (.slice o21 t.sl.length c21)] 54) = W2 := ⟨_, rfl⟩
        rw [hW2] at hbl M1 M2
        have HW2 := Lib.hid hW2
        have hbl := over hal hbl
        have J0 := Lib.hid (psI_below2 hvt hbl)
        have Q0 := Lib.hid (psI_below2 gvt hbl)
        have J1 := Lib.hid (psI_below2 hvs hbl)
        have Q1 := Lib.hid (psI_below2 gvs hbl)
        have HB2 := Lib.hid (over HB.out hbl)
        have HM1 := Lib.hid M1
        have HM2 := Lib.hid M2
        clear hal hbl hW1 hW2 M1 M2 hvt hvs gvt gvs
        generalize p k = z at *
        go_upto_region 6 with fail
        rw [HW1.out]
        clear x0 x1 x2 x3 x4 x5 HW1
        generalize wr.heap.size = q1 at *
        as_aux_lemma =>
        go_upto_region 7 with fail
        rw [HW2.out]
        clear y0 y1 y2 y3 y4 y5 HW2
        generalize W1.heap.size = q2 at *
        as_aux_lemma =>
        have m0 := HM1.out.cell 0 rfl
        have n0 := HM2.out.cell 0 rfl
        have m1 := HM1.out.cell 1 rfl
        have n1 := HM2.out.cell 1 rfl
        have m2 := HM1.out.cell 2 rfl
        have n2 := HM2.out.cell 2 rfl
        have m3 := HM1.out.cell 3 rfl
        have n3 := HM2.out.cell 3 rfl
        have m4 := HM1.out.cell 4 rfl
        have n4 := HM2.out.cell 4 rfl
        have m5 := HM1.out.cell 5 rfl
        have n5 := HM2.out.cell 5 rfl
        go_wp2_with fail
        refine (HPk.out _ _ _ _ _ _ _ _ _ J0.out J1.out Q0.out Q1.out).mono ?_
        clear m0 n0 m1 n1 m2 n2 m3 n3 m4 n4 m5 n5
        rintro e w5 ⟨rfl, b5⟩
        have HB5 := Lib.hid (over HB2.out b5)
        clear b5
        cases z
        · have HX : Hid (r = false) := HNk.out rfl
          go_wp2_with fail
          go_ret
          exact ⟨ret_bool (by rw [HR.out, HX.out]), HB5.out⟩
        · have HK3 := Lib.hid (HKm.out rfl)
          go_wp2_with fail
          go_roundg (n - (k + 1))
          case measure => omega
          case rel => exact ⟨k + 1, by omega, by go_num, by omega, HK3, HB5⟩
      · have hkk : k = n := by omega
        have hkI : ¬ (k : Int) < (n : Int) := by omega
        have HX : Hid (r = true) := HY.out (by rw [← hkk]; exact HK.out)
        go_wp2_with fail
        go_ret
        exact ⟨ret_bool (by rw [HR.out, HX.out]), HB.out⟩
  · have HX : Hid ((decide (a.length = b.length) && allI a.length p) = false) := by show _ = _; rw [decide_eq_false hab, Bool.false_and]
    have hne : ((a.length : Int) != (b.length : Int)) = true := ne_neN hab
    generalize (decide (a.length = b.length) && allI a.length p) = r at *
    clear hab
    go_enter Tryz.func39, Tryz.ntmps39
    go_wp2_with fail
    go_ret
    exact ⟨ret_bool (by rw [HX.out]), Below.refl _ _⟩

set_option maxHeartbeats 12800000 in
theorem eqTypes_n (gf : FuncId) (eg : ∀ args w, (callFunc gf args).run Tryz.prog w = .ok (.enter gf args) w) (p : Nat → Bool) (v u : Value) (a b : List TyT) (hl : a.length ≤ 1000000)
    (hp : ∀ i, i < a.length → i < b.length → ∀ (o10 o20 : Option Addr) (c10 c20 : Nat) (w : World), L.Li w (.slice o10 (a.getD i ty0).cap.length c10) (a.getD i ty0).cap → L.Li w (.slice o20 (b.getD i ty0).cap.length c20) (b.getD i ty0).cap → Calls Tryz.prog gf #[tyV (a.getD i ty0) (.slice o10 (a.getD i ty0).cap.length c10), tyV (b.getD i ty0) (.slice o20 (b.getD i ty0).cap.length c20)] w fun e w' => e = .returned (.bool (p i)) ∧ Below w.heap.size w w') (w : World) (hv : Ts w v a) (hu : Ts w u b) :
    Calls Tryz.prog 41 #[v, u, .func (.func gf) #[] #[]] w fun e w' => e = .returned (.bool (decide (a.length = b.length) && allI a.length p)) ∧ Below w.heap.size w w' := by
  have HV := Lib.hid hv
  have HU := Lib.hid hu
  obtain ⟨oa, ca, rfl, -⟩ := hv
  obtain ⟨ob, cb, rfl, -⟩ := hu
  have KP := Lib.hid hp
  clear hp
  by_cases hab : a.length = b.length
  · have HR : Hid ((decide (a.length = b.length) && allI a.length p) = allI a.length p) := by show _ = _; rw [decide_eq_true hab, Bool.true_and]
    have HNo := Lib.hid (fun i (hi : i < a.length) h => allI_no (p := p) hi h)
    have HY := Lib.hid (fun h => allI_yes (n := a.length) (p := p) h)
    generalize (decide (a.length = b.length) && allI a.length p) = r0 at *
    generalize allI a.length p = r at *
    have HU2 : Hid (Ts w (.slice ob a.length cb) b) := by show Ts _ _ _; rw [hab]; exact HU.out
    rw [← hab]
    have HAB := Lib.hid hab
    generalize hn : a.length = n at *
    have HN := Lib.hid hn
    have hne : ((n : Int) != (n : Int)) = false := by simp
    clear hn hab HU
    go_enter Tryz.func41, Tryz.ntmps41
    go_wp2_with fail
    go_loopg [17] n (fun g j wr => ∃ k : Nat, k ≤ n ∧ j = .int .i64 k ∧ n - k ≤ g ∧ Hid (∀ i, i < k → p i = true) ∧ Hid (Below w.heap.size w wr))
    case atStart => exact ⟨0, Nat.zero_le _, rfl, Nat.le_refl _, fun i hi => absurd hi (Nat.not_lt_zero _), Below.refl _ _⟩
    case round =>
      obtain ⟨k, hk, rfl, hg, HK, HB⟩ := hrel
      by_cases hlt : k < n
      · have hkI : (k : Int) < (n : Int) := by omega
        obtain ⟨oa', c', hoa, hos⟩ := HV.out.below HB.out
        rw [HN.out] at hoa
        simp only [Value.slice.injEq] at hoa
        obtain ⟨rfl, -, rfl⟩ := hoa
        obtain ⟨b1, o1, vc, rfl, hb1, hac, hvc⟩ := hos k (by rw [HN.out]; exact hlt)
        obtain ⟨ob', d', hob, hot⟩ := HU2.out.below HB.out
        rw [← HAB.out] at hob
        simp only [Value.slice.injEq] at hob
        obtain ⟨rfl, -, rfl⟩ := hob
        obtain ⟨b2, o2, uc, rfl, hb2, hbc, gvc⟩ := hot k (by rw [← HAB.out]; exact hlt)
        have HPk := Lib.hid (fun o10 o20 c10 c20 => KP.out k hlt (by rw [← HAB.out]; exact hlt) o10 o20 c10 c20)
        have HNk := Lib.hid (HNo.out k hlt)
        have HKm := Lib.hid (fun h => less_mo (k := k) HK.out h)
        obtain ⟨o10, c10, rfl, -⟩ := id hvc
        obtain ⟨o20, c20, rfl, -⟩ := id gvc
        obtain ⟨x0, x1, x2, x3, x4, x5, x6, x7, x8, x9, x10, x11, x12, x13⟩ := hac
        obtain ⟨y0, y1, y2, y3, y4, y5, y6, y7, y8, y9, y10, y11, y12, y13⟩ := hbc
        clear hos hot
        generalize a.getD k ty0 = s at *
        generalize b.getD k ty0 = t at *
        unfold tyV at HPk
        have hal := below_alloc wr (.cells #[.string s.name, .int .i64 s.count, .int .i64 s.fr, .int .i64 s.to, (.slice o10 s.cap.length c10), .int .i64 s.skills, .int .i64 s.prof, .int .i64 s.opn, .int .i64 s.cls, .int .i64 s.drv, .int .i64 s.rst, .int .i64 s.fix, .int .i64 s.pm, .int .i64 s.pt] 56)
        have M1 := Cb.made wr #[.string s.name, .int .i64 s.count, .int .i64 s.fr, .int .i64 s.to, (.slice o10 s.cap.length c10), .int .i64 s.skills, .int .i64 s.prof, .int .i64 s.opn, .int .i64 s.cls, .int .i64 s.drv, .int .i64 s.rst, .int .i64 s.fix, .int .i64 s.pm, .int .i64 s.pt] 56
        obtain ⟨W1, hW1⟩ : ∃ W1, wr.alloc (.cells #[.string s.name, .int .i64 s.count, .int .i64 s.fr, .int .i64 s.to, (.slice o10 s.cap.length c10), .int .i64 s.skills, .int .i64 s.prof, .int .i64 s.opn, .int .i64 s.cls, .int .i64 s.drv, .int .i64 s.rst, .int .i64 s.fix, .int .i64 s.pm, .int .i64 s.pt] 56) = W1 := ⟨_, rfl⟩
        rw [hW1] at hal M1
        have HW1 := Lib.hid hW1
        have y0 := (hal.cell (p := ⟨b2, _, none⟩) hb2).trans y0
        have y1 := (hal.cell (p := ⟨b2, _, none⟩) hb2).trans y1
        have y2 := (hal.cell (p := ⟨b2, _, none⟩) hb2).trans y2
        have y3 := (hal.cell (p := ⟨b2, _, none⟩) hb2).trans y3
        have y4 := (hal.cell (p := ⟨b2, _, none⟩) hb2).trans y4
        have y5 := (hal.cell (p := ⟨b2, _, none⟩) hb2).trans y5
        have y6 := (hal.cell (p := ⟨b2, _, none⟩) hb2).trans y6
        have y7 := (hal.cell (p := ⟨b2, _, none⟩) hb2).trans y7
        have y8 := (hal.cell (p := ⟨b2, _, none⟩) hb2).trans y8
        have y9 := (hal.cell (p := ⟨b2, _, none⟩) hb2).trans y9
        have y10 := (hal.cell (p := ⟨b2, _, none⟩) hb2).trans y10
        have y11 := (hal.cell (p := ⟨b2, _, none⟩) hb2).trans y11
        have y12 := (hal.cell (p := ⟨b2, _, none⟩) hb2).trans y12
        have y13 := (hal.cell (p := ⟨b2, _, none⟩) hb2).trans y13
        have hbl := below_alloc W1 (.cells #[.string t.name, .int .i64 t.count, .int .i64 t.fr, .int .i64 t.to, (.slice o20 t.cap.length c20), .int .i64 t.skills, .int .i64 t.prof, .int .i64 t.opn, .int .i64 t.cls, .int .i64 t.drv, .int .i64 t.rst, .int .i64 t.fix, .int .i64 t.pm, .int .i64 t.pt] 56)
        have M2 := Cb.made W1 #[.string t.name, .int .i64 t.count, .int .i64 t.fr, .int .i64 t.to, (.slice o20 t.cap.length c20), .int .i64 t.skills, .int .i64 t.prof, .int .i64 t.opn, .int .i64 t.cls, .int .i64 t.drv, .int .i64 t.rst, .int .i64 t.fix, .int .i64 t.pm, .int .i64 t.pt] 56
        have M1 := M1.old (.cells #[.string t.name, .int .i64 t.count, .int .i64 t.fr, .int .i64 t.to, (.slice o20 t.cap.length c20), .int .i64 t.skills, .int .i64 t.prof, .int .i64 t.opn, .int .i64 t.cls, .int .i64 t.drv, .int .i64 t.rst, .int .i64 t.fix, .int .i64 t.pm, .int .i64 t.pt] 56)
        obtain ⟨W2, hW2⟩ : ∃ W2, W1.alloc (.cells #[.string t.name, .int .i64 t.count, .int .i64 t.fr, .int .i64 t.to, (.slice o20 t.cap.length c20), .int .i64 t.skills, .int .i64 t.prof, .int .i64 t.opn, .int .i64 t.cls, .int .i64 t.drv, .int .i64 t.rst, .int .i64 t.fix, .int .i64 t.pm, .int .i64 t.pt] 56) = W2 := ⟨_, rfl⟩
        rw [hW2] at hbl M1 M2
        have HW2 := Lib.hid hW2
        have hbl := over hal hbl
        have J0 := Lib.hid (hvc.below hbl)
        have Q0 := Lib.hid (gvc.below hbl)
        have HB2 := Lib.hid (over HB.out hbl)
        have HM1 := Lib.hid M1
        have HM2 := Lib.hid M2
        clear hal hbl hW1 hW2 M1 M2 hvc gvc
        generalize p k = z at *
        go_upto_region 6 with fail
        rw [HW1.out]
        clear x0 x1 x2 x3 x4 x5 x6 x7 x8 x9 x10 x11 x12 x13 HW1
        generalize wr.heap.size = q1 at *
        as_aux_lemma =>
        go_upto_region 7 with fail
        rw [HW2.out]
        clear y0 y1 y2 y3 y4 y5 y6 y7 y8 y9 y10 y11 y12 y13 HW2
        generalize W1.heap.size = q2 at *
        as_aux_lemma =>
        have m0 := HM1.out.cell 0 rfl
        have n0 := HM2.out.cell 0 rfl
        have m1 := HM1.out.cell 1 rfl
        have n1 := HM2.out.cell 1 rfl
        have m2 := HM1.out.cell 2 rfl
        have n2 := HM2.out.cell 2 rfl
        have m3 := HM1.out.cell 3 rfl
        have n3 := HM2.out.cell 3 rfl
        have m4 := HM1.out.cell 4 rfl
        have n4 := HM2.out.cell 4 rfl
        have m5 := HM1.out.cell 5 rfl
        have n5 := HM2.out.cell 5 rfl
        have m6 := HM1.out.cell 6 rfl
        have n6 := HM2.out.cell 6 rfl
        have m7 := HM1.out.cell 7 rfl
        have n7 := HM2.out.cell 7 rfl
        have m8 := HM1.out.cell 8 rfl
        have n8 := HM2.out.cell 8 rfl
        have m9 := HM1.out.cell 9 rfl
        have n9 := HM2.out.cell 9 rfl
        have m10 := HM1.out.cell 10 rfl
        have n10 := HM2.out.cell 10 rfl
        have m11 := HM1.out.cell 11 rfl
        have n11 := HM2.out.cell 11 rfl
        have m12 := HM1.out.cell 12 rfl
        have n12 := HM2.out.cell 12 rfl
        have m13 := HM1.out.cell 13 rfl
        have n13 := HM2.out.cell 13 rfl
        go_wp2_with fail
        refine (HPk.out _ _ _ _ _ J0.out Q0.out).mono ?_
        clear m0 n0 m1 n1 m2 n2 m3 n3 m4 n4 m5 n5 m6 n6 m7 n7 m8 n8 m9 n9 m10 n10 m11 n11 m12 n12 m13 n13
        rintro e w5 ⟨rfl, b5⟩
        have HB5 := Lib.hid (over HB2.out b5)
        clear b5
        cases z
        · have HX : Hid (r = false) := HNk.out rfl
          go_wp2_with fail
          go_ret
          exact ⟨ret_bool (by rw [HR.out, HX.out]), HB5.out⟩
        · have HK3 := Lib.hid (HKm.out rfl)
          go_wp2_with fail
          go_roundg (n - (k + 1))
          case measure => omega
          case rel => exact ⟨k + 1, by omega, by go_num, by omega, HK3, HB5⟩
      · have hkk : k = n := by omega
        have hkI : ¬ (k : Int) < (n : Int) := by omega
        have HX : Hid (r = true) := HY.out (by rw [← hkk]; exact HK.out)
        go_wp2_with fail
        go_ret
        exact ⟨ret_bool (by rw [HR.out, HX.out]), HB.out⟩
  · have HX : Hid ((decide (a.length = b.length) && allI a.length p) = false) := by show _ = _; rw [decide_eq_false hab, Bool.false_and]
    have hne : ((a.length : Int) != (b.length : Int)) = true := ne_neN hab
    generalize (decide (a.length = b.length) && allI a.length p) = r at *
    clear hab
    go_enter Tryz.func41, Tryz.ntmps41
    go_wp2_with fail
    go_ret
    exact ⟨ret_bool (by rw [HX.out]), Below.refl _ _⟩

set_option maxHeartbeats 12800000 in
theorem eqOrders_n (gf : FuncId) (eg : ∀ args w, (callFunc gf args).run Tryz.prog w = .ok (.enter gf args) w) (p : Nat → Bool) (v u : Value) (a b : List OrT) (hl : a.length ≤ 1000000)
    (hp : ∀ i, i < a.length → i < b.length → ∀ (o10 o20 : Option Addr) (c10 c20 : Nat) (w : World), L.Li w (.slice o10 (a.getD i or0).load.length c10) (a.getD i or0).load → L.Li w (.slice o20 (b.getD i or0).load.length c20) (b.getD i or0).load → Calls Tryz.prog gf #[orV (a.getD i or0) (.slice o10 (a.getD i or0).load.length c10), orV (b.getD i or0) (.slice o20 (b.getD i or0).load.length c20)] w fun e w' => e = .returned (.bool (p i)) ∧ Below w.heap.size w w') (w : World) (hv : Os w v a) (hu : Os w u b) :
    Calls Tryz.prog 43 #[v, u, .func (.func gf) #[] #[]] w fun e w' => e = .returned (.bool (decide (a.length = b.length) && allI a.length p)) ∧ Below w.heap.size w w' := by
  have HV := Lib.hid hv
  have HU := Lib.hid hu
  obtain ⟨oa, ca, rfl, -⟩ := hv
  obtain ⟨ob, cb, rfl, -⟩ := hu
  have KP := Lib.hid hp
  clear hp
  by_cases hab : a.length = b.length
  · have HR : Hid ((decide (a.length = b.length) && allI a.length p) = allI a.length p) := by show _ = _; rw [decide_eq_true hab, Bool.true_and]
    have HNo := Lib.hid (fun i (hi : i < a.length) h => allI_no (p := p) hi h)
    have HY := Lib.hid (fun h => allI_yes (n := a.length) (p := p) h)
    generalize (decide (a.length = b.length) && allI a.length p) = r0 at *
    generalize allI a.length p = r at *
    have HU2 : Hid (Os w (.slice ob a.length cb) b) := by show Os _ _ _; rw [hab]; exact HU.out
    rw [← hab]
    have HAB := Lib.hid hab
    generalize hn : a.length = n at *
    have HN := Lib.hid hn
    have hne : ((n : Int) != (n : Int)) = false := by simp
    clear hn hab HU
    go_enter Tryz.func43, Tryz.ntmps43
    go_wp2_with fail
    go_loopg [17] n (fun g j wr => ∃ k : Nat, k ≤ n ∧ j = .int .i64 k ∧ n - k ≤ g ∧ Hid (∀ i, i < k → p i = true) ∧ Hid (Below w.heap.size w wr))
    case atStart => exact ⟨0, Nat.zero_le _, rfl, Nat.le_refl _, fun i hi => absurd hi (Nat.not_lt_zero _), Below.refl _ _⟩
    case round =>
      obtain ⟨k, hk, rfl, hg, HK, HB⟩ := hrel
      by_cases hlt : k < n
      · have hkI : (k : Int) < (n : Int) := by omega
        obtain ⟨oa', c', hoa, hos⟩ := HV.out.below HB.out
        rw [HN.out] at hoa
        simp only [Value.slice.injEq] at hoa
        obtain ⟨rfl, -, rfl⟩ := hoa
        obtain ⟨b1, o1, vc, rfl, hb1, hac, hvc⟩ := hos k (by rw [HN.out]; exact hlt)
        obtain ⟨ob', d', hob, hot⟩ := HU2.out.below HB.out
        rw [← HAB.out] at hob
        simp only [Value.slice.injEq] at hob
        obtain ⟨rfl, -, rfl⟩ := hob
        obtain ⟨b2, o2, uc, rfl, hb2, hbc, gvc⟩ := hot k (by rw [← HAB.out]; exact hlt)
        have HPk := Lib.hid (fun o10 o20 c10 c20 => KP.out k hlt (by rw [← HAB.out]; exact hlt) o10 o20 c10 c20)
        have HNk := Lib.hid (HNo.out k hlt)
        have HKm := Lib.hid (fun h => less_mo (k := k) HK.out h)
        obtain ⟨o10, c10, rfl, -⟩ := id hvc
        obtain ⟨o20, c20, rfl, -⟩ := id gvc
        obtain ⟨x0, x1, x2, x3, x4, x5, x6, x7, x8, x9, x10, x11, x12, x13, x14, x15⟩ := hac
        obtain ⟨y0, y1, y2, y3, y4, y5, y6, y7, y8, y9, y10, y11, y12, y13, y14, y15⟩ := hbc
        clear hos hot
        generalize a.getD k or0 = s at *
        generalize b.getD k or0 = t at *
        unfold orV at HPk
        have hal := below_alloc wr (.cells #[.string s.name, (.slice o10 s.load.length c10), .int .i64 s.pp, .int .i64 s.po, .int .i64 s.pc, .int .i64 s.ps, .int .i64 s.dp, .int .i64 s.dd, .int .i64 s.dc, .int .i64 s.ds, .int .i64 s.sk, .int .i64 s.pen, .int .i64 s.spl, .int .i64 s.las, .int .i64 s.now, .bool s.off] 44)
        have M1 := Cb.made wr #[.string s.name, (.slice o10 s.load.length c10), .int .i64 s.pp, .int .i64 s.po, .int .i64 s.pc, .int .i64 s.ps, .int .i64 s.dp, .int .i64 s.dd, .int .i64 s.dc, .int .i64 s.ds, .int .i64 s.sk, .int .i64 s.pen, .int .i64 s.spl, .int .i64 s.las, .int .i64 s.now, .bool s.off] 44
        obtain ⟨W1, hW1⟩ : ∃ W1, wr.alloc (.cells #[.string s.name, (.slice o10 s.load.length c10), .int .i64 s.pp, .int .i64 s.po, .int .i64 s.pc, .int .i64 s.ps, .int .i64 s.dp, .int .i64 s.dd, .int .i64 s.dc, .int .i64 s.ds, .int .i64 s.sk, .int .i64 s.pen, .int .i64 s.spl, .int .i64 s.las, .int .i64 s.now, .bool s.off] 44) = W1 := ⟨_, rfl⟩
        rw [hW1] at hal M1
        have HW1 := Lib.hid hW1
        have y0 := (hal.cell (p := ⟨b2, _, none⟩) hb2).trans y0
        have y1 := (hal.cell (p := ⟨b2, _, none⟩) hb2).trans y1
        have y2 := (hal.cell (p := ⟨b2, _, none⟩) hb2).trans y2
        have y3 := (hal.cell (p := ⟨b2, _, none⟩) hb2).trans y3
        have y4 := (hal.cell (p := ⟨b2, _, none⟩) hb2).trans y4
        have y5 := (hal.cell (p := ⟨b2, _, none⟩) hb2).trans y5
        have y6 := (hal.cell (p := ⟨b2, _, none⟩) hb2).trans y6
        have y7 := (hal.cell (p := ⟨b2, _, none⟩) hb2).trans y7
        have y8 := (hal.cell (p := ⟨b2, _, none⟩) hb2).trans y8
        have y9 := (hal.cell (p := ⟨b2, _, none⟩) hb2).trans y9
        have y10 := (hal.cell (p := ⟨b2, _, none⟩) hb2).trans y10
        have y11 := (hal.cell (p := ⟨b2, _, none⟩) hb2).trans y11
        have y12 := (hal.cell (p := ⟨b2, _, none⟩) hb2).trans y12
        have y13 := (hal.cell (p := ⟨b2, _, none⟩) hb2).trans y13
        have y14 := (hal.cell (p := ⟨b2, _, none⟩) hb2).trans y14
        have y15 := (hal.cell (p := ⟨b2, _, none⟩) hb2).trans y15
        have hbl := below_alloc W1 (.cells #[.string t.name, (.slice o20 t.load.length c20), .int .i64 t.pp, .int .i64 t.po, .int .i64 t.pc, .int .i64 t.ps, .int .i64 t.dp, .int .i64 t.dd, .int .i64 t.dc, .int .i64 t.ds, .int .i64 t.sk, .int .i64 t.pen, .int .i64 t.spl, .int .i64 t.las, .int .i64 t.now, .bool t.off] 44)
        have M2 := Cb.made W1 #[.string t.name, (.slice o20 t.load.length c20), .int .i64 t.pp, .int .i64 t.po, .int .i64 t.pc, .int .i64 t.ps, .int .i64 t.dp, .int .i64 t.dd, .int .i64 t.dc, .int .i64 t.ds, .int .i64 t.sk, .int .i64 t.pen, .int .i64 t.spl, .int .i64 t.las, .int .i64 t.now, .bool t.off] 44
        have M1 := M1.old (.cells #[.string t.name, (.slice o20 t.load.length c20), .int .i64 t.pp, .int .i64 t.po, .int .i64 t.pc, .int .i64 t.ps, .int .i64 t.dp, .int .i64 t.dd, .int .i64 t.dc, .int .i64 t.ds, .int .i64 t.sk, .int .i64 t.pen, .int .i64 t.spl, .int .i64 t.las, .int .i64 t.now, .bool t.off] 44)
        obtain ⟨W2, hW2⟩ : ∃ W2, W1.alloc (.cells #[.string t.name, (.slice o20 t.load.length c20), .int .i64 t.pp, .int .i64 t.po, .int .i64 t.pc, .int .i64 t.ps, .int .i64 t.dp, .int .i64 t.dd, .int .i64 t.dc, .int .i64 t.ds, .int .i64 t.sk, .int .i64 t.pen, .int .i64 t.spl, .int .i64 t.las, .int .i64 t.now, .bool t.off] 44) = W2 := ⟨_, rfl⟩
        rw [hW2] at hbl M1 M2
        have HW2 := Lib.hid hW2
        have hbl := over hal hbl
        have J0 := Lib.hid (hvc.below hbl)
        have Q0 := Lib.hid (gvc.below hbl)
        have HB2 := Lib.hid (over HB.out hbl)
        have HM1 := Lib.hid M1
        have HM2 := Lib.hid M2
        clear hal hbl hW1 hW2 M1 M2 hvc gvc
        generalize p k = z at *
        go_upto_region 6 with fail
        rw [HW1.out]
        clear x0 x1 x2 x3 x4 x5 x6 x7 x8 x9 x10 x11 x12 x13 x14 x15 HW1
        generalize wr.heap.size = q1 at *
        as_aux_lemma =>
        go_upto_region 7 with fail
        rw [HW2.out]
        clear y0 y1 y2 y3 y4 y5 y6 y7 y8 y9 y10 y11 y12 y13 y14 y15 HW2
        generalize W1.heap.size = q2 at *
        as_aux_lemma =>
        have m0 := HM1.out.cell 0 rfl
        have n0 := HM2.out.cell 0 rfl
        have m1 := HM1.out.cell 1 rfl
        have n1 := HM2.out.cell 1 rfl
        have m2 := HM1.out.cell 2 rfl
        have n2 := HM2.out.cell 2 rfl
        have m3 := HM1.out.cell 3 rfl
        have n3 := HM2.out.cell 3 rfl
        have m4 := HM1.out.cell 4 rfl
        have n4 := HM2.out.cell 4 rfl
        have m5 := HM1.out.cell 5 rfl
        have n5 := HM2.out.cell 5 rfl
        have m6 := HM1.out.cell 6 rfl
        have n6 := HM2.out.cell 6 rfl
        have m7 := HM1.out.cell 7 rfl
        have n7 := HM2.out.cell 7 rfl
        have m8 := HM1.out.cell 8 rfl
        have n8 := HM2.out.cell 8 rfl
        have m9 := HM1.out.cell 9 rfl
        have n9 := HM2.out.cell 9 rfl
        have m10 := HM1.out.cell 10 rfl
        have n10 := HM2.out.cell 10 rfl
        have m11 := HM1.out.cell 11 rfl
        have n11 := HM2.out.cell 11 rfl
        have m12 := HM1.out.cell 12 rfl
        have n12 := HM2.out.cell 12 rfl
        have m13 := HM1.out.cell 13 rfl
        have n13 := HM2.out.cell 13 rfl
        have m14 := HM1.out.cell 14 rfl
        have n14 := HM2.out.cell 14 rfl
        have m15 := HM1.out.cell 15 rfl
        have n15 := HM2.out.cell 15 rfl
        go_wp2_with fail
        refine (HPk.out _ _ _ _ _ J0.out Q0.out).mono ?_
        clear m0 n0 m1 n1 m2 n2 m3 n3 m4 n4 m5 n5 m6 n6 m7 n7 m8 n8 m9 n9 m10 n10 m11 n11 m12 n12 m13 n13 m14 n14 m15 n15
        rintro e w5 ⟨rfl, b5⟩
        have HB5 := Lib.hid (over HB2.out b5)
        clear b5
        cases z
        · have HX : Hid (r = false) := HNk.out rfl
          go_wp2_with fail
          go_ret
          exact ⟨ret_bool (by rw [HR.out, HX.out]), HB5.out⟩
        · have HK3 := Lib.hid (HKm.out rfl)
          go_wp2_with fail
          go_roundg (n - (k + 1))
          case measure => omega
          case rel => exact ⟨k + 1, by omega, by go_num, by omega, HK3, HB5⟩
      · have hkk : k = n := by omega
        have hkI : ¬ (k : Int) < (n : Int) := by omega
        have HX : Hid (r = true) := HY.out (by rw [← hkk]; exact HK.out)
        go_wp2_with fail
        go_ret
        exact ⟨ret_bool (by rw [HR.out, HX.out]), HB.out⟩
  · have HX : Hid ((decide (a.length = b.length) && allI a.length p) = false) := by show _ = _; rw [decide_eq_false hab, Bool.false_and]
    have hne : ((a.length : Int) != (b.length : Int)) = true := ne_neN hab
    generalize (decide (a.length = b.length) && allI a.length p) = r at *
    clear hab
    go_enter Tryz.func43, Tryz.ntmps43
    go_wp2_with fail
    go_ret
    exact ⟨ret_bool (by rw [HX.out]), Below.refl _ _⟩

end Go.Proofs.YtaallpebfcadjaaGreatDoor.T


