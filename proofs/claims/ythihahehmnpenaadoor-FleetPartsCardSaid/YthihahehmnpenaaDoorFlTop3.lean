/-
  DERIVED. The walk of fleet's Same (written by gen_fltop3.py).
-/
import Derived.Test.YthihahehmnpenaaDoorFlTop2
import Derived.Deep.RegionHeld3
namespace Go.Proofs.YthihahehmnpenaaDoor.T
open Go.RowKit
set_option maxRecDepth 8000

theorem add_pl (b o j : Nat) : (⟨b, o, none⟩ : Addr).add j = ⟨b, o + j, none⟩ := by
  unfold Addr.add
  split
  · rename_i hz; rw [hz]; rfl
  · rfl
theorem li_cells {w : World} {b o : Nat} {c : Nat} {l : List Int} (h : L.Li w (.slice (some ⟨b, o, none⟩) l.length c) l) : ∀ j, j < l.length → w.cell? ⟨b, o + j, none⟩ = some (.int .i64 (l.getD j 0)) := fun j hj => by
  obtain ⟨oa, c', hv, h⟩ := h
  simp only [Value.slice.injEq] at hv
  obtain ⟨rfl, -, rfl⟩ := hv
  obtain ⟨a, ha, -, hc⟩ := h j hj
  simp only [Option.some.injEq] at ha
  subst ha
  rw [add_pl] at hc
  exact hc
theorem eqInts_n (u v : Value) (a b : List Int) (ha9 : a.length ≤ 1000000000) (hb9 : b.length ≤ 1000000000) (w : World) (hu : L.Li w u a) (hv : L.Li w v b) :
    Calls Tryd.prog 28 #[u, v] w fun e w' => e = .returned (.bool (a == b)) ∧ ∃ q, w' = w.drewN q := by
  have HU := hu
  have HV := hv
  obtain ⟨oa, ca, rfl, hca⟩ := hu
  obtain ⟨ob, cb, rfl, hcb⟩ := hv
  by_cases hn : a.length = b.length
  · by_cases h0 : a.length = 0
    · have ea : a = [] := List.eq_nil_of_length_eq_zero h0
      have eb : b = [] := List.eq_nil_of_length_eq_zero (by omega)
      subst ea; subst eb
      refine (Tryd.slices_Equal_int_empty oa ob ca 0 cb w (by omega)).mono ?_
      rintro e w' ⟨rfl, rfl⟩
      exact ⟨rfl, 0, rfl⟩
    · obtain ⟨pa, rfl, -, xa⟩ := hca 0 (by omega)
      obtain ⟨pb, rfl, -, xb⟩ := hcb 0 (by omega)
      obtain ⟨b1, o1, s1⟩ := pa
      obtain ⟨b2, o2, s2⟩ := pb
      have hs1 : s1 = none := by simpa [Addr.add] using World.cell?_spot xa
      have hs2 : s2 = none := by simpa [Addr.add] using World.cell?_spot xb
      subst hs1; subst hs2
      refine (Tryd.slices_Equal_int b1 o1 a.length ca b2 o2 b.length cb a b w (Nat.le_refl _) (Nat.le_refl _) (by omega) (by omega) (li_cells HU) (li_cells HV)).mono ?_
      rintro e w' ⟨rfl, hq⟩
      exact ⟨by rw [List.take_length, List.take_length], hq⟩
  · refine (Tryd.slices_Equal_int_lens oa ob a.length ca b.length cb w hn).mono ?_
    rintro e w' ⟨rfl, rfl⟩
    refine ⟨ret_bool ?_, 0, rfl⟩
    symm
    rw [beq_eq_false_iff_ne]
    intro h
    exact hn (by rw [h])

theorem quiet_q {P : Program} {f : FuncId} {args : Array Value} {w : World} {n : Nat} {v : Value} (h : Calls P f args (w.drewN n) fun e w' => e = .returned v ∧ ∃ q, w' = (w.drewN n).drewN q) :
    Calls P f args (w.drewN n) fun e w'' => e = .returned v ∧ ∃ m, w'' = w.drewN m := h.mono fun _ _ ⟨he, q, hq⟩ => ⟨he, n + q, by rw [hq]; simp [World.drewN, Nat.add_assoc]⟩
set_option maxHeartbeats 6400000 in
theorem same_n (a b : TyT) (oa ob : Option Addr) (ca cb : Nat) (ha9 : a.cap.length ≤ 1000000000) (hb9 : b.cap.length ≤ 1000000000) (w : World) (hA : L.Li w (.slice oa a.cap.length ca) a.cap) (hB : L.Li w (.slice ob b.cap.length cb) b.cap) :
    Calls Tryd.prog 19 #[tyV a (.slice oa a.cap.length ca), tyV b (.slice ob b.cap.length cb)] w fun e w' => e = .returned (.bool (sameT a b)) ∧ Below w.heap.size w w' := by
  obtain ⟨nm, cnt, fr, dt, cap, sk, prof, opn, cls, drv, rst, fix, pm, pt⟩ := a
  obtain ⟨nm', cnt', fr', dt', cap', sk', prof', opn', cls', drv', rst', fix', pm', pt'⟩ := b
  unfold tyV
  simp only at hA hB ha9 hb9 ⊢
  have HE : Hid (((cap == cap') && (nm.toList == nm'.toList) && (cnt == cnt') && (fr == fr') && (dt == dt') && (sk == sk') && (prof == prof') && (opn == opn') && (cls == cls') && (drv == drv') && (rst == rst') && (fix == fix') && (pm == pm') && (pt == pt')) = sameT ⟨nm, cnt, fr, dt, cap, sk, prof, opn, cls, drv, rst, fix, pm, pt⟩ ⟨nm', cnt', fr', dt', cap', sk', prof', opn', cls', drv', rst', fix', pm', pt'⟩) := rfl
  generalize sameT ⟨nm, cnt, fr, dt, cap, sk, prof, opn, cls, drv, rst, fix, pm, pt⟩ ⟨nm', cnt', fr', dt', cap', sk', prof', opn', cls', drv', rst', fix', pm', pt'⟩ = r at *
  have KN := Lib.hid (fun w => numbers_n nm cnt fr dt sk prof opn cls drv rst fix pm pt oa cap.length ca w)
  have KM := Lib.hid (fun w => numbers_n nm' cnt' fr' dt' sk' prof' opn' cls' drv' rst' fix' pm' pt' ob cap'.length cb w)
  have KE := Lib.hid (fun w hu hv => eqInts_n (.slice oa cap.length ca) (.slice ob cap'.length cb) cap cap' ha9 hb9 w hu hv)
  have BA := below_alloc w (.cells #[.string nm, .int .i64 cnt, .int .i64 fr, .int .i64 dt, .slice oa cap.length ca, .int .i64 sk, .int .i64 prof, .int .i64 opn, .int .i64 cls, .int .i64 drv, .int .i64 rst, .int .i64 fix, .int .i64 pm, .int .i64 pt] 36)
  have BB := below_alloc (w.alloc (.cells #[.string nm, .int .i64 cnt, .int .i64 fr, .int .i64 dt, .slice oa cap.length ca, .int .i64 sk, .int .i64 prof, .int .i64 opn, .int .i64 cls, .int .i64 drv, .int .i64 rst, .int .i64 fix, .int .i64 pm, .int .i64 pt] 36)) (.cells #[.string nm', .int .i64 cnt', .int .i64 fr', .int .i64 dt', .slice ob cap'.length cb, .int .i64 sk', .int .i64 prof', .int .i64 opn', .int .i64 cls', .int .i64 drv', .int .i64 rst', .int .i64 fix', .int .i64 pm', .int .i64 pt'] 36)
  have TA := (Tb.made w (.string nm) (.int .i64 cnt) (.int .i64 fr) (.int .i64 dt) (.slice oa cap.length ca) (.int .i64 sk) (.int .i64 prof) (.int .i64 opn) (.int .i64 cls) (.int .i64 drv) (.int .i64 rst) (.int .i64 fix) (.int .i64 pm) (.int .i64 pt)).below BB
  have TB := Tb.made (w.alloc (.cells #[.string nm, .int .i64 cnt, .int .i64 fr, .int .i64 dt, .slice oa cap.length ca, .int .i64 sk, .int .i64 prof, .int .i64 opn, .int .i64 cls, .int .i64 drv, .int .i64 rst, .int .i64 fix, .int .i64 pm, .int .i64 pt] 36)) (.string nm') (.int .i64 cnt') (.int .i64 fr') (.int .i64 dt') (.slice ob cap'.length cb) (.int .i64 sk') (.int .i64 prof') (.int .i64 opn') (.int .i64 cls') (.int .i64 drv') (.int .i64 rst') (.int .i64 fix') (.int .i64 pm') (.int .i64 pt')
  rw [show (w.alloc (.cells #[.string nm, .int .i64 cnt, .int .i64 fr, .int .i64 dt, .slice oa cap.length ca, .int .i64 sk, .int .i64 prof, .int .i64 opn, .int .i64 cls, .int .i64 drv, .int .i64 rst, .int .i64 fix, .int .i64 pm, .int .i64 pt] 36)).heap.size = w.heap.size + 1 by simp] at TB
  have B0 := over BA BB
  have CA := hA.below B0
  have CB := hB.below B0
  obtain ⟨W0, hW0⟩ : ∃ W0, (w.alloc (.cells #[.string nm, .int .i64 cnt, .int .i64 fr, .int .i64 dt, .slice oa cap.length ca, .int .i64 sk, .int .i64 prof, .int .i64 opn, .int .i64 cls, .int .i64 drv, .int .i64 rst, .int .i64 fix, .int .i64 pm, .int .i64 pt] 36)).alloc (.cells #[.string nm', .int .i64 cnt', .int .i64 fr', .int .i64 dt', .slice ob cap'.length cb, .int .i64 sk', .int .i64 prof', .int .i64 opn', .int .i64 cls', .int .i64 drv', .int .i64 rst', .int .i64 fix', .int .i64 pm', .int .i64 pt'] 36) = W0 := ⟨_, rfl⟩
  rw [hW0] at TA TB B0 CA CB
  have TA := Lib.hid TA
  have TB := Lib.hid TB
  have B0 := Lib.hid B0
  have CA : Hid (∀ m, L.Li (W0.drewN m) (.slice oa cap.length ca) cap) := fun _ => CA
  have CB : Hid (∀ m, L.Li (W0.drewN m) (.slice ob cap'.length cb) cap') := fun _ => CB
  clear BA BB hA hB ha9 hb9
  have c0 := TA.out.c0
  have d0 := TB.out.c0
  have c1 := TA.out.c1
  have d1 := TB.out.c1
  have c2 := TA.out.c2
  have d2 := TB.out.c2
  have c3 := TA.out.c3
  have d3 := TB.out.c3
  have c4 := TA.out.c4
  have d4 := TB.out.c4
  have c5 := TA.out.c5
  have d5 := TB.out.c5
  have c6 := TA.out.c6
  have d6 := TB.out.c6
  have c7 := TA.out.c7
  have d7 := TB.out.c7
  have c8 := TA.out.c8
  have d8 := TB.out.c8
  have c9 := TA.out.c9
  have d9 := TB.out.c9
  have c10 := TA.out.c10
  have d10 := TB.out.c10
  have c11 := TA.out.c11
  have d11 := TB.out.c11
  have c12 := TA.out.c12
  have d12 := TB.out.c12
  have c13 := TA.out.c13
  have d13 := TB.out.c13
  have HB : Hid (Below W0.heap.size W0 W0.drew) := below_drew (Below.refl _ W0)
  cases e0 : (nm.toList == nm'.toList)
  · have HR : Hid (false = r) := by show _ = _; rw [← HE.out]; simp only [e0, Bool.false_and, Bool.and_false]
    clear HE KN KM KE
    go_enter Tryd.func19, Tryd.ntmps19
    go_wp2_with fail
    clear hW0
    go_quiet (fail)
    go_wp2_with fail
    go_ret
    exact ⟨ret_bool HR.out, over B0.out (below_drewN (Below.refl _ W0) _)⟩
  cases hq : (cap == cap')
  · have HR : Hid (false = r) := by show _ = _; rw [← HE.out]; simp only [hq, Bool.false_and]
    rw [hq] at KE
    clear HE KN KM hq
    go_enter Tryd.func19, Tryd.ntmps19
    go_wp2_with fail
    clear hW0
    go_quiet (first | (go_at_call 28; exact quiet_q (KE.out _ (CA.out _) (CB.out _))))
    go_wp2_with fail
    go_ret
    exact ⟨ret_bool HR.out, over B0.out (below_drewN (Below.refl _ W0) _)⟩
  · have HR : Hid ((cnt == cnt' && (fr == fr' && (dt == dt' && (sk == sk' && (prof == prof' && (opn == opn' && (cls == cls' && (drv == drv' && (rst == rst' && (fix == fix' && (pm == pm' && (pt == pt')))))))))))) = r) := by show _ = _; rw [← HE.out]; simp only [hq, e0, Bool.true_and, Bool.and_assoc]
    rw [hq] at KE
    clear HE hq
    have CA1 : Hid (L.Li W0.drew (.slice oa cap.length ca) cap) := CA.out 1
    have CB1 : Hid (L.Li W0.drew (.slice ob cap'.length cb) cap') := CB.out 1
    have KE2 : Hid (∀ w, L.Li w (.slice oa cap.length ca) cap → L.Li w (.slice ob cap'.length cb) cap' → Calls Tryd.prog 28 #[.slice oa cap.length ca, .slice ob cap'.length cb] w fun e w' => e = .returned (.bool true) ∧ Below w.heap.size w w') := fun w h1 h2 => (KE.out w h1 h2).mono fun _ _ ⟨he, q, hq⟩ => ⟨he, by rw [hq]; exact below_drewN (Below.refl _ _) q⟩
    have TA : Hid (Tb W0.drew w.heap.size (.string nm) (.int .i64 cnt) (.int .i64 fr) (.int .i64 dt) (.slice oa cap.length ca) (.int .i64 sk) (.int .i64 prof) (.int .i64 opn) (.int .i64 cls) (.int .i64 drv) (.int .i64 rst) (.int .i64 fix) (.int .i64 pm) (.int .i64 pt)) := TA
    have TB : Hid (Tb W0.drew (w.heap.size + 1) (.string nm') (.int .i64 cnt') (.int .i64 fr') (.int .i64 dt') (.slice ob cap'.length cb) (.int .i64 sk') (.int .i64 prof') (.int .i64 opn') (.int .i64 cls') (.int .i64 drv') (.int .i64 rst') (.int .i64 fix') (.int .i64 pm') (.int .i64 pt')) := TB
    have q12 := eql12
    have hgm : Tryd.prog.eqGuardType Tryd.prog.depth 55 = false := by kernel_rfl
    go_enter Tryd.func19, Tryd.ntmps19
    go_wp2_with fail
    clear hW0
    go_region_held3 (fun w' => w'.cell? ⟨w.heap.size, 0, none⟩ = some (.string nm) ∧ w'.cell? ⟨w.heap.size + 1, 0, none⟩ = some (.string nm') ∧ w'.cell? ⟨w.heap.size, 1, none⟩ = some (.int .i64 cnt) ∧ w'.cell? ⟨w.heap.size + 1, 1, none⟩ = some (.int .i64 cnt') ∧ w'.cell? ⟨w.heap.size, 2, none⟩ = some (.int .i64 fr) ∧ w'.cell? ⟨w.heap.size + 1, 2, none⟩ = some (.int .i64 fr') ∧ w'.cell? ⟨w.heap.size, 3, none⟩ = some (.int .i64 dt) ∧ w'.cell? ⟨w.heap.size + 1, 3, none⟩ = some (.int .i64 dt') ∧ w'.cell? ⟨w.heap.size, 4, none⟩ = some (.slice oa cap.length ca) ∧ w'.cell? ⟨w.heap.size + 1, 4, none⟩ = some (.slice ob cap'.length cb) ∧ w'.cell? ⟨w.heap.size, 5, none⟩ = some (.int .i64 sk) ∧ w'.cell? ⟨w.heap.size + 1, 5, none⟩ = some (.int .i64 sk') ∧ w'.cell? ⟨w.heap.size, 6, none⟩ = some (.int .i64 prof) ∧ w'.cell? ⟨w.heap.size + 1, 6, none⟩ = some (.int .i64 prof') ∧ w'.cell? ⟨w.heap.size, 7, none⟩ = some (.int .i64 opn) ∧ w'.cell? ⟨w.heap.size + 1, 7, none⟩ = some (.int .i64 opn') ∧ w'.cell? ⟨w.heap.size, 8, none⟩ = some (.int .i64 cls) ∧ w'.cell? ⟨w.heap.size + 1, 8, none⟩ = some (.int .i64 cls') ∧ w'.cell? ⟨w.heap.size, 9, none⟩ = some (.int .i64 drv) ∧ w'.cell? ⟨w.heap.size + 1, 9, none⟩ = some (.int .i64 drv') ∧ w'.cell? ⟨w.heap.size, 10, none⟩ = some (.int .i64 rst) ∧ w'.cell? ⟨w.heap.size + 1, 10, none⟩ = some (.int .i64 rst') ∧ w'.cell? ⟨w.heap.size, 11, none⟩ = some (.int .i64 fix) ∧ w'.cell? ⟨w.heap.size + 1, 11, none⟩ = some (.int .i64 fix') ∧ w'.cell? ⟨w.heap.size, 12, none⟩ = some (.int .i64 pm) ∧ w'.cell? ⟨w.heap.size + 1, 12, none⟩ = some (.int .i64 pm') ∧ w'.cell? ⟨w.heap.size, 13, none⟩ = some (.int .i64 pt) ∧ w'.cell? ⟨w.heap.size + 1, 13, none⟩ = some (.int .i64 pt'))
      (first | exact ⟨c0, d0, c1, d1, c2, d2, c3, d3, c4, d4, c5, d5, c6, d6, c7, d7, c8, d8, c9, d9, c10, d10, c11, d11, c12, d12, c13, d13⟩)
      (first | (go_at_call 28; (with_reducible refine (KE2.out _ CA1.out CB1.out).mono ?_); rintro e wz ⟨rfl, bz⟩; have TA := Lib.hid (Tb.below TA.out bz); have TB := Lib.hid (Tb.below TB.out bz); have HB := Lib.hid (over HB.out bz); have c0 := TA.out.c0; have d0 := TB.out.c0; have c1 := TA.out.c1; have d1 := TB.out.c1; have c2 := TA.out.c2; have d2 := TB.out.c2; have c3 := TA.out.c3; have d3 := TB.out.c3; have c4 := TA.out.c4; have d4 := TB.out.c4; have c5 := TA.out.c5; have d5 := TB.out.c5; have c6 := TA.out.c6; have d6 := TB.out.c6; have c7 := TA.out.c7; have d7 := TB.out.c7; have c8 := TA.out.c8; have d8 := TB.out.c8; have c9 := TA.out.c9; have d9 := TB.out.c9; have c10 := TA.out.c10; have d10 := TB.out.c10; have c11 := TA.out.c11; have d11 := TB.out.c11; have c12 := TA.out.c12; have d12 := TB.out.c12; have c13 := TA.out.c13; have d13 := TB.out.c13) | (go_at_call 29; (first | (with_reducible refine (KN.out _).mono ?_) | (with_reducible refine (KM.out _).mono ?_)); rintro e wz ⟨rfl, bz⟩; have TA := Lib.hid (Tb.below TA.out bz); have TB := Lib.hid (Tb.below TB.out bz); have HB := Lib.hid (over HB.out bz); have c0 := TA.out.c0; have d0 := TB.out.c0; have c1 := TA.out.c1; have d1 := TB.out.c1; have c2 := TA.out.c2; have d2 := TB.out.c2; have c3 := TA.out.c3; have d3 := TB.out.c3; have c4 := TA.out.c4; have d4 := TB.out.c4; have c5 := TA.out.c5; have d5 := TB.out.c5; have c6 := TA.out.c6; have d6 := TB.out.c6; have c7 := TA.out.c7; have d7 := TB.out.c7; have c8 := TA.out.c8; have d8 := TB.out.c8; have c9 := TA.out.c9; have d9 := TB.out.c9; have c10 := TA.out.c10; have d10 := TB.out.c10; have c11 := TA.out.c11; have d11 := TB.out.c11; have c12 := TA.out.c12; have d12 := TB.out.c12; have c13 := TA.out.c13; have d13 := TB.out.c13))
    all_goals
      go_wp2_with fail
      go_ret
      exact ⟨ret_bool HR.out, over B0.out HB.out⟩

end Go.Proofs.YthihahehmnpenaaDoor.T

