/-
  DERIVED. The walk of FleetSame (written by gen_flsame.py).
-/
import Derived.Test.YthihahehmnpenaaDoorFlAwake
import Derived.Test.YthihahehmnpenaaDoorRefFl6
import Derived.Deep.RegionHeld3
namespace Go.Proofs.YthihahehmnpenaaDoor.T
open Go.RowKit
set_option maxRecDepth 8000

theorem two_cells (w : World) (xs : List Value) (t : TypeId) (k : Nat) (v : Value) (h : xs[k]? = some v) : (w.alloc (.cells xs.toArray t)).cell? ⟨w.heap.size, k, none⟩ = some v := by
  have hb : (w.alloc (.cells xs.toArray t)).heap[w.heap.size]? = some (.cells xs.toArray t) := by
    show (w.heap.push _)[w.heap.size]? = _
    simp
  simp only [World.cell?]
  rw [hb]
  simpa using h
theorem ts_two {w : World} (a b : TyT) (va vb : Value) (c : Nat) (ha : L.Li w va a.cap) (hb : L.Li w vb b.cap) :
    Ts (w.alloc (.cells #[.string a.name, .int .i64 a.count, .int .i64 a.fr, .int .i64 a.to, va, .int .i64 a.skills, .int .i64 a.prof, .int .i64 a.opn, .int .i64 a.cls, .int .i64 a.drv, .int .i64 a.rst, .int .i64 a.fix, .int .i64 a.pm, .int .i64 a.pt, .string b.name, .int .i64 b.count, .int .i64 b.fr, .int .i64 b.to, vb, .int .i64 b.skills, .int .i64 b.prof, .int .i64 b.opn, .int .i64 b.cls, .int .i64 b.drv, .int .i64 b.rst, .int .i64 b.fix, .int .i64 b.pm, .int .i64 b.pt] 36)) (.slice (some ⟨w.heap.size, 0, none⟩) 2 c) [a, b] := by
  refine ⟨some ⟨w.heap.size, 0, none⟩, c, rfl, fun i hi => ?_⟩
  have h2 : i < 2 := hi
  match i, h2 with
  | 0, _ => exact ⟨w.heap.size, 0, va, rfl, by simp, ⟨two_cells w _ _ _ _ rfl, two_cells w _ _ _ _ rfl, two_cells w _ _ _ _ rfl, two_cells w _ _ _ _ rfl, two_cells w _ _ _ _ rfl, two_cells w _ _ _ _ rfl, two_cells w _ _ _ _ rfl, two_cells w _ _ _ _ rfl, two_cells w _ _ _ _ rfl, two_cells w _ _ _ _ rfl, two_cells w _ _ _ _ rfl, two_cells w _ _ _ _ rfl, two_cells w _ _ _ _ rfl, two_cells w _ _ _ _ rfl⟩, ha.below (below_alloc _ _)⟩
  | 1, _ => exact ⟨w.heap.size, 0, vb, rfl, by simp, ⟨two_cells w _ _ _ _ rfl, two_cells w _ _ _ _ rfl, two_cells w _ _ _ _ rfl, two_cells w _ _ _ _ rfl, two_cells w _ _ _ _ rfl, two_cells w _ _ _ _ rfl, two_cells w _ _ _ _ rfl, two_cells w _ _ _ _ rfl, two_cells w _ _ _ _ rfl, two_cells w _ _ _ _ rfl, two_cells w _ _ _ _ rfl, two_cells w _ _ _ _ rfl, two_cells w _ _ _ _ rfl, two_cells w _ _ _ _ rfl⟩, hb.below (below_alloc _ _)⟩
set_option maxHeartbeats 12800000 in
theorem fleetSame_walk (a b : TyT) (oa ob : Option Addr) (ca cb : Nat) (hz1 : a.cap.length ≤ 9223372036854775807 ∧ a.name.size ≤ 9223372036854775807) (hz2 : b.cap.length ≤ 9223372036854775807 ∧ b.name.size ≤ 9223372036854775807) (w : World) (hA : L.Li w (.slice oa a.cap.length ca) a.cap) (hB : L.Li w (.slice ob b.cap.length cb) b.cap) (hT : Tab w) :
    Calls Tryd.prog 6 #[tyV a (.slice oa a.cap.length ca), tyV b (.slice ob b.cap.length cb)] w fun e w' => e = .returned (.bool true) ∧ Below w.heap.size w w' := by
  obtain ⟨nm, cnt, fr, dt, cap, sk, prof, opn, cls, drv, rst, fix, pm, pt⟩ := a
  obtain ⟨nm', cnt', fr', dt', cap', sk', prof', opn', cls', drv', rst', fix', pm', pt'⟩ := b
  unfold tyV
  simp only at hA hB hz1 hz2 ⊢
  have BA := below_alloc w (.cells #[.string nm, .int .i64 cnt, .int .i64 fr, .int .i64 dt, .slice oa cap.length ca, .int .i64 sk, .int .i64 prof, .int .i64 opn, .int .i64 cls, .int .i64 drv, .int .i64 rst, .int .i64 fix, .int .i64 pm, .int .i64 pt] 36)
  have BB := below_alloc (w.alloc (.cells #[.string nm, .int .i64 cnt, .int .i64 fr, .int .i64 dt, .slice oa cap.length ca, .int .i64 sk, .int .i64 prof, .int .i64 opn, .int .i64 cls, .int .i64 drv, .int .i64 rst, .int .i64 fix, .int .i64 pm, .int .i64 pt] 36)) (.cells #[.string nm', .int .i64 cnt', .int .i64 fr', .int .i64 dt', .slice ob cap'.length cb, .int .i64 sk', .int .i64 prof', .int .i64 opn', .int .i64 cls', .int .i64 drv', .int .i64 rst', .int .i64 fix', .int .i64 pm', .int .i64 pt'] 36)
  have TA := (Tb.made w (.string nm) (.int .i64 cnt) (.int .i64 fr) (.int .i64 dt) (.slice oa cap.length ca) (.int .i64 sk) (.int .i64 prof) (.int .i64 opn) (.int .i64 cls) (.int .i64 drv) (.int .i64 rst) (.int .i64 fix) (.int .i64 pm) (.int .i64 pt)).below BB
  have TB := Tb.made (w.alloc (.cells #[.string nm, .int .i64 cnt, .int .i64 fr, .int .i64 dt, .slice oa cap.length ca, .int .i64 sk, .int .i64 prof, .int .i64 opn, .int .i64 cls, .int .i64 drv, .int .i64 rst, .int .i64 fix, .int .i64 pm, .int .i64 pt] 36)) (.string nm') (.int .i64 cnt') (.int .i64 fr') (.int .i64 dt') (.slice ob cap'.length cb) (.int .i64 sk') (.int .i64 prof') (.int .i64 opn') (.int .i64 cls') (.int .i64 drv') (.int .i64 rst') (.int .i64 fix') (.int .i64 pm') (.int .i64 pt')
  rw [show (w.alloc (.cells #[.string nm, .int .i64 cnt, .int .i64 fr, .int .i64 dt, .slice oa cap.length ca, .int .i64 sk, .int .i64 prof, .int .i64 opn, .int .i64 cls, .int .i64 drv, .int .i64 rst, .int .i64 fix, .int .i64 pm, .int .i64 pt] 36)).heap.size = w.heap.size + 1 by simp] at TB
  have B0 := over BA BB
  have CA := hA.below B0
  have CB := hB.below B0
  obtain ⟨W0, hW0⟩ : ∃ W0, (w.alloc (.cells #[.string nm, .int .i64 cnt, .int .i64 fr, .int .i64 dt, .slice oa cap.length ca, .int .i64 sk, .int .i64 prof, .int .i64 opn, .int .i64 cls, .int .i64 drv, .int .i64 rst, .int .i64 fix, .int .i64 pm, .int .i64 pt] 36)).alloc (.cells #[.string nm', .int .i64 cnt', .int .i64 fr', .int .i64 dt', .slice ob cap'.length cb, .int .i64 sk', .int .i64 prof', .int .i64 opn', .int .i64 cls', .int .i64 drv', .int .i64 rst', .int .i64 fix', .int .i64 pm', .int .i64 pt'] 36) = W0 := ⟨_, rfl⟩
  rw [hW0] at TA TB B0 CA CB
  have HF := Lib.hid (few_n (.slice (some ⟨W0.heap.size, 0, none⟩) 2 2) [⟨nm, cnt, fr, dt, cap, sk, prof, opn, cls, drv, rst, fix, pm, pt⟩, ⟨nm', cnt', fr', dt', cap', sk', prof', opn', cls', drv', rst', fix', pm', pt'⟩] (by simp) (fun i hi => by
    have h2 : i < 2 := hi
    match i, h2 with
    | 0, _ => exact hz1
    | 1, _ => exact hz2) (W0.alloc (.cells #[.string nm, .int .i64 cnt, .int .i64 fr, .int .i64 dt, .slice oa cap.length ca, .int .i64 sk, .int .i64 prof, .int .i64 opn, .int .i64 cls, .int .i64 drv, .int .i64 rst, .int .i64 fix, .int .i64 pm, .int .i64 pt, .string nm', .int .i64 cnt', .int .i64 fr', .int .i64 dt', .slice ob cap'.length cb, .int .i64 sk', .int .i64 prof', .int .i64 opn', .int .i64 cls', .int .i64 drv', .int .i64 rst', .int .i64 fix', .int .i64 pm', .int .i64 pt'] 36)) (ts_two ⟨nm, cnt, fr, dt, cap, sk, prof, opn, cls, drv, rst, fix, pm, pt⟩ ⟨nm', cnt', fr', dt', cap', sk', prof', opn', cls', drv', rst', fix', pm', pt'⟩ (.slice oa cap.length ca) (.slice ob cap'.length cb) 2 CA CB))
  have BD := below_alloc W0 (.cells #[.string nm, .int .i64 cnt, .int .i64 fr, .int .i64 dt, .slice oa cap.length ca, .int .i64 sk, .int .i64 prof, .int .i64 opn, .int .i64 cls, .int .i64 drv, .int .i64 rst, .int .i64 fix, .int .i64 pm, .int .i64 pt, .string nm', .int .i64 cnt', .int .i64 fr', .int .i64 dt', .slice ob cap'.length cb, .int .i64 sk', .int .i64 prof', .int .i64 opn', .int .i64 cls', .int .i64 drv', .int .i64 rst', .int .i64 fix', .int .i64 pm', .int .i64 pt'] 36)
  have HT := Lib.hid ((hT.over B0).over BD)
  have HB := Lib.hid (over B0 BD)
  have CA := Lib.hid (CA.below BD)
  have CB := Lib.hid (CB.below BD)
  have c0 := TA.c0
  have d0 := TB.c0
  have c1 := TA.c1
  have d1 := TB.c1
  have c2 := TA.c2
  have d2 := TB.c2
  have c3 := TA.c3
  have d3 := TB.c3
  have c4 := TA.c4
  have d4 := TB.c4
  have c5 := TA.c5
  have d5 := TB.c5
  have c6 := TA.c6
  have d6 := TB.c6
  have c7 := TA.c7
  have d7 := TB.c7
  have c8 := TA.c8
  have d8 := TB.c8
  have c9 := TA.c9
  have d9 := TB.c9
  have c10 := TA.c10
  have d10 := TB.c10
  have c11 := TA.c11
  have d11 := TB.c11
  have c12 := TA.c12
  have d12 := TB.c12
  have c13 := TA.c13
  have d13 := TB.c13
  have TA := Lib.hid (TA.below BD)
  have TB := Lib.hid (TB.below BD)
  have hla := TA.out.lt
  have HW0 := Lib.hid hW0
  clear hW0 B0 BA BB BD hA hB hT
  cases hb : fewB [⟨nm, cnt, fr, dt, cap, sk, prof, opn, cls, drv, rst, fix, pm, pt⟩, ⟨nm', cnt', fr', dt', cap', sk', prof', opn', cls', drv', rst', fix', pm', pt'⟩]
  · rw [hb] at HF
    clear hb hz1 hz2 CA CB
    go_enter Tryd.func6, Tryd.ntmps6
    go_upto_region 1 with fail
    rw [HW0.out]
    clear HW0
    go_wp2_with fail
    refine HF.out.mono ?_
    rintro e w1 ⟨rfl, rfl⟩
    go_wp2_with fail
    refine (awake_n _ HT.out).mono ?_
    rintro e w2 ⟨rfl, b2⟩
    have B2 := Lib.hid (over HB.out b2)
    clear b2
    go_wp2_with fail
    go_ret
    exact ⟨rfl, B2.out⟩
  · obtain ⟨-, hcs⟩ := few_spec hb
    have hs1 := (hcs 0 (by simp)).1
    have hs2 := (hcs 1 (by simp)).1
    simp only [List.getD_cons_zero, List.getD_cons_succ] at hs1 hs2
    rw [hb] at HF
    have ha9 : cap.length ≤ 1000000000 := by omega
    have hb9 : cap'.length ≤ 1000000000 := by omega
    have KS1 := Lib.hid (fun w hA hB => same_n ⟨nm, cnt, fr, dt, cap, sk, prof, opn, cls, drv, rst, fix, pm, pt⟩ ⟨nm', cnt', fr', dt', cap', sk', prof', opn', cls', drv', rst', fix', pm', pt'⟩ oa ob ca cb ha9 hb9 w hA hB)
    have KS2 := Lib.hid (fun w hA hB => same_n ⟨nm', cnt', fr', dt', cap', sk', prof', opn', cls', drv', rst', fix', pm', pt'⟩ ⟨nm, cnt, fr, dt, cap, sk, prof, opn, cls, drv, rst, fix, pm, pt⟩ ob oa cb ca hb9 ha9 w hA hB)
    have KS3 := Lib.hid (fun w hA hB => same_n ⟨nm, cnt, fr, dt, cap, sk, prof, opn, cls, drv, rst, fix, pm, pt⟩ ⟨nm, cnt, fr, dt, cap, sk, prof, opn, cls, drv, rst, fix, pm, pt⟩ oa oa ca ca ha9 ha9 w hA hB)
    have RS1 := Lib.hid (fun w hA hB => refSame_n ⟨nm, cnt, fr, dt, cap, sk, prof, opn, cls, drv, rst, fix, pm, pt⟩ ⟨nm', cnt', fr', dt', cap', sk', prof', opn', cls', drv', rst', fix', pm', pt'⟩ oa ob ca cb ha9 hb9 w hA hB)
    rw [same_comm ⟨nm', cnt', fr', dt', cap', sk', prof', opn', cls', drv', rst', fix', pm', pt'⟩ ⟨nm, cnt, fr, dt, cap, sk, prof, opn, cls, drv, rst, fix, pm, pt⟩] at KS2
    rw [same_refl] at KS3
    unfold tyV at KS1 KS2 KS3 RS1
    simp only at KS1 KS2 KS3 RS1
    generalize sameT ⟨nm, cnt, fr, dt, cap, sk, prof, opn, cls, drv, rst, fix, pm, pt⟩ ⟨nm', cnt', fr', dt', cap', sk', prof', opn', cls', drv', rst', fix', pm', pt'⟩ = r at *
    clear hb hcs hs1 hs2 ha9 hb9 hz1 hz2
    go_enter Tryd.func6, Tryd.ntmps6
    go_upto_region 1 with fail
    rw [HW0.out]
    clear HW0
    go_wp2_with fail
    refine HF.out.mono ?_
    rintro e w1 ⟨rfl, rfl⟩
    clear HF
    go_upto_region 3 with fail
    clear c0 d0 c1 d1 c2 d2 c3 d3 c4 d4 c5 d5 c6 d6 c7 d7 c8 d8 c9 d9 c10 d10 c11 d11 c12 d12 c13 d13
    obtain ⟨W1, hW1⟩ : ∃ W1, W0.alloc (.cells #[.string nm, .int .i64 cnt, .int .i64 fr, .int .i64 dt, .slice oa cap.length ca, .int .i64 sk, .int .i64 prof, .int .i64 opn, .int .i64 cls, .int .i64 drv, .int .i64 rst, .int .i64 fix, .int .i64 pm, .int .i64 pt, .string nm', .int .i64 cnt', .int .i64 fr', .int .i64 dt', .slice ob cap'.length cb, .int .i64 sk', .int .i64 prof', .int .i64 opn', .int .i64 cls', .int .i64 drv', .int .i64 rst', .int .i64 fix', .int .i64 pm', .int .i64 pt'] 36) = W1 := ⟨_, rfl⟩
    rw [hW1] at HT HB CA CB TA TB ⊢
    clear hW1 hla
    have TA : Hid (Tb W1.drew w.heap.size (.string nm) (.int .i64 cnt) (.int .i64 fr) (.int .i64 dt) (.slice oa cap.length ca) (.int .i64 sk) (.int .i64 prof) (.int .i64 opn) (.int .i64 cls) (.int .i64 drv) (.int .i64 rst) (.int .i64 fix) (.int .i64 pm) (.int .i64 pt)) := TA
    have TB : Hid (Tb W1.drew (w.heap.size + 1) (.string nm') (.int .i64 cnt') (.int .i64 fr') (.int .i64 dt') (.slice ob cap'.length cb) (.int .i64 sk') (.int .i64 prof') (.int .i64 opn') (.int .i64 cls') (.int .i64 drv') (.int .i64 rst') (.int .i64 fix') (.int .i64 pm') (.int .i64 pt')) := TB
    have HB : Hid (Below w.heap.size w W1.drew) := below_drew HB.out
    have HT : Hid (Tab W1.drew) := HT
    have CA : Hid (L.Li W1.drew (.slice oa cap.length ca) cap) := CA
    have CB : Hid (L.Li W1.drew (.slice ob cap'.length cb) cap') := CB
    have AW := Lib.hid (fun w hT => awake_n w hT)
    have hrr : (r == r) = true := by simp
    refine wp_region_noPanic ?_
    refine wp_region_held_drew (S := fun w' => Tb w' w.heap.size (.string nm) (.int .i64 cnt) (.int .i64 fr) (.int .i64 dt) (.slice oa cap.length ca) (.int .i64 sk) (.int .i64 prof) (.int .i64 opn) (.int .i64 cls) (.int .i64 drv) (.int .i64 rst) (.int .i64 fix) (.int .i64 pm) (.int .i64 pt) ∧ Tb w' (w.heap.size + 1) (.string nm') (.int .i64 cnt') (.int .i64 fr') (.int .i64 dt') (.slice ob cap'.length cb) (.int .i64 sk') (.int .i64 prof') (.int .i64 opn') (.int .i64 cls') (.int .i64 drv') (.int .i64 rst') (.int .i64 fix') (.int .i64 pm') (.int .i64 pt')) (by kernel_rfl) ⟨TA.out, TB.out⟩ (fun hHeld => ?_)
    refine wpAnyH_take (i := 0) (oi := { dst := some 11, op := Op.load 36 (Operand.tmp 2), type := 36, pos := "law.go:71", after := #[], guard := none }) (v := .agg #[.string nm, .int .i64 cnt, .int .i64 fr, .int .i64 dt, .slice oa cap.length ca, .int .i64 sk, .int .i64 prof, .int .i64 opn, .int .i64 cls, .int .i64 drv, .int .i64 rst, .int .i64 fix, .int .i64 pm, .int .i64 pt]) rfl (by kernel_rfl) (by kernel_rfl) (by kernel_rfl) (fun _ _ _ h => h) (Or.inl ⟨by rfl, by intro w0 hSw; have k0 := hSw.1.c0; have k1 := hSw.1.c1; have k2 := hSw.1.c2; have k3 := hSw.1.c3; have k4 := hSw.1.c4; have k5 := hSw.1.c5; have k6 := hSw.1.c6; have k7 := hSw.1.c7; have k8 := hSw.1.c8; have k9 := hSw.1.c9; have k10 := hSw.1.c10; have k11 := hSw.1.c11; have k12 := hSw.1.c12; have k13 := hSw.1.c13; go_simp⟩) hHeld ?_
    simp only [Act.put, List.setIfInBounds_toArray, List.set_cons_zero, List.set_cons_succ]
    refine wpAnyH_take (i := 1) (oi := { dst := some 12, op := Op.load 36 (Operand.tmp 3), type := 36, pos := "law.go:71", after := #[], guard := none }) (v := .agg #[.string nm', .int .i64 cnt', .int .i64 fr', .int .i64 dt', .slice ob cap'.length cb, .int .i64 sk', .int .i64 prof', .int .i64 opn', .int .i64 cls', .int .i64 drv', .int .i64 rst', .int .i64 fix', .int .i64 pm', .int .i64 pt']) rfl (by kernel_rfl) (by kernel_rfl) (by kernel_rfl) (fun _ _ _ h => h) (Or.inl ⟨by rfl, by intro w0 hSw; have k0 := hSw.2.c0; have k1 := hSw.2.c1; have k2 := hSw.2.c2; have k3 := hSw.2.c3; have k4 := hSw.2.c4; have k5 := hSw.2.c5; have k6 := hSw.2.c6; have k7 := hSw.2.c7; have k8 := hSw.2.c8; have k9 := hSw.2.c9; have k10 := hSw.2.c10; have k11 := hSw.2.c11; have k12 := hSw.2.c12; have k13 := hSw.2.c13; go_simp⟩) hHeld ?_
    simp only [Act.put, List.setIfInBounds_toArray, List.set_cons_zero, List.set_cons_succ]
    refine wpAnyH_take (i := 3) (oi := { dst := some 14, op := Op.load 36 (Operand.tmp 2), type := 36, pos := "law.go:71", after := #[], guard := none }) (v := .agg #[.string nm, .int .i64 cnt, .int .i64 fr, .int .i64 dt, .slice oa cap.length ca, .int .i64 sk, .int .i64 prof, .int .i64 opn, .int .i64 cls, .int .i64 drv, .int .i64 rst, .int .i64 fix, .int .i64 pm, .int .i64 pt]) rfl (by kernel_rfl) (by kernel_rfl) (by kernel_rfl) (fun _ _ _ h => h) (Or.inl ⟨by rfl, by intro w0 hSw; have k0 := hSw.1.c0; have k1 := hSw.1.c1; have k2 := hSw.1.c2; have k3 := hSw.1.c3; have k4 := hSw.1.c4; have k5 := hSw.1.c5; have k6 := hSw.1.c6; have k7 := hSw.1.c7; have k8 := hSw.1.c8; have k9 := hSw.1.c9; have k10 := hSw.1.c10; have k11 := hSw.1.c11; have k12 := hSw.1.c12; have k13 := hSw.1.c13; go_simp⟩) hHeld ?_
    simp only [Act.put, List.setIfInBounds_toArray, List.set_cons_zero, List.set_cons_succ]
    refine wpAnyH_take (i := 4) (oi := { dst := some 15, op := Op.load 36 (Operand.tmp 3), type := 36, pos := "law.go:71", after := #[], guard := none }) (v := .agg #[.string nm', .int .i64 cnt', .int .i64 fr', .int .i64 dt', .slice ob cap'.length cb, .int .i64 sk', .int .i64 prof', .int .i64 opn', .int .i64 cls', .int .i64 drv', .int .i64 rst', .int .i64 fix', .int .i64 pm', .int .i64 pt']) rfl (by kernel_rfl) (by kernel_rfl) (by kernel_rfl) (fun _ _ _ h => h) (Or.inl ⟨by rfl, by intro w0 hSw; have k0 := hSw.2.c0; have k1 := hSw.2.c1; have k2 := hSw.2.c2; have k3 := hSw.2.c3; have k4 := hSw.2.c4; have k5 := hSw.2.c5; have k6 := hSw.2.c6; have k7 := hSw.2.c7; have k8 := hSw.2.c8; have k9 := hSw.2.c9; have k10 := hSw.2.c10; have k11 := hSw.2.c11; have k12 := hSw.2.c12; have k13 := hSw.2.c13; go_simp⟩) hHeld ?_
    simp only [Act.put, List.setIfInBounds_toArray, List.set_cons_zero, List.set_cons_succ]
    refine wpAnyH_ready (rs := [2]) (by kernel_rfl) (by simp) ?_
    refine AllReadyH.cons (o := { dst := some 13, op := Op.call { callee := Callee.value (Operand.func 19), args := #[Operand.tmp 11, Operand.tmp 12], argTypes := #[36, 36] }, type := 4, pos := "law.go:71", after := #[{ on := 0, ground := Ground.data }, { on := 1, ground := Ground.data }], guard := none }) rfl (fun K hK => ?_) AllReadyH.nil
    go_simp
    go_at_call 19
    refine (KS1.out _ CA.out CB.out).mono ?_
    rintro e1 wz ⟨rfl, bz⟩
    have TA := Lib.hid (Tb.below TA.out bz)
    have TB := Lib.hid (Tb.below TB.out bz)
    have HB := Lib.hid (over HB.out bz)
    have HT := Lib.hid (HT.out.over bz)
    have CA := Lib.hid (CA.out.below bz)
    have CB := Lib.hid (CB.out.below bz)
    clear bz
    go_wp2_with fail
    refine hK.out _ _ ⟨TA.out, TB.out⟩ (fun hHeld => ?_)
    clear hK K
    refine wpAnyH_ready (rs := [5]) (by kernel_rfl) (by simp) ?_
    refine AllReadyH.cons (o := { dst := some 16, op := Op.call { callee := Callee.value (Operand.func 20), args := #[Operand.tmp 14, Operand.tmp 15], argTypes := #[36, 36] }, type := 4, pos := "law.go:71", after := #[{ on := 3, ground := Ground.data }, { on := 4, ground := Ground.data }, { on := 2, ground := Ground.chain }], guard := none }) rfl (fun K hK => ?_) AllReadyH.nil
    go_simp
    go_at_call 20
    refine (RS1.out _ CA.out CB.out).mono ?_
    rintro e1 wz ⟨rfl, bz⟩
    have TA := Lib.hid (Tb.below TA.out bz)
    have TB := Lib.hid (Tb.below TB.out bz)
    have HB := Lib.hid (over HB.out bz)
    have HT := Lib.hid (HT.out.over bz)
    have CA := Lib.hid (CA.out.below bz)
    have CB := Lib.hid (CB.out.below bz)
    clear bz
    go_wp2_with fail
    refine hK.out _ _ ⟨TA.out, TB.out⟩ (fun hHeld => ?_)
    clear hK K
    refine wpAnyH_take (i := 6) (oi := { dst := some 17, op := Op.binOp BinOp.eql 4 (Operand.tmp 13) (Operand.tmp 16) 4, type := 4, pos := "law.go:71", after := #[{ on := 2, ground := Ground.data }, { on := 5, ground := Ground.data }], guard := none }) (v := .bool true) rfl (by kernel_rfl) (by kernel_rfl) (by kernel_rfl) (fun _ _ _ h => h) (Or.inl ⟨by rfl, by intro w0 hSw; go_simp⟩) hHeld ?_
    simp only [Act.put, List.setIfInBounds_toArray, List.set_cons_zero, List.set_cons_succ]
    refine wpAnyH_take (i := 7) (oi := { dst := some 18, op := Op.move (Operand.tmp 17), type := 4, pos := "law.go:71", after := #[{ on := 6, ground := Ground.data }, { on := 5, ground := Ground.chain }], guard := none }) (v := .bool true) rfl (by kernel_rfl) (by kernel_rfl) (by kernel_rfl) (fun _ _ _ h => h) (Or.inl ⟨by rfl, by intro w0 hSw; go_simp⟩) hHeld ?_
    simp only [Act.put, List.setIfInBounds_toArray, List.set_cons_zero, List.set_cons_succ]
    refine wpAnyH_take (i := 8) (oi := { dst := some 19, op := Op.load 36 (Operand.tmp 3), type := 36, pos := "law.go:71", after := #[{ on := 7, ground := Ground.guard }], guard := some (7, true) }) (v := .agg #[.string nm', .int .i64 cnt', .int .i64 fr', .int .i64 dt', .slice ob cap'.length cb, .int .i64 sk', .int .i64 prof', .int .i64 opn', .int .i64 cls', .int .i64 drv', .int .i64 rst', .int .i64 fix', .int .i64 pm', .int .i64 pt']) rfl (by kernel_rfl) (by kernel_rfl) (by kernel_rfl) (fun _ _ _ h => h) (Or.inl ⟨by rfl, by intro w0 hSw; have k0 := hSw.2.c0; have k1 := hSw.2.c1; have k2 := hSw.2.c2; have k3 := hSw.2.c3; have k4 := hSw.2.c4; have k5 := hSw.2.c5; have k6 := hSw.2.c6; have k7 := hSw.2.c7; have k8 := hSw.2.c8; have k9 := hSw.2.c9; have k10 := hSw.2.c10; have k11 := hSw.2.c11; have k12 := hSw.2.c12; have k13 := hSw.2.c13; go_simp⟩) hHeld ?_
    simp only [Act.put, List.setIfInBounds_toArray, List.set_cons_zero, List.set_cons_succ]
    refine wpAnyH_take (i := 9) (oi := { dst := some 20, op := Op.load 36 (Operand.tmp 2), type := 36, pos := "law.go:71", after := #[{ on := 7, ground := Ground.guard }], guard := some (7, true) }) (v := .agg #[.string nm, .int .i64 cnt, .int .i64 fr, .int .i64 dt, .slice oa cap.length ca, .int .i64 sk, .int .i64 prof, .int .i64 opn, .int .i64 cls, .int .i64 drv, .int .i64 rst, .int .i64 fix, .int .i64 pm, .int .i64 pt]) rfl (by kernel_rfl) (by kernel_rfl) (by kernel_rfl) (fun _ _ _ h => h) (Or.inl ⟨by rfl, by intro w0 hSw; have k0 := hSw.1.c0; have k1 := hSw.1.c1; have k2 := hSw.1.c2; have k3 := hSw.1.c3; have k4 := hSw.1.c4; have k5 := hSw.1.c5; have k6 := hSw.1.c6; have k7 := hSw.1.c7; have k8 := hSw.1.c8; have k9 := hSw.1.c9; have k10 := hSw.1.c10; have k11 := hSw.1.c11; have k12 := hSw.1.c12; have k13 := hSw.1.c13; go_simp⟩) hHeld ?_
    simp only [Act.put, List.setIfInBounds_toArray, List.set_cons_zero, List.set_cons_succ]
    refine wpAnyH_take (i := 11) (oi := { dst := some 22, op := Op.load 36 (Operand.tmp 2), type := 36, pos := "law.go:71", after := #[{ on := 7, ground := Ground.guard }], guard := some (7, true) }) (v := .agg #[.string nm, .int .i64 cnt, .int .i64 fr, .int .i64 dt, .slice oa cap.length ca, .int .i64 sk, .int .i64 prof, .int .i64 opn, .int .i64 cls, .int .i64 drv, .int .i64 rst, .int .i64 fix, .int .i64 pm, .int .i64 pt]) rfl (by kernel_rfl) (by kernel_rfl) (by kernel_rfl) (fun _ _ _ h => h) (Or.inl ⟨by rfl, by intro w0 hSw; have k0 := hSw.1.c0; have k1 := hSw.1.c1; have k2 := hSw.1.c2; have k3 := hSw.1.c3; have k4 := hSw.1.c4; have k5 := hSw.1.c5; have k6 := hSw.1.c6; have k7 := hSw.1.c7; have k8 := hSw.1.c8; have k9 := hSw.1.c9; have k10 := hSw.1.c10; have k11 := hSw.1.c11; have k12 := hSw.1.c12; have k13 := hSw.1.c13; go_simp⟩) hHeld ?_
    simp only [Act.put, List.setIfInBounds_toArray, List.set_cons_zero, List.set_cons_succ]
    refine wpAnyH_take (i := 12) (oi := { dst := some 23, op := Op.load 36 (Operand.tmp 3), type := 36, pos := "law.go:71", after := #[{ on := 7, ground := Ground.guard }], guard := some (7, true) }) (v := .agg #[.string nm', .int .i64 cnt', .int .i64 fr', .int .i64 dt', .slice ob cap'.length cb, .int .i64 sk', .int .i64 prof', .int .i64 opn', .int .i64 cls', .int .i64 drv', .int .i64 rst', .int .i64 fix', .int .i64 pm', .int .i64 pt']) rfl (by kernel_rfl) (by kernel_rfl) (by kernel_rfl) (fun _ _ _ h => h) (Or.inl ⟨by rfl, by intro w0 hSw; have k0 := hSw.2.c0; have k1 := hSw.2.c1; have k2 := hSw.2.c2; have k3 := hSw.2.c3; have k4 := hSw.2.c4; have k5 := hSw.2.c5; have k6 := hSw.2.c6; have k7 := hSw.2.c7; have k8 := hSw.2.c8; have k9 := hSw.2.c9; have k10 := hSw.2.c10; have k11 := hSw.2.c11; have k12 := hSw.2.c12; have k13 := hSw.2.c13; go_simp⟩) hHeld ?_
    simp only [Act.put, List.setIfInBounds_toArray, List.set_cons_zero, List.set_cons_succ]
    refine wpAnyH_ready (rs := [10]) (by kernel_rfl) (by simp) ?_
    refine AllReadyH.cons (o := { dst := some 21, op := Op.call { callee := Callee.value (Operand.func 19), args := #[Operand.tmp 19, Operand.tmp 20], argTypes := #[36, 36] }, type := 4, pos := "law.go:71", after := #[{ on := 8, ground := Ground.data }, { on := 9, ground := Ground.data }, { on := 7, ground := Ground.chain }, { on := 7, ground := Ground.guard }], guard := some (7, true) }) rfl (fun K hK => ?_) AllReadyH.nil
    go_simp
    go_at_call 19
    refine (KS2.out _ CB.out CA.out).mono ?_
    rintro e1 wz ⟨rfl, bz⟩
    have TA := Lib.hid (Tb.below TA.out bz)
    have TB := Lib.hid (Tb.below TB.out bz)
    have HB := Lib.hid (over HB.out bz)
    have HT := Lib.hid (HT.out.over bz)
    have CA := Lib.hid (CA.out.below bz)
    have CB := Lib.hid (CB.out.below bz)
    clear bz
    go_wp2_with fail
    refine hK.out _ _ ⟨TA.out, TB.out⟩ (fun hHeld => ?_)
    clear hK K
    refine wpAnyH_ready (rs := [13]) (by kernel_rfl) (by simp) ?_
    refine AllReadyH.cons (o := { dst := some 24, op := Op.call { callee := Callee.value (Operand.func 20), args := #[Operand.tmp 22, Operand.tmp 23], argTypes := #[36, 36] }, type := 4, pos := "law.go:71", after := #[{ on := 11, ground := Ground.data }, { on := 12, ground := Ground.data }, { on := 10, ground := Ground.chain }, { on := 7, ground := Ground.guard }], guard := some (7, true) }) rfl (fun K hK => ?_) AllReadyH.nil
    go_simp
    go_at_call 20
    refine (RS1.out _ CA.out CB.out).mono ?_
    rintro e1 wz ⟨rfl, bz⟩
    have TA := Lib.hid (Tb.below TA.out bz)
    have TB := Lib.hid (Tb.below TB.out bz)
    have HB := Lib.hid (over HB.out bz)
    have HT := Lib.hid (HT.out.over bz)
    have CA := Lib.hid (CA.out.below bz)
    have CB := Lib.hid (CB.out.below bz)
    clear bz
    go_wp2_with fail
    refine hK.out _ _ ⟨TA.out, TB.out⟩ (fun hHeld => ?_)
    clear hK K
    refine wpAnyH_take (i := 14) (oi := { dst := some 25, op := Op.binOp BinOp.eql 4 (Operand.tmp 21) (Operand.tmp 24) 4, type := 4, pos := "law.go:71", after := #[{ on := 10, ground := Ground.data }, { on := 13, ground := Ground.data }, { on := 7, ground := Ground.guard }], guard := some (7, true) }) (v := .bool true) rfl (by kernel_rfl) (by kernel_rfl) (by kernel_rfl) (fun _ _ _ h => h) (Or.inl ⟨by rfl, by intro w0 hSw; go_simp⟩) hHeld ?_
    simp only [Act.put, List.setIfInBounds_toArray, List.set_cons_zero, List.set_cons_succ]
    refine wpAnyH_take (i := 15) (oi := { dst := some 26, op := Op.pick (Operand.tmp 18) (Operand.tmp 25) (Operand.const (Value.bool false)), type := 4, pos := "law.go:71", after := #[{ on := 7, ground := Ground.data }, { on := 14, ground := Ground.data }], guard := none }) (v := .bool true) rfl (by kernel_rfl) (by kernel_rfl) (by kernel_rfl) (fun _ _ _ h => h) (Or.inl ⟨by rfl, by intro w0 hSw; go_simp⟩) hHeld ?_
    simp only [Act.put, List.setIfInBounds_toArray, List.set_cons_zero, List.set_cons_succ]
    refine wpAnyH_take (i := 16) (oi := { dst := some 27, op := Op.move (Operand.tmp 26), type := 4, pos := "law.go:71", after := #[{ on := 15, ground := Ground.data }, { on := 13, ground := Ground.chain }], guard := none }) (v := .bool true) rfl (by kernel_rfl) (by kernel_rfl) (by kernel_rfl) (fun _ _ _ h => h) (Or.inl ⟨by rfl, by intro w0 hSw; go_simp⟩) hHeld ?_
    simp only [Act.put, List.setIfInBounds_toArray, List.set_cons_zero, List.set_cons_succ]
    refine wpAnyH_take (i := 17) (oi := { dst := some 28, op := Op.load 36 (Operand.tmp 2), type := 36, pos := "law.go:71", after := #[{ on := 16, ground := Ground.guard }], guard := some (16, true) }) (v := .agg #[.string nm, .int .i64 cnt, .int .i64 fr, .int .i64 dt, .slice oa cap.length ca, .int .i64 sk, .int .i64 prof, .int .i64 opn, .int .i64 cls, .int .i64 drv, .int .i64 rst, .int .i64 fix, .int .i64 pm, .int .i64 pt]) rfl (by kernel_rfl) (by kernel_rfl) (by kernel_rfl) (fun _ _ _ h => h) (Or.inl ⟨by rfl, by intro w0 hSw; have k0 := hSw.1.c0; have k1 := hSw.1.c1; have k2 := hSw.1.c2; have k3 := hSw.1.c3; have k4 := hSw.1.c4; have k5 := hSw.1.c5; have k6 := hSw.1.c6; have k7 := hSw.1.c7; have k8 := hSw.1.c8; have k9 := hSw.1.c9; have k10 := hSw.1.c10; have k11 := hSw.1.c11; have k12 := hSw.1.c12; have k13 := hSw.1.c13; go_simp⟩) hHeld ?_
    simp only [Act.put, List.setIfInBounds_toArray, List.set_cons_zero, List.set_cons_succ]
    refine wpAnyH_take (i := 18) (oi := { dst := some 29, op := Op.load 36 (Operand.tmp 2), type := 36, pos := "law.go:71", after := #[{ on := 16, ground := Ground.guard }], guard := some (16, true) }) (v := .agg #[.string nm, .int .i64 cnt, .int .i64 fr, .int .i64 dt, .slice oa cap.length ca, .int .i64 sk, .int .i64 prof, .int .i64 opn, .int .i64 cls, .int .i64 drv, .int .i64 rst, .int .i64 fix, .int .i64 pm, .int .i64 pt]) rfl (by kernel_rfl) (by kernel_rfl) (by kernel_rfl) (fun _ _ _ h => h) (Or.inl ⟨by rfl, by intro w0 hSw; have k0 := hSw.1.c0; have k1 := hSw.1.c1; have k2 := hSw.1.c2; have k3 := hSw.1.c3; have k4 := hSw.1.c4; have k5 := hSw.1.c5; have k6 := hSw.1.c6; have k7 := hSw.1.c7; have k8 := hSw.1.c8; have k9 := hSw.1.c9; have k10 := hSw.1.c10; have k11 := hSw.1.c11; have k12 := hSw.1.c12; have k13 := hSw.1.c13; go_simp⟩) hHeld ?_
    simp only [Act.put, List.setIfInBounds_toArray, List.set_cons_zero, List.set_cons_succ]
    refine wpAnyH_ready (rs := [19]) (by kernel_rfl) (by simp) ?_
    refine AllReadyH.cons (o := { dst := some 30, op := Op.call { callee := Callee.value (Operand.func 19), args := #[Operand.tmp 28, Operand.tmp 29], argTypes := #[36, 36] }, type := 4, pos := "law.go:71", after := #[{ on := 17, ground := Ground.data }, { on := 18, ground := Ground.data }, { on := 16, ground := Ground.chain }, { on := 16, ground := Ground.guard }], guard := some (16, true) }) rfl (fun K hK => ?_) AllReadyH.nil
    go_simp
    go_at_call 19
    refine (KS3.out _ CA.out CA.out).mono ?_
    rintro e1 wz ⟨rfl, bz⟩
    have TA := Lib.hid (Tb.below TA.out bz)
    have TB := Lib.hid (Tb.below TB.out bz)
    have HB := Lib.hid (over HB.out bz)
    have HT := Lib.hid (HT.out.over bz)
    have CA := Lib.hid (CA.out.below bz)
    have CB := Lib.hid (CB.out.below bz)
    clear bz
    go_wp2_with fail
    refine hK.out _ _ ⟨TA.out, TB.out⟩ (fun hHeld => ?_)
    clear hK K
    refine wpAnyH_take (i := 20) (oi := { dst := some 31, op := Op.pick (Operand.tmp 27) (Operand.tmp 30) (Operand.const (Value.bool false)), type := 4, pos := "law.go:71", after := #[{ on := 16, ground := Ground.data }, { on := 19, ground := Ground.data }], guard := none }) (v := .bool true) rfl (by kernel_rfl) (by kernel_rfl) (by kernel_rfl) (fun _ _ _ h => h) (Or.inl ⟨by rfl, by intro w0 hSw; go_simp⟩) hHeld ?_
    simp only [Act.put, List.setIfInBounds_toArray, List.set_cons_zero, List.set_cons_succ]
    refine wpAnyH_take (i := 21) (oi := { dst := some 32, op := Op.move (Operand.tmp 31), type := 4, pos := "law.go:71", after := #[{ on := 20, ground := Ground.data }, { on := 19, ground := Ground.chain }], guard := none }) (v := .bool true) rfl (by kernel_rfl) (by kernel_rfl) (by kernel_rfl) (fun _ _ _ h => h) (Or.inl ⟨by rfl, by intro w0 hSw; go_simp⟩) hHeld ?_
    simp only [Act.put, List.setIfInBounds_toArray, List.set_cons_zero, List.set_cons_succ]
    refine wpAnyH_ready (rs := [22]) (by kernel_rfl) (by simp) ?_
    refine AllReadyH.cons (o := { dst := some 33, op := Op.call { callee := Callee.value (Operand.func 12), args := #[], argTypes := #[] }, type := 4, pos := "law.go:71", after := #[{ on := 21, ground := Ground.chain }, { on := 21, ground := Ground.guard }], guard := some (21, true) }) rfl (fun K hK => ?_) AllReadyH.nil
    go_simp
    go_at_call 12
    refine (AW.out _ HT.out).mono ?_
    rintro e1 wz ⟨rfl, bz⟩
    have TA := Lib.hid (Tb.below TA.out bz)
    have TB := Lib.hid (Tb.below TB.out bz)
    have HB := Lib.hid (over HB.out bz)
    have HT := Lib.hid (HT.out.over bz)
    have CA := Lib.hid (CA.out.below bz)
    have CB := Lib.hid (CB.out.below bz)
    clear bz
    go_wp2_with fail
    refine hK.out _ _ ⟨TA.out, TB.out⟩ (fun hHeld => ?_)
    clear hK K
    refine wpAnyH_take (i := 23) (oi := { dst := some 34, op := Op.pick (Operand.tmp 32) (Operand.tmp 33) (Operand.const (Value.bool false)), type := 4, pos := "law.go:71", after := #[{ on := 21, ground := Ground.data }, { on := 22, ground := Ground.data }], guard := none }) (v := .bool true) rfl (by kernel_rfl) (by kernel_rfl) (by kernel_rfl) (fun _ _ _ h => h) (Or.inl ⟨by rfl, by intro w0 hSw; go_simp⟩) hHeld ?_
    simp only [Act.put, List.setIfInBounds_toArray, List.set_cons_zero, List.set_cons_succ]
    refine wpAnyH_take (i := 24) (oi := { dst := some 4, op := Op.assign (Operand.tmp 34), type := 4, pos := "law.go:71", after := #[{ on := 23, ground := Ground.data }, { on := 22, ground := Ground.chain }, { on := 0, ground := Ground.phase }, { on := 1, ground := Ground.phase }, { on := 2, ground := Ground.phase }, { on := 3, ground := Ground.phase }, { on := 4, ground := Ground.phase }, { on := 5, ground := Ground.phase }, { on := 6, ground := Ground.phase }, { on := 7, ground := Ground.phase }, { on := 8, ground := Ground.phase }, { on := 9, ground := Ground.phase }, { on := 10, ground := Ground.phase }, { on := 11, ground := Ground.phase }, { on := 12, ground := Ground.phase }, { on := 13, ground := Ground.phase }, { on := 14, ground := Ground.phase }, { on := 15, ground := Ground.phase }, { on := 16, ground := Ground.phase }, { on := 17, ground := Ground.phase }, { on := 18, ground := Ground.phase }, { on := 19, ground := Ground.phase }, { on := 20, ground := Ground.phase }, { on := 21, ground := Ground.phase }, { on := 22, ground := Ground.phase }, { on := 23, ground := Ground.phase }], guard := none }) (v := .bool true) rfl (by kernel_rfl) (by kernel_rfl) (by kernel_rfl) (fun _ _ _ h => h) (Or.inl ⟨by rfl, by intro w0 hSw; go_simp⟩) hHeld ?_
    simp only [Act.put, List.setIfInBounds_toArray, List.set_cons_zero, List.set_cons_succ]
    refine wpAnyH_done (by kernel_rfl) ?_ _
    refine NoPanic.normal ?_
    go_wp2_with fail
    go_ret
    exact ⟨rfl, HB.out⟩

end Go.Proofs.YthihahehmnpenaaDoor.T

