/-
  DERIVED. KPO: a part of the base of layer 13 (made by pack.py).
-/
import Derived.Test.YtaallpebfcadjaaGreatDoorKPC
import Derived.Test.YtaallpebfcadjaaGreatDoorKPK
import Derived.Laws.StructEq
import Derived.Shelf.Abstract
import Derived.ChangeKeysEq
import Derived.Test.YtaallpebfcadjaaGreatDoorKPB
import Derived.Deep.RegionHeld3
/-! The walks of fleet's small functions: isUpTo, isCount, isCapacity, areCosts, Dims, Total, Able, numbers. -/
namespace Go.Proofs.YtaallpebfcadjaaGreatDoor.T
open Go.RowKit
set_option maxRecDepth 8000

theorem upTo_n (x m : Int) (w : World) : Calls Tryz.prog 97 #[.int .i64 x, .int .i64 m] w fun e w' => e = .returned (.bool (rgB 0 m x)) ∧ w = w' := by
  by_cases h1 : 0 ≤ x
  · have HR : Hid (decide (x ≤ m) = rgB 0 m x) := by show _ = _; unfold rgB; rw [decide_eq_true h1, Bool.true_and]
    generalize rgB 0 m x = r at *
    go_enter Tryz.func97, Tryz.ntmps97
    go_wp2_with fail
    go_ret
    exact ⟨ret_bool HR.out, rfl⟩
  · have HR : Hid (false = rgB 0 m x) := by show _ = _; unfold rgB; rw [decide_eq_false h1, Bool.false_and]
    have h2 : x < 0 := by omega
    generalize rgB 0 m x = r at *
    go_enter Tryz.func97, Tryz.ntmps97
    go_wp2_with fail
    go_ret
    exact ⟨ret_bool HR.out, rfl⟩
theorem count_n (x : Int) (w : World) : Calls Tryz.prog 96 #[.int .i64 x] w fun e w' => e = .returned (.bool (rgB 0 10 x)) ∧ w = w' := by
  have K := Lib.hid (fun w => upTo_n x 10 w)
  generalize rgB 0 10 x = r at *
  go_enter Tryz.func96, Tryz.ntmps96
  go_wp2_with fail
  refine (K.out _).mono ?_
  rintro e w1 ⟨rfl, rfl⟩
  go_wp2_with fail
  go_ret
  exact ⟨rfl, rfl⟩
theorem capacity_n (u : Value) (l : List Int) (d : Nat) (hl : l.length ≤ 1000000000) (hd : d ≤ 1000000000) (w : World) (hu : L.Li w u l) :
    Calls Tryz.prog 98 #[u, .int .i64 d] w fun e w' => e = .returned (.bool (capB l d)) ∧ w = w' := by
  have K := Lib.hid (fun w hu => L.loadRight_n u l d (by omega) w hu)
  have HU := Lib.hid hu
  obtain ⟨oa, c, rfl, -⟩ := hu
  have HC := Lib.hid (cap_right l d)
  generalize capB l d = r at *
  generalize L.rightB l d = q at *
  generalize l.length = n at *
  by_cases h1 : 1 ≤ d
  · have h1I : (1 : Int) ≤ (d : Int) := by omega
    by_cases h3 : d ≤ 3
    · have h3I : (d : Int) ≤ 3 := by omega
      have HR : Hid (q = r) := by show _ = _; rw [HC.out]; unfold rgB; rw [decide_eq_true h1I, decide_eq_true h3I]; rfl
      go_enter Tryz.func98, Tryz.ntmps98
      go_wp2_with fail
      refine (K.out _ HU.out).mono ?_
      rintro e w1 ⟨rfl, rfl⟩
      go_wp2_with fail
      go_ret
      exact ⟨ret_bool HR.out, rfl⟩
    · have h3I : ¬ (d : Int) ≤ 3 := by omega
      have HR : Hid (false = r) := by show _ = _; rw [HC.out]; unfold rgB; rw [decide_eq_false h3I, Bool.and_false, Bool.false_and]
      go_enter Tryz.func98, Tryz.ntmps98
      go_wp2_with fail
      go_ret
      exact ⟨ret_bool HR.out, rfl⟩
  · have h1I : ¬ (1 : Int) ≤ (d : Int) := by omega
    have HR : Hid (false = r) := by show _ = _; rw [HC.out]; unfold rgB; rw [decide_eq_false h1I, Bool.false_and, Bool.false_and]
    go_enter Tryz.func98, Tryz.ntmps98
    go_wp2_with fail
    go_ret
    exact ⟨ret_bool HR.out, rfl⟩
theorem costs_n (nm : ByteArray) (c1 c2 c3 sk c6 c7 c8 c9 c10 c11 c12 c13 : Int) (oc : Option Addr) (nc cc : Nat) (w : World) :
    Calls Tryz.prog 99 #[.agg #[.string nm, .int .i64 c1, .int .i64 c2, .int .i64 c3, .slice oc nc cc, .int .i64 sk, .int .i64 c6, .int .i64 c7, .int .i64 c8, .int .i64 c9, .int .i64 c10, .int .i64 c11, .int .i64 c12, .int .i64 c13]] w
      fun e w' => e = .returned (.bool (rgB 0 100000 c11 && rgB 0 100 c12 && rgB 0 100 c13)) ∧ Below w.heap.size w w' := by
  have K1 := Lib.hid (fun w => upTo_n c11 100000 w)
  have K2 := Lib.hid (fun w => upTo_n c12 100 w)
  have K3 := Lib.hid (fun w => upTo_n c13 100 w)
  generalize rgB 0 100000 c11 = r1 at *
  generalize rgB 0 100 c12 = r2 at *
  generalize rgB 0 100 c13 = r3 at *
  have BW := Lib.hid (below_alloc w (.cells #[.string nm, .int .i64 c1, .int .i64 c2, .int .i64 c3, .slice oc nc cc, .int .i64 sk, .int .i64 c6, .int .i64 c7, .int .i64 c8, .int .i64 c9, .int .i64 c10, .int .i64 c11, .int .i64 c12, .int .i64 c13] 56))
  cases r1
  · go_enter Tryz.func99, Tryz.ntmps99
    go_wp2_with fail
    refine (K1.out _).mono ?_
    rintro e w1 ⟨rfl, rfl⟩
    go_wp2_with fail
    go_ret
    exact ⟨rfl, BW.out⟩
  · cases r2
    · go_enter Tryz.func99, Tryz.ntmps99
      go_wp2_with fail
      refine (K1.out _).mono ?_
      rintro e w1 ⟨rfl, rfl⟩
      go_wp2_with fail
      refine (K2.out _).mono ?_
      rintro e w1 ⟨rfl, rfl⟩
      go_wp2_with fail
      go_ret
      exact ⟨rfl, BW.out⟩
    · go_enter Tryz.func99, Tryz.ntmps99
      go_wp2_with fail
      refine (K1.out _).mono ?_
      rintro e w1 ⟨rfl, rfl⟩
      go_wp2_with fail
      refine (K2.out _).mono ?_
      rintro e w1 ⟨rfl, rfl⟩
      go_wp2_with fail
      refine (K3.out _).mono ?_
      rintro e w1 ⟨rfl, rfl⟩
      go_wp2_with fail
      go_ret
      exact ⟨rfl, BW.out⟩
theorem dims_n (v : Value) (l : List TyT) (hl : l.length ≤ 1000000000) (w : World) (hv : Ts w v l) :
    Calls Tryz.prog 27 #[v] w fun e w' => e = .returned (.int .i64 (dimsF l : Nat)) ∧ w = w' := by
  obtain ⟨oa, c, rfl, ha⟩ := hv
  by_cases h : l.length = 0
  · have hl0 : l = [] := List.eq_nil_of_length_eq_zero h
    subst hl0
    go_enter Tryz.func27, Tryz.ntmps27
    go_wp2_with fail
    go_ret
    exact ⟨rfl, rfl⟩
  · obtain ⟨b, o, vc, rfl, hb, ⟨h0, h1, h2, h3, h4, h5, h6, h7, h8, h9, h10, h11, h12, h13⟩, hc⟩ := ha 0 (by omega)
    obtain ⟨oc, cc, rfl, -⟩ := hc
    have hd : Hid ((l.getD 0 ty0).cap.length = dimsF l) := rfl
    have hne : ((l.length : Int) == 0) = false := ne_eqN h
    have hpos : (0 : Int) < (l.length : Int) := by omega
    simp only [Nat.zero_mul, Nat.add_zero] at h0 h1 h2 h3 h4 h5 h6 h7 h8 h9 h10 h11 h12 h13
    generalize dimsF l = d at *
    generalize (l.getD 0 ty0).cap.length = d' at *
    generalize l.length = n at *
    go_enter Tryz.func27, Tryz.ntmps27
    go_wp2_with fail
    go_ret
    exact ⟨ret_int (by rw [hd.out]), rfl⟩
end Go.Proofs.YtaallpebfcadjaaGreatDoor.T


/-! The walks of fleet's Total, numbers and Same (written by gen_fltop2.py). -/
namespace Go.Proofs.YtaallpebfcadjaaGreatDoor.T
open Go.RowKit
set_option maxRecDepth 8000

set_option maxHeartbeats 3200000 in
theorem numbers_n (nm : ByteArray) (cnt fr dt sk prof opn cls drv rst fix pm pt : Int) (o : Option Addr) (n k : Nat) (w : World) :
    Calls Tryz.prog 74 #[.agg #[.string nm, .int .i64 cnt, .int .i64 fr, .int .i64 dt, .slice o n k, .int .i64 sk, .int .i64 prof, .int .i64 opn, .int .i64 cls, .int .i64 drv, .int .i64 rst, .int .i64 fix, .int .i64 pm, .int .i64 pt]] w fun e w' => e = .returned (.agg #[.int .i64 cnt, .int .i64 fr, .int .i64 dt, .int .i64 sk, .int .i64 prof, .int .i64 opn, .int .i64 cls, .int .i64 drv, .int .i64 rst, .int .i64 fix, .int .i64 pm, .int .i64 pt]) ∧ Below w.heap.size w w' := by
  go_enter Tryz.func74, Tryz.ntmps74
  go_wp2_with fail
  exact bodyPost_ret (v := .agg #[.int .i64 cnt, .int .i64 fr, .int .i64 dt, .int .i64 sk, .int .i64 prof, .int .i64 opn, .int .i64 cls, .int .i64 drv, .int .i64 rst, .int .i64 fix, .int .i64 pm, .int .i64 pt]) (by simp [results, Tryz.results74, go_sem]) rfl ⟨rfl, by go_grown⟩

end Go.Proofs.YtaallpebfcadjaaGreatDoor.T


/-! The walk of fleet's Same (written by gen_fltop3.py). -/
namespace Go.Proofs.YtaallpebfcadjaaGreatDoor.T
open Go.RowKit
set_option maxRecDepth 8000

theorem add_pl (b o j : Nat) : (⟨b, o, none⟩ : Addr).add j = ⟨b, o + j, none⟩ := by
  unfold Addr.add
  split
  · rename_i hz; rw [hz]; rfl
  · rfl
theorem li_cells {w : World} {b o : Nat} {c : Nat} {l : List Int} (h : L.Li w (.slice (some ⟨b, o, none⟩) l.length c) l) : ∀ j, j < l.length → w.cell? ⟨b, o + j, none⟩ = some (.int .i64 (l.getD j 0)) := fun j hj => by
  obtain ⟨oa, c', hv, h⟩ := h
  simp only [Value.slice.injEq] at hv
  obtain ⟨rfl, -, rfl⟩ := hv
  obtain ⟨a, ha, -, hc⟩ := h j hj
  simp only [Option.some.injEq] at ha
  subst ha
  rw [add_pl] at hc
  exact hc
theorem eqInts_n (u v : Value) (a b : List Int) (ha9 : a.length ≤ 1000000000) (hb9 : b.length ≤ 1000000000) (w : World) (hu : L.Li w u a) (hv : L.Li w v b) :
    Calls Tryz.prog 73 #[u, v] w fun e w' => e = .returned (.bool (a == b)) ∧ ∃ q, w' = w.drewN q := by
  have HU := hu
  have HV := hv
  obtain ⟨oa, ca, rfl, hca⟩ := hu
  obtain ⟨ob, cb, rfl, hcb⟩ := hv
  by_cases hn : a.length = b.length
  · by_cases h0 : a.length = 0
    · have ea : a = [] := List.eq_nil_of_length_eq_zero h0
      have eb : b = [] := List.eq_nil_of_length_eq_zero (by omega)
      subst ea; subst eb
      refine (Tryz.slices_Equal_int_empty oa ob ca 0 cb w (by omega)).mono ?_
      rintro e w' ⟨rfl, rfl⟩
      exact ⟨rfl, 0, rfl⟩
    · obtain ⟨pa, rfl, -, xa⟩ := hca 0 (by omega)
      obtain ⟨pb, rfl, -, xb⟩ := hcb 0 (by omega)
      obtain ⟨b1, o1, s1⟩ := pa
      obtain ⟨b2, o2, s2⟩ := pb
      have hs1 : s1 = none := by simpa [Addr.add] using World.cell?_spot xa
      have hs2 : s2 = none := by simpa [Addr.add] using World.cell?_spot xb
      subst hs1; subst hs2
      refine (Tryz.slices_Equal_int b1 o1 a.length ca b2 o2 b.length cb a b w (Nat.le_refl _) (Nat.le_refl _) (by omega) (by omega) (li_cells HU) (li_cells HV)).mono ?_
      rintro e w' ⟨rfl, hq⟩
      exact ⟨by rw [List.take_length, List.take_length], hq⟩
  · refine (Tryz.slices_Equal_int_lens oa ob a.length ca b.length cb w hn).mono ?_
    rintro e w' ⟨rfl, rfl⟩
    refine ⟨ret_bool ?_, 0, rfl⟩
    symm
    rw [beq_eq_false_iff_ne]
    intro h
    exact hn (by rw [h])

theorem quiet_q {P : Program} {f : FuncId} {args : Array Value} {w : World} {n : Nat} {v : Value} (h : Calls P f args (w.drewN n) fun e w' => e = .returned v ∧ ∃ q, w' = (w.drewN n).drewN q) :
    Calls P f args (w.drewN n) fun e w'' => e = .returned v ∧ ∃ m, w'' = w.drewN m := h.mono fun _ _ ⟨he, q, hq⟩ => ⟨he, n + q, by rw [hq]; simp [World.drewN, Nat.add_assoc]⟩
set_option maxHeartbeats 6400000 in
theorem same_n (a b : TyT) (oa ob : Option Addr) (ca cb : Nat) (ha9 : a.cap.length ≤ 1000000000) (hb9 : b.cap.length ≤ 1000000000) (w : World) (hA : L.Li w (.slice oa a.cap.length ca) a.cap) (hB : L.Li w (.slice ob b.cap.length cb) b.cap) :
    Calls Tryz.prog 42 #[tyV a (.slice oa a.cap.length ca), tyV b (.slice ob b.cap.length cb)] w fun e w' => e = .returned (.bool (sameT a b)) ∧ Below w.heap.size w w' := by
  obtain ⟨nm, cnt, fr, dt, cap, sk, prof, opn, cls, drv, rst, fix, pm, pt⟩ := a
  obtain ⟨nm', cnt', fr', dt', cap', sk', prof', opn', cls', drv', rst', fix', pm', pt'⟩ := b
  unfold tyV
  simp only at hA hB ha9 hb9 ⊢
  have HE : Hid (((cap == cap') && (nm.toList == nm'.toList) && (cnt == cnt') && (fr == fr') && (dt == dt') && (sk == sk') && (prof == prof') && (opn == opn') && (cls == cls') && (drv == drv') && (rst == rst') && (fix == fix') && (pm == pm') && (pt == pt')) = sameT ⟨nm, cnt, fr, dt, cap, sk, prof, opn, cls, drv, rst, fix, pm, pt⟩ ⟨nm', cnt', fr', dt', cap', sk', prof', opn', cls', drv', rst', fix', pm', pt'⟩) := rfl
  generalize sameT ⟨nm, cnt, fr, dt, cap, sk, prof, opn, cls, drv, rst, fix, pm, pt⟩ ⟨nm', cnt', fr', dt', cap', sk', prof', opn', cls', drv', rst', fix', pm', pt'⟩ = r at *
  have KN := Lib.hid (fun w => numbers_n nm cnt fr dt sk prof opn cls drv rst fix pm pt oa cap.length ca w)
  have KM := Lib.hid (fun w => numbers_n nm' cnt' fr' dt' sk' prof' opn' cls' drv' rst' fix' pm' pt' ob cap'.length cb w)
  have KE := Lib.hid (fun w hu hv => eqInts_n (.slice oa cap.length ca) (.slice ob cap'.length cb) cap cap' ha9 hb9 w hu hv)
  have BA := below_alloc w (.cells #[.string nm, .int .i64 cnt, .int .i64 fr, .int .i64 dt, .slice oa cap.length ca, .int .i64 sk, .int .i64 prof, .int .i64 opn, .int .i64 cls, .int .i64 drv, .int .i64 rst, .int .i64 fix, .int .i64 pm, .int .i64 pt] 56)
  have BB := below_alloc (w.alloc (.cells #[.string nm, .int .i64 cnt, .int .i64 fr, .int .i64 dt, .slice oa cap.length ca, .int .i64 sk, .int .i64 prof, .int .i64 opn, .int .i64 cls, .int .i64 drv, .int .i64 rst, .int .i64 fix, .int .i64 pm, .int .i64 pt] 56)) (.cells #[.string nm', .int .i64 cnt', .int .i64 fr', .int .i64 dt', .slice ob cap'.length cb, .int .i64 sk', .int .i64 prof', .int .i64 opn', .int .i64 cls', .int .i64 drv', .int .i64 rst', .int .i64 fix', .int .i64 pm', .int .i64 pt'] 56)
  have TA := (Tb.made w (.string nm) (.int .i64 cnt) (.int .i64 fr) (.int .i64 dt) (.slice oa cap.length ca) (.int .i64 sk) (.int .i64 prof) (.int .i64 opn) (.int .i64 cls) (.int .i64 drv) (.int .i64 rst) (.int .i64 fix) (.int .i64 pm) (.int .i64 pt)).below BB
  have TB := Tb.made (w.alloc (.cells #[.string nm, .int .i64 cnt, .int .i64 fr, .int .i64 dt, .slice oa cap.length ca, .int .i64 sk, .int .i64 prof, .int .i64 opn, .int .i64 cls, .int .i64 drv, .int .i64 rst, .int .i64 fix, .int .i64 pm, .int .i64 pt] 56)) (.string nm') (.int .i64 cnt') (.int .i64 fr') (.int .i64 dt') (.slice ob cap'.length cb) (.int .i64 sk') (.int .i64 prof') (.int .i64 opn') (.int .i64 cls') (.int .i64 drv') (.int .i64 rst') (.int .i64 fix') (.int .i64 pm') (.int .i64 pt')
  rw [show (w.alloc (.cells #[.string nm, .int .i64 cnt, .int .i64 fr, .int .i64 dt, .slice oa cap.length ca, .int .i64 sk, .int .i64 prof, .int .i64 opn, .int .i64 cls, .int .i64 drv, .int .i64 rst, .int .i64 fix, .int .i64 pm, .int .i64 pt] 56)).heap.size = w.heap.size + 1 by simp] at TB
  have B0 := over BA BB
  have CA := hA.below B0
  have CB := hB.below B0
  obtain ⟨W0, hW0⟩ : ∃ W0, (w.alloc (.cells #[.string nm, .int .i64 cnt, .int .i64 fr, .int .i64 dt, .slice oa cap.length ca, .int .i64 sk, .int .i64 prof, .int .i64 opn, .int .i64 cls, .int .i64 drv, .int .i64 rst, .int .i64 fix, .int .i64 pm, .int .i64 pt] 56)).alloc (.cells #[.string nm', .int .i64 cnt', .int .i64 fr', .int .i64 dt', .slice ob cap'.length cb, .int .i64 sk', .int .i64 prof', .int .i64 opn', .int .i64 cls', .int .i64 drv', .int .i64 rst', .int .i64 fix', .int .i64 pm', .int .i64 pt'] 56) = W0 := ⟨_, rfl⟩
  rw [hW0] at TA TB B0 CA CB
  have TA := Lib.hid TA
  have TB := Lib.hid TB
  have B0 := Lib.hid B0
  have CA : Hid (∀ m, L.Li (W0.drewN m) (.slice oa cap.length ca) cap) := fun _ => CA
  have CB : Hid (∀ m, L.Li (W0.drewN m) (.slice ob cap'.length cb) cap') := fun _ => CB
  clear BA BB hA hB ha9 hb9
  have c0 := TA.out.c0
  have d0 := TB.out.c0
  have c1 := TA.out.c1
  have d1 := TB.out.c1
  have c2 := TA.out.c2
  have d2 := TB.out.c2
  have c3 := TA.out.c3
  have d3 := TB.out.c3
  have c4 := TA.out.c4
  have d4 := TB.out.c4
  have c5 := TA.out.c5
  have d5 := TB.out.c5
  have c6 := TA.out.c6
  have d6 := TB.out.c6
  have c7 := TA.out.c7
  have d7 := TB.out.c7
  have c8 := TA.out.c8
  have d8 := TB.out.c8
  have c9 := TA.out.c9
  have d9 := TB.out.c9
  have c10 := TA.out.c10
  have d10 := TB.out.c10
  have c11 := TA.out.c11
  have d11 := TB.out.c11
  have c12 := TA.out.c12
  have d12 := TB.out.c12
  have c13 := TA.out.c13
  have d13 := TB.out.c13
  have HB : Hid (Below W0.heap.size W0 W0.drew) := below_drew (Below.refl _ W0)
  cases e0 : (nm.toList == nm'.toList)
  · have HR : Hid (false = r) := by show _ = _; rw [← HE.out]; simp only [e0, Bool.false_and, Bool.and_false]
    clear HE KN KM KE
    go_enter Tryz.func42, Tryz.ntmps42
    go_wp2_with fail
    clear hW0
    go_quiet (fail)
    go_wp2_with fail
    go_ret
    exact ⟨ret_bool HR.out, over B0.out (below_drewN (Below.refl _ W0) _)⟩
  cases hq : (cap == cap')
  · have HR : Hid (false = r) := by show _ = _; rw [← HE.out]; simp only [hq, Bool.false_and]
    rw [hq] at KE
    clear HE KN KM hq
    go_enter Tryz.func42, Tryz.ntmps42
    go_wp2_with fail
    clear hW0
    go_quiet (first | (go_at_call 73; exact quiet_q (KE.out _ (CA.out _) (CB.out _))))
    go_wp2_with fail
    go_ret
    exact ⟨ret_bool HR.out, over B0.out (below_drewN (Below.refl _ W0) _)⟩
  · have HR : Hid ((cnt == cnt' && (fr == fr' && (dt == dt' && (sk == sk' && (prof == prof' && (opn == opn' && (cls == cls' && (drv == drv' && (rst == rst' && (fix == fix' && (pm == pm' && (pt == pt')))))))))))) = r) := by show _ = _; rw [← HE.out]; simp only [hq, e0, Bool.true_and, Bool.and_assoc]
    rw [hq] at KE
    clear HE hq
    have CA1 : Hid (L.Li W0.drew (.slice oa cap.length ca) cap) := CA.out 1
    have CB1 : Hid (L.Li W0.drew (.slice ob cap'.length cb) cap') := CB.out 1
    have KE2 : Hid (∀ w, L.Li w (.slice oa cap.length ca) cap → L.Li w (.slice ob cap'.length cb) cap' → Calls Tryz.prog 73 #[.slice oa cap.length ca, .slice ob cap'.length cb] w fun e w' => e = .returned (.bool true) ∧ Below w.heap.size w w') := fun w h1 h2 => (KE.out w h1 h2).mono fun _ _ ⟨he, q, hq⟩ => ⟨he, by rw [hq]; exact below_drewN (Below.refl _ _) q⟩
    have TA : Hid (Tb W0.drew w.heap.size (.string nm) (.int .i64 cnt) (.int .i64 fr) (.int .i64 dt) (.slice oa cap.length ca) (.int .i64 sk) (.int .i64 prof) (.int .i64 opn) (.int .i64 cls) (.int .i64 drv) (.int .i64 rst) (.int .i64 fix) (.int .i64 pm) (.int .i64 pt)) := TA
    have TB : Hid (Tb W0.drew (w.heap.size + 1) (.string nm') (.int .i64 cnt') (.int .i64 fr') (.int .i64 dt') (.slice ob cap'.length cb) (.int .i64 sk') (.int .i64 prof') (.int .i64 opn') (.int .i64 cls') (.int .i64 drv') (.int .i64 rst') (.int .i64 fix') (.int .i64 pm') (.int .i64 pt')) := TB
    have q12 := eql12
    have hgm : Tryz.prog.eqGuardType Tryz.prog.depth 107 = false := by kernel_rfl
    go_enter Tryz.func42, Tryz.ntmps42
    go_wp2_with fail
    clear hW0
    go_region_held3 (fun w' => w'.cell? ⟨w.heap.size, 0, none⟩ = some (.string nm) ∧ w'.cell? ⟨w.heap.size + 1, 0, none⟩ = some (.string nm') ∧ w'.cell? ⟨w.heap.size, 1, none⟩ = some (.int .i64 cnt) ∧ w'.cell? ⟨w.heap.size + 1, 1, none⟩ = some (.int .i64 cnt') ∧ w'.cell? ⟨w.heap.size, 2, none⟩ = some (.int .i64 fr) ∧ w'.cell? ⟨w.heap.size + 1, 2, none⟩ = some (.int .i64 fr') ∧ w'.cell? ⟨w.heap.size, 3, none⟩ = some (.int .i64 dt) ∧ w'.cell? ⟨w.heap.size + 1, 3, none⟩ = some (.int .i64 dt') ∧ w'.cell? ⟨w.heap.size, 4, none⟩ = some (.slice oa cap.length ca) ∧ w'.cell? ⟨w.heap.size + 1, 4, none⟩ = some (.slice ob cap'.length cb) ∧ w'.cell? ⟨w.heap.size, 5, none⟩ = some (.int .i64 sk) ∧ w'.cell? ⟨w.heap.size + 1, 5, none⟩ = some (.int .i64 sk') ∧ w'.cell? ⟨w.heap.size, 6, none⟩ = some (.int .i64 prof) ∧ w'.cell? ⟨w.heap.size + 1, 6, none⟩ = some (.int .i64 prof') ∧ w'.cell? ⟨w.heap.size, 7, none⟩ = some (.int .i64 opn) ∧ w'.cell? ⟨w.heap.size + 1, 7, none⟩ = some (.int .i64 opn') ∧ w'.cell? ⟨w.heap.size, 8, none⟩ = some (.int .i64 cls) ∧ w'.cell? ⟨w.heap.size + 1, 8, none⟩ = some (.int .i64 cls') ∧ w'.cell? ⟨w.heap.size, 9, none⟩ = some (.int .i64 drv) ∧ w'.cell? ⟨w.heap.size + 1, 9, none⟩ = some (.int .i64 drv') ∧ w'.cell? ⟨w.heap.size, 10, none⟩ = some (.int .i64 rst) ∧ w'.cell? ⟨w.heap.size + 1, 10, none⟩ = some (.int .i64 rst') ∧ w'.cell? ⟨w.heap.size, 11, none⟩ = some (.int .i64 fix) ∧ w'.cell? ⟨w.heap.size + 1, 11, none⟩ = some (.int .i64 fix') ∧ w'.cell? ⟨w.heap.size, 12, none⟩ = some (.int .i64 pm) ∧ w'.cell? ⟨w.heap.size + 1, 12, none⟩ = some (.int .i64 pm') ∧ w'.cell? ⟨w.heap.size, 13, none⟩ = some (.int .i64 pt) ∧ w'.cell? ⟨w.heap.size + 1, 13, none⟩ = some (.int .i64 pt'))
      (first | exact ⟨c0, d0, c1, d1, c2, d2, c3, d3, c4, d4, c5, d5, c6, d6, c7, d7, c8, d8, c9, d9, c10, d10, c11, d11, c12, d12, c13, d13⟩)
      (first | (go_at_call 73; (with_reducible refine (KE2.out _ CA1.out CB1.out).mono ?_); rintro e wz ⟨rfl, bz⟩; have TA := Lib.hid (Tb.below TA.out bz); have TB := Lib.hid (Tb.below TB.out bz); have HB := Lib.hid (over HB.out bz); have c0 := TA.out.c0; have d0 := TB.out.c0; have c1 := TA.out.c1; have d1 := TB.out.c1; have c2 := TA.out.c2; have d2 := TB.out.c2; have c3 := TA.out.c3; have d3 := TB.out.c3; have c4 := TA.out.c4; have d4 := TB.out.c4; have c5 := TA.out.c5; have d5 := TB.out.c5; have c6 := TA.out.c6; have d6 := TB.out.c6; have c7 := TA.out.c7; have d7 := TB.out.c7; have c8 := TA.out.c8; have d8 := TB.out.c8; have c9 := TA.out.c9; have d9 := TB.out.c9; have c10 := TA.out.c10; have d10 := TB.out.c10; have c11 := TA.out.c11; have d11 := TB.out.c11; have c12 := TA.out.c12; have d12 := TB.out.c12; have c13 := TA.out.c13; have d13 := TB.out.c13) | (go_at_call 74; (first | (with_reducible refine (KN.out _).mono ?_) | (with_reducible refine (KM.out _).mono ?_)); rintro e wz ⟨rfl, bz⟩; have TA := Lib.hid (Tb.below TA.out bz); have TB := Lib.hid (Tb.below TB.out bz); have HB := Lib.hid (over HB.out bz); have c0 := TA.out.c0; have d0 := TB.out.c0; have c1 := TA.out.c1; have d1 := TB.out.c1; have c2 := TA.out.c2; have d2 := TB.out.c2; have c3 := TA.out.c3; have d3 := TB.out.c3; have c4 := TA.out.c4; have d4 := TB.out.c4; have c5 := TA.out.c5; have d5 := TB.out.c5; have c6 := TA.out.c6; have d6 := TB.out.c6; have c7 := TA.out.c7; have d7 := TB.out.c7; have c8 := TA.out.c8; have d8 := TB.out.c8; have c9 := TA.out.c9; have d9 := TB.out.c9; have c10 := TA.out.c10; have d10 := TB.out.c10; have c11 := TA.out.c11; have d11 := TB.out.c11; have c12 := TA.out.c12; have d12 := TB.out.c12; have c13 := TA.out.c13; have d13 := TB.out.c13))
    all_goals
      go_wp2_with fail
      go_ret
      exact ⟨ret_bool HR.out, over B0.out HB.out⟩

end Go.Proofs.YtaallpebfcadjaaGreatDoor.T


