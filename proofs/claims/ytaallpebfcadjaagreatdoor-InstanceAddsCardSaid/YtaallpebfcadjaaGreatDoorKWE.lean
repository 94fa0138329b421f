/-
 DERIVED. KWE: a part of the base of layer 13 (made by pack.py).
-/
import Derived.Test.YtaallpebfcadjaaGreatDoorKPC
import Derived.Test.YtaallpebfcadjaaGreatDoorKPG
import Derived.Test.YtaallpebfcadjaaGreatDoorKPK
/-! The walk of the specification's Same (written by gen_reffl6.py). -/
namespace Go.Proofs.YtaallpebfcadjaaGreatDoor.T
open Go.RowKit
set_option maxRecDepth 8000
theorem caps_eq {a b : List Int} (hl : a.length = b.length) (h : ∀ j, j < a.length → a.getD j 0 = b.getD j 0) : a = b := by
 refine List.ext_getElem hl fun i h1 h2 => ?_
 have := h i h1
 rw [List.getD_eq_getElem?_getD, List.getD_eq_getElem?_getD, List.getElem?_eq_getElem h1, List.getElem?_eq_getElem h2] at this
 exact this
theorem wpList_val {P : Program} {ops : Array Oper} {Q : Exit → Act → World → Prop} {rest : List Oper} {o : Oper} {a : Act} {w : World} (hg : o.guard = none) (v : Value)
  (hop : ∀ K : Act → World → Prop, K (a.put o.dst v) w → Oper.wp P o a w K Q) (h : wpList P ops Q rest (a.put o.dst v) w) : wpList P ops Q (o :: rest) a w :=
 wpList_plain hg fun K hK => hop K (hK _ _ h)
theorem wpList_sym {P : Program} {ops : Array Oper} {Q : Exit → Act → World → Prop} {rest : List Oper} {o : Oper} {a : Act} {w : World} (c : Bool) (v : Value) (hw : Region.wanted o (yielded ops a.tmps) = c)
  (hop : c = true → ∀ K : Act → World → Prop, K (a.put o.dst v) w → Oper.wp P o a w K Q) (h : wpList P ops Q rest (a.put o.dst (bif c then v else undef)) w) : wpList P ops Q (o :: rest) a w := by
 cases c
 ·exact wpList_skip hw h
 ·refine wpList_step fun K hK => ?_
  rw [if_pos hw]
  exact hop rfl K (hK _ _ h)
set_option maxHeartbeats 6400000 in
theorem refSame_n (a b : TyT) (oa ob : Option Addr) (ca cb : Nat) (ha9 : a.cap.length ≤ 1000000000) (hb9 : b.cap.length ≤ 1000000000) (w : World) (hA : L.Li w (.slice oa a.cap.length ca) a.cap) (hB : L.Li w (.slice ob b.cap.length cb) b.cap) :
  Calls Tryz.prog 47 #[tyV a (.slice oa a.cap.length ca), tyV b (.slice ob b.cap.length cb)] w fun e w' => e = .returned (.bool (sameT a b)) ∧ Below w.heap.size w w' := by
 obtain ⟨nm, cnt, fr, dt, cap, sk, prof, opn, cls, drv, rst, fix, pm, pt⟩ := a
 obtain ⟨nm', cnt', fr', dt', cap', sk', prof', opn', cls', drv', rst', fix', pm', pt'⟩ := b
 unfold tyV
 simp only at hA hB ha9 hb9 ⊢
 have HE : Hid (((cap == cap') && (nm.toList == nm'.toList) && (cnt == cnt') && (fr == fr') && (dt == dt') && (sk == sk') && (prof == prof') && (opn == opn') && (cls == cls') && (drv == drv') && (rst == rst') && (fix == fix') && (pm == pm') && (pt == pt')) = sameT ⟨nm, cnt, fr, dt, cap, sk, prof, opn, cls, drv, rst, fix, pm, pt⟩ ⟨nm', cnt', fr', dt', cap', sk', prof', opn', cls', drv', rst', fix', pm', pt'⟩) := rfl
 generalize sameT ⟨nm, cnt, fr, dt, cap, sk, prof, opn, cls, drv, rst, fix, pm, pt⟩ ⟨nm', cnt', fr', dt', cap', sk', prof', opn', cls', drv', rst', fix', pm', pt'⟩ = r at *
 obtain ⟨z0, hz0⟩ : ∃ z, (nm.toList == nm'.toList) = z := ⟨_, rfl⟩
 obtain ⟨z1, hz1⟩ : ∃ z, (cnt == cnt') = z := ⟨_, rfl⟩
 obtain ⟨z2, hz2⟩ : ∃ z, (fr == fr') = z := ⟨_, rfl⟩
 obtain ⟨z3, hz3⟩ : ∃ z, (dt == dt') = z := ⟨_, rfl⟩
 obtain ⟨z4, hz4⟩ : ∃ z, (sk == sk') = z := ⟨_, rfl⟩
 obtain ⟨z5, hz5⟩ : ∃ z, (prof == prof') = z := ⟨_, rfl⟩
 obtain ⟨z6, hz6⟩ : ∃ z, (opn == opn') = z := ⟨_, rfl⟩
 obtain ⟨z7, hz7⟩ : ∃ z, (cls == cls') = z := ⟨_, rfl⟩
 obtain ⟨z8, hz8⟩ : ∃ z, (drv == drv') = z := ⟨_, rfl⟩
 obtain ⟨z9, hz9⟩ : ∃ z, (rst == rst') = z := ⟨_, rfl⟩
 obtain ⟨z10, hz10⟩ : ∃ z, (fix == fix') = z := ⟨_, rfl⟩
 obtain ⟨z11, hz11⟩ : ∃ z, (pm == pm') = z := ⟨_, rfl⟩
 obtain ⟨z12, hz12⟩ : ∃ z, (pt == pt') = z := ⟨_, rfl⟩
 have BA := below_alloc w (.cells #[.string nm, .int .i64 cnt, .int .i64 fr, .int .i64 dt, .slice oa cap.length ca, .int .i64 sk, .int .i64 prof, .int .i64 opn, .int .i64 cls, .int .i64 drv, .int .i64 rst, .int .i64 fix, .int .i64 pm, .int .i64 pt] 56)
 have BB := below_alloc (w.alloc (.cells #[.string nm, .int .i64 cnt, .int .i64 fr, .int .i64 dt, .slice oa cap.length ca, .int .i64 sk, .int .i64 prof, .int .i64 opn, .int .i64 cls, .int .i64 drv, .int .i64 rst, .int .i64 fix, .int .i64 pm, .int .i64 pt] 56)) (.cells #[.string nm', .int .i64 cnt', .int .i64 fr', .int .i64 dt', .slice ob cap'.length cb, .int .i64 sk', .int .i64 prof', .int .i64 opn', .int .i64 cls', .int .i64 drv', .int .i64 rst', .int .i64 fix', .int .i64 pm', .int .i64 pt'] 56)
 have TA := (Tb.made w (.string nm) (.int .i64 cnt) (.int .i64 fr) (.int .i64 dt) (.slice oa cap.length ca) (.int .i64 sk) (.int .i64 prof) (.int .i64 opn) (.int .i64 cls) (.int .i64 drv) (.int .i64 rst) (.int .i64 fix) (.int .i64 pm) (.int .i64 pt)).below BB
 have TB := Tb.made (w.alloc (.cells #[.string nm, .int .i64 cnt, .int .i64 fr, .int .i64 dt, .slice oa cap.length ca, .int .i64 sk, .int .i64 prof, .int .i64 opn, .int .i64 cls, .int .i64 drv, .int .i64 rst, .int .i64 fix, .int .i64 pm, .int .i64 pt] 56)) (.string nm') (.int .i64 cnt') (.int .i64 fr') (.int .i64 dt') (.slice ob cap'.length cb) (.int .i64 sk') (.int .i64 prof') (.int .i64 opn') (.int .i64 cls') (.int .i64 drv') (.int .i64 rst') (.int .i64 fix') (.int .i64 pm') (.int .i64 pt')
 rw [show (w.alloc (.cells #[.string nm, .int .i64 cnt, .int .i64 fr, .int .i64 dt, .slice oa cap.length ca, .int .i64 sk, .int .i64 prof, .int .i64 opn, .int .i64 cls, .int .i64 drv, .int .i64 rst, .int .i64 fix, .int .i64 pm, .int .i64 pt] 56)).heap.size = w.heap.size + 1 by simp] at TB
 have B0 := over BA BB
 have CA := hA.below B0
 have CB := hB.below B0
 obtain ⟨W0, hW0⟩ : ∃ W0, (w.alloc (.cells #[.string nm, .int .i64 cnt, .int .i64 fr, .int .i64 dt, .slice oa cap.length ca, .int .i64 sk, .int .i64 prof, .int .i64 opn, .int .i64 cls, .int .i64 drv, .int .i64 rst, .int .i64 fix, .int .i64 pm, .int .i64 pt] 56)).alloc (.cells #[.string nm', .int .i64 cnt', .int .i64 fr', .int .i64 dt', .slice ob cap'.length cb, .int .i64 sk', .int .i64 prof', .int .i64 opn', .int .i64 cls', .int .i64 drv', .int .i64 rst', .int .i64 fix', .int .i64 pm', .int .i64 pt'] 56) = W0 := ⟨_, rfl⟩
 rw [hW0] at TA TB B0 CA CB
 have TA := Lib.hid TA
 have TB := Lib.hid TB
 have B0 := Lib.hid B0
 have CA := Lib.hid CA
 have CB := Lib.hid CB
 clear BA BB hA hB
 have c4 := TA.out.c4
 have d4 := TB.out.c4
 by_cases hl : cap.length = cap'.length
 ·generalize hn : cap.length = n at *
  generalize hn' : cap'.length = n' at *
  subst hl
  have HN := Lib.hid hn
  have HN' := Lib.hid hn'
  clear hn hn'
  have hne : ((n : Int) != (n : Int)) = false := by simp
  go_enter Tryz.func47, Tryz.ntmps47
  go_wp2_with fail
  clear hW0 c4 d4 hne
  go_loopg [5] n (fun g i wr => ∃ k : Nat, k ≤ n ∧ i = .int .i64 k ∧ n - k ≤ g ∧ Hid (∀ j, j < k → cap.getD j 0 = cap'.getD j 0) ∧ Hid (Below W0.heap.size W0 wr))
  case atStart => exact ⟨0, Nat.zero_le _, rfl, Nat.le_refl _, fun j hj => absurd hj (Nat.not_lt_zero _), Below.refl _ _⟩
  case round =>
   obtain ⟨k, hk, rfl, hg, HQ, HW⟩ := hrel
   have c4 := (TA.out.below HW.out).c4
   have d4 := (TB.out.below HW.out).c4
   by_cases hlt : k < n
   ·have hlt2 : k < n := by omega
    obtain ⟨oa', ca', hva, hca⟩ := CA.out.below HW.out
    simp only [Value.slice.injEq] at hva
    obtain ⟨rfl, -, rfl⟩ := hva
    obtain ⟨ob', cb', hvb, hcb⟩ := CB.out.below HW.out
    simp only [Value.slice.injEq] at hvb
    obtain ⟨rfl, -, rfl⟩ := hvb
    obtain ⟨a1, rfl, -, x1⟩ := hca k (by rw [HN.out]; exact hlt)
    obtain ⟨b1, rfl, -, y1⟩ := hcb k (by rw [HN'.out]; exact hlt)
    have hkI : (k : Int) < (n : Int) := by omega
    clear hca hcb
    by_cases he : cap.getD k 0 = cap'.getD k 0
    ·have HQ2 : Hid (∀ j, j < k + 1 → cap.getD j 0 = cap'.getD j 0) := fun j hj => by
      by_cases e : j = k
      ·subst e; exact he
      ·exact HQ.out j (by omega)
     rw [← he] at y1
     generalize cap.getD k 0 = x at x1 y1
     clear he HQ
     go_wp2_with fail
     go_quiet (fail)
     go_wp2_with fail
     go_roundg (n - (k + 1))
     case measure => omega
     case rel => exact ⟨k + 1, by omega, by go_num, by omega, HQ2, below_drewN HW.out _⟩
    ·have HR : Hid (false = r) := by
      show _ = _
      rw [← HE.out, show (cap == cap') = false from by rw [beq_eq_false_iff_ne]; intro h; exact he (by rw [h])]
      simp only [Bool.false_and]
     have hxy := ne_neI he
     generalize cap.getD k 0 = x at x1 hxy
     generalize cap'.getD k 0 = y at y1 hxy
     clear he HQ HE
     go_wp2_with fail
     go_quiet (fail)
     go_wp2_with fail
     go_ret
     exact ⟨ret_bool HR.out, over B0.out (below_drewN HW.out _)⟩
   ·have HC : Hid ((cap == cap') = true) := by
     show _ = _
     rw [beq_iff_eq]
     exact caps_eq (HN.out.trans HN'.out.symm) fun j hj => HQ.out j (by have := HN.out; omega)
    have hkI : ¬ (k : Int) < (n : Int) := by omega
    have c0 := (TA.out.below HW.out).c0
    have d0 := (TB.out.below HW.out).c0
    clear HQ CA CB
    have c1 := (TA.out.below HW.out).c1
    have d1 := (TB.out.below HW.out).c1
    have c2 := (TA.out.below HW.out).c2
    have d2 := (TB.out.below HW.out).c2
    have c3 := (TA.out.below HW.out).c3
    have d3 := (TB.out.below HW.out).c3
    have c5 := (TA.out.below HW.out).c5
    have d5 := (TB.out.below HW.out).c5
    have c6 := (TA.out.below HW.out).c6
    have d6 := (TB.out.below HW.out).c6
    have c7 := (TA.out.below HW.out).c7
    have d7 := (TB.out.below HW.out).c7
    have c8 := (TA.out.below HW.out).c8
    have d8 := (TB.out.below HW.out).c8
    have c9 := (TA.out.below HW.out).c9
    have d9 := (TB.out.below HW.out).c9
    have c10 := (TA.out.below HW.out).c10
    have d10 := (TB.out.below HW.out).c10
    have c11 := (TA.out.below HW.out).c11
    have d11 := (TB.out.below HW.out).c11
    have c12 := (TA.out.below HW.out).c12
    have d12 := (TB.out.below HW.out).c12
    have c13 := (TA.out.below HW.out).c13
    have d13 := (TB.out.below HW.out).c13
    clear TA TB
    have HF : Hid ((true && z0 && z1 && z2 && z3 && z4 && z5 && z6 && z7 && z8 && z9 && z10 && z11 && z12) = r) := by show _ = _; rw [← HE.out, HC.out, hz0, hz1, hz2, hz3, hz4, hz5, hz6, hz7, hz8, hz9, hz10, hz11, hz12]
    obtain ⟨q0, hq0⟩ : ∃ q, z0 = q := ⟨_, rfl⟩
    have HQ0 := Lib.hid hq0
    obtain ⟨q1, hq1⟩ : ∃ q, (q0 && z1) = q := ⟨_, rfl⟩
    have HQ1 := Lib.hid hq1
    obtain ⟨q2, hq2⟩ : ∃ q, (q1 && z2) = q := ⟨_, rfl⟩
    have HQ2 := Lib.hid hq2
    obtain ⟨q3, hq3⟩ : ∃ q, (q2 && z3) = q := ⟨_, rfl⟩
    have HQ3 := Lib.hid hq3
    obtain ⟨q4, hq4⟩ : ∃ q, (q3 && z4) = q := ⟨_, rfl⟩
    have HQ4 := Lib.hid hq4
    obtain ⟨q5, hq5⟩ : ∃ q, (q4 && z5) = q := ⟨_, rfl⟩
    have HQ5 := Lib.hid hq5
    obtain ⟨q6, hq6⟩ : ∃ q, (q5 && z6) = q := ⟨_, rfl⟩
    have HQ6 := Lib.hid hq6
    obtain ⟨q7, hq7⟩ : ∃ q, (q6 && z7) = q := ⟨_, rfl⟩
    have HQ7 := Lib.hid hq7
    obtain ⟨q8, hq8⟩ : ∃ q, (q7 && z8) = q := ⟨_, rfl⟩
    have HQ8 := Lib.hid hq8
    obtain ⟨q9, hq9⟩ : ∃ q, (q8 && z9) = q := ⟨_, rfl⟩
    have HQ9 := Lib.hid hq9
    obtain ⟨q10, hq10⟩ : ∃ q, (q9 && z10) = q := ⟨_, rfl⟩
    have HQ10 := Lib.hid hq10
    obtain ⟨q11, hq11⟩ : ∃ q, (q10 && z11) = q := ⟨_, rfl⟩
    have HQ11 := Lib.hid hq11
    obtain ⟨q12, hq12⟩ : ∃ q, (q11 && z12) = q := ⟨_, rfl⟩
    have HQ12 := Lib.hid hq12
    have HR : Hid (q12 = r) := by show _ = _; rw [← HF.out, Bool.true_and, HQ0.out, HQ1.out, HQ2.out, HQ3.out, HQ4.out, HQ5.out, HQ6.out, HQ7.out, HQ8.out, HQ9.out, HQ10.out, HQ11.out, HQ12.out]
    clear HF HE HC hq0 hq1 hq2 hq3 hq4 hq5 hq6 hq7 hq8 hq9 hq10 hq11 hq12
    go_upto_region 8 with fail
    refine wp_region_lit ?_
    refine wpList_val rfl (.pointer (some ⟨w.heap.size, 0, none⟩)) (fun K hK => by go_simp; exact hK) ?_
    simp only [Act.put, List.setIfInBounds_toArray, List.set_cons_zero, List.set_cons_succ]
    refine wpList_val rfl (.string nm) (fun K hK => by go_simp; exact hK) ?_
    simp only [Act.put, List.setIfInBounds_toArray, List.set_cons_zero, List.set_cons_succ]
    refine wpList_val rfl (.pointer (some ⟨w.heap.size + 1, 0, none⟩)) (fun K hK => by go_simp; exact hK) ?_
    simp only [Act.put, List.setIfInBounds_toArray, List.set_cons_zero, List.set_cons_succ]
    refine wpList_val rfl (.string nm') (fun K hK => by go_simp; exact hK) ?_
    simp only [Act.put, List.setIfInBounds_toArray, List.set_cons_zero, List.set_cons_succ]
    refine wpList_val rfl (.bool z0) (fun K hK => by go_simp; exact hK) ?_
    simp only [Act.put, List.setIfInBounds_toArray, List.set_cons_zero, List.set_cons_succ]
    refine wpList_val rfl (.bool q0) (fun K hK => by have h := HQ0.out; subst h; go_simp; exact hK) ?_
    simp only [Act.put, List.setIfInBounds_toArray, List.set_cons_zero, List.set_cons_succ]
    refine wpList_sym q0 (.pointer (some ⟨w.heap.size, 1, none⟩)) (by cases q0 <;> rfl) (fun hc K hK => by subst hc; (try simp only [cond_true]); go_simp; exact hK) ?_
    simp only [Act.put, List.setIfInBounds_toArray, List.set_cons_zero, List.set_cons_succ]
    refine wpList_sym q0 (.int .i64 cnt) (by cases q0 <;> rfl) (fun hc K hK => by subst hc; (try simp only [cond_true]); go_simp; exact hK) ?_
    simp only [Act.put, List.setIfInBounds_toArray, List.set_cons_zero, List.set_cons_succ]
    refine wpList_sym q0 (.pointer (some ⟨w.heap.size + 1, 1, none⟩)) (by cases q0 <;> rfl) (fun hc K hK => by subst hc; (try simp only [cond_true]); go_simp; exact hK) ?_
    simp only [Act.put, List.setIfInBounds_toArray, List.set_cons_zero, List.set_cons_succ]
    refine wpList_sym q0 (.int .i64 cnt') (by cases q0 <;> rfl) (fun hc K hK => by subst hc; (try simp only [cond_true]); go_simp; exact hK) ?_
    simp only [Act.put, List.setIfInBounds_toArray, List.set_cons_zero, List.set_cons_succ]
    refine wpList_sym q0 (.bool z1) (by cases q0 <;> rfl) (fun hc K hK => by subst hc; (try simp only [cond_true]); go_simp; exact hK) ?_
    simp only [Act.put, List.setIfInBounds_toArray, List.set_cons_zero, List.set_cons_succ]
    refine wpList_val rfl (.bool q1) (fun K hK => by have h := HQ1.out; subst h; cases q0 <;> simp only [cond_true, cond_false, Bool.true_and, Bool.false_and] at hK ⊢ <;> go_simp <;> exact hK) ?_
    simp only [Act.put, List.setIfInBounds_toArray, List.set_cons_zero, List.set_cons_succ]
    refine wpList_val rfl (.bool q1) (fun K hK => by go_simp; exact hK) ?_
    simp only [Act.put, List.setIfInBounds_toArray, List.set_cons_zero, List.set_cons_succ]
    refine wpList_sym q1 (.pointer (some ⟨w.heap.size, 2, none⟩)) (by cases q1 <;> rfl) (fun hc K hK => by subst hc; (try simp only [cond_true]); go_simp; exact hK) ?_
    simp only [Act.put, List.setIfInBounds_toArray, List.set_cons_zero, List.set_cons_succ]
    refine wpList_sym q1 (.int .i64 fr) (by cases q1 <;> rfl) (fun hc K hK => by subst hc; (try simp only [cond_true]); go_simp; exact hK) ?_
    simp only [Act.put, List.setIfInBounds_toArray, List.set_cons_zero, List.set_cons_succ]
    refine wpList_sym q1 (.pointer (some ⟨w.heap.size + 1, 2, none⟩)) (by cases q1 <;> rfl) (fun hc K hK => by subst hc; (try simp only [cond_true]); go_simp; exact hK) ?_
    simp only [Act.put, List.setIfInBounds_toArray, List.set_cons_zero, List.set_cons_succ]
    refine wpList_sym q1 (.int .i64 fr') (by cases q1 <;> rfl) (fun hc K hK => by subst hc; (try simp only [cond_true]); go_simp; exact hK) ?_
    simp only [Act.put, List.setIfInBounds_toArray, List.set_cons_zero, List.set_cons_succ]
    refine wpList_sym q1 (.bool z2) (by cases q1 <;> rfl) (fun hc K hK => by subst hc; (try simp only [cond_true]); go_simp; exact hK) ?_
    simp only [Act.put, List.setIfInBounds_toArray, List.set_cons_zero, List.set_cons_succ]
    refine wpList_val rfl (.bool q2) (fun K hK => by have h := HQ2.out; subst h; cases q1 <;> simp only [cond_true, cond_false, Bool.true_and, Bool.false_and] at hK ⊢ <;> go_simp <;> exact hK) ?_
    simp only [Act.put, List.setIfInBounds_toArray, List.set_cons_zero, List.set_cons_succ]
    refine wpList_val rfl (.bool q2) (fun K hK => by go_simp; exact hK) ?_
    simp only [Act.put, List.setIfInBounds_toArray, List.set_cons_zero, List.set_cons_succ]
    refine wpList_sym q2 (.pointer (some ⟨w.heap.size, 3, none⟩)) (by cases q2 <;> rfl) (fun hc K hK => by subst hc; (try simp only [cond_true]); go_simp; exact hK) ?_
    simp only [Act.put, List.setIfInBounds_toArray, List.set_cons_zero, List.set_cons_succ]
    refine wpList_sym q2 (.int .i64 dt) (by cases q2 <;> rfl) (fun hc K hK => by subst hc; (try simp only [cond_true]); go_simp; exact hK) ?_
    simp only [Act.put, List.setIfInBounds_toArray, List.set_cons_zero, List.set_cons_succ]
    refine wpList_sym q2 (.pointer (some ⟨w.heap.size + 1, 3, none⟩)) (by cases q2 <;> rfl) (fun hc K hK => by subst hc; (try simp only [cond_true]); go_simp; exact hK) ?_
    simp only [Act.put, List.setIfInBounds_toArray, List.set_cons_zero, List.set_cons_succ]
    refine wpList_sym q2 (.int .i64 dt') (by cases q2 <;> rfl) (fun hc K hK => by subst hc; (try simp only [cond_true]); go_simp; exact hK) ?_
    simp only [Act.put, List.setIfInBounds_toArray, List.set_cons_zero, List.set_cons_succ]
    refine wpList_sym q2 (.bool z3) (by cases q2 <;> rfl) (fun hc K hK => by subst hc; (try simp only [cond_true]); go_simp; exact hK) ?_
    simp only [Act.put, List.setIfInBounds_toArray, List.set_cons_zero, List.set_cons_succ]
    refine wpList_val rfl (.bool q3) (fun K hK => by have h := HQ3.out; subst h; cases q2 <;> simp only [cond_true, cond_false, Bool.true_and, Bool.false_and] at hK ⊢ <;> go_simp <;> exact hK) ?_
    simp only [Act.put, List.setIfInBounds_toArray, List.set_cons_zero, List.set_cons_succ]
    refine wpList_val rfl (.bool q3) (fun K hK => by go_simp; exact hK) ?_
    simp only [Act.put, List.setIfInBounds_toArray, List.set_cons_zero, List.set_cons_succ]
    refine wpList_sym q3 (.pointer (some ⟨w.heap.size, 5, none⟩)) (by cases q3 <;> rfl) (fun hc K hK => by subst hc; (try simp only [cond_true]); go_simp; exact hK) ?_
    simp only [Act.put, List.setIfInBounds_toArray, List.set_cons_zero, List.set_cons_succ]
    refine wpList_sym q3 (.int .i64 sk) (by cases q3 <;> rfl) (fun hc K hK => by subst hc; (try simp only [cond_true]); go_simp; exact hK) ?_
    simp only [Act.put, List.setIfInBounds_toArray, List.set_cons_zero, List.set_cons_succ]
    refine wpList_sym q3 (.pointer (some ⟨w.heap.size + 1, 5, none⟩)) (by cases q3 <;> rfl) (fun hc K hK => by subst hc; (try simp only [cond_true]); go_simp; exact hK) ?_
    simp only [Act.put, List.setIfInBounds_toArray, List.set_cons_zero, List.set_cons_succ]
    refine wpList_sym q3 (.int .i64 sk') (by cases q3 <;> rfl) (fun hc K hK => by subst hc; (try simp only [cond_true]); go_simp; exact hK) ?_
    simp only [Act.put, List.setIfInBounds_toArray, List.set_cons_zero, List.set_cons_succ]
    refine wpList_sym q3 (.bool z4) (by cases q3 <;> rfl) (fun hc K hK => by subst hc; (try simp only [cond_true]); go_simp; exact hK) ?_
    simp only [Act.put, List.setIfInBounds_toArray, List.set_cons_zero, List.set_cons_succ]
    refine wpList_val rfl (.bool q4) (fun K hK => by have h := HQ4.out; subst h; cases q3 <;> simp only [cond_true, cond_false, Bool.true_and, Bool.false_and] at hK ⊢ <;> go_simp <;> exact hK) ?_
    simp only [Act.put, List.setIfInBounds_toArray, List.set_cons_zero, List.set_cons_succ]
    refine wpList_val rfl (.bool q4) (fun K hK => by go_simp; exact hK) ?_
    simp only [Act.put, List.setIfInBounds_toArray, List.set_cons_zero, List.set_cons_succ]
    refine wpList_sym q4 (.pointer (some ⟨w.heap.size, 6, none⟩)) (by cases q4 <;> rfl) (fun hc K hK => by subst hc; (try simp only [cond_true]); go_simp; exact hK) ?_
    simp only [Act.put, List.setIfInBounds_toArray, List.set_cons_zero, List.set_cons_succ]
    refine wpList_sym q4 (.int .i64 prof) (by cases q4 <;> rfl) (fun hc K hK => by subst hc; (try simp only [cond_true]); go_simp; exact hK) ?_
    simp only [Act.put, List.setIfInBounds_toArray, List.set_cons_zero, List.set_cons_succ]
    refine wpList_sym q4 (.pointer (some ⟨w.heap.size + 1, 6, none⟩)) (by cases q4 <;> rfl) (fun hc K hK => by subst hc; (try simp only [cond_true]); go_simp; exact hK) ?_
    simp only [Act.put, List.setIfInBounds_toArray, List.set_cons_zero, List.set_cons_succ]
    refine wpList_sym q4 (.int .i64 prof') (by cases q4 <;> rfl) (fun hc K hK => by subst hc; (try simp only [cond_true]); go_simp; exact hK) ?_
    simp only [Act.put, List.setIfInBounds_toArray, List.set_cons_zero, List.set_cons_succ]
    refine wpList_sym q4 (.bool z5) (by cases q4 <;> rfl) (fun hc K hK => by subst hc; (try simp only [cond_true]); go_simp; exact hK) ?_
    simp only [Act.put, List.setIfInBounds_toArray, List.set_cons_zero, List.set_cons_succ]
    refine wpList_val rfl (.bool q5) (fun K hK => by have h := HQ5.out; subst h; cases q4 <;> simp only [cond_true, cond_false, Bool.true_and, Bool.false_and] at hK ⊢ <;> go_simp <;> exact hK) ?_
    simp only [Act.put, List.setIfInBounds_toArray, List.set_cons_zero, List.set_cons_succ]
    refine wpList_val rfl (.bool q5) (fun K hK => by go_simp; exact hK) ?_
    simp only [Act.put, List.setIfInBounds_toArray, List.set_cons_zero, List.set_cons_succ]
    refine wpList_sym q5 (.pointer (some ⟨w.heap.size, 7, none⟩)) (by cases q5 <;> rfl) (fun hc K hK => by subst hc; (try simp only [cond_true]); go_simp; exact hK) ?_
    simp only [Act.put, List.setIfInBounds_toArray, List.set_cons_zero, List.set_cons_succ]
    refine wpList_sym q5 (.int .i64 opn) (by cases q5 <;> rfl) (fun hc K hK => by subst hc; (try simp only [cond_true]); go_simp; exact hK) ?_
    simp only [Act.put, List.setIfInBounds_toArray, List.set_cons_zero, List.set_cons_succ]
    refine wpList_sym q5 (.pointer (some ⟨w.heap.size + 1, 7, none⟩)) (by cases q5 <;> rfl) (fun hc K hK => by subst hc; (try simp only [cond_true]); go_simp; exact hK) ?_
    simp only [Act.put, List.setIfInBounds_toArray, List.set_cons_zero, List.set_cons_succ]
    refine wpList_sym q5 (.int .i64 opn') (by cases q5 <;> rfl) (fun hc K hK => by subst hc; (try simp only [cond_true]); go_simp; exact hK) ?_
    simp only [Act.put, List.setIfInBounds_toArray, List.set_cons_zero, List.set_cons_succ]
    refine wpList_sym q5 (.bool z6) (by cases q5 <;> rfl) (fun hc K hK => by subst hc; (try simp only [cond_true]); go_simp; exact hK) ?_
    simp only [Act.put, List.setIfInBounds_toArray, List.set_cons_zero, List.set_cons_succ]
    refine wpList_val rfl (.bool q6) (fun K hK => by have h := HQ6.out; subst h; cases q5 <;> simp only [cond_true, cond_false, Bool.true_and, Bool.false_and] at hK ⊢ <;> go_simp <;> exact hK) ?_
    simp only [Act.put, List.setIfInBounds_toArray, List.set_cons_zero, List.set_cons_succ]
    refine wpList_val rfl (.bool q6) (fun K hK => by go_simp; exact hK) ?_
    simp only [Act.put, List.setIfInBounds_toArray, List.set_cons_zero, List.set_cons_succ]
    refine wpList_sym q6 (.pointer (some ⟨w.heap.size, 8, none⟩)) (by cases q6 <;> rfl) (fun hc K hK => by subst hc; (try simp only [cond_true]); go_simp; exact hK) ?_
    simp only [Act.put, List.setIfInBounds_toArray, List.set_cons_zero, List.set_cons_succ]
    refine wpList_sym q6 (.int .i64 cls) (by cases q6 <;> rfl) (fun hc K hK => by subst hc; (try simp only [cond_true]); go_simp; exact hK) ?_
    simp only [Act.put, List.setIfInBounds_toArray, List.set_cons_zero, List.set_cons_succ]
    refine wpList_sym q6 (.pointer (some ⟨w.heap.size + 1, 8, none⟩)) (by cases q6 <;> rfl) (fun hc K hK => by subst hc; (try simp only [cond_true]); go_simp; exact hK) ?_
    simp only [Act.put, List.setIfInBounds_toArray, List.set_cons_zero, List.set_cons_succ]
    refine wpList_sym q6 (.int .i64 cls') (by cases q6 <;> rfl) (fun hc K hK => by subst hc; (try simp only [cond_true]); go_simp; exact hK) ?_
    simp only [Act.put, List.setIfInBounds_toArray, List.set_cons_zero, List.set_cons_succ]
    refine wpList_sym q6 (.bool z7) (by cases q6 <;> rfl) (fun hc K hK => by subst hc; (try simp only [cond_true]); go_simp; exact hK) ?_
    simp only [Act.put, List.setIfInBounds_toArray, List.set_cons_zero, List.set_cons_succ]
    refine wpList_val rfl (.bool q7) (fun K hK => by have h := HQ7.out; subst h; cases q6 <;> simp only [cond_true, cond_false, Bool.true_and, Bool.false_and] at hK ⊢ <;> go_simp <;> exact hK) ?_
    simp only [Act.put, List.setIfInBounds_toArray, List.set_cons_zero, List.set_cons_succ]
    refine wpList_val rfl (.bool q7) (fun K hK => by go_simp; exact hK) ?_
    simp only [Act.put, List.setIfInBounds_toArray, List.set_cons_zero, List.set_cons_succ]
    refine wpList_sym q7 (.pointer (some ⟨w.heap.size, 9, none⟩)) (by cases q7 <;> rfl) (fun hc K hK => by subst hc; (try simp only [cond_true]); go_simp; exact hK) ?_
    simp only [Act.put, List.setIfInBounds_toArray, List.set_cons_zero, List.set_cons_succ]
    refine wpList_sym q7 (.int .i64 drv) (by cases q7 <;> rfl) (fun hc K hK => by subst hc; (try simp only [cond_true]); go_simp; exact hK) ?_
    simp only [Act.put, List.setIfInBounds_toArray, List.set_cons_zero, List.set_cons_succ]
    refine wpList_sym q7 (.pointer (some ⟨w.heap.size + 1, 9, none⟩)) (by cases q7 <;> rfl) (fun hc K hK => by subst hc; (try simp only [cond_true]); go_simp; exact hK) ?_
    simp only [Act.put, List.setIfInBounds_toArray, List.set_cons_zero, List.set_cons_succ]
    refine wpList_sym q7 (.int .i64 drv') (by cases q7 <;> rfl) (fun hc K hK => by subst hc; (try simp only [cond_true]); go_simp; exact hK) ?_
    simp only [Act.put, List.setIfInBounds_toArray, List.set_cons_zero, List.set_cons_succ]
    refine wpList_sym q7 (.bool z8) (by cases q7 <;> rfl) (fun hc K hK => by subst hc; (try simp only [cond_true]); go_simp; exact hK) ?_
    simp only [Act.put, List.setIfInBounds_toArray, List.set_cons_zero, List.set_cons_succ]
    refine wpList_val rfl (.bool q8) (fun K hK => by have h := HQ8.out; subst h; cases q7 <;> simp only [cond_true, cond_false, Bool.true_and, Bool.false_and] at hK ⊢ <;> go_simp <;> exact hK) ?_
    simp only [Act.put, List.setIfInBounds_toArray, List.set_cons_zero, List.set_cons_succ]
    refine wpList_val rfl (.bool q8) (fun K hK => by go_simp; exact hK) ?_
    simp only [Act.put, List.setIfInBounds_toArray, List.set_cons_zero, List.set_cons_succ]
    refine wpList_sym q8 (.pointer (some ⟨w.heap.size, 10, none⟩)) (by cases q8 <;> rfl) (fun hc K hK => by subst hc; (try simp only [cond_true]); go_simp; exact hK) ?_
    simp only [Act.put, List.setIfInBounds_toArray, List.set_cons_zero, List.set_cons_succ]
    refine wpList_sym q8 (.int .i64 rst) (by cases q8 <;> rfl) (fun hc K hK => by subst hc; (try simp only [cond_true]); go_simp; exact hK) ?_
    simp only [Act.put, List.setIfInBounds_toArray, List.set_cons_zero, List.set_cons_succ]
    refine wpList_sym q8 (.pointer (some ⟨w.heap.size + 1, 10, none⟩)) (by cases q8 <;> rfl) (fun hc K hK => by subst hc; (try simp only [cond_true]); go_simp; exact hK) ?_
    simp only [Act.put, List.setIfInBounds_toArray, List.set_cons_zero, List.set_cons_succ]
    refine wpList_sym q8 (.int .i64 rst') (by cases q8 <;> rfl) (fun hc K hK => by subst hc; (try simp only [cond_true]); go_simp; exact hK) ?_
    simp only [Act.put, List.setIfInBounds_toArray, List.set_cons_zero, List.set_cons_succ]
    refine wpList_sym q8 (.bool z9) (by cases q8 <;> rfl) (fun hc K hK => by subst hc; (try simp only [cond_true]); go_simp; exact hK) ?_
    simp only [Act.put, List.setIfInBounds_toArray, List.set_cons_zero, List.set_cons_succ]
    refine wpList_val rfl (.bool q9) (fun K hK => by have h := HQ9.out; subst h; cases q8 <;> simp only [cond_true, cond_false, Bool.true_and, Bool.false_and] at hK ⊢ <;> go_simp <;> exact hK) ?_
    simp only [Act.put, List.setIfInBounds_toArray, List.set_cons_zero, List.set_cons_succ]
    refine wpList_val rfl (.bool q9) (fun K hK => by go_simp; exact hK) ?_
    simp only [Act.put, List.setIfInBounds_toArray, List.set_cons_zero, List.set_cons_succ]
    refine wpList_sym q9 (.pointer (some ⟨w.heap.size, 11, none⟩)) (by cases q9 <;> rfl) (fun hc K hK => by subst hc; (try simp only [cond_true]); go_simp; exact hK) ?_
    simp only [Act.put, List.setIfInBounds_toArray, List.set_cons_zero, List.set_cons_succ]
    refine wpList_sym q9 (.int .i64 fix) (by cases q9 <;> rfl) (fun hc K hK => by subst hc; (try simp only [cond_true]); go_simp; exact hK) ?_
    simp only [Act.put, List.setIfInBounds_toArray, List.set_cons_zero, List.set_cons_succ]
    refine wpList_sym q9 (.pointer (some ⟨w.heap.size + 1, 11, none⟩)) (by cases q9 <;> rfl) (fun hc K hK => by subst hc; (try simp only [cond_true]); go_simp; exact hK) ?_
    simp only [Act.put, List.setIfInBounds_toArray, List.set_cons_zero, List.set_cons_succ]
    refine wpList_sym q9 (.int .i64 fix') (by cases q9 <;> rfl) (fun hc K hK => by subst hc; (try simp only [cond_true]); go_simp; exact hK) ?_
    simp only [Act.put, List.setIfInBounds_toArray, List.set_cons_zero, List.set_cons_succ]
    refine wpList_sym q9 (.bool z10) (by cases q9 <;> rfl) (fun hc K hK => by subst hc; (try simp only [cond_true]); go_simp; exact hK) ?_
    simp only [Act.put, List.setIfInBounds_toArray, List.set_cons_zero, List.set_cons_succ]
    refine wpList_val rfl (.bool q10) (fun K hK => by have h := HQ10.out; subst h; cases q9 <;> simp only [cond_true, cond_false, Bool.true_and, Bool.false_and] at hK ⊢ <;> go_simp <;> exact hK) ?_
    simp only [Act.put, List.setIfInBounds_toArray, List.set_cons_zero, List.set_cons_succ]
    refine wpList_val rfl (.bool q10) (fun K hK => by go_simp; exact hK) ?_
    simp only [Act.put, List.setIfInBounds_toArray, List.set_cons_zero, List.set_cons_succ]
    refine wpList_sym q10 (.pointer (some ⟨w.heap.size, 12, none⟩)) (by cases q10 <;> rfl) (fun hc K hK => by subst hc; (try simp only [cond_true]); go_simp; exact hK) ?_
    simp only [Act.put, List.setIfInBounds_toArray, List.set_cons_zero, List.set_cons_succ]
    refine wpList_sym q10 (.int .i64 pm) (by cases q10 <;> rfl) (fun hc K hK => by subst hc; (try simp only [cond_true]); go_simp; exact hK) ?_
    simp only [Act.put, List.setIfInBounds_toArray, List.set_cons_zero, List.set_cons_succ]
    refine wpList_sym q10 (.pointer (some ⟨w.heap.size + 1, 12, none⟩)) (by cases q10 <;> rfl) (fun hc K hK => by subst hc; (try simp only [cond_true]); go_simp; exact hK) ?_
    simp only [Act.put, List.setIfInBounds_toArray, List.set_cons_zero, List.set_cons_succ]
    refine wpList_sym q10 (.int .i64 pm') (by cases q10 <;> rfl) (fun hc K hK => by subst hc; (try simp only [cond_true]); go_simp; exact hK) ?_
    simp only [Act.put, List.setIfInBounds_toArray, List.set_cons_zero, List.set_cons_succ]
    refine wpList_sym q10 (.bool z11) (by cases q10 <;> rfl) (fun hc K hK => by subst hc; (try simp only [cond_true]); go_simp; exact hK) ?_
    simp only [Act.put, List.setIfInBounds_toArray, List.set_cons_zero, List.set_cons_succ]
    refine wpList_val rfl (.bool q11) (fun K hK => by have h := HQ11.out; subst h; cases q10 <;> simp only [cond_true, cond_false, Bool.true_and, Bool.false_and] at hK ⊢ <;> go_simp <;> exact hK) ?_
    simp only [Act.put, List.setIfInBounds_toArray, List.set_cons_zero, List.set_cons_succ]
    refine wpList_val rfl (.bool q11) (fun K hK => by go_simp; exact hK) ?_
    simp only [Act.put, List.setIfInBounds_toArray, List.set_cons_zero, List.set_cons_succ]
    refine wpList_sym q11 (.pointer (some ⟨w.heap.size, 13, none⟩)) (by cases q11 <;> rfl) (fun hc K hK => by subst hc; (try simp only [cond_true]); go_simp; exact hK) ?_
    simp only [Act.put, List.setIfInBounds_toArray, List.set_cons_zero, List.set_cons_succ]
    refine wpList_sym q11 (.int .i64 pt) (by cases q11 <;> rfl) (fun hc K hK => by subst hc; (try simp only [cond_true]); go_simp; exact hK) ?_
    simp only [Act.put, List.setIfInBounds_toArray, List.set_cons_zero, List.set_cons_succ]
    refine wpList_sym q11 (.pointer (some ⟨w.heap.size + 1, 13, none⟩)) (by cases q11 <;> rfl) (fun hc K hK => by subst hc; (try simp only [cond_true]); go_simp; exact hK) ?_
    simp only [Act.put, List.setIfInBounds_toArray, List.set_cons_zero, List.set_cons_succ]
    refine wpList_sym q11 (.int .i64 pt') (by cases q11 <;> rfl) (fun hc K hK => by subst hc; (try simp only [cond_true]); go_simp; exact hK) ?_
    simp only [Act.put, List.setIfInBounds_toArray, List.set_cons_zero, List.set_cons_succ]
    refine wpList_sym q11 (.bool z12) (by cases q11 <;> rfl) (fun hc K hK => by subst hc; (try simp only [cond_true]); go_simp; exact hK) ?_
    simp only [Act.put, List.setIfInBounds_toArray, List.set_cons_zero, List.set_cons_succ]
    refine wpList_val rfl (.bool q12) (fun K hK => by have h := HQ12.out; subst h; cases q11 <;> simp only [cond_true, cond_false, Bool.true_and, Bool.false_and] at hK ⊢ <;> go_simp <;> exact hK) ?_
    simp only [Act.put, List.setIfInBounds_toArray, List.set_cons_zero, List.set_cons_succ]
    refine wpList_val rfl (.bool q12) (fun K hK => by go_simp; exact hK) ?_
    simp only [Act.put, List.setIfInBounds_toArray, List.set_cons_zero, List.set_cons_succ]
    refine wpList_nil ?_
    repeat (first | go_step | go_upon)
    go_ret
    exact ⟨ret_bool HR.out, over B0.out HW.out⟩
 ·have hne : ((cap.length : Int) != (cap'.length : Int)) = true := ne_neN hl
  have HR : Hid (false = r) := by
   show _ = _
   rw [← HE.out, show (cap == cap') = false from by rw [beq_eq_false_iff_ne]; intro h; exact hl (by rw [h])]
   simp only [Bool.false_and]
  clear HE
  go_enter Tryz.func47, Tryz.ntmps47
  go_wp2_with fail
  go_ret
  exact ⟨ret_bool HR.out, B0.out⟩
end Go.Proofs.YtaallpebfcadjaaGreatDoor.T

