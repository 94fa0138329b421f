/-
 DERIVED. KWG: a part of the base of layer 13 (made by pack.py).
-/
import Derived.Test.YtaallpebfcadjaaGreatDoorKPR
import Derived.Test.YtaallpebfcadjaaGreatDoorKWF
/-! The walk of the specification's Same (written by gen_reford5.py). -/
namespace Go.Proofs.YtaallpebfcadjaaGreatDoor.T
open Go.RowKit
set_option maxRecDepth 8000
theorem wpList_one {P : Program} {ops : Array Oper} {Q : Exit → Act → World → Prop} {rest : List Oper} {o : Oper} {a : Act} {w : World} (hg : Region.wanted o (yielded ops a.tmps) = true) (v : Value)
  (hop : ∀ K : Act → World → Prop, K (a.put o.dst v) w → Oper.wp P o a w K Q) (h : wpList P ops Q rest (a.put o.dst v) w) : wpList P ops Q (o :: rest) a w := by
 refine wpList_step fun K hK => ?_
 rw [if_pos hg]
 exact hop K (hK _ _ h)
set_option maxHeartbeats 6400000 in
theorem refSameO_n (a b : OrT) (oa ob : Option Addr) (ca cb : Nat) (ha9 : a.load.length ≤ 9223372036854775807) (hb9 : b.load.length ≤ 9223372036854775807) (w : World) (hA : L.Li w (.slice oa a.load.length ca) a.load) (hB : L.Li w (.slice ob b.load.length cb) b.load) :
  Calls Tryz.prog 48 #[orV a (.slice oa a.load.length ca), orV b (.slice ob b.load.length cb)] w fun e w' => e = .returned (.bool (sameO a b)) ∧ Below w.heap.size w w' := by
 obtain ⟨nm, load, pp, po, pc, ps, dp, dd, dc, ds, sk, pen, spl, las, now, off⟩ := a
 obtain ⟨nm', load', pp', po', pc', ps', dp', dd', dc', ds', sk', pen', spl', las', now', off'⟩ := b
 unfold orV
 simp only at hA hB ha9 hb9 ⊢
 have HE : Hid (((nm.toList == nm'.toList) && (load == load') && (pp == pp' && (po == po' && (pc == pc' && ps == ps'))) && (dp == dp' && (dd == dd' && (dc == dc' && ds == ds'))) && (sk == sk') && (pen == pen') && (spl == spl') && (las == las') && (now == now') && (off == off')) = sameO ⟨nm, load, pp, po, pc, ps, dp, dd, dc, ds, sk, pen, spl, las, now, off⟩ ⟨nm', load', pp', po', pc', ps', dp', dd', dc', ds', sk', pen', spl', las', now', off'⟩) := rfl
 generalize sameO ⟨nm, load, pp, po, pc, ps, dp, dd, dc, ds, sk, pen, spl, las, now, off⟩ ⟨nm', load', pp', po', pc', ps', dp', dd', dc', ds', sk', pen', spl', las', now', off'⟩ = r at *
 have KS := Lib.hid (fun w hu hv => refSameI_n (.slice oa load.length ca) (.slice ob load'.length cb) load load' ha9 hb9 w hu hv)
 have qS1 := eqlStop pp po pc ps pp' po' pc' ps'
 have qS2 := eqlStop dp dd dc ds dp' dd' dc' ds'
 have hgm : Tryz.prog.eqGuardType Tryz.prog.depth 42 = false := by kernel_rfl
 obtain ⟨z0, hz0⟩ : ∃ z, (nm.toList == nm'.toList) = z := ⟨_, rfl⟩
 obtain ⟨z1, hz1⟩ : ∃ z, (load == load') = z := ⟨_, rfl⟩
 obtain ⟨z2, hz2⟩ : ∃ z, (pp == pp' && (po == po' && (pc == pc' && ps == ps'))) = z := ⟨_, rfl⟩
 obtain ⟨z3, hz3⟩ : ∃ z, (dp == dp' && (dd == dd' && (dc == dc' && ds == ds'))) = z := ⟨_, rfl⟩
 obtain ⟨z4, hz4⟩ : ∃ z, (sk == sk') = z := ⟨_, rfl⟩
 obtain ⟨z5, hz5⟩ : ∃ z, (pen == pen') = z := ⟨_, rfl⟩
 obtain ⟨z6, hz6⟩ : ∃ z, (spl == spl') = z := ⟨_, rfl⟩
 obtain ⟨z7, hz7⟩ : ∃ z, (las == las') = z := ⟨_, rfl⟩
 obtain ⟨z8, hz8⟩ : ∃ z, (now == now') = z := ⟨_, rfl⟩
 obtain ⟨z9, hz9⟩ : ∃ z, (off == off') = z := ⟨_, rfl⟩
 rw [hz0, hz1, hz2, hz3, hz4, hz5, hz6, hz7, hz8, hz9] at HE
 rw [hz1] at KS
 rw [hz2] at qS1
 rw [hz3] at qS2
 clear hz1 hz2 hz3
 have BA := below_alloc w (.cells #[.string nm, .slice oa load.length ca, .int .i64 pp, .int .i64 po, .int .i64 pc, .int .i64 ps, .int .i64 dp, .int .i64 dd, .int .i64 dc, .int .i64 ds, .int .i64 sk, .int .i64 pen, .int .i64 spl, .int .i64 las, .int .i64 now, .bool off] 44)
 have BB := below_alloc (w.alloc (.cells #[.string nm, .slice oa load.length ca, .int .i64 pp, .int .i64 po, .int .i64 pc, .int .i64 ps, .int .i64 dp, .int .i64 dd, .int .i64 dc, .int .i64 ds, .int .i64 sk, .int .i64 pen, .int .i64 spl, .int .i64 las, .int .i64 now, .bool off] 44)) (.cells #[.string nm', .slice ob load'.length cb, .int .i64 pp', .int .i64 po', .int .i64 pc', .int .i64 ps', .int .i64 dp', .int .i64 dd', .int .i64 dc', .int .i64 ds', .int .i64 sk', .int .i64 pen', .int .i64 spl', .int .i64 las', .int .i64 now', .bool off'] 44)
 have OAh := (Ob.made w (.string nm) (.slice oa load.length ca) (.int .i64 pp) (.int .i64 po) (.int .i64 pc) (.int .i64 ps) (.int .i64 dp) (.int .i64 dd) (.int .i64 dc) (.int .i64 ds) (.int .i64 sk) (.int .i64 pen) (.int .i64 spl) (.int .i64 las) (.int .i64 now) (.bool off)).below BB
 have OBh := Ob.made (w.alloc (.cells #[.string nm, .slice oa load.length ca, .int .i64 pp, .int .i64 po, .int .i64 pc, .int .i64 ps, .int .i64 dp, .int .i64 dd, .int .i64 dc, .int .i64 ds, .int .i64 sk, .int .i64 pen, .int .i64 spl, .int .i64 las, .int .i64 now, .bool off] 44)) (.string nm') (.slice ob load'.length cb) (.int .i64 pp') (.int .i64 po') (.int .i64 pc') (.int .i64 ps') (.int .i64 dp') (.int .i64 dd') (.int .i64 dc') (.int .i64 ds') (.int .i64 sk') (.int .i64 pen') (.int .i64 spl') (.int .i64 las') (.int .i64 now') (.bool off')
 rw [show (w.alloc (.cells #[.string nm, .slice oa load.length ca, .int .i64 pp, .int .i64 po, .int .i64 pc, .int .i64 ps, .int .i64 dp, .int .i64 dd, .int .i64 dc, .int .i64 ds, .int .i64 sk, .int .i64 pen, .int .i64 spl, .int .i64 las, .int .i64 now, .bool off] 44)).heap.size = w.heap.size + 1 by simp] at OBh
 have B0 := over BA BB
 have CA := hA.below B0
 have CB := hB.below B0
 obtain ⟨W0, hW0⟩ : ∃ W0, (w.alloc (.cells #[.string nm, .slice oa load.length ca, .int .i64 pp, .int .i64 po, .int .i64 pc, .int .i64 ps, .int .i64 dp, .int .i64 dd, .int .i64 dc, .int .i64 ds, .int .i64 sk, .int .i64 pen, .int .i64 spl, .int .i64 las, .int .i64 now, .bool off] 44)).alloc (.cells #[.string nm', .slice ob load'.length cb, .int .i64 pp', .int .i64 po', .int .i64 pc', .int .i64 ps', .int .i64 dp', .int .i64 dd', .int .i64 dc', .int .i64 ds', .int .i64 sk', .int .i64 pen', .int .i64 spl', .int .i64 las', .int .i64 now', .bool off'] 44) = W0 := ⟨_, rfl⟩
 rw [hW0] at OAh OBh B0 CA CB
 have OAh := Lib.hid OAh
 have OBh := Lib.hid OBh
 have B0 := Lib.hid B0
 have CA := Lib.hid CA
 have CB := Lib.hid CB
 clear BA BB hA hB ha9 hb9
 have c0 := OAh.out.c0
 have d0 := OBh.out.c0
 have c1 := OAh.out.c1
 have d1 := OBh.out.c1
 go_enter Tryz.func48, Tryz.ntmps48
 go_upto_region 1 with fail
 clear hW0
 refine wp_region_lit ?_
 cases z0
 ·have HR : Hid (false = r) := by show _ = _; rw [← HE.out]; simp only [Bool.false_and]
  clear HE KS
  refine wpList_val rfl (.pointer (some ⟨w.heap.size, 0, none⟩)) (fun K hK => by go_simp; exact hK) ?_
  simp only [Act.put, List.setIfInBounds_toArray, List.set_cons_zero, List.set_cons_succ]
  refine wpList_val rfl (.string nm) (fun K hK => by go_simp; exact hK) ?_
  simp only [Act.put, List.setIfInBounds_toArray, List.set_cons_zero, List.set_cons_succ]
  refine wpList_val rfl (.pointer (some ⟨w.heap.size + 1, 0, none⟩)) (fun K hK => by go_simp; exact hK) ?_
  simp only [Act.put, List.setIfInBounds_toArray, List.set_cons_zero, List.set_cons_succ]
  refine wpList_val rfl (.string nm') (fun K hK => by go_simp; exact hK) ?_
  simp only [Act.put, List.setIfInBounds_toArray, List.set_cons_zero, List.set_cons_succ]
  refine wpList_val rfl (.bool false) (fun K hK => by go_simp; exact hK) ?_
  simp only [Act.put, List.setIfInBounds_toArray, List.set_cons_zero, List.set_cons_succ]
  refine wpList_val rfl (.bool false) (fun K hK => by go_simp; exact hK) ?_
  simp only [Act.put, List.setIfInBounds_toArray, List.set_cons_zero, List.set_cons_succ]
  refine wpList_skip rfl ?_
  simp only [Act.put, List.setIfInBounds_toArray, List.set_cons_zero, List.set_cons_succ]
  refine wpList_skip rfl ?_
  simp only [Act.put, List.setIfInBounds_toArray, List.set_cons_zero, List.set_cons_succ]
  refine wpList_skip rfl ?_
  simp only [Act.put, List.setIfInBounds_toArray, List.set_cons_zero, List.set_cons_succ]
  refine wpList_skip rfl ?_
  simp only [Act.put, List.setIfInBounds_toArray, List.set_cons_zero, List.set_cons_succ]
  refine wpList_skip rfl ?_
  simp only [Act.put, List.setIfInBounds_toArray, List.set_cons_zero, List.set_cons_succ]
  refine wpList_val rfl (.bool false) (fun K hK => by go_simp; exact hK) ?_
  simp only [Act.put, List.setIfInBounds_toArray, List.set_cons_zero, List.set_cons_succ]
  refine wpList_val rfl (.bool false) (fun K hK => by go_simp; exact hK) ?_
  simp only [Act.put, List.setIfInBounds_toArray, List.set_cons_zero, List.set_cons_succ]
  refine wpList_skip rfl ?_
  simp only [Act.put, List.setIfInBounds_toArray, List.set_cons_zero, List.set_cons_succ]
  refine wpList_skip rfl ?_
  simp only [Act.put, List.setIfInBounds_toArray, List.set_cons_zero, List.set_cons_succ]
  refine wpList_skip rfl ?_
  simp only [Act.put, List.setIfInBounds_toArray, List.set_cons_zero, List.set_cons_succ]
  refine wpList_skip rfl ?_
  simp only [Act.put, List.setIfInBounds_toArray, List.set_cons_zero, List.set_cons_succ]
  refine wpList_skip rfl ?_
  simp only [Act.put, List.setIfInBounds_toArray, List.set_cons_zero, List.set_cons_succ]
  refine wpList_val rfl (.bool false) (fun K hK => by go_simp; exact hK) ?_
  simp only [Act.put, List.setIfInBounds_toArray, List.set_cons_zero, List.set_cons_succ]
  refine wpList_val rfl (.bool false) (fun K hK => by go_simp; exact hK) ?_
  simp only [Act.put, List.setIfInBounds_toArray, List.set_cons_zero, List.set_cons_succ]
  refine wpList_skip rfl ?_
  simp only [Act.put, List.setIfInBounds_toArray, List.set_cons_zero, List.set_cons_succ]
  refine wpList_skip rfl ?_
  simp only [Act.put, List.setIfInBounds_toArray, List.set_cons_zero, List.set_cons_succ]
  refine wpList_skip rfl ?_
  simp only [Act.put, List.setIfInBounds_toArray, List.set_cons_zero, List.set_cons_succ]
  refine wpList_skip rfl ?_
  simp only [Act.put, List.setIfInBounds_toArray, List.set_cons_zero, List.set_cons_succ]
  refine wpList_skip rfl ?_
  simp only [Act.put, List.setIfInBounds_toArray, List.set_cons_zero, List.set_cons_succ]
  refine wpList_val rfl (.bool false) (fun K hK => by go_simp; exact hK) ?_
  simp only [Act.put, List.setIfInBounds_toArray, List.set_cons_zero, List.set_cons_succ]
  refine wpList_val rfl (.bool false) (fun K hK => by go_simp; exact hK) ?_
  simp only [Act.put, List.setIfInBounds_toArray, List.set_cons_zero, List.set_cons_succ]
  refine wpList_skip rfl ?_
  simp only [Act.put, List.setIfInBounds_toArray, List.set_cons_zero, List.set_cons_succ]
  refine wpList_skip rfl ?_
  simp only [Act.put, List.setIfInBounds_toArray, List.set_cons_zero, List.set_cons_succ]
  refine wpList_skip rfl ?_
  simp only [Act.put, List.setIfInBounds_toArray, List.set_cons_zero, List.set_cons_succ]
  refine wpList_skip rfl ?_
  simp only [Act.put, List.setIfInBounds_toArray, List.set_cons_zero, List.set_cons_succ]
  refine wpList_skip rfl ?_
  simp only [Act.put, List.setIfInBounds_toArray, List.set_cons_zero, List.set_cons_succ]
  refine wpList_val rfl (.bool false) (fun K hK => by go_simp; exact hK) ?_
  simp only [Act.put, List.setIfInBounds_toArray, List.set_cons_zero, List.set_cons_succ]
  refine wpList_val rfl (.bool false) (fun K hK => by go_simp; exact hK) ?_
  simp only [Act.put, List.setIfInBounds_toArray, List.set_cons_zero, List.set_cons_succ]
  refine wpList_skip rfl ?_
  simp only [Act.put, List.setIfInBounds_toArray, List.set_cons_zero, List.set_cons_succ]
  refine wpList_skip rfl ?_
  simp only [Act.put, List.setIfInBounds_toArray, List.set_cons_zero, List.set_cons_succ]
  refine wpList_skip rfl ?_
  simp only [Act.put, List.setIfInBounds_toArray, List.set_cons_zero, List.set_cons_succ]
  refine wpList_skip rfl ?_
  simp only [Act.put, List.setIfInBounds_toArray, List.set_cons_zero, List.set_cons_succ]
  refine wpList_skip rfl ?_
  simp only [Act.put, List.setIfInBounds_toArray, List.set_cons_zero, List.set_cons_succ]
  refine wpList_val rfl (.bool false) (fun K hK => by go_simp; exact hK) ?_
  simp only [Act.put, List.setIfInBounds_toArray, List.set_cons_zero, List.set_cons_succ]
  refine wpList_val rfl (.bool false) (fun K hK => by go_simp; exact hK) ?_
  simp only [Act.put, List.setIfInBounds_toArray, List.set_cons_zero, List.set_cons_succ]
  refine wpList_skip rfl ?_
  simp only [Act.put, List.setIfInBounds_toArray, List.set_cons_zero, List.set_cons_succ]
  refine wpList_skip rfl ?_
  simp only [Act.put, List.setIfInBounds_toArray, List.set_cons_zero, List.set_cons_succ]
  refine wpList_skip rfl ?_
  simp only [Act.put, List.setIfInBounds_toArray, List.set_cons_zero, List.set_cons_succ]
  refine wpList_skip rfl ?_
  simp only [Act.put, List.setIfInBounds_toArray, List.set_cons_zero, List.set_cons_succ]
  refine wpList_skip rfl ?_
  simp only [Act.put, List.setIfInBounds_toArray, List.set_cons_zero, List.set_cons_succ]
  refine wpList_val rfl (.bool false) (fun K hK => by go_simp; exact hK) ?_
  simp only [Act.put, List.setIfInBounds_toArray, List.set_cons_zero, List.set_cons_succ]
  refine wpList_val rfl (.bool false) (fun K hK => by go_simp; exact hK) ?_
  simp only [Act.put, List.setIfInBounds_toArray, List.set_cons_zero, List.set_cons_succ]
  refine wpList_skip rfl ?_
  simp only [Act.put, List.setIfInBounds_toArray, List.set_cons_zero, List.set_cons_succ]
  refine wpList_skip rfl ?_
  simp only [Act.put, List.setIfInBounds_toArray, List.set_cons_zero, List.set_cons_succ]
  refine wpList_skip rfl ?_
  simp only [Act.put, List.setIfInBounds_toArray, List.set_cons_zero, List.set_cons_succ]
  refine wpList_skip rfl ?_
  simp only [Act.put, List.setIfInBounds_toArray, List.set_cons_zero, List.set_cons_succ]
  refine wpList_skip rfl ?_
  simp only [Act.put, List.setIfInBounds_toArray, List.set_cons_zero, List.set_cons_succ]
  refine wpList_val rfl (.bool false) (fun K hK => by go_simp; exact hK) ?_
  simp only [Act.put, List.setIfInBounds_toArray, List.set_cons_zero, List.set_cons_succ]
  refine wpList_val rfl (.bool false) (fun K hK => by go_simp; exact hK) ?_
  simp only [Act.put, List.setIfInBounds_toArray, List.set_cons_zero, List.set_cons_succ]
  refine wpList_skip rfl ?_
  simp only [Act.put, List.setIfInBounds_toArray, List.set_cons_zero, List.set_cons_succ]
  refine wpList_skip rfl ?_
  simp only [Act.put, List.setIfInBounds_toArray, List.set_cons_zero, List.set_cons_succ]
  refine wpList_skip rfl ?_
  simp only [Act.put, List.setIfInBounds_toArray, List.set_cons_zero, List.set_cons_succ]
  refine wpList_skip rfl ?_
  simp only [Act.put, List.setIfInBounds_toArray, List.set_cons_zero, List.set_cons_succ]
  refine wpList_skip rfl ?_
  simp only [Act.put, List.setIfInBounds_toArray, List.set_cons_zero, List.set_cons_succ]
  refine wpList_val rfl (.bool false) (fun K hK => by go_simp; exact hK) ?_
  simp only [Act.put, List.setIfInBounds_toArray, List.set_cons_zero, List.set_cons_succ]
  refine wpList_val rfl (.bool false) (fun K hK => by go_simp; exact hK) ?_
  simp only [Act.put, List.setIfInBounds_toArray, List.set_cons_zero, List.set_cons_succ]
  refine wpList_skip rfl ?_
  simp only [Act.put, List.setIfInBounds_toArray, List.set_cons_zero, List.set_cons_succ]
  refine wpList_skip rfl ?_
  simp only [Act.put, List.setIfInBounds_toArray, List.set_cons_zero, List.set_cons_succ]
  refine wpList_skip rfl ?_
  simp only [Act.put, List.setIfInBounds_toArray, List.set_cons_zero, List.set_cons_succ]
  refine wpList_skip rfl ?_
  simp only [Act.put, List.setIfInBounds_toArray, List.set_cons_zero, List.set_cons_succ]
  refine wpList_skip rfl ?_
  simp only [Act.put, List.setIfInBounds_toArray, List.set_cons_zero, List.set_cons_succ]
  refine wpList_val rfl (.bool false) (fun K hK => by go_simp; exact hK) ?_
  simp only [Act.put, List.setIfInBounds_toArray, List.set_cons_zero, List.set_cons_succ]
  refine wpList_val rfl (.bool false) (fun K hK => by go_simp; exact hK) ?_
  simp only [Act.put, List.setIfInBounds_toArray, List.set_cons_zero, List.set_cons_succ]
  refine wpList_nil ?_
  repeat (first | go_step | go_upon)
  go_ret
  exact ⟨ret_bool HR.out, B0.out⟩
 ·have HF : Hid ((z1 && z2 && z3 && z4 && z5 && z6 && z7 && z8 && z9) = r) := by show _ = _; rw [← HE.out, Bool.true_and]
  clear HE
  refine wpList_val rfl (.pointer (some ⟨w.heap.size, 0, none⟩)) (fun K hK => by go_simp; exact hK) ?_
  simp only [Act.put, List.setIfInBounds_toArray, List.set_cons_zero, List.set_cons_succ]
  refine wpList_val rfl (.string nm) (fun K hK => by go_simp; exact hK) ?_
  simp only [Act.put, List.setIfInBounds_toArray, List.set_cons_zero, List.set_cons_succ]
  refine wpList_val rfl (.pointer (some ⟨w.heap.size + 1, 0, none⟩)) (fun K hK => by go_simp; exact hK) ?_
  simp only [Act.put, List.setIfInBounds_toArray, List.set_cons_zero, List.set_cons_succ]
  refine wpList_val rfl (.string nm') (fun K hK => by go_simp; exact hK) ?_
  simp only [Act.put, List.setIfInBounds_toArray, List.set_cons_zero, List.set_cons_succ]
  refine wpList_val rfl (.bool true) (fun K hK => by go_simp; exact hK) ?_
  simp only [Act.put, List.setIfInBounds_toArray, List.set_cons_zero, List.set_cons_succ]
  refine wpList_val rfl (.bool true) (fun K hK => by go_simp; exact hK) ?_
  simp only [Act.put, List.setIfInBounds_toArray, List.set_cons_zero, List.set_cons_succ]
  refine wpList_one (by rfl) (.pointer (some ⟨w.heap.size, 1, none⟩)) (fun K hK => by go_simp; exact hK) ?_
  simp only [Act.put, List.setIfInBounds_toArray, List.set_cons_zero, List.set_cons_succ]
  refine wpList_one (by rfl) (.slice oa load.length ca) (fun K hK => by go_simp; exact hK) ?_
  simp only [Act.put, List.setIfInBounds_toArray, List.set_cons_zero, List.set_cons_succ]
  refine wpList_one (by rfl) (.pointer (some ⟨w.heap.size + 1, 1, none⟩)) (fun K hK => by go_simp; exact hK) ?_
  simp only [Act.put, List.setIfInBounds_toArray, List.set_cons_zero, List.set_cons_succ]
  refine wpList_one (by rfl) (.slice ob load'.length cb) (fun K hK => by go_simp; exact hK) ?_
  simp only [Act.put, List.setIfInBounds_toArray, List.set_cons_zero, List.set_cons_succ]
  refine wpList_step fun K hK => ?_
  rw [if_pos (by rfl)]
  go_simp
  go_at_call 77
  refine (KS.out _ CA.out CB.out).mono ?_
  rintro e w1 ⟨rfl, b1⟩
  have B1 := Lib.hid (over B0.out b1)
  have OA1 := OAh.out.below b1
  have OB1 := OBh.out.below b1
  have c2 := OA1.c2
  have d2 := OB1.c2
  have c3 := OA1.c3
  have d3 := OB1.c3
  have c4 := OA1.c4
  have d4 := OB1.c4
  have c5 := OA1.c5
  have d5 := OB1.c5
  have c6 := OA1.c6
  have d6 := OB1.c6
  have c7 := OA1.c7
  have d7 := OB1.c7
  have c8 := OA1.c8
  have d8 := OB1.c8
  have c9 := OA1.c9
  have d9 := OB1.c9
  have c10 := OA1.c10
  have d10 := OB1.c10
  have c11 := OA1.c11
  have d11 := OB1.c11
  have c12 := OA1.c12
  have d12 := OB1.c12
  have c13 := OA1.c13
  have d13 := OB1.c13
  have c14 := OA1.c14
  have d14 := OB1.c14
  have c15 := OA1.c15
  have d15 := OB1.c15
  clear b1 OA1 OB1 OAh OBh CA CB B0 c0 c1 d0 d1 KS
  refine hK _ _ ?_
  clear hK K
  try simp only [Act.put, List.setIfInBounds_toArray, List.set_cons_zero, List.set_cons_succ]
  refine wpList_val rfl (.bool z1) (fun K hK => by go_simp; exact hK) ?_
  simp only [Act.put, List.setIfInBounds_toArray, List.set_cons_zero, List.set_cons_succ]
  obtain ⟨q1, hq1⟩ : ∃ q, z1 = q := ⟨_, rfl⟩
  have HQ1 := Lib.hid hq1
  obtain ⟨q2, hq2⟩ : ∃ q, (q1 && z2) = q := ⟨_, rfl⟩
  have HQ2 := Lib.hid hq2
  obtain ⟨q3, hq3⟩ : ∃ q, (q2 && z3) = q := ⟨_, rfl⟩
  have HQ3 := Lib.hid hq3
  obtain ⟨q4, hq4⟩ : ∃ q, (q3 && z4) = q := ⟨_, rfl⟩
  have HQ4 := Lib.hid hq4
  obtain ⟨q5, hq5⟩ : ∃ q, (q4 && z5) = q := ⟨_, rfl⟩
  have HQ5 := Lib.hid hq5
  obtain ⟨q6, hq6⟩ : ∃ q, (q5 && z6) = q := ⟨_, rfl⟩
  have HQ6 := Lib.hid hq6
  obtain ⟨q7, hq7⟩ : ∃ q, (q6 && z7) = q := ⟨_, rfl⟩
  have HQ7 := Lib.hid hq7
  obtain ⟨q8, hq8⟩ : ∃ q, (q7 && z8) = q := ⟨_, rfl⟩
  have HQ8 := Lib.hid hq8
  obtain ⟨q9, hq9⟩ : ∃ q, (q8 && z9) = q := ⟨_, rfl⟩
  have HQ9 := Lib.hid hq9
  have HR : Hid (q9 = r) := by show _ = _; rw [← HF.out, HQ1.out, HQ2.out, HQ3.out, HQ4.out, HQ5.out, HQ6.out, HQ7.out, HQ8.out, HQ9.out]
  clear HF hq1 hq2 hq3 hq4 hq5 hq6 hq7 hq8 hq9
  refine wpList_val rfl (.bool q1) (fun K hK => by have h := HQ1.out; subst h; go_simp; exact hK) ?_
  simp only [Act.put, List.setIfInBounds_toArray, List.set_cons_zero, List.set_cons_succ]
  refine wpList_sym q1 (.pointer (some ⟨w.heap.size, 2, none⟩)) (by cases q1 <;> rfl) (fun hc K hK => by subst hc; (try simp only [cond_true]); go_simp; exact hK) ?_
  simp only [Act.put, List.setIfInBounds_toArray, List.set_cons_zero, List.set_cons_succ]
  refine wpList_sym q1 (.agg #[.int .i64 pp, .int .i64 po, .int .i64 pc, .int .i64 ps]) (by cases q1 <;> rfl) (fun hc K hK => by subst hc; (try simp only [cond_true]); go_simp; exact hK) ?_
  simp only [Act.put, List.setIfInBounds_toArray, List.set_cons_zero, List.set_cons_succ]
  refine wpList_sym q1 (.pointer (some ⟨w.heap.size + 1, 2, none⟩)) (by cases q1 <;> rfl) (fun hc K hK => by subst hc; (try simp only [cond_true]); go_simp; exact hK) ?_
  simp only [Act.put, List.setIfInBounds_toArray, List.set_cons_zero, List.set_cons_succ]
  refine wpList_sym q1 (.agg #[.int .i64 pp', .int .i64 po', .int .i64 pc', .int .i64 ps']) (by cases q1 <;> rfl) (fun hc K hK => by subst hc; (try simp only [cond_true]); go_simp; exact hK) ?_
  simp only [Act.put, List.setIfInBounds_toArray, List.set_cons_zero, List.set_cons_succ]
  refine wpList_sym q1 (.bool z2) (by cases q1 <;> rfl) (fun hc K hK => by subst hc; (try simp only [cond_true]); go_simp; exact hK) ?_
  simp only [Act.put, List.setIfInBounds_toArray, List.set_cons_zero, List.set_cons_succ]
  refine wpList_val rfl (.bool q2) (fun K hK => by have h := HQ2.out; subst h; cases q1 <;> simp only [cond_true, cond_false, Bool.true_and, Bool.false_and] at hK ⊢ <;> go_simp <;> exact hK) ?_
  simp only [Act.put, List.setIfInBounds_toArray, List.set_cons_zero, List.set_cons_succ]
  refine wpList_val rfl (.bool q2) (fun K hK => by go_simp; exact hK) ?_
  simp only [Act.put, List.setIfInBounds_toArray, List.set_cons_zero, List.set_cons_succ]
  refine wpList_sym q2 (.pointer (some ⟨w.heap.size, 6, none⟩)) (by cases q2 <;> rfl) (fun hc K hK => by subst hc; (try simp only [cond_true]); go_simp; exact hK) ?_
  simp only [Act.put, List.setIfInBounds_toArray, List.set_cons_zero, List.set_cons_succ]
  refine wpList_sym q2 (.agg #[.int .i64 dp, .int .i64 dd, .int .i64 dc, .int .i64 ds]) (by cases q2 <;> rfl) (fun hc K hK => by subst hc; (try simp only [cond_true]); go_simp; exact hK) ?_
  simp only [Act.put, List.setIfInBounds_toArray, List.set_cons_zero, List.set_cons_succ]
  refine wpList_sym q2 (.pointer (some ⟨w.heap.size + 1, 6, none⟩)) (by cases q2 <;> rfl) (fun hc K hK => by subst hc; (try simp only [cond_true]); go_simp; exact hK) ?_
  simp only [Act.put, List.setIfInBounds_toArray, List.set_cons_zero, List.set_cons_succ]
  refine wpList_sym q2 (.agg #[.int .i64 dp', .int .i64 dd', .int .i64 dc', .int .i64 ds']) (by cases q2 <;> rfl) (fun hc K hK => by subst hc; (try simp only [cond_true]); go_simp; exact hK) ?_
  simp only [Act.put, List.setIfInBounds_toArray, List.set_cons_zero, List.set_cons_succ]
  refine wpList_sym q2 (.bool z3) (by cases q2 <;> rfl) (fun hc K hK => by subst hc; (try simp only [cond_true]); go_simp; exact hK) ?_
  simp only [Act.put, List.setIfInBounds_toArray, List.set_cons_zero, List.set_cons_succ]
  refine wpList_val rfl (.bool q3) (fun K hK => by have h := HQ3.out; subst h; cases q2 <;> simp only [cond_true, cond_false, Bool.true_and, Bool.false_and] at hK ⊢ <;> go_simp <;> exact hK) ?_
  simp only [Act.put, List.setIfInBounds_toArray, List.set_cons_zero, List.set_cons_succ]
  refine wpList_val rfl (.bool q3) (fun K hK => by go_simp; exact hK) ?_
  simp only [Act.put, List.setIfInBounds_toArray, List.set_cons_zero, List.set_cons_succ]
  refine wpList_sym q3 (.pointer (some ⟨w.heap.size, 10, none⟩)) (by cases q3 <;> rfl) (fun hc K hK => by subst hc; (try simp only [cond_true]); go_simp; exact hK) ?_
  simp only [Act.put, List.setIfInBounds_toArray, List.set_cons_zero, List.set_cons_succ]
  refine wpList_sym q3 (.int .i64 sk) (by cases q3 <;> rfl) (fun hc K hK => by subst hc; (try simp only [cond_true]); go_simp; exact hK) ?_
  simp only [Act.put, List.setIfInBounds_toArray, List.set_cons_zero, List.set_cons_succ]
  refine wpList_sym q3 (.pointer (some ⟨w.heap.size + 1, 10, none⟩)) (by cases q3 <;> rfl) (fun hc K hK => by subst hc; (try simp only [cond_true]); go_simp; exact hK) ?_
  simp only [Act.put, List.setIfInBounds_toArray, List.set_cons_zero, List.set_cons_succ]
  refine wpList_sym q3 (.int .i64 sk') (by cases q3 <;> rfl) (fun hc K hK => by subst hc; (try simp only [cond_true]); go_simp; exact hK) ?_
  simp only [Act.put, List.setIfInBounds_toArray, List.set_cons_zero, List.set_cons_succ]
  refine wpList_sym q3 (.bool z4) (by cases q3 <;> rfl) (fun hc K hK => by subst hc; (try simp only [cond_true]); go_simp; exact hK) ?_
  simp only [Act.put, List.setIfInBounds_toArray, List.set_cons_zero, List.set_cons_succ]
  refine wpList_val rfl (.bool q4) (fun K hK => by have h := HQ4.out; subst h; cases q3 <;> simp only [cond_true, cond_false, Bool.true_and, Bool.false_and] at hK ⊢ <;> go_simp <;> exact hK) ?_
  simp only [Act.put, List.setIfInBounds_toArray, List.set_cons_zero, List.set_cons_succ]
  refine wpList_val rfl (.bool q4) (fun K hK => by go_simp; exact hK) ?_
  simp only [Act.put, List.setIfInBounds_toArray, List.set_cons_zero, List.set_cons_succ]
  refine wpList_sym q4 (.pointer (some ⟨w.heap.size, 11, none⟩)) (by cases q4 <;> rfl) (fun hc K hK => by subst hc; (try simp only [cond_true]); go_simp; exact hK) ?_
  simp only [Act.put, List.setIfInBounds_toArray, List.set_cons_zero, List.set_cons_succ]
  refine wpList_sym q4 (.int .i64 pen) (by cases q4 <;> rfl) (fun hc K hK => by subst hc; (try simp only [cond_true]); go_simp; exact hK) ?_
  simp only [Act.put, List.setIfInBounds_toArray, List.set_cons_zero, List.set_cons_succ]
  refine wpList_sym q4 (.pointer (some ⟨w.heap.size + 1, 11, none⟩)) (by cases q4 <;> rfl) (fun hc K hK => by subst hc; (try simp only [cond_true]); go_simp; exact hK) ?_
  simp only [Act.put, List.setIfInBounds_toArray, List.set_cons_zero, List.set_cons_succ]
  refine wpList_sym q4 (.int .i64 pen') (by cases q4 <;> rfl) (fun hc K hK => by subst hc; (try simp only [cond_true]); go_simp; exact hK) ?_
  simp only [Act.put, List.setIfInBounds_toArray, List.set_cons_zero, List.set_cons_succ]
  refine wpList_sym q4 (.bool z5) (by cases q4 <;> rfl) (fun hc K hK => by subst hc; (try simp only [cond_true]); go_simp; exact hK) ?_
  simp only [Act.put, List.setIfInBounds_toArray, List.set_cons_zero, List.set_cons_succ]
  refine wpList_val rfl (.bool q5) (fun K hK => by have h := HQ5.out; subst h; cases q4 <;> simp only [cond_true, cond_false, Bool.true_and, Bool.false_and] at hK ⊢ <;> go_simp <;> exact hK) ?_
  simp only [Act.put, List.setIfInBounds_toArray, List.set_cons_zero, List.set_cons_succ]
  refine wpList_val rfl (.bool q5) (fun K hK => by go_simp; exact hK) ?_
  simp only [Act.put, List.setIfInBounds_toArray, List.set_cons_zero, List.set_cons_succ]
  refine wpList_sym q5 (.pointer (some ⟨w.heap.size, 12, none⟩)) (by cases q5 <;> rfl) (fun hc K hK => by subst hc; (try simp only [cond_true]); go_simp; exact hK) ?_
  simp only [Act.put, List.setIfInBounds_toArray, List.set_cons_zero, List.set_cons_succ]
  refine wpList_sym q5 (.int .i64 spl) (by cases q5 <;> rfl) (fun hc K hK => by subst hc; (try simp only [cond_true]); go_simp; exact hK) ?_
  simp only [Act.put, List.setIfInBounds_toArray, List.set_cons_zero, List.set_cons_succ]
  refine wpList_sym q5 (.pointer (some ⟨w.heap.size + 1, 12, none⟩)) (by cases q5 <;> rfl) (fun hc K hK => by subst hc; (try simp only [cond_true]); go_simp; exact hK) ?_
  simp only [Act.put, List.setIfInBounds_toArray, List.set_cons_zero, List.set_cons_succ]
  refine wpList_sym q5 (.int .i64 spl') (by cases q5 <;> rfl) (fun hc K hK => by subst hc; (try simp only [cond_true]); go_simp; exact hK) ?_
  simp only [Act.put, List.setIfInBounds_toArray, List.set_cons_zero, List.set_cons_succ]
  refine wpList_sym q5 (.bool z6) (by cases q5 <;> rfl) (fun hc K hK => by subst hc; (try simp only [cond_true]); go_simp; exact hK) ?_
  simp only [Act.put, List.setIfInBounds_toArray, List.set_cons_zero, List.set_cons_succ]
  refine wpList_val rfl (.bool q6) (fun K hK => by have h := HQ6.out; subst h; cases q5 <;> simp only [cond_true, cond_false, Bool.true_and, Bool.false_and] at hK ⊢ <;> go_simp <;> exact hK) ?_
  simp only [Act.put, List.setIfInBounds_toArray, List.set_cons_zero, List.set_cons_succ]
  refine wpList_val rfl (.bool q6) (fun K hK => by go_simp; exact hK) ?_
  simp only [Act.put, List.setIfInBounds_toArray, List.set_cons_zero, List.set_cons_succ]
  refine wpList_sym q6 (.pointer (some ⟨w.heap.size, 13, none⟩)) (by cases q6 <;> rfl) (fun hc K hK => by subst hc; (try simp only [cond_true]); go_simp; exact hK) ?_
  simp only [Act.put, List.setIfInBounds_toArray, List.set_cons_zero, List.set_cons_succ]
  refine wpList_sym q6 (.int .i64 las) (by cases q6 <;> rfl) (fun hc K hK => by subst hc; (try simp only [cond_true]); go_simp; exact hK) ?_
  simp only [Act.put, List.setIfInBounds_toArray, List.set_cons_zero, List.set_cons_succ]
  refine wpList_sym q6 (.pointer (some ⟨w.heap.size + 1, 13, none⟩)) (by cases q6 <;> rfl) (fun hc K hK => by subst hc; (try simp only [cond_true]); go_simp; exact hK) ?_
  simp only [Act.put, List.setIfInBounds_toArray, List.set_cons_zero, List.set_cons_succ]
  refine wpList_sym q6 (.int .i64 las') (by cases q6 <;> rfl) (fun hc K hK => by subst hc; (try simp only [cond_true]); go_simp; exact hK) ?_
  simp only [Act.put, List.setIfInBounds_toArray, List.set_cons_zero, List.set_cons_succ]
  refine wpList_sym q6 (.bool z7) (by cases q6 <;> rfl) (fun hc K hK => by subst hc; (try simp only [cond_true]); go_simp; exact hK) ?_
  simp only [Act.put, List.setIfInBounds_toArray, List.set_cons_zero, List.set_cons_succ]
  refine wpList_val rfl (.bool q7) (fun K hK => by have h := HQ7.out; subst h; cases q6 <;> simp only [cond_true, cond_false, Bool.true_and, Bool.false_and] at hK ⊢ <;> go_simp <;> exact hK) ?_
  simp only [Act.put, List.setIfInBounds_toArray, List.set_cons_zero, List.set_cons_succ]
  refine wpList_val rfl (.bool q7) (fun K hK => by go_simp; exact hK) ?_
  simp only [Act.put, List.setIfInBounds_toArray, List.set_cons_zero, List.set_cons_succ]
  refine wpList_sym q7 (.pointer (some ⟨w.heap.size, 14, none⟩)) (by cases q7 <;> rfl) (fun hc K hK => by subst hc; (try simp only [cond_true]); go_simp; exact hK) ?_
  simp only [Act.put, List.setIfInBounds_toArray, List.set_cons_zero, List.set_cons_succ]
  refine wpList_sym q7 (.int .i64 now) (by cases q7 <;> rfl) (fun hc K hK => by subst hc; (try simp only [cond_true]); go_simp; exact hK) ?_
  simp only [Act.put, List.setIfInBounds_toArray, List.set_cons_zero, List.set_cons_succ]
  refine wpList_sym q7 (.pointer (some ⟨w.heap.size + 1, 14, none⟩)) (by cases q7 <;> rfl) (fun hc K hK => by subst hc; (try simp only [cond_true]); go_simp; exact hK) ?_
  simp only [Act.put, List.setIfInBounds_toArray, List.set_cons_zero, List.set_cons_succ]
  refine wpList_sym q7 (.int .i64 now') (by cases q7 <;> rfl) (fun hc K hK => by subst hc; (try simp only [cond_true]); go_simp; exact hK) ?_
  simp only [Act.put, List.setIfInBounds_toArray, List.set_cons_zero, List.set_cons_succ]
  refine wpList_sym q7 (.bool z8) (by cases q7 <;> rfl) (fun hc K hK => by subst hc; (try simp only [cond_true]); go_simp; exact hK) ?_
  simp only [Act.put, List.setIfInBounds_toArray, List.set_cons_zero, List.set_cons_succ]
  refine wpList_val rfl (.bool q8) (fun K hK => by have h := HQ8.out; subst h; cases q7 <;> simp only [cond_true, cond_false, Bool.true_and, Bool.false_and] at hK ⊢ <;> go_simp <;> exact hK) ?_
  simp only [Act.put, List.setIfInBounds_toArray, List.set_cons_zero, List.set_cons_succ]
  refine wpList_val rfl (.bool q8) (fun K hK => by go_simp; exact hK) ?_
  simp only [Act.put, List.setIfInBounds_toArray, List.set_cons_zero, List.set_cons_succ]
  refine wpList_sym q8 (.pointer (some ⟨w.heap.size, 15, none⟩)) (by cases q8 <;> rfl) (fun hc K hK => by subst hc; (try simp only [cond_true]); go_simp; exact hK) ?_
  simp only [Act.put, List.setIfInBounds_toArray, List.set_cons_zero, List.set_cons_succ]
  refine wpList_sym q8 (.bool off) (by cases q8 <;> rfl) (fun hc K hK => by subst hc; (try simp only [cond_true]); go_simp; exact hK) ?_
  simp only [Act.put, List.setIfInBounds_toArray, List.set_cons_zero, List.set_cons_succ]
  refine wpList_sym q8 (.pointer (some ⟨w.heap.size + 1, 15, none⟩)) (by cases q8 <;> rfl) (fun hc K hK => by subst hc; (try simp only [cond_true]); go_simp; exact hK) ?_
  simp only [Act.put, List.setIfInBounds_toArray, List.set_cons_zero, List.set_cons_succ]
  refine wpList_sym q8 (.bool off') (by cases q8 <;> rfl) (fun hc K hK => by subst hc; (try simp only [cond_true]); go_simp; exact hK) ?_
  simp only [Act.put, List.setIfInBounds_toArray, List.set_cons_zero, List.set_cons_succ]
  refine wpList_sym q8 (.bool z9) (by cases q8 <;> rfl) (fun hc K hK => by subst hc; (try simp only [cond_true]); go_simp; exact hK) ?_
  simp only [Act.put, List.setIfInBounds_toArray, List.set_cons_zero, List.set_cons_succ]
  refine wpList_val rfl (.bool q9) (fun K hK => by have h := HQ9.out; subst h; cases q8 <;> simp only [cond_true, cond_false, Bool.true_and, Bool.false_and] at hK ⊢ <;> go_simp <;> exact hK) ?_
  simp only [Act.put, List.setIfInBounds_toArray, List.set_cons_zero, List.set_cons_succ]
  refine wpList_val rfl (.bool q9) (fun K hK => by go_simp; exact hK) ?_
  simp only [Act.put, List.setIfInBounds_toArray, List.set_cons_zero, List.set_cons_succ]
  refine wpList_nil ?_
  repeat (first | go_step | go_upon)
  go_ret
  exact ⟨ret_bool HR.out, B1.out⟩
end Go.Proofs.YtaallpebfcadjaaGreatDoor.T

