/-
  DERIVED. KTB: a part of the base of layer 13 (made by pack.py).
-/
import Derived.Test.YtaallpebfcadjaaGreatDoorKPR
import Derived.Test.YtaallpebfcadjaaGreatDoorKTA
import Derived.Test.YtaallpebfcadjaaGreatDoorKQD
import Derived.Test.YtaallpebfcadjaaGreatDoorKQG
/-! Orders in plain lists: what each function answers. -/
namespace Go.Proofs.YtaallpebfcadjaaGreatDoor.T

/-- a stop -/
structure StT where
  p : Int
  o : Int
  c : Int
  s : Int
deriving DecidableEq
theorem sameO_refl (a : OrT) : sameO a a = true := by unfold sameO; simp
theorem sameO_comm (a b : OrT) : sameO a b = sameO b a := by
  unfold sameO
  rw [BEq.comm (a := a.name.toList), BEq.comm (a := a.load), BEq.comm (a := a.pp), BEq.comm (a := a.po), BEq.comm (a := a.pc), BEq.comm (a := a.ps), BEq.comm (a := a.dp), BEq.comm (a := a.dd), BEq.comm (a := a.dc), BEq.comm (a := a.ds), BEq.comm (a := a.sk), BEq.comm (a := a.pen), BEq.comm (a := a.spl), BEq.comm (a := a.las), BEq.comm (a := a.now), BEq.comm (a := a.off)]

end Go.Proofs.YtaallpebfcadjaaGreatDoor.T


/-! The walks of the specification's same and Load, and of the laws' same (same: written by gen_sameints.py). -/
namespace Go.Proofs.YtaallpebfcadjaaGreatDoor.T
open Go.RowKit
set_option maxRecDepth 8000

set_option maxHeartbeats 1600000 in
theorem refSameI_n (u v : Value) (a b : List Int) (ha9 : a.length ≤ 9223372036854775807) (hb9 : b.length ≤ 9223372036854775807) (w : World) (hu : L.Li w u a) (hv : L.Li w v b) :
    Calls Tryz.prog 77 #[u, v] w fun e w' => e = .returned (.bool (a == b)) ∧ Below w.heap.size w w' := by
  obtain ⟨oa, ca, rfl, ha⟩ := hu
  obtain ⟨ob, cb, rfl, hb⟩ := hv
  obtain ⟨r, hr⟩ : ∃ r, (a == b) = r := ⟨_, rfl⟩
  rw [hr]
  have HE := Lib.hid hr
  clear hr
  by_cases hl : a.length = b.length
  · have HA := Lib.hid ha
    have HB := Lib.hid hb
    generalize hn : a.length = n at *
    generalize hn' : b.length = n' at *
    subst hl
    have HN := Lib.hid hn
    have HN' := Lib.hid hn'
    clear hn hn' ha hb
    have hne : ((n : Int) != (n : Int)) = false := by simp
    go_enter Tryz.func77, Tryz.ntmps77
    go_wp2_with fail
    go_loopg [5] n (fun g i wr => ∃ k : Nat, k ≤ n ∧ i = .int .i64 k ∧ n - k ≤ g ∧ Hid (∀ j, j < k → a.getD j 0 = b.getD j 0) ∧ Hid (Below w.heap.size w wr))
    case atStart => exact ⟨0, Nat.zero_le _, rfl, Nat.le_refl _, fun j hj => absurd hj (Nat.not_lt_zero _), Below.refl _ _⟩
    case round =>
      obtain ⟨k, hk, rfl, hg, HQ, HW⟩ := hrel
      by_cases hlt : k < n
      · obtain ⟨a1, rfl, hab, x0⟩ := HA.out k hlt
        obtain ⟨b1, rfl, hbb, y0⟩ := HB.out k hlt
        have x1 := (HW.out.cell (p := a1.add k) (by rw [L.add_block]; exact hab)).trans x0
        have y1 := (HW.out.cell (p := b1.add k) (by rw [L.add_block]; exact hbb)).trans y0
        clear x0 y0
        have hkI : (k : Int) < (n : Int) := by omega
        by_cases he : a.getD k 0 = b.getD k 0
        · have HQ2 : Hid (∀ j, j < k + 1 → a.getD j 0 = b.getD j 0) := fun j hj => by
            by_cases e : j = k
            · subst e; exact he
            · exact HQ.out j (by omega)
          rw [← he] at y1
          generalize a.getD k 0 = x at x1 y1
          clear he HQ
          go_wp2_with fail
          go_quiet (fail)
          go_wp2_with fail
          go_roundg (n - (k + 1))
          case measure => omega
          case rel => exact ⟨k + 1, by omega, by go_num, by omega, HQ2, below_drewN HW.out _⟩
        · have HR : Hid (false = r) := by
            show _ = _
            rw [← HE.out]
            symm
            rw [beq_eq_false_iff_ne]; intro h; exact he (by rw [h])
          have hxy := ne_neI he
          generalize a.getD k 0 = x at x1 hxy
          generalize b.getD k 0 = y at y1 hxy
          clear he HQ HE
          go_wp2_with fail
          go_quiet (fail)
          go_wp2_with fail
          go_ret
          exact ⟨ret_bool HR.out, below_drewN HW.out _⟩
      · have HR : Hid (true = r) := by
          show _ = _
          rw [← HE.out]
          symm
          rw [beq_iff_eq]
          exact caps_eq (HN.out.trans HN'.out.symm) fun j hj => HQ.out j (by have := HN.out; omega)
        have hkI : ¬ (k : Int) < (n : Int) := by omega
        clear HQ HE
        go_wp2_with fail
        go_ret
        exact ⟨ret_bool HR.out, HW.out⟩
  · have hne := ne_neN hl
    have HR : Hid (false = r) := by
      show _ = _
      rw [← HE.out]
      symm
      rw [beq_eq_false_iff_ne]; intro h; exact hl (by rw [h])
    clear HE
    generalize a.length = n at *
    generalize b.length = n' at *
    go_enter Tryz.func77, Tryz.ntmps77
    go_wp2_with fail
    go_ret
    exact ⟨ret_bool HR.out, Below.refl _ _⟩

end Go.Proofs.YtaallpebfcadjaaGreatDoor.T


/-! The walk of the specification's Same (written by gen_reford5.py). -/
namespace Go.Proofs.YtaallpebfcadjaaGreatDoor.T
open Go.RowKit
set_option maxRecDepth 8000

/-- an operation that is wanted -/
theorem wpList_one {P : Program} {ops : Array Oper} {Q : Exit → Act → World → Prop} {rest : List Oper} {o : Oper} {a : Act} {w : World} (hg : Region.wanted o (yielded ops a.tmps) = true) (v : Value)
    (hop : ∀ K : Act → World → Prop, K (a.put o.dst v) w → Oper.wp P o a w K Q) (h : wpList P ops Q rest (a.put o.dst v) w) : wpList P ops Q (o :: rest) a w := by
  refine wpList_step fun K hK => ?_
  rw [if_pos hg]
  exact hop K (hK _ _ h)
set_option maxHeartbeats 6400000 in
theorem refSameO_n (a b : OrT) (oa ob : Option Addr) (ca cb : Nat) (ha9 : a.load.length ≤ 9223372036854775807) (hb9 : b.load.length ≤ 9223372036854775807) (w : World) (hA : L.Li w (.slice oa a.load.length ca) a.load) (hB : L.Li w (.slice ob b.load.length cb) b.load) :
    Calls Tryz.prog 48 #[orV a (.slice oa a.load.length ca), orV b (.slice ob b.load.length cb)] w fun e w' => e = .returned (.bool (sameO a b)) ∧ Below w.heap.size w w' := by
  obtain ⟨nm, load, pp, po, pc, ps, dp, dd, dc, ds, sk, pen, spl, las, now, off⟩ := a
  obtain ⟨nm', load', pp', po', pc', ps', dp', dd', dc', ds', sk', pen', spl', las', now', off'⟩ := b
  unfold orV
  simp only at hA hB ha9 hb9 ⊢
  have HE : Hid (((nm.toList == nm'.toList) && (load == load') && (pp == pp' && (po == po' && (pc == pc' && ps == ps'))) && (dp == dp' && (dd == dd' && (dc == dc' && ds == ds'))) && (sk == sk') && (pen == pen') && (spl == spl') && (las == las') && (now == now') && (off == off')) = sameO ⟨nm, load, pp, po, pc, ps, dp, dd, dc, ds, sk, pen, spl, las, now, off⟩ ⟨nm', load', pp', po', pc', ps', dp', dd', dc', ds', sk', pen', spl', las', now', off'⟩) := rfl
  generalize sameO ⟨nm, load, pp, po, pc, ps, dp, dd, dc, ds, sk, pen, spl, las, now, off⟩ ⟨nm', load', pp', po', pc', ps', dp', dd', dc', ds', sk', pen', spl', las', now', off'⟩ = r at *
  have KS := Lib.hid (fun w hu hv => refSameI_n (.slice oa load.length ca) (.slice ob load'.length cb) load load' ha9 hb9 w hu hv)
  have qS1 := eqlStop pp po pc ps pp' po' pc' ps'
  have qS2 := eqlStop dp dd dc ds dp' dd' dc' ds'
  have hgm : Tryz.prog.eqGuardType Tryz.prog.depth 42 = false := by kernel_rfl
  obtain ⟨z0, hz0⟩ : ∃ z, (nm.toList == nm'.toList) = z := ⟨_, rfl⟩
  obtain ⟨z1, hz1⟩ : ∃ z, (load == load') = z := ⟨_, rfl⟩
  obtain ⟨z2, hz2⟩ : ∃ z, (pp == pp' && (po == po' && (pc == pc' && ps == ps'))) = z := ⟨_, rfl⟩
  obtain ⟨z3, hz3⟩ : ∃ z, (dp == dp' && (dd == dd' && (dc == dc' && ds == ds'))) = z := ⟨_, rfl⟩
  obtain ⟨z4, hz4⟩ : ∃ z, (sk == sk') = z := ⟨_, rfl⟩
  obtain ⟨z5, hz5⟩ : ∃ z, (pen == pen') = z := ⟨_, rfl⟩
  obtain ⟨z6, hz6⟩ : ∃ z, (spl == spl') = z := ⟨_, rfl⟩
  obtain ⟨z7, hz7⟩ : ∃ z, (las == las') = z := ⟨_, rfl⟩
  obtain ⟨z8, hz8⟩ : ∃ z, (now == now') = z := ⟨_, rfl⟩
  obtain ⟨z9, hz9⟩ : ∃ z, (off == off') = z := ⟨_, rfl⟩
  rw [hz0, hz1, hz2, hz3, hz4, hz5, hz6, hz7, hz8, hz9] at HE
  rw [hz1] at KS
  rw [hz2] at qS1
  rw [hz3] at qS2
  clear hz1 hz2 hz3
  have BA := below_alloc w (.cells #[.string nm, .slice oa load.length ca, .int .i64 pp, .int .i64 po, .int .i64 pc, .int .i64 ps, .int .i64 dp, .int .i64 dd, .int .i64 dc, .int .i64 ds, .int .i64 sk, .int .i64 pen, .int .i64 spl, .int .i64 las, .int .i64 now, .bool off] 44)
  have BB := below_alloc (w.alloc (.cells #[.string nm, .slice oa load.length ca, .int .i64 pp, .int .i64 po, .int .i64 pc, .int .i64 ps, .int .i64 dp, .int .i64 dd, .int .i64 dc, .int .i64 ds, .int .i64 sk, .int .i64 pen, .int .i64 spl, .int .i64 las, .int .i64 now, .bool off] 44)) (.cells #[.string nm', .slice ob load'.length cb, .int .i64 pp', .int .i64 po', .int .i64 pc', .int .i64 ps', .int .i64 dp', .int .i64 dd', .int .i64 dc', .int .i64 ds', .int .i64 sk', .int .i64 pen', .int .i64 spl', .int .i64 las', .int .i64 now', .bool off'] 44)
  have OAh := (Ob.made w (.string nm) (.slice oa load.length ca) (.int .i64 pp) (.int .i64 po) (.int .i64 pc) (.int .i64 ps) (.int .i64 dp) (.int .i64 dd) (.int .i64 dc) (.int .i64 ds) (.int .i64 sk) (.int .i64 pen) (.int .i64 spl) (.int .i64 las) (.int .i64 now) (.bool off)).below BB
  have OBh := Ob.made (w.alloc (.cells #[.string nm, .slice oa load.length ca, .int .i64 pp, .int .i64 po, .int .i64 pc, .int .i64 ps, .int .i64 dp, .int .i64 dd, .int .i64 dc, .int .i64 ds, .int .i64 sk, .int .i64 pen, .int .i64 spl, .int .i64 las, .int .i64 now, .bool off] 44)) (.string nm') (.slice ob load'.length cb) (.int .i64 pp') (.int .i64 po') (.int .i64 pc') (.int .i64 ps') (.int .i64 dp') (.int .i64 dd') (.int .i64 dc') (.int .i64 ds') (.int .i64 sk') (.int .i64 pen') (.int .i64 spl') (.int .i64 las') (.int .i64 now') (.bool off')
  rw [show (w.alloc (.cells #[.string nm, .slice oa load.length ca, .int .i64 pp, .int .i64 po, .int .i64 pc, .int .i64 ps, .int .i64 dp, .int .i64 dd, .int .i64 dc, .int .i64 ds, .int .i64 sk, .int .i64 pen, .int .i64 spl, .int .i64 las, .int .i64 now, .bool off] 44)).heap.size = w.heap.size + 1 by simp] at OBh
  have B0 := over BA BB
  have CA := hA.below B0
  have CB := hB.below B0
  obtain ⟨W0, hW0⟩ : ∃ W0, (w.alloc (.cells #[.string nm, .slice oa load.length ca, .int .i64 pp, .int .i64 po, .int .i64 pc, .int .i64 ps, .int .i64 dp, .int .i64 dd, .int .i64 dc, .int .i64 ds, .int .i64 sk, .int .i64 pen, .int .i64 spl, .int .i64 las, .int .i64 now, .bool off] 44)).alloc (.cells #[.string nm', .slice ob load'.length cb, .int .i64 pp', .int .i64 po', .int .i64 pc', .int .i64 ps', .int .i64 dp', .int .i64 dd', .int .i64 dc', .int .i64 ds', .int .i64 sk', .int .i64 pen', .int .i64 spl', .int .i64 las', .int .i64 now', .bool off'] 44) = W0 := ⟨_, rfl⟩
  rw [hW0] at OAh OBh B0 CA CB
  have OAh := Lib.hid OAh
  have OBh := Lib.hid OBh
  have B0 := Lib.hid B0
  have CA := Lib.hid CA
  have CB := Lib.hid CB
  clear BA BB hA hB ha9 hb9
  have c0 := OAh.out.c0
  have d0 := OBh.out.c0
  have c1 := OAh.out.c1
  have d1 := OBh.out.c1
  go_enter Tryz.func48, Tryz.ntmps48
  go_upto_region 1 with fail
  clear hW0
  refine wp_region_lit ?_
  cases z0
  · have HR : Hid (false = r) := by show _ = _; rw [← HE.out]; simp only [Bool.false_and]
    clear HE KS
    refine wpList_val rfl (.pointer (some ⟨w.heap.size, 0, none⟩)) (fun K hK => by go_simp; exact hK) ?_
    simp only [Act.put, List.setIfInBounds_toArray, List.set_cons_zero, List.set_cons_succ]
    refine wpList_val rfl (.string nm) (fun K hK => by go_simp; exact hK) ?_
    simp only [Act.put, List.setIfInBounds_toArray, List.set_cons_zero, List.set_cons_succ]
    refine wpList_val rfl (.pointer (some ⟨w.heap.size + 1, 0, none⟩)) (fun K hK => by go_simp; exact hK) ?_
    simp only [Act.put, List.setIfInBounds_toArray, List.set_cons_zero, List.set_cons_succ]
    refine wpList_val rfl (.string nm') (fun K hK => by go_simp; exact hK) ?_
    simp only [Act.put, List.setIfInBounds_toArray, List.set_cons_zero, List.set_cons_succ]
    refine wpList_val rfl (.bool false) (fun K hK => by go_simp; exact hK) ?_
    simp only [Act.put, List.setIfInBounds_toArray, List.set_cons_zero, List.set_cons_succ]
    refine wpList_val rfl (.bool false) (fun K hK => by go_simp; exact hK) ?_
    simp only [Act.put, List.setIfInBounds_toArray, List.set_cons_zero, List.set_cons_succ]
    refine wpList_skip rfl ?_
    simp only [Act.put, List.setIfInBounds_toArray, List.set_cons_zero, List.set_cons_succ]
    refine wpList_skip rfl ?_
    simp only [Act.put, List.setIfInBounds_toArray, List.set_cons_zero, List.set_cons_succ]
    refine wpList_skip rfl ?_
    simp only [Act.put, List.setIfInBounds_toArray, List.set_cons_zero, List.set_cons_succ]
    refine wpList_skip rfl ?_
    simp only [Act.put, List.setIfInBounds_toArray, List.set_cons_zero, List.set_cons_succ]
    refine wpList_skip rfl ?_
    simp only [Act.put, List.setIfInBounds_toArray, List.set_cons_zero, List.set_cons_succ]
    refine wpList_val rfl (.bool false) (fun K hK => by go_simp; exact hK) ?_
    simp only [Act.put, List.setIfInBounds_toArray, List.set_cons_zero, List.set_cons_succ]
    refine wpList_val rfl (.bool false) (fun K hK => by go_simp; exact hK) ?_
    simp only [Act.put, List.setIfInBounds_toArray, List.set_cons_zero, List.set_cons_succ]
    refine wpList_skip rfl ?_
    simp only [Act.put, List.setIfInBounds_toArray, List.set_cons_zero, List.set_cons_succ]
    refine wpList_skip rfl ?_
    simp only [Act.put, List.setIfInBounds_toArray, List.set_cons_zero, List.set_cons_succ]
    refine wpList_skip rfl ?_
    simp only [Act.put, List.setIfInBounds_toArray, List.set_cons_zero, List.set_cons_succ]
    refine wpList_skip rfl ?_
    simp only [Act.put, List.setIfInBounds_toArray, List.set_cons_zero, List.set_cons_succ]
    refine wpList_skip rfl ?_
    simp only [Act.put, List.setIfInBounds_toArray, List.set_cons_zero, List.set_cons_succ]
    refine wpList_val rfl (.bool false) (fun K hK => by go_simp; exact hK) ?_
    simp only [Act.put, List.setIfInBounds_toArray, List.set_cons_zero, List.set_cons_succ]
    refine wpList_val rfl (.bool false) (fun K hK => by go_simp; exact hK) ?_
    simp only [Act.put, List.setIfInBounds_toArray, List.set_cons_zero, List.set_cons_succ]
    refine wpList_skip rfl ?_
    simp only [Act.put, List.setIfInBounds_toArray, List.set_cons_zero, List.set_cons_succ]
    refine wpList_skip rfl ?_
    simp only [Act.put, List.setIfInBounds_toArray, List.set_cons_zero, List.set_cons_succ]
    refine wpList_skip rfl ?_
    simp only [Act.put, List.setIfInBounds_toArray, List.set_cons_zero, List.set_cons_succ]
    refine wpList_skip rfl ?_
    simp only [Act.put, List.setIfInBounds_toArray, List.set_cons_zero, List.set_cons_succ]
    refine wpList_skip rfl ?_
    simp only [Act.put, List.setIfInBounds_toArray, List.set_cons_zero, List.set_cons_succ]
    refine wpList_val rfl (.bool false) (fun K hK => by go_simp; exact hK) ?_
    simp only [Act.put, List.setIfInBounds_toArray, List.set_cons_zero, List.set_cons_succ]
    refine wpList_val rfl (.bool false) (fun K hK => by go_simp; exact hK) ?_
    simp only [Act.put, List.setIfInBounds_toArray, List.set_cons_zero, List.set_cons_succ]
    refine wpList_skip rfl ?_
    simp only [Act.put, List.setIfInBounds_toArray, List.set_cons_zero, List.set_cons_succ]
    refine wpList_skip rfl ?_
    simp only [Act.put, List.setIfInBounds_toArray, List.set_cons_zero, List.set_cons_succ]
    refine wpList_skip rfl ?_
    simp only [Act.put, List.setIfInBounds_toArray, List.set_cons_zero, List.set_cons_succ]
    refine wpList_skip rfl ?_
    simp only [Act.put, List.setIfInBounds_toArray, List.set_cons_zero, List.set_cons_succ]
    refine wpList_skip rfl ?_
    simp only [Act.put, List.setIfInBounds_toArray, List.set_cons_zero, List.set_cons_succ]
    refine wpList_val rfl (.bool false) (fun K hK => by go_simp; exact hK) ?_
    simp only [Act.put, List.setIfInBounds_toArray, List.set_cons_zero, List.set_cons_succ]
    refine wpList_val rfl (.bool false) (fun K hK => by go_simp; exact hK) ?_
    simp only [Act.put, List.setIfInBounds_toArray, List.set_cons_zero, List.set_cons_succ]
    refine wpList_skip rfl ?_
    simp only [Act.put, List.setIfInBounds_toArray, List.set_cons_zero, List.set_cons_succ]
    refine wpList_skip rfl ?_
    simp only [Act.put, List.setIfInBounds_toArray, List.set_cons_zero, List.set_cons_succ]
    refine wpList_skip rfl ?_
    simp only [Act.put, List.setIfInBounds_toArray, List.set_cons_zero, List.set_cons_succ]
    refine wpList_skip rfl ?_
    simp only [Act.put, List.setIfInBounds_toArray, List.set_cons_zero, List.set_cons_succ]
    refine wpList_skip rfl ?_
    simp only [Act.put, List.setIfInBounds_toArray, List.set_cons_zero, List.set_cons_succ]
    refine wpList_val rfl (.bool false) (fun K hK => by go_simp; exact hK) ?_
    simp only [Act.put, List.setIfInBounds_toArray, List.set_cons_zero, List.set_cons_succ]
    refine wpList_val rfl (.bool false) (fun K hK => by go_simp; exact hK) ?_
    simp only [Act.put, List.setIfInBounds_toArray, List.set_cons_zero, List.set_cons_succ]
    refine wpList_skip rfl ?_
    simp only [Act.put, List.setIfInBounds_toArray, List.set_cons_zero, List.set_cons_succ]
    refine wpList_skip rfl ?_
    simp only [Act.put, List.setIfInBounds_toArray, List.set_cons_zero, List.set_cons_succ]
    refine wpList_skip rfl ?_
    simp only [Act.put, List.setIfInBounds_toArray, List.set_cons_zero, List.set_cons_succ]
    refine wpList_skip rfl ?_
    simp only [Act.put, List.setIfInBounds_toArray, List.set_cons_zero, List.set_cons_succ]
    refine wpList_skip rfl ?_
    simp only [Act.put, List.setIfInBounds_toArray, List.set_cons_zero, List.set_cons_succ]
    refine wpList_val rfl (.bool false) (fun K hK => by go_simp; exact hK) ?_
    simp only [Act.put, List.setIfInBounds_toArray, List.set_cons_zero, List.set_cons_succ]
    refine wpList_val rfl (.bool false) (fun K hK => by go_simp; exact hK) ?_
    simp only [Act.put, List.setIfInBounds_toArray, List.set_cons_zero, List.set_cons_succ]
    refine wpList_skip rfl ?_
    simp only [Act.put, List.setIfInBounds_toArray, List.set_cons_zero, List.set_cons_succ]
    refine wpList_skip rfl ?_
    simp only [Act.put, List.setIfInBounds_toArray, List.set_cons_zero, List.set_cons_succ]
    refine wpList_skip rfl ?_
    simp only [Act.put, List.setIfInBounds_toArray, List.set_cons_zero, List.set_cons_succ]
    refine wpList_skip rfl ?_
    simp only [Act.put, List.setIfInBounds_toArray, List.set_cons_zero, List.set_cons_succ]
    refine wpList_skip rfl ?_
    simp only [Act.put, List.setIfInBounds_toArray, List.set_cons_zero, List.set_cons_succ]
    refine wpList_val rfl (.bool false) (fun K hK => by go_simp; exact hK) ?_
    simp only [Act.put, List.setIfInBounds_toArray, List.set_cons_zero, List.set_cons_succ]
    refine wpList_val rfl (.bool false) (fun K hK => by go_simp; exact hK) ?_
    simp only [Act.put, List.setIfInBounds_toArray, List.set_cons_zero, List.set_cons_succ]
    refine wpList_skip rfl ?_
    simp only [Act.put, List.setIfInBounds_toArray, List.set_cons_zero, List.set_cons_succ]
    refine wpList_skip rfl ?_
    simp only [Act.put, List.setIfInBounds_toArray, List.set_cons_zero, List.set_cons_succ]
    refine wpList_skip rfl ?_
    simp only [Act.put, List.setIfInBounds_toArray, List.set_cons_zero, List.set_cons_succ]
    refine wpList_skip rfl ?_
    simp only [Act.put, List.setIfInBounds_toArray, List.set_cons_zero, List.set_cons_succ]
    refine wpList_skip rfl ?_
    simp only [Act.put, List.setIfInBounds_toArray, List.set_cons_zero, List.set_cons_succ]
    refine wpList_val rfl (.bool false) (fun K hK => by go_simp; exact hK) ?_
    simp only [Act.put, List.setIfInBounds_toArray, List.set_cons_zero, List.set_cons_succ]
    refine wpList_val rfl (.bool false) (fun K hK => by go_simp; exact hK) ?_
    simp only [Act.put, List.setIfInBounds_toArray, List.set_cons_zero, List.set_cons_succ]
    refine wpList_skip rfl ?_
    simp only [Act.put, List.setIfInBounds_toArray, List.set_cons_zero, List.set_cons_succ]
    refine wpList_skip rfl ?_
    simp only [Act.put, List.setIfInBounds_toArray, List.set_cons_zero, List.set_cons_succ]
    refine wpList_skip rfl ?_
    simp only [Act.put, List.setIfInBounds_toArray, List.set_cons_zero, List.set_cons_succ]
    refine wpList_skip rfl ?_
    simp only [Act.put, List.setIfInBounds_toArray, List.set_cons_zero, List.set_cons_succ]
    refine wpList_skip rfl ?_
    simp only [Act.put, List.setIfInBounds_toArray, List.set_cons_zero, List.set_cons_succ]
    refine wpList_val rfl (.bool false) (fun K hK => by go_simp; exact hK) ?_
    simp only [Act.put, List.setIfInBounds_toArray, List.set_cons_zero, List.set_cons_succ]
    refine wpList_val rfl (.bool false) (fun K hK => by go_simp; exact hK) ?_
    simp only [Act.put, List.setIfInBounds_toArray, List.set_cons_zero, List.set_cons_succ]
    refine wpList_nil ?_
    repeat (first | go_step | go_upon)
    go_ret
    exact ⟨ret_bool HR.out, B0.out⟩
  · have HF : Hid ((z1 && z2 && z3 && z4 && z5 && z6 && z7 && z8 && z9) = r) := by show _ = _; rw [← HE.out, Bool.true_and]
    clear HE
    refine wpList_val rfl (.pointer (some ⟨w.heap.size, 0, none⟩)) (fun K hK => by go_simp; exact hK) ?_
    simp only [Act.put, List.setIfInBounds_toArray, List.set_cons_zero, List.set_cons_succ]
    refine wpList_val rfl (.string nm) (fun K hK => by go_simp; exact hK) ?_
    simp only [Act.put, List.setIfInBounds_toArray, List.set_cons_zero, List.set_cons_succ]
    refine wpList_val rfl (.pointer (some ⟨w.heap.size + 1, 0, none⟩)) (fun K hK => by go_simp; exact hK) ?_
    simp only [Act.put, List.setIfInBounds_toArray, List.set_cons_zero, List.set_cons_succ]
    refine wpList_val rfl (.string nm') (fun K hK => by go_simp; exact hK) ?_
    simp only [Act.put, List.setIfInBounds_toArray, List.set_cons_zero, List.set_cons_succ]
    refine wpList_val rfl (.bool true) (fun K hK => by go_simp; exact hK) ?_
    simp only [Act.put, List.setIfInBounds_toArray, List.set_cons_zero, List.set_cons_succ]
    refine wpList_val rfl (.bool true) (fun K hK => by go_simp; exact hK) ?_
    simp only [Act.put, List.setIfInBounds_toArray, List.set_cons_zero, List.set_cons_succ]
    refine wpList_one (by rfl) (.pointer (some ⟨w.heap.size, 1, none⟩)) (fun K hK => by go_simp; exact hK) ?_
    simp only [Act.put, List.setIfInBounds_toArray, List.set_cons_zero, List.set_cons_succ]
    refine wpList_one (by rfl) (.slice oa load.length ca) (fun K hK => by go_simp; exact hK) ?_
    simp only [Act.put, List.setIfInBounds_toArray, List.set_cons_zero, List.set_cons_succ]
    refine wpList_one (by rfl) (.pointer (some ⟨w.heap.size + 1, 1, none⟩)) (fun K hK => by go_simp; exact hK) ?_
    simp only [Act.put, List.setIfInBounds_toArray, List.set_cons_zero, List.set_cons_succ]
    refine wpList_one (by rfl) (.slice ob load'.length cb) (fun K hK => by go_simp; exact hK) ?_
    simp only [Act.put, List.setIfInBounds_toArray, List.set_cons_zero, List.set_cons_succ]
    refine wpList_step fun K hK => ?_
    rw [if_pos (by rfl)]
    go_simp
    go_at_call 77
    refine (KS.out _ CA.out CB.out).mono ?_
    rintro e w1 ⟨rfl, b1⟩
    have B1 := Lib.hid (over B0.out b1)
    have OA1 := OAh.out.below b1
    have OB1 := OBh.out.below b1
    have c2 := OA1.c2
    have d2 := OB1.c2
    have c3 := OA1.c3
    have d3 := OB1.c3
    have c4 := OA1.c4
    have d4 := OB1.c4
    have c5 := OA1.c5
    have d5 := OB1.c5
    have c6 := OA1.c6
    have d6 := OB1.c6
    have c7 := OA1.c7
    have d7 := OB1.c7
    have c8 := OA1.c8
    have d8 := OB1.c8
    have c9 := OA1.c9
    have d9 := OB1.c9
    have c10 := OA1.c10
    have d10 := OB1.c10
    have c11 := OA1.c11
    have d11 := OB1.c11
    have c12 := OA1.c12
    have d12 := OB1.c12
    have c13 := OA1.c13
    have d13 := OB1.c13
    have c14 := OA1.c14
    have d14 := OB1.c14
    have c15 := OA1.c15
    have d15 := OB1.c15
    clear b1 OA1 OB1 OAh OBh CA CB B0 c0 c1 d0 d1 KS
    refine hK _ _ ?_
    clear hK K
    try simp only [Act.put, List.setIfInBounds_toArray, List.set_cons_zero, List.set_cons_succ]
    refine wpList_val rfl (.bool z1) (fun K hK => by go_simp; exact hK) ?_
    simp only [Act.put, List.setIfInBounds_toArray, List.set_cons_zero, List.set_cons_succ]
    obtain ⟨q1, hq1⟩ : ∃ q, z1 = q := ⟨_, rfl⟩
    have HQ1 := Lib.hid hq1
    obtain ⟨q2, hq2⟩ : ∃ q, (q1 && z2) = q := ⟨_, rfl⟩
    have HQ2 := Lib.hid hq2
    obtain ⟨q3, hq3⟩ : ∃ q, (q2 && z3) = q := ⟨_, rfl⟩
    have HQ3 := Lib.hid hq3
    obtain ⟨q4, hq4⟩ : ∃ q, (q3 && z4) = q := ⟨_, rfl⟩
    have HQ4 := Lib.hid hq4
    obtain ⟨q5, hq5⟩ : ∃ q, (q4 && z5) = q := ⟨_, rfl⟩
    have HQ5 := Lib.hid hq5
    obtain ⟨q6, hq6⟩ : ∃ q, (q5 && z6) = q := ⟨_, rfl⟩
    have HQ6 := Lib.hid hq6
    obtain ⟨q7, hq7⟩ : ∃ q, (q6 && z7) = q := ⟨_, rfl⟩
    have HQ7 := Lib.hid hq7
    obtain ⟨q8, hq8⟩ : ∃ q, (q7 && z8) = q := ⟨_, rfl⟩
    have HQ8 := Lib.hid hq8
    obtain ⟨q9, hq9⟩ : ∃ q, (q8 && z9) = q := ⟨_, rfl⟩
    have HQ9 := Lib.hid hq9
    have HR : Hid (q9 = r) := by show _ = _; rw [← HF.out, HQ1.out, HQ2.out, HQ3.out, HQ4.out, HQ5.out, HQ6.out, HQ7.out, HQ8.out, HQ9.out]
    clear HF hq1 hq2 hq3 hq4 hq5 hq6 hq7 hq8 hq9
    refine wpList_val rfl (.bool q1) (fun K hK => by have h := HQ1.out; subst h; go_simp; exact hK) ?_
    simp only [Act.put, List.setIfInBounds_toArray, List.set_cons_zero, List.set_cons_succ]
    refine wpList_sym q1 (.pointer (some ⟨w.heap.size, 2, none⟩)) (by cases q1 <;> rfl) (fun hc K hK => by subst hc; (try simp only [cond_true]); go_simp; exact hK) ?_
    simp only [Act.put, List.setIfInBounds_toArray, List.set_cons_zero, List.set_cons_succ]
    refine wpList_sym q1 (.agg #[.int .i64 pp, .int .i64 po, .int .i64 pc, .int .i64 ps]) (by cases q1 <;> rfl) (fun hc K hK => by subst hc; (try simp only [cond_true]); go_simp; exact hK) ?_
    simp only [Act.put, List.setIfInBounds_toArray, List.set_cons_zero, List.set_cons_succ]
    refine wpList_sym q1 (.pointer (some ⟨w.heap.size + 1, 2, none⟩)) (by cases q1 <;> rfl) (fun hc K hK => by subst hc; (try simp only [cond_true]); go_simp; exact hK) ?_
    simp only [Act.put, List.setIfInBounds_toArray, List.set_cons_zero, List.set_cons_succ]
    refine wpList_sym q1 (.agg #[.int .i64 pp', .int .i64 po', .int .i64 pc', .int .i64 ps']) (by cases q1 <;> rfl) (fun hc K hK => by subst hc; (try simp only [cond_true]); go_simp; exact hK) ?_
    simp only [Act.put, List.setIfInBounds_toArray, List.set_cons_zero, List.set_cons_succ]
    refine wpList_sym q1 (.bool z2) (by cases q1 <;> rfl) (fun hc K hK => by subst hc; (try simp only [cond_true]); go_simp; exact hK) ?_
    simp only [Act.put, List.setIfInBounds_toArray, List.set_cons_zero, List.set_cons_succ]
    refine wpList_val rfl (.bool q2) (fun K hK => by have h := HQ2.out; subst h; cases q1 <;> simp only [cond_true, cond_false, Bool.true_and, Bool.false_and] at hK ⊢ <;> go_simp <;> exact hK) ?_
    simp only [Act.put, List.setIfInBounds_toArray, List.set_cons_zero, List.set_cons_succ]
    refine wpList_val rfl (.bool q2) (fun K hK => by go_simp; exact hK) ?_
    simp only [Act.put, List.setIfInBounds_toArray, List.set_cons_zero, List.set_cons_succ]
    refine wpList_sym q2 (.pointer (some ⟨w.heap.size, 6, none⟩)) (by cases q2 <;> rfl) (fun hc K hK => by subst hc; (try simp only [cond_true]); go_simp; exact hK) ?_
    simp only [Act.put, List.setIfInBounds_toArray, List.set_cons_zero, List.set_cons_succ]
    refine wpList_sym q2 (.agg #[.int .i64 dp, .int .i64 dd, .int .i64 dc, .int .i64 ds]) (by cases q2 <;> rfl) (fun hc K hK => by subst hc; (try simp only [cond_true]); go_simp; exact hK) ?_
    simp only [Act.put, List.setIfInBounds_toArray, List.set_cons_zero, List.set_cons_succ]
    refine wpList_sym q2 (.pointer (some ⟨w.heap.size + 1, 6, none⟩)) (by cases q2 <;> rfl) (fun hc K hK => by subst hc; (try simp only [cond_true]); go_simp; exact hK) ?_
    simp only [Act.put, List.setIfInBounds_toArray, List.set_cons_zero, List.set_cons_succ]
    refine wpList_sym q2 (.agg #[.int .i64 dp', .int .i64 dd', .int .i64 dc', .int .i64 ds']) (by cases q2 <;> rfl) (fun hc K hK => by subst hc; (try simp only [cond_true]); go_simp; exact hK) ?_
    simp only [Act.put, List.setIfInBounds_toArray, List.set_cons_zero, List.set_cons_succ]
    refine wpList_sym q2 (.bool z3) (by cases q2 <;> rfl) (fun hc K hK => by subst hc; (try simp only [cond_true]); go_simp; exact hK) ?_
    simp only [Act.put, List.setIfInBounds_toArray, List.set_cons_zero, List.set_cons_succ]
    refine wpList_val rfl (.bool q3) (fun K hK => by have h := HQ3.out; subst h; cases q2 <;> simp only [cond_true, cond_false, Bool.true_and, Bool.false_and] at hK ⊢ <;> go_simp <;> exact hK) ?_
    simp only [Act.put, List.setIfInBounds_toArray, List.set_cons_zero, List.set_cons_succ]
    refine wpList_val rfl (.bool q3) (fun K hK => by go_simp; exact hK) ?_
    simp only [Act.put, List.setIfInBounds_toArray, List.set_cons_zero, List.set_cons_succ]
    refine wpList_sym q3 (.pointer (some ⟨w.heap.size, 10, none⟩)) (by cases q3 <;> rfl) (fun hc K hK => by subst hc; (try simp only [cond_true]); go_simp; exact hK) ?_
    simp only [Act.put, List.setIfInBounds_toArray, List.set_cons_zero, List.set_cons_succ]
    refine wpList_sym q3 (.int .i64 sk) (by cases q3 <;> rfl) (fun hc K hK => by subst hc; (try simp only [cond_true]); go_simp; exact hK) ?_
    simp only [Act.put, List.setIfInBounds_toArray, List.set_cons_zero, List.set_cons_succ]
    refine wpList_sym q3 (.pointer (some ⟨w.heap.size + 1, 10, none⟩)) (by cases q3 <;> rfl) (fun hc K hK => by subst hc; (try simp only [cond_true]); go_simp; exact hK) ?_
    simp only [Act.put, List.setIfInBounds_toArray, List.set_cons_zero, List.set_cons_succ]
    refine wpList_sym q3 (.int .i64 sk') (by cases q3 <;> rfl) (fun hc K hK => by subst hc; (try simp only [cond_true]); go_simp; exact hK) ?_
    simp only [Act.put, List.setIfInBounds_toArray, List.set_cons_zero, List.set_cons_succ]
    refine wpList_sym q3 (.bool z4) (by cases q3 <;> rfl) (fun hc K hK => by subst hc; (try simp only [cond_true]); go_simp; exact hK) ?_
    simp only [Act.put, List.setIfInBounds_toArray, List.set_cons_zero, List.set_cons_succ]
    refine wpList_val rfl (.bool q4) (fun K hK => by have h := HQ4.out; subst h; cases q3 <;> simp only [cond_true, cond_false, Bool.true_and, Bool.false_and] at hK ⊢ <;> go_simp <;> exact hK) ?_
    simp only [Act.put, List.setIfInBounds_toArray, List.set_cons_zero, List.set_cons_succ]
    refine wpList_val rfl (.bool q4) (fun K hK => by go_simp; exact hK) ?_
    simp only [Act.put, List.setIfInBounds_toArray, List.set_cons_zero, List.set_cons_succ]
    refine wpList_sym q4 (.pointer (some ⟨w.heap.size, 11, none⟩)) (by cases q4 <;> rfl) (fun hc K hK => by subst hc; (try simp only [cond_true]); go_simp; exact hK) ?_
    simp only [Act.put, List.setIfInBounds_toArray, List.set_cons_zero, List.set_cons_succ]
    refine wpList_sym q4 (.int .i64 pen) (by cases q4 <;> rfl) (fun hc K hK => by subst hc; (try simp only [cond_true]); go_simp; exact hK) ?_
    simp only [Act.put, List.setIfInBounds_toArray, List.set_cons_zero, List.set_cons_succ]
    refine wpList_sym q4 (.pointer (some ⟨w.heap.size + 1, 11, none⟩)) (by cases q4 <;> rfl) (fun hc K hK => by subst hc; (try simp only [cond_true]); go_simp; exact hK) ?_
    simp only [Act.put, List.setIfInBounds_toArray, List.set_cons_zero, List.set_cons_succ]
    refine wpList_sym q4 (.int .i64 pen') (by cases q4 <;> rfl) (fun hc K hK => by subst hc; (try simp only [cond_true]); go_simp; exact hK) ?_
    simp only [Act.put, List.setIfInBounds_toArray, List.set_cons_zero, List.set_cons_succ]
    refine wpList_sym q4 (.bool z5) (by cases q4 <;> rfl) (fun hc K hK => by subst hc; (try simp only [cond_true]); go_simp; exact hK) ?_
    simp only [Act.put, List.setIfInBounds_toArray, List.set_cons_zero, List.set_cons_succ]
    refine wpList_val rfl (.bool q5) (fun K hK => by have h := HQ5.out; subst h; cases q4 <;> simp only [cond_true, cond_false, Bool.true_and, Bool.false_and] at hK ⊢ <;> go_simp <;> exact hK) ?_
    simp only [Act.put, List.setIfInBounds_toArray, List.set_cons_zero, List.set_cons_succ]
    refine wpList_val rfl (.bool q5) (fun K hK => by go_simp; exact hK) ?_
    simp only [Act.put, List.setIfInBounds_toArray, List.set_cons_zero, List.set_cons_succ]
    refine wpList_sym q5 (.pointer (some ⟨w.heap.size, 12, none⟩)) (by cases q5 <;> rfl) (fun hc K hK => by subst hc; (try simp only [cond_true]); go_simp; exact hK) ?_
    simp only [Act.put, List.setIfInBounds_toArray, List.set_cons_zero, List.set_cons_succ]
    refine wpList_sym q5 (.int .i64 spl) (by cases q5 <;> rfl) (fun hc K hK => by subst hc; (try simp only [cond_true]); go_simp; exact hK) ?_
    simp only [Act.put, List.setIfInBounds_toArray, List.set_cons_zero, List.set_cons_succ]
    refine wpList_sym q5 (.pointer (some ⟨w.heap.size + 1, 12, none⟩)) (by cases q5 <;> rfl) (fun hc K hK => by subst hc; (try simp only [cond_true]); go_simp; exact hK) ?_
    simp only [Act.put, List.setIfInBounds_toArray, List.set_cons_zero, List.set_cons_succ]
    refine wpList_sym q5 (.int .i64 spl') (by cases q5 <;> rfl) (fun hc K hK => by subst hc; (try simp only [cond_true]); go_simp; exact hK) ?_
    simp only [Act.put, List.setIfInBounds_toArray, List.set_cons_zero, List.set_cons_succ]
    refine wpList_sym q5 (.bool z6) (by cases q5 <;> rfl) (fun hc K hK => by subst hc; (try simp only [cond_true]); go_simp; exact hK) ?_
    simp only [Act.put, List.setIfInBounds_toArray, List.set_cons_zero, List.set_cons_succ]
    refine wpList_val rfl (.bool q6) (fun K hK => by have h := HQ6.out; subst h; cases q5 <;> simp only [cond_true, cond_false, Bool.true_and, Bool.false_and] at hK ⊢ <;> go_simp <;> exact hK) ?_
    simp only [Act.put, List.setIfInBounds_toArray, List.set_cons_zero, List.set_cons_succ]
    refine wpList_val rfl (.bool q6) (fun K hK => by go_simp; exact hK) ?_
    simp only [Act.put, List.setIfInBounds_toArray, List.set_cons_zero, List.set_cons_succ]
    refine wpList_sym q6 (.pointer (some ⟨w.heap.size, 13, none⟩)) (by cases q6 <;> rfl) (fun hc K hK => by subst hc; (try simp only [cond_true]); go_simp; exact hK) ?_
    simp only [Act.put, List.setIfInBounds_toArray, List.set_cons_zero, List.set_cons_succ]
    refine wpList_sym q6 (.int .i64 las) (by cases q6 <;> rfl) (fun hc K hK => by subst hc; (try simp only [cond_true]); go_simp; exact hK) ?_
    simp only [Act.put, List.setIfInBounds_toArray, List.set_cons_zero, List.set_cons_succ]
    refine wpList_sym q6 (.pointer (some ⟨w.heap.size + 1, 13, none⟩)) (by cases q6 <;> rfl) (fun hc K hK => by subst hc; (try simp only [cond_true]); go_simp; exact hK) ?_
    simp only [Act.put, List.setIfInBounds_toArray, List.set_cons_zero, List.set_cons_succ]
    refine wpList_sym q6 (.int .i64 las') (by cases q6 <;> rfl) (fun hc K hK => by subst hc; (try simp only [cond_true]); go_simp; exact hK) ?_
    simp only [Act.put, List.setIfInBounds_toArray, List.set_cons_zero, List.set_cons_succ]
    refine wpList_sym q6 (.bool z7) (by cases q6 <;> rfl) (fun hc K hK => by subst hc; (try simp only [cond_true]); go_simp; exact hK) ?_
    simp only [Act.put, List.setIfInBounds_toArray, List.set_cons_zero, List.set_cons_succ]
    refine wpList_val rfl (.bool q7) (fun K hK => by have h := HQ7.out; subst h; cases q6 <;> simp only [cond_true, cond_false, Bool.true_and, Bool.false_and] at hK ⊢ <;> go_simp <;> exact hK) ?_
    simp only [Act.put, List.setIfInBounds_toArray, List.set_cons_zero, List.set_cons_succ]
    refine wpList_val rfl (.bool q7) (fun K hK => by go_simp; exact hK) ?_
    simp only [Act.put, List.setIfInBounds_toArray, List.set_cons_zero, List.set_cons_succ]
    refine wpList_sym q7 (.pointer (some ⟨w.heap.size, 14, none⟩)) (by cases q7 <;> rfl) (fun hc K hK => by subst hc; (try simp only [cond_true]); go_simp; exact hK) ?_
    simp only [Act.put, List.setIfInBounds_toArray, List.set_cons_zero, List.set_cons_succ]
    refine wpList_sym q7 (.int .i64 now) (by cases q7 <;> rfl) (fun hc K hK => by subst hc; (try simp only [cond_true]); go_simp; exact hK) ?_
    simp only [Act.put, List.setIfInBounds_toArray, List.set_cons_zero, List.set_cons_succ]
    refine wpList_sym q7 (.pointer (some ⟨w.heap.size + 1, 14, none⟩)) (by cases q7 <;> rfl) (fun hc K hK => by subst hc; (try simp only [cond_true]); go_simp; exact hK) ?_
    simp only [Act.put, List.setIfInBounds_toArray, List.set_cons_zero, List.set_cons_succ]
    refine wpList_sym q7 (.int .i64 now') (by cases q7 <;> rfl) (fun hc K hK => by subst hc; (try simp only [cond_true]); go_simp; exact hK) ?_
    simp only [Act.put, List.setIfInBounds_toArray, List.set_cons_zero, List.set_cons_succ]
    refine wpList_sym q7 (.bool z8) (by cases q7 <;> rfl) (fun hc K hK => by subst hc; (try simp only [cond_true]); go_simp; exact hK) ?_
    simp only [Act.put, List.setIfInBounds_toArray, List.set_cons_zero, List.set_cons_succ]
    refine wpList_val rfl (.bool q8) (fun K hK => by have h := HQ8.out; subst h; cases q7 <;> simp only [cond_true, cond_false, Bool.true_and, Bool.false_and] at hK ⊢ <;> go_simp <;> exact hK) ?_
    simp only [Act.put, List.setIfInBounds_toArray, List.set_cons_zero, List.set_cons_succ]
    refine wpList_val rfl (.bool q8) (fun K hK => by go_simp; exact hK) ?_
    simp only [Act.put, List.setIfInBounds_toArray, List.set_cons_zero, List.set_cons_succ]
    refine wpList_sym q8 (.pointer (some ⟨w.heap.size, 15, none⟩)) (by cases q8 <;> rfl) (fun hc K hK => by subst hc; (try simp only [cond_true]); go_simp; exact hK) ?_
    simp only [Act.put, List.setIfInBounds_toArray, List.set_cons_zero, List.set_cons_succ]
    refine wpList_sym q8 (.bool off) (by cases q8 <;> rfl) (fun hc K hK => by subst hc; (try simp only [cond_true]); go_simp; exact hK) ?_
    simp only [Act.put, List.setIfInBounds_toArray, List.set_cons_zero, List.set_cons_succ]
    refine wpList_sym q8 (.pointer (some ⟨w.heap.size + 1, 15, none⟩)) (by cases q8 <;> rfl) (fun hc K hK => by subst hc; (try simp only [cond_true]); go_simp; exact hK) ?_
    simp only [Act.put, List.setIfInBounds_toArray, List.set_cons_zero, List.set_cons_succ]
    refine wpList_sym q8 (.bool off') (by cases q8 <;> rfl) (fun hc K hK => by subst hc; (try simp only [cond_true]); go_simp; exact hK) ?_
    simp only [Act.put, List.setIfInBounds_toArray, List.set_cons_zero, List.set_cons_succ]
    refine wpList_sym q8 (.bool z9) (by cases q8 <;> rfl) (fun hc K hK => by subst hc; (try simp only [cond_true]); go_simp; exact hK) ?_
    simp only [Act.put, List.setIfInBounds_toArray, List.set_cons_zero, List.set_cons_succ]
    refine wpList_val rfl (.bool q9) (fun K hK => by have h := HQ9.out; subst h; cases q8 <;> simp only [cond_true, cond_false, Bool.true_and, Bool.false_and] at hK ⊢ <;> go_simp <;> exact hK) ?_
    simp only [Act.put, List.setIfInBounds_toArray, List.set_cons_zero, List.set_cons_succ]
    refine wpList_val rfl (.bool q9) (fun K hK => by go_simp; exact hK) ?_
    simp only [Act.put, List.setIfInBounds_toArray, List.set_cons_zero, List.set_cons_succ]
    refine wpList_nil ?_
    repeat (first | go_step | go_upon)
    go_ret
    exact ⟨ret_bool HR.out, B1.out⟩

end Go.Proofs.YtaallpebfcadjaaGreatDoor.T


/-! The walks of lorryref13's points and pairs (written by gen_refin4.py). -/
namespace Go.Proofs.YtaallpebfcadjaaGreatDoor.T
open Go.RowKit
set_option maxRecDepth 8000

set_option maxHeartbeats 1600000 in
theorem refPoints_n (u v : Value) (a b : List (Int × Int)) (hl : a.length ≤ 1000000) (w : World) (hu : Ps w u a) (hv : Ps w v b) :
    Calls Tryz.prog 76 #[u, v] w fun e w' => e = .returned (.bool (a == b)) ∧ Below w.heap.size w w' := by
  have HU := Lib.hid hu
  have HV := Lib.hid hv
  obtain ⟨oa, ca, rfl, -⟩ := hu
  obtain ⟨ob, cb, rfl, -⟩ := hv
  by_cases hab : a.length = b.length
  · have HY : Hid ((∀ i, i < a.length → a.getD i (0, 0) = b.getD i (0, 0)) → (a == b) = true) := fun h => eqb_of hab h
    have HNo : Hid (∀ i, a.getD i (0, 0) ≠ b.getD i (0, 0) → (a == b) = false) := fun i h => eqb_no h
    rw [← hab] at HV ⊢
    generalize (a == b) = r at *
    have HAB := Lib.hid hab
    generalize hn : a.length = n at *
    have HN := Lib.hid hn
    have hne : ((n : Int) != (n : Int)) = false := by simp
    have hgs : Tryz.prog.eqGuardType Tryz.prog.depth 105 = false := by kernel_rfl
    clear hn hab
    go_enter Tryz.func76, Tryz.ntmps76
    go_wp2_with fail
    go_loopg [5] n (fun g i wr => ∃ k : Nat, k ≤ n ∧ i = .int .i64 k ∧ n - k ≤ g ∧ Hid (∀ i, i < k → a.getD i (0, 0) = b.getD i (0, 0)) ∧ Hid (∀ z, Below w.heap.size w (wr.drewN z)))
    case atStart => exact ⟨0, Nat.zero_le _, rfl, Nat.le_refl _, fun i hi => absurd hi (Nat.not_lt_zero _), fun z => below_drewN (Below.refl _ _) z⟩
    case round =>
      obtain ⟨k, hk, rfl, hg, HK, HB⟩ := hrel
      have HB0 : Hid (Below w.heap.size w wr) := by have := HB.out 0; exact this
      by_cases hlt : k < n
      · have hkI : (k : Int) < (n : Int) := by omega
        obtain ⟨b1, o1, rfl, hab1, x0, x1⟩ := ps_at (by have := HU.out.below HB0.out; rw [← HN.out] at this; exact this) (show k < a.length by rw [HN.out]; exact hlt)
        obtain ⟨b2, o2, rfl, hab2, y0, y1⟩ := ps_at (by have := HV.out.below HB0.out; rw [HAB.out] at this; exact this) (show k < b.length by rw [← HAB.out]; exact hlt)
        have HNk := Lib.hid (HNo.out k)
        have HKm : Hid (a.getD k (0, 0) = b.getD k (0, 0) → ∀ i, i < k + 1 → a.getD i (0, 0) = b.getD i (0, 0)) := fun h i hi => by
          by_cases e : i = k
          · subst e; exact h
          · exact HK.out i (by omega)
        generalize a.getD k (0, 0) = p at *
        generalize b.getD k (0, 0) = q at *
        by_cases hpq : p = q
        · have HK2 := Lib.hid (HKm.out hpq)
          have hq := neqPt p.1 p.2 q.1 q.2
          rw [(pr_eq (p := p) (q := q)).2 hpq, Bool.not_true] at hq
          clear hpq
          go_upto_region 6 with fail
          go_quiet (fail)
          go_wp2_with fail
          go_roundg (n - (k + 1))
          case measure => omega
          case rel => exact ⟨k + 1, by omega, by go_num, by omega, HK2, fun z => below_drewN (below_drewN HB0.out _) z⟩
        · have HX : Hid (r = false) := HNk.out hpq
          have hq := neqPt p.1 p.2 q.1 q.2
          have hpf : (p.1 == q.1 && p.2 == q.2) = false := by
            cases h : (p.1 == q.1 && p.2 == q.2)
            · rfl
            · exact absurd (pr_eq.1 h) hpq
          rw [hpf, Bool.not_false] at hq
          clear hpq hpf
          go_upto_region 6 with fail
          go_quiet (fail)
          go_wp2_with fail
          go_ret
          exact ⟨ret_bool (by rw [HX.out]), below_drewN HB0.out _⟩
      · have hkk : k = n := by omega
        have hkI : ¬ (k : Int) < (n : Int) := by omega
        have HX : Hid (r = true) := HY.out (by rw [← hkk]; exact HK.out)
        go_wp2_with fail
        go_ret
        exact ⟨ret_bool (by rw [HX.out]), HB0.out⟩
  · have HX : Hid ((a == b) = false) := eqb_len hab
    have hne : ((a.length : Int) != (b.length : Int)) = true := ne_neN hab
    generalize (a == b) = r at *
    clear hab
    go_enter Tryz.func76, Tryz.ntmps76
    go_wp2_with fail
    go_ret
    exact ⟨ret_bool (by rw [HX.out]), Below.refl _ _⟩
set_option maxHeartbeats 1600000 in
theorem refPairs_n (u v : Value) (a b : List (Int × Int)) (hl : a.length ≤ 1000000) (w : World) (hu : Ps w u a) (hv : Ps w v b) :
    Calls Tryz.prog 49 #[u, v] w fun e w' => e = .returned (.bool (a == b)) ∧ Below w.heap.size w w' := by
  have HU := Lib.hid hu
  have HV := Lib.hid hv
  obtain ⟨oa, ca, rfl, -⟩ := hu
  obtain ⟨ob, cb, rfl, -⟩ := hv
  by_cases hab : a.length = b.length
  · have HY : Hid ((∀ i, i < a.length → a.getD i (0, 0) = b.getD i (0, 0)) → (a == b) = true) := fun h => eqb_of hab h
    have HNo : Hid (∀ i, a.getD i (0, 0) ≠ b.getD i (0, 0) → (a == b) = false) := fun i h => eqb_no h
    rw [← hab] at HV ⊢
    generalize (a == b) = r at *
    have HAB := Lib.hid hab
    generalize hn : a.length = n at *
    have HN := Lib.hid hn
    have hne : ((n : Int) != (n : Int)) = false := by simp
    have hgs : Tryz.prog.eqGuardType Tryz.prog.depth 75 = false := by kernel_rfl
    clear hn hab
    go_enter Tryz.func49, Tryz.ntmps49
    go_wp2_with fail
    go_loopg [5] n (fun g i wr => ∃ k : Nat, k ≤ n ∧ i = .int .i64 k ∧ n - k ≤ g ∧ Hid (∀ i, i < k → a.getD i (0, 0) = b.getD i (0, 0)) ∧ Hid (∀ z, Below w.heap.size w (wr.drewN z)))
    case atStart => exact ⟨0, Nat.zero_le _, rfl, Nat.le_refl _, fun i hi => absurd hi (Nat.not_lt_zero _), fun z => below_drewN (Below.refl _ _) z⟩
    case round =>
      obtain ⟨k, hk, rfl, hg, HK, HB⟩ := hrel
      have HB0 : Hid (Below w.heap.size w wr) := by have := HB.out 0; exact this
      by_cases hlt : k < n
      · have hkI : (k : Int) < (n : Int) := by omega
        obtain ⟨b1, o1, rfl, hab1, x0, x1⟩ := ps_at (by have := HU.out.below HB0.out; rw [← HN.out] at this; exact this) (show k < a.length by rw [HN.out]; exact hlt)
        obtain ⟨b2, o2, rfl, hab2, y0, y1⟩ := ps_at (by have := HV.out.below HB0.out; rw [HAB.out] at this; exact this) (show k < b.length by rw [← HAB.out]; exact hlt)
        have HNk := Lib.hid (HNo.out k)
        have HKm : Hid (a.getD k (0, 0) = b.getD k (0, 0) → ∀ i, i < k + 1 → a.getD i (0, 0) = b.getD i (0, 0)) := fun h i hi => by
          by_cases e : i = k
          · subst e; exact h
          · exact HK.out i (by omega)
        generalize a.getD k (0, 0) = p at *
        generalize b.getD k (0, 0) = q at *
        by_cases hpq : p = q
        · have HK2 := Lib.hid (HKm.out hpq)
          have hq := neqPr p.1 p.2 q.1 q.2
          rw [(pr_eq (p := p) (q := q)).2 hpq, Bool.not_true] at hq
          clear hpq
          go_upto_region 6 with fail
          go_quiet (fail)
          go_wp2_with fail
          go_roundg (n - (k + 1))
          case measure => omega
          case rel => exact ⟨k + 1, by omega, by go_num, by omega, HK2, fun z => below_drewN (below_drewN HB0.out _) z⟩
        · have HX : Hid (r = false) := HNk.out hpq
          have hq := neqPr p.1 p.2 q.1 q.2
          have hpf : (p.1 == q.1 && p.2 == q.2) = false := by
            cases h : (p.1 == q.1 && p.2 == q.2)
            · rfl
            · exact absurd (pr_eq.1 h) hpq
          rw [hpf, Bool.not_false] at hq
          clear hpq hpf
          go_upto_region 6 with fail
          go_quiet (fail)
          go_wp2_with fail
          go_ret
          exact ⟨ret_bool (by rw [HX.out]), below_drewN HB0.out _⟩
      · have hkk : k = n := by omega
        have hkI : ¬ (k : Int) < (n : Int) := by omega
        have HX : Hid (r = true) := HY.out (by rw [← hkk]; exact HK.out)
        go_wp2_with fail
        go_ret
        exact ⟨ret_bool (by rw [HX.out]), HB0.out⟩
  · have HX : Hid ((a == b) = false) := eqb_len hab
    have hne : ((a.length : Int) != (b.length : Int)) = true := ne_neN hab
    generalize (a == b) = r at *
    clear hab
    go_enter Tryz.func49, Tryz.ntmps49
    go_wp2_with fail
    go_ret
    exact ⟨ret_bool (by rw [HX.out]), Below.refl _ _⟩

end Go.Proofs.YtaallpebfcadjaaGreatDoor.T


/-! The walk of lorryref13's nets (written by gen_refin5.py). -/
namespace Go.Proofs.YtaallpebfcadjaaGreatDoor.T
open Go.RowKit
set_option maxRecDepth 8000

set_option maxHeartbeats 12800000 in
theorem refNets_n (o0 o1 o0' o1' : Option Addr) (c0 c1 c0' c1' : Nat) (pl pl' : List ByteArray) (al al' : List ArcT) (hl : pl.length ≤ 1000000 ∧ al.length ≤ 1000000) (ht : ∀ i, i < al.length → (al.getD i arc0).tr.length ≤ 1000000 ∧ (al.getD i arc0).sl.length ≤ 1000000) (w : World) (hp : Ss w (.slice o0 pl.length c0) pl) (ha : As w (.slice o1 al.length c1) al) (hp' : Ss w (.slice o0' pl'.length c0') pl') (ha' : As w (.slice o1' al'.length c1') al') :
    Calls Tryz.prog 46 #[.agg #[.slice o0 pl.length c0, .slice o1 al.length c1], .agg #[.slice o0' pl'.length c0', .slice o1' al'.length c1']] w fun e w' => e = .returned (.bool (netsB pl pl' al al')) ∧ Below w.heap.size w w' := by
  have B1 := below_alloc w (.cells #[.slice o0 pl.length c0, .slice o1 al.length c1] 25)
  have B0 := over B1 (below_alloc (w.alloc (.cells #[.slice o0 pl.length c0, .slice o1 al.length c1] 25)) (.cells #[.slice o0' pl'.length c0', .slice o1' al'.length c1'] 25))
  have M1 := (Nb.made w (.slice o0 pl.length c0) (.slice o1 al.length c1)).below (below_alloc (w.alloc (.cells #[.slice o0 pl.length c0, .slice o1 al.length c1] 25)) (.cells #[.slice o0' pl'.length c0', .slice o1' al'.length c1'] 25))
  have M2 := Nb.made (w.alloc (.cells #[.slice o0 pl.length c0, .slice o1 al.length c1] 25)) (.slice o0' pl'.length c0') (.slice o1' al'.length c1')
  rw [World.size_alloc] at M2
  have HP := Lib.hid (hp.below B0)
  have HA := Lib.hid (ha.below B0)
  have HP' := Lib.hid (hp'.below B0)
  have HA' := Lib.hid (ha'.below B0)
  obtain ⟨W0, hW0⟩ : ∃ W0, (w.alloc (.cells #[.slice o0 pl.length c0, .slice o1 al.length c1] 25)).alloc (.cells #[.slice o0' pl'.length c0', .slice o1' al'.length c1'] 25) = W0 := ⟨_, rfl⟩
  rw [hW0] at B0 M1 M2 HP HA HP' HA'
  have HW0 := Lib.hid hW0
  have HB := Lib.hid B0
  have HM1 := Lib.hid M1
  have HM2 := Lib.hid M2
  have m0 := M1.c0
  have m1 := M1.c1
  have m2 := M2.c0
  have m3 := M2.c1
  have HTt := Lib.hid ht
  clear B0 B1 M1 M2 hW0 hp ha hp' ha' ht
  have HE : Hid (((decide (pl.length = pl'.length) && decide (al.length = al'.length)) && (allI pl.length (fun i => samS (pl.getD i ⟨#[]⟩) (pl'.getD i ⟨#[]⟩)) && allI al.length (fun i => samA (al.getD i arc0) (al'.getD i arc0)))) = netsB pl pl' al al') := rfl
  generalize netsB pl pl' al al' = r at *
  have hqq : (w.alloc (.cells #[.slice o0 pl.length c0, .slice o1 al.length c1] 25)).heap.size = w.heap.size + 1 := by simp
  by_cases g1 : pl.length = pl'.length
  · by_cases g2 : al.length = al'.length
    · have HS1 : Hid (∀ i, i < pl.length → samS (pl.getD i ⟨#[]⟩) (pl'.getD i ⟨#[]⟩) = false → r = false) := fun i hi h => by rw [← HE.out, allI_no (p := fun i => samS (pl.getD i ⟨#[]⟩) (pl'.getD i ⟨#[]⟩)) hi h]; simp
      have HA1 : Hid (∀ i, i < al.length → samA (al.getD i arc0) (al'.getD i arc0) = false → r = false) := fun i hi h => by rw [← HE.out, allI_no (p := fun i => samA (al.getD i arc0) (al'.getD i arc0)) hi h]; simp
      have HY : Hid ((∀ i, i < pl.length → samS (pl.getD i ⟨#[]⟩) (pl'.getD i ⟨#[]⟩) = true) → (∀ i, i < al.length → samA (al.getD i arc0) (al'.getD i arc0) = true) → r = true) := fun h1 h2 => by
        rw [← HE.out, allI_yes h1, allI_yes h2, decide_eq_true g1, decide_eq_true g2]; rfl
      rw [← g1] at HP' m2 HM2 ⊢
      rw [← g2] at HA' m3 HM2 ⊢
      have HG1 := Lib.hid g1
      have HG2 := Lib.hid g2
      rw [← g1, ← g2] at HW0
      clear HE g1 g2
      generalize hn : pl.length = n at *
      generalize hm : al.length = m at *
      have HN := Lib.hid hn
      have HMm := Lib.hid hm
      have hl1 := hl.1
      have hl2 := hl.2
      clear hl
      have hne1 : ((n : Int) != (n : Int)) = false := by simp
      have hne2 : ((m : Int) != (m : Int)) = false := by simp
      clear hn hm
      go_enter Tryz.func46, Tryz.ntmps46
      go_upto_region 1 with fail
      rw [HW0.out]
      clear HW0
      go_wp2_with fail
      go_loopg [5] n (fun g j wr => ∃ k : Nat, k ≤ n ∧ j = .int .i64 k ∧ n - k ≤ g ∧ Hid (∀ i, i < k → samS (pl.getD i ⟨#[]⟩) (pl'.getD i ⟨#[]⟩) = true) ∧ Hid (∀ z, Below W0.heap.size W0 (wr.drewN z)))
      case atStart => exact ⟨0, Nat.zero_le _, rfl, Nat.le_refl _, fun i hi => absurd hi (Nat.not_lt_zero _), fun z => below_drewN (Below.refl _ _) z⟩
      case round =>
        obtain ⟨k, hk, rfl, hg, HK, HBz⟩ := hrel
        have HB0 : Hid (Below W0.heap.size W0 wr) := by have := HBz.out 0; exact this
        have m0 := (HM1.out.below HB0.out).c0
        have m1 := (HM1.out.below HB0.out).c1
        have m2 := (HM2.out.below HB0.out).c0
        have m3 := (HM2.out.below HB0.out).c1
        by_cases hlt : k < n
        · have hkI : (k : Int) < (n : Int) := by omega
          obtain ⟨q1, e1, hoa, h1⟩ := HP.out
          simp only [Value.slice.injEq] at hoa
          obtain ⟨rfl, -, rfl⟩ := hoa
          obtain ⟨a1, rfl, hab1, x0⟩ := h1 k (by rw [HN.out]; exact hlt)
          obtain ⟨q2, e2, hob, h2⟩ := HP'.out
          simp only [Value.slice.injEq] at hob
          obtain ⟨rfl, -, rfl⟩ := hob
          obtain ⟨a2, rfl, hab2, y0⟩ := h2 k (by rw [← HG1.out]; exact hlt)
          have x0 := (HB0.out.cell (p := a1.add k) (by rw [add_block]; exact hab1)).trans x0
          have y0 := (HB0.out.cell (p := a2.add k) (by rw [add_block]; exact hab2)).trans y0
          have HS1k := Lib.hid (HS1.out k hlt)
          have HKm := Lib.hid (fun h => less_mo (k := k) HK.out h)
          have HSm : Hid (samS (pl.getD k ⟨#[]⟩) (pl'.getD k ⟨#[]⟩) = ((pl.getD k ⟨#[]⟩).toList == (pl'.getD k ⟨#[]⟩).toList)) := rfl
          generalize samS (pl.getD k ⟨#[]⟩) (pl'.getD k ⟨#[]⟩) = sa at *
          generalize pl.getD k ⟨#[]⟩ = s at *
          generalize pl'.getD k ⟨#[]⟩ = s' at *
          obtain ⟨z, hz⟩ : ∃ z, (s.toList == s'.toList) = z := ⟨_, rfl⟩
          have hz2 : (s.toList != s'.toList) = !z := by rw [← hz]; rfl
          rw [hz] at HSm
          clear h1 h2
          cases z
          · have HX : Hid (r = false) := HS1k.out HSm.out
            go_upto_region 6 with fail
            go_quiet (fail)
            go_wp2_with fail
            go_ret
            exact ⟨ret_bool (by rw [HX.out]), over HB.out (below_drewN HB0.out _)⟩
          · have HK2 := Lib.hid (HKm.out HSm.out)
            go_upto_region 6 with fail
            go_quiet (fail)
            go_wp2_with fail
            go_roundg (n - (k + 1))
            case measure => omega
            case rel => exact ⟨k + 1, by omega, by go_num, Nat.le_refl _, HK2, fun z => below_drewN (below_drewN HB0.out _) z⟩
        · have hkk : k = n := by omega
          have hkI : ¬ (k : Int) < (n : Int) := by omega
          have HKn : Hid (∀ i, i < n → samS (pl.getD i ⟨#[]⟩) (pl'.getD i ⟨#[]⟩) = true) := by rw [← hkk]; exact HK.out
          clear HK HS1 hkk
          go_wp2_with fail
          go_loopg [6] m (fun g j wr => ∃ k : Nat, k ≤ m ∧ j = .int .i64 k ∧ m - k ≤ g ∧ Hid (∀ i, i < k → samA (al.getD i arc0) (al'.getD i arc0) = true) ∧ Hid (Below W0.heap.size W0 wr))
          case atStart => exact ⟨0, Nat.zero_le _, rfl, Nat.le_refl _, fun i hi => absurd hi (Nat.not_lt_zero _), HB0⟩
          case round =>
            clear m0 m1 m2 m3 HB0 HBz
            obtain ⟨k2, hk2, rfl, hg2, HK, HB0⟩ := hrel
            have m0 := (HM1.out.below HB0.out).c0
            have m1 := (HM1.out.below HB0.out).c1
            have m2 := (HM2.out.below HB0.out).c0
            have m3 := (HM2.out.below HB0.out).c1
            by_cases hlt2 : k2 < m
            · have hkI2 : (k2 : Int) < (m : Int) := by omega
              obtain ⟨q1, e1, hoa, h1⟩ := HA.out
              simp only [Value.slice.injEq] at hoa
              obtain ⟨rfl, -, rfl⟩ := hoa
              obtain ⟨b1, p1, vt, vs, rfl, hb1, hac, hpt, hps⟩ := h1 k2 (by rw [HMm.out]; exact hlt2)
              obtain ⟨q2, e2, hob, h2⟩ := HA'.out
              simp only [Value.slice.injEq] at hob
              obtain ⟨rfl, -, rfl⟩ := hob
              obtain ⟨b2, p2, vt', vs', rfl, hb2, hac', hpt', hps'⟩ := h2 k2 (by rw [← HG2.out]; exact hlt2)
              obtain ⟨x0, x1, x2, x3, x4, x5⟩ := hac.below hb1 HB0.out
              have HTk := HTt.out k2 hlt2
              have HT1 := Lib.hid (hpt.below HB0.out)
              have HT2 := Lib.hid (hps.below HB0.out)
              have HT3 := Lib.hid (hpt'.below HB0.out)
              have HT4 := Lib.hid (hps'.below HB0.out)
              have HA1k := Lib.hid (HA1.out k2 hlt2)
              have HKm := Lib.hid (fun h => less_mo (k := k2) HK.out h)
              have HSm : Hid (samA (al.getD k2 arc0) (al'.getD k2 arc0) = ((al.getD k2 arc0).fr == (al'.getD k2 arc0).fr && ((al.getD k2 arc0).to == (al'.getD k2 arc0).to && ((al.getD k2 arc0).prof == (al'.getD k2 arc0).prof && ((al.getD k2 arc0).miles == (al'.getD k2 arc0).miles && ((al.getD k2 arc0).tr == (al'.getD k2 arc0).tr && (al.getD k2 arc0).sl == (al'.getD k2 arc0).sl)))))) := rfl
              generalize samA (al.getD k2 arc0) (al'.getD k2 arc0) = sa at *
              generalize al.getD k2 arc0 = a at *
              generalize al'.getD k2 arc0 = a' at *
              obtain ⟨fr, tto, prof, miles, tr, sl⟩ := a
              obtain ⟨fr', tto', prof', miles', tr', sl'⟩ := a'
              have m5 := (HM2.out.below (over HB0.out (below_alloc wr (.cells #[.int .i64 fr, .int .i64 tto, .int .i64 prof, .int .i64 miles, vt, vs] 54)))).c1
              obtain ⟨y0, y1, y2, y3, y4, y5⟩ := hac'.below hb2 (over HB0.out (below_alloc wr (.cells #[.int .i64 fr, .int .i64 tto, .int .i64 prof, .int .i64 miles, vt, vs] 54)))
              simp only at x0 x1 x2 x3 x4 x5 y0 y1 y2 y3 y4 y5 HT1 HT2 HT3 HT4 HSm HTk
              clear h1 h2 hac hac' hpt hps hpt' hps'
              have KT := Lib.hid (fun w hu hv => refPoints_n vt vt' tr tr' HTk.1 w hu hv)
              have KS := Lib.hid (fun w hu hv => refPoints_n vs vs' sl sl' HTk.2 w hu hv)
              have hal := over (below_alloc wr (.cells #[.int .i64 fr, .int .i64 tto, .int .i64 prof, .int .i64 miles, vt, vs] 54)) (below_alloc (wr.alloc (.cells #[.int .i64 fr, .int .i64 tto, .int .i64 prof, .int .i64 miles, vt, vs] 54)) (.cells #[.int .i64 fr', .int .i64 tto', .int .i64 prof', .int .i64 miles', vt', vs'] 54))
              have A1 := (Ab.made wr (.int .i64 fr) (.int .i64 tto) (.int .i64 prof) (.int .i64 miles) vt vs).below (below_alloc (wr.alloc (.cells #[.int .i64 fr, .int .i64 tto, .int .i64 prof, .int .i64 miles, vt, vs] 54)) (.cells #[.int .i64 fr', .int .i64 tto', .int .i64 prof', .int .i64 miles', vt', vs'] 54))
              have A2 := Ab.made (wr.alloc (.cells #[.int .i64 fr, .int .i64 tto, .int .i64 prof, .int .i64 miles, vt, vs] 54)) (.int .i64 fr') (.int .i64 tto') (.int .i64 prof') (.int .i64 miles') vt' vs'
              rw [World.size_alloc] at A2
              have HB2 := Lib.hid (over HB0.out hal)
              have HT1 := Lib.hid (HT1.out.below hal)
              have HT2 := Lib.hid (HT2.out.below hal)
              have HT3 := Lib.hid (HT3.out.below hal)
              have HT4 := Lib.hid (HT4.out.below hal)
              obtain ⟨W3, hW3⟩ : ∃ W3, (wr.alloc (.cells #[.int .i64 fr, .int .i64 tto, .int .i64 prof, .int .i64 miles, vt, vs] 54)).alloc (.cells #[.int .i64 fr', .int .i64 tto', .int .i64 prof', .int .i64 miles', vt', vs'] 54) = W3 := ⟨_, rfl⟩
              rw [hW3] at A1 A2 HB2 HT1 HT2 HT3 HT4
              have HA1b := Lib.hid A1
              have HA2b := Lib.hid A2
              have HW3 := Lib.hid hW3
              clear hal A1 A2 hW3
              obtain ⟨ot1, ct1, rfl, ht1⟩ := HT1.out
              obtain ⟨ot2, ct2, rfl, ht2⟩ := HT2.out
              obtain ⟨ot3, ct3, rfl, ht3⟩ := HT3.out
              obtain ⟨ot4, ct4, rfl, ht4⟩ := HT4.out
              clear ht1 ht2 ht3 ht4
              go_upto_region 13 with fail
              rw [HW3.out]
              clear HW3 m5 x0 x1 x2 x3 x4 x5 y0 y1 y2 y3 y4 y5 m0 m1 m2 m3
              have c0 := HA1b.out.c0
              have d0 := HA2b.out.c0
              have c1 := HA1b.out.c1
              have d1 := HA2b.out.c1
              have c2 := HA1b.out.c2
              have d2 := HA2b.out.c2
              have c3 := HA1b.out.c3
              have d3 := HA2b.out.c3
              have c4 := HA1b.out.c4
              have d4 := HA2b.out.c4
              have c5 := HA1b.out.c5
              have d5 := HA2b.out.c5
              obtain ⟨z0, hz0⟩ : ∃ z, (fr != fr') = z := ⟨_, rfl⟩
              have hb5 : (fr == fr') = !z0 := by rw [← hz0]; simp [bne]
              rw [hb5] at HSm
              clear hb5
              cases z0
              rotate_left
              · have HX : Hid (r = false) := HA1k.out (by rw [HSm.out]; simp)
                clear KT KS
                go_wp2_with fail
                go_ret
                exact ⟨ret_bool (by rw [HX.out]), over HB.out HB2.out⟩
              obtain ⟨z1, hz1⟩ : ∃ z, (tto != tto') = z := ⟨_, rfl⟩
              have hb6 : (tto == tto') = !z1 := by rw [← hz1]; simp [bne]
              rw [hb6] at HSm
              clear hb6
              cases z1
              rotate_left
              · have HX : Hid (r = false) := HA1k.out (by rw [HSm.out]; simp)
                clear KT KS
                go_wp2_with fail
                go_ret
                exact ⟨ret_bool (by rw [HX.out]), over HB.out HB2.out⟩
              obtain ⟨z2, hz2⟩ : ∃ z, (prof != prof') = z := ⟨_, rfl⟩
              have hb7 : (prof == prof') = !z2 := by rw [← hz2]; simp [bne]
              rw [hb7] at HSm
              clear hb7
              cases z2
              rotate_left
              · have HX : Hid (r = false) := HA1k.out (by rw [HSm.out]; simp)
                clear KT KS
                go_wp2_with fail
                go_ret
                exact ⟨ret_bool (by rw [HX.out]), over HB.out HB2.out⟩
              obtain ⟨z3, hz3⟩ : ∃ z, (miles != miles') = z := ⟨_, rfl⟩
              have hb8 : (miles == miles') = !z3 := by rw [← hz3]; simp [bne]
              rw [hb8] at HSm
              clear hb8
              cases z3
              rotate_left
              · have HX : Hid (r = false) := HA1k.out (by rw [HSm.out]; simp)
                clear KT KS
                go_wp2_with fail
                go_ret
                exact ⟨ret_bool (by rw [HX.out]), over HB.out HB2.out⟩
              generalize (tr == tr') = z5 at *
              generalize (sl == sl') = z6 at *
              go_wp2_with fail
              refine (KT.out _ HT1.out HT3.out).mono ?_
              rintro e wz ⟨rfl, bz⟩
              have HA1c := Lib.hid (Ab.below HA1b.out bz)
              have HA2c := Lib.hid (Ab.below HA2b.out bz)
              have HB4 := Lib.hid (over HB2.out bz)
              have HT5 := Lib.hid (Sl.below HT2.out bz)
              have HT6 := Lib.hid (Sl.below HT4.out bz)
              clear bz c0 c1 c2 c3 c4 c5 d0 d1 d2 d3 d4 d5 KT
              have e5 := HA1c.out.c5
              have f5 := HA2c.out.c5
              cases z5
              · have HX : Hid (r = false) := HA1k.out (by rw [HSm.out]; simp)
                clear KS
                go_wp2_with fail
                go_ret
                exact ⟨ret_bool (by rw [HX.out]), over HB.out HB4.out⟩
              · go_wp2_with fail
                refine (KS.out _ HT5.out HT6.out).mono ?_
                rintro e wy ⟨rfl, by1⟩
                have HB5 := Lib.hid (over HB4.out by1)
                clear by1
                cases z6
                · have HX : Hid (r = false) := HA1k.out (by rw [HSm.out]; simp)
                  go_wp2_with fail
                  go_ret
                  exact ⟨ret_bool (by rw [HX.out]), over HB.out HB5.out⟩
                · have HK2 := Lib.hid (HKm.out (by rw [HSm.out]; rfl))
                  go_wp2_with fail
                  go_roundg (m - (k2 + 1))
                  case measure => omega
                  case rel => exact ⟨k2 + 1, by omega, by go_num, Nat.le_refl _, HK2, HB5⟩
            · have hkk2 : k2 = m := by omega
              have hkI2 : ¬ (k2 : Int) < (m : Int) := by omega
              have HX : Hid (r = true) := HY.out HKn.out (by rw [← hkk2]; exact HK.out)
              go_wp2_with fail
              go_ret
              exact ⟨ret_bool (by rw [HX.out]), over HB.out HB0.out⟩
    · have HX : Hid (r = false) := by show _ = _; rw [← HE.out, decide_eq_false g2]; simp
      rw [← g1] at m2 HW0 ⊢
      have hne1 : ((pl.length : Int) != (pl.length : Int)) = false := by simp
      have hne2 := ne_neN g2
      clear g1 g2 HE
      go_enter Tryz.func46, Tryz.ntmps46
      go_upto_region 1 with fail
      rw [HW0.out]
      go_wp2_with fail
      go_ret
      exact ⟨ret_bool (by rw [HX.out]), HB.out⟩
  · have HX : Hid (r = false) := by show _ = _; rw [← HE.out, decide_eq_false g1]; simp
    have hne1 := ne_neN g1
    clear g1 HE
    go_enter Tryz.func46, Tryz.ntmps46
    go_upto_region 1 with fail
    rw [HW0.out]
    go_wp2_with fail
    go_ret
    exact ⟨ret_bool (by rw [HX.out]), HB.out⟩

end Go.Proofs.YtaallpebfcadjaaGreatDoor.T


