/-
  DERIVED. The walk of OrderSame (written by gen_ordersame.py).
-/
import Derived.Test.YtalfonpkefhlmaaDoorOrdAwake
import Derived.Test.YtalfonpkefhlmaaDoorOrdTop3
import Derived.Deep.RegionHeld3
namespace Go.Proofs.YtalfonpkefhlmaaDoor.T
open Go.RowKit
set_option maxRecDepth 8000

/-- a load of an order whose block is known -/
theorem exec_order {o : Oper} {a : Act} {x : Operand} {n : Nat} {w : World} {x0 x1 x2 x3 x4 x5 x6 x7 x8 x9 x10 x11 x12 x13 x14 x15 : Value} (ho : o.op = Op.load 42 x) (hx : a.eval x = .pointer (some ⟨n, 0, none⟩)) (h : Ob w n x0 x1 x2 x3 x4 x5 x6 x7 x8 x9 x10 x11 x12 x13 x14 x15) :
    (execOp a.eval o).run Tryd.prog w = .ok (.value (.agg #[x0, x1, x2, x3, x4, x5, x6, x7, x8, x9, x10, x11, x12, x13, x14, x15])) w := by
  have c0 := h.c0
  have c1 := h.c1
  have c2 := h.c2
  have c3 := h.c3
  have c4 := h.c4
  have c5 := h.c5
  have c6 := h.c6
  have c7 := h.c7
  have c8 := h.c8
  have c9 := h.c9
  have c10 := h.c10
  have c11 := h.c11
  have c12 := h.c12
  have c13 := h.c13
  have c14 := h.c14
  have c15 := h.c15
  clear h
  unfold execOp
  rw [ho]
  simp only [hx]
  go_simp
theorem two_cells (w : World) (xs : List Value) (t : TypeId) (k : Nat) (v : Value) (h : xs[k]? = some v) : (w.alloc (.cells xs.toArray t)).cell? ⟨w.heap.size, k, none⟩ = some v := by
  have hb : (w.alloc (.cells xs.toArray t)).heap[w.heap.size]? = some (.cells xs.toArray t) := by
    show (w.heap.push _)[w.heap.size]? = _
    simp
  simp only [World.cell?]
  rw [hb]
  simpa using h
theorem os_two {w : World} (a b : OrT) (va vb : Value) (c : Nat) (ha : L.Li w va a.load) (hb : L.Li w vb b.load) :
    Os (w.alloc (.cells #[.string a.name, va, .int .i64 a.pp, .int .i64 a.po, .int .i64 a.pc, .int .i64 a.ps, .int .i64 a.dp, .int .i64 a.dd, .int .i64 a.dc, .int .i64 a.ds, .int .i64 a.sk, .int .i64 a.pen, .int .i64 a.spl, .int .i64 a.las, .int .i64 a.now, .bool a.off, .string b.name, vb, .int .i64 b.pp, .int .i64 b.po, .int .i64 b.pc, .int .i64 b.ps, .int .i64 b.dp, .int .i64 b.dd, .int .i64 b.dc, .int .i64 b.ds, .int .i64 b.sk, .int .i64 b.pen, .int .i64 b.spl, .int .i64 b.las, .int .i64 b.now, .bool b.off] 42)) (.slice (some ⟨w.heap.size, 0, none⟩) 2 c) [a, b] := by
  refine ⟨some ⟨w.heap.size, 0, none⟩, c, rfl, fun i hi => ?_⟩
  have h2 : i < 2 := hi
  match i, h2 with
  | 0, _ => exact ⟨w.heap.size, 0, va, rfl, by simp, ⟨two_cells w _ _ _ _ rfl, two_cells w _ _ _ _ rfl, two_cells w _ _ _ _ rfl, two_cells w _ _ _ _ rfl, two_cells w _ _ _ _ rfl, two_cells w _ _ _ _ rfl, two_cells w _ _ _ _ rfl, two_cells w _ _ _ _ rfl, two_cells w _ _ _ _ rfl, two_cells w _ _ _ _ rfl, two_cells w _ _ _ _ rfl, two_cells w _ _ _ _ rfl, two_cells w _ _ _ _ rfl, two_cells w _ _ _ _ rfl, two_cells w _ _ _ _ rfl, two_cells w _ _ _ _ rfl⟩, ha.below (below_alloc _ _)⟩
  | 1, _ => exact ⟨w.heap.size, 0, vb, rfl, by simp, ⟨two_cells w _ _ _ _ rfl, two_cells w _ _ _ _ rfl, two_cells w _ _ _ _ rfl, two_cells w _ _ _ _ rfl, two_cells w _ _ _ _ rfl, two_cells w _ _ _ _ rfl, two_cells w _ _ _ _ rfl, two_cells w _ _ _ _ rfl, two_cells w _ _ _ _ rfl, two_cells w _ _ _ _ rfl, two_cells w _ _ _ _ rfl, two_cells w _ _ _ _ rfl, two_cells w _ _ _ _ rfl, two_cells w _ _ _ _ rfl, two_cells w _ _ _ _ rfl, two_cells w _ _ _ _ rfl⟩, hb.below (below_alloc _ _)⟩
set_option maxHeartbeats 12800000 in
theorem orderSame_walk (a b : OrT) (oa ob : Option Addr) (ca cb : Nat) (hz1 : a.load.length ≤ 9223372036854775807 ∧ a.name.size ≤ 9223372036854775807) (hz2 : b.load.length ≤ 9223372036854775807 ∧ b.name.size ≤ 9223372036854775807) (w : World) (hA : L.Li w (.slice oa a.load.length ca) a.load) (hB : L.Li w (.slice ob b.load.length cb) b.load) (hT : S.Tab w) :
    Calls Tryd.prog 5 #[orV a (.slice oa a.load.length ca), orV b (.slice ob b.load.length cb)] w fun e w' => e = .returned (.bool true) ∧ Below w.heap.size w w' := by
  obtain ⟨nm, load, pp, po, pc, ps, dp, dd, dc, ds, sk, pen, spl, las, now, off⟩ := a
  obtain ⟨nm', load', pp', po', pc', ps', dp', dd', dc', ds', sk', pen', spl', las', now', off'⟩ := b
  unfold orV
  simp only at hA hB hz1 hz2 ⊢
  have BA := below_alloc w (.cells #[.string nm, .slice oa load.length ca, .int .i64 pp, .int .i64 po, .int .i64 pc, .int .i64 ps, .int .i64 dp, .int .i64 dd, .int .i64 dc, .int .i64 ds, .int .i64 sk, .int .i64 pen, .int .i64 spl, .int .i64 las, .int .i64 now, .bool off] 42)
  have BB := below_alloc (w.alloc (.cells #[.string nm, .slice oa load.length ca, .int .i64 pp, .int .i64 po, .int .i64 pc, .int .i64 ps, .int .i64 dp, .int .i64 dd, .int .i64 dc, .int .i64 ds, .int .i64 sk, .int .i64 pen, .int .i64 spl, .int .i64 las, .int .i64 now, .bool off] 42)) (.cells #[.string nm', .slice ob load'.length cb, .int .i64 pp', .int .i64 po', .int .i64 pc', .int .i64 ps', .int .i64 dp', .int .i64 dd', .int .i64 dc', .int .i64 ds', .int .i64 sk', .int .i64 pen', .int .i64 spl', .int .i64 las', .int .i64 now', .bool off'] 42)
  have TA := (Ob.made w (.string nm) (.slice oa load.length ca) (.int .i64 pp) (.int .i64 po) (.int .i64 pc) (.int .i64 ps) (.int .i64 dp) (.int .i64 dd) (.int .i64 dc) (.int .i64 ds) (.int .i64 sk) (.int .i64 pen) (.int .i64 spl) (.int .i64 las) (.int .i64 now) (.bool off)).below BB
  have TB := Ob.made (w.alloc (.cells #[.string nm, .slice oa load.length ca, .int .i64 pp, .int .i64 po, .int .i64 pc, .int .i64 ps, .int .i64 dp, .int .i64 dd, .int .i64 dc, .int .i64 ds, .int .i64 sk, .int .i64 pen, .int .i64 spl, .int .i64 las, .int .i64 now, .bool off] 42)) (.string nm') (.slice ob load'.length cb) (.int .i64 pp') (.int .i64 po') (.int .i64 pc') (.int .i64 ps') (.int .i64 dp') (.int .i64 dd') (.int .i64 dc') (.int .i64 ds') (.int .i64 sk') (.int .i64 pen') (.int .i64 spl') (.int .i64 las') (.int .i64 now') (.bool off')
  rw [show (w.alloc (.cells #[.string nm, .slice oa load.length ca, .int .i64 pp, .int .i64 po, .int .i64 pc, .int .i64 ps, .int .i64 dp, .int .i64 dd, .int .i64 dc, .int .i64 ds, .int .i64 sk, .int .i64 pen, .int .i64 spl, .int .i64 las, .int .i64 now, .bool off] 42)).heap.size = w.heap.size + 1 by simp] at TB
  have B0 := over BA BB
  have CA := hA.below B0
  have CB := hB.below B0
  obtain ⟨W0, hW0⟩ : ∃ W0, (w.alloc (.cells #[.string nm, .slice oa load.length ca, .int .i64 pp, .int .i64 po, .int .i64 pc, .int .i64 ps, .int .i64 dp, .int .i64 dd, .int .i64 dc, .int .i64 ds, .int .i64 sk, .int .i64 pen, .int .i64 spl, .int .i64 las, .int .i64 now, .bool off] 42)).alloc (.cells #[.string nm', .slice ob load'.length cb, .int .i64 pp', .int .i64 po', .int .i64 pc', .int .i64 ps', .int .i64 dp', .int .i64 dd', .int .i64 dc', .int .i64 ds', .int .i64 sk', .int .i64 pen', .int .i64 spl', .int .i64 las', .int .i64 now', .bool off'] 42) = W0 := ⟨_, rfl⟩
  rw [hW0] at TA TB B0 CA CB
  have HF := Lib.hid (fewO_n (.slice (some ⟨W0.heap.size, 0, none⟩) 2 2) [⟨nm, load, pp, po, pc, ps, dp, dd, dc, ds, sk, pen, spl, las, now, off⟩, ⟨nm', load', pp', po', pc', ps', dp', dd', dc', ds', sk', pen', spl', las', now', off'⟩] (by simp) (fun i hi => by
    have h2 : i < 2 := hi
    match i, h2 with
    | 0, _ => exact hz1
    | 1, _ => exact hz2) (W0.alloc (.cells #[.string nm, .slice oa load.length ca, .int .i64 pp, .int .i64 po, .int .i64 pc, .int .i64 ps, .int .i64 dp, .int .i64 dd, .int .i64 dc, .int .i64 ds, .int .i64 sk, .int .i64 pen, .int .i64 spl, .int .i64 las, .int .i64 now, .bool off, .string nm', .slice ob load'.length cb, .int .i64 pp', .int .i64 po', .int .i64 pc', .int .i64 ps', .int .i64 dp', .int .i64 dd', .int .i64 dc', .int .i64 ds', .int .i64 sk', .int .i64 pen', .int .i64 spl', .int .i64 las', .int .i64 now', .bool off'] 42)) (os_two ⟨nm, load, pp, po, pc, ps, dp, dd, dc, ds, sk, pen, spl, las, now, off⟩ ⟨nm', load', pp', po', pc', ps', dp', dd', dc', ds', sk', pen', spl', las', now', off'⟩ (.slice oa load.length ca) (.slice ob load'.length cb) 2 CA CB))
  have BD := below_alloc W0 (.cells #[.string nm, .slice oa load.length ca, .int .i64 pp, .int .i64 po, .int .i64 pc, .int .i64 ps, .int .i64 dp, .int .i64 dd, .int .i64 dc, .int .i64 ds, .int .i64 sk, .int .i64 pen, .int .i64 spl, .int .i64 las, .int .i64 now, .bool off, .string nm', .slice ob load'.length cb, .int .i64 pp', .int .i64 po', .int .i64 pc', .int .i64 ps', .int .i64 dp', .int .i64 dd', .int .i64 dc', .int .i64 ds', .int .i64 sk', .int .i64 pen', .int .i64 spl', .int .i64 las', .int .i64 now', .bool off'] 42)
  have HT := Lib.hid ((hT.over B0).over BD)
  have HB := Lib.hid (over B0 BD)
  have CA := Lib.hid (CA.below BD)
  have CB := Lib.hid (CB.below BD)
  have c0 := TA.c0
  have d0 := TB.c0
  have c1 := TA.c1
  have d1 := TB.c1
  have c2 := TA.c2
  have d2 := TB.c2
  have c3 := TA.c3
  have d3 := TB.c3
  have c4 := TA.c4
  have d4 := TB.c4
  have c5 := TA.c5
  have d5 := TB.c5
  have c6 := TA.c6
  have d6 := TB.c6
  have c7 := TA.c7
  have d7 := TB.c7
  have c8 := TA.c8
  have d8 := TB.c8
  have c9 := TA.c9
  have d9 := TB.c9
  have c10 := TA.c10
  have d10 := TB.c10
  have c11 := TA.c11
  have d11 := TB.c11
  have c12 := TA.c12
  have d12 := TB.c12
  have c13 := TA.c13
  have d13 := TB.c13
  have c14 := TA.c14
  have d14 := TB.c14
  have c15 := TA.c15
  have d15 := TB.c15
  have TA := Lib.hid (TA.below BD)
  have TB := Lib.hid (TB.below BD)
  have hla := TA.out.lt
  have HW0 := Lib.hid hW0
  clear hW0 B0 BA BB BD hA hB hT
  cases hb : fewO [⟨nm, load, pp, po, pc, ps, dp, dd, dc, ds, sk, pen, spl, las, now, off⟩, ⟨nm', load', pp', po', pc', ps', dp', dd', dc', ds', sk', pen', spl', las', now', off'⟩]
  · rw [hb] at HF
    clear hb hz1 hz2 CA CB
    go_enter Tryd.func5, Tryd.ntmps5
    go_upto_region 1 with fail
    rw [HW0.out]
    clear HW0
    go_wp2_with fail
    refine HF.out.mono ?_
    rintro e w1 ⟨rfl, rfl⟩
    go_wp2_with fail
    refine (awake_n _ HT.out).mono ?_
    rintro e w2 ⟨rfl, b2⟩
    have B2 := Lib.hid (over HB.out b2)
    clear b2
    go_wp2_with fail
    go_ret
    exact ⟨rfl, B2.out⟩
  · obtain ⟨-, hcs⟩ := few_spec hb
    have hs1 := (hcs 0 (by simp)).1
    have hs2 := (hcs 1 (by simp)).1
    simp only [List.getD_cons_zero, List.getD_cons_succ] at hs1 hs2
    rw [hb] at HF
    have ha9 : load.length ≤ 1000000000 := by omega
    have hb9 : load'.length ≤ 1000000000 := by omega
    have KS1 := Lib.hid (fun w hA hB => ordSame_n ⟨nm, load, pp, po, pc, ps, dp, dd, dc, ds, sk, pen, spl, las, now, off⟩ ⟨nm', load', pp', po', pc', ps', dp', dd', dc', ds', sk', pen', spl', las', now', off'⟩ oa ob ca cb ha9 hb9 w hA hB)
    have KS2 := Lib.hid (fun w hA hB => ordSame_n ⟨nm', load', pp', po', pc', ps', dp', dd', dc', ds', sk', pen', spl', las', now', off'⟩ ⟨nm, load, pp, po, pc, ps, dp, dd, dc, ds, sk, pen, spl, las, now, off⟩ ob oa cb ca hb9 ha9 w hA hB)
    have KS3 := Lib.hid (fun w hA hB => ordSame_n ⟨nm, load, pp, po, pc, ps, dp, dd, dc, ds, sk, pen, spl, las, now, off⟩ ⟨nm, load, pp, po, pc, ps, dp, dd, dc, ds, sk, pen, spl, las, now, off⟩ oa oa ca ca ha9 ha9 w hA hB)
    have RS1 := Lib.hid (fun w hA hB => refSameO_n ⟨nm, load, pp, po, pc, ps, dp, dd, dc, ds, sk, pen, spl, las, now, off⟩ ⟨nm', load', pp', po', pc', ps', dp', dd', dc', ds', sk', pen', spl', las', now', off'⟩ oa ob ca cb (Nat.le_trans ha9 (by omega)) (Nat.le_trans hb9 (by omega)) w hA hB)
    rw [sameO_comm ⟨nm', load', pp', po', pc', ps', dp', dd', dc', ds', sk', pen', spl', las', now', off'⟩ ⟨nm, load, pp, po, pc, ps, dp, dd, dc, ds, sk, pen, spl, las, now, off⟩] at KS2
    rw [sameO_refl] at KS3
    unfold orV at KS1 KS2 KS3 RS1
    simp only at KS1 KS2 KS3 RS1
    generalize sameO ⟨nm, load, pp, po, pc, ps, dp, dd, dc, ds, sk, pen, spl, las, now, off⟩ ⟨nm', load', pp', po', pc', ps', dp', dd', dc', ds', sk', pen', spl', las', now', off'⟩ = r at *
    clear hb hcs hs1 hs2 ha9 hb9 hz1 hz2
    go_enter Tryd.func5, Tryd.ntmps5
    go_upto_region 1 with fail
    rw [HW0.out]
    clear HW0
    go_wp2_with fail
    refine HF.out.mono ?_
    rintro e w1 ⟨rfl, rfl⟩
    clear HF
    go_upto_region 3 with fail
    clear c0 d0 c1 d1 c2 d2 c3 d3 c4 d4 c5 d5 c6 d6 c7 d7 c8 d8 c9 d9 c10 d10 c11 d11 c12 d12 c13 d13 c14 d14 c15 d15
    obtain ⟨W1, hW1⟩ : ∃ W1, W0.alloc (.cells #[.string nm, .slice oa load.length ca, .int .i64 pp, .int .i64 po, .int .i64 pc, .int .i64 ps, .int .i64 dp, .int .i64 dd, .int .i64 dc, .int .i64 ds, .int .i64 sk, .int .i64 pen, .int .i64 spl, .int .i64 las, .int .i64 now, .bool off, .string nm', .slice ob load'.length cb, .int .i64 pp', .int .i64 po', .int .i64 pc', .int .i64 ps', .int .i64 dp', .int .i64 dd', .int .i64 dc', .int .i64 ds', .int .i64 sk', .int .i64 pen', .int .i64 spl', .int .i64 las', .int .i64 now', .bool off'] 42) = W1 := ⟨_, rfl⟩
    rw [hW1] at HT HB CA CB TA TB ⊢
    clear hW1 hla
    have TA : Hid (Ob W1.drew w.heap.size (.string nm) (.slice oa load.length ca) (.int .i64 pp) (.int .i64 po) (.int .i64 pc) (.int .i64 ps) (.int .i64 dp) (.int .i64 dd) (.int .i64 dc) (.int .i64 ds) (.int .i64 sk) (.int .i64 pen) (.int .i64 spl) (.int .i64 las) (.int .i64 now) (.bool off)) := TA
    have TB : Hid (Ob W1.drew (w.heap.size + 1) (.string nm') (.slice ob load'.length cb) (.int .i64 pp') (.int .i64 po') (.int .i64 pc') (.int .i64 ps') (.int .i64 dp') (.int .i64 dd') (.int .i64 dc') (.int .i64 ds') (.int .i64 sk') (.int .i64 pen') (.int .i64 spl') (.int .i64 las') (.int .i64 now') (.bool off')) := TB
    have HB : Hid (Below w.heap.size w W1.drew) := below_drew HB.out
    have HT : Hid (S.Tab W1.drew) := HT
    have CA : Hid (L.Li W1.drew (.slice oa load.length ca) load) := CA
    have CB : Hid (L.Li W1.drew (.slice ob load'.length cb) load') := CB
    have AW := Lib.hid (fun w hT => awake_n w hT)
    have hrr : (r == r) = true := by simp
    refine wp_region_noPanic ?_
    refine wp_region_held_drew (S := fun w' => Ob w' w.heap.size (.string nm) (.slice oa load.length ca) (.int .i64 pp) (.int .i64 po) (.int .i64 pc) (.int .i64 ps) (.int .i64 dp) (.int .i64 dd) (.int .i64 dc) (.int .i64 ds) (.int .i64 sk) (.int .i64 pen) (.int .i64 spl) (.int .i64 las) (.int .i64 now) (.bool off) ∧ Ob w' (w.heap.size + 1) (.string nm') (.slice ob load'.length cb) (.int .i64 pp') (.int .i64 po') (.int .i64 pc') (.int .i64 ps') (.int .i64 dp') (.int .i64 dd') (.int .i64 dc') (.int .i64 ds') (.int .i64 sk') (.int .i64 pen') (.int .i64 spl') (.int .i64 las') (.int .i64 now') (.bool off')) (by kernel_rfl) ⟨TA.out, TB.out⟩ (fun hHeld => ?_)
    refine wpAnyH_take (i := 0) (oi := { dst := some 11, op := Op.load 42 (Operand.tmp 2), type := 42, pos := "law.go:126", after := #[], guard := none }) (v := .agg #[.string nm, .slice oa load.length ca, .int .i64 pp, .int .i64 po, .int .i64 pc, .int .i64 ps, .int .i64 dp, .int .i64 dd, .int .i64 dc, .int .i64 ds, .int .i64 sk, .int .i64 pen, .int .i64 spl, .int .i64 las, .int .i64 now, .bool off]) rfl (by kernel_rfl) (by kernel_rfl) (by kernel_rfl) (fun _ _ _ h => h) (Or.inl ⟨by rfl, fun w0 hSw => exec_order rfl rfl hSw.1⟩) hHeld ?_
    simp only [Act.put, List.setIfInBounds_toArray, List.set_cons_zero, List.set_cons_succ]
    refine wpAnyH_take (i := 1) (oi := { dst := some 12, op := Op.load 42 (Operand.tmp 3), type := 42, pos := "law.go:126", after := #[], guard := none }) (v := .agg #[.string nm', .slice ob load'.length cb, .int .i64 pp', .int .i64 po', .int .i64 pc', .int .i64 ps', .int .i64 dp', .int .i64 dd', .int .i64 dc', .int .i64 ds', .int .i64 sk', .int .i64 pen', .int .i64 spl', .int .i64 las', .int .i64 now', .bool off']) rfl (by kernel_rfl) (by kernel_rfl) (by kernel_rfl) (fun _ _ _ h => h) (Or.inl ⟨by rfl, fun w0 hSw => exec_order rfl rfl hSw.2⟩) hHeld ?_
    simp only [Act.put, List.setIfInBounds_toArray, List.set_cons_zero, List.set_cons_succ]
    refine wpAnyH_take (i := 3) (oi := { dst := some 14, op := Op.load 42 (Operand.tmp 2), type := 42, pos := "law.go:126", after := #[], guard := none }) (v := .agg #[.string nm, .slice oa load.length ca, .int .i64 pp, .int .i64 po, .int .i64 pc, .int .i64 ps, .int .i64 dp, .int .i64 dd, .int .i64 dc, .int .i64 ds, .int .i64 sk, .int .i64 pen, .int .i64 spl, .int .i64 las, .int .i64 now, .bool off]) rfl (by kernel_rfl) (by kernel_rfl) (by kernel_rfl) (fun _ _ _ h => h) (Or.inl ⟨by rfl, fun w0 hSw => exec_order rfl rfl hSw.1⟩) hHeld ?_
    simp only [Act.put, List.setIfInBounds_toArray, List.set_cons_zero, List.set_cons_succ]
    refine wpAnyH_take (i := 4) (oi := { dst := some 15, op := Op.load 42 (Operand.tmp 3), type := 42, pos := "law.go:126", after := #[], guard := none }) (v := .agg #[.string nm', .slice ob load'.length cb, .int .i64 pp', .int .i64 po', .int .i64 pc', .int .i64 ps', .int .i64 dp', .int .i64 dd', .int .i64 dc', .int .i64 ds', .int .i64 sk', .int .i64 pen', .int .i64 spl', .int .i64 las', .int .i64 now', .bool off']) rfl (by kernel_rfl) (by kernel_rfl) (by kernel_rfl) (fun _ _ _ h => h) (Or.inl ⟨by rfl, fun w0 hSw => exec_order rfl rfl hSw.2⟩) hHeld ?_
    simp only [Act.put, List.setIfInBounds_toArray, List.set_cons_zero, List.set_cons_succ]
    refine wpAnyH_ready (rs := [2]) (by kernel_rfl) (by simp) ?_
    refine AllReadyH.cons (o := { dst := some 13, op := Op.call { callee := Callee.value (Operand.func 15), args := #[Operand.tmp 11, Operand.tmp 12], argTypes := #[42, 42] }, type := 4, pos := "law.go:126", after := #[{ on := 0, ground := Ground.data }, { on := 1, ground := Ground.data }], guard := none }) rfl (fun K hK => ?_) AllReadyH.nil
    go_simp
    go_at_call 15
    refine (KS1.out _ CA.out CB.out).mono ?_
    rintro e1 wz ⟨rfl, bz⟩
    have TA := Lib.hid (Ob.below TA.out bz)
    have TB := Lib.hid (Ob.below TB.out bz)
    have HB := Lib.hid (over HB.out bz)
    have HT := Lib.hid (HT.out.over bz)
    have CA := Lib.hid (CA.out.below bz)
    have CB := Lib.hid (CB.out.below bz)
    clear bz
    go_wp2_with fail
    refine hK.out _ _ ⟨TA.out, TB.out⟩ (fun hHeld => ?_)
    clear hK K
    refine wpAnyH_ready (rs := [5]) (by kernel_rfl) (by simp) ?_
    refine AllReadyH.cons (o := { dst := some 16, op := Op.call { callee := Callee.value (Operand.func 16), args := #[Operand.tmp 14, Operand.tmp 15], argTypes := #[42, 42] }, type := 4, pos := "law.go:126", after := #[{ on := 3, ground := Ground.data }, { on := 4, ground := Ground.data }, { on := 2, ground := Ground.chain }], guard := none }) rfl (fun K hK => ?_) AllReadyH.nil
    go_simp
    go_at_call 16
    refine (RS1.out _ CA.out CB.out).mono ?_
    rintro e1 wz ⟨rfl, bz⟩
    have TA := Lib.hid (Ob.below TA.out bz)
    have TB := Lib.hid (Ob.below TB.out bz)
    have HB := Lib.hid (over HB.out bz)
    have HT := Lib.hid (HT.out.over bz)
    have CA := Lib.hid (CA.out.below bz)
    have CB := Lib.hid (CB.out.below bz)
    clear bz
    go_wp2_with fail
    refine hK.out _ _ ⟨TA.out, TB.out⟩ (fun hHeld => ?_)
    clear hK K
    refine wpAnyH_take (i := 6) (oi := { dst := some 17, op := Op.binOp BinOp.eql 4 (Operand.tmp 13) (Operand.tmp 16) 4, type := 4, pos := "law.go:126", after := #[{ on := 2, ground := Ground.data }, { on := 5, ground := Ground.data }], guard := none }) (v := .bool true) rfl (by kernel_rfl) (by kernel_rfl) (by kernel_rfl) (fun _ _ _ h => h) (Or.inl ⟨by rfl, by intro w0 hSw; go_simp⟩) hHeld ?_
    simp only [Act.put, List.setIfInBounds_toArray, List.set_cons_zero, List.set_cons_succ]
    refine wpAnyH_take (i := 7) (oi := { dst := some 18, op := Op.move (Operand.tmp 17), type := 4, pos := "law.go:126", after := #[{ on := 6, ground := Ground.data }, { on := 5, ground := Ground.chain }], guard := none }) (v := .bool true) rfl (by kernel_rfl) (by kernel_rfl) (by kernel_rfl) (fun _ _ _ h => h) (Or.inl ⟨by rfl, by intro w0 hSw; go_simp⟩) hHeld ?_
    simp only [Act.put, List.setIfInBounds_toArray, List.set_cons_zero, List.set_cons_succ]
    refine wpAnyH_take (i := 8) (oi := { dst := some 19, op := Op.load 42 (Operand.tmp 2), type := 42, pos := "law.go:126", after := #[{ on := 7, ground := Ground.guard }], guard := some (7, true) }) (v := .agg #[.string nm, .slice oa load.length ca, .int .i64 pp, .int .i64 po, .int .i64 pc, .int .i64 ps, .int .i64 dp, .int .i64 dd, .int .i64 dc, .int .i64 ds, .int .i64 sk, .int .i64 pen, .int .i64 spl, .int .i64 las, .int .i64 now, .bool off]) rfl (by kernel_rfl) (by kernel_rfl) (by kernel_rfl) (fun _ _ _ h => h) (Or.inl ⟨by rfl, fun w0 hSw => exec_order rfl rfl hSw.1⟩) hHeld ?_
    simp only [Act.put, List.setIfInBounds_toArray, List.set_cons_zero, List.set_cons_succ]
    refine wpAnyH_take (i := 9) (oi := { dst := some 20, op := Op.load 42 (Operand.tmp 2), type := 42, pos := "law.go:126", after := #[{ on := 7, ground := Ground.guard }], guard := some (7, true) }) (v := .agg #[.string nm, .slice oa load.length ca, .int .i64 pp, .int .i64 po, .int .i64 pc, .int .i64 ps, .int .i64 dp, .int .i64 dd, .int .i64 dc, .int .i64 ds, .int .i64 sk, .int .i64 pen, .int .i64 spl, .int .i64 las, .int .i64 now, .bool off]) rfl (by kernel_rfl) (by kernel_rfl) (by kernel_rfl) (fun _ _ _ h => h) (Or.inl ⟨by rfl, fun w0 hSw => exec_order rfl rfl hSw.1⟩) hHeld ?_
    simp only [Act.put, List.setIfInBounds_toArray, List.set_cons_zero, List.set_cons_succ]
    refine wpAnyH_ready (rs := [10]) (by kernel_rfl) (by simp) ?_
    refine AllReadyH.cons (o := { dst := some 21, op := Op.call { callee := Callee.value (Operand.func 15), args := #[Operand.tmp 19, Operand.tmp 20], argTypes := #[42, 42] }, type := 4, pos := "law.go:126", after := #[{ on := 8, ground := Ground.data }, { on := 9, ground := Ground.data }, { on := 7, ground := Ground.chain }, { on := 7, ground := Ground.guard }], guard := some (7, true) }) rfl (fun K hK => ?_) AllReadyH.nil
    go_simp
    go_at_call 15
    refine (KS3.out _ CA.out CA.out).mono ?_
    rintro e1 wz ⟨rfl, bz⟩
    have TA := Lib.hid (Ob.below TA.out bz)
    have TB := Lib.hid (Ob.below TB.out bz)
    have HB := Lib.hid (over HB.out bz)
    have HT := Lib.hid (HT.out.over bz)
    have CA := Lib.hid (CA.out.below bz)
    have CB := Lib.hid (CB.out.below bz)
    clear bz
    go_wp2_with fail
    refine hK.out _ _ ⟨TA.out, TB.out⟩ (fun hHeld => ?_)
    clear hK K
    refine wpAnyH_take (i := 11) (oi := { dst := some 22, op := Op.pick (Operand.tmp 18) (Operand.tmp 21) (Operand.const (Value.bool false)), type := 4, pos := "law.go:126", after := #[{ on := 7, ground := Ground.data }, { on := 10, ground := Ground.data }], guard := none }) (v := .bool true) rfl (by kernel_rfl) (by kernel_rfl) (by kernel_rfl) (fun _ _ _ h => h) (Or.inl ⟨by rfl, by intro w0 hSw; go_simp⟩) hHeld ?_
    simp only [Act.put, List.setIfInBounds_toArray, List.set_cons_zero, List.set_cons_succ]
    refine wpAnyH_take (i := 12) (oi := { dst := some 23, op := Op.move (Operand.tmp 22), type := 4, pos := "law.go:126", after := #[{ on := 11, ground := Ground.data }, { on := 10, ground := Ground.chain }], guard := none }) (v := .bool true) rfl (by kernel_rfl) (by kernel_rfl) (by kernel_rfl) (fun _ _ _ h => h) (Or.inl ⟨by rfl, by intro w0 hSw; go_simp⟩) hHeld ?_
    simp only [Act.put, List.setIfInBounds_toArray, List.set_cons_zero, List.set_cons_succ]
    refine wpAnyH_take (i := 13) (oi := { dst := some 24, op := Op.load 42 (Operand.tmp 3), type := 42, pos := "law.go:126", after := #[{ on := 12, ground := Ground.guard }], guard := some (12, true) }) (v := .agg #[.string nm', .slice ob load'.length cb, .int .i64 pp', .int .i64 po', .int .i64 pc', .int .i64 ps', .int .i64 dp', .int .i64 dd', .int .i64 dc', .int .i64 ds', .int .i64 sk', .int .i64 pen', .int .i64 spl', .int .i64 las', .int .i64 now', .bool off']) rfl (by kernel_rfl) (by kernel_rfl) (by kernel_rfl) (fun _ _ _ h => h) (Or.inl ⟨by rfl, fun w0 hSw => exec_order rfl rfl hSw.2⟩) hHeld ?_
    simp only [Act.put, List.setIfInBounds_toArray, List.set_cons_zero, List.set_cons_succ]
    refine wpAnyH_take (i := 14) (oi := { dst := some 25, op := Op.load 42 (Operand.tmp 2), type := 42, pos := "law.go:126", after := #[{ on := 12, ground := Ground.guard }], guard := some (12, true) }) (v := .agg #[.string nm, .slice oa load.length ca, .int .i64 pp, .int .i64 po, .int .i64 pc, .int .i64 ps, .int .i64 dp, .int .i64 dd, .int .i64 dc, .int .i64 ds, .int .i64 sk, .int .i64 pen, .int .i64 spl, .int .i64 las, .int .i64 now, .bool off]) rfl (by kernel_rfl) (by kernel_rfl) (by kernel_rfl) (fun _ _ _ h => h) (Or.inl ⟨by rfl, fun w0 hSw => exec_order rfl rfl hSw.1⟩) hHeld ?_
    simp only [Act.put, List.setIfInBounds_toArray, List.set_cons_zero, List.set_cons_succ]
    refine wpAnyH_take (i := 16) (oi := { dst := some 27, op := Op.load 42 (Operand.tmp 2), type := 42, pos := "law.go:126", after := #[{ on := 12, ground := Ground.guard }], guard := some (12, true) }) (v := .agg #[.string nm, .slice oa load.length ca, .int .i64 pp, .int .i64 po, .int .i64 pc, .int .i64 ps, .int .i64 dp, .int .i64 dd, .int .i64 dc, .int .i64 ds, .int .i64 sk, .int .i64 pen, .int .i64 spl, .int .i64 las, .int .i64 now, .bool off]) rfl (by kernel_rfl) (by kernel_rfl) (by kernel_rfl) (fun _ _ _ h => h) (Or.inl ⟨by rfl, fun w0 hSw => exec_order rfl rfl hSw.1⟩) hHeld ?_
    simp only [Act.put, List.setIfInBounds_toArray, List.set_cons_zero, List.set_cons_succ]
    refine wpAnyH_take (i := 17) (oi := { dst := some 28, op := Op.load 42 (Operand.tmp 3), type := 42, pos := "law.go:126", after := #[{ on := 12, ground := Ground.guard }], guard := some (12, true) }) (v := .agg #[.string nm', .slice ob load'.length cb, .int .i64 pp', .int .i64 po', .int .i64 pc', .int .i64 ps', .int .i64 dp', .int .i64 dd', .int .i64 dc', .int .i64 ds', .int .i64 sk', .int .i64 pen', .int .i64 spl', .int .i64 las', .int .i64 now', .bool off']) rfl (by kernel_rfl) (by kernel_rfl) (by kernel_rfl) (fun _ _ _ h => h) (Or.inl ⟨by rfl, fun w0 hSw => exec_order rfl rfl hSw.2⟩) hHeld ?_
    simp only [Act.put, List.setIfInBounds_toArray, List.set_cons_zero, List.set_cons_succ]
    refine wpAnyH_ready (rs := [15]) (by kernel_rfl) (by simp) ?_
    refine AllReadyH.cons (o := { dst := some 26, op := Op.call { callee := Callee.value (Operand.func 15), args := #[Operand.tmp 24, Operand.tmp 25], argTypes := #[42, 42] }, type := 4, pos := "law.go:126", after := #[{ on := 13, ground := Ground.data }, { on := 14, ground := Ground.data }, { on := 12, ground := Ground.chain }, { on := 12, ground := Ground.guard }], guard := some (12, true) }) rfl (fun K hK => ?_) AllReadyH.nil
    go_simp
    go_at_call 15
    refine (KS2.out _ CB.out CA.out).mono ?_
    rintro e1 wz ⟨rfl, bz⟩
    have TA := Lib.hid (Ob.below TA.out bz)
    have TB := Lib.hid (Ob.below TB.out bz)
    have HB := Lib.hid (over HB.out bz)
    have HT := Lib.hid (HT.out.over bz)
    have CA := Lib.hid (CA.out.below bz)
    have CB := Lib.hid (CB.out.below bz)
    clear bz
    go_wp2_with fail
    refine hK.out _ _ ⟨TA.out, TB.out⟩ (fun hHeld => ?_)
    clear hK K
    refine wpAnyH_ready (rs := [18]) (by kernel_rfl) (by simp) ?_
    refine AllReadyH.cons (o := { dst := some 29, op := Op.call { callee := Callee.value (Operand.func 15), args := #[Operand.tmp 27, Operand.tmp 28], argTypes := #[42, 42] }, type := 4, pos := "law.go:126", after := #[{ on := 16, ground := Ground.data }, { on := 17, ground := Ground.data }, { on := 15, ground := Ground.chain }, { on := 12, ground := Ground.guard }], guard := some (12, true) }) rfl (fun K hK => ?_) AllReadyH.nil
    go_simp
    go_at_call 15
    refine (KS1.out _ CA.out CB.out).mono ?_
    rintro e1 wz ⟨rfl, bz⟩
    have TA := Lib.hid (Ob.below TA.out bz)
    have TB := Lib.hid (Ob.below TB.out bz)
    have HB := Lib.hid (over HB.out bz)
    have HT := Lib.hid (HT.out.over bz)
    have CA := Lib.hid (CA.out.below bz)
    have CB := Lib.hid (CB.out.below bz)
    clear bz
    go_wp2_with fail
    refine hK.out _ _ ⟨TA.out, TB.out⟩ (fun hHeld => ?_)
    clear hK K
    refine wpAnyH_take (i := 19) (oi := { dst := some 30, op := Op.binOp BinOp.eql 4 (Operand.tmp 26) (Operand.tmp 29) 4, type := 4, pos := "law.go:126", after := #[{ on := 15, ground := Ground.data }, { on := 18, ground := Ground.data }, { on := 12, ground := Ground.guard }], guard := some (12, true) }) (v := .bool true) rfl (by kernel_rfl) (by kernel_rfl) (by kernel_rfl) (fun _ _ _ h => h) (Or.inl ⟨by rfl, by intro w0 hSw; go_simp⟩) hHeld ?_
    simp only [Act.put, List.setIfInBounds_toArray, List.set_cons_zero, List.set_cons_succ]
    refine wpAnyH_take (i := 20) (oi := { dst := some 31, op := Op.pick (Operand.tmp 23) (Operand.tmp 30) (Operand.const (Value.bool false)), type := 4, pos := "law.go:126", after := #[{ on := 12, ground := Ground.data }, { on := 19, ground := Ground.data }], guard := none }) (v := .bool true) rfl (by kernel_rfl) (by kernel_rfl) (by kernel_rfl) (fun _ _ _ h => h) (Or.inl ⟨by rfl, by intro w0 hSw; go_simp⟩) hHeld ?_
    simp only [Act.put, List.setIfInBounds_toArray, List.set_cons_zero, List.set_cons_succ]
    refine wpAnyH_take (i := 21) (oi := { dst := some 32, op := Op.move (Operand.tmp 31), type := 4, pos := "law.go:126", after := #[{ on := 20, ground := Ground.data }, { on := 18, ground := Ground.chain }], guard := none }) (v := .bool true) rfl (by kernel_rfl) (by kernel_rfl) (by kernel_rfl) (fun _ _ _ h => h) (Or.inl ⟨by rfl, by intro w0 hSw; go_simp⟩) hHeld ?_
    simp only [Act.put, List.setIfInBounds_toArray, List.set_cons_zero, List.set_cons_succ]
    refine wpAnyH_ready (rs := [22]) (by kernel_rfl) (by simp) ?_
    refine AllReadyH.cons (o := { dst := some 33, op := Op.call { callee := Callee.value (Operand.func 7), args := #[], argTypes := #[] }, type := 4, pos := "law.go:126", after := #[{ on := 21, ground := Ground.chain }, { on := 21, ground := Ground.guard }], guard := some (21, true) }) rfl (fun K hK => ?_) AllReadyH.nil
    go_simp
    go_at_call 7
    refine (AW.out _ HT.out).mono ?_
    rintro e1 wz ⟨rfl, bz⟩
    have TA := Lib.hid (Ob.below TA.out bz)
    have TB := Lib.hid (Ob.below TB.out bz)
    have HB := Lib.hid (over HB.out bz)
    have HT := Lib.hid (HT.out.over bz)
    have CA := Lib.hid (CA.out.below bz)
    have CB := Lib.hid (CB.out.below bz)
    clear bz
    go_wp2_with fail
    refine hK.out _ _ ⟨TA.out, TB.out⟩ (fun hHeld => ?_)
    clear hK K
    refine wpAnyH_take (i := 23) (oi := { dst := some 34, op := Op.pick (Operand.tmp 32) (Operand.tmp 33) (Operand.const (Value.bool false)), type := 4, pos := "law.go:126", after := #[{ on := 21, ground := Ground.data }, { on := 22, ground := Ground.data }], guard := none }) (v := .bool true) rfl (by kernel_rfl) (by kernel_rfl) (by kernel_rfl) (fun _ _ _ h => h) (Or.inl ⟨by rfl, by intro w0 hSw; go_simp⟩) hHeld ?_
    simp only [Act.put, List.setIfInBounds_toArray, List.set_cons_zero, List.set_cons_succ]
    refine wpAnyH_take (i := 24) (oi := { dst := some 4, op := Op.assign (Operand.tmp 34), type := 4, pos := "law.go:126", after := #[{ on := 23, ground := Ground.data }, { on := 22, ground := Ground.chain }, { on := 0, ground := Ground.phase }, { on := 1, ground := Ground.phase }, { on := 2, ground := Ground.phase }, { on := 3, ground := Ground.phase }, { on := 4, ground := Ground.phase }, { on := 5, ground := Ground.phase }, { on := 6, ground := Ground.phase }, { on := 7, ground := Ground.phase }, { on := 8, ground := Ground.phase }, { on := 9, ground := Ground.phase }, { on := 10, ground := Ground.phase }, { on := 11, ground := Ground.phase }, { on := 12, ground := Ground.phase }, { on := 13, ground := Ground.phase }, { on := 14, ground := Ground.phase }, { on := 15, ground := Ground.phase }, { on := 16, ground := Ground.phase }, { on := 17, ground := Ground.phase }, { on := 18, ground := Ground.phase }, { on := 19, ground := Ground.phase }, { on := 20, ground := Ground.phase }, { on := 21, ground := Ground.phase }, { on := 22, ground := Ground.phase }, { on := 23, ground := Ground.phase }], guard := none }) (v := .bool true) rfl (by kernel_rfl) (by kernel_rfl) (by kernel_rfl) (fun _ _ _ h => h) (Or.inl ⟨by rfl, by intro w0 hSw; go_simp⟩) hHeld ?_
    simp only [Act.put, List.setIfInBounds_toArray, List.set_cons_zero, List.set_cons_succ]
    refine wpAnyH_done (by kernel_rfl) ?_ _
    refine NoPanic.normal ?_
    go_wp2_with fail
    go_ret
    exact ⟨rfl, HB.out⟩

end Go.Proofs.YtalfonpkefhlmaaDoor.T

