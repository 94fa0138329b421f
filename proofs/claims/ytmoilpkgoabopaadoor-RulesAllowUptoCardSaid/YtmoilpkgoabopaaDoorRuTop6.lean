/-
  DERIVED. The walks of the landed rules' joined and of the closure in it.
-/
import Derived.Test.YtmoilpkgoabopaaDoorRuTop5
import Derived.RangeFuncBox
namespace Go.Proofs.YtmoilpkgoabopaaDoor.T
open Go.RowKit
set_option maxRecDepth 8000

theorem makeMap0 {P : Program} (t : TypeId) (w : World) : (Instr.makeMap t none).run P w = .ok (.map (some w.heap.size)) (w.alloc (.map #[] 0)) := by
  simp [Instr.makeMap]
theorem ap_q1g {B : Nat} {w : World} {v : Value} {l : List (Int × Int)} (ty : TypeId) (x : Int) (s : Int) (hv : Gq B w v l) (hB : B ≤ w.heap.size) (hn : l.length ≤ 90000000) :
    ∃ v' w', (Builtin.append_ #[22, 22] ty #[v, .slice (some ⟨w.heap.size, 0, none⟩) 1 1]).run Tryd.prog (w.alloc (.cells #[.int .i64 x, .int .i64 s] 45)) = .ok v' w' ∧ (Gq B w' v' (l ++ [(x, s)]) ∧ Below B w w' ∧ (w.alloc (.cells #[.int .i64 x, .int .i64 s] 45)).grownBy w' v.ownBlock) := by
  obtain ⟨v', w', hr, h2, h3, h4, -⟩ := ap_q (w := w.alloc (.cells #[.int .i64 x, .int .i64 s] 45)) (m := [(x, s)]) ty (hv.frame (below_alloc _ _)) (lq_one w x s) (by simp; omega) (by simp; omega)
  exact ⟨v', w', hr, h2, ((below_alloc w _).mono hB).trans h3, h4⟩
theorem gq_map {B : Nat} {w : World} {v : Value} {l : List (Int × Int)} {bm n : Nat} {g : Int × Int → Bool} (h : Gq B w v l) (hm : Pm w bm n g) : some bm ≠ v.ownBlock := fun e => by
  obtain ⟨D, ⟨es, clock, h1, -⟩, -⟩ := hm
  rcases h.2 with ⟨hv, -⟩ | ⟨x, cap, cur, rfl, -, hx, -⟩
  · rw [hv] at e; cases e
  · have : bm = x := by injection e
    subst this
    rw [h1] at hx; cases hx
theorem box_map {w : World} {b bm n : Nat} {t : TypeId} {v : Value} {g : Int × Int → Bool} (h : Boxed w b t v) (hm : Pm w bm n g) : b ≠ bm := fun e => by
  obtain ⟨D, ⟨es, clock, h1, -⟩, -⟩ := hm
  unfold Boxed at h
  rw [e, h1] at h; cases h
theorem box_box {w : World} {b b' : Nat} {t t' : TypeId} {v v' : Value} (h : Boxed w b t v) (h' : Boxed w b' t' v') (hne : t ≠ t') : b ≠ b' := fun e => by
  unfold Boxed at h h'
  rw [e, h'] at h
  injection h with h
  injection h with _ h2 _
  exact hne h2.symm
theorem Boxed.below {w w' : World} {b : Nat} {t : TypeId} {v : Value} (h : Boxed w b t v) (hb : Below w.heap.size w w') : Boxed w' b t v := (hb.block b h.lt).trans h

/-- what joined holds: the box of its list, the box of its map -/
structure Jn (B : Nat) (w : World) (bc bm bs : Nat) (v : Value) (c : List (Int × Int)) : Prop where
  box : Boxed w bc 22 v
  own : Gq B w v c
  mbox : Boxed w bs 67 (.map (some bm))
  seen : Pm w bm c.length (fun p => decide (p ∈ c))
  lc : B ≤ bc
  lm : B ≤ bm
theorem Jn.below {B : Nat} {w w' : World} {bc bm bs : Nat} {v : Value} {c : List (Int × Int)} (h : Jn B w bc bm bs v c) (hb : Below w.heap.size w w') : Jn B w' bc bm bs v c :=
  ⟨Boxed.below h.box hb, h.own.frame hb, Boxed.below h.mbox hb, h.seen.below hb, h.lc, h.lm⟩
set_option maxHeartbeats 3200000 in
theorem add_n (B bc bm bs : Nat) (v : Value) (c : List (Int × Int)) (p : Int × Int) (hp : In64 p) (hc : c.length ≤ 1000) (w : World) (hB : B ≤ w.heap.size) (h : Jn B w bc bm bs v c) :
    Calls Tryd.prog 45 #[.agg #[.int .i64 p.1, .int .i64 p.2], .pointer (some ⟨bs, 0, none⟩), .pointer (some ⟨bc, 0, none⟩)] w fun e w' => e = .returned (.tuple #[]) ∧ (∃ v', Jn B w' bc bm bs v' (U.addP c p)) ∧ Below B w w' := by
  have b1 := below_alloc w (.cells #[.int .i64 p.1, .int .i64 p.2] 45)
  have HQ := Lib.hid (Qb.made w p.1 p.2)
  have HJ := Lib.hid (h.below b1)
  have HB := Lib.hid (b1.mono hB)
  obtain ⟨W1, hW1⟩ : ∃ W1, w.alloc (.cells #[.int .i64 p.1, .int .i64 p.2] 45) = W1 := ⟨_, rfl⟩
  rw [hW1] at HQ HJ HB
  have HW1 := Lib.hid hW1
  obtain ⟨q, hq⟩ : ∃ q, w.heap.size = q := ⟨_, rfl⟩
  have HQq := Lib.hid hq
  rw [hq] at HQ
  clear b1 h hW1 hq
  have y0 := HQ.out.c0
  have y1 := HQ.out.c1
  have z1 := HJ.out.mbox.cell
  have hlk := HJ.out.seen.look hp
  by_cases hin : p ∈ c
  · have HX : Hid (U.addP c p = c) := by show _ = _; unfold U.addP; rw [if_pos hin]
    rw [decide_eq_true hin] at hlk
    clear hin
    go_enter Tryd.func45, Tryd.ntmps45
    go_upto_region 1 with fail
    rw [HW1.out, HQq.out]
    go_wp2_with fail
    go_end0
    exact ⟨rfl, ⟨v, by rw [HX.out]; exact HJ.out⟩, HB.out⟩
  · have HX : Hid (U.addP c p = c ++ [p]) := by show _ = _; unfold U.addP; rw [if_neg hin]
    rw [decide_eq_false hin] at hlk
    obtain ⟨w2, hrun, hP2, hgr2⟩ := HJ.out.seen.put (by unfold maxLen; omega) hp
    have HP2 : Hid (Pm w2 bm (c ++ [p]).length (fun q => decide (q ∈ c ++ [p]))) := by
      have h3 := hP2.ext (g' := fun q => decide (q ∈ c ++ [p])) fun q => by
        rw [Bool.eq_iff_iff, Bool.or_eq_true, decide_eq_true_iff, decide_eq_true_iff, List.mem_append, List.mem_singleton, beq_iff_eq]
      show Pm _ _ _ _
      rw [List.length_append]; exact h3
    have hsz1 : B ≤ W1.heap.size := Nat.le_trans hB HB.out.size
    have hbcm := box_map HJ.out.box HJ.out.seen
    have hbsm := box_map HJ.out.mbox HJ.out.seen
    have hbcs : bc ≠ bs := box_box HJ.out.box HJ.out.mbox (by decide)
    have HBx2 := Lib.hid (HJ.out.box.kept hgr2 (fun e => hbcm (by injection e)))
    have HMx2 := Lib.hid (HJ.out.mbox.kept hgr2 (fun e => hbsm (by injection e)))
    have HG2 : Hid (Gq B w2 v c) := HJ.out.own.of_block fun g e => hgr2.block g ((World.ownsRow.lt HJ.out.own.own g e).2) (fun h => gq_map HJ.out.own HJ.out.seen (by rw [e]; exact h.symm))
    have hqm : q ≠ bm := fun e => by
      have h1 := HQ.out
      obtain ⟨D, ⟨es, clock, h2, -⟩, -⟩ := HJ.out.seen
      unfold Qb at h1
      rw [e, h2] at h1; cases h1
    have HQ2 := Lib.hid (HQ.out.grown hgr2 (fun e => hqm (by injection e)))
    have HB2 : Hid (Below B w w2) := HB.out.grown hgr2 hsz1 (fun x e => by simp only [Option.some.injEq] at e; have := HJ.out.lm; omega)
    have hB2 : B ≤ w2.heap.size := Nat.le_trans hB HB2.out.size
    have hlc := HJ.out.lc
    have hlm := HJ.out.lm
    have u0 := HQ2.out.c0
    have u1 := HQ2.out.c1
    have u2 := HBx2.out.cell
    clear hin hP2 hgr2 HJ HB
    go_enter Tryd.func45, Tryd.ntmps45
    go_upto_region 1 with fail
    rw [HW1.out, HQq.out]
    go_wp2_with (at_builtin; refine wpList_append_run rfl _ _ 22 rfl rfl rfl (ap_q1g _ p.1 p.2 HG2.out hB2 (by omega)) ?_)
    intro v3 w3 hg3 hb3 hgr3
    obtain ⟨ln, oa3, c3, rfl⟩ : ∃ ln oa c, v3 = .slice oa ln c := by obtain ⟨_, _, e⟩ := Gn.form hg3; exact ⟨_, _, _, e⟩
    have hal := below_alloc w2 (.cells #[.int .i64 p.1, .int .i64 p.2] 45)
    have HBx3 := Lib.hid ((Boxed.below HBx2.out hal).kept hgr3 (fun e => HBx2.out.not_row (by decide) HG2.out.own e))
    have HMx3 := Lib.hid ((Boxed.below HMx2.out hal).kept hgr3 (fun e => HMx2.out.not_row (by decide) HG2.out.own e))
    have HP3 := Lib.hid ((HP2.out.below hal).grown hgr3 (gq_map HG2.out HP2.out))
    have HG3 := Lib.hid hg3
    have HB3 := Lib.hid (HB2.out.trans hb3)
    have x0 := HBx3.out.cell
    have x1 := HBx3.out.frozen
    have hgs := grownBy_setCell' w3 bc (.slice oa3 ln c3)
    have HB4 : Hid (Below B w (w3.setCell ⟨bc, 0, none⟩ (.slice oa3 ln c3))) := HB3.out.grown hgs (Nat.le_trans hB HB3.out.size) (fun x e => by simp only [Option.some.injEq] at e; omega)
    have HJ4 : Hid (Jn B (w3.setCell ⟨bc, 0, none⟩ (.slice oa3 ln c3)) bc bm bs (.slice oa3 ln c3) (c ++ [p])) :=
      ⟨HBx3.out.set (.slice oa3 ln c3), HG3.out.of_block fun g e => Below.heap_setCell w3 ⟨bc, 0, none⟩ (.slice oa3 ln c3) g (fun h => HBx3.out.not_row (by decide) HG3.out.own (by rw [e, show g = bc from h])), HMx3.out.kept hgs (fun e => hbcs (by injection e with e; exact e.symm)), HP3.out.of_block (Below.heap_setCell w3 ⟨bc, 0, none⟩ (.slice oa3 ln c3) bm (fun h => hbcm h.symm)), hlc, hlm⟩
    clear hg3 hb3 hgr3 hal HBx3 HMx3 HP3 HG3 HB3 hgs HBx2 HMx2 HP2 HG2 HB2 u0 u1 u2
    go_wp2_with fail
    go_end0
    exact ⟨rfl, ⟨_, by rw [HX.out]; exact HJ4.out⟩, HB4.out⟩

end Go.Proofs.YtmoilpkgoabopaaDoor.T

