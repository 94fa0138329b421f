/-
  DERIVED. Dl: a part of the base of layer 13 (made by pack.py).
-/
import Derived.Test.YtomebalolmabnaaDoorGA
import Derived.Test.YtomebalolmabnaaDoorGE
import Derived.Test.YtomebalolmabnaaDoorDk
/-! The walk of drive.Best (by gen_dl.py). -/
namespace Go.Proofs.YtomebalolmabnaaDoor.T
open Go.RowKit
set_option maxRecDepth 8000
attribute [local irreducible] wpList Code.wp wpAnyH

theorem bo_map : ∀ R : List Bool, R.flatMap boE = R.map Value.bool
 | [] => rfl
 | r :: R => by rw [List.flatMap_cons, bo_map R]; rfl
theorem bo_len (R : List Bool) : (R.flatMap boE).length = R.length := by rw [bo_map, List.length_map]
theorem ex_copy {P : Program} {n : Nat} {g : Nat → Value} {l : List (Nat × Value)} {w : World} {o : Oper} {s x : Operand} {t : TypeId} (ho : o.op = .call { callee := .builtin .copy, args := #[s, x], argTypes := #[t, t] }) {v u v' : Value} {w' : World} (hs : ev n g l s = v) (hx : ev n g l x = u)
  (hrun : (Builtin.copy_ #[t, t] o.type #[v, u]).run P w = .ok v' w') : (execOp (ev n g l) o).run P w = .ok (.value v') w' := by
 unfold execOp
 simp only [ho, resolve, invoke, builtin, Sem.run_bind, Sem.run_pure, Result.andThen_ok, List.map_toArray, List.map_cons, List.map_nil, hs, hx, hrun]
theorem copy_bo {P : Program} {w : World} {bR N cR b9 q9 cF : Nat} {F : List Bool} {oF : Option Addr} {t ty : TypeId} (hF : Rw w b9 q9 1 (bF F) F.length oF) (hb : Cb w bR (boA (List.replicate N false)) 4) (hl : F.length ≤ N) (hu : P.underlying t = some (.slice 4)) (hs : (P.info? 4).map (·.size) = some 1) :
  (Builtin.copy_ #[t, t] ty #[.slice (some ⟨bR, 0, none⟩) N cR, .slice oF F.length cF]).run P w = .ok (.int .i64 ((F.length : Nat) : Int)) (w.setCells bR 0 (F.flatMap boE)) ∧ Cb (w.setCells bR 0 (F.flatMap boE)) bR (boA (F ++ List.replicate (N - F.length) false)) 4 := by
 constructor
 ·cases F with
  | nil => exact run_copy_none w t t ty 4 _ _ _ _ _ _ hu hs (by show Nat.min 0 N = 0; exact Nat.zero_min N)
  | cons r F =>
   have ha := hF.oa (k := 0) (by simp)
   subst ha
   have h1 := run_copy_cells (P := P) w t t ty 4 bR 0 N cR ⟨b9, q9, none⟩ (r :: F).length cF ((r :: F).flatMap boE) hu hs (by rw [bo_len]; exact (Nat.min_eq_left hl).symm) (fun j v hj => by
    rw [add_addr]
    have hj9 : j < (r :: F).length := by have := (List.getElem?_eq_some_iff.1 hj).1; rw [bo_len] at this; exact this
    have h2 := hF.cell (k := j) hj9 0 (v := .bool ((r :: F).getD j false)) rfl
    have h3 : ((r :: F).flatMap boE)[j]? = some (.bool ((r :: F).getD j false)) := by
     rw [bo_map, List.getElem?_map, List.getD_eq_getElem?_getD, List.getElem?_eq_getElem hj9]; rfl
    rw [h3] at hj
    simp only [Option.some.injEq] at hj
    subst hj
    rw [Nat.mul_one, Nat.add_zero] at h2
    exact h2) (fun j hj => by
    rw [bo_len] at hj
    have h4 := boRow.at_ false (List.replicate N false) j 0 (by rw [List.length_replicate]; omega) (by decide)
    rw [Nat.mul_one, Nat.add_zero] at h4
    have h5 : (boA (List.replicate N false))[0 + j]? = some (.bool ((List.replicate N false).getD j false)) := by
     unfold boA
     rw [List.getElem?_toArray, Nat.zero_add]
     exact h4
    rw [hb.cell (0 + j) h5]
    rfl) (fun j _ => hb.f _) (fun v hv => by
    rw [bo_map] at hv
    obtain ⟨x, -, rfl⟩ := List.mem_map.1 hv
    rfl)
   rw [bo_len] at h1
   exact h1
 ·have h1 := Cb.setsN (F.flatMap boE) w 0 _ hb
  have h2 : setN (boA (List.replicate N false)).toList 0 (F.flatMap boE) = (F ++ List.replicate (N - F.length) false).flatMap boE := by
   apply List.ext_getElem?
   intro j
   unfold boA
   rw [setN_at _ _ _ _ (by simp only [bo_len, List.length_replicate]; omega)]
   simp only [bo_map, List.length_map, List.getElem?_map, Nat.zero_add, Nat.sub_zero, Nat.zero_le, true_and]
   split
   ·rw [List.getElem?_append_left (by assumption)]
   ·rw [List.getElem?_append_right (by omega), List.getElem?_replicate, List.getElem?_replicate]
    by_cases hj : j < N
    ·rw [if_pos hj, if_pos (by omega)]
    ·rw [if_neg hj, if_neg (by omega)]
  rw [h2] at h1
  exact h1
theorem bo_made (k : Nat) : madeCells (Value.bool false).cells (k * 1) = boA (List.replicate k false) := madeF boRow (d := false) rfl (by decide) k
def bs0 (F : List Bool) (N : Nat) : List Bool := F ++ List.replicate (N - F.length) false
theorem bs0_len {F : List Bool} {N : Nat} (h : F.length ≤ N) : (bs0 F N).length = N := by unfold bs0; rw [List.length_append, List.length_replicate]; omega
theorem bs0_take (F : List Bool) (N : Nat) : (bs0 F N).take F.length = F := by unfold bs0; rw [List.take_left']; rfl
def CrT.bsR (c : CrT) (F : List Bool) : List Bool := if c.run (bs0 F c.n) c.n = 16 ∧ (c.best F c.n 0 c.rd 0).p = true then c.fnd F else bs0 F c.n
def bestE (x : InT) (ty st : Int) (l : List (Int × Bool)) (F : List Bool) : Int := if posD x.tl x.ol ty st l = true ∧ F.length ≤ l.length + 1 then (crs x ty st l).run ((crs x ty st l).bsR F) (crs x ty st l).n else 2
def bestS (x : InT) (ty st : Int) (l : List (Int × Bool)) (F : List Bool) : ShT := if bestE x ty st l F = 0 then (crs x ty st l).sheet ((crs x ty st l).bsR F) else sh0
theorem bestE_no {x : InT} {ty st : Int} {l : List (Int × Bool)} {F : List Bool} (h : posD x.tl x.ol ty st l = false ∨ l.length + 1 < F.length) : bestE x ty st l F = 2 ∧ bestS x ty st l F = sh0 := by
 have e : bestE x ty st l F = 2 := by
  unfold bestE
  rw [if_neg]
  rintro ⟨h1, h2⟩
  rcases h with h | h
  ·rw [h] at h1; cases h1
  ·omega
 exact ⟨e, by unfold bestS; rw [e, if_neg (by decide)]⟩
theorem bestE_yes {x : InT} {ty st : Int} {l : List (Int × Bool)} {F : List Bool} (h1 : posD x.tl x.ol ty st l = true) (h2 : F.length ≤ l.length + 1) : bestE x ty st l F = (crs x ty st l).run ((crs x ty st l).bsR F) (crs x ty st l).n := if_pos ⟨h1, h2⟩
theorem drvBest_n (k : Iv) (x : InT) (ty st : Int) (orr oa : Option Addr) (cr ca b o bf qf : Nat) (l : List (Int × Bool)) (F : List Bool) (hok : posD x.tl x.ol ty st l = true → (crs x ty st l).Ok) (w : World) (hI : Ins w k x) (hT : Tab w) (hl : Rw w b o 2 (vF l) l.length oa) (hFx : Rw w bf qf 1 (bF F) F.length orr) : Calls Tryd.prog 13 #[.agg (iK k x), .agg (rK ty st orr F.length cr oa l.length ca)] w (ShP (bestS x ty st l F) (bestE x ty st l F) w) := by
 have HB : Below w.heap.size w w := Below.refl _ _
 refine sx_enter Tryd.func13 rfl [(0, .agg (iK k x)), (1, .agg (rK ty st orr F.length cr oa l.length ca))] (by kernel_rfl) ?_
 refine wp_seq (wp_region_lit ?_)
 obtain ⟨W1, hW, hb, hq⟩ := laidA w (iK k x) 30
 refine sx_mem (by kernel_rfl) rfl rfl (.pointer (some ⟨w.heap.size, 0, none⟩)) W1 (by rw [← hW]; kernel_rfl) ?_
 replace HB := over HB hb
 have z1 := hb.size
 have M2 := hq
 have yM2 := hq.lt
 clear hq hb hW
 obtain ⟨W3, hW, hb, hq⟩ := laidA W1 (rK ty st orr F.length cr oa l.length ca) 34
 refine sx_mem (by kernel_rfl) rfl rfl (.pointer (some ⟨W1.heap.size, 0, none⟩)) W3 (by rw [← hW]; kernel_rfl) ?_
 replace HB := over HB hb
 replace M2 := M2.below hb
 have z2 := hb.size
 have M4 := hq
 have yM4 := hq.lt
 clear hq hb hW
 obtain ⟨W5, hW, hb, hq⟩ := laidA W3 #[.bool false, .int .i64 0, .slice none 0 0, .int .i64 0, .int .i64 0] 37
 refine sx_mem (by kernel_rfl) rfl rfl (.pointer (some ⟨W3.heap.size, 0, none⟩)) W5 (by rw [← hW]; kernel_rfl) ?_
 replace HB := over HB hb
 replace M2 := M2.below hb
 replace M4 := M4.below hb
 have z3 := hb.size
 have M6 := hq
 have yM6 := hq.lt
 clear hq hb hW
 refine Zv rfl (.int .i64 0) ?_
 refine wpList_nil (sx_norm (wp_seq (wp_region_lit ?_)))
 refine Zw rfl (.agg (iK k x)) (ex_load rfl M2 (by kernel_rfl) Tryd.underlying30 rfl (by kernel_rfl)) ?_
 refine Zw rfl (.agg (rK ty st orr F.length cr oa l.length ca)) (ex_load rfl M4 (by kernel_rfl) Tryd.underlying34 rfl (by kernel_rfl)) ?_
 refine sx_call (by kernel_rfl) rfl rfl (courseOf_n k x ty st orr oa F.length cr ca b o l W5 (hI.below HB) (hT.belowD HB) (hl.below HB)) (by kernel_rfl) ?_
 rintro e W7 ⟨hcs, hb⟩
 replace HB := over HB hb
 replace M2 := M2.below hb
 replace M4 := M4.below hb
 replace M6 := M6.below hb
 have z4 := hb.size
 clear hb
 rcases hcs with ⟨hp9, rfl⟩ | ⟨K, q, hp9, rfl, hK9⟩
 ·refine ⟨_, rfl, ?_⟩
  refine Zv rfl (.tuple #[.pointer none, .bool false]) ?_
  refine Zv rfl (.pointer none) ?_
  refine Zv rfl (.bool false) ?_
  refine Zv rfl (.pointer none) ?_
  refine Zv rfl (.bool false) ?_
  refine wpList_nil (sx_norm (wp_seq (wp_seq ?_)))
  obtain ⟨Y8, hW⟩ : ∃ W, W7.drew = W := ⟨_, rfl⟩
  have hb : Below W7.heap.size W7 Y8 := hW ▸ below_drew (Below.refl _ _)
  replace HB := over HB hb
  replace M2 := M2.below hb
  replace M4 := M4.below hb
  replace M6 := M6.below hb
  have z5 := hb.size
  clear hb
  refine sd_begin (fun W => Cb W (w.heap.size) (iK k x) 30 ∧ Cb W (W1.heap.size) (rK ty st orr F.length cr oa l.length ca) 34 ∧ Cb W (W3.heap.size) #[.bool false, .int .i64 0, .slice none 0 0, .int .i64 0, .int .i64 0] 37 ∧ True) (by kernel_rfl) (by rw [hW]; exact ⟨M2, M4, M6, trivial⟩) ?_
  rw [hW]
  clear hW
  refine Zu 0 rfl rfl (.bool false) ⟨M2, M4, M6, trivial⟩ ?_
  refine Zu 1 rfl rfl (.bool true) ⟨M2, M4, M6, trivial⟩ ?_
  refine Zu 2 rfl rfl (.bool true) ⟨M2, M4, M6, trivial⟩ ?_
  refine Zp 3 rfl rfl ⟨M2, M4, M6, trivial⟩ ?_
  refine Zp 4 rfl rfl ⟨M2, M4, M6, trivial⟩ ?_
  refine Zp 5 rfl rfl ⟨M2, M4, M6, trivial⟩ ?_
  refine Zp 6 rfl rfl ⟨M2, M4, M6, trivial⟩ ?_
  refine Zp 7 rfl rfl ⟨M2, M4, M6, trivial⟩ ?_
  refine Zp 8 rfl rfl ⟨M2, M4, M6, trivial⟩ ?_
  refine Zu 9 rfl rfl (.bool true) ⟨M2, M4, M6, trivial⟩ ?_
  refine sd_done (by kernel_rfl) ?_
  refine sx_norm ?_
  refine sx_true (by kernel_rfl) ?_
  refine wp_seq (wp_region_lit ?_)
  refine Zv rfl (.agg #[.bool false, .int .i64 0, .slice none 0 0, .int .i64 0, .int .i64 0]) ?_
  refine Zr (cells := #[.bool false, .int .i64 0, .slice none 0 0, .int .i64 0, .int .i64 0]) rfl rfl M6 (fun W9 hg hq => ?_)
  replace HB := HB.grown hg (by omega) (fun x e => by simp only [Option.some.injEq] at e; omega)
  replace M2 := M2.kept hg (by omega)
  replace M4 := M4.kept hg (by omega)
  have z6 := hg.size
  replace M6 := hq
  clear hq hg
  refine Zv rfl (.int .i64 2) ?_
  refine wpList_nil (sx_norm (wp_ret (sx_rs ?_)))
  have h9 := bestE_no (x := x) (ty := ty) (st := st) (l := l) (F := F) (.inl hp9)
  exact sx_retct M6 rfl rfl rfl (by kernel_rfl) (by kernel_rfl) Tryd.underlying37 rfl (by kernel_rfl) ⟨none, 0, 0, 0, by rw [h9.1, h9.2]; rfl, by rw [h9.2]; exact rw_sh0 _, (fun i hi => by rw [h9.2] at hi; exact absurd hi (Nat.not_lt_zero i)), HB⟩
 have hc := hok hp9
 have hcn9 : (crs x ty st l).n = l.length + 1 := crs_n x ty st l
 have hln := hc.len
 have hcn : (crs x ty st l).n ≤ 21 := by unfold CrT.n; omega
 refine ⟨_, rfl, ?_⟩
 obtain ⟨v0, hv0⟩ : ∃ v, W7 = v := ⟨_, rfl⟩
 have hKv := hv0 ▸ hK9
 have HV : Below v0.heap.size v0 W7 := by rw [hv0]; exact Below.refl _ _
 have hvs : v0.heap.size = W7.heap.size := by rw [hv0]
 clear hK9
 refine Zv rfl (.tuple #[.pointer (some ⟨q, 0, none⟩), .bool true]) ?_
 refine Zv rfl (.pointer (some ⟨q, 0, none⟩)) ?_
 refine Zv rfl (.bool true) ?_
 refine Zv rfl (.pointer (some ⟨q, 0, none⟩)) ?_
 refine Zv rfl (.bool true) ?_
 refine wpList_nil (sx_norm (wp_seq (wp_seq ?_)))
 obtain ⟨Y10, hW⟩ : ∃ W, W7.drew = W := ⟨_, rfl⟩
 have hb : Below W7.heap.size W7 Y10 := hW ▸ below_drew (Below.refl _ _)
 replace HB := over HB hb
 replace M2 := M2.below hb
 replace M4 := M4.below hb
 replace M6 := M6.below hb
 replace HV := over HV hb
 have z5 := hb.size
 clear hb
 refine sd_begin (fun W => Cb W (w.heap.size) (iK k x) 30 ∧ Cb W (W1.heap.size) (rK ty st orr F.length cr oa l.length ca) 34 ∧ Cb W (W3.heap.size) #[.bool false, .int .i64 0, .slice none 0 0, .int .i64 0, .int .i64 0] 37 ∧ True) (by kernel_rfl) (by rw [hW]; exact ⟨M2, M4, M6, trivial⟩) ?_
 rw [hW]
 clear hW
 refine Zu 0 rfl rfl (.bool true) ⟨M2, M4, M6, trivial⟩ ?_
 refine Zu 1 rfl rfl (.bool false) ⟨M2, M4, M6, trivial⟩ ?_
 refine Zu 2 rfl rfl (.bool false) ⟨M2, M4, M6, trivial⟩ ?_
 refine Zu 3 rfl rfl (.pointer (some ⟨W1.heap.size, 2, none⟩)) ⟨M2, M4, M6, trivial⟩ ?_
 refine Zt 4 rfl rfl (.slice orr F.length cr) (fun w9 h9 => el (h9.2.1.cell 2 rfl) Tryd.underlying31) ⟨M2, M4, M6, trivial⟩ ?_
 refine Zu 5 rfl rfl (.int .i64 ((F.length : Nat) : Int)) ⟨M2, M4, M6, trivial⟩ ?_
 refine Zu 6 rfl rfl (.pointer (some ⟨q, 0, none⟩)) ⟨M2, M4, M6, trivial⟩ ?_
 refine sd_all [7] (by kernel_rfl) (by decide) ?_
 refine sd_call (i := 7) rfl (by kernel_rfl) rfl rfl (ways_n (crs x ty st l) hc K q Y10 (hKv.below HV)) (by kernel_rfl) ?_ AllReadyH.nil
 rintro e w9 ⟨rfl, rfl⟩
 refine ⟨_, rfl, ⟨M2, M4, M6, trivial⟩, ?_⟩
 by_cases C1 : F.length > (crs x ty st l).n
 ·refine Zt 8 rfl rfl (.bool true) (fun w9 _ => ex_bool (decide (((F.length : Nat) : Int) > (((crs x ty st l).n : Nat) : Int))) true (by kernel_rfl) (decide_eq_true (by omega))) ⟨M2, M4, M6, trivial⟩ ?_
  refine Zu 9 rfl rfl (.bool true) ⟨M2, M4, M6, trivial⟩ ?_
  refine sd_done (by kernel_rfl) ?_
  refine sx_norm ?_
  refine sx_true (by kernel_rfl) ?_
  refine wp_seq (wp_region_lit ?_)
  refine Zv rfl (.agg #[.bool false, .int .i64 0, .slice none 0 0, .int .i64 0, .int .i64 0]) ?_
  refine Zr (cells := #[.bool false, .int .i64 0, .slice none 0 0, .int .i64 0, .int .i64 0]) rfl rfl M6 (fun W11 hg hq => ?_)
  replace HB := HB.grown hg (by omega) (fun x e => by simp only [Option.some.injEq] at e; omega)
  replace M2 := M2.kept hg (by omega)
  replace M4 := M4.kept hg (by omega)
  have z6 := hg.size
  replace M6 := hq
  clear hq hg
  refine Zv rfl (.int .i64 2) ?_
  refine wpList_nil (sx_norm (wp_ret (sx_rs ?_)))
  have h9 := bestE_no (x := x) (ty := ty) (st := st) (l := l) (F := F) (.inr (by omega))
  exact sx_retct M6 rfl rfl rfl (by kernel_rfl) (by kernel_rfl) Tryd.underlying37 rfl (by kernel_rfl) ⟨none, 0, 0, 0, by rw [h9.1, h9.2]; rfl, by rw [h9.2]; exact rw_sh0 _, (fun i hi => by rw [h9.2] at hi; exact absurd hi (Nat.not_lt_zero i)), HB⟩
 refine Zt 8 rfl rfl (.bool false) (fun w9 _ => ex_bool (decide (((F.length : Nat) : Int) > (((crs x ty st l).n : Nat) : Int))) false (by kernel_rfl) (decide_eq_false (by omega))) ⟨M2, M4, M6, trivial⟩ ?_
 refine Zu 9 rfl rfl (.bool false) ⟨M2, M4, M6, trivial⟩ ?_
 refine sd_done (by kernel_rfl) ?_
 refine sx_norm ?_
 refine sx_false (by kernel_rfl) ?_
 refine wp_skip (sx_norm (wp_seq (wp_region_lit ?_)))
 refine Zv rfl (.pointer (some ⟨q, 0, none⟩)) ?_
 refine sx_call (by kernel_rfl) rfl rfl (ways_n (crs x ty st l) hc K q Y10 (hKv.below HV)) (by kernel_rfl) ?_
 rintro e w9 ⟨rfl, rfl⟩
 refine ⟨_, rfl, ?_⟩
 obtain ⟨bR, hbR⟩ : ∃ m, Y10.heap.size = m := ⟨_, rfl⟩
 obtain ⟨W12, hW⟩ : ∃ W, Y10.alloc (.cells (boA (List.replicate (crs x ty st l).n false)) 4) = W := ⟨_, rfl⟩
 have hb := hW ▸ below_alloc Y10 (.cells (boA (List.replicate (crs x ty st l).n false)) 4)
 have NT : Cb W12 bR (boA (List.replicate (crs x ty st l).n false)) 4 := by rw [← hW, ← hbR]; exact Cb.made Y10 _ _
 refine sx_mem (by kernel_rfl) rfl rfl (.slice (some ⟨bR, 0, none⟩) (crs x ty st l).n (crs x ty st l).n) W12 (by rw [← hW, ← bo_made, ← hbR]; exact ex_makeF (k := (crs x ty st l).n) (e := 4) (sz := 1) (z := .bool false) (bytes := 1) rfl (by kernel_rfl) (by kernel_rfl) Tryd.underlying31 (by kernel_rfl) (by decide) (by omega)) ?_
 replace HB := over HB hb
 replace M2 := M2.below hb
 replace M4 := M4.below hb
 replace M6 := M6.below hb
 replace HV := over HV hb
 have z6 := hb.size
 have yNT := NT.lt
 clear hb hW
 refine Zv rfl (.slice (some ⟨bR, 0, none⟩) (crs x ty st l).n (crs x ty st l).n) ?_
 refine wpList_nil (sx_norm (wp_seq (wp_region_lit ?_)))
 refine Zv rfl (.slice (some ⟨bR, 0, none⟩) (crs x ty st l).n (crs x ty st l).n) ?_
 refine Zv rfl (.pointer (some ⟨W1.heap.size, 2, none⟩)) ?_
 refine Zw rfl (.slice orr F.length cr) (el (M4.cell 2 rfl) Tryd.underlying31) ?_
 have hcp := copy_bo (P := Tryd.prog) (t := 31) (ty := 3) (cR := (crs x ty st l).n) (cF := cr) (hFx.below HB) NT (show F.length ≤ (crs x ty st l).n by omega) Tryd.underlying31 (by kernel_rfl)
 refine sx_mem (by kernel_rfl) rfl rfl (.int .i64 ((F.length : Nat) : Int)) _ (ex_copy rfl (by kernel_rfl) (by kernel_rfl) hcp.1) ?_
 obtain ⟨W13, hW⟩ : ∃ W, W12.setCells bR 0 (F.flatMap boE) = W := ⟨_, rfl⟩
 have hg : W12.grownBy W13 (some bR) := hW ▸ grown_sets _ _ _ _
 have hq := hW ▸ hcp.2
 rw [hW]
 have HV9 := HV.grown hg (by omega) (fun x e => by simp only [Option.some.injEq] at e; omega)
 replace HB := HB.grown hg (by omega) (fun x e => by simp only [Option.some.injEq] at e; omega)
 replace M2 := M2.kept hg (by omega)
 replace M4 := M4.kept hg (by omega)
 replace M6 := M6.kept hg (by omega)
 have z7 := hg.size
 replace HV := HV9
 clear HV9
 replace NT := hq
 replace NT : Cb _ bR (boA (bs0 F (crs x ty st l).n)) 4 := NT
 have hRl : (bs0 F (crs x ty st l).n).length = (crs x ty st l).n := bs0_len (by omega)
 clear hq hg hW hcp
 refine wpList_nil (sx_norm (wp_seq (wp_region_lit ?_)))
 refine Zv rfl (.pointer (some ⟨q, 0, none⟩)) ?_
 refine Zv rfl (.slice (some ⟨bR, 0, none⟩) (crs x ty st l).n (crs x ty st l).n) ?_
 by_cases C2 : ((crs x ty st l).run (bs0 F (crs x ty st l).n) (crs x ty st l).n) = 0
 ·refine sx_call (by kernel_rfl) rfl rfl ((by have h8 := run_yes (crs x ty st l) hc K q W13 (hKv.below HV) (bs0 F (crs x ty st l).n) hRl (some ⟨bR, 0, none⟩) (crs x ty st l).n bR 0 (boA_row NT) C2; rw [hRl] at h8; exact h8)) (by kernel_rfl) ?_
  rintro e W14 ⟨ol, cl, bl, ql, rfl, hL9, hb⟩
  replace HB := over HB hb
  replace M2 := M2.below hb
  replace M4 := M4.below hb
  replace M6 := M6.below hb
  replace NT := NT.below hb
  replace HV := over HV hb
  have z8 := hb.size
  clear hb
  refine ⟨_, rfl, ?_⟩
  have hrun9 := C2
  refine Zv rfl (.tuple #[.slice ol (crs x ty st l).n cl, .int .i64 0]) ?_
  refine Zv rfl (.slice ol (crs x ty st l).n cl) ?_
  refine Zv rfl (.int .i64 0) ?_
  refine Zv rfl (.slice ol (crs x ty st l).n cl) ?_
  refine Zv rfl (.int .i64 0) ?_
  refine wpList_nil (sx_norm (wp_seq (wp_seq (wp_region_lit ?_))))
  refine Zv rfl (.int .i64 0) ?_
  refine Zv rfl (.bool false) ?_
  refine Zv rfl (.bool false) ?_
  refine Zk rfl ?_
  refine Zk rfl ?_
  refine Zk rfl ?_
  refine Zk rfl ?_
  refine Zk rfl ?_
  refine Zk rfl ?_
  refine Zv rfl (.bool false) ?_
  refine wpList_nil (sx_norm ?_)
  refine sx_false (by kernel_rfl) ?_
  refine wp_skip (sx_norm (wp_seq (wp_seq (wp_region_lit ?_))))
  refine Zv rfl (.int .i64 0) ?_
  refine Zv rfl (.bool false) ?_
  refine wpList_nil (sx_norm ?_)
  refine sx_false (by kernel_rfl) ?_
  refine wp_skip (sx_norm (wp_seq (wp_region_lit ?_)))
  refine Zv rfl (.slice ol (crs x ty st l).n cl) ?_
  refine Zv rfl (.slice (some ⟨bR, 0, none⟩) (crs x ty st l).n (crs x ty st l).n) ?_
  refine sx_call (by kernel_rfl) rfl rfl ((by have h8 := sheetOf_n (crs x ty st l) hc (bs0 F (crs x ty st l).n) hRl hrun9 ol (some ⟨bR, 0, none⟩) cl (crs x ty st l).n bl ql bR 0 W14 hL9 (boA_row NT); rw [hRl] at h8; exact h8)) (by kernel_rfl) ?_
  rintro e W15 ⟨o9, c9, b9, q9, rfl, hS9, hS8, hb⟩
  replace HB := over HB hb
  replace M2 := M2.below hb
  replace M4 := M4.below hb
  replace M6 := M6.below hb
  replace NT := NT.below hb
  replace HV := over HV hb
  replace hL9 := hL9.below hb
  have z9 := hb.size
  clear hb
  refine ⟨_, rfl, ?_⟩
  refine Zr (cells := #[.bool ((crs x ty st l).sheet (bs0 F (crs x ty st l).n)).r, .int .i64 (((crs x ty st l).sheet (bs0 F (crs x ty st l).n)).d), .slice o9 ((crs x ty st l).sheet (bs0 F (crs x ty st l).n)).T.length c9, .int .i64 (((crs x ty st l).sheet (bs0 F (crs x ty st l).n)).e), .int .i64 (((crs x ty st l).sheet (bs0 F (crs x ty st l).n)).m)]) rfl rfl M6 (fun W16 hg hq => ?_)
  replace HB := HB.grown hg (by omega) (fun x e => by simp only [Option.some.injEq] at e; omega)
  replace M2 := M2.kept hg (by omega)
  replace M4 := M4.kept hg (by omega)
  replace NT := NT.kept hg (by omega)
  replace hS9 := hS9.kept hg (fun i hi => by have h8 := hS8 i hi; omega)
  have z10 := hg.size
  replace M6 := hq
  clear hq hg
  refine Zv rfl (.int .i64 0) ?_
  refine wpList_nil (sx_norm (wp_ret ?_))
  have hB9 : (crs x ty st l).bsR F = bs0 F (crs x ty st l).n := if_neg (fun h9 => by rw [h9.1] at hrun9; cases hrun9)
  have h8 := bestE_yes (F := F) hp9 (by omega)
  rw [hB9] at h8
  rw [hrun9] at h8
  have h9 : bestS x ty st l F = (crs x ty st l).sheet (bs0 F (crs x ty st l).n) := by unfold bestS; rw [h8, if_pos rfl, hB9]
  exact sx_retct M6 rfl rfl rfl (by kernel_rfl) (by kernel_rfl) Tryd.underlying37 rfl (by kernel_rfl) ⟨o9, c9, b9, q9, by rw [h8, h9]; rfl, by rw [h9]; exact hS9, (fun i hi => by rw [h9] at hi; have h7 := hS8 i hi; omega), HB⟩
 refine sx_call (by kernel_rfl) rfl rfl ((by have h8 := run_no (crs x ty st l) hc K q W13 (hKv.below HV) (bs0 F (crs x ty st l).n) hRl (some ⟨bR, 0, none⟩) (crs x ty st l).n bR 0 (boA_row NT) C2; rw [hRl] at h8; exact h8)) (by kernel_rfl) ?_
 rintro e W17 ⟨ol, cl, rfl, hb⟩
 replace HB := over HB hb
 replace M2 := M2.below hb
 replace M4 := M4.below hb
 replace M6 := M6.below hb
 replace NT := NT.below hb
 replace HV := over HV hb
 have z8 := hb.size
 clear hb
 refine ⟨_, rfl, ?_⟩
 refine Zv rfl (.tuple #[.slice ol 0 cl, .int .i64 ((crs x ty st l).run (bs0 F (crs x ty st l).n) (crs x ty st l).n)]) ?_
 refine Zv rfl (.slice ol 0 cl) ?_
 refine Zv rfl (.int .i64 ((crs x ty st l).run (bs0 F (crs x ty st l).n) (crs x ty st l).n)) ?_
 refine Zv rfl (.slice ol 0 cl) ?_
 refine Zv rfl (.int .i64 ((crs x ty st l).run (bs0 F (crs x ty st l).n) (crs x ty st l).n)) ?_
 refine wpList_nil (sx_norm (wp_seq (wp_seq (wp_region_lit ?_))))
 refine Zv rfl (.int .i64 ((crs x ty st l).run (bs0 F (crs x ty st l).n) (crs x ty st l).n)) ?_
 by_cases C3 : ((crs x ty st l).run (bs0 F (crs x ty st l).n) (crs x ty st l).n) = 16
 ·refine Zb rfl ((((crs x ty st l).run (bs0 F (crs x ty st l).n) (crs x ty st l).n) : Int) == (16 : Int)) true (beq_iff_eq.2 (by omega)) ?_
  refine Zv rfl (.bool true) ?_
  refine Zv rfl (.pointer (some ⟨q, 0, none⟩)) ?_
  refine Zv rfl (.slice (some ⟨bR, 0, none⟩) (crs x ty st l).n (crs x ty st l).n) ?_
  refine Zv rfl (.pointer (some ⟨W1.heap.size, 2, none⟩)) ?_
  refine Zw rfl (.slice orr F.length cr) (el (M4.cell 2 rfl) Tryd.underlying31) ?_
  refine Zv rfl (.int .i64 ((F.length : Nat) : Int)) ?_
  refine sx_call (by kernel_rfl) rfl rfl (by have h8 := find_n v0 (crs x ty st l) hc K q W17 hKv HV (bs0 F (crs x ty st l).n) F F.length bR (crs x ty st l).n hRl rfl (bs0_take _ _) (by omega) (by omega) (by omega) NT; exact h8) (by kernel_rfl) ?_
  rintro e W18 ⟨hfd, hk8⟩
  replace HB := HB.trans (hk8.toBelow HB.size (fun i hi e => by omega))
  replace M2 := M2.keep hk8 (fun e => by omega)
  replace M4 := M4.keep hk8 (fun e => by omega)
  replace M6 := M6.keep hk8 (fun e => by omega)
  clear NT
  replace HV := HV.trans (hk8.toBelow HV.size (fun i hi e => by omega))
  have zkW18 := hk8.size
  clear hk8
  rcases hfd with ⟨hp9', rfl, NT⟩ | ⟨hp9', rfl, NT⟩
  ·refine ⟨_, rfl, ?_⟩
   have hR2 : ((crs x ty st l).fnd F).length = (crs x ty st l).n := CrT.fnd_len _ _
   refine Zv rfl (.bool true) ?_
   refine wpList_nil (sx_norm ?_)
   refine sx_true (by kernel_rfl) ?_
   refine wp_region_lit ?_
   refine Zv rfl (.pointer (some ⟨q, 0, none⟩)) ?_
   refine Zv rfl (.slice (some ⟨bR, 0, none⟩) (crs x ty st l).n (crs x ty st l).n) ?_
   have hr0 := (CrT.fnd_p hp9' (Nat.le_refl _)).1
   refine sx_call (by kernel_rfl) rfl rfl ((by have h8 := run_yes (crs x ty st l) hc K q W18 (hKv.below HV) ((crs x ty st l).fnd F) hR2 (some ⟨bR, 0, none⟩) (crs x ty st l).n bR 0 (boA_row NT) hr0; rw [hR2] at h8; exact h8)) (by kernel_rfl) ?_
   rintro e W19 ⟨ol, cl, bl, ql, rfl, hL9, hb⟩
   replace HB := over HB hb
   replace M2 := M2.below hb
   replace M4 := M4.below hb
   replace M6 := M6.below hb
   replace NT := NT.below hb
   replace HV := over HV hb
   have z9 := hb.size
   clear hb
   refine ⟨_, rfl, ?_⟩
   have hrun9 := hr0
   refine Zv rfl (.tuple #[.slice ol (crs x ty st l).n cl, .int .i64 0]) ?_
   refine Zv rfl (.slice ol (crs x ty st l).n cl) ?_
   refine Zv rfl (.int .i64 0) ?_
   refine Zv rfl (.slice ol (crs x ty st l).n cl) ?_
   refine Zv rfl (.int .i64 0) ?_
   refine wpList_nil (sx_norm (wp_seq (wp_seq (wp_region_lit ?_))))
   refine Zv rfl (.int .i64 0) ?_
   refine Zv rfl (.bool false) ?_
   refine wpList_nil (sx_norm ?_)
   refine sx_false (by kernel_rfl) ?_
   refine wp_skip (sx_norm (wp_seq (wp_region_lit ?_)))
   refine Zv rfl (.slice ol (crs x ty st l).n cl) ?_
   refine Zv rfl (.slice (some ⟨bR, 0, none⟩) (crs x ty st l).n (crs x ty st l).n) ?_
   refine sx_call (by kernel_rfl) rfl rfl ((by have h8 := sheetOf_n (crs x ty st l) hc ((crs x ty st l).fnd F) hR2 hrun9 ol (some ⟨bR, 0, none⟩) cl (crs x ty st l).n bl ql bR 0 W19 hL9 (boA_row NT); rw [hR2] at h8; exact h8)) (by kernel_rfl) ?_
   rintro e W20 ⟨o9, c9, b9, q9, rfl, hS9, hS8, hb⟩
   replace HB := over HB hb
   replace M2 := M2.below hb
   replace M4 := M4.below hb
   replace M6 := M6.below hb
   replace NT := NT.below hb
   replace HV := over HV hb
   replace hL9 := hL9.below hb
   have z10 := hb.size
   clear hb
   refine ⟨_, rfl, ?_⟩
   refine Zr (cells := #[.bool ((crs x ty st l).sheet ((crs x ty st l).fnd F)).r, .int .i64 (((crs x ty st l).sheet ((crs x ty st l).fnd F)).d), .slice o9 ((crs x ty st l).sheet ((crs x ty st l).fnd F)).T.length c9, .int .i64 (((crs x ty st l).sheet ((crs x ty st l).fnd F)).e), .int .i64 (((crs x ty st l).sheet ((crs x ty st l).fnd F)).m)]) rfl rfl M6 (fun W21 hg hq => ?_)
   replace HB := HB.grown hg (by omega) (fun x e => by simp only [Option.some.injEq] at e; omega)
   replace M2 := M2.kept hg (by omega)
   replace M4 := M4.kept hg (by omega)
   replace NT := NT.kept hg (by omega)
   replace hS9 := hS9.kept hg (fun i hi => by have h8 := hS8 i hi; omega)
   have z11 := hg.size
   replace M6 := hq
   clear hq hg
   refine Zv rfl (.int .i64 0) ?_
   refine wpList_nil (sx_norm (wp_ret ?_))
   have hB9 : (crs x ty st l).bsR F = (crs x ty st l).fnd F := if_pos ⟨by assumption, hp9'⟩
   have h8 := bestE_yes (F := F) hp9 (by omega)
   rw [hB9] at h8
   rw [hrun9] at h8
   have h9 : bestS x ty st l F = (crs x ty st l).sheet ((crs x ty st l).fnd F) := by unfold bestS; rw [h8, if_pos rfl, hB9]
   exact sx_retct M6 rfl rfl rfl (by kernel_rfl) (by kernel_rfl) Tryd.underlying37 rfl (by kernel_rfl) ⟨o9, c9, b9, q9, by rw [h8, h9]; rfl, by rw [h9]; exact hS9, (fun i hi => by rw [h9] at hi; have h7 := hS8 i hi; omega), HB⟩
  refine ⟨_, rfl, ?_⟩
  refine Zv rfl (.bool false) ?_
  refine wpList_nil (sx_norm ?_)
  refine sx_false (by kernel_rfl) ?_
  refine wp_skip (sx_norm (wp_seq (wp_seq (wp_region_lit ?_))))
  refine Zv rfl (.int .i64 ((crs x ty st l).run (bs0 F (crs x ty st l).n) (crs x ty st l).n)) ?_
  refine Zb rfl ((((crs x ty st l).run (bs0 F (crs x ty st l).n) (crs x ty st l).n) : Int) != (0 : Int)) true (bne_iff_ne.2 (by omega)) ?_
  refine wpList_nil (sx_norm ?_)
  refine sx_true (by kernel_rfl) ?_
  refine wp_seq (wp_region_lit ?_)
  refine Zv rfl (.agg #[.bool false, .int .i64 0, .slice none 0 0, .int .i64 0, .int .i64 0]) ?_
  refine Zv rfl (.int .i64 ((crs x ty st l).run (bs0 F (crs x ty st l).n) (crs x ty st l).n)) ?_
  refine Zr (cells := #[.bool false, .int .i64 0, .slice none 0 0, .int .i64 0, .int .i64 0]) rfl rfl M6 (fun W22 hg hq => ?_)
  replace HB := HB.grown hg (by omega) (fun x e => by simp only [Option.some.injEq] at e; omega)
  replace M2 := M2.kept hg (by omega)
  replace M4 := M4.kept hg (by omega)
  replace NT := NT.kept hg (by omega)
  have z9 := hg.size
  replace M6 := hq
  clear hq hg
  refine Zv rfl (.int .i64 ((crs x ty st l).run (bs0 F (crs x ty st l).n) (crs x ty st l).n)) ?_
  refine wpList_nil (sx_norm (wp_ret (sx_rs ?_)))
  have hB9 : (crs x ty st l).bsR F = bs0 F (crs x ty st l).n := if_neg (fun h9 => by rw [hp9'] at h9; cases h9.2)
  have h8 := bestE_yes (F := F) hp9 (by omega)
  rw [hB9] at h8
  have h9 : bestS x ty st l F = sh0 := by unfold bestS; rw [h8, if_neg (by assumption)]
  exact sx_retct M6 rfl rfl rfl (by kernel_rfl) (by kernel_rfl) Tryd.underlying37 rfl (by kernel_rfl) ⟨none, 0, 0, 0, by rw [h8, h9]; rfl, by rw [h9]; exact rw_sh0 _, (fun i hi => by rw [h9] at hi; exact absurd hi (Nat.not_lt_zero i)), HB⟩
 refine Zb rfl ((((crs x ty st l).run (bs0 F (crs x ty st l).n) (crs x ty st l).n) : Int) == (16 : Int)) false (beq_eq_false_iff_ne.2 (by omega)) ?_
 refine Zv rfl (.bool false) ?_
 refine Zk rfl ?_
 refine Zk rfl ?_
 refine Zk rfl ?_
 refine Zk rfl ?_
 refine Zk rfl ?_
 refine Zk rfl ?_
 refine Zv rfl (.bool false) ?_
 refine wpList_nil (sx_norm ?_)
 refine sx_false (by kernel_rfl) ?_
 refine wp_skip (sx_norm (wp_seq (wp_seq (wp_region_lit ?_))))
 refine Zv rfl (.int .i64 ((crs x ty st l).run (bs0 F (crs x ty st l).n) (crs x ty st l).n)) ?_
 refine Zb rfl ((((crs x ty st l).run (bs0 F (crs x ty st l).n) (crs x ty st l).n) : Int) != (0 : Int)) true (bne_iff_ne.2 (by omega)) ?_
 refine wpList_nil (sx_norm ?_)
 refine sx_true (by kernel_rfl) ?_
 refine wp_seq (wp_region_lit ?_)
 refine Zv rfl (.agg #[.bool false, .int .i64 0, .slice none 0 0, .int .i64 0, .int .i64 0]) ?_
 refine Zv rfl (.int .i64 ((crs x ty st l).run (bs0 F (crs x ty st l).n) (crs x ty st l).n)) ?_
 refine Zr (cells := #[.bool false, .int .i64 0, .slice none 0 0, .int .i64 0, .int .i64 0]) rfl rfl M6 (fun W23 hg hq => ?_)
 replace HB := HB.grown hg (by omega) (fun x e => by simp only [Option.some.injEq] at e; omega)
 replace M2 := M2.kept hg (by omega)
 replace M4 := M4.kept hg (by omega)
 replace NT := NT.kept hg (by omega)
 have z9 := hg.size
 replace M6 := hq
 clear hq hg
 refine Zv rfl (.int .i64 ((crs x ty st l).run (bs0 F (crs x ty st l).n) (crs x ty st l).n)) ?_
 refine wpList_nil (sx_norm (wp_ret (sx_rs ?_)))
 have hB9 : (crs x ty st l).bsR F = bs0 F (crs x ty st l).n := if_neg (fun h9 => absurd h9.1 (by assumption))
 have h8 := bestE_yes (F := F) hp9 (by omega)
 rw [hB9] at h8
 have h9 : bestS x ty st l F = sh0 := by unfold bestS; rw [h8, if_neg (by assumption)]
 exact sx_retct M6 rfl rfl rfl (by kernel_rfl) (by kernel_rfl) Tryd.underlying37 rfl (by kernel_rfl) ⟨none, 0, 0, 0, by rw [h8, h9]; rfl, by rw [h9]; exact rw_sh0 _, (fun i hi => by rw [h9] at hi; exact absurd hi (Nat.not_lt_zero i)), HB⟩

end Go.Proofs.YtomebalolmabnaaDoor.T



