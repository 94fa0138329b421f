/-
  DERIVED. Gf: a part of the base of layer 13 (made by pack.py).
-/
import Derived.Test.YtomebalolmabnaaDoorGA
import Derived.Test.YtomebalolmabnaaDoorGQ
import Derived.Test.YtomebalolmabnaaDoorGR
/-! The specification of schedules: Best (by gen_gf.py). -/
namespace Go.Proofs.YtomebalolmabnaaDoor.T
open Go.RowKit
set_option maxRecDepth 8000
attribute [local irreducible] wpList Code.wp wpAnyH

def BlR (x : InT) (ty st : Int) (l : List (Int × Bool)) (F : List Bool) (wr : World) (q4 q8 gg : Nat) (vN : Value) (mo fo : Bool) (S : ShT) : Prop :=
 ∃ P, (∀ r, minL (fun R => decide (runE x ty st l R = 0)) (fun R => (runS x ty st l R).e) P = some r → fo = true ∧ S = runS x ty st l r) ∧ (minL (fun R => decide (runE x ty st l R = 0)) (fun R => (runS x ty st l R).e) P = none → fo = false) ∧
  (mo = true → ∃ R Q cR bR, vN = .slice (some ⟨bR, 0, none⟩) (l.length + 1) cR ∧ R.length = (l.length + 1) ∧ Rw wr bR 0 1 (bF R) (l.length + 1) (some ⟨bR, 0, none⟩) ∧ bR ≠ q4 ∧ bR ≠ q8 ∧ P ++ R :: Q = CrT.ls F (l.length + 1) 0 ∧ ChnT (fun s => nxI F.length s (l.length + 1)) none (R :: Q) ∧ Q.length < gg) ∧
  (mo = false → P = CrT.ls F (l.length + 1) 0)
theorem minL_snoc (ok : List Bool → Bool) (en : List Bool → Int) (P : List (List Bool)) (R : List Bool) : minL ok en (P ++ [R]) = mstep ok en (minL ok en P) R := by unfold minL; rw [List.foldl_append]; rfl
theorem BlR.next {x : InT} {ty st : Int} {l : List (Int × Bool)} {F : List Bool} {wr : World} {q4 q8 gg : Nat} {P Q : List (List Bool)} {R : List Bool} {fo' : Bool} {S' : ShT} {vN : Value} {mo : Bool} (hRl : R.length = (l.length + 1)) (hl : P ++ R :: Q = CrT.ls F (l.length + 1) 0) (hch : ChnT (fun s => nxI F.length s (l.length + 1)) none (R :: Q)) (hg : Q.length < gg)
  (h1 : ∀ r, minL (fun R => decide (runE x ty st l R = 0)) (fun R => (runS x ty st l R).e) (P ++ [R]) = some r → fo' = true ∧ S' = runS x ty st l r) (h2 : minL (fun R => decide (runE x ty st l R = 0)) (fun R => (runS x ty st l R).e) (P ++ [R]) = none → fo' = false)
  (hn : (∃ R' bN cN, nxI F.length R (l.length + 1) = some R' ∧ vN = .slice (some ⟨bN, 0, none⟩) (l.length + 1) cN ∧ mo = true ∧ Rw wr bN 0 1 (bF R') (l.length + 1) (some ⟨bN, 0, none⟩) ∧ bN ≠ q4 ∧ bN ≠ q8) ∨ (nxI F.length R (l.length + 1) = none ∧ mo = false)) : BlR x ty st l F wr q4 q8 (gg - 1) vN mo fo' S' ∧ (mo = true → gg - 1 < gg) := by
 refine ⟨⟨P ++ [R], h1, h2, fun hm => ?_, fun hm => ?_⟩, fun _ => by omega⟩
 ·rcases hn with ⟨R', bN, cN, e1, e2, -, e3, e4, e5⟩ | ⟨-, e⟩
  ·have hl' : R'.length = (l.length + 1) := by rw [← hRl]; exact nxI_len (by omega) (hRl ▸ e1)
   cases Q with
   | nil => rw [show nxI F.length R (l.length + 1) = none from hch] at e1; cases e1
   | cons Y Q =>
    have e9 : nxI F.length R (l.length + 1) = some Y := hch.1
    rw [e1] at e9
    cases e9
    exact ⟨R', Q, cN, bN, e2, hl', e3, e4, e5, by rw [← hl]; simp, hch.2, by simp only [List.length_cons] at hg; omega⟩
  ·rw [hm] at e; cases e
 ·rcases hn with ⟨R', bN, cN, -, -, e, -⟩ | ⟨e1, -⟩
  ·rw [hm] at e; cases e
  ·cases Q with
   | nil => rw [← hl]
   | cons Y Q =>
    have e9 : nxI F.length R (l.length + 1) = some Y := hch.1
    rw [e1] at e9
    cases e9
theorem best_err {x : InT} {ty st : Int} {l : List (Int × Bool)} {P : List (List Bool)} {R : List Bool} {fo : Bool} {S : ShT} (h1 : ∀ r, minL (fun R => decide (runE x ty st l R = 0)) (fun R => (runS x ty st l R).e) P = some r → fo = true ∧ S = runS x ty st l r) (h2 : minL (fun R => decide (runE x ty st l R = 0)) (fun R => (runS x ty st l R).e) P = none → fo = false) (h : ¬ runE x ty st l R = 0) : (∀ r, minL (fun R => decide (runE x ty st l R = 0)) (fun R => (runS x ty st l R).e) (P ++ [R]) = some r → fo = true ∧ S = runS x ty st l r) ∧ (minL (fun R => decide (runE x ty st l R = 0)) (fun R => (runS x ty st l R).e) (P ++ [R]) = none → fo = false) := by
 rw [minL_snoc]
 have e : mstep (fun R => decide (runE x ty st l R = 0)) (fun R => (runS x ty st l R).e) (minL (fun R => decide (runE x ty st l R = 0)) (fun R => (runS x ty st l R).e) P) R = minL (fun R => decide (runE x ty st l R = 0)) (fun R => (runS x ty st l R).e) P := by
  show (if decide (runE x ty st l R = 0) = true then _ else _) = _
  rw [if_neg (by simpa using h)]
 rw [e]
 exact ⟨h1, h2⟩
theorem best_new {x : InT} {ty st : Int} {l : List (Int × Bool)} {P : List (List Bool)} {R : List Bool} {fo : Bool} {S : ShT} (h1 : ∀ r, minL (fun R => decide (runE x ty st l R = 0)) (fun R => (runS x ty st l R).e) P = some r → fo = true ∧ S = runS x ty st l r) (_h2 : minL (fun R => decide (runE x ty st l R = 0)) (fun R => (runS x ty st l R).e) P = none → fo = false) (h : runE x ty st l R = 0) (hl : fo = false ∨ (runS x ty st l R).e < S.e) : (∀ r, minL (fun R => decide (runE x ty st l R = 0)) (fun R => (runS x ty st l R).e) (P ++ [R]) = some r → true = true ∧ runS x ty st l R = runS x ty st l r) ∧ (minL (fun R => decide (runE x ty st l R = 0)) (fun R => (runS x ty st l R).e) (P ++ [R]) = none → true = false) := by
 rw [minL_snoc]
 have e : mstep (fun R => decide (runE x ty st l R = 0)) (fun R => (runS x ty st l R).e) (minL (fun R => decide (runE x ty st l R = 0)) (fun R => (runS x ty st l R).e) P) R = some R := by
  show (if decide (runE x ty st l R = 0) = true then cmb _ (minL (fun R => decide (runE x ty st l R = 0)) (fun R => (runS x ty st l R).e) P) (some R) else _) = _
  rw [if_pos (decide_eq_true h)]
  cases hm : minL (fun R => decide (runE x ty st l R = 0)) (fun R => (runS x ty st l R).e) P with
  | none => rfl
  | some r =>
   obtain ⟨h3, h4⟩ := h1 r hm
   show (if (runS x ty st l R).e < (runS x ty st l r).e then some R else some r) = some R
   have h5 : (runS x ty st l R).e < (runS x ty st l r).e := by
    rcases hl with hl | hl
    ·rw [h3] at hl; cases hl
    ·rw [← h4]; exact hl
   rw [if_pos h5]
 rw [e]
 exact ⟨fun r hr => ⟨rfl, by cases hr; rfl⟩, fun h => by cases h⟩
theorem best_old {x : InT} {ty st : Int} {l : List (Int × Bool)} {P : List (List Bool)} {R : List Bool} {fo : Bool} {S : ShT} (h1 : ∀ r, minL (fun R => decide (runE x ty st l R = 0)) (fun R => (runS x ty st l R).e) P = some r → fo = true ∧ S = runS x ty st l r) (h2 : minL (fun R => decide (runE x ty st l R = 0)) (fun R => (runS x ty st l R).e) P = none → fo = false) (h : runE x ty st l R = 0) (hf : fo = true) (hl : ¬ (runS x ty st l R).e < S.e) : (∀ r, minL (fun R => decide (runE x ty st l R = 0)) (fun R => (runS x ty st l R).e) (P ++ [R]) = some r → fo = true ∧ S = runS x ty st l r) ∧ (minL (fun R => decide (runE x ty st l R = 0)) (fun R => (runS x ty st l R).e) (P ++ [R]) = none → fo = false) := by
 rw [minL_snoc]
 cases hm : minL (fun R => decide (runE x ty st l R = 0)) (fun R => (runS x ty st l R).e) P with
 | none => rw [h2 hm] at hf; cases hf
 | some r =>
  have e : mstep (fun R => decide (runE x ty st l R = 0)) (fun R => (runS x ty st l R).e) (some r) R = some r := by
   show (if decide (runE x ty st l R = 0) = true then cmb _ (some r) (some R) else _) = _
   rw [if_pos (decide_eq_true h)]
   show (if (runS x ty st l R).e < (runS x ty st l r).e then some R else some r) = some r
   rw [if_neg (by rw [← (h1 r hm).2]; exact hl)]
  rw [e, ← hm]
  exact ⟨h1, h2⟩
theorem refBest_n (k : Iv) (x : InT) (hin9 : inF x = []) (hal9 : x.al.length ≤ 1000000) (ty st : Int) (orr oa : Option Addr) (cr ca b o bf qf : Nat) (l : List (Int × Bool)) (hln : l.length ≤ 1048576) (F : List Bool) (w : World) (hI : Ins w k x) (hl : Rw w b o 2 (vF l) l.length oa) (hFx : Rw w bf qf 1 (bF F) F.length orr) : Calls Tryd.prog 14 #[.agg (iK k x), .agg (rK ty st orr F.length cr oa l.length ca)] w fun e w' => ∃ o9 c9 b9 q9, e = .returned (.tuple #[.agg (shC (bestS x ty st l F) o9 c9), .int .i64 (bestE x ty st l F)]) ∧ Rw w' b9 q9 4 (fun k => tmE ((bestS x ty st l F).T.getD k tm0)) (bestS x ty st l F).T.length o9 ∧ Below w.heap.size w w' := by
 have hal : x.al.length ≤ 1000000000 := by omega
 have hok : posD x.tl x.ol ty st l = true → (crs x ty st l).Ok := fun hp => crs_ok hin9 hal9 hp
 have HB : Below w.heap.size w w := Below.refl _ _
 refine sx_enter Tryd.func14 rfl [(0, .agg (iK k x)), (1, .agg (rK ty st orr F.length cr oa l.length ca))] (by kernel_rfl) ?_
 refine wp_seq (wp_region_lit ?_)
 obtain ⟨W1, hW, hb, hq⟩ := laidA w (iK k x) 30
 refine sx_mem (by kernel_rfl) rfl rfl (.pointer (some ⟨w.heap.size, 0, none⟩)) W1 (by rw [← hW]; kernel_rfl) ?_
 replace HB := over HB hb
 have z1 := hb.size
 have M2 := hq
 have yM2 := hq.lt
 clear hq hb hW
 obtain ⟨W3, hW, hb, hq⟩ := laidA W1 (rK ty st orr F.length cr oa l.length ca) 34
 refine sx_mem (by kernel_rfl) rfl rfl (.pointer (some ⟨W1.heap.size, 0, none⟩)) W3 (by rw [← hW]; kernel_rfl) ?_
 replace HB := over HB hb
 replace M2 := M2.below hb
 have z2 := hb.size
 have M4 := hq
 have yM4 := hq.lt
 clear hq hb hW
 obtain ⟨W5, hW, hb, hq⟩ := laidA W3 #[.bool false, .int .i64 0, .slice none 0 0, .int .i64 0, .int .i64 0] 37
 refine sx_mem (by kernel_rfl) rfl rfl (.pointer (some ⟨W3.heap.size, 0, none⟩)) W5 (by rw [← hW]; kernel_rfl) ?_
 replace HB := over HB hb
 replace M2 := M2.below hb
 replace M4 := M4.below hb
 have z3 := hb.size
 have M6 := hq
 have yM6 := hq.lt
 clear hq hb hW
 refine Zv rfl (.int .i64 0) ?_
 refine wpList_nil (sx_norm (wp_seq (wp_region_lit ?_)))
 refine Zv rfl (.pointer (some ⟨W1.heap.size, 3, none⟩)) ?_
 refine Zw rfl (.slice oa l.length ca) (el (M4.cell 3 rfl) Tryd.underlying32) ?_
 refine Zv rfl (.int .i64 ((l.length : Nat) : Int)) ?_
 refine sx_int (by kernel_rfl) rfl rfl .i64 (IntKind.i64.wrap (((l.length : Nat) : Int) + 1)) (((l.length + 1 : Nat) : Int)) (by kernel_rfl) (by rw [IntKind.wrap_i64]; omega) ?_
 refine Zv rfl (.int .i64 ((l.length + 1 : Nat) : Int)) ?_
 refine wpList_nil (sx_norm (wp_seq (wp_seq (wp_region_lit ?_))))
 refine Zw rfl (.agg (iK k x)) (ex_load rfl M2 (by kernel_rfl) Tryd.underlying30 rfl (by kernel_rfl)) ?_
 refine Zw rfl (.agg (rK ty st orr F.length cr oa l.length ca)) (ex_load rfl M4 (by kernel_rfl) Tryd.underlying34 rfl (by kernel_rfl)) ?_
 by_cases C1 : posD x.tl x.ol ty st l = true
 ·refine sx_call (by kernel_rfl) rfl rfl ((by have h8 := refPoss_n k x ty st orr oa cr ca b o l F W5 (hI.below HB) (hl.below HB); rw [C1] at h8; exact h8)) (by kernel_rfl) ?_
  rintro e W7 ⟨rfl, hb⟩
  replace HB := over HB hb
  replace M2 := M2.below hb
  replace M4 := M4.below hb
  replace M6 := M6.below hb
  have z4 := hb.size
  clear hb
  refine ⟨_, rfl, ?_⟩
  have hl20 := posD_len C1
  have hp9 := C1
  have hcn9 : (crs x ty st l).n = (l.length + 1) := crs_n x ty st l
  refine Zv rfl (.bool false) ?_
  refine Zv rfl (.bool false) ?_
  refine Zv rfl (.pointer (some ⟨W1.heap.size, 2, none⟩)) ?_
  refine Zw rfl (.slice orr F.length cr) (el (M4.cell 2 rfl) Tryd.underlying31) ?_
  refine Zv rfl (.int .i64 ((F.length : Nat) : Int)) ?_
  refine Zv rfl (.int .i64 ((l.length + 1 : Nat) : Int)) ?_
  by_cases C2 : F.length > l.length + 1
  ·refine Zb rfl (decide (((F.length : Nat) : Int) > ((l.length + 1 : Nat) : Int))) true (decide_eq_true (by omega)) ?_
   refine Zv rfl (.bool true) ?_
   refine wpList_nil (sx_norm ?_)
   refine sx_true (by kernel_rfl) ?_
   refine wp_seq (wp_region_lit ?_)
   refine Zv rfl (.agg #[.bool false, .int .i64 0, .slice none 0 0, .int .i64 0, .int .i64 0]) ?_
   refine Zr (cells := #[.bool false, .int .i64 0, .slice none 0 0, .int .i64 0, .int .i64 0]) rfl rfl M6 (fun W8 hg hq => ?_)
   replace HB := HB.grown hg (by omega) (fun x e => by simp only [Option.some.injEq] at e; omega)
   replace M2 := M2.kept hg (by omega)
   replace M4 := M4.kept hg (by omega)
   have z5 := hg.size
   replace M6 := hq
   clear hq hg
   refine Zv rfl (.int .i64 2) ?_
   refine wpList_nil (sx_norm (wp_ret (sx_rs ?_)))
   have h7 := bestE_no (x := x) (ty := ty) (st := st) (l := l) (F := F) (.inr (by omega))
   have h9 := h7.1
   have h8 := h7.2
   exact sx_retct (v' := .int .i64 2) M6 rfl rfl rfl (by kernel_rfl) (by kernel_rfl) Tryd.underlying37 rfl (by kernel_rfl) ⟨none, 0, 0, 0, by rw [h9, h8]; rfl, by rw [h8]; exact rw_sh0 _, HB⟩
  refine Zb rfl (decide (((F.length : Nat) : Int) > ((l.length + 1 : Nat) : Int))) false (decide_eq_false (by omega)) ?_
  refine Zv rfl (.bool false) ?_
  refine wpList_nil (sx_norm ?_)
  refine sx_false (by kernel_rfl) ?_
  refine wp_skip (sx_norm (wp_seq (wp_region_lit ?_)))
  refine Zv rfl (.int .i64 ((l.length + 1 : Nat) : Int)) ?_
  obtain ⟨bR, hbR⟩ : ∃ m, W7.heap.size = m := ⟨_, rfl⟩
  obtain ⟨W9, hW⟩ : ∃ W, W7.alloc (.cells (boA (List.replicate (l.length + 1) false)) 4) = W := ⟨_, rfl⟩
  have hb := hW ▸ below_alloc W7 (.cells (boA (List.replicate (l.length + 1) false)) 4)
  have NT : Cb W9 bR (boA (List.replicate (l.length + 1) false)) 4 := by rw [← hW, ← hbR]; exact Cb.made W7 _ _
  refine sx_mem (by kernel_rfl) rfl rfl (.slice (some ⟨bR, 0, none⟩) (l.length + 1) (l.length + 1)) W9 (by rw [← hW, ← bo_made, ← hbR]; exact ex_makeF (k := (l.length + 1)) (e := 4) (sz := 1) (z := .bool false) (bytes := 1) rfl (by kernel_rfl) (by kernel_rfl) Tryd.underlying31 (by kernel_rfl) (by decide) (by omega)) ?_
  replace HB := over HB hb
  replace M2 := M2.below hb
  replace M4 := M4.below hb
  replace M6 := M6.below hb
  have z5 := hb.size
  have yNT := NT.lt
  clear hb hW
  refine Zv rfl (.slice (some ⟨bR, 0, none⟩) (l.length + 1) (l.length + 1)) ?_
  refine wpList_nil (sx_norm (wp_seq (wp_region_lit ?_)))
  refine Zv rfl (.slice (some ⟨bR, 0, none⟩) (l.length + 1) (l.length + 1)) ?_
  refine Zv rfl (.pointer (some ⟨W1.heap.size, 2, none⟩)) ?_
  refine Zw rfl (.slice orr F.length cr) (el (M4.cell 2 rfl) Tryd.underlying31) ?_
  have hcp := copy_bo (P := Tryd.prog) (t := 31) (ty := 3) (cR := (l.length + 1)) (cF := cr) (hFx.below HB) NT (show F.length ≤ (l.length + 1) by omega) Tryd.underlying31 (by kernel_rfl)
  refine sx_mem (by kernel_rfl) rfl rfl (.int .i64 ((F.length : Nat) : Int)) _ (ex_copy rfl (by kernel_rfl) (by kernel_rfl) hcp.1) ?_
  obtain ⟨W10, hW⟩ : ∃ W, W9.setCells bR 0 (F.flatMap boE) = W := ⟨_, rfl⟩
  have hg : W9.grownBy W10 (some bR) := hW ▸ grown_sets _ _ _ _
  have hq := hW ▸ hcp.2
  rw [hW]
  replace HB := HB.grown hg (by omega) (fun x e => by simp only [Option.some.injEq] at e; omega)
  replace M2 := M2.kept hg (by omega)
  replace M4 := M4.kept hg (by omega)
  replace M6 := M6.kept hg (by omega)
  have z6 := hg.size
  replace NT := hq
  replace NT : Cb _ bR (boA (bs0 F (l.length + 1))) 4 := NT
  have hRl : (bs0 F (l.length + 1)).length = (l.length + 1) := bs0_len (by omega)
  clear hq hg hW hcp
  refine wpList_nil (sx_norm (wp_seq (wp_region_lit ?_)))
  refine Zw rfl (.agg (iK k x)) (ex_load rfl M2 (by kernel_rfl) Tryd.underlying30 rfl (by kernel_rfl)) ?_
  refine Zw rfl (.agg (rK ty st orr F.length cr oa l.length ca)) (ex_load rfl M4 (by kernel_rfl) Tryd.underlying34 rfl (by kernel_rfl)) ?_
  refine Zv rfl (.slice (some ⟨bR, 0, none⟩) (l.length + 1) (l.length + 1)) ?_
  refine sx_call (by kernel_rfl) rfl rfl ((by have h8 := refRunR_n k x hal ty st orr oa cr ca b o l F hok (bs0 F (l.length + 1)) (some ⟨bR, 0, none⟩) (l.length + 1) bR 0 W10 (hI.below HB) (hl.below HB) (boA_row NT); rw [hRl] at h8; exact h8)) (by kernel_rfl) ?_
  rintro e W11 ⟨oA, cA, bA, qA, rfl, hSA, hmA, hb⟩
  have hltA : ∀ i, i < (runS x ty st l (bs0 F (l.length + 1))).T.length → bA < W11.heap.size := fun i hi => hSA.lt hi
  replace HB := over HB hb
  replace M2 := M2.below hb
  replace M4 := M4.below hb
  replace M6 := M6.below hb
  replace NT := NT.below hb
  have z7 := hb.size
  clear hb
  refine ⟨_, rfl, ?_⟩
  refine Zv rfl (.tuple #[.agg #[.bool (runS x ty st l (bs0 F (l.length + 1))).r, .int .i64 ((runS x ty st l (bs0 F (l.length + 1))).d), .slice oA (runS x ty st l (bs0 F (l.length + 1))).T.length cA, .int .i64 ((runS x ty st l (bs0 F (l.length + 1))).e), .int .i64 ((runS x ty st l (bs0 F (l.length + 1))).m)], .int .i64 (runE x ty st l (bs0 F (l.length + 1)))]) ?_
  refine Zv rfl (.agg #[.bool (runS x ty st l (bs0 F (l.length + 1))).r, .int .i64 ((runS x ty st l (bs0 F (l.length + 1))).d), .slice oA (runS x ty st l (bs0 F (l.length + 1))).T.length cA, .int .i64 ((runS x ty st l (bs0 F (l.length + 1))).e), .int .i64 ((runS x ty st l (bs0 F (l.length + 1))).m)]) ?_
  refine Zv rfl (.int .i64 (runE x ty st l (bs0 F (l.length + 1)))) ?_
  obtain ⟨W13, hW, hb, hq⟩ := laidV W11 #[.bool false, .int .i64 0, .slice none 0 0, .int .i64 0, .int .i64 0] #[.bool (runS x ty st l (bs0 F (l.length + 1))).r, .int .i64 ((runS x ty st l (bs0 F (l.length + 1))).d), .slice oA (runS x ty st l (bs0 F (l.length + 1))).T.length cA, .int .i64 ((runS x ty st l (bs0 F (l.length + 1))).e), .int .i64 ((runS x ty st l (bs0 F (l.length + 1))).m)] 37
  refine sx_mem (by kernel_rfl) rfl rfl (.pointer (some ⟨W11.heap.size, 0, none⟩)) (W11.alloc (.cells #[.bool false, .int .i64 0, .slice none 0 0, .int .i64 0, .int .i64 0] 37)) (by kernel_rfl) ?_
  refine Zs (cells := #[.bool (runS x ty st l (bs0 F (l.length + 1))).r, .int .i64 ((runS x ty st l (bs0 F (l.length + 1))).d), .slice oA (runS x ty st l (bs0 F (l.length + 1))).T.length cA, .int .i64 ((runS x ty st l (bs0 F (l.length + 1))).e), .int .i64 ((runS x ty st l (bs0 F (l.length + 1))).m)]) rfl rfl (Cb.made W11 #[.bool false, .int .i64 0, .slice none 0 0, .int .i64 0, .int .i64 0] 37) ?_
  rw [hW]
  replace HB := over HB hb
  replace M2 := M2.below hb
  replace M4 := M4.below hb
  replace M6 := M6.below hb
  replace NT := NT.below hb
  replace hSA := hSA.below hb
  have z8 := hb.size
  have M12 := hq
  have yM12 := hq.lt
  clear hq hb hW
  refine Zv rfl (.int .i64 (runE x ty st l (bs0 F (l.length + 1)))) ?_
  refine wpList_nil (sx_norm (wp_seq (wp_region_lit ?_)))
  refine Zv rfl (.int .i64 (runE x ty st l (bs0 F (l.length + 1)))) ?_
  refine Zv rfl (.bool (((runE x ty st l (bs0 F (l.length + 1))) : Int) == (0 : Int))) ?_
  refine Zv rfl (.bool (((runE x ty st l (bs0 F (l.length + 1))) : Int) == (0 : Int))) ?_
  refine wpList_nil (sx_norm (wp_seq (wp_region_lit ?_)))
  refine Zv rfl (.slice (some ⟨bR, 0, none⟩) (l.length + 1) (l.length + 1)) ?_
  refine Zv rfl (.pointer (some ⟨W1.heap.size, 2, none⟩)) ?_
  refine Zw rfl (.slice orr F.length cr) (el (M4.cell 2 rfl) Tryd.underlying31) ?_
  refine Zv rfl (.int .i64 ((F.length : Nat) : Int)) ?_
  refine sx_call (by kernel_rfl) rfl rfl (by have h8 := refNext_n (bs0 F (l.length + 1)) (by omega) (by omega) F.length (l.length + 1) bR 0 W13 (by have h7 := boA_row NT; exact h7); rw [hRl] at h8; exact h8) (by kernel_rfl) ?_
  rintro e W14 ⟨hnx0, hb⟩
  replace HB := over HB hb
  replace M2 := M2.below hb
  replace M4 := M4.below hb
  replace M6 := M6.below hb
  replace NT := NT.below hb
  replace hSA := hSA.below hb
  replace M12 := M12.below hb
  have z9 := hb.size
  clear hb
  obtain ⟨vN, mo', e9, hnx⟩ : ∃ vN mo', e = .returned (.tuple #[vN, .bool mo']) ∧ ((∃ R' bN cN, nxI F.length (bs0 F (l.length + 1)) (l.length + 1) = some R' ∧ vN = .slice (some ⟨bN, 0, none⟩) (l.length + 1) cN ∧ mo' = true ∧ Rw W14 bN 0 1 (bF R') (l.length + 1) (some ⟨bN, 0, none⟩) ∧ W13.heap.size ≤ bN) ∨ (nxI F.length (bs0 F (l.length + 1)) (l.length + 1) = none ∧ mo' = false)) := by
   rcases hnx0 with ⟨R', bN, cN, e1, e2, e3, e4⟩ | ⟨e1, e2⟩
   ·exact ⟨_, _, e2, .inl ⟨R', bN, cN, e1, rfl, rfl, e3, e4⟩⟩
   ·exact ⟨_, _, e2, .inr ⟨e1, rfl⟩⟩
  clear hnx0
  subst e9
  refine ⟨_, rfl, ?_⟩
  refine Zv rfl (.tuple #[vN, .bool mo']) ?_
  refine Zv rfl (vN) ?_
  refine Zv rfl (.bool mo') ?_
  refine Zv rfl (vN) ?_
  refine Zv rfl (.bool mo') ?_
  refine wpList_nil (sx_norm (wp_seq (wp_block ?_)))
  have hfo : (∀ r, minL (fun R => decide (runE x ty st l R = 0)) (fun R => (runS x ty st l R).e) [(bs0 F (l.length + 1))] = some r → (runE x ty st l (bs0 F (l.length + 1)) == (0 : Int)) = true ∧ runS x ty st l (bs0 F (l.length + 1)) = runS x ty st l r) ∧ (minL (fun R => decide (runE x ty st l R = 0)) (fun R => (runS x ty st l R).e) [(bs0 F (l.length + 1))] = none → (runE x ty st l (bs0 F (l.length + 1)) == (0 : Int)) = false) := by
   by_cases h0 : runE x ty st l (bs0 F (l.length + 1)) = 0
   ·have h7 := best_new (x := x) (ty := ty) (st := st) (l := l) (P := []) (R := (bs0 F (l.length + 1))) (fo := false) (S := sh0) (fun r h => by cases h) (fun _ => rfl) h0 (.inl rfl)
    refine ⟨fun r hr => ⟨(by rw [h0]; rfl), (h7.1 r hr).2⟩, fun h => absurd (h7.2 h) (by decide)⟩
   ·have h7 := best_err (x := x) (ty := ty) (st := st) (l := l) (P := []) (R := (bs0 F (l.length + 1))) (fo := false) (S := sh0) (fun r h => by cases h) (fun _ => rfl) h0
    exact ⟨fun r hr => absurd (h7.1 r hr).1 (by decide), fun _ => beq_eq_false_iff_ne.2 h0⟩
  obtain ⟨Q, hQ⟩ := CrT.ls_hd F (l.length + 1) 0 (by omega)
  rw [CrT.hd_zero] at hQ
  have hch := CrT.ls_chn F (l.length + 1) 0
  rw [Nat.sub_zero, hQ] at hch
  have hbl := (BlR.next (x := x) (ty := ty) (st := st) (l := l) (F := F) (wr := W14) (q4 := W3.heap.size) (q8 := W11.heap.size) (gg := Q.length + 1) (P := []) (Q := Q) (R := (bs0 F (l.length + 1))) (fo' := (runE x ty st l (bs0 F (l.length + 1)) == (0 : Int))) (S' := runS x ty st l (bs0 F (l.length + 1))) (vN := vN) (mo := mo') hRl (by rw [hQ]; rfl) hch (by omega) hfo.1 hfo.2 (by
   rcases hnx with ⟨R', bN, cN, e1, e2, e3, e4, e5⟩ | h
   ·exact .inl ⟨R', bN, cN, e1, e2, e3, e4, by omega, by omega⟩
   ·exact .inr h)).1
  refine sx_loop (fun x9 : Value × Bool × Bool × ShT × Option Addr × Nat × Nat × Nat => [(0, .agg (iK k x)), (1, .agg (rK ty st orr F.length cr oa l.length ca)), (2, .pointer (some ⟨w.heap.size, 0, none⟩)), (3, .pointer (some ⟨W1.heap.size, 0, none⟩)), (4, .pointer (some ⟨W3.heap.size, 0, none⟩)), (5, .int .i64 0), (6, .int .i64 ((l.length + 1 : Nat) : Int)), (7, x9.1), (8, .pointer (some ⟨W11.heap.size, 0, none⟩)), (9, .int .i64 (runE x ty st l (bs0 F (l.length + 1)))), (10, .bool x9.2.2.1), (11, .bool x9.2.1), (14, .pointer (some ⟨W1.heap.size, 3, none⟩)), (15, .slice oa l.length ca), (16, .int .i64 ((l.length : Nat) : Int)), (17, .int .i64 ((l.length + 1 : Nat) : Int)), (18, .agg (iK k x)), (19, .agg (rK ty st orr F.length cr oa l.length ca)), (20, .bool true), (21, .bool false), (22, .bool false), (23, .pointer (some ⟨W1.heap.size, 2, none⟩)), (24, .slice orr F.length cr), (25, .int .i64 ((F.length : Nat) : Int)), (26, .int .i64 ((l.length + 1 : Nat) : Int)), (27, .bool false), (28, .bool false), (30, .int .i64 ((l.length + 1 : Nat) : Int)), (31, .slice (some ⟨bR, 0, none⟩) (l.length + 1) (l.length + 1)), (32, .slice (some ⟨bR, 0, none⟩) (l.length + 1) (l.length + 1)), (33, .pointer (some ⟨W1.heap.size, 2, none⟩)), (34, .slice orr F.length cr), (35, .int .i64 ((F.length : Nat) : Int)), (36, .tuple #[.agg #[.bool (runS x ty st l (bs0 F (l.length + 1))).r, .int .i64 ((runS x ty st l (bs0 F (l.length + 1))).d), .slice oA (runS x ty st l (bs0 F (l.length + 1))).T.length cA, .int .i64 ((runS x ty st l (bs0 F (l.length + 1))).e), .int .i64 ((runS x ty st l (bs0 F (l.length + 1))).m)], .int .i64 (runE x ty st l (bs0 F (l.length + 1)))]), (37, .agg (iK k x)), (38, .agg (rK ty st orr F.length cr oa l.length ca)), (39, .slice (some ⟨bR, 0, none⟩) (l.length + 1) (l.length + 1)), (40, .tuple #[.agg #[.bool (runS x ty st l (bs0 F (l.length + 1))).r, .int .i64 ((runS x ty st l (bs0 F (l.length + 1))).d), .slice oA (runS x ty st l (bs0 F (l.length + 1))).T.length cA, .int .i64 ((runS x ty st l (bs0 F (l.length + 1))).e), .int .i64 ((runS x ty st l (bs0 F (l.length + 1))).m)], .int .i64 (runE x ty st l (bs0 F (l.length + 1)))]), (41, .agg #[.bool (runS x ty st l (bs0 F (l.length + 1))).r, .int .i64 ((runS x ty st l (bs0 F (l.length + 1))).d), .slice oA (runS x ty st l (bs0 F (l.length + 1))).T.length cA, .int .i64 ((runS x ty st l (bs0 F (l.length + 1))).e), .int .i64 ((runS x ty st l (bs0 F (l.length + 1))).m)]), (42, .int .i64 (runE x ty st l (bs0 F (l.length + 1)))), (43, .int .i64 (runE x ty st l (bs0 F (l.length + 1)))), (44, .bool (((runE x ty st l (bs0 F (l.length + 1))) : Int) == (0 : Int))), (45, .tuple #[vN, .bool mo']), (46, .slice (some ⟨bR, 0, none⟩) (l.length + 1) (l.length + 1)), (47, .pointer (some ⟨W1.heap.size, 2, none⟩)), (48, .slice orr F.length cr), (49, .int .i64 ((F.length : Nat) : Int)), (50, .tuple #[vN, .bool mo']), (51, vN), (52, .bool mo')]) (fun gg x9 wr => (x9.2.1 = true → 0 < gg) ∧ BlR x ty st l F wr (W3.heap.size) (W11.heap.size) gg x9.1 x9.2.1 x9.2.2.1 x9.2.2.2.1 ∧ Cb wr (W11.heap.size) #[.bool x9.2.2.2.1.r, .int .i64 x9.2.2.2.1.d, .slice x9.2.2.2.2.1 x9.2.2.2.1.T.length x9.2.2.2.2.2.1, .int .i64 x9.2.2.2.1.e, .int .i64 x9.2.2.2.1.m] 37 ∧ Rw wr x9.2.2.2.2.2.2.1 x9.2.2.2.2.2.2.2 4 (fun k => tmE (x9.2.2.2.1.T.getD k tm0)) x9.2.2.2.1.T.length x9.2.2.2.2.1 ∧ (∀ i, i < x9.2.2.2.1.T.length → x9.2.2.2.2.2.2.1 ≠ W11.heap.size ∧ x9.2.2.2.2.2.2.1 ≠ W3.heap.size) ∧ Below w.heap.size w wr ∧ W14.heap.size ≤ wr.heap.size ∧ Cb wr (w.heap.size) (iK k x) 30 ∧ Cb wr (W1.heap.size) (rK ty st orr F.length cr oa l.length ca) 34 ∧ Cb wr (W3.heap.size) #[.bool false, .int .i64 0, .slice none 0 0, .int .i64 0, .int .i64 0] 37) (Q.length) ((vN, mo', (runE x ty st l (bs0 F (l.length + 1)) == (0 : Int)), runS x ty st l (bs0 F (l.length + 1)), oA, cA, bA, qA)) (by kernel_rfl) ⟨fun hm => by obtain ⟨P9, -, -, h3, -⟩ := hbl; obtain ⟨R9, Q9, -, -, -, -, -, -, -, -, -, h7⟩ := h3 hm; omega, hbl, M12, hSA, fun i hi => by have h8 := hltA i hi; have h7 := hmA i hi; show bA ≠ W11.heap.size ∧ bA ≠ W3.heap.size; omega, HB, Nat.le_refl _, M2, M4, M6⟩ ?_
  rintro gg ⟨vM, mo, fo, S, oS, cS, bS, qS⟩ g' wr15 ⟨hg0, hBl, Q8, hS, hS8, HB, hzz, KM2, KM4, KM6⟩
  dsimp only at hg0 hBl Q8 hS hS8 HB hzz KM2 KM4 KM6
  have yKM2 := KM2.lt
  have yKM4 := KM4.lt
  have yKM6 := KM6.lt
  have yQ8 := Q8.lt
  refine wp_seq (wp_seq ?_)
  by_cases C3 : mo = true
  ·subst C3
   obtain ⟨P, h1, h2, h3, -⟩ := hBl
   obtain ⟨R, Q, cR, bR, e9, hRl, hRw, hb4, hb8, hls, hch, hQg⟩ := h3 rfl
   subst e9
   have yRw := hRw.lt (k := 0) (by omega)
   refine wp_region_lit ?_
   refine Zv rfl (.bool true) ?_
   refine wpList_nil (sx_norm ?_)
   refine sx_true (by kernel_rfl) ?_
   refine wp_skip (sx_norm (wp_block (wp_seq (wp_region_lit ?_))))
   refine Zw rfl (.agg (iK k x)) (ex_load rfl KM2 (by kernel_rfl) Tryd.underlying30 rfl (by kernel_rfl)) ?_
   refine Zw rfl (.agg (rK ty st orr F.length cr oa l.length ca)) (ex_load rfl KM4 (by kernel_rfl) Tryd.underlying34 rfl (by kernel_rfl)) ?_
   refine Zv rfl (.slice (some ⟨bR, 0, none⟩) (l.length + 1) cR) ?_
   by_cases C4 : (runE x ty st l R) = 0
   ·refine sx_call (by kernel_rfl) rfl rfl ((by have h8 := refRunR_n k x hal ty st orr oa cr ca b o l F hok R (some ⟨bR, 0, none⟩) cR bR 0 wr15 (hI.below HB) (hl.below HB) (by rw [hRl]; exact hRw); rw [hRl, C4] at h8; exact h8)) (by kernel_rfl) ?_
    rintro e W16 ⟨oB, cB, bB, qB, rfl, hSB, hmB, hb⟩
    have hltB : ∀ i, i < (runS x ty st l R).T.length → bB < W16.heap.size := fun i hi => hSB.lt hi
    replace HB := over HB hb
    replace hS := hS.below hb
    replace KM2 := KM2.below hb
    replace KM4 := KM4.below hb
    replace KM6 := KM6.below hb
    replace Q8 := Q8.below hb
    replace hRw := hRw.below hb
    have z10 := hb.size
    clear hb
    refine ⟨_, rfl, ?_⟩
    refine Zv rfl (.tuple #[.agg #[.bool (runS x ty st l R).r, .int .i64 ((runS x ty st l R).d), .slice oB (runS x ty st l R).T.length cB, .int .i64 ((runS x ty st l R).e), .int .i64 ((runS x ty st l R).m)], .int .i64 0]) ?_
    refine Zv rfl (.agg #[.bool (runS x ty st l R).r, .int .i64 ((runS x ty st l R).d), .slice oB (runS x ty st l R).T.length cB, .int .i64 ((runS x ty st l R).e), .int .i64 ((runS x ty st l R).m)]) ?_
    refine Zv rfl (.int .i64 0) ?_
    obtain ⟨W18, hW, hb, hq⟩ := laidV W16 #[.bool false, .int .i64 0, .slice none 0 0, .int .i64 0, .int .i64 0] #[.bool (runS x ty st l R).r, .int .i64 ((runS x ty st l R).d), .slice oB (runS x ty st l R).T.length cB, .int .i64 ((runS x ty st l R).e), .int .i64 ((runS x ty st l R).m)] 37
    refine sx_mem (by kernel_rfl) rfl rfl (.pointer (some ⟨W16.heap.size, 0, none⟩)) (W16.alloc (.cells #[.bool false, .int .i64 0, .slice none 0 0, .int .i64 0, .int .i64 0] 37)) (by kernel_rfl) ?_
    refine Zs (cells := #[.bool (runS x ty st l R).r, .int .i64 ((runS x ty st l R).d), .slice oB (runS x ty st l R).T.length cB, .int .i64 ((runS x ty st l R).e), .int .i64 ((runS x ty st l R).m)]) rfl rfl (Cb.made W16 #[.bool false, .int .i64 0, .slice none 0 0, .int .i64 0, .int .i64 0] 37) ?_
    rw [hW]
    replace HB := over HB hb
    replace hS := hS.below hb
    replace KM2 := KM2.below hb
    replace KM4 := KM4.below hb
    replace KM6 := KM6.below hb
    replace Q8 := Q8.below hb
    replace hRw := hRw.below hb
    replace hSB := hSB.below hb
    have z11 := hb.size
    have M17 := hq
    have yM17 := hq.lt
    clear hq hb hW
    refine Zv rfl (.int .i64 0) ?_
    refine wpList_nil (sx_norm (wp_seq (wp_seq ?_)))
    by_cases C5 : fo = true
    ·subst C5
     refine wp_region_lit ?_
     refine Zv rfl (.int .i64 0) ?_
     refine Zv rfl (.bool true) ?_
     refine Zv rfl (.bool true) ?_
     refine Zv rfl (.bool true) ?_
     refine Zv rfl (.bool false) ?_
     refine Zv rfl (.bool false) ?_
     refine Zv rfl (.pointer (some ⟨W16.heap.size, 3, none⟩)) ?_
     refine Zw rfl (.int .i64 ((runS x ty st l R).e)) (el (M17.cell 3 rfl) Tryd.underlying3) ?_
     refine Zv rfl (.pointer (some ⟨W11.heap.size, 3, none⟩)) ?_
     refine Zw rfl (.int .i64 S.e) (el (Q8.cell 3 rfl) Tryd.underlying3) ?_
     by_cases C6 : (runS x ty st l R).e < S.e
     ·refine Zb rfl (decide ((runS x ty st l R).e < S.e)) true (decide_eq_true (by omega)) ?_
      refine Zv rfl (.bool true) ?_
      refine Zv rfl (.bool true) ?_
      refine wpList_nil (sx_norm ?_)
      refine sx_true (by kernel_rfl) ?_
      refine wp_seq (wp_region_lit ?_)
      refine Zw rfl (.agg #[.bool (runS x ty st l R).r, .int .i64 ((runS x ty st l R).d), .slice oB (runS x ty st l R).T.length cB, .int .i64 ((runS x ty st l R).e), .int .i64 ((runS x ty st l R).m)]) (ex_load rfl M17 (by kernel_rfl) Tryd.underlying37 rfl (by kernel_rfl)) ?_
      refine Zr (cells := #[.bool (runS x ty st l R).r, .int .i64 ((runS x ty st l R).d), .slice oB (runS x ty st l R).T.length cB, .int .i64 ((runS x ty st l R).e), .int .i64 ((runS x ty st l R).m)]) rfl rfl Q8 (fun W19 hg hq => ?_)
      replace HB := HB.grown hg (by omega) (fun x e => by simp only [Option.some.injEq] at e; omega)
      replace hS := hS.kept hg (fun i hi => by have h8 := hS8 i hi; omega)
      replace KM2 := KM2.kept hg (by omega)
      replace KM4 := KM4.kept hg (by omega)
      replace KM6 := KM6.kept hg (by omega)
      replace hRw := hRw.kept hg (fun i hi => by omega)
      replace hSB := hSB.kept hg (fun i hi => by have h8 := hltB i hi; have h7 := hmB i hi; omega)
      replace M17 := M17.kept hg (by omega)
      have z12 := hg.size
      replace Q8 := hq
      clear hq hg
      refine wpList_nil (sx_norm (wp_region_lit ?_))
      refine Zv rfl (.bool true) ?_
      refine wpList_nil (sx_norm (wp_region_lit ?_))
      refine Zv rfl (.slice (some ⟨bR, 0, none⟩) (l.length + 1) cR) ?_
      refine Zv rfl (.pointer (some ⟨W1.heap.size, 2, none⟩)) ?_
      refine Zw rfl (.slice orr F.length cr) (el (KM4.cell 2 rfl) Tryd.underlying31) ?_
      refine Zv rfl (.int .i64 ((F.length : Nat) : Int)) ?_
      refine sx_call (by kernel_rfl) rfl rfl (by have h8 := refNext_n R (by omega) (by omega) F.length cR bR 0 W19 (by rw [hRl]; exact hRw); rw [hRl] at h8; exact h8) (by kernel_rfl) ?_
      rintro e W20 ⟨hnx0, hb⟩
      replace HB := over HB hb
      replace hS := hS.below hb
      replace KM2 := KM2.below hb
      replace KM4 := KM4.below hb
      replace KM6 := KM6.below hb
      replace Q8 := Q8.below hb
      replace hRw := hRw.below hb
      replace hSB := hSB.below hb
      replace M17 := M17.below hb
      have z13 := hb.size
      clear hb
      obtain ⟨vN, mo', e9, hnx⟩ : ∃ vN mo', e = .returned (.tuple #[vN, .bool mo']) ∧ ((∃ R' bN cN, nxI F.length R (l.length + 1) = some R' ∧ vN = .slice (some ⟨bN, 0, none⟩) (l.length + 1) cN ∧ mo' = true ∧ Rw W20 bN 0 1 (bF R') (l.length + 1) (some ⟨bN, 0, none⟩) ∧ W19.heap.size ≤ bN) ∨ (nxI F.length R (l.length + 1) = none ∧ mo' = false)) := by
       rcases hnx0 with ⟨R', bN, cN, e1, e2, e3, e4⟩ | ⟨e1, e2⟩
       ·exact ⟨_, _, e2, .inl ⟨R', bN, cN, e1, rfl, rfl, e3, e4⟩⟩
       ·exact ⟨_, _, e2, .inr ⟨e1, rfl⟩⟩
      clear hnx0
      subst e9
      refine ⟨_, rfl, ?_⟩
      refine Zv rfl (.tuple #[vN, .bool mo']) ?_
      refine Zv rfl (vN) ?_
      refine Zv rfl (.bool mo') ?_
      refine Zv rfl (vN) ?_
      refine Zv rfl (.bool mo') ?_
      refine wpList_nil ?_
      refine sx_in ?_
      refine sx_norm ?_
      have hst := best_new h1 h2 C4 (.inr C6)
      have hbl := BlR.next (wr := W20) (q4 := W3.heap.size) (q8 := W11.heap.size) (vN := vN) (mo := mo') hRl hls hch hQg hst.1 hst.2 (by
       rcases hnx with ⟨R', bN, cN, e1, e2, e3, e4, e5⟩ | h
       ·exact .inl ⟨R', bN, cN, e1, e2, e3, e4, by omega, by omega⟩
       ·exact .inr h)
      exact sx_again (gg - 1) (vN, mo', true, runS x ty st l R, oB, cB, bB, qB) (by have := hg0 rfl; omega) (by kernel_rfl) ⟨fun hm => by have h8 := hQg; obtain ⟨P9, -, -, h3, -⟩ := hbl.1; obtain ⟨R9, Q9, -, -, -, -, -, -, -, -, -, h7⟩ := h3 hm; omega, hbl.1, Q8, hSB, (fun i hi => by have h8 := hmB i hi; show bB ≠ W11.heap.size ∧ bB ≠ W3.heap.size; omega), HB, by show _ ≤ _; omega, KM2, KM4, KM6⟩
     refine Zb rfl (decide ((runS x ty st l R).e < S.e)) false (decide_eq_false (by omega)) ?_
     refine Zv rfl (.bool false) ?_
     refine Zv rfl (.bool false) ?_
     refine wpList_nil (sx_norm ?_)
     refine sx_false (by kernel_rfl) ?_
     refine wp_skip (sx_norm (wp_region_lit ?_))
     refine Zv rfl (.slice (some ⟨bR, 0, none⟩) (l.length + 1) cR) ?_
     refine Zv rfl (.pointer (some ⟨W1.heap.size, 2, none⟩)) ?_
     refine Zw rfl (.slice orr F.length cr) (el (KM4.cell 2 rfl) Tryd.underlying31) ?_
     refine Zv rfl (.int .i64 ((F.length : Nat) : Int)) ?_
     refine sx_call (by kernel_rfl) rfl rfl (by have h8 := refNext_n R (by omega) (by omega) F.length cR bR 0 W18 (by rw [hRl]; exact hRw); rw [hRl] at h8; exact h8) (by kernel_rfl) ?_
     rintro e W21 ⟨hnx0, hb⟩
     replace HB := over HB hb
     replace hS := hS.below hb
     replace KM2 := KM2.below hb
     replace KM4 := KM4.below hb
     replace KM6 := KM6.below hb
     replace Q8 := Q8.below hb
     replace hRw := hRw.below hb
     replace hSB := hSB.below hb
     replace M17 := M17.below hb
     have z12 := hb.size
     clear hb
     obtain ⟨vN, mo', e9, hnx⟩ : ∃ vN mo', e = .returned (.tuple #[vN, .bool mo']) ∧ ((∃ R' bN cN, nxI F.length R (l.length + 1) = some R' ∧ vN = .slice (some ⟨bN, 0, none⟩) (l.length + 1) cN ∧ mo' = true ∧ Rw W21 bN 0 1 (bF R') (l.length + 1) (some ⟨bN, 0, none⟩) ∧ W18.heap.size ≤ bN) ∨ (nxI F.length R (l.length + 1) = none ∧ mo' = false)) := by
      rcases hnx0 with ⟨R', bN, cN, e1, e2, e3, e4⟩ | ⟨e1, e2⟩
      ·exact ⟨_, _, e2, .inl ⟨R', bN, cN, e1, rfl, rfl, e3, e4⟩⟩
      ·exact ⟨_, _, e2, .inr ⟨e1, rfl⟩⟩
     clear hnx0
     subst e9
     refine ⟨_, rfl, ?_⟩
     refine Zv rfl (.tuple #[vN, .bool mo']) ?_
     refine Zv rfl (vN) ?_
     refine Zv rfl (.bool mo') ?_
     refine Zv rfl (vN) ?_
     refine Zv rfl (.bool mo') ?_
     refine wpList_nil ?_
     refine sx_in ?_
     refine sx_norm ?_
     have hst := best_old h1 h2 C4 rfl C6
     have hbl := BlR.next (wr := W21) (q4 := W3.heap.size) (q8 := W11.heap.size) (vN := vN) (mo := mo') hRl hls hch hQg hst.1 hst.2 (by
      rcases hnx with ⟨R', bN, cN, e1, e2, e3, e4, e5⟩ | h
      ·exact .inl ⟨R', bN, cN, e1, e2, e3, e4, by omega, by omega⟩
      ·exact .inr h)
     exact sx_again (gg - 1) (vN, mo', true, S, oS, cS, bS, qS) (by have := hg0 rfl; omega) (by kernel_rfl) ⟨fun hm => by have h8 := hQg; obtain ⟨P9, -, -, h3, -⟩ := hbl.1; obtain ⟨R9, Q9, -, -, -, -, -, -, -, -, -, h7⟩ := h3 hm; omega, hbl.1, Q8, hS, hS8, HB, by show _ ≤ _; omega, KM2, KM4, KM6⟩
    obtain rfl : fo = false := by simpa using C5
    refine wp_region_lit ?_
    refine Zv rfl (.int .i64 0) ?_
    refine Zv rfl (.bool true) ?_
    refine Zv rfl (.bool true) ?_
    refine Zv rfl (.bool false) ?_
    refine Zv rfl (.bool true) ?_
    refine Zv rfl (.bool true) ?_
    refine Zk rfl ?_
    refine Zk rfl ?_
    refine Zk rfl ?_
    refine Zk rfl ?_
    refine Zk rfl ?_
    refine Zv rfl (.bool true) ?_
    refine Zv rfl (.bool true) ?_
    refine wpList_nil (sx_norm ?_)
    refine sx_true (by kernel_rfl) ?_
    refine wp_seq (wp_region_lit ?_)
    refine Zw rfl (.agg #[.bool (runS x ty st l R).r, .int .i64 ((runS x ty st l R).d), .slice oB (runS x ty st l R).T.length cB, .int .i64 ((runS x ty st l R).e), .int .i64 ((runS x ty st l R).m)]) (ex_load rfl M17 (by kernel_rfl) Tryd.underlying37 rfl (by kernel_rfl)) ?_
    refine Zr (cells := #[.bool (runS x ty st l R).r, .int .i64 ((runS x ty st l R).d), .slice oB (runS x ty st l R).T.length cB, .int .i64 ((runS x ty st l R).e), .int .i64 ((runS x ty st l R).m)]) rfl rfl Q8 (fun W22 hg hq => ?_)
    replace HB := HB.grown hg (by omega) (fun x e => by simp only [Option.some.injEq] at e; omega)
    replace hS := hS.kept hg (fun i hi => by have h8 := hS8 i hi; omega)
    replace KM2 := KM2.kept hg (by omega)
    replace KM4 := KM4.kept hg (by omega)
    replace KM6 := KM6.kept hg (by omega)
    replace hRw := hRw.kept hg (fun i hi => by omega)
    replace hSB := hSB.kept hg (fun i hi => by have h8 := hltB i hi; have h7 := hmB i hi; omega)
    replace M17 := M17.kept hg (by omega)
    have z12 := hg.size
    replace Q8 := hq
    clear hq hg
    refine wpList_nil (sx_norm (wp_region_lit ?_))
    refine Zv rfl (.bool true) ?_
    refine wpList_nil (sx_norm (wp_region_lit ?_))
    refine Zv rfl (.slice (some ⟨bR, 0, none⟩) (l.length + 1) cR) ?_
    refine Zv rfl (.pointer (some ⟨W1.heap.size, 2, none⟩)) ?_
    refine Zw rfl (.slice orr F.length cr) (el (KM4.cell 2 rfl) Tryd.underlying31) ?_
    refine Zv rfl (.int .i64 ((F.length : Nat) : Int)) ?_
    refine sx_call (by kernel_rfl) rfl rfl (by have h8 := refNext_n R (by omega) (by omega) F.length cR bR 0 W22 (by rw [hRl]; exact hRw); rw [hRl] at h8; exact h8) (by kernel_rfl) ?_
    rintro e W23 ⟨hnx0, hb⟩
    replace HB := over HB hb
    replace hS := hS.below hb
    replace KM2 := KM2.below hb
    replace KM4 := KM4.below hb
    replace KM6 := KM6.below hb
    replace Q8 := Q8.below hb
    replace hRw := hRw.below hb
    replace hSB := hSB.below hb
    replace M17 := M17.below hb
    have z13 := hb.size
    clear hb
    obtain ⟨vN, mo', e9, hnx⟩ : ∃ vN mo', e = .returned (.tuple #[vN, .bool mo']) ∧ ((∃ R' bN cN, nxI F.length R (l.length + 1) = some R' ∧ vN = .slice (some ⟨bN, 0, none⟩) (l.length + 1) cN ∧ mo' = true ∧ Rw W23 bN 0 1 (bF R') (l.length + 1) (some ⟨bN, 0, none⟩) ∧ W22.heap.size ≤ bN) ∨ (nxI F.length R (l.length + 1) = none ∧ mo' = false)) := by
     rcases hnx0 with ⟨R', bN, cN, e1, e2, e3, e4⟩ | ⟨e1, e2⟩
     ·exact ⟨_, _, e2, .inl ⟨R', bN, cN, e1, rfl, rfl, e3, e4⟩⟩
     ·exact ⟨_, _, e2, .inr ⟨e1, rfl⟩⟩
    clear hnx0
    subst e9
    refine ⟨_, rfl, ?_⟩
    refine Zv rfl (.tuple #[vN, .bool mo']) ?_
    refine Zv rfl (vN) ?_
    refine Zv rfl (.bool mo') ?_
    refine Zv rfl (vN) ?_
    refine Zv rfl (.bool mo') ?_
    refine wpList_nil ?_
    refine sx_in ?_
    refine sx_norm ?_
    have hst := best_new h1 h2 C4 (.inl rfl)
    have hbl := BlR.next (wr := W23) (q4 := W3.heap.size) (q8 := W11.heap.size) (vN := vN) (mo := mo') hRl hls hch hQg hst.1 hst.2 (by
     rcases hnx with ⟨R', bN, cN, e1, e2, e3, e4, e5⟩ | h
     ·exact .inl ⟨R', bN, cN, e1, e2, e3, e4, by omega, by omega⟩
     ·exact .inr h)
    exact sx_again (gg - 1) (vN, mo', true, runS x ty st l R, oB, cB, bB, qB) (by have := hg0 rfl; omega) (by kernel_rfl) ⟨fun hm => by have h8 := hQg; obtain ⟨P9, -, -, h3, -⟩ := hbl.1; obtain ⟨R9, Q9, -, -, -, -, -, -, -, -, -, h7⟩ := h3 hm; omega, hbl.1, Q8, hSB, (fun i hi => by have h8 := hmB i hi; show bB ≠ W11.heap.size ∧ bB ≠ W3.heap.size; omega), HB, by show _ ≤ _; omega, KM2, KM4, KM6⟩
   refine sx_call (by kernel_rfl) rfl rfl ((by have h8 := refRunR_n k x hal ty st orr oa cr ca b o l F hok R (some ⟨bR, 0, none⟩) cR bR 0 wr15 (hI.below HB) (hl.below HB) (by rw [hRl]; exact hRw); rw [hRl] at h8; exact h8)) (by kernel_rfl) ?_
   rintro e W24 ⟨oB, cB, bB, qB, rfl, hSB, hmB, hb⟩
   have hltB : ∀ i, i < (runS x ty st l R).T.length → bB < W24.heap.size := fun i hi => hSB.lt hi
   replace HB := over HB hb
   replace hS := hS.below hb
   replace KM2 := KM2.below hb
   replace KM4 := KM4.below hb
   replace KM6 := KM6.below hb
   replace Q8 := Q8.below hb
   replace hRw := hRw.below hb
   have z10 := hb.size
   clear hb
   refine ⟨_, rfl, ?_⟩
   refine Zv rfl (.tuple #[.agg #[.bool (runS x ty st l R).r, .int .i64 ((runS x ty st l R).d), .slice oB (runS x ty st l R).T.length cB, .int .i64 ((runS x ty st l R).e), .int .i64 ((runS x ty st l R).m)], .int .i64 (runE x ty st l R)]) ?_
   refine Zv rfl (.agg #[.bool (runS x ty st l R).r, .int .i64 ((runS x ty st l R).d), .slice oB (runS x ty st l R).T.length cB, .int .i64 ((runS x ty st l R).e), .int .i64 ((runS x ty st l R).m)]) ?_
   refine Zv rfl (.int .i64 (runE x ty st l R)) ?_
   obtain ⟨W26, hW, hb, hq⟩ := laidV W24 #[.bool false, .int .i64 0, .slice none 0 0, .int .i64 0, .int .i64 0] #[.bool (runS x ty st l R).r, .int .i64 ((runS x ty st l R).d), .slice oB (runS x ty st l R).T.length cB, .int .i64 ((runS x ty st l R).e), .int .i64 ((runS x ty st l R).m)] 37
   refine sx_mem (by kernel_rfl) rfl rfl (.pointer (some ⟨W24.heap.size, 0, none⟩)) (W24.alloc (.cells #[.bool false, .int .i64 0, .slice none 0 0, .int .i64 0, .int .i64 0] 37)) (by kernel_rfl) ?_
   refine Zs (cells := #[.bool (runS x ty st l R).r, .int .i64 ((runS x ty st l R).d), .slice oB (runS x ty st l R).T.length cB, .int .i64 ((runS x ty st l R).e), .int .i64 ((runS x ty st l R).m)]) rfl rfl (Cb.made W24 #[.bool false, .int .i64 0, .slice none 0 0, .int .i64 0, .int .i64 0] 37) ?_
   rw [hW]
   replace HB := over HB hb
   replace hS := hS.below hb
   replace KM2 := KM2.below hb
   replace KM4 := KM4.below hb
   replace KM6 := KM6.below hb
   replace Q8 := Q8.below hb
   replace hRw := hRw.below hb
   replace hSB := hSB.below hb
   have z11 := hb.size
   have M25 := hq
   have yM25 := hq.lt
   clear hq hb hW
   refine Zv rfl (.int .i64 (runE x ty st l R)) ?_
   refine wpList_nil (sx_norm (wp_seq (wp_seq (wp_region_lit ?_))))
   refine Zv rfl (.int .i64 (runE x ty st l R)) ?_
   refine Zb rfl (((runE x ty st l R) : Int) == (0 : Int)) false (beq_eq_false_iff_ne.2 (by omega)) ?_
   refine Zv rfl (.bool false) ?_
   refine Zk rfl ?_
   refine Zk rfl ?_
   refine Zk rfl ?_
   refine Zk rfl ?_
   refine Zk rfl ?_
   refine Zk rfl ?_
   refine Zk rfl ?_
   refine Zk rfl ?_
   refine Zk rfl ?_
   refine Zv rfl (.bool false) ?_
   refine wpList_nil (sx_norm ?_)
   refine sx_false (by kernel_rfl) ?_
   refine wp_skip (sx_norm (wp_region_lit ?_))
   refine Zv rfl (.slice (some ⟨bR, 0, none⟩) (l.length + 1) cR) ?_
   refine Zv rfl (.pointer (some ⟨W1.heap.size, 2, none⟩)) ?_
   refine Zw rfl (.slice orr F.length cr) (el (KM4.cell 2 rfl) Tryd.underlying31) ?_
   refine Zv rfl (.int .i64 ((F.length : Nat) : Int)) ?_
   refine sx_call (by kernel_rfl) rfl rfl (by have h8 := refNext_n R (by omega) (by omega) F.length cR bR 0 W26 (by rw [hRl]; exact hRw); rw [hRl] at h8; exact h8) (by kernel_rfl) ?_
   rintro e W27 ⟨hnx0, hb⟩
   replace HB := over HB hb
   replace hS := hS.below hb
   replace KM2 := KM2.below hb
   replace KM4 := KM4.below hb
   replace KM6 := KM6.below hb
   replace Q8 := Q8.below hb
   replace hRw := hRw.below hb
   replace hSB := hSB.below hb
   replace M25 := M25.below hb
   have z12 := hb.size
   clear hb
   obtain ⟨vN, mo', e9, hnx⟩ : ∃ vN mo', e = .returned (.tuple #[vN, .bool mo']) ∧ ((∃ R' bN cN, nxI F.length R (l.length + 1) = some R' ∧ vN = .slice (some ⟨bN, 0, none⟩) (l.length + 1) cN ∧ mo' = true ∧ Rw W27 bN 0 1 (bF R') (l.length + 1) (some ⟨bN, 0, none⟩) ∧ W26.heap.size ≤ bN) ∨ (nxI F.length R (l.length + 1) = none ∧ mo' = false)) := by
    rcases hnx0 with ⟨R', bN, cN, e1, e2, e3, e4⟩ | ⟨e1, e2⟩
    ·exact ⟨_, _, e2, .inl ⟨R', bN, cN, e1, rfl, rfl, e3, e4⟩⟩
    ·exact ⟨_, _, e2, .inr ⟨e1, rfl⟩⟩
   clear hnx0
   subst e9
   refine ⟨_, rfl, ?_⟩
   refine Zv rfl (.tuple #[vN, .bool mo']) ?_
   refine Zv rfl (vN) ?_
   refine Zv rfl (.bool mo') ?_
   refine Zv rfl (vN) ?_
   refine Zv rfl (.bool mo') ?_
   refine wpList_nil ?_
   refine sx_in ?_
   refine sx_norm ?_
   have hst := best_err h1 h2 C4
   have hbl := BlR.next (wr := W27) (q4 := W3.heap.size) (q8 := W11.heap.size) (vN := vN) (mo := mo') hRl hls hch hQg hst.1 hst.2 (by
    rcases hnx with ⟨R', bN, cN, e1, e2, e3, e4, e5⟩ | h
    ·exact .inl ⟨R', bN, cN, e1, e2, e3, e4, by omega, by omega⟩
    ·exact .inr h)
   exact sx_again (gg - 1) (vN, mo', fo, S, oS, cS, bS, qS) (by have := hg0 rfl; omega) (by kernel_rfl) ⟨fun hm => by have h8 := hQg; obtain ⟨P9, -, -, h3, -⟩ := hbl.1; obtain ⟨R9, Q9, -, -, -, -, -, -, -, -, -, h7⟩ := h3 hm; omega, hbl.1, Q8, hS, hS8, HB, by show _ ≤ _; omega, KM2, KM4, KM6⟩
  obtain rfl : mo = false := by simpa using C3
  refine wp_region_lit ?_
  refine Zv rfl (.bool false) ?_
  refine wpList_nil (sx_norm ?_)
  refine sx_false (by kernel_rfl) ?_
  refine wp_exit ?_
  refine sx_es ?_
  refine sx_es ?_
  refine sx_out ?_
  refine sx_norm (wp_seq (wp_seq ?_))
  obtain ⟨P, h1, h2, -, h4⟩ := hBl
  obtain rfl := h4 rfl
  have hba := best_all hin9 hal9 hp9 (F := F) (by omega)
  by_cases C7 : fo = true
  ·subst C7
   refine wp_region_lit ?_
   refine Zv rfl (.bool true) ?_
   refine Zv rfl (.bool false) ?_
   refine wpList_nil (sx_norm ?_)
   refine sx_false (by kernel_rfl) ?_
   refine wp_skip (sx_norm (wp_seq (wp_region_lit ?_)))
   refine Zw rfl (.agg #[.bool S.r, .int .i64 S.d, .slice oS S.T.length cS, .int .i64 S.e, .int .i64 S.m]) (ex_load rfl Q8 (by kernel_rfl) Tryd.underlying37 rfl (by kernel_rfl)) ?_
   refine Zr (cells := #[.bool S.r, .int .i64 S.d, .slice oS S.T.length cS, .int .i64 S.e, .int .i64 S.m]) rfl rfl KM6 (fun W28 hg hq => ?_)
   replace HB := HB.grown hg (by omega) (fun x e => by simp only [Option.some.injEq] at e; omega)
   replace hS := hS.kept hg (fun i hi => by have h8 := hS8 i hi; omega)
   replace KM2 := KM2.kept hg (by omega)
   replace KM4 := KM4.kept hg (by omega)
   replace Q8 := Q8.kept hg (by omega)
   have z10 := hg.size
   replace KM6 := hq
   clear hq hg
   refine Zv rfl (.int .i64 0) ?_
   refine wpList_nil (sx_norm (wp_ret ?_))
   cases hm : minL (fun R => decide (runE x ty st l R = 0)) (fun R => (runS x ty st l R).e) (CrT.ls F (l.length + 1) 0) with
   | none => cases h2 hm
   | some r =>
    rw [hm] at hba
    obtain ⟨h9, h8⟩ := hba
    obtain ⟨-, rfl⟩ := h1 r hm
    exact sx_retct (v' := .int .i64 0) KM6 rfl rfl rfl (by kernel_rfl) (by kernel_rfl) Tryd.underlying37 rfl (by kernel_rfl) ⟨oS, cS, bS, qS, by rw [h9, h8]; rfl, by rw [h8]; exact hS, HB⟩
  obtain rfl : fo = false := by simpa using C7
  refine wp_region_lit ?_
  refine Zv rfl (.bool false) ?_
  refine Zv rfl (.bool true) ?_
  refine wpList_nil (sx_norm ?_)
  refine sx_true (by kernel_rfl) ?_
  refine wp_seq (wp_region_lit ?_)
  refine Zv rfl (.agg #[.bool false, .int .i64 0, .slice none 0 0, .int .i64 0, .int .i64 0]) ?_
  refine Zv rfl (.int .i64 (runE x ty st l (bs0 F (l.length + 1)))) ?_
  refine Zr (cells := #[.bool false, .int .i64 0, .slice none 0 0, .int .i64 0, .int .i64 0]) rfl rfl KM6 (fun W29 hg hq => ?_)
  replace HB := HB.grown hg (by omega) (fun x e => by simp only [Option.some.injEq] at e; omega)
  replace hS := hS.kept hg (fun i hi => by have h8 := hS8 i hi; omega)
  replace KM2 := KM2.kept hg (by omega)
  replace KM4 := KM4.kept hg (by omega)
  replace Q8 := Q8.kept hg (by omega)
  have z10 := hg.size
  replace KM6 := hq
  clear hq hg
  refine Zv rfl (.int .i64 (runE x ty st l (bs0 F (l.length + 1)))) ?_
  refine wpList_nil (sx_norm (wp_ret (sx_rs ?_)))
  cases hm : minL (fun R => decide (runE x ty st l R = 0)) (fun R => (runS x ty st l R).e) (CrT.ls F (l.length + 1) 0) with
  | some r => cases (h1 r hm).1
  | none =>
   rw [hm] at hba
   obtain ⟨h9, h8⟩ := hba
   exact sx_retct (v' := .int .i64 (runE x ty st l (bs0 F (l.length + 1)))) KM6 rfl rfl rfl (by kernel_rfl) (by kernel_rfl) Tryd.underlying37 rfl (by kernel_rfl) ⟨none, 0, 0, 0, by rw [h9, h8]; rfl, by rw [h8]; exact rw_sh0 _, HB⟩
 refine sx_call (by kernel_rfl) rfl rfl ((by have h8 := refPoss_n k x ty st orr oa cr ca b o l F W5 (hI.below HB) (hl.below HB); rw [show posD x.tl x.ol ty st l = false by simpa using C1] at h8; exact h8)) (by kernel_rfl) ?_
 rintro e W30 ⟨rfl, hb⟩
 replace HB := over HB hb
 replace M2 := M2.below hb
 replace M4 := M4.below hb
 replace M6 := M6.below hb
 have z4 := hb.size
 clear hb
 refine ⟨_, rfl, ?_⟩
 have hp9 : posD x.tl x.ol ty st l = false := by simpa using C1
 refine Zv rfl (.bool true) ?_
 refine Zv rfl (.bool true) ?_
 refine Zk rfl ?_
 refine Zk rfl ?_
 refine Zk rfl ?_
 refine Zk rfl ?_
 refine Zk rfl ?_
 refine Zv rfl (.bool true) ?_
 refine wpList_nil (sx_norm ?_)
 refine sx_true (by kernel_rfl) ?_
 refine wp_seq (wp_region_lit ?_)
 refine Zv rfl (.agg #[.bool false, .int .i64 0, .slice none 0 0, .int .i64 0, .int .i64 0]) ?_
 refine Zr (cells := #[.bool false, .int .i64 0, .slice none 0 0, .int .i64 0, .int .i64 0]) rfl rfl M6 (fun W31 hg hq => ?_)
 replace HB := HB.grown hg (by omega) (fun x e => by simp only [Option.some.injEq] at e; omega)
 replace M2 := M2.kept hg (by omega)
 replace M4 := M4.kept hg (by omega)
 have z5 := hg.size
 replace M6 := hq
 clear hq hg
 refine Zv rfl (.int .i64 2) ?_
 refine wpList_nil (sx_norm (wp_ret (sx_rs ?_)))
 have h7 := bestE_no (x := x) (ty := ty) (st := st) (l := l) (F := F) (.inl hp9)
 have h9 := h7.1
 have h8 := h7.2
 exact sx_retct (v' := .int .i64 2) M6 rfl rfl rfl (by kernel_rfl) (by kernel_rfl) Tryd.underlying37 rfl (by kernel_rfl) ⟨none, 0, 0, 0, by rw [h9, h8]; rfl, by rw [h8]; exact rw_sh0 _, HB⟩

end Go.Proofs.YtomebalolmabnaaDoor.T



