/-
  DERIVED. GL: a part of the base of layer 13 (made by pack.py).
-/
import Derived.Test.YtomebalolmabnaaDoorGA
import Derived.Test.YtomebalolmabnaaDoorGG
import Derived.Test.YtomebalolmabnaaDoorDl
import Derived.Test.YtomebalolmabnaaDoorGK
/-! The laws' right, sample (by gen_eb.py). -/
namespace Go.Proofs.YtomebalolmabnaaDoor.T
open Go.RowKit
set_option maxRecDepth 8000
attribute [local irreducible] wpList Code.wp wpAnyH

def rightB (x : InT) : Bool := decide ((inF x).length = 0)
theorem right_n (k : Iv) (x : InT) (hx : InU x) (w : World) (hI : Ins w k x) : Calls Tryd.prog 11 #[.agg (iK k x)] w fun e w' => e = .returned (.bool (rightB x)) ∧ Below w.heap.size w w' := by
 have HB : Below w.heap.size w w := Below.refl _ _
 refine sx_enter Tryd.func11 rfl [(0, .agg (iK k x))] (by kernel_rfl) ?_
 refine wp_seq (wp_region_lit ?_)
 obtain ⟨W1, hW, hb, hq⟩ := laidA w (iK k x) 30
 refine sx_mem (by kernel_rfl) rfl rfl (.pointer (some ⟨w.heap.size, 0, none⟩)) W1 (by rw [← hW]; kernel_rfl) ?_
 replace HB := over HB hb
 have z1 := hb.size
 have M2 := hq
 have yM2 := hq.lt
 clear hq hb hW
 refine Zv rfl (.bool false) ?_
 refine wpList_nil (sx_norm (wp_seq (wp_region_lit ?_)))
 refine Zw rfl (.agg (iK k x)) (ex_load rfl M2 (by kernel_rfl) Tryd.underlying30 rfl (by kernel_rfl)) ?_
 refine sx_call (by kernel_rfl) rfl rfl (refInstU_n k.o0 k.o1 k.o2 k.o3 k.o4 k.o5 k.c0 k.c1 k.c2 k.c3 k.c4 k.c5 x hx W1 (hI.below HB).h0 (hI.below HB).h1 (hI.below HB).h2 (hI.below HB).h3 (hI.below HB).h4 (hI.below HB).h5) (by kernel_rfl) ?_
 rintro e W3 ⟨oq, cq, rfl, -, hb⟩
 replace HB := over HB hb
 replace M2 := M2.below hb
 have z2 := hb.size
 clear hb
 refine ⟨_, rfl, ?_⟩
 refine Zv rfl (.int .i64 (((inF x).length : Nat) : Int)) ?_
 by_cases C1 : (inF x).length = 0
 ·refine Zb rfl (((((inF x).length : Nat) : Int) : Int) == (0 : Int)) true (beq_iff_eq.2 (by omega)) ?_
  refine Zv rfl (.bool true) ?_
  refine wpList_nil (sx_norm (wp_ret ?_))
  refine sx_ret1 (.bool true) rfl rfl (by kernel_rfl) ⟨by unfold rightB; rw [decide_eq_true (by assumption)], HB⟩
 refine Zb rfl (((((inF x).length : Nat) : Int) : Int) == (0 : Int)) false (beq_eq_false_iff_ne.2 (by omega)) ?_
 refine Zv rfl (.bool false) ?_
 refine wpList_nil (sx_norm (wp_ret ?_))
 refine sx_ret1 (.bool false) rfl rfl (by kernel_rfl) ⟨by unfold rightB; rw [decide_eq_false (by assumption)], HB⟩
theorem sx_retcc {P : Program} {n : Nat} {g : Nat → Value} {l : List (Nat × Value)} {w : World} {fn : Func} {R : Ending → World → Prop} {t u : Nat} {ty uy : TypeId} {q p : Nat} {cs ds : Array Value} {tq tp : TypeId} {dd de : TypeDesc} (hg : Cb w q cs tq) (hg' : Cb w p ds tp) (hf : fn.results = #[.cell t ty, .cell u uy]) (hk : Nat.blt t n = true) (hk' : Nat.blt u n = true) (hv : slotV g l t = .pointer (some ⟨q, 0, none⟩)) (hv' : slotV g l u = .pointer (some ⟨p, 0, none⟩))
  (hu : P.underlying ty = some dd) (hdd : (match dd with | .struct _ | .array _ _ => true | _ => false) = true) (hi : (P.info? ty).map (·.size) = some cs.size) (hu' : P.underlying uy = some de) (hde : (match de with | .struct _ | .array _ _ => true | _ => false) = true) (hi' : (P.info? uy).map (·.size) = some ds.size) (hR : R (.returned (.tuple #[.agg cs, .agg ds])) w) : bodyPost P fn R .ret (fr n g l) w := by
 have hs : (fr n g l).tmps[t]?.getD undef = .pointer (some ⟨q, 0, none⟩) := by
  rw [← Array.getD_eq_getD_getElem?]
  exact (slot_get hk).trans hv
 have hs' : (fr n g l).tmps[u]?.getD undef = .pointer (some ⟨p, 0, none⟩) := by
  rw [← Array.getD_eq_getD_getElem?]
  exact (slot_get hk').trans hv'
 have hrun := run_loadVar_row w q tq ty cs (0, 0) dd hg hu hdd hi
 have hrun' := run_loadVar_row w p tp uy ds (0, 0) de hg' hu' hde hi'
 refine bodyPost_ret (v := .tuple #[.agg cs, .agg ds]) ?_ rfl hR
 unfold results
 simp only [hf]
 simp [hs, hs', hrun, hrun', asAddr]
def smpI (lim pause : Int) : InT := ⟨[⟨#[65]⟩, ⟨#[66]⟩], [⟨0, 1, 0, 5, [(0, 10)], []⟩, ⟨1, 0, 0, 5, [(0, 10)], []⟩], [⟨⟨#[118]⟩, 1, 0, 0, [5], 0, 0, 0, 100, lim, pause, 0, 0, 0⟩], [⟨⟨#[111]⟩, [1], -1, 0, 0, 0, 1, 30, 40, 2, 0, -1, 1, -1, -1, false⟩], [], []⟩
theorem li_one {w : World} {q : Nat} {x : Int} {t : TypeId} (h : Cb w q #[.int .i64 x] t) : L.Li w (.slice (some ⟨q, 0, none⟩) 1 1) [x] := ⟨some ⟨q, 0, none⟩, 1, rfl, fun i hi => by
 have h1 : i < 1 := hi
 match i, h1 with
 | 0, _ => exact ⟨⟨q, 0, none⟩, rfl, h.lt, h.cell 0 rfl⟩⟩
theorem ps_one {w : World} {q : Nat} {x y : Int} {t : TypeId} (h : Cb w q #[.int .i64 x, .int .i64 y] t) : Ps w (.slice (some ⟨q, 0, none⟩) 1 1) [(x, y)] := ⟨some ⟨q, 0, none⟩, 1, rfl, fun i hi => by
 have h1 : i < 1 := hi
 match i, h1 with
 | 0, _ => exact ⟨q, 0, rfl, h.lt, h.cell 0 rfl, h.cell 1 rfl⟩⟩
theorem ps_nil (w : World) : Ps w (.slice none 0 0) [] := ⟨none, 0, rfl, fun i hi => by cases hi⟩
theorem smp_ins {w : World} {lim pause : Int} {qp q1 q2 qa qc qt ql qo : Nat} (E0 : Cb w qp #[.string ⟨#[65]⟩, .string ⟨#[66]⟩] 9) (E1 : Cb w q1 #[.int .i64 0, .int .i64 10] 86) (E2 : Cb w q2 #[.int .i64 0, .int .i64 10] 86)
  (E3 : Cb w qa #[.int .i64 0, .int .i64 1, .int .i64 0, .int .i64 5, .slice (some ⟨q1, 0, none⟩) 1 1, .slice none 0 0, .int .i64 1, .int .i64 0, .int .i64 0, .int .i64 5, .slice (some ⟨q2, 0, none⟩) 1 1, .slice none 0 0] 89) (E4 : Cb w qc #[.int .i64 5] 3)
  (E5 : Cb w qt #[.string ⟨#[118]⟩, .int .i64 1, .int .i64 0, .int .i64 0, .slice (some ⟨qc, 0, none⟩) 1 1, .int .i64 0, .int .i64 0, .int .i64 0, .int .i64 100, .int .i64 lim, .int .i64 pause, .int .i64 0, .int .i64 0, .int .i64 0] 95) (E6 : Cb w ql #[.int .i64 1] 3)
  (E7 : Cb w qo #[.string ⟨#[111]⟩, .slice (some ⟨ql, 0, none⟩) 1 1, .int .i64 (-1), .int .i64 0, .int .i64 0, .int .i64 0, .int .i64 1, .int .i64 30, .int .i64 40, .int .i64 2, .int .i64 0, .int .i64 (-1), .int .i64 1, .int .i64 (-1), .int .i64 (-1), .bool false] 93) :
  Ins w ⟨some ⟨qp, 0, none⟩, 2, some ⟨qa, 0, none⟩, 2, some ⟨qt, 0, none⟩, 1, some ⟨qo, 0, none⟩, 1, none, 0, none, 0⟩ (smpI lim pause) := by
 refine ⟨?_, ?_, ?_, ?_, ps_nil _, ps_nil _⟩
 ·exact ⟨_, 2, rfl, fun i hi => by
   have h1 : i < 2 := hi
   match i, h1 with
   | 0, _ => exact ⟨_, rfl, E0.lt, E0.cell 0 rfl⟩
   | 1, _ => exact ⟨_, rfl, E0.lt, E0.cell 1 rfl⟩⟩
 ·exact ⟨_, 2, rfl, fun i hi => by
   have h1 : i < 2 := hi
   match i, h1 with
   | 0, _ => exact ⟨_, 0, _, _, rfl, E3.lt, ⟨E3.cell 0 rfl, E3.cell 1 rfl, E3.cell 2 rfl, E3.cell 3 rfl, E3.cell 4 rfl, E3.cell 5 rfl⟩, ps_one E1, ps_nil _⟩
   | 1, _ => exact ⟨_, 0, _, _, rfl, E3.lt, ⟨E3.cell 6 rfl, E3.cell 7 rfl, E3.cell 8 rfl, E3.cell 9 rfl, E3.cell 10 rfl, E3.cell 11 rfl⟩, ps_one E2, ps_nil _⟩⟩
 ·exact ⟨_, 1, rfl, fun i hi => by
   have h1 : i < 1 := hi
   match i, h1 with
   | 0, _ => exact ⟨_, 0, _, rfl, E5.lt, ⟨E5.cell 0 rfl, E5.cell 1 rfl, E5.cell 2 rfl, E5.cell 3 rfl, E5.cell 4 rfl, E5.cell 5 rfl, E5.cell 6 rfl, E5.cell 7 rfl, E5.cell 8 rfl, E5.cell 9 rfl, E5.cell 10 rfl, E5.cell 11 rfl, E5.cell 12 rfl, E5.cell 13 rfl⟩, li_one E4⟩⟩
 ·exact ⟨_, 1, rfl, fun i hi => by
   have h1 : i < 1 := hi
   match i, h1 with
   | 0, _ => exact ⟨_, 0, _, rfl, E7.lt, ⟨E7.cell 0 rfl, E7.cell 1 rfl, E7.cell 2 rfl, E7.cell 3 rfl, E7.cell 4 rfl, E7.cell 5 rfl, E7.cell 6 rfl, E7.cell 7 rfl, E7.cell 8 rfl, E7.cell 9 rfl, E7.cell 10 rfl, E7.cell 11 rfl, E7.cell 12 rfl, E7.cell 13 rfl, E7.cell 14 rfl, E7.cell 15 rfl⟩, li_one E6⟩⟩
theorem rw_vis {w : World} {q : Nat} (h : Cb w q #[.int .i64 0, .bool true] 97) : Rw w q 0 2 (vF [(0, true)]) 1 (some ⟨q, 0, none⟩) := fun k hk => ⟨rfl, h.lt, fun j v hj => by
 match k, j, hk, hj with
 | 0, 0, _, hj => simp [vF] at hj; subst hj; exact h.cell 0 rfl
 | 0, 1, _, hj => simp [vF] at hj; subst hj; exact h.cell 1 rfl
 | 0, j + 2, _, hj => simp [vF] at hj⟩
theorem sample_n (lim pause : Int) (w : World) : Calls Tryd.prog 24 #[.int .i64 lim, .int .i64 pause] w fun e w' => ∃ (k : Iv) (bV : Nat), e = .returned (.tuple #[.agg #[.slice k.o0 2 k.c0, .slice k.o1 2 k.c1, .slice k.o2 1 k.c2, .slice k.o3 1 k.c3, .slice k.o4 0 k.c4, .slice k.o5 0 k.c5], .agg #[.int .i64 0, .int .i64 0, .slice none 0 0, .slice (some ⟨bV, 0, none⟩) 1 1]]) ∧ Ins w' k (smpI lim pause) ∧ Rw w' bV 0 2 (vF [(0, true)]) 1 (some ⟨bV, 0, none⟩) ∧ Below w.heap.size w w' := by
 have HB : Below w.heap.size w w := Below.refl _ _
 refine sx_enter Tryd.func24 rfl [(0, .int .i64 lim), (1, .int .i64 pause)] (by kernel_rfl) ?_
 refine wp_seq (wp_region_lit ?_)
 obtain ⟨W1, hW, hb, hq⟩ := laidA w #[.slice none 0 0, .slice none 0 0, .slice none 0 0, .slice none 0 0, .slice none 0 0, .slice none 0 0] 30
 refine sx_mem (by kernel_rfl) rfl rfl (.pointer (some ⟨w.heap.size, 0, none⟩)) W1 (by rw [← hW]; kernel_rfl) ?_
 replace HB := over HB hb
 have z1 := hb.size
 have M2 := hq
 have yM2 := hq.lt
 clear hq hb hW
 obtain ⟨W3, hW, hb, hq⟩ := laidA W1 #[.int .i64 0, .int .i64 0, .slice none 0 0, .slice none 0 0] 34
 refine sx_mem (by kernel_rfl) rfl rfl (.pointer (some ⟨W1.heap.size, 0, none⟩)) W3 (by rw [← hW]; kernel_rfl) ?_
 replace HB := over HB hb
 replace M2 := M2.below hb
 have z2 := hb.size
 have M4 := hq
 have yM4 := hq.lt
 clear hq hb hW
 refine wpList_nil (sx_norm (wp_seq (wp_region_lit ?_)))
 obtain ⟨W5, hW, hb, hq⟩ := laidA W3 #[.string ⟨#[65]⟩, .string ⟨#[66]⟩] 9
 refine sx_mem (by kernel_rfl) rfl rfl (.slice (some ⟨W3.heap.size, 0, none⟩) 2 2) W5 (by rw [← hW]; kernel_rfl) ?_
 replace HB := over HB hb
 replace M2 := M2.below hb
 replace M4 := M4.below hb
 have z3 := hb.size
 have M6 := hq
 have yM6 := hq.lt
 clear hq hb hW
 refine Zv rfl (.agg #[.slice (some ⟨W3.heap.size, 0, none⟩) 2 2, .slice none 0 0]) ?_
 refine Zv rfl (.agg #[.slice (some ⟨W3.heap.size, 0, none⟩) 2 2, .slice none 0 0, .slice none 0 0, .slice none 0 0, .slice none 0 0, .slice none 0 0]) ?_
 obtain ⟨W8, hW⟩ : ∃ W, (W5.alloc (.cells #[.slice none 0 0, .slice none 0 0, .slice none 0 0, .slice none 0 0, .slice none 0 0, .slice none 0 0] 30)).setRow W5.heap.size #[.slice (some ⟨W3.heap.size, 0, none⟩) 2 2, .slice none 0 0, .slice none 0 0, .slice none 0 0, .slice none 0 0, .slice none 0 0] = W := ⟨_, rfl⟩
 have hb := hW ▸ below_var W5 (.cells #[.slice none 0 0, .slice none 0 0, .slice none 0 0, .slice none 0 0, .slice none 0 0, .slice none 0 0] 30) #[.slice (some ⟨W3.heap.size, 0, none⟩) 2 2, .slice none 0 0, .slice none 0 0, .slice none 0 0, .slice none 0 0, .slice none 0 0]
 have hq : Cb W8 W5.heap.size #[.slice (some ⟨W3.heap.size, 0, none⟩) 2 2, .slice none 0 0, .slice none 0 0, .slice none 0 0, .slice none 0 0, .slice none 0 0] 30 := hW ▸ Cb.row (Cb.made W5 #[.slice none 0 0, .slice none 0 0, .slice none 0 0, .slice none 0 0, .slice none 0 0, .slice none 0 0] 30) _
 refine sx_mem (by kernel_rfl) rfl rfl (.pointer (some ⟨W5.heap.size, 0, none⟩)) (W5.alloc (.cells #[.slice none 0 0, .slice none 0 0, .slice none 0 0, .slice none 0 0, .slice none 0 0, .slice none 0 0] 30)) (by kernel_rfl) ?_
 refine Zs (cells := #[.slice (some ⟨W3.heap.size, 0, none⟩) 2 2, .slice none 0 0, .slice none 0 0, .slice none 0 0, .slice none 0 0, .slice none 0 0]) rfl rfl (Cb.made W5 #[.slice none 0 0, .slice none 0 0, .slice none 0 0, .slice none 0 0, .slice none 0 0, .slice none 0 0] 30) ?_
 rw [hW]
 replace HB := over HB hb
 replace M2 := M2.below hb
 replace M4 := M4.below hb
 replace M6 := M6.below hb
 have z4 := hb.size
 have M7 := hq
 have yM7 := hq.lt
 clear hq hb hW
 refine wpList_nil (sx_norm (wp_seq (wp_region_lit ?_)))
 refine Zv rfl (.agg #[.int .i64 0, .int .i64 10]) ?_
 obtain ⟨W9, hW, hb, hq⟩ := laidA W8 #[.int .i64 0, .int .i64 10] 86
 refine sx_mem (by kernel_rfl) rfl rfl (.slice (some ⟨W8.heap.size, 0, none⟩) 1 1) W9 (by rw [← hW]; kernel_rfl) ?_
 replace HB := over HB hb
 replace M2 := M2.below hb
 replace M4 := M4.below hb
 replace M6 := M6.below hb
 replace M7 := M7.below hb
 have z5 := hb.size
 have M10 := hq
 have yM10 := hq.lt
 clear hq hb hW
 refine Zv rfl (.agg #[.int .i64 0, .int .i64 1, .int .i64 0, .int .i64 5, .slice (some ⟨W8.heap.size, 0, none⟩) 1 1, .slice none 0 0]) ?_
 refine Zv rfl (.agg #[.int .i64 0, .int .i64 10]) ?_
 obtain ⟨W11, hW, hb, hq⟩ := laidA W9 #[.int .i64 0, .int .i64 10] 86
 refine sx_mem (by kernel_rfl) rfl rfl (.slice (some ⟨W9.heap.size, 0, none⟩) 1 1) W11 (by rw [← hW]; kernel_rfl) ?_
 replace HB := over HB hb
 replace M2 := M2.below hb
 replace M4 := M4.below hb
 replace M6 := M6.below hb
 replace M7 := M7.below hb
 replace M10 := M10.below hb
 have z6 := hb.size
 have M12 := hq
 have yM12 := hq.lt
 clear hq hb hW
 refine Zv rfl (.agg #[.int .i64 1, .int .i64 0, .int .i64 0, .int .i64 5, .slice (some ⟨W9.heap.size, 0, none⟩) 1 1, .slice none 0 0]) ?_
 obtain ⟨W13, hW, hb, hq⟩ := laidA W11 #[.int .i64 0, .int .i64 1, .int .i64 0, .int .i64 5, .slice (some ⟨W8.heap.size, 0, none⟩) 1 1, .slice none 0 0, .int .i64 1, .int .i64 0, .int .i64 0, .int .i64 5, .slice (some ⟨W9.heap.size, 0, none⟩) 1 1, .slice none 0 0] 89
 refine sx_mem (by kernel_rfl) rfl rfl (.slice (some ⟨W11.heap.size, 0, none⟩) 2 2) W13 (by rw [← hW]; kernel_rfl) ?_
 replace HB := over HB hb
 replace M2 := M2.below hb
 replace M4 := M4.below hb
 replace M6 := M6.below hb
 replace M7 := M7.below hb
 replace M10 := M10.below hb
 replace M12 := M12.below hb
 have z7 := hb.size
 have M14 := hq
 have yM14 := hq.lt
 clear hq hb hW
 refine Zv rfl (.pointer (some ⟨W5.heap.size, 0, none⟩)) ?_
 refine Zv rfl (.pointer (some ⟨W5.heap.size, 1, none⟩)) ?_
 refine sx_do (by kernel_rfl) rfl _ (ex_storeC (k := 1) (old := .slice none 0 0) (v := .slice (some ⟨W11.heap.size, 0, none⟩) 2 2) rfl M7 (by kernel_rfl) (by kernel_rfl) (by kernel_rfl) (by kernel_rfl) (by kernel_rfl)) ?_
 obtain ⟨W15, hW⟩ : ∃ W, W13.setCell ⟨W5.heap.size, 1, none⟩ (.slice (some ⟨W11.heap.size, 0, none⟩) 2 2) = W := ⟨_, rfl⟩
 have hg : W13.grownBy W15 (some (W5.heap.size)) := hW ▸ grown_set _ _ _ _
 have hq : Cb W15 (W5.heap.size) #[.slice (some ⟨W3.heap.size, 0, none⟩) 2 2, .slice (some ⟨W11.heap.size, 0, none⟩) 2 2, .slice none 0 0, .slice none 0 0, .slice none 0 0, .slice none 0 0] 30 := hW ▸ M7.set 1 (.slice (some ⟨W11.heap.size, 0, none⟩) 2 2)
 rw [hW]
 replace HB := HB.grown hg (by omega) (fun x e => by simp only [Option.some.injEq] at e; omega)
 replace M2 := M2.kept hg (by omega)
 replace M4 := M4.kept hg (by omega)
 replace M6 := M6.kept hg (by omega)
 replace M10 := M10.kept hg (by omega)
 replace M12 := M12.kept hg (by omega)
 replace M14 := M14.kept hg (by omega)
 have z8 := hg.size
 replace M7 := hq
 clear hq hg hW
 refine wpList_nil (sx_norm (wp_seq (wp_region_lit ?_)))
 obtain ⟨W16, hW, hb, hq⟩ := laidA W15 #[.int .i64 5] 3
 refine sx_mem (by kernel_rfl) rfl rfl (.slice (some ⟨W15.heap.size, 0, none⟩) 1 1) W16 (by rw [← hW]; kernel_rfl) ?_
 replace HB := over HB hb
 replace M2 := M2.below hb
 replace M4 := M4.below hb
 replace M6 := M6.below hb
 replace M7 := M7.below hb
 replace M10 := M10.below hb
 replace M12 := M12.below hb
 replace M14 := M14.below hb
 have z9 := hb.size
 have M17 := hq
 have yM17 := hq.lt
 clear hq hb hW
 refine Zv rfl (.int .i64 lim) ?_
 refine Zv rfl (.int .i64 pause) ?_
 refine Zv rfl (.agg #[.string ⟨#[118]⟩, .int .i64 1, .int .i64 0, .int .i64 0, .slice (some ⟨W15.heap.size, 0, none⟩) 1 1, .int .i64 0, .int .i64 0, .int .i64 0, .int .i64 100, .int .i64 lim, .int .i64 pause, .int .i64 0, .int .i64 0, .int .i64 0]) ?_
 obtain ⟨W18, hW, hb, hq⟩ := laidA W16 #[.string ⟨#[118]⟩, .int .i64 1, .int .i64 0, .int .i64 0, .slice (some ⟨W15.heap.size, 0, none⟩) 1 1, .int .i64 0, .int .i64 0, .int .i64 0, .int .i64 100, .int .i64 lim, .int .i64 pause, .int .i64 0, .int .i64 0, .int .i64 0] 95
 refine sx_mem (by kernel_rfl) rfl rfl (.slice (some ⟨W16.heap.size, 0, none⟩) 1 1) W18 (by rw [← hW]; kernel_rfl) ?_
 replace HB := over HB hb
 replace M2 := M2.below hb
 replace M4 := M4.below hb
 replace M6 := M6.below hb
 replace M7 := M7.below hb
 replace M10 := M10.below hb
 replace M12 := M12.below hb
 replace M14 := M14.below hb
 replace M17 := M17.below hb
 have z10 := hb.size
 have M19 := hq
 have yM19 := hq.lt
 clear hq hb hW
 refine Zv rfl (.pointer (some ⟨W5.heap.size, 2, none⟩)) ?_
 refine sx_do (by kernel_rfl) rfl _ (ex_storeC (k := 2) (old := .slice none 0 0) (v := .slice (some ⟨W16.heap.size, 0, none⟩) 1 1) rfl M7 (by kernel_rfl) (by kernel_rfl) (by kernel_rfl) (by kernel_rfl) (by kernel_rfl)) ?_
 obtain ⟨W20, hW⟩ : ∃ W, W18.setCell ⟨W5.heap.size, 2, none⟩ (.slice (some ⟨W16.heap.size, 0, none⟩) 1 1) = W := ⟨_, rfl⟩
 have hg : W18.grownBy W20 (some (W5.heap.size)) := hW ▸ grown_set _ _ _ _
 have hq : Cb W20 (W5.heap.size) #[.slice (some ⟨W3.heap.size, 0, none⟩) 2 2, .slice (some ⟨W11.heap.size, 0, none⟩) 2 2, .slice (some ⟨W16.heap.size, 0, none⟩) 1 1, .slice none 0 0, .slice none 0 0, .slice none 0 0] 30 := hW ▸ M7.set 2 (.slice (some ⟨W16.heap.size, 0, none⟩) 1 1)
 rw [hW]
 replace HB := HB.grown hg (by omega) (fun x e => by simp only [Option.some.injEq] at e; omega)
 replace M2 := M2.kept hg (by omega)
 replace M4 := M4.kept hg (by omega)
 replace M6 := M6.kept hg (by omega)
 replace M10 := M10.kept hg (by omega)
 replace M12 := M12.kept hg (by omega)
 replace M14 := M14.kept hg (by omega)
 replace M17 := M17.kept hg (by omega)
 replace M19 := M19.kept hg (by omega)
 have z11 := hg.size
 replace M7 := hq
 clear hq hg hW
 refine wpList_nil (sx_norm (wp_seq (wp_region_lit ?_)))
 obtain ⟨W21, hW, hb, hq⟩ := laidA W20 #[.int .i64 1] 3
 refine sx_mem (by kernel_rfl) rfl rfl (.slice (some ⟨W20.heap.size, 0, none⟩) 1 1) W21 (by rw [← hW]; kernel_rfl) ?_
 replace HB := over HB hb
 replace M2 := M2.below hb
 replace M4 := M4.below hb
 replace M6 := M6.below hb
 replace M7 := M7.below hb
 replace M10 := M10.below hb
 replace M12 := M12.below hb
 replace M14 := M14.below hb
 replace M17 := M17.below hb
 replace M19 := M19.below hb
 have z12 := hb.size
 have M22 := hq
 have yM22 := hq.lt
 clear hq hb hW
 refine Zv rfl (.agg #[.int .i64 (-1), .int .i64 0, .int .i64 0, .int .i64 0]) ?_
 refine Zv rfl (.agg #[.int .i64 1, .int .i64 30, .int .i64 40, .int .i64 2]) ?_
 refine Zv rfl (.agg #[.string ⟨#[111]⟩, .slice (some ⟨W20.heap.size, 0, none⟩) 1 1, .int .i64 (-1), .int .i64 0, .int .i64 0, .int .i64 0, .int .i64 1, .int .i64 30, .int .i64 40, .int .i64 2, .int .i64 0, .int .i64 (-1), .int .i64 1, .int .i64 (-1), .int .i64 (-1), .bool false]) ?_
 obtain ⟨W23, hW, hb, hq⟩ := laidA W21 #[.string ⟨#[111]⟩, .slice (some ⟨W20.heap.size, 0, none⟩) 1 1, .int .i64 (-1), .int .i64 0, .int .i64 0, .int .i64 0, .int .i64 1, .int .i64 30, .int .i64 40, .int .i64 2, .int .i64 0, .int .i64 (-1), .int .i64 1, .int .i64 (-1), .int .i64 (-1), .bool false] 93
 refine sx_mem (by kernel_rfl) rfl rfl (.slice (some ⟨W21.heap.size, 0, none⟩) 1 1) W23 (by rw [← hW]; kernel_rfl) ?_
 replace HB := over HB hb
 replace M2 := M2.below hb
 replace M4 := M4.below hb
 replace M6 := M6.below hb
 replace M7 := M7.below hb
 replace M10 := M10.below hb
 replace M12 := M12.below hb
 replace M14 := M14.below hb
 replace M17 := M17.below hb
 replace M19 := M19.below hb
 replace M22 := M22.below hb
 have z13 := hb.size
 have M24 := hq
 have yM24 := hq.lt
 clear hq hb hW
 refine Zv rfl (.pointer (some ⟨W5.heap.size, 3, none⟩)) ?_
 refine sx_do (by kernel_rfl) rfl _ (ex_storeC (k := 3) (old := .slice none 0 0) (v := .slice (some ⟨W21.heap.size, 0, none⟩) 1 1) rfl M7 (by kernel_rfl) (by kernel_rfl) (by kernel_rfl) (by kernel_rfl) (by kernel_rfl)) ?_
 obtain ⟨W25, hW⟩ : ∃ W, W23.setCell ⟨W5.heap.size, 3, none⟩ (.slice (some ⟨W21.heap.size, 0, none⟩) 1 1) = W := ⟨_, rfl⟩
 have hg : W23.grownBy W25 (some (W5.heap.size)) := hW ▸ grown_set _ _ _ _
 have hq : Cb W25 (W5.heap.size) #[.slice (some ⟨W3.heap.size, 0, none⟩) 2 2, .slice (some ⟨W11.heap.size, 0, none⟩) 2 2, .slice (some ⟨W16.heap.size, 0, none⟩) 1 1, .slice (some ⟨W21.heap.size, 0, none⟩) 1 1, .slice none 0 0, .slice none 0 0] 30 := hW ▸ M7.set 3 (.slice (some ⟨W21.heap.size, 0, none⟩) 1 1)
 rw [hW]
 replace HB := HB.grown hg (by omega) (fun x e => by simp only [Option.some.injEq] at e; omega)
 replace M2 := M2.kept hg (by omega)
 replace M4 := M4.kept hg (by omega)
 replace M6 := M6.kept hg (by omega)
 replace M10 := M10.kept hg (by omega)
 replace M12 := M12.kept hg (by omega)
 replace M14 := M14.kept hg (by omega)
 replace M17 := M17.kept hg (by omega)
 replace M19 := M19.kept hg (by omega)
 replace M22 := M22.kept hg (by omega)
 replace M24 := M24.kept hg (by omega)
 have z14 := hg.size
 replace M7 := hq
 clear hq hg hW
 refine wpList_nil (sx_norm (wp_seq (wp_region_lit ?_)))
 refine Zw rfl (.agg #[.slice (some ⟨W3.heap.size, 0, none⟩) 2 2, .slice (some ⟨W11.heap.size, 0, none⟩) 2 2, .slice (some ⟨W16.heap.size, 0, none⟩) 1 1, .slice (some ⟨W21.heap.size, 0, none⟩) 1 1, .slice none 0 0, .slice none 0 0]) (ex_load rfl M7 (by kernel_rfl) Tryd.underlying30 rfl (by kernel_rfl)) ?_
 refine Zv rfl (.agg #[.int .i64 0, .bool true]) ?_
 obtain ⟨W26, hW, hb, hq⟩ := laidA W25 #[.int .i64 0, .bool true] 97
 refine sx_mem (by kernel_rfl) rfl rfl (.slice (some ⟨W25.heap.size, 0, none⟩) 1 1) W26 (by rw [← hW]; kernel_rfl) ?_
 replace HB := over HB hb
 replace M2 := M2.below hb
 replace M4 := M4.below hb
 replace M6 := M6.below hb
 replace M7 := M7.below hb
 replace M10 := M10.below hb
 replace M12 := M12.below hb
 replace M14 := M14.below hb
 replace M17 := M17.below hb
 replace M19 := M19.below hb
 replace M22 := M22.below hb
 replace M24 := M24.below hb
 have z15 := hb.size
 have M27 := hq
 have yM27 := hq.lt
 clear hq hb hW
 refine Zv rfl (.agg #[.int .i64 0, .int .i64 0, .slice none 0 0, .slice (some ⟨W25.heap.size, 0, none⟩) 1 1]) ?_
 refine Zr (cells := #[.slice (some ⟨W3.heap.size, 0, none⟩) 2 2, .slice (some ⟨W11.heap.size, 0, none⟩) 2 2, .slice (some ⟨W16.heap.size, 0, none⟩) 1 1, .slice (some ⟨W21.heap.size, 0, none⟩) 1 1, .slice none 0 0, .slice none 0 0]) rfl rfl M2 (fun W28 hg hq => ?_)
 replace HB := HB.grown hg (by omega) (fun x e => by simp only [Option.some.injEq] at e; omega)
 replace M4 := M4.kept hg (by omega)
 replace M6 := M6.kept hg (by omega)
 replace M7 := M7.kept hg (by omega)
 replace M10 := M10.kept hg (by omega)
 replace M12 := M12.kept hg (by omega)
 replace M14 := M14.kept hg (by omega)
 replace M17 := M17.kept hg (by omega)
 replace M19 := M19.kept hg (by omega)
 replace M22 := M22.kept hg (by omega)
 replace M24 := M24.kept hg (by omega)
 replace M27 := M27.kept hg (by omega)
 have z16 := hg.size
 replace M2 := hq
 clear hq hg
 refine Zr (cells := #[.int .i64 0, .int .i64 0, .slice none 0 0, .slice (some ⟨W25.heap.size, 0, none⟩) 1 1]) rfl rfl M4 (fun W29 hg hq => ?_)
 replace HB := HB.grown hg (by omega) (fun x e => by simp only [Option.some.injEq] at e; omega)
 replace M2 := M2.kept hg (by omega)
 replace M6 := M6.kept hg (by omega)
 replace M7 := M7.kept hg (by omega)
 replace M10 := M10.kept hg (by omega)
 replace M12 := M12.kept hg (by omega)
 replace M14 := M14.kept hg (by omega)
 replace M17 := M17.kept hg (by omega)
 replace M19 := M19.kept hg (by omega)
 replace M22 := M22.kept hg (by omega)
 replace M24 := M24.kept hg (by omega)
 replace M27 := M27.kept hg (by omega)
 have z17 := hg.size
 replace M4 := hq
 clear hq hg
 refine wpList_nil (sx_norm (wp_ret ?_))
 have hins := smp_ins (lim := lim) (pause := pause) M6 M10 M12 M14 M17 M19 M22 M24
 have hvis := rw_vis M27
 exact sx_retcc M2 M4 rfl rfl rfl rfl rfl Tryd.underlying30 rfl (by kernel_rfl) Tryd.underlying34 rfl (by kernel_rfl) ⟨_, _, rfl, hins, hvis, HB⟩

end Go.Proofs.YtomebalolmabnaaDoor.T



/-! The laws' examples (by gen_ec.py). -/
namespace Go.Proofs.YtomebalolmabnaaDoor.T
open Go.RowKit
set_option maxRecDepth 8000
attribute [local irreducible] wpList Code.wp wpAnyH

def lV : List (Int × Bool) := [(0, true)]
def shA : ShT := ⟨false, 0, [⟨10, 30, 32, false⟩], 42, 10⟩
def shB : ShT := ⟨false, 0, [⟨10, 30, 36, true⟩], 46, 10⟩
theorem ex_f1 : inF (smpI 4096 0) = [] := by decide +kernel
theorem ex_f2 : inF (smpI 15 4) = [] := by decide +kernel
theorem ex_a1 : bestE (smpI 4096 0) 0 0 lV [] = 0 := by decide +kernel
theorem ex_a2 : bestS (smpI 4096 0) 0 0 lV [] = shA := by decide +kernel
theorem ex_b1 : bestE (smpI 15 4) 0 0 lV [] = 0 := by decide +kernel
theorem ex_b2 : bestS (smpI 15 4) 0 0 lV [] = shB := by decide +kernel
theorem ex_r1 : runE (smpI 15 4) 0 0 lV [true, false] = 16 := by decide +kernel
theorem ex_r2 : runS (smpI 15 4) 0 0 lV [true, false] = sh0 := by decide +kernel
theorem ex_c1 : chkE (smpI 15 4) 0 0 lV [] shB = 0 := by decide +kernel
theorem ex_c2 : sinS (smpI 15 4) 0 0 lV [] shB = [10, 10] := by decide +kernel
theorem smp_ok {lim pause : Int} (h : inF (smpI lim pause) = []) (hp : posD (smpI lim pause).tl (smpI lim pause).ol 0 0 lV = true) : (crs (smpI lim pause) 0 0 lV).Ok := crs_ok h (by show (2 : Nat) ≤ 1000000; decide) hp
theorem rw_no (w : World) : Rw w 0 0 1 (bF []) ([] : List Bool).length none := fun i hi => absurd hi (Nat.not_lt_zero i)
theorem rw_tf {w : World} {q : Nat} (h : Cb w q #[.bool true, .bool false] 4) : Rw w q 0 1 (bF [true, false]) [true, false].length (some ⟨q, 0, none⟩) := fun k hk => ⟨rfl, h.lt, fun j v hj => by
 match k, j, hk, hj with
 | 0, 0, _, hj => simp [bF] at hj; subst hj; exact h.cell 0 rfl
 | 1, 0, _, hj => simp [bF] at hj; subst hj; exact h.cell 1 rfl
 | 0, j + 1, _, hj => simp [bF] at hj
 | 1, j + 1, _, hj => simp [bF] at hj⟩
theorem examples_n (w : World) (hT : Tab w) : Calls Tryd.prog 12 #[] w fun e w' => e = .returned (.bool true) ∧ Below w.heap.size w w' := by
 have HB : Below w.heap.size w w := Below.refl _ _
 refine sx_enter Tryd.func12 rfl [] (by kernel_rfl) ?_
 refine wp_seq (wp_region_lit ?_)
 refine Zv rfl (.bool false) ?_
 refine wpList_nil (sx_norm (wp_seq (wp_region_lit ?_)))
 refine sx_call (by kernel_rfl) rfl rfl (sample_n 4096 0 w) (by kernel_rfl) ?_
 rintro e W1 ⟨k1, bV1, rfl, hI1, hV1, hb⟩
 obtain ⟨U1, hU1⟩ : ∃ W, W1 = W := ⟨_, rfl⟩
 replace hI1 := hU1 ▸ hI1
 replace hV1 := hU1 ▸ hV1
 have HW1 : Below U1.heap.size U1 W1 := by rw [hU1]; exact Below.refl _ _
 have hz1 : U1.heap.size = W1.heap.size := by rw [hU1]
 clear hU1
 replace HB := over HB hb
 have z1 := hb.size
 clear hb
 refine ⟨_, rfl, ?_⟩
 refine Zv rfl (.tuple #[.agg #[.slice k1.o0 2 k1.c0, .slice k1.o1 2 k1.c1, .slice k1.o2 1 k1.c2, .slice k1.o3 1 k1.c3, .slice k1.o4 0 k1.c4, .slice k1.o5 0 k1.c5], .agg #[.int .i64 0, .int .i64 0, .slice none 0 0, .slice (some ⟨bV1, 0, none⟩) 1 1]]) ?_
 refine Zv rfl (.agg #[.slice k1.o0 2 k1.c0, .slice k1.o1 2 k1.c1, .slice k1.o2 1 k1.c2, .slice k1.o3 1 k1.c3, .slice k1.o4 0 k1.c4, .slice k1.o5 0 k1.c5]) ?_
 refine Zv rfl (.agg #[.int .i64 0, .int .i64 0, .slice none 0 0, .slice (some ⟨bV1, 0, none⟩) 1 1]) ?_
 obtain ⟨W2, hW, hb, hq⟩ := laidA W1 #[.slice none 0 0, .slice none 0 0, .slice none 0 0, .slice none 0 0, .slice none 0 0, .slice none 0 0] 30
 refine sx_mem (by kernel_rfl) rfl rfl (.pointer (some ⟨W1.heap.size, 0, none⟩)) W2 (by rw [← hW]; kernel_rfl) ?_
 replace HB := over HB hb
 replace HW1 := over HW1 hb
 have z2 := hb.size
 have M3 := hq
 have yM3 := hq.lt
 clear hq hb hW
 obtain ⟨W4, hW, hb, hq⟩ := laidA W2 #[.int .i64 0, .int .i64 0, .slice none 0 0, .slice none 0 0] 34
 refine sx_mem (by kernel_rfl) rfl rfl (.pointer (some ⟨W2.heap.size, 0, none⟩)) W4 (by rw [← hW]; kernel_rfl) ?_
 replace HB := over HB hb
 replace HW1 := over HW1 hb
 replace M3 := M3.below hb
 have z3 := hb.size
 have M5 := hq
 have yM5 := hq.lt
 clear hq hb hW
 refine Zr (cells := #[.slice k1.o0 2 k1.c0, .slice k1.o1 2 k1.c1, .slice k1.o2 1 k1.c2, .slice k1.o3 1 k1.c3, .slice k1.o4 0 k1.c4, .slice k1.o5 0 k1.c5]) rfl rfl M3 (fun W6 hg hq => ?_)
 replace HB := HB.grown hg (by omega) (fun x e => by simp only [Option.some.injEq] at e; omega)
 replace HW1 := HW1.grown hg (by omega) (fun x e => by simp only [Option.some.injEq] at e; omega)
 replace M5 := M5.kept hg (by omega)
 have z4 := hg.size
 replace M3 := hq
 clear hq hg
 refine Zr (cells := #[.int .i64 0, .int .i64 0, .slice none 0 0, .slice (some ⟨bV1, 0, none⟩) 1 1]) rfl rfl M5 (fun W7 hg hq => ?_)
 replace HB := HB.grown hg (by omega) (fun x e => by simp only [Option.some.injEq] at e; omega)
 replace HW1 := HW1.grown hg (by omega) (fun x e => by simp only [Option.some.injEq] at e; omega)
 replace M3 := M3.kept hg (by omega)
 have z5 := hg.size
 replace M5 := hq
 clear hq hg
 refine wpList_nil (sx_norm (wp_seq (wp_region_lit ?_)))
 refine Zw rfl (.agg #[.slice k1.o0 2 k1.c0, .slice k1.o1 2 k1.c1, .slice k1.o2 1 k1.c2, .slice k1.o3 1 k1.c3, .slice k1.o4 0 k1.c4, .slice k1.o5 0 k1.c5]) (ex_load rfl M3 (by kernel_rfl) Tryd.underlying30 rfl (by kernel_rfl)) ?_
 refine Zw rfl (.agg #[.int .i64 0, .int .i64 0, .slice none 0 0, .slice (some ⟨bV1, 0, none⟩) 1 1]) (ex_load rfl M5 (by kernel_rfl) Tryd.underlying34 rfl (by kernel_rfl)) ?_
 refine sx_call (by kernel_rfl) rfl rfl ((by have h8 := drvBest_n k1 (smpI 4096 0) 0 0 none (some ⟨bV1, 0, none⟩) 0 1 bV1 0 0 0 lV [] (smp_ok ex_f1) W7 (hI1.below HW1) (hT.belowD HB) (hV1.below HW1) (rw_no _); rw [ex_a1, ex_a2] at h8; exact h8)) (by kernel_rfl) ?_
 rintro e W8 ⟨oA, cA, bA, qA, rfl, hSA, -, hb⟩
 have hbA : bA < W8.heap.size := hSA.lt (k := 0) (by decide)
 replace hSA : Rw W8 bA qA 4 (fun k => tmE (shA.T.getD k tm0)) 1 oA := hSA
 replace HB := over HB hb
 replace HW1 := over HW1 hb
 replace M3 := M3.below hb
 replace M5 := M5.below hb
 have z6 := hb.size
 clear hb
 refine ⟨_, rfl, ?_⟩
 refine Zv rfl (.tuple #[.agg #[.bool false, .int .i64 0, .slice oA 1 cA, .int .i64 42, .int .i64 10], .int .i64 0]) ?_
 refine Zv rfl (.agg #[.bool false, .int .i64 0, .slice oA 1 cA, .int .i64 42, .int .i64 10]) ?_
 refine Zv rfl (.int .i64 0) ?_
 obtain ⟨W10, hW, hb, hq⟩ := laidV W8 #[.bool false, .int .i64 0, .slice none 0 0, .int .i64 0, .int .i64 0] #[.bool false, .int .i64 0, .slice oA 1 cA, .int .i64 42, .int .i64 10] 37
 refine sx_mem (by kernel_rfl) rfl rfl (.pointer (some ⟨W8.heap.size, 0, none⟩)) (W8.alloc (.cells #[.bool false, .int .i64 0, .slice none 0 0, .int .i64 0, .int .i64 0] 37)) (by kernel_rfl) ?_
 refine Zs (cells := #[.bool false, .int .i64 0, .slice oA 1 cA, .int .i64 42, .int .i64 10]) rfl rfl (Cb.made W8 #[.bool false, .int .i64 0, .slice none 0 0, .int .i64 0, .int .i64 0] 37) ?_
 rw [hW]
 replace HB := over HB hb
 replace HW1 := over HW1 hb
 replace M3 := M3.below hb
 replace M5 := M5.below hb
 replace hSA := hSA.below hb
 have z7 := hb.size
 have M9 := hq
 have yM9 := hq.lt
 clear hq hb hW
 refine Zv rfl (.int .i64 0) ?_
 refine wpList_nil (sx_norm (wp_seq (wp_region_lit ?_)))
 refine sx_call (by kernel_rfl) rfl rfl (sample_n 15 4 W10) (by kernel_rfl) ?_
 rintro e W11 ⟨k2, bV2, rfl, hI2, hV2, hb⟩
 obtain ⟨U2, hU2⟩ : ∃ W, W11 = W := ⟨_, rfl⟩
 replace hI2 := hU2 ▸ hI2
 replace hV2 := hU2 ▸ hV2
 have HW2 : Below U2.heap.size U2 W11 := by rw [hU2]; exact Below.refl _ _
 have hz2 : U2.heap.size = W11.heap.size := by rw [hU2]
 clear hU2
 replace HB := over HB hb
 replace HW1 := over HW1 hb
 replace M3 := M3.below hb
 replace M5 := M5.below hb
 replace hSA := hSA.below hb
 replace M9 := M9.below hb
 have z8 := hb.size
 clear hb
 refine ⟨_, rfl, ?_⟩
 refine Zv rfl (.tuple #[.agg #[.slice k2.o0 2 k2.c0, .slice k2.o1 2 k2.c1, .slice k2.o2 1 k2.c2, .slice k2.o3 1 k2.c3, .slice k2.o4 0 k2.c4, .slice k2.o5 0 k2.c5], .agg #[.int .i64 0, .int .i64 0, .slice none 0 0, .slice (some ⟨bV2, 0, none⟩) 1 1]]) ?_
 refine Zv rfl (.agg #[.slice k2.o0 2 k2.c0, .slice k2.o1 2 k2.c1, .slice k2.o2 1 k2.c2, .slice k2.o3 1 k2.c3, .slice k2.o4 0 k2.c4, .slice k2.o5 0 k2.c5]) ?_
 refine Zv rfl (.agg #[.int .i64 0, .int .i64 0, .slice none 0 0, .slice (some ⟨bV2, 0, none⟩) 1 1]) ?_
 obtain ⟨W12, hW, hb, hq⟩ := laidA W11 #[.slice none 0 0, .slice none 0 0, .slice none 0 0, .slice none 0 0, .slice none 0 0, .slice none 0 0] 30
 refine sx_mem (by kernel_rfl) rfl rfl (.pointer (some ⟨W11.heap.size, 0, none⟩)) W12 (by rw [← hW]; kernel_rfl) ?_
 replace HB := over HB hb
 replace HW1 := over HW1 hb
 replace M3 := M3.below hb
 replace M5 := M5.below hb
 replace hSA := hSA.below hb
 replace M9 := M9.below hb
 replace HW2 := over HW2 hb
 have z9 := hb.size
 have M13 := hq
 have yM13 := hq.lt
 clear hq hb hW
 obtain ⟨W14, hW, hb, hq⟩ := laidA W12 #[.int .i64 0, .int .i64 0, .slice none 0 0, .slice none 0 0] 34
 refine sx_mem (by kernel_rfl) rfl rfl (.pointer (some ⟨W12.heap.size, 0, none⟩)) W14 (by rw [← hW]; kernel_rfl) ?_
 replace HB := over HB hb
 replace HW1 := over HW1 hb
 replace M3 := M3.below hb
 replace M5 := M5.below hb
 replace hSA := hSA.below hb
 replace M9 := M9.below hb
 replace HW2 := over HW2 hb
 replace M13 := M13.below hb
 have z10 := hb.size
 have M15 := hq
 have yM15 := hq.lt
 clear hq hb hW
 refine Zr (cells := #[.slice k2.o0 2 k2.c0, .slice k2.o1 2 k2.c1, .slice k2.o2 1 k2.c2, .slice k2.o3 1 k2.c3, .slice k2.o4 0 k2.c4, .slice k2.o5 0 k2.c5]) rfl rfl M13 (fun W16 hg hq => ?_)
 replace HB := HB.grown hg (by omega) (fun x e => by simp only [Option.some.injEq] at e; omega)
 replace HW1 := HW1.grown hg (by omega) (fun x e => by simp only [Option.some.injEq] at e; omega)
 replace M3 := M3.kept hg (by omega)
 replace M5 := M5.kept hg (by omega)
 replace hSA := hSA.kept hg (fun i hi => by omega)
 replace M9 := M9.kept hg (by omega)
 replace HW2 := HW2.grown hg (by omega) (fun x e => by simp only [Option.some.injEq] at e; omega)
 replace M15 := M15.kept hg (by omega)
 have z11 := hg.size
 replace M13 := hq
 clear hq hg
 refine Zr (cells := #[.int .i64 0, .int .i64 0, .slice none 0 0, .slice (some ⟨bV2, 0, none⟩) 1 1]) rfl rfl M15 (fun W17 hg hq => ?_)
 replace HB := HB.grown hg (by omega) (fun x e => by simp only [Option.some.injEq] at e; omega)
 replace HW1 := HW1.grown hg (by omega) (fun x e => by simp only [Option.some.injEq] at e; omega)
 replace M3 := M3.kept hg (by omega)
 replace M5 := M5.kept hg (by omega)
 replace hSA := hSA.kept hg (fun i hi => by omega)
 replace M9 := M9.kept hg (by omega)
 replace HW2 := HW2.grown hg (by omega) (fun x e => by simp only [Option.some.injEq] at e; omega)
 replace M13 := M13.kept hg (by omega)
 have z12 := hg.size
 replace M15 := hq
 clear hq hg
 refine wpList_nil (sx_norm (wp_seq (wp_region_lit ?_)))
 refine Zw rfl (.agg #[.slice k2.o0 2 k2.c0, .slice k2.o1 2 k2.c1, .slice k2.o2 1 k2.c2, .slice k2.o3 1 k2.c3, .slice k2.o4 0 k2.c4, .slice k2.o5 0 k2.c5]) (ex_load rfl M13 (by kernel_rfl) Tryd.underlying30 rfl (by kernel_rfl)) ?_
 refine Zw rfl (.agg #[.int .i64 0, .int .i64 0, .slice none 0 0, .slice (some ⟨bV1, 0, none⟩) 1 1]) (ex_load rfl M5 (by kernel_rfl) Tryd.underlying34 rfl (by kernel_rfl)) ?_
 refine sx_call (by kernel_rfl) rfl rfl ((by have h8 := drvBest_n k2 (smpI 15 4) 0 0 none (some ⟨bV1, 0, none⟩) 0 1 bV1 0 0 0 lV [] (smp_ok ex_f2) W17 (hI2.below HW2) (hT.belowD HB) (hV1.below HW1) (rw_no _); rw [ex_b1, ex_b2] at h8; exact h8)) (by kernel_rfl) ?_
 rintro e W18 ⟨oB, cB, bB, qB, rfl, hSB, -, hb⟩
 have hbB : bB < W18.heap.size := hSB.lt (k := 0) (by decide)
 replace hSB : Rw W18 bB qB 4 (fun k => tmE (shB.T.getD k tm0)) 1 oB := hSB
 replace HB := over HB hb
 replace HW1 := over HW1 hb
 replace M3 := M3.below hb
 replace M5 := M5.below hb
 replace hSA := hSA.below hb
 replace M9 := M9.below hb
 replace HW2 := over HW2 hb
 replace M13 := M13.below hb
 replace M15 := M15.below hb
 have z13 := hb.size
 clear hb
 refine ⟨_, rfl, ?_⟩
 refine Zv rfl (.tuple #[.agg #[.bool false, .int .i64 0, .slice oB 1 cB, .int .i64 46, .int .i64 10], .int .i64 0]) ?_
 refine Zv rfl (.agg #[.bool false, .int .i64 0, .slice oB 1 cB, .int .i64 46, .int .i64 10]) ?_
 refine Zv rfl (.int .i64 0) ?_
 obtain ⟨W20, hW, hb, hq⟩ := laidV W18 #[.bool false, .int .i64 0, .slice none 0 0, .int .i64 0, .int .i64 0] #[.bool false, .int .i64 0, .slice oB 1 cB, .int .i64 46, .int .i64 10] 37
 refine sx_mem (by kernel_rfl) rfl rfl (.pointer (some ⟨W18.heap.size, 0, none⟩)) (W18.alloc (.cells #[.bool false, .int .i64 0, .slice none 0 0, .int .i64 0, .int .i64 0] 37)) (by kernel_rfl) ?_
 refine Zs (cells := #[.bool false, .int .i64 0, .slice oB 1 cB, .int .i64 46, .int .i64 10]) rfl rfl (Cb.made W18 #[.bool false, .int .i64 0, .slice none 0 0, .int .i64 0, .int .i64 0] 37) ?_
 rw [hW]
 replace HB := over HB hb
 replace HW1 := over HW1 hb
 replace M3 := M3.below hb
 replace M5 := M5.below hb
 replace hSA := hSA.below hb
 replace M9 := M9.below hb
 replace HW2 := over HW2 hb
 replace M13 := M13.below hb
 replace M15 := M15.below hb
 replace hSB := hSB.below hb
 have z14 := hb.size
 have M19 := hq
 have yM19 := hq.lt
 clear hq hb hW
 refine Zv rfl (.int .i64 0) ?_
 refine wpList_nil (sx_norm (wp_seq (wp_region_lit ?_)))
 refine Zw rfl (.agg #[.slice k2.o0 2 k2.c0, .slice k2.o1 2 k2.c1, .slice k2.o2 1 k2.c2, .slice k2.o3 1 k2.c3, .slice k2.o4 0 k2.c4, .slice k2.o5 0 k2.c5]) (ex_load rfl M13 (by kernel_rfl) Tryd.underlying30 rfl (by kernel_rfl)) ?_
 refine Zw rfl (.agg #[.int .i64 0, .int .i64 0, .slice none 0 0, .slice (some ⟨bV1, 0, none⟩) 1 1]) (ex_load rfl M5 (by kernel_rfl) Tryd.underlying34 rfl (by kernel_rfl)) ?_
 obtain ⟨W21, hW, hb, hq⟩ := laidA W20 #[.bool true, .bool false] 4
 refine sx_mem (by kernel_rfl) rfl rfl (.slice (some ⟨W20.heap.size, 0, none⟩) 2 2) W21 (by rw [← hW]; kernel_rfl) ?_
 replace HB := over HB hb
 replace HW1 := over HW1 hb
 replace M3 := M3.below hb
 replace M5 := M5.below hb
 replace hSA := hSA.below hb
 replace M9 := M9.below hb
 replace HW2 := over HW2 hb
 replace M13 := M13.below hb
 replace M15 := M15.below hb
 replace hSB := hSB.below hb
 replace M19 := M19.below hb
 have z15 := hb.size
 have M22 := hq
 have yM22 := hq.lt
 clear hq hb hW
 refine sx_call (by kernel_rfl) rfl rfl ((by have h8 := drvRun_n k2 (smpI 15 4) 0 0 none (some ⟨bV1, 0, none⟩) 0 0 1 bV1 0 lV (smp_ok ex_f2) [true, false] (some ⟨W20.heap.size, 0, none⟩) 2 _ 0 W21 (hI2.below HW2) (hT.belowD HB) (hV1.below HW1) (rw_tf M22); rw [ex_r1, ex_r2] at h8; exact h8)) (by kernel_rfl) ?_
 rintro e W23 ⟨oR, cR, bR, qR, rfl, -, -, hb⟩
 replace HB := over HB hb
 replace HW1 := over HW1 hb
 replace M3 := M3.below hb
 replace M5 := M5.below hb
 replace hSA := hSA.below hb
 replace M9 := M9.below hb
 replace HW2 := over HW2 hb
 replace M13 := M13.below hb
 replace M15 := M15.below hb
 replace hSB := hSB.below hb
 replace M19 := M19.below hb
 replace M22 := M22.below hb
 have z16 := hb.size
 clear hb
 refine ⟨_, rfl, ?_⟩
 refine Zv rfl (.tuple #[.agg #[.bool false, .int .i64 0, .slice oR 0 cR, .int .i64 0, .int .i64 0], .int .i64 16]) ?_
 refine Zv rfl (.agg #[.bool false, .int .i64 0, .slice oR 0 cR, .int .i64 0, .int .i64 0]) ?_
 refine Zv rfl (.int .i64 16) ?_
 obtain ⟨W25, hW, hb, hq⟩ := laidV W23 #[.bool false, .int .i64 0, .slice none 0 0, .int .i64 0, .int .i64 0] #[.bool false, .int .i64 0, .slice oR 0 cR, .int .i64 0, .int .i64 0] 37
 refine sx_mem (by kernel_rfl) rfl rfl (.pointer (some ⟨W23.heap.size, 0, none⟩)) (W23.alloc (.cells #[.bool false, .int .i64 0, .slice none 0 0, .int .i64 0, .int .i64 0] 37)) (by kernel_rfl) ?_
 refine Zs (cells := #[.bool false, .int .i64 0, .slice oR 0 cR, .int .i64 0, .int .i64 0]) rfl rfl (Cb.made W23 #[.bool false, .int .i64 0, .slice none 0 0, .int .i64 0, .int .i64 0] 37) ?_
 rw [hW]
 replace HB := over HB hb
 replace HW1 := over HW1 hb
 replace M3 := M3.below hb
 replace M5 := M5.below hb
 replace hSA := hSA.below hb
 replace M9 := M9.below hb
 replace HW2 := over HW2 hb
 replace M13 := M13.below hb
 replace M15 := M15.below hb
 replace hSB := hSB.below hb
 replace M19 := M19.below hb
 replace M22 := M22.below hb
 have z17 := hb.size
 have M24 := hq
 have yM24 := hq.lt
 clear hq hb hW
 refine Zv rfl (.int .i64 16) ?_
 refine wpList_nil (sx_norm (wp_seq (wp_region_lit ?_)))
 refine Zw rfl (.agg #[.slice k2.o0 2 k2.c0, .slice k2.o1 2 k2.c1, .slice k2.o2 1 k2.c2, .slice k2.o3 1 k2.c3, .slice k2.o4 0 k2.c4, .slice k2.o5 0 k2.c5]) (ex_load rfl M13 (by kernel_rfl) Tryd.underlying30 rfl (by kernel_rfl)) ?_
 refine Zw rfl (.agg #[.int .i64 0, .int .i64 0, .slice none 0 0, .slice (some ⟨bV1, 0, none⟩) 1 1]) (ex_load rfl M5 (by kernel_rfl) Tryd.underlying34 rfl (by kernel_rfl)) ?_
 refine Zw rfl (.agg #[.bool false, .int .i64 0, .slice oB 1 cB, .int .i64 46, .int .i64 10]) (ex_load rfl M19 (by kernel_rfl) Tryd.underlying37 rfl (by kernel_rfl)) ?_
 refine sx_call (by kernel_rfl) rfl rfl ((by have h8 := drvSince_n k2 (smpI 15 4) 0 0 none (some ⟨bV1, 0, none⟩) oB 0 1 cB bV1 0 0 0 bB qB lV [] shB (by decide) (smp_ok ex_f2) W25 (hI2.below HW2) (hT.belowD HB) (hV1.below HW1) (rw_no _) hSB; rw [ex_c1, ex_c2] at h8; exact h8)) (by kernel_rfl) ?_
 rintro e W26 ⟨oL, cL, bL, qL, rfl, hSL, hb⟩
 replace hSL : Rw W26 bL qL 1 (fun k => inE ([10, 10].getD k 0)) 2 oL := hSL
 replace HB := over HB hb
 replace HW1 := over HW1 hb
 replace M3 := M3.below hb
 replace M5 := M5.below hb
 replace hSA := hSA.below hb
 replace M9 := M9.below hb
 replace HW2 := over HW2 hb
 replace M13 := M13.below hb
 replace M15 := M15.below hb
 replace hSB := hSB.below hb
 replace M19 := M19.below hb
 replace M22 := M22.below hb
 replace M24 := M24.below hb
 have z18 := hb.size
 clear hb
 refine ⟨_, rfl, ?_⟩
 refine Zv rfl (.tuple #[.slice oL 2 cL, .int .i64 0]) ?_
 refine Zv rfl (.slice oL 2 cL) ?_
 refine Zv rfl (.int .i64 0) ?_
 refine Zv rfl (.slice oL 2 cL) ?_
 refine Zv rfl (.int .i64 0) ?_
 refine wpList_nil (sx_norm (wp_seq (wp_seq (wp_region_lit ?_))))
 refine Zv rfl (.int .i64 0) ?_
 refine Zv rfl (.bool false) ?_
 refine Zv rfl (.bool false) ?_
 refine Zv rfl (.int .i64 0) ?_
 refine Zv rfl (.bool false) ?_
 refine Zv rfl (.bool false) ?_
 refine Zv rfl (.bool false) ?_
 refine Zv rfl (.int .i64 16) ?_
 refine Zv rfl (.bool false) ?_
 refine Zv rfl (.bool false) ?_
 refine Zv rfl (.bool false) ?_
 refine Zv rfl (.int .i64 0) ?_
 refine Zv rfl (.bool false) ?_
 refine Zv rfl (.bool false) ?_
 refine Zv rfl (.bool false) ?_
 refine Zv rfl (.pointer (some ⟨W8.heap.size, 2, none⟩)) ?_
 refine Zw rfl (.slice oA 1 cA) (el (M9.cell 2 rfl) Tryd.underlying35) ?_
 refine Zv rfl (.int .i64 1) ?_
 refine Zv rfl (.bool false) ?_
 refine Zv rfl (.bool false) ?_
 refine Zv rfl (.bool false) ?_
 refine Zv rfl (.pointer (some ⟨W18.heap.size, 2, none⟩)) ?_
 refine Zw rfl (.slice oB 1 cB) (el (M19.cell 2 rfl) Tryd.underlying35) ?_
 refine Zv rfl (.int .i64 1) ?_
 refine Zv rfl (.bool false) ?_
 refine Zv rfl (.bool false) ?_
 refine Zv rfl (.bool false) ?_
 refine Zv rfl (.slice oL 2 cL) ?_
 refine Zv rfl (.int .i64 2) ?_
 refine Zv rfl (.bool false) ?_
 refine Zv rfl (.bool false) ?_
 refine wpList_nil (sx_norm ?_)
 refine sx_false (by kernel_rfl) ?_
 refine wp_skip (sx_norm (wp_seq (wp_region_lit ?_)))
 refine Zv rfl (.pointer (some ⟨W8.heap.size, 2, none⟩)) ?_
 refine Zw rfl (.slice oA 1 cA) (el (M9.cell 2 rfl) Tryd.underlying35) ?_
 refine Zw rfl (.pointer (some ⟨bA, qA + 0 * 4, none⟩)) (ex_indexO (q := qA) (m := 1) (c := cA) (k := 0) (s := 4) rfl (by kernel_rfl) (hSA.oa (k := 0) (by omega)) (by kernel_rfl) Tryd.underlying35 (by kernel_rfl) (by omega) (by omega)) ?_
 refine Zw rfl (.agg #[.int .i64 10, .int .i64 30, .int .i64 32, .bool false]) (ex_loadR rfl (hSA.range (k := 0) (by omega)) (by kernel_rfl) Tryd.underlying51 rfl (by kernel_rfl)) ?_
 refine Zv rfl (.agg #[.int .i64 10, .int .i64 30, .int .i64 32, .bool false]) ?_
 refine Zw rfl (.bool true) (ex_bool ((10 : Int) == 10 && (30 : Int) == 30 && (32 : Int) == 32 && (false : Bool) == false) true (ex_eqlT rfl (by kernel_rfl) (by kernel_rfl)) (by decide)) ?_
 refine Zv rfl (.bool true) ?_
 refine Zv rfl (.pointer (some ⟨W8.heap.size, 3, none⟩)) ?_
 refine Zw rfl (.int .i64 42) (el (M9.cell 3 rfl) Tryd.underlying3) ?_
 refine Zv rfl (.bool true) ?_
 refine Zv rfl (.bool true) ?_
 refine Zv rfl (.bool true) ?_
 refine Zv rfl (.pointer (some ⟨W8.heap.size, 4, none⟩)) ?_
 refine Zw rfl (.int .i64 10) (el (M9.cell 4 rfl) Tryd.underlying3) ?_
 refine Zv rfl (.bool true) ?_
 refine Zv rfl (.bool true) ?_
 refine Zv rfl (.bool true) ?_
 refine Zv rfl (.pointer (some ⟨W18.heap.size, 2, none⟩)) ?_
 refine Zw rfl (.slice oB 1 cB) (el (M19.cell 2 rfl) Tryd.underlying35) ?_
 refine Zw rfl (.pointer (some ⟨bB, qB + 0 * 4, none⟩)) (ex_indexO (q := qB) (m := 1) (c := cB) (k := 0) (s := 4) rfl (by kernel_rfl) (hSB.oa (k := 0) (by omega)) (by kernel_rfl) Tryd.underlying35 (by kernel_rfl) (by omega) (by omega)) ?_
 refine Zw rfl (.agg #[.int .i64 10, .int .i64 30, .int .i64 36, .bool true]) (ex_loadR rfl (hSB.range (k := 0) (by omega)) (by kernel_rfl) Tryd.underlying51 rfl (by kernel_rfl)) ?_
 refine Zv rfl (.agg #[.int .i64 10, .int .i64 30, .int .i64 36, .bool true]) ?_
 refine Zw rfl (.bool true) (ex_bool ((10 : Int) == 10 && (30 : Int) == 30 && (36 : Int) == 36 && (true : Bool) == true) true (ex_eqlT rfl (by kernel_rfl) (by kernel_rfl)) (by decide)) ?_
 refine Zv rfl (.bool true) ?_
 refine Zv rfl (.bool true) ?_
 refine Zv rfl (.pointer (some ⟨W18.heap.size, 3, none⟩)) ?_
 refine Zw rfl (.int .i64 46) (el (M19.cell 3 rfl) Tryd.underlying3) ?_
 refine Zv rfl (.bool true) ?_
 refine Zv rfl (.bool true) ?_
 refine Zv rfl (.bool true) ?_
 refine Zv rfl (.slice oL 2 cL) ?_
 refine Zw rfl (.pointer (some ⟨bL, qL + 0 * 1, none⟩)) (ex_indexO (q := qL) (m := 2) (c := cL) (k := 0) (s := 1) rfl (by kernel_rfl) (hSL.oa (k := 0) (by omega)) (by kernel_rfl) Tryd.underlying42 (by kernel_rfl) (by omega) (by omega)) ?_
 refine Zw rfl (.int .i64 10) (el (hSL.cell (k := 0) (by omega) 0 rfl) Tryd.underlying3) ?_
 refine Zv rfl (.bool true) ?_
 refine Zv rfl (.bool true) ?_
 refine Zv rfl (.bool true) ?_
 refine Zv rfl (.slice oL 2 cL) ?_
 refine Zw rfl (.pointer (some ⟨bL, qL + 1 * 1, none⟩)) (ex_indexO (q := qL) (m := 2) (c := cL) (k := 1) (s := 1) rfl (by kernel_rfl) (hSL.oa (k := 1) (by omega)) (by kernel_rfl) Tryd.underlying42 (by kernel_rfl) (by omega) (by omega)) ?_
 refine Zw rfl (.int .i64 10) (el (hSL.cell (k := 1) (by omega) 0 rfl) Tryd.underlying3) ?_
 refine Zv rfl (.bool true) ?_
 refine Zv rfl (.bool true) ?_
 refine Zv rfl (.bool true) ?_
 refine wpList_nil (sx_norm (wp_ret ?_))
 exact sx_ret1 (.bool true) rfl rfl (by kernel_rfl) ⟨rfl, HB⟩

end Go.Proofs.YtomebalolmabnaaDoor.T



