/-
  DERIVED. Ec: a part of the base of layer 13 (made by pack.py).
-/
import Derived.Test.YtnapmildbodigaaDoorDl
import Derived.Test.YtnapmildbodigaaDoorDo
import Derived.Test.YtnapmildbodigaaDoorGN
/-! The laws' examples (by gen_ec.py). -/
namespace Go.Proofs.YtnapmildbodigaaDoor.T
open Go.RowKit
set_option maxRecDepth 8000
attribute [local irreducible] wpList Code.wp wpAnyH

def lV : List (Int × Bool) := [(0, true)]
def shA : ShT := ⟨false, 0, [⟨10, 30, 32, false⟩], 42, 10⟩
def shB : ShT := ⟨false, 0, [⟨10, 30, 36, true⟩], 46, 10⟩
theorem ex_f1 : inF (smpI 4096 0) = [] := by decide +kernel
theorem ex_f2 : inF (smpI 15 4) = [] := by decide +kernel
theorem ex_a1 : bestE (smpI 4096 0) 0 0 lV [] = 0 := by decide +kernel
theorem ex_a2 : bestS (smpI 4096 0) 0 0 lV [] = shA := by decide +kernel
theorem ex_b1 : bestE (smpI 15 4) 0 0 lV [] = 0 := by decide +kernel
theorem ex_b2 : bestS (smpI 15 4) 0 0 lV [] = shB := by decide +kernel
theorem ex_r1 : runE (smpI 15 4) 0 0 lV [true, false] = 16 := by decide +kernel
theorem ex_r2 : runS (smpI 15 4) 0 0 lV [true, false] = sh0 := by decide +kernel
theorem ex_c1 : chkE (smpI 15 4) 0 0 lV [] shB = 0 := by decide +kernel
theorem ex_c2 : sinS (smpI 15 4) 0 0 lV [] shB = [10, 10] := by decide +kernel
theorem smp_ok {lim pause : Int} (h : inF (smpI lim pause) = []) (hp : posD (smpI lim pause).tl (smpI lim pause).ol 0 0 lV = true) : (crs (smpI lim pause) 0 0 lV).Ok := crs_ok h (by show (2 : Nat) ≤ 1000000; decide) hp
theorem rw_no (w : World) : Rw w 0 0 1 (bF []) ([] : List Bool).length none := fun i hi => absurd hi (Nat.not_lt_zero i)
theorem rw_tf {w : World} {q : Nat} (h : Cb w q #[.bool true, .bool false] 4) : Rw w q 0 1 (bF [true, false]) [true, false].length (some ⟨q, 0, none⟩) := fun k hk => ⟨rfl, h.lt, fun j v hj => by
  match k, j, hk, hj with
  | 0, 0, _, hj => simp [bF] at hj; subst hj; exact h.cell 0 rfl
  | 1, 0, _, hj => simp [bF] at hj; subst hj; exact h.cell 1 rfl
  | 0, j + 1, _, hj => simp [bF] at hj
  | 1, j + 1, _, hj => simp [bF] at hj⟩
theorem examples_n (w : World) (hT : Tab w) : Calls Tryd.prog 10 #[] w fun e w' => e = .returned (.bool true) ∧ Below w.heap.size w w' := by
  have HB : Below w.heap.size w w := Below.refl _ _
  refine sx_enter Tryd.func10 rfl [] (by kernel_rfl) ?_
  refine wp_seq ?_
  refine wp_region_lit ?_
  refine sx_val (by kernel_rfl) rfl rfl (.bool false) (by kernel_rfl) ?_
  refine wpList_nil ?_
  refine sx_norm ?_
  refine wp_seq ?_
  refine wp_region_lit ?_
  refine sx_call (by kernel_rfl) rfl rfl (sample_n 4096 0 w) (by kernel_rfl) ?_
  rintro e W1 ⟨k1, bV1, rfl, hI1, hV1, hb⟩
  obtain ⟨U1, hU1⟩ : ∃ W, W1 = W := ⟨_, rfl⟩
  replace hI1 := hU1 ▸ hI1
  replace hV1 := hU1 ▸ hV1
  have HW1 : Below U1.heap.size U1 W1 := by rw [hU1]; exact Below.refl _ _
  have hz1 : U1.heap.size = W1.heap.size := by rw [hU1]
  clear hU1
  replace HB := over HB hb
  have z1 := hb.size
  clear hb
  refine ⟨_, rfl, ?_⟩
  refine sx_val (by kernel_rfl) rfl rfl (.tuple #[.agg #[.slice k1.o0 2 k1.c0, .slice k1.o1 2 k1.c1, .slice k1.o2 1 k1.c2, .slice k1.o3 1 k1.c3, .slice k1.o4 0 k1.c4, .slice k1.o5 0 k1.c5], .agg #[.int .i64 0, .int .i64 0, .slice none 0 0, .slice (some ⟨bV1, 0, none⟩) 1 1]]) (by kernel_rfl) ?_
  refine sx_val (by kernel_rfl) rfl rfl (.agg #[.slice k1.o0 2 k1.c0, .slice k1.o1 2 k1.c1, .slice k1.o2 1 k1.c2, .slice k1.o3 1 k1.c3, .slice k1.o4 0 k1.c4, .slice k1.o5 0 k1.c5]) (by kernel_rfl) ?_
  refine sx_val (by kernel_rfl) rfl rfl (.agg #[.int .i64 0, .int .i64 0, .slice none 0 0, .slice (some ⟨bV1, 0, none⟩) 1 1]) (by kernel_rfl) ?_
  obtain ⟨W2, hW⟩ : ∃ W, W1.alloc (.cells #[.slice none 0 0, .slice none 0 0, .slice none 0 0, .slice none 0 0, .slice none 0 0, .slice none 0 0] 30) = W := ⟨_, rfl⟩
  have hb := hW ▸ below_alloc W1 (.cells #[.slice none 0 0, .slice none 0 0, .slice none 0 0, .slice none 0 0, .slice none 0 0, .slice none 0 0] 30)
  have hq : Cb W2 W1.heap.size #[.slice none 0 0, .slice none 0 0, .slice none 0 0, .slice none 0 0, .slice none 0 0, .slice none 0 0] 30 := hW ▸ Cb.made W1 #[.slice none 0 0, .slice none 0 0, .slice none 0 0, .slice none 0 0, .slice none 0 0, .slice none 0 0] 30
  refine sx_mem (by kernel_rfl) rfl rfl (.pointer (some ⟨W1.heap.size, 0, none⟩)) W2 (by rw [← hW]; kernel_rfl) ?_
  replace HB := over HB hb
  replace HW1 := over HW1 hb
  have z2 := hb.size
  have M3 := hq
  have yM3 := hq.lt
  clear hq hb hW
  obtain ⟨W4, hW⟩ : ∃ W, W2.alloc (.cells #[.int .i64 0, .int .i64 0, .slice none 0 0, .slice none 0 0] 34) = W := ⟨_, rfl⟩
  have hb := hW ▸ below_alloc W2 (.cells #[.int .i64 0, .int .i64 0, .slice none 0 0, .slice none 0 0] 34)
  have hq : Cb W4 W2.heap.size #[.int .i64 0, .int .i64 0, .slice none 0 0, .slice none 0 0] 34 := hW ▸ Cb.made W2 #[.int .i64 0, .int .i64 0, .slice none 0 0, .slice none 0 0] 34
  refine sx_mem (by kernel_rfl) rfl rfl (.pointer (some ⟨W2.heap.size, 0, none⟩)) W4 (by rw [← hW]; kernel_rfl) ?_
  replace HB := over HB hb
  replace HW1 := over HW1 hb
  replace M3 := M3.below hb
  have z3 := hb.size
  have M5 := hq
  have yM5 := hq.lt
  clear hq hb hW
  refine sx_store (cells := #[.slice k1.o0 2 k1.c0, .slice k1.o1 2 k1.c1, .slice k1.o2 1 k1.c2, .slice k1.o3 1 k1.c3, .slice k1.o4 0 k1.c4, .slice k1.o5 0 k1.c5]) (by kernel_rfl) rfl rfl M3 (by kernel_rfl) (by kernel_rfl) (by kernel_rfl) (by kernel_rfl) (by kernel_rfl) ?_
  obtain ⟨W6, hW⟩ : ∃ W, W4.setRow (W1.heap.size) #[.slice k1.o0 2 k1.c0, .slice k1.o1 2 k1.c1, .slice k1.o2 1 k1.c2, .slice k1.o3 1 k1.c3, .slice k1.o4 0 k1.c4, .slice k1.o5 0 k1.c5] = W := ⟨_, rfl⟩
  have hg : W4.grownBy W6 (some (W1.heap.size)) := hW ▸ grown_row _ _ _
  have hq : Cb W6 (W1.heap.size) #[.slice k1.o0 2 k1.c0, .slice k1.o1 2 k1.c1, .slice k1.o2 1 k1.c2, .slice k1.o3 1 k1.c3, .slice k1.o4 0 k1.c4, .slice k1.o5 0 k1.c5] 30 := hW ▸ Cb.row M3 _
  rw [hW]
  replace HB := HB.grown hg (by omega) (fun x e => by simp only [Option.some.injEq] at e; omega)
  replace HW1 := HW1.grown hg (by omega) (fun x e => by simp only [Option.some.injEq] at e; omega)
  replace M5 := M5.kept hg (by omega)
  have z4 := hg.size
  replace M3 := hq
  clear hq hg hW
  refine sx_store (cells := #[.int .i64 0, .int .i64 0, .slice none 0 0, .slice (some ⟨bV1, 0, none⟩) 1 1]) (by kernel_rfl) rfl rfl M5 (by kernel_rfl) (by kernel_rfl) (by kernel_rfl) (by kernel_rfl) (by kernel_rfl) ?_
  obtain ⟨W7, hW⟩ : ∃ W, W6.setRow (W2.heap.size) #[.int .i64 0, .int .i64 0, .slice none 0 0, .slice (some ⟨bV1, 0, none⟩) 1 1] = W := ⟨_, rfl⟩
  have hg : W6.grownBy W7 (some (W2.heap.size)) := hW ▸ grown_row _ _ _
  have hq : Cb W7 (W2.heap.size) #[.int .i64 0, .int .i64 0, .slice none 0 0, .slice (some ⟨bV1, 0, none⟩) 1 1] 34 := hW ▸ Cb.row M5 _
  rw [hW]
  replace HB := HB.grown hg (by omega) (fun x e => by simp only [Option.some.injEq] at e; omega)
  replace HW1 := HW1.grown hg (by omega) (fun x e => by simp only [Option.some.injEq] at e; omega)
  replace M3 := M3.kept hg (by omega)
  have z5 := hg.size
  replace M5 := hq
  clear hq hg hW
  refine wpList_nil ?_
  refine sx_norm ?_
  refine wp_seq ?_
  refine wp_region_lit ?_
  refine sx_val (by kernel_rfl) rfl rfl (.agg #[.slice k1.o0 2 k1.c0, .slice k1.o1 2 k1.c1, .slice k1.o2 1 k1.c2, .slice k1.o3 1 k1.c3, .slice k1.o4 0 k1.c4, .slice k1.o5 0 k1.c5]) (ex_load rfl M3 (by kernel_rfl) Tryd.underlying30 rfl (by kernel_rfl)) ?_
  refine sx_val (by kernel_rfl) rfl rfl (.agg #[.int .i64 0, .int .i64 0, .slice none 0 0, .slice (some ⟨bV1, 0, none⟩) 1 1]) (ex_load rfl M5 (by kernel_rfl) Tryd.underlying34 rfl (by kernel_rfl)) ?_
  refine sx_call (by kernel_rfl) rfl rfl ((by have h8 := drvBest_n k1 (smpI 4096 0) 0 0 none (some ⟨bV1, 0, none⟩) 0 1 bV1 0 0 0 lV [] (smp_ok ex_f1) W7 (hI1.below HW1) (hT.belowD HB) (hV1.below HW1) (rw_no _); rw [ex_a1, ex_a2] at h8; exact h8)) (by kernel_rfl) ?_
  rintro e W8 ⟨oA, cA, bA, qA, rfl, hSA, -, hb⟩
  have hbA : bA < W8.heap.size := hSA.lt (k := 0) (by decide)
  replace hSA : Rw W8 bA qA 4 (fun k => tmE (shA.T.getD k tm0)) 1 oA := hSA
  replace HB := over HB hb
  replace HW1 := over HW1 hb
  replace M3 := M3.below hb
  replace M5 := M5.below hb
  have z6 := hb.size
  clear hb
  refine ⟨_, rfl, ?_⟩
  refine sx_val (by kernel_rfl) rfl rfl (.tuple #[.agg #[.bool false, .int .i64 0, .slice oA 1 cA, .int .i64 42, .int .i64 10], .int .i64 0]) (by kernel_rfl) ?_
  refine sx_val (by kernel_rfl) rfl rfl (.agg #[.bool false, .int .i64 0, .slice oA 1 cA, .int .i64 42, .int .i64 10]) (by kernel_rfl) ?_
  refine sx_val (by kernel_rfl) rfl rfl (.int .i64 0) (by kernel_rfl) ?_
  obtain ⟨W10, hW⟩ : ∃ W, (W8.alloc (.cells #[.bool false, .int .i64 0, .slice none 0 0, .int .i64 0, .int .i64 0] 39)).setRow W8.heap.size #[.bool false, .int .i64 0, .slice oA 1 cA, .int .i64 42, .int .i64 10] = W := ⟨_, rfl⟩
  have hb := hW ▸ below_var W8 (.cells #[.bool false, .int .i64 0, .slice none 0 0, .int .i64 0, .int .i64 0] 39) #[.bool false, .int .i64 0, .slice oA 1 cA, .int .i64 42, .int .i64 10]
  have hq : Cb W10 W8.heap.size #[.bool false, .int .i64 0, .slice oA 1 cA, .int .i64 42, .int .i64 10] 39 := hW ▸ Cb.row (Cb.made W8 #[.bool false, .int .i64 0, .slice none 0 0, .int .i64 0, .int .i64 0] 39) _
  refine sx_mem (by kernel_rfl) rfl rfl (.pointer (some ⟨W8.heap.size, 0, none⟩)) (W8.alloc (.cells #[.bool false, .int .i64 0, .slice none 0 0, .int .i64 0, .int .i64 0] 39)) (by kernel_rfl) ?_
  refine sx_store (cells := #[.bool false, .int .i64 0, .slice oA 1 cA, .int .i64 42, .int .i64 10]) (by kernel_rfl) rfl rfl (Cb.made W8 #[.bool false, .int .i64 0, .slice none 0 0, .int .i64 0, .int .i64 0] 39) (by kernel_rfl) (by kernel_rfl) (by kernel_rfl) (by kernel_rfl) (by kernel_rfl) ?_
  rw [hW]
  replace HB := over HB hb
  replace HW1 := over HW1 hb
  replace M3 := M3.below hb
  replace M5 := M5.below hb
  replace hSA := hSA.below hb
  have z7 := hb.size
  have M9 := hq
  have yM9 := hq.lt
  clear hq hb hW
  refine sx_val (by kernel_rfl) rfl rfl (.int .i64 0) (by kernel_rfl) ?_
  refine wpList_nil ?_
  refine sx_norm ?_
  refine wp_seq ?_
  refine wp_region_lit ?_
  refine sx_call (by kernel_rfl) rfl rfl (sample_n 15 4 W10) (by kernel_rfl) ?_
  rintro e W11 ⟨k2, bV2, rfl, hI2, hV2, hb⟩
  obtain ⟨U2, hU2⟩ : ∃ W, W11 = W := ⟨_, rfl⟩
  replace hI2 := hU2 ▸ hI2
  replace hV2 := hU2 ▸ hV2
  have HW2 : Below U2.heap.size U2 W11 := by rw [hU2]; exact Below.refl _ _
  have hz2 : U2.heap.size = W11.heap.size := by rw [hU2]
  clear hU2
  replace HB := over HB hb
  replace HW1 := over HW1 hb
  replace M3 := M3.below hb
  replace M5 := M5.below hb
  replace hSA := hSA.below hb
  replace M9 := M9.below hb
  have z8 := hb.size
  clear hb
  refine ⟨_, rfl, ?_⟩
  refine sx_val (by kernel_rfl) rfl rfl (.tuple #[.agg #[.slice k2.o0 2 k2.c0, .slice k2.o1 2 k2.c1, .slice k2.o2 1 k2.c2, .slice k2.o3 1 k2.c3, .slice k2.o4 0 k2.c4, .slice k2.o5 0 k2.c5], .agg #[.int .i64 0, .int .i64 0, .slice none 0 0, .slice (some ⟨bV2, 0, none⟩) 1 1]]) (by kernel_rfl) ?_
  refine sx_val (by kernel_rfl) rfl rfl (.agg #[.slice k2.o0 2 k2.c0, .slice k2.o1 2 k2.c1, .slice k2.o2 1 k2.c2, .slice k2.o3 1 k2.c3, .slice k2.o4 0 k2.c4, .slice k2.o5 0 k2.c5]) (by kernel_rfl) ?_
  refine sx_val (by kernel_rfl) rfl rfl (.agg #[.int .i64 0, .int .i64 0, .slice none 0 0, .slice (some ⟨bV2, 0, none⟩) 1 1]) (by kernel_rfl) ?_
  obtain ⟨W12, hW⟩ : ∃ W, W11.alloc (.cells #[.slice none 0 0, .slice none 0 0, .slice none 0 0, .slice none 0 0, .slice none 0 0, .slice none 0 0] 30) = W := ⟨_, rfl⟩
  have hb := hW ▸ below_alloc W11 (.cells #[.slice none 0 0, .slice none 0 0, .slice none 0 0, .slice none 0 0, .slice none 0 0, .slice none 0 0] 30)
  have hq : Cb W12 W11.heap.size #[.slice none 0 0, .slice none 0 0, .slice none 0 0, .slice none 0 0, .slice none 0 0, .slice none 0 0] 30 := hW ▸ Cb.made W11 #[.slice none 0 0, .slice none 0 0, .slice none 0 0, .slice none 0 0, .slice none 0 0, .slice none 0 0] 30
  refine sx_mem (by kernel_rfl) rfl rfl (.pointer (some ⟨W11.heap.size, 0, none⟩)) W12 (by rw [← hW]; kernel_rfl) ?_
  replace HB := over HB hb
  replace HW1 := over HW1 hb
  replace M3 := M3.below hb
  replace M5 := M5.below hb
  replace hSA := hSA.below hb
  replace M9 := M9.below hb
  replace HW2 := over HW2 hb
  have z9 := hb.size
  have M13 := hq
  have yM13 := hq.lt
  clear hq hb hW
  obtain ⟨W14, hW⟩ : ∃ W, W12.alloc (.cells #[.int .i64 0, .int .i64 0, .slice none 0 0, .slice none 0 0] 34) = W := ⟨_, rfl⟩
  have hb := hW ▸ below_alloc W12 (.cells #[.int .i64 0, .int .i64 0, .slice none 0 0, .slice none 0 0] 34)
  have hq : Cb W14 W12.heap.size #[.int .i64 0, .int .i64 0, .slice none 0 0, .slice none 0 0] 34 := hW ▸ Cb.made W12 #[.int .i64 0, .int .i64 0, .slice none 0 0, .slice none 0 0] 34
  refine sx_mem (by kernel_rfl) rfl rfl (.pointer (some ⟨W12.heap.size, 0, none⟩)) W14 (by rw [← hW]; kernel_rfl) ?_
  replace HB := over HB hb
  replace HW1 := over HW1 hb
  replace M3 := M3.below hb
  replace M5 := M5.below hb
  replace hSA := hSA.below hb
  replace M9 := M9.below hb
  replace HW2 := over HW2 hb
  replace M13 := M13.below hb
  have z10 := hb.size
  have M15 := hq
  have yM15 := hq.lt
  clear hq hb hW
  refine sx_store (cells := #[.slice k2.o0 2 k2.c0, .slice k2.o1 2 k2.c1, .slice k2.o2 1 k2.c2, .slice k2.o3 1 k2.c3, .slice k2.o4 0 k2.c4, .slice k2.o5 0 k2.c5]) (by kernel_rfl) rfl rfl M13 (by kernel_rfl) (by kernel_rfl) (by kernel_rfl) (by kernel_rfl) (by kernel_rfl) ?_
  obtain ⟨W16, hW⟩ : ∃ W, W14.setRow (W11.heap.size) #[.slice k2.o0 2 k2.c0, .slice k2.o1 2 k2.c1, .slice k2.o2 1 k2.c2, .slice k2.o3 1 k2.c3, .slice k2.o4 0 k2.c4, .slice k2.o5 0 k2.c5] = W := ⟨_, rfl⟩
  have hg : W14.grownBy W16 (some (W11.heap.size)) := hW ▸ grown_row _ _ _
  have hq : Cb W16 (W11.heap.size) #[.slice k2.o0 2 k2.c0, .slice k2.o1 2 k2.c1, .slice k2.o2 1 k2.c2, .slice k2.o3 1 k2.c3, .slice k2.o4 0 k2.c4, .slice k2.o5 0 k2.c5] 30 := hW ▸ Cb.row M13 _
  rw [hW]
  replace HB := HB.grown hg (by omega) (fun x e => by simp only [Option.some.injEq] at e; omega)
  replace HW1 := HW1.grown hg (by omega) (fun x e => by simp only [Option.some.injEq] at e; omega)
  replace M3 := M3.kept hg (by omega)
  replace M5 := M5.kept hg (by omega)
  replace hSA := hSA.kept hg (fun i hi => by omega)
  replace M9 := M9.kept hg (by omega)
  replace HW2 := HW2.grown hg (by omega) (fun x e => by simp only [Option.some.injEq] at e; omega)
  replace M15 := M15.kept hg (by omega)
  have z11 := hg.size
  replace M13 := hq
  clear hq hg hW
  refine sx_store (cells := #[.int .i64 0, .int .i64 0, .slice none 0 0, .slice (some ⟨bV2, 0, none⟩) 1 1]) (by kernel_rfl) rfl rfl M15 (by kernel_rfl) (by kernel_rfl) (by kernel_rfl) (by kernel_rfl) (by kernel_rfl) ?_
  obtain ⟨W17, hW⟩ : ∃ W, W16.setRow (W12.heap.size) #[.int .i64 0, .int .i64 0, .slice none 0 0, .slice (some ⟨bV2, 0, none⟩) 1 1] = W := ⟨_, rfl⟩
  have hg : W16.grownBy W17 (some (W12.heap.size)) := hW ▸ grown_row _ _ _
  have hq : Cb W17 (W12.heap.size) #[.int .i64 0, .int .i64 0, .slice none 0 0, .slice (some ⟨bV2, 0, none⟩) 1 1] 34 := hW ▸ Cb.row M15 _
  rw [hW]
  replace HB := HB.grown hg (by omega) (fun x e => by simp only [Option.some.injEq] at e; omega)
  replace HW1 := HW1.grown hg (by omega) (fun x e => by simp only [Option.some.injEq] at e; omega)
  replace M3 := M3.kept hg (by omega)
  replace M5 := M5.kept hg (by omega)
  replace hSA := hSA.kept hg (fun i hi => by omega)
  replace M9 := M9.kept hg (by omega)
  replace HW2 := HW2.grown hg (by omega) (fun x e => by simp only [Option.some.injEq] at e; omega)
  replace M13 := M13.kept hg (by omega)
  have z12 := hg.size
  replace M15 := hq
  clear hq hg hW
  refine wpList_nil ?_
  refine sx_norm ?_
  refine wp_seq ?_
  refine wp_region_lit ?_
  refine sx_val (by kernel_rfl) rfl rfl (.agg #[.slice k2.o0 2 k2.c0, .slice k2.o1 2 k2.c1, .slice k2.o2 1 k2.c2, .slice k2.o3 1 k2.c3, .slice k2.o4 0 k2.c4, .slice k2.o5 0 k2.c5]) (ex_load rfl M13 (by kernel_rfl) Tryd.underlying30 rfl (by kernel_rfl)) ?_
  refine sx_val (by kernel_rfl) rfl rfl (.agg #[.int .i64 0, .int .i64 0, .slice none 0 0, .slice (some ⟨bV1, 0, none⟩) 1 1]) (ex_load rfl M5 (by kernel_rfl) Tryd.underlying34 rfl (by kernel_rfl)) ?_
  refine sx_call (by kernel_rfl) rfl rfl ((by have h8 := drvBest_n k2 (smpI 15 4) 0 0 none (some ⟨bV1, 0, none⟩) 0 1 bV1 0 0 0 lV [] (smp_ok ex_f2) W17 (hI2.below HW2) (hT.belowD HB) (hV1.below HW1) (rw_no _); rw [ex_b1, ex_b2] at h8; exact h8)) (by kernel_rfl) ?_
  rintro e W18 ⟨oB, cB, bB, qB, rfl, hSB, -, hb⟩
  have hbB : bB < W18.heap.size := hSB.lt (k := 0) (by decide)
  replace hSB : Rw W18 bB qB 4 (fun k => tmE (shB.T.getD k tm0)) 1 oB := hSB
  replace HB := over HB hb
  replace HW1 := over HW1 hb
  replace M3 := M3.below hb
  replace M5 := M5.below hb
  replace hSA := hSA.below hb
  replace M9 := M9.below hb
  replace HW2 := over HW2 hb
  replace M13 := M13.below hb
  replace M15 := M15.below hb
  have z13 := hb.size
  clear hb
  refine ⟨_, rfl, ?_⟩
  refine sx_val (by kernel_rfl) rfl rfl (.tuple #[.agg #[.bool false, .int .i64 0, .slice oB 1 cB, .int .i64 46, .int .i64 10], .int .i64 0]) (by kernel_rfl) ?_
  refine sx_val (by kernel_rfl) rfl rfl (.agg #[.bool false, .int .i64 0, .slice oB 1 cB, .int .i64 46, .int .i64 10]) (by kernel_rfl) ?_
  refine sx_val (by kernel_rfl) rfl rfl (.int .i64 0) (by kernel_rfl) ?_
  obtain ⟨W20, hW⟩ : ∃ W, (W18.alloc (.cells #[.bool false, .int .i64 0, .slice none 0 0, .int .i64 0, .int .i64 0] 39)).setRow W18.heap.size #[.bool false, .int .i64 0, .slice oB 1 cB, .int .i64 46, .int .i64 10] = W := ⟨_, rfl⟩
  have hb := hW ▸ below_var W18 (.cells #[.bool false, .int .i64 0, .slice none 0 0, .int .i64 0, .int .i64 0] 39) #[.bool false, .int .i64 0, .slice oB 1 cB, .int .i64 46, .int .i64 10]
  have hq : Cb W20 W18.heap.size #[.bool false, .int .i64 0, .slice oB 1 cB, .int .i64 46, .int .i64 10] 39 := hW ▸ Cb.row (Cb.made W18 #[.bool false, .int .i64 0, .slice none 0 0, .int .i64 0, .int .i64 0] 39) _
  refine sx_mem (by kernel_rfl) rfl rfl (.pointer (some ⟨W18.heap.size, 0, none⟩)) (W18.alloc (.cells #[.bool false, .int .i64 0, .slice none 0 0, .int .i64 0, .int .i64 0] 39)) (by kernel_rfl) ?_
  refine sx_store (cells := #[.bool false, .int .i64 0, .slice oB 1 cB, .int .i64 46, .int .i64 10]) (by kernel_rfl) rfl rfl (Cb.made W18 #[.bool false, .int .i64 0, .slice none 0 0, .int .i64 0, .int .i64 0] 39) (by kernel_rfl) (by kernel_rfl) (by kernel_rfl) (by kernel_rfl) (by kernel_rfl) ?_
  rw [hW]
  replace HB := over HB hb
  replace HW1 := over HW1 hb
  replace M3 := M3.below hb
  replace M5 := M5.below hb
  replace hSA := hSA.below hb
  replace M9 := M9.below hb
  replace HW2 := over HW2 hb
  replace M13 := M13.below hb
  replace M15 := M15.below hb
  replace hSB := hSB.below hb
  have z14 := hb.size
  have M19 := hq
  have yM19 := hq.lt
  clear hq hb hW
  refine sx_val (by kernel_rfl) rfl rfl (.int .i64 0) (by kernel_rfl) ?_
  refine wpList_nil ?_
  refine sx_norm ?_
  refine wp_seq ?_
  refine wp_region_lit ?_
  refine sx_val (by kernel_rfl) rfl rfl (.agg #[.slice k2.o0 2 k2.c0, .slice k2.o1 2 k2.c1, .slice k2.o2 1 k2.c2, .slice k2.o3 1 k2.c3, .slice k2.o4 0 k2.c4, .slice k2.o5 0 k2.c5]) (ex_load rfl M13 (by kernel_rfl) Tryd.underlying30 rfl (by kernel_rfl)) ?_
  refine sx_val (by kernel_rfl) rfl rfl (.agg #[.int .i64 0, .int .i64 0, .slice none 0 0, .slice (some ⟨bV1, 0, none⟩) 1 1]) (ex_load rfl M5 (by kernel_rfl) Tryd.underlying34 rfl (by kernel_rfl)) ?_
  obtain ⟨W21, hW⟩ : ∃ W, W20.alloc (.cells #[.bool true, .bool false] 4) = W := ⟨_, rfl⟩
  have hb := hW ▸ below_alloc W20 (.cells #[.bool true, .bool false] 4)
  have hq : Cb W21 W20.heap.size #[.bool true, .bool false] 4 := hW ▸ Cb.made W20 #[.bool true, .bool false] 4
  refine sx_mem (by kernel_rfl) rfl rfl (.slice (some ⟨W20.heap.size, 0, none⟩) 2 2) W21 (by rw [← hW]; kernel_rfl) ?_
  replace HB := over HB hb
  replace HW1 := over HW1 hb
  replace M3 := M3.below hb
  replace M5 := M5.below hb
  replace hSA := hSA.below hb
  replace M9 := M9.below hb
  replace HW2 := over HW2 hb
  replace M13 := M13.below hb
  replace M15 := M15.below hb
  replace hSB := hSB.below hb
  replace M19 := M19.below hb
  have z15 := hb.size
  have M22 := hq
  have yM22 := hq.lt
  clear hq hb hW
  refine sx_call (by kernel_rfl) rfl rfl ((by have h8 := drvRun_n k2 (smpI 15 4) 0 0 none (some ⟨bV1, 0, none⟩) 0 0 1 bV1 0 lV (smp_ok ex_f2) [true, false] (some ⟨W20.heap.size, 0, none⟩) 2 _ 0 W21 (hI2.below HW2) (hT.belowD HB) (hV1.below HW1) (rw_tf M22); rw [ex_r1, ex_r2] at h8; exact h8)) (by kernel_rfl) ?_
  rintro e W23 ⟨oR, cR, bR, qR, rfl, -, -, hb⟩
  replace HB := over HB hb
  replace HW1 := over HW1 hb
  replace M3 := M3.below hb
  replace M5 := M5.below hb
  replace hSA := hSA.below hb
  replace M9 := M9.below hb
  replace HW2 := over HW2 hb
  replace M13 := M13.below hb
  replace M15 := M15.below hb
  replace hSB := hSB.below hb
  replace M19 := M19.below hb
  replace M22 := M22.below hb
  have z16 := hb.size
  clear hb
  refine ⟨_, rfl, ?_⟩
  refine sx_val (by kernel_rfl) rfl rfl (.tuple #[.agg #[.bool false, .int .i64 0, .slice oR 0 cR, .int .i64 0, .int .i64 0], .int .i64 16]) (by kernel_rfl) ?_
  refine sx_val (by kernel_rfl) rfl rfl (.agg #[.bool false, .int .i64 0, .slice oR 0 cR, .int .i64 0, .int .i64 0]) (by kernel_rfl) ?_
  refine sx_val (by kernel_rfl) rfl rfl (.int .i64 16) (by kernel_rfl) ?_
  obtain ⟨W25, hW⟩ : ∃ W, (W23.alloc (.cells #[.bool false, .int .i64 0, .slice none 0 0, .int .i64 0, .int .i64 0] 39)).setRow W23.heap.size #[.bool false, .int .i64 0, .slice oR 0 cR, .int .i64 0, .int .i64 0] = W := ⟨_, rfl⟩
  have hb := hW ▸ below_var W23 (.cells #[.bool false, .int .i64 0, .slice none 0 0, .int .i64 0, .int .i64 0] 39) #[.bool false, .int .i64 0, .slice oR 0 cR, .int .i64 0, .int .i64 0]
  have hq : Cb W25 W23.heap.size #[.bool false, .int .i64 0, .slice oR 0 cR, .int .i64 0, .int .i64 0] 39 := hW ▸ Cb.row (Cb.made W23 #[.bool false, .int .i64 0, .slice none 0 0, .int .i64 0, .int .i64 0] 39) _
  refine sx_mem (by kernel_rfl) rfl rfl (.pointer (some ⟨W23.heap.size, 0, none⟩)) (W23.alloc (.cells #[.bool false, .int .i64 0, .slice none 0 0, .int .i64 0, .int .i64 0] 39)) (by kernel_rfl) ?_
  refine sx_store (cells := #[.bool false, .int .i64 0, .slice oR 0 cR, .int .i64 0, .int .i64 0]) (by kernel_rfl) rfl rfl (Cb.made W23 #[.bool false, .int .i64 0, .slice none 0 0, .int .i64 0, .int .i64 0] 39) (by kernel_rfl) (by kernel_rfl) (by kernel_rfl) (by kernel_rfl) (by kernel_rfl) ?_
  rw [hW]
  replace HB := over HB hb
  replace HW1 := over HW1 hb
  replace M3 := M3.below hb
  replace M5 := M5.below hb
  replace hSA := hSA.below hb
  replace M9 := M9.below hb
  replace HW2 := over HW2 hb
  replace M13 := M13.below hb
  replace M15 := M15.below hb
  replace hSB := hSB.below hb
  replace M19 := M19.below hb
  replace M22 := M22.below hb
  have z17 := hb.size
  have M24 := hq
  have yM24 := hq.lt
  clear hq hb hW
  refine sx_val (by kernel_rfl) rfl rfl (.int .i64 16) (by kernel_rfl) ?_
  refine wpList_nil ?_
  refine sx_norm ?_
  refine wp_seq ?_
  refine wp_region_lit ?_
  refine sx_val (by kernel_rfl) rfl rfl (.agg #[.slice k2.o0 2 k2.c0, .slice k2.o1 2 k2.c1, .slice k2.o2 1 k2.c2, .slice k2.o3 1 k2.c3, .slice k2.o4 0 k2.c4, .slice k2.o5 0 k2.c5]) (ex_load rfl M13 (by kernel_rfl) Tryd.underlying30 rfl (by kernel_rfl)) ?_
  refine sx_val (by kernel_rfl) rfl rfl (.agg #[.int .i64 0, .int .i64 0, .slice none 0 0, .slice (some ⟨bV1, 0, none⟩) 1 1]) (ex_load rfl M5 (by kernel_rfl) Tryd.underlying34 rfl (by kernel_rfl)) ?_
  refine sx_val (by kernel_rfl) rfl rfl (.agg #[.bool false, .int .i64 0, .slice oB 1 cB, .int .i64 46, .int .i64 10]) (ex_load rfl M19 (by kernel_rfl) Tryd.underlying39 rfl (by kernel_rfl)) ?_
  refine sx_call (by kernel_rfl) rfl rfl ((by have h8 := drvSince_n k2 (smpI 15 4) 0 0 none (some ⟨bV1, 0, none⟩) oB 0 1 cB bV1 0 0 0 bB qB lV [] shB (by decide) (smp_ok ex_f2) W25 (hI2.below HW2) (hT.belowD HB) (hV1.below HW1) (rw_no _) hSB; rw [ex_c1, ex_c2] at h8; exact h8)) (by kernel_rfl) ?_
  rintro e W26 ⟨oL, cL, bL, qL, rfl, hSL, hb⟩
  replace hSL : Rw W26 bL qL 1 (fun k => inE ([10, 10].getD k 0)) 2 oL := hSL
  replace HB := over HB hb
  replace HW1 := over HW1 hb
  replace M3 := M3.below hb
  replace M5 := M5.below hb
  replace hSA := hSA.below hb
  replace M9 := M9.below hb
  replace HW2 := over HW2 hb
  replace M13 := M13.below hb
  replace M15 := M15.below hb
  replace hSB := hSB.below hb
  replace M19 := M19.below hb
  replace M22 := M22.below hb
  replace M24 := M24.below hb
  have z18 := hb.size
  clear hb
  refine ⟨_, rfl, ?_⟩
  refine sx_val (by kernel_rfl) rfl rfl (.tuple #[.slice oL 2 cL, .int .i64 0]) (by kernel_rfl) ?_
  refine sx_val (by kernel_rfl) rfl rfl (.slice oL 2 cL) (by kernel_rfl) ?_
  refine sx_val (by kernel_rfl) rfl rfl (.int .i64 0) (by kernel_rfl) ?_
  refine sx_val (by kernel_rfl) rfl rfl (.slice oL 2 cL) (by kernel_rfl) ?_
  refine sx_val (by kernel_rfl) rfl rfl (.int .i64 0) (by kernel_rfl) ?_
  refine wpList_nil ?_
  refine sx_norm ?_
  refine wp_seq ?_
  refine wp_seq ?_
  refine wp_region_lit ?_
  refine sx_val (by kernel_rfl) rfl rfl (.int .i64 0) (by kernel_rfl) ?_
  refine sx_val (by kernel_rfl) rfl rfl (.bool false) (by kernel_rfl) ?_
  refine sx_val (by kernel_rfl) rfl rfl (.bool false) (by kernel_rfl) ?_
  refine sx_val (by kernel_rfl) rfl rfl (.int .i64 0) (by kernel_rfl) ?_
  refine sx_val (by kernel_rfl) rfl rfl (.bool false) (by kernel_rfl) ?_
  refine sx_val (by kernel_rfl) rfl rfl (.bool false) (by kernel_rfl) ?_
  refine sx_val (by kernel_rfl) rfl rfl (.bool false) (by kernel_rfl) ?_
  refine sx_val (by kernel_rfl) rfl rfl (.int .i64 16) (by kernel_rfl) ?_
  refine sx_val (by kernel_rfl) rfl rfl (.bool false) (by kernel_rfl) ?_
  refine sx_val (by kernel_rfl) rfl rfl (.bool false) (by kernel_rfl) ?_
  refine sx_val (by kernel_rfl) rfl rfl (.bool false) (by kernel_rfl) ?_
  refine sx_val (by kernel_rfl) rfl rfl (.int .i64 0) (by kernel_rfl) ?_
  refine sx_val (by kernel_rfl) rfl rfl (.bool false) (by kernel_rfl) ?_
  refine sx_val (by kernel_rfl) rfl rfl (.bool false) (by kernel_rfl) ?_
  refine sx_val (by kernel_rfl) rfl rfl (.bool false) (by kernel_rfl) ?_
  refine sx_val (by kernel_rfl) rfl rfl (.pointer (some ⟨W8.heap.size, 2, none⟩)) (by kernel_rfl) ?_
  refine sx_val (by kernel_rfl) rfl rfl (.slice oA 1 cA) (ex_load1 rfl (M9.cell 2 rfl) (by kernel_rfl) Tryd.underlying37 rfl) ?_
  refine sx_val (by kernel_rfl) rfl rfl (.int .i64 1) (by kernel_rfl) ?_
  refine sx_val (by kernel_rfl) rfl rfl (.bool false) (by kernel_rfl) ?_
  refine sx_val (by kernel_rfl) rfl rfl (.bool false) (by kernel_rfl) ?_
  refine sx_val (by kernel_rfl) rfl rfl (.bool false) (by kernel_rfl) ?_
  refine sx_val (by kernel_rfl) rfl rfl (.pointer (some ⟨W18.heap.size, 2, none⟩)) (by kernel_rfl) ?_
  refine sx_val (by kernel_rfl) rfl rfl (.slice oB 1 cB) (ex_load1 rfl (M19.cell 2 rfl) (by kernel_rfl) Tryd.underlying37 rfl) ?_
  refine sx_val (by kernel_rfl) rfl rfl (.int .i64 1) (by kernel_rfl) ?_
  refine sx_val (by kernel_rfl) rfl rfl (.bool false) (by kernel_rfl) ?_
  refine sx_val (by kernel_rfl) rfl rfl (.bool false) (by kernel_rfl) ?_
  refine sx_val (by kernel_rfl) rfl rfl (.bool false) (by kernel_rfl) ?_
  refine sx_val (by kernel_rfl) rfl rfl (.slice oL 2 cL) (by kernel_rfl) ?_
  refine sx_val (by kernel_rfl) rfl rfl (.int .i64 2) (by kernel_rfl) ?_
  refine sx_val (by kernel_rfl) rfl rfl (.bool false) (by kernel_rfl) ?_
  refine sx_val (by kernel_rfl) rfl rfl (.bool false) (by kernel_rfl) ?_
  refine wpList_nil ?_
  refine sx_norm ?_
  refine sx_false (by kernel_rfl) ?_
  refine wp_skip ?_
  refine sx_norm ?_
  refine wp_seq ?_
  refine wp_region_lit ?_
  refine sx_val (by kernel_rfl) rfl rfl (.pointer (some ⟨W8.heap.size, 2, none⟩)) (by kernel_rfl) ?_
  refine sx_val (by kernel_rfl) rfl rfl (.slice oA 1 cA) (ex_load1 rfl (M9.cell 2 rfl) (by kernel_rfl) Tryd.underlying37 rfl) ?_
  refine sx_val (by kernel_rfl) rfl rfl (.pointer (some ⟨bA, qA + 0 * 4, none⟩)) (ex_indexO (q := qA) (m := 1) (c := cA) (k := 0) (s := 4) rfl (by kernel_rfl) (hSA.oa (k := 0) (by omega)) (by kernel_rfl) Tryd.underlying37 (by kernel_rfl) (by omega) (by omega)) ?_
  refine sx_val (by kernel_rfl) rfl rfl (.agg #[.int .i64 10, .int .i64 30, .int .i64 32, .bool false]) (ex_loadR rfl (hSA.range (k := 0) (by omega)) (by kernel_rfl) Tryd.underlying53 rfl (by kernel_rfl)) ?_
  refine sx_val (by kernel_rfl) rfl rfl (.agg #[.int .i64 10, .int .i64 30, .int .i64 32, .bool false]) (by kernel_rfl) ?_
  refine sx_val (by kernel_rfl) rfl rfl (.bool true) (ex_bool ((10 : Int) == 10 && (30 : Int) == 30 && (32 : Int) == 32 && (false : Bool) == false) true (ex_eqlT rfl (by kernel_rfl) (by kernel_rfl)) (by decide)) ?_
  refine sx_val (by kernel_rfl) rfl rfl (.bool true) (by kernel_rfl) ?_
  refine sx_val (by kernel_rfl) rfl rfl (.pointer (some ⟨W8.heap.size, 3, none⟩)) (by kernel_rfl) ?_
  refine sx_val (by kernel_rfl) rfl rfl (.int .i64 42) (ex_load1 rfl (M9.cell 3 rfl) (by kernel_rfl) Tryd.underlying3 rfl) ?_
  refine sx_val (by kernel_rfl) rfl rfl (.bool true) (by kernel_rfl) ?_
  refine sx_val (by kernel_rfl) rfl rfl (.bool true) (by kernel_rfl) ?_
  refine sx_val (by kernel_rfl) rfl rfl (.bool true) (by kernel_rfl) ?_
  refine sx_val (by kernel_rfl) rfl rfl (.pointer (some ⟨W8.heap.size, 4, none⟩)) (by kernel_rfl) ?_
  refine sx_val (by kernel_rfl) rfl rfl (.int .i64 10) (ex_load1 rfl (M9.cell 4 rfl) (by kernel_rfl) Tryd.underlying3 rfl) ?_
  refine sx_val (by kernel_rfl) rfl rfl (.bool true) (by kernel_rfl) ?_
  refine sx_val (by kernel_rfl) rfl rfl (.bool true) (by kernel_rfl) ?_
  refine sx_val (by kernel_rfl) rfl rfl (.bool true) (by kernel_rfl) ?_
  refine sx_val (by kernel_rfl) rfl rfl (.pointer (some ⟨W18.heap.size, 2, none⟩)) (by kernel_rfl) ?_
  refine sx_val (by kernel_rfl) rfl rfl (.slice oB 1 cB) (ex_load1 rfl (M19.cell 2 rfl) (by kernel_rfl) Tryd.underlying37 rfl) ?_
  refine sx_val (by kernel_rfl) rfl rfl (.pointer (some ⟨bB, qB + 0 * 4, none⟩)) (ex_indexO (q := qB) (m := 1) (c := cB) (k := 0) (s := 4) rfl (by kernel_rfl) (hSB.oa (k := 0) (by omega)) (by kernel_rfl) Tryd.underlying37 (by kernel_rfl) (by omega) (by omega)) ?_
  refine sx_val (by kernel_rfl) rfl rfl (.agg #[.int .i64 10, .int .i64 30, .int .i64 36, .bool true]) (ex_loadR rfl (hSB.range (k := 0) (by omega)) (by kernel_rfl) Tryd.underlying53 rfl (by kernel_rfl)) ?_
  refine sx_val (by kernel_rfl) rfl rfl (.agg #[.int .i64 10, .int .i64 30, .int .i64 36, .bool true]) (by kernel_rfl) ?_
  refine sx_val (by kernel_rfl) rfl rfl (.bool true) (ex_bool ((10 : Int) == 10 && (30 : Int) == 30 && (36 : Int) == 36 && (true : Bool) == true) true (ex_eqlT rfl (by kernel_rfl) (by kernel_rfl)) (by decide)) ?_
  refine sx_val (by kernel_rfl) rfl rfl (.bool true) (by kernel_rfl) ?_
  refine sx_val (by kernel_rfl) rfl rfl (.bool true) (by kernel_rfl) ?_
  refine sx_val (by kernel_rfl) rfl rfl (.pointer (some ⟨W18.heap.size, 3, none⟩)) (by kernel_rfl) ?_
  refine sx_val (by kernel_rfl) rfl rfl (.int .i64 46) (ex_load1 rfl (M19.cell 3 rfl) (by kernel_rfl) Tryd.underlying3 rfl) ?_
  refine sx_val (by kernel_rfl) rfl rfl (.bool true) (by kernel_rfl) ?_
  refine sx_val (by kernel_rfl) rfl rfl (.bool true) (by kernel_rfl) ?_
  refine sx_val (by kernel_rfl) rfl rfl (.bool true) (by kernel_rfl) ?_
  refine sx_val (by kernel_rfl) rfl rfl (.slice oL 2 cL) (by kernel_rfl) ?_
  refine sx_val (by kernel_rfl) rfl rfl (.pointer (some ⟨bL, qL + 0 * 1, none⟩)) (ex_indexO (q := qL) (m := 2) (c := cL) (k := 0) (s := 1) rfl (by kernel_rfl) (hSL.oa (k := 0) (by omega)) (by kernel_rfl) Tryd.underlying47 (by kernel_rfl) (by omega) (by omega)) ?_
  refine sx_val (by kernel_rfl) rfl rfl (.int .i64 10) (ex_load1 rfl (hSL.cell (k := 0) (by omega) 0 rfl) (by kernel_rfl) Tryd.underlying3 rfl) ?_
  refine sx_val (by kernel_rfl) rfl rfl (.bool true) (by kernel_rfl) ?_
  refine sx_val (by kernel_rfl) rfl rfl (.bool true) (by kernel_rfl) ?_
  refine sx_val (by kernel_rfl) rfl rfl (.bool true) (by kernel_rfl) ?_
  refine sx_val (by kernel_rfl) rfl rfl (.slice oL 2 cL) (by kernel_rfl) ?_
  refine sx_val (by kernel_rfl) rfl rfl (.pointer (some ⟨bL, qL + 1 * 1, none⟩)) (ex_indexO (q := qL) (m := 2) (c := cL) (k := 1) (s := 1) rfl (by kernel_rfl) (hSL.oa (k := 1) (by omega)) (by kernel_rfl) Tryd.underlying47 (by kernel_rfl) (by omega) (by omega)) ?_
  refine sx_val (by kernel_rfl) rfl rfl (.int .i64 10) (ex_load1 rfl (hSL.cell (k := 1) (by omega) 0 rfl) (by kernel_rfl) Tryd.underlying3 rfl) ?_
  refine sx_val (by kernel_rfl) rfl rfl (.bool true) (by kernel_rfl) ?_
  refine sx_val (by kernel_rfl) rfl rfl (.bool true) (by kernel_rfl) ?_
  refine sx_val (by kernel_rfl) rfl rfl (.bool true) (by kernel_rfl) ?_
  refine wpList_nil ?_
  refine sx_norm ?_
  refine wp_ret ?_
  exact sx_ret1 (.bool true) rfl rfl (by kernel_rfl) ⟨rfl, HB⟩

end Go.Proofs.YtnapmildbodigaaDoor.T


