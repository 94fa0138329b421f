/-
  DERIVED. Si: a part of the base of layer 13 (made by pack.py).
-/
import Derived.Test.YtoliacfpjhanlaaHM
import Derived.Test.YtoliacfpjhanlaaHS
import Derived.Test.YtoliacfpjhanlaaGC
/-! The walk of waysOf (by gen_si.py). -/
namespace Go.Proofs.Ytoliacfpjhanlaa.T
open Go.RowKit
set_option maxRecDepth 8000
attribute [local irreducible] wpList Code.wp wpAnyH

theorem vis_len (ol : List OrT) (k : Nat) : (visL ol ((k : Nat) : Int)).length ≤ 2 := by
  unfold visL visO
  split
  · rw [List.length_append]
    split <;> split <;> simp
  · simp
theorem num_ok {ol : List OrT} {j i : Nat} (h : i < (visL ol ((j : Nat) : Int)).length) (hj : j ≤ 62) : num62 ((visL ol ((j : Nat) : Int)).getD i (0, false)).1 = true := by
  rw [vis_num ol j _ (getD_mem h)]
  unfold num62
  rw [decide_eq_true (by omega), decide_eq_true (by omega)]
  rfl
theorem waysOf_n (o0 o1 o2 o3 o4 o5 : Option Addr) (n0 n1 n2 n4 c0 c1 c2 c3 c4 c5 : Nat) (ol : List OrT) (be : List (Int × Int)) (hn : ol.length ≤ 10) (hr : U.Rt ol.length be) (hl : be.length ≤ 1000000) (w : World) (hos : Os w (.slice o3 ol.length c3) ol) (hps : Ps w (.slice o5 be.length c5) be) (z : Int) : Calls Try.prog 37 #[.agg #[.slice o0 n0 c0, .slice o1 n1 c1, .slice o2 n2 c2, .slice o3 ol.length c3, .slice o4 n4 c4, .slice o5 be.length c5], .int .i64 z] w fun e w' => ∃ oa c b o, e = .returned (.agg #[.int .i64 ((waysF z ol be).W : Nat), .int .i64 ((waysF z ol be).P : Nat), .int .i64 ((waysF z ol be).D : Nat), .slice oa (waysF z ol be).A.length c]) ∧ Rw w' b o 1 (nF (waysF z ol be).A) (waysF z ol be).A.length oa ∧ Below w.heap.size w w' := by
  have HB : Below w.heap.size w w := Below.refl _ _
  obtain ⟨b3, q3, vc, hr16⟩ := hos.rw
  obtain ⟨b5, q5, hpr⟩ := Ps.rw hr hps
  refine sx_enter Try.func37 rfl [(0, .agg #[.slice o0 n0 c0, .slice o1 n1 c1, .slice o2 n2 c2, .slice o3 ol.length c3, .slice o4 n4 c4, .slice o5 be.length c5]), (1, .int .i64 z)] (by kernel_rfl) ?_
  refine wp_seq ?_
  refine wp_region_lit ?_
  obtain ⟨W1, hW⟩ : ∃ W, w.alloc (.cells #[.slice o0 n0 c0, .slice o1 n1 c1, .slice o2 n2 c2, .slice o3 ol.length c3, .slice o4 n4 c4, .slice o5 be.length c5] 30) = W := ⟨_, rfl⟩
  have hb := hW ▸ below_alloc w (.cells #[.slice o0 n0 c0, .slice o1 n1 c1, .slice o2 n2 c2, .slice o3 ol.length c3, .slice o4 n4 c4, .slice o5 be.length c5] 30)
  have hq : Cb W1 w.heap.size #[.slice o0 n0 c0, .slice o1 n1 c1, .slice o2 n2 c2, .slice o3 ol.length c3, .slice o4 n4 c4, .slice o5 be.length c5] 30 := hW ▸ Cb.made w #[.slice o0 n0 c0, .slice o1 n1 c1, .slice o2 n2 c2, .slice o3 ol.length c3, .slice o4 n4 c4, .slice o5 be.length c5] 30
  refine sx_mem (by kernel_rfl) rfl rfl (.pointer (some ⟨w.heap.size, 0, none⟩)) W1 (by rw [← hW]; kernel_rfl) ?_
  replace HB := over HB hb
  have z1 := hb.size
  have M2 := hq
  have yM2 := hq.lt
  clear hq hb hW
  obtain ⟨W3, hW⟩ : ∃ W, W1.alloc (.cells #[.int .i64 0, .int .i64 0, .int .i64 0, .slice none 0 0] 74) = W := ⟨_, rfl⟩
  have hb := hW ▸ below_alloc W1 (.cells #[.int .i64 0, .int .i64 0, .int .i64 0, .slice none 0 0] 74)
  have hq : Cb W3 W1.heap.size #[.int .i64 0, .int .i64 0, .int .i64 0, .slice none 0 0] 74 := hW ▸ Cb.made W1 #[.int .i64 0, .int .i64 0, .int .i64 0, .slice none 0 0] 74
  refine sx_mem (by kernel_rfl) rfl rfl (.pointer (some ⟨W1.heap.size, 0, none⟩)) W3 (by rw [← hW]; kernel_rfl) ?_
  replace HB := over HB hb
  replace M2 := M2.below hb
  have z2 := hb.size
  have M4 := hq
  have yM4 := hq.lt
  clear hq hb hW
  refine wpList_nil ?_
  refine sx_norm ?_
  refine wp_seq ?_
  refine wp_region_lit ?_
  refine sx_val (by kernel_rfl) rfl rfl (.pointer (some ⟨w.heap.size, 3, none⟩)) (by kernel_rfl) ?_
  refine sx_val (by kernel_rfl) rfl rfl (.slice o3 ol.length c3) (ex_load1 rfl (M2.cell 3 rfl) (by kernel_rfl) Try.underlying27 rfl) ?_
  refine sx_val (by kernel_rfl) rfl rfl (.int .i64 ((ol.length : Nat) : Int)) (by kernel_rfl) ?_
  refine sx_int (by kernel_rfl) rfl rfl .i64 ((if (63 : Int) < ((ol.length : Nat) : Int) then (63 : Int) else ((ol.length : Nat) : Int))) (((ol.length : Nat) : Int)) (by kernel_rfl) (if_neg (by omega)) ?_
  obtain ⟨W5, hW⟩ : ∃ W, W3.alloc (.cells (madeCells #[.int .i64 0] ol.length) 3) = W := ⟨_, rfl⟩
  have hb := hW ▸ below_alloc W3 (.cells (madeCells #[.int .i64 0] ol.length) 3)
  have hq : Cb W5 W3.heap.size (nC (List.replicate ol.length 0)) 3 := by rw [← nC_made, ← hW]; exact Cb.made _ _ _
  refine sx_mem (by kernel_rfl) rfl rfl (.slice (some ⟨W3.heap.size, 0, none⟩) ol.length ol.length) W5 (by rw [← hW]; exact ex_make (z := .int .i64 0) (bytes := 8) rfl (by kernel_rfl) (by kernel_rfl) Try.underlying64 (by kernel_rfl) rfl (by omega) (by omega)) ?_
  replace HB := over HB hb
  replace M2 := M2.below hb
  replace M4 := M4.below hb
  have z3 := hb.size
  have NA := hq
  have yNA := hq.lt
  clear hq hb hW
  refine sx_val (by kernel_rfl) rfl rfl (.agg #[.int .i64 0, .int .i64 0, .int .i64 0, .slice (some ⟨W3.heap.size, 0, none⟩) ol.length ol.length]) (by kernel_rfl) ?_
  obtain ⟨W7, hW⟩ : ∃ W, (W5.alloc (.cells #[.int .i64 0, .int .i64 0, .int .i64 0, .slice none 0 0] 74)).setRow W5.heap.size #[.int .i64 0, .int .i64 0, .int .i64 0, .slice (some ⟨W3.heap.size, 0, none⟩) ol.length ol.length] = W := ⟨_, rfl⟩
  have hb := hW ▸ below_var W5 (.cells #[.int .i64 0, .int .i64 0, .int .i64 0, .slice none 0 0] 74) #[.int .i64 0, .int .i64 0, .int .i64 0, .slice (some ⟨W3.heap.size, 0, none⟩) ol.length ol.length]
  have hq : Cb W7 W5.heap.size #[.int .i64 0, .int .i64 0, .int .i64 0, .slice (some ⟨W3.heap.size, 0, none⟩) ol.length ol.length] 74 := hW ▸ Cb.row (Cb.made W5 #[.int .i64 0, .int .i64 0, .int .i64 0, .slice none 0 0] 74) _
  refine sx_mem (by kernel_rfl) rfl rfl (.pointer (some ⟨W5.heap.size, 0, none⟩)) (W5.alloc (.cells #[.int .i64 0, .int .i64 0, .int .i64 0, .slice none 0 0] 74)) (by kernel_rfl) ?_
  refine sx_store (cells := #[.int .i64 0, .int .i64 0, .int .i64 0, .slice (some ⟨W3.heap.size, 0, none⟩) ol.length ol.length]) (by kernel_rfl) rfl rfl (Cb.made W5 #[.int .i64 0, .int .i64 0, .int .i64 0, .slice none 0 0] 74) (by kernel_rfl) (by kernel_rfl) (by kernel_rfl) (by kernel_rfl) (by kernel_rfl) ?_
  rw [hW]
  replace HB := over HB hb
  replace M2 := M2.below hb
  replace M4 := M4.below hb
  replace NA := NA.below hb
  have z4 := hb.size
  have M6 := hq
  have yM6 := hq.lt
  clear hq hb hW
  refine wpList_nil ?_
  refine sx_norm ?_
  refine wp_seq ?_
  refine wp_seq ?_
  refine wp_region_lit ?_
  refine sx_val (by kernel_rfl) rfl rfl (.pointer (some ⟨W5.heap.size, 3, none⟩)) (by kernel_rfl) ?_
  refine sx_val (by kernel_rfl) rfl rfl (.slice (some ⟨W3.heap.size, 0, none⟩) ol.length ol.length) (ex_load1 rfl (M6.cell 3 rfl) (by kernel_rfl) Try.underlying64 rfl) ?_
  refine sx_val (by kernel_rfl) rfl rfl (.int .i64 ((ol.length : Nat) : Int)) (by kernel_rfl) ?_
  refine sx_val (by kernel_rfl) rfl rfl (.int .i64 0) (by kernel_rfl) ?_
  refine wpList_nil ?_
  refine sx_norm ?_
  refine wp_block ?_
  refine sx_loop (fun j : Nat => [(0, .agg #[.slice o0 n0 c0, .slice o1 n1 c1, .slice o2 n2 c2, .slice o3 ol.length c3, .slice o4 n4 c4, .slice o5 be.length c5]), (1, .int .i64 z), (2, .pointer (some ⟨w.heap.size, 0, none⟩)), (4, .pointer (some ⟨W1.heap.size, 0, none⟩)), (5, .pointer (some ⟨W5.heap.size, 0, none⟩)), (11, .pointer (some ⟨w.heap.size, 3, none⟩)), (12, .slice o3 ol.length c3), (13, .int .i64 ((ol.length : Nat) : Int)), (14, .int .i64 ((ol.length : Nat) : Int)), (15, .slice (some ⟨W3.heap.size, 0, none⟩) ol.length ol.length), (16, .agg #[.int .i64 0, .int .i64 0, .int .i64 0, .slice (some ⟨W3.heap.size, 0, none⟩) ol.length ol.length]), (17, .pointer (some ⟨W5.heap.size, 3, none⟩)), (18, .slice (some ⟨W3.heap.size, 0, none⟩) ol.length ol.length), (19, .int .i64 ((ol.length : Nat) : Int)), (20, .int .i64 ((j : Nat) : Int))]) (fun gg j wr => j ≤ ol.length ∧ ol.length - j ≤ gg ∧ Cb wr (W5.heap.size) #[.int .i64 ((wWK z ol j : Nat) : Int), .int .i64 (((wPK ol j).1 : Nat) : Int), .int .i64 (((wPK ol j).2 : Nat) : Int), .slice (some ⟨W3.heap.size, 0, none⟩) ol.length ol.length] 74 ∧ Cb wr W3.heap.size (nC (List.replicate ol.length 0)) 3 ∧ Below W3.heap.size W7 wr) (ol.length) (0) (by kernel_rfl) ⟨Nat.zero_le _, Nat.le_refl _, M6, NA, Below.refl _ _⟩ ?_
  rintro gg j g' wr8 ⟨hj, hg, M6, NA, hbl⟩
  replace HB := HB.trans (hbl.mono (by omega))
  replace M2 := M2.belowB (by omega) hbl
  replace M4 := M4.belowB (by omega) hbl
  have z5 := hbl.size
  have HL := hbl
  clear hbl
  refine wp_seq ?_
  refine wp_region_lit ?_
  by_cases C1 : j < ol.length
  · refine sx_bool (by kernel_rfl) rfl rfl (decide (((j : Nat) : Int) < ((ol.length : Nat) : Int))) true (by kernel_rfl) (decide_eq_true (by omega)) ?_
    refine wpList_nil ?_
    refine sx_norm ?_
    refine wp_seq ?_
    refine sx_true (by kernel_rfl) ?_
    refine wp_skip ?_
    refine sx_norm ?_
    refine wp_seq ?_
    refine wp_block ?_
    refine wp_seq ?_
    refine wp_region_lit ?_
    refine sx_val (by kernel_rfl) rfl rfl (.int .i64 ((j : Nat) : Int)) (by kernel_rfl) ?_
    refine sx_val (by kernel_rfl) rfl rfl (.int .i64 ((j : Nat) : Int)) (by kernel_rfl) ?_
    refine wpList_nil ?_
    refine sx_norm ?_
    refine wp_seq ?_
    refine wp_seq ?_
    refine wp_region_lit ?_
    refine sx_val (by kernel_rfl) rfl rfl (.int .i64 z) (by kernel_rfl) ?_
    refine sx_val (by kernel_rfl) rfl rfl (.int .i64 ((j : Nat) : Int)) (by kernel_rfl) ?_
    by_cases C2 : hasZ z j = true
    · refine sx_call (by kernel_rfl) rfl rfl ((by have h8 := seqHas_n z j (by omega) wr8; rw [show hasZ z j = true by simpa using C2] at h8; exact h8)) (by kernel_rfl) ?_
      rintro e w9 ⟨rfl, rfl⟩
      refine ⟨_, rfl, ?_⟩
      refine sx_val (by kernel_rfl) rfl rfl (.bool true) (by kernel_rfl) ?_
      refine sx_val (by kernel_rfl) rfl rfl (.pointer (some ⟨w.heap.size, 3, none⟩)) (by kernel_rfl) ?_
      refine sx_val (by kernel_rfl) rfl rfl (.slice o3 ol.length c3) (ex_load1 rfl (M2.cell 3 rfl) (by kernel_rfl) Try.underlying27 rfl) ?_
      refine sx_val (by kernel_rfl) rfl rfl (.int .i64 ((j : Nat) : Int)) (by kernel_rfl) ?_
      refine sx_val (by kernel_rfl) rfl rfl (.pointer (some ⟨b3, q3 + j * 16, none⟩)) (ex_indexO (q := q3) (m := ol.length) (c := c3) (k := j) (s := 16) rfl (by kernel_rfl) ((hr16.below HB).oa (k := j) (by omega)) (by kernel_rfl) Try.underlying27 (by kernel_rfl) (by omega) (by omega)) ?_
      refine sx_val (by kernel_rfl) rfl rfl (.pointer (some ⟨b3, q3 + j * 16 + 15, none⟩)) (by kernel_rfl) ?_
      by_cases C3 : (ol.getD j or0).off = true
      · refine sx_val (by kernel_rfl) rfl rfl (.bool true) (ex_load1 (v := .bool true) rfl (by have h8 := (hr16.below HB).cell (k := j) (by omega) 15 rfl; rw [show (ol.getD j or0).off = true by simpa using C3] at h8; exact h8) (by kernel_rfl) Try.underlying4 rfl) ?_
        refine sx_val (by kernel_rfl) rfl rfl (.bool false) (by kernel_rfl) ?_
        refine sx_val (by kernel_rfl) rfl rfl (.bool false) (by kernel_rfl) ?_
        refine wpList_nil ?_
        refine sx_norm ?_
        refine sx_false (by kernel_rfl) ?_
        refine wp_skip ?_
        refine sx_norm ?_
        refine wp_seq ?_
        refine wp_region_lit ?_
        refine sx_val (by kernel_rfl) rfl rfl (.pointer (some ⟨w.heap.size, 3, none⟩)) (by kernel_rfl) ?_
        refine sx_val (by kernel_rfl) rfl rfl (.slice o3 ol.length c3) (ex_load1 rfl (M2.cell 3 rfl) (by kernel_rfl) Try.underlying27 rfl) ?_
        refine sx_val (by kernel_rfl) rfl rfl (.int .i64 ((j : Nat) : Int)) (by kernel_rfl) ?_
        refine sx_call (by kernel_rfl) rfl rfl (ordVisits_n (.slice o3 ol.length c3) ol ((j : Nat) : Int) wr8 (hos.below HB)) (by kernel_rfl) ?_
        rintro e W9 ⟨oa9, c9, rfl, ⟨hvs, hgw, -⟩, hb⟩
        replace HB := over HB hb
        replace M2 := M2.below hb
        replace M4 := M4.below hb
        replace HL := HL.trans (hb.mono (by omega))
        replace M6 := M6.below hb
        replace NA := NA.below hb
        have z6 := hb.size
        clear hb
        refine ⟨_, rfl, ?_⟩
        obtain ⟨bv, qv, hvr⟩ := hvs.rw2
        have hbv : ∀ k, k < (visL ol ((j : Nat) : Int)).length → wr8.heap.size ≤ bv := fun k hk => hgw.blk bv (by rw [hvr.oa hk]; rfl)
        have hbv2 := fun k (hk : k < (visL ol ((j : Nat) : Int)).length) => hvr.lt hk
        clear hvs hgw
        refine sx_val (by kernel_rfl) rfl rfl (.int .i64 (((visL ol ((j : Nat) : Int)).length : Nat) : Int)) (by kernel_rfl) ?_
        refine sx_val (by kernel_rfl) rfl rfl (.int .i64 0) (by kernel_rfl) ?_
        refine wpList_nil ?_
        refine sx_norm ?_
        refine wp_block ?_
        have hvl := vis_len ol j
        have hpl := wPK_lt ol j
        have hp63 : 2 ^ j ≤ 2 ^ 63 := Nat.pow_le_pow_right (by omega) (by omega)
        refine sx_loop (fun x9 : Nat × (Nat × Nat) => [(0, .agg #[.slice o0 n0 c0, .slice o1 n1 c1, .slice o2 n2 c2, .slice o3 ol.length c3, .slice o4 n4 c4, .slice o5 be.length c5]), (1, .int .i64 z), (2, .pointer (some ⟨w.heap.size, 0, none⟩)), (4, .pointer (some ⟨W1.heap.size, 0, none⟩)), (5, .pointer (some ⟨W5.heap.size, 0, none⟩)), (6, .int .i64 ((j : Nat) : Int)), (11, .pointer (some ⟨w.heap.size, 3, none⟩)), (12, .slice o3 ol.length c3), (13, .int .i64 ((ol.length : Nat) : Int)), (14, .int .i64 ((ol.length : Nat) : Int)), (15, .slice (some ⟨W3.heap.size, 0, none⟩) ol.length ol.length), (16, .agg #[.int .i64 0, .int .i64 0, .int .i64 0, .slice (some ⟨W3.heap.size, 0, none⟩) ol.length ol.length]), (17, .pointer (some ⟨W5.heap.size, 3, none⟩)), (18, .slice (some ⟨W3.heap.size, 0, none⟩) ol.length ol.length), (19, .int .i64 ((ol.length : Nat) : Int)), (20, .int .i64 ((j : Nat) : Int)), (21, .bool true), (22, .int .i64 ((j : Nat) : Int)), (23, .int .i64 z), (24, .int .i64 ((j : Nat) : Int)), (25, .bool true), (26, .bool true), (27, .pointer (some ⟨w.heap.size, 3, none⟩)), (28, .slice o3 ol.length c3), (29, .int .i64 ((j : Nat) : Int)), (30, .pointer (some ⟨b3, q3 + j * 16, none⟩)), (31, .pointer (some ⟨b3, q3 + j * 16 + 15, none⟩)), (32, .bool true), (33, .bool false), (34, .bool false), (41, .pointer (some ⟨w.heap.size, 3, none⟩)), (42, .slice o3 ol.length c3), (43, .int .i64 ((j : Nat) : Int)), (44, .slice oa9 (visL ol ((j : Nat) : Int)).length c9), (45, .int .i64 (((visL ol ((j : Nat) : Int)).length : Nat) : Int)), (46, .int .i64 ((x9.1 : Nat) : Int))]) (fun gg x9 wr => x9.1 ≤ (visL ol ((j : Nat) : Int)).length ∧ (visL ol ((j : Nat) : Int)).length - x9.1 ≤ gg ∧ Cb wr (W5.heap.size) #[.int .i64 ((wWK z ol j : Nat) : Int), .int .i64 ((x9.2.1 : Nat) : Int), .int .i64 ((x9.2.2 : Nat) : Int), .slice (some ⟨W3.heap.size, 0, none⟩) ol.length ol.length] 74 ∧ Cb wr W3.heap.size (nC (List.replicate ol.length 0)) 3 ∧ Rw wr bv qv 2 (vF (visL ol ((j : Nat) : Int))) (visL ol ((j : Nat) : Int)).length oa9 ∧ x9.2 = ((visL ol ((j : Nat) : Int)).take x9.1).foldl withP (wPK ol j) ∧ Below W3.heap.size W9 wr) ((visL ol ((j : Nat) : Int)).length) ((0, wPK ol j)) (by kernel_rfl) ⟨Nat.zero_le _, Nat.le_refl _, M6, NA, hvr, rfl, Below.refl _ _⟩ ?_
        rintro gg ⟨i, p⟩ g' wr10 ⟨hi, hg2, M6, NA, hvr, hp9, hbl⟩
        dsimp only at hi hg2 M6 NA hvr hp9 hbl
        replace HB := HB.trans (hbl.mono (by omega))
        replace M2 := M2.belowB (by omega) hbl
        replace M4 := M4.belowB (by omega) hbl
        replace HL := HL.trans (hbl.mono (by omega))
        have z7 := hbl.size
        have HL2 := hbl
        clear hbl
        have hbv2 := fun k (hk : k < (visL ol ((j : Nat) : Int)).length) => hvr.lt hk
        refine wp_seq ?_
        refine wp_region_lit ?_
        by_cases C4 : i < (visL ol ((j : Nat) : Int)).length
        · refine sx_bool (by kernel_rfl) rfl rfl (decide (((i : Nat) : Int) < (((visL ol ((j : Nat) : Int)).length : Nat) : Int))) true (by kernel_rfl) (decide_eq_true (by omega)) ?_
          refine wpList_nil ?_
          refine sx_norm ?_
          refine wp_seq ?_
          refine sx_true (by kernel_rfl) ?_
          refine wp_skip ?_
          refine sx_norm ?_
          refine wp_seq ?_
          refine wp_block ?_
          refine wp_seq ?_
          refine wp_region_lit ?_
          have hi9 : i < (visL ol ((j : Nat) : Int)).length := by omega
          have hfl := fold_lt (n := 63) ((visL ol ((j : Nat) : Int)).take i) (wPK ol j) (by omega) (by omega) (fun v hv => by have h8 := vis_num ol j v (List.mem_of_mem_take hv); omega)
          rw [← hp9] at hfl
          refine sx_val (by kernel_rfl) rfl rfl (.pointer (some ⟨bv, qv + i * 2, none⟩)) (ex_indexO (q := qv) (m := (visL ol ((j : Nat) : Int)).length) (c := c9) (k := i) (s := 2) rfl (by kernel_rfl) (hvr.oa (k := i) (by omega)) (by kernel_rfl) Try.underlying32 (by kernel_rfl) (by omega) (by omega)) ?_
          refine sx_val (by kernel_rfl) rfl rfl (.agg #[.int .i64 (((visL ol ((j : Nat) : Int)).getD i (0, false)).1), .bool ((visL ol ((j : Nat) : Int)).getD i (0, false)).2]) (ex_loadR rfl (hvr.range (k := i) (by omega)) (by kernel_rfl) Try.underlying52 rfl (by kernel_rfl)) ?_
          obtain ⟨W12, hW⟩ : ∃ W, (wr10.alloc (.cells #[.int .i64 0, .bool false] 52)).setRow wr10.heap.size #[.int .i64 (((visL ol ((j : Nat) : Int)).getD i (0, false)).1), .bool ((visL ol ((j : Nat) : Int)).getD i (0, false)).2] = W := ⟨_, rfl⟩
          have hb := hW ▸ below_var wr10 (.cells #[.int .i64 0, .bool false] 52) #[.int .i64 (((visL ol ((j : Nat) : Int)).getD i (0, false)).1), .bool ((visL ol ((j : Nat) : Int)).getD i (0, false)).2]
          have hq : Cb W12 wr10.heap.size #[.int .i64 (((visL ol ((j : Nat) : Int)).getD i (0, false)).1), .bool ((visL ol ((j : Nat) : Int)).getD i (0, false)).2] 52 := hW ▸ Cb.row (Cb.made wr10 #[.int .i64 0, .bool false] 52) _
          refine sx_mem (by kernel_rfl) rfl rfl (.pointer (some ⟨wr10.heap.size, 0, none⟩)) (wr10.alloc (.cells #[.int .i64 0, .bool false] 52)) (by kernel_rfl) ?_
          refine sx_store (cells := #[.int .i64 (((visL ol ((j : Nat) : Int)).getD i (0, false)).1), .bool ((visL ol ((j : Nat) : Int)).getD i (0, false)).2]) (by kernel_rfl) rfl rfl (Cb.made wr10 #[.int .i64 0, .bool false] 52) (by kernel_rfl) (by kernel_rfl) (by kernel_rfl) (by kernel_rfl) (by kernel_rfl) ?_
          rw [hW]
          replace HB := over HB hb
          replace M2 := M2.below hb
          replace M4 := M4.below hb
          replace HL := HL.trans (hb.mono (by omega))
          replace HL2 := HL2.trans (hb.mono (by omega))
          replace M6 := M6.below hb
          replace NA := NA.below hb
          replace hvr := hvr.below hb
          have z8 := hb.size
          have M11 := hq
          have yM11 := hq.lt
          clear hq hb hW
          refine wpList_nil ?_
          refine sx_norm ?_
          refine wp_region_lit ?_
          refine sx_val (by kernel_rfl) rfl rfl (.pointer (some ⟨W5.heap.size, 1, none⟩)) (by kernel_rfl) ?_
          refine sx_val (by kernel_rfl) rfl rfl (.agg #[.int .i64 ((p.1 : Nat) : Int), .int .i64 ((p.2 : Nat) : Int)]) (ex_mid (q := 1) rfl M6 [.int .i64 ((p.1 : Nat) : Int), .int .i64 ((p.2 : Nat) : Int)] (by kernel_rfl) Try.underlying72 rfl (by kernel_rfl) rfl) ?_
          refine sx_val (by kernel_rfl) rfl rfl (.agg #[.int .i64 (((visL ol ((j : Nat) : Int)).getD i (0, false)).1), .bool ((visL ol ((j : Nat) : Int)).getD i (0, false)).2]) (ex_load rfl M11 (by kernel_rfl) Try.underlying52 rfl (by kernel_rfl)) ?_
          refine sx_call (by kernel_rfl) rfl rfl (with_n p ((visL ol ((j : Nat) : Int)).getD i (0, false)) (by have h8 := hfl.1; omega) (by have h8 := hfl.2; omega) (num_ok hi9 (by omega)) W12) (by kernel_rfl) ?_
          rintro e W13 ⟨rfl, hb⟩
          replace HB := over HB hb
          replace M2 := M2.below hb
          replace M4 := M4.below hb
          replace HL := HL.trans (hb.mono (by omega))
          replace HL2 := HL2.trans (hb.mono (by omega))
          replace M6 := M6.below hb
          replace NA := NA.below hb
          replace hvr := hvr.below hb
          replace M11 := M11.below hb
          have z9 := hb.size
          clear hb
          refine ⟨_, rfl, ?_⟩
          refine sx_val (by kernel_rfl) rfl rfl (.pointer (some ⟨W5.heap.size, 1, none⟩)) (by kernel_rfl) ?_
          refine sx_do (by kernel_rfl) rfl _ (ex_storeM (p := 1) (cells := #[.int .i64 (((withP p ((visL ol ((j : Nat) : Int)).getD i (0, false))).1 : Nat) : Int), .int .i64 (((withP p ((visL ol ((j : Nat) : Int)).getD i (0, false))).2 : Nat) : Int)]) rfl M6 (by show 1 + 2 ≤ 4; decide) (by kernel_rfl) (by kernel_rfl) (by kernel_rfl) (by kernel_rfl)) ?_
          obtain ⟨W14, hW⟩ : ∃ W, W13.setCells (W5.heap.size) 1 [.int .i64 (((withP p ((visL ol ((j : Nat) : Int)).getD i (0, false))).1 : Nat) : Int), .int .i64 (((withP p ((visL ol ((j : Nat) : Int)).getD i (0, false))).2 : Nat) : Int)] = W := ⟨_, rfl⟩
          have hg : W13.grownBy W14 (some (W5.heap.size)) := hW ▸ grown_sets _ _ _ _
          have hq : Cb W14 (W5.heap.size) #[.int .i64 ((wWK z ol j : Nat) : Int), .int .i64 (((withP p ((visL ol ((j : Nat) : Int)).getD i (0, false))).1 : Nat) : Int), .int .i64 (((withP p ((visL ol ((j : Nat) : Int)).getD i (0, false))).2 : Nat) : Int), .slice (some ⟨W3.heap.size, 0, none⟩) ol.length ol.length] 74 := by rw [← hW]; exact Cb.setsN [.int .i64 (((withP p ((visL ol ((j : Nat) : Int)).getD i (0, false))).1 : Nat) : Int), .int .i64 (((withP p ((visL ol ((j : Nat) : Int)).getD i (0, false))).2 : Nat) : Int)] W13 1 _ M6
          rw [hW]
          replace HB := HB.grown hg (by omega) (fun x e => by simp only [Option.some.injEq] at e; omega)
          replace M2 := M2.kept hg (by omega)
          replace M4 := M4.kept hg (by omega)
          replace HL := HL.grown hg (by omega) (fun x e => by simp only [Option.some.injEq] at e; omega)
          replace HL2 := HL2.grown hg (by omega) (fun x e => by simp only [Option.some.injEq] at e; omega)
          replace NA := NA.kept hg (by omega)
          replace hvr := hvr.kept hg (fun k hk => by have h8 := hbv k hk; have h7 := hbv2 k hk; omega)
          replace M11 := M11.kept hg (by omega)
          have z10 := hg.size
          replace M6 := hq
          clear hq hg hW
          refine wpList_nil ?_
          refine sx_in ?_
          refine sx_norm ?_
          refine wp_region_lit ?_
          refine sx_int (by kernel_rfl) rfl rfl .i64 (IntKind.i64.wrap (((i : Nat) : Int) + 1)) (((i + 1 : Nat) : Int)) (by kernel_rfl) (by rw [IntKind.wrap_i64]; omega) ?_
          refine sx_val (by kernel_rfl) rfl rfl (.int .i64 ((i + 1 : Nat) : Int)) (by kernel_rfl) ?_
          refine wpList_nil ?_
          refine sx_norm ?_
          refine sx_again ((visL ol ((j : Nat) : Int)).length - (i + 1)) (i + 1, withP p ((visL ol ((j : Nat) : Int)).getD i (0, false))) (by omega) (by kernel_rfl) ⟨by show i + 1 ≤ _; omega, Nat.le_refl _, M6, NA, hvr, ?_, HL2⟩
          show _ = (((visL ol ((j : Nat) : Int)).take (i + 1)).foldl withP (wPK ol j))
          rw [take_more (d := (0, false)) hi9, List.foldl_append, ← hp9]
          rfl
        refine sx_bool (by kernel_rfl) rfl rfl (decide (((i : Nat) : Int) < (((visL ol ((j : Nat) : Int)).length : Nat) : Int))) false (by kernel_rfl) (decide_eq_false (by omega)) ?_
        refine wpList_nil ?_
        refine sx_norm ?_
        refine wp_seq ?_
        refine sx_false (by kernel_rfl) ?_
        refine wp_exit ?_
        refine sx_es ?_
        refine sx_es ?_
        refine sx_out ?_
        refine sx_in ?_
        refine sx_norm ?_
        refine wp_region_lit ?_
        refine sx_int (by kernel_rfl) rfl rfl .i64 (IntKind.i64.wrap (((j : Nat) : Int) + 1)) (((j + 1 : Nat) : Int)) (by kernel_rfl) (by rw [IntKind.wrap_i64]; omega) ?_
        refine sx_val (by kernel_rfl) rfl rfl (.int .i64 ((j + 1 : Nat) : Int)) (by kernel_rfl) ?_
        refine wpList_nil ?_
        refine sx_norm ?_
        refine sx_again (ol.length - (j + 1)) (j + 1) (by omega) (by kernel_rfl) ⟨by omega, Nat.le_refl _, ?_, NA, HL⟩
        have e1 : wWK z ol (j + 1) = wWK z ol j := by rw [wWK, if_neg (by rintro ⟨h8, h9⟩; first | exact absurd h8 (by assumption) | exact Bool.noConfusion ((by assumption : (ol.getD j or0).off = true).symm.trans h9))]
        have e2 : wPK ol (j + 1) = p := by rw [hp9, List.take_of_length_le (by omega), wPK]
        rw [e1, e2]
        exact M6
      refine sx_val (by kernel_rfl) rfl rfl (.bool false) (ex_load1 (v := .bool false) rfl (by have h8 := (hr16.below HB).cell (k := j) (by omega) 15 rfl; rw [show (ol.getD j or0).off = false by simpa using C3] at h8; exact h8) (by kernel_rfl) Try.underlying4 rfl) ?_
      refine sx_val (by kernel_rfl) rfl rfl (.bool true) (by kernel_rfl) ?_
      refine sx_val (by kernel_rfl) rfl rfl (.bool true) (by kernel_rfl) ?_
      refine wpList_nil ?_
      refine sx_norm ?_
      refine sx_true (by kernel_rfl) ?_
      obtain ⟨Y15, hW⟩ : ∃ W, wr8.drew = W := ⟨_, rfl⟩
      have hb : Below wr8.heap.size wr8 Y15 := hW ▸ below_drew (Below.refl _ _)
      replace HB := over HB hb
      replace M2 := M2.below hb
      replace M4 := M4.below hb
      replace HL := HL.trans (hb.mono (by omega))
      replace M6 := M6.below hb
      replace NA := NA.below hb
      have z6 := hb.size
      clear hb
      refine sd_begin (fun W => True) (by kernel_rfl) trivial ?_
      rw [hW]
      clear hW
      refine sd_take 0 rfl (by kernel_rfl) (by kernel_rfl) (by kernel_rfl) (by kernel_rfl) rfl rfl (.pointer (some ⟨W5.heap.size, 0, none⟩)) (fun w9 _ => by kernel_rfl) (fun _ _ _ h => h) trivial ?_
      refine sd_take 2 rfl (by kernel_rfl) (by kernel_rfl) (by kernel_rfl) (by kernel_rfl) rfl rfl (.int .i64 ((j : Nat) : Int)) (fun w9 _ => by kernel_rfl) (fun _ _ _ h => h) trivial ?_
      have hpj : 2 ^ j ≤ 2 ^ 62 := Nat.pow_le_pow_right (by omega) (by omega)
      refine sd_take 3 rfl (by kernel_rfl) (by kernel_rfl) (by kernel_rfl) (by kernel_rfl) rfl rfl (.int .i64 ((2 ^ j : Nat) : Int)) (fun w9 h9 => ex_shl rfl .i64 1 j _ (by kernel_rfl) (by kernel_rfl) (by omega) (by rw [Int.one_mul, show ((2 : Int) ^ j) = ((2 ^ j : Nat) : Int) by simp]; exact S.wrap_n _ (by omega))) (fun _ _ _ h => h) trivial ?_
      refine sd_all [1] (by kernel_rfl) (by decide) ?_
      refine sd_mem (i := 1) rfl (by kernel_rfl) rfl rfl (.int .i64 ((wWK z ol j : Nat) : Int)) Y15 (ex_load1 rfl (M6.cell 0 rfl) (by kernel_rfl) Try.underlying3 rfl) trivial ?_ AllReadyH.nil
      have hwl := wWK_lt z ol j
      refine sd_take 4 rfl (by kernel_rfl) (by kernel_rfl) (by kernel_rfl) (by kernel_rfl) rfl rfl (.int .i64 (((wWK z ol j) ||| (2 ^ j) : Nat) : Int)) (fun w9 _ => ex_int .i64 (bits .or .i64 ((wWK z ol j : Nat) : Int) ((2 ^ j : Nat) : Int)) ((((wWK z ol j) ||| (2 ^ j) : Nat) : Int)) (by kernel_rfl) (S.i64_or _ _ (by omega) (by omega))) (fun _ _ _ h => h) trivial ?_
      refine sd_take 5 rfl (by kernel_rfl) (by kernel_rfl) (by kernel_rfl) (by kernel_rfl) rfl rfl (.pointer (some ⟨W5.heap.size, 0, none⟩)) (fun w9 _ => by kernel_rfl) (fun _ _ _ h => h) trivial ?_
      refine sd_all [6] (by kernel_rfl) (by decide) ?_
      refine sd_do (i := 6) rfl (by kernel_rfl) rfl (Y15.setCell ⟨W5.heap.size, 0, none⟩ (.int .i64 (((wWK z ol j) ||| (2 ^ j) : Nat) : Int))) (ex_storeC (k := 0) (old := .int .i64 ((wWK z ol j : Nat) : Int)) rfl M6 (by kernel_rfl) (by kernel_rfl) (by kernel_rfl) (by kernel_rfl) (by kernel_rfl)) trivial ?_ AllReadyH.nil
      obtain ⟨W16, hW⟩ : ∃ W, Y15.setCell ⟨W5.heap.size, 0, none⟩ (.int .i64 (((wWK z ol j) ||| (2 ^ j) : Nat) : Int)) = W := ⟨_, rfl⟩
      have hg : Y15.grownBy W16 (some (W5.heap.size)) := hW ▸ grown_set _ _ _ _
      have hq : Cb W16 (W5.heap.size) #[.int .i64 (((wWK z ol j) ||| (2 ^ j) : Nat) : Int), .int .i64 (((wPK ol j).1 : Nat) : Int), .int .i64 (((wPK ol j).2 : Nat) : Int), .slice (some ⟨W3.heap.size, 0, none⟩) ol.length ol.length] 74 := hW ▸ M6.set 0 (.int .i64 (((wWK z ol j) ||| (2 ^ j) : Nat) : Int))
      rw [hW]
      replace HB := HB.grown hg (by omega) (fun x e => by simp only [Option.some.injEq] at e; omega)
      replace M2 := M2.kept hg (by omega)
      replace M4 := M4.kept hg (by omega)
      replace HL := HL.grown hg (by omega) (fun x e => by simp only [Option.some.injEq] at e; omega)
      replace NA := NA.kept hg (by omega)
      have z7 := hg.size
      replace M6 := hq
      clear hq hg hW
      refine sd_done (by kernel_rfl) ?_
      refine sx_norm ?_
      refine wp_seq ?_
      refine wp_region_lit ?_
      refine sx_val (by kernel_rfl) rfl rfl (.pointer (some ⟨w.heap.size, 3, none⟩)) (by kernel_rfl) ?_
      refine sx_val (by kernel_rfl) rfl rfl (.slice o3 ol.length c3) (ex_load1 rfl (M2.cell 3 rfl) (by kernel_rfl) Try.underlying27 rfl) ?_
      refine sx_val (by kernel_rfl) rfl rfl (.int .i64 ((j : Nat) : Int)) (by kernel_rfl) ?_
      refine sx_call (by kernel_rfl) rfl rfl (ordVisits_n (.slice o3 ol.length c3) ol ((j : Nat) : Int) W16 (hos.below HB)) (by kernel_rfl) ?_
      rintro e W17 ⟨oa9, c9, rfl, ⟨hvs, hgw, -⟩, hb⟩
      replace HB := over HB hb
      replace M2 := M2.below hb
      replace M4 := M4.below hb
      replace HL := HL.trans (hb.mono (by omega))
      replace M6 := M6.below hb
      replace NA := NA.below hb
      have z8 := hb.size
      clear hb
      refine ⟨_, rfl, ?_⟩
      obtain ⟨bv, qv, hvr⟩ := hvs.rw2
      have hbv : ∀ k, k < (visL ol ((j : Nat) : Int)).length → W16.heap.size ≤ bv := fun k hk => hgw.blk bv (by rw [hvr.oa hk]; rfl)
      have hbv2 := fun k (hk : k < (visL ol ((j : Nat) : Int)).length) => hvr.lt hk
      clear hvs hgw
      refine sx_val (by kernel_rfl) rfl rfl (.int .i64 (((visL ol ((j : Nat) : Int)).length : Nat) : Int)) (by kernel_rfl) ?_
      refine sx_val (by kernel_rfl) rfl rfl (.int .i64 0) (by kernel_rfl) ?_
      refine wpList_nil ?_
      refine sx_norm ?_
      refine wp_block ?_
      have hvl := vis_len ol j
      have hpl := wPK_lt ol j
      have hp63 : 2 ^ j ≤ 2 ^ 63 := Nat.pow_le_pow_right (by omega) (by omega)
      refine sx_loop (fun x9 : Nat × (Nat × Nat) => [(0, .agg #[.slice o0 n0 c0, .slice o1 n1 c1, .slice o2 n2 c2, .slice o3 ol.length c3, .slice o4 n4 c4, .slice o5 be.length c5]), (1, .int .i64 z), (2, .pointer (some ⟨w.heap.size, 0, none⟩)), (4, .pointer (some ⟨W1.heap.size, 0, none⟩)), (5, .pointer (some ⟨W5.heap.size, 0, none⟩)), (6, .int .i64 ((j : Nat) : Int)), (11, .pointer (some ⟨w.heap.size, 3, none⟩)), (12, .slice o3 ol.length c3), (13, .int .i64 ((ol.length : Nat) : Int)), (14, .int .i64 ((ol.length : Nat) : Int)), (15, .slice (some ⟨W3.heap.size, 0, none⟩) ol.length ol.length), (16, .agg #[.int .i64 0, .int .i64 0, .int .i64 0, .slice (some ⟨W3.heap.size, 0, none⟩) ol.length ol.length]), (17, .pointer (some ⟨W5.heap.size, 3, none⟩)), (18, .slice (some ⟨W3.heap.size, 0, none⟩) ol.length ol.length), (19, .int .i64 ((ol.length : Nat) : Int)), (20, .int .i64 ((j : Nat) : Int)), (21, .bool true), (22, .int .i64 ((j : Nat) : Int)), (23, .int .i64 z), (24, .int .i64 ((j : Nat) : Int)), (25, .bool true), (26, .bool true), (27, .pointer (some ⟨w.heap.size, 3, none⟩)), (28, .slice o3 ol.length c3), (29, .int .i64 ((j : Nat) : Int)), (30, .pointer (some ⟨b3, q3 + j * 16, none⟩)), (31, .pointer (some ⟨b3, q3 + j * 16 + 15, none⟩)), (32, .bool false), (33, .bool true), (34, .bool true), (35, .pointer (some ⟨W5.heap.size, 0, none⟩)), (36, .int .i64 ((wWK z ol j : Nat) : Int)), (37, .int .i64 ((j : Nat) : Int)), (38, .int .i64 ((2 ^ j : Nat) : Int)), (39, .int .i64 (((wWK z ol j) ||| (2 ^ j) : Nat) : Int)), (40, .pointer (some ⟨W5.heap.size, 0, none⟩)), (41, .pointer (some ⟨w.heap.size, 3, none⟩)), (42, .slice o3 ol.length c3), (43, .int .i64 ((j : Nat) : Int)), (44, .slice oa9 (visL ol ((j : Nat) : Int)).length c9), (45, .int .i64 (((visL ol ((j : Nat) : Int)).length : Nat) : Int)), (46, .int .i64 ((x9.1 : Nat) : Int))]) (fun gg x9 wr => x9.1 ≤ (visL ol ((j : Nat) : Int)).length ∧ (visL ol ((j : Nat) : Int)).length - x9.1 ≤ gg ∧ Cb wr (W5.heap.size) #[.int .i64 (((wWK z ol j) ||| (2 ^ j) : Nat) : Int), .int .i64 ((x9.2.1 : Nat) : Int), .int .i64 ((x9.2.2 : Nat) : Int), .slice (some ⟨W3.heap.size, 0, none⟩) ol.length ol.length] 74 ∧ Cb wr W3.heap.size (nC (List.replicate ol.length 0)) 3 ∧ Rw wr bv qv 2 (vF (visL ol ((j : Nat) : Int))) (visL ol ((j : Nat) : Int)).length oa9 ∧ x9.2 = ((visL ol ((j : Nat) : Int)).take x9.1).foldl withP (wPK ol j) ∧ Below W3.heap.size W17 wr) ((visL ol ((j : Nat) : Int)).length) ((0, wPK ol j)) (by kernel_rfl) ⟨Nat.zero_le _, Nat.le_refl _, M6, NA, hvr, rfl, Below.refl _ _⟩ ?_
      rintro gg ⟨i, p⟩ g' wr18 ⟨hi, hg2, M6, NA, hvr, hp9, hbl⟩
      dsimp only at hi hg2 M6 NA hvr hp9 hbl
      replace HB := HB.trans (hbl.mono (by omega))
      replace M2 := M2.belowB (by omega) hbl
      replace M4 := M4.belowB (by omega) hbl
      replace HL := HL.trans (hbl.mono (by omega))
      have z9 := hbl.size
      have HL2 := hbl
      clear hbl
      have hbv2 := fun k (hk : k < (visL ol ((j : Nat) : Int)).length) => hvr.lt hk
      refine wp_seq ?_
      refine wp_region_lit ?_
      by_cases C5 : i < (visL ol ((j : Nat) : Int)).length
      · refine sx_bool (by kernel_rfl) rfl rfl (decide (((i : Nat) : Int) < (((visL ol ((j : Nat) : Int)).length : Nat) : Int))) true (by kernel_rfl) (decide_eq_true (by omega)) ?_
        refine wpList_nil ?_
        refine sx_norm ?_
        refine wp_seq ?_
        refine sx_true (by kernel_rfl) ?_
        refine wp_skip ?_
        refine sx_norm ?_
        refine wp_seq ?_
        refine wp_block ?_
        refine wp_seq ?_
        refine wp_region_lit ?_
        have hi9 : i < (visL ol ((j : Nat) : Int)).length := by omega
        have hfl := fold_lt (n := 63) ((visL ol ((j : Nat) : Int)).take i) (wPK ol j) (by omega) (by omega) (fun v hv => by have h8 := vis_num ol j v (List.mem_of_mem_take hv); omega)
        rw [← hp9] at hfl
        refine sx_val (by kernel_rfl) rfl rfl (.pointer (some ⟨bv, qv + i * 2, none⟩)) (ex_indexO (q := qv) (m := (visL ol ((j : Nat) : Int)).length) (c := c9) (k := i) (s := 2) rfl (by kernel_rfl) (hvr.oa (k := i) (by omega)) (by kernel_rfl) Try.underlying32 (by kernel_rfl) (by omega) (by omega)) ?_
        refine sx_val (by kernel_rfl) rfl rfl (.agg #[.int .i64 (((visL ol ((j : Nat) : Int)).getD i (0, false)).1), .bool ((visL ol ((j : Nat) : Int)).getD i (0, false)).2]) (ex_loadR rfl (hvr.range (k := i) (by omega)) (by kernel_rfl) Try.underlying52 rfl (by kernel_rfl)) ?_
        obtain ⟨W20, hW⟩ : ∃ W, (wr18.alloc (.cells #[.int .i64 0, .bool false] 52)).setRow wr18.heap.size #[.int .i64 (((visL ol ((j : Nat) : Int)).getD i (0, false)).1), .bool ((visL ol ((j : Nat) : Int)).getD i (0, false)).2] = W := ⟨_, rfl⟩
        have hb := hW ▸ below_var wr18 (.cells #[.int .i64 0, .bool false] 52) #[.int .i64 (((visL ol ((j : Nat) : Int)).getD i (0, false)).1), .bool ((visL ol ((j : Nat) : Int)).getD i (0, false)).2]
        have hq : Cb W20 wr18.heap.size #[.int .i64 (((visL ol ((j : Nat) : Int)).getD i (0, false)).1), .bool ((visL ol ((j : Nat) : Int)).getD i (0, false)).2] 52 := hW ▸ Cb.row (Cb.made wr18 #[.int .i64 0, .bool false] 52) _
        refine sx_mem (by kernel_rfl) rfl rfl (.pointer (some ⟨wr18.heap.size, 0, none⟩)) (wr18.alloc (.cells #[.int .i64 0, .bool false] 52)) (by kernel_rfl) ?_
        refine sx_store (cells := #[.int .i64 (((visL ol ((j : Nat) : Int)).getD i (0, false)).1), .bool ((visL ol ((j : Nat) : Int)).getD i (0, false)).2]) (by kernel_rfl) rfl rfl (Cb.made wr18 #[.int .i64 0, .bool false] 52) (by kernel_rfl) (by kernel_rfl) (by kernel_rfl) (by kernel_rfl) (by kernel_rfl) ?_
        rw [hW]
        replace HB := over HB hb
        replace M2 := M2.below hb
        replace M4 := M4.below hb
        replace HL := HL.trans (hb.mono (by omega))
        replace HL2 := HL2.trans (hb.mono (by omega))
        replace M6 := M6.below hb
        replace NA := NA.below hb
        replace hvr := hvr.below hb
        have z10 := hb.size
        have M19 := hq
        have yM19 := hq.lt
        clear hq hb hW
        refine wpList_nil ?_
        refine sx_norm ?_
        refine wp_region_lit ?_
        refine sx_val (by kernel_rfl) rfl rfl (.pointer (some ⟨W5.heap.size, 1, none⟩)) (by kernel_rfl) ?_
        refine sx_val (by kernel_rfl) rfl rfl (.agg #[.int .i64 ((p.1 : Nat) : Int), .int .i64 ((p.2 : Nat) : Int)]) (ex_mid (q := 1) rfl M6 [.int .i64 ((p.1 : Nat) : Int), .int .i64 ((p.2 : Nat) : Int)] (by kernel_rfl) Try.underlying72 rfl (by kernel_rfl) rfl) ?_
        refine sx_val (by kernel_rfl) rfl rfl (.agg #[.int .i64 (((visL ol ((j : Nat) : Int)).getD i (0, false)).1), .bool ((visL ol ((j : Nat) : Int)).getD i (0, false)).2]) (ex_load rfl M19 (by kernel_rfl) Try.underlying52 rfl (by kernel_rfl)) ?_
        refine sx_call (by kernel_rfl) rfl rfl (with_n p ((visL ol ((j : Nat) : Int)).getD i (0, false)) (by have h8 := hfl.1; omega) (by have h8 := hfl.2; omega) (num_ok hi9 (by omega)) W20) (by kernel_rfl) ?_
        rintro e W21 ⟨rfl, hb⟩
        replace HB := over HB hb
        replace M2 := M2.below hb
        replace M4 := M4.below hb
        replace HL := HL.trans (hb.mono (by omega))
        replace HL2 := HL2.trans (hb.mono (by omega))
        replace M6 := M6.below hb
        replace NA := NA.below hb
        replace hvr := hvr.below hb
        replace M19 := M19.below hb
        have z11 := hb.size
        clear hb
        refine ⟨_, rfl, ?_⟩
        refine sx_val (by kernel_rfl) rfl rfl (.pointer (some ⟨W5.heap.size, 1, none⟩)) (by kernel_rfl) ?_
        refine sx_do (by kernel_rfl) rfl _ (ex_storeM (p := 1) (cells := #[.int .i64 (((withP p ((visL ol ((j : Nat) : Int)).getD i (0, false))).1 : Nat) : Int), .int .i64 (((withP p ((visL ol ((j : Nat) : Int)).getD i (0, false))).2 : Nat) : Int)]) rfl M6 (by show 1 + 2 ≤ 4; decide) (by kernel_rfl) (by kernel_rfl) (by kernel_rfl) (by kernel_rfl)) ?_
        obtain ⟨W22, hW⟩ : ∃ W, W21.setCells (W5.heap.size) 1 [.int .i64 (((withP p ((visL ol ((j : Nat) : Int)).getD i (0, false))).1 : Nat) : Int), .int .i64 (((withP p ((visL ol ((j : Nat) : Int)).getD i (0, false))).2 : Nat) : Int)] = W := ⟨_, rfl⟩
        have hg : W21.grownBy W22 (some (W5.heap.size)) := hW ▸ grown_sets _ _ _ _
        have hq : Cb W22 (W5.heap.size) #[.int .i64 (((wWK z ol j) ||| (2 ^ j) : Nat) : Int), .int .i64 (((withP p ((visL ol ((j : Nat) : Int)).getD i (0, false))).1 : Nat) : Int), .int .i64 (((withP p ((visL ol ((j : Nat) : Int)).getD i (0, false))).2 : Nat) : Int), .slice (some ⟨W3.heap.size, 0, none⟩) ol.length ol.length] 74 := by rw [← hW]; exact Cb.setsN [.int .i64 (((withP p ((visL ol ((j : Nat) : Int)).getD i (0, false))).1 : Nat) : Int), .int .i64 (((withP p ((visL ol ((j : Nat) : Int)).getD i (0, false))).2 : Nat) : Int)] W21 1 _ M6
        rw [hW]
        replace HB := HB.grown hg (by omega) (fun x e => by simp only [Option.some.injEq] at e; omega)
        replace M2 := M2.kept hg (by omega)
        replace M4 := M4.kept hg (by omega)
        replace HL := HL.grown hg (by omega) (fun x e => by simp only [Option.some.injEq] at e; omega)
        replace HL2 := HL2.grown hg (by omega) (fun x e => by simp only [Option.some.injEq] at e; omega)
        replace NA := NA.kept hg (by omega)
        replace hvr := hvr.kept hg (fun k hk => by have h8 := hbv k hk; have h7 := hbv2 k hk; omega)
        replace M19 := M19.kept hg (by omega)
        have z12 := hg.size
        replace M6 := hq
        clear hq hg hW
        refine wpList_nil ?_
        refine sx_in ?_
        refine sx_norm ?_
        refine wp_region_lit ?_
        refine sx_int (by kernel_rfl) rfl rfl .i64 (IntKind.i64.wrap (((i : Nat) : Int) + 1)) (((i + 1 : Nat) : Int)) (by kernel_rfl) (by rw [IntKind.wrap_i64]; omega) ?_
        refine sx_val (by kernel_rfl) rfl rfl (.int .i64 ((i + 1 : Nat) : Int)) (by kernel_rfl) ?_
        refine wpList_nil ?_
        refine sx_norm ?_
        refine sx_again ((visL ol ((j : Nat) : Int)).length - (i + 1)) (i + 1, withP p ((visL ol ((j : Nat) : Int)).getD i (0, false))) (by omega) (by kernel_rfl) ⟨by show i + 1 ≤ _; omega, Nat.le_refl _, M6, NA, hvr, ?_, HL2⟩
        show _ = (((visL ol ((j : Nat) : Int)).take (i + 1)).foldl withP (wPK ol j))
        rw [take_more (d := (0, false)) hi9, List.foldl_append, ← hp9]
        rfl
      refine sx_bool (by kernel_rfl) rfl rfl (decide (((i : Nat) : Int) < (((visL ol ((j : Nat) : Int)).length : Nat) : Int))) false (by kernel_rfl) (decide_eq_false (by omega)) ?_
      refine wpList_nil ?_
      refine sx_norm ?_
      refine wp_seq ?_
      refine sx_false (by kernel_rfl) ?_
      refine wp_exit ?_
      refine sx_es ?_
      refine sx_es ?_
      refine sx_out ?_
      refine sx_in ?_
      refine sx_norm ?_
      refine wp_region_lit ?_
      refine sx_int (by kernel_rfl) rfl rfl .i64 (IntKind.i64.wrap (((j : Nat) : Int) + 1)) (((j + 1 : Nat) : Int)) (by kernel_rfl) (by rw [IntKind.wrap_i64]; omega) ?_
      refine sx_val (by kernel_rfl) rfl rfl (.int .i64 ((j + 1 : Nat) : Int)) (by kernel_rfl) ?_
      refine wpList_nil ?_
      refine sx_norm ?_
      refine sx_again (ol.length - (j + 1)) (j + 1) (by omega) (by kernel_rfl) ⟨by omega, Nat.le_refl _, ?_, NA, HL⟩
      have e1 : wWK z ol (j + 1) = (wWK z ol j) ||| (2 ^ j) := by rw [wWK, if_pos ⟨by assumption, by simpa using (by assumption : ¬ (OrT.off _ = true))⟩]
      have e2 : wPK ol (j + 1) = p := by rw [hp9, List.take_of_length_le (by omega), wPK]
      rw [e1, e2]
      exact M6
    refine sx_call (by kernel_rfl) rfl rfl ((by have h8 := seqHas_n z j (by omega) wr8; rw [show hasZ z j = false by simpa using C2] at h8; exact h8)) (by kernel_rfl) ?_
    rintro e w9 ⟨rfl, rfl⟩
    refine ⟨_, rfl, ?_⟩
    refine sx_val (by kernel_rfl) rfl rfl (.bool false) (by kernel_rfl) ?_
    refine sx_skip (by kernel_rfl) rfl rfl ?_
    refine sx_skip (by kernel_rfl) rfl rfl ?_
    refine sx_skip (by kernel_rfl) rfl rfl ?_
    refine sx_skip (by kernel_rfl) rfl rfl ?_
    refine sx_skip (by kernel_rfl) rfl rfl ?_
    refine sx_skip (by kernel_rfl) rfl rfl ?_
    refine sx_skip (by kernel_rfl) rfl rfl ?_
    refine sx_val (by kernel_rfl) rfl rfl (.bool false) (by kernel_rfl) ?_
    refine wpList_nil ?_
    refine sx_norm ?_
    refine sx_false (by kernel_rfl) ?_
    refine wp_skip ?_
    refine sx_norm ?_
    refine wp_seq ?_
    refine wp_region_lit ?_
    refine sx_val (by kernel_rfl) rfl rfl (.pointer (some ⟨w.heap.size, 3, none⟩)) (by kernel_rfl) ?_
    refine sx_val (by kernel_rfl) rfl rfl (.slice o3 ol.length c3) (ex_load1 rfl (M2.cell 3 rfl) (by kernel_rfl) Try.underlying27 rfl) ?_
    refine sx_val (by kernel_rfl) rfl rfl (.int .i64 ((j : Nat) : Int)) (by kernel_rfl) ?_
    refine sx_call (by kernel_rfl) rfl rfl (ordVisits_n (.slice o3 ol.length c3) ol ((j : Nat) : Int) wr8 (hos.below HB)) (by kernel_rfl) ?_
    rintro e W23 ⟨oa9, c9, rfl, ⟨hvs, hgw, -⟩, hb⟩
    replace HB := over HB hb
    replace M2 := M2.below hb
    replace M4 := M4.below hb
    replace HL := HL.trans (hb.mono (by omega))
    replace M6 := M6.below hb
    replace NA := NA.below hb
    have z6 := hb.size
    clear hb
    refine ⟨_, rfl, ?_⟩
    obtain ⟨bv, qv, hvr⟩ := hvs.rw2
    have hbv : ∀ k, k < (visL ol ((j : Nat) : Int)).length → wr8.heap.size ≤ bv := fun k hk => hgw.blk bv (by rw [hvr.oa hk]; rfl)
    have hbv2 := fun k (hk : k < (visL ol ((j : Nat) : Int)).length) => hvr.lt hk
    clear hvs hgw
    refine sx_val (by kernel_rfl) rfl rfl (.int .i64 (((visL ol ((j : Nat) : Int)).length : Nat) : Int)) (by kernel_rfl) ?_
    refine sx_val (by kernel_rfl) rfl rfl (.int .i64 0) (by kernel_rfl) ?_
    refine wpList_nil ?_
    refine sx_norm ?_
    refine wp_block ?_
    have hvl := vis_len ol j
    have hpl := wPK_lt ol j
    have hp63 : 2 ^ j ≤ 2 ^ 63 := Nat.pow_le_pow_right (by omega) (by omega)
    refine sx_loop (fun x9 : Nat × (Nat × Nat) => [(0, .agg #[.slice o0 n0 c0, .slice o1 n1 c1, .slice o2 n2 c2, .slice o3 ol.length c3, .slice o4 n4 c4, .slice o5 be.length c5]), (1, .int .i64 z), (2, .pointer (some ⟨w.heap.size, 0, none⟩)), (4, .pointer (some ⟨W1.heap.size, 0, none⟩)), (5, .pointer (some ⟨W5.heap.size, 0, none⟩)), (6, .int .i64 ((j : Nat) : Int)), (11, .pointer (some ⟨w.heap.size, 3, none⟩)), (12, .slice o3 ol.length c3), (13, .int .i64 ((ol.length : Nat) : Int)), (14, .int .i64 ((ol.length : Nat) : Int)), (15, .slice (some ⟨W3.heap.size, 0, none⟩) ol.length ol.length), (16, .agg #[.int .i64 0, .int .i64 0, .int .i64 0, .slice (some ⟨W3.heap.size, 0, none⟩) ol.length ol.length]), (17, .pointer (some ⟨W5.heap.size, 3, none⟩)), (18, .slice (some ⟨W3.heap.size, 0, none⟩) ol.length ol.length), (19, .int .i64 ((ol.length : Nat) : Int)), (20, .int .i64 ((j : Nat) : Int)), (21, .bool true), (22, .int .i64 ((j : Nat) : Int)), (23, .int .i64 z), (24, .int .i64 ((j : Nat) : Int)), (25, .bool false), (26, .bool false), (34, .bool false), (41, .pointer (some ⟨w.heap.size, 3, none⟩)), (42, .slice o3 ol.length c3), (43, .int .i64 ((j : Nat) : Int)), (44, .slice oa9 (visL ol ((j : Nat) : Int)).length c9), (45, .int .i64 (((visL ol ((j : Nat) : Int)).length : Nat) : Int)), (46, .int .i64 ((x9.1 : Nat) : Int))]) (fun gg x9 wr => x9.1 ≤ (visL ol ((j : Nat) : Int)).length ∧ (visL ol ((j : Nat) : Int)).length - x9.1 ≤ gg ∧ Cb wr (W5.heap.size) #[.int .i64 ((wWK z ol j : Nat) : Int), .int .i64 ((x9.2.1 : Nat) : Int), .int .i64 ((x9.2.2 : Nat) : Int), .slice (some ⟨W3.heap.size, 0, none⟩) ol.length ol.length] 74 ∧ Cb wr W3.heap.size (nC (List.replicate ol.length 0)) 3 ∧ Rw wr bv qv 2 (vF (visL ol ((j : Nat) : Int))) (visL ol ((j : Nat) : Int)).length oa9 ∧ x9.2 = ((visL ol ((j : Nat) : Int)).take x9.1).foldl withP (wPK ol j) ∧ Below W3.heap.size W23 wr) ((visL ol ((j : Nat) : Int)).length) ((0, wPK ol j)) (by kernel_rfl) ⟨Nat.zero_le _, Nat.le_refl _, M6, NA, hvr, rfl, Below.refl _ _⟩ ?_
    rintro gg ⟨i, p⟩ g' wr24 ⟨hi, hg2, M6, NA, hvr, hp9, hbl⟩
    dsimp only at hi hg2 M6 NA hvr hp9 hbl
    replace HB := HB.trans (hbl.mono (by omega))
    replace M2 := M2.belowB (by omega) hbl
    replace M4 := M4.belowB (by omega) hbl
    replace HL := HL.trans (hbl.mono (by omega))
    have z7 := hbl.size
    have HL2 := hbl
    clear hbl
    have hbv2 := fun k (hk : k < (visL ol ((j : Nat) : Int)).length) => hvr.lt hk
    refine wp_seq ?_
    refine wp_region_lit ?_
    by_cases C6 : i < (visL ol ((j : Nat) : Int)).length
    · refine sx_bool (by kernel_rfl) rfl rfl (decide (((i : Nat) : Int) < (((visL ol ((j : Nat) : Int)).length : Nat) : Int))) true (by kernel_rfl) (decide_eq_true (by omega)) ?_
      refine wpList_nil ?_
      refine sx_norm ?_
      refine wp_seq ?_
      refine sx_true (by kernel_rfl) ?_
      refine wp_skip ?_
      refine sx_norm ?_
      refine wp_seq ?_
      refine wp_block ?_
      refine wp_seq ?_
      refine wp_region_lit ?_
      have hi9 : i < (visL ol ((j : Nat) : Int)).length := by omega
      have hfl := fold_lt (n := 63) ((visL ol ((j : Nat) : Int)).take i) (wPK ol j) (by omega) (by omega) (fun v hv => by have h8 := vis_num ol j v (List.mem_of_mem_take hv); omega)
      rw [← hp9] at hfl
      refine sx_val (by kernel_rfl) rfl rfl (.pointer (some ⟨bv, qv + i * 2, none⟩)) (ex_indexO (q := qv) (m := (visL ol ((j : Nat) : Int)).length) (c := c9) (k := i) (s := 2) rfl (by kernel_rfl) (hvr.oa (k := i) (by omega)) (by kernel_rfl) Try.underlying32 (by kernel_rfl) (by omega) (by omega)) ?_
      refine sx_val (by kernel_rfl) rfl rfl (.agg #[.int .i64 (((visL ol ((j : Nat) : Int)).getD i (0, false)).1), .bool ((visL ol ((j : Nat) : Int)).getD i (0, false)).2]) (ex_loadR rfl (hvr.range (k := i) (by omega)) (by kernel_rfl) Try.underlying52 rfl (by kernel_rfl)) ?_
      obtain ⟨W26, hW⟩ : ∃ W, (wr24.alloc (.cells #[.int .i64 0, .bool false] 52)).setRow wr24.heap.size #[.int .i64 (((visL ol ((j : Nat) : Int)).getD i (0, false)).1), .bool ((visL ol ((j : Nat) : Int)).getD i (0, false)).2] = W := ⟨_, rfl⟩
      have hb := hW ▸ below_var wr24 (.cells #[.int .i64 0, .bool false] 52) #[.int .i64 (((visL ol ((j : Nat) : Int)).getD i (0, false)).1), .bool ((visL ol ((j : Nat) : Int)).getD i (0, false)).2]
      have hq : Cb W26 wr24.heap.size #[.int .i64 (((visL ol ((j : Nat) : Int)).getD i (0, false)).1), .bool ((visL ol ((j : Nat) : Int)).getD i (0, false)).2] 52 := hW ▸ Cb.row (Cb.made wr24 #[.int .i64 0, .bool false] 52) _
      refine sx_mem (by kernel_rfl) rfl rfl (.pointer (some ⟨wr24.heap.size, 0, none⟩)) (wr24.alloc (.cells #[.int .i64 0, .bool false] 52)) (by kernel_rfl) ?_
      refine sx_store (cells := #[.int .i64 (((visL ol ((j : Nat) : Int)).getD i (0, false)).1), .bool ((visL ol ((j : Nat) : Int)).getD i (0, false)).2]) (by kernel_rfl) rfl rfl (Cb.made wr24 #[.int .i64 0, .bool false] 52) (by kernel_rfl) (by kernel_rfl) (by kernel_rfl) (by kernel_rfl) (by kernel_rfl) ?_
      rw [hW]
      replace HB := over HB hb
      replace M2 := M2.below hb
      replace M4 := M4.below hb
      replace HL := HL.trans (hb.mono (by omega))
      replace HL2 := HL2.trans (hb.mono (by omega))
      replace M6 := M6.below hb
      replace NA := NA.below hb
      replace hvr := hvr.below hb
      have z8 := hb.size
      have M25 := hq
      have yM25 := hq.lt
      clear hq hb hW
      refine wpList_nil ?_
      refine sx_norm ?_
      refine wp_region_lit ?_
      refine sx_val (by kernel_rfl) rfl rfl (.pointer (some ⟨W5.heap.size, 1, none⟩)) (by kernel_rfl) ?_
      refine sx_val (by kernel_rfl) rfl rfl (.agg #[.int .i64 ((p.1 : Nat) : Int), .int .i64 ((p.2 : Nat) : Int)]) (ex_mid (q := 1) rfl M6 [.int .i64 ((p.1 : Nat) : Int), .int .i64 ((p.2 : Nat) : Int)] (by kernel_rfl) Try.underlying72 rfl (by kernel_rfl) rfl) ?_
      refine sx_val (by kernel_rfl) rfl rfl (.agg #[.int .i64 (((visL ol ((j : Nat) : Int)).getD i (0, false)).1), .bool ((visL ol ((j : Nat) : Int)).getD i (0, false)).2]) (ex_load rfl M25 (by kernel_rfl) Try.underlying52 rfl (by kernel_rfl)) ?_
      refine sx_call (by kernel_rfl) rfl rfl (with_n p ((visL ol ((j : Nat) : Int)).getD i (0, false)) (by have h8 := hfl.1; omega) (by have h8 := hfl.2; omega) (num_ok hi9 (by omega)) W26) (by kernel_rfl) ?_
      rintro e W27 ⟨rfl, hb⟩
      replace HB := over HB hb
      replace M2 := M2.below hb
      replace M4 := M4.below hb
      replace HL := HL.trans (hb.mono (by omega))
      replace HL2 := HL2.trans (hb.mono (by omega))
      replace M6 := M6.below hb
      replace NA := NA.below hb
      replace hvr := hvr.below hb
      replace M25 := M25.below hb
      have z9 := hb.size
      clear hb
      refine ⟨_, rfl, ?_⟩
      refine sx_val (by kernel_rfl) rfl rfl (.pointer (some ⟨W5.heap.size, 1, none⟩)) (by kernel_rfl) ?_
      refine sx_do (by kernel_rfl) rfl _ (ex_storeM (p := 1) (cells := #[.int .i64 (((withP p ((visL ol ((j : Nat) : Int)).getD i (0, false))).1 : Nat) : Int), .int .i64 (((withP p ((visL ol ((j : Nat) : Int)).getD i (0, false))).2 : Nat) : Int)]) rfl M6 (by show 1 + 2 ≤ 4; decide) (by kernel_rfl) (by kernel_rfl) (by kernel_rfl) (by kernel_rfl)) ?_
      obtain ⟨W28, hW⟩ : ∃ W, W27.setCells (W5.heap.size) 1 [.int .i64 (((withP p ((visL ol ((j : Nat) : Int)).getD i (0, false))).1 : Nat) : Int), .int .i64 (((withP p ((visL ol ((j : Nat) : Int)).getD i (0, false))).2 : Nat) : Int)] = W := ⟨_, rfl⟩
      have hg : W27.grownBy W28 (some (W5.heap.size)) := hW ▸ grown_sets _ _ _ _
      have hq : Cb W28 (W5.heap.size) #[.int .i64 ((wWK z ol j : Nat) : Int), .int .i64 (((withP p ((visL ol ((j : Nat) : Int)).getD i (0, false))).1 : Nat) : Int), .int .i64 (((withP p ((visL ol ((j : Nat) : Int)).getD i (0, false))).2 : Nat) : Int), .slice (some ⟨W3.heap.size, 0, none⟩) ol.length ol.length] 74 := by rw [← hW]; exact Cb.setsN [.int .i64 (((withP p ((visL ol ((j : Nat) : Int)).getD i (0, false))).1 : Nat) : Int), .int .i64 (((withP p ((visL ol ((j : Nat) : Int)).getD i (0, false))).2 : Nat) : Int)] W27 1 _ M6
      rw [hW]
      replace HB := HB.grown hg (by omega) (fun x e => by simp only [Option.some.injEq] at e; omega)
      replace M2 := M2.kept hg (by omega)
      replace M4 := M4.kept hg (by omega)
      replace HL := HL.grown hg (by omega) (fun x e => by simp only [Option.some.injEq] at e; omega)
      replace HL2 := HL2.grown hg (by omega) (fun x e => by simp only [Option.some.injEq] at e; omega)
      replace NA := NA.kept hg (by omega)
      replace hvr := hvr.kept hg (fun k hk => by have h8 := hbv k hk; have h7 := hbv2 k hk; omega)
      replace M25 := M25.kept hg (by omega)
      have z10 := hg.size
      replace M6 := hq
      clear hq hg hW
      refine wpList_nil ?_
      refine sx_in ?_
      refine sx_norm ?_
      refine wp_region_lit ?_
      refine sx_int (by kernel_rfl) rfl rfl .i64 (IntKind.i64.wrap (((i : Nat) : Int) + 1)) (((i + 1 : Nat) : Int)) (by kernel_rfl) (by rw [IntKind.wrap_i64]; omega) ?_
      refine sx_val (by kernel_rfl) rfl rfl (.int .i64 ((i + 1 : Nat) : Int)) (by kernel_rfl) ?_
      refine wpList_nil ?_
      refine sx_norm ?_
      refine sx_again ((visL ol ((j : Nat) : Int)).length - (i + 1)) (i + 1, withP p ((visL ol ((j : Nat) : Int)).getD i (0, false))) (by omega) (by kernel_rfl) ⟨by show i + 1 ≤ _; omega, Nat.le_refl _, M6, NA, hvr, ?_, HL2⟩
      show _ = (((visL ol ((j : Nat) : Int)).take (i + 1)).foldl withP (wPK ol j))
      rw [take_more (d := (0, false)) hi9, List.foldl_append, ← hp9]
      rfl
    refine sx_bool (by kernel_rfl) rfl rfl (decide (((i : Nat) : Int) < (((visL ol ((j : Nat) : Int)).length : Nat) : Int))) false (by kernel_rfl) (decide_eq_false (by omega)) ?_
    refine wpList_nil ?_
    refine sx_norm ?_
    refine wp_seq ?_
    refine sx_false (by kernel_rfl) ?_
    refine wp_exit ?_
    refine sx_es ?_
    refine sx_es ?_
    refine sx_out ?_
    refine sx_in ?_
    refine sx_norm ?_
    refine wp_region_lit ?_
    refine sx_int (by kernel_rfl) rfl rfl .i64 (IntKind.i64.wrap (((j : Nat) : Int) + 1)) (((j + 1 : Nat) : Int)) (by kernel_rfl) (by rw [IntKind.wrap_i64]; omega) ?_
    refine sx_val (by kernel_rfl) rfl rfl (.int .i64 ((j + 1 : Nat) : Int)) (by kernel_rfl) ?_
    refine wpList_nil ?_
    refine sx_norm ?_
    refine sx_again (ol.length - (j + 1)) (j + 1) (by omega) (by kernel_rfl) ⟨by omega, Nat.le_refl _, ?_, NA, HL⟩
    have e1 : wWK z ol (j + 1) = wWK z ol j := by rw [wWK, if_neg (by rintro ⟨h8, h9⟩; first | exact absurd h8 (by assumption) | exact Bool.noConfusion ((by assumption : (ol.getD j or0).off = true).symm.trans h9))]
    have e2 : wPK ol (j + 1) = p := by rw [hp9, List.take_of_length_le (by omega), wPK]
    rw [e1, e2]
    exact M6
  refine sx_bool (by kernel_rfl) rfl rfl (decide (((j : Nat) : Int) < ((ol.length : Nat) : Int))) false (by kernel_rfl) (decide_eq_false (by omega)) ?_
  refine wpList_nil ?_
  refine sx_norm ?_
  refine wp_seq ?_
  refine sx_false (by kernel_rfl) ?_
  refine wp_exit ?_
  refine sx_es ?_
  refine sx_es ?_
  refine sx_out ?_
  refine sx_norm ?_
  refine wp_seq ?_
  refine wp_seq ?_
  refine wp_region_lit ?_
  refine sx_val (by kernel_rfl) rfl rfl (.pointer (some ⟨w.heap.size, 5, none⟩)) (by kernel_rfl) ?_
  refine sx_val (by kernel_rfl) rfl rfl (.slice o5 be.length c5) (ex_load1 rfl (M2.cell 5 rfl) (by kernel_rfl) Try.underlying28 rfl) ?_
  refine sx_val (by kernel_rfl) rfl rfl (.int .i64 ((be.length : Nat) : Int)) (by kernel_rfl) ?_
  refine sx_val (by kernel_rfl) rfl rfl (.int .i64 0) (by kernel_rfl) ?_
  refine wpList_nil ?_
  refine sx_norm ?_
  refine wp_block ?_
  have hjn : j = ol.length := by omega
  rw [hjn] at M6
  refine sx_loop (fun m : Nat => [(0, .agg #[.slice o0 n0 c0, .slice o1 n1 c1, .slice o2 n2 c2, .slice o3 ol.length c3, .slice o4 n4 c4, .slice o5 be.length c5]), (1, .int .i64 z), (2, .pointer (some ⟨w.heap.size, 0, none⟩)), (4, .pointer (some ⟨W1.heap.size, 0, none⟩)), (5, .pointer (some ⟨W5.heap.size, 0, none⟩)), (11, .pointer (some ⟨w.heap.size, 3, none⟩)), (12, .slice o3 ol.length c3), (13, .int .i64 ((ol.length : Nat) : Int)), (14, .int .i64 ((ol.length : Nat) : Int)), (15, .slice (some ⟨W3.heap.size, 0, none⟩) ol.length ol.length), (16, .agg #[.int .i64 0, .int .i64 0, .int .i64 0, .slice (some ⟨W3.heap.size, 0, none⟩) ol.length ol.length]), (17, .pointer (some ⟨W5.heap.size, 3, none⟩)), (18, .slice (some ⟨W3.heap.size, 0, none⟩) ol.length ol.length), (19, .int .i64 ((ol.length : Nat) : Int)), (57, .pointer (some ⟨w.heap.size, 5, none⟩)), (58, .slice o5 be.length c5), (59, .int .i64 ((be.length : Nat) : Int)), (60, .int .i64 ((m : Nat) : Int))]) (fun gg m wr => m ≤ be.length ∧ be.length - m ≤ gg ∧ Cb wr (W5.heap.size) #[.int .i64 ((wWK z ol ol.length : Nat) : Int), .int .i64 (((wPK ol ol.length).1 : Nat) : Int), .int .i64 (((wPK ol ol.length).2 : Nat) : Int), .slice (some ⟨W3.heap.size, 0, none⟩) ol.length ol.length] 74 ∧ Cb wr W3.heap.size (nC (wAK ol.length be m)) 3 ∧ Below W3.heap.size wr8 wr) (be.length) (0) (by kernel_rfl) ⟨Nat.zero_le _, Nat.le_refl _, M6, NA, Below.refl _ _⟩ ?_
  rintro gg m g' wr29 ⟨hm, hg, M6, NA, hbl⟩
  replace HB := HB.trans (hbl.mono (by omega))
  replace M2 := M2.belowB (by omega) hbl
  replace M4 := M4.belowB (by omega) hbl
  replace HL := HL.trans (hbl.mono (by omega))
  have z6 := hbl.size
  have HL3 := hbl
  clear hbl
  refine wp_seq ?_
  refine wp_region_lit ?_
  by_cases C7 : m < be.length
  · refine sx_bool (by kernel_rfl) rfl rfl (decide (((m : Nat) : Int) < ((be.length : Nat) : Int))) true (by kernel_rfl) (decide_eq_true (by omega)) ?_
    refine wpList_nil ?_
    refine sx_norm ?_
    refine wp_seq ?_
    refine sx_true (by kernel_rfl) ?_
    refine wp_skip ?_
    refine sx_norm ?_
    refine wp_seq ?_
    refine wp_block ?_
    refine wp_seq ?_
    refine wp_region_lit ?_
    have hrt := U.getD_rt hr (k := m) (by omega)
    have hpa := hrt.1
    have hpb := hrt.2.1
    clear hrt
    refine sx_val (by kernel_rfl) rfl rfl (.pointer (some ⟨b5, q5 + m * 2, none⟩)) (ex_indexO (q := q5) (m := be.length) (c := c5) (k := m) (s := 2) rfl (by kernel_rfl) ((hpr.below HB).oa (k := m) (by omega)) (by kernel_rfl) Try.underlying28 (by kernel_rfl) (by omega) (by omega)) ?_
    refine sx_val (by kernel_rfl) rfl rfl (.agg #[.int .i64 ((U.pa (be.getD m (0, 0)) : Nat) : Int), .int .i64 ((U.pb (be.getD m (0, 0)) : Nat) : Int)]) (ex_loadR rfl ((hpr.below HB).range (k := m) (by omega)) (by kernel_rfl) Try.underlying96 rfl (by kernel_rfl)) ?_
    obtain ⟨W31, hW⟩ : ∃ W, (wr29.alloc (.cells #[.int .i64 0, .int .i64 0] 96)).setRow wr29.heap.size #[.int .i64 ((U.pa (be.getD m (0, 0)) : Nat) : Int), .int .i64 ((U.pb (be.getD m (0, 0)) : Nat) : Int)] = W := ⟨_, rfl⟩
    have hb := hW ▸ below_var wr29 (.cells #[.int .i64 0, .int .i64 0] 96) #[.int .i64 ((U.pa (be.getD m (0, 0)) : Nat) : Int), .int .i64 ((U.pb (be.getD m (0, 0)) : Nat) : Int)]
    have hq : Cb W31 wr29.heap.size #[.int .i64 ((U.pa (be.getD m (0, 0)) : Nat) : Int), .int .i64 ((U.pb (be.getD m (0, 0)) : Nat) : Int)] 96 := hW ▸ Cb.row (Cb.made wr29 #[.int .i64 0, .int .i64 0] 96) _
    refine sx_mem (by kernel_rfl) rfl rfl (.pointer (some ⟨wr29.heap.size, 0, none⟩)) (wr29.alloc (.cells #[.int .i64 0, .int .i64 0] 96)) (by kernel_rfl) ?_
    refine sx_store (cells := #[.int .i64 ((U.pa (be.getD m (0, 0)) : Nat) : Int), .int .i64 ((U.pb (be.getD m (0, 0)) : Nat) : Int)]) (by kernel_rfl) rfl rfl (Cb.made wr29 #[.int .i64 0, .int .i64 0] 96) (by kernel_rfl) (by kernel_rfl) (by kernel_rfl) (by kernel_rfl) (by kernel_rfl) ?_
    rw [hW]
    replace HB := over HB hb
    replace M2 := M2.below hb
    replace M4 := M4.below hb
    replace HL := HL.trans (hb.mono (by omega))
    replace HL3 := HL3.trans (hb.mono (by omega))
    replace M6 := M6.below hb
    replace NA := NA.below hb
    have z7 := hb.size
    have M30 := hq
    have yM30 := hq.lt
    clear hq hb hW
    refine wpList_nil ?_
    refine sx_norm ?_
    refine wp_seq ?_
    refine wp_region_lit ?_
    refine sx_val (by kernel_rfl) rfl rfl (.pointer (some ⟨wr29.heap.size, 0, none⟩)) (by kernel_rfl) ?_
    refine sx_val (by kernel_rfl) rfl rfl (.int .i64 ((U.pa (be.getD m (0, 0)) : Nat) : Int)) (ex_load1 rfl (M30.cell 0 rfl) (by kernel_rfl) Try.underlying3 rfl) ?_
    refine sx_call (by kernel_rfl) rfl rfl ((by have h8 := isNumber_n ((U.pa (be.getD m (0, 0)) : Nat) : Int) W31; rw [show num62 ((U.pa (be.getD m (0, 0)) : Nat) : Int) = true by unfold num62; rw [decide_eq_true (by omega), decide_eq_true (by omega)]; rfl] at h8; exact h8)) (by kernel_rfl) ?_
    rintro e w9 ⟨rfl, rfl⟩
    refine ⟨_, rfl, ?_⟩
    refine sx_val (by kernel_rfl) rfl rfl (.bool true) (by kernel_rfl) ?_
    refine sx_val (by kernel_rfl) rfl rfl (.pointer (some ⟨wr29.heap.size, 1, none⟩)) (by kernel_rfl) ?_
    refine sx_val (by kernel_rfl) rfl rfl (.int .i64 ((U.pb (be.getD m (0, 0)) : Nat) : Int)) (ex_load1 rfl (M30.cell 1 rfl) (by kernel_rfl) Try.underlying3 rfl) ?_
    refine sx_bool (by kernel_rfl) rfl rfl (decide (0 ≤ ((U.pb (be.getD m (0, 0)) : Nat) : Int))) true (by kernel_rfl) (decide_eq_true (by omega)) ?_
    refine sx_val (by kernel_rfl) rfl rfl (.bool true) (by kernel_rfl) ?_
    refine sx_val (by kernel_rfl) rfl rfl (.bool true) (by kernel_rfl) ?_
    refine sx_val (by kernel_rfl) rfl rfl (.pointer (some ⟨wr29.heap.size, 1, none⟩)) (by kernel_rfl) ?_
    refine sx_val (by kernel_rfl) rfl rfl (.int .i64 ((U.pb (be.getD m (0, 0)) : Nat) : Int)) (ex_load1 rfl (M30.cell 1 rfl) (by kernel_rfl) Try.underlying3 rfl) ?_
    refine sx_val (by kernel_rfl) rfl rfl (.pointer (some ⟨W5.heap.size, 3, none⟩)) (by kernel_rfl) ?_
    refine sx_val (by kernel_rfl) rfl rfl (.slice (some ⟨W3.heap.size, 0, none⟩) ol.length ol.length) (ex_load1 rfl (M6.cell 3 rfl) (by kernel_rfl) Try.underlying64 rfl) ?_
    refine sx_val (by kernel_rfl) rfl rfl (.int .i64 ((ol.length : Nat) : Int)) (by kernel_rfl) ?_
    refine sx_bool (by kernel_rfl) rfl rfl (decide (((U.pb (be.getD m (0, 0)) : Nat) : Int) < ((ol.length : Nat) : Int))) true (by kernel_rfl) (decide_eq_true (by omega)) ?_
    refine sx_val (by kernel_rfl) rfl rfl (.bool true) (by kernel_rfl) ?_
    refine wpList_nil ?_
    refine sx_norm ?_
    refine sx_true (by kernel_rfl) ?_
    obtain ⟨Y32, hW⟩ : ∃ W, W31.drew = W := ⟨_, rfl⟩
    have hb : Below W31.heap.size W31 Y32 := hW ▸ below_drew (Below.refl _ _)
    replace HB := over HB hb
    replace M2 := M2.below hb
    replace M4 := M4.below hb
    replace HL := HL.trans (hb.mono (by omega))
    replace HL3 := HL3.trans (hb.mono (by omega))
    replace M6 := M6.below hb
    replace NA := NA.below hb
    replace M30 := M30.below hb
    have z8 := hb.size
    clear hb
    refine sd_begin (fun W => Rw W b3 q3 16 (oF ol vc) ol.length o3 ∧ Rw W b5 q5 2 (pF be) be.length o5 ∧ True) (by kernel_rfl) (by rw [hW]; exact ⟨(hr16.below HB), (hpr.below HB), trivial⟩) ?_
    rw [hW]
    clear hW
    refine sd_take 0 rfl (by kernel_rfl) (by kernel_rfl) (by kernel_rfl) (by kernel_rfl) rfl rfl (.pointer (some ⟨W5.heap.size, 3, none⟩)) (fun w9 _ => by kernel_rfl) (fun _ _ _ h => h) ⟨(hr16.below HB), (hpr.below HB), trivial⟩ ?_
    refine sd_take 2 rfl (by kernel_rfl) (by kernel_rfl) (by kernel_rfl) (by kernel_rfl) rfl rfl (.pointer (some ⟨wr29.heap.size, 1, none⟩)) (fun w9 _ => by kernel_rfl) (fun _ _ _ h => h) ⟨(hr16.below HB), (hpr.below HB), trivial⟩ ?_
    refine sd_take 6 rfl (by kernel_rfl) (by kernel_rfl) (by kernel_rfl) (by kernel_rfl) rfl rfl (.pointer (some ⟨wr29.heap.size, 0, none⟩)) (fun w9 _ => by kernel_rfl) (fun _ _ _ h => h) ⟨(hr16.below HB), (hpr.below HB), trivial⟩ ?_
    refine sd_all [1, 3, 7] (by kernel_rfl) (by decide) ?_
    refine sd_mem (i := 1) rfl (by kernel_rfl) rfl rfl (.slice (some ⟨W3.heap.size, 0, none⟩) ol.length ol.length) Y32 (ex_load1 rfl (M6.cell 3 rfl) (by kernel_rfl) Try.underlying64 rfl) ⟨(hr16.below HB), (hpr.below HB), trivial⟩ ?_ ?_
    · refine sd_all [3, 7] (by kernel_rfl) (by decide) ?_
      refine sd_mem (i := 3) rfl (by kernel_rfl) rfl rfl (.int .i64 ((U.pb (be.getD m (0, 0)) : Nat) : Int)) Y32 (ex_load1 rfl (M30.cell 1 rfl) (by kernel_rfl) Try.underlying3 rfl) ⟨(hr16.below HB), (hpr.below HB), trivial⟩ ?_ ?_
      · refine sd_take 4 rfl (by kernel_rfl) (by kernel_rfl) (by kernel_rfl) (by kernel_rfl) rfl rfl (.pointer (some ⟨W3.heap.size, 0 + (U.pb (be.getD m (0, 0))) * 1, none⟩)) (fun w9 h9 => ex_indexO (oa := some ⟨W3.heap.size, 0, none⟩) (q := 0) (m := ol.length) (c := ol.length) (k := (U.pb (be.getD m (0, 0)))) (s := 1) rfl (by kernel_rfl) rfl (by kernel_rfl) Try.underlying64 (by kernel_rfl) (by omega) (by omega)) (fun _ _ _ h => h) ⟨(hr16.below HB), (hpr.below HB), trivial⟩ ?_
        refine sd_all [5, 7] (by kernel_rfl) (by decide) ?_
        refine sd_mem (i := 5) rfl (by kernel_rfl) rfl rfl (.int .i64 (((wAK ol.length be m).getD (U.pb (be.getD m (0, 0))) 0 : Nat) : Int)) Y32 (ex_load1 rfl ((Rw.of_nC NA).cell (k := (U.pb (be.getD m (0, 0)))) (by rw [wAK_len]; omega) 0 rfl) (by kernel_rfl) Try.underlying3 rfl) ⟨(hr16.below HB), (hpr.below HB), trivial⟩ ?_ ?_
        · refine sd_all [7] (by kernel_rfl) (by decide) ?_
          refine sd_mem (i := 7) rfl (by kernel_rfl) rfl rfl (.int .i64 ((U.pa (be.getD m (0, 0)) : Nat) : Int)) Y32 (ex_load1 rfl (M30.cell 0 rfl) (by kernel_rfl) Try.underlying3 rfl) ⟨(hr16.below HB), (hpr.below HB), trivial⟩ ?_ AllReadyH.nil
          have hpj : 2 ^ (U.pa (be.getD m (0, 0))) ≤ 2 ^ 62 := Nat.pow_le_pow_right (by omega) (by omega)
          refine sd_take 8 rfl (by kernel_rfl) (by kernel_rfl) (by kernel_rfl) (by kernel_rfl) rfl rfl (.int .i64 ((2 ^ (U.pa (be.getD m (0, 0))) : Nat) : Int)) (fun w9 h9 => ex_shl rfl .i64 1 (U.pa (be.getD m (0, 0))) _ (by kernel_rfl) (by kernel_rfl) (by omega) (by rw [Int.one_mul, show ((2 : Int) ^ (U.pa (be.getD m (0, 0)))) = ((2 ^ (U.pa (be.getD m (0, 0))) : Nat) : Int) by simp]; exact S.wrap_n _ (by omega))) (fun _ _ _ h => h) ⟨(hr16.below HB), (hpr.below HB), trivial⟩ ?_
          have hak := wAK_lt hr m (by omega) (U.pb (be.getD m (0, 0))) hpb
          have hp10 : 2 ^ ol.length ≤ 2 ^ 10 := Nat.pow_le_pow_right (by omega) hn
          refine sd_take 9 rfl (by kernel_rfl) (by kernel_rfl) (by kernel_rfl) (by kernel_rfl) rfl rfl (.int .i64 ((((wAK ol.length be m).getD (U.pb (be.getD m (0, 0))) 0) ||| (2 ^ (U.pa (be.getD m (0, 0)))) : Nat) : Int)) (fun w9 _ => ex_int .i64 (bits .or .i64 (((wAK ol.length be m).getD (U.pb (be.getD m (0, 0))) 0 : Nat) : Int) ((2 ^ (U.pa (be.getD m (0, 0))) : Nat) : Int)) (((((wAK ol.length be m).getD (U.pb (be.getD m (0, 0))) 0) ||| (2 ^ (U.pa (be.getD m (0, 0)))) : Nat) : Int)) (by kernel_rfl) (S.i64_or _ _ (by omega) (by omega))) (fun _ _ _ h => h) ⟨(hr16.below HB), (hpr.below HB), trivial⟩ ?_
          refine sd_take 10 rfl (by kernel_rfl) (by kernel_rfl) (by kernel_rfl) (by kernel_rfl) rfl rfl (.pointer (some ⟨W3.heap.size, 0 + (U.pb (be.getD m (0, 0))) * 1, none⟩)) (fun w9 h9 => ex_indexO (oa := some ⟨W3.heap.size, 0, none⟩) (q := 0) (m := ol.length) (c := ol.length) (k := (U.pb (be.getD m (0, 0)))) (s := 1) rfl (by kernel_rfl) rfl (by kernel_rfl) Try.underlying64 (by kernel_rfl) (by omega) (by omega)) (fun _ _ _ h => h) ⟨(hr16.below HB), (hpr.below HB), trivial⟩ ?_
          refine sd_all [11] (by kernel_rfl) (by decide) ?_
          refine sd_do (i := 11) rfl (by kernel_rfl) rfl (Y32.setCell ⟨W3.heap.size, 0 + (U.pb (be.getD m (0, 0))) * 1, none⟩ (.int .i64 (((wAK ol.length be m).getD (U.pb (be.getD m (0, 0))) 0 ||| 2 ^ (U.pa (be.getD m (0, 0))) : Nat) : Int))) (ex_store1 rfl ((Rw.of_nC NA).cell (k := (U.pb (be.getD m (0, 0)))) (by rw [wAK_len]; omega) 0 rfl) (NA.f _) rfl (by kernel_rfl) (by kernel_rfl) (by kernel_rfl)) ⟨(hr16.below (HB.grown (grown_set Y32 (W3.heap.size) (0 + (U.pb (be.getD m (0, 0))) * 1) (.int .i64 (((wAK ol.length be m).getD (U.pb (be.getD m (0, 0))) 0 ||| 2 ^ (U.pa (be.getD m (0, 0))) : Nat) : Int))) (by omega) (fun x e => by simp only [Option.some.injEq] at e; omega))), (hpr.below (HB.grown (grown_set Y32 (W3.heap.size) (0 + (U.pb (be.getD m (0, 0))) * 1) (.int .i64 (((wAK ol.length be m).getD (U.pb (be.getD m (0, 0))) 0 ||| 2 ^ (U.pa (be.getD m (0, 0))) : Nat) : Int))) (by omega) (fun x e => by simp only [Option.some.injEq] at e; omega))), trivial⟩ ?_ AllReadyH.nil
          obtain ⟨W33, hW⟩ : ∃ W, Y32.setCell ⟨W3.heap.size, 0 + (U.pb (be.getD m (0, 0))) * 1, none⟩ (.int .i64 (((wAK ol.length be m).getD (U.pb (be.getD m (0, 0))) 0 ||| 2 ^ (U.pa (be.getD m (0, 0))) : Nat) : Int)) = W := ⟨_, rfl⟩
          have hg : Y32.grownBy W33 (some (W3.heap.size)) := hW ▸ grown_set _ _ _ _
          have hq : Cb W33 (W3.heap.size) (nC (wAK ol.length be (m + 1))) 3 := by
            have h8 := NA.set (0 + (U.pb (be.getD m (0, 0))) * 1) (.int .i64 (((wAK ol.length be m).getD (U.pb (be.getD m (0, 0))) 0 ||| 2 ^ (U.pa (be.getD m (0, 0))) : Nat) : Int))
            rw [hW, show 0 + (U.pb (be.getD m (0, 0))) * 1 = (U.pb (be.getD m (0, 0))) by omega, nC_set] at h8
            exact h8
          rw [hW]
          replace HB := HB.grown hg (by omega) (fun x e => by simp only [Option.some.injEq] at e; omega)
          replace M2 := M2.kept hg (by omega)
          replace M4 := M4.kept hg (by omega)
          replace HL := HL.grown hg (by omega) (fun x e => by simp only [Option.some.injEq] at e; omega)
          replace HL3 := HL3.grown hg (by omega) (fun x e => by simp only [Option.some.injEq] at e; omega)
          replace M6 := M6.kept hg (by omega)
          replace M30 := M30.kept hg (by omega)
          have z9 := hg.size
          replace NA := hq
          clear hq hg hW
          refine sd_done (by kernel_rfl) ?_
          refine sx_in ?_
          refine sx_norm ?_
          refine wp_region_lit ?_
          refine sx_int (by kernel_rfl) rfl rfl .i64 (IntKind.i64.wrap (((m : Nat) : Int) + 1)) (((m + 1 : Nat) : Int)) (by kernel_rfl) (by rw [IntKind.wrap_i64]; omega) ?_
          refine sx_val (by kernel_rfl) rfl rfl (.int .i64 ((m + 1 : Nat) : Int)) (by kernel_rfl) ?_
          refine wpList_nil ?_
          refine sx_norm ?_
          exact sx_again (be.length - (m + 1)) (m + 1) (by omega) (by kernel_rfl) ⟨by omega, Nat.le_refl _, M6, NA, HL3⟩
        refine sd_mem (i := 7) rfl (by kernel_rfl) rfl rfl (.int .i64 ((U.pa (be.getD m (0, 0)) : Nat) : Int)) Y32 (ex_load1 rfl (M30.cell 0 rfl) (by kernel_rfl) Try.underlying3 rfl) ⟨(hr16.below HB), (hpr.below HB), trivial⟩ ?_ AllReadyH.nil
        have hpj : 2 ^ (U.pa (be.getD m (0, 0))) ≤ 2 ^ 62 := Nat.pow_le_pow_right (by omega) (by omega)
        refine sd_take 8 rfl (by kernel_rfl) (by kernel_rfl) (by kernel_rfl) (by kernel_rfl) rfl rfl (.int .i64 ((2 ^ (U.pa (be.getD m (0, 0))) : Nat) : Int)) (fun w9 h9 => ex_shl rfl .i64 1 (U.pa (be.getD m (0, 0))) _ (by kernel_rfl) (by kernel_rfl) (by omega) (by rw [Int.one_mul, show ((2 : Int) ^ (U.pa (be.getD m (0, 0)))) = ((2 ^ (U.pa (be.getD m (0, 0))) : Nat) : Int) by simp]; exact S.wrap_n _ (by omega))) (fun _ _ _ h => h) ⟨(hr16.below HB), (hpr.below HB), trivial⟩ ?_
        refine sd_all [5] (by kernel_rfl) (by decide) ?_
        refine sd_mem (i := 5) rfl (by kernel_rfl) rfl rfl (.int .i64 (((wAK ol.length be m).getD (U.pb (be.getD m (0, 0))) 0 : Nat) : Int)) Y32 (ex_load1 rfl ((Rw.of_nC NA).cell (k := (U.pb (be.getD m (0, 0)))) (by rw [wAK_len]; omega) 0 rfl) (by kernel_rfl) Try.underlying3 rfl) ⟨(hr16.below HB), (hpr.below HB), trivial⟩ ?_ AllReadyH.nil
        have hak := wAK_lt hr m (by omega) (U.pb (be.getD m (0, 0))) hpb
        have hp10 : 2 ^ ol.length ≤ 2 ^ 10 := Nat.pow_le_pow_right (by omega) hn
        refine sd_take 9 rfl (by kernel_rfl) (by kernel_rfl) (by kernel_rfl) (by kernel_rfl) rfl rfl (.int .i64 ((((wAK ol.length be m).getD (U.pb (be.getD m (0, 0))) 0) ||| (2 ^ (U.pa (be.getD m (0, 0)))) : Nat) : Int)) (fun w9 _ => ex_int .i64 (bits .or .i64 (((wAK ol.length be m).getD (U.pb (be.getD m (0, 0))) 0 : Nat) : Int) ((2 ^ (U.pa (be.getD m (0, 0))) : Nat) : Int)) (((((wAK ol.length be m).getD (U.pb (be.getD m (0, 0))) 0) ||| (2 ^ (U.pa (be.getD m (0, 0)))) : Nat) : Int)) (by kernel_rfl) (S.i64_or _ _ (by omega) (by omega))) (fun _ _ _ h => h) ⟨(hr16.below HB), (hpr.below HB), trivial⟩ ?_
        refine sd_take 10 rfl (by kernel_rfl) (by kernel_rfl) (by kernel_rfl) (by kernel_rfl) rfl rfl (.pointer (some ⟨W3.heap.size, 0 + (U.pb (be.getD m (0, 0))) * 1, none⟩)) (fun w9 h9 => ex_indexO (oa := some ⟨W3.heap.size, 0, none⟩) (q := 0) (m := ol.length) (c := ol.length) (k := (U.pb (be.getD m (0, 0)))) (s := 1) rfl (by kernel_rfl) rfl (by kernel_rfl) Try.underlying64 (by kernel_rfl) (by omega) (by omega)) (fun _ _ _ h => h) ⟨(hr16.below HB), (hpr.below HB), trivial⟩ ?_
        refine sd_all [11] (by kernel_rfl) (by decide) ?_
        refine sd_do (i := 11) rfl (by kernel_rfl) rfl (Y32.setCell ⟨W3.heap.size, 0 + (U.pb (be.getD m (0, 0))) * 1, none⟩ (.int .i64 (((wAK ol.length be m).getD (U.pb (be.getD m (0, 0))) 0 ||| 2 ^ (U.pa (be.getD m (0, 0))) : Nat) : Int))) (ex_store1 rfl ((Rw.of_nC NA).cell (k := (U.pb (be.getD m (0, 0)))) (by rw [wAK_len]; omega) 0 rfl) (NA.f _) rfl (by kernel_rfl) (by kernel_rfl) (by kernel_rfl)) ⟨(hr16.below (HB.grown (grown_set Y32 (W3.heap.size) (0 + (U.pb (be.getD m (0, 0))) * 1) (.int .i64 (((wAK ol.length be m).getD (U.pb (be.getD m (0, 0))) 0 ||| 2 ^ (U.pa (be.getD m (0, 0))) : Nat) : Int))) (by omega) (fun x e => by simp only [Option.some.injEq] at e; omega))), (hpr.below (HB.grown (grown_set Y32 (W3.heap.size) (0 + (U.pb (be.getD m (0, 0))) * 1) (.int .i64 (((wAK ol.length be m).getD (U.pb (be.getD m (0, 0))) 0 ||| 2 ^ (U.pa (be.getD m (0, 0))) : Nat) : Int))) (by omega) (fun x e => by simp only [Option.some.injEq] at e; omega))), trivial⟩ ?_ AllReadyH.nil
        obtain ⟨W34, hW⟩ : ∃ W, Y32.setCell ⟨W3.heap.size, 0 + (U.pb (be.getD m (0, 0))) * 1, none⟩ (.int .i64 (((wAK ol.length be m).getD (U.pb (be.getD m (0, 0))) 0 ||| 2 ^ (U.pa (be.getD m (0, 0))) : Nat) : Int)) = W := ⟨_, rfl⟩
        have hg : Y32.grownBy W34 (some (W3.heap.size)) := hW ▸ grown_set _ _ _ _
        have hq : Cb W34 (W3.heap.size) (nC (wAK ol.length be (m + 1))) 3 := by
          have h8 := NA.set (0 + (U.pb (be.getD m (0, 0))) * 1) (.int .i64 (((wAK ol.length be m).getD (U.pb (be.getD m (0, 0))) 0 ||| 2 ^ (U.pa (be.getD m (0, 0))) : Nat) : Int))
          rw [hW, show 0 + (U.pb (be.getD m (0, 0))) * 1 = (U.pb (be.getD m (0, 0))) by omega, nC_set] at h8
          exact h8
        rw [hW]
        replace HB := HB.grown hg (by omega) (fun x e => by simp only [Option.some.injEq] at e; omega)
        replace M2 := M2.kept hg (by omega)
        replace M4 := M4.kept hg (by omega)
        replace HL := HL.grown hg (by omega) (fun x e => by simp only [Option.some.injEq] at e; omega)
        replace HL3 := HL3.grown hg (by omega) (fun x e => by simp only [Option.some.injEq] at e; omega)
        replace M6 := M6.kept hg (by omega)
        replace M30 := M30.kept hg (by omega)
        have z9 := hg.size
        replace NA := hq
        clear hq hg hW
        refine sd_done (by kernel_rfl) ?_
        refine sx_in ?_
        refine sx_norm ?_
        refine wp_region_lit ?_
        refine sx_int (by kernel_rfl) rfl rfl .i64 (IntKind.i64.wrap (((m : Nat) : Int) + 1)) (((m + 1 : Nat) : Int)) (by kernel_rfl) (by rw [IntKind.wrap_i64]; omega) ?_
        refine sx_val (by kernel_rfl) rfl rfl (.int .i64 ((m + 1 : Nat) : Int)) (by kernel_rfl) ?_
        refine wpList_nil ?_
        refine sx_norm ?_
        exact sx_again (be.length - (m + 1)) (m + 1) (by omega) (by kernel_rfl) ⟨by omega, Nat.le_refl _, M6, NA, HL3⟩
      refine sd_mem (i := 7) rfl (by kernel_rfl) rfl rfl (.int .i64 ((U.pa (be.getD m (0, 0)) : Nat) : Int)) Y32 (ex_load1 rfl (M30.cell 0 rfl) (by kernel_rfl) Try.underlying3 rfl) ⟨(hr16.below HB), (hpr.below HB), trivial⟩ ?_ AllReadyH.nil
      have hpj : 2 ^ (U.pa (be.getD m (0, 0))) ≤ 2 ^ 62 := Nat.pow_le_pow_right (by omega) (by omega)
      refine sd_take 8 rfl (by kernel_rfl) (by kernel_rfl) (by kernel_rfl) (by kernel_rfl) rfl rfl (.int .i64 ((2 ^ (U.pa (be.getD m (0, 0))) : Nat) : Int)) (fun w9 h9 => ex_shl rfl .i64 1 (U.pa (be.getD m (0, 0))) _ (by kernel_rfl) (by kernel_rfl) (by omega) (by rw [Int.one_mul, show ((2 : Int) ^ (U.pa (be.getD m (0, 0)))) = ((2 ^ (U.pa (be.getD m (0, 0))) : Nat) : Int) by simp]; exact S.wrap_n _ (by omega))) (fun _ _ _ h => h) ⟨(hr16.below HB), (hpr.below HB), trivial⟩ ?_
      refine sd_all [3] (by kernel_rfl) (by decide) ?_
      refine sd_mem (i := 3) rfl (by kernel_rfl) rfl rfl (.int .i64 ((U.pb (be.getD m (0, 0)) : Nat) : Int)) Y32 (ex_load1 rfl (M30.cell 1 rfl) (by kernel_rfl) Try.underlying3 rfl) ⟨(hr16.below HB), (hpr.below HB), trivial⟩ ?_ AllReadyH.nil
      refine sd_take 4 rfl (by kernel_rfl) (by kernel_rfl) (by kernel_rfl) (by kernel_rfl) rfl rfl (.pointer (some ⟨W3.heap.size, 0 + (U.pb (be.getD m (0, 0))) * 1, none⟩)) (fun w9 h9 => ex_indexO (oa := some ⟨W3.heap.size, 0, none⟩) (q := 0) (m := ol.length) (c := ol.length) (k := (U.pb (be.getD m (0, 0)))) (s := 1) rfl (by kernel_rfl) rfl (by kernel_rfl) Try.underlying64 (by kernel_rfl) (by omega) (by omega)) (fun _ _ _ h => h) ⟨(hr16.below HB), (hpr.below HB), trivial⟩ ?_
      refine sd_all [5] (by kernel_rfl) (by decide) ?_
      refine sd_mem (i := 5) rfl (by kernel_rfl) rfl rfl (.int .i64 (((wAK ol.length be m).getD (U.pb (be.getD m (0, 0))) 0 : Nat) : Int)) Y32 (ex_load1 rfl ((Rw.of_nC NA).cell (k := (U.pb (be.getD m (0, 0)))) (by rw [wAK_len]; omega) 0 rfl) (by kernel_rfl) Try.underlying3 rfl) ⟨(hr16.below HB), (hpr.below HB), trivial⟩ ?_ AllReadyH.nil
      have hak := wAK_lt hr m (by omega) (U.pb (be.getD m (0, 0))) hpb
      have hp10 : 2 ^ ol.length ≤ 2 ^ 10 := Nat.pow_le_pow_right (by omega) hn
      refine sd_take 9 rfl (by kernel_rfl) (by kernel_rfl) (by kernel_rfl) (by kernel_rfl) rfl rfl (.int .i64 ((((wAK ol.length be m).getD (U.pb (be.getD m (0, 0))) 0) ||| (2 ^ (U.pa (be.getD m (0, 0)))) : Nat) : Int)) (fun w9 _ => ex_int .i64 (bits .or .i64 (((wAK ol.length be m).getD (U.pb (be.getD m (0, 0))) 0 : Nat) : Int) ((2 ^ (U.pa (be.getD m (0, 0))) : Nat) : Int)) (((((wAK ol.length be m).getD (U.pb (be.getD m (0, 0))) 0) ||| (2 ^ (U.pa (be.getD m (0, 0)))) : Nat) : Int)) (by kernel_rfl) (S.i64_or _ _ (by omega) (by omega))) (fun _ _ _ h => h) ⟨(hr16.below HB), (hpr.below HB), trivial⟩ ?_
      refine sd_take 10 rfl (by kernel_rfl) (by kernel_rfl) (by kernel_rfl) (by kernel_rfl) rfl rfl (.pointer (some ⟨W3.heap.size, 0 + (U.pb (be.getD m (0, 0))) * 1, none⟩)) (fun w9 h9 => ex_indexO (oa := some ⟨W3.heap.size, 0, none⟩) (q := 0) (m := ol.length) (c := ol.length) (k := (U.pb (be.getD m (0, 0)))) (s := 1) rfl (by kernel_rfl) rfl (by kernel_rfl) Try.underlying64 (by kernel_rfl) (by omega) (by omega)) (fun _ _ _ h => h) ⟨(hr16.below HB), (hpr.below HB), trivial⟩ ?_
      refine sd_all [11] (by kernel_rfl) (by decide) ?_
      refine sd_do (i := 11) rfl (by kernel_rfl) rfl (Y32.setCell ⟨W3.heap.size, 0 + (U.pb (be.getD m (0, 0))) * 1, none⟩ (.int .i64 (((wAK ol.length be m).getD (U.pb (be.getD m (0, 0))) 0 ||| 2 ^ (U.pa (be.getD m (0, 0))) : Nat) : Int))) (ex_store1 rfl ((Rw.of_nC NA).cell (k := (U.pb (be.getD m (0, 0)))) (by rw [wAK_len]; omega) 0 rfl) (NA.f _) rfl (by kernel_rfl) (by kernel_rfl) (by kernel_rfl)) ⟨(hr16.below (HB.grown (grown_set Y32 (W3.heap.size) (0 + (U.pb (be.getD m (0, 0))) * 1) (.int .i64 (((wAK ol.length be m).getD (U.pb (be.getD m (0, 0))) 0 ||| 2 ^ (U.pa (be.getD m (0, 0))) : Nat) : Int))) (by omega) (fun x e => by simp only [Option.some.injEq] at e; omega))), (hpr.below (HB.grown (grown_set Y32 (W3.heap.size) (0 + (U.pb (be.getD m (0, 0))) * 1) (.int .i64 (((wAK ol.length be m).getD (U.pb (be.getD m (0, 0))) 0 ||| 2 ^ (U.pa (be.getD m (0, 0))) : Nat) : Int))) (by omega) (fun x e => by simp only [Option.some.injEq] at e; omega))), trivial⟩ ?_ AllReadyH.nil
      obtain ⟨W35, hW⟩ : ∃ W, Y32.setCell ⟨W3.heap.size, 0 + (U.pb (be.getD m (0, 0))) * 1, none⟩ (.int .i64 (((wAK ol.length be m).getD (U.pb (be.getD m (0, 0))) 0 ||| 2 ^ (U.pa (be.getD m (0, 0))) : Nat) : Int)) = W := ⟨_, rfl⟩
      have hg : Y32.grownBy W35 (some (W3.heap.size)) := hW ▸ grown_set _ _ _ _
      have hq : Cb W35 (W3.heap.size) (nC (wAK ol.length be (m + 1))) 3 := by
        have h8 := NA.set (0 + (U.pb (be.getD m (0, 0))) * 1) (.int .i64 (((wAK ol.length be m).getD (U.pb (be.getD m (0, 0))) 0 ||| 2 ^ (U.pa (be.getD m (0, 0))) : Nat) : Int))
        rw [hW, show 0 + (U.pb (be.getD m (0, 0))) * 1 = (U.pb (be.getD m (0, 0))) by omega, nC_set] at h8
        exact h8
      rw [hW]
      replace HB := HB.grown hg (by omega) (fun x e => by simp only [Option.some.injEq] at e; omega)
      replace M2 := M2.kept hg (by omega)
      replace M4 := M4.kept hg (by omega)
      replace HL := HL.grown hg (by omega) (fun x e => by simp only [Option.some.injEq] at e; omega)
      replace HL3 := HL3.grown hg (by omega) (fun x e => by simp only [Option.some.injEq] at e; omega)
      replace M6 := M6.kept hg (by omega)
      replace M30 := M30.kept hg (by omega)
      have z9 := hg.size
      replace NA := hq
      clear hq hg hW
      refine sd_done (by kernel_rfl) ?_
      refine sx_in ?_
      refine sx_norm ?_
      refine wp_region_lit ?_
      refine sx_int (by kernel_rfl) rfl rfl .i64 (IntKind.i64.wrap (((m : Nat) : Int) + 1)) (((m + 1 : Nat) : Int)) (by kernel_rfl) (by rw [IntKind.wrap_i64]; omega) ?_
      refine sx_val (by kernel_rfl) rfl rfl (.int .i64 ((m + 1 : Nat) : Int)) (by kernel_rfl) ?_
      refine wpList_nil ?_
      refine sx_norm ?_
      exact sx_again (be.length - (m + 1)) (m + 1) (by omega) (by kernel_rfl) ⟨by omega, Nat.le_refl _, M6, NA, HL3⟩
    refine sd_mem (i := 3) rfl (by kernel_rfl) rfl rfl (.int .i64 ((U.pb (be.getD m (0, 0)) : Nat) : Int)) Y32 (ex_load1 rfl (M30.cell 1 rfl) (by kernel_rfl) Try.underlying3 rfl) ⟨(hr16.below HB), (hpr.below HB), trivial⟩ ?_ ?_
    · refine sd_all [1, 7] (by kernel_rfl) (by decide) ?_
      refine sd_mem (i := 1) rfl (by kernel_rfl) rfl rfl (.slice (some ⟨W3.heap.size, 0, none⟩) ol.length ol.length) Y32 (ex_load1 rfl (M6.cell 3 rfl) (by kernel_rfl) Try.underlying64 rfl) ⟨(hr16.below HB), (hpr.below HB), trivial⟩ ?_ ?_
      · refine sd_take 4 rfl (by kernel_rfl) (by kernel_rfl) (by kernel_rfl) (by kernel_rfl) rfl rfl (.pointer (some ⟨W3.heap.size, 0 + (U.pb (be.getD m (0, 0))) * 1, none⟩)) (fun w9 h9 => ex_indexO (oa := some ⟨W3.heap.size, 0, none⟩) (q := 0) (m := ol.length) (c := ol.length) (k := (U.pb (be.getD m (0, 0)))) (s := 1) rfl (by kernel_rfl) rfl (by kernel_rfl) Try.underlying64 (by kernel_rfl) (by omega) (by omega)) (fun _ _ _ h => h) ⟨(hr16.below HB), (hpr.below HB), trivial⟩ ?_
        refine sd_all [5, 7] (by kernel_rfl) (by decide) ?_
        refine sd_mem (i := 5) rfl (by kernel_rfl) rfl rfl (.int .i64 (((wAK ol.length be m).getD (U.pb (be.getD m (0, 0))) 0 : Nat) : Int)) Y32 (ex_load1 rfl ((Rw.of_nC NA).cell (k := (U.pb (be.getD m (0, 0)))) (by rw [wAK_len]; omega) 0 rfl) (by kernel_rfl) Try.underlying3 rfl) ⟨(hr16.below HB), (hpr.below HB), trivial⟩ ?_ ?_
        · refine sd_all [7] (by kernel_rfl) (by decide) ?_
          refine sd_mem (i := 7) rfl (by kernel_rfl) rfl rfl (.int .i64 ((U.pa (be.getD m (0, 0)) : Nat) : Int)) Y32 (ex_load1 rfl (M30.cell 0 rfl) (by kernel_rfl) Try.underlying3 rfl) ⟨(hr16.below HB), (hpr.below HB), trivial⟩ ?_ AllReadyH.nil
          have hpj : 2 ^ (U.pa (be.getD m (0, 0))) ≤ 2 ^ 62 := Nat.pow_le_pow_right (by omega) (by omega)
          refine sd_take 8 rfl (by kernel_rfl) (by kernel_rfl) (by kernel_rfl) (by kernel_rfl) rfl rfl (.int .i64 ((2 ^ (U.pa (be.getD m (0, 0))) : Nat) : Int)) (fun w9 h9 => ex_shl rfl .i64 1 (U.pa (be.getD m (0, 0))) _ (by kernel_rfl) (by kernel_rfl) (by omega) (by rw [Int.one_mul, show ((2 : Int) ^ (U.pa (be.getD m (0, 0)))) = ((2 ^ (U.pa (be.getD m (0, 0))) : Nat) : Int) by simp]; exact S.wrap_n _ (by omega))) (fun _ _ _ h => h) ⟨(hr16.below HB), (hpr.below HB), trivial⟩ ?_
          have hak := wAK_lt hr m (by omega) (U.pb (be.getD m (0, 0))) hpb
          have hp10 : 2 ^ ol.length ≤ 2 ^ 10 := Nat.pow_le_pow_right (by omega) hn
          refine sd_take 9 rfl (by kernel_rfl) (by kernel_rfl) (by kernel_rfl) (by kernel_rfl) rfl rfl (.int .i64 ((((wAK ol.length be m).getD (U.pb (be.getD m (0, 0))) 0) ||| (2 ^ (U.pa (be.getD m (0, 0)))) : Nat) : Int)) (fun w9 _ => ex_int .i64 (bits .or .i64 (((wAK ol.length be m).getD (U.pb (be.getD m (0, 0))) 0 : Nat) : Int) ((2 ^ (U.pa (be.getD m (0, 0))) : Nat) : Int)) (((((wAK ol.length be m).getD (U.pb (be.getD m (0, 0))) 0) ||| (2 ^ (U.pa (be.getD m (0, 0)))) : Nat) : Int)) (by kernel_rfl) (S.i64_or _ _ (by omega) (by omega))) (fun _ _ _ h => h) ⟨(hr16.below HB), (hpr.below HB), trivial⟩ ?_
          refine sd_take 10 rfl (by kernel_rfl) (by kernel_rfl) (by kernel_rfl) (by kernel_rfl) rfl rfl (.pointer (some ⟨W3.heap.size, 0 + (U.pb (be.getD m (0, 0))) * 1, none⟩)) (fun w9 h9 => ex_indexO (oa := some ⟨W3.heap.size, 0, none⟩) (q := 0) (m := ol.length) (c := ol.length) (k := (U.pb (be.getD m (0, 0)))) (s := 1) rfl (by kernel_rfl) rfl (by kernel_rfl) Try.underlying64 (by kernel_rfl) (by omega) (by omega)) (fun _ _ _ h => h) ⟨(hr16.below HB), (hpr.below HB), trivial⟩ ?_
          refine sd_all [11] (by kernel_rfl) (by decide) ?_
          refine sd_do (i := 11) rfl (by kernel_rfl) rfl (Y32.setCell ⟨W3.heap.size, 0 + (U.pb (be.getD m (0, 0))) * 1, none⟩ (.int .i64 (((wAK ol.length be m).getD (U.pb (be.getD m (0, 0))) 0 ||| 2 ^ (U.pa (be.getD m (0, 0))) : Nat) : Int))) (ex_store1 rfl ((Rw.of_nC NA).cell (k := (U.pb (be.getD m (0, 0)))) (by rw [wAK_len]; omega) 0 rfl) (NA.f _) rfl (by kernel_rfl) (by kernel_rfl) (by kernel_rfl)) ⟨(hr16.below (HB.grown (grown_set Y32 (W3.heap.size) (0 + (U.pb (be.getD m (0, 0))) * 1) (.int .i64 (((wAK ol.length be m).getD (U.pb (be.getD m (0, 0))) 0 ||| 2 ^ (U.pa (be.getD m (0, 0))) : Nat) : Int))) (by omega) (fun x e => by simp only [Option.some.injEq] at e; omega))), (hpr.below (HB.grown (grown_set Y32 (W3.heap.size) (0 + (U.pb (be.getD m (0, 0))) * 1) (.int .i64 (((wAK ol.length be m).getD (U.pb (be.getD m (0, 0))) 0 ||| 2 ^ (U.pa (be.getD m (0, 0))) : Nat) : Int))) (by omega) (fun x e => by simp only [Option.some.injEq] at e; omega))), trivial⟩ ?_ AllReadyH.nil
          obtain ⟨W36, hW⟩ : ∃ W, Y32.setCell ⟨W3.heap.size, 0 + (U.pb (be.getD m (0, 0))) * 1, none⟩ (.int .i64 (((wAK ol.length be m).getD (U.pb (be.getD m (0, 0))) 0 ||| 2 ^ (U.pa (be.getD m (0, 0))) : Nat) : Int)) = W := ⟨_, rfl⟩
          have hg : Y32.grownBy W36 (some (W3.heap.size)) := hW ▸ grown_set _ _ _ _
          have hq : Cb W36 (W3.heap.size) (nC (wAK ol.length be (m + 1))) 3 := by
            have h8 := NA.set (0 + (U.pb (be.getD m (0, 0))) * 1) (.int .i64 (((wAK ol.length be m).getD (U.pb (be.getD m (0, 0))) 0 ||| 2 ^ (U.pa (be.getD m (0, 0))) : Nat) : Int))
            rw [hW, show 0 + (U.pb (be.getD m (0, 0))) * 1 = (U.pb (be.getD m (0, 0))) by omega, nC_set] at h8
            exact h8
          rw [hW]
          replace HB := HB.grown hg (by omega) (fun x e => by simp only [Option.some.injEq] at e; omega)
          replace M2 := M2.kept hg (by omega)
          replace M4 := M4.kept hg (by omega)
          replace HL := HL.grown hg (by omega) (fun x e => by simp only [Option.some.injEq] at e; omega)
          replace HL3 := HL3.grown hg (by omega) (fun x e => by simp only [Option.some.injEq] at e; omega)
          replace M6 := M6.kept hg (by omega)
          replace M30 := M30.kept hg (by omega)
          have z9 := hg.size
          replace NA := hq
          clear hq hg hW
          refine sd_done (by kernel_rfl) ?_
          refine sx_in ?_
          refine sx_norm ?_
          refine wp_region_lit ?_
          refine sx_int (by kernel_rfl) rfl rfl .i64 (IntKind.i64.wrap (((m : Nat) : Int) + 1)) (((m + 1 : Nat) : Int)) (by kernel_rfl) (by rw [IntKind.wrap_i64]; omega) ?_
          refine sx_val (by kernel_rfl) rfl rfl (.int .i64 ((m + 1 : Nat) : Int)) (by kernel_rfl) ?_
          refine wpList_nil ?_
          refine sx_norm ?_
          exact sx_again (be.length - (m + 1)) (m + 1) (by omega) (by kernel_rfl) ⟨by omega, Nat.le_refl _, M6, NA, HL3⟩
        refine sd_mem (i := 7) rfl (by kernel_rfl) rfl rfl (.int .i64 ((U.pa (be.getD m (0, 0)) : Nat) : Int)) Y32 (ex_load1 rfl (M30.cell 0 rfl) (by kernel_rfl) Try.underlying3 rfl) ⟨(hr16.below HB), (hpr.below HB), trivial⟩ ?_ AllReadyH.nil
        have hpj : 2 ^ (U.pa (be.getD m (0, 0))) ≤ 2 ^ 62 := Nat.pow_le_pow_right (by omega) (by omega)
        refine sd_take 8 rfl (by kernel_rfl) (by kernel_rfl) (by kernel_rfl) (by kernel_rfl) rfl rfl (.int .i64 ((2 ^ (U.pa (be.getD m (0, 0))) : Nat) : Int)) (fun w9 h9 => ex_shl rfl .i64 1 (U.pa (be.getD m (0, 0))) _ (by kernel_rfl) (by kernel_rfl) (by omega) (by rw [Int.one_mul, show ((2 : Int) ^ (U.pa (be.getD m (0, 0)))) = ((2 ^ (U.pa (be.getD m (0, 0))) : Nat) : Int) by simp]; exact S.wrap_n _ (by omega))) (fun _ _ _ h => h) ⟨(hr16.below HB), (hpr.below HB), trivial⟩ ?_
        refine sd_all [5] (by kernel_rfl) (by decide) ?_
        refine sd_mem (i := 5) rfl (by kernel_rfl) rfl rfl (.int .i64 (((wAK ol.length be m).getD (U.pb (be.getD m (0, 0))) 0 : Nat) : Int)) Y32 (ex_load1 rfl ((Rw.of_nC NA).cell (k := (U.pb (be.getD m (0, 0)))) (by rw [wAK_len]; omega) 0 rfl) (by kernel_rfl) Try.underlying3 rfl) ⟨(hr16.below HB), (hpr.below HB), trivial⟩ ?_ AllReadyH.nil
        have hak := wAK_lt hr m (by omega) (U.pb (be.getD m (0, 0))) hpb
        have hp10 : 2 ^ ol.length ≤ 2 ^ 10 := Nat.pow_le_pow_right (by omega) hn
        refine sd_take 9 rfl (by kernel_rfl) (by kernel_rfl) (by kernel_rfl) (by kernel_rfl) rfl rfl (.int .i64 ((((wAK ol.length be m).getD (U.pb (be.getD m (0, 0))) 0) ||| (2 ^ (U.pa (be.getD m (0, 0)))) : Nat) : Int)) (fun w9 _ => ex_int .i64 (bits .or .i64 (((wAK ol.length be m).getD (U.pb (be.getD m (0, 0))) 0 : Nat) : Int) ((2 ^ (U.pa (be.getD m (0, 0))) : Nat) : Int)) (((((wAK ol.length be m).getD (U.pb (be.getD m (0, 0))) 0) ||| (2 ^ (U.pa (be.getD m (0, 0)))) : Nat) : Int)) (by kernel_rfl) (S.i64_or _ _ (by omega) (by omega))) (fun _ _ _ h => h) ⟨(hr16.below HB), (hpr.below HB), trivial⟩ ?_
        refine sd_take 10 rfl (by kernel_rfl) (by kernel_rfl) (by kernel_rfl) (by kernel_rfl) rfl rfl (.pointer (some ⟨W3.heap.size, 0 + (U.pb (be.getD m (0, 0))) * 1, none⟩)) (fun w9 h9 => ex_indexO (oa := some ⟨W3.heap.size, 0, none⟩) (q := 0) (m := ol.length) (c := ol.length) (k := (U.pb (be.getD m (0, 0)))) (s := 1) rfl (by kernel_rfl) rfl (by kernel_rfl) Try.underlying64 (by kernel_rfl) (by omega) (by omega)) (fun _ _ _ h => h) ⟨(hr16.below HB), (hpr.below HB), trivial⟩ ?_
        refine sd_all [11] (by kernel_rfl) (by decide) ?_
        refine sd_do (i := 11) rfl (by kernel_rfl) rfl (Y32.setCell ⟨W3.heap.size, 0 + (U.pb (be.getD m (0, 0))) * 1, none⟩ (.int .i64 (((wAK ol.length be m).getD (U.pb (be.getD m (0, 0))) 0 ||| 2 ^ (U.pa (be.getD m (0, 0))) : Nat) : Int))) (ex_store1 rfl ((Rw.of_nC NA).cell (k := (U.pb (be.getD m (0, 0)))) (by rw [wAK_len]; omega) 0 rfl) (NA.f _) rfl (by kernel_rfl) (by kernel_rfl) (by kernel_rfl)) ⟨(hr16.below (HB.grown (grown_set Y32 (W3.heap.size) (0 + (U.pb (be.getD m (0, 0))) * 1) (.int .i64 (((wAK ol.length be m).getD (U.pb (be.getD m (0, 0))) 0 ||| 2 ^ (U.pa (be.getD m (0, 0))) : Nat) : Int))) (by omega) (fun x e => by simp only [Option.some.injEq] at e; omega))), (hpr.below (HB.grown (grown_set Y32 (W3.heap.size) (0 + (U.pb (be.getD m (0, 0))) * 1) (.int .i64 (((wAK ol.length be m).getD (U.pb (be.getD m (0, 0))) 0 ||| 2 ^ (U.pa (be.getD m (0, 0))) : Nat) : Int))) (by omega) (fun x e => by simp only [Option.some.injEq] at e; omega))), trivial⟩ ?_ AllReadyH.nil
        obtain ⟨W37, hW⟩ : ∃ W, Y32.setCell ⟨W3.heap.size, 0 + (U.pb (be.getD m (0, 0))) * 1, none⟩ (.int .i64 (((wAK ol.length be m).getD (U.pb (be.getD m (0, 0))) 0 ||| 2 ^ (U.pa (be.getD m (0, 0))) : Nat) : Int)) = W := ⟨_, rfl⟩
        have hg : Y32.grownBy W37 (some (W3.heap.size)) := hW ▸ grown_set _ _ _ _
        have hq : Cb W37 (W3.heap.size) (nC (wAK ol.length be (m + 1))) 3 := by
          have h8 := NA.set (0 + (U.pb (be.getD m (0, 0))) * 1) (.int .i64 (((wAK ol.length be m).getD (U.pb (be.getD m (0, 0))) 0 ||| 2 ^ (U.pa (be.getD m (0, 0))) : Nat) : Int))
          rw [hW, show 0 + (U.pb (be.getD m (0, 0))) * 1 = (U.pb (be.getD m (0, 0))) by omega, nC_set] at h8
          exact h8
        rw [hW]
        replace HB := HB.grown hg (by omega) (fun x e => by simp only [Option.some.injEq] at e; omega)
        replace M2 := M2.kept hg (by omega)
        replace M4 := M4.kept hg (by omega)
        replace HL := HL.grown hg (by omega) (fun x e => by simp only [Option.some.injEq] at e; omega)
        replace HL3 := HL3.grown hg (by omega) (fun x e => by simp only [Option.some.injEq] at e; omega)
        replace M6 := M6.kept hg (by omega)
        replace M30 := M30.kept hg (by omega)
        have z9 := hg.size
        replace NA := hq
        clear hq hg hW
        refine sd_done (by kernel_rfl) ?_
        refine sx_in ?_
        refine sx_norm ?_
        refine wp_region_lit ?_
        refine sx_int (by kernel_rfl) rfl rfl .i64 (IntKind.i64.wrap (((m : Nat) : Int) + 1)) (((m + 1 : Nat) : Int)) (by kernel_rfl) (by rw [IntKind.wrap_i64]; omega) ?_
        refine sx_val (by kernel_rfl) rfl rfl (.int .i64 ((m + 1 : Nat) : Int)) (by kernel_rfl) ?_
        refine wpList_nil ?_
        refine sx_norm ?_
        exact sx_again (be.length - (m + 1)) (m + 1) (by omega) (by kernel_rfl) ⟨by omega, Nat.le_refl _, M6, NA, HL3⟩
      refine sd_mem (i := 7) rfl (by kernel_rfl) rfl rfl (.int .i64 ((U.pa (be.getD m (0, 0)) : Nat) : Int)) Y32 (ex_load1 rfl (M30.cell 0 rfl) (by kernel_rfl) Try.underlying3 rfl) ⟨(hr16.below HB), (hpr.below HB), trivial⟩ ?_ AllReadyH.nil
      have hpj : 2 ^ (U.pa (be.getD m (0, 0))) ≤ 2 ^ 62 := Nat.pow_le_pow_right (by omega) (by omega)
      refine sd_take 8 rfl (by kernel_rfl) (by kernel_rfl) (by kernel_rfl) (by kernel_rfl) rfl rfl (.int .i64 ((2 ^ (U.pa (be.getD m (0, 0))) : Nat) : Int)) (fun w9 h9 => ex_shl rfl .i64 1 (U.pa (be.getD m (0, 0))) _ (by kernel_rfl) (by kernel_rfl) (by omega) (by rw [Int.one_mul, show ((2 : Int) ^ (U.pa (be.getD m (0, 0)))) = ((2 ^ (U.pa (be.getD m (0, 0))) : Nat) : Int) by simp]; exact S.wrap_n _ (by omega))) (fun _ _ _ h => h) ⟨(hr16.below HB), (hpr.below HB), trivial⟩ ?_
      refine sd_all [1] (by kernel_rfl) (by decide) ?_
      refine sd_mem (i := 1) rfl (by kernel_rfl) rfl rfl (.slice (some ⟨W3.heap.size, 0, none⟩) ol.length ol.length) Y32 (ex_load1 rfl (M6.cell 3 rfl) (by kernel_rfl) Try.underlying64 rfl) ⟨(hr16.below HB), (hpr.below HB), trivial⟩ ?_ AllReadyH.nil
      refine sd_take 4 rfl (by kernel_rfl) (by kernel_rfl) (by kernel_rfl) (by kernel_rfl) rfl rfl (.pointer (some ⟨W3.heap.size, 0 + (U.pb (be.getD m (0, 0))) * 1, none⟩)) (fun w9 h9 => ex_indexO (oa := some ⟨W3.heap.size, 0, none⟩) (q := 0) (m := ol.length) (c := ol.length) (k := (U.pb (be.getD m (0, 0)))) (s := 1) rfl (by kernel_rfl) rfl (by kernel_rfl) Try.underlying64 (by kernel_rfl) (by omega) (by omega)) (fun _ _ _ h => h) ⟨(hr16.below HB), (hpr.below HB), trivial⟩ ?_
      refine sd_all [5] (by kernel_rfl) (by decide) ?_
      refine sd_mem (i := 5) rfl (by kernel_rfl) rfl rfl (.int .i64 (((wAK ol.length be m).getD (U.pb (be.getD m (0, 0))) 0 : Nat) : Int)) Y32 (ex_load1 rfl ((Rw.of_nC NA).cell (k := (U.pb (be.getD m (0, 0)))) (by rw [wAK_len]; omega) 0 rfl) (by kernel_rfl) Try.underlying3 rfl) ⟨(hr16.below HB), (hpr.below HB), trivial⟩ ?_ AllReadyH.nil
      have hak := wAK_lt hr m (by omega) (U.pb (be.getD m (0, 0))) hpb
      have hp10 : 2 ^ ol.length ≤ 2 ^ 10 := Nat.pow_le_pow_right (by omega) hn
      refine sd_take 9 rfl (by kernel_rfl) (by kernel_rfl) (by kernel_rfl) (by kernel_rfl) rfl rfl (.int .i64 ((((wAK ol.length be m).getD (U.pb (be.getD m (0, 0))) 0) ||| (2 ^ (U.pa (be.getD m (0, 0)))) : Nat) : Int)) (fun w9 _ => ex_int .i64 (bits .or .i64 (((wAK ol.length be m).getD (U.pb (be.getD m (0, 0))) 0 : Nat) : Int) ((2 ^ (U.pa (be.getD m (0, 0))) : Nat) : Int)) (((((wAK ol.length be m).getD (U.pb (be.getD m (0, 0))) 0) ||| (2 ^ (U.pa (be.getD m (0, 0)))) : Nat) : Int)) (by kernel_rfl) (S.i64_or _ _ (by omega) (by omega))) (fun _ _ _ h => h) ⟨(hr16.below HB), (hpr.below HB), trivial⟩ ?_
      refine sd_take 10 rfl (by kernel_rfl) (by kernel_rfl) (by kernel_rfl) (by kernel_rfl) rfl rfl (.pointer (some ⟨W3.heap.size, 0 + (U.pb (be.getD m (0, 0))) * 1, none⟩)) (fun w9 h9 => ex_indexO (oa := some ⟨W3.heap.size, 0, none⟩) (q := 0) (m := ol.length) (c := ol.length) (k := (U.pb (be.getD m (0, 0)))) (s := 1) rfl (by kernel_rfl) rfl (by kernel_rfl) Try.underlying64 (by kernel_rfl) (by omega) (by omega)) (fun _ _ _ h => h) ⟨(hr16.below HB), (hpr.below HB), trivial⟩ ?_
      refine sd_all [11] (by kernel_rfl) (by decide) ?_
      refine sd_do (i := 11) rfl (by kernel_rfl) rfl (Y32.setCell ⟨W3.heap.size, 0 + (U.pb (be.getD m (0, 0))) * 1, none⟩ (.int .i64 (((wAK ol.length be m).getD (U.pb (be.getD m (0, 0))) 0 ||| 2 ^ (U.pa (be.getD m (0, 0))) : Nat) : Int))) (ex_store1 rfl ((Rw.of_nC NA).cell (k := (U.pb (be.getD m (0, 0)))) (by rw [wAK_len]; omega) 0 rfl) (NA.f _) rfl (by kernel_rfl) (by kernel_rfl) (by kernel_rfl)) ⟨(hr16.below (HB.grown (grown_set Y32 (W3.heap.size) (0 + (U.pb (be.getD m (0, 0))) * 1) (.int .i64 (((wAK ol.length be m).getD (U.pb (be.getD m (0, 0))) 0 ||| 2 ^ (U.pa (be.getD m (0, 0))) : Nat) : Int))) (by omega) (fun x e => by simp only [Option.some.injEq] at e; omega))), (hpr.below (HB.grown (grown_set Y32 (W3.heap.size) (0 + (U.pb (be.getD m (0, 0))) * 1) (.int .i64 (((wAK ol.length be m).getD (U.pb (be.getD m (0, 0))) 0 ||| 2 ^ (U.pa (be.getD m (0, 0))) : Nat) : Int))) (by omega) (fun x e => by simp only [Option.some.injEq] at e; omega))), trivial⟩ ?_ AllReadyH.nil
      obtain ⟨W38, hW⟩ : ∃ W, Y32.setCell ⟨W3.heap.size, 0 + (U.pb (be.getD m (0, 0))) * 1, none⟩ (.int .i64 (((wAK ol.length be m).getD (U.pb (be.getD m (0, 0))) 0 ||| 2 ^ (U.pa (be.getD m (0, 0))) : Nat) : Int)) = W := ⟨_, rfl⟩
      have hg : Y32.grownBy W38 (some (W3.heap.size)) := hW ▸ grown_set _ _ _ _
      have hq : Cb W38 (W3.heap.size) (nC (wAK ol.length be (m + 1))) 3 := by
        have h8 := NA.set (0 + (U.pb (be.getD m (0, 0))) * 1) (.int .i64 (((wAK ol.length be m).getD (U.pb (be.getD m (0, 0))) 0 ||| 2 ^ (U.pa (be.getD m (0, 0))) : Nat) : Int))
        rw [hW, show 0 + (U.pb (be.getD m (0, 0))) * 1 = (U.pb (be.getD m (0, 0))) by omega, nC_set] at h8
        exact h8
      rw [hW]
      replace HB := HB.grown hg (by omega) (fun x e => by simp only [Option.some.injEq] at e; omega)
      replace M2 := M2.kept hg (by omega)
      replace M4 := M4.kept hg (by omega)
      replace HL := HL.grown hg (by omega) (fun x e => by simp only [Option.some.injEq] at e; omega)
      replace HL3 := HL3.grown hg (by omega) (fun x e => by simp only [Option.some.injEq] at e; omega)
      replace M6 := M6.kept hg (by omega)
      replace M30 := M30.kept hg (by omega)
      have z9 := hg.size
      replace NA := hq
      clear hq hg hW
      refine sd_done (by kernel_rfl) ?_
      refine sx_in ?_
      refine sx_norm ?_
      refine wp_region_lit ?_
      refine sx_int (by kernel_rfl) rfl rfl .i64 (IntKind.i64.wrap (((m : Nat) : Int) + 1)) (((m + 1 : Nat) : Int)) (by kernel_rfl) (by rw [IntKind.wrap_i64]; omega) ?_
      refine sx_val (by kernel_rfl) rfl rfl (.int .i64 ((m + 1 : Nat) : Int)) (by kernel_rfl) ?_
      refine wpList_nil ?_
      refine sx_norm ?_
      exact sx_again (be.length - (m + 1)) (m + 1) (by omega) (by kernel_rfl) ⟨by omega, Nat.le_refl _, M6, NA, HL3⟩
    refine sd_mem (i := 7) rfl (by kernel_rfl) rfl rfl (.int .i64 ((U.pa (be.getD m (0, 0)) : Nat) : Int)) Y32 (ex_load1 rfl (M30.cell 0 rfl) (by kernel_rfl) Try.underlying3 rfl) ⟨(hr16.below HB), (hpr.below HB), trivial⟩ ?_ AllReadyH.nil
    have hpj : 2 ^ (U.pa (be.getD m (0, 0))) ≤ 2 ^ 62 := Nat.pow_le_pow_right (by omega) (by omega)
    refine sd_take 8 rfl (by kernel_rfl) (by kernel_rfl) (by kernel_rfl) (by kernel_rfl) rfl rfl (.int .i64 ((2 ^ (U.pa (be.getD m (0, 0))) : Nat) : Int)) (fun w9 h9 => ex_shl rfl .i64 1 (U.pa (be.getD m (0, 0))) _ (by kernel_rfl) (by kernel_rfl) (by omega) (by rw [Int.one_mul, show ((2 : Int) ^ (U.pa (be.getD m (0, 0)))) = ((2 ^ (U.pa (be.getD m (0, 0))) : Nat) : Int) by simp]; exact S.wrap_n _ (by omega))) (fun _ _ _ h => h) ⟨(hr16.below HB), (hpr.below HB), trivial⟩ ?_
    refine sd_all [1, 3] (by kernel_rfl) (by decide) ?_
    refine sd_mem (i := 1) rfl (by kernel_rfl) rfl rfl (.slice (some ⟨W3.heap.size, 0, none⟩) ol.length ol.length) Y32 (ex_load1 rfl (M6.cell 3 rfl) (by kernel_rfl) Try.underlying64 rfl) ⟨(hr16.below HB), (hpr.below HB), trivial⟩ ?_ ?_
    · refine sd_all [3] (by kernel_rfl) (by decide) ?_
      refine sd_mem (i := 3) rfl (by kernel_rfl) rfl rfl (.int .i64 ((U.pb (be.getD m (0, 0)) : Nat) : Int)) Y32 (ex_load1 rfl (M30.cell 1 rfl) (by kernel_rfl) Try.underlying3 rfl) ⟨(hr16.below HB), (hpr.below HB), trivial⟩ ?_ AllReadyH.nil
      refine sd_take 4 rfl (by kernel_rfl) (by kernel_rfl) (by kernel_rfl) (by kernel_rfl) rfl rfl (.pointer (some ⟨W3.heap.size, 0 + (U.pb (be.getD m (0, 0))) * 1, none⟩)) (fun w9 h9 => ex_indexO (oa := some ⟨W3.heap.size, 0, none⟩) (q := 0) (m := ol.length) (c := ol.length) (k := (U.pb (be.getD m (0, 0)))) (s := 1) rfl (by kernel_rfl) rfl (by kernel_rfl) Try.underlying64 (by kernel_rfl) (by omega) (by omega)) (fun _ _ _ h => h) ⟨(hr16.below HB), (hpr.below HB), trivial⟩ ?_
      refine sd_all [5] (by kernel_rfl) (by decide) ?_
      refine sd_mem (i := 5) rfl (by kernel_rfl) rfl rfl (.int .i64 (((wAK ol.length be m).getD (U.pb (be.getD m (0, 0))) 0 : Nat) : Int)) Y32 (ex_load1 rfl ((Rw.of_nC NA).cell (k := (U.pb (be.getD m (0, 0)))) (by rw [wAK_len]; omega) 0 rfl) (by kernel_rfl) Try.underlying3 rfl) ⟨(hr16.below HB), (hpr.below HB), trivial⟩ ?_ AllReadyH.nil
      have hak := wAK_lt hr m (by omega) (U.pb (be.getD m (0, 0))) hpb
      have hp10 : 2 ^ ol.length ≤ 2 ^ 10 := Nat.pow_le_pow_right (by omega) hn
      refine sd_take 9 rfl (by kernel_rfl) (by kernel_rfl) (by kernel_rfl) (by kernel_rfl) rfl rfl (.int .i64 ((((wAK ol.length be m).getD (U.pb (be.getD m (0, 0))) 0) ||| (2 ^ (U.pa (be.getD m (0, 0)))) : Nat) : Int)) (fun w9 _ => ex_int .i64 (bits .or .i64 (((wAK ol.length be m).getD (U.pb (be.getD m (0, 0))) 0 : Nat) : Int) ((2 ^ (U.pa (be.getD m (0, 0))) : Nat) : Int)) (((((wAK ol.length be m).getD (U.pb (be.getD m (0, 0))) 0) ||| (2 ^ (U.pa (be.getD m (0, 0)))) : Nat) : Int)) (by kernel_rfl) (S.i64_or _ _ (by omega) (by omega))) (fun _ _ _ h => h) ⟨(hr16.below HB), (hpr.below HB), trivial⟩ ?_
      refine sd_take 10 rfl (by kernel_rfl) (by kernel_rfl) (by kernel_rfl) (by kernel_rfl) rfl rfl (.pointer (some ⟨W3.heap.size, 0 + (U.pb (be.getD m (0, 0))) * 1, none⟩)) (fun w9 h9 => ex_indexO (oa := some ⟨W3.heap.size, 0, none⟩) (q := 0) (m := ol.length) (c := ol.length) (k := (U.pb (be.getD m (0, 0)))) (s := 1) rfl (by kernel_rfl) rfl (by kernel_rfl) Try.underlying64 (by kernel_rfl) (by omega) (by omega)) (fun _ _ _ h => h) ⟨(hr16.below HB), (hpr.below HB), trivial⟩ ?_
      refine sd_all [11] (by kernel_rfl) (by decide) ?_
      refine sd_do (i := 11) rfl (by kernel_rfl) rfl (Y32.setCell ⟨W3.heap.size, 0 + (U.pb (be.getD m (0, 0))) * 1, none⟩ (.int .i64 (((wAK ol.length be m).getD (U.pb (be.getD m (0, 0))) 0 ||| 2 ^ (U.pa (be.getD m (0, 0))) : Nat) : Int))) (ex_store1 rfl ((Rw.of_nC NA).cell (k := (U.pb (be.getD m (0, 0)))) (by rw [wAK_len]; omega) 0 rfl) (NA.f _) rfl (by kernel_rfl) (by kernel_rfl) (by kernel_rfl)) ⟨(hr16.below (HB.grown (grown_set Y32 (W3.heap.size) (0 + (U.pb (be.getD m (0, 0))) * 1) (.int .i64 (((wAK ol.length be m).getD (U.pb (be.getD m (0, 0))) 0 ||| 2 ^ (U.pa (be.getD m (0, 0))) : Nat) : Int))) (by omega) (fun x e => by simp only [Option.some.injEq] at e; omega))), (hpr.below (HB.grown (grown_set Y32 (W3.heap.size) (0 + (U.pb (be.getD m (0, 0))) * 1) (.int .i64 (((wAK ol.length be m).getD (U.pb (be.getD m (0, 0))) 0 ||| 2 ^ (U.pa (be.getD m (0, 0))) : Nat) : Int))) (by omega) (fun x e => by simp only [Option.some.injEq] at e; omega))), trivial⟩ ?_ AllReadyH.nil
      obtain ⟨W39, hW⟩ : ∃ W, Y32.setCell ⟨W3.heap.size, 0 + (U.pb (be.getD m (0, 0))) * 1, none⟩ (.int .i64 (((wAK ol.length be m).getD (U.pb (be.getD m (0, 0))) 0 ||| 2 ^ (U.pa (be.getD m (0, 0))) : Nat) : Int)) = W := ⟨_, rfl⟩
      have hg : Y32.grownBy W39 (some (W3.heap.size)) := hW ▸ grown_set _ _ _ _
      have hq : Cb W39 (W3.heap.size) (nC (wAK ol.length be (m + 1))) 3 := by
        have h8 := NA.set (0 + (U.pb (be.getD m (0, 0))) * 1) (.int .i64 (((wAK ol.length be m).getD (U.pb (be.getD m (0, 0))) 0 ||| 2 ^ (U.pa (be.getD m (0, 0))) : Nat) : Int))
        rw [hW, show 0 + (U.pb (be.getD m (0, 0))) * 1 = (U.pb (be.getD m (0, 0))) by omega, nC_set] at h8
        exact h8
      rw [hW]
      replace HB := HB.grown hg (by omega) (fun x e => by simp only [Option.some.injEq] at e; omega)
      replace M2 := M2.kept hg (by omega)
      replace M4 := M4.kept hg (by omega)
      replace HL := HL.grown hg (by omega) (fun x e => by simp only [Option.some.injEq] at e; omega)
      replace HL3 := HL3.grown hg (by omega) (fun x e => by simp only [Option.some.injEq] at e; omega)
      replace M6 := M6.kept hg (by omega)
      replace M30 := M30.kept hg (by omega)
      have z9 := hg.size
      replace NA := hq
      clear hq hg hW
      refine sd_done (by kernel_rfl) ?_
      refine sx_in ?_
      refine sx_norm ?_
      refine wp_region_lit ?_
      refine sx_int (by kernel_rfl) rfl rfl .i64 (IntKind.i64.wrap (((m : Nat) : Int) + 1)) (((m + 1 : Nat) : Int)) (by kernel_rfl) (by rw [IntKind.wrap_i64]; omega) ?_
      refine sx_val (by kernel_rfl) rfl rfl (.int .i64 ((m + 1 : Nat) : Int)) (by kernel_rfl) ?_
      refine wpList_nil ?_
      refine sx_norm ?_
      exact sx_again (be.length - (m + 1)) (m + 1) (by omega) (by kernel_rfl) ⟨by omega, Nat.le_refl _, M6, NA, HL3⟩
    refine sd_mem (i := 3) rfl (by kernel_rfl) rfl rfl (.int .i64 ((U.pb (be.getD m (0, 0)) : Nat) : Int)) Y32 (ex_load1 rfl (M30.cell 1 rfl) (by kernel_rfl) Try.underlying3 rfl) ⟨(hr16.below HB), (hpr.below HB), trivial⟩ ?_ AllReadyH.nil
    refine sd_all [1] (by kernel_rfl) (by decide) ?_
    refine sd_mem (i := 1) rfl (by kernel_rfl) rfl rfl (.slice (some ⟨W3.heap.size, 0, none⟩) ol.length ol.length) Y32 (ex_load1 rfl (M6.cell 3 rfl) (by kernel_rfl) Try.underlying64 rfl) ⟨(hr16.below HB), (hpr.below HB), trivial⟩ ?_ AllReadyH.nil
    refine sd_take 4 rfl (by kernel_rfl) (by kernel_rfl) (by kernel_rfl) (by kernel_rfl) rfl rfl (.pointer (some ⟨W3.heap.size, 0 + (U.pb (be.getD m (0, 0))) * 1, none⟩)) (fun w9 h9 => ex_indexO (oa := some ⟨W3.heap.size, 0, none⟩) (q := 0) (m := ol.length) (c := ol.length) (k := (U.pb (be.getD m (0, 0)))) (s := 1) rfl (by kernel_rfl) rfl (by kernel_rfl) Try.underlying64 (by kernel_rfl) (by omega) (by omega)) (fun _ _ _ h => h) ⟨(hr16.below HB), (hpr.below HB), trivial⟩ ?_
    refine sd_all [5] (by kernel_rfl) (by decide) ?_
    refine sd_mem (i := 5) rfl (by kernel_rfl) rfl rfl (.int .i64 (((wAK ol.length be m).getD (U.pb (be.getD m (0, 0))) 0 : Nat) : Int)) Y32 (ex_load1 rfl ((Rw.of_nC NA).cell (k := (U.pb (be.getD m (0, 0)))) (by rw [wAK_len]; omega) 0 rfl) (by kernel_rfl) Try.underlying3 rfl) ⟨(hr16.below HB), (hpr.below HB), trivial⟩ ?_ AllReadyH.nil
    have hak := wAK_lt hr m (by omega) (U.pb (be.getD m (0, 0))) hpb
    have hp10 : 2 ^ ol.length ≤ 2 ^ 10 := Nat.pow_le_pow_right (by omega) hn
    refine sd_take 9 rfl (by kernel_rfl) (by kernel_rfl) (by kernel_rfl) (by kernel_rfl) rfl rfl (.int .i64 ((((wAK ol.length be m).getD (U.pb (be.getD m (0, 0))) 0) ||| (2 ^ (U.pa (be.getD m (0, 0)))) : Nat) : Int)) (fun w9 _ => ex_int .i64 (bits .or .i64 (((wAK ol.length be m).getD (U.pb (be.getD m (0, 0))) 0 : Nat) : Int) ((2 ^ (U.pa (be.getD m (0, 0))) : Nat) : Int)) (((((wAK ol.length be m).getD (U.pb (be.getD m (0, 0))) 0) ||| (2 ^ (U.pa (be.getD m (0, 0)))) : Nat) : Int)) (by kernel_rfl) (S.i64_or _ _ (by omega) (by omega))) (fun _ _ _ h => h) ⟨(hr16.below HB), (hpr.below HB), trivial⟩ ?_
    refine sd_take 10 rfl (by kernel_rfl) (by kernel_rfl) (by kernel_rfl) (by kernel_rfl) rfl rfl (.pointer (some ⟨W3.heap.size, 0 + (U.pb (be.getD m (0, 0))) * 1, none⟩)) (fun w9 h9 => ex_indexO (oa := some ⟨W3.heap.size, 0, none⟩) (q := 0) (m := ol.length) (c := ol.length) (k := (U.pb (be.getD m (0, 0)))) (s := 1) rfl (by kernel_rfl) rfl (by kernel_rfl) Try.underlying64 (by kernel_rfl) (by omega) (by omega)) (fun _ _ _ h => h) ⟨(hr16.below HB), (hpr.below HB), trivial⟩ ?_
    refine sd_all [11] (by kernel_rfl) (by decide) ?_
    refine sd_do (i := 11) rfl (by kernel_rfl) rfl (Y32.setCell ⟨W3.heap.size, 0 + (U.pb (be.getD m (0, 0))) * 1, none⟩ (.int .i64 (((wAK ol.length be m).getD (U.pb (be.getD m (0, 0))) 0 ||| 2 ^ (U.pa (be.getD m (0, 0))) : Nat) : Int))) (ex_store1 rfl ((Rw.of_nC NA).cell (k := (U.pb (be.getD m (0, 0)))) (by rw [wAK_len]; omega) 0 rfl) (NA.f _) rfl (by kernel_rfl) (by kernel_rfl) (by kernel_rfl)) ⟨(hr16.below (HB.grown (grown_set Y32 (W3.heap.size) (0 + (U.pb (be.getD m (0, 0))) * 1) (.int .i64 (((wAK ol.length be m).getD (U.pb (be.getD m (0, 0))) 0 ||| 2 ^ (U.pa (be.getD m (0, 0))) : Nat) : Int))) (by omega) (fun x e => by simp only [Option.some.injEq] at e; omega))), (hpr.below (HB.grown (grown_set Y32 (W3.heap.size) (0 + (U.pb (be.getD m (0, 0))) * 1) (.int .i64 (((wAK ol.length be m).getD (U.pb (be.getD m (0, 0))) 0 ||| 2 ^ (U.pa (be.getD m (0, 0))) : Nat) : Int))) (by omega) (fun x e => by simp only [Option.some.injEq] at e; omega))), trivial⟩ ?_ AllReadyH.nil
    obtain ⟨W40, hW⟩ : ∃ W, Y32.setCell ⟨W3.heap.size, 0 + (U.pb (be.getD m (0, 0))) * 1, none⟩ (.int .i64 (((wAK ol.length be m).getD (U.pb (be.getD m (0, 0))) 0 ||| 2 ^ (U.pa (be.getD m (0, 0))) : Nat) : Int)) = W := ⟨_, rfl⟩
    have hg : Y32.grownBy W40 (some (W3.heap.size)) := hW ▸ grown_set _ _ _ _
    have hq : Cb W40 (W3.heap.size) (nC (wAK ol.length be (m + 1))) 3 := by
      have h8 := NA.set (0 + (U.pb (be.getD m (0, 0))) * 1) (.int .i64 (((wAK ol.length be m).getD (U.pb (be.getD m (0, 0))) 0 ||| 2 ^ (U.pa (be.getD m (0, 0))) : Nat) : Int))
      rw [hW, show 0 + (U.pb (be.getD m (0, 0))) * 1 = (U.pb (be.getD m (0, 0))) by omega, nC_set] at h8
      exact h8
    rw [hW]
    replace HB := HB.grown hg (by omega) (fun x e => by simp only [Option.some.injEq] at e; omega)
    replace M2 := M2.kept hg (by omega)
    replace M4 := M4.kept hg (by omega)
    replace HL := HL.grown hg (by omega) (fun x e => by simp only [Option.some.injEq] at e; omega)
    replace HL3 := HL3.grown hg (by omega) (fun x e => by simp only [Option.some.injEq] at e; omega)
    replace M6 := M6.kept hg (by omega)
    replace M30 := M30.kept hg (by omega)
    have z9 := hg.size
    replace NA := hq
    clear hq hg hW
    refine sd_done (by kernel_rfl) ?_
    refine sx_in ?_
    refine sx_norm ?_
    refine wp_region_lit ?_
    refine sx_int (by kernel_rfl) rfl rfl .i64 (IntKind.i64.wrap (((m : Nat) : Int) + 1)) (((m + 1 : Nat) : Int)) (by kernel_rfl) (by rw [IntKind.wrap_i64]; omega) ?_
    refine sx_val (by kernel_rfl) rfl rfl (.int .i64 ((m + 1 : Nat) : Int)) (by kernel_rfl) ?_
    refine wpList_nil ?_
    refine sx_norm ?_
    exact sx_again (be.length - (m + 1)) (m + 1) (by omega) (by kernel_rfl) ⟨by omega, Nat.le_refl _, M6, NA, HL3⟩
  refine sx_bool (by kernel_rfl) rfl rfl (decide (((m : Nat) : Int) < ((be.length : Nat) : Int))) false (by kernel_rfl) (decide_eq_false (by omega)) ?_
  refine wpList_nil ?_
  refine sx_norm ?_
  refine wp_seq ?_
  refine sx_false (by kernel_rfl) ?_
  refine wp_exit ?_
  refine sx_es ?_
  refine sx_es ?_
  refine sx_out ?_
  refine sx_norm ?_
  refine wp_seq ?_
  refine wp_region_lit ?_
  refine sx_val (by kernel_rfl) rfl rfl (.agg #[.int .i64 ((wWK z ol ol.length : Nat) : Int), .int .i64 (((wPK ol ol.length).1 : Nat) : Int), .int .i64 (((wPK ol ol.length).2 : Nat) : Int), .slice (some ⟨W3.heap.size, 0, none⟩) ol.length ol.length]) (ex_load rfl M6 (by kernel_rfl) Try.underlying74 rfl (by kernel_rfl)) ?_
  refine sx_store (cells := #[.int .i64 ((wWK z ol ol.length : Nat) : Int), .int .i64 (((wPK ol ol.length).1 : Nat) : Int), .int .i64 (((wPK ol ol.length).2 : Nat) : Int), .slice (some ⟨W3.heap.size, 0, none⟩) ol.length ol.length]) (by kernel_rfl) rfl rfl M4 (by kernel_rfl) (by kernel_rfl) (by kernel_rfl) (by kernel_rfl) (by kernel_rfl) ?_
  obtain ⟨W41, hW⟩ : ∃ W, wr29.setRow (W1.heap.size) #[.int .i64 ((wWK z ol ol.length : Nat) : Int), .int .i64 (((wPK ol ol.length).1 : Nat) : Int), .int .i64 (((wPK ol ol.length).2 : Nat) : Int), .slice (some ⟨W3.heap.size, 0, none⟩) ol.length ol.length] = W := ⟨_, rfl⟩
  have hg : wr29.grownBy W41 (some (W1.heap.size)) := hW ▸ grown_row _ _ _
  have hq : Cb W41 (W1.heap.size) #[.int .i64 ((wWK z ol ol.length : Nat) : Int), .int .i64 (((wPK ol ol.length).1 : Nat) : Int), .int .i64 (((wPK ol ol.length).2 : Nat) : Int), .slice (some ⟨W3.heap.size, 0, none⟩) ol.length ol.length] 74 := hW ▸ Cb.row M4 _
  rw [hW]
  replace HB := HB.grown hg (by omega) (fun x e => by simp only [Option.some.injEq] at e; omega)
  replace M2 := M2.kept hg (by omega)
  replace M6 := M6.kept hg (by omega)
  replace NA := NA.kept hg (by omega)
  have z7 := hg.size
  replace M4 := hq
  clear hq hg hW
  refine wpList_nil ?_
  refine sx_norm ?_
  refine wp_ret ?_
  have hj9 : m = be.length := by omega
  rw [hj9] at NA
  have hA : (waysF z ol be).A.length = ol.length := wAK_len _ _ _
  exact sx_retc M4 rfl rfl (by kernel_rfl) Try.underlying74 rfl (by kernel_rfl) ⟨some ⟨W3.heap.size, 0, none⟩, ol.length, W3.heap.size, 0, by rw [hA]; rfl, Rw.of_nC NA, HB⟩

end Go.Proofs.Ytoliacfpjhanlaa.T


