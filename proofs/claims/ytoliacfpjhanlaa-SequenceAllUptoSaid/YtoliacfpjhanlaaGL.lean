/-
  DERIVED. GL: a part of the base of layer 13 (made by pack.py).
-/
import Derived.Test.YtoliacfpjhanlaaGK
import Derived.Test.YtoliacfpjhanlaaGJ
import Derived.Test.YtoliacfpjhanlaaHM
import Derived.Test.YtoliacfpjhanlaaHN
/-! The specification of sequences: Next (by gen_ug.py). -/
namespace Go.Proofs.Ytoliacfpjhanlaa.T
open Go.RowKit
set_option maxRecDepth 8000
attribute [local irreducible] wpList Code.wp wpAnyH

theorem refNext_n (o0 o1 o2 o3 o4 o5 : Option Addr) (n0 n1 n2 n4 c0 c1 c2 c3 c4 c5 : Nat) (ol : List OrT) (be : List (Int × Int)) (hn : ol.length ≤ 10) (hr : U.Rt ol.length be) (hl : be.length ≤ 1000000) (z : Int) (w : World) (hos : Os w (.slice o3 ol.length c3) ol) (hps : Ps w (.slice o5 be.length c5) be) (l : List (Int × Bool)) (ll : l.length ≤ 1000000) (oa : Option Addr) (c b o : Nat) (hv : Rw w b o 2 (vF l) l.length oa) : Calls Try.prog 18 #[.agg #[.slice o0 n0 c0, .slice o1 n1 c1, .slice o2 n2 c2, .slice o3 ol.length c3, .slice o4 n4 c4, .slice o5 be.length c5], .int .i64 z, .slice oa l.length c] w (VisP (nxR z ol be l ol.length) w) := by
  have HB : Below w.heap.size w w := Below.refl _ _
  obtain ⟨b3, q3, vc, hr16⟩ := hos.rw
  refine sx_enter Try.func18 rfl [(0, .agg #[.slice o0 n0 c0, .slice o1 n1 c1, .slice o2 n2 c2, .slice o3 ol.length c3, .slice o4 n4 c4, .slice o5 be.length c5]), (1, .int .i64 z), (2, .slice oa l.length c)] (by kernel_rfl) ?_
  refine wp_seq ?_
  refine wp_region_lit ?_
  obtain ⟨W1, hW⟩ : ∃ W, w.alloc (.cells #[.slice o0 n0 c0, .slice o1 n1 c1, .slice o2 n2 c2, .slice o3 ol.length c3, .slice o4 n4 c4, .slice o5 be.length c5] 30) = W := ⟨_, rfl⟩
  have hb := hW ▸ below_alloc w (.cells #[.slice o0 n0 c0, .slice o1 n1 c1, .slice o2 n2 c2, .slice o3 ol.length c3, .slice o4 n4 c4, .slice o5 be.length c5] 30)
  have hq : Cb W1 w.heap.size #[.slice o0 n0 c0, .slice o1 n1 c1, .slice o2 n2 c2, .slice o3 ol.length c3, .slice o4 n4 c4, .slice o5 be.length c5] 30 := hW ▸ Cb.made w #[.slice o0 n0 c0, .slice o1 n1 c1, .slice o2 n2 c2, .slice o3 ol.length c3, .slice o4 n4 c4, .slice o5 be.length c5] 30
  refine sx_mem (by kernel_rfl) rfl rfl (.pointer (some ⟨w.heap.size, 0, none⟩)) W1 (by rw [← hW]; kernel_rfl) ?_
  replace HB := over HB hb
  have z1 := hb.size
  have M2 := hq
  have yM2 := hq.lt
  clear hq hb hW
  refine sx_val (by kernel_rfl) rfl rfl (.slice none 0 0) (by kernel_rfl) ?_
  refine wpList_nil ?_
  refine sx_norm ?_
  refine wp_seq ?_
  refine wp_region_lit ?_
  refine sx_val (by kernel_rfl) rfl rfl (.slice none 0 0) (by kernel_rfl) ?_
  refine wpList_nil ?_
  refine sx_norm ?_
  refine wp_seq ?_
  refine wp_seq ?_
  refine wp_region_lit ?_
  refine sx_val (by kernel_rfl) rfl rfl (.int .i64 0) (by kernel_rfl) ?_
  refine wpList_nil ?_
  refine sx_norm ?_
  refine wp_block ?_
  have HG : Gw W1.heap.size W1 (.slice none 0 0) [] := Gw.nil _ _
  refine sx_loop (fun x9 : Nat × Value => [(0, .agg #[.slice o0 n0 c0, .slice o1 n1 c1, .slice o2 n2 c2, .slice o3 ol.length c3, .slice o4 n4 c4, .slice o5 be.length c5]), (1, .int .i64 z), (2, .slice oa l.length c), (3, .pointer (some ⟨w.heap.size, 0, none⟩)), (6, .slice none 0 0), (7, x9.2), (8, .int .i64 ((x9.1 : Nat) : Int))]) (fun gg x9 wr => x9.1 ≤ ol.length ∧ ol.length - x9.1 ≤ gg ∧ Gw W1.heap.size wr x9.2 (nxR z ol be l x9.1) ∧ Below W1.heap.size W1 wr) (ol.length) ((0, .slice none 0 0)) (by kernel_rfl) ⟨Nat.zero_le _, Nat.le_refl _, HG, Below.refl _ _⟩ ?_
  rintro gg ⟨i, v7⟩ g' wr3 ⟨hi, hg, HG, hbl⟩
  dsimp only at hi hg HG hbl
  replace HB := HB.trans (hbl.mono (by omega))
  replace M2 := M2.belowB (by omega) hbl
  have z2 := hbl.size
  have HL := hbl
  clear hbl
  refine wp_seq ?_
  refine wp_seq ?_
  refine wp_region_lit ?_
  refine sx_val (by kernel_rfl) rfl rfl (.int .i64 ((i : Nat) : Int)) (by kernel_rfl) ?_
  refine sx_val (by kernel_rfl) rfl rfl (.pointer (some ⟨w.heap.size, 3, none⟩)) (by kernel_rfl) ?_
  refine sx_val (by kernel_rfl) rfl rfl (.slice o3 ol.length c3) (ex_load1 rfl (M2.cell 3 rfl) (by kernel_rfl) Try.underlying27 rfl) ?_
  refine sx_val (by kernel_rfl) rfl rfl (.int .i64 ((ol.length : Nat) : Int)) (by kernel_rfl) ?_
  by_cases C1 : i < ol.length
  · refine sx_bool (by kernel_rfl) rfl rfl (decide (((i : Nat) : Int) < ((ol.length : Nat) : Int))) true (by kernel_rfl) (decide_eq_true (by omega)) ?_
    refine wpList_nil ?_
    refine sx_norm ?_
    refine sx_true (by kernel_rfl) ?_
    refine wp_skip ?_
    refine sx_norm ?_
    refine wp_seq ?_
    refine wp_block ?_
    refine wp_seq ?_
    refine wp_seq ?_
    have hik : i < ol.length := by omega
    have hvl := visR_len ol i
    refine wp_region_lit ?_
    refine sx_val (by kernel_rfl) rfl rfl (.int .i64 z) (by kernel_rfl) ?_
    refine sx_val (by kernel_rfl) rfl rfl (.int .i64 ((i : Nat) : Int)) (by kernel_rfl) ?_
    by_cases C2 : hasR z ((i : Nat) : Int) = true
    · refine sx_call (by kernel_rfl) rfl rfl ((by have h8 := refHas_n z ((i : Nat) : Int) wr3; rw [show hasR z ((i : Nat) : Int) = true by simpa using C2] at h8; exact h8)) (by kernel_rfl) ?_
      rintro e w9 ⟨rfl, rfl⟩
      refine ⟨_, rfl, ?_⟩
      refine sx_val (by kernel_rfl) rfl rfl (.bool false) (by kernel_rfl) ?_
      refine sx_val (by kernel_rfl) rfl rfl (.bool false) (by kernel_rfl) ?_
      refine sx_val (by kernel_rfl) rfl rfl (.pointer (some ⟨w.heap.size, 3, none⟩)) (by kernel_rfl) ?_
      refine sx_val (by kernel_rfl) rfl rfl (.slice o3 ol.length c3) (ex_load1 rfl (M2.cell 3 rfl) (by kernel_rfl) Try.underlying27 rfl) ?_
      refine sx_val (by kernel_rfl) rfl rfl (.int .i64 ((i : Nat) : Int)) (by kernel_rfl) ?_
      refine sx_val (by kernel_rfl) rfl rfl (.pointer (some ⟨b3, q3 + i * 16, none⟩)) (ex_indexO (q := q3) (m := ol.length) (c := c3) (k := i) (s := 16) rfl (by kernel_rfl) ((hr16.below HB).oa (k := i) (by omega)) (by kernel_rfl) Try.underlying27 (by kernel_rfl) (by omega) (by omega)) ?_
      refine sx_val (by kernel_rfl) rfl rfl (.pointer (some ⟨b3, q3 + i * 16 + 15, none⟩)) (by kernel_rfl) ?_
      by_cases C3 : (ol.getD i or0).off = true
      · refine sx_val (by kernel_rfl) rfl rfl (.bool true) (ex_load1 (v := .bool true) rfl (by have h8 := (hr16.below HB).cell (k := i) (by omega) 15 rfl; rw [show (ol.getD i or0).off = true by simpa using C3] at h8; exact h8) (by kernel_rfl) Try.underlying4 rfl) ?_
        refine sx_val (by kernel_rfl) rfl rfl (.bool true) (by kernel_rfl) ?_
        refine sx_val (by kernel_rfl) rfl rfl (.bool true) (by kernel_rfl) ?_
        refine sx_skip (by kernel_rfl) rfl rfl ?_
        refine sx_skip (by kernel_rfl) rfl rfl ?_
        refine sx_skip (by kernel_rfl) rfl rfl ?_
        refine sx_skip (by kernel_rfl) rfl rfl ?_
        refine sx_skip (by kernel_rfl) rfl rfl ?_
        refine sx_val (by kernel_rfl) rfl rfl (.bool true) (by kernel_rfl) ?_
        refine wpList_nil ?_
        refine sx_norm ?_
        refine sx_true (by kernel_rfl) ?_
        refine wp_exit ?_
        refine sx_es ?_
        refine sx_out ?_
        refine sx_norm ?_
        refine wp_region_lit ?_
        refine sx_val (by kernel_rfl) rfl rfl (.int .i64 ((i : Nat) : Int)) (by kernel_rfl) ?_
        refine sx_int (by kernel_rfl) rfl rfl .i64 (IntKind.i64.wrap (((i : Nat) : Int) + 1)) (((i + 1 : Nat) : Int)) (by kernel_rfl) (by rw [IntKind.wrap_i64]; omega) ?_
        refine sx_val (by kernel_rfl) rfl rfl (.int .i64 ((i + 1 : Nat) : Int)) (by kernel_rfl) ?_
        refine wpList_nil ?_
        refine sx_norm ?_
        refine sx_again (ol.length - (i + 1)) (i + 1, v7) (by omega) (by kernel_rfl) ⟨by show i + 1 ≤ _; omega, Nat.le_refl _, HG.ext ?_, HL⟩
        show _ = nxR z ol be l (i + 1)
        rw [nxR_succ]
        unfold nxO
        rw [if_neg (by rintro ⟨h7, h8, h9⟩; first | exact absurd h7 (by assumption) | exact Bool.noConfusion (h8.symm.trans (by assumption : (ol.getD i or0).off = true)) | exact absurd h9 (by assumption)), List.append_nil]
      refine sx_val (by kernel_rfl) rfl rfl (.bool false) (ex_load1 (v := .bool false) rfl (by have h8 := (hr16.below HB).cell (k := i) (by omega) 15 rfl; rw [show (ol.getD i or0).off = false by simpa using C3] at h8; exact h8) (by kernel_rfl) Try.underlying4 rfl) ?_
      refine sx_val (by kernel_rfl) rfl rfl (.bool false) (by kernel_rfl) ?_
      refine sx_val (by kernel_rfl) rfl rfl (.bool false) (by kernel_rfl) ?_
      refine sx_val (by kernel_rfl) rfl rfl (.agg #[.slice o0 n0 c0, .slice o1 n1 c1, .slice o2 n2 c2, .slice o3 ol.length c3, .slice o4 n4 c4, .slice o5 be.length c5]) (ex_load rfl M2 (by kernel_rfl) Try.underlying30 rfl (by kernel_rfl)) ?_
      refine sx_val (by kernel_rfl) rfl rfl (.int .i64 ((i : Nat) : Int)) (by kernel_rfl) ?_
      refine sx_val (by kernel_rfl) rfl rfl (.slice oa l.length c) (by kernel_rfl) ?_
      by_cases C4 : (rdyB ol be l i) = true
      · refine sx_call (by kernel_rfl) rfl rfl ((by have h8 := refReady_n o0 o1 o2 o3 o4 o5 n0 n1 n2 n4 c0 c1 c2 c3 c4 c5 ol be hn hr hl wr3 (hos.below HB) (hps.below HB) i l ll oa c b o (hv.below HB); rw [show (rdyB ol be l i) = true by simpa using C4] at h8; exact h8)) (by kernel_rfl) ?_
        rintro e W4 ⟨rfl, hb⟩
        replace HB := over HB hb
        replace M2 := M2.below hb
        replace HL := HL.trans (hb.mono (by omega))
        replace HG := HG.frame hb
        have z3 := hb.size
        clear hb
        refine ⟨_, rfl, ?_⟩
        refine sx_val (by kernel_rfl) rfl rfl (.bool false) (by kernel_rfl) ?_
        refine sx_val (by kernel_rfl) rfl rfl (.bool false) (by kernel_rfl) ?_
        refine wpList_nil ?_
        refine sx_norm ?_
        refine sx_false (by kernel_rfl) ?_
        refine wp_skip ?_
        refine sx_norm ?_
        refine wp_seq ?_
        refine wp_region_lit ?_
        refine sx_val (by kernel_rfl) rfl rfl (.agg #[.slice o0 n0 c0, .slice o1 n1 c1, .slice o2 n2 c2, .slice o3 ol.length c3, .slice o4 n4 c4, .slice o5 be.length c5]) (ex_load rfl M2 (by kernel_rfl) Try.underlying30 rfl (by kernel_rfl)) ?_
        refine sx_val (by kernel_rfl) rfl rfl (.int .i64 ((i : Nat) : Int)) (by kernel_rfl) ?_
        have HGz := HG
        refine sx_call (by kernel_rfl) rfl rfl (refVisits_n o0 o1 o2 o3 o4 o5 n0 n1 n2 n4 be.length c0 c1 c2 c3 c4 c5 ol i hik hn W4 (hos.below HB)) (by kernel_rfl) ?_
        rintro e W5 ⟨oa91, c91, rfl, ⟨hvs91, hgv91, -⟩, hb⟩
        replace HB := over HB hb
        replace M2 := M2.below hb
        replace HL := HL.trans (hb.mono (by omega))
        replace HG := HG.frame hb
        have z4 := hb.size
        clear hb
        refine ⟨_, rfl, ?_⟩
        obtain ⟨bv91, qv91, hvr91⟩ := hvs91.rw2
        have hbv91 : ∀ k9, k9 < (visR ol i).length → W4.heap.size ≤ bv91 ∧ bv91 < W5.heap.size := fun k9 hk9 => ⟨hgv91.blk bv91 (by rw [hvr91.oa hk9]; rfl), hvr91.lt hk9⟩
        have hub91 : ∀ b9, Value.ownBlock v7 = some b9 → b9 < W4.heap.size ∨ W5.heap.size ≤ b9 := fun b9 e9 => .inl (by have h8 := Gw.lt HGz e9; omega)
        clear hvs91 hgv91 HGz
        refine sx_val (by kernel_rfl) rfl rfl (.slice oa91 (visR ol i).length c91) (by kernel_rfl) ?_
        refine wpList_nil ?_
        refine sx_norm ?_
        refine wp_seq ?_
        refine wp_region_lit ?_
        refine sx_val (by kernel_rfl) rfl rfl (.int .i64 0) (by kernel_rfl) ?_
        refine wpList_nil ?_
        refine sx_norm ?_
        refine wp_block ?_
        have HG2 : Gw W1.heap.size W5 v7 (nxR z ol be l i ++ nxV (visR ol i) l 0) := HG.ext (List.append_nil _).symm
        refine sx_loop (fun x9 : Nat × Value => [(0, .agg #[.slice o0 n0 c0, .slice o1 n1 c1, .slice o2 n2 c2, .slice o3 ol.length c3, .slice o4 n4 c4, .slice o5 be.length c5]), (1, .int .i64 z), (2, .slice oa l.length c), (3, .pointer (some ⟨w.heap.size, 0, none⟩)), (6, .slice none 0 0), (7, x9.2), (8, .int .i64 ((i : Nat) : Int)), (9, .slice oa91 (visR ol i).length c91), (10, .int .i64 ((x9.1 : Nat) : Int)), (11, .int .i64 ((i : Nat) : Int)), (12, .pointer (some ⟨w.heap.size, 3, none⟩)), (13, .slice o3 ol.length c3), (14, .int .i64 ((ol.length : Nat) : Int)), (15, .bool true), (18, .int .i64 z), (19, .int .i64 ((i : Nat) : Int)), (20, .bool true), (21, .bool false), (22, .bool false), (23, .pointer (some ⟨w.heap.size, 3, none⟩)), (24, .slice o3 ol.length c3), (25, .int .i64 ((i : Nat) : Int)), (26, .pointer (some ⟨b3, q3 + i * 16, none⟩)), (27, .pointer (some ⟨b3, q3 + i * 16 + 15, none⟩)), (28, .bool false), (29, .bool false), (30, .bool false), (31, .agg #[.slice o0 n0 c0, .slice o1 n1 c1, .slice o2 n2 c2, .slice o3 ol.length c3, .slice o4 n4 c4, .slice o5 be.length c5]), (32, .int .i64 ((i : Nat) : Int)), (33, .slice oa l.length c), (34, .bool true), (35, .bool false), (36, .bool false), (37, .agg #[.slice o0 n0 c0, .slice o1 n1 c1, .slice o2 n2 c2, .slice o3 ol.length c3, .slice o4 n4 c4, .slice o5 be.length c5]), (38, .int .i64 ((i : Nat) : Int)), (39, .slice oa91 (visR ol i).length c91)]) (fun gg x9 wr => x9.1 ≤ (visR ol i).length ∧ (visR ol i).length - x9.1 ≤ gg ∧ Gw W1.heap.size wr x9.2 (nxR z ol be l i ++ nxV (visR ol i) l x9.1) ∧ (∀ b9, Value.ownBlock x9.2 = some b9 → b9 < W4.heap.size ∨ W5.heap.size ≤ b9) ∧ Rw wr bv91 qv91 2 (vF (visR ol i)) (visR ol i).length oa91 ∧ Below W1.heap.size W5 wr) ((visR ol i).length) ((0, v7)) (by kernel_rfl) ⟨Nat.zero_le _, Nat.le_refl _, HG2, hub91, hvr91, Below.refl _ _⟩ ?_
        rintro gg ⟨m, u7⟩ g' wr6 ⟨hm, hg2, HG, hub, hvr91, hbl⟩
        dsimp only at hm hg2 HG hub hvr91 hbl
        replace HB := HB.trans (hbl.mono (by omega))
        replace M2 := M2.belowB (by omega) hbl
        replace HL := HL.trans (hbl.mono (by omega))
        have z5 := hbl.size
        have HL2 := hbl
        clear hbl
        refine wp_seq ?_
        refine wp_seq ?_
        refine wp_region_lit ?_
        refine sx_val (by kernel_rfl) rfl rfl (.int .i64 ((m : Nat) : Int)) (by kernel_rfl) ?_
        refine sx_val (by kernel_rfl) rfl rfl (.slice oa91 (visR ol i).length c91) (by kernel_rfl) ?_
        refine sx_val (by kernel_rfl) rfl rfl (.int .i64 (((visR ol i).length : Nat) : Int)) (by kernel_rfl) ?_
        by_cases C5 : m < (visR ol i).length
        · refine sx_bool (by kernel_rfl) rfl rfl (decide (((m : Nat) : Int) < (((visR ol i).length : Nat) : Int))) true (by kernel_rfl) (decide_eq_true (by omega)) ?_
          refine wpList_nil ?_
          refine sx_norm ?_
          refine sx_true (by kernel_rfl) ?_
          refine wp_skip ?_
          refine sx_norm ?_
          refine wp_seq ?_
          refine wp_block ?_
          refine wp_seq ?_
          refine wp_region_lit ?_
          refine sx_val (by kernel_rfl) rfl rfl (.slice oa l.length c) (by kernel_rfl) ?_
          refine sx_val (by kernel_rfl) rfl rfl (.slice oa91 (visR ol i).length c91) (by kernel_rfl) ?_
          refine sx_val (by kernel_rfl) rfl rfl (.int .i64 ((m : Nat) : Int)) (by kernel_rfl) ?_
          refine sx_val (by kernel_rfl) rfl rfl (.pointer (some ⟨bv91, qv91 + m * 2, none⟩)) (ex_indexO (q := qv91) (m := (visR ol i).length) (c := c91) (k := m) (s := 2) rfl (by kernel_rfl) (hvr91.oa (k := m) (by omega)) (by kernel_rfl) Try.underlying32 (by kernel_rfl) (by omega) (by omega)) ?_
          refine sx_val (by kernel_rfl) rfl rfl (.agg #[.int .i64 (((visR ol i).getD m (0, false)).1), .bool ((visR ol i).getD m (0, false)).2]) (ex_loadR rfl (hvr91.range (k := m) (by omega)) (by kernel_rfl) Try.underlying52 rfl (by kernel_rfl)) ?_
          refine sx_call (by kernel_rfl) rfl rfl (refIndex_n ((visR ol i).getD m (0, false)) l ll oa c b o wr6 (hv.below HB)) (by kernel_rfl) ?_
          rintro e W7 ⟨rfl, hb⟩
          replace HB := over HB hb
          replace M2 := M2.below hb
          replace HL := HL.trans (hb.mono (by omega))
          replace HL2 := HL2.trans (hb.mono (by omega))
          replace HG := HG.frame hb
          replace hvr91 := hvr91.below hb
          have z6 := hb.size
          clear hb
          refine ⟨_, rfl, ?_⟩
          by_cases C6 : (idxV l ((visR ol i).getD m (0, false))) < 0
          · refine sx_bool (by kernel_rfl) rfl rfl (decide ((idxV l ((visR ol i).getD m (0, false))) < 0)) true (by kernel_rfl) (decide_eq_true (by omega)) ?_
            refine sx_val (by kernel_rfl) rfl rfl (.bool true) (by kernel_rfl) ?_
            refine sx_val (by kernel_rfl) rfl rfl (.int .i64 ((m : Nat) : Int)) (by kernel_rfl) ?_
            by_cases C7 : m = 0
            · refine sx_bool (by kernel_rfl) rfl rfl ((((m : Nat) : Int) : Int) == (0 : Int)) true (by kernel_rfl) (beq_iff_eq.2 (by omega)) ?_
              refine sx_val (by kernel_rfl) rfl rfl (.bool true) (by kernel_rfl) ?_
              refine sx_skip (by kernel_rfl) rfl rfl ?_
              refine sx_skip (by kernel_rfl) rfl rfl ?_
              refine sx_skip (by kernel_rfl) rfl rfl ?_
              refine sx_skip (by kernel_rfl) rfl rfl ?_
              refine sx_skip (by kernel_rfl) rfl rfl ?_
              refine sx_skip (by kernel_rfl) rfl rfl ?_
              refine sx_val (by kernel_rfl) rfl rfl (.bool true) (by kernel_rfl) ?_
              refine sx_val (by kernel_rfl) rfl rfl (.bool true) (by kernel_rfl) ?_
              refine wpList_nil ?_
              refine sx_norm ?_
              refine sx_true (by kernel_rfl) ?_
              refine wp_region_lit ?_
              refine sx_val (by kernel_rfl) rfl rfl (u7) (by kernel_rfl) ?_
              refine sx_val (by kernel_rfl) rfl rfl (.slice oa91 (visR ol i).length c91) (by kernel_rfl) ?_
              refine sx_val (by kernel_rfl) rfl rfl (.int .i64 ((m : Nat) : Int)) (by kernel_rfl) ?_
              refine sx_val (by kernel_rfl) rfl rfl (.pointer (some ⟨bv91, qv91 + m * 2, none⟩)) (ex_indexO (q := qv91) (m := (visR ol i).length) (c := c91) (k := m) (s := 2) rfl (by kernel_rfl) (hvr91.oa (k := m) (by omega)) (by kernel_rfl) Try.underlying32 (by kernel_rfl) (by omega) (by omega)) ?_
              refine sx_val (by kernel_rfl) rfl rfl (.agg #[.int .i64 (((visR ol i).getD m (0, false)).1), .bool ((visR ol i).getD m (0, false)).2]) (ex_loadR rfl (hvr91.range (k := m) (by omega)) (by kernel_rfl) Try.underlying52 rfl (by kernel_rfl)) ?_
              obtain ⟨W8, hW⟩ : ∃ W, W7.alloc (.cells #[.int .i64 (((visR ol i).getD m (0, false)).1), .bool ((visR ol i).getD m (0, false)).2] 52) = W := ⟨_, rfl⟩
              have hb := hW ▸ below_alloc W7 (.cells #[.int .i64 (((visR ol i).getD m (0, false)).1), .bool ((visR ol i).getD m (0, false)).2] 52)
              have hq : Cb W8 W7.heap.size #[.int .i64 (((visR ol i).getD m (0, false)).1), .bool ((visR ol i).getD m (0, false)).2] 52 := hW ▸ Cb.made W7 #[.int .i64 (((visR ol i).getD m (0, false)).1), .bool ((visR ol i).getD m (0, false)).2] 52
              refine sx_mem (by kernel_rfl) rfl rfl (.slice (some ⟨W7.heap.size, 0, none⟩) 1 1) W8 (by rw [← hW]; kernel_rfl) ?_
              replace HB := over HB hb
              replace M2 := M2.below hb
              replace HL := HL.trans (hb.mono (by omega))
              replace HL2 := HL2.trans (hb.mono (by omega))
              replace HG := HG.frame hb
              replace hvr91 := hvr91.below hb
              have z7 := hb.size
              have M9 := hq
              have yM9 := hq.lt
              clear hq hb hW
              obtain ⟨v10, W11, h12, hg9, hb, hgr, hown⟩ := ap_w 32 HG (lw_cb M9) (by omega) (by have h8 := nxR_len z ol be l i; have h7 := nxV_len (visR ol i) l m; simp only [List.length_append, List.length_cons, List.length_nil]; omega)
              have hvk := hvr91.grownO hgr (fun k9 hk9 e9 => by have h8 := hbv91 k9 hk9; have h7 := hub _ e9; omega)
              have hub2 : ∀ b9, Value.ownBlock v10 = some b9 → b9 < W4.heap.size ∨ W5.heap.size ≤ b9 := fun b9 e9 => by
                rcases hown with h8 | h8
                · exact hub b9 (h8 ▸ e9)
                · rw [h8] at e9; simp only [Option.some.injEq] at e9; omega
              replace hub := hub2
              clear hub2 hown
              refine sx_mem (by kernel_rfl) rfl rfl v10 W11 (ex_append rfl (by kernel_rfl) (by kernel_rfl) h12) ?_
              replace HB := HB.trans (hb.mono (by omega))
              replace M2 := M2.belowB (by omega) hb
              replace HL := HL.trans (hb.mono (by omega))
              replace HL2 := HL2.trans (hb.mono (by omega))
              have z8 := hb.size
              have HG := hg9
              clear hg9 hb hgr h12
              have hvr91 := hvk
              clear hvk
              refine sx_val (by kernel_rfl) rfl rfl (v10) (by kernel_rfl) ?_
              refine wpList_nil ?_
              refine sx_in ?_
              refine sx_norm ?_
              refine wp_region_lit ?_
              refine sx_val (by kernel_rfl) rfl rfl (.int .i64 ((m : Nat) : Int)) (by kernel_rfl) ?_
              refine sx_int (by kernel_rfl) rfl rfl .i64 (IntKind.i64.wrap (((m : Nat) : Int) + 1)) (((m + 1 : Nat) : Int)) (by kernel_rfl) (by rw [IntKind.wrap_i64]; omega) ?_
              refine sx_val (by kernel_rfl) rfl rfl (.int .i64 ((m + 1 : Nat) : Int)) (by kernel_rfl) ?_
              refine wpList_nil ?_
              refine sx_norm ?_
              refine sx_again ((visR ol i).length - (m + 1)) (m + 1, v10) (by omega) (by kernel_rfl) ⟨by show m + 1 ≤ _; omega, Nat.le_refl _, HG.ext ?_, hub, hvr91, HL2⟩
              show _ = nxR z ol be l i ++ nxV (visR ol i) l (m + 1)
              rw [nxV_succ]
              unfold nx1
              rw [if_pos ⟨by assumption, by first | exact .inl (by omega) | exact .inr (by omega)⟩, List.append_assoc]
            refine sx_bool (by kernel_rfl) rfl rfl ((((m : Nat) : Int) : Int) == (0 : Int)) false (by kernel_rfl) (beq_eq_false_iff_ne.2 (by omega)) ?_
            refine sx_val (by kernel_rfl) rfl rfl (.bool false) (by kernel_rfl) ?_
            refine sx_val (by kernel_rfl) rfl rfl (.slice oa l.length c) (by kernel_rfl) ?_
            refine sx_val (by kernel_rfl) rfl rfl (.slice oa91 (visR ol i).length c91) (by kernel_rfl) ?_
            refine sx_val (by kernel_rfl) rfl rfl (.pointer (some ⟨bv91, qv91 + 0 * 2, none⟩)) (ex_indexO (q := qv91) (m := (visR ol i).length) (c := c91) (k := 0) (s := 2) rfl (by kernel_rfl) (hvr91.oa (k := 0) (by omega)) (by kernel_rfl) Try.underlying32 (by kernel_rfl) (by omega) (by omega)) ?_
            refine sx_val (by kernel_rfl) rfl rfl (.agg #[.int .i64 (((visR ol i).getD 0 (0, false)).1), .bool ((visR ol i).getD 0 (0, false)).2]) (ex_loadR rfl (hvr91.range (k := 0) (by omega)) (by kernel_rfl) Try.underlying52 rfl (by kernel_rfl)) ?_
            refine sx_call (by kernel_rfl) rfl rfl (refIndex_n ((visR ol i).getD 0 (0, false)) l ll oa c b o W7 (hv.below HB)) (by kernel_rfl) ?_
            rintro e W13 ⟨rfl, hb⟩
            replace HB := over HB hb
            replace M2 := M2.below hb
            replace HL := HL.trans (hb.mono (by omega))
            replace HL2 := HL2.trans (hb.mono (by omega))
            replace HG := HG.frame hb
            replace hvr91 := hvr91.below hb
            have z7 := hb.size
            clear hb
            refine ⟨_, rfl, ?_⟩
            by_cases C8 : (idxV l ((visR ol i).getD 0 (0, false))) ≥ 0
            · refine sx_bool (by kernel_rfl) rfl rfl (decide ((idxV l ((visR ol i).getD 0 (0, false))) ≥ 0)) true (by kernel_rfl) (decide_eq_true (by omega)) ?_
              refine sx_val (by kernel_rfl) rfl rfl (.bool true) (by kernel_rfl) ?_
              refine sx_val (by kernel_rfl) rfl rfl (.bool true) (by kernel_rfl) ?_
              refine wpList_nil ?_
              refine sx_norm ?_
              refine sx_true (by kernel_rfl) ?_
              refine wp_region_lit ?_
              refine sx_val (by kernel_rfl) rfl rfl (u7) (by kernel_rfl) ?_
              refine sx_val (by kernel_rfl) rfl rfl (.slice oa91 (visR ol i).length c91) (by kernel_rfl) ?_
              refine sx_val (by kernel_rfl) rfl rfl (.int .i64 ((m : Nat) : Int)) (by kernel_rfl) ?_
              refine sx_val (by kernel_rfl) rfl rfl (.pointer (some ⟨bv91, qv91 + m * 2, none⟩)) (ex_indexO (q := qv91) (m := (visR ol i).length) (c := c91) (k := m) (s := 2) rfl (by kernel_rfl) (hvr91.oa (k := m) (by omega)) (by kernel_rfl) Try.underlying32 (by kernel_rfl) (by omega) (by omega)) ?_
              refine sx_val (by kernel_rfl) rfl rfl (.agg #[.int .i64 (((visR ol i).getD m (0, false)).1), .bool ((visR ol i).getD m (0, false)).2]) (ex_loadR rfl (hvr91.range (k := m) (by omega)) (by kernel_rfl) Try.underlying52 rfl (by kernel_rfl)) ?_
              obtain ⟨W14, hW⟩ : ∃ W, W13.alloc (.cells #[.int .i64 (((visR ol i).getD m (0, false)).1), .bool ((visR ol i).getD m (0, false)).2] 52) = W := ⟨_, rfl⟩
              have hb := hW ▸ below_alloc W13 (.cells #[.int .i64 (((visR ol i).getD m (0, false)).1), .bool ((visR ol i).getD m (0, false)).2] 52)
              have hq : Cb W14 W13.heap.size #[.int .i64 (((visR ol i).getD m (0, false)).1), .bool ((visR ol i).getD m (0, false)).2] 52 := hW ▸ Cb.made W13 #[.int .i64 (((visR ol i).getD m (0, false)).1), .bool ((visR ol i).getD m (0, false)).2] 52
              refine sx_mem (by kernel_rfl) rfl rfl (.slice (some ⟨W13.heap.size, 0, none⟩) 1 1) W14 (by rw [← hW]; kernel_rfl) ?_
              replace HB := over HB hb
              replace M2 := M2.below hb
              replace HL := HL.trans (hb.mono (by omega))
              replace HL2 := HL2.trans (hb.mono (by omega))
              replace HG := HG.frame hb
              replace hvr91 := hvr91.below hb
              have z8 := hb.size
              have M15 := hq
              have yM15 := hq.lt
              clear hq hb hW
              obtain ⟨v16, W17, h18, hg9, hb, hgr, hown⟩ := ap_w 32 HG (lw_cb M15) (by omega) (by have h8 := nxR_len z ol be l i; have h7 := nxV_len (visR ol i) l m; simp only [List.length_append, List.length_cons, List.length_nil]; omega)
              have hvk := hvr91.grownO hgr (fun k9 hk9 e9 => by have h8 := hbv91 k9 hk9; have h7 := hub _ e9; omega)
              have hub2 : ∀ b9, Value.ownBlock v16 = some b9 → b9 < W4.heap.size ∨ W5.heap.size ≤ b9 := fun b9 e9 => by
                rcases hown with h8 | h8
                · exact hub b9 (h8 ▸ e9)
                · rw [h8] at e9; simp only [Option.some.injEq] at e9; omega
              replace hub := hub2
              clear hub2 hown
              refine sx_mem (by kernel_rfl) rfl rfl v16 W17 (ex_append rfl (by kernel_rfl) (by kernel_rfl) h18) ?_
              replace HB := HB.trans (hb.mono (by omega))
              replace M2 := M2.belowB (by omega) hb
              replace HL := HL.trans (hb.mono (by omega))
              replace HL2 := HL2.trans (hb.mono (by omega))
              have z9 := hb.size
              have HG := hg9
              clear hg9 hb hgr h18
              have hvr91 := hvk
              clear hvk
              refine sx_val (by kernel_rfl) rfl rfl (v16) (by kernel_rfl) ?_
              refine wpList_nil ?_
              refine sx_in ?_
              refine sx_norm ?_
              refine wp_region_lit ?_
              refine sx_val (by kernel_rfl) rfl rfl (.int .i64 ((m : Nat) : Int)) (by kernel_rfl) ?_
              refine sx_int (by kernel_rfl) rfl rfl .i64 (IntKind.i64.wrap (((m : Nat) : Int) + 1)) (((m + 1 : Nat) : Int)) (by kernel_rfl) (by rw [IntKind.wrap_i64]; omega) ?_
              refine sx_val (by kernel_rfl) rfl rfl (.int .i64 ((m + 1 : Nat) : Int)) (by kernel_rfl) ?_
              refine wpList_nil ?_
              refine sx_norm ?_
              refine sx_again ((visR ol i).length - (m + 1)) (m + 1, v16) (by omega) (by kernel_rfl) ⟨by show m + 1 ≤ _; omega, Nat.le_refl _, HG.ext ?_, hub, hvr91, HL2⟩
              show _ = nxR z ol be l i ++ nxV (visR ol i) l (m + 1)
              rw [nxV_succ]
              unfold nx1
              rw [if_pos ⟨by assumption, by first | exact .inl (by omega) | exact .inr (by omega)⟩, List.append_assoc]
            refine sx_bool (by kernel_rfl) rfl rfl (decide ((idxV l ((visR ol i).getD 0 (0, false))) ≥ 0)) false (by kernel_rfl) (decide_eq_false (by omega)) ?_
            refine sx_val (by kernel_rfl) rfl rfl (.bool false) (by kernel_rfl) ?_
            refine sx_val (by kernel_rfl) rfl rfl (.bool false) (by kernel_rfl) ?_
            refine wpList_nil ?_
            refine sx_norm ?_
            refine sx_false (by kernel_rfl) ?_
            refine wp_skip ?_
            refine sx_in ?_
            refine sx_norm ?_
            refine wp_region_lit ?_
            refine sx_val (by kernel_rfl) rfl rfl (.int .i64 ((m : Nat) : Int)) (by kernel_rfl) ?_
            refine sx_int (by kernel_rfl) rfl rfl .i64 (IntKind.i64.wrap (((m : Nat) : Int) + 1)) (((m + 1 : Nat) : Int)) (by kernel_rfl) (by rw [IntKind.wrap_i64]; omega) ?_
            refine sx_val (by kernel_rfl) rfl rfl (.int .i64 ((m + 1 : Nat) : Int)) (by kernel_rfl) ?_
            refine wpList_nil ?_
            refine sx_norm ?_
            refine sx_again ((visR ol i).length - (m + 1)) (m + 1, u7) (by omega) (by kernel_rfl) ⟨by show m + 1 ≤ _; omega, Nat.le_refl _, HG.ext ?_, hub, hvr91, HL2⟩
            show _ = nxR z ol be l i ++ nxV (visR ol i) l (m + 1)
            rw [nxV_succ]
            unfold nx1
            rw [if_neg (by rintro ⟨h8, h9 | h9⟩ <;> omega), List.append_nil]
          refine sx_bool (by kernel_rfl) rfl rfl (decide ((idxV l ((visR ol i).getD m (0, false))) < 0)) false (by kernel_rfl) (decide_eq_false (by omega)) ?_
          refine sx_val (by kernel_rfl) rfl rfl (.bool false) (by kernel_rfl) ?_
          refine sx_skip (by kernel_rfl) rfl rfl ?_
          refine sx_skip (by kernel_rfl) rfl rfl ?_
          refine sx_skip (by kernel_rfl) rfl rfl ?_
          refine sx_skip (by kernel_rfl) rfl rfl ?_
          refine sx_skip (by kernel_rfl) rfl rfl ?_
          refine sx_skip (by kernel_rfl) rfl rfl ?_
          refine sx_skip (by kernel_rfl) rfl rfl ?_
          refine sx_skip (by kernel_rfl) rfl rfl ?_
          refine sx_skip (by kernel_rfl) rfl rfl ?_
          refine sx_skip (by kernel_rfl) rfl rfl ?_
          refine sx_val (by kernel_rfl) rfl rfl (.bool false) (by kernel_rfl) ?_
          refine wpList_nil ?_
          refine sx_norm ?_
          refine sx_false (by kernel_rfl) ?_
          refine wp_skip ?_
          refine sx_in ?_
          refine sx_norm ?_
          refine wp_region_lit ?_
          refine sx_val (by kernel_rfl) rfl rfl (.int .i64 ((m : Nat) : Int)) (by kernel_rfl) ?_
          refine sx_int (by kernel_rfl) rfl rfl .i64 (IntKind.i64.wrap (((m : Nat) : Int) + 1)) (((m + 1 : Nat) : Int)) (by kernel_rfl) (by rw [IntKind.wrap_i64]; omega) ?_
          refine sx_val (by kernel_rfl) rfl rfl (.int .i64 ((m + 1 : Nat) : Int)) (by kernel_rfl) ?_
          refine wpList_nil ?_
          refine sx_norm ?_
          refine sx_again ((visR ol i).length - (m + 1)) (m + 1, u7) (by omega) (by kernel_rfl) ⟨by show m + 1 ≤ _; omega, Nat.le_refl _, HG.ext ?_, hub, hvr91, HL2⟩
          show _ = nxR z ol be l i ++ nxV (visR ol i) l (m + 1)
          rw [nxV_succ]
          unfold nx1
          rw [if_neg (by rintro ⟨h8, h9 | h9⟩ <;> omega), List.append_nil]
        refine sx_bool (by kernel_rfl) rfl rfl (decide (((m : Nat) : Int) < (((visR ol i).length : Nat) : Int))) false (by kernel_rfl) (decide_eq_false (by omega)) ?_
        refine wpList_nil ?_
        refine sx_norm ?_
        refine sx_false (by kernel_rfl) ?_
        refine wp_exit ?_
        refine sx_es ?_
        refine sx_es ?_
        refine sx_out ?_
        refine sx_in ?_
        refine sx_norm ?_
        refine wp_region_lit ?_
        refine sx_val (by kernel_rfl) rfl rfl (.int .i64 ((i : Nat) : Int)) (by kernel_rfl) ?_
        refine sx_int (by kernel_rfl) rfl rfl .i64 (IntKind.i64.wrap (((i : Nat) : Int) + 1)) (((i + 1 : Nat) : Int)) (by kernel_rfl) (by rw [IntKind.wrap_i64]; omega) ?_
        refine sx_val (by kernel_rfl) rfl rfl (.int .i64 ((i + 1 : Nat) : Int)) (by kernel_rfl) ?_
        refine wpList_nil ?_
        refine sx_norm ?_
        refine sx_again (ol.length - (i + 1)) (i + 1, u7) (by omega) (by kernel_rfl) ⟨by show i + 1 ≤ _; omega, Nat.le_refl _, HG.ext ?_, HL⟩
        show _ = nxR z ol be l (i + 1)
        rw [nxR_succ]
        unfold nxO
        rw [if_pos ⟨by assumption, by simpa using (by assumption : ¬ (ol.getD i or0).off = true), by assumption⟩, show m = (visR ol i).length by omega]
      refine sx_call (by kernel_rfl) rfl rfl ((by have h8 := refReady_n o0 o1 o2 o3 o4 o5 n0 n1 n2 n4 c0 c1 c2 c3 c4 c5 ol be hn hr hl wr3 (hos.below HB) (hps.below HB) i l ll oa c b o (hv.below HB); rw [show (rdyB ol be l i) = false by simpa using C4] at h8; exact h8)) (by kernel_rfl) ?_
      rintro e W19 ⟨rfl, hb⟩
      replace HB := over HB hb
      replace M2 := M2.below hb
      replace HL := HL.trans (hb.mono (by omega))
      replace HG := HG.frame hb
      have z3 := hb.size
      clear hb
      refine ⟨_, rfl, ?_⟩
      refine sx_val (by kernel_rfl) rfl rfl (.bool true) (by kernel_rfl) ?_
      refine sx_val (by kernel_rfl) rfl rfl (.bool true) (by kernel_rfl) ?_
      refine wpList_nil ?_
      refine sx_norm ?_
      refine sx_true (by kernel_rfl) ?_
      refine wp_exit ?_
      refine sx_es ?_
      refine sx_out ?_
      refine sx_norm ?_
      refine wp_region_lit ?_
      refine sx_val (by kernel_rfl) rfl rfl (.int .i64 ((i : Nat) : Int)) (by kernel_rfl) ?_
      refine sx_int (by kernel_rfl) rfl rfl .i64 (IntKind.i64.wrap (((i : Nat) : Int) + 1)) (((i + 1 : Nat) : Int)) (by kernel_rfl) (by rw [IntKind.wrap_i64]; omega) ?_
      refine sx_val (by kernel_rfl) rfl rfl (.int .i64 ((i + 1 : Nat) : Int)) (by kernel_rfl) ?_
      refine wpList_nil ?_
      refine sx_norm ?_
      refine sx_again (ol.length - (i + 1)) (i + 1, v7) (by omega) (by kernel_rfl) ⟨by show i + 1 ≤ _; omega, Nat.le_refl _, HG.ext ?_, HL⟩
      show _ = nxR z ol be l (i + 1)
      rw [nxR_succ]
      unfold nxO
      rw [if_neg (by rintro ⟨h7, h8, h9⟩; first | exact absurd h7 (by assumption) | exact Bool.noConfusion (h8.symm.trans (by assumption : (ol.getD i or0).off = true)) | exact absurd h9 (by assumption)), List.append_nil]
    refine sx_call (by kernel_rfl) rfl rfl ((by have h8 := refHas_n z ((i : Nat) : Int) wr3; rw [show hasR z ((i : Nat) : Int) = false by simpa using C2] at h8; exact h8)) (by kernel_rfl) ?_
    rintro e w9 ⟨rfl, rfl⟩
    refine ⟨_, rfl, ?_⟩
    refine sx_val (by kernel_rfl) rfl rfl (.bool true) (by kernel_rfl) ?_
    refine sx_val (by kernel_rfl) rfl rfl (.bool true) (by kernel_rfl) ?_
    refine sx_skip (by kernel_rfl) rfl rfl ?_
    refine sx_skip (by kernel_rfl) rfl rfl ?_
    refine sx_skip (by kernel_rfl) rfl rfl ?_
    refine sx_skip (by kernel_rfl) rfl rfl ?_
    refine sx_skip (by kernel_rfl) rfl rfl ?_
    refine sx_skip (by kernel_rfl) rfl rfl ?_
    refine sx_val (by kernel_rfl) rfl rfl (.bool true) (by kernel_rfl) ?_
    refine sx_val (by kernel_rfl) rfl rfl (.bool true) (by kernel_rfl) ?_
    refine sx_skip (by kernel_rfl) rfl rfl ?_
    refine sx_skip (by kernel_rfl) rfl rfl ?_
    refine sx_skip (by kernel_rfl) rfl rfl ?_
    refine sx_skip (by kernel_rfl) rfl rfl ?_
    refine sx_skip (by kernel_rfl) rfl rfl ?_
    refine sx_val (by kernel_rfl) rfl rfl (.bool true) (by kernel_rfl) ?_
    refine wpList_nil ?_
    refine sx_norm ?_
    refine sx_true (by kernel_rfl) ?_
    refine wp_exit ?_
    refine sx_es ?_
    refine sx_out ?_
    refine sx_norm ?_
    refine wp_region_lit ?_
    refine sx_val (by kernel_rfl) rfl rfl (.int .i64 ((i : Nat) : Int)) (by kernel_rfl) ?_
    refine sx_int (by kernel_rfl) rfl rfl .i64 (IntKind.i64.wrap (((i : Nat) : Int) + 1)) (((i + 1 : Nat) : Int)) (by kernel_rfl) (by rw [IntKind.wrap_i64]; omega) ?_
    refine sx_val (by kernel_rfl) rfl rfl (.int .i64 ((i + 1 : Nat) : Int)) (by kernel_rfl) ?_
    refine wpList_nil ?_
    refine sx_norm ?_
    refine sx_again (ol.length - (i + 1)) (i + 1, v7) (by omega) (by kernel_rfl) ⟨by show i + 1 ≤ _; omega, Nat.le_refl _, HG.ext ?_, HL⟩
    show _ = nxR z ol be l (i + 1)
    rw [nxR_succ]
    unfold nxO
    rw [if_neg (by rintro ⟨h7, h8, h9⟩; first | exact absurd h7 (by assumption) | exact Bool.noConfusion (h8.symm.trans (by assumption : (ol.getD i or0).off = true)) | exact absurd h9 (by assumption)), List.append_nil]
  refine sx_bool (by kernel_rfl) rfl rfl (decide (((i : Nat) : Int) < ((ol.length : Nat) : Int))) false (by kernel_rfl) (decide_eq_false (by omega)) ?_
  refine wpList_nil ?_
  refine sx_norm ?_
  refine sx_false (by kernel_rfl) ?_
  refine wp_exit ?_
  refine sx_es ?_
  refine sx_es ?_
  refine sx_out ?_
  refine sx_norm ?_
  refine wp_seq ?_
  refine wp_region_lit ?_
  refine sx_val (by kernel_rfl) rfl rfl (v7) (by kernel_rfl) ?_
  refine sx_val (by kernel_rfl) rfl rfl (v7) (by kernel_rfl) ?_
  refine wpList_nil ?_
  refine sx_norm ?_
  refine wp_ret ?_
  have hi9 : i = ol.length := by omega
  rw [hi9] at HG
  exact sx_ret1 v7 rfl rfl (by kernel_rfl) (visP HG HB (by omega))

end Go.Proofs.Ytoliacfpjhanlaa.T


/-! The program's check of a route's visits is the specification's. -/
namespace Go.Proofs.Ytoliacfpjhanlaa.T
open Go.RowKit
set_option maxRecDepth 8000

/-! ### indices -/
structure Okv (ol : List OrT) : Prop where
  pp : ∀ k, k < ol.length → -1 ≤ (ol.getD k or0).pp
  dp : ∀ k, k < ol.length → -1 ≤ (ol.getD k or0).dp
  ne : ∀ k, k < ol.length → ¬ ((ol.getD k or0).pp = -1 ∧ (ol.getD k or0).dp = -1)
theorem visL_is {ol : List OrT} (ok : Okv ol) {k : Nat} (hk : k < ol.length) : visL ol (k : Int) = visR ol k := by
  have h1 := ok.pp k hk
  have h2 := ok.dp k hk
  unfold visL visR visO inR
  rw [decide_eq_true (by omega), decide_eq_true (by omega), Bool.and_self, if_pos rfl, Int.toNat_natCast]
  by_cases h3 : (ol.getD k or0).pp = -1
  · rw [if_pos h3, if_neg (by omega)]
    by_cases h4 : (ol.getD k or0).dp = -1
    · rw [if_pos h4, if_neg (by omega)]
    · rw [if_neg h4, if_pos (by omega)]
  · rw [if_neg h3, if_pos (by omega)]
    by_cases h4 : (ol.getD k or0).dp = -1
    · rw [if_pos h4, if_neg (by omega)]
    · rw [if_neg h4, if_pos (by omega)]
theorem visR_form {ol : List OrT} (ok : Okv ol) {k : Nat} (hk : k < ol.length) : visR ol k = [((k : Int), false), ((k : Int), true)] ∨ visR ol k = [((k : Int), false)] ∨ visR ol k = [((k : Int), true)] := by
  have h1 := ok.ne k hk
  unfold visR
  by_cases h3 : (ol.getD k or0).pp = -1
  · rw [if_pos h3, if_neg (fun h4 => h1 ⟨h3, h4⟩)]
    exact .inr (.inr rfl)
  · rw [if_neg h3]
    split
    · exact .inr (.inl rfl)
    · exact .inl rfl
end Go.Proofs.Ytoliacfpjhanlaa.T


/-! An instance of small bulk, a route, as arguments. -/
namespace Go.Proofs.Ytoliacfpjhanlaa.T
open Go.Joins Go.ChangeShapes Go.WideShapes Go.ChangeAt Go.RowKit Go.Deep
set_option maxRecDepth 8000

section
variable {H : Type} {enc : TypeId × Value → H}
theorem slice_len {W : World} {base : Nat} {t e : TypeId} {oa : Option Addr} {k c : Nat} {y : DataW H × List MemPlace} {n : Nat} (ht : Try.prog.underlying t = some (.slice e))
    (hf : DataW.trod enc Try.prog W base (fun _ => true) true n t [.slice oa k c] = some y) : k + 1 ≤ Rows.uptoBulk y.1 := by
  rcases open_slice ht hf with ⟨hcs, hx⟩ | ⟨a, len, cap, m, n, D, Pl, hcs, _, hl, hm, hmm, hx, hall⟩
  · simp only [List.cons.injEq, Value.slice.injEq, and_true] at hcs
    obtain ⟨-, rfl, -⟩ := hcs
    exact bulk_pos y.1
  · simp only [List.cons.injEq, Value.slice.injEq, and_true] at hcs
    obtain ⟨-, rfl, -⟩ := hcs
    rw [hx]
    have h1 := bulk_len (H := H) ((List.range k).map D)
    have h2 := bulk_slice (H := H) ((List.range k).map D) ((List.range (m - k)).map fun j => D (k + j))
    rw [List.length_map, List.length_range] at h1
    exact Nat.le_trans (Nat.succ_le_succ h1) h2
theorem bulk_agg {d : DataW H} {parts : List (DataW H)} (h : d ∈ parts) : Rows.uptoBulk d + 1 ≤ Rows.uptoBulk (.agg parts) := by
  have := bulk_part h
  simp only [Rows.uptoBulk]
  omega
/-- the rows of a slice, with a number of each that its bulk bounds -/
theorem rows_ofB {α : Type} [Inhabited α] (d : α) {W : World} {base : Nat} {v : Value} {y : DataW H × List MemPlace} {n : Nat} {t e : TypeId} (k : Nat) (hk : 0 < k) (hu : Try.prog.underlying t = some (.slice e)) (hC : Try.prog.cellsOf e = k) (P : List Value → α → Prop) (f : α → Nat)
    (hone : ∀ (cs : List Value) (x : DataW H × List MemPlace) (m : Nat), cs.length = k → DataW.trod enc Try.prog W base (fun _ => true) true m e cs = some x → (∀ p ∈ x.2, p.block < W.heap.size) → ∃ q, P cs q ∧ f q ≤ Rows.uptoBulk x.1)
    (hf : DataW.trod enc Try.prog W base (fun _ => true) true n t [v] = some y) (hlt : ∀ x ∈ y.2, x.block < W.heap.size) :
    ∃ (oa : Option Addr) (c : Nat) (l : List α), v = .slice oa l.length c ∧ (l.map f).sum + 1 ≤ Rows.uptoBulk y.1 ∧ ∀ i, i < l.length → ∃ (b o : Nat) (cs : List Value), oa = some ⟨b, o, none⟩ ∧ b < W.heap.size ∧ P cs (l.getD i d) ∧ cs.length = k ∧ ∀ j, j < k → W.cell? ⟨b, o + i * k + j, none⟩ = cs[j]? := by
  obtain ⟨y1, y2⟩ := y
  simp only at hlt ⊢
  rcases open_slice hu hf with ⟨hcs, hx⟩ | ⟨a, len, cap, m, n, D, Pl, hcs, _, hl, hm, hmm, hx, hall⟩
  · simp only [List.cons.injEq, and_true] at hcs
    subst hcs
    exact ⟨none, 0, [], rfl, bulk_pos _, fun i hi => by cases hi⟩
  · simp only [List.cons.injEq, and_true] at hcs
    subst hcs
    simp only [if_true] at hmm
    simp only [Prod.mk.injEq] at hx
    rw [hC] at hx hall
    have key : ∀ i, i < len → ∃ q : α × List Value, (P q.2 q.1 ∧ f q.1 ≤ Rows.uptoBulk (D i)) ∧ q.2.length = k ∧ ∀ j, j < k → W.cell? ((a.add (i * k)).add j) = q.2[j]? := fun i hi => by
      obtain ⟨cs', hc, ht⟩ := hall i (by omega)
      obtain ⟨_, hlen, hat⟩ := World.cells?_some hc
      obtain ⟨q, hq, hq2⟩ := hone cs' _ _ hlen ht (fun p hp => hlt p (by
        rw [hx.2, List.mem_append]
        exact .inr (List.mem_flatMap.2 ⟨i, List.mem_range.2 (by omega), hp⟩)))
      exact ⟨⟨q, cs'⟩, ⟨hq, hq2⟩, hlen, fun j hj => hat j (by omega)⟩
    haveI : Inhabited (α × List Value) := ⟨⟨d, []⟩⟩
    obtain ⟨q, hq⟩ := choose_lt key
    have hln : ((List.range len).map fun i => (q i).1).length = len := by simp
    have eg : ∀ i, i < len → ((List.range len).map fun i => (q i).1).getD i d = (q i).1 := fun i hi => by
      rw [List.getD_eq_getElem?_getD, List.getElem?_map, List.getElem?_range hi]; rfl
    have hsum : (((List.range len).map fun i => (q i).1).map f).sum + 1 ≤ Rows.uptoBulk y1 := by
      rw [hx.1]
      refine Nat.le_trans ?_ (bulk_slice _ _)
      rw [bulk_sum, List.map_map, List.map_map]
      exact Nat.succ_le_succ (sum_le (n := len) (f := fun i => f (q i).1) (g := fun i => Rows.uptoBulk (D i)) (fun i hi => (hq i hi).1.2))
    refine ⟨some a, cap, (List.range len).map fun i => (q i).1, by rw [hln], hsum, fun i hi => ?_⟩
    rw [hln] at hi
    obtain ⟨⟨h0, -⟩, h1, h2⟩ := hq i hi
    have hb := row_lt (n := i) hx.2 hlt (show i < m * k from Nat.lt_of_lt_of_le (by omega : i < m) (Nat.le_mul_of_pos_right m hk))
    obtain ⟨b, o, spot⟩ := a
    have hspot : spot = none := by
      obtain ⟨-, z1, z2⟩ := hq 0 (by omega)
      have z3 := z2 0 hk
      rw [List.getElem?_eq_getElem (by omega)] at z3
      simpa [Addr.add] using World.cell?_spot z3
    subst hspot
    rw [eg i hi]
    exact ⟨b, o, (q i).2, rfl, hb, h0, h1, fun j hj => by rw [← h2 j hj, add_pl, add_pl]⟩
theorem type_bulk {W : World} {base : Nat} {cs : List Value} {x : DataW H × List MemPlace} {n : Nat} (hlen : cs.length = 14) (hf : DataW.trod enc Try.prog W base (fun _ => true) true n 95 cs = some x) {oa : Option Addr} {k c : Nat} (h : cs[4]? = some (.slice oa k c)) : k + 2 ≤ Rows.uptoBulk x.1 := by
  have he : Try.prog.underlying 95 = some (.struct #[_, _, _, _, _, _, _, _, _, _, _, _, _, _]) := Try.underlying95
  obtain ⟨xs, n', _, hx, _, hxl, hg⟩ := DataW.trod_struct he hf
  match cs, hlen with
  | [c0, c1, c2, c3, c4, c5, c6, c7, c8, c9, c10, c11, c12, c13], _ =>
    match xs, hxl with
    | [y0, y1, y2, y3, y4, y5, y6, y7, y8, y9, y10, y11, y12, y13], _ =>
      have k4 := hg 4 _ rfl
      have o3 : Try.prog.cellsOf 64 = 1 := by kernel_rfl
      simp [o3] at k4
      simp only [List.getElem?_cons_succ, List.getElem?_cons_zero, Option.some.injEq] at h
      subst h
      rw [hx]
      refine Nat.le_trans (Nat.succ_le_succ (slice_len Try.underlying64 k4)) (bulk_agg ?_)
      simp
theorem order_bulk {W : World} {base : Nat} {cs : List Value} {x : DataW H × List MemPlace} {n : Nat} (hlen : cs.length = 16) (hf : DataW.trod enc Try.prog W base (fun _ => true) true n 68 cs = some x) {oa : Option Addr} {k c : Nat} (h : cs[1]? = some (.slice oa k c)) : k + 2 ≤ Rows.uptoBulk x.1 := by
  have he : Try.prog.underlying 68 = some (.struct #[_, _, _, _, _, _, _, _, _, _]) := Try.underlying68
  obtain ⟨xs, n', _, hx, _, hxl, hg⟩ := DataW.trod_struct he hf
  match cs, hlen with
  | [c0, c1, c2, c3, c4, c5, c6, c7, c8, c9, c10, c11, c12, c13, c14, c15], _ =>
    match xs, hxl with
    | [y0, y1, y2, y3, y4, y5, y6, y7, y8, y9], _ =>
      have k1 := hg 1 _ rfl
      have o3 : Try.prog.cellsOf 64 = 1 := by kernel_rfl
      simp [o3] at k1
      simp only [List.getElem?_cons_succ, List.getElem?_cons_zero, Option.some.injEq] at h
      subst h
      rw [hx]
      refine Nat.le_trans (Nat.succ_le_succ (slice_len Try.underlying64 k1)) (bulk_agg ?_)
      simp
theorem two_sum {α : Type} {f : α → Nat} (h : ∀ a, 2 ≤ f a) : ∀ l : List α, l.length * 2 ≤ (l.map f).sum
  | [] => Nat.zero_le _
  | a :: l => by
    have := two_sum h l
    have := h a
    rw [List.map_cons, List.sum_cons, List.length_cons]
    omega
theorem at_sum {α : Type} {f : α → Nat} {d : α} : ∀ {l : List α} {i : Nat}, i < l.length → f (l.getD i d) ≤ (l.map f).sum
  | [], _, h => by cases h
  | a :: l, 0, _ => by rw [List.map_cons, List.sum_cons]; exact Nat.le_add_right _ _
  | a :: l, i + 1, h => by
    have := at_sum (f := f) (d := d) (l := l) (i := i) (Nat.lt_of_succ_lt_succ h)
    rw [List.map_cons, List.sum_cons]
    exact Nat.le_trans this (Nat.le_add_left _ _)
theorem ptsU_of {W : World} {base : Nat} {v : Value} {y : DataW H × List MemPlace} {n : Nat}
    (hf : DataW.trod enc Try.prog W base (fun _ => true) true n 121 [v] = some y) (hlt : ∀ x ∈ y.2, x.block < W.heap.size) :
    ∃ l : List (Int × Int), Ps W v l ∧ l.length * 2 ≤ Rows.uptoBulk y.1 := by
  have he : Try.prog.underlying 126 = some (.struct #[_, _]) := Try.underlying126
  obtain ⟨oa, c, l, h1, h9, h2⟩ := rows_ofB ((0, 0) : Int × Int) 2 (by decide) Try.underlying121 (by kernel_rfl) (fun cs p => cs = [.int .i64 p.1, .int .i64 p.2]) (fun _ => 2) (fun cs x m hl ht _ => by
    obtain ⟨xs, n', _, hx, _, hxl, hg⟩ := DataW.trod_struct he ht
    match cs, hl with
    | [v0, v1], _ =>
      match xs, hxl with
      | [y0, y1], _ =>
        have k0 := hg 0 _ rfl
        have k1 := hg 1 _ rfl
        have o1 : Try.prog.cellsOf 3 = 1 := by kernel_rfl
        simp [o1] at k0 k1
        obtain ⟨q0, e0, _, _⟩ := DataW.trod_int Try.underlying3 k0
        obtain ⟨q1, e1, _, _⟩ := DataW.trod_int Try.underlying3 k1
        simp only [List.cons.injEq, and_true] at e0 e1
        subst e0 e1
        refine ⟨(q0, q1), rfl, ?_⟩
        rw [hx]
        have := bulk_pos y0.1
        exact Nat.le_trans (Nat.succ_le_succ this) (bulk_agg (by simp))) hf hlt
  refine ⟨l, ⟨oa, c, h1, fun i hi => ?_⟩, by have := two_sum (f := fun _ => 2) (fun _ => Nat.le_refl 2) l; omega⟩
  obtain ⟨b, o, cs, e, hb, rfl, -, hc⟩ := h2 i hi
  exact ⟨b, o, e, hb, hc 0 (by decide), hc 1 (by decide)⟩
theorem arcsU_of {W : World} {base : Nat} {v : Value} {y : DataW H × List MemPlace} {n : Nat}
    (hf : DataW.trod enc Try.prog W base (fun _ => true) true n 23 [v] = some y) (hlt : ∀ x ∈ y.2, x.block < W.heap.size) :
    ∃ (oa : Option Addr) (c : Nat) (l : List ArcT), v = .slice oa l.length c ∧ As W (.slice oa l.length c) l ∧ l.length * 2 ≤ Rows.uptoBulk y.1 ∧ wtA l * 2 ≤ Rows.uptoBulk y.1 := by
  have he : Try.prog.underlying 123 = some (.struct #[_, _, _, _, _, _]) := Try.underlying123
  haveI : Inhabited ArcT := ⟨arc0⟩
  obtain ⟨oa, c, l, h1, h9, h2⟩ := rows_ofB arc0 6 (by decide) Try.underlying23 (by kernel_rfl) (fun cs a => ∃ vt vs, cs = [.int .i64 a.fr, .int .i64 a.to, .int .i64 a.prof, .int .i64 a.miles, vt, vs] ∧ Ps W vt a.tr ∧ Ps W vs a.sl) (fun a => (a.tr.length + a.sl.length) * 2 + 2) (fun cs x m hl ht hp => by
    obtain ⟨xs, n', _, hx, _, hxl, hg⟩ := DataW.trod_struct he ht
    match cs, hl with
    | [c0, c1, c2, c3, c4, c5], _ =>
      match xs, hxl with
      | [y0, y1, y2, y3, y4, y5], _ =>
        have k0 := hg 0 _ rfl
        have k1 := hg 1 _ rfl
        have k2 := hg 2 _ rfl
        have k3 := hg 3 _ rfl
        have k4 := hg 4 _ rfl
        have k5 := hg 5 _ rfl
        have o1 : Try.prog.cellsOf 3 = 1 := by kernel_rfl
        have o2 : Try.prog.cellsOf 121 = 1 := by kernel_rfl
        simp [o1, o2] at k0 k1 k2 k3 k4 k5
        obtain ⟨fr, e0, _, w0⟩ := DataW.trod_int Try.underlying3 k0
        obtain ⟨dt, e1, _, w1⟩ := DataW.trod_int Try.underlying3 k1
        obtain ⟨pr, e2, _, w2⟩ := DataW.trod_int Try.underlying3 k2
        obtain ⟨mi, e3, _, _⟩ := DataW.trod_int Try.underlying3 k3
        simp only [List.cons.injEq, and_true] at e0 e1 e2 e3
        subst e0; subst e1; subst e2; subst e3
        have hx2 := hx
        subst hx2
        obtain ⟨tr, p4, q4⟩ := ptsU_of k4 (fun p hq => hp p (by simp; exact .inr (.inr (.inr (.inr (.inl hq))))))
        obtain ⟨sl, p5, q5⟩ := ptsU_of k5 (fun p hq => hp p (by simp; exact .inr (.inr (.inr (.inr (.inr hq))))))
        refine ⟨⟨fr, dt, pr, mi, tr, sl⟩, ⟨c4, c5, rfl, p4, p5⟩, ?_⟩
        have b0 := bulk_pos y0.1
        have b1 := bulk_pos y1.1
        simp only [List.map_cons, List.map_nil, Rows.uptoBulk, Rows.uptoBulkAll]
        omega) hf hlt
  have hw : ∀ l : List ArcT, wtA l * 2 + l.length * 2 = (l.map fun a => (a.tr.length + a.sl.length) * 2 + 2).sum := fun l => by
    unfold wtA
    induction l with
    | nil => rfl
    | cons a l ih =>
      simp only [List.map_cons, List.sum_cons, List.length_cons] at ih ⊢
      omega
  have hl := hw l
  refine ⟨oa, c, l, h1, ⟨oa, c, rfl, fun i hi => ?_⟩, by omega, by omega⟩
  obtain ⟨b, o, cs, e, hb, ⟨vt, vs, rfl, pt, ps⟩, -, hc⟩ := h2 i hi
  exact ⟨b, o, vt, vs, e, hb, ⟨hc 0 (by decide), hc 1 (by decide), hc 2 (by decide), hc 3 (by decide), hc 4 (by decide), hc 5 (by decide)⟩, pt, ps⟩
theorem typesU_of {W : World} {base : Nat} {v : Value} {y : DataW H × List MemPlace} {n : Nat}
    (hf : DataW.trod enc Try.prog W base (fun _ => true) true n 26 [v] = some y) (hlt : ∀ x ∈ y.2, x.block < W.heap.size) :
    ∃ (oa : Option Addr) (c : Nat) (l : List TyT), v = .slice oa l.length c ∧ Ts W (.slice oa l.length c) l ∧ l.length * 2 ≤ Rows.uptoBulk y.1 ∧ ∀ i, i < l.length → (l.getD i ty0).cap.length ≤ Rows.uptoBulk y.1 := by
  haveI : Inhabited TyT := ⟨ty0⟩
  obtain ⟨oa, c, l, h1, h9, h2⟩ := rows_ofB ty0 14 (by decide) Try.underlying26 (by kernel_rfl) (fun cs q => ∃ vc, cs = [.string q.name, .int .i64 q.count, .int .i64 q.fr, .int .i64 q.to, vc, .int .i64 q.skills, .int .i64 q.prof, .int .i64 q.opn, .int .i64 q.cls, .int .i64 q.drv, .int .i64 q.rst, .int .i64 q.fix, .int .i64 q.pm, .int .i64 q.pt] ∧ L.Li W vc q.cap) (fun q => q.cap.length + 2) (fun cs x m hl ht hp => by
    obtain ⟨q, oa, c, hcs, h1, -, -, -⟩ := type_of hl ht hp
    exact ⟨q, ⟨_, hcs, h1⟩, type_bulk hl ht (oa := oa) (c := c) (by rw [hcs]; rfl)⟩) hf hlt
  refine ⟨oa, c, l, h1, ⟨oa, c, rfl, fun i hi => ?_⟩, by have := two_sum (f := fun q => q.cap.length + 2) (fun _ => Nat.le_add_left 2 _) l; omega, fun i hi => by have := at_sum (f := fun q => q.cap.length + 2) (d := ty0) hi; omega⟩
  obtain ⟨b, o, cs, e, hb, ⟨vc, rfl, hv⟩, -, hc⟩ := h2 i hi
  exact ⟨b, o, vc, e, hb, ⟨hc 0 (by decide), hc 1 (by decide), hc 2 (by decide), hc 3 (by decide), hc 4 (by decide), hc 5 (by decide), hc 6 (by decide), hc 7 (by decide), hc 8 (by decide), hc 9 (by decide), hc 10 (by decide), hc 11 (by decide), hc 12 (by decide), hc 13 (by decide)⟩, hv⟩
theorem ordersU_of {W : World} {base : Nat} {v : Value} {y : DataW H × List MemPlace} {n : Nat}
    (hf : DataW.trod enc Try.prog W base (fun _ => true) true n 27 [v] = some y) (hlt : ∀ x ∈ y.2, x.block < W.heap.size) :
    ∃ (oa : Option Addr) (c : Nat) (l : List OrT), v = .slice oa l.length c ∧ Os W (.slice oa l.length c) l ∧ l.length * 2 ≤ Rows.uptoBulk y.1 ∧ ∀ i, i < l.length → (l.getD i or0).load.length ≤ Rows.uptoBulk y.1 := by
  haveI : Inhabited OrT := ⟨or0⟩
  obtain ⟨oa, c, l, h1, h9, h2⟩ := rows_ofB or0 16 (by decide) Try.underlying27 (by kernel_rfl) (fun cs q => ∃ vc, cs = [.string q.name, vc, .int .i64 q.pp, .int .i64 q.po, .int .i64 q.pc, .int .i64 q.ps, .int .i64 q.dp, .int .i64 q.dd, .int .i64 q.dc, .int .i64 q.ds, .int .i64 q.sk, .int .i64 q.pen, .int .i64 q.spl, .int .i64 q.las, .int .i64 q.now, .bool q.off] ∧ L.Li W vc q.load) (fun q => q.load.length + 2) (fun cs x m hl ht hp => by
    obtain ⟨q, oa, c, hcs, h1, -, -⟩ := order_of hl ht hp
    exact ⟨q, ⟨_, hcs, h1⟩, order_bulk hl ht (oa := oa) (c := c) (by rw [hcs]; rfl)⟩) hf hlt
  refine ⟨oa, c, l, h1, ⟨oa, c, rfl, fun i hi => ?_⟩, by have := two_sum (f := fun q => q.load.length + 2) (fun _ => Nat.le_add_left 2 _) l; omega, fun i hi => by have := at_sum (f := fun q => q.load.length + 2) (d := or0) hi; omega⟩
  obtain ⟨b, o, cs, e, hb, ⟨vc, rfl, hv⟩, -, hc⟩ := h2 i hi
  exact ⟨b, o, vc, e, hb, ⟨hc 0 (by decide), hc 1 (by decide), hc 2 (by decide), hc 3 (by decide), hc 4 (by decide), hc 5 (by decide), hc 6 (by decide), hc 7 (by decide), hc 8 (by decide), hc 9 (by decide), hc 10 (by decide), hc 11 (by decide), hc 12 (by decide), hc 13 (by decide), hc 14 (by decide), hc 15 (by decide)⟩, hv⟩
/-- an instance of small bulk, but for its orders' number -/
structure InV (x : InT) : Prop where
  pl : x.pl.length ≤ 2000000
  al : x.al.length ≤ 1000000
  wt : wtA x.al ≤ 1000000
  tl : x.tl.length ≤ 1000000
  cap : ∀ i, i < x.tl.length → (x.tl.getD i ty0).cap.length ≤ 1048576
  load : ∀ i, i < x.ol.length → (x.ol.getD i or0).load.length ≤ 1048576
  ap : x.ap.length ≤ 2000000
  be : x.be.length ≤ 2000000
theorem arg_instU {W : World} {base : Nat} {v : Value} {d : DataW H} {p : List MemPlace}
    (hv : Value.okWide Try.prog W .any base 30 v) (h : DataW.Trod enc Try.prog W 0 (fun _ => true) true 30 v d p) (hlt : ∀ x ∈ p, x.block < W.heap.size) (hk : Rows.uptoBulk d ≤ 1048576) :
    ∃ (k : Iv) (x : InT), v = k.v x ∧ Ins W k x ∧ InV x := by
  have hC : Try.prog.cellsOf 30 = 6 := by kernel_rfl
  obtain ⟨cs, rfl, hsz⟩ := okWide_struct Try.underlying30 hv
  obtain ⟨fuel, hf⟩ := h
  have he : Try.prog.underlying 30 = some (.struct #[_, _, _, _, _]) := Try.underlying30
  have hN : Try.prog.underlying 25 = some (.struct #[_, _]) := Try.underlying25
  obtain ⟨xs, n', _, hx, _, hxl, hg⟩ := DataW.trod_struct he hf
  obtain ⟨l⟩ := cs
  have hl6 : l.length = 6 := by rw [← hC]; exact hsz
  match l, hl6 with
  | [v0, v1, v2, v3, v4, v5], _ =>
    match xs, hxl with
    | [y0, y1, y2, y3, y4], _ =>
      have k0 := hg 0 _ rfl
      have k1 := hg 1 _ rfl
      have k2 := hg 2 _ rfl
      have k3 := hg 3 _ rfl
      have k4 := hg 4 _ rfl
      have o1 : Try.prog.cellsOf 25 = 2 := by kernel_rfl
      have o2 : Try.prog.cellsOf 26 = 1 := by kernel_rfl
      have o3 : Try.prog.cellsOf 27 = 1 := by kernel_rfl
      have o4 : Try.prog.cellsOf 28 = 1 := by kernel_rfl
      have o5 : Try.prog.cellsOf 22 = 1 := by kernel_rfl
      have o6 : Try.prog.cellsOf 23 = 1 := by kernel_rfl
      simp [o1, o2, o3, o4, Value.cells] at k0 k1 k2 k3 k4
      obtain ⟨xs2, n2', _, hx3, _, hxl2, hg2⟩ := DataW.trod_struct hN k0
      match xs2, hxl2 with
      | [u0, u1], _ =>
        have j0 := hg2 0 _ rfl
        have j1 := hg2 1 _ rfl
        simp [o5, o6] at j0 j1
        simp only [Prod.mk.injEq] at hx
        obtain ⟨hx1, hx2⟩ := hx
        subst hx2
        have hy0 : y0.2 = u0.2 ++ u1.2 := by rw [hx3]; simp
        have hy1 : y0.1 = .agg [u0.1, u1.1] := by rw [hx3]; simp
        have q0 : Rows.uptoBulk u0.1 + Rows.uptoBulk u1.1 + Rows.uptoBulk y1.1 + Rows.uptoBulk y2.1 + Rows.uptoBulk y3.1 + Rows.uptoBulk y4.1 ≤ 1048576 := by
          rw [hx1] at hk
          simp only [List.map_cons, List.map_nil, hy1, Rows.uptoBulk, Rows.uptoBulkAll] at hk
          omega
        obtain ⟨a0, c0, pl, rfl, h0, n0⟩ := strs_of j0 (fun p hp => hlt p (by simp only [List.flatMap_cons, List.mem_append, hy0]; exact Or.inl (Or.inl hp)))
        have b0 := slice_len Try.underlying22 j0
        obtain ⟨a1, c1, al, rfl, h1, n1, n1w⟩ := arcsU_of j1 (fun p hp => hlt p (by simp only [List.flatMap_cons, List.mem_append, hy0]; exact Or.inl (Or.inr hp)))
        obtain ⟨a2, c2, tl, rfl, h2, n2, n2c⟩ := typesU_of k1 (fun p hp => hlt p (by simp; exact .inr (.inl hp)))
        obtain ⟨a3, c3, ol, rfl, h3, n3, n3l⟩ := ordersU_of k2 (fun p hp => hlt p (by simp; exact .inr (.inr (.inl hp))))
        obtain ⟨a4, c4, ap, rfl, h4, n4, -⟩ := pairs_of k3 (fun p hp => hlt p (by simp; exact .inr (.inr (.inr (.inl hp)))))
        obtain ⟨a5, c5, be, rfl, h5, n5, -⟩ := pairs_of k4 (fun p hp => hlt p (by simp; exact .inr (.inr (.inr (.inr hp)))))
        exact ⟨⟨a0, c0, a1, c1, a2, c2, a3, c3, a4, c4, a5, c5⟩, ⟨pl, al, tl, ol, ap, be⟩, rfl, ⟨h0, h1, h2, h3, h4, h5⟩,
          ⟨by show pl.length ≤ _; omega, by show al.length ≤ _; omega, by show wtA al ≤ _; omega, by show tl.length ≤ _; omega, fun i hi => Nat.le_trans (n2c i hi) (by omega), fun i hi => Nat.le_trans (n3l i hi) (by omega), by show ap.length ≤ _; omega, by show be.length ≤ _; omega⟩⟩
end
end Go.Proofs.Ytoliacfpjhanlaa.T


