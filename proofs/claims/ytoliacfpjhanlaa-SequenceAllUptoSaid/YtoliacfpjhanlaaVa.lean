/-
  DERIVED. Va: a part of the base of layer 13 (made by pack.py).
-/
import Derived.Test.YtoliacfpjhanlaaGM
/-! The specification of sequences: whether there is one (by gen_va.py). -/
namespace Go.Proofs.Ytoliacfpjhanlaa.T
open Go.RowKit
set_option maxRecDepth 8000
attribute [local irreducible] wpList Code.wp wpAnyH

theorem refPossible_n (o0 o1 o2 o3 o4 o5 : Option Addr) (n0 n1 n2 c0 c1 c2 c3 c4 c5 : Nat) (ol : List OrT) (ap be : List (Int × Int)) (ok : Okv ol) (hn : ol.length ≤ 10) (hra : U.Rt ol.length ap) (hla : ap.length ≤ 1000000) (hr : U.Rt ol.length be) (hl : be.length ≤ 1000000) (s : Nat) (hs : s < 2 ^ ol.length) (w : World) (hos : Os w (.slice o3 ol.length c3) ol) (hpa : Ps w (.slice o4 ap.length c4) ap) (hps : Ps w (.slice o5 be.length c5) be) : Calls Try.prog 43 #[.agg #[.slice o0 n0 c0, .slice o1 n1 c1, .slice o2 n2 c2, .slice o3 ol.length c3, .slice o4 ap.length c4, .slice o5 be.length c5], .int .i64 ((s : Nat) : Int)] w fun e w' => e = .returned (.bool (posB s ol ap be)) ∧ Below w.heap.size w w' := by
  have HB : Below w.heap.size w w := Below.refl _ _
  have h63 : s < 2 ^ 63 := Nat.lt_of_lt_of_le hs (Nat.le_trans (Nat.pow_le_pow_right (by omega) hn) (by decide))
  obtain ⟨b3, q3, vc, hr16⟩ := hos.rw
  refine sx_enter Try.func43 rfl [(0, .agg #[.slice o0 n0 c0, .slice o1 n1 c1, .slice o2 n2 c2, .slice o3 ol.length c3, .slice o4 ap.length c4, .slice o5 be.length c5]), (1, .int .i64 ((s : Nat) : Int))] (by kernel_rfl) ?_
  refine wp_seq ?_
  refine wp_region_lit ?_
  obtain ⟨W1, hW⟩ : ∃ W, w.alloc (.cells #[.slice o0 n0 c0, .slice o1 n1 c1, .slice o2 n2 c2, .slice o3 ol.length c3, .slice o4 ap.length c4, .slice o5 be.length c5] 30) = W := ⟨_, rfl⟩
  have hb := hW ▸ below_alloc w (.cells #[.slice o0 n0 c0, .slice o1 n1 c1, .slice o2 n2 c2, .slice o3 ol.length c3, .slice o4 ap.length c4, .slice o5 be.length c5] 30)
  have hq : Cb W1 w.heap.size #[.slice o0 n0 c0, .slice o1 n1 c1, .slice o2 n2 c2, .slice o3 ol.length c3, .slice o4 ap.length c4, .slice o5 be.length c5] 30 := hW ▸ Cb.made w #[.slice o0 n0 c0, .slice o1 n1 c1, .slice o2 n2 c2, .slice o3 ol.length c3, .slice o4 ap.length c4, .slice o5 be.length c5] 30
  refine sx_mem (by kernel_rfl) rfl rfl (.pointer (some ⟨w.heap.size, 0, none⟩)) W1 (by rw [← hW]; kernel_rfl) ?_
  replace HB := over HB hb
  have z1 := hb.size
  have M2 := hq
  have yM2 := hq.lt
  clear hq hb hW
  refine sx_val (by kernel_rfl) rfl rfl (.bool false) (by kernel_rfl) ?_
  refine wpList_nil ?_
  refine sx_norm ?_
  refine wp_seq ?_
  refine wp_seq ?_
  refine wp_region_lit ?_
  refine sx_val (by kernel_rfl) rfl rfl (.int .i64 ((s : Nat) : Int)) (by kernel_rfl) ?_
  by_cases C1 : s = 0
  · refine sx_bool (by kernel_rfl) rfl rfl ((((s : Nat) : Int) : Int) == (0 : Int)) true (by kernel_rfl) (beq_iff_eq.2 (by omega)) ?_
    refine sx_val (by kernel_rfl) rfl rfl (.bool true) (by kernel_rfl) ?_
    refine sx_skip (by kernel_rfl) rfl rfl ?_
    refine sx_skip (by kernel_rfl) rfl rfl ?_
    refine sx_skip (by kernel_rfl) rfl rfl ?_
    refine sx_skip (by kernel_rfl) rfl rfl ?_
    refine sx_val (by kernel_rfl) rfl rfl (.bool true) (by kernel_rfl) ?_
    refine wpList_nil ?_
    refine sx_norm ?_
    refine sx_true (by kernel_rfl) ?_
    refine wp_seq ?_
    refine wp_region_lit ?_
    refine sx_val (by kernel_rfl) rfl rfl (.bool false) (by kernel_rfl) ?_
    refine wpList_nil ?_
    refine sx_norm ?_
    refine wp_ret ?_
    refine sx_rs ?_
    refine sx_ret1 (.bool false) rfl rfl (by kernel_rfl) ⟨ret_bool ?_, HB⟩
    first
      | exact (posB_apart hn hra hs (by simpa using (by assumption : ¬ aptB ((s : Nat) : Int) ap = true))).symm
      | (rw [(by assumption : s = 0)]; exact posB_zero.symm)
  refine sx_bool (by kernel_rfl) rfl rfl ((((s : Nat) : Int) : Int) == (0 : Int)) false (by kernel_rfl) (beq_eq_false_iff_ne.2 (by omega)) ?_
  refine sx_val (by kernel_rfl) rfl rfl (.bool false) (by kernel_rfl) ?_
  refine sx_val (by kernel_rfl) rfl rfl (.agg #[.slice o0 n0 c0, .slice o1 n1 c1, .slice o2 n2 c2, .slice o3 ol.length c3, .slice o4 ap.length c4, .slice o5 be.length c5]) (ex_load rfl M2 (by kernel_rfl) Try.underlying30 rfl (by kernel_rfl)) ?_
  refine sx_val (by kernel_rfl) rfl rfl (.int .i64 ((s : Nat) : Int)) (by kernel_rfl) ?_
  by_cases C2 : (aptB ((s : Nat) : Int) ap) = true
  · refine sx_call (by kernel_rfl) rfl rfl ((by have h8 := refApart_n o0 o1 o2 o3 o4 o5 n0 n1 n2 ol.length be.length c0 c1 c2 c3 c4 c5 ol.length ap hra hla ((s : Nat) : Int) W1 (hpa.below HB); rw [show (aptB ((s : Nat) : Int) ap) = true by simpa using C2] at h8; exact h8)) (by kernel_rfl) ?_
    rintro e W3 ⟨rfl, hb⟩
    replace HB := over HB hb
    replace M2 := M2.below hb
    have z2 := hb.size
    clear hb
    refine ⟨_, rfl, ?_⟩
    refine sx_val (by kernel_rfl) rfl rfl (.bool false) (by kernel_rfl) ?_
    refine sx_val (by kernel_rfl) rfl rfl (.bool false) (by kernel_rfl) ?_
    refine wpList_nil ?_
    refine sx_norm ?_
    refine sx_false (by kernel_rfl) ?_
    refine wp_skip ?_
    refine sx_norm ?_
    refine wp_seq ?_
    refine wp_region_lit ?_
    refine sx_val (by kernel_rfl) rfl rfl (.slice none 0 0) (by kernel_rfl) ?_
    refine wpList_nil ?_
    refine sx_norm ?_
    refine wp_seq ?_
    refine wp_seq ?_
    refine wp_region_lit ?_
    refine sx_val (by kernel_rfl) rfl rfl (.bool true) (by kernel_rfl) ?_
    refine wpList_nil ?_
    refine sx_norm ?_
    refine wp_block ?_
    have HG : Gw W3.heap.size W3 (.slice none 0 0) [] := Gw.nil _ _
    have hP0 : PsI s ol be [] 0 := PsI.start ok s
    refine sx_loop (fun x9 : Bool × Nat × List (Int × Bool) × Option Addr × Nat => [(0, .agg #[.slice o0 n0 c0, .slice o1 n1 c1, .slice o2 n2 c2, .slice o3 ol.length c3, .slice o4 ap.length c4, .slice o5 be.length c5]), (1, .int .i64 ((s : Nat) : Int)), (2, .pointer (some ⟨w.heap.size, 0, none⟩)), (4, .bool false), (5, .slice x9.2.2.2.1 x9.2.2.1.length x9.2.2.2.2), (6, .bool x9.1), (9, .int .i64 ((s : Nat) : Int)), (10, .bool false), (11, .bool false), (12, .agg #[.slice o0 n0 c0, .slice o1 n1 c1, .slice o2 n2 c2, .slice o3 ol.length c3, .slice o4 ap.length c4, .slice o5 be.length c5]), (13, .int .i64 ((s : Nat) : Int)), (14, .bool true), (15, .bool false), (16, .bool false)]) (fun gg x9 wr => PsI s ol be x9.2.2.1 x9.2.1 ∧ (x9.1 = false → ∀ k, k < ol.length → ¬ AddP s ol be x9.2.2.1 k) ∧ 2 * muB (U.minus s x9.2.1) + (if x9.1 = true then 1 else 0) ≤ gg ∧ Gw W3.heap.size wr (.slice x9.2.2.2.1 x9.2.2.1.length x9.2.2.2.2) x9.2.2.1 ∧ Below W3.heap.size W3 wr) (2 * muB (U.minus s 0) + 1) ((true, 0, [], none, 0)) (by kernel_rfl) ⟨hP0, (fun h => by cases h), (by rw [if_pos rfl]; exact Nat.le_refl _), HG, Below.refl _ _⟩ ?_
    rintro gg ⟨a1, d1, L1, la1, lc1⟩ g' wr4 ⟨hP1, hno1, hm1, HG, hbl⟩
    dsimp only at hP1 hno1 hm1 HG hbl
    replace HB := HB.trans (hbl.mono (by omega))
    replace M2 := M2.belowB (by omega) hbl
    have z3 := hbl.size
    have HL := hbl
    clear hbl
    have hl1 : L1.length ≤ 126 := by have h8 := hP1.len; have h9 := muB_63 s; omega
    refine wp_seq ?_
    refine wp_seq ?_
    refine wp_region_lit ?_
    by_cases C3 : a1 = true
    · subst C3
      refine sx_val (by kernel_rfl) rfl rfl (.bool true) (by kernel_rfl) ?_
      refine wpList_nil ?_
      refine sx_norm ?_
      refine sx_true (by kernel_rfl) ?_
      refine wp_skip ?_
      refine sx_norm ?_
      refine wp_block ?_
      refine wp_seq ?_
      refine wp_region_lit ?_
      refine sx_val (by kernel_rfl) rfl rfl (.bool false) (by kernel_rfl) ?_
      refine wpList_nil ?_
      refine sx_norm ?_
      refine wp_seq ?_
      refine wp_region_lit ?_
      refine sx_val (by kernel_rfl) rfl rfl (.int .i64 0) (by kernel_rfl) ?_
      refine wpList_nil ?_
      refine sx_norm ?_
      refine wp_block ?_
      rw [if_pos rfl] at hm1
      refine sx_loop (fun x9 : Nat × Bool × Nat × List (Int × Bool) × Option Addr × Nat => [(0, .agg #[.slice o0 n0 c0, .slice o1 n1 c1, .slice o2 n2 c2, .slice o3 ol.length c3, .slice o4 ap.length c4, .slice o5 be.length c5]), (1, .int .i64 ((s : Nat) : Int)), (2, .pointer (some ⟨w.heap.size, 0, none⟩)), (4, .bool false), (5, .slice x9.2.2.2.2.1 x9.2.2.2.1.length x9.2.2.2.2.2), (6, .bool x9.2.1), (7, .int .i64 ((x9.1 : Nat) : Int)), (9, .int .i64 ((s : Nat) : Int)), (10, .bool false), (11, .bool false), (12, .agg #[.slice o0 n0 c0, .slice o1 n1 c1, .slice o2 n2 c2, .slice o3 ol.length c3, .slice o4 ap.length c4, .slice o5 be.length c5]), (13, .int .i64 ((s : Nat) : Int)), (14, .bool true), (15, .bool false), (16, .bool false), (17, .bool true)]) (fun gg x9 wr => x9.1 ≤ ol.length ∧ ol.length - x9.1 ≤ gg ∧ PsI s ol be x9.2.2.2.1 x9.2.2.1 ∧ (x9.2.1 = false → ∀ k, k < x9.1 → ¬ AddP s ol be x9.2.2.2.1 k) ∧ muB (U.minus s x9.2.2.1) ≤ muB (U.minus s d1) ∧ (x9.2.1 = true → muB (U.minus s x9.2.2.1) < muB (U.minus s d1)) ∧ Gw W3.heap.size wr (.slice x9.2.2.2.2.1 x9.2.2.2.1.length x9.2.2.2.2.2) x9.2.2.2.1 ∧ Below W3.heap.size wr4 wr) (ol.length) ((0, false, d1, L1, la1, lc1)) (by kernel_rfl) ⟨Nat.zero_le _, Nat.le_refl _, hP1, fun _ k hk => absurd hk (Nat.not_lt_zero k), Nat.le_refl _, (fun h => by cases h), HG, Below.refl _ _⟩ ?_
      rintro gg ⟨i, a2, d2, L2, la2, lc2⟩ g' wr5 ⟨hi, hg2, hP2, hno2, hle2, hlt2, HG, hbl⟩
      dsimp only at hi hg2 hP2 hno2 hle2 hlt2 HG hbl
      replace HB := HB.trans (hbl.mono (by omega))
      replace M2 := M2.belowB (by omega) hbl
      replace HL := HL.trans (hbl.mono (by omega))
      have z4 := hbl.size
      have HL2 := hbl
      clear hbl
      have hl2 : L2.length ≤ 126 := by have h8 := hP2.len; have h9 := muB_63 s; omega
      refine wp_seq ?_
      refine wp_seq ?_
      refine wp_region_lit ?_
      refine sx_val (by kernel_rfl) rfl rfl (.int .i64 ((i : Nat) : Int)) (by kernel_rfl) ?_
      refine sx_val (by kernel_rfl) rfl rfl (.pointer (some ⟨w.heap.size, 3, none⟩)) (by kernel_rfl) ?_
      refine sx_val (by kernel_rfl) rfl rfl (.slice o3 ol.length c3) (ex_load1 rfl (M2.cell 3 rfl) (by kernel_rfl) Try.underlying27 rfl) ?_
      refine sx_val (by kernel_rfl) rfl rfl (.int .i64 ((ol.length : Nat) : Int)) (by kernel_rfl) ?_
      by_cases C4 : i < ol.length
      · refine sx_bool (by kernel_rfl) rfl rfl (decide (((i : Nat) : Int) < ((ol.length : Nat) : Int))) true (by kernel_rfl) (decide_eq_true (by omega)) ?_
        refine wpList_nil ?_
        refine sx_norm ?_
        refine sx_true (by kernel_rfl) ?_
        refine wp_skip ?_
        refine sx_norm ?_
        refine wp_seq ?_
        refine wp_block ?_
        refine wp_seq ?_
        have hik : i < ol.length := by omega
        obtain ⟨bhlr6, qhlr6, hlr6⟩ := (show Vs wr5 (.slice la2 L2.length lc2) L2 from Gn.sl HG).rw2
        refine wp_region_lit ?_
        refine sx_val (by kernel_rfl) rfl rfl (.int .i64 ((s : Nat) : Int)) (by kernel_rfl) ?_
        refine sx_val (by kernel_rfl) rfl rfl (.int .i64 ((i : Nat) : Int)) (by kernel_rfl) ?_
        by_cases C5 : hasR ((s : Nat) : Int) ((i : Nat) : Int) = true
        · refine sx_call (by kernel_rfl) rfl rfl ((by have h8 := refHas_n ((s : Nat) : Int) ((i : Nat) : Int) wr5; rw [show hasR ((s : Nat) : Int) ((i : Nat) : Int) = true by simpa using C5] at h8; exact h8)) (by kernel_rfl) ?_
          rintro e w9 ⟨rfl, rfl⟩
          refine ⟨_, rfl, ?_⟩
          refine sx_val (by kernel_rfl) rfl rfl (.bool true) (by kernel_rfl) ?_
          refine sx_val (by kernel_rfl) rfl rfl (.pointer (some ⟨w.heap.size, 3, none⟩)) (by kernel_rfl) ?_
          refine sx_val (by kernel_rfl) rfl rfl (.slice o3 ol.length c3) (ex_load1 rfl (M2.cell 3 rfl) (by kernel_rfl) Try.underlying27 rfl) ?_
          refine sx_val (by kernel_rfl) rfl rfl (.int .i64 ((i : Nat) : Int)) (by kernel_rfl) ?_
          refine sx_val (by kernel_rfl) rfl rfl (.pointer (some ⟨b3, q3 + i * 16, none⟩)) (ex_indexO (q := q3) (m := ol.length) (c := c3) (k := i) (s := 16) rfl (by kernel_rfl) ((hr16.below HB).oa (k := i) (by omega)) (by kernel_rfl) Try.underlying27 (by kernel_rfl) (by omega) (by omega)) ?_
          refine sx_val (by kernel_rfl) rfl rfl (.pointer (some ⟨b3, q3 + i * 16 + 15, none⟩)) (by kernel_rfl) ?_
          by_cases C6 : (ol.getD i or0).off = true
          · refine sx_val (by kernel_rfl) rfl rfl (.bool true) (ex_load1 (v := .bool true) rfl (by have h8 := (hr16.below HB).cell (k := i) (by omega) 15 rfl; rw [show (ol.getD i or0).off = true by simpa using C6] at h8; exact h8) (by kernel_rfl) Try.underlying4 rfl) ?_
            refine sx_val (by kernel_rfl) rfl rfl (.bool false) (by kernel_rfl) ?_
            refine sx_val (by kernel_rfl) rfl rfl (.bool false) (by kernel_rfl) ?_
            refine sx_val (by kernel_rfl) rfl rfl (.bool false) (by kernel_rfl) ?_
            refine sx_skip (by kernel_rfl) rfl rfl ?_
            refine sx_skip (by kernel_rfl) rfl rfl ?_
            refine sx_skip (by kernel_rfl) rfl rfl ?_
            refine sx_skip (by kernel_rfl) rfl rfl ?_
            refine sx_skip (by kernel_rfl) rfl rfl ?_
            refine sx_skip (by kernel_rfl) rfl rfl ?_
            refine sx_val (by kernel_rfl) rfl rfl (.bool false) (by kernel_rfl) ?_
            refine sx_val (by kernel_rfl) rfl rfl (.bool false) (by kernel_rfl) ?_
            refine sx_skip (by kernel_rfl) rfl rfl ?_
            refine sx_skip (by kernel_rfl) rfl rfl ?_
            refine sx_skip (by kernel_rfl) rfl rfl ?_
            refine sx_skip (by kernel_rfl) rfl rfl ?_
            refine sx_val (by kernel_rfl) rfl rfl (.bool false) (by kernel_rfl) ?_
            refine wpList_nil ?_
            refine sx_norm ?_
            refine sx_false (by kernel_rfl) ?_
            refine wp_skip ?_
            refine sx_in ?_
            refine sx_norm ?_
            refine wp_region_lit ?_
            refine sx_val (by kernel_rfl) rfl rfl (.int .i64 ((i : Nat) : Int)) (by kernel_rfl) ?_
            refine sx_int (by kernel_rfl) rfl rfl .i64 (IntKind.i64.wrap (((i : Nat) : Int) + 1)) (((i + 1 : Nat) : Int)) (by kernel_rfl) (by rw [IntKind.wrap_i64]; omega) ?_
            refine sx_val (by kernel_rfl) rfl rfl (.int .i64 ((i + 1 : Nat) : Int)) (by kernel_rfl) ?_
            refine wpList_nil ?_
            refine sx_norm ?_
            refine sx_again (ol.length - (i + 1)) (i + 1, a2, d2, L2, la2, lc2) (by omega) (by kernel_rfl) ⟨by show i + 1 ≤ _; omega, Nat.le_refl _, hP2, (fun h k hk => ?_), hle2, hlt2, HG, HL2⟩
            rcases Nat.lt_succ_iff_lt_or_eq.1 hk with h8 | h8
            · exact hno2 h k h8
            subst h8
            rintro ⟨h4, h5, h6, h7⟩
            first
              | exact absurd (by rw [hasRS_nat h63 (by omega)]; exact h4) (by assumption : ¬ hasR ((s : Nat) : Int) ((k : Nat) : Int) = true)
              | exact Bool.noConfusion (h5.symm.trans (by assumption : (ol.getD k or0).off = true))
              | exact Bool.noConfusion (h6.symm.trans (by assumption : conV L2 (visR ol k) = true))
              | exact absurd h7 (by assumption : ¬ rdyB ol be L2 k = true)
          refine sx_val (by kernel_rfl) rfl rfl (.bool false) (ex_load1 (v := .bool false) rfl (by have h8 := (hr16.below HB).cell (k := i) (by omega) 15 rfl; rw [show (ol.getD i or0).off = false by simpa using C6] at h8; exact h8) (by kernel_rfl) Try.underlying4 rfl) ?_
          refine sx_val (by kernel_rfl) rfl rfl (.bool true) (by kernel_rfl) ?_
          refine sx_val (by kernel_rfl) rfl rfl (.bool true) (by kernel_rfl) ?_
          refine sx_val (by kernel_rfl) rfl rfl (.bool true) (by kernel_rfl) ?_
          refine sx_val (by kernel_rfl) rfl rfl (.slice la2 L2.length lc2) (by kernel_rfl) ?_
          refine sx_val (by kernel_rfl) rfl rfl (.agg #[.slice o0 n0 c0, .slice o1 n1 c1, .slice o2 n2 c2, .slice o3 ol.length c3, .slice o4 ap.length c4, .slice o5 be.length c5]) (ex_load rfl M2 (by kernel_rfl) Try.underlying30 rfl (by kernel_rfl)) ?_
          refine sx_val (by kernel_rfl) rfl rfl (.int .i64 ((i : Nat) : Int)) (by kernel_rfl) ?_
          refine sx_call (by kernel_rfl) rfl rfl (refVisits_n o0 o1 o2 o3 o4 o5 n0 n1 n2 ap.length be.length c0 c1 c2 c3 c4 c5 ol i hik hn wr5 (hos.below HB)) (by kernel_rfl) ?_
          rintro e W7 ⟨oa91, c91, rfl, ⟨hvs91, -, -⟩, hb⟩
          replace HB := over HB hb
          replace M2 := M2.below hb
          replace HL := HL.trans (hb.mono (by omega))
          replace HL2 := HL2.trans (hb.mono (by omega))
          replace HG := HG.frame hb
          replace hlr6 := hlr6.below hb
          have z5 := hb.size
          clear hb
          refine ⟨_, rfl, ?_⟩
          obtain ⟨bv91, qv91, hvr91⟩ := hvs91.rw2
          clear hvs91
          by_cases C7 : (conV L2 (visR ol i)) = true
          · refine sx_call (by kernel_rfl) rfl rfl ((by have h8 := refContains_n L2 (by omega) la2 lc2 bhlr6 qhlr6 (visR ol i) (Nat.le_trans (visR_len _ _) (by decide)) oa91 c91 bv91 qv91 W7 hlr6 hvr91; rw [show (conV L2 (visR ol i)) = true by simpa using C7] at h8; exact h8)) (by kernel_rfl) ?_
            rintro e W8 ⟨rfl, hb⟩
            replace HB := over HB hb
            replace M2 := M2.below hb
            replace HL := HL.trans (hb.mono (by omega))
            replace HL2 := HL2.trans (hb.mono (by omega))
            replace HG := HG.frame hb
            replace hlr6 := hlr6.below hb
            replace hvr91 := hvr91.below hb
            have z6 := hb.size
            clear hb
            refine ⟨_, rfl, ?_⟩
            refine sx_val (by kernel_rfl) rfl rfl (.bool false) (by kernel_rfl) ?_
            refine sx_val (by kernel_rfl) rfl rfl (.bool false) (by kernel_rfl) ?_
            refine sx_val (by kernel_rfl) rfl rfl (.bool false) (by kernel_rfl) ?_
            refine sx_skip (by kernel_rfl) rfl rfl ?_
            refine sx_skip (by kernel_rfl) rfl rfl ?_
            refine sx_skip (by kernel_rfl) rfl rfl ?_
            refine sx_skip (by kernel_rfl) rfl rfl ?_
            refine sx_val (by kernel_rfl) rfl rfl (.bool false) (by kernel_rfl) ?_
            refine wpList_nil ?_
            refine sx_norm ?_
            refine sx_false (by kernel_rfl) ?_
            refine wp_skip ?_
            refine sx_in ?_
            refine sx_norm ?_
            refine wp_region_lit ?_
            refine sx_val (by kernel_rfl) rfl rfl (.int .i64 ((i : Nat) : Int)) (by kernel_rfl) ?_
            refine sx_int (by kernel_rfl) rfl rfl .i64 (IntKind.i64.wrap (((i : Nat) : Int) + 1)) (((i + 1 : Nat) : Int)) (by kernel_rfl) (by rw [IntKind.wrap_i64]; omega) ?_
            refine sx_val (by kernel_rfl) rfl rfl (.int .i64 ((i + 1 : Nat) : Int)) (by kernel_rfl) ?_
            refine wpList_nil ?_
            refine sx_norm ?_
            refine sx_again (ol.length - (i + 1)) (i + 1, a2, d2, L2, la2, lc2) (by omega) (by kernel_rfl) ⟨by show i + 1 ≤ _; omega, Nat.le_refl _, hP2, (fun h k hk => ?_), hle2, hlt2, HG, HL2⟩
            rcases Nat.lt_succ_iff_lt_or_eq.1 hk with h8 | h8
            · exact hno2 h k h8
            subst h8
            rintro ⟨h4, h5, h6, h7⟩
            first
              | exact absurd (by rw [hasRS_nat h63 (by omega)]; exact h4) (by assumption : ¬ hasR ((s : Nat) : Int) ((k : Nat) : Int) = true)
              | exact Bool.noConfusion (h5.symm.trans (by assumption : (ol.getD k or0).off = true))
              | exact Bool.noConfusion (h6.symm.trans (by assumption : conV L2 (visR ol k) = true))
              | exact absurd h7 (by assumption : ¬ rdyB ol be L2 k = true)
          refine sx_call (by kernel_rfl) rfl rfl ((by have h8 := refContains_n L2 (by omega) la2 lc2 bhlr6 qhlr6 (visR ol i) (Nat.le_trans (visR_len _ _) (by decide)) oa91 c91 bv91 qv91 W7 hlr6 hvr91; rw [show (conV L2 (visR ol i)) = false by simpa using C7] at h8; exact h8)) (by kernel_rfl) ?_
          rintro e W9 ⟨rfl, hb⟩
          replace HB := over HB hb
          replace M2 := M2.below hb
          replace HL := HL.trans (hb.mono (by omega))
          replace HL2 := HL2.trans (hb.mono (by omega))
          replace HG := HG.frame hb
          replace hlr6 := hlr6.below hb
          replace hvr91 := hvr91.below hb
          have z6 := hb.size
          clear hb
          refine ⟨_, rfl, ?_⟩
          refine sx_val (by kernel_rfl) rfl rfl (.bool true) (by kernel_rfl) ?_
          refine sx_val (by kernel_rfl) rfl rfl (.bool true) (by kernel_rfl) ?_
          refine sx_val (by kernel_rfl) rfl rfl (.bool true) (by kernel_rfl) ?_
          refine sx_val (by kernel_rfl) rfl rfl (.agg #[.slice o0 n0 c0, .slice o1 n1 c1, .slice o2 n2 c2, .slice o3 ol.length c3, .slice o4 ap.length c4, .slice o5 be.length c5]) (ex_load rfl M2 (by kernel_rfl) Try.underlying30 rfl (by kernel_rfl)) ?_
          refine sx_val (by kernel_rfl) rfl rfl (.int .i64 ((i : Nat) : Int)) (by kernel_rfl) ?_
          refine sx_val (by kernel_rfl) rfl rfl (.slice la2 L2.length lc2) (by kernel_rfl) ?_
          by_cases C8 : (rdyB ol be L2 i) = true
          · refine sx_call (by kernel_rfl) rfl rfl ((by have h8 := refReady_n o0 o1 o2 o3 o4 o5 n0 n1 n2 ap.length c0 c1 c2 c3 c4 c5 ol be hn hr hl W9 (hos.below HB) (hps.below HB) i L2 (by omega) la2 lc2 bhlr6 qhlr6 hlr6; rw [show (rdyB ol be L2 i) = true by simpa using C8] at h8; exact h8)) (by kernel_rfl) ?_
            rintro e W10 ⟨rfl, hb⟩
            replace HB := over HB hb
            replace M2 := M2.below hb
            replace HL := HL.trans (hb.mono (by omega))
            replace HL2 := HL2.trans (hb.mono (by omega))
            replace HG := HG.frame hb
            replace hlr6 := hlr6.below hb
            replace hvr91 := hvr91.below hb
            have z7 := hb.size
            clear hb
            refine ⟨_, rfl, ?_⟩
            refine sx_val (by kernel_rfl) rfl rfl (.bool true) (by kernel_rfl) ?_
            refine wpList_nil ?_
            refine sx_norm ?_
            refine sx_true (by kernel_rfl) ?_
            refine wp_seq ?_
            refine wp_region_lit ?_
            refine sx_val (by kernel_rfl) rfl rfl (.slice la2 L2.length lc2) (by kernel_rfl) ?_
            refine sx_val (by kernel_rfl) rfl rfl (.agg #[.slice o0 n0 c0, .slice o1 n1 c1, .slice o2 n2 c2, .slice o3 ol.length c3, .slice o4 ap.length c4, .slice o5 be.length c5]) (ex_load rfl M2 (by kernel_rfl) Try.underlying30 rfl (by kernel_rfl)) ?_
            refine sx_val (by kernel_rfl) rfl rfl (.int .i64 ((i : Nat) : Int)) (by kernel_rfl) ?_
            refine sx_call (by kernel_rfl) rfl rfl (refVisits_n o0 o1 o2 o3 o4 o5 n0 n1 n2 ap.length be.length c0 c1 c2 c3 c4 c5 ol i hik hn W10 (hos.below HB)) (by kernel_rfl) ?_
            rintro e W11 ⟨oa92, c92, rfl, ⟨hvs92, -, hvn92⟩, hb⟩
            replace HB := over HB hb
            replace M2 := M2.below hb
            replace HL := HL.trans (hb.mono (by omega))
            replace HL2 := HL2.trans (hb.mono (by omega))
            replace HG := HG.frame hb
            replace hlr6 := hlr6.below hb
            replace hvr91 := hvr91.below hb
            have z8 := hb.size
            clear hb
            refine ⟨_, rfl, ?_⟩
            obtain ⟨v9, W12, h9, hg9, hb, -, -⟩ := ap_w 32 HG (⟨_, _, rfl, hvs92, hvn92⟩ : Lw W11 (.slice oa92 (visR ol i).length c92) (visR ol i)) (by omega) (by have h8 := visR_len ol i; omega)
            obtain ⟨la9, lc9, rfl⟩ := Gn.form hg9
            refine sx_mem (by kernel_rfl) rfl rfl (.slice la9 (L2 ++ visR ol i).length lc9) W12 (ex_append rfl (by kernel_rfl) (by kernel_rfl) h9) ?_
            replace HB := HB.trans (hb.mono (by omega))
            replace M2 := M2.belowB (by omega) hb
            replace HL := HL.trans (hb.mono (by omega))
            replace HL2 := HL2.trans (hb.mono (by omega))
            have z9 := hb.size
            have HG := hg9
            clear hg9 hb h9
            refine sx_val (by kernel_rfl) rfl rfl (.slice la9 (L2 ++ visR ol i).length lc9) (by kernel_rfl) ?_
            refine wpList_nil ?_
            refine sx_norm ?_
            refine wp_region_lit ?_
            refine sx_val (by kernel_rfl) rfl rfl (.bool true) (by kernel_rfl) ?_
            refine wpList_nil ?_
            refine sx_in ?_
            refine sx_norm ?_
            refine wp_region_lit ?_
            refine sx_val (by kernel_rfl) rfl rfl (.int .i64 ((i : Nat) : Int)) (by kernel_rfl) ?_
            refine sx_int (by kernel_rfl) rfl rfl .i64 (IntKind.i64.wrap (((i : Nat) : Int) + 1)) (((i + 1 : Nat) : Int)) (by kernel_rfl) (by rw [IntKind.wrap_i64]; omega) ?_
            refine sx_val (by kernel_rfl) rfl rfl (.int .i64 ((i + 1 : Nat) : Int)) (by kernel_rfl) ?_
            refine wpList_nil ?_
            refine sx_norm ?_
            have hA9 : AddP s ol be L2 i := ⟨by rw [← hasRS_nat h63 (by omega)]; assumption, by simpa using (by assumption : ¬ (ol.getD i or0).off = true), by simpa using (by assumption : ¬ conV L2 (visR ol i) = true), by assumption⟩
            obtain ⟨hP9, hm9⟩ := PsI.add ok hn hr hs hP2 hik hA9
            exact sx_again (ol.length - (i + 1)) (i + 1, true, d2 ||| 2 ^ i, L2 ++ visR ol i, la9, lc9) (by omega) (by kernel_rfl) ⟨by show i + 1 ≤ _; omega, Nat.le_refl _, hP9, (fun h => by cases h), by show muB (U.minus s (d2 ||| 2 ^ i)) ≤ _; omega, (fun _ => by show muB (U.minus s (d2 ||| 2 ^ i)) < _; omega), HG, HL2⟩
          refine sx_call (by kernel_rfl) rfl rfl ((by have h8 := refReady_n o0 o1 o2 o3 o4 o5 n0 n1 n2 ap.length c0 c1 c2 c3 c4 c5 ol be hn hr hl W9 (hos.below HB) (hps.below HB) i L2 (by omega) la2 lc2 bhlr6 qhlr6 hlr6; rw [show (rdyB ol be L2 i) = false by simpa using C8] at h8; exact h8)) (by kernel_rfl) ?_
          rintro e W13 ⟨rfl, hb⟩
          replace HB := over HB hb
          replace M2 := M2.below hb
          replace HL := HL.trans (hb.mono (by omega))
          replace HL2 := HL2.trans (hb.mono (by omega))
          replace HG := HG.frame hb
          replace hlr6 := hlr6.below hb
          replace hvr91 := hvr91.below hb
          have z7 := hb.size
          clear hb
          refine ⟨_, rfl, ?_⟩
          refine sx_val (by kernel_rfl) rfl rfl (.bool false) (by kernel_rfl) ?_
          refine wpList_nil ?_
          refine sx_norm ?_
          refine sx_false (by kernel_rfl) ?_
          refine wp_skip ?_
          refine sx_in ?_
          refine sx_norm ?_
          refine wp_region_lit ?_
          refine sx_val (by kernel_rfl) rfl rfl (.int .i64 ((i : Nat) : Int)) (by kernel_rfl) ?_
          refine sx_int (by kernel_rfl) rfl rfl .i64 (IntKind.i64.wrap (((i : Nat) : Int) + 1)) (((i + 1 : Nat) : Int)) (by kernel_rfl) (by rw [IntKind.wrap_i64]; omega) ?_
          refine sx_val (by kernel_rfl) rfl rfl (.int .i64 ((i + 1 : Nat) : Int)) (by kernel_rfl) ?_
          refine wpList_nil ?_
          refine sx_norm ?_
          refine sx_again (ol.length - (i + 1)) (i + 1, a2, d2, L2, la2, lc2) (by omega) (by kernel_rfl) ⟨by show i + 1 ≤ _; omega, Nat.le_refl _, hP2, (fun h k hk => ?_), hle2, hlt2, HG, HL2⟩
          rcases Nat.lt_succ_iff_lt_or_eq.1 hk with h8 | h8
          · exact hno2 h k h8
          subst h8
          rintro ⟨h4, h5, h6, h7⟩
          first
            | exact absurd (by rw [hasRS_nat h63 (by omega)]; exact h4) (by assumption : ¬ hasR ((s : Nat) : Int) ((k : Nat) : Int) = true)
            | exact Bool.noConfusion (h5.symm.trans (by assumption : (ol.getD k or0).off = true))
            | exact Bool.noConfusion (h6.symm.trans (by assumption : conV L2 (visR ol k) = true))
            | exact absurd h7 (by assumption : ¬ rdyB ol be L2 k = true)
        refine sx_call (by kernel_rfl) rfl rfl ((by have h8 := refHas_n ((s : Nat) : Int) ((i : Nat) : Int) wr5; rw [show hasR ((s : Nat) : Int) ((i : Nat) : Int) = false by simpa using C5] at h8; exact h8)) (by kernel_rfl) ?_
        rintro e w9 ⟨rfl, rfl⟩
        refine ⟨_, rfl, ?_⟩
        refine sx_val (by kernel_rfl) rfl rfl (.bool false) (by kernel_rfl) ?_
        refine sx_skip (by kernel_rfl) rfl rfl ?_
        refine sx_skip (by kernel_rfl) rfl rfl ?_
        refine sx_skip (by kernel_rfl) rfl rfl ?_
        refine sx_skip (by kernel_rfl) rfl rfl ?_
        refine sx_skip (by kernel_rfl) rfl rfl ?_
        refine sx_skip (by kernel_rfl) rfl rfl ?_
        refine sx_skip (by kernel_rfl) rfl rfl ?_
        refine sx_val (by kernel_rfl) rfl rfl (.bool false) (by kernel_rfl) ?_
        refine sx_val (by kernel_rfl) rfl rfl (.bool false) (by kernel_rfl) ?_
        refine sx_skip (by kernel_rfl) rfl rfl ?_
        refine sx_skip (by kernel_rfl) rfl rfl ?_
        refine sx_skip (by kernel_rfl) rfl rfl ?_
        refine sx_skip (by kernel_rfl) rfl rfl ?_
        refine sx_skip (by kernel_rfl) rfl rfl ?_
        refine sx_skip (by kernel_rfl) rfl rfl ?_
        refine sx_val (by kernel_rfl) rfl rfl (.bool false) (by kernel_rfl) ?_
        refine sx_val (by kernel_rfl) rfl rfl (.bool false) (by kernel_rfl) ?_
        refine sx_skip (by kernel_rfl) rfl rfl ?_
        refine sx_skip (by kernel_rfl) rfl rfl ?_
        refine sx_skip (by kernel_rfl) rfl rfl ?_
        refine sx_skip (by kernel_rfl) rfl rfl ?_
        refine sx_val (by kernel_rfl) rfl rfl (.bool false) (by kernel_rfl) ?_
        refine wpList_nil ?_
        refine sx_norm ?_
        refine sx_false (by kernel_rfl) ?_
        refine wp_skip ?_
        refine sx_in ?_
        refine sx_norm ?_
        refine wp_region_lit ?_
        refine sx_val (by kernel_rfl) rfl rfl (.int .i64 ((i : Nat) : Int)) (by kernel_rfl) ?_
        refine sx_int (by kernel_rfl) rfl rfl .i64 (IntKind.i64.wrap (((i : Nat) : Int) + 1)) (((i + 1 : Nat) : Int)) (by kernel_rfl) (by rw [IntKind.wrap_i64]; omega) ?_
        refine sx_val (by kernel_rfl) rfl rfl (.int .i64 ((i + 1 : Nat) : Int)) (by kernel_rfl) ?_
        refine wpList_nil ?_
        refine sx_norm ?_
        refine sx_again (ol.length - (i + 1)) (i + 1, a2, d2, L2, la2, lc2) (by omega) (by kernel_rfl) ⟨by show i + 1 ≤ _; omega, Nat.le_refl _, hP2, (fun h k hk => ?_), hle2, hlt2, HG, HL2⟩
        rcases Nat.lt_succ_iff_lt_or_eq.1 hk with h8 | h8
        · exact hno2 h k h8
        subst h8
        rintro ⟨h4, h5, h6, h7⟩
        first
          | exact absurd (by rw [hasRS_nat h63 (by omega)]; exact h4) (by assumption : ¬ hasR ((s : Nat) : Int) ((k : Nat) : Int) = true)
          | exact Bool.noConfusion (h5.symm.trans (by assumption : (ol.getD k or0).off = true))
          | exact Bool.noConfusion (h6.symm.trans (by assumption : conV L2 (visR ol k) = true))
          | exact absurd h7 (by assumption : ¬ rdyB ol be L2 k = true)
      refine sx_bool (by kernel_rfl) rfl rfl (decide (((i : Nat) : Int) < ((ol.length : Nat) : Int))) false (by kernel_rfl) (decide_eq_false (by omega)) ?_
      refine wpList_nil ?_
      refine sx_norm ?_
      refine sx_false (by kernel_rfl) ?_
      refine wp_exit ?_
      refine sx_es ?_
      refine sx_es ?_
      refine sx_out ?_
      refine sx_in ?_
      refine sx_norm ?_
      have hi9 : i = ol.length := by omega
      subst hi9
      have hm9 : 2 * muB (U.minus s d2) + (if a2 = true then 1 else 0) ≤ 2 * muB (U.minus s d1) := by
        cases a2 with
        | false => rw [if_neg (by decide)]; omega
        | true => have h8 := hlt2 rfl; rw [if_pos rfl]; omega
      exact sx_again (2 * muB (U.minus s d2) + (if a2 = true then 1 else 0)) (a2, d2, L2, la2, lc2) (by omega) (by kernel_rfl) ⟨hP2, hno2, Nat.le_refl _, HG, HL⟩
    have c2 : a1 = false := by simpa using C3
    subst c2
    have hno9 := hno1 rfl
    refine sx_val (by kernel_rfl) rfl rfl (.bool false) (by kernel_rfl) ?_
    refine wpList_nil ?_
    refine sx_norm ?_
    refine sx_false (by kernel_rfl) ?_
    refine wp_exit ?_
    refine sx_es ?_
    refine sx_es ?_
    refine sx_out ?_
    refine sx_norm ?_
    refine wp_seq ?_
    refine wp_seq ?_
    refine wp_region_lit ?_
    refine sx_val (by kernel_rfl) rfl rfl (.int .i64 0) (by kernel_rfl) ?_
    refine wpList_nil ?_
    refine sx_norm ?_
    refine wp_block ?_
    refine sx_loop (fun i : Nat => [(0, .agg #[.slice o0 n0 c0, .slice o1 n1 c1, .slice o2 n2 c2, .slice o3 ol.length c3, .slice o4 ap.length c4, .slice o5 be.length c5]), (1, .int .i64 ((s : Nat) : Int)), (2, .pointer (some ⟨w.heap.size, 0, none⟩)), (5, .slice la1 L1.length lc1), (6, .bool false), (8, .int .i64 ((i : Nat) : Int)), (9, .int .i64 ((s : Nat) : Int)), (10, .bool false), (11, .bool false), (12, .agg #[.slice o0 n0 c0, .slice o1 n1 c1, .slice o2 n2 c2, .slice o3 ol.length c3, .slice o4 ap.length c4, .slice o5 be.length c5]), (13, .int .i64 ((s : Nat) : Int)), (14, .bool true), (15, .bool false), (16, .bool false), (17, .bool false)]) (fun gg i wr => i ≤ ol.length ∧ ol.length - i ≤ gg ∧ (∀ k, k < i → S.has s k = true → (ol.getD k or0).off = false ∧ conV L1 (visR ol k) = true) ∧ Gw W3.heap.size wr (.slice la1 L1.length lc1) L1 ∧ Below W3.heap.size wr4 wr) (ol.length) (0) (by kernel_rfl) ⟨Nat.zero_le _, Nat.le_refl _, fun k hk => absurd hk (Nat.not_lt_zero k), HG, Below.refl _ _⟩ ?_
    rintro gg i g' wr14 ⟨hi, hg2, hF, HG, hbl⟩
    replace HB := HB.trans (hbl.mono (by omega))
    replace M2 := M2.belowB (by omega) hbl
    replace HL := HL.trans (hbl.mono (by omega))
    have z4 := hbl.size
    have HL2 := hbl
    clear hbl
    refine wp_seq ?_
    refine wp_seq ?_
    refine wp_region_lit ?_
    refine sx_val (by kernel_rfl) rfl rfl (.int .i64 ((i : Nat) : Int)) (by kernel_rfl) ?_
    refine sx_val (by kernel_rfl) rfl rfl (.pointer (some ⟨w.heap.size, 3, none⟩)) (by kernel_rfl) ?_
    refine sx_val (by kernel_rfl) rfl rfl (.slice o3 ol.length c3) (ex_load1 rfl (M2.cell 3 rfl) (by kernel_rfl) Try.underlying27 rfl) ?_
    refine sx_val (by kernel_rfl) rfl rfl (.int .i64 ((ol.length : Nat) : Int)) (by kernel_rfl) ?_
    by_cases C9 : i < ol.length
    · refine sx_bool (by kernel_rfl) rfl rfl (decide (((i : Nat) : Int) < ((ol.length : Nat) : Int))) true (by kernel_rfl) (decide_eq_true (by omega)) ?_
      refine wpList_nil ?_
      refine sx_norm ?_
      refine sx_true (by kernel_rfl) ?_
      refine wp_skip ?_
      refine sx_norm ?_
      refine wp_seq ?_
      refine wp_block ?_
      refine wp_seq ?_
      have hik : i < ol.length := by omega
      obtain ⟨bhlr15, qhlr15, hlr15⟩ := (show Vs wr14 (.slice la1 L1.length lc1) L1 from Gn.sl HG).rw2
      refine wp_region_lit ?_
      refine sx_val (by kernel_rfl) rfl rfl (.int .i64 ((s : Nat) : Int)) (by kernel_rfl) ?_
      refine sx_val (by kernel_rfl) rfl rfl (.int .i64 ((i : Nat) : Int)) (by kernel_rfl) ?_
      by_cases C10 : hasR ((s : Nat) : Int) ((i : Nat) : Int) = true
      · refine sx_call (by kernel_rfl) rfl rfl ((by have h8 := refHas_n ((s : Nat) : Int) ((i : Nat) : Int) wr14; rw [show hasR ((s : Nat) : Int) ((i : Nat) : Int) = true by simpa using C10] at h8; exact h8)) (by kernel_rfl) ?_
        rintro e w9 ⟨rfl, rfl⟩
        refine ⟨_, rfl, ?_⟩
        refine sx_val (by kernel_rfl) rfl rfl (.bool true) (by kernel_rfl) ?_
        refine sx_val (by kernel_rfl) rfl rfl (.pointer (some ⟨w.heap.size, 3, none⟩)) (by kernel_rfl) ?_
        refine sx_val (by kernel_rfl) rfl rfl (.slice o3 ol.length c3) (ex_load1 rfl (M2.cell 3 rfl) (by kernel_rfl) Try.underlying27 rfl) ?_
        refine sx_val (by kernel_rfl) rfl rfl (.int .i64 ((i : Nat) : Int)) (by kernel_rfl) ?_
        refine sx_val (by kernel_rfl) rfl rfl (.pointer (some ⟨b3, q3 + i * 16, none⟩)) (ex_indexO (q := q3) (m := ol.length) (c := c3) (k := i) (s := 16) rfl (by kernel_rfl) ((hr16.below HB).oa (k := i) (by omega)) (by kernel_rfl) Try.underlying27 (by kernel_rfl) (by omega) (by omega)) ?_
        refine sx_val (by kernel_rfl) rfl rfl (.pointer (some ⟨b3, q3 + i * 16 + 15, none⟩)) (by kernel_rfl) ?_
        by_cases C11 : (ol.getD i or0).off = true
        · refine sx_val (by kernel_rfl) rfl rfl (.bool true) (ex_load1 (v := .bool true) rfl (by have h8 := (hr16.below HB).cell (k := i) (by omega) 15 rfl; rw [show (ol.getD i or0).off = true by simpa using C11] at h8; exact h8) (by kernel_rfl) Try.underlying4 rfl) ?_
          refine sx_val (by kernel_rfl) rfl rfl (.bool true) (by kernel_rfl) ?_
          refine sx_skip (by kernel_rfl) rfl rfl ?_
          refine sx_skip (by kernel_rfl) rfl rfl ?_
          refine sx_skip (by kernel_rfl) rfl rfl ?_
          refine sx_skip (by kernel_rfl) rfl rfl ?_
          refine sx_skip (by kernel_rfl) rfl rfl ?_
          refine sx_skip (by kernel_rfl) rfl rfl ?_
          refine sx_val (by kernel_rfl) rfl rfl (.bool true) (by kernel_rfl) ?_
          refine sx_val (by kernel_rfl) rfl rfl (.bool true) (by kernel_rfl) ?_
          refine wpList_nil ?_
          refine sx_norm ?_
          refine sx_true (by kernel_rfl) ?_
          refine wp_seq ?_
          refine wp_region_lit ?_
          refine sx_val (by kernel_rfl) rfl rfl (.bool false) (by kernel_rfl) ?_
          refine wpList_nil ?_
          refine sx_norm ?_
          refine wp_ret ?_
          refine sx_rb ?_
          refine sx_rs ?_
          refine sx_rs ?_
          refine sx_rb ?_
          refine sx_rs ?_
          refine sx_ret1 (.bool false) rfl rfl (by kernel_rfl) ⟨ret_bool ?_, HB⟩
          refine (Bool.eq_false_iff.2 fun h => ?_).symm
          have h4 := (posB_fin hn hra hr hs (by assumption) (by assumption) hP1 hno9).1 h i hik (by rw [← hasRS_nat h63 (by omega)]; assumption)
          first
            | exact Bool.noConfusion (h4.1.symm.trans (by assumption : (ol.getD i or0).off = true))
            | exact absurd h4.2 (by assumption)
        refine sx_val (by kernel_rfl) rfl rfl (.bool false) (ex_load1 (v := .bool false) rfl (by have h8 := (hr16.below HB).cell (k := i) (by omega) 15 rfl; rw [show (ol.getD i or0).off = false by simpa using C11] at h8; exact h8) (by kernel_rfl) Try.underlying4 rfl) ?_
        refine sx_val (by kernel_rfl) rfl rfl (.bool false) (by kernel_rfl) ?_
        refine sx_val (by kernel_rfl) rfl rfl (.slice la1 L1.length lc1) (by kernel_rfl) ?_
        refine sx_val (by kernel_rfl) rfl rfl (.agg #[.slice o0 n0 c0, .slice o1 n1 c1, .slice o2 n2 c2, .slice o3 ol.length c3, .slice o4 ap.length c4, .slice o5 be.length c5]) (ex_load rfl M2 (by kernel_rfl) Try.underlying30 rfl (by kernel_rfl)) ?_
        refine sx_val (by kernel_rfl) rfl rfl (.int .i64 ((i : Nat) : Int)) (by kernel_rfl) ?_
        refine sx_call (by kernel_rfl) rfl rfl (refVisits_n o0 o1 o2 o3 o4 o5 n0 n1 n2 ap.length be.length c0 c1 c2 c3 c4 c5 ol i hik hn wr14 (hos.below HB)) (by kernel_rfl) ?_
        rintro e W16 ⟨oa93, c93, rfl, ⟨hvs93, -, -⟩, hb⟩
        replace HB := over HB hb
        replace M2 := M2.below hb
        replace HL := HL.trans (hb.mono (by omega))
        replace HL2 := HL2.trans (hb.mono (by omega))
        replace HG := HG.frame hb
        replace hlr15 := hlr15.below hb
        have z5 := hb.size
        clear hb
        refine ⟨_, rfl, ?_⟩
        obtain ⟨bv93, qv93, hvr93⟩ := hvs93.rw2
        clear hvs93
        by_cases C12 : (conV L1 (visR ol i)) = true
        · refine sx_call (by kernel_rfl) rfl rfl ((by have h8 := refContains_n L1 (by omega) la1 lc1 bhlr15 qhlr15 (visR ol i) (Nat.le_trans (visR_len _ _) (by decide)) oa93 c93 bv93 qv93 W16 hlr15 hvr93; rw [show (conV L1 (visR ol i)) = true by simpa using C12] at h8; exact h8)) (by kernel_rfl) ?_
          rintro e W17 ⟨rfl, hb⟩
          replace HB := over HB hb
          replace M2 := M2.below hb
          replace HL := HL.trans (hb.mono (by omega))
          replace HL2 := HL2.trans (hb.mono (by omega))
          replace HG := HG.frame hb
          replace hlr15 := hlr15.below hb
          replace hvr93 := hvr93.below hb
          have z6 := hb.size
          clear hb
          refine ⟨_, rfl, ?_⟩
          refine sx_val (by kernel_rfl) rfl rfl (.bool false) (by kernel_rfl) ?_
          refine sx_val (by kernel_rfl) rfl rfl (.bool false) (by kernel_rfl) ?_
          refine sx_val (by kernel_rfl) rfl rfl (.bool false) (by kernel_rfl) ?_
          refine wpList_nil ?_
          refine sx_norm ?_
          refine sx_false (by kernel_rfl) ?_
          refine wp_skip ?_
          refine sx_in ?_
          refine sx_norm ?_
          refine wp_region_lit ?_
          refine sx_val (by kernel_rfl) rfl rfl (.int .i64 ((i : Nat) : Int)) (by kernel_rfl) ?_
          refine sx_int (by kernel_rfl) rfl rfl .i64 (IntKind.i64.wrap (((i : Nat) : Int) + 1)) (((i + 1 : Nat) : Int)) (by kernel_rfl) (by rw [IntKind.wrap_i64]; omega) ?_
          refine sx_val (by kernel_rfl) rfl rfl (.int .i64 ((i + 1 : Nat) : Int)) (by kernel_rfl) ?_
          refine wpList_nil ?_
          refine sx_norm ?_
          refine sx_again (ol.length - (i + 1)) (i + 1) (by omega) (by kernel_rfl) ⟨by omega, Nat.le_refl _, (fun k hk hh => ?_), HG, HL2⟩
          rcases Nat.lt_succ_iff_lt_or_eq.1 hk with h8 | h8
          · exact hF k h8 hh
          subst h8
          first
            | exact absurd (by rw [hasRS_nat h63 (by omega)]; exact hh) (by assumption : ¬ hasR ((s : Nat) : Int) ((k : Nat) : Int) = true)
            | exact ⟨by simpa using (by assumption : ¬ (ol.getD k or0).off = true), by assumption⟩
        refine sx_call (by kernel_rfl) rfl rfl ((by have h8 := refContains_n L1 (by omega) la1 lc1 bhlr15 qhlr15 (visR ol i) (Nat.le_trans (visR_len _ _) (by decide)) oa93 c93 bv93 qv93 W16 hlr15 hvr93; rw [show (conV L1 (visR ol i)) = false by simpa using C12] at h8; exact h8)) (by kernel_rfl) ?_
        rintro e W18 ⟨rfl, hb⟩
        replace HB := over HB hb
        replace M2 := M2.below hb
        replace HL := HL.trans (hb.mono (by omega))
        replace HL2 := HL2.trans (hb.mono (by omega))
        replace HG := HG.frame hb
        replace hlr15 := hlr15.below hb
        replace hvr93 := hvr93.below hb
        have z6 := hb.size
        clear hb
        refine ⟨_, rfl, ?_⟩
        refine sx_val (by kernel_rfl) rfl rfl (.bool true) (by kernel_rfl) ?_
        refine sx_val (by kernel_rfl) rfl rfl (.bool true) (by kernel_rfl) ?_
        refine sx_val (by kernel_rfl) rfl rfl (.bool true) (by kernel_rfl) ?_
        refine wpList_nil ?_
        refine sx_norm ?_
        refine sx_true (by kernel_rfl) ?_
        refine wp_seq ?_
        refine wp_region_lit ?_
        refine sx_val (by kernel_rfl) rfl rfl (.bool false) (by kernel_rfl) ?_
        refine wpList_nil ?_
        refine sx_norm ?_
        refine wp_ret ?_
        refine sx_rb ?_
        refine sx_rs ?_
        refine sx_rs ?_
        refine sx_rb ?_
        refine sx_rs ?_
        refine sx_ret1 (.bool false) rfl rfl (by kernel_rfl) ⟨ret_bool ?_, HB⟩
        refine (Bool.eq_false_iff.2 fun h => ?_).symm
        have h4 := (posB_fin hn hra hr hs (by assumption) (by assumption) hP1 hno9).1 h i hik (by rw [← hasRS_nat h63 (by omega)]; assumption)
        first
          | exact Bool.noConfusion (h4.1.symm.trans (by assumption : (ol.getD i or0).off = true))
          | exact absurd h4.2 (by assumption)
      refine sx_call (by kernel_rfl) rfl rfl ((by have h8 := refHas_n ((s : Nat) : Int) ((i : Nat) : Int) wr14; rw [show hasR ((s : Nat) : Int) ((i : Nat) : Int) = false by simpa using C10] at h8; exact h8)) (by kernel_rfl) ?_
      rintro e w9 ⟨rfl, rfl⟩
      refine ⟨_, rfl, ?_⟩
      refine sx_val (by kernel_rfl) rfl rfl (.bool false) (by kernel_rfl) ?_
      refine sx_skip (by kernel_rfl) rfl rfl ?_
      refine sx_skip (by kernel_rfl) rfl rfl ?_
      refine sx_skip (by kernel_rfl) rfl rfl ?_
      refine sx_skip (by kernel_rfl) rfl rfl ?_
      refine sx_skip (by kernel_rfl) rfl rfl ?_
      refine sx_skip (by kernel_rfl) rfl rfl ?_
      refine sx_skip (by kernel_rfl) rfl rfl ?_
      refine sx_skip (by kernel_rfl) rfl rfl ?_
      refine sx_skip (by kernel_rfl) rfl rfl ?_
      refine sx_skip (by kernel_rfl) rfl rfl ?_
      refine sx_skip (by kernel_rfl) rfl rfl ?_
      refine sx_skip (by kernel_rfl) rfl rfl ?_
      refine sx_skip (by kernel_rfl) rfl rfl ?_
      refine sx_skip (by kernel_rfl) rfl rfl ?_
      refine sx_val (by kernel_rfl) rfl rfl (.bool false) (by kernel_rfl) ?_
      refine wpList_nil ?_
      refine sx_norm ?_
      refine sx_false (by kernel_rfl) ?_
      refine wp_skip ?_
      refine sx_in ?_
      refine sx_norm ?_
      refine wp_region_lit ?_
      refine sx_val (by kernel_rfl) rfl rfl (.int .i64 ((i : Nat) : Int)) (by kernel_rfl) ?_
      refine sx_int (by kernel_rfl) rfl rfl .i64 (IntKind.i64.wrap (((i : Nat) : Int) + 1)) (((i + 1 : Nat) : Int)) (by kernel_rfl) (by rw [IntKind.wrap_i64]; omega) ?_
      refine sx_val (by kernel_rfl) rfl rfl (.int .i64 ((i + 1 : Nat) : Int)) (by kernel_rfl) ?_
      refine wpList_nil ?_
      refine sx_norm ?_
      refine sx_again (ol.length - (i + 1)) (i + 1) (by omega) (by kernel_rfl) ⟨by omega, Nat.le_refl _, (fun k hk hh => ?_), HG, HL2⟩
      rcases Nat.lt_succ_iff_lt_or_eq.1 hk with h8 | h8
      · exact hF k h8 hh
      subst h8
      first
        | exact absurd (by rw [hasRS_nat h63 (by omega)]; exact hh) (by assumption : ¬ hasR ((s : Nat) : Int) ((k : Nat) : Int) = true)
        | exact ⟨by simpa using (by assumption : ¬ (ol.getD k or0).off = true), by assumption⟩
    refine sx_bool (by kernel_rfl) rfl rfl (decide (((i : Nat) : Int) < ((ol.length : Nat) : Int))) false (by kernel_rfl) (decide_eq_false (by omega)) ?_
    refine wpList_nil ?_
    refine sx_norm ?_
    refine sx_false (by kernel_rfl) ?_
    refine wp_exit ?_
    refine sx_es ?_
    refine sx_es ?_
    refine sx_out ?_
    refine sx_norm ?_
    refine wp_seq ?_
    refine wp_region_lit ?_
    refine sx_val (by kernel_rfl) rfl rfl (.bool true) (by kernel_rfl) ?_
    refine wpList_nil ?_
    refine sx_norm ?_
    refine wp_ret ?_
    refine sx_ret1 (.bool true) rfl rfl (by kernel_rfl) ⟨ret_bool ?_, HB⟩
    exact ((posB_fin hn hra hr hs (by assumption) (by assumption) hP1 hno9).2 fun k hk hh => hF k (by omega) hh).symm
  refine sx_call (by kernel_rfl) rfl rfl ((by have h8 := refApart_n o0 o1 o2 o3 o4 o5 n0 n1 n2 ol.length be.length c0 c1 c2 c3 c4 c5 ol.length ap hra hla ((s : Nat) : Int) W1 (hpa.below HB); rw [show (aptB ((s : Nat) : Int) ap) = false by simpa using C2] at h8; exact h8)) (by kernel_rfl) ?_
  rintro e W19 ⟨rfl, hb⟩
  replace HB := over HB hb
  replace M2 := M2.below hb
  have z2 := hb.size
  clear hb
  refine ⟨_, rfl, ?_⟩
  refine sx_val (by kernel_rfl) rfl rfl (.bool true) (by kernel_rfl) ?_
  refine sx_val (by kernel_rfl) rfl rfl (.bool true) (by kernel_rfl) ?_
  refine wpList_nil ?_
  refine sx_norm ?_
  refine sx_true (by kernel_rfl) ?_
  refine wp_seq ?_
  refine wp_region_lit ?_
  refine sx_val (by kernel_rfl) rfl rfl (.bool false) (by kernel_rfl) ?_
  refine wpList_nil ?_
  refine sx_norm ?_
  refine wp_ret ?_
  refine sx_rs ?_
  refine sx_ret1 (.bool false) rfl rfl (by kernel_rfl) ⟨ret_bool ?_, HB⟩
  first
    | exact (posB_apart hn hra hs (by simpa using (by assumption : ¬ aptB ((s : Nat) : Int) ap = true))).symm
    | (rw [(by assumption : s = 0)]; exact posB_zero.symm)

end Go.Proofs.Ytoliacfpjhanlaa.T


