/-
  DERIVED. Sn: a part of the base of layer 13 (made by pack.py).
-/
import Derived.Test.YtoliacfpjhanlaaSm
/-! The walk of Check (by gen_sn.py). -/
namespace Go.Proofs.Ytoliacfpjhanlaa.T
open Go.RowKit
set_option maxRecDepth 8000
attribute [local irreducible] wpList Code.wp wpAnyH

/-- the error of a route's visits, as the program finds it -/
noncomputable def chkS (ol : List OrT) (ap be : List (Int × Int)) (l : List (Int × Bool)) : Int := by
  classical
  exact if l.length = 0 ∨ l.any (goneV ol.length) = true then 2 else if l.any (offV ol) = true then 9 else if ¬ Once ol.length l l.length then 6
    else if pairdB ol (trK ol.length l l.length) l = false then 19 else if pairB (trK ol.length l l.length) ap = true then 20 else if folB ol (trK ol.length l l.length) be = false then 21 else 0
theorem gone_ex {n : Nat} {l : List (Int × Bool)} (h : ¬ l.any (goneV n) = true) : Ex n l := fun i hi => by
  have h2 : goneV n (l.getD i (0, false)) = false := by
    cases h3 : goneV n (l.getD i (0, false))
    · rfl
    · exact absurd (anyT_yes (d := (0, false)) hi h3) h
  unfold goneV at h2
  rw [Bool.or_eq_false_iff, decide_eq_false_iff_not, decide_eq_false_iff_not] at h2
  omega
theorem check16_n (o0 o1 o2 o3 o4 o5 : Option Addr) (n0 n1 n2 c0 c1 c2 c3 c4 c5 : Nat) (ol : List OrT) (ap be : List (Int × Int)) (hn : ol.length ≤ 10) (hra : U.Rt ol.length ap) (hla : ap.length ≤ 1000000) (hr : U.Rt ol.length be) (hl : be.length ≤ 1000000) (w : World) (hos : Os w (.slice o3 ol.length c3) ol) (hpa : Ps w (.slice o4 ap.length c4) ap) (hps : Ps w (.slice o5 be.length c5) be) (ty st : Int) (orr oa : Option Addr) (nr cr c b o : Nat) (l : List (Int × Bool)) (ll : l.length ≤ 1000000) (hv : Rw w b o 2 (vF l) l.length oa) : Calls Try.prog 11 #[.agg #[.slice o0 n0 c0, .slice o1 n1 c1, .slice o2 n2 c2, .slice o3 ol.length c3, .slice o4 ap.length c4, .slice o5 be.length c5], .agg #[.int .i64 ty, .int .i64 st, .slice orr nr cr, .slice oa l.length c]] w fun e w' => e = .returned (.int .i64 (chkS ol ap be l)) ∧ Below w.heap.size w w' := by
  have HB : Below w.heap.size w w := Below.refl _ _
  refine sx_enter Try.func11 rfl [(0, .agg #[.slice o0 n0 c0, .slice o1 n1 c1, .slice o2 n2 c2, .slice o3 ol.length c3, .slice o4 ap.length c4, .slice o5 be.length c5]), (1, .agg #[.int .i64 ty, .int .i64 st, .slice orr nr cr, .slice oa l.length c])] (by kernel_rfl) ?_
  refine wp_seq ?_
  refine wp_region_lit ?_
  obtain ⟨W1, hW⟩ : ∃ W, w.alloc (.cells #[.slice o0 n0 c0, .slice o1 n1 c1, .slice o2 n2 c2, .slice o3 ol.length c3, .slice o4 ap.length c4, .slice o5 be.length c5] 30) = W := ⟨_, rfl⟩
  have hb := hW ▸ below_alloc w (.cells #[.slice o0 n0 c0, .slice o1 n1 c1, .slice o2 n2 c2, .slice o3 ol.length c3, .slice o4 ap.length c4, .slice o5 be.length c5] 30)
  have hq : Cb W1 w.heap.size #[.slice o0 n0 c0, .slice o1 n1 c1, .slice o2 n2 c2, .slice o3 ol.length c3, .slice o4 ap.length c4, .slice o5 be.length c5] 30 := hW ▸ Cb.made w #[.slice o0 n0 c0, .slice o1 n1 c1, .slice o2 n2 c2, .slice o3 ol.length c3, .slice o4 ap.length c4, .slice o5 be.length c5] 30
  refine sx_mem (by kernel_rfl) rfl rfl (.pointer (some ⟨w.heap.size, 0, none⟩)) W1 (by rw [← hW]; kernel_rfl) ?_
  replace HB := over HB hb
  have z1 := hb.size
  have M2 := hq
  have yM2 := hq.lt
  clear hq hb hW
  obtain ⟨W3, hW⟩ : ∃ W, W1.alloc (.cells #[.int .i64 ty, .int .i64 st, .slice orr nr cr, .slice oa l.length c] 34) = W := ⟨_, rfl⟩
  have hb := hW ▸ below_alloc W1 (.cells #[.int .i64 ty, .int .i64 st, .slice orr nr cr, .slice oa l.length c] 34)
  have hq : Cb W3 W1.heap.size #[.int .i64 ty, .int .i64 st, .slice orr nr cr, .slice oa l.length c] 34 := hW ▸ Cb.made W1 #[.int .i64 ty, .int .i64 st, .slice orr nr cr, .slice oa l.length c] 34
  refine sx_mem (by kernel_rfl) rfl rfl (.pointer (some ⟨W1.heap.size, 0, none⟩)) W3 (by rw [← hW]; kernel_rfl) ?_
  replace HB := over HB hb
  replace M2 := M2.below hb
  have z2 := hb.size
  have M4 := hq
  have yM4 := hq.lt
  clear hq hb hW
  refine sx_val (by kernel_rfl) rfl rfl (.int .i64 0) (by kernel_rfl) ?_
  refine wpList_nil ?_
  refine sx_norm ?_
  refine wp_seq ?_
  refine wp_block ?_
  refine wp_seq ?_
  refine wp_region_lit ?_
  refine sx_val (by kernel_rfl) rfl rfl (.pointer (some ⟨W1.heap.size, 3, none⟩)) (by kernel_rfl) ?_
  refine sx_val (by kernel_rfl) rfl rfl (.slice oa l.length c) (ex_load1 rfl (M4.cell 3 rfl) (by kernel_rfl) Try.underlying32 rfl) ?_
  refine sx_val (by kernel_rfl) rfl rfl (.int .i64 ((l.length : Nat) : Int)) (by kernel_rfl) ?_
  by_cases C1 : l.length = 0
  · refine sx_bool (by kernel_rfl) rfl rfl ((((l.length : Nat) : Int) : Int) == (0 : Int)) true (by kernel_rfl) (beq_iff_eq.2 (by omega)) ?_
    refine sx_val (by kernel_rfl) rfl rfl (.bool true) (by kernel_rfl) ?_
    refine sx_skip (by kernel_rfl) rfl rfl ?_
    refine sx_skip (by kernel_rfl) rfl rfl ?_
    refine sx_skip (by kernel_rfl) rfl rfl ?_
    refine sx_skip (by kernel_rfl) rfl rfl ?_
    refine sx_skip (by kernel_rfl) rfl rfl ?_
    refine sx_skip (by kernel_rfl) rfl rfl ?_
    refine sx_val (by kernel_rfl) rfl rfl (.bool true) (by kernel_rfl) ?_
    refine sx_val (by kernel_rfl) rfl rfl (.bool true) (by kernel_rfl) ?_
    refine wpList_nil ?_
    refine sx_norm ?_
    refine sx_true (by kernel_rfl) ?_
    refine wp_seq ?_
    refine wp_region_lit ?_
    refine sx_val (by kernel_rfl) rfl rfl (.int .i64 2) (by kernel_rfl) ?_
    refine wpList_nil ?_
    refine sx_norm ?_
    refine wp_ret ?_
    refine sx_rb ?_
    refine sx_rs ?_
    refine sx_ret1 (.int .i64 2) rfl rfl (by kernel_rfl) ⟨ret_int ?_, HB⟩
    unfold chkS
    rw [if_pos (by first | exact .inl (by assumption) | exact .inr (by assumption))]
  refine sx_bool (by kernel_rfl) rfl rfl ((((l.length : Nat) : Int) : Int) == (0 : Int)) false (by kernel_rfl) (beq_eq_false_iff_ne.2 (by omega)) ?_
  refine sx_val (by kernel_rfl) rfl rfl (.bool false) (by kernel_rfl) ?_
  refine sx_val (by kernel_rfl) rfl rfl (.pointer (some ⟨w.heap.size, 3, none⟩)) (by kernel_rfl) ?_
  refine sx_val (by kernel_rfl) rfl rfl (.slice o3 ol.length c3) (ex_load1 rfl (M2.cell 3 rfl) (by kernel_rfl) Try.underlying27 rfl) ?_
  refine sx_val (by kernel_rfl) rfl rfl (.pointer (some ⟨W1.heap.size, 3, none⟩)) (by kernel_rfl) ?_
  refine sx_val (by kernel_rfl) rfl rfl (.slice oa l.length c) (ex_load1 rfl (M4.cell 3 rfl) (by kernel_rfl) Try.underlying32 rfl) ?_
  by_cases C2 : l.any (goneV ol.length) = true
  · refine sx_call (by kernel_rfl) rfl rfl ((by have h8 := allExist_n o3 c3 ol l ll oa c b o W3 (hv.below HB); rw [show l.any (goneV ol.length) = true by simpa using C2] at h8; exact h8)) (by kernel_rfl) ?_
    rintro e W5 ⟨rfl, hb⟩
    replace HB := over HB hb
    replace M2 := M2.below hb
    replace M4 := M4.below hb
    have z3 := hb.size
    clear hb
    refine ⟨_, rfl, ?_⟩
    refine sx_val (by kernel_rfl) rfl rfl (.bool true) (by kernel_rfl) ?_
    refine sx_val (by kernel_rfl) rfl rfl (.bool true) (by kernel_rfl) ?_
    refine sx_val (by kernel_rfl) rfl rfl (.bool true) (by kernel_rfl) ?_
    refine wpList_nil ?_
    refine sx_norm ?_
    refine sx_true (by kernel_rfl) ?_
    refine wp_seq ?_
    refine wp_region_lit ?_
    refine sx_val (by kernel_rfl) rfl rfl (.int .i64 2) (by kernel_rfl) ?_
    refine wpList_nil ?_
    refine sx_norm ?_
    refine wp_ret ?_
    refine sx_rb ?_
    refine sx_rs ?_
    refine sx_ret1 (.int .i64 2) rfl rfl (by kernel_rfl) ⟨ret_int ?_, HB⟩
    unfold chkS
    rw [if_pos (by first | exact .inl (by assumption) | exact .inr (by assumption))]
  refine sx_call (by kernel_rfl) rfl rfl ((by have h8 := allExist_n o3 c3 ol l ll oa c b o W3 (hv.below HB); rw [show l.any (goneV ol.length) = false by simpa using C2] at h8; exact h8)) (by kernel_rfl) ?_
  rintro e W6 ⟨rfl, hb⟩
  replace HB := over HB hb
  replace M2 := M2.below hb
  replace M4 := M4.below hb
  have z3 := hb.size
  clear hb
  refine ⟨_, rfl, ?_⟩
  refine sx_val (by kernel_rfl) rfl rfl (.bool false) (by kernel_rfl) ?_
  refine sx_val (by kernel_rfl) rfl rfl (.bool false) (by kernel_rfl) ?_
  refine sx_val (by kernel_rfl) rfl rfl (.bool false) (by kernel_rfl) ?_
  refine wpList_nil ?_
  refine sx_norm ?_
  refine sx_false (by kernel_rfl) ?_
  refine wp_seq ?_
  have hex := gone_ex (n := ol.length) (l := l) (by assumption)
  refine wp_region_lit ?_
  refine sx_val (by kernel_rfl) rfl rfl (.pointer (some ⟨w.heap.size, 3, none⟩)) (by kernel_rfl) ?_
  refine sx_val (by kernel_rfl) rfl rfl (.slice o3 ol.length c3) (ex_load1 rfl (M2.cell 3 rfl) (by kernel_rfl) Try.underlying27 rfl) ?_
  refine sx_val (by kernel_rfl) rfl rfl (.pointer (some ⟨W1.heap.size, 3, none⟩)) (by kernel_rfl) ?_
  refine sx_val (by kernel_rfl) rfl rfl (.slice oa l.length c) (ex_load1 rfl (M4.cell 3 rfl) (by kernel_rfl) Try.underlying32 rfl) ?_
  by_cases C3 : l.any (offV ol) = true
  · refine sx_call (by kernel_rfl) rfl rfl ((by have h8 := hasOff_n o3 c3 ol l ll oa c b o hex W6 (hv.below HB) (hos.below HB); rw [show l.any (offV ol) = true by simpa using C3] at h8; exact h8)) (by kernel_rfl) ?_
    rintro e W7 ⟨rfl, hb⟩
    replace HB := over HB hb
    replace M2 := M2.below hb
    replace M4 := M4.below hb
    have z4 := hb.size
    clear hb
    refine ⟨_, rfl, ?_⟩
    refine sx_val (by kernel_rfl) rfl rfl (.bool true) (by kernel_rfl) ?_
    refine wpList_nil ?_
    refine sx_norm ?_
    refine sx_true (by kernel_rfl) ?_
    refine wp_seq ?_
    refine wp_region_lit ?_
    refine sx_val (by kernel_rfl) rfl rfl (.int .i64 9) (by kernel_rfl) ?_
    refine wpList_nil ?_
    refine sx_norm ?_
    refine wp_ret ?_
    refine sx_rb ?_
    refine sx_rs ?_
    refine sx_ret1 (.int .i64 9) rfl rfl (by kernel_rfl) ⟨ret_int ?_, HB⟩
    unfold chkS
    rw [if_neg (by rintro (h8 | h8) <;> exact absurd h8 (by assumption)), if_pos (by assumption)]
  refine sx_call (by kernel_rfl) rfl rfl ((by have h8 := hasOff_n o3 c3 ol l ll oa c b o hex W6 (hv.below HB) (hos.below HB); rw [show l.any (offV ol) = false by simpa using C3] at h8; exact h8)) (by kernel_rfl) ?_
  rintro e W8 ⟨rfl, hb⟩
  replace HB := over HB hb
  replace M2 := M2.below hb
  replace M4 := M4.below hb
  have z4 := hb.size
  clear hb
  refine ⟨_, rfl, ?_⟩
  refine sx_val (by kernel_rfl) rfl rfl (.bool false) (by kernel_rfl) ?_
  refine wpList_nil ?_
  refine sx_norm ?_
  refine sx_false (by kernel_rfl) ?_
  refine wp_skip ?_
  refine sx_in ?_
  refine sx_norm ?_
  refine wp_seq ?_
  refine wp_region_lit ?_
  refine sx_val (by kernel_rfl) rfl rfl (.pointer (some ⟨w.heap.size, 3, none⟩)) (by kernel_rfl) ?_
  refine sx_val (by kernel_rfl) rfl rfl (.slice o3 ol.length c3) (ex_load1 rfl (M2.cell 3 rfl) (by kernel_rfl) Try.underlying27 rfl) ?_
  refine sx_val (by kernel_rfl) rfl rfl (.int .i64 ((ol.length : Nat) : Int)) (by kernel_rfl) ?_
  refine sx_val (by kernel_rfl) rfl rfl (.pointer (some ⟨W1.heap.size, 3, none⟩)) (by kernel_rfl) ?_
  refine sx_val (by kernel_rfl) rfl rfl (.slice oa l.length c) (ex_load1 rfl (M4.cell 3 rfl) (by kernel_rfl) Try.underlying32 rfl) ?_
  refine sx_call (by kernel_rfl) rfl rfl (tourOf_n ol.length (by omega) l ll hex oa c b o W8 (hv.below HB)) (by kernel_rfl) ?_
  rintro e W9 ⟨⟨rfl, hon⟩ | ⟨q, ct, rfl, hT, hon⟩, hb⟩
  · replace HB := over HB hb
    replace M2 := M2.below hb
    replace M4 := M4.below hb
    have z5 := hb.size
    clear hb
    refine ⟨_, rfl, ?_⟩
    refine sx_val (by kernel_rfl) rfl rfl (.tuple #[.slice none 0 0, .bool true]) (by kernel_rfl) ?_
    refine sx_val (by kernel_rfl) rfl rfl (.slice none 0 0) (by kernel_rfl) ?_
    refine sx_val (by kernel_rfl) rfl rfl (.bool true) (by kernel_rfl) ?_
    refine sx_val (by kernel_rfl) rfl rfl (.slice none 0 0) (by kernel_rfl) ?_
    refine sx_val (by kernel_rfl) rfl rfl (.bool true) (by kernel_rfl) ?_
    refine wpList_nil ?_
    refine sx_norm ?_
    refine wp_seq ?_
    refine wp_block ?_
    refine wp_seq ?_
    refine wp_region_lit ?_
    refine sx_val (by kernel_rfl) rfl rfl (.bool true) (by kernel_rfl) ?_
    refine sx_val (by kernel_rfl) rfl rfl (.bool true) (by kernel_rfl) ?_
    refine wpList_nil ?_
    refine sx_norm ?_
    refine sx_true (by kernel_rfl) ?_
    refine wp_seq ?_
    refine wp_region_lit ?_
    refine sx_val (by kernel_rfl) rfl rfl (.int .i64 6) (by kernel_rfl) ?_
    refine wpList_nil ?_
    refine sx_norm ?_
    refine wp_ret ?_
    refine sx_rb ?_
    refine sx_rs ?_
    refine sx_ret1 (.int .i64 6) rfl rfl (by kernel_rfl) ⟨ret_int ?_, HB⟩
    unfold chkS
    rw [if_neg (by rintro (h8 | h8) <;> exact absurd h8 (by assumption)), if_neg (by assumption), if_pos hon]
  replace HB := over HB hb
  replace M2 := M2.below hb
  replace M4 := M4.below hb
  have z5 := hb.size
  clear hb
  refine ⟨_, rfl, ?_⟩
  refine sx_val (by kernel_rfl) rfl rfl (.tuple #[.slice (some ⟨q, 0, none⟩) ol.length ct, .bool false]) (by kernel_rfl) ?_
  refine sx_val (by kernel_rfl) rfl rfl (.slice (some ⟨q, 0, none⟩) ol.length ct) (by kernel_rfl) ?_
  refine sx_val (by kernel_rfl) rfl rfl (.bool false) (by kernel_rfl) ?_
  refine sx_val (by kernel_rfl) rfl rfl (.slice (some ⟨q, 0, none⟩) ol.length ct) (by kernel_rfl) ?_
  refine sx_val (by kernel_rfl) rfl rfl (.bool false) (by kernel_rfl) ?_
  refine wpList_nil ?_
  refine sx_norm ?_
  refine wp_seq ?_
  refine wp_block ?_
  refine wp_seq ?_
  refine wp_region_lit ?_
  refine sx_val (by kernel_rfl) rfl rfl (.bool false) (by kernel_rfl) ?_
  refine sx_val (by kernel_rfl) rfl rfl (.bool false) (by kernel_rfl) ?_
  refine wpList_nil ?_
  refine sx_norm ?_
  refine sx_false (by kernel_rfl) ?_
  refine wp_seq ?_
  refine wp_region_lit ?_
  refine sx_val (by kernel_rfl) rfl rfl (.slice (some ⟨q, 0, none⟩) ol.length ct) (by kernel_rfl) ?_
  refine sx_val (by kernel_rfl) rfl rfl (.pointer (some ⟨w.heap.size, 3, none⟩)) (by kernel_rfl) ?_
  refine sx_val (by kernel_rfl) rfl rfl (.slice o3 ol.length c3) (ex_load1 rfl (M2.cell 3 rfl) (by kernel_rfl) Try.underlying27 rfl) ?_
  refine sx_val (by kernel_rfl) rfl rfl (.pointer (some ⟨W1.heap.size, 3, none⟩)) (by kernel_rfl) ?_
  refine sx_val (by kernel_rfl) rfl rfl (.slice oa l.length c) (ex_load1 rfl (M4.cell 3 rfl) (by kernel_rfl) Try.underlying32 rfl) ?_
  by_cases C4 : pairdB ol (trK ol.length l l.length) l = true
  · refine sx_call (by kernel_rfl) rfl rfl ((by have h8 := isPaired_n q ct ol (trK ol.length l l.length) (trK_len ol.length l l.length) o3 c3 l ll hex oa c b o W9 hT (hos.below HB) (hv.below HB); rw [show pairdB ol (trK ol.length l l.length) l = true by simpa using C4] at h8; exact h8)) (by kernel_rfl) ?_
    rintro e W10 ⟨rfl, hb⟩
    replace HB := over HB hb
    replace M2 := M2.below hb
    replace M4 := M4.below hb
    replace hT := hT.below hb
    have z6 := hb.size
    clear hb
    refine ⟨_, rfl, ?_⟩
    refine sx_val (by kernel_rfl) rfl rfl (.bool false) (by kernel_rfl) ?_
    refine sx_val (by kernel_rfl) rfl rfl (.bool false) (by kernel_rfl) ?_
    refine wpList_nil ?_
    refine sx_norm ?_
    refine sx_false (by kernel_rfl) ?_
    refine wp_seq ?_
    refine wp_region_lit ?_
    refine sx_val (by kernel_rfl) rfl rfl (.slice (some ⟨q, 0, none⟩) ol.length ct) (by kernel_rfl) ?_
    refine sx_val (by kernel_rfl) rfl rfl (.pointer (some ⟨w.heap.size, 4, none⟩)) (by kernel_rfl) ?_
    refine sx_val (by kernel_rfl) rfl rfl (.slice o4 ap.length c4) (ex_load1 rfl (M2.cell 4 rfl) (by kernel_rfl) Try.underlying28 rfl) ?_
    by_cases C5 : pairB (trK ol.length l l.length) ap = true
    · refine sx_call (by kernel_rfl) rfl rfl ((by have h8 := tourPair_n q ct ol (trK ol.length l l.length) (trK_len ol.length l l.length) o4 c4 ap hra hla W10 hT (hpa.below HB); rw [show pairB (trK ol.length l l.length) ap = true by simpa using C5] at h8; exact h8)) (by kernel_rfl) ?_
      rintro e W11 ⟨rfl, hb⟩
      replace HB := over HB hb
      replace M2 := M2.below hb
      replace M4 := M4.below hb
      replace hT := hT.below hb
      have z7 := hb.size
      clear hb
      refine ⟨_, rfl, ?_⟩
      refine sx_val (by kernel_rfl) rfl rfl (.bool true) (by kernel_rfl) ?_
      refine wpList_nil ?_
      refine sx_norm ?_
      refine sx_true (by kernel_rfl) ?_
      refine wp_seq ?_
      refine wp_region_lit ?_
      refine sx_val (by kernel_rfl) rfl rfl (.int .i64 20) (by kernel_rfl) ?_
      refine wpList_nil ?_
      refine sx_norm ?_
      refine wp_ret ?_
      refine sx_rb ?_
      refine sx_rs ?_
      refine sx_ret1 (.int .i64 20) rfl rfl (by kernel_rfl) ⟨ret_int ?_, HB⟩
      unfold chkS
      rw [if_neg (by rintro (h8 | h8) <;> exact absurd h8 (by assumption)), if_neg (by assumption), if_neg (fun h9 => h9 hon), if_neg (by simpa using (by assumption : pairdB _ _ _ = true)), if_pos (by assumption)]
    refine sx_call (by kernel_rfl) rfl rfl ((by have h8 := tourPair_n q ct ol (trK ol.length l l.length) (trK_len ol.length l l.length) o4 c4 ap hra hla W10 hT (hpa.below HB); rw [show pairB (trK ol.length l l.length) ap = false by simpa using C5] at h8; exact h8)) (by kernel_rfl) ?_
    rintro e W12 ⟨rfl, hb⟩
    replace HB := over HB hb
    replace M2 := M2.below hb
    replace M4 := M4.below hb
    replace hT := hT.below hb
    have z7 := hb.size
    clear hb
    refine ⟨_, rfl, ?_⟩
    refine sx_val (by kernel_rfl) rfl rfl (.bool false) (by kernel_rfl) ?_
    refine wpList_nil ?_
    refine sx_norm ?_
    refine sx_false (by kernel_rfl) ?_
    refine wp_seq ?_
    refine wp_region_lit ?_
    refine sx_val (by kernel_rfl) rfl rfl (.slice (some ⟨q, 0, none⟩) ol.length ct) (by kernel_rfl) ?_
    refine sx_val (by kernel_rfl) rfl rfl (.pointer (some ⟨w.heap.size, 3, none⟩)) (by kernel_rfl) ?_
    refine sx_val (by kernel_rfl) rfl rfl (.slice o3 ol.length c3) (ex_load1 rfl (M2.cell 3 rfl) (by kernel_rfl) Try.underlying27 rfl) ?_
    refine sx_val (by kernel_rfl) rfl rfl (.pointer (some ⟨w.heap.size, 5, none⟩)) (by kernel_rfl) ?_
    refine sx_val (by kernel_rfl) rfl rfl (.slice o5 be.length c5) (ex_load1 rfl (M2.cell 5 rfl) (by kernel_rfl) Try.underlying28 rfl) ?_
    by_cases C6 : folB ol (trK ol.length l l.length) be = true
    · refine sx_call (by kernel_rfl) rfl rfl ((by have h8 := follows_n q ct ol (trK ol.length l l.length) (trK_len ol.length l l.length) o3 c3 o5 c5 be hr hl W12 hT (hos.below HB) (hps.below HB); rw [show folB ol (trK ol.length l l.length) be = true by simpa using C6] at h8; exact h8)) (by kernel_rfl) ?_
      rintro e W13 ⟨rfl, hb⟩
      replace HB := over HB hb
      replace M2 := M2.below hb
      replace M4 := M4.below hb
      replace hT := hT.below hb
      have z8 := hb.size
      clear hb
      refine ⟨_, rfl, ?_⟩
      refine sx_val (by kernel_rfl) rfl rfl (.bool false) (by kernel_rfl) ?_
      refine sx_val (by kernel_rfl) rfl rfl (.bool false) (by kernel_rfl) ?_
      refine wpList_nil ?_
      refine sx_norm ?_
      refine sx_false (by kernel_rfl) ?_
      refine wp_skip ?_
      refine sx_in ?_
      refine sx_norm ?_
      refine wp_seq ?_
      refine wp_region_lit ?_
      refine sx_val (by kernel_rfl) rfl rfl (.int .i64 0) (by kernel_rfl) ?_
      refine wpList_nil ?_
      refine sx_norm ?_
      refine wp_ret ?_
      refine sx_ret1 (.int .i64 0) rfl rfl (by kernel_rfl) ⟨ret_int ?_, HB⟩
      unfold chkS
      rw [if_neg (by rintro (h8 | h8) <;> exact absurd h8 (by assumption)), if_neg (by assumption), if_neg (fun h9 => h9 hon), if_neg (by simpa using (by assumption : pairdB _ _ _ = true)), if_neg (by assumption), if_neg (by simpa using (by assumption : folB _ _ _ = true))]
    refine sx_call (by kernel_rfl) rfl rfl ((by have h8 := follows_n q ct ol (trK ol.length l l.length) (trK_len ol.length l l.length) o3 c3 o5 c5 be hr hl W12 hT (hos.below HB) (hps.below HB); rw [show folB ol (trK ol.length l l.length) be = false by simpa using C6] at h8; exact h8)) (by kernel_rfl) ?_
    rintro e W14 ⟨rfl, hb⟩
    replace HB := over HB hb
    replace M2 := M2.below hb
    replace M4 := M4.below hb
    replace hT := hT.below hb
    have z8 := hb.size
    clear hb
    refine ⟨_, rfl, ?_⟩
    refine sx_val (by kernel_rfl) rfl rfl (.bool true) (by kernel_rfl) ?_
    refine sx_val (by kernel_rfl) rfl rfl (.bool true) (by kernel_rfl) ?_
    refine wpList_nil ?_
    refine sx_norm ?_
    refine sx_true (by kernel_rfl) ?_
    refine wp_seq ?_
    refine wp_region_lit ?_
    refine sx_val (by kernel_rfl) rfl rfl (.int .i64 21) (by kernel_rfl) ?_
    refine wpList_nil ?_
    refine sx_norm ?_
    refine wp_ret ?_
    refine sx_rb ?_
    refine sx_rs ?_
    refine sx_ret1 (.int .i64 21) rfl rfl (by kernel_rfl) ⟨ret_int ?_, HB⟩
    unfold chkS
    rw [if_neg (by rintro (h8 | h8) <;> exact absurd h8 (by assumption)), if_neg (by assumption), if_neg (fun h9 => h9 hon), if_neg (by simpa using (by assumption : pairdB _ _ _ = true)), if_neg (by assumption), if_pos (by simpa using (by assumption : ¬ (folB _ _ _ = true)))]
  refine sx_call (by kernel_rfl) rfl rfl ((by have h8 := isPaired_n q ct ol (trK ol.length l l.length) (trK_len ol.length l l.length) o3 c3 l ll hex oa c b o W9 hT (hos.below HB) (hv.below HB); rw [show pairdB ol (trK ol.length l l.length) l = false by simpa using C4] at h8; exact h8)) (by kernel_rfl) ?_
  rintro e W15 ⟨rfl, hb⟩
  replace HB := over HB hb
  replace M2 := M2.below hb
  replace M4 := M4.below hb
  replace hT := hT.below hb
  have z6 := hb.size
  clear hb
  refine ⟨_, rfl, ?_⟩
  refine sx_val (by kernel_rfl) rfl rfl (.bool true) (by kernel_rfl) ?_
  refine sx_val (by kernel_rfl) rfl rfl (.bool true) (by kernel_rfl) ?_
  refine wpList_nil ?_
  refine sx_norm ?_
  refine sx_true (by kernel_rfl) ?_
  refine wp_seq ?_
  refine wp_region_lit ?_
  refine sx_val (by kernel_rfl) rfl rfl (.int .i64 19) (by kernel_rfl) ?_
  refine wpList_nil ?_
  refine sx_norm ?_
  refine wp_ret ?_
  refine sx_rb ?_
  refine sx_rs ?_
  refine sx_ret1 (.int .i64 19) rfl rfl (by kernel_rfl) ⟨ret_int ?_, HB⟩
  unfold chkS
  rw [if_neg (by rintro (h8 | h8) <;> exact absurd h8 (by assumption)), if_neg (by assumption), if_neg (fun h9 => h9 hon), if_pos (by simpa using (by assumption : ¬ (pairdB _ _ _ = true)))]

end Go.Proofs.Ytoliacfpjhanlaa.T


