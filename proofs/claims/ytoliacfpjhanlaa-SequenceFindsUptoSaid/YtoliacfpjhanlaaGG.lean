/-
  DERIVED. GG: a part of the base of layer 13 (made by pack.py).
-/
import Derived.Test.YtoliacfpjhanlaaSm
import Derived.Laws.IdiomCopy
import Derived.Deep.OwnRows
import Derived.Test.YtoliacfpjhanlaaGB
import Derived.Test.YtoliacfpjhanlaaGC
/-! The walk of Check (by gen_sn.py). -/
namespace Go.Proofs.Ytoliacfpjhanlaa.T
open Go.RowKit
set_option maxRecDepth 8000
attribute [local irreducible] wpList Code.wp wpAnyH

/-- the error of a route's visits, as the program finds it -/
noncomputable def chkS (ol : List OrT) (ap be : List (Int × Int)) (l : List (Int × Bool)) : Int := by
  classical
  exact if l.length = 0 ∨ l.any (goneV ol.length) = true then 2 else if l.any (offV ol) = true then 9 else if ¬ Once ol.length l l.length then 6
    else if pairdB ol (trK ol.length l l.length) l = false then 19 else if pairB (trK ol.length l l.length) ap = true then 20 else if folB ol (trK ol.length l l.length) be = false then 21 else 0
theorem gone_ex {n : Nat} {l : List (Int × Bool)} (h : ¬ l.any (goneV n) = true) : Ex n l := fun i hi => by
  have h2 : goneV n (l.getD i (0, false)) = false := by
    cases h3 : goneV n (l.getD i (0, false))
    · rfl
    · exact absurd (anyT_yes (d := (0, false)) hi h3) h
  unfold goneV at h2
  rw [Bool.or_eq_false_iff, decide_eq_false_iff_not, decide_eq_false_iff_not] at h2
  omega
theorem check16_n (o0 o1 o2 o3 o4 o5 : Option Addr) (n0 n1 n2 c0 c1 c2 c3 c4 c5 : Nat) (ol : List OrT) (ap be : List (Int × Int)) (hn : ol.length ≤ 10) (hra : U.Rt ol.length ap) (hla : ap.length ≤ 1000000) (hr : U.Rt ol.length be) (hl : be.length ≤ 1000000) (w : World) (hos : Os w (.slice o3 ol.length c3) ol) (hpa : Ps w (.slice o4 ap.length c4) ap) (hps : Ps w (.slice o5 be.length c5) be) (ty st : Int) (orr oa : Option Addr) (nr cr c b o : Nat) (l : List (Int × Bool)) (ll : l.length ≤ 1000000) (hv : Rw w b o 2 (vF l) l.length oa) : Calls Try.prog 11 #[.agg #[.slice o0 n0 c0, .slice o1 n1 c1, .slice o2 n2 c2, .slice o3 ol.length c3, .slice o4 ap.length c4, .slice o5 be.length c5], .agg #[.int .i64 ty, .int .i64 st, .slice orr nr cr, .slice oa l.length c]] w fun e w' => e = .returned (.int .i64 (chkS ol ap be l)) ∧ Below w.heap.size w w' := by
  have HB : Below w.heap.size w w := Below.refl _ _
  refine sx_enter Try.func11 rfl [(0, .agg #[.slice o0 n0 c0, .slice o1 n1 c1, .slice o2 n2 c2, .slice o3 ol.length c3, .slice o4 ap.length c4, .slice o5 be.length c5]), (1, .agg #[.int .i64 ty, .int .i64 st, .slice orr nr cr, .slice oa l.length c])] (by kernel_rfl) ?_
  refine wp_seq ?_
  refine wp_region_lit ?_
  obtain ⟨W1, hW⟩ : ∃ W, w.alloc (.cells #[.slice o0 n0 c0, .slice o1 n1 c1, .slice o2 n2 c2, .slice o3 ol.length c3, .slice o4 ap.length c4, .slice o5 be.length c5] 30) = W := ⟨_, rfl⟩
  have hb := hW ▸ below_alloc w (.cells #[.slice o0 n0 c0, .slice o1 n1 c1, .slice o2 n2 c2, .slice o3 ol.length c3, .slice o4 ap.length c4, .slice o5 be.length c5] 30)
  have hq : Cb W1 w.heap.size #[.slice o0 n0 c0, .slice o1 n1 c1, .slice o2 n2 c2, .slice o3 ol.length c3, .slice o4 ap.length c4, .slice o5 be.length c5] 30 := hW ▸ Cb.made w #[.slice o0 n0 c0, .slice o1 n1 c1, .slice o2 n2 c2, .slice o3 ol.length c3, .slice o4 ap.length c4, .slice o5 be.length c5] 30
  refine sx_mem (by kernel_rfl) rfl rfl (.pointer (some ⟨w.heap.size, 0, none⟩)) W1 (by rw [← hW]; kernel_rfl) ?_
  replace HB := over HB hb
  have z1 := hb.size
  have M2 := hq
  have yM2 := hq.lt
  clear hq hb hW
  obtain ⟨W3, hW⟩ : ∃ W, W1.alloc (.cells #[.int .i64 ty, .int .i64 st, .slice orr nr cr, .slice oa l.length c] 34) = W := ⟨_, rfl⟩
  have hb := hW ▸ below_alloc W1 (.cells #[.int .i64 ty, .int .i64 st, .slice orr nr cr, .slice oa l.length c] 34)
  have hq : Cb W3 W1.heap.size #[.int .i64 ty, .int .i64 st, .slice orr nr cr, .slice oa l.length c] 34 := hW ▸ Cb.made W1 #[.int .i64 ty, .int .i64 st, .slice orr nr cr, .slice oa l.length c] 34
  refine sx_mem (by kernel_rfl) rfl rfl (.pointer (some ⟨W1.heap.size, 0, none⟩)) W3 (by rw [← hW]; kernel_rfl) ?_
  replace HB := over HB hb
  replace M2 := M2.below hb
  have z2 := hb.size
  have M4 := hq
  have yM4 := hq.lt
  clear hq hb hW
  refine sx_val (by kernel_rfl) rfl rfl (.int .i64 0) (by kernel_rfl) ?_
  refine wpList_nil ?_
  refine sx_norm ?_
  refine wp_seq ?_
  refine wp_block ?_
  refine wp_seq ?_
  refine wp_region_lit ?_
  refine sx_val (by kernel_rfl) rfl rfl (.pointer (some ⟨W1.heap.size, 3, none⟩)) (by kernel_rfl) ?_
  refine sx_val (by kernel_rfl) rfl rfl (.slice oa l.length c) (ex_load1 rfl (M4.cell 3 rfl) (by kernel_rfl) Try.underlying32 rfl) ?_
  refine sx_val (by kernel_rfl) rfl rfl (.int .i64 ((l.length : Nat) : Int)) (by kernel_rfl) ?_
  by_cases C1 : l.length = 0
  · refine sx_bool (by kernel_rfl) rfl rfl ((((l.length : Nat) : Int) : Int) == (0 : Int)) true (by kernel_rfl) (beq_iff_eq.2 (by omega)) ?_
    refine sx_val (by kernel_rfl) rfl rfl (.bool true) (by kernel_rfl) ?_
    refine sx_skip (by kernel_rfl) rfl rfl ?_
    refine sx_skip (by kernel_rfl) rfl rfl ?_
    refine sx_skip (by kernel_rfl) rfl rfl ?_
    refine sx_skip (by kernel_rfl) rfl rfl ?_
    refine sx_skip (by kernel_rfl) rfl rfl ?_
    refine sx_skip (by kernel_rfl) rfl rfl ?_
    refine sx_val (by kernel_rfl) rfl rfl (.bool true) (by kernel_rfl) ?_
    refine sx_val (by kernel_rfl) rfl rfl (.bool true) (by kernel_rfl) ?_
    refine wpList_nil ?_
    refine sx_norm ?_
    refine sx_true (by kernel_rfl) ?_
    refine wp_seq ?_
    refine wp_region_lit ?_
    refine sx_val (by kernel_rfl) rfl rfl (.int .i64 2) (by kernel_rfl) ?_
    refine wpList_nil ?_
    refine sx_norm ?_
    refine wp_ret ?_
    refine sx_rb ?_
    refine sx_rs ?_
    refine sx_ret1 (.int .i64 2) rfl rfl (by kernel_rfl) ⟨ret_int ?_, HB⟩
    unfold chkS
    rw [if_pos (by first | exact .inl (by assumption) | exact .inr (by assumption))]
  refine sx_bool (by kernel_rfl) rfl rfl ((((l.length : Nat) : Int) : Int) == (0 : Int)) false (by kernel_rfl) (beq_eq_false_iff_ne.2 (by omega)) ?_
  refine sx_val (by kernel_rfl) rfl rfl (.bool false) (by kernel_rfl) ?_
  refine sx_val (by kernel_rfl) rfl rfl (.pointer (some ⟨w.heap.size, 3, none⟩)) (by kernel_rfl) ?_
  refine sx_val (by kernel_rfl) rfl rfl (.slice o3 ol.length c3) (ex_load1 rfl (M2.cell 3 rfl) (by kernel_rfl) Try.underlying27 rfl) ?_
  refine sx_val (by kernel_rfl) rfl rfl (.pointer (some ⟨W1.heap.size, 3, none⟩)) (by kernel_rfl) ?_
  refine sx_val (by kernel_rfl) rfl rfl (.slice oa l.length c) (ex_load1 rfl (M4.cell 3 rfl) (by kernel_rfl) Try.underlying32 rfl) ?_
  by_cases C2 : l.any (goneV ol.length) = true
  · refine sx_call (by kernel_rfl) rfl rfl ((by have h8 := allExist_n o3 c3 ol l ll oa c b o W3 (hv.below HB); rw [show l.any (goneV ol.length) = true by simpa using C2] at h8; exact h8)) (by kernel_rfl) ?_
    rintro e W5 ⟨rfl, hb⟩
    replace HB := over HB hb
    replace M2 := M2.below hb
    replace M4 := M4.below hb
    have z3 := hb.size
    clear hb
    refine ⟨_, rfl, ?_⟩
    refine sx_val (by kernel_rfl) rfl rfl (.bool true) (by kernel_rfl) ?_
    refine sx_val (by kernel_rfl) rfl rfl (.bool true) (by kernel_rfl) ?_
    refine sx_val (by kernel_rfl) rfl rfl (.bool true) (by kernel_rfl) ?_
    refine wpList_nil ?_
    refine sx_norm ?_
    refine sx_true (by kernel_rfl) ?_
    refine wp_seq ?_
    refine wp_region_lit ?_
    refine sx_val (by kernel_rfl) rfl rfl (.int .i64 2) (by kernel_rfl) ?_
    refine wpList_nil ?_
    refine sx_norm ?_
    refine wp_ret ?_
    refine sx_rb ?_
    refine sx_rs ?_
    refine sx_ret1 (.int .i64 2) rfl rfl (by kernel_rfl) ⟨ret_int ?_, HB⟩
    unfold chkS
    rw [if_pos (by first | exact .inl (by assumption) | exact .inr (by assumption))]
  refine sx_call (by kernel_rfl) rfl rfl ((by have h8 := allExist_n o3 c3 ol l ll oa c b o W3 (hv.below HB); rw [show l.any (goneV ol.length) = false by simpa using C2] at h8; exact h8)) (by kernel_rfl) ?_
  rintro e W6 ⟨rfl, hb⟩
  replace HB := over HB hb
  replace M2 := M2.below hb
  replace M4 := M4.below hb
  have z3 := hb.size
  clear hb
  refine ⟨_, rfl, ?_⟩
  refine sx_val (by kernel_rfl) rfl rfl (.bool false) (by kernel_rfl) ?_
  refine sx_val (by kernel_rfl) rfl rfl (.bool false) (by kernel_rfl) ?_
  refine sx_val (by kernel_rfl) rfl rfl (.bool false) (by kernel_rfl) ?_
  refine wpList_nil ?_
  refine sx_norm ?_
  refine sx_false (by kernel_rfl) ?_
  refine wp_seq ?_
  have hex := gone_ex (n := ol.length) (l := l) (by assumption)
  refine wp_region_lit ?_
  refine sx_val (by kernel_rfl) rfl rfl (.pointer (some ⟨w.heap.size, 3, none⟩)) (by kernel_rfl) ?_
  refine sx_val (by kernel_rfl) rfl rfl (.slice o3 ol.length c3) (ex_load1 rfl (M2.cell 3 rfl) (by kernel_rfl) Try.underlying27 rfl) ?_
  refine sx_val (by kernel_rfl) rfl rfl (.pointer (some ⟨W1.heap.size, 3, none⟩)) (by kernel_rfl) ?_
  refine sx_val (by kernel_rfl) rfl rfl (.slice oa l.length c) (ex_load1 rfl (M4.cell 3 rfl) (by kernel_rfl) Try.underlying32 rfl) ?_
  by_cases C3 : l.any (offV ol) = true
  · refine sx_call (by kernel_rfl) rfl rfl ((by have h8 := hasOff_n o3 c3 ol l ll oa c b o hex W6 (hv.below HB) (hos.below HB); rw [show l.any (offV ol) = true by simpa using C3] at h8; exact h8)) (by kernel_rfl) ?_
    rintro e W7 ⟨rfl, hb⟩
    replace HB := over HB hb
    replace M2 := M2.below hb
    replace M4 := M4.below hb
    have z4 := hb.size
    clear hb
    refine ⟨_, rfl, ?_⟩
    refine sx_val (by kernel_rfl) rfl rfl (.bool true) (by kernel_rfl) ?_
    refine wpList_nil ?_
    refine sx_norm ?_
    refine sx_true (by kernel_rfl) ?_
    refine wp_seq ?_
    refine wp_region_lit ?_
    refine sx_val (by kernel_rfl) rfl rfl (.int .i64 9) (by kernel_rfl) ?_
    refine wpList_nil ?_
    refine sx_norm ?_
    refine wp_ret ?_
    refine sx_rb ?_
    refine sx_rs ?_
    refine sx_ret1 (.int .i64 9) rfl rfl (by kernel_rfl) ⟨ret_int ?_, HB⟩
    unfold chkS
    rw [if_neg (by rintro (h8 | h8) <;> exact absurd h8 (by assumption)), if_pos (by assumption)]
  refine sx_call (by kernel_rfl) rfl rfl ((by have h8 := hasOff_n o3 c3 ol l ll oa c b o hex W6 (hv.below HB) (hos.below HB); rw [show l.any (offV ol) = false by simpa using C3] at h8; exact h8)) (by kernel_rfl) ?_
  rintro e W8 ⟨rfl, hb⟩
  replace HB := over HB hb
  replace M2 := M2.below hb
  replace M4 := M4.below hb
  have z4 := hb.size
  clear hb
  refine ⟨_, rfl, ?_⟩
  refine sx_val (by kernel_rfl) rfl rfl (.bool false) (by kernel_rfl) ?_
  refine wpList_nil ?_
  refine sx_norm ?_
  refine sx_false (by kernel_rfl) ?_
  refine wp_skip ?_
  refine sx_in ?_
  refine sx_norm ?_
  refine wp_seq ?_
  refine wp_region_lit ?_
  refine sx_val (by kernel_rfl) rfl rfl (.pointer (some ⟨w.heap.size, 3, none⟩)) (by kernel_rfl) ?_
  refine sx_val (by kernel_rfl) rfl rfl (.slice o3 ol.length c3) (ex_load1 rfl (M2.cell 3 rfl) (by kernel_rfl) Try.underlying27 rfl) ?_
  refine sx_val (by kernel_rfl) rfl rfl (.int .i64 ((ol.length : Nat) : Int)) (by kernel_rfl) ?_
  refine sx_val (by kernel_rfl) rfl rfl (.pointer (some ⟨W1.heap.size, 3, none⟩)) (by kernel_rfl) ?_
  refine sx_val (by kernel_rfl) rfl rfl (.slice oa l.length c) (ex_load1 rfl (M4.cell 3 rfl) (by kernel_rfl) Try.underlying32 rfl) ?_
  refine sx_call (by kernel_rfl) rfl rfl (tourOf_n ol.length (by omega) l ll hex oa c b o W8 (hv.below HB)) (by kernel_rfl) ?_
  rintro e W9 ⟨⟨rfl, hon⟩ | ⟨q, ct, rfl, hT, hon⟩, hb⟩
  · replace HB := over HB hb
    replace M2 := M2.below hb
    replace M4 := M4.below hb
    have z5 := hb.size
    clear hb
    refine ⟨_, rfl, ?_⟩
    refine sx_val (by kernel_rfl) rfl rfl (.tuple #[.slice none 0 0, .bool true]) (by kernel_rfl) ?_
    refine sx_val (by kernel_rfl) rfl rfl (.slice none 0 0) (by kernel_rfl) ?_
    refine sx_val (by kernel_rfl) rfl rfl (.bool true) (by kernel_rfl) ?_
    refine sx_val (by kernel_rfl) rfl rfl (.slice none 0 0) (by kernel_rfl) ?_
    refine sx_val (by kernel_rfl) rfl rfl (.bool true) (by kernel_rfl) ?_
    refine wpList_nil ?_
    refine sx_norm ?_
    refine wp_seq ?_
    refine wp_block ?_
    refine wp_seq ?_
    refine wp_region_lit ?_
    refine sx_val (by kernel_rfl) rfl rfl (.bool true) (by kernel_rfl) ?_
    refine sx_val (by kernel_rfl) rfl rfl (.bool true) (by kernel_rfl) ?_
    refine wpList_nil ?_
    refine sx_norm ?_
    refine sx_true (by kernel_rfl) ?_
    refine wp_seq ?_
    refine wp_region_lit ?_
    refine sx_val (by kernel_rfl) rfl rfl (.int .i64 6) (by kernel_rfl) ?_
    refine wpList_nil ?_
    refine sx_norm ?_
    refine wp_ret ?_
    refine sx_rb ?_
    refine sx_rs ?_
    refine sx_ret1 (.int .i64 6) rfl rfl (by kernel_rfl) ⟨ret_int ?_, HB⟩
    unfold chkS
    rw [if_neg (by rintro (h8 | h8) <;> exact absurd h8 (by assumption)), if_neg (by assumption), if_pos hon]
  replace HB := over HB hb
  replace M2 := M2.below hb
  replace M4 := M4.below hb
  have z5 := hb.size
  clear hb
  refine ⟨_, rfl, ?_⟩
  refine sx_val (by kernel_rfl) rfl rfl (.tuple #[.slice (some ⟨q, 0, none⟩) ol.length ct, .bool false]) (by kernel_rfl) ?_
  refine sx_val (by kernel_rfl) rfl rfl (.slice (some ⟨q, 0, none⟩) ol.length ct) (by kernel_rfl) ?_
  refine sx_val (by kernel_rfl) rfl rfl (.bool false) (by kernel_rfl) ?_
  refine sx_val (by kernel_rfl) rfl rfl (.slice (some ⟨q, 0, none⟩) ol.length ct) (by kernel_rfl) ?_
  refine sx_val (by kernel_rfl) rfl rfl (.bool false) (by kernel_rfl) ?_
  refine wpList_nil ?_
  refine sx_norm ?_
  refine wp_seq ?_
  refine wp_block ?_
  refine wp_seq ?_
  refine wp_region_lit ?_
  refine sx_val (by kernel_rfl) rfl rfl (.bool false) (by kernel_rfl) ?_
  refine sx_val (by kernel_rfl) rfl rfl (.bool false) (by kernel_rfl) ?_
  refine wpList_nil ?_
  refine sx_norm ?_
  refine sx_false (by kernel_rfl) ?_
  refine wp_seq ?_
  refine wp_region_lit ?_
  refine sx_val (by kernel_rfl) rfl rfl (.slice (some ⟨q, 0, none⟩) ol.length ct) (by kernel_rfl) ?_
  refine sx_val (by kernel_rfl) rfl rfl (.pointer (some ⟨w.heap.size, 3, none⟩)) (by kernel_rfl) ?_
  refine sx_val (by kernel_rfl) rfl rfl (.slice o3 ol.length c3) (ex_load1 rfl (M2.cell 3 rfl) (by kernel_rfl) Try.underlying27 rfl) ?_
  refine sx_val (by kernel_rfl) rfl rfl (.pointer (some ⟨W1.heap.size, 3, none⟩)) (by kernel_rfl) ?_
  refine sx_val (by kernel_rfl) rfl rfl (.slice oa l.length c) (ex_load1 rfl (M4.cell 3 rfl) (by kernel_rfl) Try.underlying32 rfl) ?_
  by_cases C4 : pairdB ol (trK ol.length l l.length) l = true
  · refine sx_call (by kernel_rfl) rfl rfl ((by have h8 := isPaired_n q ct ol (trK ol.length l l.length) (trK_len ol.length l l.length) o3 c3 l ll hex oa c b o W9 hT (hos.below HB) (hv.below HB); rw [show pairdB ol (trK ol.length l l.length) l = true by simpa using C4] at h8; exact h8)) (by kernel_rfl) ?_
    rintro e W10 ⟨rfl, hb⟩
    replace HB := over HB hb
    replace M2 := M2.below hb
    replace M4 := M4.below hb
    replace hT := hT.below hb
    have z6 := hb.size
    clear hb
    refine ⟨_, rfl, ?_⟩
    refine sx_val (by kernel_rfl) rfl rfl (.bool false) (by kernel_rfl) ?_
    refine sx_val (by kernel_rfl) rfl rfl (.bool false) (by kernel_rfl) ?_
    refine wpList_nil ?_
    refine sx_norm ?_
    refine sx_false (by kernel_rfl) ?_
    refine wp_seq ?_
    refine wp_region_lit ?_
    refine sx_val (by kernel_rfl) rfl rfl (.slice (some ⟨q, 0, none⟩) ol.length ct) (by kernel_rfl) ?_
    refine sx_val (by kernel_rfl) rfl rfl (.pointer (some ⟨w.heap.size, 4, none⟩)) (by kernel_rfl) ?_
    refine sx_val (by kernel_rfl) rfl rfl (.slice o4 ap.length c4) (ex_load1 rfl (M2.cell 4 rfl) (by kernel_rfl) Try.underlying28 rfl) ?_
    by_cases C5 : pairB (trK ol.length l l.length) ap = true
    · refine sx_call (by kernel_rfl) rfl rfl ((by have h8 := tourPair_n q ct ol (trK ol.length l l.length) (trK_len ol.length l l.length) o4 c4 ap hra hla W10 hT (hpa.below HB); rw [show pairB (trK ol.length l l.length) ap = true by simpa using C5] at h8; exact h8)) (by kernel_rfl) ?_
      rintro e W11 ⟨rfl, hb⟩
      replace HB := over HB hb
      replace M2 := M2.below hb
      replace M4 := M4.below hb
      replace hT := hT.below hb
      have z7 := hb.size
      clear hb
      refine ⟨_, rfl, ?_⟩
      refine sx_val (by kernel_rfl) rfl rfl (.bool true) (by kernel_rfl) ?_
      refine wpList_nil ?_
      refine sx_norm ?_
      refine sx_true (by kernel_rfl) ?_
      refine wp_seq ?_
      refine wp_region_lit ?_
      refine sx_val (by kernel_rfl) rfl rfl (.int .i64 20) (by kernel_rfl) ?_
      refine wpList_nil ?_
      refine sx_norm ?_
      refine wp_ret ?_
      refine sx_rb ?_
      refine sx_rs ?_
      refine sx_ret1 (.int .i64 20) rfl rfl (by kernel_rfl) ⟨ret_int ?_, HB⟩
      unfold chkS
      rw [if_neg (by rintro (h8 | h8) <;> exact absurd h8 (by assumption)), if_neg (by assumption), if_neg (fun h9 => h9 hon), if_neg (by simpa using (by assumption : pairdB _ _ _ = true)), if_pos (by assumption)]
    refine sx_call (by kernel_rfl) rfl rfl ((by have h8 := tourPair_n q ct ol (trK ol.length l l.length) (trK_len ol.length l l.length) o4 c4 ap hra hla W10 hT (hpa.below HB); rw [show pairB (trK ol.length l l.length) ap = false by simpa using C5] at h8; exact h8)) (by kernel_rfl) ?_
    rintro e W12 ⟨rfl, hb⟩
    replace HB := over HB hb
    replace M2 := M2.below hb
    replace M4 := M4.below hb
    replace hT := hT.below hb
    have z7 := hb.size
    clear hb
    refine ⟨_, rfl, ?_⟩
    refine sx_val (by kernel_rfl) rfl rfl (.bool false) (by kernel_rfl) ?_
    refine wpList_nil ?_
    refine sx_norm ?_
    refine sx_false (by kernel_rfl) ?_
    refine wp_seq ?_
    refine wp_region_lit ?_
    refine sx_val (by kernel_rfl) rfl rfl (.slice (some ⟨q, 0, none⟩) ol.length ct) (by kernel_rfl) ?_
    refine sx_val (by kernel_rfl) rfl rfl (.pointer (some ⟨w.heap.size, 3, none⟩)) (by kernel_rfl) ?_
    refine sx_val (by kernel_rfl) rfl rfl (.slice o3 ol.length c3) (ex_load1 rfl (M2.cell 3 rfl) (by kernel_rfl) Try.underlying27 rfl) ?_
    refine sx_val (by kernel_rfl) rfl rfl (.pointer (some ⟨w.heap.size, 5, none⟩)) (by kernel_rfl) ?_
    refine sx_val (by kernel_rfl) rfl rfl (.slice o5 be.length c5) (ex_load1 rfl (M2.cell 5 rfl) (by kernel_rfl) Try.underlying28 rfl) ?_
    by_cases C6 : folB ol (trK ol.length l l.length) be = true
    · refine sx_call (by kernel_rfl) rfl rfl ((by have h8 := follows_n q ct ol (trK ol.length l l.length) (trK_len ol.length l l.length) o3 c3 o5 c5 be hr hl W12 hT (hos.below HB) (hps.below HB); rw [show folB ol (trK ol.length l l.length) be = true by simpa using C6] at h8; exact h8)) (by kernel_rfl) ?_
      rintro e W13 ⟨rfl, hb⟩
      replace HB := over HB hb
      replace M2 := M2.below hb
      replace M4 := M4.below hb
      replace hT := hT.below hb
      have z8 := hb.size
      clear hb
      refine ⟨_, rfl, ?_⟩
      refine sx_val (by kernel_rfl) rfl rfl (.bool false) (by kernel_rfl) ?_
      refine sx_val (by kernel_rfl) rfl rfl (.bool false) (by kernel_rfl) ?_
      refine wpList_nil ?_
      refine sx_norm ?_
      refine sx_false (by kernel_rfl) ?_
      refine wp_skip ?_
      refine sx_in ?_
      refine sx_norm ?_
      refine wp_seq ?_
      refine wp_region_lit ?_
      refine sx_val (by kernel_rfl) rfl rfl (.int .i64 0) (by kernel_rfl) ?_
      refine wpList_nil ?_
      refine sx_norm ?_
      refine wp_ret ?_
      refine sx_ret1 (.int .i64 0) rfl rfl (by kernel_rfl) ⟨ret_int ?_, HB⟩
      unfold chkS
      rw [if_neg (by rintro (h8 | h8) <;> exact absurd h8 (by assumption)), if_neg (by assumption), if_neg (fun h9 => h9 hon), if_neg (by simpa using (by assumption : pairdB _ _ _ = true)), if_neg (by assumption), if_neg (by simpa using (by assumption : folB _ _ _ = true))]
    refine sx_call (by kernel_rfl) rfl rfl ((by have h8 := follows_n q ct ol (trK ol.length l l.length) (trK_len ol.length l l.length) o3 c3 o5 c5 be hr hl W12 hT (hos.below HB) (hps.below HB); rw [show folB ol (trK ol.length l l.length) be = false by simpa using C6] at h8; exact h8)) (by kernel_rfl) ?_
    rintro e W14 ⟨rfl, hb⟩
    replace HB := over HB hb
    replace M2 := M2.below hb
    replace M4 := M4.below hb
    replace hT := hT.below hb
    have z8 := hb.size
    clear hb
    refine ⟨_, rfl, ?_⟩
    refine sx_val (by kernel_rfl) rfl rfl (.bool true) (by kernel_rfl) ?_
    refine sx_val (by kernel_rfl) rfl rfl (.bool true) (by kernel_rfl) ?_
    refine wpList_nil ?_
    refine sx_norm ?_
    refine sx_true (by kernel_rfl) ?_
    refine wp_seq ?_
    refine wp_region_lit ?_
    refine sx_val (by kernel_rfl) rfl rfl (.int .i64 21) (by kernel_rfl) ?_
    refine wpList_nil ?_
    refine sx_norm ?_
    refine wp_ret ?_
    refine sx_rb ?_
    refine sx_rs ?_
    refine sx_ret1 (.int .i64 21) rfl rfl (by kernel_rfl) ⟨ret_int ?_, HB⟩
    unfold chkS
    rw [if_neg (by rintro (h8 | h8) <;> exact absurd h8 (by assumption)), if_neg (by assumption), if_neg (fun h9 => h9 hon), if_neg (by simpa using (by assumption : pairdB _ _ _ = true)), if_neg (by assumption), if_pos (by simpa using (by assumption : ¬ (folB _ _ _ = true)))]
  refine sx_call (by kernel_rfl) rfl rfl ((by have h8 := isPaired_n q ct ol (trK ol.length l l.length) (trK_len ol.length l l.length) o3 c3 l ll hex oa c b o W9 hT (hos.below HB) (hv.below HB); rw [show pairdB ol (trK ol.length l l.length) l = false by simpa using C4] at h8; exact h8)) (by kernel_rfl) ?_
  rintro e W15 ⟨rfl, hb⟩
  replace HB := over HB hb
  replace M2 := M2.below hb
  replace M4 := M4.below hb
  replace hT := hT.below hb
  have z6 := hb.size
  clear hb
  refine ⟨_, rfl, ?_⟩
  refine sx_val (by kernel_rfl) rfl rfl (.bool true) (by kernel_rfl) ?_
  refine sx_val (by kernel_rfl) rfl rfl (.bool true) (by kernel_rfl) ?_
  refine wpList_nil ?_
  refine sx_norm ?_
  refine sx_true (by kernel_rfl) ?_
  refine wp_seq ?_
  refine wp_region_lit ?_
  refine sx_val (by kernel_rfl) rfl rfl (.int .i64 19) (by kernel_rfl) ?_
  refine wpList_nil ?_
  refine sx_norm ?_
  refine wp_ret ?_
  refine sx_rb ?_
  refine sx_rs ?_
  refine sx_ret1 (.int .i64 19) rfl rfl (by kernel_rfl) ⟨ret_int ?_, HB⟩
  unfold chkS
  rw [if_neg (by rintro (h8 | h8) <;> exact absurd h8 (by assumption)), if_neg (by assumption), if_neg (fun h9 => h9 hon), if_pos (by simpa using (by assumption : ¬ (pairdB _ _ _ = true)))]

end Go.Proofs.Ytoliacfpjhanlaa.T


/-! The search for sequences: what it answers, and how its memory stands. -/
namespace Go.Proofs.Ytoliacfpjhanlaa.T
open Go.RowKit
set_option maxRecDepth 8000

/-! ### what is left to be done -/
def muB (s : Nat) : Nat := ((List.range 63).filter fun k => S.has s k).length
theorem muB_lt {s t k : Nat} (hk : k < 63) (hs : S.has s k = true) (ht : S.has t k = false) (h : ∀ i, S.has t i = true → S.has s i = true) : muB t < muB s :=
  U.filter_lt _ _ (List.range 63) h (List.mem_range.2 hk) hs ht
def WaT.mu (x : WaT) (d : Nat × Nat) : Nat := muB (U.minus x.P d.1) + muB (U.minus x.D d.2)
/-- progress is not great -/
def Dn (d : Nat × Nat) : Prop := d.1 < 9223372036854775808 ∧ d.2 < 9223372036854775808
theorem mem_nxtK {W und left : Nat} {A : List Nat} {v : Int × Bool} : ∀ k, v ∈ nxtK W und left A k → ∃ i, i < k ∧ v = ((i : Int), !S.has und i) ∧ S.has (W &&& left) i = true ∧ A.getD i 0 &&& left = 0
  | 0, h => by cases h
  | k + 1, h => by
    unfold nxtK at h
    rcases List.mem_append.1 h with h | h
    · obtain ⟨i, hi, h2⟩ := mem_nxtK k h
      exact ⟨i, by omega, h2⟩
    · unfold nxt1 at h
      split at h
      · rename_i hc
        exact ⟨k, by omega, List.mem_singleton.1 h, hc.1, hc.2⟩
      · cases h
theorem next_ok {x : WaT} (hx : x.B) {d : Nat × Nat} (hd : Dn d) {v : Int × Bool} (h : v ∈ nextW x d) : num62 v.1 = true ∧ Dn (withP d v) ∧ x.mu (withP d v) < x.mu d := by
  obtain ⟨i, hi, rfl, hw, -⟩ := mem_nxtK _ h
  have hi63 : i < 63 := Nat.lt_of_lt_of_le hi hx.l
  have hn : num62 (i : Int) = true := by unfold num62; rw [decide_eq_true (by omega), decide_eq_true (by omega)]; rfl
  have hp2 : 2 ^ i < 9223372036854775808 := Nat.pow_lt_pow_right (a := 2) (n := 63) (by omega) hi63
  have hor : ∀ a, a < 9223372036854775808 → a ||| 2 ^ i < 9223372036854775808 := fun a ha => Nat.or_lt_two_pow (n := 63) ha hp2
  have hl : S.has (x.left d) i = true := by
    rw [U.has_bit, Nat.testBit_and, Bool.and_eq_true, ← U.has_bit, ← U.has_bit] at hw
    exact hw.2
  have hsub : ∀ (P a : Nat), P < 9223372036854775808 → a < 9223372036854775808 → (∀ k, S.has (U.minus P (a ||| 2 ^ i)) k = true → S.has (U.minus P a) k = true) ∧ S.has (U.minus P (a ||| 2 ^ i)) i = false := by
    intro P a hP ha
    refine ⟨fun k hk => ?_, ?_⟩
    · rw [U.has_minus hP (hor a ha), U.has_or] at hk
      rw [U.has_minus hP ha]
      cases h1 : S.has P k <;> cases h2 : S.has a k <;> simp_all
    · rw [U.has_minus hP (hor a ha), U.has_or, U.has_pow, decide_eq_true rfl]
      simp
  refine ⟨hn, ?_⟩
  unfold withP WaT.mu
  cases hu : S.has (x.und d) i
  · -- a delivery
    rw [if_pos (by rfl : (!false) = true)]
    have hD : S.has (U.minus x.D d.2) i = true := by
      unfold WaT.left at hl
      rw [U.has_or, hu, Bool.false_or] at hl
      exact hl
    have h9 := hsub x.D d.2 hx.d hd.2
    have h8 := muB_lt hi63 hD h9.2 h9.1
    simp only [Int.toNat_natCast]
    exact ⟨⟨hd.1, hor _ hd.2⟩, by omega⟩
  · rw [if_neg (by decide : ¬ (!true) = true)]
    have h9 := hsub x.P d.1 hx.p hd.1
    have hu2 : S.has (U.minus x.P d.1) i = true := hu
    have h8 := muB_lt hi63 hu2 h9.2 h9.1
    simp only [Int.toNat_natCast]
    exact ⟨⟨hor _ hd.1, hd.2⟩, by omega⟩

/-! ### the sequences -/
def extF (x : WaT) : Nat → List (Int × Bool) → Nat × Nat → List (List (Int × Bool)) → List (List (Int × Bool))
  | 0, _, _, f => f
  | n + 1, L, d, f => (nextW x d).foldl (fun f v => if 8192 < f.length then f else extF x n (L ++ [v]) (withP d v) f) (if (nextW x d).length = 0 ∧ 0 < L.length then f ++ [L] else f)
theorem fold_len {α : Type} (g : List (List (Int × Bool)) → α → List (List (Int × Bool))) (hg : ∀ f v, f.length ≤ 8192 → (g f v).length ≤ 8193) : ∀ (l : List α) (f : List (List (Int × Bool))), f.length ≤ 8193 → (l.foldl (fun f v => if 8192 < f.length then f else g f v) f).length ≤ 8193
  | [], f, h => h
  | v :: l, f, h => by
    rw [List.foldl_cons]
    refine fold_len g hg l _ ?_
    split
    · exact h
    · exact hg f v (by omega)
theorem extF_len (x : WaT) : ∀ (n : Nat) (L : List (Int × Bool)) (d : Nat × Nat) (f : List (List (Int × Bool))), f.length ≤ 8192 → (extF x n L d f).length ≤ 8193
  | 0, _, _, f, h => by unfold extF; omega
  | n + 1, L, d, f, h => by
    unfold extF
    refine fold_len (fun f v => extF x n (L ++ [v]) (withP d v) f) (fun f _ hf => extF_len x n _ _ f hf) _ _ ?_
    split
    · rw [List.length_append]; simp only [List.length_singleton]; omega
    · omega
/-- the search at the j-th of the visits that can follow -/
def extJ (x : WaT) (n : Nat) (L : List (Int × Bool)) (d : Nat × Nat) (f : List (List (Int × Bool))) (j : Nat) : List (List (Int × Bool)) :=
  ((nextW x d).take j).foldl (fun f v => if 8192 < f.length then f else extF x n (L ++ [v]) (withP d v) f) f
theorem extJ_more {x : WaT} {n : Nat} {L : List (Int × Bool)} {d : Nat × Nat} {f : List (List (Int × Bool))} {j : Nat} (hj : j < (nextW x d).length) (hf : ¬ 8192 < (extJ x n L d f j).length) :
    extJ x n L d f (j + 1) = extF x n (L ++ [(nextW x d).getD j (0, false)]) (withP d ((nextW x d).getD j (0, false))) (extJ x n L d f j) := by
  unfold extJ at hf ⊢
  rw [take_more (d := (0, false)) hj, List.foldl_append, List.foldl_cons, List.foldl_nil, if_neg hf]
theorem fold_stop {α : Type} (g : List (List (Int × Bool)) → α → List (List (Int × Bool))) {f : List (List (Int × Bool))} (h : 8192 < f.length) : ∀ l : List α, l.foldl (fun f v => if 8192 < f.length then f else g f v) f = f
  | [] => rfl
  | v :: l => by rw [List.foldl_cons, if_pos h]; exact fold_stop g h l
theorem extJ_stop {x : WaT} {n : Nat} {L : List (Int × Bool)} {d : Nat × Nat} {f : List (List (Int × Bool))} {j : Nat} (hf : 8192 < (extJ x n L d f j).length) : extJ x n L d f (nextW x d).length = extJ x n L d f j := by
  have e : extJ x n L d f (nextW x d).length = (((nextW x d).drop j).foldl (fun f v => if 8192 < f.length then f else extF x n (L ++ [v]) (withP d v) f) (extJ x n L d f j)) := by
    unfold extJ
    rw [List.take_length, ← List.foldl_append, List.take_append_drop]
  rw [e]
  exact fold_stop (fun f v => extF x n (L ++ [v]) (withP d v) f) hf _
theorem extF_succ (x : WaT) (n : Nat) (L : List (Int × Bool)) (d : Nat × Nat) (f : List (List (Int × Bool))) : extF x (n + 1) L d f = extJ x n L d (if (nextW x d).length = 0 ∧ 0 < L.length then f ++ [L] else f) (nextW x d).length := by
  unfold extJ
  rw [List.take_length]
  rfl
/-! ### memory -/
/-- all blocks but those that Z names are as they were -/
structure Keep (Z : Nat → Prop) (w w' : World) : Prop where
  os : w'.os = w.os
  tape : w'.tape = w.tape
  output : w'.output = w.output
  size : w.heap.size ≤ w'.heap.size
  block : ∀ k, k < w.heap.size → ¬ Z k → w'.heap[k]? = w.heap[k]?
theorem Keep.refl (Z : Nat → Prop) (w : World) : Keep Z w w := ⟨rfl, rfl, rfl, Nat.le_refl _, fun _ _ _ => rfl⟩
theorem Keep.trans {Z Z' : Nat → Prop} {a b c : World} (h : Keep Z a b) (k : Keep Z' b c) (hz : ∀ i, i < a.heap.size → Z' i → Z i) : Keep Z a c :=
  ⟨k.os.trans h.os, k.tape.trans h.tape, k.output.trans h.output, Nat.le_trans h.size k.size, fun i hi hn => (k.block i (Nat.lt_of_lt_of_le hi h.size) fun e => hn (hz i hi e)).trans (h.block i hi hn)⟩
theorem Keep.below {Z : Nat → Prop} {a b c : World} (h : Keep Z a b) (k : Below b.heap.size b c) : Keep Z a c :=
  ⟨k.os.trans h.os, k.tape.trans h.tape, k.output.trans h.output, Nat.le_trans h.size k.size, fun i hi hn => (k.block i (Nat.lt_of_lt_of_le hi h.size)).trans (h.block i hi hn)⟩
theorem Keep.grown {Z : Nat → Prop} {a b c : World} {r : Option Nat} (h : Keep Z a b) (k : b.grownBy c r) (hz : ∀ i, i < a.heap.size → r = some i → Z i) : Keep Z a c :=
  ⟨k.os.trans h.os, k.tape.trans h.tape, k.output.trans h.output, Nat.le_trans h.size k.size, fun i hi hn => (k.block i (Nat.lt_of_lt_of_le hi h.size) (fun e => hn (hz i hi e.symm))).trans (h.block i hi hn)⟩
theorem Cb.keep {Z : Nat → Prop} {w w' : World} {q : Nat} {cs : Array Value} {t : TypeId} (h : Cb w q cs t) (k : Keep Z w w') (hn : ¬ Z q) : Cb w' q cs t := (k.block q h.lt hn).trans h
theorem Cb.grownO {w w' : World} {q : Nat} {cs : Array Value} {t : TypeId} {r : Option Nat} (h : Cb w q cs t) (k : w.grownBy w' r) (hn : r ≠ some q) : Cb w' q cs t := (k.block q h.lt (Ne.symm hn)).trans h
theorem Rw.keep {Z : Nat → Prop} {w w' : World} {b o sz : Nat} {E : Nat → List Value} {n : Nat} {oa : Option Addr} (h : Rw w b o sz E n oa) (k : Keep Z w w') (hn : ∀ i, i < n → ¬ Z b) : Rw w' b o sz E n oa := fun i hi => by
  obtain ⟨h1, h2, h3⟩ := h i hi
  exact ⟨h1, Nat.lt_of_lt_of_le h2 k.size, fun j v hj => (World.cell?_of_block (w := w) (a := ⟨b, _, none⟩) (k.block b h2 (hn i hi))).trans (h3 j v hj)⟩
theorem Rw.grownO {w w' : World} {b o sz : Nat} {E : Nat → List Value} {n : Nat} {oa : Option Addr} {r : Option Nat} (h : Rw w b o sz E n oa) (k : w.grownBy w' r) (hn : ∀ i, i < n → r ≠ some b) : Rw w' b o sz E n oa := fun i hi => by
  obtain ⟨h1, h2, h3⟩ := h i hi
  exact ⟨h1, Nat.lt_of_lt_of_le h2 k.size, fun j v hj => (World.cell?_of_block (w := w) (a := ⟨b, _, none⟩) (k.block b h2 (Ne.symm (hn i hi)))).trans (h3 j v hj)⟩
theorem own_keep {Z : Nat → Prop} {w w' : World} {B : Nat} {e : TypeId} {s : Nat} {v : Value} {n : Nat} {xs : List Value} (h : w.ownsRow B e s v n xs) (k : Keep Z w w') (hn : ∀ i, v.ownBlock = some i → ¬ Z i) : w'.ownsRow B e s v n xs := by
  refine ⟨h.1, ?_⟩
  rcases h.2 with h0 | ⟨g, cap, cur, rfl, hb, hg, rest⟩
  · exact .inl h0
  · exact .inr ⟨g, cap, cur, rfl, hb, by rw [k.block g (Array.getElem?_eq_some_iff.1 hg).1 (hn g rfl)]; exact hg, rest⟩
theorem own_below {w w' : World} {B : Nat} {e : TypeId} {s : Nat} {v : Value} {n : Nat} {xs : List Value} (h : w.ownsRow B e s v n xs) (k : Below w.heap.size w w') : w'.ownsRow B e s v n xs :=
  own_keep (Z := fun _ => False) h ⟨k.os, k.tape, k.output, k.size, fun i hi _ => k.block i hi⟩ fun _ _ => id
/-- one visit more: in the same block, or in a new one -/
theorem ap_e16 {B : Nat} {w : World} {v u : Value} {l m : List (Int × Bool)} (ty : TypeId) (hv : Gw B w v l) (hu : Lw w u m) (hm : m.length = 1) (hB : B ≤ w.heap.size) (hn : l.length ≤ 1000000) :
    ∃ v' w', (Builtin.append_ #[32, 32] ty #[v, u]).run Try.prog w = .ok v' w' ∧ Gw B w' v' (l ++ m) ∧
      ((v'.ownBlock = some w.heap.size ∧ Below w.heap.size w w') ∨ (∃ g cap, v = .slice (some ⟨g, 0, none⟩) l.length cap ∧ v' = .slice (some ⟨g, 0, none⟩) (l.length + 1) cap ∧ w.grownBy w' (some g))) := by
  obtain ⟨i, hi, hz, hs, hby⟩ := infoW
  obtain ⟨oa, c, rfl, hl, -⟩ := hu
  cases oa with
  | none => have := vs_nil hl; subst this; cases hm
  | some ad =>
    have hnews := vs_news hl
    have hf : (flat vE vA m).length = m.length * i.size := by rw [hs]; exact flat_len (E0 := vE) (E1 := vA) m
    have hf2 : (flat vE vA m).length = m.length * 2 := flat_len (E0 := vE) (E1 := vA) m
    have h0 := hv.own
    have hht := Try.underlying32
    have hll : (flat vE vA l).length = l.length * 2 := flat_len (E0 := vE) (E1 := vA) l
    have grow : ∀ old, old < l.length + m.length → Gw B (w.drew.alloc (.cells ((flat vE vA l).toArray ++ (flat vE vA m).toArray ++ Builtin.zeroCells (Value.agg #[.int .i64 0, .bool false]).cells (grownCap w (l.length + m.length) old 52 - (l.length + m.length))) 52)) (.slice (some ⟨w.heap.size, 0, none⟩) (l.length + m.length) (grownCap w (l.length + m.length) old 52)) (l ++ m) := by
      intro old ho
      have hge := grownCap_ge w (l.length + m.length) old 52
      have hcm := grownCap_le_maxLen w (l.length + m.length) old 52 (by unfold maxLen; omega)
      refine Gw.onto ⟨by rw [List.length_append, hll, hf, hs, Nat.add_mul], .inr ⟨w.heap.size, _, _, rfl, hB, heap_alloc_new w.drew _, hge, hcm, ?_, ?_⟩⟩
      · simp only [Array.size_append, List.size_toArray, size_zeroCells, hll, hf, hs]
        show _ + _ * 2 = _ * 2
        omega
      · simp only [Array.toList_append, List.append_assoc]
        have e : (l.length + m.length) * 2 = (flat vE vA l ++ flat vE vA m).length := by rw [List.length_append, hll, hf, hs]; omega
        rw [← List.append_assoc, e]
        exact List.take_left
    have hbel : ∀ o : Obj, Below w.heap.size w (w.drew.alloc o) := fun o => (below_drew (Below.refl _ w)).trans (below_alloc w.drew o)
    rcases h0.2 with ⟨rfl, hn0⟩ | ⟨g, cap, cur, rfl, hbg, hg, hnc, hcm, hcs, htake⟩
    · have hle : l = [] := List.eq_nil_of_length_eq_zero hn0
      subst hle
      have hr := run_append_nil (P := Try.prog) w 32 ty 52 i _ hht hi hz ad m.length c (flat vE vA m) hf hnews (by omega) (by omega) (by rw [hby]; omega)
      have hg := grow 0 (by simp; omega)
      simp only [List.length_nil, Nat.zero_add, List.nil_append] at hg ⊢
      have e0 : (flat vE vA ([] : List (Int × Bool))).toArray = #[] := rfl
      rw [e0, Array.empty_append] at hg
      exact ⟨_, _, hr, hg, .inl ⟨rfl, hbel _⟩⟩
    · by_cases hroom : l.length + m.length ≤ cap
      · have hr := run_append_room (P := Try.prog) w 32 ty 52 i hht hi g l.length cap cur hg ad m.length c (flat vE vA m) hf hnews (flatw_cells m) hroom (by rw [hf, hs, hcs]; omega)
        refine ⟨_, _, hr, Gw.onto ⟨by rw [List.length_append, hll, hf, hs, Nat.add_mul], .inr ⟨g, cap, _, rfl, hbg, setRow_heap w g cur _ _ _ hg, hroom, hcm, ?_, ?_⟩⟩, .inr ⟨g, cap, rfl, by rw [hm], grown_row _ _ _⟩⟩
        · simp only [hs, List.size_toArray, List.length_append, List.length_take, List.length_drop, Array.length_toList]
          omega
        · rw [hs, htake]
          have e : (l.length + m.length) * 2 = (flat vE vA l ++ flat vE vA m).length := by rw [List.length_append, hll, hf, hs]; omega
          rw [e]
          exact List.take_left
      · have holds : ∀ j u, (flat vE vA l)[j]? = some u → w.cell? ((⟨g, 0, none⟩ : Addr).add j) = some u := h0.cells (g := g) rfl
        have hr := run_append_grow (P := Try.prog) w 32 ty 52 i _ hht hi hz ⟨g, 0, none⟩ l.length cap (flat vE vA l) (by rw [hll, hs]) holds ad m.length c (flat vE vA m) hf hnews (by omega) (by omega) (by rw [hby]; exact growslice_fits (by omega) (by omega))
        exact ⟨_, _, hr, grow cap (by omega), .inl ⟨rfl, hbel _⟩⟩
theorem Gw.back {B : Nat} {w : World} {g cap : Nat} {l : List (Int × Bool)} {x : Int × Bool} (h : Gw B w (.slice (some ⟨g, 0, none⟩) (l.length + 1) cap) (l ++ [x])) : Gw B w (.slice (some ⟨g, 0, none⟩) l.length cap) l := by
  have h0 := h.own
  have hll : (flat vE vA l).length = l.length * 2 := flat_len (E0 := vE) (E1 := vA) l
  rcases h0.2 with ⟨hv, -⟩ | ⟨g', cap', cur, hv, hbg, hg, hnc, hcm, hcs, htake⟩
  · cases hv
  · simp only [Value.slice.injEq, Option.some.injEq, Addr.mk.injEq, and_true] at hv
    obtain ⟨rfl, -, rfl⟩ := hv
    refine (⟨hll, .inr ⟨g, cap, cur, rfl, hbg, hg, ?_, hcm, hcs, ?_⟩⟩ : w.ownsRow B _ 2 _ l.length (flat vE vA l))
    · rw [List.length_append] at hnc; simp only [List.length_singleton] at hnc; omega
    · rw [flat_snoc] at htake
      have h2 := congrArg (List.take (l.length * 2)) htake
      rw [List.take_take, List.length_append] at h2
      simp only [List.length_singleton] at h2
      rw [Nat.min_eq_left (by omega), ← hll, List.take_left] at h2
      rw [← hll]
      exact h2
end Go.Proofs.Ytoliacfpjhanlaa.T


/-! Found sequences; Clone (by gen_sp.py). -/
namespace Go.Proofs.Ytoliacfpjhanlaa.T
open Go.RowKit
set_option maxRecDepth 8000
attribute [local irreducible] wpList Code.wp wpAnyH

theorem gw_some {B : Nat} {w : World} {v : Value} {l : List (Int × Bool)} (h : Gw B w v l) (hl : 0 < l.length) : ∃ g cap, v = .slice (some ⟨g, 0, none⟩) l.length cap ∧ B ≤ g ∧ g < w.heap.size := by
  rcases h.2 with ⟨-, h0⟩ | ⟨g, cap, cur, rfl, hb, hg, -⟩
  · omega
  · exact ⟨g, cap, rfl, hb, (Array.getElem?_eq_some_iff.1 hg).1⟩
theorem gw_row {B : Nat} {w : World} {g cap : Nat} {l : List (Int × Bool)} (h : Gw B w (.slice (some ⟨g, 0, none⟩) l.length cap) l) : Rw w g 0 2 (vF l) l.length (some ⟨g, 0, none⟩) := by
  have hs : Vs w (.slice (some ⟨g, 0, none⟩) l.length cap) l := Gn.sl h
  obtain ⟨b, o, hr⟩ := hs.rw2
  intro k hk
  have h1 := hr.oa hk
  simp only [Option.some.injEq, Addr.mk.injEq, and_true] at h1
  obtain ⟨rfl, rfl⟩ := h1
  exact hr k hk
theorem gw_made {w : World} {q B : Nat} (hc : Cb w q #[] 52) (hB : B ≤ q) : Gw B w (.slice (some ⟨q, 0, none⟩) 0 0) [] :=
  (⟨rfl, .inr ⟨q, 0, #[], rfl, hB, hc, Nat.le_refl _, by unfold maxLen; omega, rfl, rfl⟩⟩ : w.ownsRow B _ 2 _ 0 [])
/-- u is a slice that holds L, at a block of its own -/
def ElR (w : World) (u : Value) (L : List (Int × Bool)) : Prop := ∃ b c, u = .slice (some ⟨b, 0, none⟩) L.length c ∧ Rw w b 0 2 (vF L) L.length (some ⟨b, 0, none⟩) ∧ b < w.heap.size
structure El (w : World) (vs : List Value) (f : List (List (Int × Bool))) : Prop where
  len : vs.length = f.length
  at_ : ∀ i, i < f.length → ElR w (vs.getD i undef) (f.getD i [])
theorem ElR.keep {Z : Nat → Prop} {w w' : World} {u : Value} {L : List (Int × Bool)} (h : ElR w u L) (k : Keep Z w w') (hn : ∀ b, u.ownBlock = some b → ¬ Z b) : ElR w' u L := by
  obtain ⟨b, c, rfl, hr, hb⟩ := h
  exact ⟨b, c, rfl, hr.keep k (fun _ _ => hn b rfl), Nat.lt_of_lt_of_le hb k.size⟩
theorem El.keep {Z : Nat → Prop} {w w' : World} {vs : List Value} {f : List (List (Int × Bool))} (h : El w vs f) (k : Keep Z w w') (hn : ∀ u ∈ vs, ∀ b, u.ownBlock = some b → ¬ Z b) : El w' vs f :=
  ⟨h.len, fun i hi => (h.at_ i hi).keep k (hn _ (getD_mem (by rw [h.len]; exact hi)))⟩
theorem El.below {w w' : World} {vs : List Value} {f : List (List (Int × Bool))} (h : El w vs f) (k : Below w.heap.size w w') : El w' vs f :=
  ⟨h.len, fun i hi => by
    obtain ⟨b, c, hu, hr, hb⟩ := h.at_ i hi
    exact ⟨b, c, hu, hr.below k, Nat.lt_of_lt_of_le hb k.size⟩⟩
theorem El.lt {w : World} {vs : List Value} {f : List (List (Int × Bool))} (h : El w vs f) {u : Value} (hu : u ∈ vs) {b : Nat} (hb : u.ownBlock = some b) : b < w.heap.size := by
  obtain ⟨i, hi, rfl⟩ := List.getElem_of_mem hu
  obtain ⟨b', c, hv, -, hl⟩ := h.at_ i (by rw [← h.len]; exact hi)
  rw [List.getD_eq_getElem?_getD, List.getElem?_eq_getElem hi] at hv
  simp only [Option.getD_some] at hv
  rw [hv] at hb
  simp only [Value.ownBlock, Option.some.injEq] at hb
  omega
theorem El.more {w : World} {vs : List Value} {f : List (List (Int × Bool))} {u : Value} {L : List (Int × Bool)} (h : El w vs f) (hu : ElR w u L) : El w (vs ++ [u]) (f ++ [L]) := by
  refine ⟨by rw [List.length_append, List.length_append, h.len]; rfl, fun i hi => ?_⟩
  rw [List.length_append] at hi
  simp only [List.length_singleton] at hi
  rw [List.getD_eq_getElem?_getD, List.getD_eq_getElem?_getD]
  by_cases hlt : i < f.length
  · rw [List.getElem?_append_left (by rw [h.len]; exact hlt), List.getElem?_append_left hlt, ← List.getD_eq_getElem?_getD, ← List.getD_eq_getElem?_getD]
    exact h.at_ i hlt
  · have e : i = f.length := by omega
    subst e
    rw [← h.len, List.getElem?_append_right (Nat.le_refl _), h.len, List.getElem?_append_right (Nat.le_refl _)]
    simpa using hu
/-- the search's own list of sequences -/
def Fo (B : Nat) (w : World) (fv : Value) (vs : List Value) : Prop := w.ownsRow B 32 1 fv vs.length vs
theorem infoV0 : (Try.prog.info? 32).map (fun i => (i.zero, i.size, i.bytes)) = some (some (.slice none 0 0), 1, 24) := by kernel_rfl
theorem ap_f16 {B : Nat} {w : World} {fv u : Value} {vs : List Value} {q : Nat} (ty : TypeId) (hv : Fo B w fv vs) (hc : Cb w q #[u] 32) (hu : u.oneCell' = true) (hB : B ≤ w.heap.size) (hn : vs.length ≤ 1000000) :
    ∃ v' w', (Builtin.append_ #[40, 40] ty #[fv, .slice (some ⟨q, 0, none⟩) 1 1]).run Try.prog w = .ok v' w' ∧ Fo B w' v' (vs ++ [u]) ∧ w.grownBy w' fv.ownBlock ∧ (v'.ownBlock = fv.ownBlock ∨ v'.ownBlock = some w.heap.size) := by
  obtain ⟨i, hi, hzz⟩ := Option.map_eq_some_iff.1 infoV0
  simp only [Prod.mk.injEq] at hzz
  obtain ⟨hz, hs, hby⟩ := hzz
  obtain ⟨v', w', hr, h2, h3, -, h5⟩ := run_append_own_at (P := Try.prog) w B 40 ty 32 i (.slice none 0 0) 1 24 Try.underlying40 hi hz hs hby rfl (by decide) fv vs.length vs hv ⟨q, 0, none⟩ 1 1 [u] rfl
    (fun j x hj => by
      match j, hj with
      | 0, hj => simp only [List.getElem?_cons_zero, Option.some.injEq] at hj; subst hj; exact hc.cell 0 rfl) (fun x hx => by rw [List.mem_singleton] at hx; rw [hx]; exact hu) (by unfold maxLen; omega) (by omega) hB
  refine ⟨v', w', hr, ?_, h3, h5⟩
  unfold Fo
  rw [List.length_append]
  exact h2
theorem cloneV_n (g cap : Nat) (l : List (Int × Bool)) (hl : 0 < l.length) (ll : l.length ≤ 1000000) (w : World) (hv : Rw w g 0 2 (vF l) l.length (some ⟨g, 0, none⟩)) : Calls Try.prog 40 #[.slice (some ⟨g, 0, none⟩) l.length cap] w fun e w' => ∃ u, e = .returned u ∧ ElR w' u l ∧ (∀ b, u.ownBlock = some b → w.heap.size ≤ b) ∧ Below w.heap.size w w' := by
  have HB : Below w.heap.size w w := Below.refl _ _
  refine sx_enter Try.func40 rfl [(0, .slice (some ⟨g, 0, none⟩) l.length cap)] (by kernel_rfl) ?_
  refine wp_seq ?_
  refine wp_region_lit ?_
  refine sx_val (by kernel_rfl) rfl rfl (.slice none 0 0) (by kernel_rfl) ?_
  refine wpList_nil ?_
  refine sx_norm ?_
  refine wp_seq ?_
  refine wp_seq ?_
  refine wp_region_lit ?_
  refine sx_val (by kernel_rfl) rfl rfl (.slice (some ⟨g, 0, none⟩) l.length cap) (by kernel_rfl) ?_
  refine sx_val (by kernel_rfl) rfl rfl (.bool false) (by kernel_rfl) ?_
  refine wpList_nil ?_
  refine sx_norm ?_
  refine sx_false (by kernel_rfl) ?_
  refine wp_skip ?_
  refine sx_norm ?_
  refine wp_seq ?_
  refine wp_region_lit ?_
  obtain ⟨W1, hW⟩ : ∃ W, w.alloc (.cells #[] 52) = W := ⟨_, rfl⟩
  have hb := hW ▸ below_alloc w (.cells #[] 52)
  have hq : Cb W1 w.heap.size #[] 52 := hW ▸ Cb.made w #[] 52
  refine sx_mem (by kernel_rfl) rfl rfl (.slice (some ⟨w.heap.size, 0, none⟩) 0 0) W1 (by rw [← hW]; kernel_rfl) ?_
  replace HB := over HB hb
  have z1 := hb.size
  have M2 := hq
  have yM2 := hq.lt
  clear hq hb hW
  refine sx_val (by kernel_rfl) rfl rfl (.slice (some ⟨g, 0, none⟩) l.length cap) (by kernel_rfl) ?_
  have hl9 : Lw W1 (.slice (some ⟨g, 0, none⟩) l.length cap) l := ⟨_, _, rfl, Sl.of_rw (hv.below HB), fun h => by cases h⟩
  obtain ⟨v5, W5, h5, hg5, hb, -, -⟩ := ap_w 32 (gw_made M2 (Nat.le_refl _)) hl9 (by omega) (by simp; omega)
  have hg6 : Gw w.heap.size W5 v5 l := hg5
  obtain ⟨b9, c9, rfl, hb9, hb8⟩ := gw_some hg6 hl
  have HB5 := HB.trans hb
  refine sx_mem (by kernel_rfl) rfl rfl (.slice (some ⟨b9, 0, none⟩) l.length c9) W5 (ex_append rfl (by kernel_rfl) (by kernel_rfl) h5) ?_
  refine sx_val (by kernel_rfl) rfl rfl (.slice (some ⟨b9, 0, none⟩) l.length c9) (by kernel_rfl) ?_
  refine wpList_nil ?_
  refine sx_norm ?_
  refine wp_ret ?_
  exact sx_ret1 (.slice (some ⟨b9, 0, none⟩) l.length c9) rfl rfl (by kernel_rfl) ⟨_, rfl, ⟨b9, c9, rfl, gw_row hg6, hb8⟩, (fun b hb => by simp only [Value.ownBlock, Option.some.injEq] at hb; omega), HB5⟩

end Go.Proofs.Ytoliacfpjhanlaa.T


