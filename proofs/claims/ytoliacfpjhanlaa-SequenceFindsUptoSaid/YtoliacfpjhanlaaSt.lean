/-
  DERIVED. St: a part of the base of layer 13 (made by pack.py).
-/
import Derived.Test.YtoliacfpjhanlaaHO
import Derived.Test.YtoliacfpjhanlaaSi
import Derived.Test.YtoliacfpjhanlaaGH
/-! The walk of All (by gen_st.py). -/
namespace Go.Proofs.Ytoliacfpjhanlaa.T
open Go.RowKit
set_option maxRecDepth 8000
attribute [local irreducible] wpList Code.wp wpAnyH

theorem gw_nil0 (B : Nat) (w : World) : Gw B w (.slice none 0 0) [] := Gw.nil B w
theorem fo_nil (B : Nat) (w : World) : Fo B w (.slice none 0 0) [] := ⟨rfl, .inl ⟨rfl, rfl⟩⟩
theorem el_nil (w : World) : El w [] [] := ⟨rfl, fun i hi => absurd hi (Nat.not_lt_zero i)⟩
theorem St.start {C : Sc} {x : WaT} {W : World} (hW : Cb W C.qW #[.int .i64 (x.W : Nat), .int .i64 (x.P : Nat), .int .i64 (x.D : Nat), .slice C.oA x.A.length C.cA] 74)
    (hA : Rw W C.bA C.pA 1 (nF x.A) x.A.length C.oA) (hE : Cb W C.qE #[C.ext] 76) (hF : Cb W C.qF #[.slice none 0 0] 40) (hB : C.B = W.heap.size) :
    St C x W (.slice none 0 0) [] (.slice none 0 0) [] W.heap.size (.slice none 0 0) (.slice none 0 0) [] [] W :=
  ⟨hW, hA, hE, hF, gw_nil0 _ _, fo_nil _ _, el_nil _, Keep.refl _ _, fun _ h => .inl h, fun u hu => (nomatch hu), fun _ h => (nomatch h), ⟨[], rfl, fun u hu => (nomatch hu)⟩, by omega, Nat.le_refl _, fun _ h => (nomatch h)⟩
theorem muB_63 (a : Nat) : muB a ≤ 63 := by
  unfold muB
  exact Nat.le_trans (List.length_filter_le ..) (by rw [List.length_range]; exact Nat.le_refl _)
def allF (z : Int) (ol : List OrT) (be : List (Int × Int)) : List (List (Int × Bool)) := extF (waysF z ol be) 127 [] (0, 0) []
def allE (z : Int) (ol : List OrT) (ap be : List (Int × Int)) : Int := if U.allowE ol.length (offF ol) ap be z = 0 then (if 8192 < (allF z ol be).length then 4 else 0) else if U.allowE ol.length (offF ol) ap be z = 2 then 2 else 0
/-- all sequences -/
def allS (z : Int) (ol : List OrT) (ap be : List (Int × Int)) : List (List (Int × Bool)) := if U.allowE ol.length (offF ol) ap be z = 0 ∧ (allF z ol be).length ≤ 8192 then allF z ol be else []
theorem Fo.base {B B' : Nat} {w : World} {fv : Value} {vs : List Value} (h : Fo B w fv vs) (hB : B' ≤ B) : Fo B' w fv vs := by
  refine ⟨h.1, ?_⟩
  rcases h.2 with h0 | ⟨g, cap, cur, rfl, hb, rest⟩
  · exact .inl h0
  · exact .inr ⟨g, cap, cur, rfl, Nat.le_trans hB hb, rest⟩
theorem ret_two {v : Value} {i j : Int} (h : i = j) : Ending.returned (.tuple #[v, .int .i64 j]) = .returned (.tuple #[v, .int .i64 i]) := by rw [h]
theorem all16_n (o0 o1 o2 o3 o4 o5 : Option Addr) (n0 n1 n2 c0 c1 c2 c3 c4 c5 : Nat) (ol : List OrT) (ap be : List (Int × Int)) (hn : ol.length ≤ 10) (hra : U.Rt ol.length ap) (hla : ap.length ≤ 1000) (hr : U.Rt ol.length be) (hl : be.length ≤ 1000) (z : Int) (hz : -9223372036854775808 ≤ z ∧ z ≤ 9223372036854775807) (w : World) (hos : Os w (.slice o3 ol.length c3) ol) (hpa : Ps w (.slice o4 ap.length c4) ap) (hps : Ps w (.slice o5 be.length c5) be) : Calls Try.prog 13 #[.agg #[.slice o0 n0 c0, .slice o1 n1 c1, .slice o2 n2 c2, .slice o3 ol.length c3, .slice o4 ap.length c4, .slice o5 be.length c5], .int .i64 z] w fun e w' => ∃ v vs, e = .returned (.tuple #[v, .int .i64 (allE z ol ap be)]) ∧ Fo w.heap.size w' v vs ∧ El w' vs (allS z ol ap be) ∧ Below w.heap.size w w' := by
  have HB : Below w.heap.size w w := Below.refl _ _
  refine sx_enter Try.func13 rfl [(0, .agg #[.slice o0 n0 c0, .slice o1 n1 c1, .slice o2 n2 c2, .slice o3 ol.length c3, .slice o4 ap.length c4, .slice o5 be.length c5]), (1, .int .i64 z)] (by kernel_rfl) ?_
  refine wp_seq ?_
  refine wp_region_lit ?_
  obtain ⟨W1, hW⟩ : ∃ W, w.alloc (.cells #[.slice o0 n0 c0, .slice o1 n1 c1, .slice o2 n2 c2, .slice o3 ol.length c3, .slice o4 ap.length c4, .slice o5 be.length c5] 30) = W := ⟨_, rfl⟩
  have hb := hW ▸ below_alloc w (.cells #[.slice o0 n0 c0, .slice o1 n1 c1, .slice o2 n2 c2, .slice o3 ol.length c3, .slice o4 ap.length c4, .slice o5 be.length c5] 30)
  have hq : Cb W1 w.heap.size #[.slice o0 n0 c0, .slice o1 n1 c1, .slice o2 n2 c2, .slice o3 ol.length c3, .slice o4 ap.length c4, .slice o5 be.length c5] 30 := hW ▸ Cb.made w #[.slice o0 n0 c0, .slice o1 n1 c1, .slice o2 n2 c2, .slice o3 ol.length c3, .slice o4 ap.length c4, .slice o5 be.length c5] 30
  refine sx_mem (by kernel_rfl) rfl rfl (.pointer (some ⟨w.heap.size, 0, none⟩)) W1 (by rw [← hW]; kernel_rfl) ?_
  replace HB := over HB hb
  have z1 := hb.size
  have M2 := hq
  have yM2 := hq.lt
  clear hq hb hW
  refine sx_val (by kernel_rfl) rfl rfl (.slice none 0 0) (by kernel_rfl) ?_
  refine sx_val (by kernel_rfl) rfl rfl (.int .i64 0) (by kernel_rfl) ?_
  refine wpList_nil ?_
  refine sx_norm ?_
  refine wp_seq ?_
  refine wp_seq ?_
  refine wp_region_lit ?_
  refine sx_val (by kernel_rfl) rfl rfl (.agg #[.slice o0 n0 c0, .slice o1 n1 c1, .slice o2 n2 c2, .slice o3 ol.length c3, .slice o4 ap.length c4, .slice o5 be.length c5]) (ex_load rfl M2 (by kernel_rfl) Try.underlying30 rfl (by kernel_rfl)) ?_
  refine sx_val (by kernel_rfl) rfl rfl (.int .i64 z) (by kernel_rfl) ?_
  refine sx_call (by kernel_rfl) rfl rfl (allowedT_n o0 o1 o2 o3 o4 o5 n0 n1 n2 ol.length c0 c1 c2 c3 c4 c5 (offF ol) ap be z hz hn hra hr hla hl W1 (hos.below HB).ofs (hpa.below HB) (hps.below HB)) (by kernel_rfl) ?_
  rintro e W3 ⟨rfl, hb⟩
  replace HB := over HB hb
  replace M2 := M2.below hb
  have z2 := hb.size
  clear hb
  refine ⟨_, rfl, ?_⟩
  refine wpList_nil ?_
  refine sx_norm ?_
  refine wp_block ?_
  refine wp_seq ?_
  refine wp_region_lit ?_
  by_cases C1 : (U.allowE ol.length (offF ol) ap be z) = 0
  · refine sx_bool (by kernel_rfl) rfl rfl (((U.allowE ol.length (offF ol) ap be z) : Int) == (0 : Int)) true (by kernel_rfl) (beq_iff_eq.2 (by omega)) ?_
    refine sx_val (by kernel_rfl) rfl rfl (.bool true) (by kernel_rfl) ?_
    refine wpList_nil ?_
    refine sx_norm ?_
    refine sx_true (by kernel_rfl) ?_
    refine wp_skip ?_
    refine sx_in ?_
    refine sx_norm ?_
    refine wp_seq ?_
    refine wp_region_lit ?_
    refine sx_val (by kernel_rfl) rfl rfl (.agg #[.slice o0 n0 c0, .slice o1 n1 c1, .slice o2 n2 c2, .slice o3 ol.length c3, .slice o4 ap.length c4, .slice o5 be.length c5]) (ex_load rfl M2 (by kernel_rfl) Try.underlying30 rfl (by kernel_rfl)) ?_
    refine sx_val (by kernel_rfl) rfl rfl (.int .i64 z) (by kernel_rfl) ?_
    refine sx_call (by kernel_rfl) rfl rfl (waysOf_n o0 o1 o2 o3 o4 o5 n0 n1 n2 ap.length c0 c1 c2 c3 c4 c5 ol be hn hr (by omega) W3 (hos.below HB) (hps.below HB) z) (by kernel_rfl) ?_
    rintro e W4 ⟨oa8, c8, b8, q8, rfl, hA8, hb⟩
    replace HB := over HB hb
    replace M2 := M2.below hb
    have z3 := hb.size
    clear hb
    refine ⟨_, rfl, ?_⟩
    have hzA : ∀ k, k < (waysF z ol be).A.length → b8 < W4.heap.size := fun k hk => hA8.lt hk
    obtain ⟨W6, hW⟩ : ∃ W, (W4.alloc (.cells #[.int .i64 0, .int .i64 0, .int .i64 0, .slice none 0 0] 74)).setRow W4.heap.size #[.int .i64 (((waysF z ol be).W : Nat) : Int), .int .i64 (((waysF z ol be).P : Nat) : Int), .int .i64 (((waysF z ol be).D : Nat) : Int), .slice oa8 (waysF z ol be).A.length c8] = W := ⟨_, rfl⟩
    have hb := hW ▸ below_var W4 (.cells #[.int .i64 0, .int .i64 0, .int .i64 0, .slice none 0 0] 74) #[.int .i64 (((waysF z ol be).W : Nat) : Int), .int .i64 (((waysF z ol be).P : Nat) : Int), .int .i64 (((waysF z ol be).D : Nat) : Int), .slice oa8 (waysF z ol be).A.length c8]
    have hq : Cb W6 W4.heap.size #[.int .i64 (((waysF z ol be).W : Nat) : Int), .int .i64 (((waysF z ol be).P : Nat) : Int), .int .i64 (((waysF z ol be).D : Nat) : Int), .slice oa8 (waysF z ol be).A.length c8] 74 := hW ▸ Cb.row (Cb.made W4 #[.int .i64 0, .int .i64 0, .int .i64 0, .slice none 0 0] 74) _
    refine sx_mem (by kernel_rfl) rfl rfl (.pointer (some ⟨W4.heap.size, 0, none⟩)) (W4.alloc (.cells #[.int .i64 0, .int .i64 0, .int .i64 0, .slice none 0 0] 74)) (by kernel_rfl) ?_
    refine sx_store (cells := #[.int .i64 (((waysF z ol be).W : Nat) : Int), .int .i64 (((waysF z ol be).P : Nat) : Int), .int .i64 (((waysF z ol be).D : Nat) : Int), .slice oa8 (waysF z ol be).A.length c8]) (by kernel_rfl) rfl rfl (Cb.made W4 #[.int .i64 0, .int .i64 0, .int .i64 0, .slice none 0 0] 74) (by kernel_rfl) (by kernel_rfl) (by kernel_rfl) (by kernel_rfl) (by kernel_rfl) ?_
    rw [hW]
    replace HB := over HB hb
    replace M2 := M2.below hb
    replace hA8 := hA8.below hb
    have z4 := hb.size
    have M5 := hq
    have yM5 := hq.lt
    clear hq hb hW
    refine wpList_nil ?_
    refine sx_norm ?_
    refine wp_seq ?_
    refine wp_region_lit ?_
    obtain ⟨W7, hW⟩ : ∃ W, W6.alloc (.cells #[.slice none 0 0] 40) = W := ⟨_, rfl⟩
    have hb := hW ▸ below_alloc W6 (.cells #[.slice none 0 0] 40)
    have hq : Cb W7 W6.heap.size #[.slice none 0 0] 40 := hW ▸ Cb.made W6 #[.slice none 0 0] 40
    refine sx_mem (by kernel_rfl) rfl rfl (.pointer (some ⟨W6.heap.size, 0, none⟩)) W7 (by rw [← hW]; kernel_rfl) ?_
    replace HB := over HB hb
    replace M2 := M2.below hb
    replace hA8 := hA8.below hb
    replace M5 := M5.below hb
    have z5 := hb.size
    have M8 := hq
    have yM8 := hq.lt
    clear hq hb hW
    refine wpList_nil ?_
    refine sx_norm ?_
    refine wp_seq ?_
    refine wp_region_lit ?_
    obtain ⟨W9, hW⟩ : ∃ W, W7.alloc (.cells #[.nilFunc] 76) = W := ⟨_, rfl⟩
    have hb := hW ▸ below_alloc W7 (.cells #[.nilFunc] 76)
    have hq : Cb W9 W7.heap.size #[.nilFunc] 76 := hW ▸ Cb.made W7 #[.nilFunc] 76
    refine sx_mem (by kernel_rfl) rfl rfl (.pointer (some ⟨W7.heap.size, 0, none⟩)) W9 (by rw [← hW]; kernel_rfl) ?_
    replace HB := over HB hb
    replace M2 := M2.below hb
    replace hA8 := hA8.below hb
    replace M5 := M5.below hb
    replace M8 := M8.below hb
    have z6 := hb.size
    have M10 := hq
    have yM10 := hq.lt
    clear hq hb hW
    refine wpList_nil ?_
    refine sx_norm ?_
    refine wp_seq ?_
    refine wp_region_lit ?_
    refine sx_val (by kernel_rfl) rfl rfl (.func (.func 38) #[] #[.pointer (some ⟨W4.heap.size, 0, none⟩), .pointer (some ⟨W6.heap.size, 0, none⟩), .pointer (some ⟨W7.heap.size, 0, none⟩)]) (by kernel_rfl) ?_
    refine sx_do (by kernel_rfl) rfl _ (ex_storeC (k := 0) (old := .nilFunc) (v := .func (.func 38) #[] #[.pointer (some ⟨W4.heap.size, 0, none⟩), .pointer (some ⟨W6.heap.size, 0, none⟩), .pointer (some ⟨W7.heap.size, 0, none⟩)]) rfl M10 (by kernel_rfl) (by kernel_rfl) (by kernel_rfl) (by kernel_rfl) (by kernel_rfl)) ?_
    obtain ⟨W11, hW⟩ : ∃ W, W9.setCell ⟨W7.heap.size, 0, none⟩ (.func (.func 38) #[] #[.pointer (some ⟨W4.heap.size, 0, none⟩), .pointer (some ⟨W6.heap.size, 0, none⟩), .pointer (some ⟨W7.heap.size, 0, none⟩)]) = W := ⟨_, rfl⟩
    have hg : W9.grownBy W11 (some (W7.heap.size)) := hW ▸ grown_set _ _ _ _
    have hq : Cb W11 (W7.heap.size) #[.func (.func 38) #[] #[.pointer (some ⟨W4.heap.size, 0, none⟩), .pointer (some ⟨W6.heap.size, 0, none⟩), .pointer (some ⟨W7.heap.size, 0, none⟩)]] 76 := hW ▸ M10.set 0 (.func (.func 38) #[] #[.pointer (some ⟨W4.heap.size, 0, none⟩), .pointer (some ⟨W6.heap.size, 0, none⟩), .pointer (some ⟨W7.heap.size, 0, none⟩)])
    rw [hW]
    replace HB := HB.grown hg (by omega) (fun x e => by simp only [Option.some.injEq] at e; omega)
    replace M2 := M2.kept hg (by omega)
    replace hA8 := hA8.kept hg (fun k hk => by have h8 := hzA k hk; omega)
    replace M5 := M5.kept hg (by omega)
    replace M8 := M8.kept hg (by omega)
    have z7 := hg.size
    replace M10 := hq
    clear hq hg hW
    refine wpList_nil ?_
    refine sx_norm ?_
    refine wp_seq ?_
    refine wp_region_lit ?_
    refine sx_val (by kernel_rfl) rfl rfl (.func (.func 38) #[] #[.pointer (some ⟨W4.heap.size, 0, none⟩), .pointer (some ⟨W6.heap.size, 0, none⟩), .pointer (some ⟨W7.heap.size, 0, none⟩)]) (ex_load1 rfl (M10.cell 0 rfl) (by kernel_rfl) Try.underlying76 rfl) ?_
    refine sx_val (by kernel_rfl) rfl rfl (.agg #[.int .i64 0, .int .i64 0]) (by kernel_rfl) ?_
    obtain ⟨C9, hC⟩ : ∃ C : Sc, C = ⟨W11.heap.size, W4.heap.size, W6.heap.size, W7.heap.size, oa8, c8, b8, q8⟩ := ⟨_, rfl⟩
    have cW : C9.qW = W4.heap.size := by rw [hC]
    have cF : C9.qF = W6.heap.size := by rw [hC]
    have cE : C9.qE = W7.heap.size := by rw [hC]
    have cB : C9.B = W11.heap.size := by rw [hC]
    have cb : C9.bA = b8 := by rw [hC]
    have lw := M5.lt
    have lf := M8.lt
    have le := M10.lt
    have ok : C9.Ok (waysF z ol be) := ⟨by omega, by omega, by omega, by omega, by omega, fun k hk => by have h8 := hzA k hk; omega⟩
    have ST : St C9 (waysF z ol be) W11 (.slice none 0 0) [] (.slice none 0 0) [] W11.heap.size (.slice none 0 0) (.slice none 0 0) [] [] W11 := by
      subst hC
      exact St.start M5 hA8 M10 M8 rfl
    have KX := extend_n C9 (waysF z ol be) (ways_b (by omega) hr) ok 127 [] (0, 0) none 0 (.slice none 0 0) [] [] W11 (by unfold WaT.mu; have h8 := muB_63 (U.minus (waysF z ol be).P (0, 0).1); have h9 := muB_63 (U.minus (waysF z ol be).D (0, 0).2); omega) ⟨by decide, by decide⟩ (by decide) (by decide) ST
    rw [cW, cF, cE] at KX
    refine sx_call (by kernel_rfl) rfl rfl KX (by kernel_rfl) ?_
    rintro e W12 ⟨rfl, hep⟩
    obtain ⟨fv9, vs9, HQ0, hf9, hel9, hfo9, -, hne9⟩ := hep.ex
    have HQ : Cb W12 (W6.heap.size) #[fv9] 40 := cF ▸ HQ0
    have hk9 := hep.hk
    have hb : Below w.heap.size W11 W12 := ⟨hk9.os, hk9.tape, hk9.output, hk9.size, fun k hk => hk9.block k (by omega) (by rintro (h8 | h8 | h8); omega; exact (nomatch h8); exact (nomatch h8))⟩
    obtain ⟨of9, cf9, hfv9⟩ := Fo.form hf9
    subst hfv9
    have hvl9 := hel9.len
    have e9 : vs9.length = (allF z ol be).length := hvl9
    have hlen9 : (allF z ol be).length ≤ 8193 := extF_len _ _ _ _ _ (by decide)
    replace HB := HB.trans (hb.mono (by omega))
    have z8 := hb.size
    clear hb KX ST HQ0 hep
    refine ⟨_, rfl, ?_⟩
    refine wpList_nil ?_
    refine sx_norm ?_
    refine wp_seq ?_
    refine wp_seq ?_
    refine wp_region_lit ?_
    refine sx_val (by kernel_rfl) rfl rfl (.slice of9 vs9.length cf9) (ex_load1 rfl (HQ.cell 0 rfl) (by kernel_rfl) Try.underlying40 rfl) ?_
    refine sx_val (by kernel_rfl) rfl rfl (.int .i64 ((vs9.length : Nat) : Int)) (by kernel_rfl) ?_
    by_cases C2 : vs9.length > 8192
    · refine sx_bool (by kernel_rfl) rfl rfl (decide (((vs9.length : Nat) : Int) > 8192)) true (by kernel_rfl) (decide_eq_true (by omega)) ?_
      refine wpList_nil ?_
      refine sx_norm ?_
      refine sx_true (by kernel_rfl) ?_
      refine wp_seq ?_
      refine wp_region_lit ?_
      refine sx_val (by kernel_rfl) rfl rfl (.slice none 0 0) (by kernel_rfl) ?_
      refine sx_val (by kernel_rfl) rfl rfl (.int .i64 4) (by kernel_rfl) ?_
      refine wpList_nil ?_
      refine sx_norm ?_
      refine wp_ret ?_
      refine sx_rs ?_
      refine sx_ret2 (.slice none 0 0) (.int .i64 4) rfl rfl rfl (by kernel_rfl) (by kernel_rfl) ⟨_, [], ret_two (i := allE z ol ap be) ?_, fo_nil _ _, ?_, HB⟩
      · unfold allE
        rw [if_pos (by assumption), if_pos (by omega)]
      · unfold allS
        rw [if_neg (by omega)]
        exact el_nil _
    refine sx_bool (by kernel_rfl) rfl rfl (decide (((vs9.length : Nat) : Int) > 8192)) false (by kernel_rfl) (decide_eq_false (by omega)) ?_
    refine wpList_nil ?_
    refine sx_norm ?_
    refine sx_false (by kernel_rfl) ?_
    refine wp_skip ?_
    refine sx_norm ?_
    refine wp_seq ?_
    refine wp_region_lit ?_
    refine sx_val (by kernel_rfl) rfl rfl (.slice of9 vs9.length cf9) (ex_load1 rfl (HQ.cell 0 rfl) (by kernel_rfl) Try.underlying40 rfl) ?_
    refine sx_val (by kernel_rfl) rfl rfl (.slice of9 vs9.length cf9) (by kernel_rfl) ?_
    refine sx_val (by kernel_rfl) rfl rfl (.int .i64 0) (by kernel_rfl) ?_
    refine wpList_nil ?_
    refine sx_norm ?_
    refine wp_ret ?_
    refine sx_ret2 (.slice of9 vs9.length cf9) (.int .i64 0) rfl rfl rfl (by kernel_rfl) (by kernel_rfl) ⟨_, vs9, ret_two (i := allE z ol ap be) ?_, Fo.base hf9 (by omega), ?_, HB⟩
    · unfold allE
      rw [if_pos (by assumption), if_neg (by omega)]
    · unfold allS
      rw [if_pos ⟨by assumption, by omega⟩]
      exact hel9
  refine sx_bool (by kernel_rfl) rfl rfl (((U.allowE ol.length (offF ol) ap be z) : Int) == (0 : Int)) false (by kernel_rfl) (beq_eq_false_iff_ne.2 (by omega)) ?_
  refine sx_val (by kernel_rfl) rfl rfl (.bool false) (by kernel_rfl) ?_
  refine wpList_nil ?_
  refine sx_norm ?_
  refine sx_false (by kernel_rfl) ?_
  refine wp_seq ?_
  refine wp_region_lit ?_
  by_cases C3 : (U.allowE ol.length (offF ol) ap be z) = 2
  · refine sx_bool (by kernel_rfl) rfl rfl (((U.allowE ol.length (offF ol) ap be z) : Int) == (2 : Int)) true (by kernel_rfl) (beq_iff_eq.2 (by omega)) ?_
    refine sx_val (by kernel_rfl) rfl rfl (.bool true) (by kernel_rfl) ?_
    refine wpList_nil ?_
    refine sx_norm ?_
    refine sx_true (by kernel_rfl) ?_
    refine wp_seq ?_
    refine wp_region_lit ?_
    refine sx_val (by kernel_rfl) rfl rfl (.slice none 0 0) (by kernel_rfl) ?_
    refine sx_val (by kernel_rfl) rfl rfl (.int .i64 2) (by kernel_rfl) ?_
    refine wpList_nil ?_
    refine sx_norm ?_
    refine wp_ret ?_
    refine sx_rb ?_
    refine sx_rs ?_
    refine sx_ret2 (.slice none 0 0) (.int .i64 2) rfl rfl rfl (by kernel_rfl) (by kernel_rfl) ⟨_, [], ret_two (i := allE z ol ap be) ?_, fo_nil _ _, ?_, HB⟩
    · unfold allE
      rw [if_neg (by assumption), if_pos (by assumption)]
    · unfold allS
      rw [if_neg (fun h8 => absurd h8.1 (by assumption))]
      exact el_nil _
  refine sx_bool (by kernel_rfl) rfl rfl (((U.allowE ol.length (offF ol) ap be z) : Int) == (2 : Int)) false (by kernel_rfl) (beq_eq_false_iff_ne.2 (by omega)) ?_
  refine sx_val (by kernel_rfl) rfl rfl (.bool false) (by kernel_rfl) ?_
  refine wpList_nil ?_
  refine sx_norm ?_
  refine sx_false (by kernel_rfl) ?_
  refine wp_seq ?_
  refine wp_region_lit ?_
  refine sx_val (by kernel_rfl) rfl rfl (.slice none 0 0) (by kernel_rfl) ?_
  refine sx_val (by kernel_rfl) rfl rfl (.int .i64 0) (by kernel_rfl) ?_
  refine wpList_nil ?_
  refine sx_norm ?_
  refine wp_ret ?_
  refine sx_rb ?_
  refine sx_rs ?_
  refine sx_ret2 (.slice none 0 0) (.int .i64 0) rfl rfl rfl (by kernel_rfl) (by kernel_rfl) ⟨_, [], ret_two (i := allE z ol ap be) ?_, fo_nil _ _, ?_, HB⟩
  · unfold allE
    rw [if_neg (by assumption), if_neg (by assumption)]
  · unfold allS
    rw [if_neg (fun h8 => absurd h8.1 (by assumption))]
    exact el_nil _

end Go.Proofs.Ytoliacfpjhanlaa.T


