/-
  DERIVED. Ff: a part of the base of layer 13 (made by pack.py).
-/
import Derived.Test.YtnapmildbodigaaDoorGA
import Derived.Test.YtnapmildbodigaaDoorFd
import Derived.Test.YtnapmildbodigaaDoorFe
/-! The specification of schedules: Rests, check, Since, Valid (by gen_ff.py). -/
namespace Go.Proofs.YtnapmildbodigaaDoor.T
open Go.RowKit
set_option maxRecDepth 8000
attribute [local irreducible] wpList Code.wp wpAnyH

theorem Ol.one {B : Nat} {w : World} {q : Nat} {r : Bool} (hc : Cb w q #[.bool r] 4) (hB : B ≤ q) : Ol boE 4 1 B w (.slice (some ⟨q, 0, none⟩) 1 1) [r] :=
 (⟨rfl, .inr ⟨q, 1, #[.bool r], rfl, hB, hc, Nat.le_refl _, by unfold maxLen; omega, rfl, by simp [boE]⟩⟩ : w.ownsRow B 4 1 _ 1 _)
theorem refRests_n (S : ShT) (oS : Option Addr) (cS bS qS : Nat) (lS : S.T.length ≤ 300000) (w : World) (hT : Rw w bS qS 4 (fun k => tmE (S.T.getD k tm0)) S.T.length oS) : Calls Tryd.prog 49 #[.agg #[.bool S.r, .int .i64 S.d, .slice oS S.T.length cS, .int .i64 S.e, .int .i64 S.m]] w fun e w' => ∃ o9 c9 b9 q9, e = .returned (.slice o9 S.rts.length c9) ∧ Rw w' b9 q9 1 (bF S.rts) S.rts.length o9 ∧ Below w.heap.size w w' := by
 have HB : Below w.heap.size w w := Below.refl _ _
 refine sx_enter Tryd.func49 rfl [(0, .agg #[.bool S.r, .int .i64 S.d, .slice oS S.T.length cS, .int .i64 S.e, .int .i64 S.m])] (by kernel_rfl) ?_
 refine wp_seq ?_
 refine wp_region_lit ?_
 obtain ⟨W1, hW, hb, hq⟩ := laidA w #[.bool S.r, .int .i64 S.d, .slice oS S.T.length cS, .int .i64 S.e, .int .i64 S.m] 39
 refine sx_mem (by kernel_rfl) rfl rfl (.pointer (some ⟨w.heap.size, 0, none⟩)) W1 (by rw [← hW]; kernel_rfl) ?_
 replace HB := over HB hb
 have z1 := hb.size
 have M2 := hq
 have yM2 := hq.lt
 clear hq hb hW
 refine Zv rfl (.slice none 0 0) ?_
 refine wpList_nil ?_
 refine sx_norm ?_
 refine wp_seq ?_
 refine wp_region_lit ?_
 refine Zv rfl (.pointer (some ⟨w.heap.size, 0, none⟩)) ?_
 refine Zw rfl (.bool S.r) (el (M2.cell 0 rfl) Tryd.underlying4) ?_
 obtain ⟨W3, hW, hb, hq⟩ := laidA W1 #[.bool S.r] 4
 refine sx_mem (by kernel_rfl) rfl rfl (.slice (some ⟨W1.heap.size, 0, none⟩) 1 1) W3 (by rw [← hW]; kernel_rfl) ?_
 replace HB := over HB hb
 replace M2 := M2.below hb
 have z2 := hb.size
 have M4 := hq
 have yM4 := hq.lt
 clear hq hb hW
 refine Zv rfl (.slice (some ⟨W1.heap.size, 0, none⟩) 1 1) ?_
 refine wpList_nil ?_
 refine sx_norm ?_
 refine wp_seq ?_
 refine wp_seq ?_
 have HG : Ol boE 4 1 W1.heap.size W3 (.slice (some ⟨W1.heap.size, 0, none⟩) 1 1) [S.r] := Ol.one M4 (by omega)
 have hG0 : rtsK S 0 = [S.r] := by unfold rtsK; rw [List.take_zero]; rfl
 rw [← hG0] at HG
 refine wp_region_lit ?_
 refine Zv rfl (.int .i64 0) ?_
 refine wpList_nil ?_
 refine sx_norm ?_
 refine wp_block ?_
 refine sx_loop (fun x9 : Nat × Value => [(0, .agg #[.bool S.r, .int .i64 S.d, .slice oS S.T.length cS, .int .i64 S.e, .int .i64 S.m]), (1, .pointer (some ⟨w.heap.size, 0, none⟩)), (2, .slice none 0 0), (3, x9.2), (4, .int .i64 ((x9.1 : Nat) : Int)), (5, .pointer (some ⟨w.heap.size, 0, none⟩)), (6, .bool S.r), (7, .slice (some ⟨W1.heap.size, 0, none⟩) 1 1)]) (fun gg x9 wr => x9.1 ≤ S.T.length ∧ S.T.length - x9.1 ≤ gg ∧ Ol boE 4 1 W1.heap.size wr x9.2 (rtsK S x9.1) ∧ Below W1.heap.size W3 wr) (S.T.length) ((0, .slice (some ⟨W1.heap.size, 0, none⟩) 1 1)) (by kernel_rfl) ⟨Nat.zero_le _, Nat.le_refl _, HG, Below.refl _ _⟩ ?_
 rintro gg ⟨i, v3⟩ g' wr5 ⟨hi, hg, HG, hbl⟩
 dsimp only at hi hg HG hbl
 replace HB := HB.trans (hbl.mono (by omega))
 replace M2 := M2.belowB (by omega) hbl
 have z3 := hbl.size
 have HL := hbl
 clear hbl
 refine wp_seq ?_
 refine wp_seq ?_
 refine wp_region_lit ?_
 refine Zv rfl (.int .i64 ((i : Nat) : Int)) ?_
 refine Zv rfl (.pointer (some ⟨w.heap.size, 2, none⟩)) ?_
 refine Zw rfl (.slice oS S.T.length cS) (el (M2.cell 2 rfl) Tryd.underlying37) ?_
 refine Zv rfl (.int .i64 ((S.T.length : Nat) : Int)) ?_
 by_cases C1 : i < S.T.length
 ·refine Zb rfl (decide (((i : Nat) : Int) < ((S.T.length : Nat) : Int))) true (decide_eq_true (by omega)) ?_
  refine wpList_nil ?_
  refine sx_norm ?_
  refine sx_true (by kernel_rfl) ?_
  refine wp_skip ?_
  refine sx_norm ?_
  refine wp_seq ?_
  refine wp_block ?_
  refine wp_region_lit ?_
  refine Zv rfl (v3) ?_
  refine Zv rfl (.pointer (some ⟨w.heap.size, 2, none⟩)) ?_
  refine Zw rfl (.slice oS S.T.length cS) (el (M2.cell 2 rfl) Tryd.underlying37) ?_
  refine Zv rfl (.int .i64 ((i : Nat) : Int)) ?_
  refine Zw rfl (.pointer (some ⟨bS, qS + i * 4, none⟩)) (ex_indexO (q := qS) (m := S.T.length) (c := cS) (k := i) (s := 4) rfl (by kernel_rfl) ((hT.below HB).oa (k := i) (by omega)) (by kernel_rfl) Tryd.underlying37 (by kernel_rfl) (by omega) (by omega)) ?_
  refine Zv rfl (.pointer (some ⟨bS, qS + i * 4 + 3, none⟩)) ?_
  refine Zw rfl (.bool (S.T.getD i tm0).r) (el ((hT.below HB).cell (k := i) (by omega) 3 rfl) Tryd.underlying4) ?_
  obtain ⟨W6, hW, hb, hq⟩ := laidA wr5 #[.bool (S.T.getD i tm0).r] 4
  refine sx_mem (by kernel_rfl) rfl rfl (.slice (some ⟨wr5.heap.size, 0, none⟩) 1 1) W6 (by rw [← hW]; kernel_rfl) ?_
  replace HB := over HB hb
  replace M2 := M2.below hb
  replace HL := HL.trans (hb.mono (by omega))
  replace HG := HG.below hb
  have z4 := hb.size
  have M7 := hq
  have yM7 := hq.lt
  clear hq hb hW
  obtain ⟨v9, W8, h9, hg9, hb, -, -⟩ := ap_o (P := Tryd.prog) (t := 31) (ty := 31) (z := .bool false) (bytes := 1) (x := ((S.T.getD i tm0).r : Bool)) boRow Tryd.underlying31 (by kernel_rfl) rfl (by decide) (by decide) HG M7 rfl (by omega) (by rw [rtsK_len (by omega)]; omega)
  refine sx_mem (by kernel_rfl) rfl rfl v9 W8 (ex_append rfl (by kernel_rfl) (by kernel_rfl) h9) ?_
  replace HB := HB.trans (hb.mono (by omega))
  replace M2 := M2.belowB (by omega) hb
  replace HL := HL.trans (hb.mono (by omega))
  have z5 := hb.size
  have HG := hg9
  clear hg9 hb h9
  refine Zv rfl (v9) ?_
  refine wpList_nil ?_
  refine sx_in ?_
  refine sx_norm ?_
  refine wp_region_lit ?_
  refine Zv rfl (.int .i64 ((i : Nat) : Int)) ?_
  refine sx_int (by kernel_rfl) rfl rfl .i64 (IntKind.i64.wrap (((i : Nat) : Int) + 1)) (((i + 1 : Nat) : Int)) (by kernel_rfl) (by rw [IntKind.wrap_i64]; omega) ?_
  refine Zv rfl (.int .i64 ((i + 1 : Nat) : Int)) ?_
  refine wpList_nil ?_
  refine sx_norm ?_
  exact sx_again (S.T.length - (i + 1)) (i + 1, v9) (by omega) (by kernel_rfl) ⟨by show i + 1 ≤ _; omega, Nat.le_refl _, by show Ol boE _ 1 _ _ _ (rtsK S (i + 1)); rw [rtsK_more (by omega)]; exact HG, HL⟩
 refine Zb rfl (decide (((i : Nat) : Int) < ((S.T.length : Nat) : Int))) false (decide_eq_false (by omega)) ?_
 refine wpList_nil ?_
 refine sx_norm ?_
 refine sx_false (by kernel_rfl) ?_
 refine wp_exit ?_
 refine sx_es ?_
 refine sx_es ?_
 refine sx_out ?_
 refine sx_norm ?_
 refine wp_seq ?_
 refine wp_region_lit ?_
 refine Zv rfl (v3) ?_
 refine Zv rfl (v3) ?_
 refine wpList_nil ?_
 refine sx_norm ?_
 refine wp_ret ?_
 have hi9 : i = S.T.length := by omega
 subst hi9
 rw [rtsK_all] at HG
 obtain ⟨o9, c9, rfl⟩ := Ol.form HG
 obtain ⟨b9, q9, hr9⟩ := Ol.rw boRow false HG
 refine sx_ret1 (.slice o9 S.rts.length c9) rfl rfl (by kernel_rfl) ⟨o9, c9, b9, q9, rfl, hr9, HB⟩
theorem chk_ref {x : InT} {ty st : Int} {l : List (Int × Bool)} {F : List Bool} {S : ShT} (h1 : posD x.tl x.ol ty st l = true) (h2 : F.length ≤ l.length + 1) (h3 : S.T.length = l.length) (h4 : ∀ i, i < F.length → F.getD i false = S.rts.getD i false) : chkE x ty st l F S = (if runE x ty st l S.rts = 0 then (if S = runS x ty st l S.rts then 0 else 9) else runE x ty st l S.rts) ∧ sinS x ty st l F S = (if chkE x ty st l F S = 0 then runD x ty st l S.rts else []) := by
 have hl : S.rts.length = l.length + 1 := by rw [rts_len, h3]
 have hF : S.rts.take F.length = F := ext_getD (d := false) (by rw [List.length_take]; omega) (fun i hi => by
  rw [List.length_take] at hi
  rw [h4 i (by omega), List.getD_eq_getElem?_getD, List.getD_eq_getElem?_getD, List.getElem?_take_of_lt (by omega)])
 have hr := runE_yes (R := S.rts) h1 hl
 have hA : chkE x ty st l F S = (if runE x ty st l S.rts = 0 then (if S = runS x ty st l S.rts then 0 else 9) else runE x ty st l S.rts) := by
  by_cases h5 : runE x ty st l S.rts = 0
  ·rw [if_pos h5, (runS_is h5).1]
   rw [hr] at h5
   by_cases h6 : (crs x ty st l).sheet S.rts = S
   ·rw [if_pos h6.symm, chkE_0 h1 h2 h3 hF h5 h6]
   ·rw [if_neg (fun h => h6 h.symm), chkE_s h1 h2 h3 hF h5 h6]
  ·rw [if_neg h5, hr]
   rw [hr] at h5
   exact chkE_r h1 h2 h3 hF h5
 refine ⟨hA, ?_⟩
 unfold sinS chkL
 by_cases h7 : chkE x ty st l F S = 0
 ·rw [if_pos h7, if_pos h7]
  have h5 : runE x ty st l S.rts = 0 := by
   rw [hA] at h7
   split at h7
   ·assumption
   ·exact h7
  unfold runD
  rw [if_pos h5]
  unfold CrT.legs CrT.snL
  rw [List.map_map]
  rfl
 ·rw [if_neg h7, if_neg h7]
  rfl
theorem chk_ref9 {x : InT} {ty st : Int} {l : List (Int × Bool)} {F : List Bool} {S : ShT} (h1 : posD x.tl x.ol ty st l = true) (h2 : F.length ≤ l.length + 1) (h3 : S.T.length = l.length) {i : Nat} (hi : i < F.length) (h4 : ¬ F.getD i false = S.rts.getD i false) : chkE x ty st l F S = 9 := chkE_9 h1 h2 h3 (fun h => h4 (by
 have h5 : (S.rts.take F.length)[i]? = F[i]? := by rw [h]
 rw [List.getElem?_take_of_lt hi] at h5
 rw [List.getD_eq_getElem?_getD, List.getD_eq_getElem?_getD, h5]))
theorem sin_no {x : InT} {ty st : Int} {l : List (Int × Bool)} {F : List Bool} {S : ShT} (h : ¬ chkE x ty st l F S = 0) : sinS x ty st l F S = [] := by unfold sinS; rw [chkL_no h]; rfl
set_option maxHeartbeats 2000000 in
theorem refCheck18_n (k : Iv) (x : InT) (hal : x.al.length ≤ 1000000000) (ty st : Int) (orr oa oS : Option Addr) (cr ca cS b o bf qf bS qS : Nat) (l : List (Int × Bool)) (F : List Bool) (S : ShT) (lS : S.T.length ≤ 300000) (hok : posD x.tl x.ol ty st l = true → (crs x ty st l).Ok) (w : World) (hI : Ins w k x) (hl : Rw w b o 2 (vF l) l.length oa) (hFx : Rw w bf qf 1 (bF F) F.length orr) (hST : Rw w bS qS 4 (fun k => tmE (S.T.getD k tm0)) S.T.length oS) : Calls Tryd.prog 31 #[.agg (iK k x), .agg (rK ty st orr F.length cr oa l.length ca), .agg #[.bool S.r, .int .i64 S.d, .slice oS S.T.length cS, .int .i64 S.e, .int .i64 S.m]] w fun e w' => ∃ o9 c9 b9 q9, e = .returned (.tuple #[.slice o9 (sinS x ty st l F S).length c9, .int .i64 (chkE x ty st l F S)]) ∧ Rw w' b9 q9 1 (fun k => inE ((sinS x ty st l F S).getD k 0)) (sinS x ty st l F S).length o9 ∧ Below w.heap.size w w' := by
 have HB : Below w.heap.size w w := Below.refl _ _
 refine sx_enter Tryd.func31 rfl [(0, .agg (iK k x)), (1, .agg (rK ty st orr F.length cr oa l.length ca)), (2, .agg #[.bool S.r, .int .i64 S.d, .slice oS S.T.length cS, .int .i64 S.e, .int .i64 S.m])] (by kernel_rfl) ?_
 refine wp_seq ?_
 refine wp_region_lit ?_
 obtain ⟨W1, hW, hb, hq⟩ := laidA w (iK k x) 30
 refine sx_mem (by kernel_rfl) rfl rfl (.pointer (some ⟨w.heap.size, 0, none⟩)) W1 (by rw [← hW]; kernel_rfl) ?_
 replace HB := over HB hb
 have z1 := hb.size
 have M2 := hq
 have yM2 := hq.lt
 clear hq hb hW
 obtain ⟨W3, hW, hb, hq⟩ := laidA W1 (rK ty st orr F.length cr oa l.length ca) 34
 refine sx_mem (by kernel_rfl) rfl rfl (.pointer (some ⟨W1.heap.size, 0, none⟩)) W3 (by rw [← hW]; kernel_rfl) ?_
 replace HB := over HB hb
 replace M2 := M2.below hb
 have z2 := hb.size
 have M4 := hq
 have yM4 := hq.lt
 clear hq hb hW
 obtain ⟨W5, hW, hb, hq⟩ := laidA W3 #[.bool S.r, .int .i64 S.d, .slice oS S.T.length cS, .int .i64 S.e, .int .i64 S.m] 39
 refine sx_mem (by kernel_rfl) rfl rfl (.pointer (some ⟨W3.heap.size, 0, none⟩)) W5 (by rw [← hW]; kernel_rfl) ?_
 replace HB := over HB hb
 replace M2 := M2.below hb
 replace M4 := M4.below hb
 have z3 := hb.size
 have M6 := hq
 have yM6 := hq.lt
 clear hq hb hW
 refine Zv rfl (.slice none 0 0) ?_
 refine Zv rfl (.int .i64 0) ?_
 refine wpList_nil ?_
 refine sx_norm ?_
 refine wp_seq ?_
 refine wp_seq ?_
 refine wp_region_lit ?_
 refine Zw rfl (.agg (iK k x)) (ex_load rfl M2 (by kernel_rfl) Tryd.underlying30 rfl (by kernel_rfl)) ?_
 refine Zw rfl (.agg (rK ty st orr F.length cr oa l.length ca)) (ex_load rfl M4 (by kernel_rfl) Tryd.underlying34 rfl (by kernel_rfl)) ?_
 by_cases C1 : posD x.tl x.ol ty st l = true
 ·refine sx_call (by kernel_rfl) rfl rfl ((by have h8 := refPoss_n k x ty st orr oa cr ca b o l F W5 (hI.below HB) (hl.below HB); rw [C1] at h8; exact h8)) (by kernel_rfl) ?_
  rintro e W7 ⟨rfl, hb⟩
  replace HB := over HB hb
  replace M2 := M2.below hb
  replace M4 := M4.below hb
  replace M6 := M6.below hb
  have z4 := hb.size
  clear hb
  refine ⟨_, rfl, ?_⟩
  have hl20 := posD_len C1
  have hp9 := C1
  refine Zv rfl (.bool false) ?_
  refine Zv rfl (.bool false) ?_
  refine Zv rfl (.pointer (some ⟨W1.heap.size, 2, none⟩)) ?_
  refine Zw rfl (.slice orr F.length cr) (el (M4.cell 2 rfl) Tryd.underlying31) ?_
  refine Zv rfl (.int .i64 ((F.length : Nat) : Int)) ?_
  refine Zv rfl (.pointer (some ⟨W1.heap.size, 3, none⟩)) ?_
  refine Zw rfl (.slice oa l.length ca) (el (M4.cell 3 rfl) Tryd.underlying32) ?_
  refine Zv rfl (.int .i64 ((l.length : Nat) : Int)) ?_
  refine sx_int (by kernel_rfl) rfl rfl .i64 (IntKind.i64.wrap (((l.length : Nat) : Int) + 1)) (((l.length + 1 : Nat) : Int)) (by kernel_rfl) (by rw [IntKind.wrap_i64]; omega) ?_
  by_cases C2 : F.length > l.length + 1
  ·refine Zb rfl (decide (((F.length : Nat) : Int) > ((l.length + 1 : Nat) : Int))) true (decide_eq_true (by omega)) ?_
   refine Zv rfl (.bool true) ?_
   refine Zv rfl (.bool true) ?_
   refine Zk rfl ?_
   refine Zk rfl ?_
   refine Zk rfl ?_
   refine Zk rfl ?_
   refine Zk rfl ?_
   refine Zk rfl ?_
   refine Zk rfl ?_
   refine Zv rfl (.bool true) ?_
   refine wpList_nil ?_
   refine sx_norm ?_
   refine sx_true (by kernel_rfl) ?_
   refine wp_seq ?_
   refine wp_region_lit ?_
   refine Zv rfl (.slice none 0 0) ?_
   refine Zv rfl (.int .i64 2) ?_
   refine wpList_nil ?_
   refine sx_norm ?_
   refine wp_ret ?_
   refine sx_rs ?_
   have h9 : chkE x ty st l F S = 2 := chkE_2 (.inr (by omega))
   have h8 := sin_no (x := x) (ty := ty) (st := st) (l := l) (F := F) (S := S) (by rw [h9]; decide)
   refine sx_ret2 (.slice none 0 0) (.int .i64 2) rfl rfl rfl (by kernel_rfl) (by kernel_rfl) ⟨none, 0, 0, 0, by rw [h8, h9]; rfl, by rw [h8]; exact fun i hi => absurd hi (Nat.not_lt_zero i), HB⟩
  refine Zb rfl (decide (((F.length : Nat) : Int) > ((l.length + 1 : Nat) : Int))) false (decide_eq_false (by omega)) ?_
  refine Zv rfl (.bool false) ?_
  refine Zv rfl (.bool false) ?_
  refine Zv rfl (.pointer (some ⟨W3.heap.size, 2, none⟩)) ?_
  refine Zw rfl (.slice oS S.T.length cS) (el (M6.cell 2 rfl) Tryd.underlying37) ?_
  refine Zv rfl (.int .i64 ((S.T.length : Nat) : Int)) ?_
  refine Zv rfl (.pointer (some ⟨W1.heap.size, 3, none⟩)) ?_
  refine Zw rfl (.slice oa l.length ca) (el (M4.cell 3 rfl) Tryd.underlying32) ?_
  refine Zv rfl (.int .i64 ((l.length : Nat) : Int)) ?_
  by_cases C3 : S.T.length = l.length
  ·refine Zb rfl ((((S.T.length : Nat) : Int) : Int) != (((l.length : Nat) : Int) : Int)) false (by rw [bne_eq_false_iff_eq]; omega) ?_
   refine Zv rfl (.bool false) ?_
   refine wpList_nil ?_
   refine sx_norm ?_
   refine sx_false (by kernel_rfl) ?_
   refine wp_skip ?_
   refine sx_norm ?_
   refine wp_seq ?_
   refine wp_region_lit ?_
   refine Zw rfl (.agg #[.bool S.r, .int .i64 S.d, .slice oS S.T.length cS, .int .i64 S.e, .int .i64 S.m]) (ex_load rfl M6 (by kernel_rfl) Tryd.underlying39 rfl (by kernel_rfl)) ?_
   refine sx_call (by kernel_rfl) rfl rfl (refRests_n S oS cS bS qS lS W7 (hST.below HB)) (by kernel_rfl) ?_
   rintro e W8 ⟨oQ, cQ, bQ, qQ, rfl, hQ, hb⟩
   replace HB := over HB hb
   replace M2 := M2.below hb
   replace M4 := M4.below hb
   replace M6 := M6.below hb
   have z5 := hb.size
   clear hb
   refine ⟨_, rfl, ?_⟩
   have hrl := rts_len S
   refine Zv rfl (.slice oQ S.rts.length cQ) ?_
   refine wpList_nil ?_
   refine sx_norm ?_
   refine wp_seq ?_
   refine wp_seq ?_
   refine wp_region_lit ?_
   refine Zv rfl (.int .i64 0) ?_
   refine wpList_nil ?_
   refine sx_norm ?_
   refine wp_block ?_
   refine sx_loop (fun i : Nat => [(0, .agg (iK k x)), (1, .agg (rK ty st orr F.length cr oa l.length ca)), (2, .agg #[.bool S.r, .int .i64 S.d, .slice oS S.T.length cS, .int .i64 S.e, .int .i64 S.m]), (3, .pointer (some ⟨w.heap.size, 0, none⟩)), (4, .pointer (some ⟨W1.heap.size, 0, none⟩)), (5, .pointer (some ⟨W3.heap.size, 0, none⟩)), (8, .slice oQ S.rts.length cQ), (9, .int .i64 ((i : Nat) : Int)), (13, .agg (iK k x)), (14, .agg (rK ty st orr F.length cr oa l.length ca)), (15, .bool true), (16, .bool false), (17, .bool false), (18, .pointer (some ⟨W1.heap.size, 2, none⟩)), (19, .slice orr F.length cr), (20, .int .i64 ((F.length : Nat) : Int)), (21, .pointer (some ⟨W1.heap.size, 3, none⟩)), (22, .slice oa l.length ca), (23, .int .i64 ((l.length : Nat) : Int)), (24, .int .i64 ((l.length + 1 : Nat) : Int)), (25, .bool false), (26, .bool false), (27, .bool false), (28, .pointer (some ⟨W3.heap.size, 2, none⟩)), (29, .slice oS S.T.length cS), (30, .int .i64 ((S.T.length : Nat) : Int)), (31, .pointer (some ⟨W1.heap.size, 3, none⟩)), (32, .slice oa l.length ca), (33, .int .i64 ((l.length : Nat) : Int)), (34, .bool false), (35, .bool false), (36, .agg #[.bool S.r, .int .i64 S.d, .slice oS S.T.length cS, .int .i64 S.e, .int .i64 S.m]), (37, .slice oQ S.rts.length cQ)]) (fun gg i wr => i ≤ F.length ∧ F.length - i ≤ gg ∧ (∀ j, j < i → F.getD j false = S.rts.getD j false) ∧ Below W8.heap.size W8 wr) (F.length) (0) (by kernel_rfl) ⟨Nat.zero_le _, Nat.le_refl _, (fun j hj => absurd hj (Nat.not_lt_zero j)), Below.refl _ _⟩ ?_
   rintro gg i g' wr9 ⟨hi, hg, hJ, hbl⟩
   replace HB := over HB hbl
   replace M2 := M2.below hbl
   replace M4 := M4.below hbl
   replace M6 := M6.below hbl
   replace hQ := hQ.below hbl
   have z6 := hbl.size
   have HL := hbl
   clear hbl
   refine wp_seq ?_
   refine wp_seq ?_
   refine wp_region_lit ?_
   refine Zv rfl (.int .i64 ((i : Nat) : Int)) ?_
   refine Zv rfl (.pointer (some ⟨W1.heap.size, 2, none⟩)) ?_
   refine Zw rfl (.slice orr F.length cr) (el (M4.cell 2 rfl) Tryd.underlying31) ?_
   refine Zv rfl (.int .i64 ((F.length : Nat) : Int)) ?_
   by_cases C4 : i < F.length
   ·refine Zb rfl (decide (((i : Nat) : Int) < ((F.length : Nat) : Int))) true (decide_eq_true (by omega)) ?_
    refine wpList_nil ?_
    refine sx_norm ?_
    refine sx_true (by kernel_rfl) ?_
    refine wp_skip ?_
    refine sx_norm ?_
    refine wp_seq ?_
    refine wp_block ?_
    refine wp_seq ?_
    obtain ⟨Y10, hW⟩ : ∃ W, wr9.drew = W := ⟨_, rfl⟩
    have hb : Below wr9.heap.size wr9 Y10 := hW ▸ below_drew (Below.refl _ _)
    replace HB := over HB hb
    replace M2 := M2.below hb
    replace M4 := M4.below hb
    replace M6 := M6.below hb
    replace hQ := hQ.below hb
    replace HL := over HL hb
    have z7 := hb.size
    clear hb
    refine sd_begin (fun W => Cb W (w.heap.size) (iK k x) 30 ∧ Cb W (W1.heap.size) (rK ty st orr F.length cr oa l.length ca) 34 ∧ Cb W (W3.heap.size) #[.bool S.r, .int .i64 S.d, .slice oS S.T.length cS, .int .i64 S.e, .int .i64 S.m] 39 ∧ Rw W bQ qQ 1 (bF S.rts) S.rts.length oQ ∧ Rw W bf qf 1 (bF F) F.length orr ∧ True) (by kernel_rfl) (by rw [hW]; exact ⟨M2, M4, M6, hQ, (hFx.below HB), trivial⟩) ?_
    rw [hW]
    clear hW
    refine Zu 0 rfl rfl (.pointer (some ⟨W1.heap.size, 2, none⟩)) ⟨M2, M4, M6, hQ, (hFx.below HB), trivial⟩ ?_
    refine Zt 1 rfl rfl (.slice orr F.length cr) (fun w9 h9 => el (h9.2.1.cell 2 rfl) Tryd.underlying31) ⟨M2, M4, M6, hQ, (hFx.below HB), trivial⟩ ?_
    refine Zu 2 rfl rfl (.int .i64 ((i : Nat) : Int)) ⟨M2, M4, M6, hQ, (hFx.below HB), trivial⟩ ?_
    refine Zt 3 rfl rfl (.pointer (some ⟨bf, qf + i * 1, none⟩)) (fun w9 h9 => ex_indexO (q := qf) (m := F.length) (c := cr) (k := i) (s := 1) rfl (by kernel_rfl) (h9.2.2.2.2.1.oa (k := i) (by omega)) (by kernel_rfl) Tryd.underlying31 (by kernel_rfl) (by omega) (by omega)) ⟨M2, M4, M6, hQ, (hFx.below HB), trivial⟩ ?_
    refine Zt 4 rfl rfl (.bool (F.getD i false)) (fun w9 h9 => el (h9.2.2.2.2.1.cell (k := i) (by omega) 0 rfl) Tryd.underlying4) ⟨M2, M4, M6, hQ, (hFx.below HB), trivial⟩ ?_
    refine Zu 5 rfl rfl (.slice oQ S.rts.length cQ) ⟨M2, M4, M6, hQ, (hFx.below HB), trivial⟩ ?_
    refine Zu 6 rfl rfl (.int .i64 ((i : Nat) : Int)) ⟨M2, M4, M6, hQ, (hFx.below HB), trivial⟩ ?_
    refine Zt 7 rfl rfl (.pointer (some ⟨bQ, qQ + i * 1, none⟩)) (fun w9 h9 => ex_indexO (q := qQ) (m := S.rts.length) (c := cQ) (k := i) (s := 1) rfl (by kernel_rfl) (h9.2.2.2.1.oa (k := i) (by omega)) (by kernel_rfl) Tryd.underlying31 (by kernel_rfl) (by omega) (by omega)) ⟨M2, M4, M6, hQ, (hFx.below HB), trivial⟩ ?_
    refine Zt 8 rfl rfl (.bool (S.rts.getD i false)) (fun w9 h9 => el (h9.2.2.2.1.cell (k := i) (by omega) 0 rfl) Tryd.underlying4) ⟨M2, M4, M6, hQ, (hFx.below HB), trivial⟩ ?_
    by_cases C5 : (F.getD i false) = (S.rts.getD i false)
    ·refine Zt 9 rfl rfl (.bool false) (fun w9 _ => ex_bool (((F.getD i false) != (S.rts.getD i false))) false (by kernel_rfl) (by rw [C5]; exact bne_self_eq_false _)) ⟨M2, M4, M6, hQ, (hFx.below HB), trivial⟩ ?_
     refine sd_done (by kernel_rfl) ?_
     refine sx_norm ?_
     refine sx_false (by kernel_rfl) ?_
     refine wp_skip ?_
     refine sx_in ?_
     refine sx_norm ?_
     refine wp_region_lit ?_
     refine Zv rfl (.int .i64 ((i : Nat) : Int)) ?_
     refine sx_int (by kernel_rfl) rfl rfl .i64 (IntKind.i64.wrap (((i : Nat) : Int) + 1)) (((i + 1 : Nat) : Int)) (by kernel_rfl) (by rw [IntKind.wrap_i64]; omega) ?_
     refine Zv rfl (.int .i64 ((i + 1 : Nat) : Int)) ?_
     refine wpList_nil ?_
     refine sx_norm ?_
     exact sx_again (F.length - (i + 1)) (i + 1) (by omega) (by kernel_rfl) ⟨by omega, Nat.le_refl _, ext_more hJ (by assumption), HL⟩
    refine Zt 9 rfl rfl (.bool true) (fun w9 _ => ex_bool (((F.getD i false) != (S.rts.getD i false))) true (by kernel_rfl) (bne_iff_ne.2 C5)) ⟨M2, M4, M6, hQ, (hFx.below HB), trivial⟩ ?_
    refine sd_done (by kernel_rfl) ?_
    refine sx_norm ?_
    refine sx_true (by kernel_rfl) ?_
    refine wp_seq ?_
    refine wp_region_lit ?_
    refine Zv rfl (.slice none 0 0) ?_
    refine Zv rfl (.int .i64 9) ?_
    refine wpList_nil ?_
    refine sx_norm ?_
    refine wp_ret ?_
    refine sx_rb ?_
    refine sx_rs ?_
    refine sx_rs ?_
    refine sx_rb ?_
    refine sx_rs ?_
    have h9 : chkE x ty st l F S = 9 := chk_ref9 hp9 (by omega) (by omega) (i := i) (by omega) (by assumption)
    have h8 := sin_no (x := x) (ty := ty) (st := st) (l := l) (F := F) (S := S) (by rw [h9]; decide)
    refine sx_ret2 (.slice none 0 0) (.int .i64 9) rfl rfl rfl (by kernel_rfl) (by kernel_rfl) ⟨none, 0, 0, 0, by rw [h8, h9]; rfl, by rw [h8]; exact fun i hi => absurd hi (Nat.not_lt_zero i), HB⟩
   refine Zb rfl (decide (((i : Nat) : Int) < ((F.length : Nat) : Int))) false (decide_eq_false (by omega)) ?_
   refine wpList_nil ?_
   refine sx_norm ?_
   refine sx_false (by kernel_rfl) ?_
   refine wp_exit ?_
   refine sx_es ?_
   refine sx_es ?_
   refine sx_out ?_
   refine sx_norm ?_
   refine wp_seq ?_
   refine wp_region_lit ?_
   refine Zw rfl (.agg (iK k x)) (ex_load rfl M2 (by kernel_rfl) Tryd.underlying30 rfl (by kernel_rfl)) ?_
   refine Zw rfl (.agg (rK ty st orr F.length cr oa l.length ca)) (ex_load rfl M4 (by kernel_rfl) Tryd.underlying34 rfl (by kernel_rfl)) ?_
   refine Zv rfl (.slice oQ S.rts.length cQ) ?_
   by_cases C6 : (runE x ty st l S.rts) = 0
   ·refine sx_call (by kernel_rfl) rfl rfl ((by have h8 := refRun_n k x hal ty st orr oa cr ca b o l F hok S.rts oQ cQ bQ qQ wr9 (hI.below HB) (hl.below HB) hQ; rw [C6] at h8; exact h8)) (by kernel_rfl) ?_
    rintro e W11 ⟨o9, c9, b9, q9, od, cd, bd, qd, rfl, hS9, hD9, -, hb⟩
    have hlS9 : ∀ i, i < (runS x ty st l S.rts).T.length → b9 < W11.heap.size := fun i hi => hS9.lt hi
    have hlD9 : ∀ i, i < (runD x ty st l S.rts).length → bd < W11.heap.size := fun i hi => hD9.lt hi
    replace HB := over HB hb
    replace M2 := M2.below hb
    replace M4 := M4.below hb
    replace M6 := M6.below hb
    replace hQ := hQ.below hb
    replace HL := over HL hb
    have z7 := hb.size
    clear hb
    refine ⟨_, rfl, ?_⟩
    have hrun9 := C6
    refine Zv rfl (.tuple #[.agg #[.bool (runS x ty st l S.rts).r, .int .i64 ((runS x ty st l S.rts).d), .slice o9 (runS x ty st l S.rts).T.length c9, .int .i64 ((runS x ty st l S.rts).e), .int .i64 ((runS x ty st l S.rts).m)], .slice od (runD x ty st l S.rts).length cd, .int .i64 0]) ?_
    refine Zv rfl (.agg #[.bool (runS x ty st l S.rts).r, .int .i64 ((runS x ty st l S.rts).d), .slice o9 (runS x ty st l S.rts).T.length c9, .int .i64 ((runS x ty st l S.rts).e), .int .i64 ((runS x ty st l S.rts).m)]) ?_
    refine Zv rfl (.slice od (runD x ty st l S.rts).length cd) ?_
    refine Zv rfl (.int .i64 0) ?_
    obtain ⟨W13, hW, hb, hq⟩ := laidV W11 #[.bool false, .int .i64 0, .slice none 0 0, .int .i64 0, .int .i64 0] #[.bool (runS x ty st l S.rts).r, .int .i64 ((runS x ty st l S.rts).d), .slice o9 (runS x ty st l S.rts).T.length c9, .int .i64 ((runS x ty st l S.rts).e), .int .i64 ((runS x ty st l S.rts).m)] 39
    refine sx_mem (by kernel_rfl) rfl rfl (.pointer (some ⟨W11.heap.size, 0, none⟩)) (W11.alloc (.cells #[.bool false, .int .i64 0, .slice none 0 0, .int .i64 0, .int .i64 0] 39)) (by kernel_rfl) ?_
    refine Zs (cells := #[.bool (runS x ty st l S.rts).r, .int .i64 ((runS x ty st l S.rts).d), .slice o9 (runS x ty st l S.rts).T.length c9, .int .i64 ((runS x ty st l S.rts).e), .int .i64 ((runS x ty st l S.rts).m)]) rfl rfl (Cb.made W11 #[.bool false, .int .i64 0, .slice none 0 0, .int .i64 0, .int .i64 0] 39) ?_
    rw [hW]
    replace HB := over HB hb
    replace M2 := M2.below hb
    replace M4 := M4.below hb
    replace M6 := M6.below hb
    replace hQ := hQ.below hb
    replace HL := over HL hb
    replace hS9 := hS9.below hb
    replace hD9 := hD9.below hb
    have z8 := hb.size
    have M12 := hq
    have yM12 := hq.lt
    clear hq hb hW
    refine Zv rfl (.slice od (runD x ty st l S.rts).length cd) ?_
    refine Zv rfl (.int .i64 0) ?_
    refine wpList_nil ?_
    refine sx_norm ?_
    refine wp_seq ?_
    refine wp_seq ?_
    refine wp_region_lit ?_
    refine Zv rfl (.int .i64 0) ?_
    refine Zv rfl (.bool false) ?_
    refine wpList_nil ?_
    refine sx_norm ?_
    refine sx_false (by kernel_rfl) ?_
    refine wp_skip ?_
    refine sx_norm ?_
    refine wp_seq ?_
    refine wp_seq ?_
    refine wp_region_lit ?_
    refine Zw rfl (.agg #[.bool S.r, .int .i64 S.d, .slice oS S.T.length cS, .int .i64 S.e, .int .i64 S.m]) (ex_load rfl M6 (by kernel_rfl) Tryd.underlying39 rfl (by kernel_rfl)) ?_
    refine Zw rfl (.agg #[.bool (runS x ty st l S.rts).r, .int .i64 ((runS x ty st l S.rts).d), .slice o9 (runS x ty st l S.rts).T.length c9, .int .i64 ((runS x ty st l S.rts).e), .int .i64 ((runS x ty st l S.rts).m)]) (ex_load rfl M12 (by kernel_rfl) Tryd.underlying39 rfl (by kernel_rfl)) ?_
    by_cases C7 : (decide (S = (runS x ty st l S.rts))) = true
    ·refine sx_call (by kernel_rfl) rfl rfl ((by have h8 := refSame_n18 S (runS x ty st l S.rts) oS o9 cS c9 bS qS b9 q9 (by omega) W13 (hST.below HB) hS9; rw [show (decide (S = (runS x ty st l S.rts))) = true by simpa using C7] at h8; exact h8)) (by kernel_rfl) ?_
     rintro e W14 ⟨rfl, hb⟩
     replace HB := over HB hb
     replace M2 := M2.below hb
     replace M4 := M4.below hb
     replace M6 := M6.below hb
     replace hQ := hQ.below hb
     replace HL := over HL hb
     replace hS9 := hS9.below hb
     replace hD9 := hD9.below hb
     replace M12 := M12.below hb
     have z9 := hb.size
     clear hb
     refine ⟨_, rfl, ?_⟩
     refine Zv rfl (.bool false) ?_
     refine wpList_nil ?_
     refine sx_norm ?_
     refine sx_false (by kernel_rfl) ?_
     refine wp_skip ?_
     refine sx_norm ?_
     refine wp_seq ?_
     refine wp_region_lit ?_
     refine Zv rfl (.slice od (runD x ty st l S.rts).length cd) ?_
     refine Zv rfl (.slice od (runD x ty st l S.rts).length cd) ?_
     refine Zv rfl (.int .i64 0) ?_
     refine wpList_nil ?_
     refine sx_norm ?_
     refine wp_ret ?_
     have h9 : chkE x ty st l F S = 0 := by rw [(chk_ref hp9 (by omega) (by omega) (fun j hj => hJ j (by omega))).1, if_pos hrun9, if_pos (of_decide_eq_true (by assumption))]
     have h8 : sinS x ty st l F S = (runD x ty st l S.rts) := by rw [(chk_ref hp9 (by omega) (by omega) (fun j hj => hJ j (by omega))).2, if_pos h9]
     refine sx_ret2 (.slice od (runD x ty st l S.rts).length cd) (.int .i64 0) rfl rfl rfl (by kernel_rfl) (by kernel_rfl) ⟨od, cd, bd, qd, by rw [h8, h9], by rw [h8]; exact hD9, HB⟩
    refine sx_call (by kernel_rfl) rfl rfl ((by have h8 := refSame_n18 S (runS x ty st l S.rts) oS o9 cS c9 bS qS b9 q9 (by omega) W13 (hST.below HB) hS9; rw [show (decide (S = (runS x ty st l S.rts))) = false by simpa using C7] at h8; exact h8)) (by kernel_rfl) ?_
    rintro e W15 ⟨rfl, hb⟩
    replace HB := over HB hb
    replace M2 := M2.below hb
    replace M4 := M4.below hb
    replace M6 := M6.below hb
    replace hQ := hQ.below hb
    replace HL := over HL hb
    replace hS9 := hS9.below hb
    replace hD9 := hD9.below hb
    replace M12 := M12.below hb
    have z9 := hb.size
    clear hb
    refine ⟨_, rfl, ?_⟩
    refine Zv rfl (.bool true) ?_
    refine wpList_nil ?_
    refine sx_norm ?_
    refine sx_true (by kernel_rfl) ?_
    refine wp_seq ?_
    refine wp_region_lit ?_
    refine Zv rfl (.slice none 0 0) ?_
    refine Zv rfl (.int .i64 9) ?_
    refine wpList_nil ?_
    refine sx_norm ?_
    refine wp_ret ?_
    refine sx_rs ?_
    have h9 : chkE x ty st l F S = 9 := by rw [(chk_ref hp9 (by omega) (by omega) (fun j hj => hJ j (by omega))).1, if_pos hrun9, if_neg (of_decide_eq_false (by simpa using (by assumption : ¬ decide (S = (runS x ty st l S.rts)) = true)))]
    have h8 := sin_no (x := x) (ty := ty) (st := st) (l := l) (F := F) (S := S) (by rw [h9]; decide)
    refine sx_ret2 (.slice none 0 0) (.int .i64 9) rfl rfl rfl (by kernel_rfl) (by kernel_rfl) ⟨none, 0, 0, 0, by rw [h8, h9]; rfl, by rw [h8]; exact fun i hi => absurd hi (Nat.not_lt_zero i), HB⟩
   refine sx_call (by kernel_rfl) rfl rfl ((by have h8 := refRun_n k x hal ty st orr oa cr ca b o l F hok S.rts oQ cQ bQ qQ wr9 (hI.below HB) (hl.below HB) hQ; exact h8)) (by kernel_rfl) ?_
   rintro e W16 ⟨o9, c9, b9, q9, od, cd, bd, qd, rfl, hS9, hD9, -, hb⟩
   have hlS9 : ∀ i, i < (runS x ty st l S.rts).T.length → b9 < W16.heap.size := fun i hi => hS9.lt hi
   have hlD9 : ∀ i, i < (runD x ty st l S.rts).length → bd < W16.heap.size := fun i hi => hD9.lt hi
   replace HB := over HB hb
   replace M2 := M2.below hb
   replace M4 := M4.below hb
   replace M6 := M6.below hb
   replace hQ := hQ.below hb
   replace HL := over HL hb
   have z7 := hb.size
   clear hb
   refine ⟨_, rfl, ?_⟩
   refine Zv rfl (.tuple #[.agg #[.bool (runS x ty st l S.rts).r, .int .i64 ((runS x ty st l S.rts).d), .slice o9 (runS x ty st l S.rts).T.length c9, .int .i64 ((runS x ty st l S.rts).e), .int .i64 ((runS x ty st l S.rts).m)], .slice od (runD x ty st l S.rts).length cd, .int .i64 (runE x ty st l S.rts)]) ?_
   refine Zv rfl (.agg #[.bool (runS x ty st l S.rts).r, .int .i64 ((runS x ty st l S.rts).d), .slice o9 (runS x ty st l S.rts).T.length c9, .int .i64 ((runS x ty st l S.rts).e), .int .i64 ((runS x ty st l S.rts).m)]) ?_
   refine Zv rfl (.slice od (runD x ty st l S.rts).length cd) ?_
   refine Zv rfl (.int .i64 (runE x ty st l S.rts)) ?_
   obtain ⟨W18, hW, hb, hq⟩ := laidV W16 #[.bool false, .int .i64 0, .slice none 0 0, .int .i64 0, .int .i64 0] #[.bool (runS x ty st l S.rts).r, .int .i64 ((runS x ty st l S.rts).d), .slice o9 (runS x ty st l S.rts).T.length c9, .int .i64 ((runS x ty st l S.rts).e), .int .i64 ((runS x ty st l S.rts).m)] 39
   refine sx_mem (by kernel_rfl) rfl rfl (.pointer (some ⟨W16.heap.size, 0, none⟩)) (W16.alloc (.cells #[.bool false, .int .i64 0, .slice none 0 0, .int .i64 0, .int .i64 0] 39)) (by kernel_rfl) ?_
   refine Zs (cells := #[.bool (runS x ty st l S.rts).r, .int .i64 ((runS x ty st l S.rts).d), .slice o9 (runS x ty st l S.rts).T.length c9, .int .i64 ((runS x ty st l S.rts).e), .int .i64 ((runS x ty st l S.rts).m)]) rfl rfl (Cb.made W16 #[.bool false, .int .i64 0, .slice none 0 0, .int .i64 0, .int .i64 0] 39) ?_
   rw [hW]
   replace HB := over HB hb
   replace M2 := M2.below hb
   replace M4 := M4.below hb
   replace M6 := M6.below hb
   replace hQ := hQ.below hb
   replace HL := over HL hb
   replace hS9 := hS9.below hb
   replace hD9 := hD9.below hb
   have z8 := hb.size
   have M17 := hq
   have yM17 := hq.lt
   clear hq hb hW
   refine Zv rfl (.slice od (runD x ty st l S.rts).length cd) ?_
   refine Zv rfl (.int .i64 (runE x ty st l S.rts)) ?_
   refine wpList_nil ?_
   refine sx_norm ?_
   refine wp_seq ?_
   refine wp_seq ?_
   refine wp_region_lit ?_
   refine Zv rfl (.int .i64 (runE x ty st l S.rts)) ?_
   refine Zb rfl (((runE x ty st l S.rts) : Int) != (0 : Int)) true (bne_iff_ne.2 (by omega)) ?_
   refine wpList_nil ?_
   refine sx_norm ?_
   refine sx_true (by kernel_rfl) ?_
   refine wp_seq ?_
   refine wp_region_lit ?_
   refine Zv rfl (.int .i64 (runE x ty st l S.rts)) ?_
   refine Zv rfl (.slice none 0 0) ?_
   refine Zv rfl (.int .i64 (runE x ty st l S.rts)) ?_
   refine wpList_nil ?_
   refine sx_norm ?_
   refine wp_ret ?_
   refine sx_rs ?_
   have h9 : chkE x ty st l F S = (runE x ty st l S.rts) := by rw [(chk_ref hp9 (by omega) (by omega) (fun j hj => hJ j (by omega))).1, if_neg (by assumption)]
   have h8 := sin_no (x := x) (ty := ty) (st := st) (l := l) (F := F) (S := S) (by rw [h9]; assumption)
   refine sx_ret2 (.slice none 0 0) (.int .i64 (runE x ty st l S.rts)) rfl rfl rfl (by kernel_rfl) (by kernel_rfl) ⟨none, 0, 0, 0, by rw [h8, h9]; rfl, by rw [h8]; exact fun i hi => absurd hi (Nat.not_lt_zero i), HB⟩
  refine Zb rfl ((((S.T.length : Nat) : Int) : Int) != (((l.length : Nat) : Int) : Int)) true (bne_iff_ne.2 (by omega)) ?_
  refine Zv rfl (.bool true) ?_
  refine wpList_nil ?_
  refine sx_norm ?_
  refine sx_true (by kernel_rfl) ?_
  refine wp_seq ?_
  refine wp_region_lit ?_
  refine Zv rfl (.slice none 0 0) ?_
  refine Zv rfl (.int .i64 2) ?_
  refine wpList_nil ?_
  refine sx_norm ?_
  refine wp_ret ?_
  refine sx_rs ?_
  have h9 : chkE x ty st l F S = 2 := chkE_2 (.inr (by omega))
  have h8 := sin_no (x := x) (ty := ty) (st := st) (l := l) (F := F) (S := S) (by rw [h9]; decide)
  refine sx_ret2 (.slice none 0 0) (.int .i64 2) rfl rfl rfl (by kernel_rfl) (by kernel_rfl) ⟨none, 0, 0, 0, by rw [h8, h9]; rfl, by rw [h8]; exact fun i hi => absurd hi (Nat.not_lt_zero i), HB⟩
 refine sx_call (by kernel_rfl) rfl rfl ((by have h8 := refPoss_n k x ty st orr oa cr ca b o l F W5 (hI.below HB) (hl.below HB); rw [show posD x.tl x.ol ty st l = false by simpa using C1] at h8; exact h8)) (by kernel_rfl) ?_
 rintro e W19 ⟨rfl, hb⟩
 replace HB := over HB hb
 replace M2 := M2.below hb
 replace M4 := M4.below hb
 replace M6 := M6.below hb
 have z4 := hb.size
 clear hb
 refine ⟨_, rfl, ?_⟩
 have hp9 : posD x.tl x.ol ty st l = false := by simpa using C1
 refine Zv rfl (.bool true) ?_
 refine Zv rfl (.bool true) ?_
 refine Zk rfl ?_
 refine Zk rfl ?_
 refine Zk rfl ?_
 refine Zk rfl ?_
 refine Zk rfl ?_
 refine Zk rfl ?_
 refine Zk rfl ?_
 refine Zk rfl ?_
 refine Zv rfl (.bool true) ?_
 refine Zv rfl (.bool true) ?_
 refine Zk rfl ?_
 refine Zk rfl ?_
 refine Zk rfl ?_
 refine Zk rfl ?_
 refine Zk rfl ?_
 refine Zk rfl ?_
 refine Zk rfl ?_
 refine Zv rfl (.bool true) ?_
 refine wpList_nil ?_
 refine sx_norm ?_
 refine sx_true (by kernel_rfl) ?_
 refine wp_seq ?_
 refine wp_region_lit ?_
 refine Zv rfl (.slice none 0 0) ?_
 refine Zv rfl (.int .i64 2) ?_
 refine wpList_nil ?_
 refine sx_norm ?_
 refine wp_ret ?_
 refine sx_rs ?_
 have h9 : chkE x ty st l F S = 2 := chkE_2 (.inl hp9)
 have h8 := sin_no (x := x) (ty := ty) (st := st) (l := l) (F := F) (S := S) (by rw [h9]; decide)
 refine sx_ret2 (.slice none 0 0) (.int .i64 2) rfl rfl rfl (by kernel_rfl) (by kernel_rfl) ⟨none, 0, 0, 0, by rw [h8, h9]; rfl, by rw [h8]; exact fun i hi => absurd hi (Nat.not_lt_zero i), HB⟩
theorem refSince18_n (k : Iv) (x : InT) (hal : x.al.length ≤ 1000000000) (ty st : Int) (orr oa oS : Option Addr) (cr ca cS b o bf qf bS qS : Nat) (l : List (Int × Bool)) (F : List Bool) (S : ShT) (lS : S.T.length ≤ 300000) (hok : posD x.tl x.ol ty st l = true → (crs x ty st l).Ok) (w : World) (hI : Ins w k x) (hl : Rw w b o 2 (vF l) l.length oa) (hFx : Rw w bf qf 1 (bF F) F.length orr) (hST : Rw w bS qS 4 (fun k => tmE (S.T.getD k tm0)) S.T.length oS) : Calls Tryd.prog 17 #[.agg (iK k x), .agg (rK ty st orr F.length cr oa l.length ca), .agg #[.bool S.r, .int .i64 S.d, .slice oS S.T.length cS, .int .i64 S.e, .int .i64 S.m]] w fun e w' => ∃ o9 c9 b9 q9, e = .returned (.tuple #[.slice o9 (sinS x ty st l F S).length c9, .int .i64 (chkE x ty st l F S)]) ∧ Rw w' b9 q9 1 (fun k => inE ((sinS x ty st l F S).getD k 0)) (sinS x ty st l F S).length o9 ∧ Below w.heap.size w w' := by
 have HB : Below w.heap.size w w := Below.refl _ _
 refine sx_enter Tryd.func17 rfl [(0, .agg (iK k x)), (1, .agg (rK ty st orr F.length cr oa l.length ca)), (2, .agg #[.bool S.r, .int .i64 S.d, .slice oS S.T.length cS, .int .i64 S.e, .int .i64 S.m])] (by kernel_rfl) ?_
 refine wp_seq ?_
 refine wp_region_lit ?_
 obtain ⟨W1, hW, hb, hq⟩ := laidA w (iK k x) 30
 refine sx_mem (by kernel_rfl) rfl rfl (.pointer (some ⟨w.heap.size, 0, none⟩)) W1 (by rw [← hW]; kernel_rfl) ?_
 replace HB := over HB hb
 have z1 := hb.size
 have M2 := hq
 have yM2 := hq.lt
 clear hq hb hW
 obtain ⟨W3, hW, hb, hq⟩ := laidA W1 (rK ty st orr F.length cr oa l.length ca) 34
 refine sx_mem (by kernel_rfl) rfl rfl (.pointer (some ⟨W1.heap.size, 0, none⟩)) W3 (by rw [← hW]; kernel_rfl) ?_
 replace HB := over HB hb
 replace M2 := M2.below hb
 have z2 := hb.size
 have M4 := hq
 have yM4 := hq.lt
 clear hq hb hW
 obtain ⟨W5, hW, hb, hq⟩ := laidA W3 #[.bool S.r, .int .i64 S.d, .slice oS S.T.length cS, .int .i64 S.e, .int .i64 S.m] 39
 refine sx_mem (by kernel_rfl) rfl rfl (.pointer (some ⟨W3.heap.size, 0, none⟩)) W5 (by rw [← hW]; kernel_rfl) ?_
 replace HB := over HB hb
 replace M2 := M2.below hb
 replace M4 := M4.below hb
 have z3 := hb.size
 have M6 := hq
 have yM6 := hq.lt
 clear hq hb hW
 refine Zv rfl (.slice none 0 0) ?_
 refine Zv rfl (.int .i64 0) ?_
 refine wpList_nil ?_
 refine sx_norm ?_
 refine wp_seq ?_
 refine wp_region_lit ?_
 refine Zw rfl (.agg (iK k x)) (ex_load rfl M2 (by kernel_rfl) Tryd.underlying30 rfl (by kernel_rfl)) ?_
 refine Zw rfl (.agg (rK ty st orr F.length cr oa l.length ca)) (ex_load rfl M4 (by kernel_rfl) Tryd.underlying34 rfl (by kernel_rfl)) ?_
 refine Zw rfl (.agg #[.bool S.r, .int .i64 S.d, .slice oS S.T.length cS, .int .i64 S.e, .int .i64 S.m]) (ex_load rfl M6 (by kernel_rfl) Tryd.underlying39 rfl (by kernel_rfl)) ?_
 refine sx_call (by kernel_rfl) rfl rfl (refCheck18_n k x hal ty st orr oa oS cr ca cS b o bf qf bS qS l F S lS hok W5 (hI.below HB) (hl.below HB) (hFx.below HB) (hST.below HB)) (by kernel_rfl) ?_
 rintro e W7 ⟨o9, c9, b9, q9, rfl, hD9, hb⟩
 replace HB := over HB hb
 replace M2 := M2.below hb
 replace M4 := M4.below hb
 replace M6 := M6.below hb
 have z4 := hb.size
 clear hb
 refine ⟨_, rfl, ?_⟩
 refine Zv rfl (.slice o9 (sinS x ty st l F S).length c9) ?_
 refine Zv rfl (.int .i64 (chkE x ty st l F S)) ?_
 refine Zv rfl (.slice o9 (sinS x ty st l F S).length c9) ?_
 refine Zv rfl (.int .i64 (chkE x ty st l F S)) ?_
 refine wpList_nil ?_
 refine sx_norm ?_
 refine wp_ret ?_
 exact sx_ret2 (.slice o9 (sinS x ty st l F S).length c9) (.int .i64 (chkE x ty st l F S)) rfl rfl rfl (by kernel_rfl) (by kernel_rfl) ⟨o9, c9, b9, q9, rfl, hD9, HB⟩
theorem refValid18_n (k : Iv) (x : InT) (hal : x.al.length ≤ 1000000000) (ty st : Int) (orr oa oS : Option Addr) (cr ca cS b o bf qf bS qS : Nat) (l : List (Int × Bool)) (F : List Bool) (S : ShT) (lS : S.T.length ≤ 300000) (hok : posD x.tl x.ol ty st l = true → (crs x ty st l).Ok) (w : World) (hI : Ins w k x) (hl : Rw w b o 2 (vF l) l.length oa) (hFx : Rw w bf qf 1 (bF F) F.length orr) (hST : Rw w bS qS 4 (fun k => tmE (S.T.getD k tm0)) S.T.length oS) : Calls Tryd.prog 19 #[.agg (iK k x), .agg (rK ty st orr F.length cr oa l.length ca), .agg #[.bool S.r, .int .i64 S.d, .slice oS S.T.length cS, .int .i64 S.e, .int .i64 S.m]] w fun e w' => e = .returned (.int .i64 (chkE x ty st l F S)) ∧ Below w.heap.size w w' := by
 have HB : Below w.heap.size w w := Below.refl _ _
 refine sx_enter Tryd.func19 rfl [(0, .agg (iK k x)), (1, .agg (rK ty st orr F.length cr oa l.length ca)), (2, .agg #[.bool S.r, .int .i64 S.d, .slice oS S.T.length cS, .int .i64 S.e, .int .i64 S.m])] (by kernel_rfl) ?_
 refine wp_seq ?_
 refine wp_region_lit ?_
 obtain ⟨W1, hW, hb, hq⟩ := laidA w (iK k x) 30
 refine sx_mem (by kernel_rfl) rfl rfl (.pointer (some ⟨w.heap.size, 0, none⟩)) W1 (by rw [← hW]; kernel_rfl) ?_
 replace HB := over HB hb
 have z1 := hb.size
 have M2 := hq
 have yM2 := hq.lt
 clear hq hb hW
 obtain ⟨W3, hW, hb, hq⟩ := laidA W1 (rK ty st orr F.length cr oa l.length ca) 34
 refine sx_mem (by kernel_rfl) rfl rfl (.pointer (some ⟨W1.heap.size, 0, none⟩)) W3 (by rw [← hW]; kernel_rfl) ?_
 replace HB := over HB hb
 replace M2 := M2.below hb
 have z2 := hb.size
 have M4 := hq
 have yM4 := hq.lt
 clear hq hb hW
 obtain ⟨W5, hW, hb, hq⟩ := laidA W3 #[.bool S.r, .int .i64 S.d, .slice oS S.T.length cS, .int .i64 S.e, .int .i64 S.m] 39
 refine sx_mem (by kernel_rfl) rfl rfl (.pointer (some ⟨W3.heap.size, 0, none⟩)) W5 (by rw [← hW]; kernel_rfl) ?_
 replace HB := over HB hb
 replace M2 := M2.below hb
 replace M4 := M4.below hb
 have z3 := hb.size
 have M6 := hq
 have yM6 := hq.lt
 clear hq hb hW
 refine Zv rfl (.int .i64 0) ?_
 refine wpList_nil ?_
 refine sx_norm ?_
 refine wp_seq ?_
 refine wp_region_lit ?_
 refine Zw rfl (.agg (iK k x)) (ex_load rfl M2 (by kernel_rfl) Tryd.underlying30 rfl (by kernel_rfl)) ?_
 refine Zw rfl (.agg (rK ty st orr F.length cr oa l.length ca)) (ex_load rfl M4 (by kernel_rfl) Tryd.underlying34 rfl (by kernel_rfl)) ?_
 refine Zw rfl (.agg #[.bool S.r, .int .i64 S.d, .slice oS S.T.length cS, .int .i64 S.e, .int .i64 S.m]) (ex_load rfl M6 (by kernel_rfl) Tryd.underlying39 rfl (by kernel_rfl)) ?_
 refine sx_call (by kernel_rfl) rfl rfl (refCheck18_n k x hal ty st orr oa oS cr ca cS b o bf qf bS qS l F S lS hok W5 (hI.below HB) (hl.below HB) (hFx.below HB) (hST.below HB)) (by kernel_rfl) ?_
 rintro e W7 ⟨o9, c9, b9, q9, rfl, hD9, hb⟩
 replace HB := over HB hb
 replace M2 := M2.below hb
 replace M4 := M4.below hb
 replace M6 := M6.below hb
 have z4 := hb.size
 clear hb
 refine ⟨_, rfl, ?_⟩
 refine Zv rfl (.tuple #[.slice o9 (sinS x ty st l F S).length c9, .int .i64 (chkE x ty st l F S)]) ?_
 refine Zv rfl (.slice o9 (sinS x ty st l F S).length c9) ?_
 refine Zv rfl (.int .i64 (chkE x ty st l F S)) ?_
 refine Zv rfl (.slice o9 (sinS x ty st l F S).length c9) ?_
 refine Zv rfl (.int .i64 (chkE x ty st l F S)) ?_
 refine wpList_nil ?_
 refine sx_norm ?_
 refine wp_seq ?_
 refine wp_region_lit ?_
 refine Zv rfl (.int .i64 (chkE x ty st l F S)) ?_
 refine Zv rfl (.int .i64 (chkE x ty st l F S)) ?_
 refine wpList_nil ?_
 refine sx_norm ?_
 refine wp_ret ?_
 exact sx_ret1 (.int .i64 (chkE x ty st l F S)) rfl rfl (by kernel_rfl) ⟨rfl, HB⟩

end Go.Proofs.YtnapmildbodigaaDoor.T


