/-
  DERIVED. DriveLater: a part of the base of layer 13 (made by pack.py).
-/
import Derived.Test.YtnapmildbodigaaDoorEc
/-! DriveLater: its walk (by gen_la.py). -/
namespace Go.Proofs.YtnapmildbodigaaDoor.T
open Go.RowKit
set_option maxRecDepth 8000
attribute [local irreducible] wpList Code.wp wpAnyH

theorem runS_is {x : InT} {ty st : Int} {l : List (Int × Bool)} {R : List Bool} (h : runE x ty st l R = 0) : runS x ty st l R = (crs x ty st l).sheet R ∧ posD x.tl x.ol ty st l = true ∧ R.length = l.length + 1 ∧ (crs x ty st l).run R (crs x ty st l).n = 0 := by
  have h1 : runS x ty st l R = (crs x ty st l).sheet R := by unfold runS; rw [if_pos h]
  unfold runE at h
  split at h
  · rename_i h2
    exact ⟨h1, h2.1, h2.2, by rw [crs_n]; exact h⟩
  · cases h
theorem runS_len {x : InT} {ty st : Int} {l : List (Int × Bool)} {R : List Bool} (h : runE x ty st l R = 0) : (runS x ty st l R).T.length = l.length := by
  rw [(runS_is h).1, tms_len, crs_n]
  omega
theorem posD_len {tl : List TyT} {ol : List OrT} {ty st : Int} {l : List (Int × Bool)} (h : posD tl ol ty st l = true) : l.length ≤ 20 := by
  unfold posD at h
  simp only [Bool.and_eq_true, decide_eq_true_eq] at h
  exact h.1.2
theorem run_later {x : InT} (hin : inF x = []) (hal : x.al.length ≤ 1000000) {ty st st' : Int} {l : List (Int × Bool)} {R : List Bool} (h : runE x ty st l R = 0) (h' : runE x ty st' l R = 0) (hs : st ≤ st') :
    (∀ i, i < l.length → ((runS x ty st l R).T.getD i tm0).a ≤ ((runS x ty st' l R).T.getD i tm0).a ∧ ((runS x ty st l R).T.getD i tm0).d ≤ ((runS x ty st' l R).T.getD i tm0).d) ∧ (runS x ty st l R).e ≤ (runS x ty st' l R).e ∧ (runS x ty st l R).m = (runS x ty st' l R).m := by
  rw [(runS_is h).1, (runS_is h').1]
  exact later_ok (crs_ok hin hal (runS_is h).2.1) hs
theorem driveLater_walk (k : Iv) (x : InT) (hx : InU x) (ty st : Int) (orr oa : Option Addr) (cr ca b o bf qf : Nat) (l : List (Int × Bool)) (F : List Bool) (R : List Bool) (oR : Option Addr) (cR bR qR : Nat) (m : Int) (hm : 0 ≤ m ∧ m ≤ 255) (w : World) (hT : Tab w) (hI : Ins w k x) (hl : Rw w b o 2 (vF l) l.length oa) (_ : Rw w bf qf 1 (bF F) F.length orr) (hR : Rw w bR qR 1 (bF R) R.length oR) : Calls Tryd.prog 7 #[.agg #[.slice k.o0 x.pl.length k.c0, .slice k.o1 x.al.length k.c1, .slice k.o2 x.tl.length k.c2, .slice k.o3 x.ol.length k.c3, .slice k.o4 x.ap.length k.c4, .slice k.o5 x.be.length k.c5], .agg #[.int .i64 ty, .int .i64 st, .slice orr F.length cr, .slice oa l.length ca], .slice oR R.length cR, .int .u8 (m)] w fun e w' => e = .returned (.bool true) ∧ Below w.heap.size w w' := by
  have HB : Below w.heap.size w w := Below.refl _ _
  refine sx_enter Tryd.func7 rfl [(0, .agg #[.slice k.o0 x.pl.length k.c0, .slice k.o1 x.al.length k.c1, .slice k.o2 x.tl.length k.c2, .slice k.o3 x.ol.length k.c3, .slice k.o4 x.ap.length k.c4, .slice k.o5 x.be.length k.c5]), (1, .agg #[.int .i64 ty, .int .i64 st, .slice orr F.length cr, .slice oa l.length ca]), (2, .slice oR R.length cR), (3, .int .u8 (m))] (by kernel_rfl) ?_
  refine wp_seq ?_
  refine wp_region_lit ?_
  obtain ⟨W1, hW⟩ : ∃ W, w.alloc (.cells #[.slice k.o0 x.pl.length k.c0, .slice k.o1 x.al.length k.c1, .slice k.o2 x.tl.length k.c2, .slice k.o3 x.ol.length k.c3, .slice k.o4 x.ap.length k.c4, .slice k.o5 x.be.length k.c5] 30) = W := ⟨_, rfl⟩
  have hb := hW ▸ below_alloc w (.cells #[.slice k.o0 x.pl.length k.c0, .slice k.o1 x.al.length k.c1, .slice k.o2 x.tl.length k.c2, .slice k.o3 x.ol.length k.c3, .slice k.o4 x.ap.length k.c4, .slice k.o5 x.be.length k.c5] 30)
  have hq : Cb W1 w.heap.size #[.slice k.o0 x.pl.length k.c0, .slice k.o1 x.al.length k.c1, .slice k.o2 x.tl.length k.c2, .slice k.o3 x.ol.length k.c3, .slice k.o4 x.ap.length k.c4, .slice k.o5 x.be.length k.c5] 30 := hW ▸ Cb.made w #[.slice k.o0 x.pl.length k.c0, .slice k.o1 x.al.length k.c1, .slice k.o2 x.tl.length k.c2, .slice k.o3 x.ol.length k.c3, .slice k.o4 x.ap.length k.c4, .slice k.o5 x.be.length k.c5] 30
  refine sx_mem (by kernel_rfl) rfl rfl (.pointer (some ⟨w.heap.size, 0, none⟩)) W1 (by rw [← hW]; kernel_rfl) ?_
  replace HB := over HB hb
  have z1 := hb.size
  have M2 := hq
  have yM2 := hq.lt
  clear hq hb hW
  obtain ⟨W3, hW⟩ : ∃ W, W1.alloc (.cells #[.int .i64 ty, .int .i64 st, .slice orr F.length cr, .slice oa l.length ca] 34) = W := ⟨_, rfl⟩
  have hb := hW ▸ below_alloc W1 (.cells #[.int .i64 ty, .int .i64 st, .slice orr F.length cr, .slice oa l.length ca] 34)
  have hq : Cb W3 W1.heap.size #[.int .i64 ty, .int .i64 st, .slice orr F.length cr, .slice oa l.length ca] 34 := hW ▸ Cb.made W1 #[.int .i64 ty, .int .i64 st, .slice orr F.length cr, .slice oa l.length ca] 34
  refine sx_mem (by kernel_rfl) rfl rfl (.pointer (some ⟨W1.heap.size, 0, none⟩)) W3 (by rw [← hW]; kernel_rfl) ?_
  replace HB := over HB hb
  replace M2 := M2.below hb
  have z2 := hb.size
  have M4 := hq
  have yM4 := hq.lt
  clear hq hb hW
  refine sx_val (by kernel_rfl) rfl rfl (.bool false) (by kernel_rfl) ?_
  refine wpList_nil ?_
  refine sx_norm ?_
  refine wp_seq ?_
  refine wp_seq ?_
  refine wp_region_lit ?_
  refine sx_val (by kernel_rfl) rfl rfl (.agg #[.slice k.o0 x.pl.length k.c0, .slice k.o1 x.al.length k.c1, .slice k.o2 x.tl.length k.c2, .slice k.o3 x.ol.length k.c3, .slice k.o4 x.ap.length k.c4, .slice k.o5 x.be.length k.c5]) (ex_load rfl M2 (by kernel_rfl) Tryd.underlying30 rfl (by kernel_rfl)) ?_
  by_cases C1 : rightB x = true
  · refine sx_call (by kernel_rfl) rfl rfl ((by have h8 := right_n k x hx W3 (hI.below HB); rw [C1] at h8; exact h8)) (by kernel_rfl) ?_
    rintro e W5 ⟨rfl, hb⟩
    replace HB := over HB hb
    replace M2 := M2.below hb
    replace M4 := M4.below hb
    have z3 := hb.size
    clear hb
    refine ⟨_, rfl, ?_⟩
    have hin : inF x = [] := List.length_eq_zero_iff.1 (of_decide_eq_true C1)
    refine sx_val (by kernel_rfl) rfl rfl (.bool false) (by kernel_rfl) ?_
    refine sx_val (by kernel_rfl) rfl rfl (.bool false) (by kernel_rfl) ?_
    refine sx_val (by kernel_rfl) rfl rfl (.pointer (some ⟨W1.heap.size, 1, none⟩)) (by kernel_rfl) ?_
    refine sx_val (by kernel_rfl) rfl rfl (.int .i64 st) (ex_load1 rfl (M4.cell 1 rfl) (by kernel_rfl) Tryd.underlying3 rfl) ?_
    by_cases C2 : st < 0
    · refine sx_bool (by kernel_rfl) rfl rfl (decide (st < 0)) true (by kernel_rfl) (decide_eq_true (by omega)) ?_
      refine sx_val (by kernel_rfl) rfl rfl (.bool true) (by kernel_rfl) ?_
      refine sx_val (by kernel_rfl) rfl rfl (.bool true) (by kernel_rfl) ?_
      refine sx_skip (by kernel_rfl) rfl rfl ?_
      refine sx_skip (by kernel_rfl) rfl rfl ?_
      refine sx_skip (by kernel_rfl) rfl rfl ?_
      refine sx_val (by kernel_rfl) rfl rfl (.bool true) (by kernel_rfl) ?_
      refine wpList_nil ?_
      refine sx_norm ?_
      refine sx_true (by kernel_rfl) ?_
      refine wp_seq ?_
      refine wp_region_lit ?_
      refine sx_call (by kernel_rfl) rfl rfl (examples_n W5 (hT.belowD HB)) (by kernel_rfl) ?_
      rintro e W6 ⟨rfl, hb⟩
      replace HB := over HB hb
      replace M2 := M2.below hb
      replace M4 := M4.below hb
      have z4 := hb.size
      clear hb
      refine ⟨_, rfl, ?_⟩
      refine sx_val (by kernel_rfl) rfl rfl (.bool true) (by kernel_rfl) ?_
      refine wpList_nil ?_
      refine sx_norm ?_
      refine wp_ret ?_
      refine sx_rs ?_
      exact sx_ret1 (.bool true) rfl rfl (by kernel_rfl) ⟨rfl, HB⟩
    refine sx_bool (by kernel_rfl) rfl rfl (decide (st < 0)) false (by kernel_rfl) (decide_eq_false (by omega)) ?_
    refine sx_val (by kernel_rfl) rfl rfl (.bool false) (by kernel_rfl) ?_
    refine sx_val (by kernel_rfl) rfl rfl (.bool false) (by kernel_rfl) ?_
    refine sx_val (by kernel_rfl) rfl rfl (.pointer (some ⟨W1.heap.size, 1, none⟩)) (by kernel_rfl) ?_
    refine sx_val (by kernel_rfl) rfl rfl (.int .i64 st) (ex_load1 rfl (M4.cell 1 rfl) (by kernel_rfl) Tryd.underlying3 rfl) ?_
    by_cases C3 : st > 4096
    · refine sx_bool (by kernel_rfl) rfl rfl (decide (st > 4096)) true (by kernel_rfl) (decide_eq_true (by omega)) ?_
      refine sx_val (by kernel_rfl) rfl rfl (.bool true) (by kernel_rfl) ?_
      refine wpList_nil ?_
      refine sx_norm ?_
      refine sx_true (by kernel_rfl) ?_
      refine wp_seq ?_
      refine wp_region_lit ?_
      refine sx_call (by kernel_rfl) rfl rfl (examples_n W5 (hT.belowD HB)) (by kernel_rfl) ?_
      rintro e W7 ⟨rfl, hb⟩
      replace HB := over HB hb
      replace M2 := M2.below hb
      replace M4 := M4.below hb
      have z4 := hb.size
      clear hb
      refine ⟨_, rfl, ?_⟩
      refine sx_val (by kernel_rfl) rfl rfl (.bool true) (by kernel_rfl) ?_
      refine wpList_nil ?_
      refine sx_norm ?_
      refine wp_ret ?_
      refine sx_rs ?_
      exact sx_ret1 (.bool true) rfl rfl (by kernel_rfl) ⟨rfl, HB⟩
    refine sx_bool (by kernel_rfl) rfl rfl (decide (st > 4096)) false (by kernel_rfl) (decide_eq_false (by omega)) ?_
    refine sx_val (by kernel_rfl) rfl rfl (.bool false) (by kernel_rfl) ?_
    refine wpList_nil ?_
    refine sx_norm ?_
    refine sx_false (by kernel_rfl) ?_
    refine wp_skip ?_
    refine sx_norm ?_
    refine wp_seq ?_
    refine wp_region_lit ?_
    refine sx_val (by kernel_rfl) rfl rfl (.agg #[.int .i64 ty, .int .i64 st, .slice orr F.length cr, .slice oa l.length ca]) (ex_load rfl M4 (by kernel_rfl) Tryd.underlying34 rfl (by kernel_rfl)) ?_
    obtain ⟨W9, hW⟩ : ∃ W, (W5.alloc (.cells #[.int .i64 0, .int .i64 0, .slice none 0 0, .slice none 0 0] 34)).setRow W5.heap.size #[.int .i64 ty, .int .i64 st, .slice orr F.length cr, .slice oa l.length ca] = W := ⟨_, rfl⟩
    have hb := hW ▸ below_var W5 (.cells #[.int .i64 0, .int .i64 0, .slice none 0 0, .slice none 0 0] 34) #[.int .i64 ty, .int .i64 st, .slice orr F.length cr, .slice oa l.length ca]
    have hq : Cb W9 W5.heap.size #[.int .i64 ty, .int .i64 st, .slice orr F.length cr, .slice oa l.length ca] 34 := hW ▸ Cb.row (Cb.made W5 #[.int .i64 0, .int .i64 0, .slice none 0 0, .slice none 0 0] 34) _
    refine sx_mem (by kernel_rfl) rfl rfl (.pointer (some ⟨W5.heap.size, 0, none⟩)) (W5.alloc (.cells #[.int .i64 0, .int .i64 0, .slice none 0 0, .slice none 0 0] 34)) (by kernel_rfl) ?_
    refine sx_store (cells := #[.int .i64 ty, .int .i64 st, .slice orr F.length cr, .slice oa l.length ca]) (by kernel_rfl) rfl rfl (Cb.made W5 #[.int .i64 0, .int .i64 0, .slice none 0 0, .slice none 0 0] 34) (by kernel_rfl) (by kernel_rfl) (by kernel_rfl) (by kernel_rfl) (by kernel_rfl) ?_
    rw [hW]
    replace HB := over HB hb
    replace M2 := M2.below hb
    replace M4 := M4.below hb
    have z4 := hb.size
    have M8 := hq
    have yM8 := hq.lt
    clear hq hb hW
    refine wpList_nil ?_
    refine sx_norm ?_
    refine wp_seq ?_
    refine wp_region_lit ?_
    refine sx_val (by kernel_rfl) rfl rfl (.pointer (some ⟨W1.heap.size, 1, none⟩)) (by kernel_rfl) ?_
    refine sx_val (by kernel_rfl) rfl rfl (.int .i64 st) (ex_load1 rfl (M4.cell 1 rfl) (by kernel_rfl) Tryd.underlying3 rfl) ?_
    refine sx_val (by kernel_rfl) rfl rfl (.int .u8 (m)) (by kernel_rfl) ?_
    refine sx_int (by kernel_rfl) rfl rfl .i64 (IntKind.i64.wrap m) (m) (by kernel_rfl) (by rw [IntKind.wrap_i64]; omega) ?_
    refine sx_int (by kernel_rfl) rfl rfl .i64 (IntKind.i64.wrap (st + m)) ((st + m)) (by kernel_rfl) (by rw [IntKind.wrap_i64]; omega) ?_
    refine sx_val (by kernel_rfl) rfl rfl (.pointer (some ⟨W5.heap.size, 1, none⟩)) (by kernel_rfl) ?_
    refine sx_do (by kernel_rfl) rfl _ (ex_storeC (k := 1) (old := .int .i64 st) (v := .int .i64 (st + m)) rfl M8 (by kernel_rfl) (by kernel_rfl) (by kernel_rfl) (by kernel_rfl) (by kernel_rfl)) ?_
    obtain ⟨W10, hW⟩ : ∃ W, W9.setCell ⟨W5.heap.size, 1, none⟩ (.int .i64 (st + m)) = W := ⟨_, rfl⟩
    have hg : W9.grownBy W10 (some (W5.heap.size)) := hW ▸ grown_set _ _ _ _
    have hq : Cb W10 (W5.heap.size) #[.int .i64 ty, .int .i64 (st + m), .slice orr F.length cr, .slice oa l.length ca] 34 := hW ▸ M8.set 1 (.int .i64 (st + m))
    rw [hW]
    replace HB := HB.grown hg (by omega) (fun x e => by simp only [Option.some.injEq] at e; omega)
    replace M2 := M2.kept hg (by omega)
    replace M4 := M4.kept hg (by omega)
    have z5 := hg.size
    replace M8 := hq
    clear hq hg hW
    refine wpList_nil ?_
    refine sx_norm ?_
    refine wp_seq ?_
    refine wp_region_lit ?_
    refine sx_val (by kernel_rfl) rfl rfl (.agg #[.slice k.o0 x.pl.length k.c0, .slice k.o1 x.al.length k.c1, .slice k.o2 x.tl.length k.c2, .slice k.o3 x.ol.length k.c3, .slice k.o4 x.ap.length k.c4, .slice k.o5 x.be.length k.c5]) (ex_load rfl M2 (by kernel_rfl) Tryd.underlying30 rfl (by kernel_rfl)) ?_
    refine sx_val (by kernel_rfl) rfl rfl (.agg #[.int .i64 ty, .int .i64 st, .slice orr F.length cr, .slice oa l.length ca]) (ex_load rfl M4 (by kernel_rfl) Tryd.underlying34 rfl (by kernel_rfl)) ?_
    refine sx_val (by kernel_rfl) rfl rfl (.slice oR R.length cR) (by kernel_rfl) ?_
    by_cases C4 : (runE x ty st l R) = 0
    · refine sx_call (by kernel_rfl) rfl rfl ((by have h8 := drvRun_n k x ty st orr oa F.length cr ca b o l (fun hp => crs_ok hin hx.al hp) R oR cR bR qR W10 (hI.below HB) (hT.belowD HB) (hl.below HB) (hR.below HB); rw [C4] at h8; exact h8)) (by kernel_rfl) ?_
      rintro e W11 ⟨oA, cA, bA, qA, rfl, hSA, -, hb⟩
      have hlthSA : ∀ i, i < (runS x ty st l R).T.length → bA < W11.heap.size := fun i hi => hSA.lt hi
      replace HB := over HB hb
      replace M2 := M2.below hb
      replace M4 := M4.below hb
      replace M8 := M8.below hb
      have z6 := hb.size
      clear hb
      refine ⟨_, rfl, ?_⟩
      refine sx_val (by kernel_rfl) rfl rfl (.tuple #[.agg #[.bool (runS x ty st l R).r, .int .i64 ((runS x ty st l R).d), .slice oA (runS x ty st l R).T.length cA, .int .i64 ((runS x ty st l R).e), .int .i64 ((runS x ty st l R).m)], .int .i64 0]) (by kernel_rfl) ?_
      refine sx_val (by kernel_rfl) rfl rfl (.agg #[.bool (runS x ty st l R).r, .int .i64 ((runS x ty st l R).d), .slice oA (runS x ty st l R).T.length cA, .int .i64 ((runS x ty st l R).e), .int .i64 ((runS x ty st l R).m)]) (by kernel_rfl) ?_
      refine sx_val (by kernel_rfl) rfl rfl (.int .i64 0) (by kernel_rfl) ?_
      obtain ⟨W13, hW⟩ : ∃ W, (W11.alloc (.cells #[.bool false, .int .i64 0, .slice none 0 0, .int .i64 0, .int .i64 0] 39)).setRow W11.heap.size #[.bool (runS x ty st l R).r, .int .i64 ((runS x ty st l R).d), .slice oA (runS x ty st l R).T.length cA, .int .i64 ((runS x ty st l R).e), .int .i64 ((runS x ty st l R).m)] = W := ⟨_, rfl⟩
      have hb := hW ▸ below_var W11 (.cells #[.bool false, .int .i64 0, .slice none 0 0, .int .i64 0, .int .i64 0] 39) #[.bool (runS x ty st l R).r, .int .i64 ((runS x ty st l R).d), .slice oA (runS x ty st l R).T.length cA, .int .i64 ((runS x ty st l R).e), .int .i64 ((runS x ty st l R).m)]
      have hq : Cb W13 W11.heap.size #[.bool (runS x ty st l R).r, .int .i64 ((runS x ty st l R).d), .slice oA (runS x ty st l R).T.length cA, .int .i64 ((runS x ty st l R).e), .int .i64 ((runS x ty st l R).m)] 39 := hW ▸ Cb.row (Cb.made W11 #[.bool false, .int .i64 0, .slice none 0 0, .int .i64 0, .int .i64 0] 39) _
      refine sx_mem (by kernel_rfl) rfl rfl (.pointer (some ⟨W11.heap.size, 0, none⟩)) (W11.alloc (.cells #[.bool false, .int .i64 0, .slice none 0 0, .int .i64 0, .int .i64 0] 39)) (by kernel_rfl) ?_
      refine sx_store (cells := #[.bool (runS x ty st l R).r, .int .i64 ((runS x ty st l R).d), .slice oA (runS x ty st l R).T.length cA, .int .i64 ((runS x ty st l R).e), .int .i64 ((runS x ty st l R).m)]) (by kernel_rfl) rfl rfl (Cb.made W11 #[.bool false, .int .i64 0, .slice none 0 0, .int .i64 0, .int .i64 0] 39) (by kernel_rfl) (by kernel_rfl) (by kernel_rfl) (by kernel_rfl) (by kernel_rfl) ?_
      rw [hW]
      replace HB := over HB hb
      replace M2 := M2.below hb
      replace M4 := M4.below hb
      replace M8 := M8.below hb
      replace hSA := hSA.below hb
      have z7 := hb.size
      have M12 := hq
      have yM12 := hq.lt
      clear hq hb hW
      refine sx_val (by kernel_rfl) rfl rfl (.int .i64 0) (by kernel_rfl) ?_
      refine wpList_nil ?_
      refine sx_norm ?_
      refine wp_seq ?_
      refine wp_region_lit ?_
      refine sx_val (by kernel_rfl) rfl rfl (.agg #[.slice k.o0 x.pl.length k.c0, .slice k.o1 x.al.length k.c1, .slice k.o2 x.tl.length k.c2, .slice k.o3 x.ol.length k.c3, .slice k.o4 x.ap.length k.c4, .slice k.o5 x.be.length k.c5]) (ex_load rfl M2 (by kernel_rfl) Tryd.underlying30 rfl (by kernel_rfl)) ?_
      refine sx_val (by kernel_rfl) rfl rfl (.agg #[.int .i64 ty, .int .i64 (st + m), .slice orr F.length cr, .slice oa l.length ca]) (ex_load rfl M8 (by kernel_rfl) Tryd.underlying34 rfl (by kernel_rfl)) ?_
      refine sx_val (by kernel_rfl) rfl rfl (.slice oR R.length cR) (by kernel_rfl) ?_
      by_cases C5 : (runE x ty (st + m) l R) = 0
      · refine sx_call (by kernel_rfl) rfl rfl ((by have h8 := drvRun_n k x ty (st + m) orr oa F.length cr ca b o l (fun hp => crs_ok hin hx.al hp) R oR cR bR qR W13 (hI.below HB) (hT.belowD HB) (hl.below HB) (hR.below HB); rw [C5] at h8; exact h8)) (by kernel_rfl) ?_
        rintro e W14 ⟨oB, cB, bB, qB, rfl, hSB, -, hb⟩
        have hlthSB : ∀ i, i < (runS x ty (st + m) l R).T.length → bB < W14.heap.size := fun i hi => hSB.lt hi
        replace HB := over HB hb
        replace M2 := M2.below hb
        replace M4 := M4.below hb
        replace M8 := M8.below hb
        replace hSA := hSA.below hb
        replace M12 := M12.below hb
        have z8 := hb.size
        clear hb
        refine ⟨_, rfl, ?_⟩
        refine sx_val (by kernel_rfl) rfl rfl (.tuple #[.agg #[.bool (runS x ty (st + m) l R).r, .int .i64 ((runS x ty (st + m) l R).d), .slice oB (runS x ty (st + m) l R).T.length cB, .int .i64 ((runS x ty (st + m) l R).e), .int .i64 ((runS x ty (st + m) l R).m)], .int .i64 0]) (by kernel_rfl) ?_
        refine sx_val (by kernel_rfl) rfl rfl (.agg #[.bool (runS x ty (st + m) l R).r, .int .i64 ((runS x ty (st + m) l R).d), .slice oB (runS x ty (st + m) l R).T.length cB, .int .i64 ((runS x ty (st + m) l R).e), .int .i64 ((runS x ty (st + m) l R).m)]) (by kernel_rfl) ?_
        refine sx_val (by kernel_rfl) rfl rfl (.int .i64 0) (by kernel_rfl) ?_
        obtain ⟨W16, hW⟩ : ∃ W, (W14.alloc (.cells #[.bool false, .int .i64 0, .slice none 0 0, .int .i64 0, .int .i64 0] 39)).setRow W14.heap.size #[.bool (runS x ty (st + m) l R).r, .int .i64 ((runS x ty (st + m) l R).d), .slice oB (runS x ty (st + m) l R).T.length cB, .int .i64 ((runS x ty (st + m) l R).e), .int .i64 ((runS x ty (st + m) l R).m)] = W := ⟨_, rfl⟩
        have hb := hW ▸ below_var W14 (.cells #[.bool false, .int .i64 0, .slice none 0 0, .int .i64 0, .int .i64 0] 39) #[.bool (runS x ty (st + m) l R).r, .int .i64 ((runS x ty (st + m) l R).d), .slice oB (runS x ty (st + m) l R).T.length cB, .int .i64 ((runS x ty (st + m) l R).e), .int .i64 ((runS x ty (st + m) l R).m)]
        have hq : Cb W16 W14.heap.size #[.bool (runS x ty (st + m) l R).r, .int .i64 ((runS x ty (st + m) l R).d), .slice oB (runS x ty (st + m) l R).T.length cB, .int .i64 ((runS x ty (st + m) l R).e), .int .i64 ((runS x ty (st + m) l R).m)] 39 := hW ▸ Cb.row (Cb.made W14 #[.bool false, .int .i64 0, .slice none 0 0, .int .i64 0, .int .i64 0] 39) _
        refine sx_mem (by kernel_rfl) rfl rfl (.pointer (some ⟨W14.heap.size, 0, none⟩)) (W14.alloc (.cells #[.bool false, .int .i64 0, .slice none 0 0, .int .i64 0, .int .i64 0] 39)) (by kernel_rfl) ?_
        refine sx_store (cells := #[.bool (runS x ty (st + m) l R).r, .int .i64 ((runS x ty (st + m) l R).d), .slice oB (runS x ty (st + m) l R).T.length cB, .int .i64 ((runS x ty (st + m) l R).e), .int .i64 ((runS x ty (st + m) l R).m)]) (by kernel_rfl) rfl rfl (Cb.made W14 #[.bool false, .int .i64 0, .slice none 0 0, .int .i64 0, .int .i64 0] 39) (by kernel_rfl) (by kernel_rfl) (by kernel_rfl) (by kernel_rfl) (by kernel_rfl) ?_
        rw [hW]
        replace HB := over HB hb
        replace M2 := M2.below hb
        replace M4 := M4.below hb
        replace M8 := M8.below hb
        replace hSA := hSA.below hb
        replace M12 := M12.below hb
        replace hSB := hSB.below hb
        have z9 := hb.size
        have M15 := hq
        have yM15 := hq.lt
        clear hq hb hW
        refine sx_val (by kernel_rfl) rfl rfl (.int .i64 0) (by kernel_rfl) ?_
        refine wpList_nil ?_
        refine sx_norm ?_
        refine wp_seq ?_
        refine wp_seq ?_
        refine wp_region_lit ?_
        refine sx_val (by kernel_rfl) rfl rfl (.int .i64 0) (by kernel_rfl) ?_
        refine sx_val (by kernel_rfl) rfl rfl (.bool false) (by kernel_rfl) ?_
        refine sx_val (by kernel_rfl) rfl rfl (.bool false) (by kernel_rfl) ?_
        refine sx_val (by kernel_rfl) rfl rfl (.int .i64 0) (by kernel_rfl) ?_
        refine sx_val (by kernel_rfl) rfl rfl (.bool false) (by kernel_rfl) ?_
        refine sx_val (by kernel_rfl) rfl rfl (.bool false) (by kernel_rfl) ?_
        refine wpList_nil ?_
        refine sx_norm ?_
        refine sx_false (by kernel_rfl) ?_
        refine wp_skip ?_
        refine sx_norm ?_
        refine wp_seq ?_
        refine wp_seq ?_
        have hl20 := posD_len (runS_is C4).2.1
        have hlA := runS_len C4
        have hlB := runS_len C5
        obtain ⟨hmon, hme, hmm⟩ := run_later hin hx.al C4 C5 (by omega)
        refine wp_region_lit ?_
        refine sx_val (by kernel_rfl) rfl rfl (.pointer (some ⟨W11.heap.size, 2, none⟩)) (by kernel_rfl) ?_
        refine sx_val (by kernel_rfl) rfl rfl (.slice oA (runS x ty st l R).T.length cA) (ex_load1 rfl (M12.cell 2 rfl) (by kernel_rfl) Tryd.underlying37 rfl) ?_
        refine sx_val (by kernel_rfl) rfl rfl (.int .i64 (((runS x ty st l R).T.length : Nat) : Int)) (by kernel_rfl) ?_
        refine sx_val (by kernel_rfl) rfl rfl (.pointer (some ⟨W1.heap.size, 3, none⟩)) (by kernel_rfl) ?_
        refine sx_val (by kernel_rfl) rfl rfl (.slice oa l.length ca) (ex_load1 rfl (M4.cell 3 rfl) (by kernel_rfl) Tryd.underlying32 rfl) ?_
        refine sx_val (by kernel_rfl) rfl rfl (.int .i64 ((l.length : Nat) : Int)) (by kernel_rfl) ?_
        refine sx_bool (by kernel_rfl) rfl rfl (((((runS x ty st l R).T.length : Nat) : Int) : Int) != (((l.length : Nat) : Int) : Int)) false (by kernel_rfl) (by rw [bne_eq_false_iff_eq]; omega) ?_
        refine sx_val (by kernel_rfl) rfl rfl (.bool false) (by kernel_rfl) ?_
        refine sx_val (by kernel_rfl) rfl rfl (.pointer (some ⟨W14.heap.size, 2, none⟩)) (by kernel_rfl) ?_
        refine sx_val (by kernel_rfl) rfl rfl (.slice oB (runS x ty (st + m) l R).T.length cB) (ex_load1 rfl (M15.cell 2 rfl) (by kernel_rfl) Tryd.underlying37 rfl) ?_
        refine sx_val (by kernel_rfl) rfl rfl (.int .i64 (((runS x ty (st + m) l R).T.length : Nat) : Int)) (by kernel_rfl) ?_
        refine sx_val (by kernel_rfl) rfl rfl (.pointer (some ⟨W1.heap.size, 3, none⟩)) (by kernel_rfl) ?_
        refine sx_val (by kernel_rfl) rfl rfl (.slice oa l.length ca) (ex_load1 rfl (M4.cell 3 rfl) (by kernel_rfl) Tryd.underlying32 rfl) ?_
        refine sx_val (by kernel_rfl) rfl rfl (.int .i64 ((l.length : Nat) : Int)) (by kernel_rfl) ?_
        refine sx_bool (by kernel_rfl) rfl rfl (((((runS x ty (st + m) l R).T.length : Nat) : Int) : Int) != (((l.length : Nat) : Int) : Int)) false (by kernel_rfl) (by rw [bne_eq_false_iff_eq]; omega) ?_
        refine sx_val (by kernel_rfl) rfl rfl (.bool false) (by kernel_rfl) ?_
        refine wpList_nil ?_
        refine sx_norm ?_
        refine sx_false (by kernel_rfl) ?_
        refine wp_skip ?_
        refine sx_norm ?_
        refine wp_seq ?_
        refine wp_seq ?_
        refine wp_region_lit ?_
        refine sx_val (by kernel_rfl) rfl rfl (.pointer (some ⟨W11.heap.size, 2, none⟩)) (by kernel_rfl) ?_
        refine sx_val (by kernel_rfl) rfl rfl (.slice oA (runS x ty st l R).T.length cA) (ex_load1 rfl (M12.cell 2 rfl) (by kernel_rfl) Tryd.underlying37 rfl) ?_
        refine sx_val (by kernel_rfl) rfl rfl (.int .i64 (((runS x ty st l R).T.length : Nat) : Int)) (by kernel_rfl) ?_
        refine sx_val (by kernel_rfl) rfl rfl (.int .i64 0) (by kernel_rfl) ?_
        refine wpList_nil ?_
        refine sx_norm ?_
        refine wp_block ?_
        refine sx_loop (fun i : Nat => [(0, .agg #[.slice k.o0 x.pl.length k.c0, .slice k.o1 x.al.length k.c1, .slice k.o2 x.tl.length k.c2, .slice k.o3 x.ol.length k.c3, .slice k.o4 x.ap.length k.c4, .slice k.o5 x.be.length k.c5]), (1, .agg #[.int .i64 ty, .int .i64 st, .slice orr F.length cr, .slice oa l.length ca]), (2, .slice oR R.length cR), (3, .int .u8 (m)), (4, .pointer (some ⟨w.heap.size, 0, none⟩)), (5, .pointer (some ⟨W1.heap.size, 0, none⟩)), (9, .pointer (some ⟨W5.heap.size, 0, none⟩)), (10, .pointer (some ⟨W11.heap.size, 0, none⟩)), (11, .int .i64 0), (12, .pointer (some ⟨W14.heap.size, 0, none⟩)), (13, .int .i64 0), (15, .agg #[.slice k.o0 x.pl.length k.c0, .slice k.o1 x.al.length k.c1, .slice k.o2 x.tl.length k.c2, .slice k.o3 x.ol.length k.c3, .slice k.o4 x.ap.length k.c4, .slice k.o5 x.be.length k.c5]), (16, .bool true), (17, .bool false), (18, .bool false), (19, .pointer (some ⟨W1.heap.size, 1, none⟩)), (20, .int .i64 st), (21, .bool false), (22, .bool false), (23, .bool false), (24, .pointer (some ⟨W1.heap.size, 1, none⟩)), (25, .int .i64 st), (26, .bool false), (27, .bool false), (29, .agg #[.int .i64 ty, .int .i64 st, .slice orr F.length cr, .slice oa l.length ca]), (30, .pointer (some ⟨W1.heap.size, 1, none⟩)), (31, .int .i64 st), (32, .int .u8 (m)), (33, .int .i64 m), (34, .int .i64 (st + m)), (35, .pointer (some ⟨W5.heap.size, 1, none⟩)), (36, .tuple #[.agg #[.bool (runS x ty st l R).r, .int .i64 ((runS x ty st l R).d), .slice oA (runS x ty st l R).T.length cA, .int .i64 ((runS x ty st l R).e), .int .i64 ((runS x ty st l R).m)], .int .i64 0]), (37, .agg #[.slice k.o0 x.pl.length k.c0, .slice k.o1 x.al.length k.c1, .slice k.o2 x.tl.length k.c2, .slice k.o3 x.ol.length k.c3, .slice k.o4 x.ap.length k.c4, .slice k.o5 x.be.length k.c5]), (38, .agg #[.int .i64 ty, .int .i64 st, .slice orr F.length cr, .slice oa l.length ca]), (39, .slice oR R.length cR), (40, .tuple #[.agg #[.bool (runS x ty st l R).r, .int .i64 ((runS x ty st l R).d), .slice oA (runS x ty st l R).T.length cA, .int .i64 ((runS x ty st l R).e), .int .i64 ((runS x ty st l R).m)], .int .i64 0]), (41, .agg #[.bool (runS x ty st l R).r, .int .i64 ((runS x ty st l R).d), .slice oA (runS x ty st l R).T.length cA, .int .i64 ((runS x ty st l R).e), .int .i64 ((runS x ty st l R).m)]), (42, .int .i64 0), (43, .tuple #[.agg #[.bool (runS x ty (st + m) l R).r, .int .i64 ((runS x ty (st + m) l R).d), .slice oB (runS x ty (st + m) l R).T.length cB, .int .i64 ((runS x ty (st + m) l R).e), .int .i64 ((runS x ty (st + m) l R).m)], .int .i64 0]), (44, .agg #[.slice k.o0 x.pl.length k.c0, .slice k.o1 x.al.length k.c1, .slice k.o2 x.tl.length k.c2, .slice k.o3 x.ol.length k.c3, .slice k.o4 x.ap.length k.c4, .slice k.o5 x.be.length k.c5]), (45, .agg #[.int .i64 ty, .int .i64 (st + m), .slice orr F.length cr, .slice oa l.length ca]), (46, .slice oR R.length cR), (47, .tuple #[.agg #[.bool (runS x ty (st + m) l R).r, .int .i64 ((runS x ty (st + m) l R).d), .slice oB (runS x ty (st + m) l R).T.length cB, .int .i64 ((runS x ty (st + m) l R).e), .int .i64 ((runS x ty (st + m) l R).m)], .int .i64 0]), (48, .agg #[.bool (runS x ty (st + m) l R).r, .int .i64 ((runS x ty (st + m) l R).d), .slice oB (runS x ty (st + m) l R).T.length cB, .int .i64 ((runS x ty (st + m) l R).e), .int .i64 ((runS x ty (st + m) l R).m)]), (49, .int .i64 0), (50, .int .i64 0), (51, .bool false), (52, .bool false), (53, .int .i64 0), (54, .bool false), (55, .bool false), (57, .pointer (some ⟨W11.heap.size, 2, none⟩)), (58, .slice oA (runS x ty st l R).T.length cA), (59, .int .i64 (((runS x ty st l R).T.length : Nat) : Int)), (60, .pointer (some ⟨W1.heap.size, 3, none⟩)), (61, .slice oa l.length ca), (62, .int .i64 ((l.length : Nat) : Int)), (63, .bool false), (64, .bool false), (65, .pointer (some ⟨W14.heap.size, 2, none⟩)), (66, .slice oB (runS x ty (st + m) l R).T.length cB), (67, .int .i64 (((runS x ty (st + m) l R).T.length : Nat) : Int)), (68, .pointer (some ⟨W1.heap.size, 3, none⟩)), (69, .slice oa l.length ca), (70, .int .i64 ((l.length : Nat) : Int)), (71, .bool false), (72, .bool false), (73, .pointer (some ⟨W11.heap.size, 2, none⟩)), (74, .slice oA (runS x ty st l R).T.length cA), (75, .int .i64 (((runS x ty st l R).T.length : Nat) : Int)), (76, .int .i64 ((i : Nat) : Int))]) (fun gg i wr => i ≤ l.length ∧ l.length - i ≤ gg ∧ Below W16.heap.size W16 wr) (l.length) (0) (by kernel_rfl) ⟨Nat.zero_le _, Nat.le_refl _, Below.refl _ _⟩ ?_
        rintro gg i g' wr17 ⟨hi, hg, hbl⟩
        replace HB := over HB hbl
        replace M2 := M2.below hbl
        replace M4 := M4.below hbl
        replace M8 := M8.below hbl
        replace hSA := hSA.below hbl
        replace M12 := M12.below hbl
        replace hSB := hSB.below hbl
        replace M15 := M15.below hbl
        have z10 := hbl.size
        have HL := hbl
        clear hbl
        refine wp_seq ?_
        refine wp_region_lit ?_
        by_cases C6 : i < (runS x ty st l R).T.length
        · refine sx_bool (by kernel_rfl) rfl rfl (decide (((i : Nat) : Int) < (((runS x ty st l R).T.length : Nat) : Int))) true (by kernel_rfl) (decide_eq_true (by omega)) ?_
          refine wpList_nil ?_
          refine sx_norm ?_
          refine wp_seq ?_
          refine sx_true (by kernel_rfl) ?_
          refine wp_skip ?_
          refine sx_norm ?_
          refine wp_seq ?_
          refine wp_block ?_
          refine wp_seq ?_
          refine wp_region_lit ?_
          refine sx_val (by kernel_rfl) rfl rfl (.int .i64 ((i : Nat) : Int)) (by kernel_rfl) ?_
          refine sx_val (by kernel_rfl) rfl rfl (.int .i64 ((i : Nat) : Int)) (by kernel_rfl) ?_
          refine wpList_nil ?_
          refine sx_norm ?_
          refine wp_seq ?_
          have hm9 := hmon i (by omega)
          obtain ⟨Y18, hW⟩ : ∃ W, wr17.drew = W := ⟨_, rfl⟩
          have hb : Below wr17.heap.size wr17 Y18 := hW ▸ below_drew (Below.refl _ _)
          replace HB := over HB hb
          replace M2 := M2.below hb
          replace M4 := M4.below hb
          replace M8 := M8.below hb
          replace hSA := hSA.below hb
          replace M12 := M12.below hb
          replace hSB := hSB.below hb
          replace M15 := M15.below hb
          replace HL := over HL hb
          have z11 := hb.size
          clear hb
          refine sd_begin (fun W => Cb W (w.heap.size) #[.slice k.o0 x.pl.length k.c0, .slice k.o1 x.al.length k.c1, .slice k.o2 x.tl.length k.c2, .slice k.o3 x.ol.length k.c3, .slice k.o4 x.ap.length k.c4, .slice k.o5 x.be.length k.c5] 30 ∧ Cb W (W1.heap.size) #[.int .i64 ty, .int .i64 st, .slice orr F.length cr, .slice oa l.length ca] 34 ∧ Cb W (W5.heap.size) #[.int .i64 ty, .int .i64 (st + m), .slice orr F.length cr, .slice oa l.length ca] 34 ∧ Rw W bA qA 4 (fun k => tmE ((runS x ty st l R).T.getD k tm0)) ((runS x ty st l R).T.length) oA ∧ Cb W (W11.heap.size) #[.bool (runS x ty st l R).r, .int .i64 ((runS x ty st l R).d), .slice oA (runS x ty st l R).T.length cA, .int .i64 ((runS x ty st l R).e), .int .i64 ((runS x ty st l R).m)] 39 ∧ Rw W bB qB 4 (fun k => tmE ((runS x ty (st + m) l R).T.getD k tm0)) ((runS x ty (st + m) l R).T.length) oB ∧ Cb W (W14.heap.size) #[.bool (runS x ty (st + m) l R).r, .int .i64 ((runS x ty (st + m) l R).d), .slice oB (runS x ty (st + m) l R).T.length cB, .int .i64 ((runS x ty (st + m) l R).e), .int .i64 ((runS x ty (st + m) l R).m)] 39 ∧ True) (by kernel_rfl) (by rw [hW]; exact ⟨M2, M4, M8, hSA, M12, hSB, M15, trivial⟩) ?_
          rw [hW]
          clear hW
          refine sd_take 0 rfl (by kernel_rfl) (by kernel_rfl) (by kernel_rfl) (by kernel_rfl) rfl rfl (.pointer (some ⟨W14.heap.size, 2, none⟩)) (fun w9 _ => by kernel_rfl) (fun _ _ _ h => h) ⟨M2, M4, M8, hSA, M12, hSB, M15, trivial⟩ ?_
          refine sd_take 1 rfl (by kernel_rfl) (by kernel_rfl) (by kernel_rfl) (by kernel_rfl) rfl rfl (.slice oB (runS x ty (st + m) l R).T.length cB) (fun w9 h9 => ex_load1 rfl (h9.2.2.2.2.2.2.1.cell 2 rfl) (by kernel_rfl) Tryd.underlying37 rfl) (fun _ _ _ h => h) ⟨M2, M4, M8, hSA, M12, hSB, M15, trivial⟩ ?_
          refine sd_take 2 rfl (by kernel_rfl) (by kernel_rfl) (by kernel_rfl) (by kernel_rfl) rfl rfl (.int .i64 ((i : Nat) : Int)) (fun w9 _ => by kernel_rfl) (fun _ _ _ h => h) ⟨M2, M4, M8, hSA, M12, hSB, M15, trivial⟩ ?_
          refine sd_take 3 rfl (by kernel_rfl) (by kernel_rfl) (by kernel_rfl) (by kernel_rfl) rfl rfl (.pointer (some ⟨bB, qB + i * 4, none⟩)) (fun w9 h9 => ex_indexO (q := qB) (m := (runS x ty (st + m) l R).T.length) (c := cB) (k := i) (s := 4) rfl (by kernel_rfl) (h9.2.2.2.2.2.1.oa (k := i) (by omega)) (by kernel_rfl) Tryd.underlying37 (by kernel_rfl) (by omega) (by omega)) (fun _ _ _ h => h) ⟨M2, M4, M8, hSA, M12, hSB, M15, trivial⟩ ?_
          refine sd_take 4 rfl (by kernel_rfl) (by kernel_rfl) (by kernel_rfl) (by kernel_rfl) rfl rfl (.pointer (some ⟨bB, qB + i * 4, none⟩)) (fun w9 _ => by kernel_rfl) (fun _ _ _ h => h) ⟨M2, M4, M8, hSA, M12, hSB, M15, trivial⟩ ?_
          refine sd_take 5 rfl (by kernel_rfl) (by kernel_rfl) (by kernel_rfl) (by kernel_rfl) rfl rfl (.int .i64 (((runS x ty (st + m) l R).T.getD i tm0).a)) (fun w9 h9 => ex_load1 rfl (h9.2.2.2.2.2.1.cell (k := i) (by omega) 0 rfl) (by kernel_rfl) Tryd.underlying3 rfl) (fun _ _ _ h => h) ⟨M2, M4, M8, hSA, M12, hSB, M15, trivial⟩ ?_
          refine sd_take 6 rfl (by kernel_rfl) (by kernel_rfl) (by kernel_rfl) (by kernel_rfl) rfl rfl (.pointer (some ⟨W11.heap.size, 2, none⟩)) (fun w9 _ => by kernel_rfl) (fun _ _ _ h => h) ⟨M2, M4, M8, hSA, M12, hSB, M15, trivial⟩ ?_
          refine sd_take 7 rfl (by kernel_rfl) (by kernel_rfl) (by kernel_rfl) (by kernel_rfl) rfl rfl (.slice oA (runS x ty st l R).T.length cA) (fun w9 h9 => ex_load1 rfl (h9.2.2.2.2.1.cell 2 rfl) (by kernel_rfl) Tryd.underlying37 rfl) (fun _ _ _ h => h) ⟨M2, M4, M8, hSA, M12, hSB, M15, trivial⟩ ?_
          refine sd_take 8 rfl (by kernel_rfl) (by kernel_rfl) (by kernel_rfl) (by kernel_rfl) rfl rfl (.int .i64 ((i : Nat) : Int)) (fun w9 _ => by kernel_rfl) (fun _ _ _ h => h) ⟨M2, M4, M8, hSA, M12, hSB, M15, trivial⟩ ?_
          refine sd_take 9 rfl (by kernel_rfl) (by kernel_rfl) (by kernel_rfl) (by kernel_rfl) rfl rfl (.pointer (some ⟨bA, qA + i * 4, none⟩)) (fun w9 h9 => ex_indexO (q := qA) (m := (runS x ty st l R).T.length) (c := cA) (k := i) (s := 4) rfl (by kernel_rfl) (h9.2.2.2.1.oa (k := i) (by omega)) (by kernel_rfl) Tryd.underlying37 (by kernel_rfl) (by omega) (by omega)) (fun _ _ _ h => h) ⟨M2, M4, M8, hSA, M12, hSB, M15, trivial⟩ ?_
          refine sd_take 10 rfl (by kernel_rfl) (by kernel_rfl) (by kernel_rfl) (by kernel_rfl) rfl rfl (.pointer (some ⟨bA, qA + i * 4, none⟩)) (fun w9 _ => by kernel_rfl) (fun _ _ _ h => h) ⟨M2, M4, M8, hSA, M12, hSB, M15, trivial⟩ ?_
          refine sd_take 11 rfl (by kernel_rfl) (by kernel_rfl) (by kernel_rfl) (by kernel_rfl) rfl rfl (.int .i64 (((runS x ty st l R).T.getD i tm0).a)) (fun w9 h9 => ex_load1 rfl (h9.2.2.2.1.cell (k := i) (by omega) 0 rfl) (by kernel_rfl) Tryd.underlying3 rfl) (fun _ _ _ h => h) ⟨M2, M4, M8, hSA, M12, hSB, M15, trivial⟩ ?_
          refine sd_take 12 rfl (by kernel_rfl) (by kernel_rfl) (by kernel_rfl) (by kernel_rfl) rfl rfl (.bool false) (fun w9 _ => ex_bool (decide (((runS x ty (st + m) l R).T.getD i tm0).a < ((runS x ty st l R).T.getD i tm0).a)) false (by kernel_rfl) (decide_eq_false (by omega))) (fun _ _ _ h => h) ⟨M2, M4, M8, hSA, M12, hSB, M15, trivial⟩ ?_
          refine sd_take 13 rfl (by kernel_rfl) (by kernel_rfl) (by kernel_rfl) (by kernel_rfl) rfl rfl (.bool false) (fun w9 _ => by kernel_rfl) (fun _ _ _ h => h) ⟨M2, M4, M8, hSA, M12, hSB, M15, trivial⟩ ?_
          refine sd_take 14 rfl (by kernel_rfl) (by kernel_rfl) (by kernel_rfl) (by kernel_rfl) rfl rfl (.pointer (some ⟨W14.heap.size, 2, none⟩)) (fun w9 _ => by kernel_rfl) (fun _ _ _ h => h) ⟨M2, M4, M8, hSA, M12, hSB, M15, trivial⟩ ?_
          refine sd_take 15 rfl (by kernel_rfl) (by kernel_rfl) (by kernel_rfl) (by kernel_rfl) rfl rfl (.slice oB (runS x ty (st + m) l R).T.length cB) (fun w9 h9 => ex_load1 rfl (h9.2.2.2.2.2.2.1.cell 2 rfl) (by kernel_rfl) Tryd.underlying37 rfl) (fun _ _ _ h => h) ⟨M2, M4, M8, hSA, M12, hSB, M15, trivial⟩ ?_
          refine sd_take 16 rfl (by kernel_rfl) (by kernel_rfl) (by kernel_rfl) (by kernel_rfl) rfl rfl (.int .i64 ((i : Nat) : Int)) (fun w9 _ => by kernel_rfl) (fun _ _ _ h => h) ⟨M2, M4, M8, hSA, M12, hSB, M15, trivial⟩ ?_
          refine sd_take 17 rfl (by kernel_rfl) (by kernel_rfl) (by kernel_rfl) (by kernel_rfl) rfl rfl (.pointer (some ⟨bB, qB + i * 4, none⟩)) (fun w9 h9 => ex_indexO (q := qB) (m := (runS x ty (st + m) l R).T.length) (c := cB) (k := i) (s := 4) rfl (by kernel_rfl) (h9.2.2.2.2.2.1.oa (k := i) (by omega)) (by kernel_rfl) Tryd.underlying37 (by kernel_rfl) (by omega) (by omega)) (fun _ _ _ h => h) ⟨M2, M4, M8, hSA, M12, hSB, M15, trivial⟩ ?_
          refine sd_take 18 rfl (by kernel_rfl) (by kernel_rfl) (by kernel_rfl) (by kernel_rfl) rfl rfl (.pointer (some ⟨bB, qB + i * 4 + 2, none⟩)) (fun w9 _ => by kernel_rfl) (fun _ _ _ h => h) ⟨M2, M4, M8, hSA, M12, hSB, M15, trivial⟩ ?_
          refine sd_take 19 rfl (by kernel_rfl) (by kernel_rfl) (by kernel_rfl) (by kernel_rfl) rfl rfl (.int .i64 (((runS x ty (st + m) l R).T.getD i tm0).d)) (fun w9 h9 => ex_load1 rfl (h9.2.2.2.2.2.1.cell (k := i) (by omega) 2 rfl) (by kernel_rfl) Tryd.underlying3 rfl) (fun _ _ _ h => h) ⟨M2, M4, M8, hSA, M12, hSB, M15, trivial⟩ ?_
          refine sd_take 20 rfl (by kernel_rfl) (by kernel_rfl) (by kernel_rfl) (by kernel_rfl) rfl rfl (.pointer (some ⟨W11.heap.size, 2, none⟩)) (fun w9 _ => by kernel_rfl) (fun _ _ _ h => h) ⟨M2, M4, M8, hSA, M12, hSB, M15, trivial⟩ ?_
          refine sd_take 21 rfl (by kernel_rfl) (by kernel_rfl) (by kernel_rfl) (by kernel_rfl) rfl rfl (.slice oA (runS x ty st l R).T.length cA) (fun w9 h9 => ex_load1 rfl (h9.2.2.2.2.1.cell 2 rfl) (by kernel_rfl) Tryd.underlying37 rfl) (fun _ _ _ h => h) ⟨M2, M4, M8, hSA, M12, hSB, M15, trivial⟩ ?_
          refine sd_take 22 rfl (by kernel_rfl) (by kernel_rfl) (by kernel_rfl) (by kernel_rfl) rfl rfl (.int .i64 ((i : Nat) : Int)) (fun w9 _ => by kernel_rfl) (fun _ _ _ h => h) ⟨M2, M4, M8, hSA, M12, hSB, M15, trivial⟩ ?_
          refine sd_take 23 rfl (by kernel_rfl) (by kernel_rfl) (by kernel_rfl) (by kernel_rfl) rfl rfl (.pointer (some ⟨bA, qA + i * 4, none⟩)) (fun w9 h9 => ex_indexO (q := qA) (m := (runS x ty st l R).T.length) (c := cA) (k := i) (s := 4) rfl (by kernel_rfl) (h9.2.2.2.1.oa (k := i) (by omega)) (by kernel_rfl) Tryd.underlying37 (by kernel_rfl) (by omega) (by omega)) (fun _ _ _ h => h) ⟨M2, M4, M8, hSA, M12, hSB, M15, trivial⟩ ?_
          refine sd_take 24 rfl (by kernel_rfl) (by kernel_rfl) (by kernel_rfl) (by kernel_rfl) rfl rfl (.pointer (some ⟨bA, qA + i * 4 + 2, none⟩)) (fun w9 _ => by kernel_rfl) (fun _ _ _ h => h) ⟨M2, M4, M8, hSA, M12, hSB, M15, trivial⟩ ?_
          refine sd_take 25 rfl (by kernel_rfl) (by kernel_rfl) (by kernel_rfl) (by kernel_rfl) rfl rfl (.int .i64 (((runS x ty st l R).T.getD i tm0).d)) (fun w9 h9 => ex_load1 rfl (h9.2.2.2.1.cell (k := i) (by omega) 2 rfl) (by kernel_rfl) Tryd.underlying3 rfl) (fun _ _ _ h => h) ⟨M2, M4, M8, hSA, M12, hSB, M15, trivial⟩ ?_
          refine sd_take 26 rfl (by kernel_rfl) (by kernel_rfl) (by kernel_rfl) (by kernel_rfl) rfl rfl (.bool false) (fun w9 _ => ex_bool (decide (((runS x ty (st + m) l R).T.getD i tm0).d < ((runS x ty st l R).T.getD i tm0).d)) false (by kernel_rfl) (decide_eq_false (by omega))) (fun _ _ _ h => h) ⟨M2, M4, M8, hSA, M12, hSB, M15, trivial⟩ ?_
          refine sd_take 27 rfl (by kernel_rfl) (by kernel_rfl) (by kernel_rfl) (by kernel_rfl) rfl rfl (.bool false) (fun w9 _ => by kernel_rfl) (fun _ _ _ h => h) ⟨M2, M4, M8, hSA, M12, hSB, M15, trivial⟩ ?_
          refine sd_done (by kernel_rfl) ?_
          refine sx_norm ?_
          refine sx_false (by kernel_rfl) ?_
          refine wp_skip ?_
          refine sx_in ?_
          refine sx_norm ?_
          refine wp_region_lit ?_
          refine sx_int (by kernel_rfl) rfl rfl .i64 (IntKind.i64.wrap (((i : Nat) : Int) + 1)) (((i + 1 : Nat) : Int)) (by kernel_rfl) (by rw [IntKind.wrap_i64]; omega) ?_
          refine sx_val (by kernel_rfl) rfl rfl (.int .i64 ((i + 1 : Nat) : Int)) (by kernel_rfl) ?_
          refine wpList_nil ?_
          refine sx_norm ?_
          exact sx_again (l.length - (i + 1)) (i + 1) (by omega) (by kernel_rfl) ⟨by omega, Nat.le_refl _, HL⟩
        refine sx_bool (by kernel_rfl) rfl rfl (decide (((i : Nat) : Int) < (((runS x ty st l R).T.length : Nat) : Int))) false (by kernel_rfl) (decide_eq_false (by omega)) ?_
        refine wpList_nil ?_
        refine sx_norm ?_
        refine wp_seq ?_
        refine sx_false (by kernel_rfl) ?_
        refine wp_exit ?_
        refine sx_es ?_
        refine sx_es ?_
        refine sx_out ?_
        refine sx_norm ?_
        refine wp_seq ?_
        refine wp_region_lit ?_
        refine sx_val (by kernel_rfl) rfl rfl (.pointer (some ⟨W11.heap.size, 3, none⟩)) (by kernel_rfl) ?_
        refine sx_val (by kernel_rfl) rfl rfl (.int .i64 ((runS x ty st l R).e)) (ex_load1 rfl (M12.cell 3 rfl) (by kernel_rfl) Tryd.underlying3 rfl) ?_
        refine sx_val (by kernel_rfl) rfl rfl (.pointer (some ⟨W14.heap.size, 3, none⟩)) (by kernel_rfl) ?_
        refine sx_val (by kernel_rfl) rfl rfl (.int .i64 ((runS x ty (st + m) l R).e)) (ex_load1 rfl (M15.cell 3 rfl) (by kernel_rfl) Tryd.underlying3 rfl) ?_
        refine sx_bool (by kernel_rfl) rfl rfl (decide ((runS x ty st l R).e ≤ (runS x ty (st + m) l R).e)) true (by kernel_rfl) (decide_eq_true (by omega)) ?_
        refine sx_val (by kernel_rfl) rfl rfl (.bool true) (by kernel_rfl) ?_
        refine sx_val (by kernel_rfl) rfl rfl (.pointer (some ⟨W11.heap.size, 4, none⟩)) (by kernel_rfl) ?_
        refine sx_val (by kernel_rfl) rfl rfl (.int .i64 ((runS x ty st l R).m)) (ex_load1 rfl (M12.cell 4 rfl) (by kernel_rfl) Tryd.underlying3 rfl) ?_
        refine sx_val (by kernel_rfl) rfl rfl (.pointer (some ⟨W14.heap.size, 4, none⟩)) (by kernel_rfl) ?_
        refine sx_val (by kernel_rfl) rfl rfl (.int .i64 ((runS x ty (st + m) l R).m)) (ex_load1 rfl (M15.cell 4 rfl) (by kernel_rfl) Tryd.underlying3 rfl) ?_
        refine sx_bool (by kernel_rfl) rfl rfl (((runS x ty st l R).m : Int) == ((runS x ty (st + m) l R).m : Int)) true (by kernel_rfl) (beq_iff_eq.2 (by omega)) ?_
        refine sx_val (by kernel_rfl) rfl rfl (.bool true) (by kernel_rfl) ?_
        refine sx_val (by kernel_rfl) rfl rfl (.bool true) (by kernel_rfl) ?_
        refine sx_call (by kernel_rfl) rfl rfl (examples_n wr17 (hT.belowD HB)) (by kernel_rfl) ?_
        rintro e W19 ⟨rfl, hb⟩
        replace HB := over HB hb
        replace M2 := M2.below hb
        replace M4 := M4.below hb
        replace M8 := M8.below hb
        replace hSA := hSA.below hb
        replace M12 := M12.below hb
        replace hSB := hSB.below hb
        replace M15 := M15.below hb
        replace HL := over HL hb
        have z11 := hb.size
        clear hb
        refine ⟨_, rfl, ?_⟩
        refine sx_val (by kernel_rfl) rfl rfl (.bool true) (by kernel_rfl) ?_
        refine sx_val (by kernel_rfl) rfl rfl (.bool true) (by kernel_rfl) ?_
        refine wpList_nil ?_
        refine sx_norm ?_
        refine wp_ret ?_
        exact sx_ret1 (.bool true) rfl rfl (by kernel_rfl) ⟨rfl, HB⟩
      refine sx_call (by kernel_rfl) rfl rfl ((by have h8 := drvRun_n k x ty (st + m) orr oa F.length cr ca b o l (fun hp => crs_ok hin hx.al hp) R oR cR bR qR W13 (hI.below HB) (hT.belowD HB) (hl.below HB) (hR.below HB); exact h8)) (by kernel_rfl) ?_
      rintro e W20 ⟨oB, cB, bB, qB, rfl, hSB, -, hb⟩
      have hlthSB : ∀ i, i < (runS x ty (st + m) l R).T.length → bB < W20.heap.size := fun i hi => hSB.lt hi
      replace HB := over HB hb
      replace M2 := M2.below hb
      replace M4 := M4.below hb
      replace M8 := M8.below hb
      replace hSA := hSA.below hb
      replace M12 := M12.below hb
      have z8 := hb.size
      clear hb
      refine ⟨_, rfl, ?_⟩
      refine sx_val (by kernel_rfl) rfl rfl (.tuple #[.agg #[.bool (runS x ty (st + m) l R).r, .int .i64 ((runS x ty (st + m) l R).d), .slice oB (runS x ty (st + m) l R).T.length cB, .int .i64 ((runS x ty (st + m) l R).e), .int .i64 ((runS x ty (st + m) l R).m)], .int .i64 (runE x ty (st + m) l R)]) (by kernel_rfl) ?_
      refine sx_val (by kernel_rfl) rfl rfl (.agg #[.bool (runS x ty (st + m) l R).r, .int .i64 ((runS x ty (st + m) l R).d), .slice oB (runS x ty (st + m) l R).T.length cB, .int .i64 ((runS x ty (st + m) l R).e), .int .i64 ((runS x ty (st + m) l R).m)]) (by kernel_rfl) ?_
      refine sx_val (by kernel_rfl) rfl rfl (.int .i64 (runE x ty (st + m) l R)) (by kernel_rfl) ?_
      obtain ⟨W22, hW⟩ : ∃ W, (W20.alloc (.cells #[.bool false, .int .i64 0, .slice none 0 0, .int .i64 0, .int .i64 0] 39)).setRow W20.heap.size #[.bool (runS x ty (st + m) l R).r, .int .i64 ((runS x ty (st + m) l R).d), .slice oB (runS x ty (st + m) l R).T.length cB, .int .i64 ((runS x ty (st + m) l R).e), .int .i64 ((runS x ty (st + m) l R).m)] = W := ⟨_, rfl⟩
      have hb := hW ▸ below_var W20 (.cells #[.bool false, .int .i64 0, .slice none 0 0, .int .i64 0, .int .i64 0] 39) #[.bool (runS x ty (st + m) l R).r, .int .i64 ((runS x ty (st + m) l R).d), .slice oB (runS x ty (st + m) l R).T.length cB, .int .i64 ((runS x ty (st + m) l R).e), .int .i64 ((runS x ty (st + m) l R).m)]
      have hq : Cb W22 W20.heap.size #[.bool (runS x ty (st + m) l R).r, .int .i64 ((runS x ty (st + m) l R).d), .slice oB (runS x ty (st + m) l R).T.length cB, .int .i64 ((runS x ty (st + m) l R).e), .int .i64 ((runS x ty (st + m) l R).m)] 39 := hW ▸ Cb.row (Cb.made W20 #[.bool false, .int .i64 0, .slice none 0 0, .int .i64 0, .int .i64 0] 39) _
      refine sx_mem (by kernel_rfl) rfl rfl (.pointer (some ⟨W20.heap.size, 0, none⟩)) (W20.alloc (.cells #[.bool false, .int .i64 0, .slice none 0 0, .int .i64 0, .int .i64 0] 39)) (by kernel_rfl) ?_
      refine sx_store (cells := #[.bool (runS x ty (st + m) l R).r, .int .i64 ((runS x ty (st + m) l R).d), .slice oB (runS x ty (st + m) l R).T.length cB, .int .i64 ((runS x ty (st + m) l R).e), .int .i64 ((runS x ty (st + m) l R).m)]) (by kernel_rfl) rfl rfl (Cb.made W20 #[.bool false, .int .i64 0, .slice none 0 0, .int .i64 0, .int .i64 0] 39) (by kernel_rfl) (by kernel_rfl) (by kernel_rfl) (by kernel_rfl) (by kernel_rfl) ?_
      rw [hW]
      replace HB := over HB hb
      replace M2 := M2.below hb
      replace M4 := M4.below hb
      replace M8 := M8.below hb
      replace hSA := hSA.below hb
      replace M12 := M12.below hb
      replace hSB := hSB.below hb
      have z9 := hb.size
      have M21 := hq
      have yM21 := hq.lt
      clear hq hb hW
      refine sx_val (by kernel_rfl) rfl rfl (.int .i64 (runE x ty (st + m) l R)) (by kernel_rfl) ?_
      refine wpList_nil ?_
      refine sx_norm ?_
      refine wp_seq ?_
      refine wp_seq ?_
      refine wp_region_lit ?_
      refine sx_val (by kernel_rfl) rfl rfl (.int .i64 0) (by kernel_rfl) ?_
      refine sx_val (by kernel_rfl) rfl rfl (.bool false) (by kernel_rfl) ?_
      refine sx_val (by kernel_rfl) rfl rfl (.bool false) (by kernel_rfl) ?_
      refine sx_val (by kernel_rfl) rfl rfl (.int .i64 (runE x ty (st + m) l R)) (by kernel_rfl) ?_
      refine sx_bool (by kernel_rfl) rfl rfl (((runE x ty (st + m) l R) : Int) != (0 : Int)) true (by kernel_rfl) (bne_iff_ne.2 (by omega)) ?_
      refine sx_val (by kernel_rfl) rfl rfl (.bool true) (by kernel_rfl) ?_
      refine wpList_nil ?_
      refine sx_norm ?_
      refine sx_true (by kernel_rfl) ?_
      refine wp_seq ?_
      refine wp_region_lit ?_
      refine sx_call (by kernel_rfl) rfl rfl (examples_n W22 (hT.belowD HB)) (by kernel_rfl) ?_
      rintro e W23 ⟨rfl, hb⟩
      replace HB := over HB hb
      replace M2 := M2.below hb
      replace M4 := M4.below hb
      replace M8 := M8.below hb
      replace hSA := hSA.below hb
      replace M12 := M12.below hb
      replace hSB := hSB.below hb
      replace M21 := M21.below hb
      have z10 := hb.size
      clear hb
      refine ⟨_, rfl, ?_⟩
      refine sx_val (by kernel_rfl) rfl rfl (.bool true) (by kernel_rfl) ?_
      refine wpList_nil ?_
      refine sx_norm ?_
      refine wp_ret ?_
      refine sx_rs ?_
      exact sx_ret1 (.bool true) rfl rfl (by kernel_rfl) ⟨rfl, HB⟩
    refine sx_call (by kernel_rfl) rfl rfl ((by have h8 := drvRun_n k x ty st orr oa F.length cr ca b o l (fun hp => crs_ok hin hx.al hp) R oR cR bR qR W10 (hI.below HB) (hT.belowD HB) (hl.below HB) (hR.below HB); exact h8)) (by kernel_rfl) ?_
    rintro e W24 ⟨oA, cA, bA, qA, rfl, hSA, -, hb⟩
    have hlthSA : ∀ i, i < (runS x ty st l R).T.length → bA < W24.heap.size := fun i hi => hSA.lt hi
    replace HB := over HB hb
    replace M2 := M2.below hb
    replace M4 := M4.below hb
    replace M8 := M8.below hb
    have z6 := hb.size
    clear hb
    refine ⟨_, rfl, ?_⟩
    refine sx_val (by kernel_rfl) rfl rfl (.tuple #[.agg #[.bool (runS x ty st l R).r, .int .i64 ((runS x ty st l R).d), .slice oA (runS x ty st l R).T.length cA, .int .i64 ((runS x ty st l R).e), .int .i64 ((runS x ty st l R).m)], .int .i64 (runE x ty st l R)]) (by kernel_rfl) ?_
    refine sx_val (by kernel_rfl) rfl rfl (.agg #[.bool (runS x ty st l R).r, .int .i64 ((runS x ty st l R).d), .slice oA (runS x ty st l R).T.length cA, .int .i64 ((runS x ty st l R).e), .int .i64 ((runS x ty st l R).m)]) (by kernel_rfl) ?_
    refine sx_val (by kernel_rfl) rfl rfl (.int .i64 (runE x ty st l R)) (by kernel_rfl) ?_
    obtain ⟨W26, hW⟩ : ∃ W, (W24.alloc (.cells #[.bool false, .int .i64 0, .slice none 0 0, .int .i64 0, .int .i64 0] 39)).setRow W24.heap.size #[.bool (runS x ty st l R).r, .int .i64 ((runS x ty st l R).d), .slice oA (runS x ty st l R).T.length cA, .int .i64 ((runS x ty st l R).e), .int .i64 ((runS x ty st l R).m)] = W := ⟨_, rfl⟩
    have hb := hW ▸ below_var W24 (.cells #[.bool false, .int .i64 0, .slice none 0 0, .int .i64 0, .int .i64 0] 39) #[.bool (runS x ty st l R).r, .int .i64 ((runS x ty st l R).d), .slice oA (runS x ty st l R).T.length cA, .int .i64 ((runS x ty st l R).e), .int .i64 ((runS x ty st l R).m)]
    have hq : Cb W26 W24.heap.size #[.bool (runS x ty st l R).r, .int .i64 ((runS x ty st l R).d), .slice oA (runS x ty st l R).T.length cA, .int .i64 ((runS x ty st l R).e), .int .i64 ((runS x ty st l R).m)] 39 := hW ▸ Cb.row (Cb.made W24 #[.bool false, .int .i64 0, .slice none 0 0, .int .i64 0, .int .i64 0] 39) _
    refine sx_mem (by kernel_rfl) rfl rfl (.pointer (some ⟨W24.heap.size, 0, none⟩)) (W24.alloc (.cells #[.bool false, .int .i64 0, .slice none 0 0, .int .i64 0, .int .i64 0] 39)) (by kernel_rfl) ?_
    refine sx_store (cells := #[.bool (runS x ty st l R).r, .int .i64 ((runS x ty st l R).d), .slice oA (runS x ty st l R).T.length cA, .int .i64 ((runS x ty st l R).e), .int .i64 ((runS x ty st l R).m)]) (by kernel_rfl) rfl rfl (Cb.made W24 #[.bool false, .int .i64 0, .slice none 0 0, .int .i64 0, .int .i64 0] 39) (by kernel_rfl) (by kernel_rfl) (by kernel_rfl) (by kernel_rfl) (by kernel_rfl) ?_
    rw [hW]
    replace HB := over HB hb
    replace M2 := M2.below hb
    replace M4 := M4.below hb
    replace M8 := M8.below hb
    replace hSA := hSA.below hb
    have z7 := hb.size
    have M25 := hq
    have yM25 := hq.lt
    clear hq hb hW
    refine sx_val (by kernel_rfl) rfl rfl (.int .i64 (runE x ty st l R)) (by kernel_rfl) ?_
    refine wpList_nil ?_
    refine sx_norm ?_
    refine wp_seq ?_
    refine wp_region_lit ?_
    refine sx_val (by kernel_rfl) rfl rfl (.agg #[.slice k.o0 x.pl.length k.c0, .slice k.o1 x.al.length k.c1, .slice k.o2 x.tl.length k.c2, .slice k.o3 x.ol.length k.c3, .slice k.o4 x.ap.length k.c4, .slice k.o5 x.be.length k.c5]) (ex_load rfl M2 (by kernel_rfl) Tryd.underlying30 rfl (by kernel_rfl)) ?_
    refine sx_val (by kernel_rfl) rfl rfl (.agg #[.int .i64 ty, .int .i64 (st + m), .slice orr F.length cr, .slice oa l.length ca]) (ex_load rfl M8 (by kernel_rfl) Tryd.underlying34 rfl (by kernel_rfl)) ?_
    refine sx_val (by kernel_rfl) rfl rfl (.slice oR R.length cR) (by kernel_rfl) ?_
    by_cases C7 : (runE x ty (st + m) l R) = 0
    · refine sx_call (by kernel_rfl) rfl rfl ((by have h8 := drvRun_n k x ty (st + m) orr oa F.length cr ca b o l (fun hp => crs_ok hin hx.al hp) R oR cR bR qR W26 (hI.below HB) (hT.belowD HB) (hl.below HB) (hR.below HB); rw [C7] at h8; exact h8)) (by kernel_rfl) ?_
      rintro e W27 ⟨oB, cB, bB, qB, rfl, hSB, -, hb⟩
      have hlthSB : ∀ i, i < (runS x ty (st + m) l R).T.length → bB < W27.heap.size := fun i hi => hSB.lt hi
      replace HB := over HB hb
      replace M2 := M2.below hb
      replace M4 := M4.below hb
      replace M8 := M8.below hb
      replace hSA := hSA.below hb
      replace M25 := M25.below hb
      have z8 := hb.size
      clear hb
      refine ⟨_, rfl, ?_⟩
      refine sx_val (by kernel_rfl) rfl rfl (.tuple #[.agg #[.bool (runS x ty (st + m) l R).r, .int .i64 ((runS x ty (st + m) l R).d), .slice oB (runS x ty (st + m) l R).T.length cB, .int .i64 ((runS x ty (st + m) l R).e), .int .i64 ((runS x ty (st + m) l R).m)], .int .i64 0]) (by kernel_rfl) ?_
      refine sx_val (by kernel_rfl) rfl rfl (.agg #[.bool (runS x ty (st + m) l R).r, .int .i64 ((runS x ty (st + m) l R).d), .slice oB (runS x ty (st + m) l R).T.length cB, .int .i64 ((runS x ty (st + m) l R).e), .int .i64 ((runS x ty (st + m) l R).m)]) (by kernel_rfl) ?_
      refine sx_val (by kernel_rfl) rfl rfl (.int .i64 0) (by kernel_rfl) ?_
      obtain ⟨W29, hW⟩ : ∃ W, (W27.alloc (.cells #[.bool false, .int .i64 0, .slice none 0 0, .int .i64 0, .int .i64 0] 39)).setRow W27.heap.size #[.bool (runS x ty (st + m) l R).r, .int .i64 ((runS x ty (st + m) l R).d), .slice oB (runS x ty (st + m) l R).T.length cB, .int .i64 ((runS x ty (st + m) l R).e), .int .i64 ((runS x ty (st + m) l R).m)] = W := ⟨_, rfl⟩
      have hb := hW ▸ below_var W27 (.cells #[.bool false, .int .i64 0, .slice none 0 0, .int .i64 0, .int .i64 0] 39) #[.bool (runS x ty (st + m) l R).r, .int .i64 ((runS x ty (st + m) l R).d), .slice oB (runS x ty (st + m) l R).T.length cB, .int .i64 ((runS x ty (st + m) l R).e), .int .i64 ((runS x ty (st + m) l R).m)]
      have hq : Cb W29 W27.heap.size #[.bool (runS x ty (st + m) l R).r, .int .i64 ((runS x ty (st + m) l R).d), .slice oB (runS x ty (st + m) l R).T.length cB, .int .i64 ((runS x ty (st + m) l R).e), .int .i64 ((runS x ty (st + m) l R).m)] 39 := hW ▸ Cb.row (Cb.made W27 #[.bool false, .int .i64 0, .slice none 0 0, .int .i64 0, .int .i64 0] 39) _
      refine sx_mem (by kernel_rfl) rfl rfl (.pointer (some ⟨W27.heap.size, 0, none⟩)) (W27.alloc (.cells #[.bool false, .int .i64 0, .slice none 0 0, .int .i64 0, .int .i64 0] 39)) (by kernel_rfl) ?_
      refine sx_store (cells := #[.bool (runS x ty (st + m) l R).r, .int .i64 ((runS x ty (st + m) l R).d), .slice oB (runS x ty (st + m) l R).T.length cB, .int .i64 ((runS x ty (st + m) l R).e), .int .i64 ((runS x ty (st + m) l R).m)]) (by kernel_rfl) rfl rfl (Cb.made W27 #[.bool false, .int .i64 0, .slice none 0 0, .int .i64 0, .int .i64 0] 39) (by kernel_rfl) (by kernel_rfl) (by kernel_rfl) (by kernel_rfl) (by kernel_rfl) ?_
      rw [hW]
      replace HB := over HB hb
      replace M2 := M2.below hb
      replace M4 := M4.below hb
      replace M8 := M8.below hb
      replace hSA := hSA.below hb
      replace M25 := M25.below hb
      replace hSB := hSB.below hb
      have z9 := hb.size
      have M28 := hq
      have yM28 := hq.lt
      clear hq hb hW
      refine sx_val (by kernel_rfl) rfl rfl (.int .i64 0) (by kernel_rfl) ?_
      refine wpList_nil ?_
      refine sx_norm ?_
      refine wp_seq ?_
      refine wp_seq ?_
      refine wp_region_lit ?_
      refine sx_val (by kernel_rfl) rfl rfl (.int .i64 (runE x ty st l R)) (by kernel_rfl) ?_
      refine sx_bool (by kernel_rfl) rfl rfl (((runE x ty st l R) : Int) != (0 : Int)) true (by kernel_rfl) (bne_iff_ne.2 (by omega)) ?_
      refine sx_val (by kernel_rfl) rfl rfl (.bool true) (by kernel_rfl) ?_
      refine sx_skip (by kernel_rfl) rfl rfl ?_
      refine sx_skip (by kernel_rfl) rfl rfl ?_
      refine sx_val (by kernel_rfl) rfl rfl (.bool true) (by kernel_rfl) ?_
      refine wpList_nil ?_
      refine sx_norm ?_
      refine sx_true (by kernel_rfl) ?_
      refine wp_seq ?_
      refine wp_region_lit ?_
      refine sx_call (by kernel_rfl) rfl rfl (examples_n W29 (hT.belowD HB)) (by kernel_rfl) ?_
      rintro e W30 ⟨rfl, hb⟩
      replace HB := over HB hb
      replace M2 := M2.below hb
      replace M4 := M4.below hb
      replace M8 := M8.below hb
      replace hSA := hSA.below hb
      replace M25 := M25.below hb
      replace hSB := hSB.below hb
      replace M28 := M28.below hb
      have z10 := hb.size
      clear hb
      refine ⟨_, rfl, ?_⟩
      refine sx_val (by kernel_rfl) rfl rfl (.bool true) (by kernel_rfl) ?_
      refine wpList_nil ?_
      refine sx_norm ?_
      refine wp_ret ?_
      refine sx_rs ?_
      exact sx_ret1 (.bool true) rfl rfl (by kernel_rfl) ⟨rfl, HB⟩
    refine sx_call (by kernel_rfl) rfl rfl ((by have h8 := drvRun_n k x ty (st + m) orr oa F.length cr ca b o l (fun hp => crs_ok hin hx.al hp) R oR cR bR qR W26 (hI.below HB) (hT.belowD HB) (hl.below HB) (hR.below HB); exact h8)) (by kernel_rfl) ?_
    rintro e W31 ⟨oB, cB, bB, qB, rfl, hSB, -, hb⟩
    have hlthSB : ∀ i, i < (runS x ty (st + m) l R).T.length → bB < W31.heap.size := fun i hi => hSB.lt hi
    replace HB := over HB hb
    replace M2 := M2.below hb
    replace M4 := M4.below hb
    replace M8 := M8.below hb
    replace hSA := hSA.below hb
    replace M25 := M25.below hb
    have z8 := hb.size
    clear hb
    refine ⟨_, rfl, ?_⟩
    refine sx_val (by kernel_rfl) rfl rfl (.tuple #[.agg #[.bool (runS x ty (st + m) l R).r, .int .i64 ((runS x ty (st + m) l R).d), .slice oB (runS x ty (st + m) l R).T.length cB, .int .i64 ((runS x ty (st + m) l R).e), .int .i64 ((runS x ty (st + m) l R).m)], .int .i64 (runE x ty (st + m) l R)]) (by kernel_rfl) ?_
    refine sx_val (by kernel_rfl) rfl rfl (.agg #[.bool (runS x ty (st + m) l R).r, .int .i64 ((runS x ty (st + m) l R).d), .slice oB (runS x ty (st + m) l R).T.length cB, .int .i64 ((runS x ty (st + m) l R).e), .int .i64 ((runS x ty (st + m) l R).m)]) (by kernel_rfl) ?_
    refine sx_val (by kernel_rfl) rfl rfl (.int .i64 (runE x ty (st + m) l R)) (by kernel_rfl) ?_
    obtain ⟨W33, hW⟩ : ∃ W, (W31.alloc (.cells #[.bool false, .int .i64 0, .slice none 0 0, .int .i64 0, .int .i64 0] 39)).setRow W31.heap.size #[.bool (runS x ty (st + m) l R).r, .int .i64 ((runS x ty (st + m) l R).d), .slice oB (runS x ty (st + m) l R).T.length cB, .int .i64 ((runS x ty (st + m) l R).e), .int .i64 ((runS x ty (st + m) l R).m)] = W := ⟨_, rfl⟩
    have hb := hW ▸ below_var W31 (.cells #[.bool false, .int .i64 0, .slice none 0 0, .int .i64 0, .int .i64 0] 39) #[.bool (runS x ty (st + m) l R).r, .int .i64 ((runS x ty (st + m) l R).d), .slice oB (runS x ty (st + m) l R).T.length cB, .int .i64 ((runS x ty (st + m) l R).e), .int .i64 ((runS x ty (st + m) l R).m)]
    have hq : Cb W33 W31.heap.size #[.bool (runS x ty (st + m) l R).r, .int .i64 ((runS x ty (st + m) l R).d), .slice oB (runS x ty (st + m) l R).T.length cB, .int .i64 ((runS x ty (st + m) l R).e), .int .i64 ((runS x ty (st + m) l R).m)] 39 := hW ▸ Cb.row (Cb.made W31 #[.bool false, .int .i64 0, .slice none 0 0, .int .i64 0, .int .i64 0] 39) _
    refine sx_mem (by kernel_rfl) rfl rfl (.pointer (some ⟨W31.heap.size, 0, none⟩)) (W31.alloc (.cells #[.bool false, .int .i64 0, .slice none 0 0, .int .i64 0, .int .i64 0] 39)) (by kernel_rfl) ?_
    refine sx_store (cells := #[.bool (runS x ty (st + m) l R).r, .int .i64 ((runS x ty (st + m) l R).d), .slice oB (runS x ty (st + m) l R).T.length cB, .int .i64 ((runS x ty (st + m) l R).e), .int .i64 ((runS x ty (st + m) l R).m)]) (by kernel_rfl) rfl rfl (Cb.made W31 #[.bool false, .int .i64 0, .slice none 0 0, .int .i64 0, .int .i64 0] 39) (by kernel_rfl) (by kernel_rfl) (by kernel_rfl) (by kernel_rfl) (by kernel_rfl) ?_
    rw [hW]
    replace HB := over HB hb
    replace M2 := M2.below hb
    replace M4 := M4.below hb
    replace M8 := M8.below hb
    replace hSA := hSA.below hb
    replace M25 := M25.below hb
    replace hSB := hSB.below hb
    have z9 := hb.size
    have M32 := hq
    have yM32 := hq.lt
    clear hq hb hW
    refine sx_val (by kernel_rfl) rfl rfl (.int .i64 (runE x ty (st + m) l R)) (by kernel_rfl) ?_
    refine wpList_nil ?_
    refine sx_norm ?_
    refine wp_seq ?_
    refine wp_seq ?_
    refine wp_region_lit ?_
    refine sx_val (by kernel_rfl) rfl rfl (.int .i64 (runE x ty st l R)) (by kernel_rfl) ?_
    refine sx_bool (by kernel_rfl) rfl rfl (((runE x ty st l R) : Int) != (0 : Int)) true (by kernel_rfl) (bne_iff_ne.2 (by omega)) ?_
    refine sx_val (by kernel_rfl) rfl rfl (.bool true) (by kernel_rfl) ?_
    refine sx_skip (by kernel_rfl) rfl rfl ?_
    refine sx_skip (by kernel_rfl) rfl rfl ?_
    refine sx_val (by kernel_rfl) rfl rfl (.bool true) (by kernel_rfl) ?_
    refine wpList_nil ?_
    refine sx_norm ?_
    refine sx_true (by kernel_rfl) ?_
    refine wp_seq ?_
    refine wp_region_lit ?_
    refine sx_call (by kernel_rfl) rfl rfl (examples_n W33 (hT.belowD HB)) (by kernel_rfl) ?_
    rintro e W34 ⟨rfl, hb⟩
    replace HB := over HB hb
    replace M2 := M2.below hb
    replace M4 := M4.below hb
    replace M8 := M8.below hb
    replace hSA := hSA.below hb
    replace M25 := M25.below hb
    replace hSB := hSB.below hb
    replace M32 := M32.below hb
    have z10 := hb.size
    clear hb
    refine ⟨_, rfl, ?_⟩
    refine sx_val (by kernel_rfl) rfl rfl (.bool true) (by kernel_rfl) ?_
    refine wpList_nil ?_
    refine sx_norm ?_
    refine wp_ret ?_
    refine sx_rs ?_
    exact sx_ret1 (.bool true) rfl rfl (by kernel_rfl) ⟨rfl, HB⟩
  refine sx_call (by kernel_rfl) rfl rfl ((by have h8 := right_n k x hx W3 (hI.below HB); rw [show rightB x = false by simpa using C1] at h8; exact h8)) (by kernel_rfl) ?_
  rintro e W35 ⟨rfl, hb⟩
  replace HB := over HB hb
  replace M2 := M2.below hb
  replace M4 := M4.below hb
  have z3 := hb.size
  clear hb
  refine ⟨_, rfl, ?_⟩
  refine sx_val (by kernel_rfl) rfl rfl (.bool true) (by kernel_rfl) ?_
  refine sx_val (by kernel_rfl) rfl rfl (.bool true) (by kernel_rfl) ?_
  refine sx_skip (by kernel_rfl) rfl rfl ?_
  refine sx_skip (by kernel_rfl) rfl rfl ?_
  refine sx_skip (by kernel_rfl) rfl rfl ?_
  refine sx_val (by kernel_rfl) rfl rfl (.bool true) (by kernel_rfl) ?_
  refine sx_val (by kernel_rfl) rfl rfl (.bool true) (by kernel_rfl) ?_
  refine sx_skip (by kernel_rfl) rfl rfl ?_
  refine sx_skip (by kernel_rfl) rfl rfl ?_
  refine sx_skip (by kernel_rfl) rfl rfl ?_
  refine sx_val (by kernel_rfl) rfl rfl (.bool true) (by kernel_rfl) ?_
  refine wpList_nil ?_
  refine sx_norm ?_
  refine sx_true (by kernel_rfl) ?_
  refine wp_seq ?_
  refine wp_region_lit ?_
  refine sx_call (by kernel_rfl) rfl rfl (examples_n W35 (hT.belowD HB)) (by kernel_rfl) ?_
  rintro e W36 ⟨rfl, hb⟩
  replace HB := over HB hb
  replace M2 := M2.below hb
  replace M4 := M4.below hb
  have z4 := hb.size
  clear hb
  refine ⟨_, rfl, ?_⟩
  refine sx_val (by kernel_rfl) rfl rfl (.bool true) (by kernel_rfl) ?_
  refine wpList_nil ?_
  refine sx_norm ?_
  refine wp_ret ?_
  refine sx_rs ?_
  exact sx_ret1 (.bool true) rfl rfl (by kernel_rfl) ⟨rfl, HB⟩

end Go.Proofs.YtnapmildbodigaaDoor.T


