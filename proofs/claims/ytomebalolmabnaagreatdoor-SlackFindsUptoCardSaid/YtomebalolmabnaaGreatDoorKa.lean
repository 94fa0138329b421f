/-
  DERIVED. Ka: a part of the base of layer 13 (made by pack.py).
-/
import Derived.Test.YtomebalolmabnaaGreatDoorGJ
import Derived.Test.YtomebalolmabnaaGreatDoorGQ
import Derived.Test.YtomebalolmabnaaGreatDoorGA
import Derived.Test.YtomebalolmabnaaGreatDoorGF
import Derived.Test.YtomebalolmabnaaGreatDoorJe
/-! The specification of slack: the small functions (by gen_ka.py). -/
namespace Go.Proofs.YtomebalolmabnaaGreatDoor.T
open Go.RowKit
set_option maxRecDepth 8000
attribute [local irreducible] wpList Code.wp wpAnyH

theorem begin08_n (p o cl se a : Int) (w : World) : Calls Tryz.prog 56 #[.agg #[.int .i64 p, .int .i64 o, .int .i64 cl, .int .i64 se], .int .i64 a] w fun e w' => e = .returned (.tuple #[.int .i64 (if cl < a then 0 else if a < o then o else a), .int .i64 (if cl < a then 14 else 0)]) ∧ Below w.heap.size w w' := by
 have HB : Below w.heap.size w w := Below.refl _ _
 refine sx_enter Tryz.func56 rfl [(0, .agg #[.int .i64 p, .int .i64 o, .int .i64 cl, .int .i64 se]), (1, .int .i64 a)] (by kernel_rfl) ?_
 refine Yq ?_
 refine Za rfl #[.int .i64 p, .int .i64 o, .int .i64 cl, .int .i64 se] 76 (fun W1 hb M2 z1 yM2 => ?_)
 replace HB := over HB hb
 clear hb
 refine Zv rfl (.int .i64 0) (Zv rfl (.int .i64 0) (Yn (Yo (Ys (Yq (Zv rfl (.int .i64 a) (Zv rfl (pt w.heap.size 2) (Zw rfl (.int .i64 cl) (el (M2.cell 2 rfl) Tryz.underlying3) ?_))))))))
 by_cases C1 : a > cl
 ·refine Zb rfl (decide (a > cl)) true (decide_eq_true (by omega)) (Yn (Yo (sx_true (by kernel_rfl) (Yq (Zv rfl (.int .i64 0) (Zv rfl (.int .i64 14) (Yn (Yo (wp_ret (sx_rs ?_))))))))))
  refine sx_ret2 (.int .i64 0) (.int .i64 14) rfl rfl rfl (by kernel_rfl) (by kernel_rfl) ⟨by rw [if_pos (show cl < a by omega), if_pos (by omega)], HB⟩
 refine Zb rfl (decide (a > cl)) false (decide_eq_false (by omega)) (Yn (Yo (sx_false (by kernel_rfl) (wp_skip (Yo (Ys (Yq (Zv rfl (.int .i64 a) (Zv rfl (pt w.heap.size 1) (Zw rfl (.int .i64 o) (el (M2.cell 1 rfl) Tryz.underlying3) ?_))))))))))
 by_cases C2 : a < o
 ·refine Zb rfl (decide (a < o)) true (decide_eq_true (by omega)) (Yn (Yo (sx_true (by kernel_rfl) (Yq (Zv rfl (pt w.heap.size 1) (Zw rfl (.int .i64 o) (el (M2.cell 1 rfl) Tryz.underlying3) (Zv rfl (.int .i64 o) (Zv rfl (.int .i64 0) (Yn (Yo (wp_ret (sx_rs ?_))))))))))))
  refine sx_ret2 (.int .i64 o) (.int .i64 0) rfl rfl rfl (by kernel_rfl) (by kernel_rfl) ⟨by rw [if_neg (show ¬ cl < a by omega), if_neg (show ¬ cl < a by omega), show (if a < o then o else a) = o by split <;> omega], HB⟩
 refine Zb rfl (decide (a < o)) false (decide_eq_false (by omega)) (Yn (Yo (sx_false (by kernel_rfl) (wp_skip (Yo (Yq (Zv rfl (.int .i64 a) (Zv rfl (.int .i64 a) (Zv rfl (.int .i64 0) (Yn (Yo (wp_ret ?_))))))))))))
 refine sx_ret2 (.int .i64 a) (.int .i64 0) rfl rfl rfl (by kernel_rfl) (by kernel_rfl) ⟨by rw [if_neg (show ¬ cl < a by omega), if_neg (show ¬ cl < a by omega), show (if a < o then o else a) = a by split <;> omega], HB⟩
theorem stop11_true (k : Iv) (x : InT) (hxl : x.ol.length ≤ 1000000) (i : Int) (hok9 : okR x.ol i true = true) (w : World) (hI : Ins w k x) : Calls Tryz.prog 55 #[.slice k.o3 x.ol.length k.c3, .agg #[.int .i64 i, .bool true]] w fun e w' => e = .returned (.tuple #[.agg (pK (stQ (x.ol.getD i.toNat or0) true)), .int .i64 0]) ∧ Below w.heap.size w w' := by
 have HB : Below w.heap.size w w := Below.refl _ _
 obtain ⟨ho1, ho2, ho3⟩ := okR_in hok9
 have hpp : 0 ≤ (stQ (x.ol.getD i.toNat or0) true).p := by
  have h7 := hok9
  unfold okR at h7
  simp only [Bool.and_eq_true, decide_eq_true_eq] at h7
  exact h7.2
 have hyo : ((i.toNat : Nat) : Int) = i := Int.toNat_of_nonneg ho1
 obtain ⟨bo, qo, vo, hO⟩ := hI.h3.rw
 refine sx_enter Tryz.func55 rfl [(0, .slice k.o3 x.ol.length k.c3), (1, .agg #[.int .i64 i, .bool true])] (by kernel_rfl) ?_
 refine Yq ?_
 refine Za rfl #[.int .i64 i, .bool true] 82 (fun W1 hb M2 z1 yM2 => ?_)
 replace HB := over HB hb
 clear hb
 refine Za rfl nZ4 76 (fun W3 hb M4 z2 yM4 => ?_)
 replace HB := over HB hb
 replace M2 := M2.below hb
 clear hb
 refine Zv rfl (.int .i64 0) (Yn (Yo (Ys (Yq (Zv rfl (pt w.heap.size 0) (Zw rfl (.int .i64 i) (el (M2.cell 0 rfl) Tryz.underlying3) (Zv rfl (.slice k.o3 x.ol.length k.c3) (Zv rfl (.int .i64 ((x.ol.length : Nat) : Int)) (Zi rfl (IntKind.i64.wrap (((x.ol.length : Nat) : Int) - 1)) (((x.ol.length : Int) - 1)) (by rw [IntKind.wrap_i64]; omega) ?_)))))))))
 refine Zc rfl ((by have h8 := in_n_O i 0 ((x.ol.length : Int) - 1) W3; rw [show rgB 0 ((x.ol.length : Int) - 1) i = true by rw [rg_iff]; omega] at h8; exact h8)) ?_
 rintro e w9 ⟨rfl, rfl⟩
 refine ⟨_, rfl, ?_⟩
 refine Zv rfl (.bool false) (Yn (Yo (sx_false (by kernel_rfl) (wp_skip (Yo (Yq (Zv rfl (.slice k.o3 x.ol.length k.c3) (Zv rfl (pt w.heap.size 0) (Zw rfl (.int .i64 i) (el (M2.cell 0 rfl) Tryz.underlying3) (Zw rfl (pt bo (qo + i.toNat * 16)) (ex_indexO (q := qo) (m := x.ol.length) (c := k.c3) (k := i.toNat) (s := 16) rfl (by kernel_rfl) ((hO.below HB).oa (k := i.toNat) (by omega)) (by rw [hyo]; kernel_rfl) Tryz.underlying27 (by kernel_rfl) (by omega) (by omega)) (Zv rfl (pt bo (qo + i.toNat * 16 + 2)) (Zw rfl (.agg #[.int .i64 ((x.ol.getD i.toNat or0).pp), .int .i64 ((x.ol.getD i.toNat or0).po), .int .i64 ((x.ol.getD i.toNat or0).pc), .int .i64 ((x.ol.getD i.toNat or0).ps)]) (ex_loadR rfl (rw_mid (hO.below HB) (k := i.toNat) (by omega) 2 [.int .i64 ((x.ol.getD i.toNat or0).pp), .int .i64 ((x.ol.getD i.toNat or0).po), .int .i64 ((x.ol.getD i.toNat or0).pc), .int .i64 ((x.ol.getD i.toNat or0).ps)] rfl) (by kernel_rfl) Tryz.underlying76 rfl (by kernel_rfl)) ?_))))))))))))
 obtain ⟨W6, hW, hb, hq⟩ := laidV W3 nZ4 #[.int .i64 ((x.ol.getD i.toNat or0).pp), .int .i64 ((x.ol.getD i.toNat or0).po), .int .i64 ((x.ol.getD i.toNat or0).pc), .int .i64 ((x.ol.getD i.toNat or0).ps)] 76
 refine sx_mem (by kernel_rfl) rfl rfl (pt W3.heap.size 0) (W3.alloc (.cells nZ4 76)) (by kernel_rfl) ?_
 refine Zs (cells := #[.int .i64 ((x.ol.getD i.toNat or0).pp), .int .i64 ((x.ol.getD i.toNat or0).po), .int .i64 ((x.ol.getD i.toNat or0).pc), .int .i64 ((x.ol.getD i.toNat or0).ps)]) rfl rfl (Cb.made W3 nZ4 76) ?_
 rw [hW]
 replace HB := over HB hb
 replace M2 := M2.below hb
 replace M4 := M4.below hb
 have z3 := hb.size
 have M5 := hq
 have yM5 := hq.lt
 clear hq hb hW
 refine Yn (Yo (Ys (Yq (Zv rfl (pt w.heap.size 1) (Zw rfl (.bool true) (el (M2.cell 1 rfl) Tryz.underlying4) (Yn (Yo (sx_true (by kernel_rfl) (Yr (Zv rfl (.slice k.o3 x.ol.length k.c3) (Zv rfl (pt w.heap.size 0) (Zw rfl (.int .i64 i) (el (M2.cell 0 rfl) Tryz.underlying3) (Zw rfl (pt bo (qo + i.toNat * 16)) (ex_indexO (q := qo) (m := x.ol.length) (c := k.c3) (k := i.toNat) (s := 16) rfl (by kernel_rfl) ((hO.below HB).oa (k := i.toNat) (by omega)) (by rw [hyo]; kernel_rfl) Tryz.underlying27 (by kernel_rfl) (by omega) (by omega)) (Zv rfl (pt bo (qo + i.toNat * 16 + 6)) (Zw rfl (.agg #[.int .i64 ((x.ol.getD i.toNat or0).dp), .int .i64 ((x.ol.getD i.toNat or0).dd), .int .i64 ((x.ol.getD i.toNat or0).dc), .int .i64 ((x.ol.getD i.toNat or0).ds)]) (ex_loadR rfl (rw_mid (hO.below HB) (k := i.toNat) (by omega) 6 [.int .i64 ((x.ol.getD i.toNat or0).dp), .int .i64 ((x.ol.getD i.toNat or0).dd), .int .i64 ((x.ol.getD i.toNat or0).dc), .int .i64 ((x.ol.getD i.toNat or0).ds)] rfl) (by kernel_rfl) Tryz.underlying76 rfl (by kernel_rfl)) ?_)))))))))))))))
 refine Zr (cells := #[.int .i64 ((x.ol.getD i.toNat or0).dp), .int .i64 ((x.ol.getD i.toNat or0).dd), .int .i64 ((x.ol.getD i.toNat or0).dc), .int .i64 ((x.ol.getD i.toNat or0).ds)]) rfl rfl M5 (fun W7 hg hq => ?_)
 replace HB := HB.grown hg (by omega) (oG (by omega))
 replace M4 := M4.kept hg (by omega)
 have z4 := hg.size
 replace M5 := hq
 clear hq hg
 refine Yn (Yo (Ys (Ys ?_)))
 have hpq : 0 ≤ (x.ol.getD i.toNat or0).dp := hpp
 refine Yr (Zv rfl (pt W3.heap.size 0) (Zw rfl (.int .i64 ((x.ol.getD i.toNat or0).dp)) (el (M5.cell 0 rfl) Tryz.underlying3) (Zb rfl (decide ((x.ol.getD i.toNat or0).dp < 0)) false (decide_eq_false (by omega)) (Yn (Yo (sx_false (by kernel_rfl) (wp_skip (Yo (Yq (Zw rfl (.agg #[.int .i64 ((x.ol.getD i.toNat or0).dp), .int .i64 ((x.ol.getD i.toNat or0).dd), .int .i64 ((x.ol.getD i.toNat or0).dc), .int .i64 ((x.ol.getD i.toNat or0).ds)]) (ex_load rfl M5 (by kernel_rfl) Tryz.underlying76 rfl (by kernel_rfl)) ?_))))))))))
 refine Zr (cells := #[.int .i64 ((x.ol.getD i.toNat or0).dp), .int .i64 ((x.ol.getD i.toNat or0).dd), .int .i64 ((x.ol.getD i.toNat or0).dc), .int .i64 ((x.ol.getD i.toNat or0).ds)]) rfl rfl M4 (fun W8 hg hq => ?_)
 replace HB := HB.grown hg (by omega) (oG (by omega))
 have z5 := hg.size
 replace M4 := hq
 clear hq hg
 refine Zv rfl (.int .i64 0) (Yn (Yo (wp_ret ?_)))
 exact sx_retct (v' := .int .i64 0) M4 rfl rfl rfl (by kernel_rfl) (by kernel_rfl) Tryz.underlying76 rfl (by kernel_rfl) ⟨rfl, HB⟩

theorem stop11_false (k : Iv) (x : InT) (hxl : x.ol.length ≤ 1000000) (i : Int) (hok9 : okR x.ol i false = true) (w : World) (hI : Ins w k x) : Calls Tryz.prog 55 #[.slice k.o3 x.ol.length k.c3, .agg #[.int .i64 i, .bool false]] w fun e w' => e = .returned (.tuple #[.agg (pK (stQ (x.ol.getD i.toNat or0) false)), .int .i64 0]) ∧ Below w.heap.size w w' := by
 have HB : Below w.heap.size w w := Below.refl _ _
 obtain ⟨ho1, ho2, ho3⟩ := okR_in hok9
 have hpp : 0 ≤ (stQ (x.ol.getD i.toNat or0) false).p := by
  have h7 := hok9
  unfold okR at h7
  simp only [Bool.and_eq_true, decide_eq_true_eq] at h7
  exact h7.2
 have hyo : ((i.toNat : Nat) : Int) = i := Int.toNat_of_nonneg ho1
 obtain ⟨bo, qo, vo, hO⟩ := hI.h3.rw
 refine sx_enter Tryz.func55 rfl [(0, .slice k.o3 x.ol.length k.c3), (1, .agg #[.int .i64 i, .bool false])] (by kernel_rfl) ?_
 refine Yq ?_
 refine Za rfl #[.int .i64 i, .bool false] 82 (fun W1 hb M2 z1 yM2 => ?_)
 replace HB := over HB hb
 clear hb
 refine Za rfl nZ4 76 (fun W3 hb M4 z2 yM4 => ?_)
 replace HB := over HB hb
 replace M2 := M2.below hb
 clear hb
 refine Zv rfl (.int .i64 0) (Yn (Yo (Ys (Yq (Zv rfl (pt w.heap.size 0) (Zw rfl (.int .i64 i) (el (M2.cell 0 rfl) Tryz.underlying3) (Zv rfl (.slice k.o3 x.ol.length k.c3) (Zv rfl (.int .i64 ((x.ol.length : Nat) : Int)) (Zi rfl (IntKind.i64.wrap (((x.ol.length : Nat) : Int) - 1)) (((x.ol.length : Int) - 1)) (by rw [IntKind.wrap_i64]; omega) ?_)))))))))
 refine Zc rfl ((by have h8 := in_n_O i 0 ((x.ol.length : Int) - 1) W3; rw [show rgB 0 ((x.ol.length : Int) - 1) i = true by rw [rg_iff]; omega] at h8; exact h8)) ?_
 rintro e w9 ⟨rfl, rfl⟩
 refine ⟨_, rfl, ?_⟩
 refine Zv rfl (.bool false) (Yn (Yo (sx_false (by kernel_rfl) (wp_skip (Yo (Yq (Zv rfl (.slice k.o3 x.ol.length k.c3) (Zv rfl (pt w.heap.size 0) (Zw rfl (.int .i64 i) (el (M2.cell 0 rfl) Tryz.underlying3) (Zw rfl (pt bo (qo + i.toNat * 16)) (ex_indexO (q := qo) (m := x.ol.length) (c := k.c3) (k := i.toNat) (s := 16) rfl (by kernel_rfl) ((hO.below HB).oa (k := i.toNat) (by omega)) (by rw [hyo]; kernel_rfl) Tryz.underlying27 (by kernel_rfl) (by omega) (by omega)) (Zv rfl (pt bo (qo + i.toNat * 16 + 2)) (Zw rfl (.agg #[.int .i64 ((x.ol.getD i.toNat or0).pp), .int .i64 ((x.ol.getD i.toNat or0).po), .int .i64 ((x.ol.getD i.toNat or0).pc), .int .i64 ((x.ol.getD i.toNat or0).ps)]) (ex_loadR rfl (rw_mid (hO.below HB) (k := i.toNat) (by omega) 2 [.int .i64 ((x.ol.getD i.toNat or0).pp), .int .i64 ((x.ol.getD i.toNat or0).po), .int .i64 ((x.ol.getD i.toNat or0).pc), .int .i64 ((x.ol.getD i.toNat or0).ps)] rfl) (by kernel_rfl) Tryz.underlying76 rfl (by kernel_rfl)) ?_))))))))))))
 obtain ⟨W6, hW, hb, hq⟩ := laidV W3 nZ4 #[.int .i64 ((x.ol.getD i.toNat or0).pp), .int .i64 ((x.ol.getD i.toNat or0).po), .int .i64 ((x.ol.getD i.toNat or0).pc), .int .i64 ((x.ol.getD i.toNat or0).ps)] 76
 refine sx_mem (by kernel_rfl) rfl rfl (pt W3.heap.size 0) (W3.alloc (.cells nZ4 76)) (by kernel_rfl) ?_
 refine Zs (cells := #[.int .i64 ((x.ol.getD i.toNat or0).pp), .int .i64 ((x.ol.getD i.toNat or0).po), .int .i64 ((x.ol.getD i.toNat or0).pc), .int .i64 ((x.ol.getD i.toNat or0).ps)]) rfl rfl (Cb.made W3 nZ4 76) ?_
 rw [hW]
 replace HB := over HB hb
 replace M2 := M2.below hb
 replace M4 := M4.below hb
 have z3 := hb.size
 have M5 := hq
 have yM5 := hq.lt
 clear hq hb hW
 refine Yn (Yo (Ys (Yq (Zv rfl (pt w.heap.size 1) (Zw rfl (.bool false) (el (M2.cell 1 rfl) Tryz.underlying4) (Yn (Yo (sx_false (by kernel_rfl) (wp_skip (Yo (Ys (Ys ?_))))))))))))
 have hpq : 0 ≤ (x.ol.getD i.toNat or0).pp := hpp
 refine Yr (Zv rfl (pt W3.heap.size 0) (Zw rfl (.int .i64 ((x.ol.getD i.toNat or0).pp)) (el (M5.cell 0 rfl) Tryz.underlying3) (Zb rfl (decide ((x.ol.getD i.toNat or0).pp < 0)) false (decide_eq_false (by omega)) (Yn (Yo (sx_false (by kernel_rfl) (wp_skip (Yo (Yq (Zw rfl (.agg #[.int .i64 ((x.ol.getD i.toNat or0).pp), .int .i64 ((x.ol.getD i.toNat or0).po), .int .i64 ((x.ol.getD i.toNat or0).pc), .int .i64 ((x.ol.getD i.toNat or0).ps)]) (ex_load rfl M5 (by kernel_rfl) Tryz.underlying76 rfl (by kernel_rfl)) ?_))))))))))
 refine Zr (cells := #[.int .i64 ((x.ol.getD i.toNat or0).pp), .int .i64 ((x.ol.getD i.toNat or0).po), .int .i64 ((x.ol.getD i.toNat or0).pc), .int .i64 ((x.ol.getD i.toNat or0).ps)]) rfl rfl M4 (fun W7 hg hq => ?_)
 replace HB := HB.grown hg (by omega) (oG (by omega))
 have z4 := hg.size
 replace M4 := hq
 clear hq hg
 refine Zv rfl (.int .i64 0) (Yn (Yo (wp_ret ?_)))
 exact sx_retct (v' := .int .i64 0) M4 rfl rfl rfl (by kernel_rfl) (by kernel_rfl) Tryz.underlying76 rfl (by kernel_rfl) ⟨rfl, HB⟩

theorem stop11_n (k : Iv) (x : InT) (hxl : x.ol.length ≤ 1000000) (i : Int) (d : Bool) (hok9 : okR x.ol i d = true) (w : World) (hI : Ins w k x) : Calls Tryz.prog 55 #[.slice k.o3 x.ol.length k.c3, .agg #[.int .i64 i, .bool d]] w fun e w' => e = .returned (.tuple #[.agg (pK (stQ (x.ol.getD i.toNat or0) d)), .int .i64 0]) ∧ Below w.heap.size w w' := by
 cases d
 ·exact stop11_false k x hxl i hok9 w hI
 ·exact stop11_true k x hxl i hok9 w hI
theorem stop19_n (k : Iv) (x : InT) (hxl : x.ol.length ≤ 1000000) (ty st : Int) (l : List (Int × Bool)) (hp9 : posD x.tl x.ol ty st l = true) (j : Nat) (hj : j < l.length) (w : World) (hI : Ins w k x) : Calls Tryz.prog 55 #[.slice k.o3 x.ol.length k.c3, .agg #[.int .i64 ((l.getD j (0, false)).1), .bool (l.getD j (0, false)).2]] w fun e w' => e = .returned (.tuple #[.agg (pK ((crs x ty st l).S.getD (j + 1) st0)), .int .i64 0]) ∧ Below w.heap.size w w' := by
 have hok9 := posD_at hp9 hj
 have h8 := stop11_n k x hxl (l.getD j (0, false)).1 (l.getD j (0, false)).2 hok9 w hI
 rw [← (okR_in hok9).2.2, ← crs_at x ty st hj] at h8
 exact h8
theorem place19_n (k : Iv) (x : InT) (hxl : x.ol.length ≤ 1000000) (ty st : Int) (l : List (Int × Bool)) (hp9 : posD x.tl x.ol ty st l = true) (j : Nat) (hj : j < l.length) (w : World) (hI : Ins w k x) : Calls Tryz.prog 54 #[.agg (iK k x), .agg #[.int .i64 ((l.getD j (0, false)).1), .bool (l.getD j (0, false)).2]] w fun e w' => e = .returned (.int .i64 ((crs x ty st l).S.getD (j + 1) st0).p) ∧ Below w.heap.size w w' := by
 have HB : Below w.heap.size w w := Below.refl _ _
 refine sx_enter Tryz.func54 rfl [(0, .agg (iK k x)), (1, .agg #[.int .i64 ((l.getD j (0, false)).1), .bool (l.getD j (0, false)).2])] (by kernel_rfl) ?_
 refine Yq ?_
 refine Za rfl (iK k x) 30 (fun W1 hb M2 z1 yM2 => ?_)
 replace HB := over HB hb
 clear hb
 refine Za rfl #[.int .i64 ((l.getD j (0, false)).1), .bool (l.getD j (0, false)).2] 82 (fun W3 hb M4 z2 yM4 => ?_)
 replace HB := over HB hb
 replace M2 := M2.below hb
 clear hb
 refine Zv rfl (.int .i64 0) (Yn (Yo (Yq (Zv rfl (pt w.heap.size 3) (Zw rfl (.slice k.o3 x.ol.length k.c3) (el (M2.cell 3 rfl) Tryz.underlying27) (Zw rfl (.agg #[.int .i64 ((l.getD j (0, false)).1), .bool (l.getD j (0, false)).2]) (ex_load rfl M4 (by kernel_rfl) Tryz.underlying82 rfl (by kernel_rfl)) ?_))))))
 refine Zd rfl (stop19_n k x hxl ty st l hp9 j hj W3 (hI.below HB)) (fun W5 hb z3 => ?_)
 replace HB := over HB hb
 clear hb
 refine Zv rfl (.tuple #[.agg (pK ((crs x ty st l).S.getD (j + 1) st0)), .int .i64 0]) (Zv rfl (.agg (pK ((crs x ty st l).S.getD (j + 1) st0))) (Zv rfl (.int .i64 0) ?_))
 obtain ⟨W7, hW⟩ : ∃ W, (W5.alloc (.cells nZ4 76)).setRow W5.heap.size (pK ((crs x ty st l).S.getD (j + 1) st0)) = W := ⟨_, rfl⟩
 have hb := hW ▸ below_var W5 (.cells nZ4 76) (pK ((crs x ty st l).S.getD (j + 1) st0))
 have hq : Cb W7 W5.heap.size (pK ((crs x ty st l).S.getD (j + 1) st0)) 76 := hW ▸ Cb.row (Cb.made W5 nZ4 76) _
 refine sx_mem (by kernel_rfl) rfl rfl (pt W5.heap.size 0) (W5.alloc (.cells nZ4 76)) (by kernel_rfl) ?_
 refine Zs (cells := (pK ((crs x ty st l).S.getD (j + 1) st0))) rfl rfl (Cb.made W5 nZ4 76) ?_
 rw [hW]
 replace HB := over HB hb
 have z4 := hb.size
 have M6 := hq
 have yM6 := hq.lt
 clear hq hb hW
 refine Zv rfl (.int .i64 0) (Yn (Yo (Yq (Zv rfl (pt W5.heap.size 0) (Zw rfl (.int .i64 (((crs x ty st l).S.getD (j + 1) st0).p)) (el (M6.cell 0 rfl) Tryz.underlying3) (Zv rfl (.int .i64 (((crs x ty st l).S.getD (j + 1) st0).p)) (Yn (Yo (wp_ret ?_)))))))))
 exact sx_ret1 (.int .i64 (((crs x ty st l).S.getD (j + 1) st0).p)) rfl rfl (by kernel_rfl) ⟨rfl, HB⟩
theorem ahead19_n (k : Iv) (x : InT) (hxl : x.ol.length ≤ 1000000) (ty st : Int) (orr oa oS : Option Addr) (cr ca cS b o bS qS : Nat) (l : List (Int × Bool)) (F : List Bool) (S : ShT) (hc : (crs x ty st l).Ok) (hp9 : posD x.tl x.ol ty st l = true) (hTl : S.T.length = l.length) (hrun : (crs x ty st l).run S.rts (crs x ty st l).n = 0) (hsh : (crs x ty st l).sheet S.rts = S) (w : World) (hI : Ins w k x) (hl : Rw w b o 2 (vF l) l.length oa) (hST : Rw w bS qS 4 (fun k => tmE (S.T.getD k tm0)) S.T.length oS) (a : Nat) (ha : a ≤ l.length) : Calls Tryz.prog 34 #[.agg (iK k x), .agg (rK ty st orr F.length cr oa l.length ca), .agg (sK S oS cS), .int .i64 ((a : Nat) : Int)] w fun e w' => e = .returned (.agg #[.int .i64 (((crs x ty st l).S.getD a st0).p), .int .i64 (((crs x ty st l).lg S.rts a).dep), .int .i64 (CrT.gS ((crs x ty st l).dn S.rts a).2 (S.rts.getD a false))]) ∧ Below w.heap.size w w' := by
 have HB : Below w.heap.size w w := Below.refl _ _
 have hn9 : (crs x ty st l).n = l.length + 1 := crs_n x ty st l
 obtain ⟨hy1, hy2, -, -⟩ := posD_ty hp9
 have hl20 := posD_len hp9
 have hyt : ((ty.toNat : Nat) : Int) = ty := Int.toNat_of_nonneg hy1
 have hrst : 0 ≤ (x.tl.getD ty.toNat ty0).rst ∧ (x.tl.getD ty.toNat ty0).rst ≤ 4096 := hc.rst
 have hdrv : 1 ≤ (x.tl.getD ty.toNat ty0).drv ∧ (x.tl.getD ty.toNat ty0).drv ≤ 4096 := hc.drv
 obtain ⟨bt, qt, va, vb, hTy⟩ := hI.h2.rw
 have hTm : Rw w bS qS 4 (fun i1 => tmE ((crs x ty st l).tm S.rts i1)) S.T.length oS := Rw.ext hST (fun i hi => by have h8 := tms_at (crs x ty st l) S.rts (show i < (crs x ty st l).n - 1 by omega); rw [hsh] at h8; rw [h8])
 have hd0 : S.d = ((crs x ty st l).lg S.rts 0).dep := by rw [← show ((crs x ty st l).sheet S.rts).d = S.d by rw [hsh]]; rfl
 have hg0 : (CrT.gS ((crs x ty st l).dn S.rts 0).2 (S.rts.getD 0 false)) = 0 := by show (if S.rts.getD 0 false then (0 : Int) else 0) = 0; split <;> rfl
 have hp0 : ((crs x ty st l).S.getD 0 st0).p = (x.tl.getD ty.toNat ty0).fr := rfl
 refine sx_enter Tryz.func34 rfl [(0, .agg (iK k x)), (1, .agg (rK ty st orr F.length cr oa l.length ca)), (2, .agg (sK S oS cS)), (3, .int .i64 ((a : Nat) : Int))] (by kernel_rfl) ?_
 refine Yq ?_
 refine Za rfl (iK k x) 30 (fun W1 hb M2 z1 yM2 => ?_)
 replace HB := over HB hb
 clear hb
 refine Za rfl (rK ty st orr F.length cr oa l.length ca) 34 (fun W3 hb M4 z2 yM4 => ?_)
 replace HB := over HB hb
 replace M2 := M2.below hb
 clear hb
 refine Za rfl (sK S oS cS) 37 (fun W5 hb M6 z3 yM6 => ?_)
 replace HB := over HB hb
 replace M2 := M2.below hb
 replace M4 := M4.below hb
 clear hb
 refine Za rfl nZ3 89 (fun W7 hb M8 z4 yM8 => ?_)
 replace HB := over HB hb
 replace M2 := M2.below hb
 replace M4 := M4.below hb
 replace M6 := M6.below hb
 clear hb
 refine Yn (Yo (Yq (Zv rfl (pt w.heap.size 2) (Zw rfl (.slice k.o2 x.tl.length k.c2) (el (M2.cell 2 rfl) Tryz.underlying26) (Zv rfl (pt W1.heap.size 0) (Zw rfl (.int .i64 ty) (el (M4.cell 0 rfl) Tryz.underlying3) (Zw rfl (pt bt (qt + (ty.toNat) * 14)) (ex_indexO (q := qt) (m := x.tl.length) (c := k.c2) (k := ty.toNat) (s := 14) rfl (by kernel_rfl) ((hTy.below HB).oa (k := ty.toNat) (by omega)) (by rw [hyt]; kernel_rfl) Tryz.underlying26 (by kernel_rfl) (by omega) (by omega)) (Zw rfl (.agg (tK (x.tl.getD ty.toNat ty0) (va ty.toNat) (vb ty.toNat))) (ex_loadR rfl ((hTy.below HB).range (k := ty.toNat) (by omega)) (by kernel_rfl) Tryz.underlying80 rfl (by kernel_rfl)) ?_))))))))
 obtain ⟨W10, hW⟩ : ∃ W, (W7.alloc (.cells nZT 80)).setRow W7.heap.size (tK (x.tl.getD ty.toNat ty0) (va ty.toNat) (vb ty.toNat)) = W := ⟨_, rfl⟩
 have hb := hW ▸ below_var W7 (.cells nZT 80) (tK (x.tl.getD ty.toNat ty0) (va ty.toNat) (vb ty.toNat))
 have hq : Cb W10 W7.heap.size (tK (x.tl.getD ty.toNat ty0) (va ty.toNat) (vb ty.toNat)) 80 := hW ▸ Cb.row (Cb.made W7 nZT 80) _
 refine sx_mem (by kernel_rfl) rfl rfl (pt W7.heap.size 0) (W7.alloc (.cells nZT 80)) (by kernel_rfl) ?_
 refine Zs (cells := (tK (x.tl.getD ty.toNat ty0) (va ty.toNat) (vb ty.toNat))) rfl rfl (Cb.made W7 nZT 80) ?_
 rw [hW]
 replace HB := over HB hb
 replace M2 := M2.below hb
 replace M4 := M4.below hb
 replace M6 := M6.below hb
 replace M8 := M8.below hb
 have z5 := hb.size
 have M9 := hq
 have yM9 := hq.lt
 clear hq hb hW
 refine Yn (Yo (Yq (Zv rfl (pt W7.heap.size 2) (Zw rfl (.int .i64 ((x.tl.getD ty.toNat ty0).fr)) (el (M9.cell 2 rfl) Tryz.underlying3) (Zv rfl (pt W3.heap.size 1) (Zw rfl (.int .i64 S.d) (el (M6.cell 1 rfl) Tryz.underlying3) (Zv rfl (.agg #[.int .i64 ((x.tl.getD ty.toNat ty0).fr), .int .i64 S.d, .int .i64 0]) ?_)))))))
 obtain ⟨W12, hW, hb, hq⟩ := laidV W10 nZ3 #[.int .i64 ((x.tl.getD ty.toNat ty0).fr), .int .i64 S.d, .int .i64 0] 89
 refine sx_mem (by kernel_rfl) rfl rfl (pt W10.heap.size 0) (W10.alloc (.cells nZ3 89)) (by kernel_rfl) ?_
 refine Zs (cells := #[.int .i64 ((x.tl.getD ty.toNat ty0).fr), .int .i64 S.d, .int .i64 0]) rfl rfl (Cb.made W10 nZ3 89) ?_
 rw [hW]
 replace HB := over HB hb
 replace M2 := M2.below hb
 replace M4 := M4.below hb
 replace M6 := M6.below hb
 replace M8 := M8.below hb
 replace M9 := M9.below hb
 have z6 := hb.size
 have M11 := hq
 have yM11 := hq.lt
 clear hq hb hW
 refine Yn (Yo (Ys (Yq (Zv rfl (.int .i64 0) (Yn (Yo (wp_block ?_)))))))
 refine sx_loop (fun i : Nat => [(0, .agg (iK k x)), (1, .agg (rK ty st orr F.length cr oa l.length ca)), (2, .agg (sK S oS cS)), (3, .int .i64 ((a : Nat) : Int)), (4, .pointer (some ⟨w.heap.size, 0, none⟩)), (5, .pointer (some ⟨W1.heap.size, 0, none⟩)), (6, .pointer (some ⟨W3.heap.size, 0, none⟩)), (8, .pointer (some ⟨W5.heap.size, 0, none⟩)), (9, .pointer (some ⟨W7.heap.size, 0, none⟩)), (10, .pointer (some ⟨W10.heap.size, 0, none⟩)), (11, .int .i64 ((i : Nat) : Int)), (12, .pointer (some ⟨w.heap.size, 2, none⟩)), (13, .slice k.o2 x.tl.length k.c2), (14, .pointer (some ⟨W1.heap.size, 0, none⟩)), (15, .int .i64 ty), (16, .pointer (some ⟨bt, qt + (ty.toNat) * 14, none⟩)), (17, .agg (tK (x.tl.getD ty.toNat ty0) (va ty.toNat) (vb ty.toNat))), (18, .pointer (some ⟨W7.heap.size, 2, none⟩)), (19, .int .i64 ((x.tl.getD ty.toNat ty0).fr)), (20, .pointer (some ⟨W3.heap.size, 1, none⟩)), (21, .int .i64 S.d), (22, .agg #[.int .i64 ((x.tl.getD ty.toNat ty0).fr), .int .i64 S.d, .int .i64 0])]) (fun gg i wr => i ≤ a ∧ a - i ≤ gg ∧ Cb wr (W10.heap.size) #[.int .i64 (((crs x ty st l).S.getD i st0).p), .int .i64 (((crs x ty st l).lg S.rts i).dep), .int .i64 (CrT.gS ((crs x ty st l).dn S.rts i).2 (S.rts.getD i false))] 89 ∧ Below w.heap.size w wr ∧ Cb wr (w.heap.size) (iK k x) 30 ∧ Cb wr (W1.heap.size) (rK ty st orr F.length cr oa l.length ca) 34 ∧ Cb wr (W3.heap.size) (sK S oS cS) 37 ∧ Cb wr (W5.heap.size) nZ3 89 ∧ Cb wr (W7.heap.size) (tK (x.tl.getD ty.toNat ty0) (va ty.toNat) (vb ty.toNat)) 80) (a) (0) (by kernel_rfl) ⟨Nat.zero_le _, Nat.le_refl _, by rw [hg0, ← hd0]; exact M11, HB, M2, M4, M6, M8, M9⟩ ?_
 rintro gg i g' wr13 ⟨hi, hg, Q10, HB, KM2, KM4, KM6, KM8, KM9⟩
 have yKM2 := KM2.lt
 have yKM4 := KM4.lt
 have yKM6 := KM6.lt
 have yKM8 := KM8.lt
 have yKM9 := KM9.lt
 have yQ10 := Q10.lt
 refine Ys (Yq (Zv rfl (.int .i64 ((i : Nat) : Int)) (Zv rfl (.int .i64 ((a : Nat) : Int)) ?_)))
 by_cases C1 : i < a
 ·refine Zb rfl (decide (((i : Nat) : Int) < ((a : Nat) : Int))) true (decide_eq_true (by omega)) (Yn (Yo (sx_true (by kernel_rfl) (wp_skip (Yo (Ys (wp_block ?_)))))))
  have hlo := CrT.lg_ok hc (Nat.le_refl _) hrun (show i < (crs x ty st l).n by omega)
  have hdb := CrT.dn_bd hc (R := S.rts) i (by omega) (CrT.run_le hrun (by omega))
  have hgd := CrT.gD_bd hc (S.rts.getD i false) ⟨hdb.1, hdb.2.1⟩
  have hdp : 0 ≤ ((crs x ty st l).lg S.rts i).dep ∧ ((crs x ty st l).lg S.rts i).dep ≤ 12288 := hgd
  have hla := CrT.lg_arr hc hrun (k := i) (by omega)
  have hgs : 0 ≤ (CrT.gS ((crs x ty st l).dn S.rts i).2 (S.rts.getD i false)) ∧ (CrT.gS ((crs x ty st l).dn S.rts i).2 (S.rts.getD i false)) ≤ 4096 := by unfold CrT.gS; split <;> omega
  have hsn : ((crs x ty st l).lg S.rts i).sin = (CrT.gS ((crs x ty st l).dn S.rts i).2 (S.rts.getD i false)) + (((crs x ty st l).lg S.rts i).arr - ((crs x ty st l).lg S.rts i).dep) := rfl
  refine sx_cut (fun _ : Unit => [(0, .agg (iK k x)), (1, .agg (rK ty st orr F.length cr oa l.length ca)), (2, .agg (sK S oS cS)), (3, .int .i64 ((a : Nat) : Int)), (4, .pointer (some ⟨w.heap.size, 0, none⟩)), (5, .pointer (some ⟨W1.heap.size, 0, none⟩)), (6, .pointer (some ⟨W3.heap.size, 0, none⟩)), (8, .pointer (some ⟨W5.heap.size, 0, none⟩)), (9, .pointer (some ⟨W7.heap.size, 0, none⟩)), (10, .pointer (some ⟨W10.heap.size, 0, none⟩)), (11, .int .i64 ((i : Nat) : Int)), (12, .pointer (some ⟨w.heap.size, 2, none⟩)), (13, .slice k.o2 x.tl.length k.c2), (14, .pointer (some ⟨W1.heap.size, 0, none⟩)), (15, .int .i64 ty), (16, .pointer (some ⟨bt, qt + (ty.toNat) * 14, none⟩)), (17, .agg (tK (x.tl.getD ty.toNat ty0) (va ty.toNat) (vb ty.toNat))), (18, .pointer (some ⟨W7.heap.size, 2, none⟩)), (19, .int .i64 ((x.tl.getD ty.toNat ty0).fr)), (20, .pointer (some ⟨W3.heap.size, 1, none⟩)), (21, .int .i64 S.d), (22, .agg #[.int .i64 ((x.tl.getD ty.toNat ty0).fr), .int .i64 S.d, .int .i64 0]), (23, .int .i64 ((i : Nat) : Int)), (24, .int .i64 ((a : Nat) : Int)), (25, .bool true)]) (fun _ wr => wr13.heap.size ≤ wr.heap.size ∧ Below w.heap.size w wr ∧ Cb wr (w.heap.size) (iK k x) 30 ∧ Cb wr (W1.heap.size) (rK ty st orr F.length cr oa l.length ca) 34 ∧ Cb wr (W3.heap.size) (sK S oS cS) 37 ∧ Cb wr (W5.heap.size) nZ3 89 ∧ Cb wr (W7.heap.size) (tK (x.tl.getD ty.toNat ty0) (va ty.toNat) (vb ty.toNat)) 80 ∧ Cb wr (W10.heap.size) #[.int .i64 (((crs x ty st l).S.getD i st0).p), .int .i64 (((crs x ty st l).lg S.rts i).dep), .int .i64 (((crs x ty st l).lg S.rts i).sin)] 89) ?_ ?_
  ·obtain ⟨Y15, hW⟩ : ∃ W, wr13.drew = W := ⟨_, rfl⟩
   have hb : Below wr13.heap.size wr13 Y15 := hW ▸ below_drew (Below.refl _ _)
   replace HB := over HB hb
   replace KM2 := KM2.below hb
   replace KM4 := KM4.below hb
   replace KM6 := KM6.below hb
   replace KM8 := KM8.below hb
   replace KM9 := KM9.below hb
   replace Q10 := Q10.below hb
   have z7 := hb.size
   clear hb
   refine sd_begin (fun W => Cb W (w.heap.size) (iK k x) 30 ∧ Cb W (W1.heap.size) (rK ty st orr F.length cr oa l.length ca) 34 ∧ Cb W (W3.heap.size) (sK S oS cS) 37 ∧ Cb W (W5.heap.size) nZ3 89 ∧ Cb W (W7.heap.size) (tK (x.tl.getD ty.toNat ty0) (va ty.toNat) (vb ty.toNat)) 80 ∧ Rw W bt qt 14 (tyF x.tl va vb) x.tl.length k.o2 ∧ Rw W b o 2 (vF l) l.length oa ∧ Rw W bS qS 4 (fun i1 => tmE ((crs x ty st l).tm S.rts i1)) S.T.length oS ∧ True) (by kernel_rfl) (by rw [hW]; exact ⟨KM2, KM4, KM6, KM8, KM9, (hTy.below HB), (hl.below HB), (hTm.below HB), trivial⟩) ?_
   rw [hW]
   clear hW
   refine Zu 0 rfl rfl (pt W10.heap.size 2) ⟨KM2, KM4, KM6, KM8, KM9, (hTy.below HB), (hl.below HB), (hTm.below HB), trivial⟩ ?_
   refine Zu 2 rfl rfl (pt W3.heap.size 2) ⟨KM2, KM4, KM6, KM8, KM9, (hTy.below HB), (hl.below HB), (hTm.below HB), trivial⟩ ?_
   refine Zt 3 rfl rfl (.slice oS S.T.length cS) (fun w9 h9 => el (h9.2.2.1.cell 2 rfl) Tryz.underlying35) ⟨KM2, KM4, KM6, KM8, KM9, (hTy.below HB), (hl.below HB), (hTm.below HB), trivial⟩ ?_
   refine Zu 4 rfl rfl (.int .i64 ((i : Nat) : Int)) ⟨KM2, KM4, KM6, KM8, KM9, (hTy.below HB), (hl.below HB), (hTm.below HB), trivial⟩ ?_
   refine Zt 5 rfl rfl (pt bS (qS + i * 4)) (fun w9 h9 => ex_indexO (q := qS) (m := S.T.length) (c := cS) (k := i) (s := 4) rfl (by kernel_rfl) (h9.2.2.2.2.2.2.2.1.oa (k := i) (by omega)) (by kernel_rfl) Tryz.underlying35 (by kernel_rfl) (by omega) (by omega)) ⟨KM2, KM4, KM6, KM8, KM9, (hTy.below HB), (hl.below HB), (hTm.below HB), trivial⟩ ?_
   refine Zu 6 rfl rfl (pt bS (qS + i * 4)) ⟨KM2, KM4, KM6, KM8, KM9, (hTy.below HB), (hl.below HB), (hTm.below HB), trivial⟩ ?_
   refine Zt 7 rfl rfl (.int .i64 (((crs x ty st l).lg S.rts i).arr)) (fun w9 h9 => el (h9.2.2.2.2.2.2.2.1.cell (k := i) (by omega) 0 rfl) Tryz.underlying3) ⟨KM2, KM4, KM6, KM8, KM9, (hTy.below HB), (hl.below HB), (hTm.below HB), trivial⟩ ?_
   refine Zu 8 rfl rfl (pt W10.heap.size 1) ⟨KM2, KM4, KM6, KM8, KM9, (hTy.below HB), (hl.below HB), (hTm.below HB), trivial⟩ ?_
   refine sd_all [1, 9] (by kernel_rfl) (by decide) ?_
   refine sd_mem (i := 1) rfl (by kernel_rfl) rfl rfl (.int .i64 (CrT.gS ((crs x ty st l).dn S.rts i).2 (S.rts.getD i false))) Y15 (el (Q10.cell 2 rfl) Tryz.underlying3) ⟨KM2, KM4, KM6, KM8, KM9, (hTy.below HB), (hl.below HB), (hTm.below HB), trivial⟩ ?_ ?_
   ·refine sd_all [9] (by kernel_rfl) (by decide) ?_
    refine sd_mem (i := 9) rfl (by kernel_rfl) rfl rfl (.int .i64 (((crs x ty st l).lg S.rts i).dep)) Y15 (el (Q10.cell 1 rfl) Tryz.underlying3) ⟨KM2, KM4, KM6, KM8, KM9, (hTy.below HB), (hl.below HB), (hTm.below HB), trivial⟩ ?_ AllReadyH.nil
    refine Zt 10 rfl rfl (.int .i64 (((crs x ty st l).lg S.rts i).arr - ((crs x ty st l).lg S.rts i).dep)) (fun w9 _ => ex_int .i64 (IntKind.i64.wrap (((crs x ty st l).lg S.rts i).arr - ((crs x ty st l).lg S.rts i).dep)) ((((crs x ty st l).lg S.rts i).arr - ((crs x ty st l).lg S.rts i).dep)) (by kernel_rfl) (by rw [IntKind.wrap_i64]; omega)) ⟨KM2, KM4, KM6, KM8, KM9, (hTy.below HB), (hl.below HB), (hTm.below HB), trivial⟩ ?_
    refine Zt 11 rfl rfl (.int .i64 (((crs x ty st l).lg S.rts i).sin)) (fun w9 _ => ex_int .i64 (IntKind.i64.wrap ((CrT.gS ((crs x ty st l).dn S.rts i).2 (S.rts.getD i false)) + (((crs x ty st l).lg S.rts i).arr - ((crs x ty st l).lg S.rts i).dep))) (((crs x ty st l).lg S.rts i).sin) (by kernel_rfl) (by rw [IntKind.wrap_i64, ← hsn]; omega)) ⟨KM2, KM4, KM6, KM8, KM9, (hTy.below HB), (hl.below HB), (hTm.below HB), trivial⟩ ?_
    refine Zu 12 rfl rfl (pt W10.heap.size 2) ⟨KM2, KM4, KM6, KM8, KM9, (hTy.below HB), (hl.below HB), (hTm.below HB), trivial⟩ ?_
    refine sd_all [13] (by kernel_rfl) (by decide) ?_
    refine sd_do (i := 13) rfl (by kernel_rfl) rfl (Y15.setCell ⟨W10.heap.size, 2, none⟩ (.int .i64 (((crs x ty st l).lg S.rts i).sin))) (ex_storeC (k := 2) (old := .int .i64 (CrT.gS ((crs x ty st l).dn S.rts i).2 (S.rts.getD i false))) rfl Q10 (by kernel_rfl) (by kernel_rfl) (by kernel_rfl) (by kernel_rfl) (by kernel_rfl)) ⟨(KM2.kept (grown_set Y15 (W10.heap.size) 2 (.int .i64 (((crs x ty st l).lg S.rts i).sin))) (by omega)), (KM4.kept (grown_set Y15 (W10.heap.size) 2 (.int .i64 (((crs x ty st l).lg S.rts i).sin))) (by omega)), (KM6.kept (grown_set Y15 (W10.heap.size) 2 (.int .i64 (((crs x ty st l).lg S.rts i).sin))) (by omega)), (KM8.kept (grown_set Y15 (W10.heap.size) 2 (.int .i64 (((crs x ty st l).lg S.rts i).sin))) (by omega)), (KM9.kept (grown_set Y15 (W10.heap.size) 2 (.int .i64 (((crs x ty st l).lg S.rts i).sin))) (by omega)), (hTy.below (HB.grown (grown_set Y15 (W10.heap.size) 2 (.int .i64 (((crs x ty st l).lg S.rts i).sin))) (by omega) (oG (by omega)))), (hl.below (HB.grown (grown_set Y15 (W10.heap.size) 2 (.int .i64 (((crs x ty st l).lg S.rts i).sin))) (by omega) (oG (by omega)))), (hTm.below (HB.grown (grown_set Y15 (W10.heap.size) 2 (.int .i64 (((crs x ty st l).lg S.rts i).sin))) (by omega) (oG (by omega)))), trivial⟩ ?_ AllReadyH.nil
    obtain ⟨W16, hW⟩ : ∃ W, Y15.setCell ⟨W10.heap.size, 2, none⟩ (.int .i64 (((crs x ty st l).lg S.rts i).sin)) = W := ⟨_, rfl⟩
    have hg : Y15.grownBy W16 (some (W10.heap.size)) := hW ▸ grown_set _ _ _ _
    have hq : Cb W16 (W10.heap.size) #[.int .i64 (((crs x ty st l).S.getD i st0).p), .int .i64 (((crs x ty st l).lg S.rts i).dep), .int .i64 (((crs x ty st l).lg S.rts i).sin)] 89 := hW ▸ Q10.set 2 (.int .i64 (((crs x ty st l).lg S.rts i).sin))
    rw [hW]
    replace HB := HB.grown hg (by omega) (oG (by omega))
    replace KM2 := KM2.kept hg (by omega)
    replace KM4 := KM4.kept hg (by omega)
    replace KM6 := KM6.kept hg (by omega)
    replace KM8 := KM8.kept hg (by omega)
    replace KM9 := KM9.kept hg (by omega)
    have z8 := hg.size
    replace Q10 := hq
    clear hq hg hW
    refine sd_done (by kernel_rfl) ?_
    refine Yo ?_
    exact ⟨(), ⟨by show _ ≤ _; omega, HB, KM2, KM4, KM6, KM8, KM9, Q10⟩, fr_less (by kernel_rfl)⟩
   refine sd_mem (i := 9) rfl (by kernel_rfl) rfl rfl (.int .i64 (((crs x ty st l).lg S.rts i).dep)) Y15 (el (Q10.cell 1 rfl) Tryz.underlying3) ⟨KM2, KM4, KM6, KM8, KM9, (hTy.below HB), (hl.below HB), (hTm.below HB), trivial⟩ ?_ AllReadyH.nil
   refine Zt 10 rfl rfl (.int .i64 (((crs x ty st l).lg S.rts i).arr - ((crs x ty st l).lg S.rts i).dep)) (fun w9 _ => ex_int .i64 (IntKind.i64.wrap (((crs x ty st l).lg S.rts i).arr - ((crs x ty st l).lg S.rts i).dep)) ((((crs x ty st l).lg S.rts i).arr - ((crs x ty st l).lg S.rts i).dep)) (by kernel_rfl) (by rw [IntKind.wrap_i64]; omega)) ⟨KM2, KM4, KM6, KM8, KM9, (hTy.below HB), (hl.below HB), (hTm.below HB), trivial⟩ ?_
   refine sd_all [1] (by kernel_rfl) (by decide) ?_
   refine sd_mem (i := 1) rfl (by kernel_rfl) rfl rfl (.int .i64 (CrT.gS ((crs x ty st l).dn S.rts i).2 (S.rts.getD i false))) Y15 (el (Q10.cell 2 rfl) Tryz.underlying3) ⟨KM2, KM4, KM6, KM8, KM9, (hTy.below HB), (hl.below HB), (hTm.below HB), trivial⟩ ?_ AllReadyH.nil
   refine Zt 11 rfl rfl (.int .i64 (((crs x ty st l).lg S.rts i).sin)) (fun w9 _ => ex_int .i64 (IntKind.i64.wrap ((CrT.gS ((crs x ty st l).dn S.rts i).2 (S.rts.getD i false)) + (((crs x ty st l).lg S.rts i).arr - ((crs x ty st l).lg S.rts i).dep))) (((crs x ty st l).lg S.rts i).sin) (by kernel_rfl) (by rw [IntKind.wrap_i64, ← hsn]; omega)) ⟨KM2, KM4, KM6, KM8, KM9, (hTy.below HB), (hl.below HB), (hTm.below HB), trivial⟩ ?_
   refine Zu 12 rfl rfl (pt W10.heap.size 2) ⟨KM2, KM4, KM6, KM8, KM9, (hTy.below HB), (hl.below HB), (hTm.below HB), trivial⟩ ?_
   refine sd_all [13] (by kernel_rfl) (by decide) ?_
   refine sd_do (i := 13) rfl (by kernel_rfl) rfl (Y15.setCell ⟨W10.heap.size, 2, none⟩ (.int .i64 (((crs x ty st l).lg S.rts i).sin))) (ex_storeC (k := 2) (old := .int .i64 (CrT.gS ((crs x ty st l).dn S.rts i).2 (S.rts.getD i false))) rfl Q10 (by kernel_rfl) (by kernel_rfl) (by kernel_rfl) (by kernel_rfl) (by kernel_rfl)) ⟨(KM2.kept (grown_set Y15 (W10.heap.size) 2 (.int .i64 (((crs x ty st l).lg S.rts i).sin))) (by omega)), (KM4.kept (grown_set Y15 (W10.heap.size) 2 (.int .i64 (((crs x ty st l).lg S.rts i).sin))) (by omega)), (KM6.kept (grown_set Y15 (W10.heap.size) 2 (.int .i64 (((crs x ty st l).lg S.rts i).sin))) (by omega)), (KM8.kept (grown_set Y15 (W10.heap.size) 2 (.int .i64 (((crs x ty st l).lg S.rts i).sin))) (by omega)), (KM9.kept (grown_set Y15 (W10.heap.size) 2 (.int .i64 (((crs x ty st l).lg S.rts i).sin))) (by omega)), (hTy.below (HB.grown (grown_set Y15 (W10.heap.size) 2 (.int .i64 (((crs x ty st l).lg S.rts i).sin))) (by omega) (oG (by omega)))), (hl.below (HB.grown (grown_set Y15 (W10.heap.size) 2 (.int .i64 (((crs x ty st l).lg S.rts i).sin))) (by omega) (oG (by omega)))), (hTm.below (HB.grown (grown_set Y15 (W10.heap.size) 2 (.int .i64 (((crs x ty st l).lg S.rts i).sin))) (by omega) (oG (by omega)))), trivial⟩ ?_ AllReadyH.nil
   obtain ⟨W17, hW⟩ : ∃ W, Y15.setCell ⟨W10.heap.size, 2, none⟩ (.int .i64 (((crs x ty st l).lg S.rts i).sin)) = W := ⟨_, rfl⟩
   have hg : Y15.grownBy W17 (some (W10.heap.size)) := hW ▸ grown_set _ _ _ _
   have hq : Cb W17 (W10.heap.size) #[.int .i64 (((crs x ty st l).S.getD i st0).p), .int .i64 (((crs x ty st l).lg S.rts i).dep), .int .i64 (((crs x ty st l).lg S.rts i).sin)] 89 := hW ▸ Q10.set 2 (.int .i64 (((crs x ty st l).lg S.rts i).sin))
   rw [hW]
   replace HB := HB.grown hg (by omega) (oG (by omega))
   replace KM2 := KM2.kept hg (by omega)
   replace KM4 := KM4.kept hg (by omega)
   replace KM6 := KM6.kept hg (by omega)
   replace KM8 := KM8.kept hg (by omega)
   replace KM9 := KM9.kept hg (by omega)
   have z8 := hg.size
   replace Q10 := hq
   clear hq hg hW
   refine sd_done (by kernel_rfl) ?_
   refine Yo ?_
   exact ⟨(), ⟨by show _ ≤ _; omega, HB, KM2, KM4, KM6, KM8, KM9, Q10⟩, fr_less (by kernel_rfl)⟩
  clear HB KM2 KM4 KM6 KM8 KM9 Q10
  rintro - g' wr14 ⟨hzwr14, HB, KM2, KM4, KM6, KM8, KM9, Q10⟩
  have hgn : (CrT.gS ((crs x ty st l).dn S.rts (i + 1)).2 (S.rts.getD (i + 1) false)) = if S.rts.getD (i + 1) false = true then 0 else ((crs x ty st l).lg S.rts i).sin := rfl
  refine sx_cut (fun _ : Unit => [(0, .agg (iK k x)), (1, .agg (rK ty st orr F.length cr oa l.length ca)), (2, .agg (sK S oS cS)), (3, .int .i64 ((a : Nat) : Int)), (4, .pointer (some ⟨w.heap.size, 0, none⟩)), (5, .pointer (some ⟨W1.heap.size, 0, none⟩)), (6, .pointer (some ⟨W3.heap.size, 0, none⟩)), (8, .pointer (some ⟨W5.heap.size, 0, none⟩)), (9, .pointer (some ⟨W7.heap.size, 0, none⟩)), (10, .pointer (some ⟨W10.heap.size, 0, none⟩)), (11, .int .i64 ((i : Nat) : Int)), (12, .pointer (some ⟨w.heap.size, 2, none⟩)), (13, .slice k.o2 x.tl.length k.c2), (14, .pointer (some ⟨W1.heap.size, 0, none⟩)), (15, .int .i64 ty), (16, .pointer (some ⟨bt, qt + (ty.toNat) * 14, none⟩)), (17, .agg (tK (x.tl.getD ty.toNat ty0) (va ty.toNat) (vb ty.toNat))), (18, .pointer (some ⟨W7.heap.size, 2, none⟩)), (19, .int .i64 ((x.tl.getD ty.toNat ty0).fr)), (20, .pointer (some ⟨W3.heap.size, 1, none⟩)), (21, .int .i64 S.d), (22, .agg #[.int .i64 ((x.tl.getD ty.toNat ty0).fr), .int .i64 S.d, .int .i64 0]), (23, .int .i64 ((i : Nat) : Int)), (24, .int .i64 ((a : Nat) : Int)), (25, .bool true)]) (fun _ wr => wr14.heap.size ≤ wr.heap.size ∧ Below w.heap.size w wr ∧ Cb wr (w.heap.size) (iK k x) 30 ∧ Cb wr (W1.heap.size) (rK ty st orr F.length cr oa l.length ca) 34 ∧ Cb wr (W3.heap.size) (sK S oS cS) 37 ∧ Cb wr (W5.heap.size) nZ3 89 ∧ Cb wr (W7.heap.size) (tK (x.tl.getD ty.toNat ty0) (va ty.toNat) (vb ty.toNat)) 80 ∧ Cb wr (W10.heap.size) #[.int .i64 (((crs x ty st l).S.getD i st0).p), .int .i64 (((crs x ty st l).lg S.rts i).dep), .int .i64 (CrT.gS ((crs x ty st l).dn S.rts (i + 1)).2 (S.rts.getD (i + 1) false))] 89) ?_ ?_
  ·refine Yq (Zv rfl (pt W3.heap.size 2) (Zw rfl (.slice oS S.T.length cS) (el (KM6.cell 2 rfl) Tryz.underlying35) (Zv rfl (.int .i64 ((i : Nat) : Int)) (Zw rfl (pt bS (qS + i * 4)) (ex_indexO (q := qS) (m := S.T.length) (c := cS) (k := i) (s := 4) rfl (by kernel_rfl) ((hTm.below HB).oa (k := i) (by omega)) (by kernel_rfl) Tryz.underlying35 (by kernel_rfl) (by omega) (by omega)) (Zv rfl (pt bS (qS + i * 4 + 3)) (Zw rfl (.bool (S.rts.getD (i + 1) false)) (el ((hTm.below HB).cell (k := i) (by omega) 3 (v := .bool (S.rts.getD (i + 1) false)) rfl) Tryz.underlying4) (Yn (Yo ?_))))))))
   by_cases C2 : (S.rts.getD (i + 1) false) = true
   ·refine sx_true (by show Value.bool (S.rts.getD (i + 1) false) = .bool true; rw [C2]) (Yr (Zv rfl (pt W10.heap.size 2) ?_))
    refine sx_do (by kernel_rfl) rfl _ (ex_storeC (k := 2) (old := .int .i64 (((crs x ty st l).lg S.rts i).sin)) (v := .int .i64 0) rfl Q10 (by kernel_rfl) (by kernel_rfl) (by kernel_rfl) (by kernel_rfl) (by kernel_rfl)) ?_
    obtain ⟨W19, hW⟩ : ∃ W, wr14.setCell ⟨W10.heap.size, 2, none⟩ (.int .i64 0) = W := ⟨_, rfl⟩
    have hg : wr14.grownBy W19 (some (W10.heap.size)) := hW ▸ grown_set _ _ _ _
    have hq : Cb W19 (W10.heap.size) #[.int .i64 (((crs x ty st l).S.getD i st0).p), .int .i64 (((crs x ty st l).lg S.rts i).dep), .int .i64 0] 89 := hW ▸ Q10.set 2 (.int .i64 0)
    rw [hW]
    replace HB := HB.grown hg (by omega) (oG (by omega))
    replace KM2 := KM2.kept hg (by omega)
    replace KM4 := KM4.kept hg (by omega)
    replace KM6 := KM6.kept hg (by omega)
    replace KM8 := KM8.kept hg (by omega)
    replace KM9 := KM9.kept hg (by omega)
    have z7 := hg.size
    replace Q10 := hq
    clear hq hg hW
    refine Yn (Yo ?_)
    replace Q10 : Cb W19 (W10.heap.size) #[.int .i64 (((crs x ty st l).S.getD i st0).p), .int .i64 (((crs x ty st l).lg S.rts i).dep), .int .i64 (CrT.gS ((crs x ty st l).dn S.rts (i + 1)).2 (S.rts.getD (i + 1) false))] 89 := by rw [show (CrT.gS ((crs x ty st l).dn S.rts (i + 1)).2 (S.rts.getD (i + 1) false)) = 0 from (by rw [hgn]; first | exact if_pos (by assumption) | exact if_neg (by assumption))]; exact Q10
    exact ⟨(), ⟨by show _ ≤ _; omega, HB, KM2, KM4, KM6, KM8, KM9, Q10⟩, fr_less (by kernel_rfl)⟩
   refine sx_false (by show Value.bool (S.rts.getD (i + 1) false) = .bool false; rw [show (S.rts.getD (i + 1) false) = false by simpa using C2]) (wp_skip (Yo ?_))
   replace Q10 : Cb wr14 (W10.heap.size) #[.int .i64 (((crs x ty st l).S.getD i st0).p), .int .i64 (((crs x ty st l).lg S.rts i).dep), .int .i64 (CrT.gS ((crs x ty st l).dn S.rts (i + 1)).2 (S.rts.getD (i + 1) false))] 89 := by rw [show (CrT.gS ((crs x ty st l).dn S.rts (i + 1)).2 (S.rts.getD (i + 1) false)) = (((crs x ty st l).lg S.rts i).sin) from (by rw [hgn]; first | exact if_pos (by assumption) | exact if_neg (by assumption))]; exact Q10
   exact ⟨(), ⟨by show _ ≤ _; omega, HB, KM2, KM4, KM6, KM8, KM9, Q10⟩, fr_less (by kernel_rfl)⟩
  clear HB KM2 KM4 KM6 KM8 KM9 Q10
  rintro - g' wr18 ⟨hzwr18, HB, KM2, KM4, KM6, KM8, KM9, Q10⟩
  refine Ys ?_
  obtain ⟨Y20, hW⟩ : ∃ W, wr18.drew = W := ⟨_, rfl⟩
  have hb : Below wr18.heap.size wr18 Y20 := hW ▸ below_drew (Below.refl _ _)
  replace HB := over HB hb
  replace KM2 := KM2.below hb
  replace KM4 := KM4.below hb
  replace KM6 := KM6.below hb
  replace KM8 := KM8.below hb
  replace KM9 := KM9.below hb
  replace Q10 := Q10.below hb
  have z7 := hb.size
  clear hb
  refine sd_begin (fun W => Cb W (w.heap.size) (iK k x) 30 ∧ Cb W (W1.heap.size) (rK ty st orr F.length cr oa l.length ca) 34 ∧ Cb W (W3.heap.size) (sK S oS cS) 37 ∧ Cb W (W5.heap.size) nZ3 89 ∧ Cb W (W7.heap.size) (tK (x.tl.getD ty.toNat ty0) (va ty.toNat) (vb ty.toNat)) 80 ∧ Rw W bt qt 14 (tyF x.tl va vb) x.tl.length k.o2 ∧ Rw W b o 2 (vF l) l.length oa ∧ Rw W bS qS 4 (fun i1 => tmE ((crs x ty st l).tm S.rts i1)) S.T.length oS ∧ True) (by kernel_rfl) (by rw [hW]; exact ⟨KM2, KM4, KM6, KM8, KM9, (hTy.below HB), (hl.below HB), (hTm.below HB), trivial⟩) ?_
  rw [hW]
  clear hW
  refine Zt 0 rfl rfl (.agg (iK k x)) (fun w9 h9 => ex_load rfl h9.1 (by kernel_rfl) Tryz.underlying30 rfl (by kernel_rfl)) ⟨KM2, KM4, KM6, KM8, KM9, (hTy.below HB), (hl.below HB), (hTm.below HB), trivial⟩ ?_
  refine Zu 1 rfl rfl (pt W1.heap.size 3) ⟨KM2, KM4, KM6, KM8, KM9, (hTy.below HB), (hl.below HB), (hTm.below HB), trivial⟩ ?_
  refine Zt 2 rfl rfl (.slice oa l.length ca) (fun w9 h9 => el (h9.2.1.cell 3 rfl) Tryz.underlying32) ⟨KM2, KM4, KM6, KM8, KM9, (hTy.below HB), (hl.below HB), (hTm.below HB), trivial⟩ ?_
  refine Zu 3 rfl rfl (.int .i64 ((i : Nat) : Int)) ⟨KM2, KM4, KM6, KM8, KM9, (hTy.below HB), (hl.below HB), (hTm.below HB), trivial⟩ ?_
  refine Zt 4 rfl rfl (pt b (o + i * 2)) (fun w9 h9 => ex_indexO (q := o) (m := l.length) (c := ca) (k := i) (s := 2) rfl (by kernel_rfl) (h9.2.2.2.2.2.2.1.oa (k := i) (by omega)) (by kernel_rfl) Tryz.underlying32 (by kernel_rfl) (by omega) (by omega)) ⟨KM2, KM4, KM6, KM8, KM9, (hTy.below HB), (hl.below HB), (hTm.below HB), trivial⟩ ?_
  refine Zt 5 rfl rfl (.agg #[.int .i64 ((l.getD i (0, false)).1), .bool (l.getD i (0, false)).2]) (fun w9 h9 => ex_loadR rfl (h9.2.2.2.2.2.2.1.range (k := i) (by omega)) (by kernel_rfl) Tryz.underlying82 rfl (by kernel_rfl)) ⟨KM2, KM4, KM6, KM8, KM9, (hTy.below HB), (hl.below HB), (hTm.below HB), trivial⟩ ?_
  refine sd_all [6] (by kernel_rfl) (by decide) ?_
  refine sd_call (i := 6) rfl (by kernel_rfl) rfl rfl (place19_n k x hxl ty st l hp9 i (by omega) Y20 (hI.below HB)) (by kernel_rfl) ?_ AllReadyH.nil
  rintro e W21 ⟨rfl, hb⟩
  replace HB := over HB hb
  replace KM2 := KM2.below hb
  replace KM4 := KM4.below hb
  replace KM6 := KM6.below hb
  replace KM8 := KM8.below hb
  replace KM9 := KM9.below hb
  replace Q10 := Q10.below hb
  have z8 := hb.size
  clear hb
  refine ⟨_, rfl, ⟨KM2, KM4, KM6, KM8, KM9, (hTy.below HB), (hl.below HB), (hTm.below HB), trivial⟩, ?_⟩
  refine Zu 7 rfl rfl (pt W10.heap.size 0) ⟨KM2, KM4, KM6, KM8, KM9, (hTy.below HB), (hl.below HB), (hTm.below HB), trivial⟩ ?_
  refine sd_all [8] (by kernel_rfl) (by decide) ?_
  refine sd_do (i := 8) rfl (by kernel_rfl) rfl (W21.setCell ⟨W10.heap.size, 0, none⟩ (.int .i64 (((crs x ty st l).S.getD (i + 1) st0).p))) (ex_storeC (k := 0) (old := .int .i64 (((crs x ty st l).S.getD i st0).p)) rfl Q10 (by kernel_rfl) (by kernel_rfl) (by kernel_rfl) (by kernel_rfl) (by kernel_rfl)) ⟨(KM2.kept (grown_set W21 (W10.heap.size) 0 (.int .i64 (((crs x ty st l).S.getD (i + 1) st0).p))) (by omega)), (KM4.kept (grown_set W21 (W10.heap.size) 0 (.int .i64 (((crs x ty st l).S.getD (i + 1) st0).p))) (by omega)), (KM6.kept (grown_set W21 (W10.heap.size) 0 (.int .i64 (((crs x ty st l).S.getD (i + 1) st0).p))) (by omega)), (KM8.kept (grown_set W21 (W10.heap.size) 0 (.int .i64 (((crs x ty st l).S.getD (i + 1) st0).p))) (by omega)), (KM9.kept (grown_set W21 (W10.heap.size) 0 (.int .i64 (((crs x ty st l).S.getD (i + 1) st0).p))) (by omega)), (hTy.below (HB.grown (grown_set W21 (W10.heap.size) 0 (.int .i64 (((crs x ty st l).S.getD (i + 1) st0).p))) (by omega) (oG (by omega)))), (hl.below (HB.grown (grown_set W21 (W10.heap.size) 0 (.int .i64 (((crs x ty st l).S.getD (i + 1) st0).p))) (by omega) (oG (by omega)))), (hTm.below (HB.grown (grown_set W21 (W10.heap.size) 0 (.int .i64 (((crs x ty st l).S.getD (i + 1) st0).p))) (by omega) (oG (by omega)))), trivial⟩ ?_ AllReadyH.nil
  obtain ⟨W22, hW⟩ : ∃ W, W21.setCell ⟨W10.heap.size, 0, none⟩ (.int .i64 (((crs x ty st l).S.getD (i + 1) st0).p)) = W := ⟨_, rfl⟩
  have hg : W21.grownBy W22 (some (W10.heap.size)) := hW ▸ grown_set _ _ _ _
  have hq : Cb W22 (W10.heap.size) #[.int .i64 (((crs x ty st l).S.getD (i + 1) st0).p), .int .i64 (((crs x ty st l).lg S.rts i).dep), .int .i64 (CrT.gS ((crs x ty st l).dn S.rts (i + 1)).2 (S.rts.getD (i + 1) false))] 89 := hW ▸ Q10.set 0 (.int .i64 (((crs x ty st l).S.getD (i + 1) st0).p))
  rw [hW]
  replace HB := HB.grown hg (by omega) (oG (by omega))
  replace KM2 := KM2.kept hg (by omega)
  replace KM4 := KM4.kept hg (by omega)
  replace KM6 := KM6.kept hg (by omega)
  replace KM8 := KM8.kept hg (by omega)
  replace KM9 := KM9.kept hg (by omega)
  have z9 := hg.size
  replace Q10 := hq
  clear hq hg hW
  refine sd_done (by kernel_rfl) ?_
  refine Yo (Yr (Zv rfl (pt W3.heap.size 2) (Zw rfl (.slice oS S.T.length cS) (el (KM6.cell 2 rfl) Tryz.underlying35) (Zv rfl (.int .i64 ((i : Nat) : Int)) (Zw rfl (pt bS (qS + i * 4)) (ex_indexO (q := qS) (m := S.T.length) (c := cS) (k := i) (s := 4) rfl (by kernel_rfl) ((hTm.below HB).oa (k := i) (by omega)) (by kernel_rfl) Tryz.underlying35 (by kernel_rfl) (by omega) (by omega)) (Zv rfl (pt bS (qS + i * 4 + 2)) (Zw rfl (.int .i64 (((crs x ty st l).lg S.rts (i + 1)).dep)) (el ((hTm.below HB).cell (k := i) (by omega) 2 rfl) Tryz.underlying3) (Zv rfl (pt W10.heap.size 1) ?_))))))))
  refine sx_do (by kernel_rfl) rfl _ (ex_storeC (k := 1) (old := .int .i64 (((crs x ty st l).lg S.rts i).dep)) (v := .int .i64 (((crs x ty st l).lg S.rts (i + 1)).dep)) rfl Q10 (by kernel_rfl) (by kernel_rfl) (by kernel_rfl) (by kernel_rfl) (by kernel_rfl)) ?_
  obtain ⟨W23, hW⟩ : ∃ W, W22.setCell ⟨W10.heap.size, 1, none⟩ (.int .i64 (((crs x ty st l).lg S.rts (i + 1)).dep)) = W := ⟨_, rfl⟩
  have hg : W22.grownBy W23 (some (W10.heap.size)) := hW ▸ grown_set _ _ _ _
  have hq : Cb W23 (W10.heap.size) #[.int .i64 (((crs x ty st l).S.getD (i + 1) st0).p), .int .i64 (((crs x ty st l).lg S.rts (i + 1)).dep), .int .i64 (CrT.gS ((crs x ty st l).dn S.rts (i + 1)).2 (S.rts.getD (i + 1) false))] 89 := hW ▸ Q10.set 1 (.int .i64 (((crs x ty st l).lg S.rts (i + 1)).dep))
  rw [hW]
  replace HB := HB.grown hg (by omega) (oG (by omega))
  replace KM2 := KM2.kept hg (by omega)
  replace KM4 := KM4.kept hg (by omega)
  replace KM6 := KM6.kept hg (by omega)
  replace KM8 := KM8.kept hg (by omega)
  replace KM9 := KM9.kept hg (by omega)
  have z10 := hg.size
  replace Q10 := hq
  clear hq hg hW
  refine Yn ?_
  refine sx_in ?_
  refine Yo (Yr (Zv rfl (.int .i64 ((i : Nat) : Int)) (Zi rfl (IntKind.i64.wrap (((i : Nat) : Int) + 1)) (((i + 1 : Nat) : Int)) (by rw [IntKind.wrap_i64]; omega) (Zv rfl (.int .i64 ((i + 1 : Nat) : Int)) (Yn (Yo ?_))))))
  exact sx_again (a - (i + 1)) (i + 1) (by omega) (by kernel_rfl) ⟨by omega, Nat.le_refl _, Q10, HB, KM2, KM4, KM6, KM8, KM9⟩
 refine Zb rfl (decide (((i : Nat) : Int) < ((a : Nat) : Int))) false (decide_eq_false (by omega)) (Yn (Yo (sx_false (by kernel_rfl) (wp_exit ?_))))
 refine sx_es ?_
 refine sx_es ?_
 refine sx_out ?_
 refine Yo (Yq (Zw rfl (.agg #[.int .i64 (((crs x ty st l).S.getD i st0).p), .int .i64 (((crs x ty st l).lg S.rts i).dep), .int .i64 (CrT.gS ((crs x ty st l).dn S.rts i).2 (S.rts.getD i false))]) (ex_load rfl Q10 (by kernel_rfl) Tryz.underlying89 rfl (by kernel_rfl)) ?_))
 refine Zr (cells := #[.int .i64 (((crs x ty st l).S.getD i st0).p), .int .i64 (((crs x ty st l).lg S.rts i).dep), .int .i64 (CrT.gS ((crs x ty st l).dn S.rts i).2 (S.rts.getD i false))]) rfl rfl KM8 (fun W24 hg hq => ?_)
 replace HB := HB.grown hg (by omega) (oG (by omega))
 have z7 := hg.size
 replace KM8 := hq
 clear hq hg
 refine Yn (Yo (wp_ret ?_))
 obtain rfl : i = a := by omega
 exact sx_retc KM8 rfl rfl rfl Tryz.underlying89 rfl (by kernel_rfl) ⟨rfl, HB⟩

end Go.Proofs.YtomebalolmabnaaGreatDoor.T



