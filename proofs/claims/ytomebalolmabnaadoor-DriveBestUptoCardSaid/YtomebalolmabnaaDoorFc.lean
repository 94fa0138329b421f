/-
  DERIVED. Fc: a part of the base of layer 13 (made by pack.py).
-/
import Derived.Test.YtomebalolmabnaaDoorGA
import Derived.Test.YtomebalolmabnaaDoorGG
/-! The specification of schedules: ways, steps, rests (by gen_fc.py). -/
namespace Go.Proofs.YtomebalolmabnaaDoor.T
open Go.RowKit
set_option maxRecDepth 8000
attribute [local irreducible] wpList Code.wp wpAnyH

theorem sx_ret3 {P : Program} {n : Nat} {g : Nat → Value} {l : List (Nat × Value)} {w : World} {fn : Func} {R : Ending → World → Prop} {t u x : Nat} (v v' v2 : Value) (hf : fn.results = #[.tmp t, .tmp u, .tmp x]) (hk : Nat.blt t n = true) (hk' : Nat.blt u n = true) (hk2 : Nat.blt x n = true) (hv : slotV g l t = v) (hv' : slotV g l u = v') (hv2 : slotV g l x = v2) (hR : R (.returned (.tuple #[v, v', v2])) w) : bodyPost P fn R .ret (fr n g l) w := by
 have hs : (fr n g l).tmps[t]?.getD undef = v := by
  rw [← Array.getD_eq_getD_getElem?]
  exact (slot_get hk).trans hv
 have hs' : (fr n g l).tmps[u]?.getD undef = v' := by
  rw [← Array.getD_eq_getD_getElem?]
  exact (slot_get hk').trans hv'
 have hs2 : (fr n g l).tmps[x]?.getD undef = v2 := by
  rw [← Array.getD_eq_getD_getElem?]
  exact (slot_get hk2).trans hv2
 refine bodyPost_ret (v := .tuple #[v, v', v2]) ?_ rfl hR
 unfold results
 simp only [hf]
 simp [hs, hs', hs2]
theorem refWay_n (k : Iv) (x : InT) (hal : x.al.length ≤ 1000000000) (hN : NetOk x.pl x.al) (pr f t d : Int) (hd0 : 0 ≤ d) (hd1 : d ≤ 1073741824) (w : World) (hI : Ins w k x) : Calls Tryd.prog 88 #[.agg (iK k x), .int .i64 pr, .int .i64 f, .int .i64 t, .int .i64 d] w fun e w' => e = .returned (.tuple #[.int .i64 (goV x.pl.length x.al pr f t d).1, .int .i64 (goV x.pl.length x.al pr f t d).2.1, .bool (decide ((goV x.pl.length x.al pr f t d).2.2 = 0))]) ∧ Below w.heap.size w w' := by
 have HB : Below w.heap.size w w := Below.refl _ _
 refine sx_enter Tryd.func88 rfl [(0, .agg (iK k x)), (1, .int .i64 pr), (2, .int .i64 f), (3, .int .i64 t), (4, .int .i64 d)] (by kernel_rfl) ?_
 refine wp_seq (wp_region_lit ?_)
 obtain ⟨W1, hW, hb, hq⟩ := laidA w (iK k x) 30
 refine sx_mem (by kernel_rfl) rfl rfl (.pointer (some ⟨w.heap.size, 0, none⟩)) W1 (by rw [← hW]; kernel_rfl) ?_
 replace HB := over HB hb
 have z1 := hb.size
 have M2 := hq
 have yM2 := hq.lt
 clear hq hb hW
 refine Zv rfl (.int .i64 0) ?_
 refine Zv rfl (.int .i64 0) ?_
 refine Zv rfl (.bool false) ?_
 refine wpList_nil (sx_norm (wp_seq (wp_region_lit ?_)))
 refine Zv rfl (.pointer (some ⟨w.heap.size, 0, none⟩)) ?_
 refine Zw rfl (.agg #[.slice k.o0 x.pl.length k.c0, .slice k.o1 x.al.length k.c1]) (ex_mid (q := 0) rfl M2 [.slice k.o0 x.pl.length k.c0, .slice k.o1 x.al.length k.c1] (by kernel_rfl) Tryd.underlying25 rfl (by kernel_rfl) rfl) ?_
 refine Zv rfl (.int .i64 pr) ?_
 refine Zv rfl (.int .i64 f) ?_
 refine Zv rfl (.int .i64 t) ?_
 refine Zv rfl (.int .i64 d) ?_
 refine sx_call (by kernel_rfl) rfl rfl (refGo_n (.slice k.o0 x.pl.length k.c0) (.slice k.o1 x.al.length k.c1) x.pl x.al pr f t d hal hN hd0 hd1 W1 (hI.below HB).h0 (hI.below HB).h1) (by kernel_rfl) ?_
 rintro e W3 ⟨rfl, hb⟩
 replace HB := over HB hb
 replace M2 := M2.below hb
 have z2 := hb.size
 clear hb
 refine ⟨_, rfl, ?_⟩
 refine Zv rfl (.tuple #[.int .i64 ((goV x.pl.length x.al pr f t d).1), .int .i64 ((goV x.pl.length x.al pr f t d).2.1), .int .i64 ((goV x.pl.length x.al pr f t d).2.2)]) ?_
 refine Zv rfl (.int .i64 ((goV x.pl.length x.al pr f t d).1)) ?_
 refine Zv rfl (.int .i64 ((goV x.pl.length x.al pr f t d).2.1)) ?_
 refine Zv rfl (.int .i64 ((goV x.pl.length x.al pr f t d).2.2)) ?_
 refine Zv rfl (.int .i64 ((goV x.pl.length x.al pr f t d).1)) ?_
 refine Zv rfl (.int .i64 ((goV x.pl.length x.al pr f t d).2.1)) ?_
 refine Zv rfl (.int .i64 ((goV x.pl.length x.al pr f t d).2.2)) ?_
 refine wpList_nil (sx_norm (wp_seq (wp_region_lit ?_)))
 refine Zv rfl (.int .i64 ((goV x.pl.length x.al pr f t d).1)) ?_
 refine Zv rfl (.int .i64 ((goV x.pl.length x.al pr f t d).2.1)) ?_
 refine Zv rfl (.int .i64 ((goV x.pl.length x.al pr f t d).2.2)) ?_
 refine Zv rfl (.bool (((goV x.pl.length x.al pr f t d).2.2 : Int) == (0 : Int))) ?_
 refine Zv rfl (.int .i64 ((goV x.pl.length x.al pr f t d).1)) ?_
 refine Zv rfl (.int .i64 ((goV x.pl.length x.al pr f t d).2.1)) ?_
 refine Zv rfl (.bool (((goV x.pl.length x.al pr f t d).2.2 : Int) == (0 : Int))) ?_
 refine wpList_nil (sx_norm (wp_ret ?_))
 exact sx_ret3 (.int .i64 ((goV x.pl.length x.al pr f t d).1)) (.int .i64 ((goV x.pl.length x.al pr f t d).2.1)) (.bool (((goV x.pl.length x.al pr f t d).2.2 : Int) == (0 : Int))) rfl rfl rfl rfl (by kernel_rfl) (by kernel_rfl) (by kernel_rfl) ⟨by rw [show decide ((goV x.pl.length x.al pr f t d).2.2 = 0) = (((goV x.pl.length x.al pr f t d).2.2 : Int) == 0) by rw [Bool.eq_iff_iff, decide_eq_true_iff, beq_iff_eq]], HB⟩
structure SfT where
 p : Int
 t : Int
 d : Int
 m : Int
def sfV (s : SfT) : Value := .agg #[.int .i64 s.p, .int .i64 s.t, .int .i64 s.d, .int .i64 s.m]
def rstS (t : TyT) (s : SfT) (r : Bool) : SfT := if r = true then ⟨s.p, s.t + t.rst, 0, s.m⟩ else s
theorem refRest_n (a : TyT) (va : Option Addr) (vb : Nat) (s : SfT) (r : Bool) (hr : 0 ≤ a.rst ∧ a.rst ≤ 4096) (hs : 0 ≤ s.t ∧ s.t ≤ 1000000) (w : World) : Calls Tryd.prog 73 #[.agg #[.string a.name, .int .i64 a.count, .int .i64 a.fr, .int .i64 a.to, .slice va a.cap.length vb, .int .i64 a.skills, .int .i64 a.prof, .int .i64 a.opn, .int .i64 a.cls, .int .i64 a.drv, .int .i64 a.rst, .int .i64 a.fix, .int .i64 a.pm, .int .i64 a.pt], .agg #[.int .i64 s.p, .int .i64 s.t, .int .i64 s.d, .int .i64 s.m], .bool r] w fun e w' => e = .returned (sfV (rstS a s r)) ∧ Below w.heap.size w w' := by
 cases r with
 | false =>
  have HB : Below w.heap.size w w := Below.refl _ _
  refine sx_enter Tryd.func73 rfl [(0, .agg #[.string a.name, .int .i64 a.count, .int .i64 a.fr, .int .i64 a.to, .slice va a.cap.length vb, .int .i64 a.skills, .int .i64 a.prof, .int .i64 a.opn, .int .i64 a.cls, .int .i64 a.drv, .int .i64 a.rst, .int .i64 a.fix, .int .i64 a.pm, .int .i64 a.pt]), (1, .agg #[.int .i64 s.p, .int .i64 s.t, .int .i64 s.d, .int .i64 s.m]), (2, .bool false)] (by kernel_rfl) ?_
  refine wp_seq (wp_region_lit ?_)
  obtain ⟨W1, hW, hb, hq⟩ := laidA w #[.string a.name, .int .i64 a.count, .int .i64 a.fr, .int .i64 a.to, .slice va a.cap.length vb, .int .i64 a.skills, .int .i64 a.prof, .int .i64 a.opn, .int .i64 a.cls, .int .i64 a.drv, .int .i64 a.rst, .int .i64 a.fix, .int .i64 a.pm, .int .i64 a.pt] 95
  refine sx_mem (by kernel_rfl) rfl rfl (.pointer (some ⟨w.heap.size, 0, none⟩)) W1 (by rw [← hW]; kernel_rfl) ?_
  replace HB := over HB hb
  have z1 := hb.size
  have M2 := hq
  have yM2 := hq.lt
  clear hq hb hW
  obtain ⟨W3, hW, hb, hq⟩ := laidA W1 #[.int .i64 s.p, .int .i64 s.t, .int .i64 s.d, .int .i64 s.m] 156
  refine sx_mem (by kernel_rfl) rfl rfl (.pointer (some ⟨W1.heap.size, 0, none⟩)) W3 (by rw [← hW]; kernel_rfl) ?_
  replace HB := over HB hb
  replace M2 := M2.below hb
  have z2 := hb.size
  have M4 := hq
  have yM4 := hq.lt
  clear hq hb hW
  obtain ⟨W5, hW, hb, hq⟩ := laidA W3 #[.int .i64 0, .int .i64 0, .int .i64 0, .int .i64 0] 156
  refine sx_mem (by kernel_rfl) rfl rfl (.pointer (some ⟨W3.heap.size, 0, none⟩)) W5 (by rw [← hW]; kernel_rfl) ?_
  replace HB := over HB hb
  replace M2 := M2.below hb
  replace M4 := M4.below hb
  have z3 := hb.size
  have M6 := hq
  have yM6 := hq.lt
  clear hq hb hW
  refine wpList_nil (sx_norm (wp_seq (wp_seq (wp_region_lit ?_))))
  refine Zv rfl (.bool false) ?_
  refine wpList_nil (sx_norm ?_)
  refine sx_false (by kernel_rfl) ?_
  refine wp_skip (sx_norm (wp_seq (wp_region_lit ?_)))
  refine Zw rfl (.agg #[.int .i64 s.p, .int .i64 s.t, .int .i64 s.d, .int .i64 s.m]) (ex_load rfl M4 (by kernel_rfl) Tryd.underlying156 rfl (by kernel_rfl)) ?_
  refine Zr (cells := #[.int .i64 s.p, .int .i64 s.t, .int .i64 s.d, .int .i64 s.m]) rfl rfl M6 (fun W7 hg hq => ?_)
  replace HB := HB.grown hg (by omega) (fun x e => by simp only [Option.some.injEq] at e; omega)
  replace M2 := M2.kept hg (by omega)
  replace M4 := M4.kept hg (by omega)
  have z4 := hg.size
  replace M6 := hq
  clear hq hg
  refine wpList_nil (sx_norm (wp_ret ?_))
  exact sx_retc M6 rfl rfl (by kernel_rfl) Tryd.underlying156 rfl (by kernel_rfl) ⟨rfl, HB⟩
 | true =>
  have HB : Below w.heap.size w w := Below.refl _ _
  refine sx_enter Tryd.func73 rfl [(0, .agg #[.string a.name, .int .i64 a.count, .int .i64 a.fr, .int .i64 a.to, .slice va a.cap.length vb, .int .i64 a.skills, .int .i64 a.prof, .int .i64 a.opn, .int .i64 a.cls, .int .i64 a.drv, .int .i64 a.rst, .int .i64 a.fix, .int .i64 a.pm, .int .i64 a.pt]), (1, .agg #[.int .i64 s.p, .int .i64 s.t, .int .i64 s.d, .int .i64 s.m]), (2, .bool true)] (by kernel_rfl) ?_
  refine wp_seq (wp_region_lit ?_)
  obtain ⟨W1, hW, hb, hq⟩ := laidA w #[.string a.name, .int .i64 a.count, .int .i64 a.fr, .int .i64 a.to, .slice va a.cap.length vb, .int .i64 a.skills, .int .i64 a.prof, .int .i64 a.opn, .int .i64 a.cls, .int .i64 a.drv, .int .i64 a.rst, .int .i64 a.fix, .int .i64 a.pm, .int .i64 a.pt] 95
  refine sx_mem (by kernel_rfl) rfl rfl (.pointer (some ⟨w.heap.size, 0, none⟩)) W1 (by rw [← hW]; kernel_rfl) ?_
  replace HB := over HB hb
  have z1 := hb.size
  have M2 := hq
  have yM2 := hq.lt
  clear hq hb hW
  obtain ⟨W3, hW, hb, hq⟩ := laidA W1 #[.int .i64 s.p, .int .i64 s.t, .int .i64 s.d, .int .i64 s.m] 156
  refine sx_mem (by kernel_rfl) rfl rfl (.pointer (some ⟨W1.heap.size, 0, none⟩)) W3 (by rw [← hW]; kernel_rfl) ?_
  replace HB := over HB hb
  replace M2 := M2.below hb
  have z2 := hb.size
  have M4 := hq
  have yM4 := hq.lt
  clear hq hb hW
  obtain ⟨W5, hW, hb, hq⟩ := laidA W3 #[.int .i64 0, .int .i64 0, .int .i64 0, .int .i64 0] 156
  refine sx_mem (by kernel_rfl) rfl rfl (.pointer (some ⟨W3.heap.size, 0, none⟩)) W5 (by rw [← hW]; kernel_rfl) ?_
  replace HB := over HB hb
  replace M2 := M2.below hb
  replace M4 := M4.below hb
  have z3 := hb.size
  have M6 := hq
  have yM6 := hq.lt
  clear hq hb hW
  refine wpList_nil (sx_norm (wp_seq (wp_seq (wp_region_lit ?_))))
  refine Zv rfl (.bool true) ?_
  refine wpList_nil (sx_norm ?_)
  refine sx_true (by kernel_rfl) ?_
  refine wp_seq (wp_region_lit ?_)
  refine Zv rfl (.pointer (some ⟨W1.heap.size, 1, none⟩)) ?_
  refine Zw rfl (.int .i64 s.t) (el (M4.cell 1 rfl) Tryd.underlying3) ?_
  refine Zv rfl (.pointer (some ⟨w.heap.size, 10, none⟩)) ?_
  refine Zw rfl (.int .i64 a.rst) (el (M2.cell 10 rfl) Tryd.underlying3) ?_
  refine sx_int (by kernel_rfl) rfl rfl .i64 (IntKind.i64.wrap (s.t + a.rst)) ((s.t + a.rst)) (by kernel_rfl) (by rw [IntKind.wrap_i64]; omega) ?_
  refine Zv rfl (.pointer (some ⟨W1.heap.size, 1, none⟩)) ?_
  refine sx_do (by kernel_rfl) rfl _ (ex_storeC (k := 1) (old := .int .i64 s.t) (v := .int .i64 (s.t + a.rst)) rfl M4 (by kernel_rfl) (by kernel_rfl) (by kernel_rfl) (by kernel_rfl) (by kernel_rfl)) ?_
  obtain ⟨W7, hW⟩ : ∃ W, W5.setCell ⟨W1.heap.size, 1, none⟩ (.int .i64 (s.t + a.rst)) = W := ⟨_, rfl⟩
  have hg : W5.grownBy W7 (some (W1.heap.size)) := hW ▸ grown_set _ _ _ _
  have hq : Cb W7 (W1.heap.size) #[.int .i64 s.p, .int .i64 (s.t + a.rst), .int .i64 s.d, .int .i64 s.m] 156 := hW ▸ M4.set 1 (.int .i64 (s.t + a.rst))
  rw [hW]
  replace HB := HB.grown hg (by omega) (fun x e => by simp only [Option.some.injEq] at e; omega)
  replace M2 := M2.kept hg (by omega)
  replace M6 := M6.kept hg (by omega)
  have z4 := hg.size
  replace M4 := hq
  clear hq hg hW
  refine wpList_nil (sx_norm (wp_region_lit ?_))
  refine Zv rfl (.pointer (some ⟨W1.heap.size, 2, none⟩)) ?_
  refine sx_do (by kernel_rfl) rfl _ (ex_storeC (k := 2) (old := .int .i64 s.d) (v := .int .i64 0) rfl M4 (by kernel_rfl) (by kernel_rfl) (by kernel_rfl) (by kernel_rfl) (by kernel_rfl)) ?_
  obtain ⟨W8, hW⟩ : ∃ W, W7.setCell ⟨W1.heap.size, 2, none⟩ (.int .i64 0) = W := ⟨_, rfl⟩
  have hg : W7.grownBy W8 (some (W1.heap.size)) := hW ▸ grown_set _ _ _ _
  have hq : Cb W8 (W1.heap.size) #[.int .i64 s.p, .int .i64 (s.t + a.rst), .int .i64 0, .int .i64 s.m] 156 := hW ▸ M4.set 2 (.int .i64 0)
  rw [hW]
  replace HB := HB.grown hg (by omega) (fun x e => by simp only [Option.some.injEq] at e; omega)
  replace M2 := M2.kept hg (by omega)
  replace M6 := M6.kept hg (by omega)
  have z5 := hg.size
  replace M4 := hq
  clear hq hg hW
  refine wpList_nil (sx_norm (wp_seq (wp_region_lit ?_)))
  refine Zw rfl (.agg #[.int .i64 s.p, .int .i64 (s.t + a.rst), .int .i64 0, .int .i64 s.m]) (ex_load rfl M4 (by kernel_rfl) Tryd.underlying156 rfl (by kernel_rfl)) ?_
  refine Zr (cells := #[.int .i64 s.p, .int .i64 (s.t + a.rst), .int .i64 0, .int .i64 s.m]) rfl rfl M6 (fun W9 hg hq => ?_)
  replace HB := HB.grown hg (by omega) (fun x e => by simp only [Option.some.injEq] at e; omega)
  replace M2 := M2.kept hg (by omega)
  replace M4 := M4.kept hg (by omega)
  have z6 := hg.size
  replace M6 := hq
  clear hq hg
  refine wpList_nil (sx_norm (wp_ret ?_))
  exact sx_retc M6 rfl rfl (by kernel_rfl) Tryd.underlying156 rfl (by kernel_rfl) ⟨rfl, HB⟩
def stpE (x : InT) (a : TyT) (s : SfT) (u cl late : Int) : Int := if (goV x.pl.length x.al a.prof s.p u s.t).2.2 ≠ 0 then 12 else if cl < (goV x.pl.length x.al a.prof s.p u s.t).1 then late else if a.drv < s.d + ((goV x.pl.length x.al a.prof s.p u s.t).1 - s.t) then 16 else 0
def stpS (x : InT) (a : TyT) (s : SfT) (u : Int) : SfT := ⟨u, (goV x.pl.length x.al a.prof s.p u s.t).1, s.d + ((goV x.pl.length x.al a.prof s.p u s.t).1 - s.t), s.m + (goV x.pl.length x.al a.prof s.p u s.t).2.1⟩
theorem refStep_n (k : Iv) (x : InT) (hal : x.al.length ≤ 1000000000) (hN : NetOk x.pl x.al) (a : TyT) (va : Option Addr) (vb : Nat) (s : SfT) (u cl late : Int) (hlate : ¬ late = 0) (hst : 0 ≤ s.t ∧ s.t ≤ 1000000) (hsd : 0 ≤ s.d ∧ s.d ≤ 1000000) (hsm : 0 ≤ s.m ∧ s.m ≤ 1000000000) (w : World) (hI : Ins w k x) : Calls Tryd.prog 74 #[.agg (iK k x), .agg #[.string a.name, .int .i64 a.count, .int .i64 a.fr, .int .i64 a.to, .slice va a.cap.length vb, .int .i64 a.skills, .int .i64 a.prof, .int .i64 a.opn, .int .i64 a.cls, .int .i64 a.drv, .int .i64 a.rst, .int .i64 a.fix, .int .i64 a.pm, .int .i64 a.pt], .agg #[.int .i64 s.p, .int .i64 s.t, .int .i64 s.d, .int .i64 s.m], .int .i64 u, .int .i64 cl, .int .i64 late] w fun e w' => ((∃ z, stpE x a s u cl late = z ∧ ¬ z = 0 ∧ e = .returned (.tuple #[sfV s, .int .i64 z])) ∨ (stpE x a s u cl late = 0 ∧ e = .returned (.tuple #[sfV (stpS x a s u), .int .i64 0]))) ∧ Below w.heap.size w w' := by
 have HB : Below w.heap.size w w := Below.refl _ _
 refine sx_enter Tryd.func74 rfl [(0, .agg (iK k x)), (1, .agg #[.string a.name, .int .i64 a.count, .int .i64 a.fr, .int .i64 a.to, .slice va a.cap.length vb, .int .i64 a.skills, .int .i64 a.prof, .int .i64 a.opn, .int .i64 a.cls, .int .i64 a.drv, .int .i64 a.rst, .int .i64 a.fix, .int .i64 a.pm, .int .i64 a.pt]), (2, .agg #[.int .i64 s.p, .int .i64 s.t, .int .i64 s.d, .int .i64 s.m]), (3, .int .i64 u), (4, .int .i64 cl), (5, .int .i64 late)] (by kernel_rfl) ?_
 refine wp_seq (wp_region_lit ?_)
 obtain ⟨W1, hW, hb, hq⟩ := laidA w (iK k x) 30
 refine sx_mem (by kernel_rfl) rfl rfl (.pointer (some ⟨w.heap.size, 0, none⟩)) W1 (by rw [← hW]; kernel_rfl) ?_
 replace HB := over HB hb
 have z1 := hb.size
 have M2 := hq
 have yM2 := hq.lt
 clear hq hb hW
 obtain ⟨W3, hW, hb, hq⟩ := laidA W1 #[.string a.name, .int .i64 a.count, .int .i64 a.fr, .int .i64 a.to, .slice va a.cap.length vb, .int .i64 a.skills, .int .i64 a.prof, .int .i64 a.opn, .int .i64 a.cls, .int .i64 a.drv, .int .i64 a.rst, .int .i64 a.fix, .int .i64 a.pm, .int .i64 a.pt] 95
 refine sx_mem (by kernel_rfl) rfl rfl (.pointer (some ⟨W1.heap.size, 0, none⟩)) W3 (by rw [← hW]; kernel_rfl) ?_
 replace HB := over HB hb
 replace M2 := M2.below hb
 have z2 := hb.size
 have M4 := hq
 have yM4 := hq.lt
 clear hq hb hW
 obtain ⟨W5, hW, hb, hq⟩ := laidA W3 #[.int .i64 s.p, .int .i64 s.t, .int .i64 s.d, .int .i64 s.m] 156
 refine sx_mem (by kernel_rfl) rfl rfl (.pointer (some ⟨W3.heap.size, 0, none⟩)) W5 (by rw [← hW]; kernel_rfl) ?_
 replace HB := over HB hb
 replace M2 := M2.below hb
 replace M4 := M4.below hb
 have z3 := hb.size
 have M6 := hq
 have yM6 := hq.lt
 clear hq hb hW
 obtain ⟨W7, hW, hb, hq⟩ := laidA W5 #[.int .i64 0, .int .i64 0, .int .i64 0, .int .i64 0] 156
 refine sx_mem (by kernel_rfl) rfl rfl (.pointer (some ⟨W5.heap.size, 0, none⟩)) W7 (by rw [← hW]; kernel_rfl) ?_
 replace HB := over HB hb
 replace M2 := M2.below hb
 replace M4 := M4.below hb
 replace M6 := M6.below hb
 have z4 := hb.size
 have M8 := hq
 have yM8 := hq.lt
 clear hq hb hW
 refine Zv rfl (.int .i64 0) ?_
 refine wpList_nil (sx_norm (wp_seq (wp_region_lit ?_)))
 refine Zw rfl (.agg (iK k x)) (ex_load rfl M2 (by kernel_rfl) Tryd.underlying30 rfl (by kernel_rfl)) ?_
 refine Zv rfl (.pointer (some ⟨W1.heap.size, 6, none⟩)) ?_
 refine Zw rfl (.int .i64 a.prof) (el (M4.cell 6 rfl) Tryd.underlying3) ?_
 refine Zv rfl (.pointer (some ⟨W3.heap.size, 0, none⟩)) ?_
 refine Zw rfl (.int .i64 s.p) (el (M6.cell 0 rfl) Tryd.underlying3) ?_
 refine Zv rfl (.int .i64 u) ?_
 refine Zv rfl (.pointer (some ⟨W3.heap.size, 1, none⟩)) ?_
 refine Zw rfl (.int .i64 s.t) (el (M6.cell 1 rfl) Tryd.underlying3) ?_
 by_cases C1 : (goV x.pl.length x.al a.prof s.p u s.t).2.2 = 0
 ·refine sx_call (by kernel_rfl) rfl rfl ((by have h8 := refWay_n k x hal hN a.prof s.p u s.t (by omega) (by omega) W7 (hI.below HB); rw [decide_eq_true C1] at h8; exact h8)) (by kernel_rfl) ?_
  rintro e W9 ⟨rfl, hb⟩
  replace HB := over HB hb
  replace M2 := M2.below hb
  replace M4 := M4.below hb
  replace M6 := M6.below hb
  replace M8 := M8.below hb
  have z5 := hb.size
  clear hb
  refine ⟨_, rfl, ?_⟩
  have hgb := CrT.goV_bd hN (show 0 ≤ s.t by omega) C1
  refine Zv rfl (.tuple #[.int .i64 ((goV x.pl.length x.al a.prof s.p u s.t).1), .int .i64 ((goV x.pl.length x.al a.prof s.p u s.t).2.1), .bool true]) ?_
  refine Zv rfl (.int .i64 ((goV x.pl.length x.al a.prof s.p u s.t).1)) ?_
  refine Zv rfl (.int .i64 ((goV x.pl.length x.al a.prof s.p u s.t).2.1)) ?_
  refine Zv rfl (.bool true) ?_
  refine Zv rfl (.int .i64 ((goV x.pl.length x.al a.prof s.p u s.t).1)) ?_
  refine Zv rfl (.int .i64 ((goV x.pl.length x.al a.prof s.p u s.t).2.1)) ?_
  refine Zv rfl (.bool true) ?_
  refine wpList_nil (sx_norm (wp_seq (wp_seq (wp_region_lit ?_))))
  refine Zv rfl (.bool true) ?_
  refine Zv rfl (.bool false) ?_
  refine wpList_nil (sx_norm ?_)
  refine sx_false (by kernel_rfl) ?_
  refine wp_skip (sx_norm (wp_seq (wp_seq (wp_region_lit ?_))))
  refine Zv rfl (.int .i64 ((goV x.pl.length x.al a.prof s.p u s.t).1)) ?_
  refine Zv rfl (.int .i64 cl) ?_
  by_cases C2 : (goV x.pl.length x.al a.prof s.p u s.t).1 > cl
  ·refine Zb rfl (decide ((goV x.pl.length x.al a.prof s.p u s.t).1 > cl)) true (decide_eq_true (by omega)) ?_
   refine wpList_nil (sx_norm ?_)
   refine sx_true (by kernel_rfl) ?_
   refine wp_seq (wp_region_lit ?_)
   refine Zw rfl (.agg #[.int .i64 s.p, .int .i64 s.t, .int .i64 s.d, .int .i64 s.m]) (ex_load rfl M6 (by kernel_rfl) Tryd.underlying156 rfl (by kernel_rfl)) ?_
   refine Zv rfl (.int .i64 late) ?_
   refine Zr (cells := #[.int .i64 s.p, .int .i64 s.t, .int .i64 s.d, .int .i64 s.m]) rfl rfl M8 (fun W10 hg hq => ?_)
   replace HB := HB.grown hg (by omega) (fun x e => by simp only [Option.some.injEq] at e; omega)
   replace M2 := M2.kept hg (by omega)
   replace M4 := M4.kept hg (by omega)
   replace M6 := M6.kept hg (by omega)
   have z6 := hg.size
   replace M8 := hq
   clear hq hg
   refine Zv rfl (.int .i64 late) ?_
   refine wpList_nil (sx_norm (wp_ret (sx_rs ?_)))
   exact sx_retct (v' := .int .i64 late) M8 rfl rfl rfl (by kernel_rfl) (by kernel_rfl) Tryd.underlying156 rfl (by kernel_rfl) ⟨.inl ⟨late, by unfold stpE; rw [if_neg (fun h => h (by assumption)), if_pos (by omega)], by exact hlate, rfl⟩, HB⟩
  refine Zb rfl (decide ((goV x.pl.length x.al a.prof s.p u s.t).1 > cl)) false (decide_eq_false (by omega)) ?_
  refine wpList_nil (sx_norm ?_)
  refine sx_false (by kernel_rfl) ?_
  refine wp_skip (sx_norm (wp_seq (wp_region_lit ?_)))
  refine Zv rfl (.int .i64 u) ?_
  refine Zv rfl (.int .i64 ((goV x.pl.length x.al a.prof s.p u s.t).1)) ?_
  refine Zv rfl (.pointer (some ⟨W3.heap.size, 2, none⟩)) ?_
  refine Zw rfl (.int .i64 s.d) (el (M6.cell 2 rfl) Tryd.underlying3) ?_
  refine Zv rfl (.int .i64 ((goV x.pl.length x.al a.prof s.p u s.t).1)) ?_
  refine sx_int (by kernel_rfl) rfl rfl .i64 (IntKind.i64.wrap (s.d + (goV x.pl.length x.al a.prof s.p u s.t).1)) ((s.d + (goV x.pl.length x.al a.prof s.p u s.t).1)) (by kernel_rfl) (by rw [IntKind.wrap_i64]; omega) ?_
  refine Zv rfl (.pointer (some ⟨W3.heap.size, 1, none⟩)) ?_
  refine Zw rfl (.int .i64 s.t) (el (M6.cell 1 rfl) Tryd.underlying3) ?_
  refine sx_int (by kernel_rfl) rfl rfl .i64 (IntKind.i64.wrap ((s.d + (goV x.pl.length x.al a.prof s.p u s.t).1) - s.t)) ((s.d + ((goV x.pl.length x.al a.prof s.p u s.t).1 - s.t))) (by kernel_rfl) (by rw [IntKind.wrap_i64]; omega) ?_
  refine Zv rfl (.pointer (some ⟨W3.heap.size, 3, none⟩)) ?_
  refine Zw rfl (.int .i64 s.m) (el (M6.cell 3 rfl) Tryd.underlying3) ?_
  refine Zv rfl (.int .i64 ((goV x.pl.length x.al a.prof s.p u s.t).2.1)) ?_
  refine sx_int (by kernel_rfl) rfl rfl .i64 (IntKind.i64.wrap (s.m + (goV x.pl.length x.al a.prof s.p u s.t).2.1)) ((s.m + (goV x.pl.length x.al a.prof s.p u s.t).2.1)) (by kernel_rfl) (by rw [IntKind.wrap_i64]; omega) ?_
  refine Zv rfl (.agg #[.int .i64 u, .int .i64 ((goV x.pl.length x.al a.prof s.p u s.t).1), .int .i64 (s.d + ((goV x.pl.length x.al a.prof s.p u s.t).1 - s.t)), .int .i64 (s.m + (goV x.pl.length x.al a.prof s.p u s.t).2.1)]) ?_
  obtain ⟨W12, hW, hb, hq⟩ := laidV W9 #[.int .i64 0, .int .i64 0, .int .i64 0, .int .i64 0] #[.int .i64 u, .int .i64 ((goV x.pl.length x.al a.prof s.p u s.t).1), .int .i64 (s.d + ((goV x.pl.length x.al a.prof s.p u s.t).1 - s.t)), .int .i64 (s.m + (goV x.pl.length x.al a.prof s.p u s.t).2.1)] 156
  refine sx_mem (by kernel_rfl) rfl rfl (.pointer (some ⟨W9.heap.size, 0, none⟩)) (W9.alloc (.cells #[.int .i64 0, .int .i64 0, .int .i64 0, .int .i64 0] 156)) (by kernel_rfl) ?_
  refine Zs (cells := #[.int .i64 u, .int .i64 ((goV x.pl.length x.al a.prof s.p u s.t).1), .int .i64 (s.d + ((goV x.pl.length x.al a.prof s.p u s.t).1 - s.t)), .int .i64 (s.m + (goV x.pl.length x.al a.prof s.p u s.t).2.1)]) rfl rfl (Cb.made W9 #[.int .i64 0, .int .i64 0, .int .i64 0, .int .i64 0] 156) ?_
  rw [hW]
  replace HB := over HB hb
  replace M2 := M2.below hb
  replace M4 := M4.below hb
  replace M6 := M6.below hb
  replace M8 := M8.below hb
  have z6 := hb.size
  have M11 := hq
  have yM11 := hq.lt
  clear hq hb hW
  refine wpList_nil (sx_norm (wp_seq (wp_seq (wp_region_lit ?_))))
  refine Zv rfl (.pointer (some ⟨W9.heap.size, 2, none⟩)) ?_
  refine Zw rfl (.int .i64 (s.d + ((goV x.pl.length x.al a.prof s.p u s.t).1 - s.t))) (el (M11.cell 2 rfl) Tryd.underlying3) ?_
  refine Zv rfl (.pointer (some ⟨W1.heap.size, 9, none⟩)) ?_
  refine Zw rfl (.int .i64 a.drv) (el (M4.cell 9 rfl) Tryd.underlying3) ?_
  by_cases C3 : (s.d + ((goV x.pl.length x.al a.prof s.p u s.t).1 - s.t)) > a.drv
  ·refine Zb rfl (decide ((s.d + ((goV x.pl.length x.al a.prof s.p u s.t).1 - s.t)) > a.drv)) true (decide_eq_true (by omega)) ?_
   refine wpList_nil (sx_norm ?_)
   refine sx_true (by kernel_rfl) ?_
   refine wp_seq (wp_region_lit ?_)
   refine Zw rfl (.agg #[.int .i64 s.p, .int .i64 s.t, .int .i64 s.d, .int .i64 s.m]) (ex_load rfl M6 (by kernel_rfl) Tryd.underlying156 rfl (by kernel_rfl)) ?_
   refine Zr (cells := #[.int .i64 s.p, .int .i64 s.t, .int .i64 s.d, .int .i64 s.m]) rfl rfl M8 (fun W13 hg hq => ?_)
   replace HB := HB.grown hg (by omega) (fun x e => by simp only [Option.some.injEq] at e; omega)
   replace M2 := M2.kept hg (by omega)
   replace M4 := M4.kept hg (by omega)
   replace M6 := M6.kept hg (by omega)
   replace M11 := M11.kept hg (by omega)
   have z7 := hg.size
   replace M8 := hq
   clear hq hg
   refine Zv rfl (.int .i64 16) ?_
   refine wpList_nil (sx_norm (wp_ret (sx_rs ?_)))
   exact sx_retct (v' := .int .i64 16) M8 rfl rfl rfl (by kernel_rfl) (by kernel_rfl) Tryd.underlying156 rfl (by kernel_rfl) ⟨.inl ⟨16, by unfold stpE; rw [if_neg (fun h => h (by assumption)), if_neg (by omega), if_pos (by omega)], by decide, rfl⟩, HB⟩
  refine Zb rfl (decide ((s.d + ((goV x.pl.length x.al a.prof s.p u s.t).1 - s.t)) > a.drv)) false (decide_eq_false (by omega)) ?_
  refine wpList_nil (sx_norm ?_)
  refine sx_false (by kernel_rfl) ?_
  refine wp_skip (sx_norm (wp_seq (wp_region_lit ?_)))
  refine Zw rfl (.agg #[.int .i64 u, .int .i64 ((goV x.pl.length x.al a.prof s.p u s.t).1), .int .i64 (s.d + ((goV x.pl.length x.al a.prof s.p u s.t).1 - s.t)), .int .i64 (s.m + (goV x.pl.length x.al a.prof s.p u s.t).2.1)]) (ex_load rfl M11 (by kernel_rfl) Tryd.underlying156 rfl (by kernel_rfl)) ?_
  refine Zr (cells := #[.int .i64 u, .int .i64 ((goV x.pl.length x.al a.prof s.p u s.t).1), .int .i64 (s.d + ((goV x.pl.length x.al a.prof s.p u s.t).1 - s.t)), .int .i64 (s.m + (goV x.pl.length x.al a.prof s.p u s.t).2.1)]) rfl rfl M8 (fun W14 hg hq => ?_)
  replace HB := HB.grown hg (by omega) (fun x e => by simp only [Option.some.injEq] at e; omega)
  replace M2 := M2.kept hg (by omega)
  replace M4 := M4.kept hg (by omega)
  replace M6 := M6.kept hg (by omega)
  replace M11 := M11.kept hg (by omega)
  have z7 := hg.size
  replace M8 := hq
  clear hq hg
  refine Zv rfl (.int .i64 0) ?_
  refine wpList_nil (sx_norm (wp_ret ?_))
  exact sx_retct (v' := .int .i64 0) M8 rfl rfl rfl (by kernel_rfl) (by kernel_rfl) Tryd.underlying156 rfl (by kernel_rfl) ⟨.inr ⟨by unfold stpE; rw [if_neg (fun h => h (by assumption)), if_neg (by omega), if_neg (by omega)], rfl⟩, HB⟩
 refine sx_call (by kernel_rfl) rfl rfl ((by have h8 := refWay_n k x hal hN a.prof s.p u s.t (by omega) (by omega) W7 (hI.below HB); rw [decide_eq_false C1] at h8; exact h8)) (by kernel_rfl) ?_
 rintro e W15 ⟨rfl, hb⟩
 replace HB := over HB hb
 replace M2 := M2.below hb
 replace M4 := M4.below hb
 replace M6 := M6.below hb
 replace M8 := M8.below hb
 have z5 := hb.size
 clear hb
 refine ⟨_, rfl, ?_⟩
 refine Zv rfl (.tuple #[.int .i64 ((goV x.pl.length x.al a.prof s.p u s.t).1), .int .i64 ((goV x.pl.length x.al a.prof s.p u s.t).2.1), .bool false]) ?_
 refine Zv rfl (.int .i64 ((goV x.pl.length x.al a.prof s.p u s.t).1)) ?_
 refine Zv rfl (.int .i64 ((goV x.pl.length x.al a.prof s.p u s.t).2.1)) ?_
 refine Zv rfl (.bool false) ?_
 refine Zv rfl (.int .i64 ((goV x.pl.length x.al a.prof s.p u s.t).1)) ?_
 refine Zv rfl (.int .i64 ((goV x.pl.length x.al a.prof s.p u s.t).2.1)) ?_
 refine Zv rfl (.bool false) ?_
 refine wpList_nil (sx_norm (wp_seq (wp_seq (wp_region_lit ?_))))
 refine Zv rfl (.bool false) ?_
 refine Zv rfl (.bool true) ?_
 refine wpList_nil (sx_norm ?_)
 refine sx_true (by kernel_rfl) ?_
 refine wp_seq (wp_region_lit ?_)
 refine Zw rfl (.agg #[.int .i64 s.p, .int .i64 s.t, .int .i64 s.d, .int .i64 s.m]) (ex_load rfl M6 (by kernel_rfl) Tryd.underlying156 rfl (by kernel_rfl)) ?_
 refine Zr (cells := #[.int .i64 s.p, .int .i64 s.t, .int .i64 s.d, .int .i64 s.m]) rfl rfl M8 (fun W16 hg hq => ?_)
 replace HB := HB.grown hg (by omega) (fun x e => by simp only [Option.some.injEq] at e; omega)
 replace M2 := M2.kept hg (by omega)
 replace M4 := M4.kept hg (by omega)
 replace M6 := M6.kept hg (by omega)
 have z6 := hg.size
 replace M8 := hq
 clear hq hg
 refine Zv rfl (.int .i64 12) ?_
 refine wpList_nil (sx_norm (wp_ret (sx_rs ?_)))
 exact sx_retct (v' := .int .i64 12) M8 rfl rfl rfl (by kernel_rfl) (by kernel_rfl) Tryd.underlying156 rfl (by kernel_rfl) ⟨.inl ⟨12, by unfold stpE; rw [if_pos (by assumption)], by decide, rfl⟩, HB⟩

end Go.Proofs.YtomebalolmabnaaDoor.T



