/-
  DERIVED. Dd: a part of the base of layer 13 (made by pack.py).
-/
import Derived.Test.YtomebalolmabnaaGreatDoorGB
import Derived.Test.YtomebalolmabnaaGreatDoorGA
import Derived.Test.YtomebalolmabnaaGreatDoorHN
import Derived.Test.YtomebalolmabnaaGreatDoorHS
/-! The walk of drive: the course of a route (by gen_dd.py). -/
namespace Go.Proofs.YtomebalolmabnaaGreatDoor.T
open Go.RowKit
set_option maxRecDepth 8000
attribute [local irreducible] wpList Code.wp wpAnyH

def tyF (l : List TyT) (va : Nat → Option Addr) (vb : Nat → Nat) (k : Nat) : List Value := let a := l.getD k ty0; [.string a.name, .int .i64 a.count, .int .i64 a.fr, .int .i64 a.to, .slice (va k) a.cap.length (vb k), .int .i64 a.skills, .int .i64 a.prof, .int .i64 a.opn, .int .i64 a.cls, .int .i64 a.drv, .int .i64 a.rst, .int .i64 a.fix, .int .i64 a.pm, .int .i64 a.pt]
theorem Ts.rw {w : World} {oa : Option Addr} {c : Nat} {l : List TyT} (h : Ts w (.slice oa l.length c) l) : ∃ b o va vb, Rw w b o 14 (tyF l va vb) l.length oa := by
 obtain ⟨oa', c', hv, h⟩ := h
 simp only [Value.slice.injEq] at hv
 obtain ⟨rfl, -, rfl⟩ := hv
 cases l with
 | nil => exact ⟨0, 0, fun _ => none, fun _ => 0, (fun k hk => by cases hk)⟩
 | cons x l =>
  obtain ⟨b, o, -, ha, -⟩ := h 0 (by simp)
  have hex : ∀ i, i < (x :: l).length → ∃ p : Option Addr × Nat, b < w.heap.size ∧ Tc w b (o + i * 14) ((x :: l).getD i ty0) (.slice p.1 ((x :: l).getD i ty0).cap.length p.2) := fun i hi => by
   obtain ⟨b', o', vc, ha', hl, hc, hli⟩ := h i hi
   rw [ha] at ha'
   simp only [Option.some.injEq, Addr.mk.injEq, and_true] at ha'
   obtain ⟨rfl, rfl⟩ := ha'
   obtain ⟨oa9, c9, rfl, -⟩ := hli
   exact ⟨(oa9, c9), hl, hc⟩
  have hvc : ∃ vc : Nat → Option Addr × Nat, ∀ i, i < (x :: l).length → b < w.heap.size ∧ Tc w b (o + i * 14) ((x :: l).getD i ty0) (.slice (vc i).1 ((x :: l).getD i ty0).cap.length (vc i).2) := by
   refine ⟨fun i => if hi : i < (x :: l).length then Classical.choose (hex i hi) else (none, 0), fun i hi => ?_⟩
   have h9 := Classical.choose_spec (hex i hi)
   simp only [dif_pos hi]
   exact h9
  obtain ⟨vc, hvc⟩ := hvc
  refine ⟨b, o, fun k => (vc k).1, fun k => (vc k).2, fun k hk => ⟨ha, (hvc k hk).1, fun j v hj => ?_⟩⟩
  obtain ⟨-, h0, h1, h2, h3, h4, h5, h6, h7, h8, h9, h10, h11, h12, h13⟩ := hvc k hk
  unfold tyF at hj
  simp only at hj
  match j, hj with
  | 0, hj => simp only [List.getElem?_cons_zero, Option.some.injEq] at hj; subst hj; exact h0
  | 1, hj => simp only [List.getElem?_cons_succ, List.getElem?_cons_zero, Option.some.injEq] at hj; subst hj; exact h1
  | 2, hj => simp only [List.getElem?_cons_succ, List.getElem?_cons_zero, Option.some.injEq] at hj; subst hj; exact h2
  | 3, hj => simp only [List.getElem?_cons_succ, List.getElem?_cons_zero, Option.some.injEq] at hj; subst hj; exact h3
  | 4, hj => simp only [List.getElem?_cons_succ, List.getElem?_cons_zero, Option.some.injEq] at hj; subst hj; exact h4
  | 5, hj => simp only [List.getElem?_cons_succ, List.getElem?_cons_zero, Option.some.injEq] at hj; subst hj; exact h5
  | 6, hj => simp only [List.getElem?_cons_succ, List.getElem?_cons_zero, Option.some.injEq] at hj; subst hj; exact h6
  | 7, hj => simp only [List.getElem?_cons_succ, List.getElem?_cons_zero, Option.some.injEq] at hj; subst hj; exact h7
  | 8, hj => simp only [List.getElem?_cons_succ, List.getElem?_cons_zero, Option.some.injEq] at hj; subst hj; exact h8
  | 9, hj => simp only [List.getElem?_cons_succ, List.getElem?_cons_zero, Option.some.injEq] at hj; subst hj; exact h9
  | 10, hj => simp only [List.getElem?_cons_succ, List.getElem?_cons_zero, Option.some.injEq] at hj; subst hj; exact h10
  | 11, hj => simp only [List.getElem?_cons_succ, List.getElem?_cons_zero, Option.some.injEq] at hj; subst hj; exact h11
  | 12, hj => simp only [List.getElem?_cons_succ, List.getElem?_cons_zero, Option.some.injEq] at hj; subst hj; exact h12
  | 13, hj => simp only [List.getElem?_cons_succ, List.getElem?_cons_zero, Option.some.injEq] at hj; subst hj; exact h13
  | j + 14, hj => simp at hj
def stE (s : StT) : List Value := [.int .i64 s.p, .int .i64 s.o, .int .i64 s.c, .int .i64 s.s]
theorem stRow : Row stE 4 := ⟨fun _ => rfl, fun x v hv => by
 simp only [stE, List.mem_cons, List.not_mem_nil, or_false] at hv
 rcases hv with rfl | rfl | rfl | rfl <;> rfl⟩
def stZ : Value := .agg #[.int .i64 0, .int .i64 0, .int .i64 0, .int .i64 0]
def stopsK (t : TyT) (ol : List OrT) (l : List (Int × Bool)) (k : Nat) : List StT := ⟨t.fr, 0, 0, 0⟩ :: (l.take k).map fun v => stopV ol v.1 v.2
theorem stopsK_len (t : TyT) (ol : List OrT) (l : List (Int × Bool)) {k : Nat} (h : k ≤ l.length) : (stopsK t ol l k).length = k + 1 := by unfold stopsK; simp [List.length_take, Nat.min_eq_left h]
theorem stopsK_more (t : TyT) (ol : List OrT) (l : List (Int × Bool)) {k : Nat} (h : k < l.length) : stopsK t ol l (k + 1) = stopsK t ol l k ++ [stopV ol (l.getD k (0, false)).1 (l.getD k (0, false)).2] := by
 unfold stopsK
 rw [take_more (d := (0, false)) h, List.map_append]
 rfl
theorem stopsOk_take {ol : List OrT} {l : List (Int × Bool)} {k : Nat} (hk : k < l.length) (h : stopsOk ol (l.take k) = true) (e : stopE ol (l.getD k (0, false)).1 (l.getD k (0, false)).2 = 0) : stopsOk ol (l.take (k + 1)) = true := by
 unfold stopsOk at h ⊢
 rw [take_more (d := (0, false)) hk, List.all_append, h, List.all_cons, List.all_nil, decide_eq_true e]
 rfl
theorem stopsOk_no {ol : List OrT} {l : List (Int × Bool)} {k : Nat} (hk : k < l.length) (e : ¬ stopE ol (l.getD k (0, false)).1 (l.getD k (0, false)).2 = 0) : stopsOk ol l = false := by
 unfold stopsOk
 rw [List.all_eq_false]
 exact ⟨_, getD_mem hk, by rw [decide_eq_false e]; decide⟩
theorem posD_no {tl : List TyT} {ol : List OrT} {ty st : Int} {l : List (Int × Bool)} (h : ty < 0 ∨ ty ≥ tl.length ∨ st < 0 ∨ st > 4096 ∨ l.length > 20 ∨ stopsOk ol l = false) : posD tl ol ty st l = false := by
 unfold posD
 rw [Bool.eq_false_iff]
 intro h9
 simp only [Bool.and_eq_true, decide_eq_true_eq] at h9
 obtain ⟨⟨⟨⟨⟨h1, h2⟩, h3⟩, h4⟩, h5⟩, h6⟩ := h9
 rcases h with h | h | h | h | h | h
 ·omega
 ·omega
 ·omega
 ·omega
 ·omega
 ·rw [h] at h6; cases h6
theorem posD_yes {tl : List TyT} {ol : List OrT} {ty st : Int} {l : List (Int × Bool)} (h0 : 0 ≤ ty) (h1 : ty < tl.length) (h2 : 0 ≤ st) (h3 : st ≤ 4096) (h4 : l.length ≤ 20) (h5 : stopsOk ol l = true) : posD tl ol ty st l = true := by
 unfold posD
 rw [decide_eq_true h0, decide_eq_true h1, decide_eq_true h2, decide_eq_true h3, decide_eq_true h4, h5]
 rfl
theorem courseOf_n (k : Iv) (x : InT) (ty st : Int) (orr oa : Option Addr) (nr cr ca b o : Nat) (l : List (Int × Bool)) (w : World) (hI : Ins w k x) (hT : Tab w) (hl : Rw w b o 2 (vF l) l.length oa) : Calls Tryz.prog 69 #[.agg (iK k x), .agg #[.int .i64 ty, .int .i64 st, .slice orr nr cr, .slice oa l.length ca]] w fun e w' => ((posD x.tl x.ol ty st l = false ∧ e = .returned (.tuple #[.pointer none, .bool false])) ∨ ∃ K q, posD x.tl x.ol ty st l = true ∧ e = .returned (.tuple #[.pointer (some ⟨q, 0, none⟩), .bool true]) ∧ Crw w' (crs x ty st l) K q) ∧ Below w.heap.size w w' := by
 have HB : Below w.heap.size w w := Below.refl _ _
 obtain ⟨bt, qt, va, vb, hTy⟩ := hI.h2.rw
 refine sx_enter Tryz.func69 rfl [(0, .agg (iK k x)), (1, .agg #[.int .i64 ty, .int .i64 st, .slice orr nr cr, .slice oa l.length ca])] (by kernel_rfl) ?_
 refine Yq ?_
 refine Za rfl (iK k x) 30 (fun W1 hb M2 z1 yM2 => ?_)
 replace HB := over HB hb
 clear hb
 refine Za rfl #[.int .i64 ty, .int .i64 st, .slice orr nr cr, .slice oa l.length ca] 34 (fun W3 hb M4 z2 yM4 => ?_)
 replace HB := over HB hb
 replace M2 := M2.below hb
 clear hb
 refine Zv rfl (.pointer none) (Zv rfl (.bool false) (Yn (Yo (Ys (Yq (Zv rfl (pt W1.heap.size 0) (Zw rfl (.int .i64 ty) (el (M4.cell 0 rfl) Tryz.underlying3) ?_)))))))
 by_cases C1 : ty < 0
 ·refine Zb rfl (decide (ty < 0)) true (decide_eq_true (by omega)) (Zv rfl (.bool true) (Zk rfl (Zk rfl (Zk rfl (Zk rfl (Zk rfl (Zk rfl (Zv rfl (.bool true) (Zv rfl (.bool true) (Zk rfl (Zk rfl ?_)))))))))))
  refine Zk rfl (Zv rfl (.bool true) (Zv rfl (.bool true) (Zk rfl (Zk rfl (Zk rfl (Zv rfl (.bool true) (Zv rfl (.bool true) (Zk rfl (Zk rfl (Zk rfl (Zk rfl ?_)))))))))))
  refine Zv rfl (.bool true) (Yn (Yo (sx_true (by kernel_rfl) (Yq (Zv rfl (.pointer none) (Zv rfl (.bool false) (Yn (Yo (wp_ret (sx_rs ?_))))))))))
  have hp9 : posD x.tl x.ol ty st l = false := posD_no (by omega)
  refine sx_ret2 (.pointer none) (.bool false) rfl rfl rfl (by kernel_rfl) (by kernel_rfl) ⟨.inl ⟨hp9, rfl⟩, HB⟩
 refine Zb rfl (decide (ty < 0)) false (decide_eq_false (by omega)) (Zv rfl (.bool false) (Zv rfl (pt W1.heap.size 0) (Zw rfl (.int .i64 ty) (el (M4.cell 0 rfl) Tryz.underlying3) (Zv rfl (pt w.heap.size 2) (Zw rfl (.slice k.o2 x.tl.length k.c2) (el (M2.cell 2 rfl) Tryz.underlying26) (Zv rfl (.int .i64 ((x.tl.length : Nat) : Int)) ?_))))))
 by_cases C2 : ty ≥ ((x.tl.length : Nat) : Int)
 ·refine Zb rfl (decide (ty ≥ ((x.tl.length : Nat) : Int))) true (decide_eq_true (by omega)) (Zv rfl (.bool true) (Zv rfl (.bool true) (Zk rfl (Zk rfl (Zk rfl (Zv rfl (.bool true) (Zv rfl (.bool true) (Zk rfl (Zk rfl (Zk rfl (Zv rfl (.bool true) ?_)))))))))))
  refine Zv rfl (.bool true) (Zk rfl (Zk rfl (Zk rfl (Zk rfl (Zv rfl (.bool true) (Yn (Yo (sx_true (by kernel_rfl) (Yq (Zv rfl (.pointer none) (Zv rfl (.bool false) (Yn (Yo (wp_ret (sx_rs ?_)))))))))))))))
  have hp9 : posD x.tl x.ol ty st l = false := posD_no (by omega)
  refine sx_ret2 (.pointer none) (.bool false) rfl rfl rfl (by kernel_rfl) (by kernel_rfl) ⟨.inl ⟨hp9, rfl⟩, HB⟩
 refine Zb rfl (decide (ty ≥ ((x.tl.length : Nat) : Int))) false (decide_eq_false (by omega)) (Zv rfl (.bool false) (Zv rfl (.bool false) (Zv rfl (pt W1.heap.size 1) (Zw rfl (.int .i64 st) (el (M4.cell 1 rfl) Tryz.underlying3) ?_))))
 by_cases C3 : st < 0
 ·refine Zb rfl (decide (st < 0)) true (decide_eq_true (by omega)) (Zv rfl (.bool true) (Zv rfl (.bool true) (Zk rfl (Zk rfl (Zk rfl (Zv rfl (.bool true) (Zv rfl (.bool true) (Zk rfl (Zk rfl (Zk rfl (Zk rfl ?_)))))))))))
  refine Zv rfl (.bool true) (Yn (Yo (sx_true (by kernel_rfl) (Yq (Zv rfl (.pointer none) (Zv rfl (.bool false) (Yn (Yo (wp_ret (sx_rs ?_))))))))))
  have hp9 : posD x.tl x.ol ty st l = false := posD_no (by omega)
  refine sx_ret2 (.pointer none) (.bool false) rfl rfl rfl (by kernel_rfl) (by kernel_rfl) ⟨.inl ⟨hp9, rfl⟩, HB⟩
 refine Zb rfl (decide (st < 0)) false (decide_eq_false (by omega)) (Zv rfl (.bool false) (Zv rfl (.bool false) (Zv rfl (pt W1.heap.size 1) (Zw rfl (.int .i64 st) (el (M4.cell 1 rfl) Tryz.underlying3) ?_))))
 by_cases C4 : st > 4096
 ·refine Zb rfl (decide (st > 4096)) true (decide_eq_true (by omega)) (Zv rfl (.bool true) (Zv rfl (.bool true) (Zk rfl (Zk rfl (Zk rfl (Zk rfl (Zv rfl (.bool true) (Yn (Yo (sx_true (by kernel_rfl) (Yq (Zv rfl (.pointer none) ?_))))))))))))
  refine Zv rfl (.bool false) (Yn (Yo (wp_ret (sx_rs ?_))))
  have hp9 : posD x.tl x.ol ty st l = false := posD_no (by omega)
  refine sx_ret2 (.pointer none) (.bool false) rfl rfl rfl (by kernel_rfl) (by kernel_rfl) ⟨.inl ⟨hp9, rfl⟩, HB⟩
 refine Zb rfl (decide (st > 4096)) false (decide_eq_false (by omega)) (Zv rfl (.bool false) (Zv rfl (.bool false) (Zv rfl (pt W1.heap.size 3) (Zw rfl (.slice oa l.length ca) (el (M4.cell 3 rfl) Tryz.underlying32) (Zv rfl (.int .i64 ((l.length : Nat) : Int)) ?_)))))
 by_cases C5 : l.length > 20
 ·refine Zb rfl (decide (((l.length : Nat) : Int) > 20)) true (decide_eq_true (by omega)) (Zv rfl (.bool true) (Yn (Yo (sx_true (by kernel_rfl) (Yq (Zv rfl (.pointer none) (Zv rfl (.bool false) (Yn (Yo (wp_ret (sx_rs ?_)))))))))))
  have hp9 : posD x.tl x.ol ty st l = false := posD_no (by omega)
  refine sx_ret2 (.pointer none) (.bool false) rfl rfl rfl (by kernel_rfl) (by kernel_rfl) ⟨.inl ⟨hp9, rfl⟩, HB⟩
 refine Zb rfl (decide (((l.length : Nat) : Int) > 20)) false (decide_eq_false (by omega)) (Zv rfl (.bool false) (Yn (Yo (sx_false (by kernel_rfl) (wp_skip (Yo (Ys ?_)))))))
 obtain ⟨i, rfl⟩ := Int.eq_ofNat_of_zero_le (show 0 ≤ ty by omega)
 refine Yr (Zv rfl (pt w.heap.size 2) (Zw rfl (.slice k.o2 x.tl.length k.c2) (el (M2.cell 2 rfl) Tryz.underlying26) (Zv rfl (pt W1.heap.size 0) (Zw rfl (.int .i64 ((i : Nat) : Int)) (el (M4.cell 0 rfl) Tryz.underlying3) (Zw rfl (pt bt (qt + i * 14)) (ex_indexO (q := qt) (m := x.tl.length) (c := k.c2) (k := i) (s := 14) rfl (by kernel_rfl) ((hTy.below HB).oa (k := i) (by omega)) (by kernel_rfl) Tryz.underlying26 (by kernel_rfl) (by omega) (by omega)) (Zw rfl (.agg (tK (x.tl.getD i ty0) (va i) (vb i))) (ex_loadR rfl ((hTy.below HB).range (k := i) (by omega)) (by kernel_rfl) Tryz.underlying80 rfl (by kernel_rfl)) ?_))))))
 obtain ⟨W6, hW⟩ : ∃ W, (W3.alloc (.cells nZT 80)).setRow W3.heap.size (tK (x.tl.getD i ty0) (va i) (vb i)) = W := ⟨_, rfl⟩
 have hb := hW ▸ below_var W3 (.cells nZT 80) (tK (x.tl.getD i ty0) (va i) (vb i))
 have hq : Cb W6 W3.heap.size (tK (x.tl.getD i ty0) (va i) (vb i)) 80 := hW ▸ Cb.row (Cb.made W3 nZT 80) _
 refine sx_mem (by kernel_rfl) rfl rfl (pt W3.heap.size 0) (W3.alloc (.cells nZT 80)) (by kernel_rfl) ?_
 refine Zs (cells := (tK (x.tl.getD i ty0) (va i) (vb i))) rfl rfl (Cb.made W3 nZT 80) ?_
 rw [hW]
 replace HB := over HB hb
 replace M2 := M2.below hb
 replace M4 := M4.below hb
 have z3 := hb.size
 have M5 := hq
 have yM5 := hq.lt
 clear hq hb hW
 refine Yn (Yo (Yq (Zv rfl (pt W1.heap.size 3) (Zw rfl (.slice oa l.length ca) (el (M4.cell 3 rfl) Tryz.underlying32) (Zv rfl (.int .i64 ((l.length : Nat) : Int)) (Zi rfl (IntKind.i64.wrap (((l.length : Nat) : Int) + 2)) (((l.length + 2 : Nat) : Int)) (by rw [IntKind.wrap_i64]; omega) ?_))))))
 obtain ⟨W7, hW, hb, hq⟩ := laidA W6 (madeCells stZ.cells ((l.length + 2) * 4)) 76
 have HG : Ol stE 76 4 W6.heap.size W7 (.slice (some ⟨W6.heap.size, 0, none⟩) 0 (l.length + 2)) [] := Ol.made0 hq (Nat.le_refl _) (by omega)
 refine sx_mem (by kernel_rfl) rfl rfl (.slice (some ⟨W6.heap.size, 0, none⟩) 0 (l.length + 2)) W7 (by rw [← hW]; exact ex_make0 (e := 76) (sz := 4) (z := stZ) (bytes := 32) rfl (by kernel_rfl) (by kernel_rfl) Tryz.underlying83 (by kernel_rfl) (by decide) (by omega)) ?_
 replace HB := over HB hb
 replace M2 := M2.below hb
 replace M4 := M4.below hb
 replace M5 := M5.below hb
 have z4 := hb.size
 clear hb hW hq
 refine Zv rfl (.slice (some ⟨W6.heap.size, 0, none⟩) 0 (l.length + 2)) (Yn (Yo (Yq (Zv rfl (.slice (some ⟨W6.heap.size, 0, none⟩) 0 (l.length + 2)) (Zv rfl (pt W3.heap.size 2) (Zw rfl (.int .i64 ((x.tl.getD i ty0).fr)) (el (M5.cell 2 rfl) Tryz.underlying3) (Zv rfl (.agg #[.int .i64 ((x.tl.getD i ty0).fr), .int .i64 0, .int .i64 0, .int .i64 0]) ?_)))))))
 obtain ⟨W8, hW, hb, hq⟩ := laidA W7 #[.int .i64 ((x.tl.getD i ty0).fr), .int .i64 0, .int .i64 0, .int .i64 0] 76
 refine sx_mem (by kernel_rfl) rfl rfl (.slice (some ⟨W7.heap.size, 0, none⟩) 1 1) W8 (by rw [← hW]; kernel_rfl) ?_
 replace HB := over HB hb
 replace M2 := M2.below hb
 replace M4 := M4.below hb
 replace M5 := M5.below hb
 replace HG := HG.below hb
 have z5 := hb.size
 have M9 := hq
 have yM9 := hq.lt
 clear hq hb hW
 obtain ⟨v11, W10, h9, hg9, hb, -, -⟩ := ap_o (P := Tryz.prog) (t := 83) (ty := 83) (z := stZ) (bytes := 32) (x := (⟨(x.tl.getD i ty0).fr, 0, 0, 0⟩ : StT)) stRow Tryz.underlying83 (by kernel_rfl) rfl (by decide) (by decide) HG M9 rfl (by omega) (by decide)
 refine sx_mem (by kernel_rfl) rfl rfl (v11) W10 (ex_append rfl (by kernel_rfl) (by kernel_rfl) h9) ?_
 replace HB := HB.trans (hb.mono (by omega))
 replace M2 := M2.belowB (by omega) hb
 replace M4 := M4.belowB (by omega) hb
 replace M5 := M5.belowB (by omega) hb
 have z6 := hb.size
 have HG := hg9
 clear hg9 hb h9
 refine Zv rfl (v11) (Yn (Yo (Ys (Yq (Zv rfl (pt W1.heap.size 3) (Zw rfl (.slice oa l.length ca) (el (M4.cell 3 rfl) Tryz.underlying32) (Zv rfl (.int .i64 ((l.length : Nat) : Int)) (Zv rfl (.int .i64 0) (Yn (Yo (wp_block ?_)))))))))))
 refine sx_loop (fun x9 : Nat × Value => [(0, .agg (iK k x)), (1, .agg #[.int .i64 ((i : Nat) : Int), .int .i64 st, .slice orr nr cr, .slice oa l.length ca]), (2, .pointer (some ⟨w.heap.size, 0, none⟩)), (3, .pointer (some ⟨W1.heap.size, 0, none⟩)), (6, .pointer (some ⟨W3.heap.size, 0, none⟩)), (7, x9.2), (12, .pointer (some ⟨W1.heap.size, 0, none⟩)), (13, .int .i64 ((i : Nat) : Int)), (14, .bool false), (15, .bool false), (16, .pointer (some ⟨W1.heap.size, 0, none⟩)), (17, .int .i64 ((i : Nat) : Int)), (18, .pointer (some ⟨w.heap.size, 2, none⟩)), (19, .slice k.o2 x.tl.length k.c2), (20, .int .i64 ((x.tl.length : Nat) : Int)), (21, .bool false), (22, .bool false), (23, .bool false), (24, .pointer (some ⟨W1.heap.size, 1, none⟩)), (25, .int .i64 st), (26, .bool false), (27, .bool false), (28, .bool false), (29, .pointer (some ⟨W1.heap.size, 1, none⟩)), (30, .int .i64 st), (31, .bool false), (32, .bool false), (33, .bool false), (34, .pointer (some ⟨W1.heap.size, 3, none⟩)), (35, .slice oa l.length ca), (36, .int .i64 ((l.length : Nat) : Int)), (37, .bool false), (38, .bool false), (39, .pointer (some ⟨w.heap.size, 2, none⟩)), (40, .slice k.o2 x.tl.length k.c2), (41, .pointer (some ⟨W1.heap.size, 0, none⟩)), (42, .int .i64 ((i : Nat) : Int)), (43, .pointer (some ⟨bt, qt + i * 14, none⟩)), (44, .agg (tK (x.tl.getD i ty0) (va i) (vb i))), (45, .pointer (some ⟨W1.heap.size, 3, none⟩)), (46, .slice oa l.length ca), (47, .int .i64 ((l.length : Nat) : Int)), (48, .int .i64 ((l.length + 2 : Nat) : Int)), (49, .slice (some ⟨W6.heap.size, 0, none⟩) 0 (l.length + 2)), (50, .slice (some ⟨W6.heap.size, 0, none⟩) 0 (l.length + 2)), (51, .pointer (some ⟨W3.heap.size, 2, none⟩)), (52, .int .i64 ((x.tl.getD i ty0).fr)), (53, .agg #[.int .i64 ((x.tl.getD i ty0).fr), .int .i64 0, .int .i64 0, .int .i64 0]), (54, .slice (some ⟨W7.heap.size, 0, none⟩) 1 1), (55, v11), (56, .pointer (some ⟨W1.heap.size, 3, none⟩)), (57, .slice oa l.length ca), (58, .int .i64 ((l.length : Nat) : Int)), (59, .int .i64 ((x9.1 : Nat) : Int))]) (fun gg x9 wr => x9.1 ≤ l.length ∧ l.length - x9.1 ≤ gg ∧ stopsOk x.ol (l.take x9.1) = true ∧ Ol stE 76 4 W6.heap.size wr x9.2 (stopsK (x.tl.getD i ty0) x.ol l x9.1) ∧ Below W6.heap.size W10 wr) (l.length) ((0, v11)) (by kernel_rfl) ⟨Nat.zero_le _, Nat.le_refl _, rfl, HG, Below.refl _ _⟩ ?_
 rintro gg ⟨j, v6⟩ g' wr12 ⟨hj, hg, hso, HG, hbl⟩
 dsimp only at hj hg hso HG hbl
 replace HB := HB.trans (hbl.mono (by omega))
 replace M2 := M2.belowB (by omega) hbl
 replace M4 := M4.belowB (by omega) hbl
 replace M5 := M5.belowB (by omega) hbl
 have z7 := hbl.size
 have HL := hbl
 clear hbl
 refine Yq ?_
 by_cases C6 : j < l.length
 ·refine Zb rfl (decide (((j : Nat) : Int) < ((l.length : Nat) : Int))) true (decide_eq_true (by omega)) (Yn (Yo (Ys (sx_true (by kernel_rfl) (wp_skip (Yo (Ys (wp_block (Yq (Zw rfl (pt b (o + j * 2)) (ex_indexO (q := o) (m := l.length) (c := ca) (k := j) (s := 2) rfl (by kernel_rfl) ((hl.below HB).oa (k := j) (by omega)) (by kernel_rfl) Tryz.underlying32 (by kernel_rfl) (by omega) (by omega)) (Zw rfl (.agg #[.int .i64 ((l.getD j (0, false)).1), .bool (l.getD j (0, false)).2]) (ex_loadR rfl ((hl.below HB).range (k := j) (by omega)) (by kernel_rfl) Tryz.underlying82 rfl (by kernel_rfl)) ?_)))))))))))
  obtain ⟨W14, hW, hb, hq⟩ := laidV wr12 #[.int .i64 0, .bool false] #[.int .i64 ((l.getD j (0, false)).1), .bool (l.getD j (0, false)).2] 82
  refine sx_mem (by kernel_rfl) rfl rfl (pt wr12.heap.size 0) (wr12.alloc (.cells #[.int .i64 0, .bool false] 82)) (by kernel_rfl) ?_
  refine Zs (cells := #[.int .i64 ((l.getD j (0, false)).1), .bool (l.getD j (0, false)).2]) rfl rfl (Cb.made wr12 #[.int .i64 0, .bool false] 82) ?_
  rw [hW]
  replace HB := over HB hb
  replace M2 := M2.below hb
  replace HL := HL.trans (hb.mono (by omega))
  replace HG := HG.below hb
  have z8 := hb.size
  have M13 := hq
  have yM13 := hq.lt
  clear hq hb hW
  refine Yn (Yo (Yq (Zv rfl (pt w.heap.size 3) (Zw rfl (.slice k.o3 x.ol.length k.c3) (el (M2.cell 3 rfl) Tryz.underlying27) (Zw rfl (.agg #[.int .i64 ((l.getD j (0, false)).1), .bool (l.getD j (0, false)).2]) (ex_load rfl M13 (by kernel_rfl) Tryz.underlying82 rfl (by kernel_rfl)) ?_)))))
  refine Zd rfl (ordStop_n (.slice k.o3 x.ol.length k.c3) x.ol (l.getD j (0, false)).1 (l.getD j (0, false)).2 W14 (hI.below HB).h3) (fun W15 hb z9 => ?_)
  replace HB := over HB hb
  replace HL := HL.trans (hb.mono (by omega))
  replace HG := HG.below hb
  clear hb
  refine Zv rfl (.tuple #[.agg (pK (stopV x.ol (l.getD j (0, false)).1 (l.getD j (0, false)).2)), .int .i64 (stopE x.ol (l.getD j (0, false)).1 (l.getD j (0, false)).2)]) (Zv rfl (.agg (pK (stopV x.ol (l.getD j (0, false)).1 (l.getD j (0, false)).2))) (Zv rfl (.int .i64 (stopE x.ol (l.getD j (0, false)).1 (l.getD j (0, false)).2)) ?_))
  obtain ⟨W17, hW, hb, hq⟩ := laidV W15 nZ4 (pK (stopV x.ol (l.getD j (0, false)).1 (l.getD j (0, false)).2)) 76
  refine sx_mem (by kernel_rfl) rfl rfl (pt W15.heap.size 0) (W15.alloc (.cells nZ4 76)) (by kernel_rfl) ?_
  refine Zs (cells := (pK (stopV x.ol (l.getD j (0, false)).1 (l.getD j (0, false)).2))) rfl rfl (Cb.made W15 nZ4 76) ?_
  rw [hW]
  replace HB := over HB hb
  replace HL := HL.trans (hb.mono (by omega))
  replace HG := HG.below hb
  have z10 := hb.size
  have M16 := hq
  have yM16 := hq.lt
  clear hq hb hW
  refine Zv rfl (.int .i64 (stopE x.ol (l.getD j (0, false)).1 (l.getD j (0, false)).2)) (Yn (Yo (Ys (Yq (Zv rfl (.int .i64 (stopE x.ol (l.getD j (0, false)).1 (l.getD j (0, false)).2)) ?_)))))
  by_cases C7 : (stopE x.ol (l.getD j (0, false)).1 (l.getD j (0, false)).2) = 0
  ·refine Zb rfl (((stopE x.ol (l.getD j (0, false)).1 (l.getD j (0, false)).2) : Int) != (0 : Int)) false (by rw [bne_eq_false_iff_eq]; omega) (Yn (Yo (sx_false (by kernel_rfl) (wp_skip (Yo (Yr (Zv rfl (v6) (Zw rfl (.agg (pK (stopV x.ol (l.getD j (0, false)).1 (l.getD j (0, false)).2))) (ex_load rfl M16 (by kernel_rfl) Tryz.underlying76 rfl (by kernel_rfl)) ?_))))))))
   obtain ⟨W18, hW, hb, hq⟩ := laidA W17 (pK (stopV x.ol (l.getD j (0, false)).1 (l.getD j (0, false)).2)) 76
   refine sx_mem (by kernel_rfl) rfl rfl (.slice (some ⟨W17.heap.size, 0, none⟩) 1 1) W18 (by rw [← hW]; kernel_rfl) ?_
   replace HB := over HB hb
   replace HL := HL.trans (hb.mono (by omega))
   replace HG := HG.below hb
   have z11 := hb.size
   have M19 := hq
   have yM19 := hq.lt
   clear hq hb hW
   obtain ⟨v21, W20, h9, hg9, hb, -, -⟩ := ap_o (P := Tryz.prog) (t := 83) (ty := 83) (z := stZ) (bytes := 32) (x := (stopV x.ol (l.getD j (0, false)).1 (l.getD j (0, false)).2 : StT)) stRow Tryz.underlying83 (by kernel_rfl) rfl (by decide) (by decide) HG M19 rfl (by omega) (by rw [stopsK_len _ _ _ (by omega)]; omega)
   refine sx_mem (by kernel_rfl) rfl rfl (v21) W20 (ex_append rfl (by kernel_rfl) (by kernel_rfl) h9) ?_
   replace HB := HB.trans (hb.mono (by omega))
   replace HL := HL.trans (hb.mono (by omega))
   have z12 := hb.size
   have HG := hg9
   clear hg9 hb h9
   refine Zv rfl (v21) (Yn ?_)
   refine sx_in ?_
   refine Yo (Yr (Zi rfl (IntKind.i64.wrap (((j : Nat) : Int) + 1)) (((j + 1 : Nat) : Int)) (by rw [IntKind.wrap_i64]; omega) (Zv rfl (.int .i64 ((j + 1 : Nat) : Int)) (Yn (Yo ?_)))))
   exact sx_again (l.length - (j + 1)) (j + 1, v21) (by omega) (by kernel_rfl) ⟨by show j + 1 ≤ _; omega, Nat.le_refl _, stopsOk_take (by omega) hso (by assumption), by show Ol stE 76 4 _ _ _ (stopsK (x.tl.getD i ty0) x.ol l (j + 1)); rw [stopsK_more _ _ _ (by omega)]; exact HG, HL⟩
  refine Zb rfl (((stopE x.ol (l.getD j (0, false)).1 (l.getD j (0, false)).2) : Int) != (0 : Int)) true (bne_iff_ne.2 (by omega)) (Yn (Yo (sx_true (by kernel_rfl) (Yq (Zv rfl (.pointer none) (Zv rfl (.bool false) (Yn (Yo (wp_ret (sx_rs ?_))))))))))
  refine sx_rb ?_
  refine sx_rs (sx_rs ?_)
  refine sx_rb ?_
  refine sx_rs ?_
  have hp9 : posD x.tl x.ol ((i : Nat) : Int) st l = false := posD_no (.inr (.inr (.inr (.inr (.inr (stopsOk_no (k := j) (by omega) (by assumption)))))))
  refine sx_ret2 (.pointer none) (.bool false) rfl rfl rfl (by kernel_rfl) (by kernel_rfl) ⟨.inl ⟨hp9, rfl⟩, HB⟩
 refine Zb rfl (decide (((j : Nat) : Int) < ((l.length : Nat) : Int))) false (decide_eq_false (by omega)) (Yn (Yo (Ys (sx_false (by kernel_rfl) (wp_exit ?_)))))
 refine sx_es ?_
 refine sx_es ?_
 refine sx_out ?_
 refine Yo (Yq (Zv rfl (v6) (Zv rfl (pt W3.heap.size 3) (Zw rfl (.int .i64 ((x.tl.getD i ty0).to)) (el (M5.cell 3 rfl) Tryz.underlying3) (Zv rfl (pt W3.heap.size 8) (Zw rfl (.int .i64 ((x.tl.getD i ty0).cls)) (el (M5.cell 8 rfl) Tryz.underlying3) (Zv rfl (.agg #[.int .i64 ((x.tl.getD i ty0).to), .int .i64 0, .int .i64 ((x.tl.getD i ty0).cls), .int .i64 0]) ?_)))))))
 obtain ⟨W22, hW, hb, hq⟩ := laidA wr12 #[.int .i64 ((x.tl.getD i ty0).to), .int .i64 0, .int .i64 ((x.tl.getD i ty0).cls), .int .i64 0] 76
 refine sx_mem (by kernel_rfl) rfl rfl (.slice (some ⟨wr12.heap.size, 0, none⟩) 1 1) W22 (by rw [← hW]; kernel_rfl) ?_
 replace HB := over HB hb
 replace M2 := M2.below hb
 replace M4 := M4.below hb
 replace M5 := M5.below hb
 replace HL := HL.trans (hb.mono (by omega))
 replace HG := HG.below hb
 have z8 := hb.size
 have M23 := hq
 have yM23 := hq.lt
 clear hq hb hW
 obtain ⟨v25, W24, h9, hg9, hb, -, -⟩ := ap_o (P := Tryz.prog) (t := 83) (ty := 83) (z := stZ) (bytes := 32) (x := (⟨(x.tl.getD i ty0).to, 0, (x.tl.getD i ty0).cls, 0⟩ : StT)) stRow Tryz.underlying83 (by kernel_rfl) rfl (by decide) (by decide) HG M23 rfl (by omega) (by rw [stopsK_len _ _ _ (by omega)]; omega)
 obtain ⟨o9, c9, hv9⟩ := Ol.form hg9
 subst hv9
 refine sx_mem (by kernel_rfl) rfl rfl (.slice o9 (stopsK (x.tl.getD i ty0) x.ol l j ++ [(⟨(x.tl.getD i ty0).to, 0, (x.tl.getD i ty0).cls, 0⟩ : StT)]).length c9) W24 (ex_append rfl (by kernel_rfl) (by kernel_rfl) h9) ?_
 replace HB := HB.trans (hb.mono (by omega))
 replace M2 := M2.belowB (by omega) hb
 replace M4 := M4.belowB (by omega) hb
 replace M5 := M5.belowB (by omega) hb
 replace HL := HL.trans (hb.mono (by omega))
 have z9 := hb.size
 have HG := hg9
 clear hg9 hb h9
 refine Zv rfl (.slice o9 (stopsK (x.tl.getD i ty0) x.ol l j ++ [(⟨(x.tl.getD i ty0).to, 0, (x.tl.getD i ty0).cls, 0⟩ : StT)]).length c9) (Yn (Yo (Yq (Zv rfl (pt w.heap.size 0) (Zw rfl (.agg #[.slice k.o0 x.pl.length k.c0, .slice k.o1 x.al.length k.c1]) (ex_mid (q := 0) rfl M2 [.slice k.o0 x.pl.length k.c0, .slice k.o1 x.al.length k.c1] (by kernel_rfl) Tryz.underlying25 rfl (by kernel_rfl) rfl) (Zw rfl (.agg (tK (x.tl.getD i ty0) (va i) (vb i))) (ex_load rfl M5 (by kernel_rfl) Tryz.underlying80 rfl (by kernel_rfl)) (Zv rfl (pt W3.heap.size 7) (Zw rfl (.int .i64 ((x.tl.getD i ty0).opn)) (el (M5.cell 7 rfl) Tryz.underlying3) (Zv rfl (pt W1.heap.size 1) (Zw rfl (.int .i64 st) (el (M4.cell 1 rfl) Tryz.underlying3) (Zv rfl (.int .i64 (if (x.tl.getD i ty0).opn < st then st else (x.tl.getD i ty0).opn)) (Zv rfl (.slice o9 (stopsK (x.tl.getD i ty0) x.ol l j ++ [(⟨(x.tl.getD i ty0).to, 0, (x.tl.getD i ty0).cls, 0⟩ : StT)]).length c9) (Zv rfl (.agg #[.slice k.o0 x.pl.length k.c0, .slice k.o1 x.al.length k.c1, .string (x.tl.getD i ty0).name, .int .i64 ((x.tl.getD i ty0).count), .int .i64 ((x.tl.getD i ty0).fr), .int .i64 ((x.tl.getD i ty0).to), .slice (va i) (x.tl.getD i ty0).cap.length (vb i), .int .i64 ((x.tl.getD i ty0).skills), .int .i64 ((x.tl.getD i ty0).prof), .int .i64 ((x.tl.getD i ty0).opn), .int .i64 ((x.tl.getD i ty0).cls), .int .i64 ((x.tl.getD i ty0).drv), .int .i64 ((x.tl.getD i ty0).rst), .int .i64 ((x.tl.getD i ty0).fix), .int .i64 ((x.tl.getD i ty0).pm), .int .i64 ((x.tl.getD i ty0).pt), .int .i64 (if (x.tl.getD i ty0).opn < st then st else (x.tl.getD i ty0).opn), .slice o9 (stopsK (x.tl.getD i ty0) x.ol l j ++ [(⟨(x.tl.getD i ty0).to, 0, (x.tl.getD i ty0).cls, 0⟩ : StT)]).length c9]) ?_)))))))))))))
 refine Za rfl #[.slice k.o0 x.pl.length k.c0, .slice k.o1 x.al.length k.c1, .string (x.tl.getD i ty0).name, .int .i64 ((x.tl.getD i ty0).count), .int .i64 ((x.tl.getD i ty0).fr), .int .i64 ((x.tl.getD i ty0).to), .slice (va i) (x.tl.getD i ty0).cap.length (vb i), .int .i64 ((x.tl.getD i ty0).skills), .int .i64 ((x.tl.getD i ty0).prof), .int .i64 ((x.tl.getD i ty0).opn), .int .i64 ((x.tl.getD i ty0).cls), .int .i64 ((x.tl.getD i ty0).drv), .int .i64 ((x.tl.getD i ty0).rst), .int .i64 ((x.tl.getD i ty0).fix), .int .i64 ((x.tl.getD i ty0).pm), .int .i64 ((x.tl.getD i ty0).pt), .int .i64 (if (x.tl.getD i ty0).opn < st then st else (x.tl.getD i ty0).opn), .slice o9 (stopsK (x.tl.getD i ty0) x.ol l j ++ [(⟨(x.tl.getD i ty0).to, 0, (x.tl.getD i ty0).cls, 0⟩ : StT)]).length c9] 156 (fun W26 hb M27 z10 yM27 => ?_)
 replace HB := over HB hb
 replace HL := HL.trans (hb.mono (by omega))
 replace HG := HG.below hb
 clear hb
 refine Zv rfl (pt W24.heap.size 0) (Zv rfl (.bool true) (Yn (Yo (wp_ret ?_))))
 have hj9 : j = l.length := by omega
 subst hj9
 rw [List.take_length] at hso
 have hp9 : posD x.tl x.ol ((i : Nat) : Int) st l = true := posD_yes (by omega) (by omega) (by omega) (by omega) (by omega) hso
 have hS9 : stopsK (x.tl.getD i ty0) x.ol l l.length ++ [⟨(x.tl.getD i ty0).to, 0, (x.tl.getD i ty0).cls, 0⟩] = crsS (x.tl.getD i ty0) x.ol l := by unfold stopsK crsS; rw [List.take_length]
 rw [hS9] at HG M27
 obtain ⟨b9, q9, hrw9⟩ := Ol.rw stRow st0 HG
 refine sx_ret2 (pt W24.heap.size 0) (.bool true) rfl rfl rfl (by kernel_rfl) (by kernel_rfl) ⟨.inr ⟨⟨k.o0, k.c0, k.o1, k.c1, va i, vb i, o9, c9, b9, q9⟩, W24.heap.size, hp9, rfl, ⟨M27, hrw9, (hI.below HB).h0, (hI.below HB).h1, hT.belowD HB⟩⟩, HB⟩

end Go.Proofs.YtomebalolmabnaaGreatDoor.T



