/-
  DERIVED. Fa: a part of the base of layer 13 (made by pack.py).
-/
import Derived.Test.YtnapmildbodigaaDoorGA
import Derived.Test.YtnapmildbodigaaDoorGC
import Derived.Test.YtnapmildbodigaaDoorGG
/-! The specification of schedules: stops, possible routes (by gen_fa.py). -/
namespace Go.Proofs.YtnapmildbodigaaDoor.T
open Go.RowKit
set_option maxRecDepth 8000
attribute [local irreducible] wpList Code.wp wpAnyH

theorem rw_mid {w : World} {b o sz : Nat} {E : Nat → List Value} {n : Nat} {oa : Option Addr} (h : Rw w b o sz E n oa) {k : Nat} (hk : k < n) (j : Nat) (vs : List Value) (hv : ((E k).drop j).take vs.length = vs) : w.rangeAt b (o + k * sz + j) vs := fun i v hi => by
 have h1 := h.cell hk (j + i) (v := v) (by
  have hil := (List.getElem?_eq_some_iff.1 hi).1
  rw [← hv, List.getElem?_take_of_lt hil, List.getElem?_drop] at hi
  exact hi)
 rw [← Nat.add_assoc] at h1
 exact h1
/-- a stop, as the specification says it -/
def stR (l : List OrT) (i : Int) (d : Bool) : StT := if inR l i then stQ (l.getD i.toNat or0) d else st0
def okR (l : List OrT) (i : Int) (d : Bool) : Bool := inR l i && decide (0 ≤ (stQ (l.getD i.toNat or0) d).p)
theorem inR_at {l : List OrT} {i : Nat} (h : i < l.length) : inR l (i : Int) = true := by unfold inR; simp only [Bool.and_eq_true, decide_eq_true_eq]; omega
theorem inR_off {l : List OrT} {i : Int} (h : i < 0 ∨ (l.length : Int) ≤ i) : inR l i = false := by
 rw [Bool.eq_false_iff]
 unfold inR
 intro h9
 simp only [Bool.and_eq_true, decide_eq_true_eq] at h9
 omega
theorem okR_stop {l : List OrT} {i : Int} {d : Bool} : okR l i d = decide (stopE l i d = 0) := by
 unfold okR stopE
 cases h : inR l i
 ·rfl
 ·simp only [Bool.true_and, if_true]
  split
  ·rename_i h1; rw [decide_eq_false (by omega), decide_eq_false (by decide)]
  ·rename_i h1; rw [decide_eq_true (by omega), decide_eq_true rfl]
theorem stR_stop {l : List OrT} {i : Int} {d : Bool} (h : okR l i d = true) : stR l i d = stopV l i d := by
 unfold okR at h
 simp only [Bool.and_eq_true, decide_eq_true_eq] at h
 unfold stR stopV
 rw [if_pos h.1, if_pos h.1, if_neg (by omega)]
theorem refStop_n (k : Iv) (x : InT) (v : Int) (d : Bool) (w : World) (hI : Ins w k x) : Calls Tryd.prog 32 #[.agg (iK k x), .agg #[.int .i64 v, .bool d]] w fun e w' => e = .returned (.tuple #[.agg #[.int .i64 (stR x.ol v d).p, .int .i64 (stR x.ol v d).o, .int .i64 (stR x.ol v d).c, .int .i64 (stR x.ol v d).s], .bool (okR x.ol v d)]) ∧ Below w.heap.size w w' := by
 have HB : Below w.heap.size w w := Below.refl _ _
 obtain ⟨bo, qo, vo, hO⟩ := hI.h3.rw
 refine sx_enter Tryd.func32 rfl [(0, .agg (iK k x)), (1, .agg #[.int .i64 v, .bool d])] (by kernel_rfl) ?_
 refine wp_seq ?_
 refine wp_region_lit ?_
 obtain ⟨W1, hW, hb, hq⟩ := laidA w (iK k x) 30
 refine sx_mem (by kernel_rfl) rfl rfl (.pointer (some ⟨w.heap.size, 0, none⟩)) W1 (by rw [← hW]; kernel_rfl) ?_
 replace HB := over HB hb
 have z1 := hb.size
 have M2 := hq
 have yM2 := hq.lt
 clear hq hb hW
 obtain ⟨W3, hW, hb, hq⟩ := laidA W1 #[.int .i64 v, .bool d] 58
 refine sx_mem (by kernel_rfl) rfl rfl (.pointer (some ⟨W1.heap.size, 0, none⟩)) W3 (by rw [← hW]; kernel_rfl) ?_
 replace HB := over HB hb
 replace M2 := M2.below hb
 have z2 := hb.size
 have M4 := hq
 have yM4 := hq.lt
 clear hq hb hW
 obtain ⟨W5, hW, hb, hq⟩ := laidA W3 #[.int .i64 0, .int .i64 0, .int .i64 0, .int .i64 0] 60
 refine sx_mem (by kernel_rfl) rfl rfl (.pointer (some ⟨W3.heap.size, 0, none⟩)) W5 (by rw [← hW]; kernel_rfl) ?_
 replace HB := over HB hb
 replace M2 := M2.below hb
 replace M4 := M4.below hb
 have z3 := hb.size
 have M6 := hq
 have yM6 := hq.lt
 clear hq hb hW
 refine Zv rfl (.bool false) ?_
 refine wpList_nil ?_
 refine sx_norm ?_
 refine wp_seq ?_
 refine wp_seq ?_
 refine wp_region_lit ?_
 refine Zv rfl (.pointer (some ⟨W1.heap.size, 0, none⟩)) ?_
 refine Zw rfl (.int .i64 v) (el (M4.cell 0 rfl) Tryd.underlying3) ?_
 by_cases C1 : v < 0
 ·refine Zb rfl (decide (v < 0)) true (decide_eq_true (by omega)) ?_
  refine Zv rfl (.bool true) ?_
  refine Zk rfl ?_
  refine Zk rfl ?_
  refine Zk rfl ?_
  refine Zk rfl ?_
  refine Zk rfl ?_
  refine Zk rfl ?_
  refine Zv rfl (.bool true) ?_
  refine wpList_nil ?_
  refine sx_norm ?_
  refine sx_true (by kernel_rfl) ?_
  refine wp_seq ?_
  refine wp_region_lit ?_
  refine Zv rfl (.agg #[.int .i64 0, .int .i64 0, .int .i64 0, .int .i64 0]) ?_
  refine Zs (cells := #[.int .i64 0, .int .i64 0, .int .i64 0, .int .i64 0]) rfl rfl M6 ?_
  obtain ⟨W7, hW⟩ : ∃ W, W5.setRow (W3.heap.size) #[.int .i64 0, .int .i64 0, .int .i64 0, .int .i64 0] = W := ⟨_, rfl⟩
  have hg : W5.grownBy W7 (some (W3.heap.size)) := hW ▸ grown_row _ _ _
  have hq : Cb W7 (W3.heap.size) #[.int .i64 0, .int .i64 0, .int .i64 0, .int .i64 0] 60 := hW ▸ Cb.row M6 _
  rw [hW]
  replace HB := HB.grown hg (by omega) (fun x e => by simp only [Option.some.injEq] at e; omega)
  replace M2 := M2.kept hg (by omega)
  replace M4 := M4.kept hg (by omega)
  have z4 := hg.size
  replace M6 := hq
  clear hq hg hW
  refine Zv rfl (.bool false) ?_
  refine wpList_nil ?_
  refine sx_norm ?_
  refine wp_ret ?_
  refine sx_rs ?_
  have h9 := inR_off (l := x.ol) (i := v) (by omega)
  exact sx_retct (v' := .bool false) M6 rfl rfl rfl (by kernel_rfl) (by kernel_rfl) Tryd.underlying60 rfl (by kernel_rfl) ⟨by unfold stR okR; rw [h9]; rfl, HB⟩
 refine Zb rfl (decide (v < 0)) false (decide_eq_false (by omega)) ?_
 refine Zv rfl (.bool false) ?_
 refine Zv rfl (.pointer (some ⟨W1.heap.size, 0, none⟩)) ?_
 refine Zw rfl (.int .i64 v) (el (M4.cell 0 rfl) Tryd.underlying3) ?_
 refine Zv rfl (.pointer (some ⟨w.heap.size, 3, none⟩)) ?_
 refine Zw rfl (.slice k.o3 x.ol.length k.c3) (el (M2.cell 3 rfl) Tryd.underlying27) ?_
 refine Zv rfl (.int .i64 ((x.ol.length : Nat) : Int)) ?_
 by_cases C2 : v ≥ ((x.ol.length : Nat) : Int)
 ·refine Zb rfl (decide (v ≥ ((x.ol.length : Nat) : Int))) true (decide_eq_true (by omega)) ?_
  refine Zv rfl (.bool true) ?_
  refine wpList_nil ?_
  refine sx_norm ?_
  refine sx_true (by kernel_rfl) ?_
  refine wp_seq ?_
  refine wp_region_lit ?_
  refine Zv rfl (.agg #[.int .i64 0, .int .i64 0, .int .i64 0, .int .i64 0]) ?_
  refine Zs (cells := #[.int .i64 0, .int .i64 0, .int .i64 0, .int .i64 0]) rfl rfl M6 ?_
  obtain ⟨W8, hW⟩ : ∃ W, W5.setRow (W3.heap.size) #[.int .i64 0, .int .i64 0, .int .i64 0, .int .i64 0] = W := ⟨_, rfl⟩
  have hg : W5.grownBy W8 (some (W3.heap.size)) := hW ▸ grown_row _ _ _
  have hq : Cb W8 (W3.heap.size) #[.int .i64 0, .int .i64 0, .int .i64 0, .int .i64 0] 60 := hW ▸ Cb.row M6 _
  rw [hW]
  replace HB := HB.grown hg (by omega) (fun x e => by simp only [Option.some.injEq] at e; omega)
  replace M2 := M2.kept hg (by omega)
  replace M4 := M4.kept hg (by omega)
  have z4 := hg.size
  replace M6 := hq
  clear hq hg hW
  refine Zv rfl (.bool false) ?_
  refine wpList_nil ?_
  refine sx_norm ?_
  refine wp_ret ?_
  refine sx_rs ?_
  have h9 := inR_off (l := x.ol) (i := v) (by omega)
  exact sx_retct (v' := .bool false) M6 rfl rfl rfl (by kernel_rfl) (by kernel_rfl) Tryd.underlying60 rfl (by kernel_rfl) ⟨by unfold stR okR; rw [h9]; rfl, HB⟩
 refine Zb rfl (decide (v ≥ ((x.ol.length : Nat) : Int))) false (decide_eq_false (by omega)) ?_
 refine Zv rfl (.bool false) ?_
 refine wpList_nil ?_
 refine sx_norm ?_
 refine sx_false (by kernel_rfl) ?_
 refine wp_skip ?_
 refine sx_norm ?_
 refine wp_seq ?_
 obtain ⟨i, rfl⟩ := Int.eq_ofNat_of_zero_le (show 0 ≤ v by omega)
 refine wp_region_lit ?_
 refine Zv rfl (.pointer (some ⟨w.heap.size, 3, none⟩)) ?_
 refine Zw rfl (.slice k.o3 x.ol.length k.c3) (el (M2.cell 3 rfl) Tryd.underlying27) ?_
 refine Zv rfl (.pointer (some ⟨W1.heap.size, 0, none⟩)) ?_
 refine Zw rfl (.int .i64 ((i : Nat) : Int)) (el (M4.cell 0 rfl) Tryd.underlying3) ?_
 refine Zw rfl (.pointer (some ⟨bo, qo + i * 16, none⟩)) (ex_indexO (q := qo) (m := x.ol.length) (c := k.c3) (k := i) (s := 16) rfl (by kernel_rfl) ((hO.below HB).oa (k := i) (by omega)) (by kernel_rfl) Tryd.underlying27 (by kernel_rfl) (by omega) (by omega)) ?_
 refine Zv rfl (.pointer (some ⟨bo, qo + i * 16 + 2, none⟩)) ?_
 refine Zw rfl (.agg #[.int .i64 ((x.ol.getD i or0).pp), .int .i64 ((x.ol.getD i or0).po), .int .i64 ((x.ol.getD i or0).pc), .int .i64 ((x.ol.getD i or0).ps)]) (ex_loadR rfl (rw_mid (hO.below HB) (k := i) (by omega) 2 [.int .i64 ((x.ol.getD i or0).pp), .int .i64 ((x.ol.getD i or0).po), .int .i64 ((x.ol.getD i or0).pc), .int .i64 ((x.ol.getD i or0).ps)] rfl) (by kernel_rfl) Tryd.underlying60 rfl (by kernel_rfl)) ?_
 obtain ⟨W10, hW, hb, hq⟩ := laidV W5 #[.int .i64 0, .int .i64 0, .int .i64 0, .int .i64 0] #[.int .i64 ((x.ol.getD i or0).pp), .int .i64 ((x.ol.getD i or0).po), .int .i64 ((x.ol.getD i or0).pc), .int .i64 ((x.ol.getD i or0).ps)] 60
 refine sx_mem (by kernel_rfl) rfl rfl (.pointer (some ⟨W5.heap.size, 0, none⟩)) (W5.alloc (.cells #[.int .i64 0, .int .i64 0, .int .i64 0, .int .i64 0] 60)) (by kernel_rfl) ?_
 refine Zs (cells := #[.int .i64 ((x.ol.getD i or0).pp), .int .i64 ((x.ol.getD i or0).po), .int .i64 ((x.ol.getD i or0).pc), .int .i64 ((x.ol.getD i or0).ps)]) rfl rfl (Cb.made W5 #[.int .i64 0, .int .i64 0, .int .i64 0, .int .i64 0] 60) ?_
 rw [hW]
 replace HB := over HB hb
 replace M2 := M2.below hb
 replace M4 := M4.below hb
 replace M6 := M6.below hb
 have z4 := hb.size
 have M9 := hq
 have yM9 := hq.lt
 clear hq hb hW
 refine wpList_nil ?_
 refine sx_norm ?_
 refine wp_seq ?_
 refine wp_seq ?_
 refine wp_region_lit ?_
 refine Zv rfl (.pointer (some ⟨W1.heap.size, 1, none⟩)) ?_
 by_cases C3 : d = true
 ·refine Zw rfl (.bool true) (ex_load1 (v := .bool true) rfl (by have h8 := M4.cell 1 rfl; rw [show d = true by simpa using C3] at h8; exact h8) (by kernel_rfl) Tryd.underlying4 rfl) ?_
  refine wpList_nil ?_
  refine sx_norm ?_
  refine sx_true (by kernel_rfl) ?_
  refine wp_region_lit ?_
  refine Zv rfl (.pointer (some ⟨w.heap.size, 3, none⟩)) ?_
  refine Zw rfl (.slice k.o3 x.ol.length k.c3) (el (M2.cell 3 rfl) Tryd.underlying27) ?_
  refine Zv rfl (.pointer (some ⟨W1.heap.size, 0, none⟩)) ?_
  refine Zw rfl (.int .i64 ((i : Nat) : Int)) (el (M4.cell 0 rfl) Tryd.underlying3) ?_
  refine Zw rfl (.pointer (some ⟨bo, qo + i * 16, none⟩)) (ex_indexO (q := qo) (m := x.ol.length) (c := k.c3) (k := i) (s := 16) rfl (by kernel_rfl) ((hO.below HB).oa (k := i) (by omega)) (by kernel_rfl) Tryd.underlying27 (by kernel_rfl) (by omega) (by omega)) ?_
  refine Zv rfl (.pointer (some ⟨bo, qo + i * 16 + 6, none⟩)) ?_
  refine Zw rfl (.agg #[.int .i64 ((x.ol.getD i or0).dp), .int .i64 ((x.ol.getD i or0).dd), .int .i64 ((x.ol.getD i or0).dc), .int .i64 ((x.ol.getD i or0).ds)]) (ex_loadR rfl (rw_mid (hO.below HB) (k := i) (by omega) 6 [.int .i64 ((x.ol.getD i or0).dp), .int .i64 ((x.ol.getD i or0).dd), .int .i64 ((x.ol.getD i or0).dc), .int .i64 ((x.ol.getD i or0).ds)] rfl) (by kernel_rfl) Tryd.underlying60 rfl (by kernel_rfl)) ?_
  refine Zs (cells := #[.int .i64 ((x.ol.getD i or0).dp), .int .i64 ((x.ol.getD i or0).dd), .int .i64 ((x.ol.getD i or0).dc), .int .i64 ((x.ol.getD i or0).ds)]) rfl rfl M9 ?_
  obtain ⟨W11, hW⟩ : ∃ W, W10.setRow (W5.heap.size) #[.int .i64 ((x.ol.getD i or0).dp), .int .i64 ((x.ol.getD i or0).dd), .int .i64 ((x.ol.getD i or0).dc), .int .i64 ((x.ol.getD i or0).ds)] = W := ⟨_, rfl⟩
  have hg : W10.grownBy W11 (some (W5.heap.size)) := hW ▸ grown_row _ _ _
  have hq : Cb W11 (W5.heap.size) #[.int .i64 ((x.ol.getD i or0).dp), .int .i64 ((x.ol.getD i or0).dd), .int .i64 ((x.ol.getD i or0).dc), .int .i64 ((x.ol.getD i or0).ds)] 60 := hW ▸ Cb.row M9 _
  rw [hW]
  replace HB := HB.grown hg (by omega) (fun x e => by simp only [Option.some.injEq] at e; omega)
  replace M2 := M2.kept hg (by omega)
  replace M4 := M4.kept hg (by omega)
  replace M6 := M6.kept hg (by omega)
  have z5 := hg.size
  replace M9 := hq
  clear hq hg hW
  refine wpList_nil ?_
  refine sx_norm ?_
  refine wp_seq ?_
  obtain ⟨Y12, hW⟩ : ∃ W, W11.drew = W := ⟨_, rfl⟩
  have hb : Below W11.heap.size W11 Y12 := hW ▸ below_drew (Below.refl _ _)
  replace HB := over HB hb
  replace M2 := M2.below hb
  replace M4 := M4.below hb
  replace M6 := M6.below hb
  replace M9 := M9.below hb
  have z6 := hb.size
  clear hb
  refine sd_begin (fun W => Cb W (w.heap.size) (iK k x) 30 ∧ Cb W (W1.heap.size) #[.int .i64 ((i : Nat) : Int), .bool d] 58 ∧ Cb W (W5.heap.size) #[.int .i64 ((x.ol.getD i or0).dp), .int .i64 ((x.ol.getD i or0).dd), .int .i64 ((x.ol.getD i or0).dc), .int .i64 ((x.ol.getD i or0).ds)] 60 ∧ True) (by kernel_rfl) (by rw [hW]; exact ⟨M2, M4, M9, trivial⟩) ?_
  rw [hW]
  clear hW
  refine Zt 0 rfl rfl (.agg #[.int .i64 ((x.ol.getD i or0).dp), .int .i64 ((x.ol.getD i or0).dd), .int .i64 ((x.ol.getD i or0).dc), .int .i64 ((x.ol.getD i or0).ds)]) (fun w9 h9 => ex_load rfl h9.2.2.1 (by kernel_rfl) Tryd.underlying60 rfl (by kernel_rfl)) ⟨M2, M4, M9, trivial⟩ ?_
  refine Zu 1 rfl rfl (.pointer (some ⟨W5.heap.size, 0, none⟩)) ⟨M2, M4, M9, trivial⟩ ?_
  refine Zt 2 rfl rfl (.int .i64 ((x.ol.getD i or0).dp)) (fun w9 h9 => el (h9.2.2.1.cell 0 rfl) Tryd.underlying3) ⟨M2, M4, M9, trivial⟩ ?_
  refine Zu 3 rfl rfl (.bool (decide ((x.ol.getD i or0).dp ≥ 0))) ⟨M2, M4, M9, trivial⟩ ?_
  refine sd_all [4] (by kernel_rfl) (by decide) ?_
  refine sd_do (i := 4) rfl (by kernel_rfl) rfl (Y12.setRow (W3.heap.size) #[.int .i64 ((x.ol.getD i or0).dp), .int .i64 ((x.ol.getD i or0).dd), .int .i64 ((x.ol.getD i or0).dc), .int .i64 ((x.ol.getD i or0).ds)]) (ex_store (cells := #[.int .i64 ((x.ol.getD i or0).dp), .int .i64 ((x.ol.getD i or0).dd), .int .i64 ((x.ol.getD i or0).dc), .int .i64 ((x.ol.getD i or0).ds)]) rfl M6 (by kernel_rfl) (by kernel_rfl) (by kernel_rfl) (by kernel_rfl) (by kernel_rfl)) ⟨(M2.kept (grown_row _ _ _) (by omega)), (M4.kept (grown_row _ _ _) (by omega)), (M9.kept (grown_row _ _ _) (by omega)), trivial⟩ ?_ AllReadyH.nil
  obtain ⟨W13, hW⟩ : ∃ W, Y12.setRow (W3.heap.size) #[.int .i64 ((x.ol.getD i or0).dp), .int .i64 ((x.ol.getD i or0).dd), .int .i64 ((x.ol.getD i or0).dc), .int .i64 ((x.ol.getD i or0).ds)] = W := ⟨_, rfl⟩
  have hg : Y12.grownBy W13 (some (W3.heap.size)) := hW ▸ grown_row _ _ _
  have hq : Cb W13 (W3.heap.size) #[.int .i64 ((x.ol.getD i or0).dp), .int .i64 ((x.ol.getD i or0).dd), .int .i64 ((x.ol.getD i or0).dc), .int .i64 ((x.ol.getD i or0).ds)] 60 := hW ▸ Cb.row M6 _
  rw [hW]
  replace HB := HB.grown hg (by omega) (fun x e => by simp only [Option.some.injEq] at e; omega)
  replace M2 := M2.kept hg (by omega)
  replace M4 := M4.kept hg (by omega)
  replace M9 := M9.kept hg (by omega)
  have z7 := hg.size
  replace M6 := hq
  clear hq hg hW
  refine Zu 5 rfl rfl (.bool (decide ((x.ol.getD i or0).dp ≥ 0))) ⟨M2, M4, M9, trivial⟩ ?_
  refine sd_done (by kernel_rfl) ?_
  refine sx_norm ?_
  refine wp_ret ?_
  have h9 := inR_at (l := x.ol) (i := i) (by omega)
  have hd9 : d = true := by simpa using (by assumption : d = true)
  subst hd9
  exact sx_retct (v' := .bool (decide ((x.ol.getD i or0).dp ≥ 0))) M6 rfl rfl rfl (by kernel_rfl) (by kernel_rfl) Tryd.underlying60 rfl (by kernel_rfl) ⟨by unfold stR okR; rw [h9]; simp only [if_true, Bool.true_and, Int.toNat_natCast]; first | rfl | (rw [decide_eq_true (by show 0 ≤ x.ol[i]?.getD or0 |>.pp; simp at *; omega)]; rfl), HB⟩
 refine Zw rfl (.bool false) (ex_load1 (v := .bool false) rfl (by have h8 := M4.cell 1 rfl; rw [show d = false by simpa using C3] at h8; exact h8) (by kernel_rfl) Tryd.underlying4 rfl) ?_
 refine wpList_nil ?_
 refine sx_norm ?_
 refine sx_false (by kernel_rfl) ?_
 refine wp_skip ?_
 refine sx_norm ?_
 refine wp_seq ?_
 obtain ⟨Y14, hW⟩ : ∃ W, W10.drew = W := ⟨_, rfl⟩
 have hb : Below W10.heap.size W10 Y14 := hW ▸ below_drew (Below.refl _ _)
 replace HB := over HB hb
 replace M2 := M2.below hb
 replace M4 := M4.below hb
 replace M6 := M6.below hb
 replace M9 := M9.below hb
 have z5 := hb.size
 clear hb
 refine sd_begin (fun W => Cb W (w.heap.size) (iK k x) 30 ∧ Cb W (W1.heap.size) #[.int .i64 ((i : Nat) : Int), .bool d] 58 ∧ Cb W (W5.heap.size) #[.int .i64 ((x.ol.getD i or0).pp), .int .i64 ((x.ol.getD i or0).po), .int .i64 ((x.ol.getD i or0).pc), .int .i64 ((x.ol.getD i or0).ps)] 60 ∧ True) (by kernel_rfl) (by rw [hW]; exact ⟨M2, M4, M9, trivial⟩) ?_
 rw [hW]
 clear hW
 refine Zt 0 rfl rfl (.agg #[.int .i64 ((x.ol.getD i or0).pp), .int .i64 ((x.ol.getD i or0).po), .int .i64 ((x.ol.getD i or0).pc), .int .i64 ((x.ol.getD i or0).ps)]) (fun w9 h9 => ex_load rfl h9.2.2.1 (by kernel_rfl) Tryd.underlying60 rfl (by kernel_rfl)) ⟨M2, M4, M9, trivial⟩ ?_
 refine Zu 1 rfl rfl (.pointer (some ⟨W5.heap.size, 0, none⟩)) ⟨M2, M4, M9, trivial⟩ ?_
 refine Zt 2 rfl rfl (.int .i64 ((x.ol.getD i or0).pp)) (fun w9 h9 => el (h9.2.2.1.cell 0 rfl) Tryd.underlying3) ⟨M2, M4, M9, trivial⟩ ?_
 refine Zu 3 rfl rfl (.bool (decide ((x.ol.getD i or0).pp ≥ 0))) ⟨M2, M4, M9, trivial⟩ ?_
 refine sd_all [4] (by kernel_rfl) (by decide) ?_
 refine sd_do (i := 4) rfl (by kernel_rfl) rfl (Y14.setRow (W3.heap.size) #[.int .i64 ((x.ol.getD i or0).pp), .int .i64 ((x.ol.getD i or0).po), .int .i64 ((x.ol.getD i or0).pc), .int .i64 ((x.ol.getD i or0).ps)]) (ex_store (cells := #[.int .i64 ((x.ol.getD i or0).pp), .int .i64 ((x.ol.getD i or0).po), .int .i64 ((x.ol.getD i or0).pc), .int .i64 ((x.ol.getD i or0).ps)]) rfl M6 (by kernel_rfl) (by kernel_rfl) (by kernel_rfl) (by kernel_rfl) (by kernel_rfl)) ⟨(M2.kept (grown_row _ _ _) (by omega)), (M4.kept (grown_row _ _ _) (by omega)), (M9.kept (grown_row _ _ _) (by omega)), trivial⟩ ?_ AllReadyH.nil
 obtain ⟨W15, hW⟩ : ∃ W, Y14.setRow (W3.heap.size) #[.int .i64 ((x.ol.getD i or0).pp), .int .i64 ((x.ol.getD i or0).po), .int .i64 ((x.ol.getD i or0).pc), .int .i64 ((x.ol.getD i or0).ps)] = W := ⟨_, rfl⟩
 have hg : Y14.grownBy W15 (some (W3.heap.size)) := hW ▸ grown_row _ _ _
 have hq : Cb W15 (W3.heap.size) #[.int .i64 ((x.ol.getD i or0).pp), .int .i64 ((x.ol.getD i or0).po), .int .i64 ((x.ol.getD i or0).pc), .int .i64 ((x.ol.getD i or0).ps)] 60 := hW ▸ Cb.row M6 _
 rw [hW]
 replace HB := HB.grown hg (by omega) (fun x e => by simp only [Option.some.injEq] at e; omega)
 replace M2 := M2.kept hg (by omega)
 replace M4 := M4.kept hg (by omega)
 replace M9 := M9.kept hg (by omega)
 have z6 := hg.size
 replace M6 := hq
 clear hq hg hW
 refine Zu 5 rfl rfl (.bool (decide ((x.ol.getD i or0).pp ≥ 0))) ⟨M2, M4, M9, trivial⟩ ?_
 refine sd_done (by kernel_rfl) ?_
 refine sx_norm ?_
 refine wp_ret ?_
 have h9 := inR_at (l := x.ol) (i := i) (by omega)
 have hd9 : d = false := by simpa using (by assumption : ¬ d = true)
 subst hd9
 exact sx_retct (v' := .bool (decide ((x.ol.getD i or0).pp ≥ 0))) M6 rfl rfl rfl (by kernel_rfl) (by kernel_rfl) Tryd.underlying60 rfl (by kernel_rfl) ⟨by unfold stR okR; rw [h9]; simp only [if_true, Bool.true_and, Int.toNat_natCast]; first | rfl | (rw [decide_eq_true (by show 0 ≤ x.ol[i]?.getD or0 |>.pp; simp at *; omega)]; rfl), HB⟩

end Go.Proofs.YtnapmildbodigaaDoor.T


