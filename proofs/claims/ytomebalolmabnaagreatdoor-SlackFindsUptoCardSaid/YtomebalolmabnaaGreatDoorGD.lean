/-
  DERIVED. GD: a part of the base of layer 13 (made by pack.py).
-/
import Derived.Test.YtomebalolmabnaaGreatDoorDd
import Derived.Test.YtomebalolmabnaaGreatDoorGA
import Derived.Test.YtomebalolmabnaaGreatDoorGB
import Derived.Test.YtomebalolmabnaaGreatDoorHK
import Derived.Laws.MakeOwn
/-! The walk of drive: the schedule of ways (by gen_de.py). -/
namespace Go.Proofs.YtomebalolmabnaaGreatDoor.T
open Go.RowKit
set_option maxRecDepth 8000
attribute [local irreducible] wpList Code.wp wpAnyH

def tmE (t : TmT) : List Value := [.int .i64 t.a, .int .i64 t.b, .int .i64 t.d, .bool t.r]
theorem tmRow : Row tmE 4 := ⟨fun _ => rfl, fun x v hv => by
 simp only [tmE, List.mem_cons, List.not_mem_nil, or_false] at hv
 rcases hv with rfl | rfl | rfl | rfl <;> rfl⟩
def tmZ : Value := .agg #[.int .i64 0, .int .i64 0, .int .i64 0, .bool false]
def CrT.tm (c : CrT) (R : List Bool) (i : Nat) : TmT := ⟨(c.lg R i).arr, (c.lg R i).beg, (c.lg R (i + 1)).dep, R.getD (i + 1) false⟩
def CrT.tms (c : CrT) (R : List Bool) : List TmT := (List.range (c.n - 1)).map (c.tm R)
def CrT.sheet (c : CrT) (R : List Bool) : ShT := ⟨R.getD 0 false, (c.lg R 0).dep, c.tms R, (c.lg R (c.n - 1)).arr, c.mil R c.n⟩
def CrT.tmK (c : CrT) (R : List Bool) (i : Nat) : List TmT := (List.range (c.n - 1)).map fun j => if j < i then c.tm R j else tm0
theorem CrT.tmK_zero (c : CrT) (R : List Bool) : c.tmK R 0 = List.replicate (c.n - 1) tm0 := by
 unfold CrT.tmK
 apply List.ext_getElem?
 intro j
 rw [List.getElem?_map, List.getElem?_replicate]
 by_cases h : j < c.n - 1
 ·rw [List.getElem?_range h, if_pos h]; rfl
 ·rw [List.getElem?_eq_none (by rw [List.length_range]; omega), if_neg h]; rfl
theorem CrT.tmK_len (c : CrT) (R : List Bool) (i : Nat) : (c.tmK R i).length = c.n - 1 := by unfold CrT.tmK; simp
theorem CrT.tmK_set (c : CrT) (R : List Bool) {i : Nat} (h : i < c.n - 1) : (c.tmK R i).set i (c.tm R i) = c.tmK R (i + 1) := by
 apply List.ext_getElem?
 intro j
 unfold CrT.tmK
 by_cases hj : j < c.n - 1
 ·by_cases e : j = i
  ·subst e
   rw [List.getElem?_set_self (by simp; omega), List.getElem?_map, List.getElem?_range hj]
   simp
  ·rw [List.getElem?_set_ne (fun h => e h.symm), List.getElem?_map, List.getElem?_map, List.getElem?_range hj]
   simp only [Option.map_some]
   congr 1
   by_cases h2 : j < i
   ·rw [if_pos h2, if_pos (by omega)]
   ·rw [if_neg h2, if_neg (by omega)]
 ·rw [List.getElem?_eq_none (by simp; omega), List.getElem?_eq_none (by simp; omega)]
theorem CrT.tmK_over (c : CrT) (R : List Bool) {i : Nat} (h : c.n - 1 ≤ i) : c.tmK R i = c.tms R := by
 unfold CrT.tmK CrT.tms
 apply List.map_congr_left
 intro j hj
 rw [if_pos (by have := List.mem_range.1 hj; omega)]
theorem Rw.ext {w : World} {b o sz : Nat} {E E' : Nat → List Value} {n : Nat} {oa : Option Addr} (h : Rw w b o sz E n oa) (he : ∀ k, k < n → E k = E' k) : Rw w b o sz E' n oa := fun k hk => ⟨(h k hk).1, (h k hk).2.1, by rw [← he k hk]; exact (h k hk).2.2⟩
def shC (S : ShT) (oa : Option Addr) (ca : Nat) : Array Value := #[.bool S.r, .int .i64 S.d, .slice oa S.T.length ca, .int .i64 S.e, .int .i64 S.m]
theorem sheetOf_n (c : CrT) (hc : c.Ok) (R : List Bool) (hRl : R.length = c.n) (hrun : c.run R c.n = 0) (ol oa : Option Addr) (cl ca bl ql b o : Nat) (w : World) (hL : Rw w bl ql 6 (fun k => legE (c.lg R k)) c.n ol) (hR : Rw w b o 1 (bF R) R.length oa) : Calls Tryz.prog 75 #[.slice ol c.n cl, .slice oa R.length ca] w fun e w' => ∃ o9 c9 b9 q9, e = .returned (.agg (shC (c.sheet R) o9 c9)) ∧ Rw w' b9 q9 4 (fun k => tmE ((c.sheet R).T.getD k tm0)) (c.sheet R).T.length o9 ∧ (∀ i, i < (c.sheet R).T.length → w.heap.size ≤ b9) ∧ Below w.heap.size w w' := by
 have HB : Below w.heap.size w w := Below.refl _ _
 have hln := hc.len
 have hn1 : 1 ≤ c.n := by unfold CrT.n; omega
 have hn2 : c.n ≤ 21 := by unfold CrT.n; omega
 refine sx_enter Tryz.func75 rfl [(0, .slice ol c.n cl), (1, .slice oa R.length ca)] (by kernel_rfl) ?_
 refine Yq ?_
 refine Za rfl nZS 37 (fun W1 hb M2 z1 yM2 => ?_)
 replace HB := over HB hb
 clear hb
 refine Yn (Yo (Yq (Zv rfl (.slice ol c.n cl) (Zv rfl (.int .i64 ((c.n : Nat) : Int)) (Zi rfl (IntKind.i64.wrap (((c.n : Nat) : Int) - 1)) (((c.n - 1 : Nat) : Int)) (by rw [IntKind.wrap_i64]; omega) (Zv rfl (.int .i64 ((c.n - 1 : Nat) : Int)) (Yn (Yo ?_))))))))
 refine sx_cut (fun x9 : Nat × Nat => [(0, .slice ol c.n cl), (1, .slice oa R.length ca), (4, .pointer (some ⟨w.heap.size, 0, none⟩)), (5, .int .i64 ((c.n - 1 : Nat) : Int)), (6, .pointer (some ⟨x9.1, 0, none⟩)), (9, .slice ol c.n cl), (10, .int .i64 ((c.n : Nat) : Int)), (11, .int .i64 ((c.n - 1 : Nat) : Int))]) (fun x9 wr => Cb wr x9.1 #[.bool (R.getD 0 false), .int .i64 (c.lg R 0).dep, .slice (some ⟨x9.2, 0, none⟩) (c.n - 1) (c.n - 1), .int .i64 (c.lg R (c.n - 1)).arr, .int .i64 0] 37 ∧ Cb wr x9.2 ((c.tmK R 0).flatMap tmE).toArray 61 ∧ Cb wr w.heap.size nZS 37 ∧ w.heap.size < x9.1 ∧ w.heap.size < x9.2 ∧ x9.1 ≠ x9.2 ∧ Below w.heap.size w wr) ?_ ?_
 ·obtain ⟨Y4, hW⟩ : ∃ W, W1.drew = W := ⟨_, rfl⟩
  have hb : Below W1.heap.size W1 Y4 := hW ▸ below_drew (Below.refl _ _)
  replace HB := over HB hb
  replace M2 := M2.below hb
  have z2 := hb.size
  clear hb
  refine sd_begin (fun W => Rw W b o 1 (bF R) R.length oa ∧ Rw W bl ql 6 (fun k => legE (c.lg R k)) c.n ol ∧ True) (by kernel_rfl) (by rw [hW]; exact ⟨(hR.below HB), (hL.below HB), trivial⟩) ?_
  rw [hW]
  clear hW
  refine Zu 0 rfl rfl (.slice oa R.length ca) ⟨(hR.below HB), (hL.below HB), trivial⟩ ?_
  refine Zt 1 rfl rfl (pt b (o + 0 * 1)) (fun w9 h9 => ex_indexO (q := o) (m := R.length) (c := ca) (k := 0) (s := 1) rfl (by kernel_rfl) (h9.1.oa (k := 0) (by omega)) (by kernel_rfl) Tryz.underlying31 (by kernel_rfl) (by omega) (by omega)) ⟨(hR.below HB), (hL.below HB), trivial⟩ ?_
  refine Zt 2 rfl rfl (.bool (R.getD 0 false)) (fun w9 h9 => el (h9.1.cell (k := 0) (by omega) 0 rfl) Tryz.underlying4) ⟨(hR.below HB), (hL.below HB), trivial⟩ ?_
  refine Zu 3 rfl rfl (.slice ol c.n cl) ⟨(hR.below HB), (hL.below HB), trivial⟩ ?_
  refine Zt 4 rfl rfl (pt bl (ql + 0 * 6)) (fun w9 h9 => ex_indexO (q := ql) (m := c.n) (c := cl) (k := 0) (s := 6) rfl (by kernel_rfl) (h9.2.1.oa (k := 0) (by omega)) (by kernel_rfl) Tryz.underlying109 (by kernel_rfl) (by omega) (by omega)) ⟨(hR.below HB), (hL.below HB), trivial⟩ ?_
  refine Zu 5 rfl rfl (pt bl (ql + 0 * 6)) ⟨(hR.below HB), (hL.below HB), trivial⟩ ?_
  refine Zt 6 rfl rfl (.int .i64 ((c.lg R 0).dep)) (fun w9 h9 => el (h9.2.1.cell (k := 0) (by omega) 0 rfl) Tryz.underlying3) ⟨(hR.below HB), (hL.below HB), trivial⟩ ?_
  refine Zu 7 rfl rfl (.int .i64 ((c.n - 1 : Nat) : Int)) ⟨(hR.below HB), (hL.below HB), trivial⟩ ?_
  refine Zu 9 rfl rfl (.slice ol c.n cl) ⟨(hR.below HB), (hL.below HB), trivial⟩ ?_
  refine Zu 10 rfl rfl (.int .i64 ((c.n - 1 : Nat) : Int)) ⟨(hR.below HB), (hL.below HB), trivial⟩ ?_
  refine Zt 11 rfl rfl (pt bl (ql + (c.n - 1) * 6)) (fun w9 h9 => ex_indexO (q := ql) (m := c.n) (c := cl) (k := c.n - 1) (s := 6) rfl (by kernel_rfl) (h9.2.1.oa (k := c.n - 1) (by omega)) (by kernel_rfl) Tryz.underlying109 (by kernel_rfl) (by omega) (by omega)) ⟨(hR.below HB), (hL.below HB), trivial⟩ ?_
  refine Zu 12 rfl rfl (pt bl (ql + (c.n - 1) * 6 + 1)) ⟨(hR.below HB), (hL.below HB), trivial⟩ ?_
  refine Zt 13 rfl rfl (.int .i64 ((c.lg R (c.n - 1)).arr)) (fun w9 h9 => el (h9.2.1.cell (k := c.n - 1) (by omega) 1 rfl) Tryz.underlying3) ⟨(hR.below HB), (hL.below HB), trivial⟩ ?_
  refine sd_all [8, 15] (by kernel_rfl) (by decide) ?_
  refine sd_mem (i := 8) rfl (by kernel_rfl) rfl rfl (.slice (some ⟨Y4.heap.size, 0, none⟩) (c.n - 1) (c.n - 1)) (Y4.alloc (.cells (madeCells tmZ.cells ((c.n - 1) * 4)) 61)) (ex_makeF (e := 61) (sz := 4) (z := tmZ) (bytes := 32) rfl (by kernel_rfl) (by kernel_rfl) Tryz.underlying35 (by kernel_rfl) (by decide) (by omega)) ⟨((hR.below HB).below (below_alloc Y4 (.cells (madeCells tmZ.cells ((c.n - 1) * 4)) 61))), ((hL.below HB).below (below_alloc Y4 (.cells (madeCells tmZ.cells ((c.n - 1) * 4)) 61))), trivial⟩ ?_ ?_
  ·obtain ⟨W5, hW, hb, hq⟩ := laidA Y4 (madeCells tmZ.cells ((c.n - 1) * 4)) 61
   rw [hW]
   replace HB := over HB hb
   replace M2 := M2.below hb
   have z3 := hb.size
   have HT9 := hq
   have yHT9 := hq.lt
   clear hq hb hW
   refine Zu 14 rfl rfl (.agg #[.bool (R.getD 0 false), .int .i64 ((c.lg R 0).dep), .slice (some ⟨Y4.heap.size, 0, none⟩) (c.n - 1) (c.n - 1), .int .i64 ((c.lg R (c.n - 1)).arr), .int .i64 0]) ⟨(hR.below HB), (hL.below HB), trivial⟩ ?_
   refine sd_all [15] (by kernel_rfl) (by decide) ?_
   refine sd_mem (i := 15) rfl (by kernel_rfl) rfl rfl (pt W5.heap.size 0) (W5.alloc (.cells nZS 37)) (by kernel_rfl) ⟨((hR.below HB).below (below_alloc W5 (.cells nZS 37))), ((hL.below HB).below (below_alloc W5 (.cells nZS 37))), trivial⟩ ?_ AllReadyH.nil
   obtain ⟨W7, hW, hb, hq⟩ := laidA W5 nZS 37
   rw [hW]
   replace HB := over HB hb
   replace M2 := M2.below hb
   replace HT9 := HT9.below hb
   have z4 := hb.size
   have M8 := hq
   have yM8 := hq.lt
   clear hq hb hW
   refine sd_all [16] (by kernel_rfl) (by decide) ?_
   refine sd_do (i := 16) rfl (by kernel_rfl) rfl (W7.setRow (W5.heap.size) #[.bool (R.getD 0 false), .int .i64 ((c.lg R 0).dep), .slice (some ⟨Y4.heap.size, 0, none⟩) (c.n - 1) (c.n - 1), .int .i64 ((c.lg R (c.n - 1)).arr), .int .i64 0]) (ex_store (cells := #[.bool (R.getD 0 false), .int .i64 ((c.lg R 0).dep), .slice (some ⟨Y4.heap.size, 0, none⟩) (c.n - 1) (c.n - 1), .int .i64 ((c.lg R (c.n - 1)).arr), .int .i64 0]) rfl M8 (by kernel_rfl) (by kernel_rfl) (by kernel_rfl) (by kernel_rfl) (by kernel_rfl)) ⟨(hR.below (HB.grown (grown_row _ _ _) (by omega) (oG (by omega)))), (hL.below (HB.grown (grown_row _ _ _) (by omega) (oG (by omega)))), trivial⟩ ?_ AllReadyH.nil
   obtain ⟨W9, hW⟩ : ∃ W, W7.setRow (W5.heap.size) #[.bool (R.getD 0 false), .int .i64 ((c.lg R 0).dep), .slice (some ⟨Y4.heap.size, 0, none⟩) (c.n - 1) (c.n - 1), .int .i64 ((c.lg R (c.n - 1)).arr), .int .i64 0] = W := ⟨_, rfl⟩
   have hg : W7.grownBy W9 (some (W5.heap.size)) := hW ▸ grown_row _ _ _
   have hq : Cb W9 (W5.heap.size) #[.bool (R.getD 0 false), .int .i64 ((c.lg R 0).dep), .slice (some ⟨Y4.heap.size, 0, none⟩) (c.n - 1) (c.n - 1), .int .i64 ((c.lg R (c.n - 1)).arr), .int .i64 0] 37 := hW ▸ Cb.row M8 _
   rw [hW]
   replace HB := HB.grown hg (by omega) (oG (by omega))
   replace M2 := M2.kept hg (by omega)
   replace HT9 := HT9.kept hg (by omega)
   have z5 := hg.size
   replace M8 := hq
   clear hq hg hW
   refine sd_done (by kernel_rfl) ?_
   refine Yo ?_
   refine ⟨(W5.heap.size, Y4.heap.size), ⟨M8, ?_, M2, by show w.heap.size < W5.heap.size; omega, by show w.heap.size < Y4.heap.size; omega, by show (W5.heap.size : Nat) ≠ Y4.heap.size; omega, HB⟩, fr_less (by kernel_rfl)⟩
   rw [CrT.tmK_zero, ← madeF (z := tmZ.cells) tmRow rfl (by decide)]
   exact HT9
  refine sd_mem (i := 15) rfl (by kernel_rfl) rfl rfl (pt Y4.heap.size 0) (Y4.alloc (.cells nZS 37)) (by kernel_rfl) ⟨((hR.below HB).below (below_alloc Y4 (.cells nZS 37))), ((hL.below HB).below (below_alloc Y4 (.cells nZS 37))), trivial⟩ ?_ AllReadyH.nil
  obtain ⟨W10, hW, hb, hq⟩ := laidA Y4 nZS 37
  rw [hW]
  replace HB := over HB hb
  replace M2 := M2.below hb
  have z3 := hb.size
  have M11 := hq
  have yM11 := hq.lt
  clear hq hb hW
  refine sd_all [8] (by kernel_rfl) (by decide) ?_
  refine sd_mem (i := 8) rfl (by kernel_rfl) rfl rfl (.slice (some ⟨W10.heap.size, 0, none⟩) (c.n - 1) (c.n - 1)) (W10.alloc (.cells (madeCells tmZ.cells ((c.n - 1) * 4)) 61)) (ex_makeF (e := 61) (sz := 4) (z := tmZ) (bytes := 32) rfl (by kernel_rfl) (by kernel_rfl) Tryz.underlying35 (by kernel_rfl) (by decide) (by omega)) ⟨((hR.below HB).below (below_alloc W10 (.cells (madeCells tmZ.cells ((c.n - 1) * 4)) 61))), ((hL.below HB).below (below_alloc W10 (.cells (madeCells tmZ.cells ((c.n - 1) * 4)) 61))), trivial⟩ ?_ AllReadyH.nil
  obtain ⟨W12, hW, hb, hq⟩ := laidA W10 (madeCells tmZ.cells ((c.n - 1) * 4)) 61
  rw [hW]
  replace HB := over HB hb
  replace M2 := M2.below hb
  replace M11 := M11.below hb
  have z4 := hb.size
  have HT9 := hq
  have yHT9 := hq.lt
  clear hq hb hW
  refine Zu 14 rfl rfl (.agg #[.bool (R.getD 0 false), .int .i64 ((c.lg R 0).dep), .slice (some ⟨W10.heap.size, 0, none⟩) (c.n - 1) (c.n - 1), .int .i64 ((c.lg R (c.n - 1)).arr), .int .i64 0]) ⟨(hR.below HB), (hL.below HB), trivial⟩ ?_
  refine sd_all [16] (by kernel_rfl) (by decide) ?_
  refine sd_do (i := 16) rfl (by kernel_rfl) rfl (W12.setRow (Y4.heap.size) #[.bool (R.getD 0 false), .int .i64 ((c.lg R 0).dep), .slice (some ⟨W10.heap.size, 0, none⟩) (c.n - 1) (c.n - 1), .int .i64 ((c.lg R (c.n - 1)).arr), .int .i64 0]) (ex_store (cells := #[.bool (R.getD 0 false), .int .i64 ((c.lg R 0).dep), .slice (some ⟨W10.heap.size, 0, none⟩) (c.n - 1) (c.n - 1), .int .i64 ((c.lg R (c.n - 1)).arr), .int .i64 0]) rfl M11 (by kernel_rfl) (by kernel_rfl) (by kernel_rfl) (by kernel_rfl) (by kernel_rfl)) ⟨(hR.below (HB.grown (grown_row _ _ _) (by omega) (oG (by omega)))), (hL.below (HB.grown (grown_row _ _ _) (by omega) (oG (by omega)))), trivial⟩ ?_ AllReadyH.nil
  obtain ⟨W14, hW⟩ : ∃ W, W12.setRow (Y4.heap.size) #[.bool (R.getD 0 false), .int .i64 ((c.lg R 0).dep), .slice (some ⟨W10.heap.size, 0, none⟩) (c.n - 1) (c.n - 1), .int .i64 ((c.lg R (c.n - 1)).arr), .int .i64 0] = W := ⟨_, rfl⟩
  have hg : W12.grownBy W14 (some (Y4.heap.size)) := hW ▸ grown_row _ _ _
  have hq : Cb W14 (Y4.heap.size) #[.bool (R.getD 0 false), .int .i64 ((c.lg R 0).dep), .slice (some ⟨W10.heap.size, 0, none⟩) (c.n - 1) (c.n - 1), .int .i64 ((c.lg R (c.n - 1)).arr), .int .i64 0] 37 := hW ▸ Cb.row M11 _
  rw [hW]
  replace HB := HB.grown hg (by omega) (oG (by omega))
  replace M2 := M2.kept hg (by omega)
  replace HT9 := HT9.kept hg (by omega)
  have z5 := hg.size
  replace M11 := hq
  clear hq hg hW
  refine sd_done (by kernel_rfl) ?_
  refine Yo ?_
  refine ⟨(Y4.heap.size, W10.heap.size), ⟨M11, ?_, M2, by show w.heap.size < Y4.heap.size; omega, by show w.heap.size < W10.heap.size; omega, by show (Y4.heap.size : Nat) ≠ W10.heap.size; omega, HB⟩, fr_less (by kernel_rfl)⟩
  rw [CrT.tmK_zero, ← madeF (z := tmZ.cells) tmRow rfl (by decide)]
  exact HT9
 rintro ⟨q6, qT⟩ g' wr3 ⟨N6, NT, N4, h61, hT1, h6T, HB⟩
 dsimp only at N6 NT h61 hT1 h6T
 have yN6 := N6.lt
 have yNT := NT.lt
 have yN4 := N4.lt
 refine Ys (Yq (Zv rfl (.slice ol c.n cl) (Zv rfl (.int .i64 ((c.n : Nat) : Int)) (Zv rfl (.int .i64 0) (Yn (Yo (wp_block ?_)))))))
 refine sx_loop (fun i : Nat => [(0, .slice ol c.n cl), (1, .slice oa R.length ca), (4, .pointer (some ⟨w.heap.size, 0, none⟩)), (5, .int .i64 ((c.n - 1 : Nat) : Int)), (6, .pointer (some ⟨q6, 0, none⟩)), (9, .slice ol c.n cl), (10, .int .i64 ((c.n : Nat) : Int)), (11, .int .i64 ((c.n - 1 : Nat) : Int)), (27, .slice ol c.n cl), (28, .int .i64 ((c.n : Nat) : Int)), (29, .int .i64 ((i : Nat) : Int))]) (fun gg i wr => i ≤ c.n ∧ c.n - i ≤ gg ∧ Cb wr q6 #[.bool (R.getD 0 false), .int .i64 (c.lg R 0).dep, .slice (some ⟨qT, 0, none⟩) (c.n - 1) (c.n - 1), .int .i64 (c.lg R (c.n - 1)).arr, .int .i64 (c.mil R i)] 37 ∧ Cb wr qT ((c.tmK R i).flatMap tmE).toArray 61 ∧ Cb wr w.heap.size nZS 37 ∧ Below w.heap.size w wr) (c.n) (0) (by kernel_rfl) ⟨Nat.zero_le _, Nat.le_refl _, N6, NT, N4, HB⟩ ?_
 rintro gg i g' wr15 ⟨hi, hg, N6, NT, N4, HB⟩
 have yN6 := N6.lt
 have yNT := NT.lt
 have yN4 := N4.lt
 have hmb := CrT.mil_bd hc i (by omega) (CrT.run_le hrun (by omega))
 refine Yq ?_
 by_cases C1 : i < c.n
 ·refine Zb rfl (decide (((i : Nat) : Int) < ((c.n : Nat) : Int))) true (decide_eq_true (by omega)) (Yn (Yo (Ys (sx_true (by kernel_rfl) (wp_skip (Yo (Ys (wp_block (Yq (Zv rfl (.int .i64 ((i : Nat) : Int)) (Zw rfl (pt bl (ql + i * 6)) (ex_indexO (q := ql) (m := c.n) (c := cl) (k := i) (s := 6) rfl (by kernel_rfl) ((hL.below HB).oa (k := i) (by omega)) (by kernel_rfl) Tryz.underlying109 (by kernel_rfl) (by omega) (by omega)) (Zw rfl (.agg #[.int .i64 ((c.lg R i).dep), .int .i64 ((c.lg R i).arr), .int .i64 ((c.lg R i).beg), .int .i64 ((c.lg R i).don), .int .i64 ((c.lg R i).sin), .int .i64 ((c.lg R i).mil)]) (ex_loadR rfl ((hL.below HB).range (k := i) (by omega)) (by kernel_rfl) Tryz.underlying113 rfl (by kernel_rfl)) ?_))))))))))))
  obtain ⟨W17, hW, hb, hq⟩ := laidV wr15 nZ6 #[.int .i64 ((c.lg R i).dep), .int .i64 ((c.lg R i).arr), .int .i64 ((c.lg R i).beg), .int .i64 ((c.lg R i).don), .int .i64 ((c.lg R i).sin), .int .i64 ((c.lg R i).mil)] 113
  refine sx_mem (by kernel_rfl) rfl rfl (pt wr15.heap.size 0) (wr15.alloc (.cells nZ6 113)) (by kernel_rfl) ?_
  refine Zv rfl (.int .i64 ((i : Nat) : Int)) ?_
  refine Zs (cells := #[.int .i64 ((c.lg R i).dep), .int .i64 ((c.lg R i).arr), .int .i64 ((c.lg R i).beg), .int .i64 ((c.lg R i).don), .int .i64 ((c.lg R i).sin), .int .i64 ((c.lg R i).mil)]) rfl rfl (Cb.made wr15 nZ6 113) ?_
  rw [hW]
  replace HB := over HB hb
  replace N6 := N6.below hb
  replace N4 := N4.below hb
  replace NT := NT.below hb
  have z2 := hb.size
  have M16 := hq
  have yM16 := hq.lt
  clear hq hb hW
  refine Yn (Yo (Ys ?_))
  have hlm := (CrT.lg_ok hc (Nat.le_refl _) hrun (show i < c.n by omega)).2.2.2.2.2.2.2.2.2.2
  refine Yr (Zv rfl (pt q6 4) (Zw rfl (.int .i64 (c.mil R i)) (el (N6.cell 4 rfl) Tryz.underlying3) (Zv rfl (pt wr15.heap.size 5) (Zw rfl (.int .i64 ((c.lg R i).mil)) (el (M16.cell 5 rfl) Tryz.underlying3) (Zi rfl (IntKind.i64.wrap ((c.mil R i) + (c.lg R i).mil)) (((c.mil R i) + (c.lg R i).mil)) (by rw [IntKind.wrap_i64]; omega) (Zv rfl (pt q6 4) ?_))))))
  refine sx_do (by kernel_rfl) rfl _ (ex_storeC (k := 4) (old := .int .i64 (c.mil R i)) (v := .int .i64 ((c.mil R i) + (c.lg R i).mil)) rfl N6 (by kernel_rfl) (by kernel_rfl) (by kernel_rfl) (by kernel_rfl) (by kernel_rfl)) ?_
  obtain ⟨W18, hW⟩ : ∃ W, W17.setCell ⟨q6, 4, none⟩ (.int .i64 ((c.mil R i) + (c.lg R i).mil)) = W := ⟨_, rfl⟩
  have hg : W17.grownBy W18 (some (q6)) := hW ▸ grown_set _ _ _ _
  have hq : Cb W18 (q6) #[.bool (R.getD 0 false), .int .i64 ((c.lg R 0).dep), .slice (some ⟨qT, 0, none⟩) (c.n - 1) (c.n - 1), .int .i64 ((c.lg R (c.n - 1)).arr), .int .i64 ((c.mil R i) + (c.lg R i).mil)] 37 := hW ▸ N6.set 4 (.int .i64 ((c.mil R i) + (c.lg R i).mil))
  rw [hW]
  replace HB := HB.grown hg (by omega) (oG (by omega))
  replace N4 := N4.kept hg (by omega)
  replace NT := NT.kept hg (by omega)
  replace M16 := M16.kept hg (by omega)
  have z3 := hg.size
  replace N6 := hq
  clear hq hg hW
  refine Yn (Yo (Yq (Zv rfl (.int .i64 ((i : Nat) : Int)) (Zv rfl (.int .i64 ((c.n - 1 : Nat) : Int)) ?_))))
  by_cases C2 : i < c.n - 1
  ·refine Zb rfl (decide (((i : Nat) : Int) < ((c.n - 1 : Nat) : Int))) true (decide_eq_true (by omega)) (Yn (Yo (sx_true (by kernel_rfl) ?_)))
   obtain ⟨Y19, hW⟩ : ∃ W, W18.drew = W := ⟨_, rfl⟩
   have hb : Below W18.heap.size W18 Y19 := hW ▸ below_drew (Below.refl _ _)
   replace HB := over HB hb
   replace N6 := N6.below hb
   replace N4 := N4.below hb
   replace NT := NT.below hb
   replace M16 := M16.below hb
   have z4 := hb.size
   clear hb
   refine sd_begin (fun W => Rw W b o 1 (bF R) R.length oa ∧ Rw W bl ql 6 (fun k => legE (c.lg R k)) c.n ol ∧ True) (by kernel_rfl) (by rw [hW]; exact ⟨(hR.below HB), (hL.below HB), trivial⟩) ?_
   rw [hW]
   clear hW
   refine Zu 0 rfl rfl (pt q6 2) ⟨(hR.below HB), (hL.below HB), trivial⟩ ?_
   refine Zu 2 rfl rfl (.int .i64 ((i : Nat) : Int)) ⟨(hR.below HB), (hL.below HB), trivial⟩ ?_
   refine Zu 3 rfl rfl (pt wr15.heap.size 1) ⟨(hR.below HB), (hL.below HB), trivial⟩ ?_
   refine Zu 5 rfl rfl (pt wr15.heap.size 2) ⟨(hR.below HB), (hL.below HB), trivial⟩ ?_
   refine Zu 7 rfl rfl (.slice ol c.n cl) ⟨(hR.below HB), (hL.below HB), trivial⟩ ?_
   refine Zu 8 rfl rfl (.int .i64 ((i : Nat) : Int)) ⟨(hR.below HB), (hL.below HB), trivial⟩ ?_
   refine Zt 9 rfl rfl (.int .i64 ((i + 1 : Nat) : Int)) (fun w9 _ => ex_int .i64 (IntKind.i64.wrap (((i : Nat) : Int) + 1)) (((i + 1 : Nat) : Int)) (by kernel_rfl) (by rw [IntKind.wrap_i64]; omega)) ⟨(hR.below HB), (hL.below HB), trivial⟩ ?_
   refine Zt 10 rfl rfl (pt bl (ql + (i + 1) * 6)) (fun w9 h9 => ex_indexO (q := ql) (m := c.n) (c := cl) (k := i + 1) (s := 6) rfl (by kernel_rfl) (h9.2.1.oa (k := i + 1) (by omega)) (by kernel_rfl) Tryz.underlying109 (by kernel_rfl) (by omega) (by omega)) ⟨(hR.below HB), (hL.below HB), trivial⟩ ?_
   refine Zu 11 rfl rfl (pt bl (ql + (i + 1) * 6)) ⟨(hR.below HB), (hL.below HB), trivial⟩ ?_
   refine Zt 12 rfl rfl (.int .i64 ((c.lg R (i + 1)).dep)) (fun w9 h9 => el (h9.2.1.cell (k := i + 1) (by omega) 0 rfl) Tryz.underlying3) ⟨(hR.below HB), (hL.below HB), trivial⟩ ?_
   refine Zu 13 rfl rfl (.slice oa R.length ca) ⟨(hR.below HB), (hL.below HB), trivial⟩ ?_
   refine Zu 14 rfl rfl (.int .i64 ((i : Nat) : Int)) ⟨(hR.below HB), (hL.below HB), trivial⟩ ?_
   refine Zt 15 rfl rfl (.int .i64 ((i + 1 : Nat) : Int)) (fun w9 _ => ex_int .i64 (IntKind.i64.wrap (((i : Nat) : Int) + 1)) (((i + 1 : Nat) : Int)) (by kernel_rfl) (by rw [IntKind.wrap_i64]; omega)) ⟨(hR.below HB), (hL.below HB), trivial⟩ ?_
   refine Zt 16 rfl rfl (pt b (o + (i + 1) * 1)) (fun w9 h9 => ex_indexO (q := o) (m := R.length) (c := ca) (k := i + 1) (s := 1) rfl (by kernel_rfl) (h9.1.oa (k := i + 1) (by omega)) (by kernel_rfl) Tryz.underlying31 (by kernel_rfl) (by omega) (by omega)) ⟨(hR.below HB), (hL.below HB), trivial⟩ ?_
   refine Zt 17 rfl rfl (.bool (R.getD (i + 1) false)) (fun w9 h9 => el (h9.1.cell (k := i + 1) (by omega) 0 rfl) Tryz.underlying4) ⟨(hR.below HB), (hL.below HB), trivial⟩ ?_
   refine sd_all [1, 4, 6] (by kernel_rfl) (by decide) ?_
   refine sd_mem (i := 1) rfl (by kernel_rfl) rfl rfl (.slice (some ⟨qT, 0, none⟩) (c.n - 1) (c.n - 1)) Y19 (el (N6.cell 2 rfl) Tryz.underlying35) ⟨(hR.below HB), (hL.below HB), trivial⟩ ?_ ?_
   ·refine sd_all [4, 6] (by kernel_rfl) (by decide) ?_
    refine sd_mem (i := 4) rfl (by kernel_rfl) rfl rfl (.int .i64 ((c.lg R i).arr)) Y19 (el (M16.cell 1 rfl) Tryz.underlying3) ⟨(hR.below HB), (hL.below HB), trivial⟩ ?_ ?_
    ·refine sd_all [6] (by kernel_rfl) (by decide) ?_
     refine sd_mem (i := 6) rfl (by kernel_rfl) rfl rfl (.int .i64 ((c.lg R i).beg)) Y19 (el (M16.cell 2 rfl) Tryz.underlying3) ⟨(hR.below HB), (hL.below HB), trivial⟩ ?_ AllReadyH.nil
     refine Zu 18 rfl rfl (.agg #[.int .i64 ((c.lg R i).arr), .int .i64 ((c.lg R i).beg), .int .i64 ((c.lg R (i + 1)).dep), .bool (R.getD (i + 1) false)]) ⟨(hR.below HB), (hL.below HB), trivial⟩ ?_
     refine Zt 19 rfl rfl (pt qT ((i * 4))) (fun w9 h9 => ex_index rfl qT 0 (c.n - 1) (c.n - 1) i 4 (i * 4) (by kernel_rfl) (by kernel_rfl) Tryz.underlying35 (by kernel_rfl) (by omega) (by omega)) ⟨(hR.below HB), (hL.below HB), trivial⟩ ?_
     refine sd_all [20] (by kernel_rfl) (by decide) ?_
     have hfl : ((c.tmK R i).flatMap tmE).length = (c.n - 1) * 4 := by rw [tmRow.flen, CrT.tmK_len]
     refine sd_do (i := 20) rfl (by kernel_rfl) rfl _ (ex_storeM (p := i * 4) (cells := #[.int .i64 (c.lg R i).arr, .int .i64 (c.lg R i).beg, .int .i64 (c.lg R (i + 1)).dep, .bool (R.getD (i + 1) false)]) rfl NT (by show i * 4 + 4 ≤ ((c.tmK R i).flatMap tmE).toArray.size; rw [List.size_toArray, hfl]; omega) (by kernel_rfl) (by kernel_rfl) (by kernel_rfl) (by kernel_rfl)) ⟨(hR.below (HB.grown (grown_sets qT _ _ _) (by omega) (oG (by omega)))), (hL.below (HB.grown (grown_sets qT _ _ _) (by omega) (oG (by omega)))), trivial⟩ ?_ AllReadyH.nil
     obtain ⟨W20, hW⟩ : ∃ W, Y19.setCells qT (i * 4) [.int .i64 (c.lg R i).arr, .int .i64 (c.lg R i).beg, .int .i64 (c.lg R (i + 1)).dep, .bool (R.getD (i + 1) false)] = W := ⟨_, rfl⟩
     have hg : Y19.grownBy W20 (some qT) := hW ▸ grown_sets _ _ _ _
     have hq : Cb W20 qT (((c.tmK R (i + 1)).flatMap tmE).toArray) 61 := by
      rw [← CrT.tmK_set c R (by omega), ← setN_flat tmRow (c.tm R i) _ i (by rw [CrT.tmK_len]; omega), ← hW]
      exact Cb.setsN [.int .i64 (c.lg R i).arr, .int .i64 (c.lg R i).beg, .int .i64 (c.lg R (i + 1)).dep, .bool (R.getD (i + 1) false)] Y19 (i * 4) _ NT
     rw [hW]
     replace HB := HB.grown hg (by omega) (oG (by omega))
     replace N6 := N6.kept hg (by omega)
     replace N4 := N4.kept hg (by omega)
     have z5 := hg.size
     replace NT := hq
     clear hq hg hW
     refine sd_done (by kernel_rfl) ?_
     refine sx_in ?_
     refine Yo (Yr (Zi rfl (IntKind.i64.wrap (((i : Nat) : Int) + 1)) (((i + 1 : Nat) : Int)) (by rw [IntKind.wrap_i64]; omega) (Zv rfl (.int .i64 ((i + 1 : Nat) : Int)) (Yn (Yo ?_)))))
     exact sx_again (c.n - (i + 1)) (i + 1) (by omega) (by kernel_rfl) ⟨by omega, Nat.le_refl _, N6, by exact NT, N4, HB⟩
    refine sd_mem (i := 6) rfl (by kernel_rfl) rfl rfl (.int .i64 ((c.lg R i).beg)) Y19 (el (M16.cell 2 rfl) Tryz.underlying3) ⟨(hR.below HB), (hL.below HB), trivial⟩ ?_ AllReadyH.nil
    refine sd_all [4] (by kernel_rfl) (by decide) ?_
    refine sd_mem (i := 4) rfl (by kernel_rfl) rfl rfl (.int .i64 ((c.lg R i).arr)) Y19 (el (M16.cell 1 rfl) Tryz.underlying3) ⟨(hR.below HB), (hL.below HB), trivial⟩ ?_ AllReadyH.nil
    refine Zu 18 rfl rfl (.agg #[.int .i64 ((c.lg R i).arr), .int .i64 ((c.lg R i).beg), .int .i64 ((c.lg R (i + 1)).dep), .bool (R.getD (i + 1) false)]) ⟨(hR.below HB), (hL.below HB), trivial⟩ ?_
    refine Zt 19 rfl rfl (pt qT ((i * 4))) (fun w9 h9 => ex_index rfl qT 0 (c.n - 1) (c.n - 1) i 4 (i * 4) (by kernel_rfl) (by kernel_rfl) Tryz.underlying35 (by kernel_rfl) (by omega) (by omega)) ⟨(hR.below HB), (hL.below HB), trivial⟩ ?_
    refine sd_all [20] (by kernel_rfl) (by decide) ?_
    have hfl : ((c.tmK R i).flatMap tmE).length = (c.n - 1) * 4 := by rw [tmRow.flen, CrT.tmK_len]
    refine sd_do (i := 20) rfl (by kernel_rfl) rfl _ (ex_storeM (p := i * 4) (cells := #[.int .i64 (c.lg R i).arr, .int .i64 (c.lg R i).beg, .int .i64 (c.lg R (i + 1)).dep, .bool (R.getD (i + 1) false)]) rfl NT (by show i * 4 + 4 ≤ ((c.tmK R i).flatMap tmE).toArray.size; rw [List.size_toArray, hfl]; omega) (by kernel_rfl) (by kernel_rfl) (by kernel_rfl) (by kernel_rfl)) ⟨(hR.below (HB.grown (grown_sets qT _ _ _) (by omega) (oG (by omega)))), (hL.below (HB.grown (grown_sets qT _ _ _) (by omega) (oG (by omega)))), trivial⟩ ?_ AllReadyH.nil
    obtain ⟨W21, hW⟩ : ∃ W, Y19.setCells qT (i * 4) [.int .i64 (c.lg R i).arr, .int .i64 (c.lg R i).beg, .int .i64 (c.lg R (i + 1)).dep, .bool (R.getD (i + 1) false)] = W := ⟨_, rfl⟩
    have hg : Y19.grownBy W21 (some qT) := hW ▸ grown_sets _ _ _ _
    have hq : Cb W21 qT (((c.tmK R (i + 1)).flatMap tmE).toArray) 61 := by
     rw [← CrT.tmK_set c R (by omega), ← setN_flat tmRow (c.tm R i) _ i (by rw [CrT.tmK_len]; omega), ← hW]
     exact Cb.setsN [.int .i64 (c.lg R i).arr, .int .i64 (c.lg R i).beg, .int .i64 (c.lg R (i + 1)).dep, .bool (R.getD (i + 1) false)] Y19 (i * 4) _ NT
    rw [hW]
    replace HB := HB.grown hg (by omega) (oG (by omega))
    replace N6 := N6.kept hg (by omega)
    replace N4 := N4.kept hg (by omega)
    have z5 := hg.size
    replace NT := hq
    clear hq hg hW
    refine sd_done (by kernel_rfl) ?_
    refine sx_in ?_
    refine Yo (Yr (Zi rfl (IntKind.i64.wrap (((i : Nat) : Int) + 1)) (((i + 1 : Nat) : Int)) (by rw [IntKind.wrap_i64]; omega) (Zv rfl (.int .i64 ((i + 1 : Nat) : Int)) (Yn (Yo ?_)))))
    exact sx_again (c.n - (i + 1)) (i + 1) (by omega) (by kernel_rfl) ⟨by omega, Nat.le_refl _, N6, by exact NT, N4, HB⟩
   refine sd_mem (i := 4) rfl (by kernel_rfl) rfl rfl (.int .i64 ((c.lg R i).arr)) Y19 (el (M16.cell 1 rfl) Tryz.underlying3) ⟨(hR.below HB), (hL.below HB), trivial⟩ ?_ ?_
   ·refine sd_all [1, 6] (by kernel_rfl) (by decide) ?_
    refine sd_mem (i := 1) rfl (by kernel_rfl) rfl rfl (.slice (some ⟨qT, 0, none⟩) (c.n - 1) (c.n - 1)) Y19 (el (N6.cell 2 rfl) Tryz.underlying35) ⟨(hR.below HB), (hL.below HB), trivial⟩ ?_ ?_
    ·refine sd_all [6] (by kernel_rfl) (by decide) ?_
     refine sd_mem (i := 6) rfl (by kernel_rfl) rfl rfl (.int .i64 ((c.lg R i).beg)) Y19 (el (M16.cell 2 rfl) Tryz.underlying3) ⟨(hR.below HB), (hL.below HB), trivial⟩ ?_ AllReadyH.nil
     refine Zu 18 rfl rfl (.agg #[.int .i64 ((c.lg R i).arr), .int .i64 ((c.lg R i).beg), .int .i64 ((c.lg R (i + 1)).dep), .bool (R.getD (i + 1) false)]) ⟨(hR.below HB), (hL.below HB), trivial⟩ ?_
     refine Zt 19 rfl rfl (pt qT ((i * 4))) (fun w9 h9 => ex_index rfl qT 0 (c.n - 1) (c.n - 1) i 4 (i * 4) (by kernel_rfl) (by kernel_rfl) Tryz.underlying35 (by kernel_rfl) (by omega) (by omega)) ⟨(hR.below HB), (hL.below HB), trivial⟩ ?_
     refine sd_all [20] (by kernel_rfl) (by decide) ?_
     have hfl : ((c.tmK R i).flatMap tmE).length = (c.n - 1) * 4 := by rw [tmRow.flen, CrT.tmK_len]
     refine sd_do (i := 20) rfl (by kernel_rfl) rfl _ (ex_storeM (p := i * 4) (cells := #[.int .i64 (c.lg R i).arr, .int .i64 (c.lg R i).beg, .int .i64 (c.lg R (i + 1)).dep, .bool (R.getD (i + 1) false)]) rfl NT (by show i * 4 + 4 ≤ ((c.tmK R i).flatMap tmE).toArray.size; rw [List.size_toArray, hfl]; omega) (by kernel_rfl) (by kernel_rfl) (by kernel_rfl) (by kernel_rfl)) ⟨(hR.below (HB.grown (grown_sets qT _ _ _) (by omega) (oG (by omega)))), (hL.below (HB.grown (grown_sets qT _ _ _) (by omega) (oG (by omega)))), trivial⟩ ?_ AllReadyH.nil
     obtain ⟨W22, hW⟩ : ∃ W, Y19.setCells qT (i * 4) [.int .i64 (c.lg R i).arr, .int .i64 (c.lg R i).beg, .int .i64 (c.lg R (i + 1)).dep, .bool (R.getD (i + 1) false)] = W := ⟨_, rfl⟩
     have hg : Y19.grownBy W22 (some qT) := hW ▸ grown_sets _ _ _ _
     have hq : Cb W22 qT (((c.tmK R (i + 1)).flatMap tmE).toArray) 61 := by
      rw [← CrT.tmK_set c R (by omega), ← setN_flat tmRow (c.tm R i) _ i (by rw [CrT.tmK_len]; omega), ← hW]
      exact Cb.setsN [.int .i64 (c.lg R i).arr, .int .i64 (c.lg R i).beg, .int .i64 (c.lg R (i + 1)).dep, .bool (R.getD (i + 1) false)] Y19 (i * 4) _ NT
     rw [hW]
     replace HB := HB.grown hg (by omega) (oG (by omega))
     replace N6 := N6.kept hg (by omega)
     replace N4 := N4.kept hg (by omega)
     have z5 := hg.size
     replace NT := hq
     clear hq hg hW
     refine sd_done (by kernel_rfl) ?_
     refine sx_in ?_
     refine Yo (Yr (Zi rfl (IntKind.i64.wrap (((i : Nat) : Int) + 1)) (((i + 1 : Nat) : Int)) (by rw [IntKind.wrap_i64]; omega) (Zv rfl (.int .i64 ((i + 1 : Nat) : Int)) (Yn (Yo ?_)))))
     exact sx_again (c.n - (i + 1)) (i + 1) (by omega) (by kernel_rfl) ⟨by omega, Nat.le_refl _, N6, by exact NT, N4, HB⟩
    refine sd_mem (i := 6) rfl (by kernel_rfl) rfl rfl (.int .i64 ((c.lg R i).beg)) Y19 (el (M16.cell 2 rfl) Tryz.underlying3) ⟨(hR.below HB), (hL.below HB), trivial⟩ ?_ AllReadyH.nil
    refine Zu 18 rfl rfl (.agg #[.int .i64 ((c.lg R i).arr), .int .i64 ((c.lg R i).beg), .int .i64 ((c.lg R (i + 1)).dep), .bool (R.getD (i + 1) false)]) ⟨(hR.below HB), (hL.below HB), trivial⟩ ?_
    refine sd_all [1] (by kernel_rfl) (by decide) ?_
    refine sd_mem (i := 1) rfl (by kernel_rfl) rfl rfl (.slice (some ⟨qT, 0, none⟩) (c.n - 1) (c.n - 1)) Y19 (el (N6.cell 2 rfl) Tryz.underlying35) ⟨(hR.below HB), (hL.below HB), trivial⟩ ?_ AllReadyH.nil
    refine Zt 19 rfl rfl (pt qT ((i * 4))) (fun w9 h9 => ex_index rfl qT 0 (c.n - 1) (c.n - 1) i 4 (i * 4) (by kernel_rfl) (by kernel_rfl) Tryz.underlying35 (by kernel_rfl) (by omega) (by omega)) ⟨(hR.below HB), (hL.below HB), trivial⟩ ?_
    refine sd_all [20] (by kernel_rfl) (by decide) ?_
    have hfl : ((c.tmK R i).flatMap tmE).length = (c.n - 1) * 4 := by rw [tmRow.flen, CrT.tmK_len]
    refine sd_do (i := 20) rfl (by kernel_rfl) rfl _ (ex_storeM (p := i * 4) (cells := #[.int .i64 (c.lg R i).arr, .int .i64 (c.lg R i).beg, .int .i64 (c.lg R (i + 1)).dep, .bool (R.getD (i + 1) false)]) rfl NT (by show i * 4 + 4 ≤ ((c.tmK R i).flatMap tmE).toArray.size; rw [List.size_toArray, hfl]; omega) (by kernel_rfl) (by kernel_rfl) (by kernel_rfl) (by kernel_rfl)) ⟨(hR.below (HB.grown (grown_sets qT _ _ _) (by omega) (oG (by omega)))), (hL.below (HB.grown (grown_sets qT _ _ _) (by omega) (oG (by omega)))), trivial⟩ ?_ AllReadyH.nil
    obtain ⟨W23, hW⟩ : ∃ W, Y19.setCells qT (i * 4) [.int .i64 (c.lg R i).arr, .int .i64 (c.lg R i).beg, .int .i64 (c.lg R (i + 1)).dep, .bool (R.getD (i + 1) false)] = W := ⟨_, rfl⟩
    have hg : Y19.grownBy W23 (some qT) := hW ▸ grown_sets _ _ _ _
    have hq : Cb W23 qT (((c.tmK R (i + 1)).flatMap tmE).toArray) 61 := by
     rw [← CrT.tmK_set c R (by omega), ← setN_flat tmRow (c.tm R i) _ i (by rw [CrT.tmK_len]; omega), ← hW]
     exact Cb.setsN [.int .i64 (c.lg R i).arr, .int .i64 (c.lg R i).beg, .int .i64 (c.lg R (i + 1)).dep, .bool (R.getD (i + 1) false)] Y19 (i * 4) _ NT
    rw [hW]
    replace HB := HB.grown hg (by omega) (oG (by omega))
    replace N6 := N6.kept hg (by omega)
    replace N4 := N4.kept hg (by omega)
    have z5 := hg.size
    replace NT := hq
    clear hq hg hW
    refine sd_done (by kernel_rfl) ?_
    refine sx_in ?_
    refine Yo (Yr (Zi rfl (IntKind.i64.wrap (((i : Nat) : Int) + 1)) (((i + 1 : Nat) : Int)) (by rw [IntKind.wrap_i64]; omega) (Zv rfl (.int .i64 ((i + 1 : Nat) : Int)) (Yn (Yo ?_)))))
    exact sx_again (c.n - (i + 1)) (i + 1) (by omega) (by kernel_rfl) ⟨by omega, Nat.le_refl _, N6, by exact NT, N4, HB⟩
   refine sd_mem (i := 6) rfl (by kernel_rfl) rfl rfl (.int .i64 ((c.lg R i).beg)) Y19 (el (M16.cell 2 rfl) Tryz.underlying3) ⟨(hR.below HB), (hL.below HB), trivial⟩ ?_ AllReadyH.nil
   refine sd_all [1, 4] (by kernel_rfl) (by decide) ?_
   refine sd_mem (i := 1) rfl (by kernel_rfl) rfl rfl (.slice (some ⟨qT, 0, none⟩) (c.n - 1) (c.n - 1)) Y19 (el (N6.cell 2 rfl) Tryz.underlying35) ⟨(hR.below HB), (hL.below HB), trivial⟩ ?_ ?_
   ·refine sd_all [4] (by kernel_rfl) (by decide) ?_
    refine sd_mem (i := 4) rfl (by kernel_rfl) rfl rfl (.int .i64 ((c.lg R i).arr)) Y19 (el (M16.cell 1 rfl) Tryz.underlying3) ⟨(hR.below HB), (hL.below HB), trivial⟩ ?_ AllReadyH.nil
    refine Zu 18 rfl rfl (.agg #[.int .i64 ((c.lg R i).arr), .int .i64 ((c.lg R i).beg), .int .i64 ((c.lg R (i + 1)).dep), .bool (R.getD (i + 1) false)]) ⟨(hR.below HB), (hL.below HB), trivial⟩ ?_
    refine Zt 19 rfl rfl (pt qT ((i * 4))) (fun w9 h9 => ex_index rfl qT 0 (c.n - 1) (c.n - 1) i 4 (i * 4) (by kernel_rfl) (by kernel_rfl) Tryz.underlying35 (by kernel_rfl) (by omega) (by omega)) ⟨(hR.below HB), (hL.below HB), trivial⟩ ?_
    refine sd_all [20] (by kernel_rfl) (by decide) ?_
    have hfl : ((c.tmK R i).flatMap tmE).length = (c.n - 1) * 4 := by rw [tmRow.flen, CrT.tmK_len]
    refine sd_do (i := 20) rfl (by kernel_rfl) rfl _ (ex_storeM (p := i * 4) (cells := #[.int .i64 (c.lg R i).arr, .int .i64 (c.lg R i).beg, .int .i64 (c.lg R (i + 1)).dep, .bool (R.getD (i + 1) false)]) rfl NT (by show i * 4 + 4 ≤ ((c.tmK R i).flatMap tmE).toArray.size; rw [List.size_toArray, hfl]; omega) (by kernel_rfl) (by kernel_rfl) (by kernel_rfl) (by kernel_rfl)) ⟨(hR.below (HB.grown (grown_sets qT _ _ _) (by omega) (oG (by omega)))), (hL.below (HB.grown (grown_sets qT _ _ _) (by omega) (oG (by omega)))), trivial⟩ ?_ AllReadyH.nil
    obtain ⟨W24, hW⟩ : ∃ W, Y19.setCells qT (i * 4) [.int .i64 (c.lg R i).arr, .int .i64 (c.lg R i).beg, .int .i64 (c.lg R (i + 1)).dep, .bool (R.getD (i + 1) false)] = W := ⟨_, rfl⟩
    have hg : Y19.grownBy W24 (some qT) := hW ▸ grown_sets _ _ _ _
    have hq : Cb W24 qT (((c.tmK R (i + 1)).flatMap tmE).toArray) 61 := by
     rw [← CrT.tmK_set c R (by omega), ← setN_flat tmRow (c.tm R i) _ i (by rw [CrT.tmK_len]; omega), ← hW]
     exact Cb.setsN [.int .i64 (c.lg R i).arr, .int .i64 (c.lg R i).beg, .int .i64 (c.lg R (i + 1)).dep, .bool (R.getD (i + 1) false)] Y19 (i * 4) _ NT
    rw [hW]
    replace HB := HB.grown hg (by omega) (oG (by omega))
    replace N6 := N6.kept hg (by omega)
    replace N4 := N4.kept hg (by omega)
    have z5 := hg.size
    replace NT := hq
    clear hq hg hW
    refine sd_done (by kernel_rfl) ?_
    refine sx_in ?_
    refine Yo (Yr (Zi rfl (IntKind.i64.wrap (((i : Nat) : Int) + 1)) (((i + 1 : Nat) : Int)) (by rw [IntKind.wrap_i64]; omega) (Zv rfl (.int .i64 ((i + 1 : Nat) : Int)) (Yn (Yo ?_)))))
    exact sx_again (c.n - (i + 1)) (i + 1) (by omega) (by kernel_rfl) ⟨by omega, Nat.le_refl _, N6, by exact NT, N4, HB⟩
   refine sd_mem (i := 4) rfl (by kernel_rfl) rfl rfl (.int .i64 ((c.lg R i).arr)) Y19 (el (M16.cell 1 rfl) Tryz.underlying3) ⟨(hR.below HB), (hL.below HB), trivial⟩ ?_ AllReadyH.nil
   refine Zu 18 rfl rfl (.agg #[.int .i64 ((c.lg R i).arr), .int .i64 ((c.lg R i).beg), .int .i64 ((c.lg R (i + 1)).dep), .bool (R.getD (i + 1) false)]) ⟨(hR.below HB), (hL.below HB), trivial⟩ ?_
   refine sd_all [1] (by kernel_rfl) (by decide) ?_
   refine sd_mem (i := 1) rfl (by kernel_rfl) rfl rfl (.slice (some ⟨qT, 0, none⟩) (c.n - 1) (c.n - 1)) Y19 (el (N6.cell 2 rfl) Tryz.underlying35) ⟨(hR.below HB), (hL.below HB), trivial⟩ ?_ AllReadyH.nil
   refine Zt 19 rfl rfl (pt qT ((i * 4))) (fun w9 h9 => ex_index rfl qT 0 (c.n - 1) (c.n - 1) i 4 (i * 4) (by kernel_rfl) (by kernel_rfl) Tryz.underlying35 (by kernel_rfl) (by omega) (by omega)) ⟨(hR.below HB), (hL.below HB), trivial⟩ ?_
   refine sd_all [20] (by kernel_rfl) (by decide) ?_
   have hfl : ((c.tmK R i).flatMap tmE).length = (c.n - 1) * 4 := by rw [tmRow.flen, CrT.tmK_len]
   refine sd_do (i := 20) rfl (by kernel_rfl) rfl _ (ex_storeM (p := i * 4) (cells := #[.int .i64 (c.lg R i).arr, .int .i64 (c.lg R i).beg, .int .i64 (c.lg R (i + 1)).dep, .bool (R.getD (i + 1) false)]) rfl NT (by show i * 4 + 4 ≤ ((c.tmK R i).flatMap tmE).toArray.size; rw [List.size_toArray, hfl]; omega) (by kernel_rfl) (by kernel_rfl) (by kernel_rfl) (by kernel_rfl)) ⟨(hR.below (HB.grown (grown_sets qT _ _ _) (by omega) (oG (by omega)))), (hL.below (HB.grown (grown_sets qT _ _ _) (by omega) (oG (by omega)))), trivial⟩ ?_ AllReadyH.nil
   obtain ⟨W25, hW⟩ : ∃ W, Y19.setCells qT (i * 4) [.int .i64 (c.lg R i).arr, .int .i64 (c.lg R i).beg, .int .i64 (c.lg R (i + 1)).dep, .bool (R.getD (i + 1) false)] = W := ⟨_, rfl⟩
   have hg : Y19.grownBy W25 (some qT) := hW ▸ grown_sets _ _ _ _
   have hq : Cb W25 qT (((c.tmK R (i + 1)).flatMap tmE).toArray) 61 := by
    rw [← CrT.tmK_set c R (by omega), ← setN_flat tmRow (c.tm R i) _ i (by rw [CrT.tmK_len]; omega), ← hW]
    exact Cb.setsN [.int .i64 (c.lg R i).arr, .int .i64 (c.lg R i).beg, .int .i64 (c.lg R (i + 1)).dep, .bool (R.getD (i + 1) false)] Y19 (i * 4) _ NT
   rw [hW]
   replace HB := HB.grown hg (by omega) (oG (by omega))
   replace N6 := N6.kept hg (by omega)
   replace N4 := N4.kept hg (by omega)
   have z5 := hg.size
   replace NT := hq
   clear hq hg hW
   refine sd_done (by kernel_rfl) ?_
   refine sx_in ?_
   refine Yo (Yr (Zi rfl (IntKind.i64.wrap (((i : Nat) : Int) + 1)) (((i + 1 : Nat) : Int)) (by rw [IntKind.wrap_i64]; omega) (Zv rfl (.int .i64 ((i + 1 : Nat) : Int)) (Yn (Yo ?_)))))
   exact sx_again (c.n - (i + 1)) (i + 1) (by omega) (by kernel_rfl) ⟨by omega, Nat.le_refl _, N6, by exact NT, N4, HB⟩
  refine Zb rfl (decide (((i : Nat) : Int) < ((c.n - 1 : Nat) : Int))) false (decide_eq_false (by omega)) (Yn (Yo (sx_false (by kernel_rfl) (wp_skip ?_))))
  refine sx_in ?_
  refine Yo (Yr (Zi rfl (IntKind.i64.wrap (((i : Nat) : Int) + 1)) (((i + 1 : Nat) : Int)) (by rw [IntKind.wrap_i64]; omega) (Zv rfl (.int .i64 ((i + 1 : Nat) : Int)) (Yn (Yo ?_)))))
  exact sx_again (c.n - (i + 1)) (i + 1) (by omega) (by kernel_rfl) ⟨by omega, Nat.le_refl _, N6, by rw [CrT.tmK_over c R (show c.n - 1 ≤ i + 1 by omega), ← CrT.tmK_over c R (show c.n - 1 ≤ i by omega)]; exact NT, N4, HB⟩
 refine Zb rfl (decide (((i : Nat) : Int) < ((c.n : Nat) : Int))) false (decide_eq_false (by omega)) (Yn (Yo (Ys (sx_false (by kernel_rfl) (wp_exit ?_)))))
 refine sx_es ?_
 refine sx_es ?_
 refine sx_out ?_
 refine Yo (Yq (Zw rfl (.agg #[.bool (R.getD 0 false), .int .i64 ((c.lg R 0).dep), .slice (some ⟨qT, 0, none⟩) (c.n - 1) (c.n - 1), .int .i64 ((c.lg R (c.n - 1)).arr), .int .i64 (c.mil R i)]) (ex_load rfl N6 (by kernel_rfl) Tryz.underlying37 rfl (by kernel_rfl)) ?_))
 refine Zr (cells := #[.bool (R.getD 0 false), .int .i64 ((c.lg R 0).dep), .slice (some ⟨qT, 0, none⟩) (c.n - 1) (c.n - 1), .int .i64 ((c.lg R (c.n - 1)).arr), .int .i64 (c.mil R i)]) rfl rfl N4 (fun W26 hg hq => ?_)
 replace HB := HB.grown hg (by omega) (oG (by omega))
 replace NT := NT.kept hg (by omega)
 have z2 := hg.size
 replace N4 := hq
 clear hq hg
 refine Yn (Yo (wp_ret ?_))
 have hi9 : i = c.n := by omega
 subst hi9
 rw [CrT.tmK_over c R (by omega)] at NT
 have hl9 : (c.sheet R).T.length = c.n - 1 := by show (c.tms R).length = _; unfold CrT.tms; simp
 have hrt := Rw.of_flat tmRow tm0 NT
 exact sx_retc N4 rfl rfl (by kernel_rfl) Tryz.underlying37 rfl (by kernel_rfl) ⟨some ⟨qT, 0, none⟩, c.n - 1, qT, 0, by unfold shC; rw [hl9]; rfl, hrt, fun _ _ => by omega, HB⟩

end Go.Proofs.YtomebalolmabnaaGreatDoor.T



/-! The walk of drive.Run (by gen_df.py). -/
namespace Go.Proofs.YtomebalolmabnaaGreatDoor.T
open Go.RowKit
set_option maxRecDepth 8000
attribute [local irreducible] wpList Code.wp wpAnyH

def runE (x : InT) (ty st : Int) (l : List (Int × Bool)) (R : List Bool) : Int := if posD x.tl x.ol ty st l = true ∧ R.length = l.length + 1 then (crs x ty st l).run R (l.length + 1) else 2
def runS (x : InT) (ty st : Int) (l : List (Int × Bool)) (R : List Bool) : ShT := if runE x ty st l R = 0 then (crs x ty st l).sheet R else sh0
theorem crs_n (x : InT) (ty st : Int) (l : List (Int × Bool)) : (crs x ty st l).n = l.length + 1 := by
 show (crsS _ _ _).length - 1 = _
 rw [crsS_len]
 omega
theorem runE_no {x : InT} {ty st : Int} {l : List (Int × Bool)} {R : List Bool} (h : posD x.tl x.ol ty st l = false ∨ R.length ≠ l.length + 1) : runE x ty st l R = 2 ∧ runS x ty st l R = sh0 := by
 have e : runE x ty st l R = 2 := by
  unfold runE
  rw [if_neg]
  rintro ⟨h1, h2⟩
  rcases h with h | h
  ·rw [h] at h1; cases h1
  ·exact h h2
 exact ⟨e, by unfold runS; rw [e, if_neg (by decide)]⟩
theorem runE_yes {x : InT} {ty st : Int} {l : List (Int × Bool)} {R : List Bool} (h1 : posD x.tl x.ol ty st l = true) (h2 : R.length = l.length + 1) : runE x ty st l R = (crs x ty st l).run R (crs x ty st l).n := by
 unfold runE
 rw [if_pos ⟨h1, h2⟩, crs_n]
theorem rw_sh0 (w : World) : Rw w 0 0 4 (fun k => tmE (sh0.T.getD k tm0)) sh0.T.length none := fun i hi => absurd hi (Nat.not_lt_zero i)
def ShP (S : ShT) (e : Int) (w : World) (E : Ending) (w' : World) : Prop := ∃ o9 c9 b9 q9, E = .returned (.tuple #[.agg (shC S o9 c9), .int .i64 e]) ∧ Rw w' b9 q9 4 (fun k => tmE (S.T.getD k tm0)) S.T.length o9 ∧ (∀ i, i < S.T.length → w.heap.size ≤ b9) ∧ Below w.heap.size w w'
theorem run_yes (c : CrT) (hc : c.Ok) (K : CV) (q : Nat) (w : World) (hK : Crw w c K q) (R : List Bool) (hRl : R.length = c.n) (oa : Option Addr) (ca b o : Nat) (hR : Rw w b o 1 (bF R) R.length oa) (h0 : c.run R c.n = 0) : Calls Tryz.prog 73 #[.pointer (some ⟨q, 0, none⟩), .slice oa R.length ca] w fun e w' => ∃ ol cl bl ql, e = .returned (.tuple #[.slice ol c.n cl, .int .i64 0]) ∧ Rw w' bl ql 6 (fun k => legE (c.lg R k)) c.n ol ∧ Below w.heap.size w w' :=
 (run_n c hc K q w hK R hRl oa ca b o hR).mono fun e W' ⟨ol, cl, bl, ql, he, hr, hb⟩ => by
  have eA : c.legsA R = c.legs R c.n := if_pos h0
  rw [eA, CrT.legs_len] at he hr
  exact ⟨ol, cl, bl, ql, by rw [he, h0], hr.ext (fun i hi => by show legE ((c.legs R c.n).getD i leg0) = legE (c.lg R i); rw [CrT.legs_at _ _ hi]), hb⟩
theorem run_no (c : CrT) (hc : c.Ok) (K : CV) (q : Nat) (w : World) (hK : Crw w c K q) (R : List Bool) (hRl : R.length = c.n) (oa : Option Addr) (ca b o : Nat) (hR : Rw w b o 1 (bF R) R.length oa) (h0 : ¬ c.run R c.n = 0) : Calls Tryz.prog 73 #[.pointer (some ⟨q, 0, none⟩), .slice oa R.length ca] w fun e w' => ∃ ol cl, e = .returned (.tuple #[.slice ol 0 cl, .int .i64 (c.run R c.n)]) ∧ Below w.heap.size w w' :=
 (run_n c hc K q w hK R hRl oa ca b o hR).mono fun e W' ⟨ol, cl, bl, ql, he, hr, hb⟩ => by
  have eA : c.legsA R = [] := if_neg h0
  rw [eA] at he
  exact ⟨ol, cl, he, hb⟩
end Go.Proofs.YtomebalolmabnaaGreatDoor.T



/-! The map of what is best at each halt; slices cut out of slices. -/
namespace Go.Proofs.YtomebalolmabnaaGreatDoor.T
open Go.RowKit Go.WideElems
set_option maxRecDepth 8000

structure ChT where
 p : Bool
 e : Int
 r : Bool
 f : Bool
deriving DecidableEq
section
variable {P : Program} {n : Nat} {g : Nat → Value} {l : List (Nat × Value)} {w : World} {o : Oper}
theorem add_addr (b q j : Nat) : (⟨b, q, none⟩ : Addr).add j = ⟨b, q + j, none⟩ := by
 unfold Addr.add
 split
 ·rename_i h7; subst h7; rfl
 ·rfl
end
end Go.Proofs.YtomebalolmabnaaGreatDoor.T



/-! The walks of drive: the arcs of a course alone (by gen_di.py). -/
namespace Go.Proofs.YtomebalolmabnaaGreatDoor.T
open Go.RowKit
set_option maxRecDepth 8000
attribute [local irreducible] wpList Code.wp wpAnyH

def CrT.goesK (c : CrT) (f t : Int) (k : Nat) : Bool := (List.range k).any fun i => decide ((c.S.getD i st0).p = f) && decide ((c.S.getD (i + 1) st0).p = t)
def CrT.goesB (c : CrT) (f t : Int) : Bool := c.goesK f t c.n
abbrev ArX := ArcT × (Option Addr × Nat) × (Option Addr × Nat)
def arE (x : ArX) : List Value := [.int .i64 x.1.fr, .int .i64 x.1.to, .int .i64 x.1.prof, .int .i64 x.1.miles, .slice x.2.1.1 x.1.tr.length x.2.1.2, .slice x.2.2.1 x.1.sl.length x.2.2.2]
theorem Ol.rwB {α : Type} {E : α → List Value} {sz : Nat} {e : TypeId} {B : Nat} {w : World} {L : List α} (hr : Row E sz) (d : α) {oa : Option Addr} {c : Nat} (h : Ol E e sz B w (.slice oa L.length c) L) : ∃ b o, Rw w b o sz (fun k => E (L.getD k d)) L.length oa ∧ ∀ i, i < L.length → B ≤ b := by
 obtain ⟨b, o, hb⟩ := Ol.rw hr d h
 refine ⟨b, o, hb, fun i hi => ?_⟩
 have h1 := (hb i hi).1
 subst h1
 exact (h.blk rfl).1
def CrT.keepA (c : CrT) (a : ArcT) : Bool := decide (a.prof = c.ty.prof) && c.goesB a.fr a.to
def CrT.few (c : CrT) : List ArcT := c.al.filter c.keepA
end Go.Proofs.YtomebalolmabnaaGreatDoor.T



/-! The walk of drive: the rests that are found (by gen_dk.py). -/
namespace Go.Proofs.YtomebalolmabnaaGreatDoor.T
open Go.RowKit
set_option maxRecDepth 8000
attribute [local irreducible] wpList Code.wp wpAnyH

def boE (r : Bool) : List Value := [.bool r]
theorem boRow : Row boE 1 := ⟨fun _ => rfl, fun x v hv => by
 simp only [boE, List.mem_cons, List.not_mem_nil, or_false] at hv
 subst hv; rfl⟩
theorem ex_sliceH {P : Program} {o : Oper} {n : Nat} {g : Nat → Value} {l : List (Nat × Value)} {w : World} {ty : TypeId} {x y : Operand} (ho : o.op = .slice ty x none (some y) none) {b q m c k s : Nat} (hx : ev n g l x = .slice (some ⟨b, q, none⟩) m c) (hy : ev n g l y = .int .i64 (k : Int)) (hk : k ≤ c) {e : TypeId}
  (hu : P.underlying ty = some (.slice e)) (hs : (P.info? e).map (·.size) = some s) : (execOp (ev n g l) o).run P w = .ok (.value (.slice (some ⟨b, q, none⟩) k c)) w := by
 have h2 : (sizeOf e).run P w = .ok s w := by
  cases hi : P.info? e with
  | none => rw [hi] at hs; cases hs
  | some i => rw [hi] at hs; simp only [Option.map_some, Option.some.injEq] at hs; simp [sizeOf, typeInfo, hi, hs]
 have hr : (Instr.sliceAt ty (.slice (some ⟨b, q, none⟩) m c) none (some (.int .i64 (k : Int))) none).run P w = .ok (.slice (some ⟨b, q, none⟩) k c) w := by
  unfold Instr.sliceAt Instr.slice Instr.sliceBounds Instr.sliceBound
  simp [asIntOf, Sem.run_bind, Sem.run_pure, Result.andThen_ok, run_underlying hu w, h2, Int.toNat_natCast]
  rw [if_pos hk]
  by_cases h0 : c = 0
  ·simp [h0]
  ·simp [h0, add_addr]
 unfold execOp
 simp only [ho, hx, hy, Option.map_some, Option.map_none, hr, Sem.run_bind, Sem.run_pure, Result.andThen_ok]
end Go.Proofs.YtomebalolmabnaaGreatDoor.T



