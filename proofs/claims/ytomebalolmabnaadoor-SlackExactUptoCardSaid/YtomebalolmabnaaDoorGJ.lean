/-
  DERIVED. GJ: a part of the base of layer 13 (made by pack.py).
-/
import Derived.Test.YtomebalolmabnaaDoorGA
import Derived.Test.YtomebalolmabnaaDoorJb
/-! The walks of slack: mosts, slacks (by gen_jc.py). -/
namespace Go.Proofs.YtomebalolmabnaaDoor.T
open Go.RowKit
set_option maxRecDepth 8000
attribute [local irreducible] wpList Code.wp wpAnyH

namespace CrT
def moK (c : CrT) (R : List Bool) (k j : Nat) : List Int := (List.range j).map fun i => c.mo R (c.n - 1 - k) k i
theorem moK_len (c : CrT) (R : List Bool) (k j : Nat) : (c.moK R k j).length = j := by unfold moK; simp
theorem moK_succ (c : CrT) (R : List Bool) (k j : Nat) : c.moK R k (j + 1) = c.moK R k j ++ [c.mo R (c.n - 1 - k) k j] := by unfold moK; rw [List.range_succ, List.map_append]; rfl
def slK (c : CrT) (R : List Bool) (i : Nat) : List Int := (List.range c.n).map fun j => if i ≤ j then (c.sl R j : Int) else 0
def slM (c : CrT) (R : List Bool) (k j : Nat) : List Int := (List.range c.n).map fun i => if i = k then (j : Int) else if k < i then (c.sl R i : Int) else 0
def slL (c : CrT) (R : List Bool) : List Int := (List.range c.n).map fun j => (c.sl R j : Int)
theorem slK_len (c : CrT) (R : List Bool) (i : Nat) : (c.slK R i).length = c.n := by unfold slK; simp
theorem slM_len (c : CrT) (R : List Bool) (k j : Nat) : (c.slM R k j).length = c.n := by unfold slM; simp
theorem slL_len (c : CrT) (R : List Bool) : (c.slL R).length = c.n := by unfold slL; simp
theorem slL_at {c : CrT} {R : List Bool} {k : Nat} (h : k < c.n) : (c.slL R).getD k 0 = (c.sl R k : Int) := by unfold slL; rw [List.getD_eq_getElem?_getD, List.getElem?_map, List.getElem?_range h]; rfl
theorem slM_at {c : CrT} {R : List Bool} {k j : Nat} (h : k < c.n) : (c.slM R k j).getD k 0 = ((j : Nat) : Int) := by
 unfold slM
 rw [List.getD_eq_getElem?_getD, List.getElem?_map, List.getElem?_range h]
 show (if k = k then (j : Int) else _) = _
 rw [if_pos rfl]
theorem slK_n (c : CrT) (R : List Bool) : c.slK R c.n = List.replicate c.n 0 := by
 unfold slK
 rw [List.eq_replicate_iff]
 refine ⟨by simp, fun x hx => ?_⟩
 obtain ⟨j, hj, rfl⟩ := List.mem_map.1 hx
 rw [if_neg (by have := List.mem_range.1 hj; omega)]
theorem slK_zero (c : CrT) (R : List Bool) : c.slK R 0 = c.slL R := by
 unfold slK slL
 exact List.map_congr_left fun j _ => by rw [if_pos (Nat.zero_le _)]
theorem slM_zero (c : CrT) (R : List Bool) (k : Nat) : c.slM R k 0 = c.slK R (k + 1) := by
 unfold slK slM
 refine List.map_congr_left fun j _ => ?_
 by_cases h : j = k
 ·rw [if_pos h, if_neg (by omega)]; rfl
 ·rw [if_neg h]
  by_cases h2 : k < j
  ·rw [if_pos h2, if_pos (by omega)]
  ·rw [if_neg h2, if_neg (by omega)]
theorem slM_all (c : CrT) (R : List Bool) (k : Nat) : c.slM R k (c.sl R k) = c.slK R k := by
 unfold slK slM
 refine List.map_congr_left fun j _ => ?_
 by_cases h : j = k
 ·rw [if_pos h, if_pos (by omega), h]
 ·rw [if_neg h]
  by_cases h2 : k < j
  ·rw [if_pos h2, if_pos (by omega)]
  ·rw [if_neg h2, if_neg (by omega)]
theorem slM_set {c : CrT} {R : List Bool} {k j : Nat} (h : k < c.n) : (c.slM R k j).set k ((j : Int) + 1) = c.slM R k (j + 1) := by
 apply ext_getD (d := 0)
 ·rw [List.length_set, slM_len, slM_len]
 intro i hi
 rw [List.length_set, slM_len] at hi
 have e : ∀ m, (c.slM R k m).getD i 0 = if i = k then (m : Int) else if k < i then (c.sl R i : Int) else 0 := fun m => by
  unfold slM
  rw [List.getD_eq_getElem?_getD, List.getElem?_map, List.getElem?_range hi]
  rfl
 rw [e, List.getD_eq_getElem?_getD, List.getElem?_set]
 by_cases h1 : k = i
 ·subst h1
  rw [if_pos rfl, if_pos (by rw [slM_len]; exact h), if_pos rfl]
  rfl
 ·have h2 : ¬ i = k := fun h => h1 h.symm
  rw [if_neg h1, ← List.getD_eq_getElem?_getD, e, if_neg h2, if_neg h2]
end CrT
theorem smosts_n (c : CrT) (hc : c.Ok) (R : List Bool) (hrun : c.run R c.n = 0) (K : SV) (q : Nat) (w : World) (hK : Scr w c R K q) (k : Nat) (hk : k < c.n) (oL : Option Addr) (nL cL bL qL : Nat) (hL : k + 1 < c.n → nL = (c.moL R (k + 1)).length ∧ Rw w bL qL 1 (fun k1 => inE ((c.moL R (k + 1)).getD k1 0)) (c.moL R (k + 1)).length oL) : Calls Tryd.prog 43 #[.pointer (some ⟨q, 0, none⟩), .int .i64 ((k : Nat) : Int), .slice oL nL cL] w fun e w' => ∃ o9 c9 b9 q9, e = .returned (.slice o9 (c.moL R k).length c9) ∧ Rw w' b9 q9 1 (fun k1 => inE ((c.moL R k).getD k1 0)) (c.moL R k).length o9 ∧ (∀ i, i < (c.moL R k).length → w.heap.size ≤ b9) ∧ Below w.heap.size w w' := by
 have hla := CrT.lg_arr hc hrun hk
 have hlk : c.ln R k = ((c.S.getD (k + 1) st0).c - (c.lg R k).arr + 1).toNat := rfl
 have hst := hc.st (k + 1) (by unfold CrT.n at hk; omega)
 have HB : Below w.heap.size w w := Below.refl _ _
 have hB := hK.blk
 have yhB := hB.lt
 have hSt := hK.st
 have hTm := hK.tm
 have hSn := hK.sn
 have hln := hc.len
 have hrst := hc.rst
 have hdrv := hc.drv
 have hrd := hc.rd
 have hcn9 : c.n = c.S.length - 1 := rfl
 refine sx_enter Tryd.func43 rfl [(0, .pointer (some ⟨q, 0, none⟩)), (1, .int .i64 ((k : Nat) : Int)), (2, .slice oL nL cL)] (by kernel_rfl) ?_
 refine wp_seq (wp_region_lit ?_)
 refine Zv rfl (.slice none 0 0) ?_
 refine wpList_nil (sx_norm (wp_seq (wp_region_lit ?_)))
 refine Zv rfl (.slice none 0 0) ?_
 refine wpList_nil (sx_norm (wp_seq (wp_seq (wp_region_lit ?_))))
 refine Zv rfl (.int .i64 0) ?_
 refine wpList_nil (sx_norm (wp_block ?_))
 have zw0 := HB.size
 refine sx_loop (fun x9 : Nat × Value => [(0, .pointer (some ⟨q, 0, none⟩)), (1, .int .i64 ((k : Nat) : Int)), (2, .slice oL nL cL), (6, .slice none 0 0), (7, x9.2), (11, .int .i64 ((x9.1 : Nat) : Int))]) (fun gg x9 wr => x9.1 ≤ c.ln R k ∧ c.ln R k - x9.1 ≤ gg ∧ Ol inE 3 1 w.heap.size wr x9.2 (c.moK R k x9.1) ∧ Below w.heap.size w wr) (c.ln R k) ((0, .slice none 0 0)) (by kernel_rfl) ⟨Nat.zero_le _, Nat.le_refl _, Ol.nil _ _ _, HB⟩ ?_
 rintro gg ⟨j, v7⟩ g' wr1 ⟨hj, hg, HG, hbl⟩
 dsimp only at hj hg HG hbl
 refine wp_seq ?_
 have HB := hbl
 have zwl := hbl.size
 have hB := hK.blk.below hbl
 have yhB9 := hB.lt
 refine wp_region_lit ?_
 refine Zb rfl (decide (((j : Nat) : Int) < 16384)) true (decide_eq_true (by omega)) ?_
 refine wpList_nil (sx_norm (wp_seq ?_))
 refine sx_true (by kernel_rfl) ?_
 refine wp_skip (sx_norm (wp_seq (wp_block (wp_seq (wp_region_lit ?_)))))
 refine Zv rfl (.int .i64 ((j : Nat) : Int)) ?_
 refine Zv rfl (.int .i64 ((j : Nat) : Int)) ?_
 refine wpList_nil (sx_norm (wp_seq ?_))
 obtain ⟨Y2, hW⟩ : ∃ W, wr1.drew = W := ⟨_, rfl⟩
 have hb : Below wr1.heap.size wr1 Y2 := hW ▸ below_drew (Below.refl _ _)
 replace HB := over HB hb
 replace hB := hB.below hb
 replace HG := HG.below hb
 have z1 := hb.size
 clear hb
 refine sd_begin (fun W => Cb W (q) #[.slice K.o0 c.pl.length K.c0, .slice K.o1 c.al.length K.c1, .string c.ty.name, .int .i64 c.ty.count, .int .i64 c.ty.fr, .int .i64 c.ty.to, .slice K.va c.ty.cap.length K.vb, .int .i64 c.ty.skills, .int .i64 c.ty.prof, .int .i64 c.ty.opn, .int .i64 c.ty.cls, .int .i64 c.ty.drv, .int .i64 c.ty.rst, .int .i64 c.ty.fix, .int .i64 c.ty.pm, .int .i64 c.ty.pt, .bool (R.getD 0 false), .int .i64 ((c.lg R 0).dep), .slice K.o3 (c.n - 1) K.c3, .int .i64 ((c.lg R (c.n - 1)).arr), .int .i64 (c.mil R c.n), .slice K.o2 c.n K.c2, .slice K.o4 c.n K.c4] 102 ∧ Rw W K.bs K.os 4 (fun k => sF c.S (k + 1)) c.n K.o2 ∧ Rw W K.bt K.ot 4 (fun k => tmE (c.tm R k)) (c.n - 1) K.o3 ∧ Rw W K.bn K.on 1 (fun k => inE (c.lg R k).sin) c.n K.o4 ∧ True) (by kernel_rfl) (by rw [hW]; exact ⟨hB, (hSt.below HB), (hTm.below HB), (hSn.below HB), trivial⟩) ?_
 rw [hW]
 clear hW
 refine Zu 0 rfl rfl (.pointer (some ⟨q, 0, none⟩)) ⟨hB, (hSt.below HB), (hTm.below HB), (hSn.below HB), trivial⟩ ?_
 refine Zu 1 rfl rfl (.pointer (some ⟨q, 0, none⟩)) ⟨hB, (hSt.below HB), (hTm.below HB), (hSn.below HB), trivial⟩ ?_
 refine Zu 2 rfl rfl (.pointer (some ⟨q, 21, none⟩)) ⟨hB, (hSt.below HB), (hTm.below HB), (hSn.below HB), trivial⟩ ?_
 refine Zt 3 rfl rfl (.slice K.o2 c.n K.c2) (fun w9 h9 => el (h9.1.cell 21 rfl) Tryd.underlying99) ⟨hB, (hSt.below HB), (hTm.below HB), (hSn.below HB), trivial⟩ ?_
 refine Zu 4 rfl rfl (.int .i64 ((k : Nat) : Int)) ⟨hB, (hSt.below HB), (hTm.below HB), (hSn.below HB), trivial⟩ ?_
 refine Zt 5 rfl rfl (.pointer (some ⟨K.bs, K.os + k * 4, none⟩)) (fun w9 h9 => ex_indexO (q := K.os) (m := c.n) (c := K.c2) (k := k) (s := 4) rfl (by kernel_rfl) (h9.2.1.oa (k := k) (by omega)) (by kernel_rfl) Tryd.underlying99 (by kernel_rfl) (by omega) (by omega)) ⟨hB, (hSt.below HB), (hTm.below HB), (hSn.below HB), trivial⟩ ?_
 refine Zt 6 rfl rfl (.agg #[.int .i64 ((c.S.getD (k + 1) st0).p), .int .i64 ((c.S.getD (k + 1) st0).o), .int .i64 ((c.S.getD (k + 1) st0).c), .int .i64 ((c.S.getD (k + 1) st0).s)]) (fun w9 h9 => ex_loadR rfl (h9.2.1.range (k := k) (by omega)) (by kernel_rfl) Tryd.underlying91 rfl (by kernel_rfl)) ⟨hB, (hSt.below HB), (hTm.below HB), (hSn.below HB), trivial⟩ ?_
 refine Zu 7 rfl rfl (.pointer (some ⟨q, 0, none⟩)) ⟨hB, (hSt.below HB), (hTm.below HB), (hSn.below HB), trivial⟩ ?_
 refine Zu 8 rfl rfl (.int .i64 ((k : Nat) : Int)) ⟨hB, (hSt.below HB), (hTm.below HB), (hSn.below HB), trivial⟩ ?_
 refine Zu 10 rfl rfl (.int .i64 ((j : Nat) : Int)) ⟨hB, (hSt.below HB), (hTm.below HB), (hSn.below HB), trivial⟩ ?_
 refine sd_all [9] (by kernel_rfl) (by decide) ?_
 refine sd_call (i := 9) rfl (by kernel_rfl) rfl rfl (sarr_n c hc R hrun K q Y2 (hK.below HB) k (by omega)) (by kernel_rfl) ?_ AllReadyH.nil
 rintro e w9 ⟨rfl, rfl⟩
 refine ⟨_, rfl, ⟨hB, (hSt.below HB), (hTm.below HB), (hSn.below HB), trivial⟩, ?_⟩
 refine Zt 11 rfl rfl (.int .i64 ((c.lg R k).arr + ((j : Nat) : Int))) (fun w9 _ => ex_int .i64 (IntKind.i64.wrap ((c.lg R k).arr + ((j : Nat) : Int))) (((c.lg R k).arr + ((j : Nat) : Int))) (by kernel_rfl) (by rw [IntKind.wrap_i64]; omega)) ⟨hB, (hSt.below HB), (hTm.below HB), (hSn.below HB), trivial⟩ ?_
 refine sd_all [12] (by kernel_rfl) (by decide) ?_
 by_cases C1 : (c.S.getD (k + 1) st0).c < ((c.lg R k).arr + ((j : Nat) : Int))
 ·refine sd_call (i := 12) rfl (by kernel_rfl) rfl rfl ((by have h8 := begin_n (c.S.getD (k + 1) st0).p (c.S.getD (k + 1) st0).o (c.S.getD (k + 1) st0).c (c.S.getD (k + 1) st0).s ((c.lg R k).arr + ((j : Nat) : Int)) (by omega) Y2; rw [if_pos C1, if_pos C1] at h8; exact h8)) (by kernel_rfl) ?_ AllReadyH.nil
  rintro e W3 ⟨rfl, hb⟩
  replace HB := over HB hb
  replace hB := hB.below hb
  replace HG := HG.below hb
  have z2 := hb.size
  clear hb
  refine ⟨_, rfl, ⟨hB, (hSt.below HB), (hTm.below HB), (hSn.below HB), trivial⟩, ?_⟩
  refine Zu 13 rfl rfl (.tuple #[.int .i64 0, .int .i64 14]) ⟨hB, (hSt.below HB), (hTm.below HB), (hSn.below HB), trivial⟩ ?_
  refine Zu 14 rfl rfl (.int .i64 0) ⟨hB, (hSt.below HB), (hTm.below HB), (hSn.below HB), trivial⟩ ?_
  refine Zu 15 rfl rfl (.int .i64 14) ⟨hB, (hSt.below HB), (hTm.below HB), (hSn.below HB), trivial⟩ ?_
  refine Zu 16 rfl rfl (.int .i64 0) ⟨hB, (hSt.below HB), (hTm.below HB), (hSn.below HB), trivial⟩ ?_
  refine Zu 17 rfl rfl (.int .i64 14) ⟨hB, (hSt.below HB), (hTm.below HB), (hSn.below HB), trivial⟩ ?_
  refine sd_done (by kernel_rfl) ?_
  refine sx_norm (wp_seq (wp_seq (wp_region_lit ?_)))
  refine Zv rfl (.int .i64 14) ?_
  refine Zv rfl (.bool true) ?_
  refine wpList_nil (sx_norm ?_)
  refine sx_true (by kernel_rfl) ?_
  refine wp_exit ?_
  refine sx_es ?_
  refine sx_by rfl ?_
  refine sx_es ?_
  refine sx_es ?_
  refine sx_out ?_
  refine sx_norm (wp_seq (wp_region_lit ?_))
  refine Zv rfl (v7) ?_
  refine Zv rfl (v7) ?_
  refine wpList_nil (sx_norm (wp_ret ?_))
  have hj9 : j = c.ln R k := by omega
  subst hj9
  have e9 : c.moK R k (c.ln R k) = c.moL R k := rfl
  rw [e9] at HG
  obtain ⟨o9, c9, rfl⟩ := Ol.form HG
  obtain ⟨b9, q9, hr9, hb9⟩ := Ol.rwB inRow 0 HG
  refine sx_ret1 (.slice o9 (c.moL R k).length c9) rfl rfl (by kernel_rfl) ⟨o9, c9, b9, q9, rfl, hr9, hb9, HB⟩
 refine sd_call (i := 12) rfl (by kernel_rfl) rfl rfl ((show Calls Tryd.prog 62 _ Y2 (fun e w' => e = .returned (.tuple #[.int .i64 (c.bgA k ((c.lg R k).arr + ((j : Nat) : Int))), .int .i64 0]) ∧ Below Y2.heap.size Y2 w') from by have h8 := begin_n (c.S.getD (k + 1) st0).p (c.S.getD (k + 1) st0).o (c.S.getD (k + 1) st0).c (c.S.getD (k + 1) st0).s ((c.lg R k).arr + ((j : Nat) : Int)) (by omega) Y2; rw [if_neg C1, if_neg C1] at h8; exact h8)) (by kernel_rfl) ?_ AllReadyH.nil
 rintro e W4 ⟨rfl, hb⟩
 replace HB := over HB hb
 replace hB := hB.below hb
 replace HG := HG.below hb
 have z2 := hb.size
 clear hb
 refine ⟨_, rfl, ⟨hB, (hSt.below HB), (hTm.below HB), (hSn.below HB), trivial⟩, ?_⟩
 refine Zu 13 rfl rfl (.tuple #[.int .i64 (c.bgA k ((c.lg R k).arr + ((j : Nat) : Int))), .int .i64 0]) ⟨hB, (hSt.below HB), (hTm.below HB), (hSn.below HB), trivial⟩ ?_
 refine Zu 14 rfl rfl (.int .i64 (c.bgA k ((c.lg R k).arr + ((j : Nat) : Int)))) ⟨hB, (hSt.below HB), (hTm.below HB), (hSn.below HB), trivial⟩ ?_
 refine Zu 15 rfl rfl (.int .i64 0) ⟨hB, (hSt.below HB), (hTm.below HB), (hSn.below HB), trivial⟩ ?_
 refine Zu 16 rfl rfl (.int .i64 (c.bgA k ((c.lg R k).arr + ((j : Nat) : Int)))) ⟨hB, (hSt.below HB), (hTm.below HB), (hSn.below HB), trivial⟩ ?_
 refine Zu 17 rfl rfl (.int .i64 0) ⟨hB, (hSt.below HB), (hTm.below HB), (hSn.below HB), trivial⟩ ?_
 refine sd_done (by kernel_rfl) ?_
 refine sx_norm (wp_seq (wp_seq (wp_region_lit ?_)))
 refine Zv rfl (.int .i64 0) ?_
 refine Zv rfl (.bool false) ?_
 refine wpList_nil (sx_norm ?_)
 refine sx_false (by kernel_rfl) ?_
 refine wp_skip (sx_norm (wp_region_lit ?_))
 refine Zv rfl (v7) ?_
 refine Zv rfl (.pointer (some ⟨q, 0, none⟩)) ?_
 refine Zv rfl (.int .i64 ((k : Nat) : Int)) ?_
 refine Zv rfl (.int .i64 (c.bgA k ((c.lg R k).arr + ((j : Nat) : Int)))) ?_
 refine Zv rfl (.slice oL nL cL) ?_
 refine sx_call (by kernel_rfl) rfl rfl (smost_n c hc R hrun K q W4 (hK.below HB) k j (by omega) (by omega) oL nL cL bL qL (fun h => ⟨(hL h).1, (hL h).2.below HB⟩)) (by kernel_rfl) ?_
 rintro e W5 ⟨rfl, hb⟩
 replace HB := over HB hb
 replace hB := hB.below hb
 replace HG := HG.below hb
 have z3 := hb.size
 clear hb
 refine ⟨_, rfl, ?_⟩
 obtain ⟨W6, hW, hb, hq⟩ := laidA W5 #[.int .i64 (c.mo R (c.n - 1 - k) k j)] 3
 refine sx_mem (by kernel_rfl) rfl rfl (.slice (some ⟨W5.heap.size, 0, none⟩) 1 1) W6 (by rw [← hW]; kernel_rfl) ?_
 replace HB := over HB hb
 replace hB := hB.below hb
 replace HG := HG.below hb
 have z4 := hb.size
 have M7 := hq
 have yM7 := hq.lt
 clear hq hb hW
 obtain ⟨v9, W8, h9, hg9, hb, -, -⟩ := ap_o (P := Tryd.prog) (t := 42) (ty := 42) (z := .int .i64 0) (bytes := 8) (x := (c.mo R (c.n - 1 - k) k j : Int)) inRow Tryd.underlying42 (by kernel_rfl) rfl (by decide) (by decide) HG M7 rfl (by omega) (by rw [CrT.moK_len]; omega)
 refine sx_mem (by kernel_rfl) rfl rfl v9 W8 (ex_append rfl (by kernel_rfl) (by kernel_rfl) h9) ?_
 replace HB := HB.trans (hb.mono (by omega))
 replace hB := hB.belowB (by omega) hb
 have z5 := hb.size
 have HG := hg9
 clear hg9 hb h9
 refine Zv rfl (v9) ?_
 refine wpList_nil ?_
 refine sx_in ?_
 refine sx_norm (wp_region_lit ?_)
 refine sx_int (by kernel_rfl) rfl rfl .i64 (IntKind.i64.wrap (((j : Nat) : Int) + 1)) (((j + 1 : Nat) : Int)) (by kernel_rfl) (by rw [IntKind.wrap_i64]; omega) ?_
 refine Zv rfl (.int .i64 ((j + 1 : Nat) : Int)) ?_
 refine wpList_nil (sx_norm ?_)
 exact sx_again (c.ln R k - (j + 1)) (j + 1, v9) (by omega) (by kernel_rfl) ⟨by show j + 1 ≤ _; omega, Nat.le_refl _, by show Ol inE _ 1 _ _ _ (c.moK R k (j + 1)); rw [CrT.moK_succ]; exact HG, HB⟩

end Go.Proofs.YtomebalolmabnaaDoor.T



/-! The walk of slack: slacks (by gen_jd.py). -/
namespace Go.Proofs.YtomebalolmabnaaDoor.T
open Go.RowKit
set_option maxRecDepth 8000
attribute [local irreducible] wpList Code.wp wpAnyH

theorem sslacks_n (c : CrT) (hc : c.Ok) (R : List Bool) (hrun : c.run R c.n = 0) (K : SV) (q : Nat) (w : World) (hK : Scr w c R K q) : Calls Tryd.prog 21 #[.pointer (some ⟨q, 0, none⟩)] w fun e w' => ∃ c9 b9, e = .returned (.slice (some ⟨b9, 0, none⟩) (c.slL R).length c9) ∧ Cb w' b9 ((c.slL R).flatMap inE).toArray 3 ∧ w.heap.size ≤ b9 ∧ Below w.heap.size w w' := by
 have HB : Below w.heap.size w w := Below.refl _ _
 have hB := hK.blk
 have yhB := hB.lt
 have hSt := hK.st
 have hTm := hK.tm
 have hSn := hK.sn
 have hln := hc.len
 have hrst := hc.rst
 have hdrv := hc.drv
 have hrd := hc.rd
 have hcn9 : c.n = c.S.length - 1 := rfl
 refine sx_enter Tryd.func21 rfl [(0, .pointer (some ⟨q, 0, none⟩))] (by kernel_rfl) ?_
 refine wp_seq (wp_region_lit ?_)
 refine Zv rfl (.slice none 0 0) ?_
 refine wpList_nil (sx_norm (wp_seq (wp_region_lit ?_)))
 refine Zv rfl (.pointer (some ⟨q, 0, none⟩)) ?_
 refine Zv rfl (.pointer (some ⟨q, 0, none⟩)) ?_
 refine Zv rfl (.pointer (some ⟨q, 21, none⟩)) ?_
 refine Zw rfl (.slice K.o2 c.n K.c2) (el (hB.cell 21 rfl) Tryd.underlying99) ?_
 refine Zv rfl (.int .i64 ((c.n : Nat) : Int)) ?_
 obtain ⟨bN, hbN⟩ : ∃ m, w.heap.size = m := ⟨_, rfl⟩
 obtain ⟨W1, hW⟩ : ∃ W, w.alloc (.cells ((c.slK R c.n).flatMap inE).toArray 3) = W := ⟨_, rfl⟩
 have hb := hW ▸ below_alloc w (.cells ((c.slK R c.n).flatMap inE).toArray 3)
 have NT : Cb W1 bN ((c.slK R c.n).flatMap inE).toArray 3 := by rw [← hW, ← hbN]; exact Cb.made w _ _
 refine sx_mem (by kernel_rfl) rfl rfl (.slice (some ⟨bN, 0, none⟩) c.n c.n) W1 (by rw [← hW, CrT.slK_n, ← madeF (z := (Value.int .i64 0).cells) inRow rfl (by decide), ← hbN]; exact ex_makeF (k := c.n) (e := 3) (sz := 1) (z := .int .i64 0) (bytes := 8) rfl (by kernel_rfl) (by kernel_rfl) Tryd.underlying42 (by kernel_rfl) (by decide) (by omega)) ?_
 replace HB := over HB hb
 replace hB := hB.below hb
 have z1 := hb.size
 have yNT := NT.lt
 have zbN := HB.size
 clear hb hW
 refine Zv rfl (.slice (some ⟨bN, 0, none⟩) c.n c.n) ?_
 refine wpList_nil (sx_norm (wp_seq (wp_region_lit ?_)))
 refine Zv rfl (.slice none 0 0) ?_
 refine wpList_nil (sx_norm (wp_seq (wp_seq (wp_region_lit ?_))))
 refine Zv rfl (.pointer (some ⟨q, 0, none⟩)) ?_
 refine sx_call (by kernel_rfl) rfl rfl (send_n c hc R hrun K q W1 (hK.below HB)) (by kernel_rfl) ?_
 rintro e w9 ⟨rfl, rfl⟩
 refine ⟨_, rfl, ?_⟩
 refine Zv rfl (.int .i64 (((c.n - 1) : Nat) : Int)) ?_
 refine wpList_nil (sx_norm (wp_block ?_))
 refine sx_loop (fun x9 : Nat × Int × Option Addr × Nat × Nat × Nat × Nat => [(0, .pointer (some ⟨q, 0, none⟩)), (2, .slice none 0 0), (3, .slice (some ⟨bN, 0, none⟩) c.n c.n), (4, .slice x9.2.2.1 x9.2.2.2.1 x9.2.2.2.2.1), (5, .int .i64 x9.2.1), (8, .pointer (some ⟨q, 21, none⟩)), (9, .slice K.o2 c.n K.c2), (10, .int .i64 ((c.n : Nat) : Int)), (11, .slice (some ⟨bN, 0, none⟩) c.n c.n), (12, .pointer (some ⟨q, 0, none⟩)), (13, .int .i64 (((c.n - 1) : Nat) : Int))]) (fun gg x9 wr => x9.2.1 = (x9.1 : Int) - 1 ∧ x9.1 ≤ c.n ∧ x9.1 ≤ gg ∧ (x9.1 < c.n → x9.2.2.2.1 = (c.moL R x9.1).length ∧ Rw wr x9.2.2.2.2.2.1 x9.2.2.2.2.2.2 1 (fun k1 => inE ((c.moL R x9.1).getD k1 0)) (c.moL R x9.1).length x9.2.2.1) ∧ Cb wr bN ((c.slK R x9.1).flatMap inE).toArray 3 ∧ Below w.heap.size w wr ∧ bN < wr.heap.size) (c.n) ((c.n, (((c.n - 1) : Nat) : Int), none, 0, 0, 0, 0)) (by kernel_rfl) ⟨by show (((c.n - 1) : Nat) : Int) = _; omega, Nat.le_refl _, Nat.le_refl _, (fun h => absurd h (Nat.lt_irrefl _)), NT, HB, yNT⟩ ?_
 rintro gg ⟨i, z, oL, nL, cL, bL, qL⟩ g' wr2 ⟨hz, hi, hg, hL, NT, HB, yNT⟩
 dsimp only at hz hi hg hL NT HB yNT
 refine wp_seq (wp_seq ?_)
 have hB := hK.blk.below HB
 have zwl := HB.size
 refine wp_region_lit ?_
 refine Zv rfl (.int .i64 z) ?_
 by_cases C1 : z ≥ 0
 ·refine Zb rfl (decide (z ≥ 0)) true (decide_eq_true (by omega)) ?_
  refine wpList_nil (sx_norm ?_)
  refine sx_true (by kernel_rfl) ?_
  refine wp_skip (sx_norm (wp_seq (wp_block (wp_seq ?_))))
  obtain ⟨k, rfl⟩ : ∃ k, i = k + 1 := ⟨i - 1, by omega⟩
  obtain rfl : z = ((k : Nat) : Int) := by omega
  have hk : k < c.n := by omega
  have hla := CrT.lg_arr hc hrun hk
  have hlk : c.ln R k = ((c.S.getD (k + 1) st0).c - (c.lg R k).arr + 1).toNat := rfl
  have hst := hc.st (k + 1) (by unfold CrT.n at hk; omega)
  have hHl : Below wr2.heap.size wr2 wr2 := Below.refl _ _
  refine wp_region_lit ?_
  refine Zv rfl (.pointer (some ⟨q, 0, none⟩)) ?_
  refine Zv rfl (.int .i64 ((k : Nat) : Int)) ?_
  refine Zv rfl (.slice oL nL cL) ?_
  refine sx_call (by kernel_rfl) rfl rfl (smosts_n c hc R hrun K q wr2 (hK.below HB) k (by omega) oL nL cL bL qL (fun h => ⟨(hL h).1, (hL h).2.below hHl⟩)) (by kernel_rfl) ?_
  rintro e W3 ⟨o9, c9, b9, q9, rfl, hM, hM9, hb⟩
  replace HB := over HB hb
  replace hB := hB.below hb
  replace NT := NT.below hb
  replace hHl := over hHl hb
  have z2 := hb.size
  clear hb
  refine ⟨_, rfl, ?_⟩
  have hml := c.moL_len R k
  have hbl9 : ∀ i, i < (c.moL R k).length → bN ≠ b9 := fun i hi => by have h8 := hM9 i hi; omega
  refine Zv rfl (.slice o9 (c.moL R k).length c9) ?_
  refine wpList_nil (sx_norm (wp_block ?_))
  rw [← CrT.slM_zero] at NT
  refine sx_loop (fun j : Nat => [(0, .pointer (some ⟨q, 0, none⟩)), (2, .slice none 0 0), (3, .slice (some ⟨bN, 0, none⟩) c.n c.n), (4, .slice o9 (c.moL R k).length c9), (5, .int .i64 ((k : Nat) : Int)), (8, .pointer (some ⟨q, 21, none⟩)), (9, .slice K.o2 c.n K.c2), (10, .int .i64 ((c.n : Nat) : Int)), (11, .slice (some ⟨bN, 0, none⟩) c.n c.n), (12, .pointer (some ⟨q, 0, none⟩)), (13, .int .i64 (((c.n - 1) : Nat) : Int)), (14, .int .i64 ((k : Nat) : Int)), (15, .bool true), (18, .pointer (some ⟨q, 0, none⟩)), (19, .int .i64 ((k : Nat) : Int)), (20, .slice oL nL cL), (21, .slice o9 (c.moL R k).length c9)]) (fun gg j wr => j ≤ 4097 ∧ 4097 - j ≤ gg ∧ c.slF R k (4097 - j) j = c.sl R k ∧ Cb wr bN ((c.slM R k j).flatMap inE).toArray 3 ∧ Rw wr b9 q9 1 (fun k1 => inE ((c.moL R k).getD k1 0)) (c.moL R k).length o9 ∧ Below w.heap.size w wr ∧ bN < wr.heap.size ∧ W3.heap.size ≤ wr.heap.size) (4097) (0) (by kernel_rfl) ⟨Nat.zero_le _, Nat.le_refl _, rfl, NT, hM, HB, by omega, Nat.le_refl _⟩ ?_
  rintro gg j g' wr4 ⟨hj, hg2, hsl, NT, hM, HB, yNT, hss⟩
  refine wp_seq (wp_seq ?_)
  have hB := hK.blk.below HB
  have zwl2 := HB.size
  have hjl := CrT.slM_at (c := c) (R := R) (k := k) (j := j) hk
  have hjn := c.slM_len R k j
  have hN := Rw.of_flat inRow 0 NT
  rw [hjn] at hN
  obtain ⟨Y5, hW⟩ : ∃ W, wr4.drew = W := ⟨_, rfl⟩
  have hb : Below wr4.heap.size wr4 Y5 := hW ▸ below_drew (Below.refl _ _)
  replace HB := over HB hb
  replace hB := hB.below hb
  replace hM := hM.below hb
  replace hN := hN.below hb
  replace NT := NT.below hb
  have z3 := hb.size
  clear hb
  refine sd_begin (fun W => Cb W (q) #[.slice K.o0 c.pl.length K.c0, .slice K.o1 c.al.length K.c1, .string c.ty.name, .int .i64 c.ty.count, .int .i64 c.ty.fr, .int .i64 c.ty.to, .slice K.va c.ty.cap.length K.vb, .int .i64 c.ty.skills, .int .i64 c.ty.prof, .int .i64 c.ty.opn, .int .i64 c.ty.cls, .int .i64 c.ty.drv, .int .i64 c.ty.rst, .int .i64 c.ty.fix, .int .i64 c.ty.pm, .int .i64 c.ty.pt, .bool (R.getD 0 false), .int .i64 ((c.lg R 0).dep), .slice K.o3 (c.n - 1) K.c3, .int .i64 ((c.lg R (c.n - 1)).arr), .int .i64 (c.mil R c.n), .slice K.o2 c.n K.c2, .slice K.o4 c.n K.c4] 102 ∧ Rw W b9 q9 1 (fun k1 => inE ((c.moL R k).getD k1 0)) ((c.moL R k).length) o9 ∧ Rw W bN 0 1 (fun k1 => inE ((c.slM R k j).getD k1 0)) c.n (some ⟨bN, 0, none⟩) ∧ Rw W K.bs K.os 4 (fun k => sF c.S (k + 1)) c.n K.o2 ∧ Rw W K.bt K.ot 4 (fun k => tmE (c.tm R k)) (c.n - 1) K.o3 ∧ Rw W K.bn K.on 1 (fun k => inE (c.lg R k).sin) c.n K.o4 ∧ True) (by kernel_rfl) (by rw [hW]; exact ⟨hB, hM, hN, (hSt.below HB), (hTm.below HB), (hSn.below HB), trivial⟩) ?_
  rw [hW]
  clear hW
  refine Zu 0 rfl rfl (.slice (some ⟨bN, 0, none⟩) c.n c.n) ⟨hB, hM, hN, (hSt.below HB), (hTm.below HB), (hSn.below HB), trivial⟩ ?_
  refine Zu 1 rfl rfl (.int .i64 ((k : Nat) : Int)) ⟨hB, hM, hN, (hSt.below HB), (hTm.below HB), (hSn.below HB), trivial⟩ ?_
  refine Zt 2 rfl rfl (.pointer (some ⟨bN, 0 + k * 1, none⟩)) (fun w9 h9 => ex_indexO (q := 0) (m := c.n) (c := c.n) (k := k) (s := 1) rfl (by kernel_rfl) (h9.2.2.1.oa (k := k) (by omega)) (by kernel_rfl) Tryd.underlying42 (by kernel_rfl) (by omega) (by omega)) ⟨hB, hM, hN, (hSt.below HB), (hTm.below HB), (hSn.below HB), trivial⟩ ?_
  refine Zt 3 rfl rfl (.int .i64 ((j : Nat) : Int)) (fun w9 h9 => el (by have h8 := h9.2.2.1.cell (k := k) (by omega) 0 (v := .int .i64 ((c.slM R k j).getD k 0)) rfl; rw [hjl] at h8; exact h8) Tryd.underlying3) ⟨hB, hM, hN, (hSt.below HB), (hTm.below HB), (hSn.below HB), trivial⟩ ?_
  refine Zt 4 rfl rfl (.int .i64 ((j + 1 : Nat) : Int)) (fun w9 _ => ex_int .i64 (IntKind.i64.wrap (((j : Nat) : Int) + 1)) (((j + 1 : Nat) : Int)) (by kernel_rfl) (by rw [IntKind.wrap_i64]; omega)) ⟨hB, hM, hN, (hSt.below HB), (hTm.below HB), (hSn.below HB), trivial⟩ ?_
  refine Zu 5 rfl rfl (.slice o9 (c.moL R k).length c9) ⟨hB, hM, hN, (hSt.below HB), (hTm.below HB), (hSn.below HB), trivial⟩ ?_
  refine Zu 6 rfl rfl (.int .i64 (((c.moL R k).length : Nat) : Int)) ⟨hB, hM, hN, (hSt.below HB), (hTm.below HB), (hSn.below HB), trivial⟩ ?_
  by_cases C2 : j + 1 < (c.moL R k).length
  ·refine Zt 7 rfl rfl (.bool true) (fun w9 _ => ex_bool (decide (((j + 1 : Nat) : Int) < (((c.moL R k).length : Nat) : Int))) true (by kernel_rfl) (decide_eq_true (by omega))) ⟨hB, hM, hN, (hSt.below HB), (hTm.below HB), (hSn.below HB), trivial⟩ ?_
   refine Zu 8 rfl rfl (.bool true) ⟨hB, hM, hN, (hSt.below HB), (hTm.below HB), (hSn.below HB), trivial⟩ ?_
   refine Zu 9 rfl rfl (.pointer (some ⟨q, 0, none⟩)) ⟨hB, hM, hN, (hSt.below HB), (hTm.below HB), (hSn.below HB), trivial⟩ ?_
   refine Zu 10 rfl rfl (.pointer (some ⟨q, 0, none⟩)) ⟨hB, hM, hN, (hSt.below HB), (hTm.below HB), (hSn.below HB), trivial⟩ ?_
   refine Zu 11 rfl rfl (.pointer (some ⟨q, 22, none⟩)) ⟨hB, hM, hN, (hSt.below HB), (hTm.below HB), (hSn.below HB), trivial⟩ ?_
   refine Zt 12 rfl rfl (.slice K.o4 c.n K.c4) (fun w9 h9 => el (h9.1.cell 22 rfl) Tryd.underlying42) ⟨hB, hM, hN, (hSt.below HB), (hTm.below HB), (hSn.below HB), trivial⟩ ?_
   refine Zu 13 rfl rfl (.int .i64 ((k : Nat) : Int)) ⟨hB, hM, hN, (hSt.below HB), (hTm.below HB), (hSn.below HB), trivial⟩ ?_
   refine Zt 14 rfl rfl (.pointer (some ⟨K.bn, K.on + k * 1, none⟩)) (fun w9 h9 => ex_indexO (q := K.on) (m := c.n) (c := K.c4) (k := k) (s := 1) rfl (by kernel_rfl) (h9.2.2.2.2.2.1.oa (k := k) (by omega)) (by kernel_rfl) Tryd.underlying42 (by kernel_rfl) (by omega) (by omega)) ⟨hB, hM, hN, (hSt.below HB), (hTm.below HB), (hSn.below HB), trivial⟩ ?_
   refine Zt 15 rfl rfl (.int .i64 ((c.lg R k).sin)) (fun w9 h9 => el (h9.2.2.2.2.2.1.cell (k := k) (by omega) 0 rfl) Tryd.underlying3) ⟨hB, hM, hN, (hSt.below HB), (hTm.below HB), (hSn.below HB), trivial⟩ ?_
   refine Zu 16 rfl rfl (.slice (some ⟨bN, 0, none⟩) c.n c.n) ⟨hB, hM, hN, (hSt.below HB), (hTm.below HB), (hSn.below HB), trivial⟩ ?_
   refine Zu 17 rfl rfl (.int .i64 ((k : Nat) : Int)) ⟨hB, hM, hN, (hSt.below HB), (hTm.below HB), (hSn.below HB), trivial⟩ ?_
   refine Zt 18 rfl rfl (.pointer (some ⟨bN, 0 + k * 1, none⟩)) (fun w9 h9 => ex_indexO (q := 0) (m := c.n) (c := c.n) (k := k) (s := 1) rfl (by kernel_rfl) (h9.2.2.1.oa (k := k) (by omega)) (by kernel_rfl) Tryd.underlying42 (by kernel_rfl) (by omega) (by omega)) ⟨hB, hM, hN, (hSt.below HB), (hTm.below HB), (hSn.below HB), trivial⟩ ?_
   refine Zt 19 rfl rfl (.int .i64 ((j : Nat) : Int)) (fun w9 h9 => el (by have h8 := h9.2.2.1.cell (k := k) (by omega) 0 (v := .int .i64 ((c.slM R k j).getD k 0)) rfl; rw [hjl] at h8; exact h8) Tryd.underlying3) ⟨hB, hM, hN, (hSt.below HB), (hTm.below HB), (hSn.below HB), trivial⟩ ?_
   refine Zt 20 rfl rfl (.int .i64 ((c.lg R k).sin + ((j : Nat) : Int))) (fun w9 _ => ex_int .i64 (IntKind.i64.wrap ((c.lg R k).sin + ((j : Nat) : Int))) (((c.lg R k).sin + ((j : Nat) : Int))) (by kernel_rfl) (by rw [IntKind.wrap_i64]; omega)) ⟨hB, hM, hN, (hSt.below HB), (hTm.below HB), (hSn.below HB), trivial⟩ ?_
   refine Zt 21 rfl rfl (.int .i64 (((c.lg R k).sin + ((j : Nat) : Int)) + 1)) (fun w9 _ => ex_int .i64 (IntKind.i64.wrap (((c.lg R k).sin + ((j : Nat) : Int)) + 1)) ((((c.lg R k).sin + ((j : Nat) : Int)) + 1)) (by kernel_rfl) (by rw [IntKind.wrap_i64]; omega)) ⟨hB, hM, hN, (hSt.below HB), (hTm.below HB), (hSn.below HB), trivial⟩ ?_
   refine Zu 22 rfl rfl (.slice o9 (c.moL R k).length c9) ⟨hB, hM, hN, (hSt.below HB), (hTm.below HB), (hSn.below HB), trivial⟩ ?_
   refine Zu 23 rfl rfl (.slice (some ⟨bN, 0, none⟩) c.n c.n) ⟨hB, hM, hN, (hSt.below HB), (hTm.below HB), (hSn.below HB), trivial⟩ ?_
   refine Zu 24 rfl rfl (.int .i64 ((k : Nat) : Int)) ⟨hB, hM, hN, (hSt.below HB), (hTm.below HB), (hSn.below HB), trivial⟩ ?_
   refine Zt 25 rfl rfl (.pointer (some ⟨bN, 0 + k * 1, none⟩)) (fun w9 h9 => ex_indexO (q := 0) (m := c.n) (c := c.n) (k := k) (s := 1) rfl (by kernel_rfl) (h9.2.2.1.oa (k := k) (by omega)) (by kernel_rfl) Tryd.underlying42 (by kernel_rfl) (by omega) (by omega)) ⟨hB, hM, hN, (hSt.below HB), (hTm.below HB), (hSn.below HB), trivial⟩ ?_
   refine Zt 26 rfl rfl (.int .i64 ((j : Nat) : Int)) (fun w9 h9 => el (by have h8 := h9.2.2.1.cell (k := k) (by omega) 0 (v := .int .i64 ((c.slM R k j).getD k 0)) rfl; rw [hjl] at h8; exact h8) Tryd.underlying3) ⟨hB, hM, hN, (hSt.below HB), (hTm.below HB), (hSn.below HB), trivial⟩ ?_
   refine Zt 27 rfl rfl (.int .i64 ((j + 1 : Nat) : Int)) (fun w9 _ => ex_int .i64 (IntKind.i64.wrap (((j : Nat) : Int) + 1)) (((j + 1 : Nat) : Int)) (by kernel_rfl) (by rw [IntKind.wrap_i64]; omega)) ⟨hB, hM, hN, (hSt.below HB), (hTm.below HB), (hSn.below HB), trivial⟩ ?_
   refine Zt 28 rfl rfl (.pointer (some ⟨b9, q9 + (j + 1) * 1, none⟩)) (fun w9 h9 => ex_indexO (q := q9) (m := (c.moL R k).length) (c := c9) (k := j + 1) (s := 1) rfl (by kernel_rfl) (h9.2.1.oa (k := j + 1) (by omega)) (by kernel_rfl) Tryd.underlying42 (by kernel_rfl) (by omega) (by omega)) ⟨hB, hM, hN, (hSt.below HB), (hTm.below HB), (hSn.below HB), trivial⟩ ?_
   have hj1 : j + 1 < c.ln R k := by omega
   refine Zt 29 rfl rfl (.int .i64 (c.mo R (c.n - 1 - k) k (j + 1))) (fun w9 h9 => el (by have h8 := h9.2.1.cell (k := j + 1) (by omega) 0 (v := .int .i64 ((c.moL R k).getD (j + 1) 0)) rfl; rw [CrT.moL_at hj1] at h8; exact h8) Tryd.underlying3) ⟨hB, hM, hN, (hSt.below HB), (hTm.below HB), (hSn.below HB), trivial⟩ ?_
   by_cases C3 : (((c.lg R k).sin + ((j : Nat) : Int)) + 1) ≤ (c.mo R (c.n - 1 - k) k (j + 1))
   ·refine Zt 30 rfl rfl (.bool true) (fun w9 _ => ex_bool (decide ((((c.lg R k).sin + ((j : Nat) : Int)) + 1) ≤ (c.mo R (c.n - 1 - k) k (j + 1)))) true (by kernel_rfl) (decide_eq_true (by omega))) ⟨hB, hM, hN, (hSt.below HB), (hTm.below HB), (hSn.below HB), trivial⟩ ?_
    refine Zu 31 rfl rfl (.bool true) ⟨hB, hM, hN, (hSt.below HB), (hTm.below HB), (hSn.below HB), trivial⟩ ?_
    refine sd_done (by kernel_rfl) ?_
    refine sx_norm ?_
    refine sx_true (by kernel_rfl) ?_
    refine wp_skip (sx_norm (wp_block (wp_region_lit ?_)))
    refine Zv rfl (.slice (some ⟨bN, 0, none⟩) c.n c.n) ?_
    refine Zv rfl (.int .i64 ((k : Nat) : Int)) ?_
    refine Zw rfl (.pointer (some ⟨bN, (k * 1), none⟩)) (ex_index rfl bN 0 c.n c.n k 1 (k * 1) (by kernel_rfl) (by kernel_rfl) Tryd.underlying42 (by kernel_rfl) (by omega) (by omega)) ?_
    have hcl : ((c.slM R k j).flatMap inE).toArray[k * 1]? = some (.int .i64 ((j : Nat) : Int)) := by
     have h8 := inRow.at_ 0 (c.slM R k j) k 0 (by omega) (by decide)
     rw [List.getElem?_toArray, ← Nat.add_zero (k * 1), h8, hjl]
     rfl
    refine Zw rfl (.int .i64 ((j : Nat) : Int)) (el (NT.cell _ hcl) Tryd.underlying3) ?_
    refine sx_int (by kernel_rfl) rfl rfl .i64 (IntKind.i64.wrap (((j : Nat) : Int) + 1)) ((((j : Nat) : Int) + 1)) (by kernel_rfl) (by rw [IntKind.wrap_i64]; omega) ?_
    refine Zw rfl (.pointer (some ⟨bN, (k * 1), none⟩)) (ex_index rfl bN 0 c.n c.n k 1 (k * 1) (by kernel_rfl) (by kernel_rfl) Tryd.underlying42 (by kernel_rfl) (by omega) (by omega)) ?_
    refine sx_do (by kernel_rfl) rfl (Y5.setCells bN (k * 1) [.int .i64 (((j : Nat) : Int) + 1)]) (ex_storeC (k := k * 1) (old := .int .i64 ((j : Nat) : Int)) (v := .int .i64 (((j : Nat) : Int) + 1)) rfl NT hcl (by kernel_rfl) (by kernel_rfl) (by kernel_rfl) (by kernel_rfl)) ?_
    obtain ⟨W6, hW⟩ : ∃ W, Y5.setCells bN (k * 1) [.int .i64 (((j : Nat) : Int) + 1)] = W := ⟨_, rfl⟩
    have hg9 : Y5.grownBy W6 (some bN) := hW ▸ grown_sets _ _ _ _
    have hq : Cb W6 bN ((c.slM R k (j + 1)).flatMap inE).toArray 3 := by
     rw [← CrT.slM_set hk, ← setN_flat inRow (((j : Nat) : Int) + 1) _ k (by omega), ← hW]
     exact Cb.setsN [.int .i64 (((j : Nat) : Int) + 1)] Y5 (k * 1) _ NT
    rw [hW]
    replace HB := HB.grown hg9 (by omega) (fun x e => by simp only [Option.some.injEq] at e; omega)
    replace hB := hB.kept hg9 (by omega)
    replace hM := hM.kept hg9 (fun i hi => by have h8 := hM9 i hi; omega)
    have z4 := hg9.size
    replace NT := hq
    have yNT := NT.lt
    clear hq hg9 hW
    refine wpList_nil ?_
    refine sx_in ?_
    refine sx_norm ?_
    have hok := (CrT.okD_iff hc hrun hk (j + 1)).2 ⟨by omega, by rw [show (((j + 1 : Nat)) : Int) = ((j : Nat) : Int) + 1 from rfl]; omega⟩
    have hoc := CrT.okD_c hk hok
    have hsl2 : c.slF R k (4097 - (j + 1)) (j + 1) = c.sl R k := by
     rw [← hsl, show 4097 - j = (4097 - (j + 1)) + 1 by omega]
     show _ = if c.okD R k ((j : Int) + 1) then _ else _
     exact (if_pos hok).symm
    exact sx_again (4097 - (j + 1)) (j + 1) (by omega) (by kernel_rfl) ⟨by omega, Nat.le_refl _, hsl2, NT, hM, HB, yNT, by omega⟩
   refine Zt 30 rfl rfl (.bool false) (fun w9 _ => ex_bool (decide ((((c.lg R k).sin + ((j : Nat) : Int)) + 1) ≤ (c.mo R (c.n - 1 - k) k (j + 1)))) false (by kernel_rfl) (decide_eq_false (by omega))) ⟨hB, hM, hN, (hSt.below HB), (hTm.below HB), (hSn.below HB), trivial⟩ ?_
   refine Zu 31 rfl rfl (.bool false) ⟨hB, hM, hN, (hSt.below HB), (hTm.below HB), (hSn.below HB), trivial⟩ ?_
   refine sd_done (by kernel_rfl) ?_
   refine sx_norm ?_
   refine sx_false (by kernel_rfl) ?_
   refine wp_exit ?_
   refine sx_es ?_
   refine sx_es ?_
   refine sx_out ?_
   refine sx_in ?_
   refine sx_norm (wp_region_lit ?_)
   refine Zv rfl (.int .i64 ((k : Nat) : Int)) ?_
   refine sx_int (by kernel_rfl) rfl rfl .i64 (IntKind.i64.wrap (((k : Nat) : Int) - 1)) ((((k : Nat) : Int) - 1)) (by kernel_rfl) (by rw [IntKind.wrap_i64]; omega) ?_
   refine Zv rfl (.int .i64 (((k : Nat) : Int) - 1)) ?_
   refine wpList_nil (sx_norm ?_)
   have hsj : c.sl R k = j := by
    rw [← hsl]
    cases hq9 : 4097 - j with
    | zero => rfl
    | succ f =>
     show (if c.okD R k ((j : Int) + 1) then _ else j) = j
     rw [if_neg (fun h => by have h7 := (CrT.okD_iff hc hrun hk (j + 1)).1 h; rw [show (((j + 1 : Nat)) : Int) = ((j : Nat) : Int) + 1 from rfl] at h7; omega)]
   rw [← hsj, CrT.slM_all] at NT
   exact sx_again k (k, ((k : Nat) : Int) - 1, o9, (c.moL R k).length, c9, b9, q9) (by omega) (by kernel_rfl) ⟨rfl, by show k ≤ _; omega, Nat.le_refl _, (fun _ => ⟨rfl, hM⟩), NT, HB, NT.lt⟩
  refine Zt 7 rfl rfl (.bool false) (fun w9 _ => ex_bool (decide (((j + 1 : Nat) : Int) < (((c.moL R k).length : Nat) : Int))) false (by kernel_rfl) (decide_eq_false (by omega))) ⟨hB, hM, hN, (hSt.below HB), (hTm.below HB), (hSn.below HB), trivial⟩ ?_
  refine Zu 8 rfl rfl (.bool false) ⟨hB, hM, hN, (hSt.below HB), (hTm.below HB), (hSn.below HB), trivial⟩ ?_
  refine Zp 9 rfl rfl ⟨hB, hM, hN, (hSt.below HB), (hTm.below HB), (hSn.below HB), trivial⟩ ?_
  refine Zp 10 rfl rfl ⟨hB, hM, hN, (hSt.below HB), (hTm.below HB), (hSn.below HB), trivial⟩ ?_
  refine Zp 11 rfl rfl ⟨hB, hM, hN, (hSt.below HB), (hTm.below HB), (hSn.below HB), trivial⟩ ?_
  refine Zp 12 rfl rfl ⟨hB, hM, hN, (hSt.below HB), (hTm.below HB), (hSn.below HB), trivial⟩ ?_
  refine Zp 13 rfl rfl ⟨hB, hM, hN, (hSt.below HB), (hTm.below HB), (hSn.below HB), trivial⟩ ?_
  refine Zp 14 rfl rfl ⟨hB, hM, hN, (hSt.below HB), (hTm.below HB), (hSn.below HB), trivial⟩ ?_
  refine Zp 15 rfl rfl ⟨hB, hM, hN, (hSt.below HB), (hTm.below HB), (hSn.below HB), trivial⟩ ?_
  refine Zp 16 rfl rfl ⟨hB, hM, hN, (hSt.below HB), (hTm.below HB), (hSn.below HB), trivial⟩ ?_
  refine Zp 17 rfl rfl ⟨hB, hM, hN, (hSt.below HB), (hTm.below HB), (hSn.below HB), trivial⟩ ?_
  refine Zp 18 rfl rfl ⟨hB, hM, hN, (hSt.below HB), (hTm.below HB), (hSn.below HB), trivial⟩ ?_
  refine Zp 19 rfl rfl ⟨hB, hM, hN, (hSt.below HB), (hTm.below HB), (hSn.below HB), trivial⟩ ?_
  refine Zp 20 rfl rfl ⟨hB, hM, hN, (hSt.below HB), (hTm.below HB), (hSn.below HB), trivial⟩ ?_
  refine Zp 21 rfl rfl ⟨hB, hM, hN, (hSt.below HB), (hTm.below HB), (hSn.below HB), trivial⟩ ?_
  refine Zp 22 rfl rfl ⟨hB, hM, hN, (hSt.below HB), (hTm.below HB), (hSn.below HB), trivial⟩ ?_
  refine Zp 23 rfl rfl ⟨hB, hM, hN, (hSt.below HB), (hTm.below HB), (hSn.below HB), trivial⟩ ?_
  refine Zp 24 rfl rfl ⟨hB, hM, hN, (hSt.below HB), (hTm.below HB), (hSn.below HB), trivial⟩ ?_
  refine Zp 25 rfl rfl ⟨hB, hM, hN, (hSt.below HB), (hTm.below HB), (hSn.below HB), trivial⟩ ?_
  refine Zp 26 rfl rfl ⟨hB, hM, hN, (hSt.below HB), (hTm.below HB), (hSn.below HB), trivial⟩ ?_
  refine Zp 27 rfl rfl ⟨hB, hM, hN, (hSt.below HB), (hTm.below HB), (hSn.below HB), trivial⟩ ?_
  refine Zp 28 rfl rfl ⟨hB, hM, hN, (hSt.below HB), (hTm.below HB), (hSn.below HB), trivial⟩ ?_
  refine Zp 29 rfl rfl ⟨hB, hM, hN, (hSt.below HB), (hTm.below HB), (hSn.below HB), trivial⟩ ?_
  refine Zp 30 rfl rfl ⟨hB, hM, hN, (hSt.below HB), (hTm.below HB), (hSn.below HB), trivial⟩ ?_
  refine Zu 31 rfl rfl (.bool false) ⟨hB, hM, hN, (hSt.below HB), (hTm.below HB), (hSn.below HB), trivial⟩ ?_
  refine sd_done (by kernel_rfl) ?_
  refine sx_norm ?_
  refine sx_false (by kernel_rfl) ?_
  refine wp_exit ?_
  refine sx_es ?_
  refine sx_es ?_
  refine sx_out ?_
  refine sx_in ?_
  refine sx_norm (wp_region_lit ?_)
  refine Zv rfl (.int .i64 ((k : Nat) : Int)) ?_
  refine sx_int (by kernel_rfl) rfl rfl .i64 (IntKind.i64.wrap (((k : Nat) : Int) - 1)) ((((k : Nat) : Int) - 1)) (by kernel_rfl) (by rw [IntKind.wrap_i64]; omega) ?_
  refine Zv rfl (.int .i64 (((k : Nat) : Int) - 1)) ?_
  refine wpList_nil (sx_norm ?_)
  have hsj : c.sl R k = j := by
   rw [← hsl]
   cases hq9 : 4097 - j with
   | zero => rfl
   | succ f =>
    show (if c.okD R k ((j : Int) + 1) then _ else j) = j
    rw [if_neg (fun h => by have h7 := (CrT.okD_iff hc hrun hk (j + 1)).1 h; rw [show (((j + 1 : Nat)) : Int) = ((j : Nat) : Int) + 1 from rfl] at h7; omega)]
  rw [← hsj, CrT.slM_all] at NT
  exact sx_again k (k, ((k : Nat) : Int) - 1, o9, (c.moL R k).length, c9, b9, q9) (by omega) (by kernel_rfl) ⟨rfl, by show k ≤ _; omega, Nat.le_refl _, (fun _ => ⟨rfl, hM⟩), NT, HB, NT.lt⟩
 refine Zb rfl (decide (z ≥ 0)) false (decide_eq_false (by omega)) ?_
 refine wpList_nil (sx_norm ?_)
 refine sx_false (by kernel_rfl) ?_
 refine wp_exit ?_
 refine sx_es ?_
 refine sx_es ?_
 refine sx_out ?_
 refine sx_norm (wp_seq (wp_region_lit ?_))
 refine Zv rfl (.slice (some ⟨bN, 0, none⟩) c.n c.n) ?_
 refine Zv rfl (.slice (some ⟨bN, 0, none⟩) c.n c.n) ?_
 refine wpList_nil (sx_norm (wp_ret ?_))
 obtain rfl : i = 0 := by omega
 rw [CrT.slK_zero] at NT
 have h9 := Rw.of_flat inRow 0 NT
 have hsn := c.slL_len R
 refine sx_ret1 (.slice (some ⟨bN, 0, none⟩) c.n c.n) rfl rfl (by kernel_rfl) ⟨c.n, bN, by rw [hsn], NT, by omega, HB⟩

end Go.Proofs.YtomebalolmabnaaDoor.T



