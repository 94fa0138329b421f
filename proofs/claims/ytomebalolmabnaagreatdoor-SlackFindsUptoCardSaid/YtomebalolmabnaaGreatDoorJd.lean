/-
  DERIVED. Jd: a part of the base of layer 13 (made by pack.py).
-/
import Derived.Test.YtomebalolmabnaaGreatDoorGA
import Derived.Test.YtomebalolmabnaaGreatDoorGL
/-! The walk of slack: slacks (by gen_jd.py). -/
namespace Go.Proofs.YtomebalolmabnaaGreatDoor.T
open Go.RowKit
set_option maxRecDepth 8000
attribute [local irreducible] wpList Code.wp wpAnyH

theorem sslacks_n (c : CrT) (hc : c.Ok) (R : List Bool) (hrun : c.run R c.n = 0) (K : SV) (q : Nat) (w : World) (hK : Scr w c R K q) : Calls Tryz.prog 18 #[.pointer (some ⟨q, 0, none⟩)] w fun e w' => ∃ c9 b9, e = .returned (.slice (some ⟨b9, 0, none⟩) (c.slL R).length c9) ∧ Cb w' b9 ((c.slL R).flatMap inE).toArray 3 ∧ w.heap.size ≤ b9 ∧ Below w.heap.size w w' := by
 have HB : Below w.heap.size w w := Below.refl _ _
 have hB := hK.blk
 have yhB := hB.lt
 have hSt := hK.st
 have hTm := hK.tm
 have hSn := hK.sn
 have hln := hc.len
 have hrst := hc.rst
 have hdrv := hc.drv
 have hrd := hc.rd
 have hcn9 : c.n = c.S.length - 1 := rfl
 refine sx_enter Tryz.func18 rfl [(0, .pointer (some ⟨q, 0, none⟩))] (by kernel_rfl) ?_
 refine Yq (Zv rfl (.slice none 0 0) (Yn (Yo (Yq (Zv rfl (pt q 0) (Zv rfl (pt q 0) (Zv rfl (pt q 21) (Zw rfl (.slice K.o2 c.n K.c2) (el (hB.cell 21 rfl) Tryz.underlying83) (Zv rfl (.int .i64 ((c.n : Nat) : Int)) ?_)))))))))
 obtain ⟨bN, hbN⟩ : ∃ m, w.heap.size = m := ⟨_, rfl⟩
 obtain ⟨W1, hW⟩ : ∃ W, w.alloc (.cells ((c.slK R c.n).flatMap inE).toArray 3) = W := ⟨_, rfl⟩
 have hb := hW ▸ below_alloc w (.cells ((c.slK R c.n).flatMap inE).toArray 3)
 have NT : Cb W1 bN ((c.slK R c.n).flatMap inE).toArray 3 := by rw [← hW, ← hbN]; exact Cb.made w _ _
 refine sx_mem (by kernel_rfl) rfl rfl (.slice (some ⟨bN, 0, none⟩) c.n c.n) W1 (by rw [← hW, CrT.slK_n, ← madeF (z := (Value.int .i64 0).cells) inRow rfl (by decide), ← hbN]; exact ex_makeF (k := c.n) (e := 3) (sz := 1) (z := .int .i64 0) (bytes := 8) rfl (by kernel_rfl) (by kernel_rfl) Tryz.underlying42 (by kernel_rfl) (by decide) (by omega)) ?_
 replace HB := over HB hb
 replace hB := hB.below hb
 have z1 := hb.size
 have yNT := NT.lt
 have zbN := HB.size
 clear hb hW
 refine Zv rfl (.slice (some ⟨bN, 0, none⟩) c.n c.n) (Yn (Yo (Yq (Zv rfl (.slice none 0 0) (Yn (Yo (Ys (Yq (Zv rfl (pt q 0) ?_)))))))))
 refine Zc rfl (send_n c hc R hrun K q W1 (hK.below HB)) ?_
 rintro e w9 ⟨rfl, rfl⟩
 refine ⟨_, rfl, ?_⟩
 refine Zv rfl (.int .i64 (((c.n - 1) : Nat) : Int)) (Yn (Yo (wp_block ?_)))
 refine sx_loop (fun x9 : Nat × Int × Option Addr × Nat × Nat × Nat × Nat => [(0, .pointer (some ⟨q, 0, none⟩)), (2, .slice none 0 0), (3, .slice (some ⟨bN, 0, none⟩) c.n c.n), (4, .slice x9.2.2.1 x9.2.2.2.1 x9.2.2.2.2.1), (5, .int .i64 x9.2.1), (8, .pointer (some ⟨q, 21, none⟩)), (9, .slice K.o2 c.n K.c2), (10, .int .i64 ((c.n : Nat) : Int)), (11, .slice (some ⟨bN, 0, none⟩) c.n c.n), (12, .pointer (some ⟨q, 0, none⟩)), (13, .int .i64 (((c.n - 1) : Nat) : Int))]) (fun gg x9 wr => x9.2.1 = (x9.1 : Int) - 1 ∧ x9.1 ≤ c.n ∧ x9.1 ≤ gg ∧ (x9.1 < c.n → x9.2.2.2.1 = (c.moL R x9.1).length ∧ Rw wr x9.2.2.2.2.2.1 x9.2.2.2.2.2.2 1 (fun k1 => inE ((c.moL R x9.1).getD k1 0)) (c.moL R x9.1).length x9.2.2.1) ∧ Cb wr bN ((c.slK R x9.1).flatMap inE).toArray 3 ∧ Below w.heap.size w wr ∧ bN < wr.heap.size) (c.n) ((c.n, (((c.n - 1) : Nat) : Int), none, 0, 0, 0, 0)) (by kernel_rfl) ⟨by show (((c.n - 1) : Nat) : Int) = _; omega, Nat.le_refl _, Nat.le_refl _, (fun h => absurd h (Nat.lt_irrefl _)), NT, HB, yNT⟩ ?_
 rintro gg ⟨i, z, oL, nL, cL, bL, qL⟩ g' wr2 ⟨hz, hi, hg, hL, NT, HB, yNT⟩
 dsimp only at hz hi hg hL NT HB yNT
 refine Ys (Ys ?_)
 have hB := hK.blk.below HB
 have zwl := HB.size
 refine Yr (Zv rfl (.int .i64 z) ?_)
 by_cases C1 : z ≥ 0
 ·refine Zb rfl (decide (z ≥ 0)) true (decide_eq_true (by omega)) (Yn (Yo (sx_true (by kernel_rfl) (wp_skip (Yo (Ys (wp_block (Ys ?_))))))))
  obtain ⟨k, rfl⟩ : ∃ k, i = k + 1 := ⟨i - 1, by omega⟩
  obtain rfl : z = ((k : Nat) : Int) := by omega
  have hk : k < c.n := by omega
  have hla := CrT.lg_arr hc hrun hk
  have hlk : c.ln R k = ((c.S.getD (k + 1) st0).c - (c.lg R k).arr + 1).toNat := rfl
  have hst := hc.st (k + 1) (by unfold CrT.n at hk; omega)
  have hHl : Below wr2.heap.size wr2 wr2 := Below.refl _ _
  refine Yr (Zv rfl (pt q 0) (Zv rfl (.int .i64 ((k : Nat) : Int)) (Zv rfl (.slice oL nL cL) ?_)))
  refine Zc rfl (smosts_n c hc R hrun K q wr2 (hK.below HB) k (by omega) oL nL cL bL qL (fun h => ⟨(hL h).1, (hL h).2.below hHl⟩)) ?_
  rintro e W3 ⟨o9, c9, b9, q9, rfl, hM, hM9, hb⟩
  replace HB := over HB hb
  replace hB := hB.below hb
  replace NT := NT.below hb
  replace hHl := over hHl hb
  have z2 := hb.size
  clear hb
  refine ⟨_, rfl, ?_⟩
  have hml := c.moL_len R k
  have hbl9 : ∀ i, i < (c.moL R k).length → bN ≠ b9 := fun i hi => by have h8 := hM9 i hi; omega
  refine Zv rfl (.slice o9 (c.moL R k).length c9) (Yn (Yo (wp_block ?_)))
  rw [← CrT.slM_zero] at NT
  refine sx_loop (fun j : Nat => [(0, .pointer (some ⟨q, 0, none⟩)), (2, .slice none 0 0), (3, .slice (some ⟨bN, 0, none⟩) c.n c.n), (4, .slice o9 (c.moL R k).length c9), (5, .int .i64 ((k : Nat) : Int)), (8, .pointer (some ⟨q, 21, none⟩)), (9, .slice K.o2 c.n K.c2), (10, .int .i64 ((c.n : Nat) : Int)), (11, .slice (some ⟨bN, 0, none⟩) c.n c.n), (12, .pointer (some ⟨q, 0, none⟩)), (13, .int .i64 (((c.n - 1) : Nat) : Int)), (14, .int .i64 ((k : Nat) : Int)), (15, .bool true), (18, .pointer (some ⟨q, 0, none⟩)), (19, .int .i64 ((k : Nat) : Int)), (20, .slice oL nL cL), (21, .slice o9 (c.moL R k).length c9)]) (fun gg j wr => j ≤ 4097 ∧ 4097 - j ≤ gg ∧ c.slF R k (4097 - j) j = c.sl R k ∧ Cb wr bN ((c.slM R k j).flatMap inE).toArray 3 ∧ Rw wr b9 q9 1 (fun k1 => inE ((c.moL R k).getD k1 0)) (c.moL R k).length o9 ∧ Below w.heap.size w wr ∧ bN < wr.heap.size ∧ W3.heap.size ≤ wr.heap.size) (4097) (0) (by kernel_rfl) ⟨Nat.zero_le _, Nat.le_refl _, rfl, NT, hM, HB, by omega, Nat.le_refl _⟩ ?_
  rintro gg j g' wr4 ⟨hj, hg2, hsl, NT, hM, HB, yNT, hss⟩
  refine Ys (Ys ?_)
  have hB := hK.blk.below HB
  have zwl2 := HB.size
  have hjl := CrT.slM_at (c := c) (R := R) (k := k) (j := j) hk
  have hjn := c.slM_len R k j
  have hN := Rw.of_flat inRow 0 NT
  rw [hjn] at hN
  obtain ⟨Y5, hW⟩ : ∃ W, wr4.drew = W := ⟨_, rfl⟩
  have hb : Below wr4.heap.size wr4 Y5 := hW ▸ below_drew (Below.refl _ _)
  replace HB := over HB hb
  replace hB := hB.below hb
  replace hM := hM.below hb
  replace hN := hN.below hb
  replace NT := NT.below hb
  have z3 := hb.size
  clear hb
  refine sd_begin (fun W => Cb W (q) #[.slice K.o0 c.pl.length K.c0, .slice K.o1 c.al.length K.c1, .string c.ty.name, .int .i64 c.ty.count, .int .i64 c.ty.fr, .int .i64 c.ty.to, .slice K.va c.ty.cap.length K.vb, .int .i64 c.ty.skills, .int .i64 c.ty.prof, .int .i64 c.ty.opn, .int .i64 c.ty.cls, .int .i64 c.ty.drv, .int .i64 c.ty.rst, .int .i64 c.ty.fix, .int .i64 c.ty.pm, .int .i64 c.ty.pt, .bool (R.getD 0 false), .int .i64 ((c.lg R 0).dep), .slice K.o3 (c.n - 1) K.c3, .int .i64 ((c.lg R (c.n - 1)).arr), .int .i64 (c.mil R c.n), .slice K.o2 c.n K.c2, .slice K.o4 c.n K.c4] 86 ∧ Rw W b9 q9 1 (fun k1 => inE ((c.moL R k).getD k1 0)) ((c.moL R k).length) o9 ∧ Rw W bN 0 1 (fun k1 => inE ((c.slM R k j).getD k1 0)) c.n (some ⟨bN, 0, none⟩) ∧ Rw W K.bs K.os 4 (fun k => sF c.S (k + 1)) c.n K.o2 ∧ Rw W K.bt K.ot 4 (fun k => tmE (c.tm R k)) (c.n - 1) K.o3 ∧ Rw W K.bn K.on 1 (fun k => inE (c.lg R k).sin) c.n K.o4 ∧ True) (by kernel_rfl) (by rw [hW]; exact ⟨hB, hM, hN, (hSt.below HB), (hTm.below HB), (hSn.below HB), trivial⟩) ?_
  rw [hW]
  clear hW
  refine Zu 0 rfl rfl (.slice (some ⟨bN, 0, none⟩) c.n c.n) ⟨hB, hM, hN, (hSt.below HB), (hTm.below HB), (hSn.below HB), trivial⟩ ?_
  refine Zu 1 rfl rfl (.int .i64 ((k : Nat) : Int)) ⟨hB, hM, hN, (hSt.below HB), (hTm.below HB), (hSn.below HB), trivial⟩ ?_
  refine Zt 2 rfl rfl (pt bN (0 + k * 1)) (fun w9 h9 => ex_indexO (q := 0) (m := c.n) (c := c.n) (k := k) (s := 1) rfl (by kernel_rfl) (h9.2.2.1.oa (k := k) (by omega)) (by kernel_rfl) Tryz.underlying42 (by kernel_rfl) (by omega) (by omega)) ⟨hB, hM, hN, (hSt.below HB), (hTm.below HB), (hSn.below HB), trivial⟩ ?_
  refine Zt 3 rfl rfl (.int .i64 ((j : Nat) : Int)) (fun w9 h9 => el (by have h8 := h9.2.2.1.cell (k := k) (by omega) 0 (v := .int .i64 ((c.slM R k j).getD k 0)) rfl; rw [hjl] at h8; exact h8) Tryz.underlying3) ⟨hB, hM, hN, (hSt.below HB), (hTm.below HB), (hSn.below HB), trivial⟩ ?_
  refine Zt 4 rfl rfl (.int .i64 ((j + 1 : Nat) : Int)) (fun w9 _ => ex_int .i64 (IntKind.i64.wrap (((j : Nat) : Int) + 1)) (((j + 1 : Nat) : Int)) (by kernel_rfl) (by rw [IntKind.wrap_i64]; omega)) ⟨hB, hM, hN, (hSt.below HB), (hTm.below HB), (hSn.below HB), trivial⟩ ?_
  refine Zu 5 rfl rfl (.slice o9 (c.moL R k).length c9) ⟨hB, hM, hN, (hSt.below HB), (hTm.below HB), (hSn.below HB), trivial⟩ ?_
  refine Zu 6 rfl rfl (.int .i64 (((c.moL R k).length : Nat) : Int)) ⟨hB, hM, hN, (hSt.below HB), (hTm.below HB), (hSn.below HB), trivial⟩ ?_
  by_cases C2 : j + 1 < (c.moL R k).length
  ·refine Zt 7 rfl rfl (.bool true) (fun w9 _ => ex_bool (decide (((j + 1 : Nat) : Int) < (((c.moL R k).length : Nat) : Int))) true (by kernel_rfl) (decide_eq_true (by omega))) ⟨hB, hM, hN, (hSt.below HB), (hTm.below HB), (hSn.below HB), trivial⟩ ?_
   refine Zu 8 rfl rfl (.bool true) ⟨hB, hM, hN, (hSt.below HB), (hTm.below HB), (hSn.below HB), trivial⟩ ?_
   refine Zu 9 rfl rfl (pt q 0) ⟨hB, hM, hN, (hSt.below HB), (hTm.below HB), (hSn.below HB), trivial⟩ ?_
   refine Zu 10 rfl rfl (pt q 0) ⟨hB, hM, hN, (hSt.below HB), (hTm.below HB), (hSn.below HB), trivial⟩ ?_
   refine Zu 11 rfl rfl (pt q 22) ⟨hB, hM, hN, (hSt.below HB), (hTm.below HB), (hSn.below HB), trivial⟩ ?_
   refine Zt 12 rfl rfl (.slice K.o4 c.n K.c4) (fun w9 h9 => el (h9.1.cell 22 rfl) Tryz.underlying42) ⟨hB, hM, hN, (hSt.below HB), (hTm.below HB), (hSn.below HB), trivial⟩ ?_
   refine Zu 13 rfl rfl (.int .i64 ((k : Nat) : Int)) ⟨hB, hM, hN, (hSt.below HB), (hTm.below HB), (hSn.below HB), trivial⟩ ?_
   refine Zt 14 rfl rfl (pt K.bn (K.on + k * 1)) (fun w9 h9 => ex_indexO (q := K.on) (m := c.n) (c := K.c4) (k := k) (s := 1) rfl (by kernel_rfl) (h9.2.2.2.2.2.1.oa (k := k) (by omega)) (by kernel_rfl) Tryz.underlying42 (by kernel_rfl) (by omega) (by omega)) ⟨hB, hM, hN, (hSt.below HB), (hTm.below HB), (hSn.below HB), trivial⟩ ?_
   refine Zt 15 rfl rfl (.int .i64 ((c.lg R k).sin)) (fun w9 h9 => el (h9.2.2.2.2.2.1.cell (k := k) (by omega) 0 rfl) Tryz.underlying3) ⟨hB, hM, hN, (hSt.below HB), (hTm.below HB), (hSn.below HB), trivial⟩ ?_
   refine Zu 16 rfl rfl (.slice (some ⟨bN, 0, none⟩) c.n c.n) ⟨hB, hM, hN, (hSt.below HB), (hTm.below HB), (hSn.below HB), trivial⟩ ?_
   refine Zu 17 rfl rfl (.int .i64 ((k : Nat) : Int)) ⟨hB, hM, hN, (hSt.below HB), (hTm.below HB), (hSn.below HB), trivial⟩ ?_
   refine Zt 18 rfl rfl (pt bN (0 + k * 1)) (fun w9 h9 => ex_indexO (q := 0) (m := c.n) (c := c.n) (k := k) (s := 1) rfl (by kernel_rfl) (h9.2.2.1.oa (k := k) (by omega)) (by kernel_rfl) Tryz.underlying42 (by kernel_rfl) (by omega) (by omega)) ⟨hB, hM, hN, (hSt.below HB), (hTm.below HB), (hSn.below HB), trivial⟩ ?_
   refine Zt 19 rfl rfl (.int .i64 ((j : Nat) : Int)) (fun w9 h9 => el (by have h8 := h9.2.2.1.cell (k := k) (by omega) 0 (v := .int .i64 ((c.slM R k j).getD k 0)) rfl; rw [hjl] at h8; exact h8) Tryz.underlying3) ⟨hB, hM, hN, (hSt.below HB), (hTm.below HB), (hSn.below HB), trivial⟩ ?_
   refine Zt 20 rfl rfl (.int .i64 ((c.lg R k).sin + ((j : Nat) : Int))) (fun w9 _ => ex_int .i64 (IntKind.i64.wrap ((c.lg R k).sin + ((j : Nat) : Int))) (((c.lg R k).sin + ((j : Nat) : Int))) (by kernel_rfl) (by rw [IntKind.wrap_i64]; omega)) ⟨hB, hM, hN, (hSt.below HB), (hTm.below HB), (hSn.below HB), trivial⟩ ?_
   refine Zt 21 rfl rfl (.int .i64 (((c.lg R k).sin + ((j : Nat) : Int)) + 1)) (fun w9 _ => ex_int .i64 (IntKind.i64.wrap (((c.lg R k).sin + ((j : Nat) : Int)) + 1)) ((((c.lg R k).sin + ((j : Nat) : Int)) + 1)) (by kernel_rfl) (by rw [IntKind.wrap_i64]; omega)) ⟨hB, hM, hN, (hSt.below HB), (hTm.below HB), (hSn.below HB), trivial⟩ ?_
   refine Zu 22 rfl rfl (.slice o9 (c.moL R k).length c9) ⟨hB, hM, hN, (hSt.below HB), (hTm.below HB), (hSn.below HB), trivial⟩ ?_
   refine Zu 23 rfl rfl (.slice (some ⟨bN, 0, none⟩) c.n c.n) ⟨hB, hM, hN, (hSt.below HB), (hTm.below HB), (hSn.below HB), trivial⟩ ?_
   refine Zu 24 rfl rfl (.int .i64 ((k : Nat) : Int)) ⟨hB, hM, hN, (hSt.below HB), (hTm.below HB), (hSn.below HB), trivial⟩ ?_
   refine Zt 25 rfl rfl (pt bN (0 + k * 1)) (fun w9 h9 => ex_indexO (q := 0) (m := c.n) (c := c.n) (k := k) (s := 1) rfl (by kernel_rfl) (h9.2.2.1.oa (k := k) (by omega)) (by kernel_rfl) Tryz.underlying42 (by kernel_rfl) (by omega) (by omega)) ⟨hB, hM, hN, (hSt.below HB), (hTm.below HB), (hSn.below HB), trivial⟩ ?_
   refine Zt 26 rfl rfl (.int .i64 ((j : Nat) : Int)) (fun w9 h9 => el (by have h8 := h9.2.2.1.cell (k := k) (by omega) 0 (v := .int .i64 ((c.slM R k j).getD k 0)) rfl; rw [hjl] at h8; exact h8) Tryz.underlying3) ⟨hB, hM, hN, (hSt.below HB), (hTm.below HB), (hSn.below HB), trivial⟩ ?_
   refine Zt 27 rfl rfl (.int .i64 ((j + 1 : Nat) : Int)) (fun w9 _ => ex_int .i64 (IntKind.i64.wrap (((j : Nat) : Int) + 1)) (((j + 1 : Nat) : Int)) (by kernel_rfl) (by rw [IntKind.wrap_i64]; omega)) ⟨hB, hM, hN, (hSt.below HB), (hTm.below HB), (hSn.below HB), trivial⟩ ?_
   refine Zt 28 rfl rfl (pt b9 (q9 + (j + 1) * 1)) (fun w9 h9 => ex_indexO (q := q9) (m := (c.moL R k).length) (c := c9) (k := j + 1) (s := 1) rfl (by kernel_rfl) (h9.2.1.oa (k := j + 1) (by omega)) (by kernel_rfl) Tryz.underlying42 (by kernel_rfl) (by omega) (by omega)) ⟨hB, hM, hN, (hSt.below HB), (hTm.below HB), (hSn.below HB), trivial⟩ ?_
   have hj1 : j + 1 < c.ln R k := by omega
   refine Zt 29 rfl rfl (.int .i64 (c.mo R (c.n - 1 - k) k (j + 1))) (fun w9 h9 => el (by have h8 := h9.2.1.cell (k := j + 1) (by omega) 0 (v := .int .i64 ((c.moL R k).getD (j + 1) 0)) rfl; rw [CrT.moL_at hj1] at h8; exact h8) Tryz.underlying3) ⟨hB, hM, hN, (hSt.below HB), (hTm.below HB), (hSn.below HB), trivial⟩ ?_
   by_cases C3 : (((c.lg R k).sin + ((j : Nat) : Int)) + 1) ≤ (c.mo R (c.n - 1 - k) k (j + 1))
   ·refine Zt 30 rfl rfl (.bool true) (fun w9 _ => ex_bool (decide ((((c.lg R k).sin + ((j : Nat) : Int)) + 1) ≤ (c.mo R (c.n - 1 - k) k (j + 1)))) true (by kernel_rfl) (decide_eq_true (by omega))) ⟨hB, hM, hN, (hSt.below HB), (hTm.below HB), (hSn.below HB), trivial⟩ ?_
    refine Zu 31 rfl rfl (.bool true) ⟨hB, hM, hN, (hSt.below HB), (hTm.below HB), (hSn.below HB), trivial⟩ ?_
    refine sd_done (by kernel_rfl) ?_
    refine Yo (sx_true (by kernel_rfl) (wp_skip (Yo (wp_block (Yr (Zv rfl (.slice (some ⟨bN, 0, none⟩) c.n c.n) (Zv rfl (.int .i64 ((k : Nat) : Int)) (Zw rfl (pt bN ((k * 1))) (ex_index rfl bN 0 c.n c.n k 1 (k * 1) (by kernel_rfl) (by kernel_rfl) Tryz.underlying42 (by kernel_rfl) (by omega) (by omega)) ?_))))))))
    have hcl : ((c.slM R k j).flatMap inE).toArray[k * 1]? = some (.int .i64 ((j : Nat) : Int)) := by
     have h8 := inRow.at_ 0 (c.slM R k j) k 0 (by omega) (by decide)
     rw [List.getElem?_toArray, ← Nat.add_zero (k * 1), h8, hjl]
     rfl
    refine Zw rfl (.int .i64 ((j : Nat) : Int)) (el (NT.cell _ hcl) Tryz.underlying3) (Zi rfl (IntKind.i64.wrap (((j : Nat) : Int) + 1)) ((((j : Nat) : Int) + 1)) (by rw [IntKind.wrap_i64]; omega) (Zw rfl (pt bN ((k * 1))) (ex_index rfl bN 0 c.n c.n k 1 (k * 1) (by kernel_rfl) (by kernel_rfl) Tryz.underlying42 (by kernel_rfl) (by omega) (by omega)) ?_))
    refine sx_do (by kernel_rfl) rfl (Y5.setCells bN (k * 1) [.int .i64 (((j : Nat) : Int) + 1)]) (ex_storeC (k := k * 1) (old := .int .i64 ((j : Nat) : Int)) (v := .int .i64 (((j : Nat) : Int) + 1)) rfl NT hcl (by kernel_rfl) (by kernel_rfl) (by kernel_rfl) (by kernel_rfl)) ?_
    obtain ⟨W6, hW⟩ : ∃ W, Y5.setCells bN (k * 1) [.int .i64 (((j : Nat) : Int) + 1)] = W := ⟨_, rfl⟩
    have hg9 : Y5.grownBy W6 (some bN) := hW ▸ grown_sets _ _ _ _
    have hq : Cb W6 bN ((c.slM R k (j + 1)).flatMap inE).toArray 3 := by
     rw [← CrT.slM_set hk, ← setN_flat inRow (((j : Nat) : Int) + 1) _ k (by omega), ← hW]
     exact Cb.setsN [.int .i64 (((j : Nat) : Int) + 1)] Y5 (k * 1) _ NT
    rw [hW]
    replace HB := HB.grown hg9 (by omega) (oG (by omega))
    replace hM := hM.kept hg9 (fun i hi => by have h8 := hM9 i hi; omega)
    have z4 := hg9.size
    replace NT := hq
    have yNT := NT.lt
    clear hq hg9 hW
    refine Yn ?_
    refine sx_in ?_
    refine Yo ?_
    have hok := (CrT.okD_iff hc hrun hk (j + 1)).2 ⟨by omega, by rw [show (((j + 1 : Nat)) : Int) = ((j : Nat) : Int) + 1 from rfl]; omega⟩
    have hoc := CrT.okD_c hk hok
    have hsl2 : c.slF R k (4097 - (j + 1)) (j + 1) = c.sl R k := by
     rw [← hsl, show 4097 - j = (4097 - (j + 1)) + 1 by omega]
     show _ = if c.okD R k ((j : Int) + 1) then _ else _
     exact (if_pos hok).symm
    exact sx_again (4097 - (j + 1)) (j + 1) (by omega) (by kernel_rfl) ⟨by omega, Nat.le_refl _, hsl2, NT, hM, HB, yNT, by omega⟩
   refine Zt 30 rfl rfl (.bool false) (fun w9 _ => ex_bool (decide ((((c.lg R k).sin + ((j : Nat) : Int)) + 1) ≤ (c.mo R (c.n - 1 - k) k (j + 1)))) false (by kernel_rfl) (decide_eq_false (by omega))) ⟨hB, hM, hN, (hSt.below HB), (hTm.below HB), (hSn.below HB), trivial⟩ ?_
   refine Zu 31 rfl rfl (.bool false) ⟨hB, hM, hN, (hSt.below HB), (hTm.below HB), (hSn.below HB), trivial⟩ ?_
   refine sd_done (by kernel_rfl) ?_
   refine Yo (sx_false (by kernel_rfl) (wp_exit ?_))
   refine sx_es ?_
   refine sx_es ?_
   refine sx_out ?_
   refine sx_in ?_
   refine Yo (Yr (Zv rfl (.int .i64 ((k : Nat) : Int)) (Zi rfl (IntKind.i64.wrap (((k : Nat) : Int) - 1)) ((((k : Nat) : Int) - 1)) (by rw [IntKind.wrap_i64]; omega) (Zv rfl (.int .i64 (((k : Nat) : Int) - 1)) (Yn (Yo ?_))))))
   have hsj : c.sl R k = j := by
    rw [← hsl]
    cases hq9 : 4097 - j with
    | zero => rfl
    | succ f =>
     show (if c.okD R k ((j : Int) + 1) then _ else j) = j
     rw [if_neg (fun h => by have h7 := (CrT.okD_iff hc hrun hk (j + 1)).1 h; rw [show (((j + 1 : Nat)) : Int) = ((j : Nat) : Int) + 1 from rfl] at h7; omega)]
   rw [← hsj, CrT.slM_all] at NT
   exact sx_again k (k, ((k : Nat) : Int) - 1, o9, (c.moL R k).length, c9, b9, q9) (by omega) (by kernel_rfl) ⟨rfl, by show k ≤ _; omega, Nat.le_refl _, (fun _ => ⟨rfl, hM⟩), NT, HB, NT.lt⟩
  refine Zt 7 rfl rfl (.bool false) (fun w9 _ => ex_bool (decide (((j + 1 : Nat) : Int) < (((c.moL R k).length : Nat) : Int))) false (by kernel_rfl) (decide_eq_false (by omega))) ⟨hB, hM, hN, (hSt.below HB), (hTm.below HB), (hSn.below HB), trivial⟩ ?_
  refine Zu 8 rfl rfl (.bool false) ⟨hB, hM, hN, (hSt.below HB), (hTm.below HB), (hSn.below HB), trivial⟩ ?_
  refine Zp 9 rfl rfl ⟨hB, hM, hN, (hSt.below HB), (hTm.below HB), (hSn.below HB), trivial⟩ ?_
  refine Zp 10 rfl rfl ⟨hB, hM, hN, (hSt.below HB), (hTm.below HB), (hSn.below HB), trivial⟩ ?_
  refine Zp 11 rfl rfl ⟨hB, hM, hN, (hSt.below HB), (hTm.below HB), (hSn.below HB), trivial⟩ ?_
  refine Zp 12 rfl rfl ⟨hB, hM, hN, (hSt.below HB), (hTm.below HB), (hSn.below HB), trivial⟩ ?_
  refine Zp 13 rfl rfl ⟨hB, hM, hN, (hSt.below HB), (hTm.below HB), (hSn.below HB), trivial⟩ ?_
  refine Zp 14 rfl rfl ⟨hB, hM, hN, (hSt.below HB), (hTm.below HB), (hSn.below HB), trivial⟩ ?_
  refine Zp 15 rfl rfl ⟨hB, hM, hN, (hSt.below HB), (hTm.below HB), (hSn.below HB), trivial⟩ ?_
  refine Zp 16 rfl rfl ⟨hB, hM, hN, (hSt.below HB), (hTm.below HB), (hSn.below HB), trivial⟩ ?_
  refine Zp 17 rfl rfl ⟨hB, hM, hN, (hSt.below HB), (hTm.below HB), (hSn.below HB), trivial⟩ ?_
  refine Zp 18 rfl rfl ⟨hB, hM, hN, (hSt.below HB), (hTm.below HB), (hSn.below HB), trivial⟩ ?_
  refine Zp 19 rfl rfl ⟨hB, hM, hN, (hSt.below HB), (hTm.below HB), (hSn.below HB), trivial⟩ ?_
  refine Zp 20 rfl rfl ⟨hB, hM, hN, (hSt.below HB), (hTm.below HB), (hSn.below HB), trivial⟩ ?_
  refine Zp 21 rfl rfl ⟨hB, hM, hN, (hSt.below HB), (hTm.below HB), (hSn.below HB), trivial⟩ ?_
  refine Zp 22 rfl rfl ⟨hB, hM, hN, (hSt.below HB), (hTm.below HB), (hSn.below HB), trivial⟩ ?_
  refine Zp 23 rfl rfl ⟨hB, hM, hN, (hSt.below HB), (hTm.below HB), (hSn.below HB), trivial⟩ ?_
  refine Zp 24 rfl rfl ⟨hB, hM, hN, (hSt.below HB), (hTm.below HB), (hSn.below HB), trivial⟩ ?_
  refine Zp 25 rfl rfl ⟨hB, hM, hN, (hSt.below HB), (hTm.below HB), (hSn.below HB), trivial⟩ ?_
  refine Zp 26 rfl rfl ⟨hB, hM, hN, (hSt.below HB), (hTm.below HB), (hSn.below HB), trivial⟩ ?_
  refine Zp 27 rfl rfl ⟨hB, hM, hN, (hSt.below HB), (hTm.below HB), (hSn.below HB), trivial⟩ ?_
  refine Zp 28 rfl rfl ⟨hB, hM, hN, (hSt.below HB), (hTm.below HB), (hSn.below HB), trivial⟩ ?_
  refine Zp 29 rfl rfl ⟨hB, hM, hN, (hSt.below HB), (hTm.below HB), (hSn.below HB), trivial⟩ ?_
  refine Zp 30 rfl rfl ⟨hB, hM, hN, (hSt.below HB), (hTm.below HB), (hSn.below HB), trivial⟩ ?_
  refine Zu 31 rfl rfl (.bool false) ⟨hB, hM, hN, (hSt.below HB), (hTm.below HB), (hSn.below HB), trivial⟩ ?_
  refine sd_done (by kernel_rfl) ?_
  refine Yo (sx_false (by kernel_rfl) (wp_exit ?_))
  refine sx_es ?_
  refine sx_es ?_
  refine sx_out ?_
  refine sx_in ?_
  refine Yo (Yr (Zv rfl (.int .i64 ((k : Nat) : Int)) (Zi rfl (IntKind.i64.wrap (((k : Nat) : Int) - 1)) ((((k : Nat) : Int) - 1)) (by rw [IntKind.wrap_i64]; omega) (Zv rfl (.int .i64 (((k : Nat) : Int) - 1)) (Yn (Yo ?_))))))
  have hsj : c.sl R k = j := by
   rw [← hsl]
   cases hq9 : 4097 - j with
   | zero => rfl
   | succ f =>
    show (if c.okD R k ((j : Int) + 1) then _ else j) = j
    rw [if_neg (fun h => by have h7 := (CrT.okD_iff hc hrun hk (j + 1)).1 h; rw [show (((j + 1 : Nat)) : Int) = ((j : Nat) : Int) + 1 from rfl] at h7; omega)]
  rw [← hsj, CrT.slM_all] at NT
  exact sx_again k (k, ((k : Nat) : Int) - 1, o9, (c.moL R k).length, c9, b9, q9) (by omega) (by kernel_rfl) ⟨rfl, by show k ≤ _; omega, Nat.le_refl _, (fun _ => ⟨rfl, hM⟩), NT, HB, NT.lt⟩
 refine Zb rfl (decide (z ≥ 0)) false (decide_eq_false (by omega)) (Yn (Yo (sx_false (by kernel_rfl) (wp_exit ?_))))
 refine sx_es ?_
 refine sx_es ?_
 refine sx_out ?_
 refine Yo (Yq (Zv rfl (.slice (some ⟨bN, 0, none⟩) c.n c.n) (Zv rfl (.slice (some ⟨bN, 0, none⟩) c.n c.n) (Yn (Yo (wp_ret ?_))))))
 obtain rfl : i = 0 := by omega
 rw [CrT.slK_zero] at NT
 have h9 := Rw.of_flat inRow 0 NT
 have hsn := c.slL_len R
 refine sx_ret1 (.slice (some ⟨bN, 0, none⟩) c.n c.n) rfl rfl (by kernel_rfl) ⟨c.n, bN, by rw [hsn], NT, by omega, HB⟩

end Go.Proofs.YtomebalolmabnaaGreatDoor.T



