/-
  DERIVED. GB: a part of the base of layer 13 (made by pack.py).
-/
import Derived.Test.YtomebalolmabnaaGreatDoorGA
import Derived.Test.YtomebalolmabnaaGreatDoorHK
import Derived.Test.YtomebalolmabnaaGreatDoorHS
import Derived.Laws.MakeOwn
/-! The walk of drive: the way from a stop (by gen_db.py). -/
namespace Go.Proofs.YtomebalolmabnaaGreatDoor.T
open Go.RowKit
set_option maxRecDepth 8000
attribute [local irreducible] wpList Code.wp wpAnyH

def legC (l : LegT) : Array Value := #[.int .i64 l.dep, .int .i64 l.arr, .int .i64 l.beg, .int .i64 l.don, .int .i64 l.sin, .int .i64 l.mil]
def CrT.legA (c : CrT) (k : Nat) (don sin : Int) (r : Bool) : LegT := if c.err k don sin r = 0 then c.leg k don sin r else leg0
theorem CrT.late_ne (c : CrT) (k : Nat) : c.late k ≠ 0 := by unfold CrT.late; split <;> decide
theorem ret_leg {c : CrT} {k : Nat} {don sin : Int} {r : Bool} {l : LegT} {e : Int} (he : e = c.err k don sin r) (hl : l = if c.err k don sin r = 0 then c.leg k don sin r else leg0) : Ending.returned (.tuple #[.agg (legC l), .int .i64 e]) = .returned (.tuple #[.agg (legC (c.legA k don sin r)), .int .i64 (c.err k don sin r)]) := by rw [he, hl]; rfl
theorem next_true (c : CrT) (hc : c.Ok) (K : CV) (q : Nat) (w : World) (hK : Crw w c K q) (k : Nat) (hk : k < c.n) (don sin : Int) (hd : 0 ≤ don ∧ don ≤ 8192) (_ : 0 ≤ sin ∧ sin ≤ 4096) : Calls Tryz.prog 88 #[.pointer (some ⟨q, 0, none⟩), .int .i64 ((k : Nat) : Int), .int .i64 don, .int .i64 sin, .bool true] w fun e w' => e = .returned (.tuple #[.agg (legC (c.legA k don sin true)), .int .i64 (c.err k don sin true)]) ∧ Below w.heap.size w w' := by
 have HB : Below w.heap.size w w := Below.refl _ _
 have hB := hK.blk
 have yhB := hB.lt
 have hS := hK.st
 have hln := hc.len
 have hrst := hc.rst
 have hdrv := hc.drv
 have hrd := hc.rd
 have hk2 : k + 1 < c.S.length := by unfold CrT.n at hk; omega
 have hst := hc.st (k + 1) hk2
 have hgD : (c.gD don true) = don + c.ty.rst := rfl
 refine sx_enter Tryz.func88 rfl [(0, .pointer (some ⟨q, 0, none⟩)), (1, .int .i64 ((k : Nat) : Int)), (2, .int .i64 don), (3, .int .i64 sin), (4, .bool true)] (by kernel_rfl) ?_
 refine Yq ?_
 refine Za rfl nZ6 113 (fun W1 hb M2 z1 yM2 => ?_)
 replace HB := over HB hb
 replace hB := hB.below hb
 clear hb
 refine Zv rfl (.int .i64 0) (Yn (Yo (Ys (Yq (Zv rfl (.bool true) (Yn (Yo (sx_true (by kernel_rfl) (Yr (Zv rfl (.int .i64 don) (Zv rfl (pt q 0) (Zv rfl (pt q 0) (Zv rfl (pt q 2) (Zv rfl (pt q 12) (Zw rfl (.int .i64 c.ty.rst) (el (hB.cell 12 rfl) Tryz.underlying3) ?_)))))))))))))))
 refine Zi rfl (IntKind.i64.wrap (don + c.ty.rst)) ((c.gD don true)) (by rw [IntKind.wrap_i64, hgD]; omega) (Zv rfl (.int .i64 (c.gD don true)) (Zv rfl (.int .i64 0) (Yn (Yo (Yq (Zv rfl (pt q 0) (Zv rfl (pt q 0) (Zv rfl (pt q 17) (Zw rfl (.slice K.o2 c.S.length K.c2) (el (hB.cell 17 rfl) Tryz.underlying83) (Zv rfl (.int .i64 ((k : Nat) : Int)) (Zi rfl (IntKind.i64.wrap (((k : Nat) : Int) + 1)) (((k + 1 : Nat) : Int)) (by rw [IntKind.wrap_i64]; omega) (Zw rfl (pt K.bs (K.os + (k + 1) * 4)) (ex_indexO (q := K.os) (m := c.S.length) (c := K.c2) (k := k + 1) (s := 4) rfl (by kernel_rfl) ((hS.below HB).oa (k := k + 1) (by omega)) (by kernel_rfl) Tryz.underlying83 (by kernel_rfl) (by omega) (by omega)) (Zw rfl (.agg (pK (c.S.getD (k + 1) st0))) (ex_loadR rfl ((hS.below HB).range (k := k + 1) (by omega)) (by kernel_rfl) Tryz.underlying76 rfl (by kernel_rfl)) ?_)))))))))))))
 obtain ⟨W4, hW⟩ : ∃ W, (W1.alloc (.cells nZ4 76)).setRow W1.heap.size (pK (c.S.getD (k + 1) st0)) = W := ⟨_, rfl⟩
 have hb := hW ▸ below_var W1 (.cells nZ4 76) (pK (c.S.getD (k + 1) st0))
 have hq : Cb W4 W1.heap.size (pK (c.S.getD (k + 1) st0)) 76 := hW ▸ Cb.row (Cb.made W1 nZ4 76) _
 refine sx_mem (by kernel_rfl) rfl rfl (pt W1.heap.size 0) (W1.alloc (.cells nZ4 76)) (by kernel_rfl) ?_
 refine Zs (cells := (pK (c.S.getD (k + 1) st0))) rfl rfl (Cb.made W1 nZ4 76) ?_
 rw [hW]
 replace HB := over HB hb
 replace hB := hB.below hb
 replace M2 := M2.below hb
 have z2 := hb.size
 have M3 := hq
 have yM3 := hq.lt
 clear hq hb hW
 refine Yn (Yo (Ys ?_))
 obtain ⟨Y5, hW⟩ : ∃ W, W4.drew = W := ⟨_, rfl⟩
 have hb : Below W4.heap.size W4 Y5 := hW ▸ below_drew (Below.refl _ _)
 replace HB := over HB hb
 replace hB := hB.below hb
 replace M2 := M2.below hb
 replace M3 := M3.below hb
 have z3 := hb.size
 clear hb
 refine sd_begin (fun W => Cb W (q) #[.slice K.o0 c.pl.length K.c0, .slice K.o1 c.al.length K.c1, .string c.ty.name, .int .i64 c.ty.count, .int .i64 c.ty.fr, .int .i64 c.ty.to, .slice K.va c.ty.cap.length K.vb, .int .i64 c.ty.skills, .int .i64 c.ty.prof, .int .i64 c.ty.opn, .int .i64 c.ty.cls, .int .i64 c.ty.drv, .int .i64 c.ty.rst, .int .i64 c.ty.fix, .int .i64 c.ty.pm, .int .i64 c.ty.pt, .int .i64 c.rd, .slice K.o2 c.S.length K.c2] 156 ∧ Cb W (w.heap.size) nZ6 113 ∧ Cb W (W1.heap.size) (pK (c.S.getD (k + 1) st0)) 76 ∧ Rw W K.bs K.os 4 (sF c.S) c.S.length K.o2 ∧ True) (by kernel_rfl) (by rw [hW]; exact ⟨hB, M2, M3, (hS.below HB), trivial⟩) ?_
 rw [hW]
 clear hW
 refine Zu 0 rfl rfl (pt q 0) ⟨hB, M2, M3, (hS.below HB), trivial⟩ ?_
 refine Zu 1 rfl rfl (pt q 0) ⟨hB, M2, M3, (hS.below HB), trivial⟩ ?_
 refine Zu 2 rfl rfl (pt q 0) ⟨hB, M2, M3, (hS.below HB), trivial⟩ ?_
 refine Zt 3 rfl rfl (.agg #[.slice K.o0 c.pl.length K.c0, .slice K.o1 c.al.length K.c1]) (fun w9 h9 => ex_mid (q := 0) rfl h9.1 [.slice K.o0 c.pl.length K.c0, .slice K.o1 c.al.length K.c1] (by kernel_rfl) Tryz.underlying25 rfl (by kernel_rfl) rfl) ⟨hB, M2, M3, (hS.below HB), trivial⟩ ?_
 refine Zu 4 rfl rfl (pt q 0) ⟨hB, M2, M3, (hS.below HB), trivial⟩ ?_
 refine Zu 5 rfl rfl (pt q 0) ⟨hB, M2, M3, (hS.below HB), trivial⟩ ?_
 refine Zu 6 rfl rfl (pt q 2) ⟨hB, M2, M3, (hS.below HB), trivial⟩ ?_
 refine Zu 7 rfl rfl (pt q 8) ⟨hB, M2, M3, (hS.below HB), trivial⟩ ?_
 refine Zt 8 rfl rfl (.int .i64 c.ty.prof) (fun w9 h9 => el (h9.1.cell 8 rfl) Tryz.underlying3) ⟨hB, M2, M3, (hS.below HB), trivial⟩ ?_
 refine Zu 9 rfl rfl (pt q 0) ⟨hB, M2, M3, (hS.below HB), trivial⟩ ?_
 refine Zu 10 rfl rfl (pt q 0) ⟨hB, M2, M3, (hS.below HB), trivial⟩ ?_
 refine Zu 11 rfl rfl (pt q 17) ⟨hB, M2, M3, (hS.below HB), trivial⟩ ?_
 refine Zt 12 rfl rfl (.slice K.o2 c.S.length K.c2) (fun w9 h9 => el (h9.1.cell 17 rfl) Tryz.underlying83) ⟨hB, M2, M3, (hS.below HB), trivial⟩ ?_
 refine Zu 13 rfl rfl (.int .i64 ((k : Nat) : Int)) ⟨hB, M2, M3, (hS.below HB), trivial⟩ ?_
 refine Zt 14 rfl rfl (pt K.bs (K.os + k * 4)) (fun w9 h9 => ex_indexO (q := K.os) (m := c.S.length) (c := K.c2) (k := k) (s := 4) rfl (by kernel_rfl) (h9.2.2.2.1.oa (k := k) (by omega)) (by kernel_rfl) Tryz.underlying83 (by kernel_rfl) (by omega) (by omega)) ⟨hB, M2, M3, (hS.below HB), trivial⟩ ?_
 refine Zu 15 rfl rfl (pt K.bs (K.os + k * 4)) ⟨hB, M2, M3, (hS.below HB), trivial⟩ ?_
 refine Zt 16 rfl rfl (.int .i64 ((c.S.getD k st0).p)) (fun w9 h9 => el (h9.2.2.2.1.cell (k := k) (by omega) 0 rfl) Tryz.underlying3) ⟨hB, M2, M3, (hS.below HB), trivial⟩ ?_
 refine Zu 17 rfl rfl (pt W1.heap.size 0) ⟨hB, M2, M3, (hS.below HB), trivial⟩ ?_
 refine Zt 18 rfl rfl (.int .i64 ((c.S.getD (k + 1) st0).p)) (fun w9 h9 => el (h9.2.2.1.cell 0 rfl) Tryz.underlying3) ⟨hB, M2, M3, (hS.below HB), trivial⟩ ?_
 refine Zu 19 rfl rfl (.int .i64 (c.gD don true)) ⟨hB, M2, M3, (hS.below HB), trivial⟩ ?_
 refine sd_all [20] (by kernel_rfl) (by decide) ?_
 refine sd_call (i := 20) rfl (by kernel_rfl) rfl rfl ((show Calls Tryz.prog 59 #[.agg #[.slice K.o0 c.pl.length K.c0, .slice K.o1 c.al.length K.c1], .int .i64 c.ty.prof, .int .i64 (c.S.getD k st0).p, .int .i64 (c.S.getD (k + 1) st0).p, .int .i64 (c.gD don true)] Y5 (GoP (c.go k don true) Y5) from go_n (.slice K.o0 c.pl.length K.c0) (.slice K.o1 c.al.length K.c1) c.pl c.al c.ty.prof (c.S.getD k st0).p (c.S.getD (k + 1) st0).p (c.gD don true) hc.al hc.net (by omega) (by omega) Y5 (hK.pl.below HB) (hK.al.below HB) (hK.tab.belowD HB))) (by kernel_rfl) ?_ AllReadyH.nil
 rintro e W6 ⟨rfl, hb⟩
 replace HB := over HB hb
 replace hB := hB.below hb
 replace M2 := M2.below hb
 replace M3 := M3.below hb
 have z4 := hb.size
 clear hb
 refine ⟨_, rfl, ⟨hB, M2, M3, (hS.below HB), trivial⟩, ?_⟩
 refine Zu 21 rfl rfl (.tuple #[.int .i64 ((c.go k don true).1), .int .i64 ((c.go k don true).2.1), .int .i64 ((c.go k don true).2.2)]) ⟨hB, M2, M3, (hS.below HB), trivial⟩ ?_
 refine Zu 22 rfl rfl (.int .i64 ((c.go k don true).1)) ⟨hB, M2, M3, (hS.below HB), trivial⟩ ?_
 refine Zu 23 rfl rfl (.int .i64 ((c.go k don true).2.1)) ⟨hB, M2, M3, (hS.below HB), trivial⟩ ?_
 refine Zu 24 rfl rfl (.int .i64 ((c.go k don true).2.2)) ⟨hB, M2, M3, (hS.below HB), trivial⟩ ?_
 refine Zu 25 rfl rfl (.int .i64 ((c.go k don true).1)) ⟨hB, M2, M3, (hS.below HB), trivial⟩ ?_
 refine Zu 26 rfl rfl (.int .i64 ((c.go k don true).2.1)) ⟨hB, M2, M3, (hS.below HB), trivial⟩ ?_
 refine Zu 27 rfl rfl (.int .i64 ((c.go k don true).2.2)) ⟨hB, M2, M3, (hS.below HB), trivial⟩ ?_
 refine sd_done (by kernel_rfl) ?_
 refine Yo (Ys (Yq (Zv rfl (.int .i64 ((c.go k don true).2.2)) ?_)))
 by_cases C1 : (c.go k don true).2.2 = 0
 ·refine Zb rfl (((c.go k don true).2.2 : Int) != (0 : Int)) false (by rw [bne_eq_false_iff_eq]; omega) (Yn (Yo (sx_false (by kernel_rfl) (wp_skip (Yo (Ys ?_))))))
  have hgb : (c.gD don true) ≤ (c.go k don true).1 ∧ (c.go k don true).1 ≤ (c.gD don true) + 73728 ∧ 0 ≤ (c.go k don true).2.1 ∧ (c.go k don true).2.1 ≤ 10000 := CrT.goV_bd hc.net (d := (c.gD don true)) (by omega) (by assumption)
  refine Yr (Zv rfl (.int .i64 0) (Zv rfl (.int .i64 ((c.go k don true).1)) (Zv rfl (.int .i64 (c.gD don true)) (Zi rfl (IntKind.i64.wrap ((c.go k don true).1 - (c.gD don true))) (((c.go k don true).1 - (c.gD don true))) (by rw [IntKind.wrap_i64]; omega) (Zi rfl (IntKind.i64.wrap (0 + ((c.go k don true).1 - (c.gD don true)))) ((0 + ((c.go k don true).1 - (c.gD don true)))) (by rw [IntKind.wrap_i64]; omega) (Zv rfl (.int .i64 (0 + ((c.go k don true).1 - (c.gD don true)))) (Yn (Yo (Yq (Zw rfl (.agg (pK (c.S.getD (k + 1) st0))) (ex_load rfl M3 (by kernel_rfl) Tryz.underlying76 rfl (by kernel_rfl)) (Zv rfl (.int .i64 ((c.go k don true).1)) ?_)))))))))))
  by_cases C2 : (c.S.getD (k + 1) st0).c < (c.go k don true).1
  ·refine Zd rfl ((by have h8 := begin_n (c.S.getD (k + 1) st0).p (c.S.getD (k + 1) st0).o (c.S.getD (k + 1) st0).c (c.S.getD (k + 1) st0).s (c.go k don true).1 (by omega) W6; rw [if_pos C2, if_pos C2] at h8; exact h8)) (fun W7 hb z5 => ?_)
   replace HB := over HB hb
   replace M2 := M2.below hb
   clear hb
   refine Zv rfl (.tuple #[.int .i64 0, .int .i64 14]) (Zv rfl (.int .i64 0) (Zv rfl (.int .i64 14) (Zv rfl (.int .i64 0) (Zv rfl (.int .i64 14) (Yn (Yo (Ys (Yq (Zv rfl (.int .i64 14) (Zv rfl (.bool true) (Yn (Yo (sx_true (by kernel_rfl) (Yq (Zv rfl (.agg nZ6) ?_)))))))))))))))
   refine Zv rfl (pt q 0) (Zv rfl (.int .i64 ((k : Nat) : Int)) (Zi rfl (IntKind.i64.wrap (((k : Nat) : Int) + 1)) (((k + 1 : Nat) : Int)) (by rw [IntKind.wrap_i64]; omega) ?_))
   refine Zc rfl (late_n c hc K q W7 (hK.below HB) (k + 1) (by omega)) ?_
   rintro e w9 ⟨rfl, rfl⟩
   refine ⟨_, rfl, ?_⟩
   refine Zr (cells := nZ6) rfl rfl M2 (fun W8 hg hq => ?_)
   replace HB := HB.grown hg (by omega) (oG (by omega))
   have z6 := hg.size
   replace M2 := hq
   clear hq hg
   refine Zv rfl (.int .i64 (c.late (k + 1))) (Yn (Yo (wp_ret (sx_rs ?_))))
   have he9 : (c.late (k + 1)) = c.err k don sin true := by
    unfold CrT.err
    rw [if_neg (fun h => h (by assumption)), if_pos (by assumption)]
   exact sx_retct M2 rfl rfl rfl (by kernel_rfl) (by kernel_rfl) Tryz.underlying113 rfl (by kernel_rfl) ⟨ret_leg (l := leg0) he9 (by rw [if_neg (by rw [← he9]; exact c.late_ne _)]), HB⟩
  refine Zd rfl ((show Calls Tryz.prog 48 _ W6 (fun e w' => e = .returned (.tuple #[.int .i64 (c.beg k don true), .int .i64 0]) ∧ Below W6.heap.size W6 w') from by have h8 := begin_n (c.S.getD (k + 1) st0).p (c.S.getD (k + 1) st0).o (c.S.getD (k + 1) st0).c (c.S.getD (k + 1) st0).s (c.go k don true).1 (by omega) W6; rw [if_neg C2, if_neg C2] at h8; exact h8)) (fun W9 hb z5 => ?_)
  replace HB := over HB hb
  replace hB := hB.below hb
  replace M2 := M2.below hb
  replace M3 := M3.below hb
  clear hb
  refine Zv rfl (.tuple #[.int .i64 (c.beg k don true), .int .i64 0]) (Zv rfl (.int .i64 (c.beg k don true)) (Zv rfl (.int .i64 0) (Zv rfl (.int .i64 (c.beg k don true)) (Zv rfl (.int .i64 0) (Yn (Yo (Ys (Yq (Zv rfl (.int .i64 0) (Zv rfl (.bool false) (Yn (Yo (sx_false (by kernel_rfl) (wp_skip (Yo (Ys (Ys ?_)))))))))))))))))
  have hbg : c.beg k don true = if (c.go k don true).1 < (c.S.getD (k + 1) st0).o then (c.S.getD (k + 1) st0).o else (c.go k don true).1 := rfl
  have hbb : 0 ≤ c.beg k don true ∧ c.beg k don true ≤ 4096 := by rw [hbg]; split <;> omega
  refine Yr (Zv rfl (.int .i64 (0 + ((c.go k don true).1 - (c.gD don true)))) (Zv rfl (pt q 0) (Zv rfl (pt q 0) (Zv rfl (pt q 2) (Zv rfl (pt q 11) (Zw rfl (.int .i64 c.ty.drv) (el (hB.cell 11 rfl) Tryz.underlying3) ?_))))))
  by_cases C3 : (0 + ((c.go k don true).1 - (c.gD don true))) > c.ty.drv
  ·refine Zb rfl (decide ((0 + ((c.go k don true).1 - (c.gD don true))) > c.ty.drv)) true (decide_eq_true (by omega)) (Yn (Yo (sx_true (by kernel_rfl) (Yq (Zv rfl (.agg nZ6) ?_)))))
   refine Zr (cells := nZ6) rfl rfl M2 (fun W10 hg hq => ?_)
   replace HB := HB.grown hg (by omega) (oG (by omega))
   have z6 := hg.size
   replace M2 := hq
   clear hq hg
   refine Zv rfl (.int .i64 16) (Yn (Yo (wp_ret (sx_rs ?_))))
   have he9 : 16 = c.err k don sin true := by
    unfold CrT.err
    rw [if_neg (fun h => h (by assumption)), if_neg (by assumption), if_pos (by show c.ty.drv < 0 + ((c.go k don true).1 - (c.gD don true)); omega)]
   exact sx_retct M2 rfl rfl rfl (by kernel_rfl) (by kernel_rfl) Tryz.underlying113 rfl (by kernel_rfl) ⟨ret_leg (l := leg0) he9 (by rw [if_neg (by rw [← he9]; decide)]), HB⟩
  refine Zb rfl (decide ((0 + ((c.go k don true).1 - (c.gD don true))) > c.ty.drv)) false (decide_eq_false (by omega)) (Yn (Yo (sx_false (by kernel_rfl) (wp_skip (Yo (Yq (Zv rfl (.int .i64 (c.gD don true)) (Zv rfl (.int .i64 ((c.go k don true).1)) (Zv rfl (.int .i64 (c.beg k don true)) (Zv rfl (.int .i64 (c.beg k don true)) (Zv rfl (pt W1.heap.size 3) (Zw rfl (.int .i64 ((c.S.getD (k + 1) st0).s)) (el (M3.cell 3 rfl) Tryz.underlying3) (Zi rfl (IntKind.i64.wrap ((c.beg k don true) + (c.S.getD (k + 1) st0).s)) (((c.beg k don true) + (c.S.getD (k + 1) st0).s)) (by rw [IntKind.wrap_i64]; omega) (Zv rfl (.int .i64 (0 + ((c.go k don true).1 - (c.gD don true)))) ?_))))))))))))))
  refine Zv rfl (.int .i64 ((c.go k don true).2.1)) (Zv rfl (.agg #[.int .i64 (c.gD don true), .int .i64 ((c.go k don true).1), .int .i64 (c.beg k don true), .int .i64 ((c.beg k don true) + (c.S.getD (k + 1) st0).s), .int .i64 (0 + ((c.go k don true).1 - (c.gD don true))), .int .i64 ((c.go k don true).2.1)]) ?_)
  refine Zr (cells := #[.int .i64 (c.gD don true), .int .i64 ((c.go k don true).1), .int .i64 (c.beg k don true), .int .i64 ((c.beg k don true) + (c.S.getD (k + 1) st0).s), .int .i64 (0 + ((c.go k don true).1 - (c.gD don true))), .int .i64 ((c.go k don true).2.1)]) rfl rfl M2 (fun W11 hg hq => ?_)
  replace HB := HB.grown hg (by omega) (oG (by omega))
  have z6 := hg.size
  replace M2 := hq
  clear hq hg
  refine Zv rfl (.int .i64 0) (Yn (Yo (wp_ret ?_)))
  have he9 : 0 = c.err k don sin true := by
   unfold CrT.err
   rw [if_neg (fun h => h (by assumption)), if_neg (by assumption), if_neg (by show ¬ c.ty.drv < 0 + ((c.go k don true).1 - (c.gD don true)); omega)]
  exact sx_retct M2 rfl rfl rfl (by kernel_rfl) (by kernel_rfl) Tryz.underlying113 rfl (by kernel_rfl) ⟨ret_leg (l := (c.leg k don sin true)) he9 (by rw [if_pos he9.symm]), HB⟩
 refine Zb rfl (((c.go k don true).2.2 : Int) != (0 : Int)) true (bne_iff_ne.2 (by omega)) (Yn (Yo (sx_true (by kernel_rfl) (Yq (Zv rfl (.agg nZ6) ?_)))))
 refine Zr (cells := nZ6) rfl rfl M2 (fun W12 hg hq => ?_)
 replace HB := HB.grown hg (by omega) (oG (by omega))
 have z5 := hg.size
 replace M2 := hq
 clear hq hg
 refine Zv rfl (.int .i64 12) (Yn (Yo (wp_ret (sx_rs ?_))))
 have he9 : 12 = c.err k don sin true := by
  unfold CrT.err
  rw [if_pos (by assumption)]
 exact sx_retct M2 rfl rfl rfl (by kernel_rfl) (by kernel_rfl) Tryz.underlying113 rfl (by kernel_rfl) ⟨ret_leg (l := leg0) he9 (by rw [if_neg (by rw [← he9]; decide)]), HB⟩

theorem next_false (c : CrT) (hc : c.Ok) (K : CV) (q : Nat) (w : World) (hK : Crw w c K q) (k : Nat) (hk : k < c.n) (don sin : Int) (hd : 0 ≤ don ∧ don ≤ 8192) (hs : 0 ≤ sin ∧ sin ≤ 4096) : Calls Tryz.prog 88 #[.pointer (some ⟨q, 0, none⟩), .int .i64 ((k : Nat) : Int), .int .i64 don, .int .i64 sin, .bool false] w fun e w' => e = .returned (.tuple #[.agg (legC (c.legA k don sin false)), .int .i64 (c.err k don sin false)]) ∧ Below w.heap.size w w' := by
 have HB : Below w.heap.size w w := Below.refl _ _
 have hB := hK.blk
 have yhB := hB.lt
 have hS := hK.st
 have hln := hc.len
 have hrst := hc.rst
 have hdrv := hc.drv
 have hrd := hc.rd
 have hk2 : k + 1 < c.S.length := by unfold CrT.n at hk; omega
 have hst := hc.st (k + 1) hk2
 refine sx_enter Tryz.func88 rfl [(0, .pointer (some ⟨q, 0, none⟩)), (1, .int .i64 ((k : Nat) : Int)), (2, .int .i64 don), (3, .int .i64 sin), (4, .bool false)] (by kernel_rfl) ?_
 refine Yq ?_
 refine Za rfl nZ6 113 (fun W1 hb M2 z1 yM2 => ?_)
 replace HB := over HB hb
 replace hB := hB.below hb
 clear hb
 refine Zv rfl (.int .i64 0) (Yn (Yo (Ys (Yq (Zv rfl (.bool false) (Yn (Yo (sx_false (by kernel_rfl) (wp_skip (Yo (Yq (Zv rfl (pt q 0) (Zv rfl (pt q 0) (Zv rfl (pt q 17) (Zw rfl (.slice K.o2 c.S.length K.c2) (el (hB.cell 17 rfl) Tryz.underlying83) (Zv rfl (.int .i64 ((k : Nat) : Int)) (Zi rfl (IntKind.i64.wrap (((k : Nat) : Int) + 1)) (((k + 1 : Nat) : Int)) (by rw [IntKind.wrap_i64]; omega) ?_)))))))))))))))))
 refine Zw rfl (pt K.bs (K.os + (k + 1) * 4)) (ex_indexO (q := K.os) (m := c.S.length) (c := K.c2) (k := k + 1) (s := 4) rfl (by kernel_rfl) ((hS.below HB).oa (k := k + 1) (by omega)) (by kernel_rfl) Tryz.underlying83 (by kernel_rfl) (by omega) (by omega)) (Zw rfl (.agg (pK (c.S.getD (k + 1) st0))) (ex_loadR rfl ((hS.below HB).range (k := k + 1) (by omega)) (by kernel_rfl) Tryz.underlying76 rfl (by kernel_rfl)) ?_)
 obtain ⟨W4, hW⟩ : ∃ W, (W1.alloc (.cells nZ4 76)).setRow W1.heap.size (pK (c.S.getD (k + 1) st0)) = W := ⟨_, rfl⟩
 have hb := hW ▸ below_var W1 (.cells nZ4 76) (pK (c.S.getD (k + 1) st0))
 have hq : Cb W4 W1.heap.size (pK (c.S.getD (k + 1) st0)) 76 := hW ▸ Cb.row (Cb.made W1 nZ4 76) _
 refine sx_mem (by kernel_rfl) rfl rfl (pt W1.heap.size 0) (W1.alloc (.cells nZ4 76)) (by kernel_rfl) ?_
 refine Zs (cells := (pK (c.S.getD (k + 1) st0))) rfl rfl (Cb.made W1 nZ4 76) ?_
 rw [hW]
 replace HB := over HB hb
 replace hB := hB.below hb
 replace M2 := M2.below hb
 have z2 := hb.size
 have M3 := hq
 have yM3 := hq.lt
 clear hq hb hW
 refine Yn (Yo (Ys ?_))
 obtain ⟨Y5, hW⟩ : ∃ W, W4.drew = W := ⟨_, rfl⟩
 have hb : Below W4.heap.size W4 Y5 := hW ▸ below_drew (Below.refl _ _)
 replace HB := over HB hb
 replace hB := hB.below hb
 replace M2 := M2.below hb
 replace M3 := M3.below hb
 have z3 := hb.size
 clear hb
 refine sd_begin (fun W => Cb W (q) #[.slice K.o0 c.pl.length K.c0, .slice K.o1 c.al.length K.c1, .string c.ty.name, .int .i64 c.ty.count, .int .i64 c.ty.fr, .int .i64 c.ty.to, .slice K.va c.ty.cap.length K.vb, .int .i64 c.ty.skills, .int .i64 c.ty.prof, .int .i64 c.ty.opn, .int .i64 c.ty.cls, .int .i64 c.ty.drv, .int .i64 c.ty.rst, .int .i64 c.ty.fix, .int .i64 c.ty.pm, .int .i64 c.ty.pt, .int .i64 c.rd, .slice K.o2 c.S.length K.c2] 156 ∧ Cb W (w.heap.size) nZ6 113 ∧ Cb W (W1.heap.size) (pK (c.S.getD (k + 1) st0)) 76 ∧ Rw W K.bs K.os 4 (sF c.S) c.S.length K.o2 ∧ True) (by kernel_rfl) (by rw [hW]; exact ⟨hB, M2, M3, (hS.below HB), trivial⟩) ?_
 rw [hW]
 clear hW
 refine Zu 0 rfl rfl (pt q 0) ⟨hB, M2, M3, (hS.below HB), trivial⟩ ?_
 refine Zu 1 rfl rfl (pt q 0) ⟨hB, M2, M3, (hS.below HB), trivial⟩ ?_
 refine Zu 2 rfl rfl (pt q 0) ⟨hB, M2, M3, (hS.below HB), trivial⟩ ?_
 refine Zt 3 rfl rfl (.agg #[.slice K.o0 c.pl.length K.c0, .slice K.o1 c.al.length K.c1]) (fun w9 h9 => ex_mid (q := 0) rfl h9.1 [.slice K.o0 c.pl.length K.c0, .slice K.o1 c.al.length K.c1] (by kernel_rfl) Tryz.underlying25 rfl (by kernel_rfl) rfl) ⟨hB, M2, M3, (hS.below HB), trivial⟩ ?_
 refine Zu 4 rfl rfl (pt q 0) ⟨hB, M2, M3, (hS.below HB), trivial⟩ ?_
 refine Zu 5 rfl rfl (pt q 0) ⟨hB, M2, M3, (hS.below HB), trivial⟩ ?_
 refine Zu 6 rfl rfl (pt q 2) ⟨hB, M2, M3, (hS.below HB), trivial⟩ ?_
 refine Zu 7 rfl rfl (pt q 8) ⟨hB, M2, M3, (hS.below HB), trivial⟩ ?_
 refine Zt 8 rfl rfl (.int .i64 c.ty.prof) (fun w9 h9 => el (h9.1.cell 8 rfl) Tryz.underlying3) ⟨hB, M2, M3, (hS.below HB), trivial⟩ ?_
 refine Zu 9 rfl rfl (pt q 0) ⟨hB, M2, M3, (hS.below HB), trivial⟩ ?_
 refine Zu 10 rfl rfl (pt q 0) ⟨hB, M2, M3, (hS.below HB), trivial⟩ ?_
 refine Zu 11 rfl rfl (pt q 17) ⟨hB, M2, M3, (hS.below HB), trivial⟩ ?_
 refine Zt 12 rfl rfl (.slice K.o2 c.S.length K.c2) (fun w9 h9 => el (h9.1.cell 17 rfl) Tryz.underlying83) ⟨hB, M2, M3, (hS.below HB), trivial⟩ ?_
 refine Zu 13 rfl rfl (.int .i64 ((k : Nat) : Int)) ⟨hB, M2, M3, (hS.below HB), trivial⟩ ?_
 refine Zt 14 rfl rfl (pt K.bs (K.os + k * 4)) (fun w9 h9 => ex_indexO (q := K.os) (m := c.S.length) (c := K.c2) (k := k) (s := 4) rfl (by kernel_rfl) (h9.2.2.2.1.oa (k := k) (by omega)) (by kernel_rfl) Tryz.underlying83 (by kernel_rfl) (by omega) (by omega)) ⟨hB, M2, M3, (hS.below HB), trivial⟩ ?_
 refine Zu 15 rfl rfl (pt K.bs (K.os + k * 4)) ⟨hB, M2, M3, (hS.below HB), trivial⟩ ?_
 refine Zt 16 rfl rfl (.int .i64 ((c.S.getD k st0).p)) (fun w9 h9 => el (h9.2.2.2.1.cell (k := k) (by omega) 0 rfl) Tryz.underlying3) ⟨hB, M2, M3, (hS.below HB), trivial⟩ ?_
 refine Zu 17 rfl rfl (pt W1.heap.size 0) ⟨hB, M2, M3, (hS.below HB), trivial⟩ ?_
 refine Zt 18 rfl rfl (.int .i64 ((c.S.getD (k + 1) st0).p)) (fun w9 h9 => el (h9.2.2.1.cell 0 rfl) Tryz.underlying3) ⟨hB, M2, M3, (hS.below HB), trivial⟩ ?_
 refine Zu 19 rfl rfl (.int .i64 don) ⟨hB, M2, M3, (hS.below HB), trivial⟩ ?_
 refine sd_all [20] (by kernel_rfl) (by decide) ?_
 refine sd_call (i := 20) rfl (by kernel_rfl) rfl rfl ((show Calls Tryz.prog 59 #[.agg #[.slice K.o0 c.pl.length K.c0, .slice K.o1 c.al.length K.c1], .int .i64 c.ty.prof, .int .i64 (c.S.getD k st0).p, .int .i64 (c.S.getD (k + 1) st0).p, .int .i64 don] Y5 (GoP (c.go k don false) Y5) from go_n (.slice K.o0 c.pl.length K.c0) (.slice K.o1 c.al.length K.c1) c.pl c.al c.ty.prof (c.S.getD k st0).p (c.S.getD (k + 1) st0).p don hc.al hc.net (by omega) (by omega) Y5 (hK.pl.below HB) (hK.al.below HB) (hK.tab.belowD HB))) (by kernel_rfl) ?_ AllReadyH.nil
 rintro e W6 ⟨rfl, hb⟩
 replace HB := over HB hb
 replace hB := hB.below hb
 replace M2 := M2.below hb
 replace M3 := M3.below hb
 have z4 := hb.size
 clear hb
 refine ⟨_, rfl, ⟨hB, M2, M3, (hS.below HB), trivial⟩, ?_⟩
 refine Zu 21 rfl rfl (.tuple #[.int .i64 ((c.go k don false).1), .int .i64 ((c.go k don false).2.1), .int .i64 ((c.go k don false).2.2)]) ⟨hB, M2, M3, (hS.below HB), trivial⟩ ?_
 refine Zu 22 rfl rfl (.int .i64 ((c.go k don false).1)) ⟨hB, M2, M3, (hS.below HB), trivial⟩ ?_
 refine Zu 23 rfl rfl (.int .i64 ((c.go k don false).2.1)) ⟨hB, M2, M3, (hS.below HB), trivial⟩ ?_
 refine Zu 24 rfl rfl (.int .i64 ((c.go k don false).2.2)) ⟨hB, M2, M3, (hS.below HB), trivial⟩ ?_
 refine Zu 25 rfl rfl (.int .i64 ((c.go k don false).1)) ⟨hB, M2, M3, (hS.below HB), trivial⟩ ?_
 refine Zu 26 rfl rfl (.int .i64 ((c.go k don false).2.1)) ⟨hB, M2, M3, (hS.below HB), trivial⟩ ?_
 refine Zu 27 rfl rfl (.int .i64 ((c.go k don false).2.2)) ⟨hB, M2, M3, (hS.below HB), trivial⟩ ?_
 refine sd_done (by kernel_rfl) ?_
 refine Yo (Ys (Yq (Zv rfl (.int .i64 ((c.go k don false).2.2)) ?_)))
 by_cases C1 : (c.go k don false).2.2 = 0
 ·refine Zb rfl (((c.go k don false).2.2 : Int) != (0 : Int)) false (by rw [bne_eq_false_iff_eq]; omega) (Yn (Yo (sx_false (by kernel_rfl) (wp_skip (Yo (Ys ?_))))))
  have hgb : don ≤ (c.go k don false).1 ∧ (c.go k don false).1 ≤ don + 73728 ∧ 0 ≤ (c.go k don false).2.1 ∧ (c.go k don false).2.1 ≤ 10000 := CrT.goV_bd hc.net (d := don) (by omega) (by assumption)
  refine Yr (Zv rfl (.int .i64 sin) (Zv rfl (.int .i64 ((c.go k don false).1)) (Zv rfl (.int .i64 don) (Zi rfl (IntKind.i64.wrap ((c.go k don false).1 - don)) (((c.go k don false).1 - don)) (by rw [IntKind.wrap_i64]; omega) (Zi rfl (IntKind.i64.wrap (sin + ((c.go k don false).1 - don))) ((sin + ((c.go k don false).1 - don))) (by rw [IntKind.wrap_i64]; omega) (Zv rfl (.int .i64 (sin + ((c.go k don false).1 - don))) (Yn (Yo (Yq (Zw rfl (.agg (pK (c.S.getD (k + 1) st0))) (ex_load rfl M3 (by kernel_rfl) Tryz.underlying76 rfl (by kernel_rfl)) (Zv rfl (.int .i64 ((c.go k don false).1)) ?_)))))))))))
  by_cases C2 : (c.S.getD (k + 1) st0).c < (c.go k don false).1
  ·refine Zd rfl ((by have h8 := begin_n (c.S.getD (k + 1) st0).p (c.S.getD (k + 1) st0).o (c.S.getD (k + 1) st0).c (c.S.getD (k + 1) st0).s (c.go k don false).1 (by omega) W6; rw [if_pos C2, if_pos C2] at h8; exact h8)) (fun W7 hb z5 => ?_)
   replace HB := over HB hb
   replace M2 := M2.below hb
   clear hb
   refine Zv rfl (.tuple #[.int .i64 0, .int .i64 14]) (Zv rfl (.int .i64 0) (Zv rfl (.int .i64 14) (Zv rfl (.int .i64 0) (Zv rfl (.int .i64 14) (Yn (Yo (Ys (Yq (Zv rfl (.int .i64 14) (Zv rfl (.bool true) (Yn (Yo (sx_true (by kernel_rfl) (Yq (Zv rfl (.agg nZ6) ?_)))))))))))))))
   refine Zv rfl (pt q 0) (Zv rfl (.int .i64 ((k : Nat) : Int)) (Zi rfl (IntKind.i64.wrap (((k : Nat) : Int) + 1)) (((k + 1 : Nat) : Int)) (by rw [IntKind.wrap_i64]; omega) ?_))
   refine Zc rfl (late_n c hc K q W7 (hK.below HB) (k + 1) (by omega)) ?_
   rintro e w9 ⟨rfl, rfl⟩
   refine ⟨_, rfl, ?_⟩
   refine Zr (cells := nZ6) rfl rfl M2 (fun W8 hg hq => ?_)
   replace HB := HB.grown hg (by omega) (oG (by omega))
   have z6 := hg.size
   replace M2 := hq
   clear hq hg
   refine Zv rfl (.int .i64 (c.late (k + 1))) (Yn (Yo (wp_ret (sx_rs ?_))))
   have he9 : (c.late (k + 1)) = c.err k don sin false := by
    unfold CrT.err
    rw [if_neg (fun h => h (by assumption)), if_pos (by assumption)]
   exact sx_retct M2 rfl rfl rfl (by kernel_rfl) (by kernel_rfl) Tryz.underlying113 rfl (by kernel_rfl) ⟨ret_leg (l := leg0) he9 (by rw [if_neg (by rw [← he9]; exact c.late_ne _)]), HB⟩
  refine Zd rfl ((show Calls Tryz.prog 48 _ W6 (fun e w' => e = .returned (.tuple #[.int .i64 (c.beg k don false), .int .i64 0]) ∧ Below W6.heap.size W6 w') from by have h8 := begin_n (c.S.getD (k + 1) st0).p (c.S.getD (k + 1) st0).o (c.S.getD (k + 1) st0).c (c.S.getD (k + 1) st0).s (c.go k don false).1 (by omega) W6; rw [if_neg C2, if_neg C2] at h8; exact h8)) (fun W9 hb z5 => ?_)
  replace HB := over HB hb
  replace hB := hB.below hb
  replace M2 := M2.below hb
  replace M3 := M3.below hb
  clear hb
  refine Zv rfl (.tuple #[.int .i64 (c.beg k don false), .int .i64 0]) (Zv rfl (.int .i64 (c.beg k don false)) (Zv rfl (.int .i64 0) (Zv rfl (.int .i64 (c.beg k don false)) (Zv rfl (.int .i64 0) (Yn (Yo (Ys (Yq (Zv rfl (.int .i64 0) (Zv rfl (.bool false) (Yn (Yo (sx_false (by kernel_rfl) (wp_skip (Yo (Ys (Ys ?_)))))))))))))))))
  have hbg : c.beg k don false = if (c.go k don false).1 < (c.S.getD (k + 1) st0).o then (c.S.getD (k + 1) st0).o else (c.go k don false).1 := rfl
  have hbb : 0 ≤ c.beg k don false ∧ c.beg k don false ≤ 4096 := by rw [hbg]; split <;> omega
  refine Yr (Zv rfl (.int .i64 (sin + ((c.go k don false).1 - don))) (Zv rfl (pt q 0) (Zv rfl (pt q 0) (Zv rfl (pt q 2) (Zv rfl (pt q 11) (Zw rfl (.int .i64 c.ty.drv) (el (hB.cell 11 rfl) Tryz.underlying3) ?_))))))
  by_cases C3 : (sin + ((c.go k don false).1 - don)) > c.ty.drv
  ·refine Zb rfl (decide ((sin + ((c.go k don false).1 - don)) > c.ty.drv)) true (decide_eq_true (by omega)) (Yn (Yo (sx_true (by kernel_rfl) (Yq (Zv rfl (.agg nZ6) ?_)))))
   refine Zr (cells := nZ6) rfl rfl M2 (fun W10 hg hq => ?_)
   replace HB := HB.grown hg (by omega) (oG (by omega))
   have z6 := hg.size
   replace M2 := hq
   clear hq hg
   refine Zv rfl (.int .i64 16) (Yn (Yo (wp_ret (sx_rs ?_))))
   have he9 : 16 = c.err k don sin false := by
    unfold CrT.err
    rw [if_neg (fun h => h (by assumption)), if_neg (by assumption), if_pos (by show c.ty.drv < sin + ((c.go k don false).1 - don); omega)]
   exact sx_retct M2 rfl rfl rfl (by kernel_rfl) (by kernel_rfl) Tryz.underlying113 rfl (by kernel_rfl) ⟨ret_leg (l := leg0) he9 (by rw [if_neg (by rw [← he9]; decide)]), HB⟩
  refine Zb rfl (decide ((sin + ((c.go k don false).1 - don)) > c.ty.drv)) false (decide_eq_false (by omega)) (Yn (Yo (sx_false (by kernel_rfl) (wp_skip (Yo (Yq (Zv rfl (.int .i64 don) (Zv rfl (.int .i64 ((c.go k don false).1)) (Zv rfl (.int .i64 (c.beg k don false)) (Zv rfl (.int .i64 (c.beg k don false)) (Zv rfl (pt W1.heap.size 3) (Zw rfl (.int .i64 ((c.S.getD (k + 1) st0).s)) (el (M3.cell 3 rfl) Tryz.underlying3) (Zi rfl (IntKind.i64.wrap ((c.beg k don false) + (c.S.getD (k + 1) st0).s)) (((c.beg k don false) + (c.S.getD (k + 1) st0).s)) (by rw [IntKind.wrap_i64]; omega) (Zv rfl (.int .i64 (sin + ((c.go k don false).1 - don))) ?_))))))))))))))
  refine Zv rfl (.int .i64 ((c.go k don false).2.1)) (Zv rfl (.agg #[.int .i64 don, .int .i64 ((c.go k don false).1), .int .i64 (c.beg k don false), .int .i64 ((c.beg k don false) + (c.S.getD (k + 1) st0).s), .int .i64 (sin + ((c.go k don false).1 - don)), .int .i64 ((c.go k don false).2.1)]) ?_)
  refine Zr (cells := #[.int .i64 don, .int .i64 ((c.go k don false).1), .int .i64 (c.beg k don false), .int .i64 ((c.beg k don false) + (c.S.getD (k + 1) st0).s), .int .i64 (sin + ((c.go k don false).1 - don)), .int .i64 ((c.go k don false).2.1)]) rfl rfl M2 (fun W11 hg hq => ?_)
  replace HB := HB.grown hg (by omega) (oG (by omega))
  have z6 := hg.size
  replace M2 := hq
  clear hq hg
  refine Zv rfl (.int .i64 0) (Yn (Yo (wp_ret ?_)))
  have he9 : 0 = c.err k don sin false := by
   unfold CrT.err
   rw [if_neg (fun h => h (by assumption)), if_neg (by assumption), if_neg (by show ¬ c.ty.drv < sin + ((c.go k don false).1 - don); omega)]
  exact sx_retct M2 rfl rfl rfl (by kernel_rfl) (by kernel_rfl) Tryz.underlying113 rfl (by kernel_rfl) ⟨ret_leg (l := (c.leg k don sin false)) he9 (by rw [if_pos he9.symm]), HB⟩
 refine Zb rfl (((c.go k don false).2.2 : Int) != (0 : Int)) true (bne_iff_ne.2 (by omega)) (Yn (Yo (sx_true (by kernel_rfl) (Yq (Zv rfl (.agg nZ6) ?_)))))
 refine Zr (cells := nZ6) rfl rfl M2 (fun W12 hg hq => ?_)
 replace HB := HB.grown hg (by omega) (oG (by omega))
 have z5 := hg.size
 replace M2 := hq
 clear hq hg
 refine Zv rfl (.int .i64 12) (Yn (Yo (wp_ret (sx_rs ?_))))
 have he9 : 12 = c.err k don sin false := by
  unfold CrT.err
  rw [if_pos (by assumption)]
 exact sx_retct M2 rfl rfl rfl (by kernel_rfl) (by kernel_rfl) Tryz.underlying113 rfl (by kernel_rfl) ⟨ret_leg (l := leg0) he9 (by rw [if_neg (by rw [← he9]; decide)]), HB⟩

theorem next_n (c : CrT) (hc : c.Ok) (K : CV) (q : Nat) (w : World) (hK : Crw w c K q) (k : Nat) (hk : k < c.n) (don sin : Int) (hd : 0 ≤ don ∧ don ≤ 8192) (hs : 0 ≤ sin ∧ sin ≤ 4096) (r : Bool) : Calls Tryz.prog 88 #[.pointer (some ⟨q, 0, none⟩), .int .i64 ((k : Nat) : Int), .int .i64 don, .int .i64 sin, .bool r] w fun e w' => e = .returned (.tuple #[.agg (legC (c.legA k don sin r)), .int .i64 (c.err k don sin r)]) ∧ Below w.heap.size w w' := by
 cases r
 ·exact next_false c hc K q w hK k hk don sin hd hs
 ·exact next_true c hc K q w hK k hk don sin hd hs

end Go.Proofs.YtomebalolmabnaaGreatDoor.T



/-! Lists of structs of the call's own: grown, made, written. -/
namespace Go.Proofs.YtomebalolmabnaaGreatDoor.T
open Go.RowKit
set_option maxRecDepth 8000

section
variable {α : Type} {E : α → List Value} {sz : Nat}
structure Row (E : α → List Value) (sz : Nat) : Prop where
 len : ∀ x, (E x).length = sz
 one : ∀ x, ∀ v ∈ E x, v.oneCell' = true
theorem Row.flen (h : Row E sz) : ∀ L : List α, (L.flatMap E).length = L.length * sz
 | [] => by simp
 | x :: L => by rw [List.flatMap_cons, List.length_append, h.len, Row.flen h L, List.length_cons, Nat.add_mul]; omega
theorem Row.at_ (h : Row E sz) (d : α) : ∀ (L : List α) (k j : Nat), k < L.length → j < sz → (L.flatMap E)[k * sz + j]? = (E (L.getD k d))[j]?
 | [], _, _, hk, _ => absurd hk (Nat.not_lt_zero _)
 | x :: L, 0, j, _, hj => by
  rw [List.flatMap_cons, Nat.zero_mul, Nat.zero_add, List.getElem?_append_left (by rw [h.len]; exact hj)]
  rfl
 | x :: L, k + 1, j, hk, hj => by
  rw [List.flatMap_cons, List.getElem?_append_right (by rw [h.len, Nat.add_mul]; omega), h.len, show (k + 1) * sz + j - sz = k * sz + j by rw [Nat.add_mul]; omega, Row.at_ h d L k j (by simpa using hk) hj]
  rfl
def Ol (E : α → List Value) (e : TypeId) (sz : Nat) (B : Nat) (w : World) (v : Value) (L : List α) : Prop := w.ownsRow B e sz v L.length (L.flatMap E)
variable {e : TypeId} {B : Nat} {w w' : World} {v : Value} {L : List α}
theorem Ol.nil (e : TypeId) (B : Nat) (w : World) : Ol E e sz B w (.slice none 0 0) [] := ⟨by simp, .inl ⟨rfl, rfl⟩⟩
theorem Ol.below (h : Ol E e sz B w v L) (k : Below w.heap.size w w') : Ol E e sz B w' v L := own_below h k
theorem Ol.form (h : Ol E e sz B w v L) : ∃ oa c, v = .slice oa L.length c := by
 rcases h.2 with ⟨rfl, h0⟩ | ⟨g, cap, cur, rfl, -⟩
 ·exact ⟨none, 0, by rw [h0]⟩
 ·exact ⟨_, _, rfl⟩
theorem Ol.blk (h : Ol E e sz B w v L) {g : Nat} (hg : v.ownBlock = some g) : B ≤ g ∧ g < w.heap.size := by
 rcases h.2 with ⟨rfl, h0⟩ | ⟨g', cap, cur, rfl, hb, hc, -⟩
 ·cases hg
 ·simp only [Value.ownBlock, Option.some.injEq] at hg
  subst hg
  exact ⟨hb, (Array.getElem?_eq_some_iff.1 hc).1⟩
theorem Ol.mono (h : Ol E e sz B w v L) {B' : Nat} (hB : B' ≤ B) : Ol E e sz B' w v L := by
 refine ⟨h.1, ?_⟩
 rcases h.2 with h0 | ⟨g, cap, cur, rfl, hb, rest⟩
 ·exact .inl h0
 ·exact .inr ⟨g, cap, cur, rfl, Nat.le_trans hB hb, rest⟩
theorem Ol.rw (hr : Row E sz) (d : α) {oa : Option Addr} {c : Nat} (h : Ol E e sz B w (.slice oa L.length c) L) : ∃ b o, Rw w b o sz (fun k => E (L.getD k d)) L.length oa := by
 rcases h.2 with ⟨-, h0⟩ | ⟨g, cap, cur, e9, hb, hg, -⟩
 ·exact ⟨0, 0, fun i hi => by omega⟩
 ·simp only [Value.slice.injEq] at e9
  refine ⟨g, 0, fun i hi => ⟨by rw [e9.1], (Array.getElem?_eq_some_iff.1 hg).1, fun j u hj => ?_⟩⟩
  have hjs : j < sz := by
   have := (List.getElem?_eq_some_iff.1 hj).1
   rw [hr.len] at this
   exact this
  have hh := (show w.ownsRow B e sz (.slice oa L.length c) L.length (L.flatMap E) from h).cells (g := g) (by rw [e9.1]; rfl) (i * sz + j) u (by rw [hr.at_ d L i j hi hjs]; exact hj)
  have e8 : (⟨g, 0, none⟩ : Addr).add (i * sz + j) = ⟨g, 0 + i * sz + j, none⟩ := by
   unfold Addr.add
   split
   ·rename_i h7; simp only [Addr.mk.injEq, and_true, true_and]; omega
   ·simp only [Nat.zero_add]
  rw [e8] at hh
  exact hh
theorem ap_o {P : Program} {t ty : TypeId} {z : Value} {bytes : Nat} (hr : Row E sz) (ht : P.underlying t = some (.slice e)) (hinfo : (P.info? e).map (fun i => (i.zero, i.size, i.bytes)) = some (some z, sz, bytes)) (hz : z.cells.size = sz) (hsz : 0 < sz) (hb1 : bytes ≤ 1000) {q : Nat} {cs : Array Value} {tq : TypeId} {x : α} (hv : Ol E e sz B w v L) (hc : Cb w q cs tq) (hx : cs.toList = E x) (hB : B ≤ w.heap.size) (hn : L.length ≤ 1000000) :
  ∃ v' w', (Builtin.append_ #[t, t] ty #[v, .slice (some ⟨q, 0, none⟩) 1 1]).run P w = .ok v' w' ∧ Ol E e sz B w' v' (L ++ [x]) ∧ Below B w w' ∧ w.grownBy w' v.ownBlock ∧ (v'.ownBlock = v.ownBlock ∨ v'.ownBlock = some w.heap.size) := by
 obtain ⟨i, hi, hzz⟩ := Option.map_eq_some_iff.1 hinfo
 simp only [Prod.mk.injEq] at hzz
 obtain ⟨h1, h2, h3⟩ := hzz
 have hb9 : (L.length + 1) * bytes ≤ 140737488355328 := Nat.le_trans (Nat.mul_le_mul (show L.length + 1 ≤ 1000001 by omega) hb1) (by decide)
 obtain ⟨v', w', g1, g2, g3, -, g5⟩ := run_append_own_at (P := P) w B t ty e i z sz bytes ht hi h1 h2 h3 hz hsz v L.length (L.flatMap E) hv ⟨q, 0, none⟩ 1 1 (E x) (by rw [hr.len, Nat.one_mul]) (fun j u hj => by
  rw [← hx] at hj
  have hj2 : cs[j]? = some u := by rw [← Array.getElem?_toList]; exact hj
  have := hc.cell j hj2
  rw [show (⟨q, 0, none⟩ : Addr).add j = ⟨q, j, none⟩ by
   unfold Addr.add
   split
   ·rename_i h7; simp only [Addr.mk.injEq, and_true, true_and]; omega
   ·simp only [Nat.zero_add]]
  exact this) (hr.one x) (by unfold maxLen; omega) hb9 hB
 refine ⟨v', w', g1, ?_, ⟨g3.os, g3.tape, g3.output, g3.size, fun k hk => g3.block k (by omega) (fun e9 => by have := hv.blk e9.symm; omega)⟩, g3, g5⟩
 unfold Ol
 rw [List.length_append, List.flatMap_append, List.flatMap_cons, List.flatMap_nil, List.append_nil]
 exact g2
theorem ex_make0 {P : Program} {n : Nat} {g : Nat → Value} {l : List (Nat × Value)} {o : Oper} {t : TypeId} {x y : Operand} (ho : o.op = .makeSlice t x y) {k : Nat} {z : Value} {bytes : Nat} (hx : ev n g l x = .int .i64 0) (hy : ev n g l y = .int .i64 (k : Nat)) (ht : P.underlying t = some (.slice e)) (hinfo : (P.info? e).map (fun i => (i.zero, i.size, i.bytes)) = some (some z, sz, bytes))
  (hb1 : bytes ≤ 1000) (hk : k ≤ 1000000) : (execOp (ev n g l) o).run P w = .ok (.value (.slice (some ⟨w.heap.size, 0, none⟩) 0 k)) (w.alloc (.cells (madeCells z.cells (k * sz)) e)) := by
 obtain ⟨i, hi, hzz⟩ := Option.map_eq_some_iff.1 hinfo
 simp only [Prod.mk.injEq] at hzz
 obtain ⟨h1, h2, h3⟩ := hzz
 have hb9 : bytes * k ≤ 281474976710656 := Nat.le_trans (Nat.mul_le_mul hb1 hk) (by decide)
 have hr := run_make (P := P) w t e i z ht hi h1 .i64 .i64 0 (k : Nat) (Int.le_refl _) (by omega) (by rw [h3, ← Int.natCast_mul]; omega) (by omega)
 rw [h2] at hr
 unfold execOp
 simp only [ho, hx, hy, hr, Sem.run_bind, Sem.run_pure, Result.andThen_ok]
 rfl
theorem Ol.made0 {q k : Nat} {z : Array Value} (hc : Cb w q (madeCells z (k * sz)) e) (hB : B ≤ q) (hk : k ≤ 1000000) : Ol E e sz B w (.slice (some ⟨q, 0, none⟩) 0 k) [] :=
 (⟨by simp, .inr ⟨q, k, madeCells z (k * sz), rfl, hB, hc, Nat.zero_le _, by unfold maxLen; omega, size_madeCells _ _, by simp⟩⟩ : w.ownsRow B e sz _ 0 _)
theorem ex_makeF {P : Program} {n : Nat} {g : Nat → Value} {l : List (Nat × Value)} {o : Oper} {t : TypeId} {x y : Operand} (ho : o.op = .makeSlice t x y) {k : Nat} {z : Value} {bytes : Nat} (hx : ev n g l x = .int .i64 (k : Nat)) (hy : ev n g l y = .int .i64 (k : Nat)) (ht : P.underlying t = some (.slice e)) (hinfo : (P.info? e).map (fun i => (i.zero, i.size, i.bytes)) = some (some z, sz, bytes))
  (hb1 : bytes ≤ 1000) (hk : k ≤ 1000000) : (execOp (ev n g l) o).run P w = .ok (.value (.slice (some ⟨w.heap.size, 0, none⟩) k k)) (w.alloc (.cells (madeCells z.cells (k * sz)) e)) := by
 obtain ⟨i, hi, hzz⟩ := Option.map_eq_some_iff.1 hinfo
 simp only [Prod.mk.injEq] at hzz
 obtain ⟨h1, h2, h3⟩ := hzz
 have hb9 : bytes * k ≤ 281474976710656 := Nat.le_trans (Nat.mul_le_mul hb1 hk) (by decide)
 have hr := run_make (P := P) w t e i z ht hi h1 .i64 .i64 (k : Nat) (k : Nat) (by omega) (Int.le_refl _) (by rw [h3, ← Int.natCast_mul]; omega) (by omega)
 rw [h2] at hr
 unfold execOp
 simp only [ho, hx, hy, hr, Sem.run_bind, Sem.run_pure, Result.andThen_ok]
 rfl
theorem madeF (hr : Row E sz) {z : Array Value} {d : α} (hd : z.toList = E d) (hsz : 0 < sz) (k : Nat) : madeCells z (k * sz) = ((List.replicate k d).flatMap E).toArray := by
 have hz : z.size = sz := by rw [← hr.len d, ← hd, Array.length_toList]
 apply Array.ext_getElem?
 intro j
 have hR : ((List.replicate k d).flatMap E).toArray[j]? = ((List.replicate k d).flatMap E)[j]? := by simp
 rw [hR]
 by_cases hj : j < k * sz
 ·have h1 : j / sz < k := Nat.div_lt_of_lt_mul (by rw [Nat.mul_comm]; exact hj)
  have h2 : j % sz < sz := Nat.mod_lt _ hsz
  have h3 : j = (j / sz) * sz + j % sz := by rw [Nat.mul_comm]; exact (Nat.div_add_mod j sz).symm
  have h4 := hr.at_ d (List.replicate k d) (j / sz) (j % sz) (by rw [List.length_replicate]; exact h1) h2
  rw [← h3] at h4
  rw [h4]
  have h5 : (List.replicate k d).getD (j / sz) d = d := by
   rw [List.getD_eq_getElem?_getD, List.getElem?_replicate]
   split <;> rfl
  rw [h5, ← hd, Array.getElem?_toList]
  unfold madeCells
  rw [Array.getElem?_map, Array.getElem?_range, if_pos hj]
  simp only [Option.map_some, hz]
  rw [Array.getElem?_eq_getElem (by omega), getElem!_pos z (j % sz) (by omega)]
 ·rw [Array.getElem?_eq_none (by rw [size_madeCells]; omega), List.getElem?_eq_none (by rw [hr.flen, List.length_replicate]; omega)]
theorem setN_at : ∀ (vs cs : List Value) (p j : Nat), p + vs.length ≤ cs.length → (setN cs p vs)[j]? = if p ≤ j ∧ j < p + vs.length then vs[j - p]? else cs[j]?
 | [], cs, p, j, _ => by
  rw [if_neg (by simp only [List.length_nil]; omega)]
  rfl
 | v :: vs, cs, p, j, h => by
  rw [List.length_cons] at h
  show (setN (cs.set p v) (p + 1) vs)[j]? = _
  rw [setN_at vs (cs.set p v) (p + 1) j (by rw [List.length_set]; omega), List.length_cons]
  by_cases h1 : j = p
  ·subst h1
   rw [if_neg (by omega), if_pos (by omega), List.getElem?_set_self (by omega), Nat.sub_self]
   rfl
  ·by_cases h2 : p + 1 ≤ j ∧ j < p + 1 + vs.length
   ·rw [if_pos h2, if_pos (by omega), show j - p = (j - (p + 1)) + 1 by omega, List.getElem?_cons_succ]
   ·rw [if_neg h2, if_neg (by omega), List.getElem?_set_ne (fun h => h1 h.symm)]
theorem setN_flat (hr : Row E sz) (x : α) : ∀ (L : List α) (k : Nat), k < L.length → setN (L.flatMap E) (k * sz) (E x) = (L.set k x).flatMap E := fun L k hk => by
 apply List.ext_getElem?
 intro j
 have hl : (setN (L.flatMap E) (k * sz) (E x)).length = L.length * sz := by rw [setN_len, hr.flen]
 by_cases hj : j < L.length * sz
 ·have hsz : 0 < sz := Nat.pos_of_ne_zero fun e9 => by rw [e9, Nat.mul_zero] at hj; omega
  have h1 : j / sz < L.length := Nat.div_lt_of_lt_mul (by rw [Nat.mul_comm]; exact hj)
  have h2 : j % sz < sz := Nat.mod_lt _ hsz
  have h3 : j = (j / sz) * sz + j % sz := by rw [Nat.mul_comm]; exact (Nat.div_add_mod j sz).symm
  have h4 := hr.at_ x (L.set k x) (j / sz) (j % sz) (by rw [List.length_set]; exact h1) h2
  rw [← h3] at h4
  rw [h4, setN_at _ _ _ _ (by rw [hr.len, hr.flen]; have := Nat.mul_le_mul_right sz (show k + 1 ≤ L.length by omega); rw [Nat.add_mul] at this; omega)]
  by_cases e9 : j / sz = k
  ·have : k * sz ≤ j ∧ j < k * sz + (E x).length := by rw [hr.len, ← e9]; omega
   rw [if_pos this, List.getD_eq_getElem?_getD, e9, List.getElem?_set_self (by omega)]
   simp only [Option.getD_some]
   congr 1
   rw [← e9]; omega
  ·have h5 := hr.at_ x L (j / sz) (j % sz) h1 h2
   rw [← h3] at h5
   have : ¬ (k * sz ≤ j ∧ j < k * sz + (E x).length) := fun h9 => e9 (by
    rw [hr.len] at h9
    have a1 : k ≤ j / sz := (Nat.le_div_iff_mul_le hsz).2 h9.1
    have a2 : j / sz < k + 1 := Nat.div_lt_of_lt_mul (by rw [Nat.mul_comm, Nat.add_mul]; omega)
    omega)
   rw [if_neg this, h5, List.getD_eq_getElem?_getD, List.getD_eq_getElem?_getD, List.getElem?_set_ne (fun h => e9 h.symm)]
 ·rw [List.getElem?_eq_none (by omega), List.getElem?_eq_none (by rw [hr.flen, List.length_set]; omega)]
theorem Rw.of_flat (hr : Row E sz) (d : α) {q : Nat} (hc : Cb w q (L.flatMap E).toArray e) : Rw w q 0 sz (fun k => E (L.getD k d)) L.length (some ⟨q, 0, none⟩) := fun i hi => ⟨rfl, hc.lt, fun j u hj => by
 have hjs : j < sz := by
  have := (List.getElem?_eq_some_iff.1 hj).1
  rw [hr.len] at this
  exact this
 have h1 := hc.cell (i * sz + j) (v := u) (by rw [List.getElem?_toArray, hr.at_ d L i j hi hjs]; exact hj)
 rw [Nat.zero_add]
 exact h1⟩
end
end Go.Proofs.YtomebalolmabnaaGreatDoor.T



/-! The walk of drive: the ways with given rests (by gen_dc.py). -/
namespace Go.Proofs.YtomebalolmabnaaGreatDoor.T
open Go.RowKit
set_option maxRecDepth 8000
attribute [local irreducible] wpList Code.wp wpAnyH

def legE (l : LegT) : List Value := [.int .i64 l.dep, .int .i64 l.arr, .int .i64 l.beg, .int .i64 l.don, .int .i64 l.sin, .int .i64 l.mil]
theorem legRow : Row legE 6 := ⟨fun _ => rfl, fun x v hv => by
 simp only [legE, List.mem_cons, List.not_mem_nil, or_false] at hv
 rcases hv with rfl | rfl | rfl | rfl | rfl | rfl <;> rfl⟩
def legZ : Value := .agg #[.int .i64 0, .int .i64 0, .int .i64 0, .int .i64 0, .int .i64 0, .int .i64 0]
def CrT.legs (c : CrT) (R : List Bool) (k : Nat) : List LegT := (List.range k).map (c.lg R)
theorem CrT.legs_succ (c : CrT) (R : List Bool) (k : Nat) : c.legs R (k + 1) = c.legs R k ++ [c.lg R k] := by unfold CrT.legs; rw [List.range_succ, List.map_append]; rfl
theorem CrT.legs_len (c : CrT) (R : List Bool) (k : Nat) : (c.legs R k).length = k := by unfold CrT.legs; simp
theorem CrT.legs_at (c : CrT) (R : List Bool) {k m : Nat} (h : k < m) : (c.legs R m).getD k leg0 = c.lg R k := by
 unfold CrT.legs
 rw [List.getD_eq_getElem?_getD, List.getElem?_map, List.getElem?_range h]
 rfl
def CrT.legsA (c : CrT) (R : List Bool) : List LegT := if c.run R c.n = 0 then c.legs R c.n else []
theorem bd_run {c : CrT} {R : List Bool} {k : Nat} (h : c.run R k = 0) (he : c.er R k = 0) : c.run R (k + 1) = 0 := by rw [CrT.run_succ, if_neg (fun h9 => h9 h)]; exact he
theorem run_n (c : CrT) (hc : c.Ok) (K : CV) (q : Nat) (w : World) (hK : Crw w c K q) (R : List Bool) (hRl : R.length = c.n) (oa : Option Addr) (ca b o : Nat) (hR : Rw w b o 1 (bF R) R.length oa) : Calls Tryz.prog 73 #[.pointer (some ⟨q, 0, none⟩), .slice oa R.length ca] w fun e w' => ∃ ol cl bl ql, e = .returned (.tuple #[.slice ol (c.legsA R).length cl, .int .i64 (c.run R c.n)]) ∧ Rw w' bl ql 6 (fun k => legE ((c.legsA R).getD k leg0)) (c.legsA R).length ol ∧ Below w.heap.size w w' := by
 have HB : Below w.heap.size w w := Below.refl _ _
 have hnl : c.n + 1 = c.S.length := by have := hc.len; unfold CrT.n; omega
 have hB := hK.blk
 have yhB := hB.lt
 have hS := hK.st
 have hln := hc.len
 have hrst := hc.rst
 have hdrv := hc.drv
 have hrd := hc.rd
 refine sx_enter Tryz.func73 rfl [(0, .pointer (some ⟨q, 0, none⟩)), (1, .slice oa R.length ca)] (by kernel_rfl) ?_
 refine Yq (Zv rfl (.slice none 0 0) (Zv rfl (.int .i64 0) (Yn (Yo (Yq (Zv rfl (.slice oa R.length ca) (Zv rfl (.int .i64 ((R.length : Nat) : Int)) ?_)))))))
 obtain ⟨W1, hW, hb, hq⟩ := laidA w (madeCells legZ.cells (R.length * 6)) 113
 have HG : Ol legE 113 6 w.heap.size W1 (.slice (some ⟨w.heap.size, 0, none⟩) 0 R.length) [] := Ol.made0 hq (Nat.le_refl _) (by omega)
 refine sx_mem (by kernel_rfl) rfl rfl (.slice (some ⟨w.heap.size, 0, none⟩) 0 R.length) W1 (by rw [← hW]; exact ex_make0 (e := 113) (sz := 6) (z := legZ) (bytes := 48) rfl (by kernel_rfl) (by kernel_rfl) Tryz.underlying109 (by kernel_rfl) (by decide) (by omega)) ?_
 replace HB := over HB hb
 replace hB := hB.below hb
 have z1 := hb.size
 clear hb hW hq
 refine Zv rfl (.slice (some ⟨w.heap.size, 0, none⟩) 0 R.length) (Yn (Yo (Yq (Zv rfl (pt q 0) (Zv rfl (pt q 0) (Zv rfl (pt q 16) (Zw rfl (.int .i64 c.rd) (el (hB.cell 16 rfl) Tryz.underlying3) (Zv rfl (.int .i64 c.rd) (Zv rfl (.int .i64 0) (Yn (Yo (Ys (Yq (Zv rfl (.slice oa R.length ca) (Zv rfl (.int .i64 ((R.length : Nat) : Int)) (Zv rfl (.int .i64 0) ?_))))))))))))))))
 refine Yn (Yo (wp_block ?_))
 refine sx_loop (fun x9 : Nat × Value => [(0, .pointer (some ⟨q, 0, none⟩)), (1, .slice oa R.length ca), (6, x9.2), (7, .int .i64 ((c.dn R x9.1).1)), (8, .int .i64 ((c.dn R x9.1).2)), (13, .slice oa R.length ca), (14, .int .i64 ((R.length : Nat) : Int)), (15, .slice (some ⟨w.heap.size, 0, none⟩) 0 R.length), (16, .pointer (some ⟨q, 0, none⟩)), (17, .pointer (some ⟨q, 0, none⟩)), (18, .pointer (some ⟨q, 16, none⟩)), (19, .int .i64 c.rd), (20, .slice oa R.length ca), (21, .int .i64 ((R.length : Nat) : Int)), (22, .int .i64 ((x9.1 : Nat) : Int))]) (fun gg x9 wr => x9.1 ≤ R.length ∧ R.length - x9.1 ≤ gg ∧ c.run R x9.1 = 0 ∧ Ol legE 113 6 w.heap.size wr x9.2 (c.legs R x9.1) ∧ Below w.heap.size W1 wr) (R.length) ((0, .slice (some ⟨w.heap.size, 0, none⟩) 0 R.length)) (by kernel_rfl) ⟨Nat.zero_le _, Nat.le_refl _, rfl, HG, Below.refl _ _⟩ ?_
 rintro gg ⟨k, v6⟩ g' wr3 ⟨hk, hg, hrun, HG, hbl⟩
 dsimp only at hk hg hrun HG hbl
 replace HB := HB.trans (hbl.mono (by omega))
 replace hB := hB.belowB (by omega) hbl
 have z2 := hbl.size
 have HL := hbl
 clear hbl
 refine Yq ?_
 by_cases C1 : k < R.length
 ·refine Zb rfl (decide (((k : Nat) : Int) < ((R.length : Nat) : Int))) true (decide_eq_true (by omega)) (Yn (Yo (Ys (sx_true (by kernel_rfl) (wp_skip (Yo (Ys (wp_block (Yq (Zv rfl (.int .i64 ((k : Nat) : Int)) (Zw rfl (pt b (o + k * 1)) (ex_indexO (q := o) (m := R.length) (c := ca) (k := k) (s := 1) rfl (by kernel_rfl) ((hR.below HB).oa (k := k) (by omega)) (by kernel_rfl) Tryz.underlying31 (by kernel_rfl) (by omega) (by omega)) (Zw rfl (.bool (R.getD k false)) (el ((hR.below HB).cell (k := k) (by omega) 0 rfl) Tryz.underlying4) (Zv rfl (.int .i64 ((k : Nat) : Int)) (Zv rfl (.bool (R.getD k false)) (Yn (Yo (Ys ?_)))))))))))))))))
  have hvo : ∀ g, Value.ownBlock v6 = some g → g < wr3.heap.size := fun g e9 => (HG.blk e9).2
  refine Yr (Zv rfl (pt q 0) (Zv rfl (.int .i64 ((k : Nat) : Int)) (Zv rfl (.int .i64 ((c.dn R k).1)) (Zv rfl (.int .i64 ((c.dn R k).2)) (Zv rfl (.bool (R.getD k false)) ?_)))))
  have hdb := CrT.dn_bd hc k (by omega) hrun
  by_cases C2 : (c.er R k) = 0
  ·refine Zd rfl ((show Calls Tryz.prog 88 #[.pointer (some ⟨q, 0, none⟩), .int .i64 ((k : Nat) : Int), .int .i64 (c.dn R k).1, .int .i64 (c.dn R k).2, .bool (R.getD k false)] wr3 (fun e w' => e = .returned (.tuple #[.agg (legC (c.lg R k)), .int .i64 (0)]) ∧ Below wr3.heap.size wr3 w') from by have h8 := next_n c hc K q wr3 (hK.below HB) k (by omega) (c.dn R k).1 (c.dn R k).2 ⟨hdb.1, hdb.2.1⟩ ⟨hdb.2.2.1, hdb.2.2.2⟩ (R.getD k false); unfold CrT.legA at h8; rw [show c.err k (c.dn R k).1 (c.dn R k).2 (R.getD k false) = 0 from C2, if_pos rfl] at h8; exact h8)) (fun W4 hb z3 => ?_)
   replace HB := over HB hb
   replace hB := hB.below hb
   replace HL := HL.trans (hb.mono (by omega))
   replace HG := HG.below hb
   clear hb
   refine Zv rfl (.tuple #[.agg #[.int .i64 ((c.lg R k).dep), .int .i64 ((c.lg R k).arr), .int .i64 ((c.lg R k).beg), .int .i64 ((c.lg R k).don), .int .i64 ((c.lg R k).sin), .int .i64 ((c.lg R k).mil)], .int .i64 0]) (Zv rfl (.agg #[.int .i64 ((c.lg R k).dep), .int .i64 ((c.lg R k).arr), .int .i64 ((c.lg R k).beg), .int .i64 ((c.lg R k).don), .int .i64 ((c.lg R k).sin), .int .i64 ((c.lg R k).mil)]) (Zv rfl (.int .i64 0) ?_))
   obtain ⟨W6, hW, hb, hq⟩ := laidV W4 nZ6 #[.int .i64 ((c.lg R k).dep), .int .i64 ((c.lg R k).arr), .int .i64 ((c.lg R k).beg), .int .i64 ((c.lg R k).don), .int .i64 ((c.lg R k).sin), .int .i64 ((c.lg R k).mil)] 113
   refine sx_mem (by kernel_rfl) rfl rfl (pt W4.heap.size 0) (W4.alloc (.cells nZ6 113)) (by kernel_rfl) ?_
   refine Zs (cells := #[.int .i64 ((c.lg R k).dep), .int .i64 ((c.lg R k).arr), .int .i64 ((c.lg R k).beg), .int .i64 ((c.lg R k).don), .int .i64 ((c.lg R k).sin), .int .i64 ((c.lg R k).mil)]) rfl rfl (Cb.made W4 nZ6 113) ?_
   rw [hW]
   replace HB := over HB hb
   replace hB := hB.below hb
   replace HL := HL.trans (hb.mono (by omega))
   replace HG := HG.below hb
   have z4 := hb.size
   have M5 := hq
   have yM5 := hq.lt
   clear hq hb hW
   refine Zv rfl (.int .i64 0) (Yn (Yo (Ys (Yq (Zv rfl (.int .i64 0) (Zv rfl (.bool false) (Yn (Yo (sx_false (by kernel_rfl) (wp_skip (Yo (Yq (Zv rfl (v6) (Zw rfl (.agg #[.int .i64 ((c.lg R k).dep), .int .i64 ((c.lg R k).arr), .int .i64 ((c.lg R k).beg), .int .i64 ((c.lg R k).don), .int .i64 ((c.lg R k).sin), .int .i64 ((c.lg R k).mil)]) (ex_load rfl M5 (by kernel_rfl) Tryz.underlying113 rfl (by kernel_rfl)) ?_))))))))))))))
   obtain ⟨W7, hW, hb, hq⟩ := laidA W6 #[.int .i64 ((c.lg R k).dep), .int .i64 ((c.lg R k).arr), .int .i64 ((c.lg R k).beg), .int .i64 ((c.lg R k).don), .int .i64 ((c.lg R k).sin), .int .i64 ((c.lg R k).mil)] 113
   refine sx_mem (by kernel_rfl) rfl rfl (.slice (some ⟨W6.heap.size, 0, none⟩) 1 1) W7 (by rw [← hW]; kernel_rfl) ?_
   replace HB := over HB hb
   replace hB := hB.below hb
   replace HL := HL.trans (hb.mono (by omega))
   replace HG := HG.below hb
   replace M5 := M5.below hb
   have z5 := hb.size
   have M8 := hq
   have yM8 := hq.lt
   clear hq hb hW
   obtain ⟨v9, W9, h9, hg9, hb, hgr, -⟩ := ap_o (P := Tryz.prog) (t := 109) (ty := 109) (z := legZ) (bytes := 48) (x := c.lg R k) legRow Tryz.underlying109 (by kernel_rfl) rfl (by decide) (by decide) HG M8 rfl (by omega) (by rw [CrT.legs_len]; omega)
   refine sx_mem (by kernel_rfl) rfl rfl v9 W9 (ex_append rfl (by kernel_rfl) (by kernel_rfl) h9) ?_
   have hk9 := M5.grownO hgr (fun e9 => by have h8 := hvo _ e9; omega)
   replace HB := HB.trans (hb.mono (by omega))
   replace hB := hB.belowB (by omega) hb
   replace HL := HL.trans (hb.mono (by omega))
   have z6 := hb.size
   have HG := hg9
   have M5 := hk9
   clear hg9 hb h9 hk9 hgr
   refine Zv rfl (v9) (Yn (Yo ?_))
   obtain ⟨Y10, hW⟩ : ∃ W, W9.drew = W := ⟨_, rfl⟩
   have hb : Below W9.heap.size W9 Y10 := hW ▸ below_drew (Below.refl _ _)
   replace HB := over HB hb
   replace hB := hB.below hb
   replace HL := HL.trans (hb.mono (by omega))
   replace HG := HG.below hb
   replace M5 := M5.below hb
   have z7 := hb.size
   clear hb
   refine sd_begin (fun W => Cb W (q) #[.slice K.o0 c.pl.length K.c0, .slice K.o1 c.al.length K.c1, .string c.ty.name, .int .i64 c.ty.count, .int .i64 c.ty.fr, .int .i64 c.ty.to, .slice K.va c.ty.cap.length K.vb, .int .i64 c.ty.skills, .int .i64 c.ty.prof, .int .i64 c.ty.opn, .int .i64 c.ty.cls, .int .i64 c.ty.drv, .int .i64 c.ty.rst, .int .i64 c.ty.fix, .int .i64 c.ty.pm, .int .i64 c.ty.pt, .int .i64 c.rd, .slice K.o2 c.S.length K.c2] 156 ∧ Cb W (W4.heap.size) #[.int .i64 ((c.lg R k).dep), .int .i64 ((c.lg R k).arr), .int .i64 ((c.lg R k).beg), .int .i64 ((c.lg R k).don), .int .i64 ((c.lg R k).sin), .int .i64 ((c.lg R k).mil)] 113 ∧ True) (by kernel_rfl) (by rw [hW]; exact ⟨hB, M5, trivial⟩) ?_
   rw [hW]
   clear hW
   refine Zu 0 rfl rfl (pt W4.heap.size 3) ⟨hB, M5, trivial⟩ ?_
   refine Zt 1 rfl rfl (.int .i64 ((c.lg R k).don)) (fun w9 h9 => el (h9.2.1.cell 3 rfl) Tryz.underlying3) ⟨hB, M5, trivial⟩ ?_
   refine Zu 2 rfl rfl (pt W4.heap.size 4) ⟨hB, M5, trivial⟩ ?_
   refine Zt 3 rfl rfl (.int .i64 ((c.lg R k).sin)) (fun w9 h9 => el (h9.2.1.cell 4 rfl) Tryz.underlying3) ⟨hB, M5, trivial⟩ ?_
   refine Zu 4 rfl rfl (.int .i64 ((c.lg R k).don)) ⟨hB, M5, trivial⟩ ?_
   refine Zu 5 rfl rfl (.int .i64 ((c.lg R k).sin)) ⟨hB, M5, trivial⟩ ?_
   refine sd_done (by kernel_rfl) ?_
   refine sx_in ?_
   refine Yo (Yr (Zi rfl (IntKind.i64.wrap (((k : Nat) : Int) + 1)) (((k + 1 : Nat) : Int)) (by rw [IntKind.wrap_i64]; omega) (Zv rfl (.int .i64 ((k + 1 : Nat) : Int)) (Yn (Yo ?_)))))
   exact sx_again (R.length - (k + 1)) (k + 1, v9) (by omega) (by kernel_rfl) ⟨by show k + 1 ≤ _; omega, Nat.le_refl _, bd_run hrun (by assumption), by show Ol legE 113 6 _ _ _ (c.legs R (k + 1)); rw [CrT.legs_succ]; exact HG, HL⟩
  refine Zd rfl ((show Calls Tryz.prog 88 #[.pointer (some ⟨q, 0, none⟩), .int .i64 ((k : Nat) : Int), .int .i64 (c.dn R k).1, .int .i64 (c.dn R k).2, .bool (R.getD k false)] wr3 (fun e w' => e = .returned (.tuple #[.agg (legC (leg0)), .int .i64 (c.er R k)]) ∧ Below wr3.heap.size wr3 w') from by have h8 := next_n c hc K q wr3 (hK.below HB) k (by omega) (c.dn R k).1 (c.dn R k).2 ⟨hdb.1, hdb.2.1⟩ ⟨hdb.2.2.1, hdb.2.2.2⟩ (R.getD k false); unfold CrT.legA at h8; rw [if_neg (show ¬ c.err k (c.dn R k).1 (c.dn R k).2 (R.getD k false) = 0 from C2)] at h8; exact h8)) (fun W11 hb z3 => ?_)
  replace HB := over HB hb
  replace HL := HL.trans (hb.mono (by omega))
  clear hb
  refine Zv rfl (.tuple #[.agg nZ6, .int .i64 (c.er R k)]) (Zv rfl (.agg nZ6) (Zv rfl (.int .i64 (c.er R k)) ?_))
  obtain ⟨W13, hW, hb, hq⟩ := laidV W11 nZ6 nZ6 113
  refine sx_mem (by kernel_rfl) rfl rfl (pt W11.heap.size 0) (W11.alloc (.cells nZ6 113)) (by kernel_rfl) ?_
  refine Zs (cells := nZ6) rfl rfl (Cb.made W11 nZ6 113) ?_
  rw [hW]
  replace HB := over HB hb
  replace HL := HL.trans (hb.mono (by omega))
  have z4 := hb.size
  have yM12 := hq.lt
  clear hq hb hW
  refine Zv rfl (.int .i64 (c.er R k)) (Yn (Yo (Ys (Yq (Zv rfl (.int .i64 (c.er R k)) (Zb rfl (((c.er R k) : Int) != (0 : Int)) true (bne_iff_ne.2 (by omega)) (Yn (Yo (sx_true (by kernel_rfl) (Yq (Zv rfl (.int .i64 (c.er R k)) (Zv rfl (.slice none 0 0) (Zv rfl (.int .i64 (c.er R k)) (Yn (Yo (wp_ret (sx_rs ?_)))))))))))))))))
  refine sx_rb ?_
  refine sx_rs (sx_rs ?_)
  refine sx_rb ?_
  refine sx_rs ?_
  have e8 := CrT.run_stop hrun (by assumption) c.n (by omega)
  have e9 : c.legsA R = [] := if_neg (by rw [e8]; assumption)
  refine sx_ret2 (.slice none 0 0) (.int .i64 (c.er R k)) rfl rfl rfl (by kernel_rfl) (by kernel_rfl) ⟨none, 0, 0, 0, by rw [e9, e8]; rfl, by rw [e9]; exact fun i hi => absurd hi (Nat.not_lt_zero i), HB⟩
 refine Zb rfl (decide (((k : Nat) : Int) < ((R.length : Nat) : Int))) false (decide_eq_false (by omega)) (Yn (Yo (Ys (sx_false (by kernel_rfl) (wp_exit ?_)))))
 refine sx_es ?_
 refine sx_es ?_
 refine sx_out ?_
 refine Yo (Yq (Zv rfl (v6) (Zv rfl (v6) (Zv rfl (.int .i64 0) (Yn (Yo (wp_ret ?_)))))))
 have hk9 : k = c.n := by omega
 subst hk9
 obtain ⟨ol, cl, rfl⟩ := Ol.form HG
 obtain ⟨bl, ql, hl9⟩ := Ol.rw legRow leg0 HG
 have e9 : c.legsA R = c.legs R c.n := if_pos hrun
 refine sx_ret2 (.slice ol (c.legs R c.n).length cl) (.int .i64 0) rfl rfl rfl (by kernel_rfl) (by kernel_rfl) ⟨ol, cl, bl, ql, by rw [e9, hrun], by rw [e9]; exact hl9, HB⟩

end Go.Proofs.YtomebalolmabnaaGreatDoor.T



