/-
  DERIVED. Db: a part of the base of layer 13 (made by pack.py).
-/
import Derived.Test.YtnapmildbodigaaDoorGA
import Derived.Test.YtnapmildbodigaaDoorHL
import Derived.Test.YtnapmildbodigaaDoorHU
/-! The walk of drive: the way from a stop (by gen_db.py). -/
namespace Go.Proofs.YtnapmildbodigaaDoor.T
open Go.RowKit
set_option maxRecDepth 8000
attribute [local irreducible] wpList Code.wp wpAnyH

def legC (l : LegT) : Array Value := #[.int .i64 l.dep, .int .i64 l.arr, .int .i64 l.beg, .int .i64 l.don, .int .i64 l.sin, .int .i64 l.mil]
def CrT.legA (c : CrT) (k : Nat) (don sin : Int) (r : Bool) : LegT := if c.err k don sin r = 0 then c.leg k don sin r else leg0
theorem CrT.late_ne (c : CrT) (k : Nat) : c.late k ≠ 0 := by unfold CrT.late; split <;> decide
theorem ret_leg {c : CrT} {k : Nat} {don sin : Int} {r : Bool} {l : LegT} {e : Int} (he : e = c.err k don sin r) (hl : l = if c.err k don sin r = 0 then c.leg k don sin r else leg0) : Ending.returned (.tuple #[.agg (legC l), .int .i64 e]) = .returned (.tuple #[.agg (legC (c.legA k don sin r)), .int .i64 (c.err k don sin r)]) := by rw [he, hl]; rfl
theorem next_true (c : CrT) (hc : c.Ok) (K : CV) (q : Nat) (w : World) (hK : Crw w c K q) (k : Nat) (hk : k < c.n) (don sin : Int) (hd : 0 ≤ don ∧ don ≤ 8192) (_ : 0 ≤ sin ∧ sin ≤ 4096) : Calls Tryd.prog 40 #[.pointer (some ⟨q, 0, none⟩), .int .i64 ((k : Nat) : Int), .int .i64 don, .int .i64 sin, .bool true] w fun e w' => e = .returned (.tuple #[.agg (legC (c.legA k don sin true)), .int .i64 (c.err k don sin true)]) ∧ Below w.heap.size w w' := by
 have HB : Below w.heap.size w w := Below.refl _ _
 have hB := hK.blk
 have yhB := hB.lt
 have hS := hK.st
 have hln := hc.len
 have hrst := hc.rst
 have hdrv := hc.drv
 have hrd := hc.rd
 have hk2 : k + 1 < c.S.length := by unfold CrT.n at hk; omega
 have hst := hc.st (k + 1) hk2
 have hgD : (c.gD don true) = don + c.ty.rst := rfl
 refine sx_enter Tryd.func40 rfl [(0, .pointer (some ⟨q, 0, none⟩)), (1, .int .i64 ((k : Nat) : Int)), (2, .int .i64 don), (3, .int .i64 sin), (4, .bool true)] (by kernel_rfl) ?_
 refine wp_seq ?_
 refine wp_region_lit ?_
 obtain ⟨W1, hW, hb, hq⟩ := laidA w #[.int .i64 0, .int .i64 0, .int .i64 0, .int .i64 0, .int .i64 0, .int .i64 0] 82
 refine sx_mem (by kernel_rfl) rfl rfl (.pointer (some ⟨w.heap.size, 0, none⟩)) W1 (by rw [← hW]; kernel_rfl) ?_
 replace HB := over HB hb
 replace hB := hB.below hb
 have z1 := hb.size
 have M2 := hq
 have yM2 := hq.lt
 clear hq hb hW
 refine Zv rfl (.int .i64 0) ?_
 refine wpList_nil ?_
 refine sx_norm ?_
 refine wp_seq ?_
 refine wp_seq ?_
 refine wp_region_lit ?_
 refine Zv rfl (.bool true) ?_
 refine wpList_nil ?_
 refine sx_norm ?_
 refine sx_true (by kernel_rfl) ?_
 refine wp_region_lit ?_
 refine Zv rfl (.int .i64 don) ?_
 refine Zv rfl (.pointer (some ⟨q, 0, none⟩)) ?_
 refine Zv rfl (.pointer (some ⟨q, 0, none⟩)) ?_
 refine Zv rfl (.pointer (some ⟨q, 2, none⟩)) ?_
 refine Zv rfl (.pointer (some ⟨q, 12, none⟩)) ?_
 refine Zw rfl (.int .i64 c.ty.rst) (ex_load1 rfl (hB.cell 12 rfl) (by kernel_rfl) Tryd.underlying3 rfl) ?_
 refine sx_int (by kernel_rfl) rfl rfl .i64 (IntKind.i64.wrap (don + c.ty.rst)) ((c.gD don true)) (by kernel_rfl) (by rw [IntKind.wrap_i64, hgD]; omega) ?_
 refine Zv rfl (.int .i64 (c.gD don true)) ?_
 refine Zv rfl (.int .i64 0) ?_
 refine wpList_nil ?_
 refine sx_norm ?_
 refine wp_seq ?_
 refine wp_region_lit ?_
 refine Zv rfl (.pointer (some ⟨q, 0, none⟩)) ?_
 refine Zv rfl (.pointer (some ⟨q, 0, none⟩)) ?_
 refine Zv rfl (.pointer (some ⟨q, 17, none⟩)) ?_
 refine Zw rfl (.slice K.o2 c.S.length K.c2) (ex_load1 rfl (hB.cell 17 rfl) (by kernel_rfl) Tryd.underlying96 rfl) ?_
 refine Zv rfl (.int .i64 ((k : Nat) : Int)) ?_
 refine sx_int (by kernel_rfl) rfl rfl .i64 (IntKind.i64.wrap (((k : Nat) : Int) + 1)) (((k + 1 : Nat) : Int)) (by kernel_rfl) (by rw [IntKind.wrap_i64]; omega) ?_
 refine Zw rfl (.pointer (some ⟨K.bs, K.os + (k + 1) * 4, none⟩)) (ex_indexO (q := K.os) (m := c.S.length) (c := K.c2) (k := k + 1) (s := 4) rfl (by kernel_rfl) ((hS.below HB).oa (k := k + 1) (by omega)) (by kernel_rfl) Tryd.underlying96 (by kernel_rfl) (by omega) (by omega)) ?_
 refine Zw rfl (.agg #[.int .i64 ((c.S.getD (k + 1) st0).p), .int .i64 ((c.S.getD (k + 1) st0).o), .int .i64 ((c.S.getD (k + 1) st0).c), .int .i64 ((c.S.getD (k + 1) st0).s)]) (ex_loadR rfl ((hS.below HB).range (k := k + 1) (by omega)) (by kernel_rfl) Tryd.underlying60 rfl (by kernel_rfl)) ?_
 obtain ⟨W4, hW⟩ : ∃ W, (W1.alloc (.cells #[.int .i64 0, .int .i64 0, .int .i64 0, .int .i64 0] 60)).setRow W1.heap.size #[.int .i64 ((c.S.getD (k + 1) st0).p), .int .i64 ((c.S.getD (k + 1) st0).o), .int .i64 ((c.S.getD (k + 1) st0).c), .int .i64 ((c.S.getD (k + 1) st0).s)] = W := ⟨_, rfl⟩
 have hb := hW ▸ below_var W1 (.cells #[.int .i64 0, .int .i64 0, .int .i64 0, .int .i64 0] 60) #[.int .i64 ((c.S.getD (k + 1) st0).p), .int .i64 ((c.S.getD (k + 1) st0).o), .int .i64 ((c.S.getD (k + 1) st0).c), .int .i64 ((c.S.getD (k + 1) st0).s)]
 have hq : Cb W4 W1.heap.size #[.int .i64 ((c.S.getD (k + 1) st0).p), .int .i64 ((c.S.getD (k + 1) st0).o), .int .i64 ((c.S.getD (k + 1) st0).c), .int .i64 ((c.S.getD (k + 1) st0).s)] 60 := hW ▸ Cb.row (Cb.made W1 #[.int .i64 0, .int .i64 0, .int .i64 0, .int .i64 0] 60) _
 refine sx_mem (by kernel_rfl) rfl rfl (.pointer (some ⟨W1.heap.size, 0, none⟩)) (W1.alloc (.cells #[.int .i64 0, .int .i64 0, .int .i64 0, .int .i64 0] 60)) (by kernel_rfl) ?_
 refine sx_store (cells := #[.int .i64 ((c.S.getD (k + 1) st0).p), .int .i64 ((c.S.getD (k + 1) st0).o), .int .i64 ((c.S.getD (k + 1) st0).c), .int .i64 ((c.S.getD (k + 1) st0).s)]) (by kernel_rfl) rfl rfl (Cb.made W1 #[.int .i64 0, .int .i64 0, .int .i64 0, .int .i64 0] 60) (by kernel_rfl) (by kernel_rfl) (by kernel_rfl) (by kernel_rfl) (by kernel_rfl) ?_
 rw [hW]
 replace HB := over HB hb
 replace hB := hB.below hb
 replace M2 := M2.below hb
 have z2 := hb.size
 have M3 := hq
 have yM3 := hq.lt
 clear hq hb hW
 refine wpList_nil ?_
 refine sx_norm ?_
 refine wp_seq ?_
 obtain ⟨Y5, hW⟩ : ∃ W, W4.drew = W := ⟨_, rfl⟩
 have hb : Below W4.heap.size W4 Y5 := hW ▸ below_drew (Below.refl _ _)
 replace HB := over HB hb
 replace hB := hB.below hb
 replace M2 := M2.below hb
 replace M3 := M3.below hb
 have z3 := hb.size
 clear hb
 refine sd_begin (fun W => Cb W (q) #[.slice K.o0 c.pl.length K.c0, .slice K.o1 c.al.length K.c1, .string c.ty.name, .int .i64 c.ty.count, .int .i64 c.ty.fr, .int .i64 c.ty.to, .slice K.va c.ty.cap.length K.vb, .int .i64 c.ty.skills, .int .i64 c.ty.prof, .int .i64 c.ty.opn, .int .i64 c.ty.cls, .int .i64 c.ty.drv, .int .i64 c.ty.rst, .int .i64 c.ty.fix, .int .i64 c.ty.pm, .int .i64 c.ty.pt, .int .i64 c.rd, .slice K.o2 c.S.length K.c2] 100 ∧ Cb W (w.heap.size) #[.int .i64 0, .int .i64 0, .int .i64 0, .int .i64 0, .int .i64 0, .int .i64 0] 82 ∧ Cb W (W1.heap.size) #[.int .i64 ((c.S.getD (k + 1) st0).p), .int .i64 ((c.S.getD (k + 1) st0).o), .int .i64 ((c.S.getD (k + 1) st0).c), .int .i64 ((c.S.getD (k + 1) st0).s)] 60 ∧ Rw W K.bs K.os 4 (sF c.S) c.S.length K.o2 ∧ True) (by kernel_rfl) (by rw [hW]; exact ⟨hB, M2, M3, (hS.below HB), trivial⟩) ?_
 rw [hW]
 clear hW
 refine Zu 0 rfl rfl (.pointer (some ⟨q, 0, none⟩)) ⟨hB, M2, M3, (hS.below HB), trivial⟩ ?_
 refine Zu 1 rfl rfl (.pointer (some ⟨q, 0, none⟩)) ⟨hB, M2, M3, (hS.below HB), trivial⟩ ?_
 refine Zu 2 rfl rfl (.pointer (some ⟨q, 0, none⟩)) ⟨hB, M2, M3, (hS.below HB), trivial⟩ ?_
 refine Zt 3 rfl rfl (.agg #[.slice K.o0 c.pl.length K.c0, .slice K.o1 c.al.length K.c1]) (fun w9 h9 => ex_mid (q := 0) rfl h9.1 [.slice K.o0 c.pl.length K.c0, .slice K.o1 c.al.length K.c1] (by kernel_rfl) Tryd.underlying25 rfl (by kernel_rfl) rfl) ⟨hB, M2, M3, (hS.below HB), trivial⟩ ?_
 refine Zu 4 rfl rfl (.pointer (some ⟨q, 0, none⟩)) ⟨hB, M2, M3, (hS.below HB), trivial⟩ ?_
 refine Zu 5 rfl rfl (.pointer (some ⟨q, 0, none⟩)) ⟨hB, M2, M3, (hS.below HB), trivial⟩ ?_
 refine Zu 6 rfl rfl (.pointer (some ⟨q, 2, none⟩)) ⟨hB, M2, M3, (hS.below HB), trivial⟩ ?_
 refine Zu 7 rfl rfl (.pointer (some ⟨q, 8, none⟩)) ⟨hB, M2, M3, (hS.below HB), trivial⟩ ?_
 refine Zt 8 rfl rfl (.int .i64 c.ty.prof) (fun w9 h9 => ex_load1 rfl (h9.1.cell 8 rfl) (by kernel_rfl) Tryd.underlying3 rfl) ⟨hB, M2, M3, (hS.below HB), trivial⟩ ?_
 refine Zu 9 rfl rfl (.pointer (some ⟨q, 0, none⟩)) ⟨hB, M2, M3, (hS.below HB), trivial⟩ ?_
 refine Zu 10 rfl rfl (.pointer (some ⟨q, 0, none⟩)) ⟨hB, M2, M3, (hS.below HB), trivial⟩ ?_
 refine Zu 11 rfl rfl (.pointer (some ⟨q, 17, none⟩)) ⟨hB, M2, M3, (hS.below HB), trivial⟩ ?_
 refine Zt 12 rfl rfl (.slice K.o2 c.S.length K.c2) (fun w9 h9 => ex_load1 rfl (h9.1.cell 17 rfl) (by kernel_rfl) Tryd.underlying96 rfl) ⟨hB, M2, M3, (hS.below HB), trivial⟩ ?_
 refine Zu 13 rfl rfl (.int .i64 ((k : Nat) : Int)) ⟨hB, M2, M3, (hS.below HB), trivial⟩ ?_
 refine Zt 14 rfl rfl (.pointer (some ⟨K.bs, K.os + k * 4, none⟩)) (fun w9 h9 => ex_indexO (q := K.os) (m := c.S.length) (c := K.c2) (k := k) (s := 4) rfl (by kernel_rfl) (h9.2.2.2.1.oa (k := k) (by omega)) (by kernel_rfl) Tryd.underlying96 (by kernel_rfl) (by omega) (by omega)) ⟨hB, M2, M3, (hS.below HB), trivial⟩ ?_
 refine Zu 15 rfl rfl (.pointer (some ⟨K.bs, K.os + k * 4, none⟩)) ⟨hB, M2, M3, (hS.below HB), trivial⟩ ?_
 refine Zt 16 rfl rfl (.int .i64 ((c.S.getD k st0).p)) (fun w9 h9 => ex_load1 rfl (h9.2.2.2.1.cell (k := k) (by omega) 0 rfl) (by kernel_rfl) Tryd.underlying3 rfl) ⟨hB, M2, M3, (hS.below HB), trivial⟩ ?_
 refine Zu 17 rfl rfl (.pointer (some ⟨W1.heap.size, 0, none⟩)) ⟨hB, M2, M3, (hS.below HB), trivial⟩ ?_
 refine Zt 18 rfl rfl (.int .i64 ((c.S.getD (k + 1) st0).p)) (fun w9 h9 => ex_load1 rfl (h9.2.2.1.cell 0 rfl) (by kernel_rfl) Tryd.underlying3 rfl) ⟨hB, M2, M3, (hS.below HB), trivial⟩ ?_
 refine Zu 19 rfl rfl (.int .i64 (c.gD don true)) ⟨hB, M2, M3, (hS.below HB), trivial⟩ ?_
 refine sd_all [20] (by kernel_rfl) (by decide) ?_
 refine sd_call (i := 20) rfl (by kernel_rfl) rfl rfl ((show Calls Tryd.prog 58 #[.agg #[.slice K.o0 c.pl.length K.c0, .slice K.o1 c.al.length K.c1], .int .i64 c.ty.prof, .int .i64 (c.S.getD k st0).p, .int .i64 (c.S.getD (k + 1) st0).p, .int .i64 (c.gD don true)] Y5 (GoP (c.go k don true) Y5) from go_n (.slice K.o0 c.pl.length K.c0) (.slice K.o1 c.al.length K.c1) c.pl c.al c.ty.prof (c.S.getD k st0).p (c.S.getD (k + 1) st0).p (c.gD don true) hc.al hc.net (by omega) (by omega) Y5 (hK.pl.below HB) (hK.al.below HB) (hK.tab.belowD HB))) (by kernel_rfl) ?_ AllReadyH.nil
 rintro e W6 ⟨rfl, hb⟩
 replace HB := over HB hb
 replace hB := hB.below hb
 replace M2 := M2.below hb
 replace M3 := M3.below hb
 have z4 := hb.size
 clear hb
 refine ⟨_, rfl, ⟨hB, M2, M3, (hS.below HB), trivial⟩, ?_⟩
 refine Zu 21 rfl rfl (.tuple #[.int .i64 ((c.go k don true).1), .int .i64 ((c.go k don true).2.1), .int .i64 ((c.go k don true).2.2)]) ⟨hB, M2, M3, (hS.below HB), trivial⟩ ?_
 refine Zu 22 rfl rfl (.int .i64 ((c.go k don true).1)) ⟨hB, M2, M3, (hS.below HB), trivial⟩ ?_
 refine Zu 23 rfl rfl (.int .i64 ((c.go k don true).2.1)) ⟨hB, M2, M3, (hS.below HB), trivial⟩ ?_
 refine Zu 24 rfl rfl (.int .i64 ((c.go k don true).2.2)) ⟨hB, M2, M3, (hS.below HB), trivial⟩ ?_
 refine Zu 25 rfl rfl (.int .i64 ((c.go k don true).1)) ⟨hB, M2, M3, (hS.below HB), trivial⟩ ?_
 refine Zu 26 rfl rfl (.int .i64 ((c.go k don true).2.1)) ⟨hB, M2, M3, (hS.below HB), trivial⟩ ?_
 refine Zu 27 rfl rfl (.int .i64 ((c.go k don true).2.2)) ⟨hB, M2, M3, (hS.below HB), trivial⟩ ?_
 refine sd_done (by kernel_rfl) ?_
 refine sx_norm ?_
 refine wp_seq ?_
 refine wp_seq ?_
 refine wp_region_lit ?_
 refine Zv rfl (.int .i64 ((c.go k don true).2.2)) ?_
 by_cases C1 : (c.go k don true).2.2 = 0
 ·refine sx_bool (by kernel_rfl) rfl rfl (((c.go k don true).2.2 : Int) != (0 : Int)) false (by kernel_rfl) (by rw [bne_eq_false_iff_eq]; omega) ?_
  refine wpList_nil ?_
  refine sx_norm ?_
  refine sx_false (by kernel_rfl) ?_
  refine wp_skip ?_
  refine sx_norm ?_
  refine wp_seq ?_
  have hgb : (c.gD don true) ≤ (c.go k don true).1 ∧ (c.go k don true).1 ≤ (c.gD don true) + 73728 ∧ 0 ≤ (c.go k don true).2.1 ∧ (c.go k don true).2.1 ≤ 10000 := CrT.goV_bd hc.net (d := (c.gD don true)) (by omega) (by assumption)
  refine wp_region_lit ?_
  refine Zv rfl (.int .i64 0) ?_
  refine Zv rfl (.int .i64 ((c.go k don true).1)) ?_
  refine Zv rfl (.int .i64 (c.gD don true)) ?_
  refine sx_int (by kernel_rfl) rfl rfl .i64 (IntKind.i64.wrap ((c.go k don true).1 - (c.gD don true))) (((c.go k don true).1 - (c.gD don true))) (by kernel_rfl) (by rw [IntKind.wrap_i64]; omega) ?_
  refine sx_int (by kernel_rfl) rfl rfl .i64 (IntKind.i64.wrap (0 + ((c.go k don true).1 - (c.gD don true)))) ((0 + ((c.go k don true).1 - (c.gD don true)))) (by kernel_rfl) (by rw [IntKind.wrap_i64]; omega) ?_
  refine Zv rfl (.int .i64 (0 + ((c.go k don true).1 - (c.gD don true)))) ?_
  refine wpList_nil ?_
  refine sx_norm ?_
  refine wp_seq ?_
  refine wp_region_lit ?_
  refine Zw rfl (.agg #[.int .i64 ((c.S.getD (k + 1) st0).p), .int .i64 ((c.S.getD (k + 1) st0).o), .int .i64 ((c.S.getD (k + 1) st0).c), .int .i64 ((c.S.getD (k + 1) st0).s)]) (ex_load rfl M3 (by kernel_rfl) Tryd.underlying60 rfl (by kernel_rfl)) ?_
  refine Zv rfl (.int .i64 ((c.go k don true).1)) ?_
  by_cases C2 : (c.S.getD (k + 1) st0).c < (c.go k don true).1
  ·refine sx_call (by kernel_rfl) rfl rfl ((by have h8 := begin_n (c.S.getD (k + 1) st0).p (c.S.getD (k + 1) st0).o (c.S.getD (k + 1) st0).c (c.S.getD (k + 1) st0).s (c.go k don true).1 (by omega) W6; rw [if_pos C2, if_pos C2] at h8; exact h8)) (by kernel_rfl) ?_
   rintro e W7 ⟨rfl, hb⟩
   replace HB := over HB hb
   replace hB := hB.below hb
   replace M2 := M2.below hb
   replace M3 := M3.below hb
   have z5 := hb.size
   clear hb
   refine ⟨_, rfl, ?_⟩
   refine Zv rfl (.tuple #[.int .i64 0, .int .i64 14]) ?_
   refine Zv rfl (.int .i64 0) ?_
   refine Zv rfl (.int .i64 14) ?_
   refine Zv rfl (.int .i64 0) ?_
   refine Zv rfl (.int .i64 14) ?_
   refine wpList_nil ?_
   refine sx_norm ?_
   refine wp_seq ?_
   refine wp_seq ?_
   refine wp_region_lit ?_
   refine Zv rfl (.int .i64 14) ?_
   refine Zv rfl (.bool true) ?_
   refine wpList_nil ?_
   refine sx_norm ?_
   refine sx_true (by kernel_rfl) ?_
   refine wp_seq ?_
   refine wp_region_lit ?_
   refine Zv rfl (.agg #[.int .i64 0, .int .i64 0, .int .i64 0, .int .i64 0, .int .i64 0, .int .i64 0]) ?_
   refine Zv rfl (.pointer (some ⟨q, 0, none⟩)) ?_
   refine Zv rfl (.int .i64 ((k : Nat) : Int)) ?_
   refine sx_int (by kernel_rfl) rfl rfl .i64 (IntKind.i64.wrap (((k : Nat) : Int) + 1)) (((k + 1 : Nat) : Int)) (by kernel_rfl) (by rw [IntKind.wrap_i64]; omega) ?_
   refine sx_call (by kernel_rfl) rfl rfl (late_n c hc K q W7 (hK.below HB) (k + 1) (by omega)) (by kernel_rfl) ?_
   rintro e w9 ⟨rfl, rfl⟩
   refine ⟨_, rfl, ?_⟩
   refine sx_store (cells := #[.int .i64 0, .int .i64 0, .int .i64 0, .int .i64 0, .int .i64 0, .int .i64 0]) (by kernel_rfl) rfl rfl M2 (by kernel_rfl) (by kernel_rfl) (by kernel_rfl) (by kernel_rfl) (by kernel_rfl) ?_
   obtain ⟨W8, hW⟩ : ∃ W, W7.setRow (w.heap.size) #[.int .i64 0, .int .i64 0, .int .i64 0, .int .i64 0, .int .i64 0, .int .i64 0] = W := ⟨_, rfl⟩
   have hg : W7.grownBy W8 (some (w.heap.size)) := hW ▸ grown_row _ _ _
   have hq : Cb W8 (w.heap.size) #[.int .i64 0, .int .i64 0, .int .i64 0, .int .i64 0, .int .i64 0, .int .i64 0] 82 := hW ▸ Cb.row M2 _
   rw [hW]
   replace HB := HB.grown hg (by omega) (fun x e => by simp only [Option.some.injEq] at e; omega)
   replace hB := hB.kept hg (by omega)
   replace M3 := M3.kept hg (by omega)
   have z6 := hg.size
   replace M2 := hq
   clear hq hg hW
   refine Zv rfl (.int .i64 (c.late (k + 1))) ?_
   refine wpList_nil ?_
   refine sx_norm ?_
   refine wp_ret ?_
   refine sx_rs ?_
   have he9 : (c.late (k + 1)) = c.err k don sin true := by
    unfold CrT.err
    rw [if_neg (fun h => h (by assumption)), if_pos (by assumption)]
   exact sx_retct M2 rfl rfl rfl (by kernel_rfl) (by kernel_rfl) Tryd.underlying82 rfl (by kernel_rfl) ⟨ret_leg (l := leg0) he9 (by rw [if_neg (by rw [← he9]; exact c.late_ne _)]), HB⟩
  refine sx_call (by kernel_rfl) rfl rfl ((show Calls Tryd.prog 59 _ W6 (fun e w' => e = .returned (.tuple #[.int .i64 (c.beg k don true), .int .i64 0]) ∧ Below W6.heap.size W6 w') from by have h8 := begin_n (c.S.getD (k + 1) st0).p (c.S.getD (k + 1) st0).o (c.S.getD (k + 1) st0).c (c.S.getD (k + 1) st0).s (c.go k don true).1 (by omega) W6; rw [if_neg C2, if_neg C2] at h8; exact h8)) (by kernel_rfl) ?_
  rintro e W9 ⟨rfl, hb⟩
  replace HB := over HB hb
  replace hB := hB.below hb
  replace M2 := M2.below hb
  replace M3 := M3.below hb
  have z5 := hb.size
  clear hb
  refine ⟨_, rfl, ?_⟩
  refine Zv rfl (.tuple #[.int .i64 (c.beg k don true), .int .i64 0]) ?_
  refine Zv rfl (.int .i64 (c.beg k don true)) ?_
  refine Zv rfl (.int .i64 0) ?_
  refine Zv rfl (.int .i64 (c.beg k don true)) ?_
  refine Zv rfl (.int .i64 0) ?_
  refine wpList_nil ?_
  refine sx_norm ?_
  refine wp_seq ?_
  refine wp_seq ?_
  refine wp_region_lit ?_
  refine Zv rfl (.int .i64 0) ?_
  refine Zv rfl (.bool false) ?_
  refine wpList_nil ?_
  refine sx_norm ?_
  refine sx_false (by kernel_rfl) ?_
  refine wp_skip ?_
  refine sx_norm ?_
  refine wp_seq ?_
  refine wp_seq ?_
  have hbg : c.beg k don true = if (c.go k don true).1 < (c.S.getD (k + 1) st0).o then (c.S.getD (k + 1) st0).o else (c.go k don true).1 := rfl
  have hbb : 0 ≤ c.beg k don true ∧ c.beg k don true ≤ 4096 := by rw [hbg]; split <;> omega
  refine wp_region_lit ?_
  refine Zv rfl (.int .i64 (0 + ((c.go k don true).1 - (c.gD don true)))) ?_
  refine Zv rfl (.pointer (some ⟨q, 0, none⟩)) ?_
  refine Zv rfl (.pointer (some ⟨q, 0, none⟩)) ?_
  refine Zv rfl (.pointer (some ⟨q, 2, none⟩)) ?_
  refine Zv rfl (.pointer (some ⟨q, 11, none⟩)) ?_
  refine Zw rfl (.int .i64 c.ty.drv) (ex_load1 rfl (hB.cell 11 rfl) (by kernel_rfl) Tryd.underlying3 rfl) ?_
  by_cases C3 : (0 + ((c.go k don true).1 - (c.gD don true))) > c.ty.drv
  ·refine sx_bool (by kernel_rfl) rfl rfl (decide ((0 + ((c.go k don true).1 - (c.gD don true))) > c.ty.drv)) true (by kernel_rfl) (decide_eq_true (by omega)) ?_
   refine wpList_nil ?_
   refine sx_norm ?_
   refine sx_true (by kernel_rfl) ?_
   refine wp_seq ?_
   refine wp_region_lit ?_
   refine Zv rfl (.agg #[.int .i64 0, .int .i64 0, .int .i64 0, .int .i64 0, .int .i64 0, .int .i64 0]) ?_
   refine sx_store (cells := #[.int .i64 0, .int .i64 0, .int .i64 0, .int .i64 0, .int .i64 0, .int .i64 0]) (by kernel_rfl) rfl rfl M2 (by kernel_rfl) (by kernel_rfl) (by kernel_rfl) (by kernel_rfl) (by kernel_rfl) ?_
   obtain ⟨W10, hW⟩ : ∃ W, W9.setRow (w.heap.size) #[.int .i64 0, .int .i64 0, .int .i64 0, .int .i64 0, .int .i64 0, .int .i64 0] = W := ⟨_, rfl⟩
   have hg : W9.grownBy W10 (some (w.heap.size)) := hW ▸ grown_row _ _ _
   have hq : Cb W10 (w.heap.size) #[.int .i64 0, .int .i64 0, .int .i64 0, .int .i64 0, .int .i64 0, .int .i64 0] 82 := hW ▸ Cb.row M2 _
   rw [hW]
   replace HB := HB.grown hg (by omega) (fun x e => by simp only [Option.some.injEq] at e; omega)
   replace hB := hB.kept hg (by omega)
   replace M3 := M3.kept hg (by omega)
   have z6 := hg.size
   replace M2 := hq
   clear hq hg hW
   refine Zv rfl (.int .i64 16) ?_
   refine wpList_nil ?_
   refine sx_norm ?_
   refine wp_ret ?_
   refine sx_rs ?_
   have he9 : 16 = c.err k don sin true := by
    unfold CrT.err
    rw [if_neg (fun h => h (by assumption)), if_neg (by assumption), if_pos (by show c.ty.drv < 0 + ((c.go k don true).1 - (c.gD don true)); omega)]
   exact sx_retct M2 rfl rfl rfl (by kernel_rfl) (by kernel_rfl) Tryd.underlying82 rfl (by kernel_rfl) ⟨ret_leg (l := leg0) he9 (by rw [if_neg (by rw [← he9]; decide)]), HB⟩
  refine sx_bool (by kernel_rfl) rfl rfl (decide ((0 + ((c.go k don true).1 - (c.gD don true))) > c.ty.drv)) false (by kernel_rfl) (decide_eq_false (by omega)) ?_
  refine wpList_nil ?_
  refine sx_norm ?_
  refine sx_false (by kernel_rfl) ?_
  refine wp_skip ?_
  refine sx_norm ?_
  refine wp_seq ?_
  refine wp_region_lit ?_
  refine Zv rfl (.int .i64 (c.gD don true)) ?_
  refine Zv rfl (.int .i64 ((c.go k don true).1)) ?_
  refine Zv rfl (.int .i64 (c.beg k don true)) ?_
  refine Zv rfl (.int .i64 (c.beg k don true)) ?_
  refine Zv rfl (.pointer (some ⟨W1.heap.size, 3, none⟩)) ?_
  refine Zw rfl (.int .i64 ((c.S.getD (k + 1) st0).s)) (ex_load1 rfl (M3.cell 3 rfl) (by kernel_rfl) Tryd.underlying3 rfl) ?_
  refine sx_int (by kernel_rfl) rfl rfl .i64 (IntKind.i64.wrap ((c.beg k don true) + (c.S.getD (k + 1) st0).s)) (((c.beg k don true) + (c.S.getD (k + 1) st0).s)) (by kernel_rfl) (by rw [IntKind.wrap_i64]; omega) ?_
  refine Zv rfl (.int .i64 (0 + ((c.go k don true).1 - (c.gD don true)))) ?_
  refine Zv rfl (.int .i64 ((c.go k don true).2.1)) ?_
  refine Zv rfl (.agg #[.int .i64 (c.gD don true), .int .i64 ((c.go k don true).1), .int .i64 (c.beg k don true), .int .i64 ((c.beg k don true) + (c.S.getD (k + 1) st0).s), .int .i64 (0 + ((c.go k don true).1 - (c.gD don true))), .int .i64 ((c.go k don true).2.1)]) ?_
  refine sx_store (cells := #[.int .i64 (c.gD don true), .int .i64 ((c.go k don true).1), .int .i64 (c.beg k don true), .int .i64 ((c.beg k don true) + (c.S.getD (k + 1) st0).s), .int .i64 (0 + ((c.go k don true).1 - (c.gD don true))), .int .i64 ((c.go k don true).2.1)]) (by kernel_rfl) rfl rfl M2 (by kernel_rfl) (by kernel_rfl) (by kernel_rfl) (by kernel_rfl) (by kernel_rfl) ?_
  obtain ⟨W11, hW⟩ : ∃ W, W9.setRow (w.heap.size) #[.int .i64 (c.gD don true), .int .i64 ((c.go k don true).1), .int .i64 (c.beg k don true), .int .i64 ((c.beg k don true) + (c.S.getD (k + 1) st0).s), .int .i64 (0 + ((c.go k don true).1 - (c.gD don true))), .int .i64 ((c.go k don true).2.1)] = W := ⟨_, rfl⟩
  have hg : W9.grownBy W11 (some (w.heap.size)) := hW ▸ grown_row _ _ _
  have hq : Cb W11 (w.heap.size) #[.int .i64 (c.gD don true), .int .i64 ((c.go k don true).1), .int .i64 (c.beg k don true), .int .i64 ((c.beg k don true) + (c.S.getD (k + 1) st0).s), .int .i64 (0 + ((c.go k don true).1 - (c.gD don true))), .int .i64 ((c.go k don true).2.1)] 82 := hW ▸ Cb.row M2 _
  rw [hW]
  replace HB := HB.grown hg (by omega) (fun x e => by simp only [Option.some.injEq] at e; omega)
  replace hB := hB.kept hg (by omega)
  replace M3 := M3.kept hg (by omega)
  have z6 := hg.size
  replace M2 := hq
  clear hq hg hW
  refine Zv rfl (.int .i64 0) ?_
  refine wpList_nil ?_
  refine sx_norm ?_
  refine wp_ret ?_
  have he9 : 0 = c.err k don sin true := by
   unfold CrT.err
   rw [if_neg (fun h => h (by assumption)), if_neg (by assumption), if_neg (by show ¬ c.ty.drv < 0 + ((c.go k don true).1 - (c.gD don true)); omega)]
  exact sx_retct M2 rfl rfl rfl (by kernel_rfl) (by kernel_rfl) Tryd.underlying82 rfl (by kernel_rfl) ⟨ret_leg (l := (c.leg k don sin true)) he9 (by rw [if_pos he9.symm]), HB⟩
 refine sx_bool (by kernel_rfl) rfl rfl (((c.go k don true).2.2 : Int) != (0 : Int)) true (by kernel_rfl) (bne_iff_ne.2 (by omega)) ?_
 refine wpList_nil ?_
 refine sx_norm ?_
 refine sx_true (by kernel_rfl) ?_
 refine wp_seq ?_
 refine wp_region_lit ?_
 refine Zv rfl (.agg #[.int .i64 0, .int .i64 0, .int .i64 0, .int .i64 0, .int .i64 0, .int .i64 0]) ?_
 refine sx_store (cells := #[.int .i64 0, .int .i64 0, .int .i64 0, .int .i64 0, .int .i64 0, .int .i64 0]) (by kernel_rfl) rfl rfl M2 (by kernel_rfl) (by kernel_rfl) (by kernel_rfl) (by kernel_rfl) (by kernel_rfl) ?_
 obtain ⟨W12, hW⟩ : ∃ W, W6.setRow (w.heap.size) #[.int .i64 0, .int .i64 0, .int .i64 0, .int .i64 0, .int .i64 0, .int .i64 0] = W := ⟨_, rfl⟩
 have hg : W6.grownBy W12 (some (w.heap.size)) := hW ▸ grown_row _ _ _
 have hq : Cb W12 (w.heap.size) #[.int .i64 0, .int .i64 0, .int .i64 0, .int .i64 0, .int .i64 0, .int .i64 0] 82 := hW ▸ Cb.row M2 _
 rw [hW]
 replace HB := HB.grown hg (by omega) (fun x e => by simp only [Option.some.injEq] at e; omega)
 replace hB := hB.kept hg (by omega)
 replace M3 := M3.kept hg (by omega)
 have z5 := hg.size
 replace M2 := hq
 clear hq hg hW
 refine Zv rfl (.int .i64 12) ?_
 refine wpList_nil ?_
 refine sx_norm ?_
 refine wp_ret ?_
 refine sx_rs ?_
 have he9 : 12 = c.err k don sin true := by
  unfold CrT.err
  rw [if_pos (by assumption)]
 exact sx_retct M2 rfl rfl rfl (by kernel_rfl) (by kernel_rfl) Tryd.underlying82 rfl (by kernel_rfl) ⟨ret_leg (l := leg0) he9 (by rw [if_neg (by rw [← he9]; decide)]), HB⟩

theorem next_false (c : CrT) (hc : c.Ok) (K : CV) (q : Nat) (w : World) (hK : Crw w c K q) (k : Nat) (hk : k < c.n) (don sin : Int) (hd : 0 ≤ don ∧ don ≤ 8192) (hs : 0 ≤ sin ∧ sin ≤ 4096) : Calls Tryd.prog 40 #[.pointer (some ⟨q, 0, none⟩), .int .i64 ((k : Nat) : Int), .int .i64 don, .int .i64 sin, .bool false] w fun e w' => e = .returned (.tuple #[.agg (legC (c.legA k don sin false)), .int .i64 (c.err k don sin false)]) ∧ Below w.heap.size w w' := by
 have HB : Below w.heap.size w w := Below.refl _ _
 have hB := hK.blk
 have yhB := hB.lt
 have hS := hK.st
 have hln := hc.len
 have hrst := hc.rst
 have hdrv := hc.drv
 have hrd := hc.rd
 have hk2 : k + 1 < c.S.length := by unfold CrT.n at hk; omega
 have hst := hc.st (k + 1) hk2
 refine sx_enter Tryd.func40 rfl [(0, .pointer (some ⟨q, 0, none⟩)), (1, .int .i64 ((k : Nat) : Int)), (2, .int .i64 don), (3, .int .i64 sin), (4, .bool false)] (by kernel_rfl) ?_
 refine wp_seq ?_
 refine wp_region_lit ?_
 obtain ⟨W1, hW, hb, hq⟩ := laidA w #[.int .i64 0, .int .i64 0, .int .i64 0, .int .i64 0, .int .i64 0, .int .i64 0] 82
 refine sx_mem (by kernel_rfl) rfl rfl (.pointer (some ⟨w.heap.size, 0, none⟩)) W1 (by rw [← hW]; kernel_rfl) ?_
 replace HB := over HB hb
 replace hB := hB.below hb
 have z1 := hb.size
 have M2 := hq
 have yM2 := hq.lt
 clear hq hb hW
 refine Zv rfl (.int .i64 0) ?_
 refine wpList_nil ?_
 refine sx_norm ?_
 refine wp_seq ?_
 refine wp_seq ?_
 refine wp_region_lit ?_
 refine Zv rfl (.bool false) ?_
 refine wpList_nil ?_
 refine sx_norm ?_
 refine sx_false (by kernel_rfl) ?_
 refine wp_skip ?_
 refine sx_norm ?_
 refine wp_seq ?_
 refine wp_region_lit ?_
 refine Zv rfl (.pointer (some ⟨q, 0, none⟩)) ?_
 refine Zv rfl (.pointer (some ⟨q, 0, none⟩)) ?_
 refine Zv rfl (.pointer (some ⟨q, 17, none⟩)) ?_
 refine Zw rfl (.slice K.o2 c.S.length K.c2) (ex_load1 rfl (hB.cell 17 rfl) (by kernel_rfl) Tryd.underlying96 rfl) ?_
 refine Zv rfl (.int .i64 ((k : Nat) : Int)) ?_
 refine sx_int (by kernel_rfl) rfl rfl .i64 (IntKind.i64.wrap (((k : Nat) : Int) + 1)) (((k + 1 : Nat) : Int)) (by kernel_rfl) (by rw [IntKind.wrap_i64]; omega) ?_
 refine Zw rfl (.pointer (some ⟨K.bs, K.os + (k + 1) * 4, none⟩)) (ex_indexO (q := K.os) (m := c.S.length) (c := K.c2) (k := k + 1) (s := 4) rfl (by kernel_rfl) ((hS.below HB).oa (k := k + 1) (by omega)) (by kernel_rfl) Tryd.underlying96 (by kernel_rfl) (by omega) (by omega)) ?_
 refine Zw rfl (.agg #[.int .i64 ((c.S.getD (k + 1) st0).p), .int .i64 ((c.S.getD (k + 1) st0).o), .int .i64 ((c.S.getD (k + 1) st0).c), .int .i64 ((c.S.getD (k + 1) st0).s)]) (ex_loadR rfl ((hS.below HB).range (k := k + 1) (by omega)) (by kernel_rfl) Tryd.underlying60 rfl (by kernel_rfl)) ?_
 obtain ⟨W4, hW⟩ : ∃ W, (W1.alloc (.cells #[.int .i64 0, .int .i64 0, .int .i64 0, .int .i64 0] 60)).setRow W1.heap.size #[.int .i64 ((c.S.getD (k + 1) st0).p), .int .i64 ((c.S.getD (k + 1) st0).o), .int .i64 ((c.S.getD (k + 1) st0).c), .int .i64 ((c.S.getD (k + 1) st0).s)] = W := ⟨_, rfl⟩
 have hb := hW ▸ below_var W1 (.cells #[.int .i64 0, .int .i64 0, .int .i64 0, .int .i64 0] 60) #[.int .i64 ((c.S.getD (k + 1) st0).p), .int .i64 ((c.S.getD (k + 1) st0).o), .int .i64 ((c.S.getD (k + 1) st0).c), .int .i64 ((c.S.getD (k + 1) st0).s)]
 have hq : Cb W4 W1.heap.size #[.int .i64 ((c.S.getD (k + 1) st0).p), .int .i64 ((c.S.getD (k + 1) st0).o), .int .i64 ((c.S.getD (k + 1) st0).c), .int .i64 ((c.S.getD (k + 1) st0).s)] 60 := hW ▸ Cb.row (Cb.made W1 #[.int .i64 0, .int .i64 0, .int .i64 0, .int .i64 0] 60) _
 refine sx_mem (by kernel_rfl) rfl rfl (.pointer (some ⟨W1.heap.size, 0, none⟩)) (W1.alloc (.cells #[.int .i64 0, .int .i64 0, .int .i64 0, .int .i64 0] 60)) (by kernel_rfl) ?_
 refine sx_store (cells := #[.int .i64 ((c.S.getD (k + 1) st0).p), .int .i64 ((c.S.getD (k + 1) st0).o), .int .i64 ((c.S.getD (k + 1) st0).c), .int .i64 ((c.S.getD (k + 1) st0).s)]) (by kernel_rfl) rfl rfl (Cb.made W1 #[.int .i64 0, .int .i64 0, .int .i64 0, .int .i64 0] 60) (by kernel_rfl) (by kernel_rfl) (by kernel_rfl) (by kernel_rfl) (by kernel_rfl) ?_
 rw [hW]
 replace HB := over HB hb
 replace hB := hB.below hb
 replace M2 := M2.below hb
 have z2 := hb.size
 have M3 := hq
 have yM3 := hq.lt
 clear hq hb hW
 refine wpList_nil ?_
 refine sx_norm ?_
 refine wp_seq ?_
 obtain ⟨Y5, hW⟩ : ∃ W, W4.drew = W := ⟨_, rfl⟩
 have hb : Below W4.heap.size W4 Y5 := hW ▸ below_drew (Below.refl _ _)
 replace HB := over HB hb
 replace hB := hB.below hb
 replace M2 := M2.below hb
 replace M3 := M3.below hb
 have z3 := hb.size
 clear hb
 refine sd_begin (fun W => Cb W (q) #[.slice K.o0 c.pl.length K.c0, .slice K.o1 c.al.length K.c1, .string c.ty.name, .int .i64 c.ty.count, .int .i64 c.ty.fr, .int .i64 c.ty.to, .slice K.va c.ty.cap.length K.vb, .int .i64 c.ty.skills, .int .i64 c.ty.prof, .int .i64 c.ty.opn, .int .i64 c.ty.cls, .int .i64 c.ty.drv, .int .i64 c.ty.rst, .int .i64 c.ty.fix, .int .i64 c.ty.pm, .int .i64 c.ty.pt, .int .i64 c.rd, .slice K.o2 c.S.length K.c2] 100 ∧ Cb W (w.heap.size) #[.int .i64 0, .int .i64 0, .int .i64 0, .int .i64 0, .int .i64 0, .int .i64 0] 82 ∧ Cb W (W1.heap.size) #[.int .i64 ((c.S.getD (k + 1) st0).p), .int .i64 ((c.S.getD (k + 1) st0).o), .int .i64 ((c.S.getD (k + 1) st0).c), .int .i64 ((c.S.getD (k + 1) st0).s)] 60 ∧ Rw W K.bs K.os 4 (sF c.S) c.S.length K.o2 ∧ True) (by kernel_rfl) (by rw [hW]; exact ⟨hB, M2, M3, (hS.below HB), trivial⟩) ?_
 rw [hW]
 clear hW
 refine Zu 0 rfl rfl (.pointer (some ⟨q, 0, none⟩)) ⟨hB, M2, M3, (hS.below HB), trivial⟩ ?_
 refine Zu 1 rfl rfl (.pointer (some ⟨q, 0, none⟩)) ⟨hB, M2, M3, (hS.below HB), trivial⟩ ?_
 refine Zu 2 rfl rfl (.pointer (some ⟨q, 0, none⟩)) ⟨hB, M2, M3, (hS.below HB), trivial⟩ ?_
 refine Zt 3 rfl rfl (.agg #[.slice K.o0 c.pl.length K.c0, .slice K.o1 c.al.length K.c1]) (fun w9 h9 => ex_mid (q := 0) rfl h9.1 [.slice K.o0 c.pl.length K.c0, .slice K.o1 c.al.length K.c1] (by kernel_rfl) Tryd.underlying25 rfl (by kernel_rfl) rfl) ⟨hB, M2, M3, (hS.below HB), trivial⟩ ?_
 refine Zu 4 rfl rfl (.pointer (some ⟨q, 0, none⟩)) ⟨hB, M2, M3, (hS.below HB), trivial⟩ ?_
 refine Zu 5 rfl rfl (.pointer (some ⟨q, 0, none⟩)) ⟨hB, M2, M3, (hS.below HB), trivial⟩ ?_
 refine Zu 6 rfl rfl (.pointer (some ⟨q, 2, none⟩)) ⟨hB, M2, M3, (hS.below HB), trivial⟩ ?_
 refine Zu 7 rfl rfl (.pointer (some ⟨q, 8, none⟩)) ⟨hB, M2, M3, (hS.below HB), trivial⟩ ?_
 refine Zt 8 rfl rfl (.int .i64 c.ty.prof) (fun w9 h9 => ex_load1 rfl (h9.1.cell 8 rfl) (by kernel_rfl) Tryd.underlying3 rfl) ⟨hB, M2, M3, (hS.below HB), trivial⟩ ?_
 refine Zu 9 rfl rfl (.pointer (some ⟨q, 0, none⟩)) ⟨hB, M2, M3, (hS.below HB), trivial⟩ ?_
 refine Zu 10 rfl rfl (.pointer (some ⟨q, 0, none⟩)) ⟨hB, M2, M3, (hS.below HB), trivial⟩ ?_
 refine Zu 11 rfl rfl (.pointer (some ⟨q, 17, none⟩)) ⟨hB, M2, M3, (hS.below HB), trivial⟩ ?_
 refine Zt 12 rfl rfl (.slice K.o2 c.S.length K.c2) (fun w9 h9 => ex_load1 rfl (h9.1.cell 17 rfl) (by kernel_rfl) Tryd.underlying96 rfl) ⟨hB, M2, M3, (hS.below HB), trivial⟩ ?_
 refine Zu 13 rfl rfl (.int .i64 ((k : Nat) : Int)) ⟨hB, M2, M3, (hS.below HB), trivial⟩ ?_
 refine Zt 14 rfl rfl (.pointer (some ⟨K.bs, K.os + k * 4, none⟩)) (fun w9 h9 => ex_indexO (q := K.os) (m := c.S.length) (c := K.c2) (k := k) (s := 4) rfl (by kernel_rfl) (h9.2.2.2.1.oa (k := k) (by omega)) (by kernel_rfl) Tryd.underlying96 (by kernel_rfl) (by omega) (by omega)) ⟨hB, M2, M3, (hS.below HB), trivial⟩ ?_
 refine Zu 15 rfl rfl (.pointer (some ⟨K.bs, K.os + k * 4, none⟩)) ⟨hB, M2, M3, (hS.below HB), trivial⟩ ?_
 refine Zt 16 rfl rfl (.int .i64 ((c.S.getD k st0).p)) (fun w9 h9 => ex_load1 rfl (h9.2.2.2.1.cell (k := k) (by omega) 0 rfl) (by kernel_rfl) Tryd.underlying3 rfl) ⟨hB, M2, M3, (hS.below HB), trivial⟩ ?_
 refine Zu 17 rfl rfl (.pointer (some ⟨W1.heap.size, 0, none⟩)) ⟨hB, M2, M3, (hS.below HB), trivial⟩ ?_
 refine Zt 18 rfl rfl (.int .i64 ((c.S.getD (k + 1) st0).p)) (fun w9 h9 => ex_load1 rfl (h9.2.2.1.cell 0 rfl) (by kernel_rfl) Tryd.underlying3 rfl) ⟨hB, M2, M3, (hS.below HB), trivial⟩ ?_
 refine Zu 19 rfl rfl (.int .i64 don) ⟨hB, M2, M3, (hS.below HB), trivial⟩ ?_
 refine sd_all [20] (by kernel_rfl) (by decide) ?_
 refine sd_call (i := 20) rfl (by kernel_rfl) rfl rfl ((show Calls Tryd.prog 58 #[.agg #[.slice K.o0 c.pl.length K.c0, .slice K.o1 c.al.length K.c1], .int .i64 c.ty.prof, .int .i64 (c.S.getD k st0).p, .int .i64 (c.S.getD (k + 1) st0).p, .int .i64 don] Y5 (GoP (c.go k don false) Y5) from go_n (.slice K.o0 c.pl.length K.c0) (.slice K.o1 c.al.length K.c1) c.pl c.al c.ty.prof (c.S.getD k st0).p (c.S.getD (k + 1) st0).p don hc.al hc.net (by omega) (by omega) Y5 (hK.pl.below HB) (hK.al.below HB) (hK.tab.belowD HB))) (by kernel_rfl) ?_ AllReadyH.nil
 rintro e W6 ⟨rfl, hb⟩
 replace HB := over HB hb
 replace hB := hB.below hb
 replace M2 := M2.below hb
 replace M3 := M3.below hb
 have z4 := hb.size
 clear hb
 refine ⟨_, rfl, ⟨hB, M2, M3, (hS.below HB), trivial⟩, ?_⟩
 refine Zu 21 rfl rfl (.tuple #[.int .i64 ((c.go k don false).1), .int .i64 ((c.go k don false).2.1), .int .i64 ((c.go k don false).2.2)]) ⟨hB, M2, M3, (hS.below HB), trivial⟩ ?_
 refine Zu 22 rfl rfl (.int .i64 ((c.go k don false).1)) ⟨hB, M2, M3, (hS.below HB), trivial⟩ ?_
 refine Zu 23 rfl rfl (.int .i64 ((c.go k don false).2.1)) ⟨hB, M2, M3, (hS.below HB), trivial⟩ ?_
 refine Zu 24 rfl rfl (.int .i64 ((c.go k don false).2.2)) ⟨hB, M2, M3, (hS.below HB), trivial⟩ ?_
 refine Zu 25 rfl rfl (.int .i64 ((c.go k don false).1)) ⟨hB, M2, M3, (hS.below HB), trivial⟩ ?_
 refine Zu 26 rfl rfl (.int .i64 ((c.go k don false).2.1)) ⟨hB, M2, M3, (hS.below HB), trivial⟩ ?_
 refine Zu 27 rfl rfl (.int .i64 ((c.go k don false).2.2)) ⟨hB, M2, M3, (hS.below HB), trivial⟩ ?_
 refine sd_done (by kernel_rfl) ?_
 refine sx_norm ?_
 refine wp_seq ?_
 refine wp_seq ?_
 refine wp_region_lit ?_
 refine Zv rfl (.int .i64 ((c.go k don false).2.2)) ?_
 by_cases C1 : (c.go k don false).2.2 = 0
 ·refine sx_bool (by kernel_rfl) rfl rfl (((c.go k don false).2.2 : Int) != (0 : Int)) false (by kernel_rfl) (by rw [bne_eq_false_iff_eq]; omega) ?_
  refine wpList_nil ?_
  refine sx_norm ?_
  refine sx_false (by kernel_rfl) ?_
  refine wp_skip ?_
  refine sx_norm ?_
  refine wp_seq ?_
  have hgb : don ≤ (c.go k don false).1 ∧ (c.go k don false).1 ≤ don + 73728 ∧ 0 ≤ (c.go k don false).2.1 ∧ (c.go k don false).2.1 ≤ 10000 := CrT.goV_bd hc.net (d := don) (by omega) (by assumption)
  refine wp_region_lit ?_
  refine Zv rfl (.int .i64 sin) ?_
  refine Zv rfl (.int .i64 ((c.go k don false).1)) ?_
  refine Zv rfl (.int .i64 don) ?_
  refine sx_int (by kernel_rfl) rfl rfl .i64 (IntKind.i64.wrap ((c.go k don false).1 - don)) (((c.go k don false).1 - don)) (by kernel_rfl) (by rw [IntKind.wrap_i64]; omega) ?_
  refine sx_int (by kernel_rfl) rfl rfl .i64 (IntKind.i64.wrap (sin + ((c.go k don false).1 - don))) ((sin + ((c.go k don false).1 - don))) (by kernel_rfl) (by rw [IntKind.wrap_i64]; omega) ?_
  refine Zv rfl (.int .i64 (sin + ((c.go k don false).1 - don))) ?_
  refine wpList_nil ?_
  refine sx_norm ?_
  refine wp_seq ?_
  refine wp_region_lit ?_
  refine Zw rfl (.agg #[.int .i64 ((c.S.getD (k + 1) st0).p), .int .i64 ((c.S.getD (k + 1) st0).o), .int .i64 ((c.S.getD (k + 1) st0).c), .int .i64 ((c.S.getD (k + 1) st0).s)]) (ex_load rfl M3 (by kernel_rfl) Tryd.underlying60 rfl (by kernel_rfl)) ?_
  refine Zv rfl (.int .i64 ((c.go k don false).1)) ?_
  by_cases C2 : (c.S.getD (k + 1) st0).c < (c.go k don false).1
  ·refine sx_call (by kernel_rfl) rfl rfl ((by have h8 := begin_n (c.S.getD (k + 1) st0).p (c.S.getD (k + 1) st0).o (c.S.getD (k + 1) st0).c (c.S.getD (k + 1) st0).s (c.go k don false).1 (by omega) W6; rw [if_pos C2, if_pos C2] at h8; exact h8)) (by kernel_rfl) ?_
   rintro e W7 ⟨rfl, hb⟩
   replace HB := over HB hb
   replace hB := hB.below hb
   replace M2 := M2.below hb
   replace M3 := M3.below hb
   have z5 := hb.size
   clear hb
   refine ⟨_, rfl, ?_⟩
   refine Zv rfl (.tuple #[.int .i64 0, .int .i64 14]) ?_
   refine Zv rfl (.int .i64 0) ?_
   refine Zv rfl (.int .i64 14) ?_
   refine Zv rfl (.int .i64 0) ?_
   refine Zv rfl (.int .i64 14) ?_
   refine wpList_nil ?_
   refine sx_norm ?_
   refine wp_seq ?_
   refine wp_seq ?_
   refine wp_region_lit ?_
   refine Zv rfl (.int .i64 14) ?_
   refine Zv rfl (.bool true) ?_
   refine wpList_nil ?_
   refine sx_norm ?_
   refine sx_true (by kernel_rfl) ?_
   refine wp_seq ?_
   refine wp_region_lit ?_
   refine Zv rfl (.agg #[.int .i64 0, .int .i64 0, .int .i64 0, .int .i64 0, .int .i64 0, .int .i64 0]) ?_
   refine Zv rfl (.pointer (some ⟨q, 0, none⟩)) ?_
   refine Zv rfl (.int .i64 ((k : Nat) : Int)) ?_
   refine sx_int (by kernel_rfl) rfl rfl .i64 (IntKind.i64.wrap (((k : Nat) : Int) + 1)) (((k + 1 : Nat) : Int)) (by kernel_rfl) (by rw [IntKind.wrap_i64]; omega) ?_
   refine sx_call (by kernel_rfl) rfl rfl (late_n c hc K q W7 (hK.below HB) (k + 1) (by omega)) (by kernel_rfl) ?_
   rintro e w9 ⟨rfl, rfl⟩
   refine ⟨_, rfl, ?_⟩
   refine sx_store (cells := #[.int .i64 0, .int .i64 0, .int .i64 0, .int .i64 0, .int .i64 0, .int .i64 0]) (by kernel_rfl) rfl rfl M2 (by kernel_rfl) (by kernel_rfl) (by kernel_rfl) (by kernel_rfl) (by kernel_rfl) ?_
   obtain ⟨W8, hW⟩ : ∃ W, W7.setRow (w.heap.size) #[.int .i64 0, .int .i64 0, .int .i64 0, .int .i64 0, .int .i64 0, .int .i64 0] = W := ⟨_, rfl⟩
   have hg : W7.grownBy W8 (some (w.heap.size)) := hW ▸ grown_row _ _ _
   have hq : Cb W8 (w.heap.size) #[.int .i64 0, .int .i64 0, .int .i64 0, .int .i64 0, .int .i64 0, .int .i64 0] 82 := hW ▸ Cb.row M2 _
   rw [hW]
   replace HB := HB.grown hg (by omega) (fun x e => by simp only [Option.some.injEq] at e; omega)
   replace hB := hB.kept hg (by omega)
   replace M3 := M3.kept hg (by omega)
   have z6 := hg.size
   replace M2 := hq
   clear hq hg hW
   refine Zv rfl (.int .i64 (c.late (k + 1))) ?_
   refine wpList_nil ?_
   refine sx_norm ?_
   refine wp_ret ?_
   refine sx_rs ?_
   have he9 : (c.late (k + 1)) = c.err k don sin false := by
    unfold CrT.err
    rw [if_neg (fun h => h (by assumption)), if_pos (by assumption)]
   exact sx_retct M2 rfl rfl rfl (by kernel_rfl) (by kernel_rfl) Tryd.underlying82 rfl (by kernel_rfl) ⟨ret_leg (l := leg0) he9 (by rw [if_neg (by rw [← he9]; exact c.late_ne _)]), HB⟩
  refine sx_call (by kernel_rfl) rfl rfl ((show Calls Tryd.prog 59 _ W6 (fun e w' => e = .returned (.tuple #[.int .i64 (c.beg k don false), .int .i64 0]) ∧ Below W6.heap.size W6 w') from by have h8 := begin_n (c.S.getD (k + 1) st0).p (c.S.getD (k + 1) st0).o (c.S.getD (k + 1) st0).c (c.S.getD (k + 1) st0).s (c.go k don false).1 (by omega) W6; rw [if_neg C2, if_neg C2] at h8; exact h8)) (by kernel_rfl) ?_
  rintro e W9 ⟨rfl, hb⟩
  replace HB := over HB hb
  replace hB := hB.below hb
  replace M2 := M2.below hb
  replace M3 := M3.below hb
  have z5 := hb.size
  clear hb
  refine ⟨_, rfl, ?_⟩
  refine Zv rfl (.tuple #[.int .i64 (c.beg k don false), .int .i64 0]) ?_
  refine Zv rfl (.int .i64 (c.beg k don false)) ?_
  refine Zv rfl (.int .i64 0) ?_
  refine Zv rfl (.int .i64 (c.beg k don false)) ?_
  refine Zv rfl (.int .i64 0) ?_
  refine wpList_nil ?_
  refine sx_norm ?_
  refine wp_seq ?_
  refine wp_seq ?_
  refine wp_region_lit ?_
  refine Zv rfl (.int .i64 0) ?_
  refine Zv rfl (.bool false) ?_
  refine wpList_nil ?_
  refine sx_norm ?_
  refine sx_false (by kernel_rfl) ?_
  refine wp_skip ?_
  refine sx_norm ?_
  refine wp_seq ?_
  refine wp_seq ?_
  have hbg : c.beg k don false = if (c.go k don false).1 < (c.S.getD (k + 1) st0).o then (c.S.getD (k + 1) st0).o else (c.go k don false).1 := rfl
  have hbb : 0 ≤ c.beg k don false ∧ c.beg k don false ≤ 4096 := by rw [hbg]; split <;> omega
  refine wp_region_lit ?_
  refine Zv rfl (.int .i64 (sin + ((c.go k don false).1 - don))) ?_
  refine Zv rfl (.pointer (some ⟨q, 0, none⟩)) ?_
  refine Zv rfl (.pointer (some ⟨q, 0, none⟩)) ?_
  refine Zv rfl (.pointer (some ⟨q, 2, none⟩)) ?_
  refine Zv rfl (.pointer (some ⟨q, 11, none⟩)) ?_
  refine Zw rfl (.int .i64 c.ty.drv) (ex_load1 rfl (hB.cell 11 rfl) (by kernel_rfl) Tryd.underlying3 rfl) ?_
  by_cases C3 : (sin + ((c.go k don false).1 - don)) > c.ty.drv
  ·refine sx_bool (by kernel_rfl) rfl rfl (decide ((sin + ((c.go k don false).1 - don)) > c.ty.drv)) true (by kernel_rfl) (decide_eq_true (by omega)) ?_
   refine wpList_nil ?_
   refine sx_norm ?_
   refine sx_true (by kernel_rfl) ?_
   refine wp_seq ?_
   refine wp_region_lit ?_
   refine Zv rfl (.agg #[.int .i64 0, .int .i64 0, .int .i64 0, .int .i64 0, .int .i64 0, .int .i64 0]) ?_
   refine sx_store (cells := #[.int .i64 0, .int .i64 0, .int .i64 0, .int .i64 0, .int .i64 0, .int .i64 0]) (by kernel_rfl) rfl rfl M2 (by kernel_rfl) (by kernel_rfl) (by kernel_rfl) (by kernel_rfl) (by kernel_rfl) ?_
   obtain ⟨W10, hW⟩ : ∃ W, W9.setRow (w.heap.size) #[.int .i64 0, .int .i64 0, .int .i64 0, .int .i64 0, .int .i64 0, .int .i64 0] = W := ⟨_, rfl⟩
   have hg : W9.grownBy W10 (some (w.heap.size)) := hW ▸ grown_row _ _ _
   have hq : Cb W10 (w.heap.size) #[.int .i64 0, .int .i64 0, .int .i64 0, .int .i64 0, .int .i64 0, .int .i64 0] 82 := hW ▸ Cb.row M2 _
   rw [hW]
   replace HB := HB.grown hg (by omega) (fun x e => by simp only [Option.some.injEq] at e; omega)
   replace hB := hB.kept hg (by omega)
   replace M3 := M3.kept hg (by omega)
   have z6 := hg.size
   replace M2 := hq
   clear hq hg hW
   refine Zv rfl (.int .i64 16) ?_
   refine wpList_nil ?_
   refine sx_norm ?_
   refine wp_ret ?_
   refine sx_rs ?_
   have he9 : 16 = c.err k don sin false := by
    unfold CrT.err
    rw [if_neg (fun h => h (by assumption)), if_neg (by assumption), if_pos (by show c.ty.drv < sin + ((c.go k don false).1 - don); omega)]
   exact sx_retct M2 rfl rfl rfl (by kernel_rfl) (by kernel_rfl) Tryd.underlying82 rfl (by kernel_rfl) ⟨ret_leg (l := leg0) he9 (by rw [if_neg (by rw [← he9]; decide)]), HB⟩
  refine sx_bool (by kernel_rfl) rfl rfl (decide ((sin + ((c.go k don false).1 - don)) > c.ty.drv)) false (by kernel_rfl) (decide_eq_false (by omega)) ?_
  refine wpList_nil ?_
  refine sx_norm ?_
  refine sx_false (by kernel_rfl) ?_
  refine wp_skip ?_
  refine sx_norm ?_
  refine wp_seq ?_
  refine wp_region_lit ?_
  refine Zv rfl (.int .i64 don) ?_
  refine Zv rfl (.int .i64 ((c.go k don false).1)) ?_
  refine Zv rfl (.int .i64 (c.beg k don false)) ?_
  refine Zv rfl (.int .i64 (c.beg k don false)) ?_
  refine Zv rfl (.pointer (some ⟨W1.heap.size, 3, none⟩)) ?_
  refine Zw rfl (.int .i64 ((c.S.getD (k + 1) st0).s)) (ex_load1 rfl (M3.cell 3 rfl) (by kernel_rfl) Tryd.underlying3 rfl) ?_
  refine sx_int (by kernel_rfl) rfl rfl .i64 (IntKind.i64.wrap ((c.beg k don false) + (c.S.getD (k + 1) st0).s)) (((c.beg k don false) + (c.S.getD (k + 1) st0).s)) (by kernel_rfl) (by rw [IntKind.wrap_i64]; omega) ?_
  refine Zv rfl (.int .i64 (sin + ((c.go k don false).1 - don))) ?_
  refine Zv rfl (.int .i64 ((c.go k don false).2.1)) ?_
  refine Zv rfl (.agg #[.int .i64 don, .int .i64 ((c.go k don false).1), .int .i64 (c.beg k don false), .int .i64 ((c.beg k don false) + (c.S.getD (k + 1) st0).s), .int .i64 (sin + ((c.go k don false).1 - don)), .int .i64 ((c.go k don false).2.1)]) ?_
  refine sx_store (cells := #[.int .i64 don, .int .i64 ((c.go k don false).1), .int .i64 (c.beg k don false), .int .i64 ((c.beg k don false) + (c.S.getD (k + 1) st0).s), .int .i64 (sin + ((c.go k don false).1 - don)), .int .i64 ((c.go k don false).2.1)]) (by kernel_rfl) rfl rfl M2 (by kernel_rfl) (by kernel_rfl) (by kernel_rfl) (by kernel_rfl) (by kernel_rfl) ?_
  obtain ⟨W11, hW⟩ : ∃ W, W9.setRow (w.heap.size) #[.int .i64 don, .int .i64 ((c.go k don false).1), .int .i64 (c.beg k don false), .int .i64 ((c.beg k don false) + (c.S.getD (k + 1) st0).s), .int .i64 (sin + ((c.go k don false).1 - don)), .int .i64 ((c.go k don false).2.1)] = W := ⟨_, rfl⟩
  have hg : W9.grownBy W11 (some (w.heap.size)) := hW ▸ grown_row _ _ _
  have hq : Cb W11 (w.heap.size) #[.int .i64 don, .int .i64 ((c.go k don false).1), .int .i64 (c.beg k don false), .int .i64 ((c.beg k don false) + (c.S.getD (k + 1) st0).s), .int .i64 (sin + ((c.go k don false).1 - don)), .int .i64 ((c.go k don false).2.1)] 82 := hW ▸ Cb.row M2 _
  rw [hW]
  replace HB := HB.grown hg (by omega) (fun x e => by simp only [Option.some.injEq] at e; omega)
  replace hB := hB.kept hg (by omega)
  replace M3 := M3.kept hg (by omega)
  have z6 := hg.size
  replace M2 := hq
  clear hq hg hW
  refine Zv rfl (.int .i64 0) ?_
  refine wpList_nil ?_
  refine sx_norm ?_
  refine wp_ret ?_
  have he9 : 0 = c.err k don sin false := by
   unfold CrT.err
   rw [if_neg (fun h => h (by assumption)), if_neg (by assumption), if_neg (by show ¬ c.ty.drv < sin + ((c.go k don false).1 - don); omega)]
  exact sx_retct M2 rfl rfl rfl (by kernel_rfl) (by kernel_rfl) Tryd.underlying82 rfl (by kernel_rfl) ⟨ret_leg (l := (c.leg k don sin false)) he9 (by rw [if_pos he9.symm]), HB⟩
 refine sx_bool (by kernel_rfl) rfl rfl (((c.go k don false).2.2 : Int) != (0 : Int)) true (by kernel_rfl) (bne_iff_ne.2 (by omega)) ?_
 refine wpList_nil ?_
 refine sx_norm ?_
 refine sx_true (by kernel_rfl) ?_
 refine wp_seq ?_
 refine wp_region_lit ?_
 refine Zv rfl (.agg #[.int .i64 0, .int .i64 0, .int .i64 0, .int .i64 0, .int .i64 0, .int .i64 0]) ?_
 refine sx_store (cells := #[.int .i64 0, .int .i64 0, .int .i64 0, .int .i64 0, .int .i64 0, .int .i64 0]) (by kernel_rfl) rfl rfl M2 (by kernel_rfl) (by kernel_rfl) (by kernel_rfl) (by kernel_rfl) (by kernel_rfl) ?_
 obtain ⟨W12, hW⟩ : ∃ W, W6.setRow (w.heap.size) #[.int .i64 0, .int .i64 0, .int .i64 0, .int .i64 0, .int .i64 0, .int .i64 0] = W := ⟨_, rfl⟩
 have hg : W6.grownBy W12 (some (w.heap.size)) := hW ▸ grown_row _ _ _
 have hq : Cb W12 (w.heap.size) #[.int .i64 0, .int .i64 0, .int .i64 0, .int .i64 0, .int .i64 0, .int .i64 0] 82 := hW ▸ Cb.row M2 _
 rw [hW]
 replace HB := HB.grown hg (by omega) (fun x e => by simp only [Option.some.injEq] at e; omega)
 replace hB := hB.kept hg (by omega)
 replace M3 := M3.kept hg (by omega)
 have z5 := hg.size
 replace M2 := hq
 clear hq hg hW
 refine Zv rfl (.int .i64 12) ?_
 refine wpList_nil ?_
 refine sx_norm ?_
 refine wp_ret ?_
 refine sx_rs ?_
 have he9 : 12 = c.err k don sin false := by
  unfold CrT.err
  rw [if_pos (by assumption)]
 exact sx_retct M2 rfl rfl rfl (by kernel_rfl) (by kernel_rfl) Tryd.underlying82 rfl (by kernel_rfl) ⟨ret_leg (l := leg0) he9 (by rw [if_neg (by rw [← he9]; decide)]), HB⟩

theorem next_n (c : CrT) (hc : c.Ok) (K : CV) (q : Nat) (w : World) (hK : Crw w c K q) (k : Nat) (hk : k < c.n) (don sin : Int) (hd : 0 ≤ don ∧ don ≤ 8192) (hs : 0 ≤ sin ∧ sin ≤ 4096) (r : Bool) : Calls Tryd.prog 40 #[.pointer (some ⟨q, 0, none⟩), .int .i64 ((k : Nat) : Int), .int .i64 don, .int .i64 sin, .bool r] w fun e w' => e = .returned (.tuple #[.agg (legC (c.legA k don sin r)), .int .i64 (c.err k don sin r)]) ∧ Below w.heap.size w w' := by
 cases r
 ·exact next_false c hc K q w hK k hk don sin hd hs
 ·exact next_true c hc K q w hK k hk don sin hd hs

end Go.Proofs.YtnapmildbodigaaDoor.T


