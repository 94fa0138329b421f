/-
  DERIVED. GL: a part of the base of layer 13 (made by pack.py).
-/
import Derived.Test.YtomebalolmabnaaGreatDoorGJ
import Derived.Test.YtomebalolmabnaaGreatDoorJa
import Derived.Test.YtomebalolmabnaaGreatDoorGA
import Derived.Test.YtomebalolmabnaaGreatDoorHS
import Derived.Test.YtomebalolmabnaaGreatDoorGF
import Derived.Test.YtomebalolmabnaaGreatDoorGH
/-! The walks of slack: what a course says, and the way on (by gen_jb.py). -/
namespace Go.Proofs.YtomebalolmabnaaGreatDoor.T
open Go.RowKit
set_option maxRecDepth 8000
attribute [local irreducible] wpList Code.wp wpAnyH

structure SV where
 o0 : Option Addr
 c0 : Nat
 o1 : Option Addr
 c1 : Nat
 va : Option Addr
 vb : Nat
 o2 : Option Addr
 c2 : Nat
 bs : Nat
 os : Nat
 o3 : Option Addr
 c3 : Nat
 bt : Nat
 ot : Nat
 o4 : Option Addr
 c4 : Nat
 bn : Nat
 on : Nat
def SV.cells (K : SV) (c : CrT) (R : List Bool) : Array Value := #[.slice K.o0 c.pl.length K.c0, .slice K.o1 c.al.length K.c1, .string c.ty.name, .int .i64 c.ty.count, .int .i64 c.ty.fr, .int .i64 c.ty.to, .slice K.va c.ty.cap.length K.vb, .int .i64 c.ty.skills, .int .i64 c.ty.prof, .int .i64 c.ty.opn, .int .i64 c.ty.cls, .int .i64 c.ty.drv, .int .i64 c.ty.rst, .int .i64 c.ty.fix, .int .i64 c.ty.pm, .int .i64 c.ty.pt, .bool (R.getD 0 false), .int .i64 ((c.lg R 0).dep), .slice K.o3 (c.n - 1) K.c3, .int .i64 ((c.lg R (c.n - 1)).arr), .int .i64 (c.mil R c.n), .slice K.o2 c.n K.c2, .slice K.o4 c.n K.c4]
structure Scr (w : World) (c : CrT) (R : List Bool) (K : SV) (q : Nat) : Prop where
 blk : Cb w q (K.cells c R) 86
 st : Rw w K.bs K.os 4 (fun k => sF c.S (k + 1)) c.n K.o2
 tm : Rw w K.bt K.ot 4 (fun k => tmE (c.tm R k)) (c.n - 1) K.o3
 sn : Rw w K.bn K.on 1 (fun k => inE (c.lg R k).sin) c.n K.o4
 pl : Ss w (.slice K.o0 c.pl.length K.c0) c.pl
 al : As w (.slice K.o1 c.al.length K.c1) c.al
 tab : Tab w
theorem Scr.below {w w' : World} {c : CrT} {R : List Bool} {K : SV} {q : Nat} (h : Scr w c R K q) (k : Below w.heap.size w w') : Scr w' c R K q := ⟨h.blk.below k, h.st.below k, h.tm.below k, h.sn.below k, h.pl.below k, h.al.below k, h.tab.belowD k⟩
theorem send_n (c : CrT) (hc : c.Ok) (R : List Bool) (_ : c.run R c.n = 0) (K : SV) (q : Nat) (w : World) (hK : Scr w c R K q) : Calls Tryz.prog 22 #[.pointer (some ⟨q, 0, none⟩)] w fun e w' => e = .returned (.int .i64 (((c.n - 1) : Nat) : Int)) ∧ w = w' := by
 have HB : Below w.heap.size w w := Below.refl _ _
 have hB := hK.blk
 have yhB := hB.lt
 have hSt := hK.st
 have hTm := hK.tm
 have hSn := hK.sn
 have hln := hc.len
 have hrst := hc.rst
 have hdrv := hc.drv
 have hrd := hc.rd
 have hcn9 : c.n = c.S.length - 1 := rfl
 refine sx_enter Tryz.func22 rfl [(0, .pointer (some ⟨q, 0, none⟩))] (by kernel_rfl) ?_
 refine Yq (Zv rfl (.int .i64 0) (Yn (Yo (Yq (Zv rfl (pt q 0) (Zv rfl (pt q 0) (Zv rfl (pt q 21) (Zw rfl (.slice K.o2 c.n K.c2) (el (hB.cell 21 rfl) Tryz.underlying83) (Zv rfl (.int .i64 ((c.n : Nat) : Int)) (Zi rfl (IntKind.i64.wrap (((c.n : Nat) : Int) - 1)) ((((c.n - 1) : Nat) : Int)) (by rw [IntKind.wrap_i64]; omega) (Zv rfl (.int .i64 (((c.n - 1) : Nat) : Int)) (Yn (Yo (wp_ret ?_))))))))))))))
 exact sx_ret1 (.int .i64 (((c.n - 1) : Nat) : Int)) rfl rfl (by kernel_rfl) ⟨rfl, rfl⟩
theorem sarr_n (c : CrT) (hc : c.Ok) (R : List Bool) (hrun : c.run R c.n = 0) (K : SV) (q : Nat) (w : World) (hK : Scr w c R K q) (k : Nat) (hk : k < c.n) : Calls Tryz.prog 21 #[.pointer (some ⟨q, 0, none⟩), .int .i64 ((k : Nat) : Int)] w fun e w' => e = .returned (.int .i64 (c.lg R k).arr) ∧ w = w' := by
 have HB : Below w.heap.size w w := Below.refl _ _
 have hB := hK.blk
 have yhB := hB.lt
 have hSt := hK.st
 have hTm := hK.tm
 have hSn := hK.sn
 have hln := hc.len
 have hrst := hc.rst
 have hdrv := hc.drv
 have hrd := hc.rd
 have hcn9 : c.n = c.S.length - 1 := rfl
 refine sx_enter Tryz.func21 rfl [(0, .pointer (some ⟨q, 0, none⟩)), (1, .int .i64 ((k : Nat) : Int))] (by kernel_rfl) ?_
 refine Yq (Zv rfl (.int .i64 0) (Yn (Yo (Ys (Yq (Zv rfl (.int .i64 ((k : Nat) : Int)) (Zv rfl (pt q 0) ?_)))))))
 refine Zc rfl (send_n c hc R hrun K q w (hK.below HB)) ?_
 rintro e w9 ⟨rfl, rfl⟩
 refine ⟨_, rfl, ?_⟩
 by_cases C1 : k = (c.n - 1)
 ·refine Zb rfl ((((k : Nat) : Int) : Int) == ((((c.n - 1) : Nat) : Int) : Int)) true (beq_iff_eq.2 (by omega)) (Yn (Yo (sx_true (by kernel_rfl) (Yq (Zv rfl (pt q 0) (Zv rfl (pt q 0) (Zv rfl (pt q 16) (Zv rfl (pt q 19) (Zw rfl (.int .i64 ((c.lg R (c.n - 1)).arr)) (el (hB.cell 19 rfl) Tryz.underlying3) (Zv rfl (.int .i64 ((c.lg R (c.n - 1)).arr)) (Yn (Yo (wp_ret (sx_rs ?_))))))))))))))
  obtain rfl : k = c.n - 1 := by omega
  exact sx_ret1 (.int .i64 ((c.lg R (c.n - 1)).arr)) rfl rfl (by kernel_rfl) ⟨rfl, rfl⟩
 refine Zb rfl ((((k : Nat) : Int) : Int) == ((((c.n - 1) : Nat) : Int) : Int)) false (beq_eq_false_iff_ne.2 (by omega)) (Yn (Yo (sx_false (by kernel_rfl) (wp_skip (Yo (Yq (Zv rfl (pt q 0) (Zv rfl (pt q 0) (Zv rfl (pt q 16) (Zv rfl (pt q 18) (Zw rfl (.slice K.o3 (c.n - 1) K.c3) (el (hB.cell 18 rfl) Tryz.underlying35) (Zv rfl (.int .i64 ((k : Nat) : Int)) (Zw rfl (pt K.bt (K.ot + k * 4)) (ex_indexO (q := K.ot) (m := (c.n - 1)) (c := K.c3) (k := k) (s := 4) rfl (by kernel_rfl) ((hTm.below HB).oa (k := k) (by omega)) (by kernel_rfl) Tryz.underlying35 (by kernel_rfl) (by omega) (by omega)) (Zv rfl (pt K.bt (K.ot + k * 4)) ?_))))))))))))))
 refine Zw rfl (.int .i64 ((c.tm R k).a)) (el ((hTm.below HB).cell (k := k) (by omega) 0 rfl) Tryz.underlying3) (Zv rfl (.int .i64 ((c.tm R k).a)) (Yn (Yo (wp_ret ?_))))
 exact sx_ret1 (.int .i64 ((c.tm R k).a)) rfl rfl (by kernel_rfl) ⟨rfl, rfl⟩
theorem smiss_n (c : CrT) (hc : c.Ok) (R : List Bool) (hrun : c.run R c.n = 0) (K : SV) (q : Nat) (w : World) (hK : Scr w c R K q) (k : Nat) (hk : k < c.n) : Calls Tryz.prog 58 #[.pointer (some ⟨q, 0, none⟩), .int .i64 ((k : Nat) : Int)] w fun e w' => e = .returned (.int .i64 (c.late (k + 1))) ∧ w = w' := by
 have HB : Below w.heap.size w w := Below.refl _ _
 have hB := hK.blk
 have yhB := hB.lt
 have hSt := hK.st
 have hTm := hK.tm
 have hSn := hK.sn
 have hln := hc.len
 have hrst := hc.rst
 have hdrv := hc.drv
 have hrd := hc.rd
 have hcn9 : c.n = c.S.length - 1 := rfl
 refine sx_enter Tryz.func58 rfl [(0, .pointer (some ⟨q, 0, none⟩)), (1, .int .i64 ((k : Nat) : Int))] (by kernel_rfl) ?_
 refine Yq (Zv rfl (.int .i64 0) (Yn (Yo (Ys (Yq (Zv rfl (.int .i64 ((k : Nat) : Int)) (Zv rfl (pt q 0) ?_)))))))
 refine Zc rfl (send_n c hc R hrun K q w (hK.below HB)) ?_
 rintro e w9 ⟨rfl, rfl⟩
 refine ⟨_, rfl, ?_⟩
 by_cases C1 : k = (c.n - 1)
 ·refine Zb rfl ((((k : Nat) : Int) : Int) == ((((c.n - 1) : Nat) : Int) : Int)) true (beq_iff_eq.2 (by omega)) (Yn (Yo (sx_true (by kernel_rfl) (Yq (Zv rfl (.int .i64 15) (Yn (Yo (wp_ret (sx_rs ?_)))))))))
  exact sx_ret1 (.int .i64 15) rfl rfl (by kernel_rfl) ⟨by unfold CrT.late; rw [if_pos (by omega)], rfl⟩
 refine Zb rfl ((((k : Nat) : Int) : Int) == ((((c.n - 1) : Nat) : Int) : Int)) false (beq_eq_false_iff_ne.2 (by omega)) (Yn (Yo (sx_false (by kernel_rfl) (wp_skip (Yo (Yq (Zv rfl (.int .i64 14) (Yn (Yo (wp_ret ?_))))))))))
 exact sx_ret1 (.int .i64 14) rfl rfl (by kernel_rfl) ⟨by unfold CrT.late; rw [if_neg (by omega)], rfl⟩
theorem sbeg_n (c : CrT) (hc : c.Ok) (R : List Bool) (hrun : c.run R c.n = 0) (K : SV) (q : Nat) (w : World) (hK : Scr w c R K q) (k : Nat) (hk : k < c.n) (a s : Int) : Calls Tryz.prog 38 #[.pointer (some ⟨q, 0, none⟩), .int .i64 ((k : Nat) : Int), .int .i64 a, .int .i64 s] w fun e w' => e = .returned (.tuple #[.int .i64 (if c.arE k a s = 0 then c.bgA k a else 0), .int .i64 (c.arE k a s)]) ∧ Below w.heap.size w w' := by
 have hst := hc.st (k + 1) (by unfold CrT.n at hk; omega)
 have HB : Below w.heap.size w w := Below.refl _ _
 have hB := hK.blk
 have yhB := hB.lt
 have hSt := hK.st
 have hTm := hK.tm
 have hSn := hK.sn
 have hln := hc.len
 have hrst := hc.rst
 have hdrv := hc.drv
 have hrd := hc.rd
 have hcn9 : c.n = c.S.length - 1 := rfl
 refine sx_enter Tryz.func38 rfl [(0, .pointer (some ⟨q, 0, none⟩)), (1, .int .i64 ((k : Nat) : Int)), (2, .int .i64 a), (3, .int .i64 s)] (by kernel_rfl) ?_
 refine Yq (Zv rfl (.int .i64 0) (Zv rfl (.int .i64 0) (Yn (Yo (Yq (Zv rfl (pt q 0) (Zv rfl (pt q 0) (Zv rfl (pt q 21) (Zw rfl (.slice K.o2 c.n K.c2) (el (hB.cell 21 rfl) Tryz.underlying83) (Zv rfl (.int .i64 ((k : Nat) : Int)) (Zw rfl (pt K.bs (K.os + k * 4)) (ex_indexO (q := K.os) (m := c.n) (c := K.c2) (k := k) (s := 4) rfl (by kernel_rfl) ((hSt.below HB).oa (k := k) (by omega)) (by kernel_rfl) Tryz.underlying83 (by kernel_rfl) (by omega) (by omega)) (Zw rfl (.agg (pK (c.S.getD (k + 1) st0))) (ex_loadR rfl ((hSt.below HB).range (k := k) (by omega)) (by kernel_rfl) Tryz.underlying76 rfl (by kernel_rfl)) (Zv rfl (.int .i64 a) ?_)))))))))))))
 by_cases C1 : (c.S.getD (k + 1) st0).c < a
 ·refine Zd rfl ((by have h8 := begin_n (c.S.getD (k + 1) st0).p (c.S.getD (k + 1) st0).o (c.S.getD (k + 1) st0).c (c.S.getD (k + 1) st0).s a (by omega) w; rw [if_pos C1, if_pos C1] at h8; exact h8)) (fun W1 hb z1 => ?_)
  replace HB := over HB hb
  clear hb
  refine Zv rfl (.tuple #[.int .i64 0, .int .i64 14]) (Zv rfl (.int .i64 0) (Zv rfl (.int .i64 14) (Zv rfl (.int .i64 0) (Zv rfl (.int .i64 14) (Yn (Yo (Ys (Yq (Zv rfl (.int .i64 14) (Zv rfl (.bool true) (Yn (Yo (sx_true (by kernel_rfl) (Yq (Zv rfl (pt q 0) ?_)))))))))))))))
  refine Zv rfl (.int .i64 ((k : Nat) : Int)) ?_
  refine Zc rfl (smiss_n c hc R hrun K q W1 (hK.below HB) k (by omega)) ?_
  rintro e w9 ⟨rfl, rfl⟩
  refine ⟨_, rfl, ?_⟩
  refine Zv rfl (.int .i64 0) (Zv rfl (.int .i64 (c.late (k + 1))) (Yn (Yo (wp_ret (sx_rs ?_)))))
  have h9 : c.arE k a s = (c.late (k + 1)) := by unfold CrT.arE; rw [if_pos (by omega)]
  refine sx_ret2 (.int .i64 0) (.int .i64 (c.late (k + 1))) rfl rfl rfl (by kernel_rfl) (by kernel_rfl) ⟨by rw [h9, if_neg (by exact c.late_ne _)], HB⟩
 refine Zd rfl ((show Calls Tryz.prog 48 _ w (fun e w' => e = .returned (.tuple #[.int .i64 (c.bgA k a), .int .i64 0]) ∧ Below w.heap.size w w') from by have h8 := begin_n (c.S.getD (k + 1) st0).p (c.S.getD (k + 1) st0).o (c.S.getD (k + 1) st0).c (c.S.getD (k + 1) st0).s a (by omega) w; rw [if_neg C1, if_neg C1] at h8; exact h8)) (fun W2 hb z1 => ?_)
 replace HB := over HB hb
 replace hB := hB.below hb
 clear hb
 refine Zv rfl (.tuple #[.int .i64 (c.bgA k a), .int .i64 0]) (Zv rfl (.int .i64 (c.bgA k a)) (Zv rfl (.int .i64 0) (Zv rfl (.int .i64 (c.bgA k a)) (Zv rfl (.int .i64 0) (Yn (Yo (Ys (Yq (Zv rfl (.int .i64 0) (Zv rfl (.bool false) (Yn (Yo (sx_false (by kernel_rfl) (wp_skip (Yo (Ys (Yq (Zv rfl (.int .i64 s) ?_))))))))))))))))))
 refine Zv rfl (pt q 0) (Zv rfl (pt q 0) (Zv rfl (pt q 2) (Zv rfl (pt q 11) (Zw rfl (.int .i64 c.ty.drv) (el (hB.cell 11 rfl) Tryz.underlying3) ?_))))
 by_cases C2 : s > c.ty.drv
 ·refine Zb rfl (decide (s > c.ty.drv)) true (decide_eq_true (by omega)) (Yn (Yo (sx_true (by kernel_rfl) (Yq (Zv rfl (.int .i64 0) (Zv rfl (.int .i64 16) (Yn (Yo (wp_ret (sx_rs ?_))))))))))
  have h9 : c.arE k a s = 16 := by unfold CrT.arE; rw [if_neg (by omega), if_pos (by omega)]
  refine sx_ret2 (.int .i64 0) (.int .i64 16) rfl rfl rfl (by kernel_rfl) (by kernel_rfl) ⟨by rw [h9, if_neg (by decide)], HB⟩
 refine Zb rfl (decide (s > c.ty.drv)) false (decide_eq_false (by omega)) (Yn (Yo (sx_false (by kernel_rfl) (wp_skip (Yo (Yq (Zv rfl (.int .i64 (c.bgA k a)) (Zv rfl (.int .i64 (c.bgA k a)) (Zv rfl (.int .i64 0) (Yn (Yo (wp_ret ?_))))))))))))
 have h9 : c.arE k a s = 0 := by unfold CrT.arE; rw [if_neg (by omega), if_neg (by omega)]
 refine sx_ret2 (.int .i64 (c.bgA k a)) (.int .i64 0) rfl rfl rfl (by kernel_rfl) (by kernel_rfl) ⟨by rw [h9, if_pos rfl], HB⟩
theorem snext_n (c : CrT) (hc : c.Ok) (R : List Bool) (hrun : c.run R c.n = 0) (K : SV) (q : Nat) (w : World) (hK : Scr w c R K q) (k : Nat) (hk : k + 1 < c.n) (a : Int) (ha : 0 ≤ a ∧ a ≤ (c.S.getD (k + 1) st0).c) : Calls Tryz.prog 39 #[.pointer (some ⟨q, 0, none⟩), .int .i64 ((k : Nat) : Int), .int .i64 (c.bgA k a)] w fun e w' => e = .returned (.tuple #[.int .i64 (c.onA R k a 0).dep, .int .i64 (c.onA R k a 0).arr]) ∧ Below w.heap.size w w' := by
 have hbg := CrT.bgA_bd hc (k := k) (a := a) (by unfold CrT.n at hk; omega) ha.1 ha.2
 have hon := CrT.onA_bd hc (R := R) (k := k) (a := a) (s := 0) hrun hk ha.1 ha.2
 have hst := hc.st (k + 1) (by unfold CrT.n at hk; omega)
 have HB : Below w.heap.size w w := Below.refl _ _
 have hB := hK.blk
 have yhB := hB.lt
 have hSt := hK.st
 have hTm := hK.tm
 have hSn := hK.sn
 have hln := hc.len
 have hrst := hc.rst
 have hdrv := hc.drv
 have hrd := hc.rd
 have hcn9 : c.n = c.S.length - 1 := rfl
 refine sx_enter Tryz.func39 rfl [(0, .pointer (some ⟨q, 0, none⟩)), (1, .int .i64 ((k : Nat) : Int)), (2, .int .i64 (c.bgA k a))] (by kernel_rfl) ?_
 refine Yq (Zv rfl (.int .i64 0) (Zv rfl (.int .i64 0) (Yn (Yo (Yq (Zv rfl (.int .i64 (c.bgA k a)) (Zv rfl (pt q 0) (Zv rfl (pt q 0) (Zv rfl (pt q 21) (Zw rfl (.slice K.o2 c.n K.c2) (el (hB.cell 21 rfl) Tryz.underlying83) (Zv rfl (.int .i64 ((k : Nat) : Int)) (Zw rfl (pt K.bs (K.os + k * 4)) (ex_indexO (q := K.os) (m := c.n) (c := K.c2) (k := k) (s := 4) rfl (by kernel_rfl) ((hSt.below HB).oa (k := k) (by omega)) (by kernel_rfl) Tryz.underlying83 (by kernel_rfl) (by omega) (by omega)) (Zv rfl (pt K.bs (K.os + k * 4 + 3)) ?_)))))))))))))
 refine Zw rfl (.int .i64 ((c.S.getD (k + 1) st0).s)) (el ((hSt.below HB).cell (k := k) (by omega) 3 rfl) Tryz.underlying3) (Zi rfl (IntKind.i64.wrap ((c.bgA k a) + (c.S.getD (k + 1) st0).s)) ((c.dnA k a)) (by rw [IntKind.wrap_i64]; show _ = c.bgA k a + (c.S.getD (k + 1) st0).s; have : c.dnA k a = c.bgA k a + (c.S.getD (k + 1) st0).s := rfl; omega) (Zv rfl (.int .i64 (c.dnA k a)) (Yn (Yo (Ys (Yq (Zv rfl (pt q 0) (Zv rfl (pt q 0) (Zv rfl (pt q 16) (Zv rfl (pt q 18) (Zw rfl (.slice K.o3 (c.n - 1) K.c3) (el (hB.cell 18 rfl) Tryz.underlying35) (Zv rfl (.int .i64 ((k : Nat) : Int)) (Zw rfl (pt K.bt (K.ot + k * 4)) (ex_indexO (q := K.ot) (m := (c.n - 1)) (c := K.c3) (k := k) (s := 4) rfl (by kernel_rfl) ((hTm.below HB).oa (k := k) (by omega)) (by kernel_rfl) Tryz.underlying35 (by kernel_rfl) (by omega) (by omega)) (Zv rfl (pt K.bt (K.ot + k * 4 + 3)) ?_))))))))))))))
 by_cases C1 : R.getD (k + 1) false = true
 ·refine Zw rfl (.bool true) (ex_load1 (v := .bool true) rfl (by have h8 := (hTm.below HB).cell (k := k) (by omega) 3 (v := .bool (R.getD (k + 1) false)) rfl; rw [show R.getD (k + 1) false = true by simpa using C1] at h8; exact h8) (by kernel_rfl) Tryz.underlying4 rfl) (Yn (Yo (sx_true (by kernel_rfl) (Yr (Zv rfl (.int .i64 (c.dnA k a)) (Zv rfl (pt q 0) (Zv rfl (pt q 0) (Zv rfl (pt q 2) (Zv rfl (pt q 12) (Zw rfl (.int .i64 c.ty.rst) (el (hB.cell 12 rfl) Tryz.underlying3) ?_))))))))))
  have hd3 : (c.onA R k a 0).dep = c.dnA k a + c.ty.rst := by
   show c.gD (c.dnA k a) (R.getD (k + 1) false) = _
   unfold CrT.gD
   rw [if_pos (by assumption)]
  refine Zi rfl (IntKind.i64.wrap ((c.dnA k a) + c.ty.rst)) ((c.onA R k a 0).dep) (by rw [IntKind.wrap_i64]; omega) (Zv rfl (.int .i64 ((c.onA R k a 0).dep)) (Yn (Yo (Ys ?_))))
  obtain ⟨Y1, hW⟩ : ∃ W, w.drew = W := ⟨_, rfl⟩
  have hb : Below w.heap.size w Y1 := hW ▸ below_drew (Below.refl _ _)
  replace HB := over HB hb
  replace hB := hB.below hb
  have z1 := hb.size
  clear hb
  refine sd_begin (fun W => Cb W (q) #[.slice K.o0 c.pl.length K.c0, .slice K.o1 c.al.length K.c1, .string c.ty.name, .int .i64 c.ty.count, .int .i64 c.ty.fr, .int .i64 c.ty.to, .slice K.va c.ty.cap.length K.vb, .int .i64 c.ty.skills, .int .i64 c.ty.prof, .int .i64 c.ty.opn, .int .i64 c.ty.cls, .int .i64 c.ty.drv, .int .i64 c.ty.rst, .int .i64 c.ty.fix, .int .i64 c.ty.pm, .int .i64 c.ty.pt, .bool (R.getD 0 false), .int .i64 ((c.lg R 0).dep), .slice K.o3 (c.n - 1) K.c3, .int .i64 ((c.lg R (c.n - 1)).arr), .int .i64 (c.mil R c.n), .slice K.o2 c.n K.c2, .slice K.o4 c.n K.c4] 86 ∧ Rw W K.bs K.os 4 (fun k => sF c.S (k + 1)) c.n K.o2 ∧ Rw W K.bt K.ot 4 (fun k => tmE (c.tm R k)) (c.n - 1) K.o3 ∧ Rw W K.bn K.on 1 (fun k => inE (c.lg R k).sin) c.n K.o4 ∧ True) (by kernel_rfl) (by rw [hW]; exact ⟨hB, (hSt.below HB), (hTm.below HB), (hSn.below HB), trivial⟩) ?_
  rw [hW]
  clear hW
  refine Zu 0 rfl rfl (pt q 0) ⟨hB, (hSt.below HB), (hTm.below HB), (hSn.below HB), trivial⟩ ?_
  refine Zu 1 rfl rfl (pt q 0) ⟨hB, (hSt.below HB), (hTm.below HB), (hSn.below HB), trivial⟩ ?_
  refine Zu 2 rfl rfl (pt q 0) ⟨hB, (hSt.below HB), (hTm.below HB), (hSn.below HB), trivial⟩ ?_
  refine Zt 3 rfl rfl (.agg #[.slice K.o0 c.pl.length K.c0, .slice K.o1 c.al.length K.c1]) (fun w9 h9 => ex_mid (q := 0) rfl h9.1 [.slice K.o0 c.pl.length K.c0, .slice K.o1 c.al.length K.c1] (by kernel_rfl) Tryz.underlying25 rfl (by kernel_rfl) rfl) ⟨hB, (hSt.below HB), (hTm.below HB), (hSn.below HB), trivial⟩ ?_
  refine Zu 4 rfl rfl (pt q 0) ⟨hB, (hSt.below HB), (hTm.below HB), (hSn.below HB), trivial⟩ ?_
  refine Zu 5 rfl rfl (pt q 0) ⟨hB, (hSt.below HB), (hTm.below HB), (hSn.below HB), trivial⟩ ?_
  refine Zu 6 rfl rfl (pt q 2) ⟨hB, (hSt.below HB), (hTm.below HB), (hSn.below HB), trivial⟩ ?_
  refine Zu 7 rfl rfl (pt q 8) ⟨hB, (hSt.below HB), (hTm.below HB), (hSn.below HB), trivial⟩ ?_
  refine Zt 8 rfl rfl (.int .i64 c.ty.prof) (fun w9 h9 => el (h9.1.cell 8 rfl) Tryz.underlying3) ⟨hB, (hSt.below HB), (hTm.below HB), (hSn.below HB), trivial⟩ ?_
  refine Zu 9 rfl rfl (pt q 0) ⟨hB, (hSt.below HB), (hTm.below HB), (hSn.below HB), trivial⟩ ?_
  refine Zu 10 rfl rfl (pt q 0) ⟨hB, (hSt.below HB), (hTm.below HB), (hSn.below HB), trivial⟩ ?_
  refine Zu 11 rfl rfl (pt q 21) ⟨hB, (hSt.below HB), (hTm.below HB), (hSn.below HB), trivial⟩ ?_
  refine Zt 12 rfl rfl (.slice K.o2 c.n K.c2) (fun w9 h9 => el (h9.1.cell 21 rfl) Tryz.underlying83) ⟨hB, (hSt.below HB), (hTm.below HB), (hSn.below HB), trivial⟩ ?_
  refine Zu 13 rfl rfl (.int .i64 ((k : Nat) : Int)) ⟨hB, (hSt.below HB), (hTm.below HB), (hSn.below HB), trivial⟩ ?_
  refine Zt 14 rfl rfl (pt K.bs (K.os + k * 4)) (fun w9 h9 => ex_indexO (q := K.os) (m := c.n) (c := K.c2) (k := k) (s := 4) rfl (by kernel_rfl) (h9.2.1.oa (k := k) (by omega)) (by kernel_rfl) Tryz.underlying83 (by kernel_rfl) (by omega) (by omega)) ⟨hB, (hSt.below HB), (hTm.below HB), (hSn.below HB), trivial⟩ ?_
  refine Zu 15 rfl rfl (pt K.bs (K.os + k * 4)) ⟨hB, (hSt.below HB), (hTm.below HB), (hSn.below HB), trivial⟩ ?_
  refine Zt 16 rfl rfl (.int .i64 ((c.S.getD (k + 1) st0).p)) (fun w9 h9 => el (h9.2.1.cell (k := k) (by omega) 0 rfl) Tryz.underlying3) ⟨hB, (hSt.below HB), (hTm.below HB), (hSn.below HB), trivial⟩ ?_
  refine Zu 17 rfl rfl (pt q 0) ⟨hB, (hSt.below HB), (hTm.below HB), (hSn.below HB), trivial⟩ ?_
  refine Zu 18 rfl rfl (pt q 0) ⟨hB, (hSt.below HB), (hTm.below HB), (hSn.below HB), trivial⟩ ?_
  refine Zu 19 rfl rfl (pt q 21) ⟨hB, (hSt.below HB), (hTm.below HB), (hSn.below HB), trivial⟩ ?_
  refine Zt 20 rfl rfl (.slice K.o2 c.n K.c2) (fun w9 h9 => el (h9.1.cell 21 rfl) Tryz.underlying83) ⟨hB, (hSt.below HB), (hTm.below HB), (hSn.below HB), trivial⟩ ?_
  refine Zu 21 rfl rfl (.int .i64 ((k : Nat) : Int)) ⟨hB, (hSt.below HB), (hTm.below HB), (hSn.below HB), trivial⟩ ?_
  refine Zt 22 rfl rfl (.int .i64 ((k + 1 : Nat) : Int)) (fun w9 _ => ex_int .i64 (IntKind.i64.wrap (((k : Nat) : Int) + 1)) (((k + 1 : Nat) : Int)) (by kernel_rfl) (by rw [IntKind.wrap_i64]; omega)) ⟨hB, (hSt.below HB), (hTm.below HB), (hSn.below HB), trivial⟩ ?_
  refine Zt 23 rfl rfl (pt K.bs (K.os + (k + 1) * 4)) (fun w9 h9 => ex_indexO (q := K.os) (m := c.n) (c := K.c2) (k := k + 1) (s := 4) rfl (by kernel_rfl) (h9.2.1.oa (k := k + 1) (by omega)) (by kernel_rfl) Tryz.underlying83 (by kernel_rfl) (by omega) (by omega)) ⟨hB, (hSt.below HB), (hTm.below HB), (hSn.below HB), trivial⟩ ?_
  refine Zu 24 rfl rfl (pt K.bs (K.os + (k + 1) * 4)) ⟨hB, (hSt.below HB), (hTm.below HB), (hSn.below HB), trivial⟩ ?_
  refine Zt 25 rfl rfl (.int .i64 ((c.S.getD (k + 1 + 1) st0).p)) (fun w9 h9 => el (h9.2.1.cell (k := k + 1) (by omega) 0 rfl) Tryz.underlying3) ⟨hB, (hSt.below HB), (hTm.below HB), (hSn.below HB), trivial⟩ ?_
  refine Zu 26 rfl rfl (.int .i64 ((c.onA R k a 0).dep)) ⟨hB, (hSt.below HB), (hTm.below HB), (hSn.below HB), trivial⟩ ?_
  refine sd_all [27] (by kernel_rfl) (by decide) ?_
  refine sd_call (i := 27) rfl (by kernel_rfl) rfl rfl ((show Calls Tryz.prog 59 #[.agg #[.slice K.o0 c.pl.length K.c0, .slice K.o1 c.al.length K.c1], .int .i64 c.ty.prof, .int .i64 (c.S.getD (k + 1) st0).p, .int .i64 (c.S.getD (k + 1 + 1) st0).p, .int .i64 (c.onA R k a 0).dep] Y1 (GoP (c.go (k + 1) (c.dnA k a) (R.getD (k + 1) false)) Y1) from go_n (.slice K.o0 c.pl.length K.c0) (.slice K.o1 c.al.length K.c1) c.pl c.al c.ty.prof (c.S.getD (k + 1) st0).p (c.S.getD (k + 1 + 1) st0).p (c.onA R k a 0).dep hc.al hc.net (by omega) (by omega) Y1 (hK.pl.below HB) (hK.al.below HB) (hK.tab.belowD HB))) (by kernel_rfl) ?_ AllReadyH.nil
  rintro e W2 ⟨rfl, hb⟩
  replace HB := over HB hb
  replace hB := hB.below hb
  have z2 := hb.size
  clear hb
  refine ⟨_, rfl, ⟨hB, (hSt.below HB), (hTm.below HB), (hSn.below HB), trivial⟩, ?_⟩
  refine Zu 28 rfl rfl (.tuple #[.int .i64 ((c.onA R k a 0).arr), .int .i64 ((c.go (k + 1) (c.dnA k a) (R.getD (k + 1) false)).2.1), .int .i64 ((c.go (k + 1) (c.dnA k a) (R.getD (k + 1) false)).2.2)]) ⟨hB, (hSt.below HB), (hTm.below HB), (hSn.below HB), trivial⟩ ?_
  refine Zu 29 rfl rfl (.int .i64 ((c.onA R k a 0).arr)) ⟨hB, (hSt.below HB), (hTm.below HB), (hSn.below HB), trivial⟩ ?_
  refine Zu 30 rfl rfl (.int .i64 ((c.go (k + 1) (c.dnA k a) (R.getD (k + 1) false)).2.1)) ⟨hB, (hSt.below HB), (hTm.below HB), (hSn.below HB), trivial⟩ ?_
  refine Zu 31 rfl rfl (.int .i64 ((c.go (k + 1) (c.dnA k a) (R.getD (k + 1) false)).2.2)) ⟨hB, (hSt.below HB), (hTm.below HB), (hSn.below HB), trivial⟩ ?_
  refine Zu 32 rfl rfl (.int .i64 ((c.onA R k a 0).arr)) ⟨hB, (hSt.below HB), (hTm.below HB), (hSn.below HB), trivial⟩ ?_
  refine sd_done (by kernel_rfl) ?_
  refine Yo (Yq (Zv rfl (.int .i64 ((c.onA R k a 0).dep)) (Zv rfl (.int .i64 ((c.onA R k a 0).arr)) (Zv rfl (.int .i64 ((c.onA R k a 0).dep)) (Zv rfl (.int .i64 ((c.onA R k a 0).arr)) (Yn (Yo (wp_ret ?_))))))))
  exact sx_ret2 (.int .i64 ((c.onA R k a 0).dep)) (.int .i64 ((c.onA R k a 0).arr)) rfl rfl rfl (by kernel_rfl) (by kernel_rfl) ⟨rfl, HB⟩
 refine Zw rfl (.bool false) (ex_load1 (v := .bool false) rfl (by have h8 := (hTm.below HB).cell (k := k) (by omega) 3 (v := .bool (R.getD (k + 1) false)) rfl; rw [show R.getD (k + 1) false = false by simpa using C1] at h8; exact h8) (by kernel_rfl) Tryz.underlying4 rfl) (Yn (Yo (sx_false (by kernel_rfl) (wp_skip (Yo (Ys ?_))))))
 have hdp : c.dnA k a = (c.onA R k a 0).dep := by
  show _ = c.gD (c.dnA k a) (R.getD (k + 1) false)
  unfold CrT.gD
  rw [if_neg (by assumption)]
 rw [hdp]
 obtain ⟨Y3, hW⟩ : ∃ W, w.drew = W := ⟨_, rfl⟩
 have hb : Below w.heap.size w Y3 := hW ▸ below_drew (Below.refl _ _)
 replace HB := over HB hb
 replace hB := hB.below hb
 have z1 := hb.size
 clear hb
 refine sd_begin (fun W => Cb W (q) #[.slice K.o0 c.pl.length K.c0, .slice K.o1 c.al.length K.c1, .string c.ty.name, .int .i64 c.ty.count, .int .i64 c.ty.fr, .int .i64 c.ty.to, .slice K.va c.ty.cap.length K.vb, .int .i64 c.ty.skills, .int .i64 c.ty.prof, .int .i64 c.ty.opn, .int .i64 c.ty.cls, .int .i64 c.ty.drv, .int .i64 c.ty.rst, .int .i64 c.ty.fix, .int .i64 c.ty.pm, .int .i64 c.ty.pt, .bool (R.getD 0 false), .int .i64 ((c.lg R 0).dep), .slice K.o3 (c.n - 1) K.c3, .int .i64 ((c.lg R (c.n - 1)).arr), .int .i64 (c.mil R c.n), .slice K.o2 c.n K.c2, .slice K.o4 c.n K.c4] 86 ∧ Rw W K.bs K.os 4 (fun k => sF c.S (k + 1)) c.n K.o2 ∧ Rw W K.bt K.ot 4 (fun k => tmE (c.tm R k)) (c.n - 1) K.o3 ∧ Rw W K.bn K.on 1 (fun k => inE (c.lg R k).sin) c.n K.o4 ∧ True) (by kernel_rfl) (by rw [hW]; exact ⟨hB, (hSt.below HB), (hTm.below HB), (hSn.below HB), trivial⟩) ?_
 rw [hW]
 clear hW
 refine Zu 0 rfl rfl (pt q 0) ⟨hB, (hSt.below HB), (hTm.below HB), (hSn.below HB), trivial⟩ ?_
 refine Zu 1 rfl rfl (pt q 0) ⟨hB, (hSt.below HB), (hTm.below HB), (hSn.below HB), trivial⟩ ?_
 refine Zu 2 rfl rfl (pt q 0) ⟨hB, (hSt.below HB), (hTm.below HB), (hSn.below HB), trivial⟩ ?_
 refine Zt 3 rfl rfl (.agg #[.slice K.o0 c.pl.length K.c0, .slice K.o1 c.al.length K.c1]) (fun w9 h9 => ex_mid (q := 0) rfl h9.1 [.slice K.o0 c.pl.length K.c0, .slice K.o1 c.al.length K.c1] (by kernel_rfl) Tryz.underlying25 rfl (by kernel_rfl) rfl) ⟨hB, (hSt.below HB), (hTm.below HB), (hSn.below HB), trivial⟩ ?_
 refine Zu 4 rfl rfl (pt q 0) ⟨hB, (hSt.below HB), (hTm.below HB), (hSn.below HB), trivial⟩ ?_
 refine Zu 5 rfl rfl (pt q 0) ⟨hB, (hSt.below HB), (hTm.below HB), (hSn.below HB), trivial⟩ ?_
 refine Zu 6 rfl rfl (pt q 2) ⟨hB, (hSt.below HB), (hTm.below HB), (hSn.below HB), trivial⟩ ?_
 refine Zu 7 rfl rfl (pt q 8) ⟨hB, (hSt.below HB), (hTm.below HB), (hSn.below HB), trivial⟩ ?_
 refine Zt 8 rfl rfl (.int .i64 c.ty.prof) (fun w9 h9 => el (h9.1.cell 8 rfl) Tryz.underlying3) ⟨hB, (hSt.below HB), (hTm.below HB), (hSn.below HB), trivial⟩ ?_
 refine Zu 9 rfl rfl (pt q 0) ⟨hB, (hSt.below HB), (hTm.below HB), (hSn.below HB), trivial⟩ ?_
 refine Zu 10 rfl rfl (pt q 0) ⟨hB, (hSt.below HB), (hTm.below HB), (hSn.below HB), trivial⟩ ?_
 refine Zu 11 rfl rfl (pt q 21) ⟨hB, (hSt.below HB), (hTm.below HB), (hSn.below HB), trivial⟩ ?_
 refine Zt 12 rfl rfl (.slice K.o2 c.n K.c2) (fun w9 h9 => el (h9.1.cell 21 rfl) Tryz.underlying83) ⟨hB, (hSt.below HB), (hTm.below HB), (hSn.below HB), trivial⟩ ?_
 refine Zu 13 rfl rfl (.int .i64 ((k : Nat) : Int)) ⟨hB, (hSt.below HB), (hTm.below HB), (hSn.below HB), trivial⟩ ?_
 refine Zt 14 rfl rfl (pt K.bs (K.os + k * 4)) (fun w9 h9 => ex_indexO (q := K.os) (m := c.n) (c := K.c2) (k := k) (s := 4) rfl (by kernel_rfl) (h9.2.1.oa (k := k) (by omega)) (by kernel_rfl) Tryz.underlying83 (by kernel_rfl) (by omega) (by omega)) ⟨hB, (hSt.below HB), (hTm.below HB), (hSn.below HB), trivial⟩ ?_
 refine Zu 15 rfl rfl (pt K.bs (K.os + k * 4)) ⟨hB, (hSt.below HB), (hTm.below HB), (hSn.below HB), trivial⟩ ?_
 refine Zt 16 rfl rfl (.int .i64 ((c.S.getD (k + 1) st0).p)) (fun w9 h9 => el (h9.2.1.cell (k := k) (by omega) 0 rfl) Tryz.underlying3) ⟨hB, (hSt.below HB), (hTm.below HB), (hSn.below HB), trivial⟩ ?_
 refine Zu 17 rfl rfl (pt q 0) ⟨hB, (hSt.below HB), (hTm.below HB), (hSn.below HB), trivial⟩ ?_
 refine Zu 18 rfl rfl (pt q 0) ⟨hB, (hSt.below HB), (hTm.below HB), (hSn.below HB), trivial⟩ ?_
 refine Zu 19 rfl rfl (pt q 21) ⟨hB, (hSt.below HB), (hTm.below HB), (hSn.below HB), trivial⟩ ?_
 refine Zt 20 rfl rfl (.slice K.o2 c.n K.c2) (fun w9 h9 => el (h9.1.cell 21 rfl) Tryz.underlying83) ⟨hB, (hSt.below HB), (hTm.below HB), (hSn.below HB), trivial⟩ ?_
 refine Zu 21 rfl rfl (.int .i64 ((k : Nat) : Int)) ⟨hB, (hSt.below HB), (hTm.below HB), (hSn.below HB), trivial⟩ ?_
 refine Zt 22 rfl rfl (.int .i64 ((k + 1 : Nat) : Int)) (fun w9 _ => ex_int .i64 (IntKind.i64.wrap (((k : Nat) : Int) + 1)) (((k + 1 : Nat) : Int)) (by kernel_rfl) (by rw [IntKind.wrap_i64]; omega)) ⟨hB, (hSt.below HB), (hTm.below HB), (hSn.below HB), trivial⟩ ?_
 refine Zt 23 rfl rfl (pt K.bs (K.os + (k + 1) * 4)) (fun w9 h9 => ex_indexO (q := K.os) (m := c.n) (c := K.c2) (k := k + 1) (s := 4) rfl (by kernel_rfl) (h9.2.1.oa (k := k + 1) (by omega)) (by kernel_rfl) Tryz.underlying83 (by kernel_rfl) (by omega) (by omega)) ⟨hB, (hSt.below HB), (hTm.below HB), (hSn.below HB), trivial⟩ ?_
 refine Zu 24 rfl rfl (pt K.bs (K.os + (k + 1) * 4)) ⟨hB, (hSt.below HB), (hTm.below HB), (hSn.below HB), trivial⟩ ?_
 refine Zt 25 rfl rfl (.int .i64 ((c.S.getD (k + 1 + 1) st0).p)) (fun w9 h9 => el (h9.2.1.cell (k := k + 1) (by omega) 0 rfl) Tryz.underlying3) ⟨hB, (hSt.below HB), (hTm.below HB), (hSn.below HB), trivial⟩ ?_
 refine Zu 26 rfl rfl (.int .i64 ((c.onA R k a 0).dep)) ⟨hB, (hSt.below HB), (hTm.below HB), (hSn.below HB), trivial⟩ ?_
 refine sd_all [27] (by kernel_rfl) (by decide) ?_
 refine sd_call (i := 27) rfl (by kernel_rfl) rfl rfl ((show Calls Tryz.prog 59 #[.agg #[.slice K.o0 c.pl.length K.c0, .slice K.o1 c.al.length K.c1], .int .i64 c.ty.prof, .int .i64 (c.S.getD (k + 1) st0).p, .int .i64 (c.S.getD (k + 1 + 1) st0).p, .int .i64 (c.onA R k a 0).dep] Y3 (GoP (c.go (k + 1) (c.dnA k a) (R.getD (k + 1) false)) Y3) from go_n (.slice K.o0 c.pl.length K.c0) (.slice K.o1 c.al.length K.c1) c.pl c.al c.ty.prof (c.S.getD (k + 1) st0).p (c.S.getD (k + 1 + 1) st0).p (c.onA R k a 0).dep hc.al hc.net (by omega) (by omega) Y3 (hK.pl.below HB) (hK.al.below HB) (hK.tab.belowD HB))) (by kernel_rfl) ?_ AllReadyH.nil
 rintro e W4 ⟨rfl, hb⟩
 replace HB := over HB hb
 replace hB := hB.below hb
 have z2 := hb.size
 clear hb
 refine ⟨_, rfl, ⟨hB, (hSt.below HB), (hTm.below HB), (hSn.below HB), trivial⟩, ?_⟩
 refine Zu 28 rfl rfl (.tuple #[.int .i64 ((c.onA R k a 0).arr), .int .i64 ((c.go (k + 1) (c.dnA k a) (R.getD (k + 1) false)).2.1), .int .i64 ((c.go (k + 1) (c.dnA k a) (R.getD (k + 1) false)).2.2)]) ⟨hB, (hSt.below HB), (hTm.below HB), (hSn.below HB), trivial⟩ ?_
 refine Zu 29 rfl rfl (.int .i64 ((c.onA R k a 0).arr)) ⟨hB, (hSt.below HB), (hTm.below HB), (hSn.below HB), trivial⟩ ?_
 refine Zu 30 rfl rfl (.int .i64 ((c.go (k + 1) (c.dnA k a) (R.getD (k + 1) false)).2.1)) ⟨hB, (hSt.below HB), (hTm.below HB), (hSn.below HB), trivial⟩ ?_
 refine Zu 31 rfl rfl (.int .i64 ((c.go (k + 1) (c.dnA k a) (R.getD (k + 1) false)).2.2)) ⟨hB, (hSt.below HB), (hTm.below HB), (hSn.below HB), trivial⟩ ?_
 refine Zu 32 rfl rfl (.int .i64 ((c.onA R k a 0).arr)) ⟨hB, (hSt.below HB), (hTm.below HB), (hSn.below HB), trivial⟩ ?_
 refine sd_done (by kernel_rfl) ?_
 refine Yo (Yq (Zv rfl (.int .i64 ((c.onA R k a 0).dep)) (Zv rfl (.int .i64 ((c.onA R k a 0).arr)) (Zv rfl (.int .i64 ((c.onA R k a 0).dep)) (Zv rfl (.int .i64 ((c.onA R k a 0).arr)) (Yn (Yo (wp_ret ?_))))))))
 exact sx_ret2 (.int .i64 ((c.onA R k a 0).dep)) (.int .i64 ((c.onA R k a 0).arr)) rfl rfl rfl (by kernel_rfl) (by kernel_rfl) ⟨rfl, HB⟩
theorem smost_n (c : CrT) (hc : c.Ok) (R : List Bool) (hrun : c.run R c.n = 0) (K : SV) (q : Nat) (w : World) (hK : Scr w c R K q) (k j : Nat) (hk : k < c.n) (hj : (c.lg R k).arr + j ≤ (c.S.getD (k + 1) st0).c) (oL : Option Addr) (nL cL bL qL : Nat) (hL : k + 1 < c.n → nL = (c.moL R (k + 1)).length ∧ Rw w bL qL 1 (fun k1 => inE ((c.moL R (k + 1)).getD k1 0)) (c.moL R (k + 1)).length oL) : Calls Tryz.prog 49 #[.pointer (some ⟨q, 0, none⟩), .int .i64 ((k : Nat) : Int), .int .i64 (c.bgA k ((c.lg R k).arr + ((j : Nat) : Int))), .slice oL nL cL] w fun e w' => e = .returned (.int .i64 (c.mo R (c.n - 1 - k) k j)) ∧ Below w.heap.size w w' := by
 have hla := CrT.lg_arr hc hrun hk
 have HB : Below w.heap.size w w := Below.refl _ _
 have hB := hK.blk
 have yhB := hB.lt
 have hSt := hK.st
 have hTm := hK.tm
 have hSn := hK.sn
 have hln := hc.len
 have hrst := hc.rst
 have hdrv := hc.drv
 have hrd := hc.rd
 have hcn9 : c.n = c.S.length - 1 := rfl
 refine sx_enter Tryz.func49 rfl [(0, .pointer (some ⟨q, 0, none⟩)), (1, .int .i64 ((k : Nat) : Int)), (2, .int .i64 (c.bgA k ((c.lg R k).arr + ((j : Nat) : Int)))), (3, .slice oL nL cL)] (by kernel_rfl) ?_
 refine Yq (Zv rfl (.int .i64 0) (Yn (Yo (Ys (Yq (Zv rfl (.int .i64 ((k : Nat) : Int)) (Zv rfl (pt q 0) ?_)))))))
 refine Zc rfl (send_n c hc R hrun K q w (hK.below HB)) ?_
 rintro e w9 ⟨rfl, rfl⟩
 refine ⟨_, rfl, ?_⟩
 by_cases C1 : k = (c.n - 1)
 ·refine Zb rfl ((((k : Nat) : Int) : Int) == ((((c.n - 1) : Nat) : Int) : Int)) true (beq_iff_eq.2 (by omega)) (Yn (Yo (sx_true (by kernel_rfl) (Yq (Zv rfl (pt q 0) (Zv rfl (pt q 0) (Zv rfl (pt q 2) (Zv rfl (pt q 11) (Zw rfl (.int .i64 c.ty.drv) (el (hB.cell 11 rfl) Tryz.underlying3) (Zv rfl (.int .i64 c.ty.drv) (Yn (Yo (wp_ret (sx_rs ?_))))))))))))))
  have h9 : (c.mo R (c.n - 1 - k) k j) = c.ty.drv := by rw [show c.n - 1 - k = 0 by omega]; rfl
  refine sx_ret1 (.int .i64 c.ty.drv) rfl rfl (by kernel_rfl) ⟨by rw [h9], HB⟩
 refine Zb rfl ((((k : Nat) : Int) : Int) == ((((c.n - 1) : Nat) : Int) : Int)) false (beq_eq_false_iff_ne.2 (by omega)) (Yn (Yo (sx_false (by kernel_rfl) (wp_skip (Yo (Ys ?_))))))
 have hk1 : k + 1 < c.n := by omega
 have hla1 := CrT.lg_arr hc hrun hk1
 have hon := CrT.onA_bd hc (R := R) (k := k) (a := ((c.lg R k).arr + ((j : Nat) : Int))) (s := 0) hrun hk1 (by omega) (by omega)
 obtain ⟨m, hm⟩ : ∃ m, c.n - 1 - k = m + 1 := ⟨c.n - 1 - k - 1, by omega⟩
 have hm1 : c.n - 1 - (k + 1) = m := by omega
 obtain ⟨hnL, hRL⟩ := hL hk1
 subst hnL
 have hml := c.moL_len R (k + 1)
 have hmo : (c.mo R (c.n - 1 - k) k j) = if (c.onA R k ((c.lg R k).arr + ((j : Nat) : Int)) 0).arr - (c.lg R (k + 1)).arr < 0 ∨ (c.ln R (k + 1) : Int) ≤ (c.onA R k ((c.lg R k).arr + ((j : Nat) : Int)) 0).arr - (c.lg R (k + 1)).arr then -1 else if R.getD (k + 1) false = false then c.mo R m (k + 1) ((c.onA R k ((c.lg R k).arr + ((j : Nat) : Int)) 0).arr - (c.lg R (k + 1)).arr).toNat - ((c.onA R k ((c.lg R k).arr + ((j : Nat) : Int)) 0).arr - (c.onA R k ((c.lg R k).arr + ((j : Nat) : Int)) 0).dep) else if c.mo R m (k + 1) ((c.onA R k ((c.lg R k).arr + ((j : Nat) : Int)) 0).arr - (c.lg R (k + 1)).arr).toNat - ((c.onA R k ((c.lg R k).arr + ((j : Nat) : Int)) 0).arr - (c.onA R k ((c.lg R k).arr + ((j : Nat) : Int)) 0).dep) < 0 then -1 else c.ty.drv := by rw [hm]; rfl
 refine Yr (Zv rfl (pt q 0) (Zv rfl (.int .i64 ((k : Nat) : Int)) (Zv rfl (.int .i64 (c.bgA k ((c.lg R k).arr + ((j : Nat) : Int)))) ?_)))
 refine Zd rfl (snext_n c hc R hrun K q w (hK.below HB) k (by omega) ((c.lg R k).arr + ((j : Nat) : Int)) ⟨by omega, by omega⟩) (fun W1 hb z1 => ?_)
 replace HB := over HB hb
 replace hB := hB.below hb
 clear hb
 refine Zv rfl (.tuple #[.int .i64 ((c.onA R k ((c.lg R k).arr + ((j : Nat) : Int)) 0).dep), .int .i64 ((c.onA R k ((c.lg R k).arr + ((j : Nat) : Int)) 0).arr)]) (Zv rfl (.int .i64 ((c.onA R k ((c.lg R k).arr + ((j : Nat) : Int)) 0).dep)) (Zv rfl (.int .i64 ((c.onA R k ((c.lg R k).arr + ((j : Nat) : Int)) 0).arr)) (Zv rfl (.int .i64 ((c.onA R k ((c.lg R k).arr + ((j : Nat) : Int)) 0).dep)) (Zv rfl (.int .i64 ((c.onA R k ((c.lg R k).arr + ((j : Nat) : Int)) 0).arr)) (Yn (Yo (Yq (Zv rfl (.int .i64 ((c.onA R k ((c.lg R k).arr + ((j : Nat) : Int)) 0).arr)) (Zv rfl (pt q 0) (Zv rfl (.int .i64 ((k : Nat) : Int)) (Zi rfl (IntKind.i64.wrap (((k : Nat) : Int) + 1)) (((k + 1 : Nat) : Int)) (by rw [IntKind.wrap_i64]; omega) ?_)))))))))))
 refine Zc rfl (sarr_n c hc R hrun K q W1 (hK.below HB) (k + 1) (by omega)) ?_
 rintro e w9 ⟨rfl, rfl⟩
 refine ⟨_, rfl, ?_⟩
 refine Zi rfl (IntKind.i64.wrap ((c.onA R k ((c.lg R k).arr + ((j : Nat) : Int)) 0).arr - (c.lg R (k + 1)).arr)) (((c.onA R k ((c.lg R k).arr + ((j : Nat) : Int)) 0).arr - (c.lg R (k + 1)).arr)) (by rw [IntKind.wrap_i64]; omega) (Zv rfl (.int .i64 ((c.onA R k ((c.lg R k).arr + ((j : Nat) : Int)) 0).arr - (c.lg R (k + 1)).arr)) (Yn (Yo (Ys (Yq (Zv rfl (.int .i64 ((c.onA R k ((c.lg R k).arr + ((j : Nat) : Int)) 0).arr - (c.lg R (k + 1)).arr)) ?_))))))
 by_cases C2 : ((c.onA R k ((c.lg R k).arr + ((j : Nat) : Int)) 0).arr - (c.lg R (k + 1)).arr) < 0
 ·refine Zb rfl (decide (((c.onA R k ((c.lg R k).arr + ((j : Nat) : Int)) 0).arr - (c.lg R (k + 1)).arr) < 0)) true (decide_eq_true (by omega)) (Zv rfl (.bool true) (Zk rfl (Zk rfl (Zk rfl (Zk rfl (Zv rfl (.bool true) (Yn (Yo (sx_true (by kernel_rfl) (Yq (Zv rfl (.int .i64 (-1)) (Yn (Yo (wp_ret (sx_rs ?_)))))))))))))))
  rw [if_pos (by omega)] at hmo
  refine sx_ret1 (.int .i64 (-1)) rfl rfl (by kernel_rfl) ⟨by rw [hmo], HB⟩
 refine Zb rfl (decide (((c.onA R k ((c.lg R k).arr + ((j : Nat) : Int)) 0).arr - (c.lg R (k + 1)).arr) < 0)) false (decide_eq_false (by omega)) (Zv rfl (.bool false) (Zv rfl (.int .i64 ((c.onA R k ((c.lg R k).arr + ((j : Nat) : Int)) 0).arr - (c.lg R (k + 1)).arr)) (Zv rfl (.slice oL (c.moL R (k + 1)).length cL) (Zv rfl (.int .i64 (((c.moL R (k + 1)).length : Nat) : Int)) ?_))))
 by_cases C3 : ((c.onA R k ((c.lg R k).arr + ((j : Nat) : Int)) 0).arr - (c.lg R (k + 1)).arr) ≥ (((c.moL R (k + 1)).length : Nat) : Int)
 ·refine Zb rfl (decide (((c.onA R k ((c.lg R k).arr + ((j : Nat) : Int)) 0).arr - (c.lg R (k + 1)).arr) ≥ (((c.moL R (k + 1)).length : Nat) : Int))) true (decide_eq_true (by omega)) (Zv rfl (.bool true) (Yn (Yo (sx_true (by kernel_rfl) (Yq (Zv rfl (.int .i64 (-1)) (Yn (Yo (wp_ret (sx_rs ?_))))))))))
  rw [if_pos (by omega)] at hmo
  refine sx_ret1 (.int .i64 (-1)) rfl rfl (by kernel_rfl) ⟨by rw [hmo], HB⟩
 refine Zb rfl (decide (((c.onA R k ((c.lg R k).arr + ((j : Nat) : Int)) 0).arr - (c.lg R (k + 1)).arr) ≥ (((c.moL R (k + 1)).length : Nat) : Int))) false (decide_eq_false (by omega)) (Zv rfl (.bool false) (Yn (Yo (sx_false (by kernel_rfl) (wp_skip (Yo (Ys ?_)))))))
 obtain ⟨i, hi⟩ : ∃ i : Nat, ((c.onA R k ((c.lg R k).arr + ((j : Nat) : Int)) 0).arr - (c.lg R (k + 1)).arr) = ((i : Nat) : Int) := ⟨((c.onA R k ((c.lg R k).arr + ((j : Nat) : Int)) 0).arr - (c.lg R (k + 1)).arr).toNat, by omega⟩
 have hil : i < c.ln R (k + 1) := by omega
 have hbd := CrT.mo_bd hc hrun m (k + 1) i (by omega) hil
 rw [hi] at hmo ⊢
 rw [Int.toNat_natCast, if_neg (by omega)] at hmo
 refine Yr (Zv rfl (.slice oL (c.moL R (k + 1)).length cL) (Zv rfl (.int .i64 ((i : Nat) : Int)) (Zw rfl (pt bL (qL + i * 1)) (ex_indexO (q := qL) (m := (c.moL R (k + 1)).length) (c := cL) (k := i) (s := 1) rfl (by kernel_rfl) ((hRL.below HB).oa (k := i) (by omega)) (by kernel_rfl) Tryz.underlying42 (by kernel_rfl) (by omega) (by omega)) (Zw rfl (.int .i64 (c.mo R m (k + 1) i)) (el (by have h8 := (hRL.below HB).cell (k := i) (by omega) 0 (v := .int .i64 ((c.moL R (k + 1)).getD i 0)) rfl; rw [CrT.moL_at hil, hm1] at h8; exact h8) Tryz.underlying3) (Zv rfl (.int .i64 ((c.onA R k ((c.lg R k).arr + ((j : Nat) : Int)) 0).arr)) (Zv rfl (.int .i64 ((c.onA R k ((c.lg R k).arr + ((j : Nat) : Int)) 0).dep)) (Zi rfl (IntKind.i64.wrap ((c.onA R k ((c.lg R k).arr + ((j : Nat) : Int)) 0).arr - (c.onA R k ((c.lg R k).arr + ((j : Nat) : Int)) 0).dep)) (((c.onA R k ((c.lg R k).arr + ((j : Nat) : Int)) 0).arr - (c.onA R k ((c.lg R k).arr + ((j : Nat) : Int)) 0).dep)) (by rw [IntKind.wrap_i64]; omega) (Zi rfl (IntKind.i64.wrap ((c.mo R m (k + 1) i) - ((c.onA R k ((c.lg R k).arr + ((j : Nat) : Int)) 0).arr - (c.onA R k ((c.lg R k).arr + ((j : Nat) : Int)) 0).dep))) (((c.mo R m (k + 1) i) - ((c.onA R k ((c.lg R k).arr + ((j : Nat) : Int)) 0).arr - (c.onA R k ((c.lg R k).arr + ((j : Nat) : Int)) 0).dep))) (by rw [IntKind.wrap_i64]; omega) (Zv rfl (.int .i64 ((c.mo R m (k + 1) i) - ((c.onA R k ((c.lg R k).arr + ((j : Nat) : Int)) 0).arr - (c.onA R k ((c.lg R k).arr + ((j : Nat) : Int)) 0).dep))) (Yn (Yo (Ys (Yq (Zv rfl (pt q 0) ?_))))))))))))))
 refine Zv rfl (pt q 0) (Zv rfl (pt q 16) (Zv rfl (pt q 18) (Zw rfl (.slice K.o3 (c.n - 1) K.c3) (el (hB.cell 18 rfl) Tryz.underlying35) (Zv rfl (.int .i64 ((k : Nat) : Int)) (Zw rfl (pt K.bt (K.ot + k * 4)) (ex_indexO (q := K.ot) (m := (c.n - 1)) (c := K.c3) (k := k) (s := 4) rfl (by kernel_rfl) ((hTm.below HB).oa (k := k) (by omega)) (by kernel_rfl) Tryz.underlying35 (by kernel_rfl) (by omega) (by omega)) (Zv rfl (pt K.bt (K.ot + k * 4 + 3)) ?_))))))
 by_cases C4 : R.getD (k + 1) false = true
 ·refine Zw rfl (.bool true) (ex_load1 (v := .bool true) rfl (by have h8 := (hTm.below HB).cell (k := k) (by omega) 3 (v := .bool (R.getD (k + 1) false)) rfl; rw [show R.getD (k + 1) false = true by simpa using C4] at h8; exact h8) (by kernel_rfl) Tryz.underlying4 rfl) (Zv rfl (.bool false) (Yn (Yo (sx_false (by kernel_rfl) (wp_skip (Yo (Ys (Yq (Zv rfl (.int .i64 ((c.mo R m (k + 1) i) - ((c.onA R k ((c.lg R k).arr + ((j : Nat) : Int)) 0).arr - (c.onA R k ((c.lg R k).arr + ((j : Nat) : Int)) 0).dep))) ?_)))))))))
  by_cases C5 : ((c.mo R m (k + 1) i) - ((c.onA R k ((c.lg R k).arr + ((j : Nat) : Int)) 0).arr - (c.onA R k ((c.lg R k).arr + ((j : Nat) : Int)) 0).dep)) < 0
  ·refine Zb rfl (decide (((c.mo R m (k + 1) i) - ((c.onA R k ((c.lg R k).arr + ((j : Nat) : Int)) 0).arr - (c.onA R k ((c.lg R k).arr + ((j : Nat) : Int)) 0).dep)) < 0)) true (decide_eq_true (by omega)) (Yn (Yo (sx_true (by kernel_rfl) (Yq (Zv rfl (.int .i64 (-1)) (Yn (Yo (wp_ret (sx_rs ?_)))))))))
   rw [if_neg (by simp_all), if_pos (by omega)] at hmo
   refine sx_ret1 (.int .i64 (-1)) rfl rfl (by kernel_rfl) ⟨by rw [hmo], HB⟩
  refine Zb rfl (decide (((c.mo R m (k + 1) i) - ((c.onA R k ((c.lg R k).arr + ((j : Nat) : Int)) 0).arr - (c.onA R k ((c.lg R k).arr + ((j : Nat) : Int)) 0).dep)) < 0)) false (decide_eq_false (by omega)) (Yn (Yo (sx_false (by kernel_rfl) (wp_skip (Yo (Yq (Zv rfl (pt q 0) (Zv rfl (pt q 0) (Zv rfl (pt q 2) (Zv rfl (pt q 11) (Zw rfl (.int .i64 c.ty.drv) (el (hB.cell 11 rfl) Tryz.underlying3) (Zv rfl (.int .i64 c.ty.drv) (Yn (Yo (wp_ret ?_)))))))))))))))
  rw [if_neg (by simp_all), if_neg (by omega)] at hmo
  refine sx_ret1 (.int .i64 c.ty.drv) rfl rfl (by kernel_rfl) ⟨by rw [hmo], HB⟩
 refine Zw rfl (.bool false) (ex_load1 (v := .bool false) rfl (by have h8 := (hTm.below HB).cell (k := k) (by omega) 3 (v := .bool (R.getD (k + 1) false)) rfl; rw [show R.getD (k + 1) false = false by simpa using C4] at h8; exact h8) (by kernel_rfl) Tryz.underlying4 rfl) (Zv rfl (.bool true) (Yn (Yo (sx_true (by kernel_rfl) (Yq (Zv rfl (.int .i64 ((c.mo R m (k + 1) i) - ((c.onA R k ((c.lg R k).arr + ((j : Nat) : Int)) 0).arr - (c.onA R k ((c.lg R k).arr + ((j : Nat) : Int)) 0).dep))) (Zv rfl (.int .i64 ((c.mo R m (k + 1) i) - ((c.onA R k ((c.lg R k).arr + ((j : Nat) : Int)) 0).arr - (c.onA R k ((c.lg R k).arr + ((j : Nat) : Int)) 0).dep))) (Yn (Yo (wp_ret (sx_rs ?_)))))))))))
 rw [if_pos (by simp_all)] at hmo
 refine sx_ret1 (.int .i64 ((c.mo R m (k + 1) i) - ((c.onA R k ((c.lg R k).arr + ((j : Nat) : Int)) 0).arr - (c.onA R k ((c.lg R k).arr + ((j : Nat) : Int)) 0).dep))) rfl rfl (by kernel_rfl) ⟨by rw [hmo], HB⟩

end Go.Proofs.YtomebalolmabnaaGreatDoor.T



/-! The walks of slack: mosts, slacks (by gen_jc.py). -/
namespace Go.Proofs.YtomebalolmabnaaGreatDoor.T
open Go.RowKit
set_option maxRecDepth 8000
attribute [local irreducible] wpList Code.wp wpAnyH

namespace CrT
def moK (c : CrT) (R : List Bool) (k j : Nat) : List Int := (List.range j).map fun i => c.mo R (c.n - 1 - k) k i
theorem moK_len (c : CrT) (R : List Bool) (k j : Nat) : (c.moK R k j).length = j := by unfold moK; simp
theorem moK_succ (c : CrT) (R : List Bool) (k j : Nat) : c.moK R k (j + 1) = c.moK R k j ++ [c.mo R (c.n - 1 - k) k j] := by unfold moK; rw [List.range_succ, List.map_append]; rfl
def slK (c : CrT) (R : List Bool) (i : Nat) : List Int := (List.range c.n).map fun j => if i ≤ j then (c.sl R j : Int) else 0
def slM (c : CrT) (R : List Bool) (k j : Nat) : List Int := (List.range c.n).map fun i => if i = k then (j : Int) else if k < i then (c.sl R i : Int) else 0
def slL (c : CrT) (R : List Bool) : List Int := (List.range c.n).map fun j => (c.sl R j : Int)
theorem slM_len (c : CrT) (R : List Bool) (k j : Nat) : (c.slM R k j).length = c.n := by unfold slM; simp
theorem slL_len (c : CrT) (R : List Bool) : (c.slL R).length = c.n := by unfold slL; simp
theorem slL_at {c : CrT} {R : List Bool} {k : Nat} (h : k < c.n) : (c.slL R).getD k 0 = (c.sl R k : Int) := by unfold slL; rw [List.getD_eq_getElem?_getD, List.getElem?_map, List.getElem?_range h]; rfl
theorem slM_at {c : CrT} {R : List Bool} {k j : Nat} (h : k < c.n) : (c.slM R k j).getD k 0 = ((j : Nat) : Int) := by
 unfold slM
 rw [List.getD_eq_getElem?_getD, List.getElem?_map, List.getElem?_range h]
 show (if k = k then (j : Int) else _) = _
 rw [if_pos rfl]
theorem slK_n (c : CrT) (R : List Bool) : c.slK R c.n = List.replicate c.n 0 := by
 unfold slK
 rw [List.eq_replicate_iff]
 refine ⟨by simp, fun x hx => ?_⟩
 obtain ⟨j, hj, rfl⟩ := List.mem_map.1 hx
 rw [if_neg (by have := List.mem_range.1 hj; omega)]
theorem slK_zero (c : CrT) (R : List Bool) : c.slK R 0 = c.slL R := by
 unfold slK slL
 exact List.map_congr_left fun j _ => by rw [if_pos (Nat.zero_le _)]
theorem slM_zero (c : CrT) (R : List Bool) (k : Nat) : c.slM R k 0 = c.slK R (k + 1) := by
 unfold slK slM
 refine List.map_congr_left fun j _ => ?_
 by_cases h : j = k
 ·rw [if_pos h, if_neg (by omega)]; rfl
 ·rw [if_neg h]
  by_cases h2 : k < j
  ·rw [if_pos h2, if_pos (by omega)]
  ·rw [if_neg h2, if_neg (by omega)]
theorem slM_all (c : CrT) (R : List Bool) (k : Nat) : c.slM R k (c.sl R k) = c.slK R k := by
 unfold slK slM
 refine List.map_congr_left fun j _ => ?_
 by_cases h : j = k
 ·rw [if_pos h, if_pos (by omega), h]
 ·rw [if_neg h]
  by_cases h2 : k < j
  ·rw [if_pos h2, if_pos (by omega)]
  ·rw [if_neg h2, if_neg (by omega)]
theorem slM_set {c : CrT} {R : List Bool} {k j : Nat} (h : k < c.n) : (c.slM R k j).set k ((j : Int) + 1) = c.slM R k (j + 1) := by
 apply ext_getD (d := 0)
 ·rw [List.length_set, slM_len, slM_len]
 intro i hi
 rw [List.length_set, slM_len] at hi
 have e : ∀ m, (c.slM R k m).getD i 0 = if i = k then (m : Int) else if k < i then (c.sl R i : Int) else 0 := fun m => by
  unfold slM
  rw [List.getD_eq_getElem?_getD, List.getElem?_map, List.getElem?_range hi]
  rfl
 rw [e, List.getD_eq_getElem?_getD, List.getElem?_set]
 by_cases h1 : k = i
 ·subst h1
  rw [if_pos rfl, if_pos (by rw [slM_len]; exact h), if_pos rfl]
  rfl
 ·have h2 : ¬ i = k := fun h => h1 h.symm
  rw [if_neg h1, ← List.getD_eq_getElem?_getD, e, if_neg h2, if_neg h2]
end CrT
theorem smosts_n (c : CrT) (hc : c.Ok) (R : List Bool) (hrun : c.run R c.n = 0) (K : SV) (q : Nat) (w : World) (hK : Scr w c R K q) (k : Nat) (hk : k < c.n) (oL : Option Addr) (nL cL bL qL : Nat) (hL : k + 1 < c.n → nL = (c.moL R (k + 1)).length ∧ Rw w bL qL 1 (fun k1 => inE ((c.moL R (k + 1)).getD k1 0)) (c.moL R (k + 1)).length oL) : Calls Tryz.prog 32 #[.pointer (some ⟨q, 0, none⟩), .int .i64 ((k : Nat) : Int), .slice oL nL cL] w fun e w' => ∃ o9 c9 b9 q9, e = .returned (.slice o9 (c.moL R k).length c9) ∧ Rw w' b9 q9 1 (fun k1 => inE ((c.moL R k).getD k1 0)) (c.moL R k).length o9 ∧ (∀ i, i < (c.moL R k).length → w.heap.size ≤ b9) ∧ Below w.heap.size w w' := by
 have hla := CrT.lg_arr hc hrun hk
 have hlk : c.ln R k = ((c.S.getD (k + 1) st0).c - (c.lg R k).arr + 1).toNat := rfl
 have hst := hc.st (k + 1) (by unfold CrT.n at hk; omega)
 have HB : Below w.heap.size w w := Below.refl _ _
 have hB := hK.blk
 have yhB := hB.lt
 have hSt := hK.st
 have hTm := hK.tm
 have hSn := hK.sn
 have hln := hc.len
 have hrst := hc.rst
 have hdrv := hc.drv
 have hrd := hc.rd
 have hcn9 : c.n = c.S.length - 1 := rfl
 refine sx_enter Tryz.func32 rfl [(0, .pointer (some ⟨q, 0, none⟩)), (1, .int .i64 ((k : Nat) : Int)), (2, .slice oL nL cL)] (by kernel_rfl) ?_
 refine Yq (Zv rfl (.slice none 0 0) (Yn (Yo (Yq (Zv rfl (.slice none 0 0) (Yn (Yo (Ys (Yq (Zv rfl (.int .i64 0) (Yn (Yo (wp_block ?_)))))))))))))
 have zw0 := HB.size
 refine sx_loop (fun x9 : Nat × Value => [(0, .pointer (some ⟨q, 0, none⟩)), (1, .int .i64 ((k : Nat) : Int)), (2, .slice oL nL cL), (6, .slice none 0 0), (7, x9.2), (11, .int .i64 ((x9.1 : Nat) : Int))]) (fun gg x9 wr => x9.1 ≤ c.ln R k ∧ c.ln R k - x9.1 ≤ gg ∧ Ol inE 3 1 w.heap.size wr x9.2 (c.moK R k x9.1) ∧ Below w.heap.size w wr) (c.ln R k) ((0, .slice none 0 0)) (by kernel_rfl) ⟨Nat.zero_le _, Nat.le_refl _, Ol.nil _ _ _, HB⟩ ?_
 rintro gg ⟨j, v7⟩ g' wr1 ⟨hj, hg, HG, hbl⟩
 dsimp only at hj hg HG hbl
 refine Ys ?_
 have HB := hbl
 have zwl := hbl.size
 have hB := hK.blk.below hbl
 have yhB9 := hB.lt
 refine Yr (Zb rfl (decide (((j : Nat) : Int) < 16384)) true (decide_eq_true (by omega)) (Yn (Yo (Ys (sx_true (by kernel_rfl) (wp_skip (Yo (Ys (wp_block (Yq (Zv rfl (.int .i64 ((j : Nat) : Int)) (Zv rfl (.int .i64 ((j : Nat) : Int)) (Yn (Yo (Ys ?_)))))))))))))))
 obtain ⟨Y2, hW⟩ : ∃ W, wr1.drew = W := ⟨_, rfl⟩
 have hb : Below wr1.heap.size wr1 Y2 := hW ▸ below_drew (Below.refl _ _)
 replace HB := over HB hb
 replace hB := hB.below hb
 replace HG := HG.below hb
 have z1 := hb.size
 clear hb
 refine sd_begin (fun W => Cb W (q) #[.slice K.o0 c.pl.length K.c0, .slice K.o1 c.al.length K.c1, .string c.ty.name, .int .i64 c.ty.count, .int .i64 c.ty.fr, .int .i64 c.ty.to, .slice K.va c.ty.cap.length K.vb, .int .i64 c.ty.skills, .int .i64 c.ty.prof, .int .i64 c.ty.opn, .int .i64 c.ty.cls, .int .i64 c.ty.drv, .int .i64 c.ty.rst, .int .i64 c.ty.fix, .int .i64 c.ty.pm, .int .i64 c.ty.pt, .bool (R.getD 0 false), .int .i64 ((c.lg R 0).dep), .slice K.o3 (c.n - 1) K.c3, .int .i64 ((c.lg R (c.n - 1)).arr), .int .i64 (c.mil R c.n), .slice K.o2 c.n K.c2, .slice K.o4 c.n K.c4] 86 ∧ Rw W K.bs K.os 4 (fun k => sF c.S (k + 1)) c.n K.o2 ∧ Rw W K.bt K.ot 4 (fun k => tmE (c.tm R k)) (c.n - 1) K.o3 ∧ Rw W K.bn K.on 1 (fun k => inE (c.lg R k).sin) c.n K.o4 ∧ True) (by kernel_rfl) (by rw [hW]; exact ⟨hB, (hSt.below HB), (hTm.below HB), (hSn.below HB), trivial⟩) ?_
 rw [hW]
 clear hW
 refine Zu 0 rfl rfl (pt q 0) ⟨hB, (hSt.below HB), (hTm.below HB), (hSn.below HB), trivial⟩ ?_
 refine Zu 1 rfl rfl (pt q 0) ⟨hB, (hSt.below HB), (hTm.below HB), (hSn.below HB), trivial⟩ ?_
 refine Zu 2 rfl rfl (pt q 21) ⟨hB, (hSt.below HB), (hTm.below HB), (hSn.below HB), trivial⟩ ?_
 refine Zt 3 rfl rfl (.slice K.o2 c.n K.c2) (fun w9 h9 => el (h9.1.cell 21 rfl) Tryz.underlying83) ⟨hB, (hSt.below HB), (hTm.below HB), (hSn.below HB), trivial⟩ ?_
 refine Zu 4 rfl rfl (.int .i64 ((k : Nat) : Int)) ⟨hB, (hSt.below HB), (hTm.below HB), (hSn.below HB), trivial⟩ ?_
 refine Zt 5 rfl rfl (pt K.bs (K.os + k * 4)) (fun w9 h9 => ex_indexO (q := K.os) (m := c.n) (c := K.c2) (k := k) (s := 4) rfl (by kernel_rfl) (h9.2.1.oa (k := k) (by omega)) (by kernel_rfl) Tryz.underlying83 (by kernel_rfl) (by omega) (by omega)) ⟨hB, (hSt.below HB), (hTm.below HB), (hSn.below HB), trivial⟩ ?_
 refine Zt 6 rfl rfl (.agg (pK (c.S.getD (k + 1) st0))) (fun w9 h9 => ex_loadR rfl (h9.2.1.range (k := k) (by omega)) (by kernel_rfl) Tryz.underlying76 rfl (by kernel_rfl)) ⟨hB, (hSt.below HB), (hTm.below HB), (hSn.below HB), trivial⟩ ?_
 refine Zu 7 rfl rfl (pt q 0) ⟨hB, (hSt.below HB), (hTm.below HB), (hSn.below HB), trivial⟩ ?_
 refine Zu 8 rfl rfl (.int .i64 ((k : Nat) : Int)) ⟨hB, (hSt.below HB), (hTm.below HB), (hSn.below HB), trivial⟩ ?_
 refine Zu 10 rfl rfl (.int .i64 ((j : Nat) : Int)) ⟨hB, (hSt.below HB), (hTm.below HB), (hSn.below HB), trivial⟩ ?_
 refine sd_all [9] (by kernel_rfl) (by decide) ?_
 refine sd_call (i := 9) rfl (by kernel_rfl) rfl rfl (sarr_n c hc R hrun K q Y2 (hK.below HB) k (by omega)) (by kernel_rfl) ?_ AllReadyH.nil
 rintro e w9 ⟨rfl, rfl⟩
 refine ⟨_, rfl, ⟨hB, (hSt.below HB), (hTm.below HB), (hSn.below HB), trivial⟩, ?_⟩
 refine Zt 11 rfl rfl (.int .i64 ((c.lg R k).arr + ((j : Nat) : Int))) (fun w9 _ => ex_int .i64 (IntKind.i64.wrap ((c.lg R k).arr + ((j : Nat) : Int))) (((c.lg R k).arr + ((j : Nat) : Int))) (by kernel_rfl) (by rw [IntKind.wrap_i64]; omega)) ⟨hB, (hSt.below HB), (hTm.below HB), (hSn.below HB), trivial⟩ ?_
 refine sd_all [12] (by kernel_rfl) (by decide) ?_
 by_cases C1 : (c.S.getD (k + 1) st0).c < ((c.lg R k).arr + ((j : Nat) : Int))
 ·refine sd_call (i := 12) rfl (by kernel_rfl) rfl rfl ((by have h8 := begin_n (c.S.getD (k + 1) st0).p (c.S.getD (k + 1) st0).o (c.S.getD (k + 1) st0).c (c.S.getD (k + 1) st0).s ((c.lg R k).arr + ((j : Nat) : Int)) (by omega) Y2; rw [if_pos C1, if_pos C1] at h8; exact h8)) (by kernel_rfl) ?_ AllReadyH.nil
  rintro e W3 ⟨rfl, hb⟩
  replace HB := over HB hb
  replace hB := hB.below hb
  replace HG := HG.below hb
  have z2 := hb.size
  clear hb
  refine ⟨_, rfl, ⟨hB, (hSt.below HB), (hTm.below HB), (hSn.below HB), trivial⟩, ?_⟩
  refine Zu 13 rfl rfl (.tuple #[.int .i64 0, .int .i64 14]) ⟨hB, (hSt.below HB), (hTm.below HB), (hSn.below HB), trivial⟩ ?_
  refine Zu 14 rfl rfl (.int .i64 0) ⟨hB, (hSt.below HB), (hTm.below HB), (hSn.below HB), trivial⟩ ?_
  refine Zu 15 rfl rfl (.int .i64 14) ⟨hB, (hSt.below HB), (hTm.below HB), (hSn.below HB), trivial⟩ ?_
  refine Zu 16 rfl rfl (.int .i64 0) ⟨hB, (hSt.below HB), (hTm.below HB), (hSn.below HB), trivial⟩ ?_
  refine Zu 17 rfl rfl (.int .i64 14) ⟨hB, (hSt.below HB), (hTm.below HB), (hSn.below HB), trivial⟩ ?_
  refine sd_done (by kernel_rfl) ?_
  refine Yo (Ys (Yq (Zv rfl (.int .i64 14) (Zv rfl (.bool true) (Yn (Yo (sx_true (by kernel_rfl) (wp_exit ?_))))))))
  refine sx_es ?_
  refine sx_by rfl ?_
  refine sx_es ?_
  refine sx_es ?_
  refine sx_out ?_
  refine Yo (Yq (Zv rfl (v7) (Zv rfl (v7) (Yn (Yo (wp_ret ?_))))))
  have hj9 : j = c.ln R k := by omega
  subst hj9
  have e9 : c.moK R k (c.ln R k) = c.moL R k := rfl
  rw [e9] at HG
  obtain ⟨o9, c9, rfl⟩ := Ol.form HG
  obtain ⟨b9, q9, hr9, hb9⟩ := Ol.rwB inRow 0 HG
  refine sx_ret1 (.slice o9 (c.moL R k).length c9) rfl rfl (by kernel_rfl) ⟨o9, c9, b9, q9, rfl, hr9, hb9, HB⟩
 refine sd_call (i := 12) rfl (by kernel_rfl) rfl rfl ((show Calls Tryz.prog 48 _ Y2 (fun e w' => e = .returned (.tuple #[.int .i64 (c.bgA k ((c.lg R k).arr + ((j : Nat) : Int))), .int .i64 0]) ∧ Below Y2.heap.size Y2 w') from by have h8 := begin_n (c.S.getD (k + 1) st0).p (c.S.getD (k + 1) st0).o (c.S.getD (k + 1) st0).c (c.S.getD (k + 1) st0).s ((c.lg R k).arr + ((j : Nat) : Int)) (by omega) Y2; rw [if_neg C1, if_neg C1] at h8; exact h8)) (by kernel_rfl) ?_ AllReadyH.nil
 rintro e W4 ⟨rfl, hb⟩
 replace HB := over HB hb
 replace hB := hB.below hb
 replace HG := HG.below hb
 have z2 := hb.size
 clear hb
 refine ⟨_, rfl, ⟨hB, (hSt.below HB), (hTm.below HB), (hSn.below HB), trivial⟩, ?_⟩
 refine Zu 13 rfl rfl (.tuple #[.int .i64 (c.bgA k ((c.lg R k).arr + ((j : Nat) : Int))), .int .i64 0]) ⟨hB, (hSt.below HB), (hTm.below HB), (hSn.below HB), trivial⟩ ?_
 refine Zu 14 rfl rfl (.int .i64 (c.bgA k ((c.lg R k).arr + ((j : Nat) : Int)))) ⟨hB, (hSt.below HB), (hTm.below HB), (hSn.below HB), trivial⟩ ?_
 refine Zu 15 rfl rfl (.int .i64 0) ⟨hB, (hSt.below HB), (hTm.below HB), (hSn.below HB), trivial⟩ ?_
 refine Zu 16 rfl rfl (.int .i64 (c.bgA k ((c.lg R k).arr + ((j : Nat) : Int)))) ⟨hB, (hSt.below HB), (hTm.below HB), (hSn.below HB), trivial⟩ ?_
 refine Zu 17 rfl rfl (.int .i64 0) ⟨hB, (hSt.below HB), (hTm.below HB), (hSn.below HB), trivial⟩ ?_
 refine sd_done (by kernel_rfl) ?_
 refine Yo (Ys (Yq (Zv rfl (.int .i64 0) (Zv rfl (.bool false) (Yn (Yo (sx_false (by kernel_rfl) (wp_skip (Yo (Yr (Zv rfl (v7) (Zv rfl (pt q 0) (Zv rfl (.int .i64 ((k : Nat) : Int)) (Zv rfl (.int .i64 (c.bgA k ((c.lg R k).arr + ((j : Nat) : Int)))) (Zv rfl (.slice oL nL cL) ?_)))))))))))))))
 refine Zd rfl (smost_n c hc R hrun K q W4 (hK.below HB) k j (by omega) (by omega) oL nL cL bL qL (fun h => ⟨(hL h).1, (hL h).2.below HB⟩)) (fun W5 hb z3 => ?_)
 replace HB := over HB hb
 replace HG := HG.below hb
 clear hb
 obtain ⟨W6, hW, hb, hq⟩ := laidA W5 #[.int .i64 (c.mo R (c.n - 1 - k) k j)] 3
 refine sx_mem (by kernel_rfl) rfl rfl (.slice (some ⟨W5.heap.size, 0, none⟩) 1 1) W6 (by rw [← hW]; kernel_rfl) ?_
 replace HB := over HB hb
 replace HG := HG.below hb
 have z4 := hb.size
 have M7 := hq
 have yM7 := hq.lt
 clear hq hb hW
 obtain ⟨v9, W8, h9, hg9, hb, -, -⟩ := ap_o (P := Tryz.prog) (t := 42) (ty := 42) (z := .int .i64 0) (bytes := 8) (x := (c.mo R (c.n - 1 - k) k j : Int)) inRow Tryz.underlying42 (by kernel_rfl) rfl (by decide) (by decide) HG M7 rfl (by omega) (by rw [CrT.moK_len]; omega)
 refine sx_mem (by kernel_rfl) rfl rfl v9 W8 (ex_append rfl (by kernel_rfl) (by kernel_rfl) h9) ?_
 replace HB := HB.trans (hb.mono (by omega))
 have z5 := hb.size
 have HG := hg9
 clear hg9 hb h9
 refine Zv rfl (v9) (Yn ?_)
 refine sx_in ?_
 refine Yo (Yr (Zi rfl (IntKind.i64.wrap (((j : Nat) : Int) + 1)) (((j + 1 : Nat) : Int)) (by rw [IntKind.wrap_i64]; omega) (Zv rfl (.int .i64 ((j + 1 : Nat) : Int)) (Yn (Yo ?_)))))
 exact sx_again (c.ln R k - (j + 1)) (j + 1, v9) (by omega) (by kernel_rfl) ⟨by show j + 1 ≤ _; omega, Nat.le_refl _, by show Ol inE _ 1 _ _ _ (c.moK R k (j + 1)); rw [CrT.moK_succ]; exact HG, HB⟩

end Go.Proofs.YtomebalolmabnaaGreatDoor.T



