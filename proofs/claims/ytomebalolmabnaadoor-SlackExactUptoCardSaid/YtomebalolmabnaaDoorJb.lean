/-
  DERIVED. Jb: a part of the base of layer 13 (made by pack.py).
-/
import Derived.Test.YtomebalolmabnaaDoorGG
import Derived.Test.YtomebalolmabnaaDoorJa
import Derived.Test.YtomebalolmabnaaDoorGA
import Derived.Test.YtomebalolmabnaaDoorHS
import Derived.Test.YtomebalolmabnaaDoorGF
/-! The walks of slack: what a course says, and the way on (by gen_jb.py). -/
namespace Go.Proofs.YtomebalolmabnaaDoor.T
open Go.RowKit
set_option maxRecDepth 8000
attribute [local irreducible] wpList Code.wp wpAnyH

structure SV where
 o0 : Option Addr
 c0 : Nat
 o1 : Option Addr
 c1 : Nat
 va : Option Addr
 vb : Nat
 o2 : Option Addr
 c2 : Nat
 bs : Nat
 os : Nat
 o3 : Option Addr
 c3 : Nat
 bt : Nat
 ot : Nat
 o4 : Option Addr
 c4 : Nat
 bn : Nat
 on : Nat
def SV.cells (K : SV) (c : CrT) (R : List Bool) : Array Value := #[.slice K.o0 c.pl.length K.c0, .slice K.o1 c.al.length K.c1, .string c.ty.name, .int .i64 c.ty.count, .int .i64 c.ty.fr, .int .i64 c.ty.to, .slice K.va c.ty.cap.length K.vb, .int .i64 c.ty.skills, .int .i64 c.ty.prof, .int .i64 c.ty.opn, .int .i64 c.ty.cls, .int .i64 c.ty.drv, .int .i64 c.ty.rst, .int .i64 c.ty.fix, .int .i64 c.ty.pm, .int .i64 c.ty.pt, .bool (R.getD 0 false), .int .i64 ((c.lg R 0).dep), .slice K.o3 (c.n - 1) K.c3, .int .i64 ((c.lg R (c.n - 1)).arr), .int .i64 (c.mil R c.n), .slice K.o2 c.n K.c2, .slice K.o4 c.n K.c4]
structure Scr (w : World) (c : CrT) (R : List Bool) (K : SV) (q : Nat) : Prop where
 blk : Cb w q (K.cells c R) 102
 st : Rw w K.bs K.os 4 (fun k => sF c.S (k + 1)) c.n K.o2
 tm : Rw w K.bt K.ot 4 (fun k => tmE (c.tm R k)) (c.n - 1) K.o3
 sn : Rw w K.bn K.on 1 (fun k => inE (c.lg R k).sin) c.n K.o4
 pl : Ss w (.slice K.o0 c.pl.length K.c0) c.pl
 al : As w (.slice K.o1 c.al.length K.c1) c.al
 tab : Tab w
theorem Scr.below {w w' : World} {c : CrT} {R : List Bool} {K : SV} {q : Nat} (h : Scr w c R K q) (k : Below w.heap.size w w') : Scr w' c R K q := ⟨h.blk.below k, h.st.below k, h.tm.below k, h.sn.below k, h.pl.below k, h.al.below k, h.tab.belowD k⟩
theorem send_n (c : CrT) (hc : c.Ok) (R : List Bool) (_ : c.run R c.n = 0) (K : SV) (q : Nat) (w : World) (hK : Scr w c R K q) : Calls Tryd.prog 22 #[.pointer (some ⟨q, 0, none⟩)] w fun e w' => e = .returned (.int .i64 (((c.n - 1) : Nat) : Int)) ∧ w = w' := by
 have HB : Below w.heap.size w w := Below.refl _ _
 have hB := hK.blk
 have yhB := hB.lt
 have hSt := hK.st
 have hTm := hK.tm
 have hSn := hK.sn
 have hln := hc.len
 have hrst := hc.rst
 have hdrv := hc.drv
 have hrd := hc.rd
 have hcn9 : c.n = c.S.length - 1 := rfl
 refine sx_enter Tryd.func22 rfl [(0, .pointer (some ⟨q, 0, none⟩))] (by kernel_rfl) ?_
 refine wp_seq (wp_region_lit ?_)
 refine Zv rfl (.int .i64 0) ?_
 refine wpList_nil (sx_norm (wp_seq (wp_region_lit ?_)))
 refine Zv rfl (.pointer (some ⟨q, 0, none⟩)) ?_
 refine Zv rfl (.pointer (some ⟨q, 0, none⟩)) ?_
 refine Zv rfl (.pointer (some ⟨q, 21, none⟩)) ?_
 refine Zw rfl (.slice K.o2 c.n K.c2) (el (hB.cell 21 rfl) Tryd.underlying99) ?_
 refine Zv rfl (.int .i64 ((c.n : Nat) : Int)) ?_
 refine sx_int (by kernel_rfl) rfl rfl .i64 (IntKind.i64.wrap (((c.n : Nat) : Int) - 1)) ((((c.n - 1) : Nat) : Int)) (by kernel_rfl) (by rw [IntKind.wrap_i64]; omega) ?_
 refine Zv rfl (.int .i64 (((c.n - 1) : Nat) : Int)) ?_
 refine wpList_nil (sx_norm (wp_ret ?_))
 exact sx_ret1 (.int .i64 (((c.n - 1) : Nat) : Int)) rfl rfl (by kernel_rfl) ⟨rfl, rfl⟩
theorem sarr_n (c : CrT) (hc : c.Ok) (R : List Bool) (hrun : c.run R c.n = 0) (K : SV) (q : Nat) (w : World) (hK : Scr w c R K q) (k : Nat) (hk : k < c.n) : Calls Tryd.prog 41 #[.pointer (some ⟨q, 0, none⟩), .int .i64 ((k : Nat) : Int)] w fun e w' => e = .returned (.int .i64 (c.lg R k).arr) ∧ w = w' := by
 have HB : Below w.heap.size w w := Below.refl _ _
 have hB := hK.blk
 have yhB := hB.lt
 have hSt := hK.st
 have hTm := hK.tm
 have hSn := hK.sn
 have hln := hc.len
 have hrst := hc.rst
 have hdrv := hc.drv
 have hrd := hc.rd
 have hcn9 : c.n = c.S.length - 1 := rfl
 refine sx_enter Tryd.func41 rfl [(0, .pointer (some ⟨q, 0, none⟩)), (1, .int .i64 ((k : Nat) : Int))] (by kernel_rfl) ?_
 refine wp_seq (wp_region_lit ?_)
 refine Zv rfl (.int .i64 0) ?_
 refine wpList_nil (sx_norm (wp_seq (wp_seq (wp_region_lit ?_))))
 refine Zv rfl (.int .i64 ((k : Nat) : Int)) ?_
 refine Zv rfl (.pointer (some ⟨q, 0, none⟩)) ?_
 refine sx_call (by kernel_rfl) rfl rfl (send_n c hc R hrun K q w (hK.below HB)) (by kernel_rfl) ?_
 rintro e w9 ⟨rfl, rfl⟩
 refine ⟨_, rfl, ?_⟩
 by_cases C1 : k = (c.n - 1)
 ·refine Zb rfl ((((k : Nat) : Int) : Int) == ((((c.n - 1) : Nat) : Int) : Int)) true (beq_iff_eq.2 (by omega)) ?_
  refine wpList_nil (sx_norm ?_)
  refine sx_true (by kernel_rfl) ?_
  refine wp_seq (wp_region_lit ?_)
  refine Zv rfl (.pointer (some ⟨q, 0, none⟩)) ?_
  refine Zv rfl (.pointer (some ⟨q, 0, none⟩)) ?_
  refine Zv rfl (.pointer (some ⟨q, 16, none⟩)) ?_
  refine Zv rfl (.pointer (some ⟨q, 19, none⟩)) ?_
  refine Zw rfl (.int .i64 ((c.lg R (c.n - 1)).arr)) (el (hB.cell 19 rfl) Tryd.underlying3) ?_
  refine Zv rfl (.int .i64 ((c.lg R (c.n - 1)).arr)) ?_
  refine wpList_nil (sx_norm (wp_ret (sx_rs ?_)))
  obtain rfl : k = c.n - 1 := by omega
  exact sx_ret1 (.int .i64 ((c.lg R (c.n - 1)).arr)) rfl rfl (by kernel_rfl) ⟨rfl, rfl⟩
 refine Zb rfl ((((k : Nat) : Int) : Int) == ((((c.n - 1) : Nat) : Int) : Int)) false (beq_eq_false_iff_ne.2 (by omega)) ?_
 refine wpList_nil (sx_norm ?_)
 refine sx_false (by kernel_rfl) ?_
 refine wp_skip (sx_norm (wp_seq (wp_region_lit ?_)))
 refine Zv rfl (.pointer (some ⟨q, 0, none⟩)) ?_
 refine Zv rfl (.pointer (some ⟨q, 0, none⟩)) ?_
 refine Zv rfl (.pointer (some ⟨q, 16, none⟩)) ?_
 refine Zv rfl (.pointer (some ⟨q, 18, none⟩)) ?_
 refine Zw rfl (.slice K.o3 (c.n - 1) K.c3) (el (hB.cell 18 rfl) Tryd.underlying35) ?_
 refine Zv rfl (.int .i64 ((k : Nat) : Int)) ?_
 refine Zw rfl (.pointer (some ⟨K.bt, K.ot + k * 4, none⟩)) (ex_indexO (q := K.ot) (m := (c.n - 1)) (c := K.c3) (k := k) (s := 4) rfl (by kernel_rfl) ((hTm.below HB).oa (k := k) (by omega)) (by kernel_rfl) Tryd.underlying35 (by kernel_rfl) (by omega) (by omega)) ?_
 refine Zv rfl (.pointer (some ⟨K.bt, K.ot + k * 4, none⟩)) ?_
 refine Zw rfl (.int .i64 ((c.tm R k).a)) (el ((hTm.below HB).cell (k := k) (by omega) 0 rfl) Tryd.underlying3) ?_
 refine Zv rfl (.int .i64 ((c.tm R k).a)) ?_
 refine wpList_nil (sx_norm (wp_ret ?_))
 exact sx_ret1 (.int .i64 ((c.tm R k).a)) rfl rfl (by kernel_rfl) ⟨rfl, rfl⟩
theorem smiss_n (c : CrT) (hc : c.Ok) (R : List Bool) (hrun : c.run R c.n = 0) (K : SV) (q : Nat) (w : World) (hK : Scr w c R K q) (k : Nat) (hk : k < c.n) : Calls Tryd.prog 64 #[.pointer (some ⟨q, 0, none⟩), .int .i64 ((k : Nat) : Int)] w fun e w' => e = .returned (.int .i64 (c.late (k + 1))) ∧ w = w' := by
 have HB : Below w.heap.size w w := Below.refl _ _
 have hB := hK.blk
 have yhB := hB.lt
 have hSt := hK.st
 have hTm := hK.tm
 have hSn := hK.sn
 have hln := hc.len
 have hrst := hc.rst
 have hdrv := hc.drv
 have hrd := hc.rd
 have hcn9 : c.n = c.S.length - 1 := rfl
 refine sx_enter Tryd.func64 rfl [(0, .pointer (some ⟨q, 0, none⟩)), (1, .int .i64 ((k : Nat) : Int))] (by kernel_rfl) ?_
 refine wp_seq (wp_region_lit ?_)
 refine Zv rfl (.int .i64 0) ?_
 refine wpList_nil (sx_norm (wp_seq (wp_seq (wp_region_lit ?_))))
 refine Zv rfl (.int .i64 ((k : Nat) : Int)) ?_
 refine Zv rfl (.pointer (some ⟨q, 0, none⟩)) ?_
 refine sx_call (by kernel_rfl) rfl rfl (send_n c hc R hrun K q w (hK.below HB)) (by kernel_rfl) ?_
 rintro e w9 ⟨rfl, rfl⟩
 refine ⟨_, rfl, ?_⟩
 by_cases C1 : k = (c.n - 1)
 ·refine Zb rfl ((((k : Nat) : Int) : Int) == ((((c.n - 1) : Nat) : Int) : Int)) true (beq_iff_eq.2 (by omega)) ?_
  refine wpList_nil (sx_norm ?_)
  refine sx_true (by kernel_rfl) ?_
  refine wp_seq (wp_region_lit ?_)
  refine Zv rfl (.int .i64 15) ?_
  refine wpList_nil (sx_norm (wp_ret (sx_rs ?_)))
  exact sx_ret1 (.int .i64 15) rfl rfl (by kernel_rfl) ⟨by unfold CrT.late; rw [if_pos (by omega)], rfl⟩
 refine Zb rfl ((((k : Nat) : Int) : Int) == ((((c.n - 1) : Nat) : Int) : Int)) false (beq_eq_false_iff_ne.2 (by omega)) ?_
 refine wpList_nil (sx_norm ?_)
 refine sx_false (by kernel_rfl) ?_
 refine wp_skip (sx_norm (wp_seq (wp_region_lit ?_)))
 refine Zv rfl (.int .i64 14) ?_
 refine wpList_nil (sx_norm (wp_ret ?_))
 exact sx_ret1 (.int .i64 14) rfl rfl (by kernel_rfl) ⟨by unfold CrT.late; rw [if_neg (by omega)], rfl⟩
theorem sbeg_n (c : CrT) (hc : c.Ok) (R : List Bool) (hrun : c.run R c.n = 0) (K : SV) (q : Nat) (w : World) (hK : Scr w c R K q) (k : Nat) (hk : k < c.n) (a s : Int) : Calls Tryd.prog 45 #[.pointer (some ⟨q, 0, none⟩), .int .i64 ((k : Nat) : Int), .int .i64 a, .int .i64 s] w fun e w' => e = .returned (.tuple #[.int .i64 (if c.arE k a s = 0 then c.bgA k a else 0), .int .i64 (c.arE k a s)]) ∧ Below w.heap.size w w' := by
 have hst := hc.st (k + 1) (by unfold CrT.n at hk; omega)
 have HB : Below w.heap.size w w := Below.refl _ _
 have hB := hK.blk
 have yhB := hB.lt
 have hSt := hK.st
 have hTm := hK.tm
 have hSn := hK.sn
 have hln := hc.len
 have hrst := hc.rst
 have hdrv := hc.drv
 have hrd := hc.rd
 have hcn9 : c.n = c.S.length - 1 := rfl
 refine sx_enter Tryd.func45 rfl [(0, .pointer (some ⟨q, 0, none⟩)), (1, .int .i64 ((k : Nat) : Int)), (2, .int .i64 a), (3, .int .i64 s)] (by kernel_rfl) ?_
 refine wp_seq (wp_region_lit ?_)
 refine Zv rfl (.int .i64 0) ?_
 refine Zv rfl (.int .i64 0) ?_
 refine wpList_nil (sx_norm (wp_seq (wp_region_lit ?_)))
 refine Zv rfl (.pointer (some ⟨q, 0, none⟩)) ?_
 refine Zv rfl (.pointer (some ⟨q, 0, none⟩)) ?_
 refine Zv rfl (.pointer (some ⟨q, 21, none⟩)) ?_
 refine Zw rfl (.slice K.o2 c.n K.c2) (el (hB.cell 21 rfl) Tryd.underlying99) ?_
 refine Zv rfl (.int .i64 ((k : Nat) : Int)) ?_
 refine Zw rfl (.pointer (some ⟨K.bs, K.os + k * 4, none⟩)) (ex_indexO (q := K.os) (m := c.n) (c := K.c2) (k := k) (s := 4) rfl (by kernel_rfl) ((hSt.below HB).oa (k := k) (by omega)) (by kernel_rfl) Tryd.underlying99 (by kernel_rfl) (by omega) (by omega)) ?_
 refine Zw rfl (.agg #[.int .i64 ((c.S.getD (k + 1) st0).p), .int .i64 ((c.S.getD (k + 1) st0).o), .int .i64 ((c.S.getD (k + 1) st0).c), .int .i64 ((c.S.getD (k + 1) st0).s)]) (ex_loadR rfl ((hSt.below HB).range (k := k) (by omega)) (by kernel_rfl) Tryd.underlying91 rfl (by kernel_rfl)) ?_
 refine Zv rfl (.int .i64 a) ?_
 by_cases C1 : (c.S.getD (k + 1) st0).c < a
 ·refine sx_call (by kernel_rfl) rfl rfl ((by have h8 := begin_n (c.S.getD (k + 1) st0).p (c.S.getD (k + 1) st0).o (c.S.getD (k + 1) st0).c (c.S.getD (k + 1) st0).s a (by omega) w; rw [if_pos C1, if_pos C1] at h8; exact h8)) (by kernel_rfl) ?_
  rintro e W1 ⟨rfl, hb⟩
  replace HB := over HB hb
  replace hB := hB.below hb
  have z1 := hb.size
  clear hb
  refine ⟨_, rfl, ?_⟩
  refine Zv rfl (.tuple #[.int .i64 0, .int .i64 14]) ?_
  refine Zv rfl (.int .i64 0) ?_
  refine Zv rfl (.int .i64 14) ?_
  refine Zv rfl (.int .i64 0) ?_
  refine Zv rfl (.int .i64 14) ?_
  refine wpList_nil (sx_norm (wp_seq (wp_seq (wp_region_lit ?_))))
  refine Zv rfl (.int .i64 14) ?_
  refine Zv rfl (.bool true) ?_
  refine wpList_nil (sx_norm ?_)
  refine sx_true (by kernel_rfl) ?_
  refine wp_seq (wp_region_lit ?_)
  refine Zv rfl (.pointer (some ⟨q, 0, none⟩)) ?_
  refine Zv rfl (.int .i64 ((k : Nat) : Int)) ?_
  refine sx_call (by kernel_rfl) rfl rfl (smiss_n c hc R hrun K q W1 (hK.below HB) k (by omega)) (by kernel_rfl) ?_
  rintro e w9 ⟨rfl, rfl⟩
  refine ⟨_, rfl, ?_⟩
  refine Zv rfl (.int .i64 0) ?_
  refine Zv rfl (.int .i64 (c.late (k + 1))) ?_
  refine wpList_nil (sx_norm (wp_ret (sx_rs ?_)))
  have h9 : c.arE k a s = (c.late (k + 1)) := by unfold CrT.arE; rw [if_pos (by omega)]
  refine sx_ret2 (.int .i64 0) (.int .i64 (c.late (k + 1))) rfl rfl rfl (by kernel_rfl) (by kernel_rfl) ⟨by rw [h9, if_neg (by exact c.late_ne _)], HB⟩
 refine sx_call (by kernel_rfl) rfl rfl ((show Calls Tryd.prog 62 _ w (fun e w' => e = .returned (.tuple #[.int .i64 (c.bgA k a), .int .i64 0]) ∧ Below w.heap.size w w') from by have h8 := begin_n (c.S.getD (k + 1) st0).p (c.S.getD (k + 1) st0).o (c.S.getD (k + 1) st0).c (c.S.getD (k + 1) st0).s a (by omega) w; rw [if_neg C1, if_neg C1] at h8; exact h8)) (by kernel_rfl) ?_
 rintro e W2 ⟨rfl, hb⟩
 replace HB := over HB hb
 replace hB := hB.below hb
 have z1 := hb.size
 clear hb
 refine ⟨_, rfl, ?_⟩
 refine Zv rfl (.tuple #[.int .i64 (c.bgA k a), .int .i64 0]) ?_
 refine Zv rfl (.int .i64 (c.bgA k a)) ?_
 refine Zv rfl (.int .i64 0) ?_
 refine Zv rfl (.int .i64 (c.bgA k a)) ?_
 refine Zv rfl (.int .i64 0) ?_
 refine wpList_nil (sx_norm (wp_seq (wp_seq (wp_region_lit ?_))))
 refine Zv rfl (.int .i64 0) ?_
 refine Zv rfl (.bool false) ?_
 refine wpList_nil (sx_norm ?_)
 refine sx_false (by kernel_rfl) ?_
 refine wp_skip (sx_norm (wp_seq (wp_seq (wp_region_lit ?_))))
 refine Zv rfl (.int .i64 s) ?_
 refine Zv rfl (.pointer (some ⟨q, 0, none⟩)) ?_
 refine Zv rfl (.pointer (some ⟨q, 0, none⟩)) ?_
 refine Zv rfl (.pointer (some ⟨q, 2, none⟩)) ?_
 refine Zv rfl (.pointer (some ⟨q, 11, none⟩)) ?_
 refine Zw rfl (.int .i64 c.ty.drv) (el (hB.cell 11 rfl) Tryd.underlying3) ?_
 by_cases C2 : s > c.ty.drv
 ·refine Zb rfl (decide (s > c.ty.drv)) true (decide_eq_true (by omega)) ?_
  refine wpList_nil (sx_norm ?_)
  refine sx_true (by kernel_rfl) ?_
  refine wp_seq (wp_region_lit ?_)
  refine Zv rfl (.int .i64 0) ?_
  refine Zv rfl (.int .i64 16) ?_
  refine wpList_nil (sx_norm (wp_ret (sx_rs ?_)))
  have h9 : c.arE k a s = 16 := by unfold CrT.arE; rw [if_neg (by omega), if_pos (by omega)]
  refine sx_ret2 (.int .i64 0) (.int .i64 16) rfl rfl rfl (by kernel_rfl) (by kernel_rfl) ⟨by rw [h9, if_neg (by decide)], HB⟩
 refine Zb rfl (decide (s > c.ty.drv)) false (decide_eq_false (by omega)) ?_
 refine wpList_nil (sx_norm ?_)
 refine sx_false (by kernel_rfl) ?_
 refine wp_skip (sx_norm (wp_seq (wp_region_lit ?_)))
 refine Zv rfl (.int .i64 (c.bgA k a)) ?_
 refine Zv rfl (.int .i64 (c.bgA k a)) ?_
 refine Zv rfl (.int .i64 0) ?_
 refine wpList_nil (sx_norm (wp_ret ?_))
 have h9 : c.arE k a s = 0 := by unfold CrT.arE; rw [if_neg (by omega), if_neg (by omega)]
 refine sx_ret2 (.int .i64 (c.bgA k a)) (.int .i64 0) rfl rfl rfl (by kernel_rfl) (by kernel_rfl) ⟨by rw [h9, if_pos rfl], HB⟩
theorem snext_n (c : CrT) (hc : c.Ok) (R : List Bool) (hrun : c.run R c.n = 0) (K : SV) (q : Nat) (w : World) (hK : Scr w c R K q) (k : Nat) (hk : k + 1 < c.n) (a : Int) (ha : 0 ≤ a ∧ a ≤ (c.S.getD (k + 1) st0).c) : Calls Tryd.prog 46 #[.pointer (some ⟨q, 0, none⟩), .int .i64 ((k : Nat) : Int), .int .i64 (c.bgA k a)] w fun e w' => e = .returned (.tuple #[.int .i64 (c.onA R k a 0).dep, .int .i64 (c.onA R k a 0).arr]) ∧ Below w.heap.size w w' := by
 have hbg := CrT.bgA_bd hc (k := k) (a := a) (by unfold CrT.n at hk; omega) ha.1 ha.2
 have hon := CrT.onA_bd hc (R := R) (k := k) (a := a) (s := 0) hrun hk ha.1 ha.2
 have hst := hc.st (k + 1) (by unfold CrT.n at hk; omega)
 have HB : Below w.heap.size w w := Below.refl _ _
 have hB := hK.blk
 have yhB := hB.lt
 have hSt := hK.st
 have hTm := hK.tm
 have hSn := hK.sn
 have hln := hc.len
 have hrst := hc.rst
 have hdrv := hc.drv
 have hrd := hc.rd
 have hcn9 : c.n = c.S.length - 1 := rfl
 refine sx_enter Tryd.func46 rfl [(0, .pointer (some ⟨q, 0, none⟩)), (1, .int .i64 ((k : Nat) : Int)), (2, .int .i64 (c.bgA k a))] (by kernel_rfl) ?_
 refine wp_seq (wp_region_lit ?_)
 refine Zv rfl (.int .i64 0) ?_
 refine Zv rfl (.int .i64 0) ?_
 refine wpList_nil (sx_norm (wp_seq (wp_region_lit ?_)))
 refine Zv rfl (.int .i64 (c.bgA k a)) ?_
 refine Zv rfl (.pointer (some ⟨q, 0, none⟩)) ?_
 refine Zv rfl (.pointer (some ⟨q, 0, none⟩)) ?_
 refine Zv rfl (.pointer (some ⟨q, 21, none⟩)) ?_
 refine Zw rfl (.slice K.o2 c.n K.c2) (el (hB.cell 21 rfl) Tryd.underlying99) ?_
 refine Zv rfl (.int .i64 ((k : Nat) : Int)) ?_
 refine Zw rfl (.pointer (some ⟨K.bs, K.os + k * 4, none⟩)) (ex_indexO (q := K.os) (m := c.n) (c := K.c2) (k := k) (s := 4) rfl (by kernel_rfl) ((hSt.below HB).oa (k := k) (by omega)) (by kernel_rfl) Tryd.underlying99 (by kernel_rfl) (by omega) (by omega)) ?_
 refine Zv rfl (.pointer (some ⟨K.bs, K.os + k * 4 + 3, none⟩)) ?_
 refine Zw rfl (.int .i64 ((c.S.getD (k + 1) st0).s)) (el ((hSt.below HB).cell (k := k) (by omega) 3 rfl) Tryd.underlying3) ?_
 refine sx_int (by kernel_rfl) rfl rfl .i64 (IntKind.i64.wrap ((c.bgA k a) + (c.S.getD (k + 1) st0).s)) ((c.dnA k a)) (by kernel_rfl) (by rw [IntKind.wrap_i64]; show _ = c.bgA k a + (c.S.getD (k + 1) st0).s; have : c.dnA k a = c.bgA k a + (c.S.getD (k + 1) st0).s := rfl; omega) ?_
 refine Zv rfl (.int .i64 (c.dnA k a)) ?_
 refine wpList_nil (sx_norm (wp_seq (wp_seq (wp_region_lit ?_))))
 refine Zv rfl (.pointer (some ⟨q, 0, none⟩)) ?_
 refine Zv rfl (.pointer (some ⟨q, 0, none⟩)) ?_
 refine Zv rfl (.pointer (some ⟨q, 16, none⟩)) ?_
 refine Zv rfl (.pointer (some ⟨q, 18, none⟩)) ?_
 refine Zw rfl (.slice K.o3 (c.n - 1) K.c3) (el (hB.cell 18 rfl) Tryd.underlying35) ?_
 refine Zv rfl (.int .i64 ((k : Nat) : Int)) ?_
 refine Zw rfl (.pointer (some ⟨K.bt, K.ot + k * 4, none⟩)) (ex_indexO (q := K.ot) (m := (c.n - 1)) (c := K.c3) (k := k) (s := 4) rfl (by kernel_rfl) ((hTm.below HB).oa (k := k) (by omega)) (by kernel_rfl) Tryd.underlying35 (by kernel_rfl) (by omega) (by omega)) ?_
 refine Zv rfl (.pointer (some ⟨K.bt, K.ot + k * 4 + 3, none⟩)) ?_
 by_cases C1 : R.getD (k + 1) false = true
 ·refine Zw rfl (.bool true) (ex_load1 (v := .bool true) rfl (by have h8 := (hTm.below HB).cell (k := k) (by omega) 3 (v := .bool (R.getD (k + 1) false)) rfl; rw [show R.getD (k + 1) false = true by simpa using C1] at h8; exact h8) (by kernel_rfl) Tryd.underlying4 rfl) ?_
  refine wpList_nil (sx_norm ?_)
  refine sx_true (by kernel_rfl) ?_
  refine wp_region_lit ?_
  refine Zv rfl (.int .i64 (c.dnA k a)) ?_
  refine Zv rfl (.pointer (some ⟨q, 0, none⟩)) ?_
  refine Zv rfl (.pointer (some ⟨q, 0, none⟩)) ?_
  refine Zv rfl (.pointer (some ⟨q, 2, none⟩)) ?_
  refine Zv rfl (.pointer (some ⟨q, 12, none⟩)) ?_
  refine Zw rfl (.int .i64 c.ty.rst) (el (hB.cell 12 rfl) Tryd.underlying3) ?_
  have hd3 : (c.onA R k a 0).dep = c.dnA k a + c.ty.rst := by
   show c.gD (c.dnA k a) (R.getD (k + 1) false) = _
   unfold CrT.gD
   rw [if_pos (by assumption)]
  refine sx_int (by kernel_rfl) rfl rfl .i64 (IntKind.i64.wrap ((c.dnA k a) + c.ty.rst)) ((c.onA R k a 0).dep) (by kernel_rfl) (by rw [IntKind.wrap_i64]; omega) ?_
  refine Zv rfl (.int .i64 ((c.onA R k a 0).dep)) ?_
  refine wpList_nil (sx_norm (wp_seq ?_))
  obtain ⟨Y1, hW⟩ : ∃ W, w.drew = W := ⟨_, rfl⟩
  have hb : Below w.heap.size w Y1 := hW ▸ below_drew (Below.refl _ _)
  replace HB := over HB hb
  replace hB := hB.below hb
  have z1 := hb.size
  clear hb
  refine sd_begin (fun W => Cb W (q) #[.slice K.o0 c.pl.length K.c0, .slice K.o1 c.al.length K.c1, .string c.ty.name, .int .i64 c.ty.count, .int .i64 c.ty.fr, .int .i64 c.ty.to, .slice K.va c.ty.cap.length K.vb, .int .i64 c.ty.skills, .int .i64 c.ty.prof, .int .i64 c.ty.opn, .int .i64 c.ty.cls, .int .i64 c.ty.drv, .int .i64 c.ty.rst, .int .i64 c.ty.fix, .int .i64 c.ty.pm, .int .i64 c.ty.pt, .bool (R.getD 0 false), .int .i64 ((c.lg R 0).dep), .slice K.o3 (c.n - 1) K.c3, .int .i64 ((c.lg R (c.n - 1)).arr), .int .i64 (c.mil R c.n), .slice K.o2 c.n K.c2, .slice K.o4 c.n K.c4] 102 ∧ Rw W K.bs K.os 4 (fun k => sF c.S (k + 1)) c.n K.o2 ∧ Rw W K.bt K.ot 4 (fun k => tmE (c.tm R k)) (c.n - 1) K.o3 ∧ Rw W K.bn K.on 1 (fun k => inE (c.lg R k).sin) c.n K.o4 ∧ True) (by kernel_rfl) (by rw [hW]; exact ⟨hB, (hSt.below HB), (hTm.below HB), (hSn.below HB), trivial⟩) ?_
  rw [hW]
  clear hW
  refine Zu 0 rfl rfl (.pointer (some ⟨q, 0, none⟩)) ⟨hB, (hSt.below HB), (hTm.below HB), (hSn.below HB), trivial⟩ ?_
  refine Zu 1 rfl rfl (.pointer (some ⟨q, 0, none⟩)) ⟨hB, (hSt.below HB), (hTm.below HB), (hSn.below HB), trivial⟩ ?_
  refine Zu 2 rfl rfl (.pointer (some ⟨q, 0, none⟩)) ⟨hB, (hSt.below HB), (hTm.below HB), (hSn.below HB), trivial⟩ ?_
  refine Zt 3 rfl rfl (.agg #[.slice K.o0 c.pl.length K.c0, .slice K.o1 c.al.length K.c1]) (fun w9 h9 => ex_mid (q := 0) rfl h9.1 [.slice K.o0 c.pl.length K.c0, .slice K.o1 c.al.length K.c1] (by kernel_rfl) Tryd.underlying25 rfl (by kernel_rfl) rfl) ⟨hB, (hSt.below HB), (hTm.below HB), (hSn.below HB), trivial⟩ ?_
  refine Zu 4 rfl rfl (.pointer (some ⟨q, 0, none⟩)) ⟨hB, (hSt.below HB), (hTm.below HB), (hSn.below HB), trivial⟩ ?_
  refine Zu 5 rfl rfl (.pointer (some ⟨q, 0, none⟩)) ⟨hB, (hSt.below HB), (hTm.below HB), (hSn.below HB), trivial⟩ ?_
  refine Zu 6 rfl rfl (.pointer (some ⟨q, 2, none⟩)) ⟨hB, (hSt.below HB), (hTm.below HB), (hSn.below HB), trivial⟩ ?_
  refine Zu 7 rfl rfl (.pointer (some ⟨q, 8, none⟩)) ⟨hB, (hSt.below HB), (hTm.below HB), (hSn.below HB), trivial⟩ ?_
  refine Zt 8 rfl rfl (.int .i64 c.ty.prof) (fun w9 h9 => el (h9.1.cell 8 rfl) Tryd.underlying3) ⟨hB, (hSt.below HB), (hTm.below HB), (hSn.below HB), trivial⟩ ?_
  refine Zu 9 rfl rfl (.pointer (some ⟨q, 0, none⟩)) ⟨hB, (hSt.below HB), (hTm.below HB), (hSn.below HB), trivial⟩ ?_
  refine Zu 10 rfl rfl (.pointer (some ⟨q, 0, none⟩)) ⟨hB, (hSt.below HB), (hTm.below HB), (hSn.below HB), trivial⟩ ?_
  refine Zu 11 rfl rfl (.pointer (some ⟨q, 21, none⟩)) ⟨hB, (hSt.below HB), (hTm.below HB), (hSn.below HB), trivial⟩ ?_
  refine Zt 12 rfl rfl (.slice K.o2 c.n K.c2) (fun w9 h9 => el (h9.1.cell 21 rfl) Tryd.underlying99) ⟨hB, (hSt.below HB), (hTm.below HB), (hSn.below HB), trivial⟩ ?_
  refine Zu 13 rfl rfl (.int .i64 ((k : Nat) : Int)) ⟨hB, (hSt.below HB), (hTm.below HB), (hSn.below HB), trivial⟩ ?_
  refine Zt 14 rfl rfl (.pointer (some ⟨K.bs, K.os + k * 4, none⟩)) (fun w9 h9 => ex_indexO (q := K.os) (m := c.n) (c := K.c2) (k := k) (s := 4) rfl (by kernel_rfl) (h9.2.1.oa (k := k) (by omega)) (by kernel_rfl) Tryd.underlying99 (by kernel_rfl) (by omega) (by omega)) ⟨hB, (hSt.below HB), (hTm.below HB), (hSn.below HB), trivial⟩ ?_
  refine Zu 15 rfl rfl (.pointer (some ⟨K.bs, K.os + k * 4, none⟩)) ⟨hB, (hSt.below HB), (hTm.below HB), (hSn.below HB), trivial⟩ ?_
  refine Zt 16 rfl rfl (.int .i64 ((c.S.getD (k + 1) st0).p)) (fun w9 h9 => el (h9.2.1.cell (k := k) (by omega) 0 rfl) Tryd.underlying3) ⟨hB, (hSt.below HB), (hTm.below HB), (hSn.below HB), trivial⟩ ?_
  refine Zu 17 rfl rfl (.pointer (some ⟨q, 0, none⟩)) ⟨hB, (hSt.below HB), (hTm.below HB), (hSn.below HB), trivial⟩ ?_
  refine Zu 18 rfl rfl (.pointer (some ⟨q, 0, none⟩)) ⟨hB, (hSt.below HB), (hTm.below HB), (hSn.below HB), trivial⟩ ?_
  refine Zu 19 rfl rfl (.pointer (some ⟨q, 21, none⟩)) ⟨hB, (hSt.below HB), (hTm.below HB), (hSn.below HB), trivial⟩ ?_
  refine Zt 20 rfl rfl (.slice K.o2 c.n K.c2) (fun w9 h9 => el (h9.1.cell 21 rfl) Tryd.underlying99) ⟨hB, (hSt.below HB), (hTm.below HB), (hSn.below HB), trivial⟩ ?_
  refine Zu 21 rfl rfl (.int .i64 ((k : Nat) : Int)) ⟨hB, (hSt.below HB), (hTm.below HB), (hSn.below HB), trivial⟩ ?_
  refine Zt 22 rfl rfl (.int .i64 ((k + 1 : Nat) : Int)) (fun w9 _ => ex_int .i64 (IntKind.i64.wrap (((k : Nat) : Int) + 1)) (((k + 1 : Nat) : Int)) (by kernel_rfl) (by rw [IntKind.wrap_i64]; omega)) ⟨hB, (hSt.below HB), (hTm.below HB), (hSn.below HB), trivial⟩ ?_
  refine Zt 23 rfl rfl (.pointer (some ⟨K.bs, K.os + (k + 1) * 4, none⟩)) (fun w9 h9 => ex_indexO (q := K.os) (m := c.n) (c := K.c2) (k := k + 1) (s := 4) rfl (by kernel_rfl) (h9.2.1.oa (k := k + 1) (by omega)) (by kernel_rfl) Tryd.underlying99 (by kernel_rfl) (by omega) (by omega)) ⟨hB, (hSt.below HB), (hTm.below HB), (hSn.below HB), trivial⟩ ?_
  refine Zu 24 rfl rfl (.pointer (some ⟨K.bs, K.os + (k + 1) * 4, none⟩)) ⟨hB, (hSt.below HB), (hTm.below HB), (hSn.below HB), trivial⟩ ?_
  refine Zt 25 rfl rfl (.int .i64 ((c.S.getD (k + 1 + 1) st0).p)) (fun w9 h9 => el (h9.2.1.cell (k := k + 1) (by omega) 0 rfl) Tryd.underlying3) ⟨hB, (hSt.below HB), (hTm.below HB), (hSn.below HB), trivial⟩ ?_
  refine Zu 26 rfl rfl (.int .i64 ((c.onA R k a 0).dep)) ⟨hB, (hSt.below HB), (hTm.below HB), (hSn.below HB), trivial⟩ ?_
  refine sd_all [27] (by kernel_rfl) (by decide) ?_
  refine sd_call (i := 27) rfl (by kernel_rfl) rfl rfl ((show Calls Tryd.prog 65 #[.agg #[.slice K.o0 c.pl.length K.c0, .slice K.o1 c.al.length K.c1], .int .i64 c.ty.prof, .int .i64 (c.S.getD (k + 1) st0).p, .int .i64 (c.S.getD (k + 1 + 1) st0).p, .int .i64 (c.onA R k a 0).dep] Y1 (GoP (c.go (k + 1) (c.dnA k a) (R.getD (k + 1) false)) Y1) from go_n (.slice K.o0 c.pl.length K.c0) (.slice K.o1 c.al.length K.c1) c.pl c.al c.ty.prof (c.S.getD (k + 1) st0).p (c.S.getD (k + 1 + 1) st0).p (c.onA R k a 0).dep hc.al hc.net (by omega) (by omega) Y1 (hK.pl.below HB) (hK.al.below HB) (hK.tab.belowD HB))) (by kernel_rfl) ?_ AllReadyH.nil
  rintro e W2 ⟨rfl, hb⟩
  replace HB := over HB hb
  replace hB := hB.below hb
  have z2 := hb.size
  clear hb
  refine ⟨_, rfl, ⟨hB, (hSt.below HB), (hTm.below HB), (hSn.below HB), trivial⟩, ?_⟩
  refine Zu 28 rfl rfl (.tuple #[.int .i64 ((c.onA R k a 0).arr), .int .i64 ((c.go (k + 1) (c.dnA k a) (R.getD (k + 1) false)).2.1), .int .i64 ((c.go (k + 1) (c.dnA k a) (R.getD (k + 1) false)).2.2)]) ⟨hB, (hSt.below HB), (hTm.below HB), (hSn.below HB), trivial⟩ ?_
  refine Zu 29 rfl rfl (.int .i64 ((c.onA R k a 0).arr)) ⟨hB, (hSt.below HB), (hTm.below HB), (hSn.below HB), trivial⟩ ?_
  refine Zu 30 rfl rfl (.int .i64 ((c.go (k + 1) (c.dnA k a) (R.getD (k + 1) false)).2.1)) ⟨hB, (hSt.below HB), (hTm.below HB), (hSn.below HB), trivial⟩ ?_
  refine Zu 31 rfl rfl (.int .i64 ((c.go (k + 1) (c.dnA k a) (R.getD (k + 1) false)).2.2)) ⟨hB, (hSt.below HB), (hTm.below HB), (hSn.below HB), trivial⟩ ?_
  refine Zu 32 rfl rfl (.int .i64 ((c.onA R k a 0).arr)) ⟨hB, (hSt.below HB), (hTm.below HB), (hSn.below HB), trivial⟩ ?_
  refine sd_done (by kernel_rfl) ?_
  refine sx_norm (wp_seq (wp_region_lit ?_))
  refine Zv rfl (.int .i64 ((c.onA R k a 0).dep)) ?_
  refine Zv rfl (.int .i64 ((c.onA R k a 0).arr)) ?_
  refine Zv rfl (.int .i64 ((c.onA R k a 0).dep)) ?_
  refine Zv rfl (.int .i64 ((c.onA R k a 0).arr)) ?_
  refine wpList_nil (sx_norm (wp_ret ?_))
  exact sx_ret2 (.int .i64 ((c.onA R k a 0).dep)) (.int .i64 ((c.onA R k a 0).arr)) rfl rfl rfl (by kernel_rfl) (by kernel_rfl) ⟨rfl, HB⟩
 refine Zw rfl (.bool false) (ex_load1 (v := .bool false) rfl (by have h8 := (hTm.below HB).cell (k := k) (by omega) 3 (v := .bool (R.getD (k + 1) false)) rfl; rw [show R.getD (k + 1) false = false by simpa using C1] at h8; exact h8) (by kernel_rfl) Tryd.underlying4 rfl) ?_
 refine wpList_nil (sx_norm ?_)
 refine sx_false (by kernel_rfl) ?_
 refine wp_skip (sx_norm (wp_seq ?_))
 have hdp : c.dnA k a = (c.onA R k a 0).dep := by
  show _ = c.gD (c.dnA k a) (R.getD (k + 1) false)
  unfold CrT.gD
  rw [if_neg (by assumption)]
 rw [hdp]
 obtain ⟨Y3, hW⟩ : ∃ W, w.drew = W := ⟨_, rfl⟩
 have hb : Below w.heap.size w Y3 := hW ▸ below_drew (Below.refl _ _)
 replace HB := over HB hb
 replace hB := hB.below hb
 have z1 := hb.size
 clear hb
 refine sd_begin (fun W => Cb W (q) #[.slice K.o0 c.pl.length K.c0, .slice K.o1 c.al.length K.c1, .string c.ty.name, .int .i64 c.ty.count, .int .i64 c.ty.fr, .int .i64 c.ty.to, .slice K.va c.ty.cap.length K.vb, .int .i64 c.ty.skills, .int .i64 c.ty.prof, .int .i64 c.ty.opn, .int .i64 c.ty.cls, .int .i64 c.ty.drv, .int .i64 c.ty.rst, .int .i64 c.ty.fix, .int .i64 c.ty.pm, .int .i64 c.ty.pt, .bool (R.getD 0 false), .int .i64 ((c.lg R 0).dep), .slice K.o3 (c.n - 1) K.c3, .int .i64 ((c.lg R (c.n - 1)).arr), .int .i64 (c.mil R c.n), .slice K.o2 c.n K.c2, .slice K.o4 c.n K.c4] 102 ∧ Rw W K.bs K.os 4 (fun k => sF c.S (k + 1)) c.n K.o2 ∧ Rw W K.bt K.ot 4 (fun k => tmE (c.tm R k)) (c.n - 1) K.o3 ∧ Rw W K.bn K.on 1 (fun k => inE (c.lg R k).sin) c.n K.o4 ∧ True) (by kernel_rfl) (by rw [hW]; exact ⟨hB, (hSt.below HB), (hTm.below HB), (hSn.below HB), trivial⟩) ?_
 rw [hW]
 clear hW
 refine Zu 0 rfl rfl (.pointer (some ⟨q, 0, none⟩)) ⟨hB, (hSt.below HB), (hTm.below HB), (hSn.below HB), trivial⟩ ?_
 refine Zu 1 rfl rfl (.pointer (some ⟨q, 0, none⟩)) ⟨hB, (hSt.below HB), (hTm.below HB), (hSn.below HB), trivial⟩ ?_
 refine Zu 2 rfl rfl (.pointer (some ⟨q, 0, none⟩)) ⟨hB, (hSt.below HB), (hTm.below HB), (hSn.below HB), trivial⟩ ?_
 refine Zt 3 rfl rfl (.agg #[.slice K.o0 c.pl.length K.c0, .slice K.o1 c.al.length K.c1]) (fun w9 h9 => ex_mid (q := 0) rfl h9.1 [.slice K.o0 c.pl.length K.c0, .slice K.o1 c.al.length K.c1] (by kernel_rfl) Tryd.underlying25 rfl (by kernel_rfl) rfl) ⟨hB, (hSt.below HB), (hTm.below HB), (hSn.below HB), trivial⟩ ?_
 refine Zu 4 rfl rfl (.pointer (some ⟨q, 0, none⟩)) ⟨hB, (hSt.below HB), (hTm.below HB), (hSn.below HB), trivial⟩ ?_
 refine Zu 5 rfl rfl (.pointer (some ⟨q, 0, none⟩)) ⟨hB, (hSt.below HB), (hTm.below HB), (hSn.below HB), trivial⟩ ?_
 refine Zu 6 rfl rfl (.pointer (some ⟨q, 2, none⟩)) ⟨hB, (hSt.below HB), (hTm.below HB), (hSn.below HB), trivial⟩ ?_
 refine Zu 7 rfl rfl (.pointer (some ⟨q, 8, none⟩)) ⟨hB, (hSt.below HB), (hTm.below HB), (hSn.below HB), trivial⟩ ?_
 refine Zt 8 rfl rfl (.int .i64 c.ty.prof) (fun w9 h9 => el (h9.1.cell 8 rfl) Tryd.underlying3) ⟨hB, (hSt.below HB), (hTm.below HB), (hSn.below HB), trivial⟩ ?_
 refine Zu 9 rfl rfl (.pointer (some ⟨q, 0, none⟩)) ⟨hB, (hSt.below HB), (hTm.below HB), (hSn.below HB), trivial⟩ ?_
 refine Zu 10 rfl rfl (.pointer (some ⟨q, 0, none⟩)) ⟨hB, (hSt.below HB), (hTm.below HB), (hSn.below HB), trivial⟩ ?_
 refine Zu 11 rfl rfl (.pointer (some ⟨q, 21, none⟩)) ⟨hB, (hSt.below HB), (hTm.below HB), (hSn.below HB), trivial⟩ ?_
 refine Zt 12 rfl rfl (.slice K.o2 c.n K.c2) (fun w9 h9 => el (h9.1.cell 21 rfl) Tryd.underlying99) ⟨hB, (hSt.below HB), (hTm.below HB), (hSn.below HB), trivial⟩ ?_
 refine Zu 13 rfl rfl (.int .i64 ((k : Nat) : Int)) ⟨hB, (hSt.below HB), (hTm.below HB), (hSn.below HB), trivial⟩ ?_
 refine Zt 14 rfl rfl (.pointer (some ⟨K.bs, K.os + k * 4, none⟩)) (fun w9 h9 => ex_indexO (q := K.os) (m := c.n) (c := K.c2) (k := k) (s := 4) rfl (by kernel_rfl) (h9.2.1.oa (k := k) (by omega)) (by kernel_rfl) Tryd.underlying99 (by kernel_rfl) (by omega) (by omega)) ⟨hB, (hSt.below HB), (hTm.below HB), (hSn.below HB), trivial⟩ ?_
 refine Zu 15 rfl rfl (.pointer (some ⟨K.bs, K.os + k * 4, none⟩)) ⟨hB, (hSt.below HB), (hTm.below HB), (hSn.below HB), trivial⟩ ?_
 refine Zt 16 rfl rfl (.int .i64 ((c.S.getD (k + 1) st0).p)) (fun w9 h9 => el (h9.2.1.cell (k := k) (by omega) 0 rfl) Tryd.underlying3) ⟨hB, (hSt.below HB), (hTm.below HB), (hSn.below HB), trivial⟩ ?_
 refine Zu 17 rfl rfl (.pointer (some ⟨q, 0, none⟩)) ⟨hB, (hSt.below HB), (hTm.below HB), (hSn.below HB), trivial⟩ ?_
 refine Zu 18 rfl rfl (.pointer (some ⟨q, 0, none⟩)) ⟨hB, (hSt.below HB), (hTm.below HB), (hSn.below HB), trivial⟩ ?_
 refine Zu 19 rfl rfl (.pointer (some ⟨q, 21, none⟩)) ⟨hB, (hSt.below HB), (hTm.below HB), (hSn.below HB), trivial⟩ ?_
 refine Zt 20 rfl rfl (.slice K.o2 c.n K.c2) (fun w9 h9 => el (h9.1.cell 21 rfl) Tryd.underlying99) ⟨hB, (hSt.below HB), (hTm.below HB), (hSn.below HB), trivial⟩ ?_
 refine Zu 21 rfl rfl (.int .i64 ((k : Nat) : Int)) ⟨hB, (hSt.below HB), (hTm.below HB), (hSn.below HB), trivial⟩ ?_
 refine Zt 22 rfl rfl (.int .i64 ((k + 1 : Nat) : Int)) (fun w9 _ => ex_int .i64 (IntKind.i64.wrap (((k : Nat) : Int) + 1)) (((k + 1 : Nat) : Int)) (by kernel_rfl) (by rw [IntKind.wrap_i64]; omega)) ⟨hB, (hSt.below HB), (hTm.below HB), (hSn.below HB), trivial⟩ ?_
 refine Zt 23 rfl rfl (.pointer (some ⟨K.bs, K.os + (k + 1) * 4, none⟩)) (fun w9 h9 => ex_indexO (q := K.os) (m := c.n) (c := K.c2) (k := k + 1) (s := 4) rfl (by kernel_rfl) (h9.2.1.oa (k := k + 1) (by omega)) (by kernel_rfl) Tryd.underlying99 (by kernel_rfl) (by omega) (by omega)) ⟨hB, (hSt.below HB), (hTm.below HB), (hSn.below HB), trivial⟩ ?_
 refine Zu 24 rfl rfl (.pointer (some ⟨K.bs, K.os + (k + 1) * 4, none⟩)) ⟨hB, (hSt.below HB), (hTm.below HB), (hSn.below HB), trivial⟩ ?_
 refine Zt 25 rfl rfl (.int .i64 ((c.S.getD (k + 1 + 1) st0).p)) (fun w9 h9 => el (h9.2.1.cell (k := k + 1) (by omega) 0 rfl) Tryd.underlying3) ⟨hB, (hSt.below HB), (hTm.below HB), (hSn.below HB), trivial⟩ ?_
 refine Zu 26 rfl rfl (.int .i64 ((c.onA R k a 0).dep)) ⟨hB, (hSt.below HB), (hTm.below HB), (hSn.below HB), trivial⟩ ?_
 refine sd_all [27] (by kernel_rfl) (by decide) ?_
 refine sd_call (i := 27) rfl (by kernel_rfl) rfl rfl ((show Calls Tryd.prog 65 #[.agg #[.slice K.o0 c.pl.length K.c0, .slice K.o1 c.al.length K.c1], .int .i64 c.ty.prof, .int .i64 (c.S.getD (k + 1) st0).p, .int .i64 (c.S.getD (k + 1 + 1) st0).p, .int .i64 (c.onA R k a 0).dep] Y3 (GoP (c.go (k + 1) (c.dnA k a) (R.getD (k + 1) false)) Y3) from go_n (.slice K.o0 c.pl.length K.c0) (.slice K.o1 c.al.length K.c1) c.pl c.al c.ty.prof (c.S.getD (k + 1) st0).p (c.S.getD (k + 1 + 1) st0).p (c.onA R k a 0).dep hc.al hc.net (by omega) (by omega) Y3 (hK.pl.below HB) (hK.al.below HB) (hK.tab.belowD HB))) (by kernel_rfl) ?_ AllReadyH.nil
 rintro e W4 ⟨rfl, hb⟩
 replace HB := over HB hb
 replace hB := hB.below hb
 have z2 := hb.size
 clear hb
 refine ⟨_, rfl, ⟨hB, (hSt.below HB), (hTm.below HB), (hSn.below HB), trivial⟩, ?_⟩
 refine Zu 28 rfl rfl (.tuple #[.int .i64 ((c.onA R k a 0).arr), .int .i64 ((c.go (k + 1) (c.dnA k a) (R.getD (k + 1) false)).2.1), .int .i64 ((c.go (k + 1) (c.dnA k a) (R.getD (k + 1) false)).2.2)]) ⟨hB, (hSt.below HB), (hTm.below HB), (hSn.below HB), trivial⟩ ?_
 refine Zu 29 rfl rfl (.int .i64 ((c.onA R k a 0).arr)) ⟨hB, (hSt.below HB), (hTm.below HB), (hSn.below HB), trivial⟩ ?_
 refine Zu 30 rfl rfl (.int .i64 ((c.go (k + 1) (c.dnA k a) (R.getD (k + 1) false)).2.1)) ⟨hB, (hSt.below HB), (hTm.below HB), (hSn.below HB), trivial⟩ ?_
 refine Zu 31 rfl rfl (.int .i64 ((c.go (k + 1) (c.dnA k a) (R.getD (k + 1) false)).2.2)) ⟨hB, (hSt.below HB), (hTm.below HB), (hSn.below HB), trivial⟩ ?_
 refine Zu 32 rfl rfl (.int .i64 ((c.onA R k a 0).arr)) ⟨hB, (hSt.below HB), (hTm.below HB), (hSn.below HB), trivial⟩ ?_
 refine sd_done (by kernel_rfl) ?_
 refine sx_norm (wp_seq (wp_region_lit ?_))
 refine Zv rfl (.int .i64 ((c.onA R k a 0).dep)) ?_
 refine Zv rfl (.int .i64 ((c.onA R k a 0).arr)) ?_
 refine Zv rfl (.int .i64 ((c.onA R k a 0).dep)) ?_
 refine Zv rfl (.int .i64 ((c.onA R k a 0).arr)) ?_
 refine wpList_nil (sx_norm (wp_ret ?_))
 exact sx_ret2 (.int .i64 ((c.onA R k a 0).dep)) (.int .i64 ((c.onA R k a 0).arr)) rfl rfl rfl (by kernel_rfl) (by kernel_rfl) ⟨rfl, HB⟩
theorem smost_n (c : CrT) (hc : c.Ok) (R : List Bool) (hrun : c.run R c.n = 0) (K : SV) (q : Nat) (w : World) (hK : Scr w c R K q) (k j : Nat) (hk : k < c.n) (hj : (c.lg R k).arr + j ≤ (c.S.getD (k + 1) st0).c) (oL : Option Addr) (nL cL bL qL : Nat) (hL : k + 1 < c.n → nL = (c.moL R (k + 1)).length ∧ Rw w bL qL 1 (fun k1 => inE ((c.moL R (k + 1)).getD k1 0)) (c.moL R (k + 1)).length oL) : Calls Tryd.prog 63 #[.pointer (some ⟨q, 0, none⟩), .int .i64 ((k : Nat) : Int), .int .i64 (c.bgA k ((c.lg R k).arr + ((j : Nat) : Int))), .slice oL nL cL] w fun e w' => e = .returned (.int .i64 (c.mo R (c.n - 1 - k) k j)) ∧ Below w.heap.size w w' := by
 have hla := CrT.lg_arr hc hrun hk
 have HB : Below w.heap.size w w := Below.refl _ _
 have hB := hK.blk
 have yhB := hB.lt
 have hSt := hK.st
 have hTm := hK.tm
 have hSn := hK.sn
 have hln := hc.len
 have hrst := hc.rst
 have hdrv := hc.drv
 have hrd := hc.rd
 have hcn9 : c.n = c.S.length - 1 := rfl
 refine sx_enter Tryd.func63 rfl [(0, .pointer (some ⟨q, 0, none⟩)), (1, .int .i64 ((k : Nat) : Int)), (2, .int .i64 (c.bgA k ((c.lg R k).arr + ((j : Nat) : Int)))), (3, .slice oL nL cL)] (by kernel_rfl) ?_
 refine wp_seq (wp_region_lit ?_)
 refine Zv rfl (.int .i64 0) ?_
 refine wpList_nil (sx_norm (wp_seq (wp_seq (wp_region_lit ?_))))
 refine Zv rfl (.int .i64 ((k : Nat) : Int)) ?_
 refine Zv rfl (.pointer (some ⟨q, 0, none⟩)) ?_
 refine sx_call (by kernel_rfl) rfl rfl (send_n c hc R hrun K q w (hK.below HB)) (by kernel_rfl) ?_
 rintro e w9 ⟨rfl, rfl⟩
 refine ⟨_, rfl, ?_⟩
 by_cases C1 : k = (c.n - 1)
 ·refine Zb rfl ((((k : Nat) : Int) : Int) == ((((c.n - 1) : Nat) : Int) : Int)) true (beq_iff_eq.2 (by omega)) ?_
  refine wpList_nil (sx_norm ?_)
  refine sx_true (by kernel_rfl) ?_
  refine wp_seq (wp_region_lit ?_)
  refine Zv rfl (.pointer (some ⟨q, 0, none⟩)) ?_
  refine Zv rfl (.pointer (some ⟨q, 0, none⟩)) ?_
  refine Zv rfl (.pointer (some ⟨q, 2, none⟩)) ?_
  refine Zv rfl (.pointer (some ⟨q, 11, none⟩)) ?_
  refine Zw rfl (.int .i64 c.ty.drv) (el (hB.cell 11 rfl) Tryd.underlying3) ?_
  refine Zv rfl (.int .i64 c.ty.drv) ?_
  refine wpList_nil (sx_norm (wp_ret (sx_rs ?_)))
  have h9 : (c.mo R (c.n - 1 - k) k j) = c.ty.drv := by rw [show c.n - 1 - k = 0 by omega]; rfl
  refine sx_ret1 (.int .i64 c.ty.drv) rfl rfl (by kernel_rfl) ⟨by rw [h9], HB⟩
 refine Zb rfl ((((k : Nat) : Int) : Int) == ((((c.n - 1) : Nat) : Int) : Int)) false (beq_eq_false_iff_ne.2 (by omega)) ?_
 refine wpList_nil (sx_norm ?_)
 refine sx_false (by kernel_rfl) ?_
 refine wp_skip (sx_norm (wp_seq ?_))
 have hk1 : k + 1 < c.n := by omega
 have hla1 := CrT.lg_arr hc hrun hk1
 have hon := CrT.onA_bd hc (R := R) (k := k) (a := ((c.lg R k).arr + ((j : Nat) : Int))) (s := 0) hrun hk1 (by omega) (by omega)
 obtain ⟨m, hm⟩ : ∃ m, c.n - 1 - k = m + 1 := ⟨c.n - 1 - k - 1, by omega⟩
 have hm1 : c.n - 1 - (k + 1) = m := by omega
 obtain ⟨hnL, hRL⟩ := hL hk1
 subst hnL
 have hml := c.moL_len R (k + 1)
 have hmo : (c.mo R (c.n - 1 - k) k j) = if (c.onA R k ((c.lg R k).arr + ((j : Nat) : Int)) 0).arr - (c.lg R (k + 1)).arr < 0 ∨ (c.ln R (k + 1) : Int) ≤ (c.onA R k ((c.lg R k).arr + ((j : Nat) : Int)) 0).arr - (c.lg R (k + 1)).arr then -1 else if R.getD (k + 1) false = false then c.mo R m (k + 1) ((c.onA R k ((c.lg R k).arr + ((j : Nat) : Int)) 0).arr - (c.lg R (k + 1)).arr).toNat - ((c.onA R k ((c.lg R k).arr + ((j : Nat) : Int)) 0).arr - (c.onA R k ((c.lg R k).arr + ((j : Nat) : Int)) 0).dep) else if c.mo R m (k + 1) ((c.onA R k ((c.lg R k).arr + ((j : Nat) : Int)) 0).arr - (c.lg R (k + 1)).arr).toNat - ((c.onA R k ((c.lg R k).arr + ((j : Nat) : Int)) 0).arr - (c.onA R k ((c.lg R k).arr + ((j : Nat) : Int)) 0).dep) < 0 then -1 else c.ty.drv := by rw [hm]; rfl
 refine wp_region_lit ?_
 refine Zv rfl (.pointer (some ⟨q, 0, none⟩)) ?_
 refine Zv rfl (.int .i64 ((k : Nat) : Int)) ?_
 refine Zv rfl (.int .i64 (c.bgA k ((c.lg R k).arr + ((j : Nat) : Int)))) ?_
 refine sx_call (by kernel_rfl) rfl rfl (snext_n c hc R hrun K q w (hK.below HB) k (by omega) ((c.lg R k).arr + ((j : Nat) : Int)) ⟨by omega, by omega⟩) (by kernel_rfl) ?_
 rintro e W1 ⟨rfl, hb⟩
 replace HB := over HB hb
 replace hB := hB.below hb
 have z1 := hb.size
 clear hb
 refine ⟨_, rfl, ?_⟩
 refine Zv rfl (.tuple #[.int .i64 ((c.onA R k ((c.lg R k).arr + ((j : Nat) : Int)) 0).dep), .int .i64 ((c.onA R k ((c.lg R k).arr + ((j : Nat) : Int)) 0).arr)]) ?_
 refine Zv rfl (.int .i64 ((c.onA R k ((c.lg R k).arr + ((j : Nat) : Int)) 0).dep)) ?_
 refine Zv rfl (.int .i64 ((c.onA R k ((c.lg R k).arr + ((j : Nat) : Int)) 0).arr)) ?_
 refine Zv rfl (.int .i64 ((c.onA R k ((c.lg R k).arr + ((j : Nat) : Int)) 0).dep)) ?_
 refine Zv rfl (.int .i64 ((c.onA R k ((c.lg R k).arr + ((j : Nat) : Int)) 0).arr)) ?_
 refine wpList_nil (sx_norm (wp_seq (wp_region_lit ?_)))
 refine Zv rfl (.int .i64 ((c.onA R k ((c.lg R k).arr + ((j : Nat) : Int)) 0).arr)) ?_
 refine Zv rfl (.pointer (some ⟨q, 0, none⟩)) ?_
 refine Zv rfl (.int .i64 ((k : Nat) : Int)) ?_
 refine sx_int (by kernel_rfl) rfl rfl .i64 (IntKind.i64.wrap (((k : Nat) : Int) + 1)) (((k + 1 : Nat) : Int)) (by kernel_rfl) (by rw [IntKind.wrap_i64]; omega) ?_
 refine sx_call (by kernel_rfl) rfl rfl (sarr_n c hc R hrun K q W1 (hK.below HB) (k + 1) (by omega)) (by kernel_rfl) ?_
 rintro e w9 ⟨rfl, rfl⟩
 refine ⟨_, rfl, ?_⟩
 refine sx_int (by kernel_rfl) rfl rfl .i64 (IntKind.i64.wrap ((c.onA R k ((c.lg R k).arr + ((j : Nat) : Int)) 0).arr - (c.lg R (k + 1)).arr)) (((c.onA R k ((c.lg R k).arr + ((j : Nat) : Int)) 0).arr - (c.lg R (k + 1)).arr)) (by kernel_rfl) (by rw [IntKind.wrap_i64]; omega) ?_
 refine Zv rfl (.int .i64 ((c.onA R k ((c.lg R k).arr + ((j : Nat) : Int)) 0).arr - (c.lg R (k + 1)).arr)) ?_
 refine wpList_nil (sx_norm (wp_seq (wp_seq (wp_region_lit ?_))))
 refine Zv rfl (.int .i64 ((c.onA R k ((c.lg R k).arr + ((j : Nat) : Int)) 0).arr - (c.lg R (k + 1)).arr)) ?_
 by_cases C2 : ((c.onA R k ((c.lg R k).arr + ((j : Nat) : Int)) 0).arr - (c.lg R (k + 1)).arr) < 0
 ·refine Zb rfl (decide (((c.onA R k ((c.lg R k).arr + ((j : Nat) : Int)) 0).arr - (c.lg R (k + 1)).arr) < 0)) true (decide_eq_true (by omega)) ?_
  refine Zv rfl (.bool true) ?_
  refine Zk rfl ?_
  refine Zk rfl ?_
  refine Zk rfl ?_
  refine Zk rfl ?_
  refine Zv rfl (.bool true) ?_
  refine wpList_nil (sx_norm ?_)
  refine sx_true (by kernel_rfl) ?_
  refine wp_seq (wp_region_lit ?_)
  refine Zv rfl (.int .i64 (-1)) ?_
  refine wpList_nil (sx_norm (wp_ret (sx_rs ?_)))
  rw [if_pos (by omega)] at hmo
  refine sx_ret1 (.int .i64 (-1)) rfl rfl (by kernel_rfl) ⟨by rw [hmo], HB⟩
 refine Zb rfl (decide (((c.onA R k ((c.lg R k).arr + ((j : Nat) : Int)) 0).arr - (c.lg R (k + 1)).arr) < 0)) false (decide_eq_false (by omega)) ?_
 refine Zv rfl (.bool false) ?_
 refine Zv rfl (.int .i64 ((c.onA R k ((c.lg R k).arr + ((j : Nat) : Int)) 0).arr - (c.lg R (k + 1)).arr)) ?_
 refine Zv rfl (.slice oL (c.moL R (k + 1)).length cL) ?_
 refine Zv rfl (.int .i64 (((c.moL R (k + 1)).length : Nat) : Int)) ?_
 by_cases C3 : ((c.onA R k ((c.lg R k).arr + ((j : Nat) : Int)) 0).arr - (c.lg R (k + 1)).arr) ≥ (((c.moL R (k + 1)).length : Nat) : Int)
 ·refine Zb rfl (decide (((c.onA R k ((c.lg R k).arr + ((j : Nat) : Int)) 0).arr - (c.lg R (k + 1)).arr) ≥ (((c.moL R (k + 1)).length : Nat) : Int))) true (decide_eq_true (by omega)) ?_
  refine Zv rfl (.bool true) ?_
  refine wpList_nil (sx_norm ?_)
  refine sx_true (by kernel_rfl) ?_
  refine wp_seq (wp_region_lit ?_)
  refine Zv rfl (.int .i64 (-1)) ?_
  refine wpList_nil (sx_norm (wp_ret (sx_rs ?_)))
  rw [if_pos (by omega)] at hmo
  refine sx_ret1 (.int .i64 (-1)) rfl rfl (by kernel_rfl) ⟨by rw [hmo], HB⟩
 refine Zb rfl (decide (((c.onA R k ((c.lg R k).arr + ((j : Nat) : Int)) 0).arr - (c.lg R (k + 1)).arr) ≥ (((c.moL R (k + 1)).length : Nat) : Int))) false (decide_eq_false (by omega)) ?_
 refine Zv rfl (.bool false) ?_
 refine wpList_nil (sx_norm ?_)
 refine sx_false (by kernel_rfl) ?_
 refine wp_skip (sx_norm (wp_seq ?_))
 obtain ⟨i, hi⟩ : ∃ i : Nat, ((c.onA R k ((c.lg R k).arr + ((j : Nat) : Int)) 0).arr - (c.lg R (k + 1)).arr) = ((i : Nat) : Int) := ⟨((c.onA R k ((c.lg R k).arr + ((j : Nat) : Int)) 0).arr - (c.lg R (k + 1)).arr).toNat, by omega⟩
 have hil : i < c.ln R (k + 1) := by omega
 have hbd := CrT.mo_bd hc hrun m (k + 1) i (by omega) hil
 rw [hi] at hmo ⊢
 rw [Int.toNat_natCast, if_neg (by omega)] at hmo
 refine wp_region_lit ?_
 refine Zv rfl (.slice oL (c.moL R (k + 1)).length cL) ?_
 refine Zv rfl (.int .i64 ((i : Nat) : Int)) ?_
 refine Zw rfl (.pointer (some ⟨bL, qL + i * 1, none⟩)) (ex_indexO (q := qL) (m := (c.moL R (k + 1)).length) (c := cL) (k := i) (s := 1) rfl (by kernel_rfl) ((hRL.below HB).oa (k := i) (by omega)) (by kernel_rfl) Tryd.underlying42 (by kernel_rfl) (by omega) (by omega)) ?_
 refine Zw rfl (.int .i64 (c.mo R m (k + 1) i)) (el (by have h8 := (hRL.below HB).cell (k := i) (by omega) 0 (v := .int .i64 ((c.moL R (k + 1)).getD i 0)) rfl; rw [CrT.moL_at hil, hm1] at h8; exact h8) Tryd.underlying3) ?_
 refine Zv rfl (.int .i64 ((c.onA R k ((c.lg R k).arr + ((j : Nat) : Int)) 0).arr)) ?_
 refine Zv rfl (.int .i64 ((c.onA R k ((c.lg R k).arr + ((j : Nat) : Int)) 0).dep)) ?_
 refine sx_int (by kernel_rfl) rfl rfl .i64 (IntKind.i64.wrap ((c.onA R k ((c.lg R k).arr + ((j : Nat) : Int)) 0).arr - (c.onA R k ((c.lg R k).arr + ((j : Nat) : Int)) 0).dep)) (((c.onA R k ((c.lg R k).arr + ((j : Nat) : Int)) 0).arr - (c.onA R k ((c.lg R k).arr + ((j : Nat) : Int)) 0).dep)) (by kernel_rfl) (by rw [IntKind.wrap_i64]; omega) ?_
 refine sx_int (by kernel_rfl) rfl rfl .i64 (IntKind.i64.wrap ((c.mo R m (k + 1) i) - ((c.onA R k ((c.lg R k).arr + ((j : Nat) : Int)) 0).arr - (c.onA R k ((c.lg R k).arr + ((j : Nat) : Int)) 0).dep))) (((c.mo R m (k + 1) i) - ((c.onA R k ((c.lg R k).arr + ((j : Nat) : Int)) 0).arr - (c.onA R k ((c.lg R k).arr + ((j : Nat) : Int)) 0).dep))) (by kernel_rfl) (by rw [IntKind.wrap_i64]; omega) ?_
 refine Zv rfl (.int .i64 ((c.mo R m (k + 1) i) - ((c.onA R k ((c.lg R k).arr + ((j : Nat) : Int)) 0).arr - (c.onA R k ((c.lg R k).arr + ((j : Nat) : Int)) 0).dep))) ?_
 refine wpList_nil (sx_norm (wp_seq (wp_seq (wp_region_lit ?_))))
 refine Zv rfl (.pointer (some ⟨q, 0, none⟩)) ?_
 refine Zv rfl (.pointer (some ⟨q, 0, none⟩)) ?_
 refine Zv rfl (.pointer (some ⟨q, 16, none⟩)) ?_
 refine Zv rfl (.pointer (some ⟨q, 18, none⟩)) ?_
 refine Zw rfl (.slice K.o3 (c.n - 1) K.c3) (el (hB.cell 18 rfl) Tryd.underlying35) ?_
 refine Zv rfl (.int .i64 ((k : Nat) : Int)) ?_
 refine Zw rfl (.pointer (some ⟨K.bt, K.ot + k * 4, none⟩)) (ex_indexO (q := K.ot) (m := (c.n - 1)) (c := K.c3) (k := k) (s := 4) rfl (by kernel_rfl) ((hTm.below HB).oa (k := k) (by omega)) (by kernel_rfl) Tryd.underlying35 (by kernel_rfl) (by omega) (by omega)) ?_
 refine Zv rfl (.pointer (some ⟨K.bt, K.ot + k * 4 + 3, none⟩)) ?_
 by_cases C4 : R.getD (k + 1) false = true
 ·refine Zw rfl (.bool true) (ex_load1 (v := .bool true) rfl (by have h8 := (hTm.below HB).cell (k := k) (by omega) 3 (v := .bool (R.getD (k + 1) false)) rfl; rw [show R.getD (k + 1) false = true by simpa using C4] at h8; exact h8) (by kernel_rfl) Tryd.underlying4 rfl) ?_
  refine Zv rfl (.bool false) ?_
  refine wpList_nil (sx_norm ?_)
  refine sx_false (by kernel_rfl) ?_
  refine wp_skip (sx_norm (wp_seq (wp_seq (wp_region_lit ?_))))
  refine Zv rfl (.int .i64 ((c.mo R m (k + 1) i) - ((c.onA R k ((c.lg R k).arr + ((j : Nat) : Int)) 0).arr - (c.onA R k ((c.lg R k).arr + ((j : Nat) : Int)) 0).dep))) ?_
  by_cases C5 : ((c.mo R m (k + 1) i) - ((c.onA R k ((c.lg R k).arr + ((j : Nat) : Int)) 0).arr - (c.onA R k ((c.lg R k).arr + ((j : Nat) : Int)) 0).dep)) < 0
  ·refine Zb rfl (decide (((c.mo R m (k + 1) i) - ((c.onA R k ((c.lg R k).arr + ((j : Nat) : Int)) 0).arr - (c.onA R k ((c.lg R k).arr + ((j : Nat) : Int)) 0).dep)) < 0)) true (decide_eq_true (by omega)) ?_
   refine wpList_nil (sx_norm ?_)
   refine sx_true (by kernel_rfl) ?_
   refine wp_seq (wp_region_lit ?_)
   refine Zv rfl (.int .i64 (-1)) ?_
   refine wpList_nil (sx_norm (wp_ret (sx_rs ?_)))
   rw [if_neg (by simp_all), if_pos (by omega)] at hmo
   refine sx_ret1 (.int .i64 (-1)) rfl rfl (by kernel_rfl) ⟨by rw [hmo], HB⟩
  refine Zb rfl (decide (((c.mo R m (k + 1) i) - ((c.onA R k ((c.lg R k).arr + ((j : Nat) : Int)) 0).arr - (c.onA R k ((c.lg R k).arr + ((j : Nat) : Int)) 0).dep)) < 0)) false (decide_eq_false (by omega)) ?_
  refine wpList_nil (sx_norm ?_)
  refine sx_false (by kernel_rfl) ?_
  refine wp_skip (sx_norm (wp_seq (wp_region_lit ?_)))
  refine Zv rfl (.pointer (some ⟨q, 0, none⟩)) ?_
  refine Zv rfl (.pointer (some ⟨q, 0, none⟩)) ?_
  refine Zv rfl (.pointer (some ⟨q, 2, none⟩)) ?_
  refine Zv rfl (.pointer (some ⟨q, 11, none⟩)) ?_
  refine Zw rfl (.int .i64 c.ty.drv) (el (hB.cell 11 rfl) Tryd.underlying3) ?_
  refine Zv rfl (.int .i64 c.ty.drv) ?_
  refine wpList_nil (sx_norm (wp_ret ?_))
  rw [if_neg (by simp_all), if_neg (by omega)] at hmo
  refine sx_ret1 (.int .i64 c.ty.drv) rfl rfl (by kernel_rfl) ⟨by rw [hmo], HB⟩
 refine Zw rfl (.bool false) (ex_load1 (v := .bool false) rfl (by have h8 := (hTm.below HB).cell (k := k) (by omega) 3 (v := .bool (R.getD (k + 1) false)) rfl; rw [show R.getD (k + 1) false = false by simpa using C4] at h8; exact h8) (by kernel_rfl) Tryd.underlying4 rfl) ?_
 refine Zv rfl (.bool true) ?_
 refine wpList_nil (sx_norm ?_)
 refine sx_true (by kernel_rfl) ?_
 refine wp_seq (wp_region_lit ?_)
 refine Zv rfl (.int .i64 ((c.mo R m (k + 1) i) - ((c.onA R k ((c.lg R k).arr + ((j : Nat) : Int)) 0).arr - (c.onA R k ((c.lg R k).arr + ((j : Nat) : Int)) 0).dep))) ?_
 refine Zv rfl (.int .i64 ((c.mo R m (k + 1) i) - ((c.onA R k ((c.lg R k).arr + ((j : Nat) : Int)) 0).arr - (c.onA R k ((c.lg R k).arr + ((j : Nat) : Int)) 0).dep))) ?_
 refine wpList_nil (sx_norm (wp_ret (sx_rs ?_)))
 rw [if_pos (by simp_all)] at hmo
 refine sx_ret1 (.int .i64 ((c.mo R m (k + 1) i) - ((c.onA R k ((c.lg R k).arr + ((j : Nat) : Int)) 0).arr - (c.onA R k ((c.lg R k).arr + ((j : Nat) : Int)) 0).dep))) rfl rfl (by kernel_rfl) ⟨by rw [hmo], HB⟩

end Go.Proofs.YtomebalolmabnaaDoor.T



