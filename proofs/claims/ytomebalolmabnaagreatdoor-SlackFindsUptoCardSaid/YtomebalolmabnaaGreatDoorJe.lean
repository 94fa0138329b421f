/-
  DERIVED. Je: a part of the base of layer 13 (made by pack.py).
-/
import Derived.Test.YtomebalolmabnaaGreatDoorGA
import Derived.Test.YtomebalolmabnaaGreatDoorGJ
import Derived.Test.YtomebalolmabnaaGreatDoorGL
/-! The walk of slack: the schedule with a delay (by gen_je.py). -/
namespace Go.Proofs.YtomebalolmabnaaGreatDoor.T
open Go.RowKit
set_option maxRecDepth 8000
attribute [local irreducible] wpList Code.wp wpAnyH

theorem getD_set_self {α : Type} {d : α} {L : List α} {k : Nat} {x : α} (h : k < L.length) : (L.set k x).getD k d = x := by rw [List.getD_eq_getElem?_getD, List.getElem?_set, if_pos rfl, if_pos h]; rfl
def Cl (w : World) (B n g : Nat) (oa : Option Addr) (L : List TmT) (Z : List Value) : Prop := 0 < n → oa = some ⟨g, 0, none⟩ ∧ B ≤ g ∧ Cb w g (L.flatMap tmE ++ Z).toArray 61
theorem Cl.below {w w' : World} {B n g : Nat} {oa : Option Addr} {L : List TmT} {Z : List Value} (h : Cl w B n g oa L Z) (hb : Below w.heap.size w w') : Cl w' B n g oa L Z := fun hn => ⟨(h hn).1, (h hn).2.1, (h hn).2.2.below hb⟩
theorem Cl.kept {w w' : World} {B n g q : Nat} {oa : Option Addr} {L : List TmT} {Z : List Value} (h : Cl w B n g oa L Z) (hg : w.grownBy w' (some q)) (hq : q < B) : Cl w' B n g oa L Z := fun hn => ⟨(h hn).1, (h hn).2.1, (h hn).2.2.kept hg (by have := (h hn).2.1; omega)⟩
theorem clone_n (T : List TmT) (lT : T.length ≤ 100000) (oT : Option Addr) (cT b o : Nat) (w : World) (hT : Rw w b o 4 (fun k => tmE (T.getD k tm0)) T.length oT) : Calls Tryz.prog 37 #[.slice oT T.length cT] w fun e w' => ∃ o9 c9 g Z, e = .returned (.slice o9 T.length c9) ∧ Cl w' w.heap.size T.length g o9 T Z ∧ Below w.heap.size w w' := by
 have HB : Below w.heap.size w w := Below.refl _ _
 refine sx_enter Tryz.func37 rfl [(0, .slice oT T.length cT)] (by kernel_rfl) ?_
 refine Yq (Zv rfl (.slice none 0 0) (Yn (Yo (Ys (Yq (Zv rfl (.slice oT T.length cT) ?_))))))
 by_cases C1 : oT = none
 ·subst C1
  refine Zv rfl (.bool true) (Yn (Yo (sx_true (by kernel_rfl) (Yq (Zv rfl (.slice none 0 0) (Yn (Yo (wp_ret (sx_rs ?_)))))))))
  refine sx_ret1 (.slice none 0 0) rfl rfl (by kernel_rfl) ⟨none, 0, 0, [], by have h9 : T.length = 0 := by { rcases Nat.eq_zero_or_pos T.length with h | h; exact h; exact absurd (hT.oa h) (by simp) }; rw [h9], fun h => absurd (hT.oa h) (by simp), HB⟩
 obtain ⟨a, rfl⟩ : ∃ a, oT = some a := by cases oT with
  | none => exact absurd rfl C1
  | some a => exact ⟨a, rfl⟩
 refine Zv rfl (.bool false) (Yn (Yo (sx_false (by kernel_rfl) (wp_skip (Yo (Yq ?_))))))
 obtain ⟨W1, hW, hb, hq⟩ := laidA w #[] 61
 refine sx_mem (by kernel_rfl) rfl rfl (.slice (some ⟨w.heap.size, 0, none⟩) 0 0) W1 (by rw [← hW]; kernel_rfl) ?_
 replace HB := over HB hb
 have z1 := hb.size
 have M2 := hq
 have yM2 := hq.lt
 clear hq hb hW
 refine Zv rfl (.slice (some a) T.length cT) ?_
 have HO : Ol tmE 61 4 w.heap.size W1 (.slice (some ⟨w.heap.size, 0, none⟩) 0 0) [] := Ol.made0 (k := 0) (z := #[]) (by rw [show madeCells #[] (0 * 4) = #[] by kernel_rfl]; exact M2) (by show _ ≤ _; omega) (by decide)
 obtain ⟨v9, W3, h9, hg9, hb, -, -⟩ := ap_all (P := Tryz.prog) (t := 35) (ty := 35) (z := tmZ) (bytes := 32) (c := cT) tmRow tm0 Tryz.underlying35 (by kernel_rfl) rfl (by decide) (by decide) HO (hT.below HB) (by omega) (by show 0 + T.length ≤ _; omega)
 refine sx_mem (by kernel_rfl) rfl rfl v9 W3 (ex_append rfl (by kernel_rfl) (by kernel_rfl) h9) ?_
 replace HB := HB.trans (hb.mono (by omega))
 have z2 := hb.size
 rw [List.nil_append] at hg9
 clear hb h9 HO
 refine Zv rfl (v9) (Yn (Yo (wp_ret ?_)))
 by_cases hT0 : 0 < T.length
 ·obtain ⟨g, c9, Z, rfl, hg, NT⟩ := Ol.oz hg9 hT0
  refine sx_ret1 (.slice (some ⟨g, 0, none⟩) T.length c9) rfl rfl (by kernel_rfl) ⟨_, _, g, Z, rfl, fun _ => ⟨rfl, hg, NT⟩, HB⟩
 ·obtain ⟨o9, c9, rfl⟩ := Ol.form hg9
  refine sx_ret1 (.slice o9 T.length c9) rfl rfl (by kernel_rfl) ⟨_, _, 0, [], rfl, fun h => absurd h hT0, HB⟩
theorem safter_c (c : CrT) (hc : c.Ok) (R : List Bool) (hrun : c.run R c.n = 0) (K : SV) (q : Nat) (w : World) (hK : Scr w c R K q) (k : Nat) (hk : k < c.n) (t p9 u9 : Int) (ht : 0 ≤ t ∧ t ≤ 100000) (hp : p9 = ((c.lg R k).arr + t)) (hu : u9 = ((c.lg R k).sin + t)) : Calls Tryz.prog 23 #[.pointer (some ⟨q, 0, none⟩), .int .i64 ((k : Nat) : Int), .int .i64 t] w (ShP (if c.ra R k p9 u9 (c.n - k) = 0 then c.afS R k p9 u9 else sh0) (c.ra R k p9 u9 (c.n - k)) w) := by
 have HB : Below w.heap.size w w := Below.refl _ _
 have hla := CrT.lg_arr hc hrun hk
 have hsg := CrT.stA_ge hc (R := R) (k := k) (a := p9) (s := u9) (by omega)
 have hB := hK.blk
 have yhB := hB.lt
 have hSt := hK.st
 have hTm := hK.tm
 have hSn := hK.sn
 have hln := hc.len
 have hrst := hc.rst
 have hdrv := hc.drv
 have hrd := hc.rd
 have hcn9 : c.n = c.S.length - 1 := rfl
 refine sx_enter Tryz.func23 rfl [(0, .pointer (some ⟨q, 0, none⟩)), (1, .int .i64 ((k : Nat) : Int)), (2, .int .i64 t)] (by kernel_rfl) ?_
 refine Yq ?_
 refine Za rfl nZS 37 (fun W1 hb M2 z1 yM2 => ?_)
 replace HB := over HB hb
 replace hB := hB.below hb
 clear hb
 refine Zv rfl (.int .i64 0) (Yn (Yo (Yq (Zv rfl (pt q 0) (Zv rfl (pt q 0) (Zv rfl (pt q 16) (Zw rfl (.agg #[.bool (R.getD 0 false), .int .i64 ((c.lg R 0).dep), .slice K.o3 (c.n - 1) K.c3, .int .i64 ((c.lg R (c.n - 1)).arr), .int .i64 (c.mil R c.n)]) (ex_mid (q := 16) rfl hB [.bool (R.getD 0 false), .int .i64 ((c.lg R 0).dep), .slice K.o3 (c.n - 1) K.c3, .int .i64 ((c.lg R (c.n - 1)).arr), .int .i64 (c.mil R c.n)] (by kernel_rfl) Tryz.underlying37 rfl (by kernel_rfl) rfl) ?_)))))))
 obtain ⟨W4, hW⟩ : ∃ W, (W1.alloc (.cells nZS 37)).setRow W1.heap.size #[.bool (R.getD 0 false), .int .i64 ((c.lg R 0).dep), .slice K.o3 (c.n - 1) K.c3, .int .i64 ((c.lg R (c.n - 1)).arr), .int .i64 (c.mil R c.n)] = W := ⟨_, rfl⟩
 have hb := hW ▸ below_var W1 (.cells nZS 37) #[.bool (R.getD 0 false), .int .i64 ((c.lg R 0).dep), .slice K.o3 (c.n - 1) K.c3, .int .i64 ((c.lg R (c.n - 1)).arr), .int .i64 (c.mil R c.n)]
 have hq : Cb W4 W1.heap.size #[.bool (R.getD 0 false), .int .i64 ((c.lg R 0).dep), .slice K.o3 (c.n - 1) K.c3, .int .i64 ((c.lg R (c.n - 1)).arr), .int .i64 (c.mil R c.n)] 37 := hW ▸ Cb.row (Cb.made W1 nZS 37) _
 refine sx_mem (by kernel_rfl) rfl rfl (pt W1.heap.size 0) (W1.alloc (.cells nZS 37)) (by kernel_rfl) ?_
 refine Zs (cells := #[.bool (R.getD 0 false), .int .i64 ((c.lg R 0).dep), .slice K.o3 (c.n - 1) K.c3, .int .i64 ((c.lg R (c.n - 1)).arr), .int .i64 (c.mil R c.n)]) rfl rfl (Cb.made W1 nZS 37) ?_
 rw [hW]
 replace HB := over HB hb
 replace hB := hB.below hb
 replace M2 := M2.below hb
 have z2 := hb.size
 have M3 := hq
 have yM3 := hq.lt
 clear hq hb hW
 refine Yn (Yo (Yq (Zv rfl (pt W1.heap.size 2) (Zw rfl (.slice K.o3 (c.n - 1) K.c3) (el (M3.cell 2 rfl) Tryz.underlying35) ?_))))
 have htl : ((List.range (c.n - 1)).map (c.tm R)).length = c.n - 1 := by simp
 have hTr : Rw W4 K.bt K.ot 4 (fun j => tmE (((List.range (c.n - 1)).map (c.tm R)).getD j tm0)) ((List.range (c.n - 1)).map (c.tm R)).length K.o3 := by
  rw [htl]
  exact Rw.ext (hTm.below HB) (fun j hj => by rw [List.getD_eq_getElem?_getD, List.getElem?_map, List.getElem?_range hj]; rfl)
 refine Zc rfl ((by have h8 := clone_n ((List.range (c.n - 1)).map (c.tm R)) (by omega) K.o3 K.c3 K.bt K.ot W4 hTr; rw [htl] at h8; exact h8)) ?_
 rintro e W5 ⟨o9, c9, bC, Z, rfl, hC, hb⟩
 replace HB := over HB hb
 replace hB := hB.below hb
 replace M2 := M2.below hb
 replace M3 := M3.below hb
 have z3 := hb.size
 clear hb
 refine ⟨_, rfl, ?_⟩
 rw [← CrT.tmB_zero c R k p9 u9] at hC
 clear hTr
 refine Zv rfl (pt W1.heap.size 2) ?_
 refine sx_do (by kernel_rfl) rfl _ (ex_storeC (k := 2) (old := .slice K.o3 (c.n - 1) K.c3) (v := .slice o9 (c.n - 1) c9) rfl M3 (by kernel_rfl) (by kernel_rfl) (by kernel_rfl) (by kernel_rfl) (by kernel_rfl)) ?_
 obtain ⟨W6, hW⟩ : ∃ W, W5.setCell ⟨W1.heap.size, 2, none⟩ (.slice o9 (c.n - 1) c9) = W := ⟨_, rfl⟩
 have hg : W5.grownBy W6 (some (W1.heap.size)) := hW ▸ grown_set _ _ _ _
 have hq : Cb W6 (W1.heap.size) #[.bool (R.getD 0 false), .int .i64 ((c.lg R 0).dep), .slice o9 (c.n - 1) c9, .int .i64 ((c.lg R (c.n - 1)).arr), .int .i64 (c.mil R c.n)] 37 := hW ▸ M3.set 2 (.slice o9 (c.n - 1) c9)
 rw [hW]
 replace HB := HB.grown hg (by omega) (oG (by omega))
 replace hB := hB.kept hg (by omega)
 replace M2 := M2.kept hg (by omega)
 replace hC := hC.kept hg (by omega)
 have z4 := hg.size
 replace M3 := hq
 clear hq hg hW
 refine Yn (Yo (Ys ?_))
 obtain ⟨Y7, hW⟩ : ∃ W, W6.drew = W := ⟨_, rfl⟩
 have hb : Below W6.heap.size W6 Y7 := hW ▸ below_drew (Below.refl _ _)
 replace HB := over HB hb
 replace hB := hB.below hb
 replace M2 := M2.below hb
 replace M3 := M3.below hb
 replace hC := hC.below hb
 have z5 := hb.size
 clear hb
 refine sd_begin (fun W => Cb W (q) #[.slice K.o0 c.pl.length K.c0, .slice K.o1 c.al.length K.c1, .string c.ty.name, .int .i64 c.ty.count, .int .i64 c.ty.fr, .int .i64 c.ty.to, .slice K.va c.ty.cap.length K.vb, .int .i64 c.ty.skills, .int .i64 c.ty.prof, .int .i64 c.ty.opn, .int .i64 c.ty.cls, .int .i64 c.ty.drv, .int .i64 c.ty.rst, .int .i64 c.ty.fix, .int .i64 c.ty.pm, .int .i64 c.ty.pt, .bool (R.getD 0 false), .int .i64 ((c.lg R 0).dep), .slice K.o3 (c.n - 1) K.c3, .int .i64 ((c.lg R (c.n - 1)).arr), .int .i64 (c.mil R c.n), .slice K.o2 c.n K.c2, .slice K.o4 c.n K.c4] 86 ∧ Cb W (w.heap.size) nZS 37 ∧ Cb W (W1.heap.size) #[.bool (R.getD 0 false), .int .i64 ((c.lg R 0).dep), .slice o9 (c.n - 1) c9, .int .i64 ((c.lg R (c.n - 1)).arr), .int .i64 (c.mil R c.n)] 37 ∧ Rw W K.bs K.os 4 (fun k => sF c.S (k + 1)) c.n K.o2 ∧ Rw W K.bt K.ot 4 (fun k => tmE (c.tm R k)) (c.n - 1) K.o3 ∧ Rw W K.bn K.on 1 (fun k => inE (c.lg R k).sin) c.n K.o4 ∧ True) (by kernel_rfl) (by rw [hW]; exact ⟨hB, M2, M3, (hSt.below HB), (hTm.below HB), (hSn.below HB), trivial⟩) ?_
 rw [hW]
 clear hW
 refine Zu 0 rfl rfl (pt q 0) ⟨hB, M2, M3, (hSt.below HB), (hTm.below HB), (hSn.below HB), trivial⟩ ?_
 refine Zu 1 rfl rfl (.int .i64 ((k : Nat) : Int)) ⟨hB, M2, M3, (hSt.below HB), (hTm.below HB), (hSn.below HB), trivial⟩ ?_
 refine Zu 3 rfl rfl (.int .i64 t) ⟨hB, M2, M3, (hSt.below HB), (hTm.below HB), (hSn.below HB), trivial⟩ ?_
 refine Zu 5 rfl rfl (pt q 0) ⟨hB, M2, M3, (hSt.below HB), (hTm.below HB), (hSn.below HB), trivial⟩ ?_
 refine Zu 6 rfl rfl (pt q 0) ⟨hB, M2, M3, (hSt.below HB), (hTm.below HB), (hSn.below HB), trivial⟩ ?_
 refine Zu 7 rfl rfl (pt q 22) ⟨hB, M2, M3, (hSt.below HB), (hTm.below HB), (hSn.below HB), trivial⟩ ?_
 refine Zt 8 rfl rfl (.slice K.o4 c.n K.c4) (fun w9 h9 => el (h9.1.cell 22 rfl) Tryz.underlying42) ⟨hB, M2, M3, (hSt.below HB), (hTm.below HB), (hSn.below HB), trivial⟩ ?_
 refine Zu 9 rfl rfl (.int .i64 ((k : Nat) : Int)) ⟨hB, M2, M3, (hSt.below HB), (hTm.below HB), (hSn.below HB), trivial⟩ ?_
 refine Zt 10 rfl rfl (pt K.bn (K.on + k * 1)) (fun w9 h9 => ex_indexO (q := K.on) (m := c.n) (c := K.c4) (k := k) (s := 1) rfl (by kernel_rfl) (h9.2.2.2.2.2.1.oa (k := k) (by omega)) (by kernel_rfl) Tryz.underlying42 (by kernel_rfl) (by omega) (by omega)) ⟨hB, M2, M3, (hSt.below HB), (hTm.below HB), (hSn.below HB), trivial⟩ ?_
 refine Zt 11 rfl rfl (.int .i64 ((c.lg R k).sin)) (fun w9 h9 => el (h9.2.2.2.2.2.1.cell (k := k) (by omega) 0 rfl) Tryz.underlying3) ⟨hB, M2, M3, (hSt.below HB), (hTm.below HB), (hSn.below HB), trivial⟩ ?_
 refine Zu 12 rfl rfl (.int .i64 t) ⟨hB, M2, M3, (hSt.below HB), (hTm.below HB), (hSn.below HB), trivial⟩ ?_
 refine Zt 13 rfl rfl (.int .i64 u9) (fun w9 _ => ex_int .i64 (IntKind.i64.wrap ((c.lg R k).sin + t)) (u9) (by kernel_rfl) (by rw [IntKind.wrap_i64]; omega)) ⟨hB, M2, M3, (hSt.below HB), (hTm.below HB), (hSn.below HB), trivial⟩ ?_
 refine sd_all [2] (by kernel_rfl) (by decide) ?_
 refine sd_call (i := 2) rfl (by kernel_rfl) rfl rfl (sarr_n c hc R hrun K q Y7 (hK.below HB) k (by omega)) (by kernel_rfl) ?_ AllReadyH.nil
 rintro e w9 ⟨rfl, rfl⟩
 refine ⟨_, rfl, ⟨hB, M2, M3, (hSt.below HB), (hTm.below HB), (hSn.below HB), trivial⟩, ?_⟩
 refine Zt 4 rfl rfl (.int .i64 p9) (fun w9 _ => ex_int .i64 (IntKind.i64.wrap ((c.lg R k).arr + t)) (p9) (by kernel_rfl) (by rw [IntKind.wrap_i64]; omega)) ⟨hB, M2, M3, (hSt.below HB), (hTm.below HB), (hSn.below HB), trivial⟩ ?_
 refine Zu 14 rfl rfl (.int .i64 p9) ⟨hB, M2, M3, (hSt.below HB), (hTm.below HB), (hSn.below HB), trivial⟩ ?_
 refine Zu 15 rfl rfl (.int .i64 u9) ⟨hB, M2, M3, (hSt.below HB), (hTm.below HB), (hSn.below HB), trivial⟩ ?_
 refine sd_done (by kernel_rfl) ?_
 refine Yo (Ys (wp_block ?_))
 have hbC : 0 < c.n - 1 → w.heap.size < bC ∧ W1.heap.size < bC := fun h => by have h8 := (hC h).2.1; omega
 refine sx_loop (fun i : Nat => [(0, .pointer (some ⟨q, 0, none⟩)), (1, .int .i64 ((k + i : Nat) : Int)), (2, .int .i64 t), (6, .pointer (some ⟨w.heap.size, 0, none⟩)), (8, .pointer (some ⟨W1.heap.size, 0, none⟩)), (9, .int .i64 ((c.stA R k p9 u9 i).1)), (10, .int .i64 ((c.stA R k p9 u9 i).2)), (16, .pointer (some ⟨q, 0, none⟩)), (17, .pointer (some ⟨q, 0, none⟩)), (18, .pointer (some ⟨q, 16, none⟩)), (19, .agg #[.bool (R.getD 0 false), .int .i64 ((c.lg R 0).dep), .slice K.o3 (c.n - 1) K.c3, .int .i64 ((c.lg R (c.n - 1)).arr), .int .i64 (c.mil R c.n)]), (20, .pointer (some ⟨W1.heap.size, 2, none⟩)), (21, .slice K.o3 (c.n - 1) K.c3), (22, .slice o9 (c.n - 1) c9), (23, .pointer (some ⟨W1.heap.size, 2, none⟩)), (24, .pointer (some ⟨q, 0, none⟩)), (25, .int .i64 ((k : Nat) : Int)), (26, .int .i64 ((c.lg R k).arr)), (27, .int .i64 t), (28, .int .i64 p9), (29, .pointer (some ⟨q, 0, none⟩)), (30, .pointer (some ⟨q, 0, none⟩)), (31, .pointer (some ⟨q, 22, none⟩)), (32, .slice K.o4 c.n K.c4), (33, .int .i64 ((k : Nat) : Int)), (34, .pointer (some ⟨K.bn, K.on + k * 1, none⟩)), (35, .int .i64 ((c.lg R k).sin)), (36, .int .i64 t), (37, .int .i64 u9)]) (fun gg i wr => k + i ≤ c.n - 1 ∧ c.n - i ≤ gg ∧ c.ra R k p9 u9 i = 0 ∧ 0 ≤ (c.stA R k p9 u9 i).2 ∧ Cl wr W4.heap.size (c.n - 1) bC o9 (c.tmB R k p9 u9 i) Z ∧ Cb wr (w.heap.size) nZS 37 ∧ Cb wr (W1.heap.size) #[.bool (R.getD 0 false), .int .i64 ((c.lg R 0).dep), .slice o9 (c.n - 1) c9, .int .i64 ((c.lg R (c.n - 1)).arr), .int .i64 (c.mil R c.n)] 37 ∧ Below w.heap.size w wr ∧ Y7.heap.size ≤ wr.heap.size) (c.n) (0) (by kernel_rfl) ⟨by omega, Nat.sub_le _ _, rfl, by show 0 ≤ u9; omega, hC, M2, M3, HB, Nat.le_refl _⟩ ?_
 rintro gg i g' wr8 ⟨hi, hg, hra, hs0, hC, Q6, Q8, HB, hzz⟩
 refine Ys (Ys ?_)
 have hB := hK.blk.below HB
 have yQ6 := Q6.lt
 have yQ8 := Q8.lt
 have hsi := hsg i
 have hzw := HB.size
 have hq9 : c.ra R k p9 u9 i = 0 := hra
 refine Yr (Zv rfl (.int .i64 ((k + i : Nat) : Int)) (Zv rfl (pt q 0) ?_))
 refine Zc rfl (send_n c hc R hrun K q wr8 (hK.below HB)) ?_
 rintro e w9 ⟨rfl, rfl⟩
 refine ⟨_, rfl, ?_⟩
 by_cases C1 : k + i < (c.n - 1)
 ·refine Zb rfl (decide (((k + i : Nat) : Int) < (((c.n - 1) : Nat) : Int))) true (decide_eq_true (by omega)) (Yn (Yo (sx_true (by kernel_rfl) (wp_skip (Yo (Ys (wp_block (Yq (Zv rfl (pt q 0) (Zv rfl (.int .i64 ((k + i : Nat) : Int)) (Zv rfl (.int .i64 ((c.stA R k p9 u9 i).1)) (Zv rfl (.int .i64 ((c.stA R k p9 u9 i).2)) ?_))))))))))))
  by_cases C2 : (c.arE (k + i) (c.stA R k p9 u9 i).1 (c.stA R k p9 u9 i).2) = 0
  ·refine Zd rfl ((by have h8 := sbeg_n c hc R hrun K q wr8 (hK.below HB) (k + i) (by omega) (c.stA R k p9 u9 i).1 (c.stA R k p9 u9 i).2; rw [if_pos C2, C2] at h8; exact h8)) (fun W9 hb z6 => ?_)
   replace HB := over HB hb
   replace Q6 := Q6.below hb
   replace Q8 := Q8.below hb
   replace hC := hC.below hb
   clear hb
   have hra1 : c.ra R k p9 u9 (i + 1) = 0 := by rw [CrT.ra_succ, hra, if_neg (fun h => h rfl)]; exact C2
   have hao := CrT.arE_ok C2
   refine Zv rfl (.tuple #[.int .i64 (c.bgA (k + i) (c.stA R k p9 u9 i).1), .int .i64 0]) (Zv rfl (.int .i64 (c.bgA (k + i) (c.stA R k p9 u9 i).1)) (Zv rfl (.int .i64 0) (Zv rfl (.int .i64 (c.bgA (k + i) (c.stA R k p9 u9 i).1)) (Zv rfl (.int .i64 0) (Yn (Yo (Ys (Yq (Zv rfl (.int .i64 0) (Zv rfl (.bool false) (Yn (Yo (sx_false (by kernel_rfl) (wp_skip (Yo (Ys ?_))))))))))))))))
   obtain ⟨ho9, hgC, NT⟩ := hC (by omega)
   have hbC9 := hbC (by omega)
   have yNT := NT.lt
   clear hC
   have hXl := c.tmB_len R k p9 u9 i
   have hXa : (c.tmB R k p9 u9 i).getD (k + i) tm0 = c.tm R (k + i) := by rw [CrT.tmB_at (by omega), if_neg (by omega)]
   have hla2 := CrT.lg_arr hc hrun (k := k + i) (by omega)
   refine Yr (Zv rfl (pt W1.heap.size 2) (Zw rfl (.slice o9 (c.n - 1) c9) (el (Q8.cell 2 rfl) Tryz.underlying35) (Zv rfl (.int .i64 ((k + i : Nat) : Int)) (Zw rfl (pt bC (((k + i) * 4))) (ex_indexO (q := 0) (m := (c.n - 1)) (c := c9) (k := k + i) (s := 4) rfl (by kernel_rfl) ho9 (by kernel_rfl) Tryz.underlying35 (by kernel_rfl) (by omega) (by omega)) (Zv rfl (pt bC (((k + i) * 4))) (Yn (Yo (Yq (Zv rfl (pt bC (((k + i) * 4))) (Zv rfl (pt bC (((k + i) * 4))) (Zv rfl (.int .i64 ((c.stA R k p9 u9 i).1)) (Zv rfl (.int .i64 (c.bgA (k + i) (c.stA R k p9 u9 i).1)) (Zv rfl (pt bC (((k + i) * 4))) ?_)))))))))))))
   refine Zv rfl (pt bC (((k + i) * 4))) ?_
   have hcl : (((c.tmB R k p9 u9 i)).flatMap tmE ++ Z).toArray[(k + i) * 4 + 0]? = some (.int .i64 (c.tm R (k + i)).a) := by rw [oz_at tmRow tm0 (by omega) (by decide), hXa]; rfl
   refine sx_do (by kernel_rfl) rfl (W9.setCell ⟨bC, (k + i) * 4 + 0, none⟩ (.int .i64 (c.stA R k p9 u9 i).1)) (ex_storeC (k := (k + i) * 4 + 0) (old := .int .i64 (c.tm R (k + i)).a) (v := .int .i64 (c.stA R k p9 u9 i).1) rfl NT hcl (by kernel_rfl) (by kernel_rfl) (by kernel_rfl) (by kernel_rfl)) ?_
   obtain ⟨W10, hW⟩ : ∃ W, W9.setCell ⟨bC, (k + i) * 4 + 0, none⟩ (.int .i64 (c.stA R k p9 u9 i).1) = W := ⟨_, rfl⟩
   have hg9 : W9.grownBy W10 (some bC) := hW ▸ grown_set _ _ _ _
   have hq : Cb W10 bC (((c.tmB R k p9 u9 i).set (k + i) ⟨(c.stA R k p9 u9 i).1, (c.tm R (k + i)).b, (c.tm R (k + i)).d, (c.tm R (k + i)).r⟩).flatMap tmE ++ Z).toArray 61 := by
    rw [← hW]
    exact oz_set tmRow tm0 (x := ⟨(c.stA R k p9 u9 i).1, (c.tm R (k + i)).b, (c.tm R (k + i)).d, (c.tm R (k + i)).r⟩) NT (by omega) (by decide) (by rw [hXa]; rfl)
   rw [hW]
   replace HB := HB.grown hg9 (by omega) (oG (by omega))
   replace Q6 := Q6.kept hg9 (by omega)
   replace Q8 := Q8.kept hg9 (by omega)
   have z7 := hg9.size
   replace NT := hq
   have yNT := NT.lt
   clear hq hg9 hW hcl
   refine Zv rfl (pt bC (((k + i) * 4))) (Zv rfl (pt bC (((k + i) * 4) + 1)) ?_)
   have hcl : ((((c.tmB R k p9 u9 i).set (k + i) ⟨(c.stA R k p9 u9 i).1, (c.tm R (k + i)).b, (c.tm R (k + i)).d, (c.tm R (k + i)).r⟩)).flatMap tmE ++ Z).toArray[(k + i) * 4 + 1]? = some (.int .i64 (c.tm R (k + i)).b) := by rw [oz_at tmRow tm0 (by rw [List.length_set]; omega) (by decide), (getD_set_self (d := tm0) (x := ⟨(c.stA R k p9 u9 i).1, (c.tm R (k + i)).b, (c.tm R (k + i)).d, (c.tm R (k + i)).r⟩) (show k + i < (c.tmB R k p9 u9 i).length by omega))]; rfl
   refine sx_do (by kernel_rfl) rfl (W10.setCell ⟨bC, (k + i) * 4 + 1, none⟩ (.int .i64 (c.bgA (k + i) (c.stA R k p9 u9 i).1))) (ex_storeC (k := (k + i) * 4 + 1) (old := .int .i64 (c.tm R (k + i)).b) (v := .int .i64 (c.bgA (k + i) (c.stA R k p9 u9 i).1)) rfl NT hcl (by kernel_rfl) (by kernel_rfl) (by kernel_rfl) (by kernel_rfl)) ?_
   obtain ⟨W11, hW⟩ : ∃ W, W10.setCell ⟨bC, (k + i) * 4 + 1, none⟩ (.int .i64 (c.bgA (k + i) (c.stA R k p9 u9 i).1)) = W := ⟨_, rfl⟩
   have hg9 : W10.grownBy W11 (some bC) := hW ▸ grown_set _ _ _ _
   have hq : Cb W11 bC (((c.tmB R k p9 u9 i).set (k + i) ⟨(c.stA R k p9 u9 i).1, c.bgA (k + i) (c.stA R k p9 u9 i).1, (c.tm R (k + i)).d, (c.tm R (k + i)).r⟩).flatMap tmE ++ Z).toArray 61 := by
    rw [← hW]
    have h7 := oz_set tmRow tm0 (w := W10) (u := .int .i64 (c.bgA (k + i) (c.stA R k p9 u9 i).1)) (k := k + i) (j := 1) (x := ⟨(c.stA R k p9 u9 i).1, c.bgA (k + i) (c.stA R k p9 u9 i).1, (c.tm R (k + i)).d, (c.tm R (k + i)).r⟩) NT (by rw [List.length_set]; omega) (by decide) (by rw [(getD_set_self (d := tm0) (x := ⟨(c.stA R k p9 u9 i).1, (c.tm R (k + i)).b, (c.tm R (k + i)).d, (c.tm R (k + i)).r⟩) (show k + i < (c.tmB R k p9 u9 i).length by omega))]; rfl)
    rw [List.set_set] at h7
    exact h7
   rw [hW]
   replace HB := HB.grown hg9 (by omega) (oG (by omega))
   replace Q6 := Q6.kept hg9 (by omega)
   replace Q8 := Q8.kept hg9 (by omega)
   have z8 := hg9.size
   replace NT := hq
   have yNT := NT.lt
   clear hq hg9 hW hcl
   refine Yn (Yo (Yq (Zv rfl (pt bC (((k + i) * 4))) (Zv rfl (pt q 0) (Zv rfl (.int .i64 ((k + i : Nat) : Int)) (Zv rfl (.int .i64 (c.bgA (k + i) (c.stA R k p9 u9 i).1)) ?_))))))
   refine Zd rfl ((show Calls Tryz.prog 39 #[.pointer (some ⟨q, 0, none⟩), .int .i64 ((k + i : Nat) : Int), .int .i64 (c.bgA (k + i) (c.stA R k p9 u9 i).1)] W11 (fun e w' => e = .returned (.tuple #[.int .i64 (c.onA R (k + i) (c.stA R k p9 u9 i).1 (c.stA R k p9 u9 i).2).dep, .int .i64 (c.onA R (k + i) (c.stA R k p9 u9 i).1 (c.stA R k p9 u9 i).2).arr]) ∧ Below W11.heap.size W11 w') from snext_n c hc R hrun K q W11 (hK.below HB) (k + i) (by omega) (c.stA R k p9 u9 i).1 ⟨by omega, by omega⟩)) (fun W12 hb z9 => ?_)
   replace HB := over HB hb
   replace Q6 := Q6.below hb
   replace Q8 := Q8.below hb
   replace NT := NT.below hb
   clear hb
   refine Zv rfl (.tuple #[.int .i64 ((c.onA R (k + i) (c.stA R k p9 u9 i).1 (c.stA R k p9 u9 i).2).dep), .int .i64 ((c.onA R (k + i) (c.stA R k p9 u9 i).1 (c.stA R k p9 u9 i).2).arr)]) (Zv rfl (.int .i64 ((c.onA R (k + i) (c.stA R k p9 u9 i).1 (c.stA R k p9 u9 i).2).dep)) (Zv rfl (.int .i64 ((c.onA R (k + i) (c.stA R k p9 u9 i).1 (c.stA R k p9 u9 i).2).arr)) (Zv rfl (pt bC (((k + i) * 4))) (Zv rfl (pt bC (((k + i) * 4) + 2)) ?_))))
   have hcl : ((((c.tmB R k p9 u9 i).set (k + i) ⟨(c.stA R k p9 u9 i).1, c.bgA (k + i) (c.stA R k p9 u9 i).1, (c.tm R (k + i)).d, (c.tm R (k + i)).r⟩)).flatMap tmE ++ Z).toArray[(k + i) * 4 + 2]? = some (.int .i64 (c.tm R (k + i)).d) := by rw [oz_at tmRow tm0 (by rw [List.length_set]; omega) (by decide), (getD_set_self (d := tm0) (x := ⟨(c.stA R k p9 u9 i).1, c.bgA (k + i) (c.stA R k p9 u9 i).1, (c.tm R (k + i)).d, (c.tm R (k + i)).r⟩) (show k + i < (c.tmB R k p9 u9 i).length by omega))]; rfl
   refine sx_do (by kernel_rfl) rfl (W12.setCell ⟨bC, (k + i) * 4 + 2, none⟩ (.int .i64 (c.onA R (k + i) (c.stA R k p9 u9 i).1 (c.stA R k p9 u9 i).2).dep)) (ex_storeC (k := (k + i) * 4 + 2) (old := .int .i64 (c.tm R (k + i)).d) (v := .int .i64 (c.onA R (k + i) (c.stA R k p9 u9 i).1 (c.stA R k p9 u9 i).2).dep) rfl NT hcl (by kernel_rfl) (by kernel_rfl) (by kernel_rfl) (by kernel_rfl)) ?_
   obtain ⟨W13, hW⟩ : ∃ W, W12.setCell ⟨bC, (k + i) * 4 + 2, none⟩ (.int .i64 (c.onA R (k + i) (c.stA R k p9 u9 i).1 (c.stA R k p9 u9 i).2).dep) = W := ⟨_, rfl⟩
   have hg9 : W12.grownBy W13 (some bC) := hW ▸ grown_set _ _ _ _
   have hq : Cb W13 bC (((c.tmB R k p9 u9 i).set (k + i) ⟨(c.stA R k p9 u9 i).1, c.bgA (k + i) (c.stA R k p9 u9 i).1, (c.onA R (k + i) (c.stA R k p9 u9 i).1 (c.stA R k p9 u9 i).2).dep, (c.tm R (k + i)).r⟩).flatMap tmE ++ Z).toArray 61 := by
    rw [← hW]
    have h7 := oz_set tmRow tm0 (w := W12) (u := .int .i64 (c.onA R (k + i) (c.stA R k p9 u9 i).1 (c.stA R k p9 u9 i).2).dep) (k := k + i) (j := 2) (x := ⟨(c.stA R k p9 u9 i).1, c.bgA (k + i) (c.stA R k p9 u9 i).1, (c.onA R (k + i) (c.stA R k p9 u9 i).1 (c.stA R k p9 u9 i).2).dep, (c.tm R (k + i)).r⟩) NT (by rw [List.length_set]; omega) (by decide) (by rw [(getD_set_self (d := tm0) (x := ⟨(c.stA R k p9 u9 i).1, c.bgA (k + i) (c.stA R k p9 u9 i).1, (c.tm R (k + i)).d, (c.tm R (k + i)).r⟩) (show k + i < (c.tmB R k p9 u9 i).length by omega))]; rfl)
    rw [List.set_set] at h7
    exact h7
   rw [hW]
   replace HB := HB.grown hg9 (by omega) (oG (by omega))
   replace Q6 := Q6.kept hg9 (by omega)
   replace Q8 := Q8.kept hg9 (by omega)
   have z10 := hg9.size
   replace NT := hq
   have yNT := NT.lt
   clear hq hg9 hW hcl
   refine Zv rfl (.int .i64 ((c.onA R (k + i) (c.stA R k p9 u9 i).1 (c.stA R k p9 u9 i).2).arr)) (Yn (Yo (Ys (Yq (Zv rfl (pt bC (((k + i) * 4))) (Zv rfl (pt bC (((k + i) * 4))) (Zv rfl (pt bC (((k + i) * 4) + 3)) ?_)))))))
   have hcr : ((((c.tmB R k p9 u9 i).set (k + i) ⟨(c.stA R k p9 u9 i).1, c.bgA (k + i) (c.stA R k p9 u9 i).1, (c.onA R (k + i) (c.stA R k p9 u9 i).1 (c.stA R k p9 u9 i).2).dep, (c.tm R (k + i)).r⟩)).flatMap tmE ++ Z).toArray[(k + i) * 4 + 3]? = some (.bool (R.getD (k + i + 1) false)) := by rw [oz_at tmRow tm0 (by rw [List.length_set]; omega) (by decide), getD_set_self (d := tm0) (x := ⟨(c.stA R k p9 u9 i).1, c.bgA (k + i) (c.stA R k p9 u9 i).1, (c.onA R (k + i) (c.stA R k p9 u9 i).1 (c.stA R k p9 u9 i).2).dep, (c.tm R (k + i)).r⟩) (show k + i < (c.tmB R k p9 u9 i).length by omega)]; rfl
   by_cases C3 : (R.getD (k + i + 1) false) = true
   ·refine Zw rfl (.bool true) (ex_load1 (v := .bool true) rfl (by have h8 := NT.cell _ hcr; rw [show (R.getD (k + i + 1) false) = true by simpa using C3] at h8; exact h8) (by kernel_rfl) Tryz.underlying4 rfl) (Yn (Yo (sx_true (by kernel_rfl) (Yr (Zv rfl (.int .i64 0) (Yn (Yo (Yr (Zv rfl (.int .i64 0) (Zv rfl (.int .i64 ((c.onA R (k + i) (c.stA R k p9 u9 i).1 (c.stA R k p9 u9 i).2).arr)) (Zv rfl (pt bC (((k + i) * 4))) (Zv rfl (pt bC (((k + i) * 4))) (Zv rfl (pt bC (((k + i) * 4) + 2)) ?_)))))))))))))
    have hcd : ((((c.tmB R k p9 u9 i).set (k + i) ⟨(c.stA R k p9 u9 i).1, c.bgA (k + i) (c.stA R k p9 u9 i).1, (c.onA R (k + i) (c.stA R k p9 u9 i).1 (c.stA R k p9 u9 i).2).dep, (c.tm R (k + i)).r⟩)).flatMap tmE ++ Z).toArray[(k + i) * 4 + 2]? = some (.int .i64 (c.onA R (k + i) (c.stA R k p9 u9 i).1 (c.stA R k p9 u9 i).2).dep) := by rw [oz_at tmRow tm0 (by rw [List.length_set]; omega) (by decide), getD_set_self (d := tm0) (x := ⟨(c.stA R k p9 u9 i).1, c.bgA (k + i) (c.stA R k p9 u9 i).1, (c.onA R (k + i) (c.stA R k p9 u9 i).1 (c.stA R k p9 u9 i).2).dep, (c.tm R (k + i)).r⟩) (show k + i < (c.tmB R k p9 u9 i).length by omega)]; rfl
    have hon := CrT.onA_bd hc (R := R) (k := k + i) (a := (c.stA R k p9 u9 i).1) (s := (c.stA R k p9 u9 i).2) hrun (by omega) (by omega) (by omega)
    refine Zw rfl (.int .i64 ((c.onA R (k + i) (c.stA R k p9 u9 i).1 (c.stA R k p9 u9 i).2).dep)) (el (NT.cell _ hcd) Tryz.underlying3) (Zi rfl (IntKind.i64.wrap ((c.onA R (k + i) (c.stA R k p9 u9 i).1 (c.stA R k p9 u9 i).2).arr - (c.onA R (k + i) (c.stA R k p9 u9 i).1 (c.stA R k p9 u9 i).2).dep)) (((c.onA R (k + i) (c.stA R k p9 u9 i).1 (c.stA R k p9 u9 i).2).arr - (c.onA R (k + i) (c.stA R k p9 u9 i).1 (c.stA R k p9 u9 i).2).dep)) (by rw [IntKind.wrap_i64]; omega) ?_)
    have hsn : (c.onA R (k + i) (c.stA R k p9 u9 i).1 (c.stA R k p9 u9 i).2).sin = 0 + ((c.onA R (k + i) (c.stA R k p9 u9 i).1 (c.stA R k p9 u9 i).2).arr - (c.onA R (k + i) (c.stA R k p9 u9 i).1 (c.stA R k p9 u9 i).2).dep) := by
     show CrT.gS (c.stA R k p9 u9 i).2 (R.getD (k + i + 1) false) + _ = _
     unfold CrT.gS
     rw [if_pos C3]
     rfl
    refine Zi rfl (IntKind.i64.wrap (0 + ((c.onA R (k + i) (c.stA R k p9 u9 i).1 (c.stA R k p9 u9 i).2).arr - (c.onA R (k + i) (c.stA R k p9 u9 i).1 (c.stA R k p9 u9 i).2).dep))) ((c.onA R (k + i) (c.stA R k p9 u9 i).1 (c.stA R k p9 u9 i).2).sin) (by rw [IntKind.wrap_i64, ← hsn]; omega) (Zv rfl (.int .i64 ((c.onA R (k + i) (c.stA R k p9 u9 i).1 (c.stA R k p9 u9 i).2).sin)) (Yn ?_))
    refine sx_in ?_
    refine Yo (Yr (Zv rfl (.int .i64 ((k + i : Nat) : Int)) (Zi rfl (IntKind.i64.wrap (((k + i : Nat) : Int) + 1)) (((k + i + 1 : Nat) : Int)) (by rw [IntKind.wrap_i64]; omega) (Zv rfl (.int .i64 ((k + i + 1 : Nat) : Int)) (Yn (Yo ?_))))))
    have hts := CrT.tmB_set (c := c) (R := R) (k := k) (a := p9) (s := u9) (i := i) (by omega)
    rw [show (c.tmB R k p9 u9 i).set (k + i) ⟨(c.stA R k p9 u9 i).1, c.bgA (k + i) (c.stA R k p9 u9 i).1, (c.onA R (k + i) (c.stA R k p9 u9 i).1 (c.stA R k p9 u9 i).2).dep, (c.tm R (k + i)).r⟩ = (c.tmB R k p9 u9 (i + 1)) from hts] at NT
    exact sx_again (c.n - (i + 1)) (i + 1) (by omega) (by kernel_rfl) ⟨by omega, Nat.le_refl _, hra1, by show 0 ≤ (c.onA R (k + i) (c.stA R k p9 u9 i).1 (c.stA R k p9 u9 i).2).sin; omega, (fun _ => ⟨ho9, hgC, NT⟩), Q6, Q8, HB, by omega⟩
   refine Zw rfl (.bool false) (ex_load1 (v := .bool false) rfl (by have h8 := NT.cell _ hcr; rw [show (R.getD (k + i + 1) false) = false by simpa using C3] at h8; exact h8) (by kernel_rfl) Tryz.underlying4 rfl) (Yn (Yo (sx_false (by kernel_rfl) (wp_skip (Yo (Yr (Zv rfl (.int .i64 ((c.stA R k p9 u9 i).2)) (Zv rfl (.int .i64 ((c.onA R (k + i) (c.stA R k p9 u9 i).1 (c.stA R k p9 u9 i).2).arr)) (Zv rfl (pt bC (((k + i) * 4))) (Zv rfl (pt bC (((k + i) * 4))) (Zv rfl (pt bC (((k + i) * 4) + 2)) ?_)))))))))))
   have hcd : ((((c.tmB R k p9 u9 i).set (k + i) ⟨(c.stA R k p9 u9 i).1, c.bgA (k + i) (c.stA R k p9 u9 i).1, (c.onA R (k + i) (c.stA R k p9 u9 i).1 (c.stA R k p9 u9 i).2).dep, (c.tm R (k + i)).r⟩)).flatMap tmE ++ Z).toArray[(k + i) * 4 + 2]? = some (.int .i64 (c.onA R (k + i) (c.stA R k p9 u9 i).1 (c.stA R k p9 u9 i).2).dep) := by rw [oz_at tmRow tm0 (by rw [List.length_set]; omega) (by decide), getD_set_self (d := tm0) (x := ⟨(c.stA R k p9 u9 i).1, c.bgA (k + i) (c.stA R k p9 u9 i).1, (c.onA R (k + i) (c.stA R k p9 u9 i).1 (c.stA R k p9 u9 i).2).dep, (c.tm R (k + i)).r⟩) (show k + i < (c.tmB R k p9 u9 i).length by omega)]; rfl
   have hon := CrT.onA_bd hc (R := R) (k := k + i) (a := (c.stA R k p9 u9 i).1) (s := (c.stA R k p9 u9 i).2) hrun (by omega) (by omega) (by omega)
   refine Zw rfl (.int .i64 ((c.onA R (k + i) (c.stA R k p9 u9 i).1 (c.stA R k p9 u9 i).2).dep)) (el (NT.cell _ hcd) Tryz.underlying3) (Zi rfl (IntKind.i64.wrap ((c.onA R (k + i) (c.stA R k p9 u9 i).1 (c.stA R k p9 u9 i).2).arr - (c.onA R (k + i) (c.stA R k p9 u9 i).1 (c.stA R k p9 u9 i).2).dep)) (((c.onA R (k + i) (c.stA R k p9 u9 i).1 (c.stA R k p9 u9 i).2).arr - (c.onA R (k + i) (c.stA R k p9 u9 i).1 (c.stA R k p9 u9 i).2).dep)) (by rw [IntKind.wrap_i64]; omega) ?_)
   have hsn : (c.onA R (k + i) (c.stA R k p9 u9 i).1 (c.stA R k p9 u9 i).2).sin = (c.stA R k p9 u9 i).2 + ((c.onA R (k + i) (c.stA R k p9 u9 i).1 (c.stA R k p9 u9 i).2).arr - (c.onA R (k + i) (c.stA R k p9 u9 i).1 (c.stA R k p9 u9 i).2).dep) := by
    show CrT.gS (c.stA R k p9 u9 i).2 (R.getD (k + i + 1) false) + _ = _
    unfold CrT.gS
    rw [if_neg C3]
    rfl
   refine Zi rfl (IntKind.i64.wrap ((c.stA R k p9 u9 i).2 + ((c.onA R (k + i) (c.stA R k p9 u9 i).1 (c.stA R k p9 u9 i).2).arr - (c.onA R (k + i) (c.stA R k p9 u9 i).1 (c.stA R k p9 u9 i).2).dep))) ((c.onA R (k + i) (c.stA R k p9 u9 i).1 (c.stA R k p9 u9 i).2).sin) (by rw [IntKind.wrap_i64, ← hsn]; omega) (Zv rfl (.int .i64 ((c.onA R (k + i) (c.stA R k p9 u9 i).1 (c.stA R k p9 u9 i).2).sin)) (Yn ?_))
   refine sx_in ?_
   refine Yo (Yr (Zv rfl (.int .i64 ((k + i : Nat) : Int)) (Zi rfl (IntKind.i64.wrap (((k + i : Nat) : Int) + 1)) (((k + i + 1 : Nat) : Int)) (by rw [IntKind.wrap_i64]; omega) (Zv rfl (.int .i64 ((k + i + 1 : Nat) : Int)) (Yn (Yo ?_))))))
   have hts := CrT.tmB_set (c := c) (R := R) (k := k) (a := p9) (s := u9) (i := i) (by omega)
   rw [show (c.tmB R k p9 u9 i).set (k + i) ⟨(c.stA R k p9 u9 i).1, c.bgA (k + i) (c.stA R k p9 u9 i).1, (c.onA R (k + i) (c.stA R k p9 u9 i).1 (c.stA R k p9 u9 i).2).dep, (c.tm R (k + i)).r⟩ = (c.tmB R k p9 u9 (i + 1)) from hts] at NT
   exact sx_again (c.n - (i + 1)) (i + 1) (by omega) (by kernel_rfl) ⟨by omega, Nat.le_refl _, hra1, by show 0 ≤ (c.onA R (k + i) (c.stA R k p9 u9 i).1 (c.stA R k p9 u9 i).2).sin; omega, (fun _ => ⟨ho9, hgC, NT⟩), Q6, Q8, HB, by omega⟩
  refine Zd rfl ((by have h8 := sbeg_n c hc R hrun K q wr8 (hK.below HB) (k + i) (by omega) (c.stA R k p9 u9 i).1 (c.stA R k p9 u9 i).2; rw [if_neg C2] at h8; exact h8)) (fun W14 hb z6 => ?_)
  replace HB := over HB hb
  replace Q6 := Q6.below hb
  clear hb
  have hre := CrT.ra_stop hra C2 (c.n - k) (by omega)
  refine Zv rfl (.tuple #[.int .i64 0, .int .i64 (c.arE (k + i) (c.stA R k p9 u9 i).1 (c.stA R k p9 u9 i).2)]) (Zv rfl (.int .i64 0) (Zv rfl (.int .i64 (c.arE (k + i) (c.stA R k p9 u9 i).1 (c.stA R k p9 u9 i).2)) (Zv rfl (.int .i64 0) (Zv rfl (.int .i64 (c.arE (k + i) (c.stA R k p9 u9 i).1 (c.stA R k p9 u9 i).2)) (Yn (Yo (Ys (Yq (Zv rfl (.int .i64 (c.arE (k + i) (c.stA R k p9 u9 i).1 (c.stA R k p9 u9 i).2)) (Zb rfl (((c.arE (k + i) (c.stA R k p9 u9 i).1 (c.stA R k p9 u9 i).2) : Int) != (0 : Int)) true (bne_iff_ne.2 (by omega)) (Yn (Yo (sx_true (by kernel_rfl) (Yq (Zv rfl (.agg nZS) ?_)))))))))))))))
  refine Zv rfl (.int .i64 (c.arE (k + i) (c.stA R k p9 u9 i).1 (c.stA R k p9 u9 i).2)) ?_
  refine Zr (cells := nZS) rfl rfl Q6 (fun W15 hg hq => ?_)
  replace HB := HB.grown hg (by omega) (oG (by omega))
  have z7 := hg.size
  replace Q6 := hq
  clear hq hg
  refine Zv rfl (.int .i64 (c.arE (k + i) (c.stA R k p9 u9 i).1 (c.stA R k p9 u9 i).2)) (Yn (Yo (wp_ret (sx_rs ?_))))
  refine sx_rb ?_
  refine sx_rs (sx_rs ?_)
  refine sx_rb ?_
  refine sx_rs ?_
  have h9 : c.ra R k p9 u9 (c.n - k) = (c.arE (k + i) (c.stA R k p9 u9 i).1 (c.stA R k p9 u9 i).2) := hre
  have h8 : ¬ c.ra R k p9 u9 (c.n - k) = 0 := by rw [h9]; assumption
  exact sx_retct (v' := .int .i64 (c.arE (k + i) (c.stA R k p9 u9 i).1 (c.stA R k p9 u9 i).2)) Q6 rfl rfl rfl (by kernel_rfl) (by kernel_rfl) Tryz.underlying37 rfl (by kernel_rfl) ⟨none, 0, 0, 0, by rw [if_neg h8, h9]; rfl, by rw [if_neg h8]; exact rw_sh0 _, fun i hi => by rw [if_neg h8] at hi; exact absurd hi (Nat.not_lt_zero i), HB⟩
 refine Zb rfl (decide (((k + i : Nat) : Int) < (((c.n - 1) : Nat) : Int))) false (decide_eq_false (by omega)) (Yn (Yo (sx_false (by kernel_rfl) (wp_exit ?_))))
 refine sx_es ?_
 refine sx_es ?_
 refine sx_out ?_
 refine Yo (Yq (Zv rfl (.int .i64 ((c.stA R k p9 u9 i).1)) (Zv rfl (pt W1.heap.size 3) ?_)))
 refine sx_do (by kernel_rfl) rfl _ (ex_storeC (k := 3) (old := .int .i64 ((c.lg R (c.n - 1)).arr)) (v := .int .i64 ((c.stA R k p9 u9 i).1)) rfl Q8 (by kernel_rfl) (by kernel_rfl) (by kernel_rfl) (by kernel_rfl) (by kernel_rfl)) ?_
 obtain ⟨W16, hW⟩ : ∃ W, wr8.setCell ⟨W1.heap.size, 3, none⟩ (.int .i64 ((c.stA R k p9 u9 i).1)) = W := ⟨_, rfl⟩
 have hg : wr8.grownBy W16 (some (W1.heap.size)) := hW ▸ grown_set _ _ _ _
 have hq : Cb W16 (W1.heap.size) #[.bool (R.getD 0 false), .int .i64 ((c.lg R 0).dep), .slice o9 (c.n - 1) c9, .int .i64 ((c.stA R k p9 u9 i).1), .int .i64 (c.mil R c.n)] 37 := hW ▸ Q8.set 3 (.int .i64 ((c.stA R k p9 u9 i).1))
 rw [hW]
 replace HB := HB.grown hg (by omega) (oG (by omega))
 replace Q6 := Q6.kept hg (by omega)
 replace hC := hC.kept hg (by omega)
 have z6 := hg.size
 replace Q8 := hq
 clear hq hg hW
 refine Yn (Yo (Ys (Yq (Zv rfl (pt q 0) (Zv rfl (.int .i64 ((k + i : Nat) : Int)) (Zv rfl (.int .i64 ((c.stA R k p9 u9 i).1)) (Zv rfl (.int .i64 ((c.stA R k p9 u9 i).2)) ?_)))))))
 by_cases C4 : (c.arE (k + i) (c.stA R k p9 u9 i).1 (c.stA R k p9 u9 i).2) = 0
 ·refine Zd rfl ((by have h8 := sbeg_n c hc R hrun K q W16 (hK.below HB) (k + i) (by omega) (c.stA R k p9 u9 i).1 (c.stA R k p9 u9 i).2; rw [if_pos C4, C4] at h8; exact h8)) (fun W17 hb z7 => ?_)
  replace HB := over HB hb
  replace Q6 := Q6.below hb
  replace Q8 := Q8.below hb
  replace hC := hC.below hb
  clear hb
  have hra1 : c.ra R k p9 u9 (i + 1) = 0 := by rw [CrT.ra_succ, hra, if_neg (fun h => h rfl)]; exact C4
  have hao := CrT.arE_ok C4
  refine Zv rfl (.tuple #[.int .i64 (c.bgA (k + i) (c.stA R k p9 u9 i).1), .int .i64 0]) (Zv rfl (.int .i64 (c.bgA (k + i) (c.stA R k p9 u9 i).1)) (Zv rfl (.int .i64 0) (Zv rfl (.int .i64 (c.bgA (k + i) (c.stA R k p9 u9 i).1)) (Zv rfl (.int .i64 0) (Yn (Yo (Yq (Zv rfl (.int .i64 0) (Zv rfl (.bool false) (Yn (Yo (sx_false (by kernel_rfl) (wp_skip (Yo (Yq (Zw rfl (.agg #[.bool (R.getD 0 false), .int .i64 ((c.lg R 0).dep), .slice o9 (c.n - 1) c9, .int .i64 ((c.stA R k p9 u9 i).1), .int .i64 (c.mil R c.n)]) (ex_load rfl Q8 (by kernel_rfl) Tryz.underlying37 rfl (by kernel_rfl)) ?_))))))))))))))))
  refine Zr (cells := #[.bool (R.getD 0 false), .int .i64 ((c.lg R 0).dep), .slice o9 (c.n - 1) c9, .int .i64 ((c.stA R k p9 u9 i).1), .int .i64 (c.mil R c.n)]) rfl rfl Q6 (fun W18 hg hq => ?_)
  replace HB := HB.grown hg (by omega) (oG (by omega))
  replace hC := hC.kept hg (by omega)
  have z8 := hg.size
  replace Q6 := hq
  clear hq hg
  refine Zv rfl (.int .i64 0) (Yn (Yo (wp_ret ?_)))
  have hin : i = c.n - 1 - k := by omega
  have h8 : c.ra R k p9 u9 (c.n - k) = 0 := by rw [show c.n - k = i + 1 by omega]; exact hra1
  subst hin
  have hbl := c.tmB_len R k p9 u9 (c.n - 1 - k)
  exact sx_retct (v' := .int .i64 0) Q6 rfl rfl rfl (by kernel_rfl) (by kernel_rfl) Tryz.underlying37 rfl (by kernel_rfl) ⟨o9, c9, bC, 0, by rw [if_pos h8]; show Ending.returned (.tuple #[.agg #[_, _, .slice o9 _ c9, _, _], _]) = .returned (.tuple #[.agg #[_, _, .slice o9 (c.tmB R k p9 u9 (c.n - 1 - k)).length c9, _, _], _]); rw [hbl, h8]; rfl, by rw [if_pos h8]; show Rw _ bC 0 4 (fun j => tmE ((c.tmB R k p9 u9 (c.n - 1 - k)).getD j tm0)) (c.tmB R k p9 u9 (c.n - 1 - k)).length o9; intro j hj; rw [hbl] at hj; obtain ⟨rfl, -, NT⟩ := hC (by omega); exact oz_rw tmRow tm0 NT j (by rw [hbl]; exact hj), fun j hj => by rw [if_pos h8] at hj; have hj2 : j < (c.tmB R k p9 u9 (c.n - 1 - k)).length := hj; have h7 := (hC (by omega)).2.1; omega, HB⟩
 refine Zd rfl ((by have h8 := sbeg_n c hc R hrun K q W16 (hK.below HB) (k + i) (by omega) (c.stA R k p9 u9 i).1 (c.stA R k p9 u9 i).2; rw [if_neg C4] at h8; exact h8)) (fun W19 hb z7 => ?_)
 replace HB := over HB hb
 replace Q6 := Q6.below hb
 clear hb
 have hre := CrT.ra_stop hra C4 (c.n - k) (by omega)
 refine Zv rfl (.tuple #[.int .i64 0, .int .i64 (c.arE (k + i) (c.stA R k p9 u9 i).1 (c.stA R k p9 u9 i).2)]) (Zv rfl (.int .i64 0) (Zv rfl (.int .i64 (c.arE (k + i) (c.stA R k p9 u9 i).1 (c.stA R k p9 u9 i).2)) (Zv rfl (.int .i64 0) (Zv rfl (.int .i64 (c.arE (k + i) (c.stA R k p9 u9 i).1 (c.stA R k p9 u9 i).2)) (Yn (Yo (Yq (Zv rfl (.int .i64 (c.arE (k + i) (c.stA R k p9 u9 i).1 (c.stA R k p9 u9 i).2)) (Zb rfl (((c.arE (k + i) (c.stA R k p9 u9 i).1 (c.stA R k p9 u9 i).2) : Int) != (0 : Int)) true (bne_iff_ne.2 (by omega)) (Yn (Yo (sx_true (by kernel_rfl) (Yq (Zv rfl (.agg nZS) ?_))))))))))))))
 refine Zv rfl (.int .i64 (c.arE (k + i) (c.stA R k p9 u9 i).1 (c.stA R k p9 u9 i).2)) ?_
 refine Zr (cells := nZS) rfl rfl Q6 (fun W20 hg hq => ?_)
 replace HB := HB.grown hg (by omega) (oG (by omega))
 have z8 := hg.size
 replace Q6 := hq
 clear hq hg
 refine Zv rfl (.int .i64 (c.arE (k + i) (c.stA R k p9 u9 i).1 (c.stA R k p9 u9 i).2)) (Yn (Yo (wp_ret (sx_rs ?_))))
 have h9 : c.ra R k p9 u9 (c.n - k) = (c.arE (k + i) (c.stA R k p9 u9 i).1 (c.stA R k p9 u9 i).2) := hre
 have h8 : ¬ c.ra R k p9 u9 (c.n - k) = 0 := by rw [h9]; assumption
 exact sx_retct (v' := .int .i64 (c.arE (k + i) (c.stA R k p9 u9 i).1 (c.stA R k p9 u9 i).2)) Q6 rfl rfl rfl (by kernel_rfl) (by kernel_rfl) Tryz.underlying37 rfl (by kernel_rfl) ⟨none, 0, 0, 0, by rw [if_neg h8, h9]; rfl, by rw [if_neg h8]; exact rw_sh0 _, fun i hi => by rw [if_neg h8] at hi; exact absurd hi (Nat.not_lt_zero i), HB⟩

theorem safter_n (c : CrT) (hc : c.Ok) (R : List Bool) (hrun : c.run R c.n = 0) (K : SV) (q : Nat) (w : World) (hK : Scr w c R K q) (k : Nat) (hk : k < c.n) (t : Int) (ht : 0 ≤ t ∧ t ≤ 100000) : Calls Tryz.prog 23 #[.pointer (some ⟨q, 0, none⟩), .int .i64 ((k : Nat) : Int), .int .i64 t] w (ShP (if c.ra R k ((c.lg R k).arr + t) ((c.lg R k).sin + t) (c.n - k) = 0 then c.afS R k ((c.lg R k).arr + t) ((c.lg R k).sin + t) else sh0) (c.ra R k ((c.lg R k).arr + t) ((c.lg R k).sin + t) (c.n - k)) w) := safter_c c hc R hrun K q w hK k hk t _ _ ht rfl rfl

end Go.Proofs.YtomebalolmabnaaGreatDoor.T



