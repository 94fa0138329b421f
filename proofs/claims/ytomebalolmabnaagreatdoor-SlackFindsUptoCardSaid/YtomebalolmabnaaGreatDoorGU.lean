/-
  DERIVED. GU: a part of the base of layer 13 (made by pack.py).
-/
import Derived.Test.YtomebalolmabnaaGreatDoorGA
import Derived.Test.YtomebalolmabnaaGreatDoorGP
import Derived.Test.YtomebalolmabnaaGreatDoorKc
import Derived.Test.YtomebalolmabnaaGreatDoorGG
import Derived.Test.YtomebalolmabnaaGreatDoorGQ
/-! The specification of slack: Slack, Latest, After (by gen_kd.py). -/
namespace Go.Proofs.YtomebalolmabnaaGreatDoor.T
open Go.RowKit
set_option maxRecDepth 8000
attribute [local irreducible] wpList Code.wp wpAnyH

namespace CrT
def slP (c : CrT) (R : List Bool) (i : Nat) : List Int := (List.range i).map fun k => (c.sl R k : Int)
def ltP (c : CrT) (R : List Bool) (i : Nat) : List Int := (List.range i).map fun k => (c.sl R k : Int) + (c.lg R k).arr
theorem slP_succ (c : CrT) (R : List Bool) (i : Nat) : c.slP R (i + 1) = c.slP R i ++ [(c.sl R i : Int)] := by unfold slP; rw [List.range_succ, List.map_append]; rfl
theorem ltP_succ (c : CrT) (R : List Bool) (i : Nat) : c.ltP R (i + 1) = c.ltP R i ++ [(c.sl R i : Int) + (c.lg R i).arr] := by unfold ltP; rw [List.range_succ, List.map_append]; rfl
theorem slP_len (c : CrT) (R : List Bool) (i : Nat) : (c.slP R i).length = i := by unfold slP; simp
theorem ltP_len (c : CrT) (R : List Bool) (i : Nat) : (c.ltP R i).length = i := by unfold ltP; simp
theorem slF_4097 {c : CrT} {R : List Bool} {a j : Nat} (hj : j ≤ 4097) (h : c.slF R a (4097 - j) j = c.sl R a) (h9 : c.sl R a ≤ 4096) : j ≤ 4096 := by
 rcases Nat.lt_or_eq_of_le hj with h1 | h1
 ·omega
 ·rw [h1, Nat.sub_self] at h
  have h2 : c.slF R a 0 4097 = 4097 := rfl
  omega
theorem slF_no {c : CrT} {R : List Bool} {a j : Nat} (h : c.slF R a (4097 - j) j = c.sl R a) (hn : ¬ c.okD R a ((j : Int) + 1)) : c.sl R a = j := by
 rw [← h]
 cases 4097 - j with
 | zero => rfl
 | succ f =>
  show (if c.okD R a ((j : Int) + 1) then _ else j) = j
  rw [if_neg hn]
theorem slF_yes {c : CrT} {R : List Bool} {a j : Nat} (hj : j ≤ 4096) (h : c.slF R a (4097 - j) j = c.sl R a) (hn : c.okD R a ((j : Int) + 1)) : c.slF R a (4097 - (j + 1)) (j + 1) = c.sl R a := by
 rw [← h, show 4097 - j = (4097 - (j + 1)) + 1 by omega]
 show _ = if c.okD R a ((j : Int) + 1) then _ else _
 exact (if_pos hn).symm
end CrT
theorem slack19_n (k : Iv) (x : InT) (hal : x.al.length ≤ 1000000000) (hxl : x.ol.length ≤ 1000000) (ty st : Int) (orr oa oS : Option Addr) (cr ca cS b o bf qf bS qS : Nat) (l : List (Int × Bool)) (F : List Bool) (S : ShT) (lS : S.T.length ≤ 300000) (hcS : S.T.length ≤ cS) (hok : posD x.tl x.ol ty st l = true → (crs x ty st l).Ok) (w : World) (hI : Ins w k x) (hl : Rw w b o 2 (vF l) l.length oa) (hFx : Rw w bf qf 1 (bF F) F.length orr) (hST : Rw w bS qS 4 (fun k => tmE (S.T.getD k tm0)) S.T.length oS) : Calls Tryz.prog 8 #[.agg (iK k x), .agg (rK ty st orr F.length cr oa l.length ca), .agg (sK S oS cS)] w fun e w' => ∃ o9 c9 b9 q9, e = .returned (.tuple #[.slice o9 (slkL x ty st l F S).length c9, .int .i64 (chkE x ty st l F S)]) ∧ Rw w' b9 q9 1 (fun k => inE ((slkL x ty st l F S).getD k 0)) (slkL x ty st l F S).length o9 ∧ (∀ i, i < (slkL x ty st l F S).length → w.heap.size ≤ b9) ∧ Below w.heap.size w w' := by
 have HB : Below w.heap.size w w := Below.refl _ _
 refine sx_enter Tryz.func8 rfl [(0, .agg (iK k x)), (1, .agg (rK ty st orr F.length cr oa l.length ca)), (2, .agg (sK S oS cS))] (by kernel_rfl) ?_
 refine Yq ?_
 refine Za rfl (iK k x) 30 (fun W1 hb M2 z1 yM2 => ?_)
 replace HB := over HB hb
 clear hb
 refine Za rfl (rK ty st orr F.length cr oa l.length ca) 34 (fun W3 hb M4 z2 yM4 => ?_)
 replace HB := over HB hb
 replace M2 := M2.below hb
 clear hb
 refine Za rfl (sK S oS cS) 37 (fun W5 hb M6 z3 yM6 => ?_)
 replace HB := over HB hb
 replace M2 := M2.below hb
 replace M4 := M4.below hb
 clear hb
 refine Zv rfl (.slice none 0 0) (Zv rfl (.int .i64 0) (Yn (Yo (Yq (Zw rfl (.agg (iK k x)) (ex_load rfl M2 (by kernel_rfl) Tryz.underlying30 rfl (by kernel_rfl)) (Zw rfl (.agg (rK ty st orr F.length cr oa l.length ca)) (ex_load rfl M4 (by kernel_rfl) Tryz.underlying34 rfl (by kernel_rfl)) (Zw rfl (.agg (sK S oS cS)) (ex_load rfl M6 (by kernel_rfl) Tryz.underlying37 rfl (by kernel_rfl)) ?_)))))))
 by_cases C1 : (chkE x ty st l F S) = 0
 ·refine Zd rfl ((by have h8 := refValid18_n k x hal ty st orr oa oS cr ca cS b o bf qf bS qS l F S lS hok W5 (hI.below HB) (hl.below HB) (hFx.below HB) (hST.below HB); rw [C1] at h8; exact h8)) (fun W7 hb z4 => ?_)
  replace HB := over HB hb
  replace M2 := M2.below hb
  replace M4 := M4.below hb
  replace M6 := M6.below hb
  clear hb
  obtain ⟨hp9, hTl, hrun, hsh, -⟩ := chk_is C1
  have hc := hok hp9
  have hn9 : (crs x ty st l).n = l.length + 1 := crs_n x ty st l
  have hl20 := posD_len hp9
  refine Zv rfl (.int .i64 0) (Yn (Yo (Ys (Yq (Zv rfl (.int .i64 0) (Zv rfl (.bool false) (Yn (Yo (sx_false (by kernel_rfl) (wp_skip (Yo (Yq (Zv rfl (.slice none 0 0) (Yn (Yo (Ys (Yq (Zv rfl (.int .i64 0) (Yn (Yo (wp_block ?_)))))))))))))))))))))
  refine sx_loop (fun x9 : Nat × Value => [(0, .agg (iK k x)), (1, .agg (rK ty st orr F.length cr oa l.length ca)), (2, .agg (sK S oS cS)), (3, .pointer (some ⟨w.heap.size, 0, none⟩)), (4, .pointer (some ⟨W1.heap.size, 0, none⟩)), (5, .pointer (some ⟨W3.heap.size, 0, none⟩)), (6, .slice none 0 0), (7, .int .i64 0), (8, .int .i64 0), (9, x9.2), (10, .int .i64 ((x9.1 : Nat) : Int)), (14, .agg (iK k x)), (15, .agg (rK ty st orr F.length cr oa l.length ca)), (16, .agg (sK S oS cS)), (17, .int .i64 0), (18, .int .i64 0), (19, .bool false)]) (fun gg x9 wr => x9.1 ≤ (crs x ty st l).n ∧ (crs x ty st l).n - x9.1 ≤ gg ∧ Ol inE 3 1 W7.heap.size wr x9.2 ((crs x ty st l).slP S.rts x9.1) ∧ Below w.heap.size w wr ∧ W7.heap.size ≤ wr.heap.size ∧ Cb wr (w.heap.size) (iK k x) 30 ∧ Cb wr (W1.heap.size) (rK ty st orr F.length cr oa l.length ca) 34 ∧ Cb wr (W3.heap.size) (sK S oS cS) 37) ((crs x ty st l).n) ((0, .slice none 0 0)) (by kernel_rfl) ⟨Nat.zero_le _, Nat.le_refl _, Ol.nil _ _ _, HB, Nat.le_refl _, M2, M4, M6⟩ ?_
  rintro gg ⟨a, vS⟩ g' wr8 ⟨ha, hg, HT, HB, hzz, KM2, KM4, KM6⟩
  dsimp only at ha hg HT HB hzz KM2 KM4 KM6
  have yKM2 := KM2.lt
  have yKM4 := KM4.lt
  have yKM6 := KM6.lt
  have hoT : ∀ g, vS.ownBlock = some g → _ := fun g e => HT.blk e
  refine Ys (Yq (Zv rfl (.int .i64 ((a : Nat) : Int)) (Zv rfl (pt W1.heap.size 3) (Zw rfl (.slice oa l.length ca) (el (KM4.cell 3 rfl) Tryz.underlying32) (Zv rfl (.int .i64 ((l.length : Nat) : Int)) ?_)))))
  by_cases C2 : a ≤ l.length
  ·refine Zb rfl (decide (((a : Nat) : Int) ≤ ((l.length : Nat) : Int))) true (decide_eq_true (by omega)) (Yn (Yo (sx_true (by kernel_rfl) (wp_skip (Yo (Ys (wp_block (Ys ?_))))))))
   have hsi := CrT.sl_is hc hrun (k := a) (by omega)
   refine Yr (Zv rfl (.int .i64 0) (Yn (Yo (Ys (wp_block ?_)))))
   refine sx_loop (fun j : Nat => [(0, .agg (iK k x)), (1, .agg (rK ty st orr F.length cr oa l.length ca)), (2, .agg (sK S oS cS)), (3, .pointer (some ⟨w.heap.size, 0, none⟩)), (4, .pointer (some ⟨W1.heap.size, 0, none⟩)), (5, .pointer (some ⟨W3.heap.size, 0, none⟩)), (6, .slice none 0 0), (7, .int .i64 0), (8, .int .i64 0), (9, vS), (10, .int .i64 ((a : Nat) : Int)), (11, .int .i64 ((j : Nat) : Int)), (14, .agg (iK k x)), (15, .agg (rK ty st orr F.length cr oa l.length ca)), (16, .agg (sK S oS cS)), (17, .int .i64 0), (18, .int .i64 0), (19, .bool false), (21, .int .i64 ((a : Nat) : Int)), (22, .pointer (some ⟨W1.heap.size, 3, none⟩)), (23, .slice oa l.length ca), (24, .int .i64 ((l.length : Nat) : Int)), (25, .bool true)]) (fun gg j wr => j ≤ 4097 ∧ 4097 - j ≤ gg ∧ (crs x ty st l).slF S.rts a (4097 - j) j = (crs x ty st l).sl S.rts a ∧ Ol inE 3 1 W7.heap.size wr vS ((crs x ty st l).slP S.rts a) ∧ Below w.heap.size w wr ∧ wr8.heap.size ≤ wr.heap.size ∧ Cb wr (w.heap.size) (iK k x) 30 ∧ Cb wr (W1.heap.size) (rK ty st orr F.length cr oa l.length ca) 34 ∧ Cb wr (W3.heap.size) (sK S oS cS) 37) (4097) (0) (by kernel_rfl) ⟨Nat.zero_le _, Nat.le_refl _, rfl, HT, HB, Nat.le_refl _, KM2, KM4, KM6⟩ ?_
   rintro gg j g' wr9 ⟨hj, hg2, hsl, HT, HB, hss, KM2, KM4, KM6⟩
   have hj4 := CrT.slF_4097 hj hsl hsi.2.1
   clear hoT
   have hoT : ∀ g, vS.ownBlock = some g → _ := fun g e => HT.blk e
   refine Ys (Yq (Zv rfl (.int .i64 ((j : Nat) : Int)) (Zb rfl (decide (((j : Nat) : Int) ≤ 4096)) true (decide_eq_true (by omega)) (Yn (Yo (sx_true (by kernel_rfl) (wp_skip (Yo (wp_block (Yq (Zw rfl (.agg (iK k x)) (ex_load rfl KM2 (by kernel_rfl) Tryz.underlying30 rfl (by kernel_rfl)) (Zw rfl (.agg (rK ty st orr F.length cr oa l.length ca)) (ex_load rfl KM4 (by kernel_rfl) Tryz.underlying34 rfl (by kernel_rfl)) (Zw rfl (.agg (sK S oS cS)) (ex_load rfl KM6 (by kernel_rfl) Tryz.underlying37 rfl (by kernel_rfl)) (Zv rfl (.int .i64 ((a : Nat) : Int)) (Zv rfl (.int .i64 ((j : Nat) : Int)) (Zi rfl (IntKind.i64.wrap (((j : Nat) : Int) + 1)) (((j + 1 : Nat) : Int)) (by rw [IntKind.wrap_i64]; omega) ?_))))))))))))))))
   by_cases C3 : ((crs x ty st l).okD S.rts a (((j : Nat) : Int) + 1))
   ·have hr0 : ((crs x ty st l).ra S.rts a (((crs x ty st l).lg S.rts a).arr + ((j + 1 : Nat) : Int)) (((crs x ty st l).lg S.rts a).sin + ((j + 1 : Nat) : Int)) ((crs x ty st l).n - a)) = 0 := C3
    refine Zc rfl ((by have h8 := later19_n k x hxl ty st orr oa oS cr ca cS b o bS qS l F S hc hp9 hTl hrun hsh wr9 (hI.below HB) (hl.below HB) (hST.below HB) hcS a (by omega) ((j + 1 : Nat) : Int) (by omega); rw [if_pos hr0, hr0] at h8; exact h8)) ?_
    rintro e W10 ⟨oA, cA, bA, qA, rfl, -, -, hb⟩
    replace HB := over HB hb
    replace HT := HT.below hb
    replace KM2 := KM2.below hb
    replace KM4 := KM4.below hb
    replace KM6 := KM6.below hb
    have z5 := hb.size
    clear hb
    refine ⟨_, rfl, ?_⟩
    refine Zv rfl (.tuple #[.agg (sK ((crs x ty st l).afS S.rts a (((crs x ty st l).lg S.rts a).arr + ((j + 1 : Nat) : Int)) (((crs x ty st l).lg S.rts a).sin + ((j + 1 : Nat) : Int))) oA cA), .int .i64 0]) (Zv rfl (.agg (sK ((crs x ty st l).afS S.rts a (((crs x ty st l).lg S.rts a).arr + ((j + 1 : Nat) : Int)) (((crs x ty st l).lg S.rts a).sin + ((j + 1 : Nat) : Int))) oA cA)) (Zv rfl (.int .i64 0) ?_))
    obtain ⟨W12, hW⟩ : ∃ W, (W10.alloc (.cells nZS 37)).setRow W10.heap.size (sK ((crs x ty st l).afS S.rts a (((crs x ty st l).lg S.rts a).arr + ((j + 1 : Nat) : Int)) (((crs x ty st l).lg S.rts a).sin + ((j + 1 : Nat) : Int))) oA cA) = W := ⟨_, rfl⟩
    have hb := hW ▸ below_var W10 (.cells nZS 37) (sK ((crs x ty st l).afS S.rts a (((crs x ty st l).lg S.rts a).arr + ((j + 1 : Nat) : Int)) (((crs x ty st l).lg S.rts a).sin + ((j + 1 : Nat) : Int))) oA cA)
    have hq : Cb W12 W10.heap.size (sK ((crs x ty st l).afS S.rts a (((crs x ty st l).lg S.rts a).arr + ((j + 1 : Nat) : Int)) (((crs x ty st l).lg S.rts a).sin + ((j + 1 : Nat) : Int))) oA cA) 37 := hW ▸ Cb.row (Cb.made W10 nZS 37) _
    refine sx_mem (by kernel_rfl) rfl rfl (pt W10.heap.size 0) (W10.alloc (.cells nZS 37)) (by kernel_rfl) ?_
    refine Zs (cells := (sK ((crs x ty st l).afS S.rts a (((crs x ty st l).lg S.rts a).arr + ((j + 1 : Nat) : Int)) (((crs x ty st l).lg S.rts a).sin + ((j + 1 : Nat) : Int))) oA cA)) rfl rfl (Cb.made W10 nZS 37) ?_
    rw [hW]
    replace HB := over HB hb
    replace HT := HT.below hb
    replace KM2 := KM2.below hb
    replace KM4 := KM4.below hb
    replace KM6 := KM6.below hb
    have z6 := hb.size
    have yM11 := hq.lt
    clear hq hb hW
    refine Zv rfl (.int .i64 0) (Yn (Yo (Ys (Yq (Zv rfl (.int .i64 0) (Zv rfl (.bool false) (Yn (Yo (sx_false (by kernel_rfl) (wp_skip (Yo (Yr (Zv rfl (.int .i64 ((j : Nat) : Int)) (Zi rfl (IntKind.i64.wrap (((j : Nat) : Int) + 1)) (((j + 1 : Nat) : Int)) (by rw [IntKind.wrap_i64]; omega) (Zv rfl (.int .i64 ((j + 1 : Nat) : Int)) (Yn ?_))))))))))))))))
    refine sx_in ?_
    refine Yo ?_
    exact sx_again (4097 - (j + 1)) (j + 1) (by omega) (by kernel_rfl) ⟨by omega, Nat.le_refl _, CrT.slF_yes hj4 hsl C3, HT, HB, by omega, KM2, KM4, KM6⟩
   have hr0 : ¬ ((crs x ty st l).ra S.rts a (((crs x ty st l).lg S.rts a).arr + ((j + 1 : Nat) : Int)) (((crs x ty st l).lg S.rts a).sin + ((j + 1 : Nat) : Int)) ((crs x ty st l).n - a)) = 0 := C3
   refine Zc rfl ((by have h8 := later19_n k x hxl ty st orr oa oS cr ca cS b o bS qS l F S hc hp9 hTl hrun hsh wr9 (hI.below HB) (hl.below HB) (hST.below HB) hcS a (by omega) ((j + 1 : Nat) : Int) (by omega); rw [if_neg hr0] at h8; exact h8)) ?_
   rintro e W13 ⟨oA, cA, bA, qA, rfl, -, -, hb⟩
   replace HB := over HB hb
   replace HT := HT.below hb
   replace KM2 := KM2.below hb
   replace KM4 := KM4.below hb
   replace KM6 := KM6.below hb
   have z5 := hb.size
   clear hb
   refine ⟨_, rfl, ?_⟩
   refine Zv rfl (.tuple #[.agg (sK sh0 oA cA), .int .i64 ((crs x ty st l).ra S.rts a (((crs x ty st l).lg S.rts a).arr + ((j + 1 : Nat) : Int)) (((crs x ty st l).lg S.rts a).sin + ((j + 1 : Nat) : Int)) ((crs x ty st l).n - a))]) (Zv rfl (.agg (sK sh0 oA cA)) (Zv rfl (.int .i64 ((crs x ty st l).ra S.rts a (((crs x ty st l).lg S.rts a).arr + ((j + 1 : Nat) : Int)) (((crs x ty st l).lg S.rts a).sin + ((j + 1 : Nat) : Int)) ((crs x ty st l).n - a))) ?_))
   obtain ⟨W15, hW, hb, hq⟩ := laidV W13 nZS (sK sh0 oA cA) 37
   refine sx_mem (by kernel_rfl) rfl rfl (pt W13.heap.size 0) (W13.alloc (.cells nZS 37)) (by kernel_rfl) ?_
   refine Zs (cells := (sK sh0 oA cA)) rfl rfl (Cb.made W13 nZS 37) ?_
   rw [hW]
   replace HB := over HB hb
   replace HT := HT.below hb
   replace KM2 := KM2.below hb
   replace KM4 := KM4.below hb
   replace KM6 := KM6.below hb
   have z6 := hb.size
   have yM14 := hq.lt
   clear hq hb hW
   refine Zv rfl (.int .i64 ((crs x ty st l).ra S.rts a (((crs x ty st l).lg S.rts a).arr + ((j + 1 : Nat) : Int)) (((crs x ty st l).lg S.rts a).sin + ((j + 1 : Nat) : Int)) ((crs x ty st l).n - a))) (Yn (Yo (Ys (Yq (Zv rfl (.int .i64 ((crs x ty st l).ra S.rts a (((crs x ty st l).lg S.rts a).arr + ((j + 1 : Nat) : Int)) (((crs x ty st l).lg S.rts a).sin + ((j + 1 : Nat) : Int)) ((crs x ty st l).n - a))) (Zb rfl ((((crs x ty st l).ra S.rts a (((crs x ty st l).lg S.rts a).arr + ((j + 1 : Nat) : Int)) (((crs x ty st l).lg S.rts a).sin + ((j + 1 : Nat) : Int)) ((crs x ty st l).n - a)) : Int) != (0 : Int)) true (bne_iff_ne.2 (by omega)) (Yn (Yo (sx_true (by kernel_rfl) (wp_exit ?_))))))))))
   refine sx_es ?_
   refine sx_by rfl ?_
   refine sx_es ?_
   refine sx_out ?_
   refine Yo (Yr (Zv rfl (vS) (Zv rfl (.int .i64 ((j : Nat) : Int)) ?_)))
   obtain ⟨W16, hW, hb, hq⟩ := laidA W15 #[.int .i64 ((j : Nat) : Int)] 3
   refine sx_mem (by kernel_rfl) rfl rfl (.slice (some ⟨W15.heap.size, 0, none⟩) 1 1) W16 (by rw [← hW]; kernel_rfl) ?_
   replace HB := over HB hb
   replace HT := HT.below hb
   replace KM2 := KM2.below hb
   replace KM4 := KM4.below hb
   replace KM6 := KM6.below hb
   have z7 := hb.size
   have M17 := hq
   have yM17 := hq.lt
   clear hq hb hW
   obtain ⟨v9, W18, h9, hg9, hb, hgr, -⟩ := ap_o (P := Tryz.prog) (t := 42) (ty := 42) (z := .int .i64 0) (bytes := 8) (x := ((j : Nat) : Int)) inRow Tryz.underlying42 (by kernel_rfl) rfl (by decide) (by decide) HT M17 rfl (by omega) (by rw [CrT.slP_len]; omega)
   refine sx_mem (by kernel_rfl) rfl rfl v9 W18 (ex_append rfl (by kernel_rfl) (by kernel_rfl) h9) ?_
   replace HB := HB.trans (hb.mono (by omega))
   replace KM2 := KM2.grownO hgr (fun e9 => by have h8 := hoT _ e9; omega)
   replace KM4 := KM4.grownO hgr (fun e9 => by have h8 := hoT _ e9; omega)
   replace KM6 := KM6.grownO hgr (fun e9 => by have h8 := hoT _ e9; omega)
   have zW18 := hb.size
   have HT := hg9
   clear hg9 hb h9 hgr
   refine Zv rfl (v9) (Yn ?_)
   refine sx_in ?_
   refine Yo (Yr (Zv rfl (.int .i64 ((a : Nat) : Int)) (Zi rfl (IntKind.i64.wrap (((a : Nat) : Int) + 1)) (((a + 1 : Nat) : Int)) (by rw [IntKind.wrap_i64]; omega) (Zv rfl (.int .i64 ((a + 1 : Nat) : Int)) (Yn (Yo ?_))))))
   have hsj := CrT.slF_no hsl C3
   rw [← hsj, ← CrT.slP_succ] at HT
   exact sx_again ((crs x ty st l).n - (a + 1)) (a + 1, v9) (by omega) (by kernel_rfl) ⟨by show a + 1 ≤ _; omega, Nat.le_refl _, HT, HB, (by show _ ≤ _; omega), KM2, KM4, KM6⟩
  refine Zb rfl (decide (((a : Nat) : Int) ≤ ((l.length : Nat) : Int))) false (decide_eq_false (by omega)) (Yn (Yo (sx_false (by kernel_rfl) (wp_exit ?_))))
  refine sx_es ?_
  refine sx_es ?_
  refine sx_out ?_
  refine Yo (Yq (Zv rfl (vS) (Zv rfl (vS) (Zv rfl (.int .i64 0) (Yn (Yo (wp_ret ?_)))))))
  obtain rfl : a = (crs x ty st l).n := by omega
  obtain ⟨oz, cz, rfl⟩ := Ol.form HT
  obtain ⟨bz, qz, hrz, hbz⟩ := Ol.rwB inRow 0 HT
  have h8 : slkL x ty st l F S = ((crs x ty st l).slP S.rts (crs x ty st l).n) := if_pos C1
  refine sx_ret2 (.slice oz ((crs x ty st l).slP S.rts (crs x ty st l).n).length cz) (.int .i64 0) rfl rfl rfl (by kernel_rfl) (by kernel_rfl) ⟨oz, cz, bz, qz, by rw [h8, C1], by rw [h8]; exact hrz, fun i hi => by rw [h8] at hi; have h7 := hbz i hi; omega, HB⟩
 refine Zd rfl (refValid18_n k x hal ty st orr oa oS cr ca cS b o bf qf bS qS l F S lS hok W5 (hI.below HB) (hl.below HB) (hFx.below HB) (hST.below HB)) (fun W19 hb z4 => ?_)
 replace HB := over HB hb
 clear hb
 refine Zv rfl (.int .i64 (chkE x ty st l F S)) (Yn (Yo (Ys (Yq (Zv rfl (.int .i64 (chkE x ty st l F S)) (Zb rfl (((chkE x ty st l F S) : Int) != (0 : Int)) true (bne_iff_ne.2 (by omega)) (Yn (Yo (sx_true (by kernel_rfl) (Yq (Zv rfl (.int .i64 (chkE x ty st l F S)) (Zv rfl (.slice none 0 0) (Zv rfl (.int .i64 (chkE x ty st l F S)) (Yn (Yo (wp_ret (sx_rs ?_)))))))))))))))))
 have h8 : slkL x ty st l F S = [] := if_neg C1
 refine sx_ret2 (.slice none 0 0) (.int .i64 (chkE x ty st l F S)) rfl rfl rfl (by kernel_rfl) (by kernel_rfl) ⟨none, 0, 0, 0, by rw [h8]; rfl, by rw [h8]; exact fun i hi => absurd hi (Nat.not_lt_zero i), fun i hi => by rw [h8] at hi; exact absurd hi (Nat.not_lt_zero i), HB⟩
theorem latest19_n (k : Iv) (x : InT) (hal : x.al.length ≤ 1000000000) (hxl : x.ol.length ≤ 1000000) (ty st : Int) (orr oa oS : Option Addr) (cr ca cS b o bf qf bS qS : Nat) (l : List (Int × Bool)) (F : List Bool) (S : ShT) (lS : S.T.length ≤ 300000) (hcS : S.T.length ≤ cS) (hok : posD x.tl x.ol ty st l = true → (crs x ty st l).Ok) (w : World) (hI : Ins w k x) (hl : Rw w b o 2 (vF l) l.length oa) (hFx : Rw w bf qf 1 (bF F) F.length orr) (hST : Rw w bS qS 4 (fun k => tmE (S.T.getD k tm0)) S.T.length oS) : Calls Tryz.prog 10 #[.agg (iK k x), .agg (rK ty st orr F.length cr oa l.length ca), .agg (sK S oS cS)] w fun e w' => ∃ o9 c9 b9 q9, e = .returned (.tuple #[.slice o9 (ltsL x ty st l F S).length c9, .int .i64 (chkE x ty st l F S)]) ∧ Rw w' b9 q9 1 (fun k => inE ((ltsL x ty st l F S).getD k 0)) (ltsL x ty st l F S).length o9 ∧ (∀ i, i < (ltsL x ty st l F S).length → w.heap.size ≤ b9) ∧ Below w.heap.size w w' := by
 have HB : Below w.heap.size w w := Below.refl _ _
 refine sx_enter Tryz.func10 rfl [(0, .agg (iK k x)), (1, .agg (rK ty st orr F.length cr oa l.length ca)), (2, .agg (sK S oS cS))] (by kernel_rfl) ?_
 refine Yq ?_
 refine Za rfl (iK k x) 30 (fun W1 hb M2 z1 yM2 => ?_)
 replace HB := over HB hb
 clear hb
 refine Za rfl (rK ty st orr F.length cr oa l.length ca) 34 (fun W3 hb M4 z2 yM4 => ?_)
 replace HB := over HB hb
 replace M2 := M2.below hb
 clear hb
 refine Za rfl (sK S oS cS) 37 (fun W5 hb M6 z3 yM6 => ?_)
 replace HB := over HB hb
 replace M2 := M2.below hb
 replace M4 := M4.below hb
 clear hb
 refine Zv rfl (.slice none 0 0) (Zv rfl (.int .i64 0) (Yn (Yo (Yq (Zw rfl (.agg (iK k x)) (ex_load rfl M2 (by kernel_rfl) Tryz.underlying30 rfl (by kernel_rfl)) (Zw rfl (.agg (rK ty st orr F.length cr oa l.length ca)) (ex_load rfl M4 (by kernel_rfl) Tryz.underlying34 rfl (by kernel_rfl)) (Zw rfl (.agg (sK S oS cS)) (ex_load rfl M6 (by kernel_rfl) Tryz.underlying37 rfl (by kernel_rfl)) ?_)))))))
 refine Zc rfl (slack19_n k x hal hxl ty st orr oa oS cr ca cS b o bf qf bS qS l F S lS hcS hok W5 (hI.below HB) (hl.below HB) (hFx.below HB) (hST.below HB)) ?_
 rintro e W7 ⟨oL, cL, bL, qL, rfl, hLs, hmL, hb⟩
 have hlL := fun h => hLs.lt (k := 0) h
 replace HB := over HB hb
 replace M2 := M2.below hb
 replace M4 := M4.below hb
 replace M6 := M6.below hb
 have z4 := hb.size
 clear hb
 refine ⟨_, rfl, ?_⟩
 by_cases C1 : (chkE x ty st l F S) = 0
 ·obtain ⟨hp9, hTl, hrun, hsh, -⟩ := chk_is C1
  have hc := hok hp9
  have hn9 : (crs x ty st l).n = l.length + 1 := crs_n x ty st l
  have hl20 := posD_len hp9
  have hlS : (slkL x ty st l F S) = (crs x ty st l).slL S.rts := if_pos C1
  have hlz : (slkL x ty st l F S).length = (crs x ty st l).n := by rw [hlS, CrT.slL_len]
  have hse9 : S.e = ((crs x ty st l).lg S.rts ((crs x ty st l).n - 1)).arr := (congrArg ShT.e hsh).symm
  have hTm : Rw w bS qS 4 (fun i1 => tmE ((crs x ty st l).tm S.rts i1)) S.T.length oS := Rw.ext hST (fun i hi => by have h8 := tms_at (crs x ty st l) S.rts (show i < (crs x ty st l).n - 1 by omega); rw [hsh] at h8; rw [h8])
  refine Zv rfl (.tuple #[.slice oL (slkL x ty st l F S).length cL, .int .i64 (chkE x ty st l F S)]) (Zv rfl (.slice oL (slkL x ty st l F S).length cL) (Zv rfl (.int .i64 (chkE x ty st l F S)) (Zv rfl (.slice oL (slkL x ty st l F S).length cL) (Zv rfl (.int .i64 (chkE x ty st l F S)) (Yn (Yo (Ys (Yq (Zv rfl (.int .i64 (chkE x ty st l F S)) (Zb rfl (((chkE x ty st l F S) : Int) != (0 : Int)) false (by rw [bne_eq_false_iff_eq]; omega) (Yn (Yo (sx_false (by kernel_rfl) (wp_skip (Yo (Yq (Zv rfl (.slice none 0 0) ?_)))))))))))))))))
  refine Yn (Yo (Ys (Yq (Zv rfl (.int .i64 0) (Yn (Yo (wp_block ?_)))))))
  refine sx_loop (fun x9 : Nat × Value => [(0, .agg (iK k x)), (1, .agg (rK ty st orr F.length cr oa l.length ca)), (2, .agg (sK S oS cS)), (3, .pointer (some ⟨w.heap.size, 0, none⟩)), (4, .pointer (some ⟨W1.heap.size, 0, none⟩)), (5, .pointer (some ⟨W3.heap.size, 0, none⟩)), (6, .slice none 0 0), (7, .int .i64 0), (8, .slice oL (slkL x ty st l F S).length cL), (9, .int .i64 (chkE x ty st l F S)), (10, x9.2), (11, .int .i64 ((x9.1 : Nat) : Int)), (13, .tuple #[.slice oL (slkL x ty st l F S).length cL, .int .i64 (chkE x ty st l F S)]), (14, .agg (iK k x)), (15, .agg (rK ty st orr F.length cr oa l.length ca)), (16, .agg (sK S oS cS)), (17, .tuple #[.slice oL (slkL x ty st l F S).length cL, .int .i64 (chkE x ty st l F S)]), (18, .slice oL (slkL x ty st l F S).length cL), (19, .int .i64 (chkE x ty st l F S)), (20, .int .i64 (chkE x ty st l F S)), (21, .bool false)]) (fun gg x9 wr => x9.1 ≤ (crs x ty st l).n ∧ (crs x ty st l).n - x9.1 ≤ gg ∧ Ol inE 3 1 W7.heap.size wr x9.2 ((crs x ty st l).ltP S.rts x9.1) ∧ Rw wr bL qL 1 (fun k => inE ((slkL x ty st l F S).getD k 0)) (slkL x ty st l F S).length oL ∧ Below w.heap.size w wr ∧ W7.heap.size ≤ wr.heap.size ∧ Cb wr (w.heap.size) (iK k x) 30 ∧ Cb wr (W1.heap.size) (rK ty st orr F.length cr oa l.length ca) 34 ∧ Cb wr (W3.heap.size) (sK S oS cS) 37) ((crs x ty st l).n) ((0, .slice none 0 0)) (by kernel_rfl) ⟨Nat.zero_le _, Nat.le_refl _, Ol.nil _ _ _, hLs, HB, Nat.le_refl _, M2, M4, M6⟩ ?_
  rintro gg ⟨i, vS⟩ g' wr8 ⟨hi, hg, HT, hLs, HB, hzz, KM2, KM4, KM6⟩
  dsimp only at hi hg HT hLs HB hzz KM2 KM4 KM6
  have yKM2 := KM2.lt
  have yKM4 := KM4.lt
  have yKM6 := KM6.lt
  have hoT : ∀ g, vS.ownBlock = some g → _ := fun g e => HT.blk e
  refine Ys (Yq (Zv rfl (.int .i64 ((i : Nat) : Int)) (Zv rfl (.slice oL (slkL x ty st l F S).length cL) (Zv rfl (.int .i64 (((slkL x ty st l F S).length : Nat) : Int)) ?_))))
  by_cases C2 : i < (slkL x ty st l F S).length
  ·refine Zb rfl (decide (((i : Nat) : Int) < (((slkL x ty st l F S).length : Nat) : Int))) true (decide_eq_true (by omega)) (Yn (Yo (sx_true (by kernel_rfl) (wp_skip (Yo (Ys (wp_block (Ys ?_))))))))
   have hla := CrT.lg_arr hc hrun (k := i) (by omega)
   have hsi := CrT.sl_is hc hrun (k := i) (by omega)
   have hgi : (slkL x ty st l F S).getD i 0 = (((crs x ty st l).sl S.rts i : Nat) : Int) := by rw [hlS]; exact CrT.slL_at (by omega)
   refine Yr (Zv rfl (pt W3.heap.size 3) (Zw rfl (.int .i64 S.e) (el (KM6.cell 3 rfl) Tryz.underlying3) (Zv rfl (.int .i64 S.e) (Yn (Yo ?_)))))
   refine sx_cut (fun _ : Unit => [(0, .agg (iK k x)), (1, .agg (rK ty st orr F.length cr oa l.length ca)), (2, .agg (sK S oS cS)), (3, .pointer (some ⟨w.heap.size, 0, none⟩)), (4, .pointer (some ⟨W1.heap.size, 0, none⟩)), (5, .pointer (some ⟨W3.heap.size, 0, none⟩)), (6, .slice none 0 0), (7, .int .i64 0), (8, .slice oL (slkL x ty st l F S).length cL), (9, .int .i64 (chkE x ty st l F S)), (10, vS), (11, .int .i64 ((i : Nat) : Int)), (12, .int .i64 (((crs x ty st l).lg S.rts i).arr)), (13, .tuple #[.slice oL (slkL x ty st l F S).length cL, .int .i64 (chkE x ty st l F S)]), (14, .agg (iK k x)), (15, .agg (rK ty st orr F.length cr oa l.length ca)), (16, .agg (sK S oS cS)), (17, .tuple #[.slice oL (slkL x ty st l F S).length cL, .int .i64 (chkE x ty st l F S)]), (18, .slice oL (slkL x ty st l F S).length cL), (19, .int .i64 (chkE x ty st l F S)), (20, .int .i64 (chkE x ty st l F S)), (21, .bool false), (23, .int .i64 ((i : Nat) : Int)), (24, .slice oL (slkL x ty st l F S).length cL), (25, .int .i64 (((slkL x ty st l F S).length : Nat) : Int)), (26, .bool true), (29, .pointer (some ⟨W3.heap.size, 3, none⟩)), (30, .int .i64 S.e)]) (fun _ wr => wr8.heap.size ≤ wr.heap.size ∧ Below w.heap.size w wr ∧ Ol inE 3 1 W7.heap.size wr vS ((crs x ty st l).ltP S.rts i) ∧ Rw wr bL qL 1 (fun k => inE ((slkL x ty st l F S).getD k 0)) (slkL x ty st l F S).length oL ∧ Cb wr (w.heap.size) (iK k x) 30 ∧ Cb wr (W1.heap.size) (rK ty st orr F.length cr oa l.length ca) 34 ∧ Cb wr (W3.heap.size) (sK S oS cS) 37) ?_ ?_
   ·refine Yq (Zv rfl (.int .i64 ((i : Nat) : Int)) (Zv rfl (pt W3.heap.size 2) (Zw rfl (.slice oS S.T.length cS) (el (KM6.cell 2 rfl) Tryz.underlying35) (Zv rfl (.int .i64 ((S.T.length : Nat) : Int)) ?_))))
    by_cases C3 : i < S.T.length
    ·refine Zb rfl (decide (((i : Nat) : Int) < ((S.T.length : Nat) : Int))) true (decide_eq_true (by omega)) (Yn (Yo (sx_true (by kernel_rfl) (Yr (Zv rfl (pt W3.heap.size 2) (Zw rfl (.slice oS S.T.length cS) (el (KM6.cell 2 rfl) Tryz.underlying35) (Zv rfl (.int .i64 ((i : Nat) : Int)) (Zw rfl (pt bS (qS + i * 4)) (ex_indexO (q := qS) (m := S.T.length) (c := cS) (k := i) (s := 4) rfl (by kernel_rfl) ((hTm.below HB).oa (k := i) (by omega)) (by kernel_rfl) Tryz.underlying35 (by kernel_rfl) (by omega) (by omega)) (Zv rfl (pt bS (qS + i * 4)) (Zw rfl (.int .i64 (((crs x ty st l).lg S.rts i).arr)) (el ((hTm.below HB).cell (k := i) (by omega) 0 rfl) Tryz.underlying3) (Zv rfl (.int .i64 (((crs x ty st l).lg S.rts i).arr)) (Yn (Yo ?_)))))))))))))
     exact ⟨(), ⟨by show _ ≤ _; omega, HB, HT, hLs, KM2, KM4, KM6⟩, fr_less (by kernel_rfl)⟩
    refine Zb rfl (decide (((i : Nat) : Int) < ((S.T.length : Nat) : Int))) false (decide_eq_false (by omega)) (Yn (Yo (sx_false (by kernel_rfl) (wp_skip (Yo ?_)))))
    refine ⟨(), ⟨by show _ ≤ _; omega, HB, HT, hLs, KM2, KM4, KM6⟩, ?_⟩
    rw [show (((crs x ty st l).lg S.rts i).arr) = S.e from (by rw [hse9, show (crs x ty st l).n - 1 = i by omega])]
    exact fr_less (by kernel_rfl)
   clear HB HT hLs KM2 KM4 KM6
   rintro - g' wr9 ⟨hzwr9, HB, HT, hLs, KM2, KM4, KM6⟩
   clear hoT
   have hoT : ∀ g, vS.ownBlock = some g → _ := fun g e => HT.blk e
   refine Yr (Zv rfl (vS) (Zv rfl (.int .i64 (((crs x ty st l).lg S.rts i).arr)) (Zv rfl (.slice oL (slkL x ty st l F S).length cL) (Zv rfl (.int .i64 ((i : Nat) : Int)) (Zw rfl (pt bL (qL + i * 1)) (ex_indexO (q := qL) (m := (slkL x ty st l F S).length) (c := cL) (k := i) (s := 1) rfl (by kernel_rfl) (hLs.oa (k := i) (by omega)) (by kernel_rfl) Tryz.underlying42 (by kernel_rfl) (by omega) (by omega)) (Zw rfl (.int .i64 (((crs x ty st l).sl S.rts i : Nat) : Int)) (el (by have h8 := hLs.cell (k := i) (by omega) 0 (v := .int .i64 ((slkL x ty st l F S).getD i 0)) rfl; rw [hgi] at h8; exact h8) Tryz.underlying3) (Zi rfl (IntKind.i64.wrap (((crs x ty st l).lg S.rts i).arr + (((crs x ty st l).sl S.rts i : Nat) : Int))) (((((crs x ty st l).sl S.rts i : Nat) : Int) + ((crs x ty st l).lg S.rts i).arr)) (by rw [IntKind.wrap_i64]; omega) ?_)))))))
   obtain ⟨W10, hW, hb, hq⟩ := laidA wr9 #[.int .i64 ((((crs x ty st l).sl S.rts i : Nat) : Int) + ((crs x ty st l).lg S.rts i).arr)] 3
   refine sx_mem (by kernel_rfl) rfl rfl (.slice (some ⟨wr9.heap.size, 0, none⟩) 1 1) W10 (by rw [← hW]; kernel_rfl) ?_
   replace HB := over HB hb
   replace HT := HT.below hb
   replace hLs := hLs.below hb
   replace KM2 := KM2.below hb
   replace KM4 := KM4.below hb
   replace KM6 := KM6.below hb
   have z5 := hb.size
   have M11 := hq
   have yM11 := hq.lt
   clear hq hb hW
   obtain ⟨v9, W12, h9, hg9, hb, hgr, -⟩ := ap_o (P := Tryz.prog) (t := 42) (ty := 42) (z := .int .i64 0) (bytes := 8) (x := ((((crs x ty st l).sl S.rts i : Nat) : Int) + ((crs x ty st l).lg S.rts i).arr)) inRow Tryz.underlying42 (by kernel_rfl) rfl (by decide) (by decide) HT M11 rfl (by omega) (by rw [CrT.ltP_len]; omega)
   refine sx_mem (by kernel_rfl) rfl rfl v9 W12 (ex_append rfl (by kernel_rfl) (by kernel_rfl) h9) ?_
   replace HB := HB.trans (hb.mono (by omega))
   replace hLs := hLs.grownO hgr (fun i hi e9 => by have h8 := hoT _ e9; have h7 := hlL (by omega); omega)
   replace KM2 := KM2.grownO hgr (fun e9 => by have h8 := hoT _ e9; omega)
   replace KM4 := KM4.grownO hgr (fun e9 => by have h8 := hoT _ e9; omega)
   replace KM6 := KM6.grownO hgr (fun e9 => by have h8 := hoT _ e9; omega)
   have zW12 := hb.size
   have HT := hg9
   clear hg9 hb h9 hgr
   refine Zv rfl (v9) (Yn ?_)
   refine sx_in ?_
   refine Yo (Yr (Zv rfl (.int .i64 ((i : Nat) : Int)) (Zi rfl (IntKind.i64.wrap (((i : Nat) : Int) + 1)) (((i + 1 : Nat) : Int)) (by rw [IntKind.wrap_i64]; omega) (Zv rfl (.int .i64 ((i + 1 : Nat) : Int)) (Yn (Yo ?_))))))
   rw [← CrT.ltP_succ] at HT
   exact sx_again ((crs x ty st l).n - (i + 1)) (i + 1, v9) (by omega) (by kernel_rfl) ⟨by show i + 1 ≤ _; omega, Nat.le_refl _, HT, hLs, HB, (by show _ ≤ _; omega), KM2, KM4, KM6⟩
  refine Zb rfl (decide (((i : Nat) : Int) < (((slkL x ty st l F S).length : Nat) : Int))) false (decide_eq_false (by omega)) (Yn (Yo (sx_false (by kernel_rfl) (wp_exit ?_))))
  refine sx_es ?_
  refine sx_es ?_
  refine sx_out ?_
  refine Yo (Yq (Zv rfl (vS) (Zv rfl (vS) (Zv rfl (.int .i64 0) (Yn (Yo (wp_ret ?_)))))))
  obtain rfl : i = (crs x ty st l).n := by omega
  obtain ⟨oz, cz, rfl⟩ := Ol.form HT
  obtain ⟨bz, qz, hrz, hbz⟩ := Ol.rwB inRow 0 HT
  have h8 : ltsL x ty st l F S = ((crs x ty st l).ltP S.rts (crs x ty st l).n) := if_pos C1
  refine sx_ret2 (.slice oz ((crs x ty st l).ltP S.rts (crs x ty st l).n).length cz) (.int .i64 0) rfl rfl rfl (by kernel_rfl) (by kernel_rfl) ⟨oz, cz, bz, qz, by rw [h8, C1], by rw [h8]; exact hrz, fun i hi => by rw [h8] at hi; have h7 := hbz i hi; omega, HB⟩
 refine Zv rfl (.tuple #[.slice oL (slkL x ty st l F S).length cL, .int .i64 (chkE x ty st l F S)]) (Zv rfl (.slice oL (slkL x ty st l F S).length cL) (Zv rfl (.int .i64 (chkE x ty st l F S)) (Zv rfl (.slice oL (slkL x ty st l F S).length cL) (Zv rfl (.int .i64 (chkE x ty st l F S)) (Yn (Yo (Ys (Yq (Zv rfl (.int .i64 (chkE x ty st l F S)) (Zb rfl (((chkE x ty st l F S) : Int) != (0 : Int)) true (bne_iff_ne.2 (by omega)) (Yn (Yo (sx_true (by kernel_rfl) (Yq (Zv rfl (.int .i64 (chkE x ty st l F S)) ?_)))))))))))))))
 refine Zv rfl (.slice none 0 0) (Zv rfl (.int .i64 (chkE x ty st l F S)) (Yn (Yo (wp_ret (sx_rs ?_)))))
 have h8 : ltsL x ty st l F S = [] := if_neg C1
 refine sx_ret2 (.slice none 0 0) (.int .i64 (chkE x ty st l F S)) rfl rfl rfl (by kernel_rfl) (by kernel_rfl) ⟨none, 0, 0, 0, by rw [h8]; rfl, by rw [h8]; exact fun i hi => absurd hi (Nat.not_lt_zero i), fun i hi => by rw [h8] at hi; exact absurd hi (Nat.not_lt_zero i), HB⟩

end Go.Proofs.YtomebalolmabnaaGreatDoor.T



/-! SlackFinds: its walk (by gen_jm.py). -/
namespace Go.Proofs.YtomebalolmabnaaGreatDoor.T
open Go.RowKit
set_option maxRecDepth 8000
attribute [local irreducible] wpList Code.wp wpAnyH

theorem few_l2 {x : InT} {l : List (Int × Bool)} {F : List Bool} {S : ShT} (h : fewB x l F S = true) : l.length ≤ 10 := by
 unfold fewB at h
 simp only [Bool.and_eq_true, decide_eq_true_eq] at h
 exact h.1.1.1.2
theorem slk_len {x : InT} {ty st : Int} {l : List (Int × Bool)} {F : List Bool} {S : ShT} (hl : l.length ≤ 10) : (slkL x ty st l F S).length ≤ 1000000 ∧ (ltsL x ty st l F S).length ≤ 1000000 := by
 have hn := crs_n x ty st l
 unfold slkL ltsL
 split
 ·rw [CrT.slL_len, CrT.latL_len]; omega
 ·exact ⟨Nat.zero_le _, Nat.zero_le _⟩
theorem slackFinds_walk (k : Iv) (x : InT) (hx : InU x) (ty st : Int) (orr oa oS : Option Addr) (cr ca cS b o bf qf bS qS : Nat) (l : List (Int × Bool)) (F : List Bool) (S : ShT) (lS : S.T.length ≤ 300000) (hcS : S.T.length ≤ cS) (w : World) (hT : Tab w) (hI : Ins w k x) (hl : Rw w b o 2 (vF l) l.length oa) (hFx : Rw w bf qf 1 (bF F) F.length orr) (hST : Rw w bS qS 4 (fun k => tmE (S.T.getD k tm0)) S.T.length oS) : Calls Tryz.prog 3 #[.agg #[.slice k.o0 x.pl.length k.c0, .slice k.o1 x.al.length k.c1, .slice k.o2 x.tl.length k.c2, .slice k.o3 x.ol.length k.c3, .slice k.o4 x.ap.length k.c4, .slice k.o5 x.be.length k.c5, .int .i64 ty, .int .i64 st, .slice orr F.length cr, .slice oa l.length ca, .bool S.r, .int .i64 S.d, .slice oS S.T.length cS, .int .i64 S.e, .int .i64 S.m]] w fun e w' => e = .returned (.bool true) ∧ Below w.heap.size w w' := by
 have HB : Below w.heap.size w w := Below.refl _ _
 refine sx_enter Tryz.func3 rfl [(0, .agg #[.slice k.o0 x.pl.length k.c0, .slice k.o1 x.al.length k.c1, .slice k.o2 x.tl.length k.c2, .slice k.o3 x.ol.length k.c3, .slice k.o4 x.ap.length k.c4, .slice k.o5 x.be.length k.c5, .int .i64 ty, .int .i64 st, .slice orr F.length cr, .slice oa l.length ca, .bool S.r, .int .i64 S.d, .slice oS S.T.length cS, .int .i64 S.e, .int .i64 S.m])] (by kernel_rfl) ?_
 refine Yq ?_
 refine Za rfl #[.slice k.o0 x.pl.length k.c0, .slice k.o1 x.al.length k.c1, .slice k.o2 x.tl.length k.c2, .slice k.o3 x.ol.length k.c3, .slice k.o4 x.ap.length k.c4, .slice k.o5 x.be.length k.c5, .int .i64 ty, .int .i64 st, .slice orr F.length cr, .slice oa l.length ca, .bool S.r, .int .i64 S.d, .slice oS S.T.length cS, .int .i64 S.e, .int .i64 S.m] 39 (fun W1 hb M2 z1 yM2 => ?_)
 replace HB := over HB hb
 clear hb
 refine Zv rfl (.bool false) (Yn (Yo (Ys (Yq (Zw rfl (.agg #[.slice k.o0 x.pl.length k.c0, .slice k.o1 x.al.length k.c1, .slice k.o2 x.tl.length k.c2, .slice k.o3 x.ol.length k.c3, .slice k.o4 x.ap.length k.c4, .slice k.o5 x.be.length k.c5, .int .i64 ty, .int .i64 st, .slice orr F.length cr, .slice oa l.length ca, .bool S.r, .int .i64 S.d, .slice oS S.T.length cS, .int .i64 S.e, .int .i64 S.m]) (ex_load rfl M2 (by kernel_rfl) Tryz.underlying39 rfl (by kernel_rfl)) ?_)))))
 by_cases C1 : fewB x l F S = true
 ·refine Zd rfl ((by have h8 := few_n k x hx ty st orr oa oS cr ca cS l F S W1 (hI.below HB); rw [C1] at h8; exact h8)) (fun W3 hb z2 => ?_)
  replace HB := over HB hb
  replace M2 := M2.below hb
  clear hb
  have hin : inF x = [] := few_is C1
  have hlf := few_l2 C1
  have hal := Nat.le_trans hx.al (show 1000000 ≤ 1000000000 by decide)
  refine Zv rfl (.bool false) (Yn (Yo (sx_false (by kernel_rfl) (wp_skip (Yo (Yq (Zv rfl (pt w.heap.size 0) (Zw rfl (.agg (iK k x)) (ex_mid (q := 0) rfl M2 [.slice k.o0 x.pl.length k.c0, .slice k.o1 x.al.length k.c1, .slice k.o2 x.tl.length k.c2, .slice k.o3 x.ol.length k.c3, .slice k.o4 x.ap.length k.c4, .slice k.o5 x.be.length k.c5] (by kernel_rfl) Tryz.underlying30 rfl (by kernel_rfl) rfl) (Zv rfl (pt w.heap.size 6) (Zw rfl (.agg (rK ty st orr F.length cr oa l.length ca)) (ex_mid (q := 6) rfl M2 [.int .i64 ty, .int .i64 st, .slice orr F.length cr, .slice oa l.length ca] (by kernel_rfl) Tryz.underlying34 rfl (by kernel_rfl) rfl) (Zv rfl (pt w.heap.size 10) (Zw rfl (.agg (sK S oS cS)) (ex_mid (q := 10) rfl M2 [.bool S.r, .int .i64 S.d, .slice oS S.T.length cS, .int .i64 S.e, .int .i64 S.m] (by kernel_rfl) Tryz.underlying37 rfl (by kernel_rfl) rfl) ?_))))))))))))
  refine Zc rfl (sSlack_n k x ty st orr oa oS cr ca cS b o bf qf bS qS l F S lS (fun hp => crs_ok hin hx.al hp) W3 (hI.below HB) (hT.belowD HB) (hl.below HB) (hFx.below HB) (hST.below HB)) ?_
  rintro e W4 ⟨oA, cA, bA, qA, rfl, hSA, -, hb⟩
  have hltA : ∀ i, i < (slkL x ty st l F S).length → bA < W4.heap.size := fun i hi => hSA.lt hi
  replace HB := over HB hb
  replace M2 := M2.below hb
  have z3 := hb.size
  clear hb
  refine ⟨_, rfl, ?_⟩
  refine Zv rfl (.tuple #[.slice oA (slkL x ty st l F S).length cA, .int .i64 (chkE x ty st l F S)]) (Zv rfl (.slice oA (slkL x ty st l F S).length cA) (Zv rfl (.int .i64 (chkE x ty st l F S)) (Zv rfl (.slice oA (slkL x ty st l F S).length cA) (Zv rfl (.int .i64 (chkE x ty st l F S)) (Yn (Yo (Yq (Zv rfl (pt w.heap.size 0) (Zw rfl (.agg (iK k x)) (ex_mid (q := 0) rfl M2 [.slice k.o0 x.pl.length k.c0, .slice k.o1 x.al.length k.c1, .slice k.o2 x.tl.length k.c2, .slice k.o3 x.ol.length k.c3, .slice k.o4 x.ap.length k.c4, .slice k.o5 x.be.length k.c5] (by kernel_rfl) Tryz.underlying30 rfl (by kernel_rfl) rfl) (Zv rfl (pt w.heap.size 6) (Zw rfl (.agg (rK ty st orr F.length cr oa l.length ca)) (ex_mid (q := 6) rfl M2 [.int .i64 ty, .int .i64 st, .slice orr F.length cr, .slice oa l.length ca] (by kernel_rfl) Tryz.underlying34 rfl (by kernel_rfl) rfl) (Zv rfl (pt w.heap.size 10) (Zw rfl (.agg (sK S oS cS)) (ex_mid (q := 10) rfl M2 [.bool S.r, .int .i64 S.d, .slice oS S.T.length cS, .int .i64 S.e, .int .i64 S.m] (by kernel_rfl) Tryz.underlying37 rfl (by kernel_rfl) rfl) ?_)))))))))))))
  refine Zc rfl (slack19_n k x hal hx.ol ty st orr oa oS cr ca cS b o bf qf bS qS l F S lS hcS (fun hp => crs_ok hin hx.al hp) W4 (hI.below HB) (hl.below HB) (hFx.below HB) (hST.below HB)) ?_
  rintro e W5 ⟨oB, cB, bB, qB, rfl, hSB, -, hb⟩
  have hltB : ∀ i, i < (slkL x ty st l F S).length → bB < W5.heap.size := fun i hi => hSB.lt hi
  replace HB := over HB hb
  replace M2 := M2.below hb
  replace hSA := hSA.below hb
  have z4 := hb.size
  clear hb
  refine ⟨_, rfl, ?_⟩
  refine Zv rfl (.tuple #[.slice oB (slkL x ty st l F S).length cB, .int .i64 (chkE x ty st l F S)]) (Zv rfl (.slice oB (slkL x ty st l F S).length cB) (Zv rfl (.int .i64 (chkE x ty st l F S)) (Zv rfl (.slice oB (slkL x ty st l F S).length cB) (Zv rfl (.int .i64 (chkE x ty st l F S)) (Yn (Yo (Yq (Zv rfl (pt w.heap.size 0) (Zw rfl (.agg (iK k x)) (ex_mid (q := 0) rfl M2 [.slice k.o0 x.pl.length k.c0, .slice k.o1 x.al.length k.c1, .slice k.o2 x.tl.length k.c2, .slice k.o3 x.ol.length k.c3, .slice k.o4 x.ap.length k.c4, .slice k.o5 x.be.length k.c5] (by kernel_rfl) Tryz.underlying30 rfl (by kernel_rfl) rfl) (Zv rfl (pt w.heap.size 6) (Zw rfl (.agg (rK ty st orr F.length cr oa l.length ca)) (ex_mid (q := 6) rfl M2 [.int .i64 ty, .int .i64 st, .slice orr F.length cr, .slice oa l.length ca] (by kernel_rfl) Tryz.underlying34 rfl (by kernel_rfl) rfl) (Zv rfl (pt w.heap.size 10) (Zw rfl (.agg (sK S oS cS)) (ex_mid (q := 10) rfl M2 [.bool S.r, .int .i64 S.d, .slice oS S.T.length cS, .int .i64 S.e, .int .i64 S.m] (by kernel_rfl) Tryz.underlying37 rfl (by kernel_rfl) rfl) ?_)))))))))))))
  refine Zc rfl (sLatest_n k x ty st orr oa oS cr ca cS b o bf qf bS qS l F S lS (fun hp => crs_ok hin hx.al hp) W5 (hI.below HB) (hT.belowD HB) (hl.below HB) (hFx.below HB) (hST.below HB)) ?_
  rintro e W6 ⟨oC, cC, bC, qC, rfl, hSC, -, hb⟩
  have hltC : ∀ i, i < (ltsL x ty st l F S).length → bC < W6.heap.size := fun i hi => hSC.lt hi
  replace HB := over HB hb
  replace M2 := M2.below hb
  replace hSA := hSA.below hb
  replace hSB := hSB.below hb
  have z5 := hb.size
  clear hb
  refine ⟨_, rfl, ?_⟩
  refine Zv rfl (.tuple #[.slice oC (ltsL x ty st l F S).length cC, .int .i64 (chkE x ty st l F S)]) (Zv rfl (.slice oC (ltsL x ty st l F S).length cC) (Zv rfl (.int .i64 (chkE x ty st l F S)) (Zv rfl (.slice oC (ltsL x ty st l F S).length cC) (Zv rfl (.int .i64 (chkE x ty st l F S)) (Yn (Yo (Yq (Zv rfl (pt w.heap.size 0) (Zw rfl (.agg (iK k x)) (ex_mid (q := 0) rfl M2 [.slice k.o0 x.pl.length k.c0, .slice k.o1 x.al.length k.c1, .slice k.o2 x.tl.length k.c2, .slice k.o3 x.ol.length k.c3, .slice k.o4 x.ap.length k.c4, .slice k.o5 x.be.length k.c5] (by kernel_rfl) Tryz.underlying30 rfl (by kernel_rfl) rfl) (Zv rfl (pt w.heap.size 6) (Zw rfl (.agg (rK ty st orr F.length cr oa l.length ca)) (ex_mid (q := 6) rfl M2 [.int .i64 ty, .int .i64 st, .slice orr F.length cr, .slice oa l.length ca] (by kernel_rfl) Tryz.underlying34 rfl (by kernel_rfl) rfl) (Zv rfl (pt w.heap.size 10) (Zw rfl (.agg (sK S oS cS)) (ex_mid (q := 10) rfl M2 [.bool S.r, .int .i64 S.d, .slice oS S.T.length cS, .int .i64 S.e, .int .i64 S.m] (by kernel_rfl) Tryz.underlying37 rfl (by kernel_rfl) rfl) ?_)))))))))))))
  refine Zc rfl (latest19_n k x hal hx.ol ty st orr oa oS cr ca cS b o bf qf bS qS l F S lS hcS (fun hp => crs_ok hin hx.al hp) W6 (hI.below HB) (hl.below HB) (hFx.below HB) (hST.below HB)) ?_
  rintro e W7 ⟨oD, cD, bD, qD, rfl, hSD, -, hb⟩
  have hltD : ∀ i, i < (ltsL x ty st l F S).length → bD < W7.heap.size := fun i hi => hSD.lt hi
  replace HB := over HB hb
  replace hSA := hSA.below hb
  replace hSB := hSB.below hb
  replace hSC := hSC.below hb
  have z6 := hb.size
  clear hb
  refine ⟨_, rfl, ?_⟩
  refine Zv rfl (.tuple #[.slice oD (ltsL x ty st l F S).length cD, .int .i64 (chkE x ty st l F S)]) (Zv rfl (.slice oD (ltsL x ty st l F S).length cD) (Zv rfl (.int .i64 (chkE x ty st l F S)) (Zv rfl (.slice oD (ltsL x ty st l F S).length cD) (Zv rfl (.int .i64 (chkE x ty st l F S)) (Yn (Yo (Yq (Zv rfl (.slice oA (slkL x ty st l F S).length cA) (Zv rfl (.slice oB (slkL x ty st l F S).length cB) ?_)))))))))
  refine Zd rfl ((by have h8 := numbers_n (slkL x ty st l F S) (slkL x ty st l F S) oA oB cA cB bA qA bB qB (slk_len hlf).1 W7 hSA hSB; rw [decide_eq_true (rfl : (slkL x ty st l F S) = (slkL x ty st l F S))] at h8; exact h8)) (fun W8 hb z7 => ?_)
  replace HB := over HB hb
  replace hSC := hSC.below hb
  replace hSD := hSD.below hb
  clear hb
  refine Zv rfl (.bool true) (Zv rfl (.int .i64 (chkE x ty st l F S)) (Zv rfl (.int .i64 (chkE x ty st l F S)) (Zb rfl (((chkE x ty st l F S) : Int) == ((chkE x ty st l F S) : Int)) true (by simp) (Zv rfl (.bool true) (Zv rfl (.bool true) (Zv rfl (.slice oC (ltsL x ty st l F S).length cC) (Zv rfl (.slice oD (ltsL x ty st l F S).length cD) ?_)))))))
  refine Zd rfl ((by have h8 := numbers_n (ltsL x ty st l F S) (ltsL x ty st l F S) oC oD cC cD bC qC bD qD (slk_len hlf).2 W8 hSC hSD; rw [decide_eq_true (rfl : (ltsL x ty st l F S) = (ltsL x ty st l F S))] at h8; exact h8)) (fun W9 hb z8 => ?_)
  replace HB := over HB hb
  clear hb
  refine Zv rfl (.bool true) (Zv rfl (.bool true) (Zv rfl (.int .i64 (chkE x ty st l F S)) (Zv rfl (.int .i64 (chkE x ty st l F S)) (Zb rfl (((chkE x ty st l F S) : Int) == ((chkE x ty st l F S) : Int)) true (by simp) (Zv rfl (.bool true) (Zv rfl (.bool true) ?_))))))
  refine Zd rfl (awake19_n W9 (hT.belowD HB)) (fun W10 hb z9 => ?_)
  replace HB := over HB hb
  clear hb
  refine Zv rfl (.bool true) (Zv rfl (.bool true) (Yn (Yo (wp_ret ?_))))
  exact sx_ret1 (.bool true) rfl rfl (by kernel_rfl) ⟨rfl, HB⟩
 refine Zd rfl ((by have h8 := few_n k x hx ty st orr oa oS cr ca cS l F S W1 (hI.below HB); rw [show fewB x l F S = false by simpa using C1] at h8; exact h8)) (fun W11 hb z2 => ?_)
 replace HB := over HB hb
 clear hb
 refine Zv rfl (.bool true) (Yn (Yo (sx_true (by kernel_rfl) (Yq ?_))))
 refine Zd rfl (awake19_n W11 (hT.belowD HB)) (fun W12 hb z3 => ?_)
 replace HB := over HB hb
 clear hb
 refine Zv rfl (.bool true) (Yn (Yo (wp_ret (sx_rs ?_))))
 exact sx_ret1 (.bool true) rfl rfl (by kernel_rfl) ⟨rfl, HB⟩

end Go.Proofs.YtomebalolmabnaaGreatDoor.T



