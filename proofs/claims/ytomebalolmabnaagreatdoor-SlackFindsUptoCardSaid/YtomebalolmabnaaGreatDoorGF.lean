/-
  DERIVED. GF: a part of the base of layer 13 (made by pack.py).
-/
import Derived.Test.YtomebalolmabnaaGreatDoorGA
import Derived.Test.YtomebalolmabnaaGreatDoorDd
import Derived.Test.YtomebalolmabnaaGreatDoorGD
import Derived.Test.YtomebalolmabnaaGreatDoorDn
import Derived.Test.YtomebalolmabnaaGreatDoorHS
import Derived.Test.YtomebalolmabnaaGreatDoorRefIn3
import Derived.Laws.MakeOwn
/-! The walks of drive: check, Since, Valid (by gen_do.py). -/
namespace Go.Proofs.YtomebalolmabnaaGreatDoor.T
open Go.RowKit
set_option maxRecDepth 8000
attribute [local irreducible] wpList Code.wp wpAnyH

def chkE (x : InT) (ty st : Int) (l : List (Int × Bool)) (F : List Bool) (S : ShT) : Int :=
 if posD x.tl x.ol ty st l = true ∧ F.length ≤ l.length + 1 ∧ S.T.length = l.length then
  (if S.rts.take F.length = F then
   (if (crs x ty st l).run S.rts (crs x ty st l).n = 0 then (if (crs x ty st l).sheet S.rts = S then 0 else 9) else (crs x ty st l).run S.rts (crs x ty st l).n)
  else 9)
 else 2
def chkL (x : InT) (ty st : Int) (l : List (Int × Bool)) (F : List Bool) (S : ShT) : List LegT := if chkE x ty st l F S = 0 then (crs x ty st l).legs S.rts (crs x ty st l).n else []
theorem chkL_no {x : InT} {ty st : Int} {l : List (Int × Bool)} {F : List Bool} {S : ShT} (h : chkE x ty st l F S ≠ 0) : chkL x ty st l F S = [] := if_neg h
theorem chkE_2 {x : InT} {ty st : Int} {l : List (Int × Bool)} {F : List Bool} {S : ShT} (h : posD x.tl x.ol ty st l = false ∨ l.length + 1 < F.length ∨ S.T.length ≠ l.length) : chkE x ty st l F S = 2 := by
 unfold chkE
 rw [if_neg]
 rintro ⟨h1, h2, h3⟩
 rcases h with h | h | h
 ·rw [h] at h1; cases h1
 ·omega
 ·exact h h3
section
variable {x : InT} {ty st : Int} {l : List (Int × Bool)} {F : List Bool} {S : ShT} (h1 : posD x.tl x.ol ty st l = true) (h2 : F.length ≤ l.length + 1) (h3 : S.T.length = l.length)
include h1 h2 h3
theorem chkE_9 (h4 : ¬ S.rts.take F.length = F) : chkE x ty st l F S = 9 := by unfold chkE; rw [if_pos ⟨h1, h2, h3⟩, if_neg h4]
theorem chkE_r (h4 : S.rts.take F.length = F) (h5 : ¬ (crs x ty st l).run S.rts (crs x ty st l).n = 0) : chkE x ty st l F S = (crs x ty st l).run S.rts (crs x ty st l).n := by unfold chkE; rw [if_pos ⟨h1, h2, h3⟩, if_pos h4, if_neg h5]
theorem chkE_s (h4 : S.rts.take F.length = F) (h5 : (crs x ty st l).run S.rts (crs x ty st l).n = 0) (h6 : ¬ (crs x ty st l).sheet S.rts = S) : chkE x ty st l F S = 9 := by unfold chkE; rw [if_pos ⟨h1, h2, h3⟩, if_pos h4, if_pos h5, if_neg h6]
theorem chkE_0 (h4 : S.rts.take F.length = F) (h5 : (crs x ty st l).run S.rts (crs x ty st l).n = 0) (h6 : (crs x ty st l).sheet S.rts = S) : chkE x ty st l F S = 0 := by unfold chkE; rw [if_pos ⟨h1, h2, h3⟩, if_pos h4, if_pos h5, if_pos h6]
end
theorem take_row {w : World} {b q : Nat} {R : List Bool} {oa : Option Addr} {j : Nat} (h : Rw w b q 1 (bF R) R.length oa) (hj : j ≤ R.length) : Rw w b q 1 (bF (R.take j)) (R.take j).length oa := fun k hk => by
 rw [List.length_take] at hk
 obtain ⟨h1, h2, h3⟩ := h k (by omega)
 refine ⟨h1, h2, fun i v hi => h3 i v ?_⟩
 have e : (R.take j).getD k false = R.getD k false := by rw [List.getD_eq_getElem?_getD, List.getD_eq_getElem?_getD, List.getElem?_take_of_lt (by omega)]
 unfold bF at hi ⊢
 rw [← e]; exact hi
theorem drvCheck_n (k : Iv) (x : InT) (ty st : Int) (orr oa oS : Option Addr) (cr ca cS b o bf qf bS qS : Nat) (l : List (Int × Bool)) (F : List Bool) (S : ShT) (lS : S.T.length ≤ 300000) (hok : posD x.tl x.ol ty st l = true → (crs x ty st l).Ok) (w : World) (hI : Ins w k x) (hT : Tab w) (hl : Rw w b o 2 (vF l) l.length oa) (hFx : Rw w bf qf 1 (bF F) F.length orr) (hST : Rw w bS qS 4 (fun k => tmE (S.T.getD k tm0)) S.T.length oS) : Calls Tryz.prog 47 #[.agg (iK k x), .agg (rK ty st orr F.length cr oa l.length ca), .agg (sK S oS cS)] w fun e w' => ∃ ol cl bl ql, e = .returned (.tuple #[.slice ol (chkL x ty st l F S).length cl, .int .i64 (chkE x ty st l F S)]) ∧ Rw w' bl ql 6 (fun k => legE ((chkL x ty st l F S).getD k leg0)) (chkL x ty st l F S).length ol ∧ Below w.heap.size w w' := by
 have HB : Below w.heap.size w w := Below.refl _ _
 refine sx_enter Tryz.func47 rfl [(0, .agg (iK k x)), (1, .agg (rK ty st orr F.length cr oa l.length ca)), (2, .agg (sK S oS cS))] (by kernel_rfl) ?_
 refine Yq ?_
 refine Za rfl (iK k x) 30 (fun W1 hb M2 z1 yM2 => ?_)
 replace HB := over HB hb
 clear hb
 refine Za rfl (rK ty st orr F.length cr oa l.length ca) 34 (fun W3 hb M4 z2 yM4 => ?_)
 replace HB := over HB hb
 replace M2 := M2.below hb
 clear hb
 refine Za rfl (sK S oS cS) 37 (fun W5 hb M6 z3 yM6 => ?_)
 replace HB := over HB hb
 replace M2 := M2.below hb
 replace M4 := M4.below hb
 clear hb
 refine Zv rfl (.slice none 0 0) (Zv rfl (.int .i64 0) (Yn (Yo (Yq (Zw rfl (.agg (iK k x)) (ex_load rfl M2 (by kernel_rfl) Tryz.underlying30 rfl (by kernel_rfl)) (Zw rfl (.agg (rK ty st orr F.length cr oa l.length ca)) (ex_load rfl M4 (by kernel_rfl) Tryz.underlying34 rfl (by kernel_rfl)) ?_))))))
 refine Zc rfl (courseOf_n k x ty st orr oa F.length cr ca b o l W5 (hI.below HB) (hT.belowD HB) (hl.below HB)) ?_
 rintro e W7 ⟨hcs, hb⟩
 replace HB := over HB hb
 replace M2 := M2.below hb
 replace M4 := M4.below hb
 replace M6 := M6.below hb
 have z4 := hb.size
 clear hb
 rcases hcs with ⟨hp9, rfl⟩ | ⟨K, q, hp9, rfl, hK9⟩
 ·refine ⟨_, rfl, ?_⟩
  refine Zv rfl (.tuple #[.pointer none, .bool false]) (Zv rfl (.pointer none) (Zv rfl (.bool false) (Zv rfl (.pointer none) (Zv rfl (.bool false) (Yn (Yo (Ys (Ys ?_))))))))
  obtain ⟨Y8, hW⟩ : ∃ W, W7.drew = W := ⟨_, rfl⟩
  have hb : Below W7.heap.size W7 Y8 := hW ▸ below_drew (Below.refl _ _)
  replace HB := over HB hb
  replace M2 := M2.below hb
  replace M4 := M4.below hb
  replace M6 := M6.below hb
  have z5 := hb.size
  clear hb
  refine sd_begin (fun W => Cb W (w.heap.size) (iK k x) 30 ∧ Cb W (W1.heap.size) (rK ty st orr F.length cr oa l.length ca) 34 ∧ Cb W (W3.heap.size) (sK S oS cS) 37 ∧ True) (by kernel_rfl) (by rw [hW]; exact ⟨M2, M4, M6, trivial⟩) ?_
  rw [hW]
  clear hW
  refine Zu 0 rfl rfl (.bool false) ⟨M2, M4, M6, trivial⟩ ?_
  refine Zu 1 rfl rfl (.bool true) ⟨M2, M4, M6, trivial⟩ ?_
  refine Zu 2 rfl rfl (.bool true) ⟨M2, M4, M6, trivial⟩ ?_
  refine Zp 3 rfl rfl ⟨M2, M4, M6, trivial⟩ ?_
  refine Zp 4 rfl rfl ⟨M2, M4, M6, trivial⟩ ?_
  refine Zp 5 rfl rfl ⟨M2, M4, M6, trivial⟩ ?_
  refine Zp 6 rfl rfl ⟨M2, M4, M6, trivial⟩ ?_
  refine Zp 7 rfl rfl ⟨M2, M4, M6, trivial⟩ ?_
  refine Zp 8 rfl rfl ⟨M2, M4, M6, trivial⟩ ?_
  refine Zu 9 rfl rfl (.bool true) ⟨M2, M4, M6, trivial⟩ ?_
  refine Zu 10 rfl rfl (.bool true) ⟨M2, M4, M6, trivial⟩ ?_
  refine Zp 11 rfl rfl ⟨M2, M4, M6, trivial⟩ ?_
  refine Zp 12 rfl rfl ⟨M2, M4, M6, trivial⟩ ?_
  refine Zp 13 rfl rfl ⟨M2, M4, M6, trivial⟩ ?_
  refine Zp 14 rfl rfl ⟨M2, M4, M6, trivial⟩ ?_
  refine Zp 15 rfl rfl ⟨M2, M4, M6, trivial⟩ ?_
  refine Zp 16 rfl rfl ⟨M2, M4, M6, trivial⟩ ?_
  refine Zp 17 rfl rfl ⟨M2, M4, M6, trivial⟩ ?_
  refine Zu 18 rfl rfl (.bool true) ⟨M2, M4, M6, trivial⟩ ?_
  refine sd_done (by kernel_rfl) ?_
  refine Yo (sx_true (by kernel_rfl) (Yq (Zv rfl (.slice none 0 0) (Zv rfl (.int .i64 2) (Yn (Yo (wp_ret (sx_rs ?_))))))))
  have h9 : chkE x ty st l F S = 2 := chkE_2 (.inl hp9)
  have h8 := chkL_no (x := x) (ty := ty) (st := st) (l := l) (F := F) (S := S) (by rw [h9]; decide)
  refine sx_ret2 (.slice none 0 0) (.int .i64 2) rfl rfl rfl (by kernel_rfl) (by kernel_rfl) ⟨none, 0, 0, 0, by rw [h8, h9]; rfl, by rw [h8]; exact fun i hi => absurd hi (Nat.not_lt_zero i), HB⟩
 have hc := hok hp9
 have hcn9 : (crs x ty st l).n = l.length + 1 := crs_n x ty st l
 have hln := hc.len
 have hcn : (crs x ty st l).n ≤ 21 := by unfold CrT.n; omega
 refine ⟨_, rfl, ?_⟩
 refine Zv rfl (.tuple #[.pointer (some ⟨q, 0, none⟩), .bool true]) (Zv rfl (pt q 0) (Zv rfl (.bool true) (Zv rfl (pt q 0) (Zv rfl (.bool true) (Yn (Yo (Ys (Ys ?_))))))))
 obtain ⟨Y9, hW⟩ : ∃ W, W7.drew = W := ⟨_, rfl⟩
 have hb : Below W7.heap.size W7 Y9 := hW ▸ below_drew (Below.refl _ _)
 replace HB := over HB hb
 replace M2 := M2.below hb
 replace M4 := M4.below hb
 replace M6 := M6.below hb
 replace hK9 := hK9.below hb
 have z5 := hb.size
 clear hb
 refine sd_begin (fun W => Cb W (w.heap.size) (iK k x) 30 ∧ Cb W (W1.heap.size) (rK ty st orr F.length cr oa l.length ca) 34 ∧ Cb W (W3.heap.size) (sK S oS cS) 37 ∧ True) (by kernel_rfl) (by rw [hW]; exact ⟨M2, M4, M6, trivial⟩) ?_
 rw [hW]
 clear hW
 refine Zu 0 rfl rfl (.bool true) ⟨M2, M4, M6, trivial⟩ ?_
 refine Zu 1 rfl rfl (.bool false) ⟨M2, M4, M6, trivial⟩ ?_
 refine Zu 2 rfl rfl (.bool false) ⟨M2, M4, M6, trivial⟩ ?_
 refine Zu 3 rfl rfl (pt W1.heap.size 2) ⟨M2, M4, M6, trivial⟩ ?_
 refine Zt 4 rfl rfl (.slice orr F.length cr) (fun w9 h9 => el (h9.2.1.cell 2 rfl) Tryz.underlying31) ⟨M2, M4, M6, trivial⟩ ?_
 refine Zu 5 rfl rfl (.int .i64 ((F.length : Nat) : Int)) ⟨M2, M4, M6, trivial⟩ ?_
 refine Zu 6 rfl rfl (pt q 0) ⟨M2, M4, M6, trivial⟩ ?_
 refine sd_all [7] (by kernel_rfl) (by decide) ?_
 refine sd_call (i := 7) rfl (by kernel_rfl) rfl rfl (ways_n (crs x ty st l) hc K q Y9 hK9) (by kernel_rfl) ?_ AllReadyH.nil
 rintro e w9 ⟨rfl, rfl⟩
 refine ⟨_, rfl, ⟨M2, M4, M6, trivial⟩, ?_⟩
 by_cases C1 : F.length > (crs x ty st l).n
 ·refine Zt 8 rfl rfl (.bool true) (fun w9 _ => ex_bool (decide (((F.length : Nat) : Int) > (((crs x ty st l).n : Nat) : Int))) true (by kernel_rfl) (decide_eq_true (by omega))) ⟨M2, M4, M6, trivial⟩ ?_
  refine Zu 9 rfl rfl (.bool true) ⟨M2, M4, M6, trivial⟩ ?_
  refine Zu 10 rfl rfl (.bool true) ⟨M2, M4, M6, trivial⟩ ?_
  refine Zp 11 rfl rfl ⟨M2, M4, M6, trivial⟩ ?_
  refine Zp 12 rfl rfl ⟨M2, M4, M6, trivial⟩ ?_
  refine Zp 13 rfl rfl ⟨M2, M4, M6, trivial⟩ ?_
  refine Zp 14 rfl rfl ⟨M2, M4, M6, trivial⟩ ?_
  refine Zp 15 rfl rfl ⟨M2, M4, M6, trivial⟩ ?_
  refine Zp 16 rfl rfl ⟨M2, M4, M6, trivial⟩ ?_
  refine Zp 17 rfl rfl ⟨M2, M4, M6, trivial⟩ ?_
  refine Zu 18 rfl rfl (.bool true) ⟨M2, M4, M6, trivial⟩ ?_
  refine sd_done (by kernel_rfl) ?_
  refine Yo (sx_true (by kernel_rfl) (Yq (Zv rfl (.slice none 0 0) (Zv rfl (.int .i64 2) (Yn (Yo (wp_ret (sx_rs ?_))))))))
  have h9 : chkE x ty st l F S = 2 := chkE_2 (.inr (by omega))
  have h8 := chkL_no (x := x) (ty := ty) (st := st) (l := l) (F := F) (S := S) (by rw [h9]; decide)
  refine sx_ret2 (.slice none 0 0) (.int .i64 2) rfl rfl rfl (by kernel_rfl) (by kernel_rfl) ⟨none, 0, 0, 0, by rw [h8, h9]; rfl, by rw [h8]; exact fun i hi => absurd hi (Nat.not_lt_zero i), HB⟩
 refine Zt 8 rfl rfl (.bool false) (fun w9 _ => ex_bool (decide (((F.length : Nat) : Int) > (((crs x ty st l).n : Nat) : Int))) false (by kernel_rfl) (decide_eq_false (by omega))) ⟨M2, M4, M6, trivial⟩ ?_
 refine Zu 9 rfl rfl (.bool false) ⟨M2, M4, M6, trivial⟩ ?_
 refine Zu 10 rfl rfl (.bool false) ⟨M2, M4, M6, trivial⟩ ?_
 refine Zu 11 rfl rfl (pt W3.heap.size 2) ⟨M2, M4, M6, trivial⟩ ?_
 refine Zt 12 rfl rfl (.slice oS S.T.length cS) (fun w9 h9 => el (h9.2.2.1.cell 2 rfl) Tryz.underlying35) ⟨M2, M4, M6, trivial⟩ ?_
 refine Zu 13 rfl rfl (.int .i64 ((S.T.length : Nat) : Int)) ⟨M2, M4, M6, trivial⟩ ?_
 refine Zu 14 rfl rfl (pt W1.heap.size 3) ⟨M2, M4, M6, trivial⟩ ?_
 refine Zt 15 rfl rfl (.slice oa l.length ca) (fun w9 h9 => el (h9.2.1.cell 3 rfl) Tryz.underlying32) ⟨M2, M4, M6, trivial⟩ ?_
 refine Zu 16 rfl rfl (.int .i64 ((l.length : Nat) : Int)) ⟨M2, M4, M6, trivial⟩ ?_
 by_cases C2 : S.T.length = l.length
 ·refine Zt 17 rfl rfl (.bool false) (fun w9 _ => ex_bool ((((S.T.length : Nat) : Int) : Int) != (((l.length : Nat) : Int) : Int)) false (by kernel_rfl) (by rw [bne_eq_false_iff_eq]; omega)) ⟨M2, M4, M6, trivial⟩ ?_
  refine Zu 18 rfl rfl (.bool false) ⟨M2, M4, M6, trivial⟩ ?_
  refine sd_done (by kernel_rfl) ?_
  refine Yo (sx_false (by kernel_rfl) (wp_skip (Yo (Yq (Zw rfl (.agg (sK S oS cS)) (ex_load rfl M6 (by kernel_rfl) Tryz.underlying37 rfl (by kernel_rfl)) ?_)))))
  refine Zc rfl (restsOf_n S oS cS bS qS lS Y9 (hST.below HB)) ?_
  rintro e W10 ⟨bQ, cQ, rfl, hcQ, hQ, hbQ, hb⟩
  replace HB := over HB hb
  replace M2 := M2.below hb
  replace M4 := M4.below hb
  replace M6 := M6.below hb
  replace hK9 := hK9.below hb
  have z6 := hb.size
  clear hb
  refine ⟨_, rfl, ?_⟩
  have hrl := rts_len S
  refine Zv rfl (.slice (some ⟨bQ, 0, none⟩) S.rts.length cQ) (Yn (Yo (Ys (Ys ?_))))
  obtain ⟨Y11, hW⟩ : ∃ W, W10.drew = W := ⟨_, rfl⟩
  have hb : Below W10.heap.size W10 Y11 := hW ▸ below_drew (Below.refl _ _)
  replace HB := over HB hb
  replace M2 := M2.below hb
  replace M4 := M4.below hb
  replace M6 := M6.below hb
  replace hK9 := hK9.below hb
  replace hQ := hQ.below hb
  have z7 := hb.size
  clear hb
  refine sd_begin (fun W => Cb W (w.heap.size) (iK k x) 30 ∧ Cb W (W1.heap.size) (rK ty st orr F.length cr oa l.length ca) 34 ∧ Cb W (W3.heap.size) (sK S oS cS) 37 ∧ True) (by kernel_rfl) (by rw [hW]; exact ⟨M2, M4, M6, trivial⟩) ?_
  rw [hW]
  clear hW
  refine Zu 0 rfl rfl (.slice (some ⟨bQ, 0, none⟩) S.rts.length cQ) ⟨M2, M4, M6, trivial⟩ ?_
  refine Zu 1 rfl rfl (pt W1.heap.size 2) ⟨M2, M4, M6, trivial⟩ ?_
  refine Zt 2 rfl rfl (.slice orr F.length cr) (fun w9 h9 => el (h9.2.1.cell 2 rfl) Tryz.underlying31) ⟨M2, M4, M6, trivial⟩ ?_
  refine Zu 3 rfl rfl (.int .i64 ((F.length : Nat) : Int)) ⟨M2, M4, M6, trivial⟩ ?_
  refine Zt 4 rfl rfl (.slice (some ⟨bQ, 0, none⟩) F.length cQ) (fun w9 h9 => ex_sliceH (b := bQ) (q := 0) (m := S.rts.length) (c := cQ) (k := F.length) (s := 1) rfl (by kernel_rfl) (by kernel_rfl) (by omega) Tryz.underlying31 (by kernel_rfl)) ⟨M2, M4, M6, trivial⟩ ?_
  refine Zu 5 rfl rfl (pt W1.heap.size 2) ⟨M2, M4, M6, trivial⟩ ?_
  refine Zt 6 rfl rfl (.slice orr F.length cr) (fun w9 h9 => el (h9.2.1.cell 2 rfl) Tryz.underlying31) ⟨M2, M4, M6, trivial⟩ ?_
  refine sd_all [7] (by kernel_rfl) (by decide) ?_
  have hta : (S.rts.take F.length).length = F.length := by rw [List.length_take]; omega
  by_cases C3 : (decide (S.rts.take F.length = F)) = true
  ·refine sd_call (i := 7) rfl (by kernel_rfl) rfl rfl ((by have h8 := (by have h7 := eqBools_n (some ⟨bQ, 0, none⟩) orr cQ cr bQ 0 bf qf (S.rts.take F.length) F (by omega) Y11 (take_row hQ (by omega)) (hFx.below HB); rw [hta] at h7; exact h7); rw [show (decide (S.rts.take F.length = F)) = true by simpa using C3] at h8; exact h8)) (by kernel_rfl) ?_ AllReadyH.nil
   rintro e W12 ⟨rfl, hb⟩
   replace HB := over HB hb
   replace M2 := M2.below hb
   replace M4 := M4.below hb
   replace M6 := M6.below hb
   replace hK9 := hK9.below hb
   replace hQ := hQ.below hb
   have z8 := hb.size
   clear hb
   refine ⟨_, rfl, ⟨M2, M4, M6, trivial⟩, ?_⟩
   refine Zu 8 rfl rfl (.bool false) ⟨M2, M4, M6, trivial⟩ ?_
   refine sd_done (by kernel_rfl) ?_
   refine Yo (sx_false (by kernel_rfl) (wp_skip (Yo (Yq (Zv rfl (pt q 0) (Zv rfl (.slice (some ⟨bQ, 0, none⟩) S.rts.length cQ) ?_))))))
   have hRl : S.rts.length = (crs x ty st l).n := by omega
   by_cases C4 : ((crs x ty st l).run S.rts (crs x ty st l).n) = 0
   ·refine Zc rfl (run_yes (crs x ty st l) hc K q W12 hK9 S.rts hRl (some ⟨bQ, 0, none⟩) cQ bQ 0 hQ C4) ?_
    rintro e W13 ⟨ol, cl, bl, ql, rfl, hL9, hb⟩
    replace HB := over HB hb
    replace M2 := M2.below hb
    replace M4 := M4.below hb
    replace M6 := M6.below hb
    replace hQ := hQ.below hb
    have z9 := hb.size
    clear hb
    refine ⟨_, rfl, ?_⟩
    have hrun9 := C4
    refine Zv rfl (.tuple #[.slice ol (crs x ty st l).n cl, .int .i64 0]) (Zv rfl (.slice ol (crs x ty st l).n cl) (Zv rfl (.int .i64 0) (Zv rfl (.slice ol (crs x ty st l).n cl) (Zv rfl (.int .i64 0) (Yn (Yo (Ys (Yq (Zv rfl (.int .i64 0) (Zv rfl (.bool false) (Yn (Yo (sx_false (by kernel_rfl) (wp_skip (Yo (Ys (Ys ?_)))))))))))))))))
    obtain ⟨Y14, hW⟩ : ∃ W, W13.drew = W := ⟨_, rfl⟩
    have hb : Below W13.heap.size W13 Y14 := hW ▸ below_drew (Below.refl _ _)
    replace HB := over HB hb
    replace M2 := M2.below hb
    replace M4 := M4.below hb
    replace M6 := M6.below hb
    replace hQ := hQ.below hb
    replace hL9 := hL9.below hb
    have z10 := hb.size
    clear hb
    refine sd_begin (fun W => Cb W (w.heap.size) (iK k x) 30 ∧ Cb W (W1.heap.size) (rK ty st orr F.length cr oa l.length ca) 34 ∧ Cb W (W3.heap.size) (sK S oS cS) 37 ∧ True) (by kernel_rfl) (by rw [hW]; exact ⟨M2, M4, M6, trivial⟩) ?_
    rw [hW]
    clear hW
    refine Zu 0 rfl rfl (.slice ol (crs x ty st l).n cl) ⟨M2, M4, M6, trivial⟩ ?_
    refine Zu 1 rfl rfl (.slice (some ⟨bQ, 0, none⟩) S.rts.length cQ) ⟨M2, M4, M6, trivial⟩ ?_
    refine Zt 3 rfl rfl (.agg (sK S oS cS)) (fun w9 h9 => ex_load rfl h9.2.2.1 (by kernel_rfl) Tryz.underlying37 rfl (by kernel_rfl)) ⟨M2, M4, M6, trivial⟩ ?_
    refine sd_all [2] (by kernel_rfl) (by decide) ?_
    refine sd_call (i := 2) rfl (by kernel_rfl) rfl rfl (sheetOf_n (crs x ty st l) hc S.rts hRl hrun9 ol (some ⟨bQ, 0, none⟩) cl cQ bl ql bQ 0 Y14 hL9 hQ) (by kernel_rfl) ?_ AllReadyH.nil
    rintro e W15 ⟨o9, c9, b9, q9, rfl, hS9, hS8, hb⟩
    replace HB := over HB hb
    replace M2 := M2.below hb
    replace M4 := M4.below hb
    replace M6 := M6.below hb
    replace hL9 := hL9.below hb
    have z11 := hb.size
    clear hb
    refine ⟨_, rfl, ⟨M2, M4, M6, trivial⟩, ?_⟩
    refine sd_all [4] (by kernel_rfl) (by decide) ?_
    have hlt : ((crs x ty st l).sheet S.rts).T.length ≤ 1000000 := by show ((crs x ty st l).tms S.rts).length ≤ _; unfold CrT.tms; simp; omega
    by_cases C5 : (decide ((crs x ty st l).sheet S.rts = S)) = true
    ·refine sd_call (i := 4) rfl (by kernel_rfl) rfl rfl ((by have h8 := isSame_n ((crs x ty st l).sheet S.rts) S o9 oS c9 cS b9 q9 bS qS hlt W15 hS9 (hST.below HB); rw [show (decide ((crs x ty st l).sheet S.rts = S)) = true by simpa using C5] at h8; exact h8)) (by kernel_rfl) ?_ AllReadyH.nil
     rintro e W16 ⟨rfl, hb⟩
     replace HB := over HB hb
     replace M2 := M2.below hb
     replace M4 := M4.below hb
     replace M6 := M6.below hb
     replace hL9 := hL9.below hb
     have z12 := hb.size
     clear hb
     refine ⟨_, rfl, ⟨M2, M4, M6, trivial⟩, ?_⟩
     refine Zu 5 rfl rfl (.bool false) ⟨M2, M4, M6, trivial⟩ ?_
     refine sd_done (by kernel_rfl) ?_
     refine Yo (sx_false (by kernel_rfl) (wp_skip (Yo (Yq (Zv rfl (.slice ol (crs x ty st l).n cl) (Zv rfl (.slice ol (crs x ty st l).n cl) (Zv rfl (.int .i64 0) (Yn (Yo (wp_ret ?_))))))))))
     have h9 : chkE x ty st l F S = 0 := chkE_0 hp9 (by omega) (by omega) (of_decide_eq_true (by assumption)) hrun9 (of_decide_eq_true (by assumption))
     have h8 : chkL x ty st l F S = (crs x ty st l).legs S.rts (crs x ty st l).n := if_pos h9
     refine sx_ret2 (.slice ol (crs x ty st l).n cl) (.int .i64 0) rfl rfl rfl (by kernel_rfl) (by kernel_rfl) ⟨ol, cl, bl, ql, by rw [h8, h9, CrT.legs_len], by rw [h8, CrT.legs_len]; exact Rw.ext hL9 (fun i hi => by rw [CrT.legs_at _ _ hi]), HB⟩
    refine sd_call (i := 4) rfl (by kernel_rfl) rfl rfl ((by have h8 := isSame_n ((crs x ty st l).sheet S.rts) S o9 oS c9 cS b9 q9 bS qS hlt W15 hS9 (hST.below HB); rw [show (decide ((crs x ty st l).sheet S.rts = S)) = false by simpa using C5] at h8; exact h8)) (by kernel_rfl) ?_ AllReadyH.nil
    rintro e W17 ⟨rfl, hb⟩
    replace HB := over HB hb
    replace M2 := M2.below hb
    replace M4 := M4.below hb
    replace M6 := M6.below hb
    have z12 := hb.size
    clear hb
    refine ⟨_, rfl, ⟨M2, M4, M6, trivial⟩, ?_⟩
    refine Zu 5 rfl rfl (.bool true) ⟨M2, M4, M6, trivial⟩ ?_
    refine sd_done (by kernel_rfl) ?_
    refine Yo (sx_true (by kernel_rfl) (Yq (Zv rfl (.slice none 0 0) (Zv rfl (.int .i64 9) (Yn (Yo (wp_ret (sx_rs ?_))))))))
    have h9 : chkE x ty st l F S = 9 := chkE_s hp9 (by omega) (by omega) (of_decide_eq_true (by assumption)) hrun9 (of_decide_eq_false (by simpa using (by assumption : ¬ decide ((crs x ty st l).sheet S.rts = S) = true)))
    have h8 := chkL_no (x := x) (ty := ty) (st := st) (l := l) (F := F) (S := S) (by rw [h9]; decide)
    refine sx_ret2 (.slice none 0 0) (.int .i64 9) rfl rfl rfl (by kernel_rfl) (by kernel_rfl) ⟨none, 0, 0, 0, by rw [h8, h9]; rfl, by rw [h8]; exact fun i hi => absurd hi (Nat.not_lt_zero i), HB⟩
   refine Zc rfl (run_no (crs x ty st l) hc K q W12 hK9 S.rts hRl (some ⟨bQ, 0, none⟩) cQ bQ 0 hQ C4) ?_
   rintro e W18 ⟨ol, cl, rfl, hb⟩
   replace HB := over HB hb
   have z9 := hb.size
   clear hb
   refine ⟨_, rfl, ?_⟩
   refine Zv rfl (.tuple #[.slice ol 0 cl, .int .i64 ((crs x ty st l).run S.rts (crs x ty st l).n)]) (Zv rfl (.slice ol 0 cl) (Zv rfl (.int .i64 ((crs x ty st l).run S.rts (crs x ty st l).n)) (Zv rfl (.slice ol 0 cl) (Zv rfl (.int .i64 ((crs x ty st l).run S.rts (crs x ty st l).n)) (Yn (Yo (Ys (Yq (Zv rfl (.int .i64 ((crs x ty st l).run S.rts (crs x ty st l).n)) (Zb rfl ((((crs x ty st l).run S.rts (crs x ty st l).n) : Int) != (0 : Int)) true (bne_iff_ne.2 (by omega)) (Yn (Yo (sx_true (by kernel_rfl) (Yq (Zv rfl (.int .i64 ((crs x ty st l).run S.rts (crs x ty st l).n)) ?_)))))))))))))))
   refine Zv rfl (.slice none 0 0) (Zv rfl (.int .i64 ((crs x ty st l).run S.rts (crs x ty st l).n)) (Yn (Yo (wp_ret (sx_rs ?_)))))
   have h9 : chkE x ty st l F S = ((crs x ty st l).run S.rts (crs x ty st l).n) := chkE_r hp9 (by omega) (by omega) (of_decide_eq_true (by assumption)) (by assumption)
   have h8 := chkL_no (x := x) (ty := ty) (st := st) (l := l) (F := F) (S := S) (by rw [h9]; assumption)
   refine sx_ret2 (.slice none 0 0) (.int .i64 ((crs x ty st l).run S.rts (crs x ty st l).n)) rfl rfl rfl (by kernel_rfl) (by kernel_rfl) ⟨none, 0, 0, 0, by rw [h8, h9]; rfl, by rw [h8]; exact fun i hi => absurd hi (Nat.not_lt_zero i), HB⟩
  refine sd_call (i := 7) rfl (by kernel_rfl) rfl rfl ((by have h8 := (by have h7 := eqBools_n (some ⟨bQ, 0, none⟩) orr cQ cr bQ 0 bf qf (S.rts.take F.length) F (by omega) Y11 (take_row hQ (by omega)) (hFx.below HB); rw [hta] at h7; exact h7); rw [show (decide (S.rts.take F.length = F)) = false by simpa using C3] at h8; exact h8)) (by kernel_rfl) ?_ AllReadyH.nil
  rintro e W19 ⟨rfl, hb⟩
  replace HB := over HB hb
  replace M2 := M2.below hb
  replace M4 := M4.below hb
  replace M6 := M6.below hb
  have z8 := hb.size
  clear hb
  refine ⟨_, rfl, ⟨M2, M4, M6, trivial⟩, ?_⟩
  refine Zu 8 rfl rfl (.bool true) ⟨M2, M4, M6, trivial⟩ ?_
  refine sd_done (by kernel_rfl) ?_
  refine Yo (sx_true (by kernel_rfl) (Yq (Zv rfl (.slice none 0 0) (Zv rfl (.int .i64 9) (Yn (Yo (wp_ret (sx_rs ?_))))))))
  have h9 : chkE x ty st l F S = 9 := chkE_9 hp9 (by omega) (by omega) (of_decide_eq_false (by simpa using (by assumption : ¬ decide (S.rts.take F.length = F) = true)))
  have h8 := chkL_no (x := x) (ty := ty) (st := st) (l := l) (F := F) (S := S) (by rw [h9]; decide)
  refine sx_ret2 (.slice none 0 0) (.int .i64 9) rfl rfl rfl (by kernel_rfl) (by kernel_rfl) ⟨none, 0, 0, 0, by rw [h8, h9]; rfl, by rw [h8]; exact fun i hi => absurd hi (Nat.not_lt_zero i), HB⟩
 refine Zt 17 rfl rfl (.bool true) (fun w9 _ => ex_bool ((((S.T.length : Nat) : Int) : Int) != (((l.length : Nat) : Int) : Int)) true (by kernel_rfl) (bne_iff_ne.2 (by omega))) ⟨M2, M4, M6, trivial⟩ ?_
 refine Zu 18 rfl rfl (.bool true) ⟨M2, M4, M6, trivial⟩ ?_
 refine sd_done (by kernel_rfl) ?_
 refine Yo (sx_true (by kernel_rfl) (Yq (Zv rfl (.slice none 0 0) (Zv rfl (.int .i64 2) (Yn (Yo (wp_ret (sx_rs ?_))))))))
 have h9 : chkE x ty st l F S = 2 := chkE_2 (.inr (by omega))
 have h8 := chkL_no (x := x) (ty := ty) (st := st) (l := l) (F := F) (S := S) (by rw [h9]; decide)
 refine sx_ret2 (.slice none 0 0) (.int .i64 2) rfl rfl rfl (by kernel_rfl) (by kernel_rfl) ⟨none, 0, 0, 0, by rw [h8, h9]; rfl, by rw [h8]; exact fun i hi => absurd hi (Nat.not_lt_zero i), HB⟩
def inE (z : Int) : List Value := [.int .i64 z]
theorem inRow : Row inE 1 := ⟨fun _ => rfl, fun x v hv => by
 simp only [inE, List.mem_cons, List.not_mem_nil, or_false] at hv
 subst hv; rfl⟩
def sinK (L : List LegT) (i : Nat) : List Int := (L.take i).map (·.sin) ++ List.replicate (L.length - i) 0
theorem sinK_len {L : List LegT} {i : Nat} (h : i ≤ L.length) : (sinK L i).length = L.length := by unfold sinK; rw [List.length_append, List.length_map, List.length_take, List.length_replicate]; omega
theorem sinK_zero (L : List LegT) : sinK L 0 = List.replicate L.length 0 := by unfold sinK; simp
theorem sinK_all (L : List LegT) : sinK L L.length = L.map (·.sin) := by unfold sinK; simp
theorem sinK_set {L : List LegT} {i : Nat} (h : i < L.length) : (sinK L i).set i (L.getD i leg0).sin = sinK L (i + 1) := by
 unfold sinK
 have hl : ((L.take i).map (·.sin)).length = i := by rw [List.length_map, List.length_take]; omega
 rw [show L.length - i = (L.length - (i + 1)) + 1 by omega, List.replicate_succ, List.set_append_right _ _ (by omega), hl, Nat.sub_self, take_more (d := leg0) h, List.map_append, List.append_assoc]
 rfl
theorem chkL_len (x : InT) (ty st : Int) (l : List (Int × Bool)) (F : List Bool) (S : ShT) : (chkL x ty st l F S).length = 0 ∨ (chkL x ty st l F S).length = l.length + 1 := by
 unfold chkL
 split
 ·right; rw [CrT.legs_len, crs_n]
 ·left; rfl
theorem chkE_len {x : InT} {ty st : Int} {l : List (Int × Bool)} {F : List Bool} {S : ShT} (h : chkE x ty st l F S = 0) : l.length ≤ 20 := by
 unfold chkE at h
 split at h
 ·rename_i h1
  have h2 := h1.1
  unfold posD at h2
  simp only [Bool.and_eq_true, decide_eq_true_eq] at h2
  exact h2.1.2
 ·cases h
def sinS (x : InT) (ty st : Int) (l : List (Int × Bool)) (F : List Bool) (S : ShT) : List Int := (chkL x ty st l F S).map (·.sin)
theorem drvSince_n (k : Iv) (x : InT) (ty st : Int) (orr oa oS : Option Addr) (cr ca cS b o bf qf bS qS : Nat) (l : List (Int × Bool)) (F : List Bool) (S : ShT) (lS : S.T.length ≤ 300000) (hok : posD x.tl x.ol ty st l = true → (crs x ty st l).Ok) (w : World) (hI : Ins w k x) (hT : Tab w) (hl : Rw w b o 2 (vF l) l.length oa) (hFx : Rw w bf qf 1 (bF F) F.length orr) (hST : Rw w bS qS 4 (fun k => tmE (S.T.getD k tm0)) S.T.length oS) : Calls Tryz.prog 30 #[.agg (iK k x), .agg (rK ty st orr F.length cr oa l.length ca), .agg (sK S oS cS)] w fun e w' => ∃ o9 c9 b9 q9, e = .returned (.tuple #[.slice o9 (sinS x ty st l F S).length c9, .int .i64 (chkE x ty st l F S)]) ∧ Rw w' b9 q9 1 (fun k => inE ((sinS x ty st l F S).getD k 0)) (sinS x ty st l F S).length o9 ∧ Below w.heap.size w w' := by
 have HB : Below w.heap.size w w := Below.refl _ _
 have hll := chkL_len x ty st l F S
 refine sx_enter Tryz.func30 rfl [(0, .agg (iK k x)), (1, .agg (rK ty st orr F.length cr oa l.length ca)), (2, .agg (sK S oS cS))] (by kernel_rfl) ?_
 refine Yq ?_
 refine Za rfl (iK k x) 30 (fun W1 hb M2 z1 yM2 => ?_)
 replace HB := over HB hb
 clear hb
 refine Za rfl (rK ty st orr F.length cr oa l.length ca) 34 (fun W3 hb M4 z2 yM4 => ?_)
 replace HB := over HB hb
 replace M2 := M2.below hb
 clear hb
 refine Za rfl (sK S oS cS) 37 (fun W5 hb M6 z3 yM6 => ?_)
 replace HB := over HB hb
 replace M2 := M2.below hb
 replace M4 := M4.below hb
 clear hb
 refine Zv rfl (.slice none 0 0) (Zv rfl (.int .i64 0) (Yn (Yo (Yq (Zw rfl (.agg (iK k x)) (ex_load rfl M2 (by kernel_rfl) Tryz.underlying30 rfl (by kernel_rfl)) (Zw rfl (.agg (rK ty st orr F.length cr oa l.length ca)) (ex_load rfl M4 (by kernel_rfl) Tryz.underlying34 rfl (by kernel_rfl)) (Zw rfl (.agg (sK S oS cS)) (ex_load rfl M6 (by kernel_rfl) Tryz.underlying37 rfl (by kernel_rfl)) ?_)))))))
 refine Zc rfl (drvCheck_n k x ty st orr oa oS cr ca cS b o bf qf bS qS l F S lS hok W5 (hI.below HB) (hT.belowD HB) (hl.below HB) (hFx.below HB) (hST.below HB)) ?_
 rintro e W7 ⟨ol, cl, bl, ql, rfl, hL9, hb⟩
 replace HB := over HB hb
 have z4 := hb.size
 clear hb
 refine ⟨_, rfl, ?_⟩
 refine Zv rfl (.tuple #[.slice ol (chkL x ty st l F S).length cl, .int .i64 (chkE x ty st l F S)]) (Zv rfl (.slice ol (chkL x ty st l F S).length cl) (Zv rfl (.int .i64 (chkE x ty st l F S)) (Zv rfl (.slice ol (chkL x ty st l F S).length cl) (Zv rfl (.int .i64 (chkE x ty st l F S)) (Yn (Yo (Ys (Yq (Zv rfl (.int .i64 (chkE x ty st l F S)) ?_)))))))))
 by_cases C1 : (chkE x ty st l F S) = 0
 ·refine Zb rfl (((chkE x ty st l F S) : Int) != (0 : Int)) false (by rw [bne_eq_false_iff_eq]; omega) (Yn (Yo (sx_false (by kernel_rfl) (wp_skip (Yo (Ys ?_))))))
  have hL8 : ∀ i, i < (chkL x ty st l F S).length → bl < W7.heap.size := fun i hi => hL9.lt hi
  refine Yr (Zv rfl (.slice ol (chkL x ty st l F S).length cl) (Zv rfl (.int .i64 (((chkL x ty st l F S).length : Nat) : Int)) ?_))
  have hl20 : l.length ≤ 20 := chkE_len (by assumption)
  obtain ⟨bN, hbN⟩ : ∃ m, W7.heap.size = m := ⟨_, rfl⟩
  obtain ⟨W8, hW⟩ : ∃ W, W7.alloc (.cells ((sinK (chkL x ty st l F S) 0).flatMap inE).toArray 3) = W := ⟨_, rfl⟩
  have hb := hW ▸ below_alloc W7 (.cells ((sinK (chkL x ty st l F S) 0).flatMap inE).toArray 3)
  have NT : Cb W8 bN ((sinK (chkL x ty st l F S) 0).flatMap inE).toArray 3 := by rw [← hW, ← hbN]; exact Cb.made W7 _ _
  refine sx_mem (by kernel_rfl) rfl rfl (.slice (some ⟨bN, 0, none⟩) (chkL x ty st l F S).length (chkL x ty st l F S).length) W8 (by rw [← hW, sinK_zero, ← madeF (z := (Value.int .i64 0).cells) inRow rfl (by decide), ← hbN]; exact ex_makeF (k := (chkL x ty st l F S).length) (e := 3) (sz := 1) (z := .int .i64 0) (bytes := 8) rfl (by kernel_rfl) (by kernel_rfl) Tryz.underlying42 (by kernel_rfl) (by decide) (by omega)) ?_
  replace HB := over HB hb
  replace hL9 := hL9.below hb
  have z5 := hb.size
  have yNT := NT.lt
  have zbN := HB.size
  clear hb hW
  refine Zv rfl (.slice (some ⟨bN, 0, none⟩) (chkL x ty st l F S).length (chkL x ty st l F S).length) (Yn (Yo (Ys (Yq (Zv rfl (.slice ol (chkL x ty st l F S).length cl) (Zv rfl (.int .i64 (((chkL x ty st l F S).length : Nat) : Int)) (Zv rfl (.int .i64 0) (Yn (Yo (wp_block ?_))))))))))
  have hbl9 : ∀ i, i < (chkL x ty st l F S).length → bl < bN := fun i hi => by have h8 := hL8 i hi; omega
  refine sx_loop (fun i : Nat => [(0, .agg (iK k x)), (1, .agg (rK ty st orr F.length cr oa l.length ca)), (2, .agg (sK S oS cS)), (3, .pointer (some ⟨w.heap.size, 0, none⟩)), (4, .pointer (some ⟨W1.heap.size, 0, none⟩)), (5, .pointer (some ⟨W3.heap.size, 0, none⟩)), (6, .slice none 0 0), (7, .int .i64 0), (8, .slice ol (chkL x ty st l F S).length cl), (9, .int .i64 (chkE x ty st l F S)), (10, .slice (some ⟨bN, 0, none⟩) (chkL x ty st l F S).length (chkL x ty st l F S).length), (13, .tuple #[.slice ol (chkL x ty st l F S).length cl, .int .i64 (chkE x ty st l F S)]), (14, .agg (iK k x)), (15, .agg (rK ty st orr F.length cr oa l.length ca)), (16, .agg (sK S oS cS)), (17, .tuple #[.slice ol (chkL x ty st l F S).length cl, .int .i64 (chkE x ty st l F S)]), (18, .slice ol (chkL x ty st l F S).length cl), (19, .int .i64 (chkE x ty st l F S)), (20, .int .i64 (chkE x ty st l F S)), (21, .bool false), (23, .slice ol (chkL x ty st l F S).length cl), (24, .int .i64 (((chkL x ty st l F S).length : Nat) : Int)), (25, .slice (some ⟨bN, 0, none⟩) (chkL x ty st l F S).length (chkL x ty st l F S).length), (26, .slice ol (chkL x ty st l F S).length cl), (27, .int .i64 (((chkL x ty st l F S).length : Nat) : Int)), (28, .int .i64 ((i : Nat) : Int))]) (fun gg i wr => i ≤ (chkL x ty st l F S).length ∧ (chkL x ty st l F S).length - i ≤ gg ∧ Cb wr bN ((sinK (chkL x ty st l F S) i).flatMap inE).toArray 3 ∧ Rw wr bl ql 6 (fun k => legE ((chkL x ty st l F S).getD k leg0)) (chkL x ty st l F S).length ol ∧ Below w.heap.size w wr) ((chkL x ty st l F S).length) (0) (by kernel_rfl) ⟨Nat.zero_le _, Nat.le_refl _, NT, hL9, HB⟩ ?_
  rintro gg i g' wr9 ⟨hi, hg, NT, hL9, HB⟩
  have yNT := NT.lt
  refine Yq ?_
  by_cases C2 : i < (chkL x ty st l F S).length
  ·refine Zb rfl (decide (((i : Nat) : Int) < (((chkL x ty st l F S).length : Nat) : Int))) true (decide_eq_true (by omega)) (Yn (Yo (Ys (sx_true (by kernel_rfl) (wp_skip (Yo (Ys (wp_block (Yq (Zv rfl (.int .i64 ((i : Nat) : Int)) (Zw rfl (pt bl (ql + i * 6)) (ex_indexO (q := ql) (m := (chkL x ty st l F S).length) (c := cl) (k := i) (s := 6) rfl (by kernel_rfl) (hL9.oa (k := i) (by omega)) (by kernel_rfl) Tryz.underlying109 (by kernel_rfl) (by omega) (by omega)) (Zw rfl (.agg #[.int .i64 (((chkL x ty st l F S).getD i leg0).dep), .int .i64 (((chkL x ty st l F S).getD i leg0).arr), .int .i64 (((chkL x ty st l F S).getD i leg0).beg), .int .i64 (((chkL x ty st l F S).getD i leg0).don), .int .i64 (((chkL x ty st l F S).getD i leg0).sin), .int .i64 (((chkL x ty st l F S).getD i leg0).mil)]) (ex_loadR rfl (hL9.range (k := i) (by omega)) (by kernel_rfl) Tryz.underlying113 rfl (by kernel_rfl)) ?_))))))))))))
   obtain ⟨W11, hW, hb, hq⟩ := laidV wr9 nZ6 #[.int .i64 (((chkL x ty st l F S).getD i leg0).dep), .int .i64 (((chkL x ty st l F S).getD i leg0).arr), .int .i64 (((chkL x ty st l F S).getD i leg0).beg), .int .i64 (((chkL x ty st l F S).getD i leg0).don), .int .i64 (((chkL x ty st l F S).getD i leg0).sin), .int .i64 (((chkL x ty st l F S).getD i leg0).mil)] 113
   refine sx_mem (by kernel_rfl) rfl rfl (pt wr9.heap.size 0) (wr9.alloc (.cells nZ6 113)) (by kernel_rfl) ?_
   refine Zv rfl (.int .i64 ((i : Nat) : Int)) ?_
   refine Zs (cells := #[.int .i64 (((chkL x ty st l F S).getD i leg0).dep), .int .i64 (((chkL x ty st l F S).getD i leg0).arr), .int .i64 (((chkL x ty st l F S).getD i leg0).beg), .int .i64 (((chkL x ty st l F S).getD i leg0).don), .int .i64 (((chkL x ty st l F S).getD i leg0).sin), .int .i64 (((chkL x ty st l F S).getD i leg0).mil)]) rfl rfl (Cb.made wr9 nZ6 113) ?_
   rw [hW]
   replace HB := over HB hb
   replace NT := NT.below hb
   replace hL9 := hL9.below hb
   have z6 := hb.size
   have M10 := hq
   have yM10 := hq.lt
   clear hq hb hW
   refine Yn (Yo (Yr (Zv rfl (.slice (some ⟨bN, 0, none⟩) (chkL x ty st l F S).length (chkL x ty st l F S).length) (Zv rfl (.int .i64 ((i : Nat) : Int)) (Zv rfl (pt wr9.heap.size 4) (Zw rfl (.int .i64 (((chkL x ty st l F S).getD i leg0).sin)) (el (M10.cell 4 rfl) Tryz.underlying3) (Zw rfl (pt bN ((i * 1))) (ex_index rfl bN 0 (chkL x ty st l F S).length (chkL x ty st l F S).length i 1 (i * 1) (by kernel_rfl) (by kernel_rfl) Tryz.underlying42 (by kernel_rfl) (by omega) (by omega)) ?_)))))))
   have hcl : (((sinK (chkL x ty st l F S) i)).flatMap inE).toArray[i * 1]? = some (.int .i64 (((sinK (chkL x ty st l F S) i)).getD i 0)) := by
    have h8 := inRow.at_ 0 ((sinK (chkL x ty st l F S) i)) i 0 (by rw [sinK_len (by omega)]; omega) (by decide)
    rw [List.getElem?_toArray]
    exact h8
   refine sx_do (by kernel_rfl) rfl (W11.setCells bN (i * 1) [.int .i64 ((chkL x ty st l F S).getD i leg0).sin]) (ex_storeC (k := i * 1) (old := .int .i64 (((sinK (chkL x ty st l F S) i)).getD i 0)) (v := .int .i64 ((chkL x ty st l F S).getD i leg0).sin) rfl NT hcl (by kernel_rfl) (by kernel_rfl) (by kernel_rfl) (by kernel_rfl)) ?_
   obtain ⟨W12, hW⟩ : ∃ W, W11.setCells bN (i * 1) [.int .i64 ((chkL x ty st l F S).getD i leg0).sin] = W := ⟨_, rfl⟩
   have hg9 : W11.grownBy W12 (some bN) := hW ▸ grown_sets _ _ _ _
   have hq : Cb W12 bN ((sinK (chkL x ty st l F S) (i + 1)).flatMap inE).toArray 3 := by
    rw [← sinK_set (by omega), ← setN_flat inRow ((chkL x ty st l F S).getD i leg0).sin _ i (by rw [sinK_len (by omega)]; omega), ← hW]
    exact Cb.setsN [.int .i64 ((chkL x ty st l F S).getD i leg0).sin] W11 (i * 1) _ NT
   rw [hW]
   replace HB := HB.grown hg9 (by omega) (oG (by omega))
   replace hL9 := hL9.kept hg9 (fun i hi => by have h8 := hbl9 i hi; omega)
   have z7 := hg9.size
   replace NT := hq
   clear hq hg9 hW
   refine Yn ?_
   refine sx_in ?_
   refine Yo (Yr (Zi rfl (IntKind.i64.wrap (((i : Nat) : Int) + 1)) (((i + 1 : Nat) : Int)) (by rw [IntKind.wrap_i64]; omega) (Zv rfl (.int .i64 ((i + 1 : Nat) : Int)) (Yn (Yo ?_)))))
   exact sx_again ((chkL x ty st l F S).length - (i + 1)) (i + 1) (by omega) (by kernel_rfl) ⟨by omega, Nat.le_refl _, NT, hL9, HB⟩
  refine Zb rfl (decide (((i : Nat) : Int) < (((chkL x ty st l F S).length : Nat) : Int))) false (decide_eq_false (by omega)) (Yn (Yo (Ys (sx_false (by kernel_rfl) (wp_exit ?_)))))
  refine sx_es ?_
  refine sx_es ?_
  refine sx_out ?_
  refine Yo (Yq (Zv rfl (.slice (some ⟨bN, 0, none⟩) (chkL x ty st l F S).length (chkL x ty st l F S).length) (Zv rfl (.slice (some ⟨bN, 0, none⟩) (chkL x ty st l F S).length (chkL x ty st l F S).length) (Zv rfl (.int .i64 0) (Yn (Yo (wp_ret ?_)))))))
  have h9 : chkE x ty st l F S = 0 := by assumption
  have hi9 : i = (chkL x ty st l F S).length := by omega
  subst hi9
  rw [sinK_all] at NT
  refine sx_ret2 (.slice (some ⟨bN, 0, none⟩) (chkL x ty st l F S).length (chkL x ty st l F S).length) (.int .i64 0) rfl rfl rfl (by kernel_rfl) (by kernel_rfl) ⟨some ⟨bN, 0, none⟩, (chkL x ty st l F S).length, bN, 0, by unfold sinS; rw [h9, List.length_map], Rw.of_flat inRow 0 NT, HB⟩
 refine Zb rfl (((chkE x ty st l F S) : Int) != (0 : Int)) true (bne_iff_ne.2 (by omega)) (Yn (Yo (sx_true (by kernel_rfl) (Yq (Zv rfl (.int .i64 (chkE x ty st l F S)) (Zv rfl (.slice none 0 0) (Zv rfl (.int .i64 (chkE x ty st l F S)) (Yn (Yo (wp_ret (sx_rs ?_)))))))))))
 have h8 := chkL_no (x := x) (ty := ty) (st := st) (l := l) (F := F) (S := S) (by assumption)
 refine sx_ret2 (.slice none 0 0) (.int .i64 (chkE x ty st l F S)) rfl rfl rfl (by kernel_rfl) (by kernel_rfl) ⟨none, 0, 0, 0, by unfold sinS; rw [h8]; rfl, by unfold sinS; rw [h8]; exact fun i hi => absurd hi (Nat.not_lt_zero i), HB⟩

end Go.Proofs.YtomebalolmabnaaGreatDoor.T



/-! The course of a route in a valid instance is in order; who starts later arrives later. -/
namespace Go.Proofs.YtomebalolmabnaaGreatDoor.T
open Go.RowKit
set_option maxRecDepth 8000

theorem flF_nil {np : Nat} {l : List TyT} : ∀ k, flF np l k = [] → ∀ i, i < k → tyE np l i = []
 | 0, _, i, hi => absurd hi (Nat.not_lt_zero i)
 | k + 1, h, i, hi => by
  unfold flF at h
  rw [List.append_eq_nil_iff, at_nil] at h
  rcases Nat.lt_or_eq_of_le (Nat.le_of_lt_succ hi) with h1 | h1
  ·exact flF_nil k h.1 i h1
  ·rw [h1]; exact h.2
theorem rg_iff {a b x : Int} : rgB a b x = true ↔ a ≤ x ∧ x ≤ b := by unfold rgB; rw [Bool.and_eq_true, decide_eq_true_iff, decide_eq_true_iff]
theorem if_nil {b : Bool} {x : Int} (h : (if b = true then [] else [x]) = ([] : List Int)) : b = true := by
 cases b
 ·cases h
 ·rfl
theorem ty_ok {np : Nat} {l : List TyT} {i : Nat} (h : tyE np l i = []) : (0 ≤ (l.getD i ty0).opn ∧ (l.getD i ty0).opn ≤ (l.getD i ty0).cls ∧ (l.getD i ty0).cls ≤ 4096) ∧ (1 ≤ (l.getD i ty0).drv ∧ (l.getD i ty0).drv ≤ 4096) ∧ 0 ≤ (l.getD i ty0).rst ∧ (l.getD i ty0).rst ≤ 4096 := by
 unfold tyE at h
 simp only [List.append_eq_nil_iff] at h
 have h7 := if_nil h.1.1.2
 have h8 := if_nil h.1.2
 simp only [Bool.and_eq_true, rg_iff, decide_eq_true_eq] at h7 h8
 exact ⟨⟨h7.1.1, h7.1.2, h7.2⟩, h8.1, h8.2⟩
theorem or_ok {np : Nat} {dims types : Int} {l : List OrT} {i : Nat} (h : orE np dims types l i = []) (d : Bool) (hp : 0 ≤ (stQ (l.getD i or0) d).p) : 0 ≤ (stQ (l.getD i or0) d).o ∧ (stQ (l.getD i or0) d).o ≤ (stQ (l.getD i or0) d).c ∧ (stQ (l.getD i or0) d).c ≤ 4096 ∧ 0 ≤ (stQ (l.getD i or0) d).s ∧ (stQ (l.getD i or0) d).s ≤ 4096 := by
 unfold orE at h
 simp only [List.append_eq_nil_iff] at h
 have h6 := if_nil h.1.1.2
 simp only [Bool.and_eq_true, decide_eq_true_eq] at h6
 have hc : ∀ p o c s : Int, V.chk p o c s = 0 → 0 ≤ p → 0 ≤ o ∧ o ≤ c ∧ c ≤ 4096 ∧ 0 ≤ s ∧ s ≤ 4096 := fun p o c s h hp => by
  unfold V.chk at h
  split at h
  ·rename_i h9
   rcases (Bool.or_eq_true _ _).mp h9 with h9 | h9
   ·have := (V.none_iff p o c s).1 h9; omega
   ·have := (V.at_iff p o c s).1 h9; omega
  ·cases h
 cases d
 ·exact hc _ _ _ _ h6.1 hp
 ·exact hc _ _ _ _ h6.2 hp
theorem crs_ok {x : InT} (h : inF x = []) (hal : x.al.length ≤ 1000000) {ty st : Int} {l : List (Int × Bool)} (hp : posD x.tl x.ol ty st l = true) : (crs x ty st l).Ok := by
 obtain ⟨h1, h2, h3, -, -⟩ := inF_nil.1 h
 unfold posD at hp
 simp only [Bool.and_eq_true, decide_eq_true_eq] at hp
 obtain ⟨⟨⟨⟨⟨p1, p2⟩, p3⟩, p4⟩, p5⟩, p6⟩ := hp
 have ht := ty_ok (flF_nil _ h2 ty.toNat (by omega))
 obtain ⟨-, h3⟩ := orderF_nil.1 h3
 have hS : ∀ s ∈ (crs x ty st l).S, 0 ≤ s.o ∧ s.o ≤ s.c ∧ s.c ≤ 4096 ∧ 0 ≤ s.s ∧ s.s ≤ 4096 := by
  intro s hs
  have hs : s ∈ crsS (x.tl.getD ty.toNat ty0) x.ol l := hs
  unfold crsS at hs
  rw [List.mem_append, List.mem_cons, List.mem_map, List.mem_singleton] at hs
  rcases hs with (rfl | ⟨v, hv, rfl⟩) | rfl
  ·exact ⟨Int.le_refl _, Int.le_refl _, by show (0 : Int) ≤ 4096; decide, Int.le_refl _, by show (0 : Int) ≤ 4096; decide⟩
  ·unfold stopsOk at p6
   have h5 := of_decide_eq_true (List.all_eq_true.1 p6 v hv)
   unfold stopE at h5
   unfold stopV
   split at h5
   ·rename_i hr
    rw [if_pos hr]
    split at h5
    ·cases h5
    ·rename_i hq
     rw [if_neg hq]
     have hi : v.1.toNat < x.ol.length := by
      unfold inR at hr
      simp only [Bool.and_eq_true, decide_eq_true_eq] at hr
      omega
     exact or_ok (h3 _ hi) v.2 (by omega)
   ·cases h5
  ·exact ⟨Int.le_refl _, by show (0 : Int) ≤ (x.tl.getD ty.toNat ty0).cls; omega, ht.1.2.2, Int.le_refl _, by show (0 : Int) ≤ 4096; decide⟩
 have hl : (crs x ty st l).S.length = l.length + 2 := crsS_len _ _ _
 refine ⟨netOk_of h1, hal, ht.2.2, ht.2.1, by rw [hl]; omega, fun k hk => hS _ (by rw [List.getD_eq_getElem?_getD, List.getElem?_eq_getElem hk]; exact List.getElem_mem hk), ?_, ?_⟩
 ·show 0 ≤ (if (x.tl.getD ty.toNat ty0).opn < st then st else (x.tl.getD ty.toNat ty0).opn) ∧ (if (x.tl.getD ty.toNat ty0).opn < st then st else (x.tl.getD ty.toNat ty0).opn) ≤ 4096
  split <;> omega
 ·rw [hl, show l.length + 2 - 1 = l.length + 1 by omega]
  show (List.getD (crsS (x.tl.getD ty.toNat ty0) x.ol l) (l.length + 1) st0).o = 0
  unfold crsS
  rw [List.getD_eq_getElem?_getD, List.getElem?_append_right (by simp)]
  simp
namespace CrT
def at_ (c : CrT) (rd : Int) : CrT := { c with rd := rd }
end CrT
theorem tms_at (c : CrT) (R : List Bool) {i : Nat} (h : i < c.n - 1) : (c.sheet R).T.getD i tm0 = c.tm R i := by
 show (c.tms R).getD i tm0 = _
 unfold CrT.tms
 rw [List.getD_eq_getElem?_getD, List.getElem?_map, List.getElem?_range h]
 rfl
end Go.Proofs.YtomebalolmabnaaGreatDoor.T



/-! The laws' right, sample (by gen_eb.py). -/
namespace Go.Proofs.YtomebalolmabnaaGreatDoor.T
open Go.RowKit
set_option maxRecDepth 8000
attribute [local irreducible] wpList Code.wp wpAnyH

theorem li_one {w : World} {q : Nat} {x : Int} {t : TypeId} (h : Cb w q #[.int .i64 x] t) : L.Li w (.slice (some ⟨q, 0, none⟩) 1 1) [x] := ⟨some ⟨q, 0, none⟩, 1, rfl, fun i hi => by
 have h1 : i < 1 := hi
 match i, h1 with
 | 0, _ => exact ⟨⟨q, 0, none⟩, rfl, h.lt, h.cell 0 rfl⟩⟩
theorem ps_one {w : World} {q : Nat} {x y : Int} {t : TypeId} (h : Cb w q #[.int .i64 x, .int .i64 y] t) : Ps w (.slice (some ⟨q, 0, none⟩) 1 1) [(x, y)] := ⟨some ⟨q, 0, none⟩, 1, rfl, fun i hi => by
 have h1 : i < 1 := hi
 match i, h1 with
 | 0, _ => exact ⟨q, 0, rfl, h.lt, h.cell 0 rfl, h.cell 1 rfl⟩⟩
theorem ps_nil (w : World) : Ps w (.slice none 0 0) [] := ⟨none, 0, rfl, fun i hi => by cases hi⟩
theorem rw_vis {w : World} {q : Nat} (h : Cb w q #[.int .i64 0, .bool true] 82) : Rw w q 0 2 (vF [(0, true)]) 1 (some ⟨q, 0, none⟩) := fun k hk => ⟨rfl, h.lt, fun j v hj => by
 match k, j, hk, hj with
 | 0, 0, _, hj => simp [vF] at hj; subst hj; exact h.cell 0 rfl
 | 0, 1, _, hj => simp [vF] at hj; subst hj; exact h.cell 1 rfl
 | 0, j + 2, _, hj => simp [vF] at hj⟩
end Go.Proofs.YtomebalolmabnaaGreatDoor.T



/-! The laws' examples (by gen_ec.py). -/
namespace Go.Proofs.YtomebalolmabnaaGreatDoor.T
open Go.RowKit
set_option maxRecDepth 8000
attribute [local irreducible] wpList Code.wp wpAnyH

def lV : List (Int × Bool) := [(0, true)]
theorem rw_no (w : World) : Rw w 0 0 1 (bF []) ([] : List Bool).length none := fun i hi => absurd hi (Nat.not_lt_zero i)
end Go.Proofs.YtomebalolmabnaaGreatDoor.T



