/-
  DERIVED. GV: a part of the base of layer 13 (made by pack.py).
-/
import Derived.Test.YtomebalolmabnaaGreatDoorGA
import Derived.Test.YtomebalolmabnaaGreatDoorJg
import Derived.Test.YtomebalolmabnaaGreatDoorKc
import Derived.Test.YtomebalolmabnaaGreatDoorGG
import Derived.Test.YtomebalolmabnaaGreatDoorGR
/-! The specification of slack: Slack, Latest, After (by gen_kd.py). -/
namespace Go.Proofs.YtomebalolmabnaaGreatDoor.T
open Go.RowKit
set_option maxRecDepth 8000
attribute [local irreducible] wpList Code.wp wpAnyH

theorem after19_n (k : Iv) (x : InT) (hal : x.al.length ≤ 1000000000) (hxl : x.ol.length ≤ 1000000) (ty st : Int) (orr oa oS : Option Addr) (cr ca cS b o bf qf bS qS : Nat) (l : List (Int × Bool)) (F : List Bool) (S : ShT) (lS : S.T.length ≤ 300000) (hcS : S.T.length ≤ cS) (hok : posD x.tl x.ol ty st l = true → (crs x ty st l).Ok) (w : World) (hI : Ins w k x) (hl : Rw w b o 2 (vF l) l.length oa) (hFx : Rw w bf qf 1 (bF F) F.length orr) (hST : Rw w bS qS 4 (fun k => tmE (S.T.getD k tm0)) S.T.length oS) (ai te : Int) : Calls Tryz.prog 13 #[.agg (iK k x), .agg (rK ty st orr F.length cr oa l.length ca), .agg (sK S oS cS), .int .i64 ai, .int .i64 te] w (ShP (aftS x ty st l F S ai te) (aftE x ty st l F S ai te) w) := by
 have HB : Below w.heap.size w w := Below.refl _ _
 refine sx_enter Tryz.func13 rfl [(0, .agg (iK k x)), (1, .agg (rK ty st orr F.length cr oa l.length ca)), (2, .agg (sK S oS cS)), (3, .int .i64 ai), (4, .int .i64 te)] (by kernel_rfl) ?_
 refine Yq ?_
 refine Za rfl (iK k x) 30 (fun W1 hb M2 z1 yM2 => ?_)
 replace HB := over HB hb
 clear hb
 refine Za rfl (rK ty st orr F.length cr oa l.length ca) 34 (fun W3 hb M4 z2 yM4 => ?_)
 replace HB := over HB hb
 replace M2 := M2.below hb
 clear hb
 refine Za rfl (sK S oS cS) 37 (fun W5 hb M6 z3 yM6 => ?_)
 replace HB := over HB hb
 replace M2 := M2.below hb
 replace M4 := M4.below hb
 clear hb
 refine Za rfl nZS 37 (fun W7 hb M8 z4 yM8 => ?_)
 replace HB := over HB hb
 replace M2 := M2.below hb
 replace M4 := M4.below hb
 replace M6 := M6.below hb
 clear hb
 refine Zv rfl (.int .i64 0) (Yn (Yo (Yq (Zw rfl (.agg (iK k x)) (ex_load rfl M2 (by kernel_rfl) Tryz.underlying30 rfl (by kernel_rfl)) (Zw rfl (.agg (rK ty st orr F.length cr oa l.length ca)) (ex_load rfl M4 (by kernel_rfl) Tryz.underlying34 rfl (by kernel_rfl)) (Zw rfl (.agg (sK S oS cS)) (ex_load rfl M6 (by kernel_rfl) Tryz.underlying37 rfl (by kernel_rfl)) ?_))))))
 by_cases C1 : (chkE x ty st l F S) = 0
 ·refine Zd rfl ((by have h8 := refValid18_n k x hal ty st orr oa oS cr ca cS b o bf qf bS qS l F S lS hok W7 (hI.below HB) (hl.below HB) (hFx.below HB) (hST.below HB); rw [C1] at h8; exact h8)) (fun W9 hb z5 => ?_)
  replace HB := over HB hb
  replace M2 := M2.below hb
  replace M4 := M4.below hb
  replace M6 := M6.below hb
  replace M8 := M8.below hb
  clear hb
  obtain ⟨hp9, hTl, hrun, hsh, -⟩ := chk_is C1
  have hc := hok hp9
  have hn9 : (crs x ty st l).n = l.length + 1 := crs_n x ty st l
  have hl20 := posD_len hp9
  refine Zv rfl (.int .i64 0) (Yn (Yo (Ys (Yq (Zv rfl (.int .i64 0) (Zv rfl (.bool false) (Yn (Yo (sx_false (by kernel_rfl) (wp_skip (Yo (Ys (Yq (Zv rfl (.int .i64 ai) ?_))))))))))))))
  by_cases C2 : ai < 0
  ·refine Zb rfl (decide (ai < 0)) true (decide_eq_true (by omega)) (Zv rfl (.bool true) (Zk rfl (Zk rfl (Zk rfl (Zk rfl (Zk rfl (Zv rfl (.bool true) (Zv rfl (.bool true) (Zk rfl (Zk rfl (Zv rfl (.bool true) ?_)))))))))))
   refine Zv rfl (.bool true) (Zk rfl (Zk rfl (Zv rfl (.bool true) (Yn (Yo (sx_true (by kernel_rfl) (Yq (Zv rfl (.agg nZS) ?_))))))))
   refine Zr (cells := nZS) rfl rfl M8 (fun W10 hg hq => ?_)
   replace HB := HB.grown hg (by omega) (oG (by omega))
   have z6 := hg.size
   replace M8 := hq
   clear hq hg
   refine Zv rfl (.int .i64 2) (Yn (Yo (wp_ret (sx_rs ?_))))
   have h7 := aftE_a (ai := ai) (te := te) C1 (by omega)
   exact sx_retct (v' := .int .i64 2) M8 rfl rfl rfl (by kernel_rfl) (by kernel_rfl) Tryz.underlying37 rfl (by kernel_rfl) ⟨none, 0, 0, 0, by rw [h7.1, h7.2]; rfl, by rw [h7.2]; exact rw_sh0 _, fun i hi => by rw [h7.2] at hi; exact absurd hi (Nat.not_lt_zero i), HB⟩
  refine Zb rfl (decide (ai < 0)) false (decide_eq_false (by omega)) (Zv rfl (.bool false) (Zv rfl (.int .i64 ai) (Zv rfl (.pointer (some ⟨W1.heap.size, 3, none⟩)) (Zw rfl (.slice oa l.length ca) (el (M4.cell 3 rfl) Tryz.underlying32) (Zv rfl (.int .i64 ((l.length : Nat) : Int)) ?_)))))
  by_cases C3 : ai > ((l.length : Nat) : Int)
  ·refine Zb rfl (decide (ai > ((l.length : Nat) : Int))) true (decide_eq_true (by omega)) (Zv rfl (.bool true) (Zv rfl (.bool true) (Zk rfl (Zk rfl (Zv rfl (.bool true) (Zv rfl (.bool true) (Zk rfl (Zk rfl (Zv rfl (.bool true) (Yn (Yo (sx_true (by kernel_rfl) ?_))))))))))))
   refine Yq (Zv rfl (.agg nZS) ?_)
   refine Zr (cells := nZS) rfl rfl M8 (fun W11 hg hq => ?_)
   replace HB := HB.grown hg (by omega) (oG (by omega))
   have z6 := hg.size
   replace M8 := hq
   clear hq hg
   refine Zv rfl (.int .i64 2) (Yn (Yo (wp_ret (sx_rs ?_))))
   have h7 := aftE_a (ai := ai) (te := te) C1 (by omega)
   exact sx_retct (v' := .int .i64 2) M8 rfl rfl rfl (by kernel_rfl) (by kernel_rfl) Tryz.underlying37 rfl (by kernel_rfl) ⟨none, 0, 0, 0, by rw [h7.1, h7.2]; rfl, by rw [h7.2]; exact rw_sh0 _, fun i hi => by rw [h7.2] at hi; exact absurd hi (Nat.not_lt_zero i), HB⟩
  refine Zb rfl (decide (ai > ((l.length : Nat) : Int))) false (decide_eq_false (by omega)) (Zv rfl (.bool false) (Zv rfl (.bool false) (Zv rfl (.int .i64 te) ?_)))
  by_cases C4 : te < 0
  ·refine Zb rfl (decide (te < 0)) true (decide_eq_true (by omega)) (Zv rfl (.bool true) (Zv rfl (.bool true) (Zk rfl (Zk rfl (Zv rfl (.bool true) (Yn (Yo (sx_true (by kernel_rfl) (Yq (Zv rfl (.agg nZS) ?_))))))))))
   refine Zr (cells := nZS) rfl rfl M8 (fun W12 hg hq => ?_)
   replace HB := HB.grown hg (by omega) (oG (by omega))
   have z6 := hg.size
   replace M8 := hq
   clear hq hg
   refine Zv rfl (.int .i64 2) (Yn (Yo (wp_ret (sx_rs ?_))))
   have h7 := aftE_a (ai := ai) (te := te) C1 (by omega)
   exact sx_retct (v' := .int .i64 2) M8 rfl rfl rfl (by kernel_rfl) (by kernel_rfl) Tryz.underlying37 rfl (by kernel_rfl) ⟨none, 0, 0, 0, by rw [h7.1, h7.2]; rfl, by rw [h7.2]; exact rw_sh0 _, fun i hi => by rw [h7.2] at hi; exact absurd hi (Nat.not_lt_zero i), HB⟩
  refine Zb rfl (decide (te < 0)) false (decide_eq_false (by omega)) (Zv rfl (.bool false) (Zv rfl (.bool false) (Zv rfl (.int .i64 te) ?_)))
  by_cases C5 : te > 4096
  ·refine Zb rfl (decide (te > 4096)) true (decide_eq_true (by omega)) (Zv rfl (.bool true) (Yn (Yo (sx_true (by kernel_rfl) (Yq (Zv rfl (.agg nZS) ?_))))))
   refine Zr (cells := nZS) rfl rfl M8 (fun W13 hg hq => ?_)
   replace HB := HB.grown hg (by omega) (oG (by omega))
   have z6 := hg.size
   replace M8 := hq
   clear hq hg
   refine Zv rfl (.int .i64 2) (Yn (Yo (wp_ret (sx_rs ?_))))
   have h7 := aftE_a (ai := ai) (te := te) C1 (by omega)
   exact sx_retct (v' := .int .i64 2) M8 rfl rfl rfl (by kernel_rfl) (by kernel_rfl) Tryz.underlying37 rfl (by kernel_rfl) ⟨none, 0, 0, 0, by rw [h7.1, h7.2]; rfl, by rw [h7.2]; exact rw_sh0 _, fun i hi => by rw [h7.2] at hi; exact absurd hi (Nat.not_lt_zero i), HB⟩
  refine Zb rfl (decide (te > 4096)) false (decide_eq_false (by omega)) (Zv rfl (.bool false) (Yn (Yo (sx_false (by kernel_rfl) (wp_skip (Yo (Yq (Zw rfl (.agg (iK k x)) (ex_load rfl M2 (by kernel_rfl) Tryz.underlying30 rfl (by kernel_rfl)) (Zw rfl (.agg (rK ty st orr F.length cr oa l.length ca)) (ex_load rfl M4 (by kernel_rfl) Tryz.underlying34 rfl (by kernel_rfl)) (Zw rfl (.agg (sK S oS cS)) (ex_load rfl M6 (by kernel_rfl) Tryz.underlying37 rfl (by kernel_rfl)) (Zv rfl (.int .i64 ai) (Zv rfl (.int .i64 te) ?_))))))))))))
  have hai : ((ai.toNat : Nat) : Int) = ai := Int.toNat_of_nonneg (by omega)
  have h2n : ¬ (ai < 0 ∨ (l.length : Int) < ai ∨ te < 0 ∨ 4096 < te) := by omega
  have h9 := aftE_r (x := x) (ty := ty) (st := st) (l := l) (F := F) (S := S) (ai := ai) (te := te) C1 h2n
  have h8 : aftS x ty st l F S ai te = (if ((crs x ty st l).ra S.rts ai.toNat (((crs x ty st l).lg S.rts ai.toNat).arr + te) (((crs x ty st l).lg S.rts ai.toNat).sin + te) ((crs x ty st l).n - ai.toNat)) = 0 then (crs x ty st l).afS S.rts ai.toNat (((crs x ty st l).lg S.rts ai.toNat).arr + te) (((crs x ty st l).lg S.rts ai.toNat).sin + te) else sh0) := by unfold aftS; rw [h9]
  have zA := HB.size
  refine Zc rfl ((by have h7 := later19_n k x hxl ty st orr oa oS cr ca cS b o bS qS l F S hc hp9 hTl hrun hsh W9 (hI.below HB) (hl.below HB) (hST.below HB) hcS ai.toNat (by omega) te (by omega); rw [← h8, ← h9, hai] at h7; exact h7)) ?_
  rintro e W14 ⟨oA, cA, bA, qA, rfl, hSA, hmA, hb⟩
  replace HB := over HB hb
  replace M8 := M8.below hb
  have z6 := hb.size
  clear hb
  refine ⟨_, rfl, ?_⟩
  refine Zv rfl (.agg (sK (aftS x ty st l F S ai te) oA cA)) (Zv rfl (.int .i64 (aftE x ty st l F S ai te)) ?_)
  refine Zr (cells := (sK (aftS x ty st l F S ai te) oA cA)) rfl rfl M8 (fun W15 hg hq => ?_)
  replace HB := HB.grown hg (by omega) (oG (by omega))
  replace hSA := hSA.kept hg (fun i hi => by have h8 := hmA i hi; omega)
  have z7 := hg.size
  replace M8 := hq
  clear hq hg
  refine Zv rfl (.int .i64 (aftE x ty st l F S ai te)) (Yn (Yo (wp_ret ?_)))
  exact sx_retct (v' := .int .i64 (aftE x ty st l F S ai te)) M8 rfl rfl rfl (by kernel_rfl) (by kernel_rfl) Tryz.underlying37 rfl (by kernel_rfl) ⟨oA, cA, bA, qA, rfl, hSA, fun i hi => by have h8 := hmA i hi; omega, HB⟩
 refine Zd rfl (refValid18_n k x hal ty st orr oa oS cr ca cS b o bf qf bS qS l F S lS hok W7 (hI.below HB) (hl.below HB) (hFx.below HB) (hST.below HB)) (fun W16 hb z5 => ?_)
 replace HB := over HB hb
 replace M8 := M8.below hb
 clear hb
 refine Zv rfl (.int .i64 (chkE x ty st l F S)) (Yn (Yo (Ys (Yq (Zv rfl (.int .i64 (chkE x ty st l F S)) (Zb rfl (((chkE x ty st l F S) : Int) != (0 : Int)) true (bne_iff_ne.2 (by omega)) (Yn (Yo (sx_true (by kernel_rfl) (Yq (Zv rfl (.agg nZS) (Zv rfl (.int .i64 (chkE x ty st l F S)) ?_))))))))))))
 refine Zr (cells := nZS) rfl rfl M8 (fun W17 hg hq => ?_)
 replace HB := HB.grown hg (by omega) (oG (by omega))
 have z6 := hg.size
 replace M8 := hq
 clear hq hg
 refine Zv rfl (.int .i64 (chkE x ty st l F S)) (Yn (Yo (wp_ret (sx_rs ?_))))
 have h7 := aftE_c (ai := ai) (te := te) C1
 exact sx_retct (v' := .int .i64 (chkE x ty st l F S)) M8 rfl rfl rfl (by kernel_rfl) (by kernel_rfl) Tryz.underlying37 rfl (by kernel_rfl) ⟨none, 0, 0, 0, by rw [h7.1, h7.2]; rfl, by rw [h7.2]; exact rw_sh0 _, fun i hi => by rw [h7.2] at hi; exact absurd hi (Nat.not_lt_zero i), HB⟩
namespace CrT
end CrT
end Go.Proofs.YtomebalolmabnaaGreatDoor.T



/-! SlackDelays: its walk (by gen_jm.py). -/
namespace Go.Proofs.YtomebalolmabnaaGreatDoor.T
open Go.RowKit
set_option maxRecDepth 8000
attribute [local irreducible] wpList Code.wp wpAnyH

theorem few_l {x : InT} {l : List (Int × Bool)} {F : List Bool} {S : ShT} (h : fewB x l F S = true) : l.length ≤ 10 := by
 unfold fewB at h
 simp only [Bool.and_eq_true, decide_eq_true_eq] at h
 exact h.1.1.1.2
theorem aftS_len {x : InT} {ty st : Int} {l : List (Int × Bool)} {F : List Bool} {S : ShT} (hl : l.length ≤ 10) (ai te : Int) : (aftS x ty st l F S ai te).T.length ≤ 1000000 := by
 have hn := crs_n x ty st l
 unfold aftS
 split
 ·show ((crs x ty st l).tmB S.rts _ _ _ _).length ≤ _
  rw [CrT.tmB_len]
  omega
 ·exact Nat.zero_le _
theorem slackDelays_walk (k : Iv) (x : InT) (hx : InU x) (ty st : Int) (orr oa oS : Option Addr) (cr ca cS b o bf qf bS qS : Nat) (l : List (Int × Bool)) (F : List Bool) (S : ShT) (lS : S.T.length ≤ 300000) (hcS : S.T.length ≤ cS) (ai te : Int) (w : World) (hT : Tab w) (hI : Ins w k x) (hl : Rw w b o 2 (vF l) l.length oa) (hFx : Rw w bf qf 1 (bF F) F.length orr) (hST : Rw w bS qS 4 (fun k => tmE (S.T.getD k tm0)) S.T.length oS) : Calls Tryz.prog 4 #[.agg #[.slice k.o0 x.pl.length k.c0, .slice k.o1 x.al.length k.c1, .slice k.o2 x.tl.length k.c2, .slice k.o3 x.ol.length k.c3, .slice k.o4 x.ap.length k.c4, .slice k.o5 x.be.length k.c5, .int .i64 ty, .int .i64 st, .slice orr F.length cr, .slice oa l.length ca, .bool S.r, .int .i64 S.d, .slice oS S.T.length cS, .int .i64 S.e, .int .i64 S.m], .int .i64 ai, .int .i64 te] w fun e w' => e = .returned (.bool true) ∧ Below w.heap.size w w' := by
 have HB : Below w.heap.size w w := Below.refl _ _
 refine sx_enter Tryz.func4 rfl [(0, .agg #[.slice k.o0 x.pl.length k.c0, .slice k.o1 x.al.length k.c1, .slice k.o2 x.tl.length k.c2, .slice k.o3 x.ol.length k.c3, .slice k.o4 x.ap.length k.c4, .slice k.o5 x.be.length k.c5, .int .i64 ty, .int .i64 st, .slice orr F.length cr, .slice oa l.length ca, .bool S.r, .int .i64 S.d, .slice oS S.T.length cS, .int .i64 S.e, .int .i64 S.m]), (1, .int .i64 ai), (2, .int .i64 te)] (by kernel_rfl) ?_
 refine Yq ?_
 refine Za rfl #[.slice k.o0 x.pl.length k.c0, .slice k.o1 x.al.length k.c1, .slice k.o2 x.tl.length k.c2, .slice k.o3 x.ol.length k.c3, .slice k.o4 x.ap.length k.c4, .slice k.o5 x.be.length k.c5, .int .i64 ty, .int .i64 st, .slice orr F.length cr, .slice oa l.length ca, .bool S.r, .int .i64 S.d, .slice oS S.T.length cS, .int .i64 S.e, .int .i64 S.m] 39 (fun W1 hb M2 z1 yM2 => ?_)
 replace HB := over HB hb
 clear hb
 refine Zv rfl (.bool false) (Yn (Yo (Ys (Yq (Zw rfl (.agg #[.slice k.o0 x.pl.length k.c0, .slice k.o1 x.al.length k.c1, .slice k.o2 x.tl.length k.c2, .slice k.o3 x.ol.length k.c3, .slice k.o4 x.ap.length k.c4, .slice k.o5 x.be.length k.c5, .int .i64 ty, .int .i64 st, .slice orr F.length cr, .slice oa l.length ca, .bool S.r, .int .i64 S.d, .slice oS S.T.length cS, .int .i64 S.e, .int .i64 S.m]) (ex_load rfl M2 (by kernel_rfl) Tryz.underlying39 rfl (by kernel_rfl)) ?_)))))
 by_cases C1 : fewB x l F S = true
 ·refine Zd rfl ((by have h8 := few_n k x hx ty st orr oa oS cr ca cS l F S W1 (hI.below HB); rw [C1] at h8; exact h8)) (fun W3 hb z2 => ?_)
  replace HB := over HB hb
  replace M2 := M2.below hb
  clear hb
  have hin : inF x = [] := few_is C1
  have hlf := few_l C1
  have hal := Nat.le_trans hx.al (show 1000000 ≤ 1000000000 by decide)
  refine Zv rfl (.bool false) (Yn (Yo (sx_false (by kernel_rfl) (wp_skip (Yo (Yq (Zv rfl (.pointer (some ⟨w.heap.size, 0, none⟩)) (Zw rfl (.agg (iK k x)) (ex_mid (q := 0) rfl M2 [.slice k.o0 x.pl.length k.c0, .slice k.o1 x.al.length k.c1, .slice k.o2 x.tl.length k.c2, .slice k.o3 x.ol.length k.c3, .slice k.o4 x.ap.length k.c4, .slice k.o5 x.be.length k.c5] (by kernel_rfl) Tryz.underlying30 rfl (by kernel_rfl) rfl) (Zv rfl (.pointer (some ⟨w.heap.size, 6, none⟩)) (Zw rfl (.agg (rK ty st orr F.length cr oa l.length ca)) (ex_mid (q := 6) rfl M2 [.int .i64 ty, .int .i64 st, .slice orr F.length cr, .slice oa l.length ca] (by kernel_rfl) Tryz.underlying34 rfl (by kernel_rfl) rfl) (Zv rfl (.pointer (some ⟨w.heap.size, 10, none⟩)) (Zw rfl (.agg (sK S oS cS)) (ex_mid (q := 10) rfl M2 [.bool S.r, .int .i64 S.d, .slice oS S.T.length cS, .int .i64 S.e, .int .i64 S.m] (by kernel_rfl) Tryz.underlying37 rfl (by kernel_rfl) rfl) (Zv rfl (.int .i64 ai) (Zv rfl (.int .i64 te) ?_))))))))))))))
  refine Zc rfl (sAfter_n k x ty st orr oa oS cr ca cS b o bf qf bS qS l F S lS (fun hp => crs_ok hin hx.al hp) W3 (hI.below HB) (hT.belowD HB) (hl.below HB) (hFx.below HB) (hST.below HB) ai te) ?_
  rintro e W4 ⟨oA, cA, bA, qA, rfl, hSA, -, hb⟩
  have hltA : ∀ i, i < (aftS x ty st l F S ai te).T.length → bA < W4.heap.size := fun i hi => hSA.lt hi
  replace HB := over HB hb
  replace M2 := M2.below hb
  have z3 := hb.size
  clear hb
  refine ⟨_, rfl, ?_⟩
  refine Zv rfl (.tuple #[.agg (sK (aftS x ty st l F S ai te) oA cA), .int .i64 (aftE x ty st l F S ai te)]) (Zv rfl (.agg (sK (aftS x ty st l F S ai te) oA cA)) (Zv rfl (.int .i64 (aftE x ty st l F S ai te)) ?_))
  obtain ⟨W6, hW, hb, hq⟩ := laidV W4 nZS (sK (aftS x ty st l F S ai te) oA cA) 37
  refine sx_mem (by kernel_rfl) rfl rfl (.pointer (some ⟨W4.heap.size, 0, none⟩)) (W4.alloc (.cells nZS 37)) (by kernel_rfl) ?_
  refine Zs (cells := (sK (aftS x ty st l F S ai te) oA cA)) rfl rfl (Cb.made W4 nZS 37) ?_
  rw [hW]
  replace HB := over HB hb
  replace M2 := M2.below hb
  replace hSA := hSA.below hb
  have z4 := hb.size
  have M5 := hq
  have yM5 := hq.lt
  clear hq hb hW
  refine Zv rfl (.int .i64 (aftE x ty st l F S ai te)) (Yn (Yo (Yq (Zv rfl (.pointer (some ⟨w.heap.size, 0, none⟩)) (Zw rfl (.agg (iK k x)) (ex_mid (q := 0) rfl M2 [.slice k.o0 x.pl.length k.c0, .slice k.o1 x.al.length k.c1, .slice k.o2 x.tl.length k.c2, .slice k.o3 x.ol.length k.c3, .slice k.o4 x.ap.length k.c4, .slice k.o5 x.be.length k.c5] (by kernel_rfl) Tryz.underlying30 rfl (by kernel_rfl) rfl) (Zv rfl (.pointer (some ⟨w.heap.size, 6, none⟩)) (Zw rfl (.agg (rK ty st orr F.length cr oa l.length ca)) (ex_mid (q := 6) rfl M2 [.int .i64 ty, .int .i64 st, .slice orr F.length cr, .slice oa l.length ca] (by kernel_rfl) Tryz.underlying34 rfl (by kernel_rfl) rfl) (Zv rfl (.pointer (some ⟨w.heap.size, 10, none⟩)) (Zw rfl (.agg (sK S oS cS)) (ex_mid (q := 10) rfl M2 [.bool S.r, .int .i64 S.d, .slice oS S.T.length cS, .int .i64 S.e, .int .i64 S.m] (by kernel_rfl) Tryz.underlying37 rfl (by kernel_rfl) rfl) (Zv rfl (.int .i64 ai) (Zv rfl (.int .i64 te) ?_)))))))))))
  refine Zc rfl (after19_n k x hal hx.ol ty st orr oa oS cr ca cS b o bf qf bS qS l F S lS hcS (fun hp => crs_ok hin hx.al hp) W6 (hI.below HB) (hl.below HB) (hFx.below HB) (hST.below HB) ai te) ?_
  rintro e W7 ⟨oU, cU, bU, qU, rfl, hSU, -, hb⟩
  have hltU : ∀ i, i < (aftS x ty st l F S ai te).T.length → bU < W7.heap.size := fun i hi => hSU.lt hi
  replace HB := over HB hb
  replace hSA := hSA.below hb
  replace M5 := M5.below hb
  have z5 := hb.size
  clear hb
  refine ⟨_, rfl, ?_⟩
  refine Zv rfl (.tuple #[.agg (sK (aftS x ty st l F S ai te) oU cU), .int .i64 (aftE x ty st l F S ai te)]) (Zv rfl (.agg (sK (aftS x ty st l F S ai te) oU cU)) (Zv rfl (.int .i64 (aftE x ty st l F S ai te)) ?_))
  obtain ⟨W9, hW, hb, hq⟩ := laidV W7 nZS (sK (aftS x ty st l F S ai te) oU cU) 37
  refine sx_mem (by kernel_rfl) rfl rfl (.pointer (some ⟨W7.heap.size, 0, none⟩)) (W7.alloc (.cells nZS 37)) (by kernel_rfl) ?_
  refine Zs (cells := (sK (aftS x ty st l F S ai te) oU cU)) rfl rfl (Cb.made W7 nZS 37) ?_
  rw [hW]
  replace HB := over HB hb
  replace hSA := hSA.below hb
  replace M5 := M5.below hb
  replace hSU := hSU.below hb
  have z6 := hb.size
  have M8 := hq
  have yM8 := hq.lt
  clear hq hb hW
  refine Zv rfl (.int .i64 (aftE x ty st l F S ai te)) (Yn (Yo (Yq (Zw rfl (.agg (sK (aftS x ty st l F S ai te) oA cA)) (ex_load rfl M5 (by kernel_rfl) Tryz.underlying37 rfl (by kernel_rfl)) (Zw rfl (.agg (sK (aftS x ty st l F S ai te) oU cU)) (ex_load rfl M8 (by kernel_rfl) Tryz.underlying37 rfl (by kernel_rfl)) ?_)))))
  refine Zd rfl ((by have h8 := sheets_n (aftS x ty st l F S ai te) (aftS x ty st l F S ai te) oA oU cA cU bA qA bU qU (aftS_len hlf ai te) (aftS_len hlf ai te) W9 hSA hSU; rw [decide_eq_true (rfl : (aftS x ty st l F S ai te) = (aftS x ty st l F S ai te))] at h8; exact h8)) (fun W10 hb z7 => ?_)
  replace HB := over HB hb
  clear hb
  refine Zv rfl (.bool true) (Zv rfl (.int .i64 (aftE x ty st l F S ai te)) (Zv rfl (.int .i64 (aftE x ty st l F S ai te)) (Zb rfl (((aftE x ty st l F S ai te) : Int) == ((aftE x ty st l F S ai te) : Int)) true (by simp) (Zv rfl (.bool true) (Zv rfl (.bool true) ?_)))))
  refine Zd rfl (awake19_n W10 (hT.belowD HB)) (fun W11 hb z8 => ?_)
  replace HB := over HB hb
  clear hb
  refine Zv rfl (.bool true) (Zv rfl (.bool true) (Yn (Yo (wp_ret ?_))))
  exact sx_ret1 (.bool true) rfl rfl (by kernel_rfl) ⟨rfl, HB⟩
 refine Zd rfl ((by have h8 := few_n k x hx ty st orr oa oS cr ca cS l F S W1 (hI.below HB); rw [show fewB x l F S = false by simpa using C1] at h8; exact h8)) (fun W12 hb z2 => ?_)
 replace HB := over HB hb
 clear hb
 refine Zv rfl (.bool true) (Yn (Yo (sx_true (by kernel_rfl) (Yq ?_))))
 refine Zd rfl (awake19_n W12 (hT.belowD HB)) (fun W13 hb z3 => ?_)
 replace HB := over HB hb
 clear hb
 refine Zv rfl (.bool true) (Yn (Yo (wp_ret (sx_rs ?_))))
 exact sx_ret1 (.bool true) rfl rfl (by kernel_rfl) ⟨rfl, HB⟩

end Go.Proofs.YtomebalolmabnaaGreatDoor.T



