/-
  DERIVED. GJ: a part of the base of layer 13 (made by pack.py).
-/
import Derived.Test.YtomebalolmabnaaGreatDoorFd
import Derived.Test.YtomebalolmabnaaGreatDoorGA
import Derived.Test.YtomebalolmabnaaGreatDoorDn
import Derived.Test.YtomebalolmabnaaGreatDoorGH
import Derived.Test.YtomebalolmabnaaGreatDoorGB
/-! The specification of schedules: Run, Same (by gen_fe.py). -/
namespace Go.Proofs.YtomebalolmabnaaGreatDoor.T
open Go.RowKit
set_option maxRecDepth 8000
attribute [local irreducible] wpList Code.wp wpAnyH

theorem refSame_n18 (S R : ShT) (oS oR : Option Addr) (cS cR bS qS bR qR : Nat) (lS : S.T.length ≤ 1000000) (w : World) (hS : Rw w bS qS 4 (fun k => tmE (S.T.getD k tm0)) S.T.length oS) (hR : Rw w bR qR 4 (fun k => tmE (R.T.getD k tm0)) R.T.length oR) : Calls Tryz.prog 53 #[.agg (sK S oS cS), .agg (sK R oR cR)] w fun e w' => e = .returned (.bool (decide (S = R))) ∧ Below w.heap.size w w' := by
 have HB : Below w.heap.size w w := Below.refl _ _
 refine sx_enter Tryz.func53 rfl [(0, .agg (sK S oS cS)), (1, .agg (sK R oR cR))] (by kernel_rfl) ?_
 refine Yq ?_
 refine Za rfl (sK S oS cS) 37 (fun W1 hb M2 z1 yM2 => ?_)
 replace HB := over HB hb
 clear hb
 refine Za rfl (sK R oR cR) 37 (fun W3 hb M4 z2 yM4 => ?_)
 replace HB := over HB hb
 replace M2 := M2.below hb
 clear hb
 refine Zv rfl (.bool false) (Yn (Yo (Ys (Yq (Zv rfl (pt w.heap.size 0) (Zw rfl (.bool S.r) (el (M2.cell 0 rfl) Tryz.underlying4) (Zv rfl (pt W1.heap.size 0) (Zw rfl (.bool R.r) (el (M4.cell 0 rfl) Tryz.underlying4) ?_))))))))
 by_cases C1 : S.r = R.r
 ·refine Zb rfl ((S.r != R.r)) false (by rw [C1]; exact bne_self_eq_false _) (Zv rfl (.bool false) (Zv rfl (pt w.heap.size 1) (Zw rfl (.int .i64 S.d) (el (M2.cell 1 rfl) Tryz.underlying3) (Zv rfl (pt W1.heap.size 1) (Zw rfl (.int .i64 R.d) (el (M4.cell 1 rfl) Tryz.underlying3) ?_)))))
  by_cases C2 : S.d = R.d
  ·refine Zb rfl ((S.d : Int) != (R.d : Int)) false (by rw [bne_eq_false_iff_eq]; omega) (Zv rfl (.bool false) (Zv rfl (.bool false) (Zv rfl (pt w.heap.size 3) (Zw rfl (.int .i64 S.e) (el (M2.cell 3 rfl) Tryz.underlying3) (Zv rfl (pt W1.heap.size 3) (Zw rfl (.int .i64 R.e) (el (M4.cell 3 rfl) Tryz.underlying3) ?_))))))
   by_cases C3 : S.e = R.e
   ·refine Zb rfl ((S.e : Int) != (R.e : Int)) false (by rw [bne_eq_false_iff_eq]; omega) (Zv rfl (.bool false) (Zv rfl (.bool false) (Zv rfl (pt w.heap.size 4) (Zw rfl (.int .i64 S.m) (el (M2.cell 4 rfl) Tryz.underlying3) (Zv rfl (pt W1.heap.size 4) (Zw rfl (.int .i64 R.m) (el (M4.cell 4 rfl) Tryz.underlying3) ?_))))))
    by_cases C4 : S.m = R.m
    ·refine Zb rfl ((S.m : Int) != (R.m : Int)) false (by rw [bne_eq_false_iff_eq]; omega) (Zv rfl (.bool false) (Zv rfl (.bool false) (Zv rfl (pt w.heap.size 2) (Zw rfl (.slice oS S.T.length cS) (el (M2.cell 2 rfl) Tryz.underlying35) (Zv rfl (.int .i64 ((S.T.length : Nat) : Int)) (Zv rfl (pt W1.heap.size 2) (Zw rfl (.slice oR R.T.length cR) (el (M4.cell 2 rfl) Tryz.underlying35) (Zv rfl (.int .i64 ((R.T.length : Nat) : Int)) ?_))))))))
     by_cases C5 : S.T.length = R.T.length
     ·refine Zb rfl ((((S.T.length : Nat) : Int) : Int) != (((R.T.length : Nat) : Int) : Int)) false (by rw [bne_eq_false_iff_eq]; omega) (Zv rfl (.bool false) (Yn (Yo (sx_false (by kernel_rfl) (wp_skip (Yo (Ys (Yq (Zv rfl (.int .i64 0) (Yn (Yo (wp_block ?_))))))))))))
      refine sx_loop (fun j : Nat => [(0, .agg (sK S oS cS)), (1, .agg (sK R oR cR)), (2, .pointer (some ⟨w.heap.size, 0, none⟩)), (3, .pointer (some ⟨W1.heap.size, 0, none⟩)), (5, .int .i64 ((j : Nat) : Int)), (6, .pointer (some ⟨w.heap.size, 0, none⟩)), (7, .bool S.r), (8, .pointer (some ⟨W1.heap.size, 0, none⟩)), (9, .bool R.r), (10, .bool false), (11, .bool false), (12, .pointer (some ⟨w.heap.size, 1, none⟩)), (13, .int .i64 S.d), (14, .pointer (some ⟨W1.heap.size, 1, none⟩)), (15, .int .i64 R.d), (16, .bool false), (17, .bool false), (18, .bool false), (19, .pointer (some ⟨w.heap.size, 3, none⟩)), (20, .int .i64 S.e), (21, .pointer (some ⟨W1.heap.size, 3, none⟩)), (22, .int .i64 R.e), (23, .bool false), (24, .bool false), (25, .bool false), (26, .pointer (some ⟨w.heap.size, 4, none⟩)), (27, .int .i64 S.m), (28, .pointer (some ⟨W1.heap.size, 4, none⟩)), (29, .int .i64 R.m), (30, .bool false), (31, .bool false), (32, .bool false), (33, .pointer (some ⟨w.heap.size, 2, none⟩)), (34, .slice oS S.T.length cS), (35, .int .i64 ((S.T.length : Nat) : Int)), (36, .pointer (some ⟨W1.heap.size, 2, none⟩)), (37, .slice oR R.T.length cR), (38, .int .i64 ((R.T.length : Nat) : Int)), (39, .bool false), (40, .bool false)]) (fun gg j wr => j ≤ S.T.length ∧ S.T.length - j ≤ gg ∧ (∀ i, i < j → S.T.getD i tm0 = R.T.getD i tm0) ∧ Below W3.heap.size W3 wr) (S.T.length) (0) (by kernel_rfl) ⟨Nat.zero_le _, Nat.le_refl _, (fun i hi => absurd hi (Nat.not_lt_zero i)), Below.refl _ _⟩ ?_
      rintro gg j g' wr5 ⟨hj, hg, hJ, hbl⟩
      replace HB := over HB hbl
      replace M2 := M2.below hbl
      replace M4 := M4.below hbl
      have z3 := hbl.size
      have HL := hbl
      clear hbl
      refine Ys (Yq (Zv rfl (.int .i64 ((j : Nat) : Int)) (Zv rfl (pt w.heap.size 2) (Zw rfl (.slice oS S.T.length cS) (el (M2.cell 2 rfl) Tryz.underlying35) (Zv rfl (.int .i64 ((S.T.length : Nat) : Int)) ?_)))))
      by_cases C6 : j < S.T.length
      ·refine Zb rfl (decide (((j : Nat) : Int) < ((S.T.length : Nat) : Int))) true (decide_eq_true (by omega)) (Yn (Yo (sx_true (by kernel_rfl) (wp_skip (Yo (Ys (wp_block (Ys ?_))))))))
       obtain ⟨Y6, hW⟩ : ∃ W, wr5.drew = W := ⟨_, rfl⟩
       have hb : Below wr5.heap.size wr5 Y6 := hW ▸ below_drew (Below.refl _ _)
       replace HB := over HB hb
       replace M2 := M2.below hb
       replace M4 := M4.below hb
       replace HL := over HL hb
       have z4 := hb.size
       clear hb
       refine sd_begin (fun W => Cb W (w.heap.size) (sK S oS cS) 37 ∧ Cb W (W1.heap.size) (sK R oR cR) 37 ∧ Rw W bS qS 4 (fun k => tmE (S.T.getD k tm0)) S.T.length oS ∧ Rw W bR qR 4 (fun k => tmE (R.T.getD k tm0)) R.T.length oR ∧ True) (by kernel_rfl) (by rw [hW]; exact ⟨M2, M4, (hS.below HB), (hR.below HB), trivial⟩) ?_
       rw [hW]
       clear hW
       refine Zu 0 rfl rfl (pt w.heap.size 2) ⟨M2, M4, (hS.below HB), (hR.below HB), trivial⟩ ?_
       refine Zt 1 rfl rfl (.slice oS S.T.length cS) (fun w9 h9 => el (h9.1.cell 2 rfl) Tryz.underlying35) ⟨M2, M4, (hS.below HB), (hR.below HB), trivial⟩ ?_
       refine Zu 2 rfl rfl (.int .i64 ((j : Nat) : Int)) ⟨M2, M4, (hS.below HB), (hR.below HB), trivial⟩ ?_
       refine Zt 3 rfl rfl (pt bS (qS + j * 4)) (fun w9 h9 => ex_indexO (q := qS) (m := S.T.length) (c := cS) (k := j) (s := 4) rfl (by kernel_rfl) (h9.2.2.1.oa (k := j) (by omega)) (by kernel_rfl) Tryz.underlying35 (by kernel_rfl) (by omega) (by omega)) ⟨M2, M4, (hS.below HB), (hR.below HB), trivial⟩ ?_
       refine Zt 4 rfl rfl (.agg #[.int .i64 ((S.T.getD j tm0).a), .int .i64 ((S.T.getD j tm0).b), .int .i64 ((S.T.getD j tm0).d), .bool (S.T.getD j tm0).r]) (fun w9 h9 => ex_loadR rfl (h9.2.2.1.range (k := j) (by omega)) (by kernel_rfl) Tryz.underlying61 rfl (by kernel_rfl)) ⟨M2, M4, (hS.below HB), (hR.below HB), trivial⟩ ?_
       refine Zu 5 rfl rfl (pt W1.heap.size 2) ⟨M2, M4, (hS.below HB), (hR.below HB), trivial⟩ ?_
       refine Zt 6 rfl rfl (.slice oR R.T.length cR) (fun w9 h9 => el (h9.2.1.cell 2 rfl) Tryz.underlying35) ⟨M2, M4, (hS.below HB), (hR.below HB), trivial⟩ ?_
       refine Zu 7 rfl rfl (.int .i64 ((j : Nat) : Int)) ⟨M2, M4, (hS.below HB), (hR.below HB), trivial⟩ ?_
       refine Zt 8 rfl rfl (pt bR (qR + j * 4)) (fun w9 h9 => ex_indexO (q := qR) (m := R.T.length) (c := cR) (k := j) (s := 4) rfl (by kernel_rfl) (h9.2.2.2.1.oa (k := j) (by omega)) (by kernel_rfl) Tryz.underlying35 (by kernel_rfl) (by omega) (by omega)) ⟨M2, M4, (hS.below HB), (hR.below HB), trivial⟩ ?_
       refine Zt 9 rfl rfl (.agg #[.int .i64 ((R.T.getD j tm0).a), .int .i64 ((R.T.getD j tm0).b), .int .i64 ((R.T.getD j tm0).d), .bool (R.T.getD j tm0).r]) (fun w9 h9 => ex_loadR rfl (h9.2.2.2.1.range (k := j) (by omega)) (by kernel_rfl) Tryz.underlying61 rfl (by kernel_rfl)) ⟨M2, M4, (hS.below HB), (hR.below HB), trivial⟩ ?_
       by_cases C7 : (S.T.getD j tm0).a = (R.T.getD j tm0).a ∧ (S.T.getD j tm0).b = (R.T.getD j tm0).b ∧ (S.T.getD j tm0).d = (R.T.getD j tm0).d ∧ (S.T.getD j tm0).r = (R.T.getD j tm0).r
       ·refine Zt 10 rfl rfl (.bool false) (fun w9 h9 => ex_bool (!((S.T.getD j tm0).a == (R.T.getD j tm0).a && (S.T.getD j tm0).b == (R.T.getD j tm0).b && (S.T.getD j tm0).d == (R.T.getD j tm0).d && (S.T.getD j tm0).r == (R.T.getD j tm0).r)) false (ex_neqT rfl (by kernel_rfl) (by kernel_rfl)) (by rw [eqv_t C7]; rfl)) ⟨M2, M4, (hS.below HB), (hR.below HB), trivial⟩ ?_
        refine sd_done (by kernel_rfl) ?_
        refine Yo (sx_false (by kernel_rfl) (wp_skip ?_))
        refine sx_in ?_
        refine Yo (Yr (Zv rfl (.int .i64 ((j : Nat) : Int)) (Zi rfl (IntKind.i64.wrap (((j : Nat) : Int) + 1)) (((j + 1 : Nat) : Int)) (by rw [IntKind.wrap_i64]; omega) (Zv rfl (.int .i64 ((j + 1 : Nat) : Int)) (Yn (Yo ?_))))))
        exact sx_again (S.T.length - (j + 1)) (j + 1) (by omega) (by kernel_rfl) ⟨by omega, Nat.le_refl _, ext_more hJ (tm_ext (by assumption)), HL⟩
       refine Zt 10 rfl rfl (.bool true) (fun w9 h9 => ex_bool (!((S.T.getD j tm0).a == (R.T.getD j tm0).a && (S.T.getD j tm0).b == (R.T.getD j tm0).b && (S.T.getD j tm0).d == (R.T.getD j tm0).d && (S.T.getD j tm0).r == (R.T.getD j tm0).r)) true (ex_neqT rfl (by kernel_rfl) (by kernel_rfl)) (by rw [eqv_f C7]; rfl)) ⟨M2, M4, (hS.below HB), (hR.below HB), trivial⟩ ?_
       refine sd_done (by kernel_rfl) ?_
       refine Yo (sx_true (by kernel_rfl) (Yq (Zv rfl (.bool false) (Yn (Yo (wp_ret ?_))))))
       refine sx_rb ?_
       refine sx_rs (sx_rs ?_)
       refine sx_rb ?_
       refine sx_rs ?_
       refine sx_ret1 (.bool false) rfl rfl (by kernel_rfl) ⟨by rw [decide_eq_false (fun h => absurd (by rw [h]; exact ⟨rfl, rfl, rfl, rfl⟩) (by assumption : ¬ ((S.T.getD j tm0).a = (R.T.getD j tm0).a ∧ (S.T.getD j tm0).b = (R.T.getD j tm0).b ∧ (S.T.getD j tm0).d = (R.T.getD j tm0).d ∧ (S.T.getD j tm0).r = (R.T.getD j tm0).r)))], HB⟩
      refine Zb rfl (decide (((j : Nat) : Int) < ((S.T.length : Nat) : Int))) false (decide_eq_false (by omega)) (Yn (Yo (sx_false (by kernel_rfl) (wp_exit ?_))))
      refine sx_es ?_
      refine sx_es ?_
      refine sx_out ?_
      refine Yo (Yq (Zv rfl (.bool true) (Yn (Yo (wp_ret ?_)))))
      refine sx_ret1 (.bool true) rfl rfl (by kernel_rfl) ⟨by rw [decide_eq_true (sh_ext ⟨by assumption, by assumption, by assumption, by assumption, ext_getD (d := tm0) (by assumption) (fun i hi => hJ i (by omega))⟩)], HB⟩
     refine Zb rfl ((((S.T.length : Nat) : Int) : Int) != (((R.T.length : Nat) : Int) : Int)) true (bne_iff_ne.2 (by omega)) (Zv rfl (.bool true) (Yn (Yo (sx_true (by kernel_rfl) (Yq (Zv rfl (.bool false) (Yn (Yo (wp_ret (sx_rs ?_))))))))))
     refine sx_ret1 (.bool false) rfl rfl (by kernel_rfl) ⟨by rw [decide_eq_false (fun h => by subst h; first | (exact absurd rfl (by assumption)) | simp_all)], HB⟩
    refine Zb rfl ((S.m : Int) != (R.m : Int)) true (bne_iff_ne.2 (by omega)) (Zv rfl (.bool true) (Zv rfl (.bool true) (Zk rfl (Zk rfl (Zk rfl (Zk rfl (Zk rfl (Zk rfl (Zk rfl (Zv rfl (.bool true) (Yn (Yo ?_))))))))))))
    refine sx_true (by kernel_rfl) (Yq (Zv rfl (.bool false) (Yn (Yo (wp_ret (sx_rs ?_))))))
    refine sx_ret1 (.bool false) rfl rfl (by kernel_rfl) ⟨by rw [decide_eq_false (fun h => by subst h; first | (exact absurd rfl (by assumption)) | simp_all)], HB⟩
   refine Zb rfl ((S.e : Int) != (R.e : Int)) true (bne_iff_ne.2 (by omega)) (Zv rfl (.bool true) (Zv rfl (.bool true) (Zk rfl (Zk rfl (Zk rfl (Zk rfl (Zk rfl (Zv rfl (.bool true) (Zv rfl (.bool true) (Zk rfl (Zk rfl ?_)))))))))))
   refine Zk rfl (Zk rfl (Zk rfl (Zk rfl (Zk rfl (Zv rfl (.bool true) (Yn (Yo (sx_true (by kernel_rfl) (Yq (Zv rfl (.bool false) (Yn (Yo (wp_ret (sx_rs ?_))))))))))))))
   refine sx_ret1 (.bool false) rfl rfl (by kernel_rfl) ⟨by rw [decide_eq_false (fun h => by subst h; first | (exact absurd rfl (by assumption)) | simp_all)], HB⟩
  refine Zb rfl ((S.d : Int) != (R.d : Int)) true (bne_iff_ne.2 (by omega)) (Zv rfl (.bool true) (Zv rfl (.bool true) (Zk rfl (Zk rfl (Zk rfl (Zk rfl (Zk rfl (Zv rfl (.bool true) (Zv rfl (.bool true) (Zk rfl (Zk rfl ?_)))))))))))
  refine Zk rfl (Zk rfl (Zk rfl (Zv rfl (.bool true) (Zv rfl (.bool true) (Zk rfl (Zk rfl (Zk rfl (Zk rfl (Zk rfl (Zk rfl (Zk rfl ?_)))))))))))
  refine Zv rfl (.bool true) (Yn (Yo (sx_true (by kernel_rfl) (Yq (Zv rfl (.bool false) (Yn (Yo (wp_ret (sx_rs ?_)))))))))
  refine sx_ret1 (.bool false) rfl rfl (by kernel_rfl) ⟨by rw [decide_eq_false (fun h => by subst h; first | (exact absurd rfl (by assumption)) | simp_all)], HB⟩
 refine Zb rfl ((S.r != R.r)) true (bne_iff_ne.2 C1) (Zv rfl (.bool true) (Zk rfl (Zk rfl (Zk rfl (Zk rfl (Zk rfl (Zv rfl (.bool true) (Zv rfl (.bool true) (Zk rfl (Zk rfl (Zk rfl ?_)))))))))))
 refine Zk rfl (Zk rfl (Zv rfl (.bool true) (Zv rfl (.bool true) (Zk rfl (Zk rfl (Zk rfl (Zk rfl (Zk rfl (Zv rfl (.bool true) (Zv rfl (.bool true) (Zk rfl ?_)))))))))))
 refine Zk rfl (Zk rfl (Zk rfl (Zk rfl (Zk rfl (Zk rfl (Zv rfl (.bool true) (Yn (Yo (sx_true (by kernel_rfl) (Yq (Zv rfl (.bool false) (Yn (Yo (wp_ret (sx_rs ?_)))))))))))))))
 refine sx_ret1 (.bool false) rfl rfl (by kernel_rfl) ⟨by rw [decide_eq_false (fun h => by subst h; first | (exact absurd rfl (by assumption)) | simp_all)], HB⟩

end Go.Proofs.YtomebalolmabnaaGreatDoor.T



/-! The specification of schedules: Rests, check, Since, Valid (by gen_ff.py). -/
namespace Go.Proofs.YtomebalolmabnaaGreatDoor.T
open Go.RowKit
set_option maxRecDepth 8000
attribute [local irreducible] wpList Code.wp wpAnyH

theorem Ol.one {B : Nat} {w : World} {q : Nat} {r : Bool} (hc : Cb w q #[.bool r] 4) (hB : B ≤ q) : Ol boE 4 1 B w (.slice (some ⟨q, 0, none⟩) 1 1) [r] :=
 (⟨rfl, .inr ⟨q, 1, #[.bool r], rfl, hB, hc, Nat.le_refl _, by unfold maxLen; omega, rfl, by simp [boE]⟩⟩ : w.ownsRow B 4 1 _ 1 _)
theorem refRests_n (S : ShT) (oS : Option Addr) (cS bS qS : Nat) (lS : S.T.length ≤ 300000) (w : World) (hT : Rw w bS qS 4 (fun k => tmE (S.T.getD k tm0)) S.T.length oS) : Calls Tryz.prog 51 #[.agg (sK S oS cS)] w fun e w' => ∃ o9 c9 b9 q9, e = .returned (.slice o9 S.rts.length c9) ∧ Rw w' b9 q9 1 (bF S.rts) S.rts.length o9 ∧ Below w.heap.size w w' := by
 have HB : Below w.heap.size w w := Below.refl _ _
 refine sx_enter Tryz.func51 rfl [(0, .agg (sK S oS cS))] (by kernel_rfl) ?_
 refine Yq ?_
 refine Za rfl (sK S oS cS) 37 (fun W1 hb M2 z1 yM2 => ?_)
 replace HB := over HB hb
 clear hb
 refine Zv rfl (.slice none 0 0) (Yn (Yo (Yq (Zv rfl (pt w.heap.size 0) (Zw rfl (.bool S.r) (el (M2.cell 0 rfl) Tryz.underlying4) ?_)))))
 obtain ⟨W3, hW, hb, hq⟩ := laidA W1 #[.bool S.r] 4
 refine sx_mem (by kernel_rfl) rfl rfl (.slice (some ⟨W1.heap.size, 0, none⟩) 1 1) W3 (by rw [← hW]; kernel_rfl) ?_
 replace HB := over HB hb
 replace M2 := M2.below hb
 have z2 := hb.size
 have M4 := hq
 have yM4 := hq.lt
 clear hq hb hW
 refine Zv rfl (.slice (some ⟨W1.heap.size, 0, none⟩) 1 1) (Yn (Yo (Ys (Ys ?_))))
 have HG : Ol boE 4 1 W1.heap.size W3 (.slice (some ⟨W1.heap.size, 0, none⟩) 1 1) [S.r] := Ol.one M4 (by omega)
 have hG0 : rtsK S 0 = [S.r] := by unfold rtsK; rw [List.take_zero]; rfl
 rw [← hG0] at HG
 refine Yr (Zv rfl (.int .i64 0) (Yn (Yo (wp_block ?_))))
 refine sx_loop (fun x9 : Nat × Value => [(0, .agg (sK S oS cS)), (1, .pointer (some ⟨w.heap.size, 0, none⟩)), (2, .slice none 0 0), (3, x9.2), (4, .int .i64 ((x9.1 : Nat) : Int)), (5, .pointer (some ⟨w.heap.size, 0, none⟩)), (6, .bool S.r), (7, .slice (some ⟨W1.heap.size, 0, none⟩) 1 1)]) (fun gg x9 wr => x9.1 ≤ S.T.length ∧ S.T.length - x9.1 ≤ gg ∧ Ol boE 4 1 W1.heap.size wr x9.2 (rtsK S x9.1) ∧ Below W1.heap.size W3 wr) (S.T.length) ((0, .slice (some ⟨W1.heap.size, 0, none⟩) 1 1)) (by kernel_rfl) ⟨Nat.zero_le _, Nat.le_refl _, HG, Below.refl _ _⟩ ?_
 rintro gg ⟨i, v3⟩ g' wr5 ⟨hi, hg, HG, hbl⟩
 dsimp only at hi hg HG hbl
 replace HB := HB.trans (hbl.mono (by omega))
 replace M2 := M2.belowB (by omega) hbl
 have z3 := hbl.size
 have HL := hbl
 clear hbl
 refine Ys (Yq (Zv rfl (.int .i64 ((i : Nat) : Int)) (Zv rfl (pt w.heap.size 2) (Zw rfl (.slice oS S.T.length cS) (el (M2.cell 2 rfl) Tryz.underlying35) (Zv rfl (.int .i64 ((S.T.length : Nat) : Int)) ?_)))))
 by_cases C1 : i < S.T.length
 ·refine Zb rfl (decide (((i : Nat) : Int) < ((S.T.length : Nat) : Int))) true (decide_eq_true (by omega)) (Yn (Yo (sx_true (by kernel_rfl) (wp_skip (Yo (Ys (wp_block (Yr (Zv rfl (v3) (Zv rfl (pt w.heap.size 2) (Zw rfl (.slice oS S.T.length cS) (el (M2.cell 2 rfl) Tryz.underlying35) (Zv rfl (.int .i64 ((i : Nat) : Int)) (Zw rfl (pt bS (qS + i * 4)) (ex_indexO (q := qS) (m := S.T.length) (c := cS) (k := i) (s := 4) rfl (by kernel_rfl) ((hT.below HB).oa (k := i) (by omega)) (by kernel_rfl) Tryz.underlying35 (by kernel_rfl) (by omega) (by omega)) (Zv rfl (pt bS (qS + i * 4 + 3)) (Zw rfl (.bool (S.T.getD i tm0).r) (el ((hT.below HB).cell (k := i) (by omega) 3 rfl) Tryz.underlying4) ?_)))))))))))))))
  obtain ⟨W6, hW, hb, hq⟩ := laidA wr5 #[.bool (S.T.getD i tm0).r] 4
  refine sx_mem (by kernel_rfl) rfl rfl (.slice (some ⟨wr5.heap.size, 0, none⟩) 1 1) W6 (by rw [← hW]; kernel_rfl) ?_
  replace HB := over HB hb
  replace HL := HL.trans (hb.mono (by omega))
  replace HG := HG.below hb
  have z4 := hb.size
  have M7 := hq
  have yM7 := hq.lt
  clear hq hb hW
  obtain ⟨v9, W8, h9, hg9, hb, -, -⟩ := ap_o (P := Tryz.prog) (t := 31) (ty := 31) (z := .bool false) (bytes := 1) (x := ((S.T.getD i tm0).r : Bool)) boRow Tryz.underlying31 (by kernel_rfl) rfl (by decide) (by decide) HG M7 rfl (by omega) (by rw [rtsK_len (by omega)]; omega)
  refine sx_mem (by kernel_rfl) rfl rfl v9 W8 (ex_append rfl (by kernel_rfl) (by kernel_rfl) h9) ?_
  replace HB := HB.trans (hb.mono (by omega))
  replace HL := HL.trans (hb.mono (by omega))
  have z5 := hb.size
  have HG := hg9
  clear hg9 hb h9
  refine Zv rfl (v9) (Yn ?_)
  refine sx_in ?_
  refine Yo (Yr (Zv rfl (.int .i64 ((i : Nat) : Int)) (Zi rfl (IntKind.i64.wrap (((i : Nat) : Int) + 1)) (((i + 1 : Nat) : Int)) (by rw [IntKind.wrap_i64]; omega) (Zv rfl (.int .i64 ((i + 1 : Nat) : Int)) (Yn (Yo ?_))))))
  exact sx_again (S.T.length - (i + 1)) (i + 1, v9) (by omega) (by kernel_rfl) ⟨by show i + 1 ≤ _; omega, Nat.le_refl _, by show Ol boE _ 1 _ _ _ (rtsK S (i + 1)); rw [rtsK_more (by omega)]; exact HG, HL⟩
 refine Zb rfl (decide (((i : Nat) : Int) < ((S.T.length : Nat) : Int))) false (decide_eq_false (by omega)) (Yn (Yo (sx_false (by kernel_rfl) (wp_exit ?_))))
 refine sx_es ?_
 refine sx_es ?_
 refine sx_out ?_
 refine Yo (Yq (Zv rfl (v3) (Zv rfl (v3) (Yn (Yo (wp_ret ?_))))))
 have hi9 : i = S.T.length := by omega
 subst hi9
 rw [rtsK_all] at HG
 obtain ⟨o9, c9, rfl⟩ := Ol.form HG
 obtain ⟨b9, q9, hr9⟩ := Ol.rw boRow false HG
 refine sx_ret1 (.slice o9 S.rts.length c9) rfl rfl (by kernel_rfl) ⟨o9, c9, b9, q9, rfl, hr9, HB⟩
theorem chk_ref {x : InT} {ty st : Int} {l : List (Int × Bool)} {F : List Bool} {S : ShT} (h1 : posD x.tl x.ol ty st l = true) (h2 : F.length ≤ l.length + 1) (h3 : S.T.length = l.length) (h4 : ∀ i, i < F.length → F.getD i false = S.rts.getD i false) : chkE x ty st l F S = (if runE x ty st l S.rts = 0 then (if S = runS x ty st l S.rts then 0 else 9) else runE x ty st l S.rts) ∧ sinS x ty st l F S = (if chkE x ty st l F S = 0 then runD x ty st l S.rts else []) := by
 have hl : S.rts.length = l.length + 1 := by rw [rts_len, h3]
 have hF : S.rts.take F.length = F := ext_getD (d := false) (by rw [List.length_take]; omega) (fun i hi => by
  rw [List.length_take] at hi
  rw [h4 i (by omega), List.getD_eq_getElem?_getD, List.getD_eq_getElem?_getD, List.getElem?_take_of_lt (by omega)])
 have hr := runE_yes (R := S.rts) h1 hl
 have hA : chkE x ty st l F S = (if runE x ty st l S.rts = 0 then (if S = runS x ty st l S.rts then 0 else 9) else runE x ty st l S.rts) := by
  by_cases h5 : runE x ty st l S.rts = 0
  ·rw [if_pos h5, (runS_is h5).1]
   rw [hr] at h5
   by_cases h6 : (crs x ty st l).sheet S.rts = S
   ·rw [if_pos h6.symm, chkE_0 h1 h2 h3 hF h5 h6]
   ·rw [if_neg (fun h => h6 h.symm), chkE_s h1 h2 h3 hF h5 h6]
  ·rw [if_neg h5, hr]
   rw [hr] at h5
   exact chkE_r h1 h2 h3 hF h5
 refine ⟨hA, ?_⟩
 unfold sinS chkL
 by_cases h7 : chkE x ty st l F S = 0
 ·rw [if_pos h7, if_pos h7]
  have h5 : runE x ty st l S.rts = 0 := by
   rw [hA] at h7
   split at h7
   ·assumption
   ·exact h7
  unfold runD
  rw [if_pos h5]
  unfold CrT.legs CrT.snL
  rw [List.map_map]
  rfl
 ·rw [if_neg h7, if_neg h7]
  rfl
theorem chk_ref9 {x : InT} {ty st : Int} {l : List (Int × Bool)} {F : List Bool} {S : ShT} (h1 : posD x.tl x.ol ty st l = true) (h2 : F.length ≤ l.length + 1) (h3 : S.T.length = l.length) {i : Nat} (hi : i < F.length) (h4 : ¬ F.getD i false = S.rts.getD i false) : chkE x ty st l F S = 9 := chkE_9 h1 h2 h3 (fun h => h4 (by
 have h5 : (S.rts.take F.length)[i]? = F[i]? := by rw [h]
 rw [List.getElem?_take_of_lt hi] at h5
 rw [List.getD_eq_getElem?_getD, List.getD_eq_getElem?_getD, h5]))
theorem sin_no {x : InT} {ty st : Int} {l : List (Int × Bool)} {F : List Bool} {S : ShT} (h : ¬ chkE x ty st l F S = 0) : sinS x ty st l F S = [] := by unfold sinS; rw [chkL_no h]; rfl
set_option maxHeartbeats 2000000 in
theorem refCheck18_n (k : Iv) (x : InT) (hal : x.al.length ≤ 1000000000) (ty st : Int) (orr oa oS : Option Addr) (cr ca cS b o bf qf bS qS : Nat) (l : List (Int × Bool)) (F : List Bool) (S : ShT) (lS : S.T.length ≤ 300000) (hok : posD x.tl x.ol ty st l = true → (crs x ty st l).Ok) (w : World) (hI : Ins w k x) (hl : Rw w b o 2 (vF l) l.length oa) (hFx : Rw w bf qf 1 (bF F) F.length orr) (hST : Rw w bS qS 4 (fun k => tmE (S.T.getD k tm0)) S.T.length oS) : Calls Tryz.prog 33 #[.agg (iK k x), .agg (rK ty st orr F.length cr oa l.length ca), .agg (sK S oS cS)] w fun e w' => ∃ o9 c9 b9 q9, e = .returned (.tuple #[.slice o9 (sinS x ty st l F S).length c9, .int .i64 (chkE x ty st l F S)]) ∧ Rw w' b9 q9 1 (fun k => inE ((sinS x ty st l F S).getD k 0)) (sinS x ty st l F S).length o9 ∧ Below w.heap.size w w' := by
 have HB : Below w.heap.size w w := Below.refl _ _
 refine sx_enter Tryz.func33 rfl [(0, .agg (iK k x)), (1, .agg (rK ty st orr F.length cr oa l.length ca)), (2, .agg (sK S oS cS))] (by kernel_rfl) ?_
 refine Yq ?_
 refine Za rfl (iK k x) 30 (fun W1 hb M2 z1 yM2 => ?_)
 replace HB := over HB hb
 clear hb
 refine Za rfl (rK ty st orr F.length cr oa l.length ca) 34 (fun W3 hb M4 z2 yM4 => ?_)
 replace HB := over HB hb
 replace M2 := M2.below hb
 clear hb
 refine Za rfl (sK S oS cS) 37 (fun W5 hb M6 z3 yM6 => ?_)
 replace HB := over HB hb
 replace M2 := M2.below hb
 replace M4 := M4.below hb
 clear hb
 refine Zv rfl (.slice none 0 0) (Zv rfl (.int .i64 0) (Yn (Yo (Ys (Yq (Zw rfl (.agg (iK k x)) (ex_load rfl M2 (by kernel_rfl) Tryz.underlying30 rfl (by kernel_rfl)) (Zw rfl (.agg (rK ty st orr F.length cr oa l.length ca)) (ex_load rfl M4 (by kernel_rfl) Tryz.underlying34 rfl (by kernel_rfl)) ?_)))))))
 by_cases C1 : posD x.tl x.ol ty st l = true
 ·refine Zd rfl ((by have h8 := refPoss_n k x ty st orr oa cr ca b o l F W5 (hI.below HB) (hl.below HB); rw [C1] at h8; exact h8)) (fun W7 hb z4 => ?_)
  replace HB := over HB hb
  replace M2 := M2.below hb
  replace M4 := M4.below hb
  replace M6 := M6.below hb
  clear hb
  have hl20 := posD_len C1
  have hp9 := C1
  refine Zv rfl (.bool false) (Zv rfl (.bool false) (Zv rfl (pt W1.heap.size 2) (Zw rfl (.slice orr F.length cr) (el (M4.cell 2 rfl) Tryz.underlying31) (Zv rfl (.int .i64 ((F.length : Nat) : Int)) (Zv rfl (pt W1.heap.size 3) (Zw rfl (.slice oa l.length ca) (el (M4.cell 3 rfl) Tryz.underlying32) (Zv rfl (.int .i64 ((l.length : Nat) : Int)) (Zi rfl (IntKind.i64.wrap (((l.length : Nat) : Int) + 1)) (((l.length + 1 : Nat) : Int)) (by rw [IntKind.wrap_i64]; omega) ?_))))))))
  by_cases C2 : F.length > l.length + 1
  ·refine Zb rfl (decide (((F.length : Nat) : Int) > ((l.length + 1 : Nat) : Int))) true (decide_eq_true (by omega)) (Zv rfl (.bool true) (Zv rfl (.bool true) (Zk rfl (Zk rfl (Zk rfl (Zk rfl (Zk rfl (Zk rfl (Zk rfl (Zv rfl (.bool true) (Yn (Yo ?_))))))))))))
   refine sx_true (by kernel_rfl) (Yq (Zv rfl (.slice none 0 0) (Zv rfl (.int .i64 2) (Yn (Yo (wp_ret (sx_rs ?_)))))))
   have h9 : chkE x ty st l F S = 2 := chkE_2 (.inr (by omega))
   have h8 := sin_no (x := x) (ty := ty) (st := st) (l := l) (F := F) (S := S) (by rw [h9]; decide)
   refine sx_ret2 (.slice none 0 0) (.int .i64 2) rfl rfl rfl (by kernel_rfl) (by kernel_rfl) ⟨none, 0, 0, 0, by rw [h8, h9]; rfl, by rw [h8]; exact fun i hi => absurd hi (Nat.not_lt_zero i), HB⟩
  refine Zb rfl (decide (((F.length : Nat) : Int) > ((l.length + 1 : Nat) : Int))) false (decide_eq_false (by omega)) (Zv rfl (.bool false) (Zv rfl (.bool false) (Zv rfl (pt W3.heap.size 2) (Zw rfl (.slice oS S.T.length cS) (el (M6.cell 2 rfl) Tryz.underlying35) (Zv rfl (.int .i64 ((S.T.length : Nat) : Int)) (Zv rfl (pt W1.heap.size 3) (Zw rfl (.slice oa l.length ca) (el (M4.cell 3 rfl) Tryz.underlying32) (Zv rfl (.int .i64 ((l.length : Nat) : Int)) ?_))))))))
  by_cases C3 : S.T.length = l.length
  ·refine Zb rfl ((((S.T.length : Nat) : Int) : Int) != (((l.length : Nat) : Int) : Int)) false (by rw [bne_eq_false_iff_eq]; omega) (Zv rfl (.bool false) (Yn (Yo (sx_false (by kernel_rfl) (wp_skip (Yo (Yq (Zw rfl (.agg (sK S oS cS)) (ex_load rfl M6 (by kernel_rfl) Tryz.underlying37 rfl (by kernel_rfl)) ?_))))))))
   refine Zc rfl (refRests_n S oS cS bS qS lS W7 (hST.below HB)) ?_
   rintro e W8 ⟨oQ, cQ, bQ, qQ, rfl, hQ, hb⟩
   replace HB := over HB hb
   replace M2 := M2.below hb
   replace M4 := M4.below hb
   replace M6 := M6.below hb
   have z5 := hb.size
   clear hb
   refine ⟨_, rfl, ?_⟩
   have hrl := rts_len S
   refine Zv rfl (.slice oQ S.rts.length cQ) (Yn (Yo (Ys (Yq (Zv rfl (.int .i64 0) (Yn (Yo (wp_block ?_))))))))
   refine sx_loop (fun i : Nat => [(0, .agg (iK k x)), (1, .agg (rK ty st orr F.length cr oa l.length ca)), (2, .agg (sK S oS cS)), (3, .pointer (some ⟨w.heap.size, 0, none⟩)), (4, .pointer (some ⟨W1.heap.size, 0, none⟩)), (5, .pointer (some ⟨W3.heap.size, 0, none⟩)), (8, .slice oQ S.rts.length cQ), (9, .int .i64 ((i : Nat) : Int)), (13, .agg (iK k x)), (14, .agg (rK ty st orr F.length cr oa l.length ca)), (15, .bool true), (16, .bool false), (17, .bool false), (18, .pointer (some ⟨W1.heap.size, 2, none⟩)), (19, .slice orr F.length cr), (20, .int .i64 ((F.length : Nat) : Int)), (21, .pointer (some ⟨W1.heap.size, 3, none⟩)), (22, .slice oa l.length ca), (23, .int .i64 ((l.length : Nat) : Int)), (24, .int .i64 ((l.length + 1 : Nat) : Int)), (25, .bool false), (26, .bool false), (27, .bool false), (28, .pointer (some ⟨W3.heap.size, 2, none⟩)), (29, .slice oS S.T.length cS), (30, .int .i64 ((S.T.length : Nat) : Int)), (31, .pointer (some ⟨W1.heap.size, 3, none⟩)), (32, .slice oa l.length ca), (33, .int .i64 ((l.length : Nat) : Int)), (34, .bool false), (35, .bool false), (36, .agg (sK S oS cS)), (37, .slice oQ S.rts.length cQ)]) (fun gg i wr => i ≤ F.length ∧ F.length - i ≤ gg ∧ (∀ j, j < i → F.getD j false = S.rts.getD j false) ∧ Below W8.heap.size W8 wr) (F.length) (0) (by kernel_rfl) ⟨Nat.zero_le _, Nat.le_refl _, (fun j hj => absurd hj (Nat.not_lt_zero j)), Below.refl _ _⟩ ?_
   rintro gg i g' wr9 ⟨hi, hg, hJ, hbl⟩
   replace HB := over HB hbl
   replace M2 := M2.below hbl
   replace M4 := M4.below hbl
   replace M6 := M6.below hbl
   replace hQ := hQ.below hbl
   have z6 := hbl.size
   have HL := hbl
   clear hbl
   refine Ys (Yq (Zv rfl (.int .i64 ((i : Nat) : Int)) (Zv rfl (pt W1.heap.size 2) (Zw rfl (.slice orr F.length cr) (el (M4.cell 2 rfl) Tryz.underlying31) (Zv rfl (.int .i64 ((F.length : Nat) : Int)) ?_)))))
   by_cases C4 : i < F.length
   ·refine Zb rfl (decide (((i : Nat) : Int) < ((F.length : Nat) : Int))) true (decide_eq_true (by omega)) (Yn (Yo (sx_true (by kernel_rfl) (wp_skip (Yo (Ys (wp_block (Ys ?_))))))))
    obtain ⟨Y10, hW⟩ : ∃ W, wr9.drew = W := ⟨_, rfl⟩
    have hb : Below wr9.heap.size wr9 Y10 := hW ▸ below_drew (Below.refl _ _)
    replace HB := over HB hb
    replace M2 := M2.below hb
    replace M4 := M4.below hb
    replace M6 := M6.below hb
    replace hQ := hQ.below hb
    replace HL := over HL hb
    have z7 := hb.size
    clear hb
    refine sd_begin (fun W => Cb W (w.heap.size) (iK k x) 30 ∧ Cb W (W1.heap.size) (rK ty st orr F.length cr oa l.length ca) 34 ∧ Cb W (W3.heap.size) (sK S oS cS) 37 ∧ Rw W bQ qQ 1 (bF S.rts) S.rts.length oQ ∧ Rw W bf qf 1 (bF F) F.length orr ∧ True) (by kernel_rfl) (by rw [hW]; exact ⟨M2, M4, M6, hQ, (hFx.below HB), trivial⟩) ?_
    rw [hW]
    clear hW
    refine Zu 0 rfl rfl (pt W1.heap.size 2) ⟨M2, M4, M6, hQ, (hFx.below HB), trivial⟩ ?_
    refine Zt 1 rfl rfl (.slice orr F.length cr) (fun w9 h9 => el (h9.2.1.cell 2 rfl) Tryz.underlying31) ⟨M2, M4, M6, hQ, (hFx.below HB), trivial⟩ ?_
    refine Zu 2 rfl rfl (.int .i64 ((i : Nat) : Int)) ⟨M2, M4, M6, hQ, (hFx.below HB), trivial⟩ ?_
    refine Zt 3 rfl rfl (pt bf (qf + i * 1)) (fun w9 h9 => ex_indexO (q := qf) (m := F.length) (c := cr) (k := i) (s := 1) rfl (by kernel_rfl) (h9.2.2.2.2.1.oa (k := i) (by omega)) (by kernel_rfl) Tryz.underlying31 (by kernel_rfl) (by omega) (by omega)) ⟨M2, M4, M6, hQ, (hFx.below HB), trivial⟩ ?_
    refine Zt 4 rfl rfl (.bool (F.getD i false)) (fun w9 h9 => el (h9.2.2.2.2.1.cell (k := i) (by omega) 0 rfl) Tryz.underlying4) ⟨M2, M4, M6, hQ, (hFx.below HB), trivial⟩ ?_
    refine Zu 5 rfl rfl (.slice oQ S.rts.length cQ) ⟨M2, M4, M6, hQ, (hFx.below HB), trivial⟩ ?_
    refine Zu 6 rfl rfl (.int .i64 ((i : Nat) : Int)) ⟨M2, M4, M6, hQ, (hFx.below HB), trivial⟩ ?_
    refine Zt 7 rfl rfl (pt bQ (qQ + i * 1)) (fun w9 h9 => ex_indexO (q := qQ) (m := S.rts.length) (c := cQ) (k := i) (s := 1) rfl (by kernel_rfl) (h9.2.2.2.1.oa (k := i) (by omega)) (by kernel_rfl) Tryz.underlying31 (by kernel_rfl) (by omega) (by omega)) ⟨M2, M4, M6, hQ, (hFx.below HB), trivial⟩ ?_
    refine Zt 8 rfl rfl (.bool (S.rts.getD i false)) (fun w9 h9 => el (h9.2.2.2.1.cell (k := i) (by omega) 0 rfl) Tryz.underlying4) ⟨M2, M4, M6, hQ, (hFx.below HB), trivial⟩ ?_
    by_cases C5 : (F.getD i false) = (S.rts.getD i false)
    ·refine Zt 9 rfl rfl (.bool false) (fun w9 _ => ex_bool (((F.getD i false) != (S.rts.getD i false))) false (by kernel_rfl) (by rw [C5]; exact bne_self_eq_false _)) ⟨M2, M4, M6, hQ, (hFx.below HB), trivial⟩ ?_
     refine sd_done (by kernel_rfl) ?_
     refine Yo (sx_false (by kernel_rfl) (wp_skip ?_))
     refine sx_in ?_
     refine Yo (Yr (Zv rfl (.int .i64 ((i : Nat) : Int)) (Zi rfl (IntKind.i64.wrap (((i : Nat) : Int) + 1)) (((i + 1 : Nat) : Int)) (by rw [IntKind.wrap_i64]; omega) (Zv rfl (.int .i64 ((i + 1 : Nat) : Int)) (Yn (Yo ?_))))))
     exact sx_again (F.length - (i + 1)) (i + 1) (by omega) (by kernel_rfl) ⟨by omega, Nat.le_refl _, ext_more hJ (by assumption), HL⟩
    refine Zt 9 rfl rfl (.bool true) (fun w9 _ => ex_bool (((F.getD i false) != (S.rts.getD i false))) true (by kernel_rfl) (bne_iff_ne.2 C5)) ⟨M2, M4, M6, hQ, (hFx.below HB), trivial⟩ ?_
    refine sd_done (by kernel_rfl) ?_
    refine Yo (sx_true (by kernel_rfl) (Yq (Zv rfl (.slice none 0 0) (Zv rfl (.int .i64 9) (Yn (Yo (wp_ret ?_)))))))
    refine sx_rb ?_
    refine sx_rs (sx_rs ?_)
    refine sx_rb ?_
    refine sx_rs ?_
    have h9 : chkE x ty st l F S = 9 := chk_ref9 hp9 (by omega) (by omega) (i := i) (by omega) (by assumption)
    have h8 := sin_no (x := x) (ty := ty) (st := st) (l := l) (F := F) (S := S) (by rw [h9]; decide)
    refine sx_ret2 (.slice none 0 0) (.int .i64 9) rfl rfl rfl (by kernel_rfl) (by kernel_rfl) ⟨none, 0, 0, 0, by rw [h8, h9]; rfl, by rw [h8]; exact fun i hi => absurd hi (Nat.not_lt_zero i), HB⟩
   refine Zb rfl (decide (((i : Nat) : Int) < ((F.length : Nat) : Int))) false (decide_eq_false (by omega)) (Yn (Yo (sx_false (by kernel_rfl) (wp_exit ?_))))
   refine sx_es ?_
   refine sx_es ?_
   refine sx_out ?_
   refine Yo (Yq (Zw rfl (.agg (iK k x)) (ex_load rfl M2 (by kernel_rfl) Tryz.underlying30 rfl (by kernel_rfl)) (Zw rfl (.agg (rK ty st orr F.length cr oa l.length ca)) (ex_load rfl M4 (by kernel_rfl) Tryz.underlying34 rfl (by kernel_rfl)) (Zv rfl (.slice oQ S.rts.length cQ) ?_))))
   by_cases C6 : (runE x ty st l S.rts) = 0
   ·refine Zc rfl ((by have h8 := refRun_n k x hal ty st orr oa cr ca b o l F hok S.rts oQ cQ bQ qQ wr9 (hI.below HB) (hl.below HB) hQ; rw [C6] at h8; exact h8)) ?_
    rintro e W11 ⟨o9, c9, b9, q9, od, cd, bd, qd, rfl, hS9, hD9, -, hb⟩
    have hlS9 : ∀ i, i < (runS x ty st l S.rts).T.length → b9 < W11.heap.size := fun i hi => hS9.lt hi
    have hlD9 : ∀ i, i < (runD x ty st l S.rts).length → bd < W11.heap.size := fun i hi => hD9.lt hi
    replace HB := over HB hb
    replace M6 := M6.below hb
    replace HL := over HL hb
    have z7 := hb.size
    clear hb
    refine ⟨_, rfl, ?_⟩
    have hrun9 := C6
    refine Zv rfl (.tuple #[.agg (sK (runS x ty st l S.rts) o9 c9), .slice od (runD x ty st l S.rts).length cd, .int .i64 0]) (Zv rfl (.agg (sK (runS x ty st l S.rts) o9 c9)) (Zv rfl (.slice od (runD x ty st l S.rts).length cd) (Zv rfl (.int .i64 0) ?_)))
    obtain ⟨W13, hW, hb, hq⟩ := laidV W11 nZS (sK (runS x ty st l S.rts) o9 c9) 37
    refine sx_mem (by kernel_rfl) rfl rfl (pt W11.heap.size 0) (W11.alloc (.cells nZS 37)) (by kernel_rfl) ?_
    refine Zs (cells := (sK (runS x ty st l S.rts) o9 c9)) rfl rfl (Cb.made W11 nZS 37) ?_
    rw [hW]
    replace HB := over HB hb
    replace M6 := M6.below hb
    replace HL := over HL hb
    replace hS9 := hS9.below hb
    replace hD9 := hD9.below hb
    have z8 := hb.size
    have M12 := hq
    have yM12 := hq.lt
    clear hq hb hW
    refine Zv rfl (.slice od (runD x ty st l S.rts).length cd) (Zv rfl (.int .i64 0) (Yn (Yo (Ys (Yq (Zv rfl (.int .i64 0) (Zv rfl (.bool false) (Yn (Yo (sx_false (by kernel_rfl) (wp_skip (Yo (Ys (Yq (Zw rfl (.agg (sK S oS cS)) (ex_load rfl M6 (by kernel_rfl) Tryz.underlying37 rfl (by kernel_rfl)) (Zw rfl (.agg (sK (runS x ty st l S.rts) o9 c9)) (ex_load rfl M12 (by kernel_rfl) Tryz.underlying37 rfl (by kernel_rfl)) ?_))))))))))))))))
    by_cases C7 : (decide (S = (runS x ty st l S.rts))) = true
    ·refine Zd rfl ((by have h8 := refSame_n18 S (runS x ty st l S.rts) oS o9 cS c9 bS qS b9 q9 (by omega) W13 (hST.below HB) hS9; rw [show (decide (S = (runS x ty st l S.rts))) = true by simpa using C7] at h8; exact h8)) (fun W14 hb z9 => ?_)
     replace HB := over HB hb
     replace HL := over HL hb
     replace hD9 := hD9.below hb
     clear hb
     refine Zv rfl (.bool false) (Yn (Yo (sx_false (by kernel_rfl) (wp_skip (Yo (Yq (Zv rfl (.slice od (runD x ty st l S.rts).length cd) (Zv rfl (.slice od (runD x ty st l S.rts).length cd) (Zv rfl (.int .i64 0) (Yn (Yo (wp_ret ?_))))))))))))
     have h9 : chkE x ty st l F S = 0 := by rw [(chk_ref hp9 (by omega) (by omega) (fun j hj => hJ j (by omega))).1, if_pos hrun9, if_pos (of_decide_eq_true (by assumption))]
     have h8 : sinS x ty st l F S = (runD x ty st l S.rts) := by rw [(chk_ref hp9 (by omega) (by omega) (fun j hj => hJ j (by omega))).2, if_pos h9]
     refine sx_ret2 (.slice od (runD x ty st l S.rts).length cd) (.int .i64 0) rfl rfl rfl (by kernel_rfl) (by kernel_rfl) ⟨od, cd, bd, qd, by rw [h8, h9], by rw [h8]; exact hD9, HB⟩
    refine Zd rfl ((by have h8 := refSame_n18 S (runS x ty st l S.rts) oS o9 cS c9 bS qS b9 q9 (by omega) W13 (hST.below HB) hS9; rw [show (decide (S = (runS x ty st l S.rts))) = false by simpa using C7] at h8; exact h8)) (fun W15 hb z9 => ?_)
    replace HB := over HB hb
    replace HL := over HL hb
    clear hb
    refine Zv rfl (.bool true) (Yn (Yo (sx_true (by kernel_rfl) (Yq (Zv rfl (.slice none 0 0) (Zv rfl (.int .i64 9) (Yn (Yo (wp_ret (sx_rs ?_))))))))))
    have h9 : chkE x ty st l F S = 9 := by rw [(chk_ref hp9 (by omega) (by omega) (fun j hj => hJ j (by omega))).1, if_pos hrun9, if_neg (of_decide_eq_false (by simpa using (by assumption : ¬ decide (S = (runS x ty st l S.rts)) = true)))]
    have h8 := sin_no (x := x) (ty := ty) (st := st) (l := l) (F := F) (S := S) (by rw [h9]; decide)
    refine sx_ret2 (.slice none 0 0) (.int .i64 9) rfl rfl rfl (by kernel_rfl) (by kernel_rfl) ⟨none, 0, 0, 0, by rw [h8, h9]; rfl, by rw [h8]; exact fun i hi => absurd hi (Nat.not_lt_zero i), HB⟩
   refine Zc rfl ((by have h8 := refRun_n k x hal ty st orr oa cr ca b o l F hok S.rts oQ cQ bQ qQ wr9 (hI.below HB) (hl.below HB) hQ; exact h8)) ?_
   rintro e W16 ⟨o9, c9, b9, q9, od, cd, bd, qd, rfl, hS9, hD9, -, hb⟩
   have hlS9 : ∀ i, i < (runS x ty st l S.rts).T.length → b9 < W16.heap.size := fun i hi => hS9.lt hi
   have hlD9 : ∀ i, i < (runD x ty st l S.rts).length → bd < W16.heap.size := fun i hi => hD9.lt hi
   replace HB := over HB hb
   replace HL := over HL hb
   have z7 := hb.size
   clear hb
   refine ⟨_, rfl, ?_⟩
   refine Zv rfl (.tuple #[.agg (sK (runS x ty st l S.rts) o9 c9), .slice od (runD x ty st l S.rts).length cd, .int .i64 (runE x ty st l S.rts)]) (Zv rfl (.agg (sK (runS x ty st l S.rts) o9 c9)) (Zv rfl (.slice od (runD x ty st l S.rts).length cd) (Zv rfl (.int .i64 (runE x ty st l S.rts)) ?_)))
   obtain ⟨W18, hW, hb, hq⟩ := laidV W16 nZS (sK (runS x ty st l S.rts) o9 c9) 37
   refine sx_mem (by kernel_rfl) rfl rfl (pt W16.heap.size 0) (W16.alloc (.cells nZS 37)) (by kernel_rfl) ?_
   refine Zs (cells := (sK (runS x ty st l S.rts) o9 c9)) rfl rfl (Cb.made W16 nZS 37) ?_
   rw [hW]
   replace HB := over HB hb
   replace HL := over HL hb
   have z8 := hb.size
   have yM17 := hq.lt
   clear hq hb hW
   refine Zv rfl (.slice od (runD x ty st l S.rts).length cd) (Zv rfl (.int .i64 (runE x ty st l S.rts)) (Yn (Yo (Ys (Yq (Zv rfl (.int .i64 (runE x ty st l S.rts)) (Zb rfl (((runE x ty st l S.rts) : Int) != (0 : Int)) true (bne_iff_ne.2 (by omega)) (Yn (Yo (sx_true (by kernel_rfl) (Yq (Zv rfl (.int .i64 (runE x ty st l S.rts)) (Zv rfl (.slice none 0 0) (Zv rfl (.int .i64 (runE x ty st l S.rts)) (Yn (Yo (wp_ret (sx_rs ?_))))))))))))))))))
   have h9 : chkE x ty st l F S = (runE x ty st l S.rts) := by rw [(chk_ref hp9 (by omega) (by omega) (fun j hj => hJ j (by omega))).1, if_neg (by assumption)]
   have h8 := sin_no (x := x) (ty := ty) (st := st) (l := l) (F := F) (S := S) (by rw [h9]; assumption)
   refine sx_ret2 (.slice none 0 0) (.int .i64 (runE x ty st l S.rts)) rfl rfl rfl (by kernel_rfl) (by kernel_rfl) ⟨none, 0, 0, 0, by rw [h8, h9]; rfl, by rw [h8]; exact fun i hi => absurd hi (Nat.not_lt_zero i), HB⟩
  refine Zb rfl ((((S.T.length : Nat) : Int) : Int) != (((l.length : Nat) : Int) : Int)) true (bne_iff_ne.2 (by omega)) (Zv rfl (.bool true) (Yn (Yo (sx_true (by kernel_rfl) (Yq (Zv rfl (.slice none 0 0) (Zv rfl (.int .i64 2) (Yn (Yo (wp_ret (sx_rs ?_)))))))))))
  have h9 : chkE x ty st l F S = 2 := chkE_2 (.inr (by omega))
  have h8 := sin_no (x := x) (ty := ty) (st := st) (l := l) (F := F) (S := S) (by rw [h9]; decide)
  refine sx_ret2 (.slice none 0 0) (.int .i64 2) rfl rfl rfl (by kernel_rfl) (by kernel_rfl) ⟨none, 0, 0, 0, by rw [h8, h9]; rfl, by rw [h8]; exact fun i hi => absurd hi (Nat.not_lt_zero i), HB⟩
 refine Zd rfl ((by have h8 := refPoss_n k x ty st orr oa cr ca b o l F W5 (hI.below HB) (hl.below HB); rw [show posD x.tl x.ol ty st l = false by simpa using C1] at h8; exact h8)) (fun W19 hb z4 => ?_)
 replace HB := over HB hb
 clear hb
 have hp9 : posD x.tl x.ol ty st l = false := by simpa using C1
 refine Zv rfl (.bool true) (Zv rfl (.bool true) (Zk rfl (Zk rfl (Zk rfl (Zk rfl (Zk rfl (Zk rfl (Zk rfl (Zk rfl (Zv rfl (.bool true) (Zv rfl (.bool true) ?_)))))))))))
 refine Zk rfl (Zk rfl (Zk rfl (Zk rfl (Zk rfl (Zk rfl (Zk rfl (Zv rfl (.bool true) (Yn (Yo (sx_true (by kernel_rfl) (Yq (Zv rfl (.slice none 0 0) ?_))))))))))))
 refine Zv rfl (.int .i64 2) (Yn (Yo (wp_ret (sx_rs ?_))))
 have h9 : chkE x ty st l F S = 2 := chkE_2 (.inl hp9)
 have h8 := sin_no (x := x) (ty := ty) (st := st) (l := l) (F := F) (S := S) (by rw [h9]; decide)
 refine sx_ret2 (.slice none 0 0) (.int .i64 2) rfl rfl rfl (by kernel_rfl) (by kernel_rfl) ⟨none, 0, 0, 0, by rw [h8, h9]; rfl, by rw [h8]; exact fun i hi => absurd hi (Nat.not_lt_zero i), HB⟩
theorem refValid18_n (k : Iv) (x : InT) (hal : x.al.length ≤ 1000000000) (ty st : Int) (orr oa oS : Option Addr) (cr ca cS b o bf qf bS qS : Nat) (l : List (Int × Bool)) (F : List Bool) (S : ShT) (lS : S.T.length ≤ 300000) (hok : posD x.tl x.ol ty st l = true → (crs x ty st l).Ok) (w : World) (hI : Ins w k x) (hl : Rw w b o 2 (vF l) l.length oa) (hFx : Rw w bf qf 1 (bF F) F.length orr) (hST : Rw w bS qS 4 (fun k => tmE (S.T.getD k tm0)) S.T.length oS) : Calls Tryz.prog 19 #[.agg (iK k x), .agg (rK ty st orr F.length cr oa l.length ca), .agg (sK S oS cS)] w fun e w' => e = .returned (.int .i64 (chkE x ty st l F S)) ∧ Below w.heap.size w w' := by
 have HB : Below w.heap.size w w := Below.refl _ _
 refine sx_enter Tryz.func19 rfl [(0, .agg (iK k x)), (1, .agg (rK ty st orr F.length cr oa l.length ca)), (2, .agg (sK S oS cS))] (by kernel_rfl) ?_
 refine Yq ?_
 refine Za rfl (iK k x) 30 (fun W1 hb M2 z1 yM2 => ?_)
 replace HB := over HB hb
 clear hb
 refine Za rfl (rK ty st orr F.length cr oa l.length ca) 34 (fun W3 hb M4 z2 yM4 => ?_)
 replace HB := over HB hb
 replace M2 := M2.below hb
 clear hb
 refine Za rfl (sK S oS cS) 37 (fun W5 hb M6 z3 yM6 => ?_)
 replace HB := over HB hb
 replace M2 := M2.below hb
 replace M4 := M4.below hb
 clear hb
 refine Zv rfl (.int .i64 0) (Yn (Yo (Yq (Zw rfl (.agg (iK k x)) (ex_load rfl M2 (by kernel_rfl) Tryz.underlying30 rfl (by kernel_rfl)) (Zw rfl (.agg (rK ty st orr F.length cr oa l.length ca)) (ex_load rfl M4 (by kernel_rfl) Tryz.underlying34 rfl (by kernel_rfl)) (Zw rfl (.agg (sK S oS cS)) (ex_load rfl M6 (by kernel_rfl) Tryz.underlying37 rfl (by kernel_rfl)) ?_))))))
 refine Zc rfl (refCheck18_n k x hal ty st orr oa oS cr ca cS b o bf qf bS qS l F S lS hok W5 (hI.below HB) (hl.below HB) (hFx.below HB) (hST.below HB)) ?_
 rintro e W7 ⟨o9, c9, b9, q9, rfl, hD9, hb⟩
 replace HB := over HB hb
 have z4 := hb.size
 clear hb
 refine ⟨_, rfl, ?_⟩
 refine Zv rfl (.tuple #[.slice o9 (sinS x ty st l F S).length c9, .int .i64 (chkE x ty st l F S)]) (Zv rfl (.slice o9 (sinS x ty st l F S).length c9) (Zv rfl (.int .i64 (chkE x ty st l F S)) (Zv rfl (.slice o9 (sinS x ty st l F S).length c9) (Zv rfl (.int .i64 (chkE x ty st l F S)) (Yn (Yo (Yq (Zv rfl (.int .i64 (chkE x ty st l F S)) (Zv rfl (.int .i64 (chkE x ty st l F S)) (Yn (Yo (wp_ret ?_))))))))))))
 exact sx_ret1 (.int .i64 (chkE x ty st l F S)) rfl rfl (by kernel_rfl) ⟨rfl, HB⟩

end Go.Proofs.YtomebalolmabnaaGreatDoor.T



/-! What is found is possible, and ends first. -/
namespace Go.Proofs.YtomebalolmabnaaGreatDoor.T
open Go.RowKit
set_option maxRecDepth 8000

namespace CrT
section
variable {c : CrT} (hn : NetOk c.pl c.al) (hr : 0 ≤ c.ty.rst)
include hn hr
theorem leg_le {k : Nat} {d d' s s' : Int} {r r' : Bool} (hd : d ≤ d') (h : r = true → r' = true) : (c.leg k d s r).arr ≤ (c.leg k d' s' r').arr ∧ (c.leg k d s r).don ≤ (c.leg k d' s' r').don ∧ (c.go k d r).2.2 = (c.go k d' r').2.2 := by
 have hg : c.gD d r ≤ c.gD d' r' := by
  unfold gD
  cases r <;> cases r' <;> simp at h ⊢ <;> omega
 have hm := goV_mono hn (pr := c.ty.prof) (f := (c.S.getD k st0).p) (t := (c.S.getD (k + 1) st0).p) hg
 have h1 : (c.go k d r).1 ≤ (c.go k d' r').1 := hm.2.2
 refine ⟨h1, ?_, hm.1⟩
 have hb : c.beg k d r ≤ c.beg k d' r' := by unfold beg; split <;> split <;> omega
 show c.beg k d r + (c.S.getD (k + 1) st0).s ≤ c.beg k d' r' + (c.S.getD (k + 1) st0).s
 omega
end
end CrT
namespace CrT
end CrT
end Go.Proofs.YtomebalolmabnaaGreatDoor.T



/-! Own lists with room behind them: whole lists that are appended, single cells that are written. -/
namespace Go.Proofs.YtomebalolmabnaaGreatDoor.T
open Go.RowKit
set_option maxRecDepth 8000

section
variable {α : Type} {E : α → List Value} {e : TypeId} {sz B : Nat} {w w' : World} {L : List α} {v : Value}
theorem flat_get (hr : Row E sz) (hsz : 0 < sz) (d : α) {L : List α} {j : Nat} {u : Value} (h : (L.flatMap E)[j]? = some u) : j / sz < L.length ∧ (E (L.getD (j / sz) d))[j % sz]? = some u := by
 have hj : j < L.length * sz := by have := (List.getElem?_eq_some_iff.1 h).1; rw [hr.flen] at this; exact this
 have h1 : j / sz < L.length := (Nat.div_lt_iff_lt_mul hsz).2 hj
 refine ⟨h1, ?_⟩
 have h2 := hr.at_ d L (j / sz) (j % sz) h1 (Nat.mod_lt _ hsz)
 rw [show j / sz * sz + j % sz = j by rw [Nat.mul_comm]; exact Nat.div_add_mod j sz] at h2
 rw [← h2]; exact h
theorem ap_all {P : Program} {t ty : TypeId} {z : Value} {bytes : Nat} (hr : Row E sz) (d : α) (ht : P.underlying t = some (.slice e)) (hinfo : (P.info? e).map (fun i => (i.zero, i.size, i.bytes)) = some (some z, sz, bytes)) (hz : z.cells.size = sz) (hsz : 0 < sz) (hb1 : bytes ≤ 1000) {b q c : Nat} {a : Addr} {M : List α} (hv : Ol E e sz B w v L) (hM : Rw w b q sz (fun k => E (M.getD k d)) M.length (some a)) (hB : B ≤ w.heap.size) (hn : L.length + M.length ≤ 1000000) :
  ∃ v' w', (Builtin.append_ #[t, t] ty #[v, .slice (some a) M.length c]).run P w = .ok v' w' ∧ Ol E e sz B w' v' (L ++ M) ∧ Below B w w' ∧ w.grownBy w' v.ownBlock ∧ (v'.ownBlock = v.ownBlock ∨ v'.ownBlock = some w.heap.size) := by
 obtain ⟨i, hi, hzz⟩ := Option.map_eq_some_iff.1 hinfo
 simp only [Prod.mk.injEq] at hzz
 obtain ⟨h1, h2, h3⟩ := hzz
 have hb9 : (L.length + M.length) * bytes ≤ 140737488355328 := Nat.le_trans (Nat.mul_le_mul hn hb1) (by decide)
 obtain ⟨v', w', g1, g2, g3, -, g5⟩ := run_append_own_at (P := P) w B t ty e i z sz bytes ht hi h1 h2 h3 hz hsz v L.length (L.flatMap E) hv a M.length c (M.flatMap E) (hr.flen M) (fun j u hj => by
  obtain ⟨hk, hu⟩ := flat_get hr hsz d hj
  have h8 := hM.cell hk (j % sz) hu
  obtain rfl : a = ⟨b, q, none⟩ := Option.some.inj (hM.oa hk)
  have h7 : (⟨b, q, none⟩ : Addr).add j = ⟨b, q + j / sz * sz + j % sz, none⟩ := by
   have h6 : j / sz * sz + j % sz = j := by rw [Nat.mul_comm]; exact Nat.div_add_mod j sz
   unfold Addr.add
   split
   ·rename_i h5; simp only [Addr.mk.injEq, and_true, true_and]; omega
   ·simp only [Addr.mk.injEq, and_true, true_and]; omega
  rw [h7]; exact h8) (fun u hu => by
  obtain ⟨x, -, hx⟩ := List.mem_flatMap.1 hu
  exact hr.one x u hx) (by unfold maxLen; omega) hb9 hB
 refine ⟨v', w', g1, ?_, ⟨g3.os, g3.tape, g3.output, g3.size, fun k hk => g3.block k (by omega) (fun e9 => by have := hv.blk e9.symm; omega)⟩, g3, g5⟩
 unfold Ol
 rw [List.length_append, List.flatMap_append]
 exact g2
theorem Ol.oz (h : Ol E e sz B w v L) (hne : 0 < L.length) : ∃ g c Z, v = .slice (some ⟨g, 0, none⟩) L.length c ∧ B ≤ g ∧ Cb w g (L.flatMap E ++ Z).toArray e := by
 rcases h.2 with ⟨-, h0⟩ | ⟨g, cap, cur, e9, hb, hg, -, -, -, ht⟩
 ·omega
 ·refine ⟨g, cap, cur.toList.drop (L.length * sz), e9, hb, ?_⟩
  have h1 : L.flatMap E ++ cur.toList.drop (L.length * sz) = cur.toList := by
   rw [← ht]
   exact List.take_append_drop _ _
  rw [h1]
  exact hg
theorem oz_at (hr : Row E sz) (d : α) {Z : List Value} {L : List α} {k j : Nat} (hk : k < L.length) (hj : j < sz) : (L.flatMap E ++ Z).toArray[k * sz + j]? = (E (L.getD k d))[j]? := by
 rw [List.getElem?_toArray, List.getElem?_append_left (by rw [hr.flen]; have := Nat.mul_le_mul_right sz (show k + 1 ≤ L.length by omega); rw [Nat.add_mul] at this; omega)]
 exact hr.at_ d L k j hk hj
theorem set_flat (hr : Row E sz) (d : α) {x : α} {u : Value} {j : Nat} (hj : j < sz) : ∀ (L : List α) (k : Nat), k < L.length → E x = (E (L.getD k d)).set j u → (L.flatMap E).set (k * sz + j) u = (L.set k x).flatMap E
 | [], _, h, _ => absurd h (Nat.not_lt_zero _)
 | y :: L, 0, _, hx => by
  rw [List.flatMap_cons, Nat.zero_mul, Nat.zero_add, List.set_append_left _ _ (by rw [hr.len]; exact hj), List.set_cons_zero, List.flatMap_cons, hx]
  rfl
 | y :: L, k + 1, hk, hx => by
  rw [List.flatMap_cons, List.set_append_right _ _ (by rw [hr.len, Nat.add_mul]; omega), hr.len, show (k + 1) * sz + j - sz = k * sz + j by rw [Nat.add_mul]; omega, set_flat hr d hj L k (by simpa using hk) hx, List.set_cons_succ, List.flatMap_cons]
theorem oz_set (hr : Row E sz) (d : α) {Z : List Value} {t : TypeId} {g : Nat} {L : List α} {x : α} {u : Value} {k j : Nat} (h : Cb w g (L.flatMap E ++ Z).toArray t) (hk : k < L.length) (hj : j < sz) (hx : E x = (E (L.getD k d)).set j u) : Cb (w.setCell ⟨g, k * sz + j, none⟩ u) g ((L.set k x).flatMap E ++ Z).toArray t := by
 have h1 := h.set (k * sz + j) u
 have h2 : (L.flatMap E ++ Z).toArray.setIfInBounds (k * sz + j) u = ((L.set k x).flatMap E ++ Z).toArray := by
  apply Array.toList_inj.1
  rw [Array.toList_setIfInBounds]
  show (L.flatMap E ++ Z).set (k * sz + j) u = _
  rw [List.set_append_left _ _ (by rw [hr.flen]; have := Nat.mul_le_mul_right sz (show k + 1 ≤ L.length by omega); rw [Nat.add_mul] at this; omega), set_flat hr d hj L k hk hx]
 rw [h2] at h1
 exact h1
theorem oz_rw (hr : Row E sz) (d : α) {Z : List Value} {t : TypeId} {g : Nat} {L : List α} (h : Cb w g (L.flatMap E ++ Z).toArray t) : Rw w g 0 sz (fun k => E (L.getD k d)) L.length (some ⟨g, 0, none⟩) := fun k hk => ⟨rfl, h.lt, fun j u hj => by
 have hjs : j < sz := by have := (List.getElem?_eq_some_iff.1 hj).1; rw [hr.len] at this; exact this
 rw [Nat.zero_add]
 exact h.cell _ (by rw [oz_at hr d hk hjs]; exact hj)⟩
end
end Go.Proofs.YtomebalolmabnaaGreatDoor.T



