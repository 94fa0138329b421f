/-
  DERIVED. GP: a part of the base of layer 13 (made by pack.py).
-/
import Derived.Test.YtomebalolmabnaaGreatDoorGA
import Derived.Test.YtomebalolmabnaaGreatDoorJd
import Derived.Test.YtomebalolmabnaaGreatDoorJf
import Derived.Test.YtomebalolmabnaaGreatDoorGF
import Derived.Test.YtomebalolmabnaaGreatDoorJe
/-! The walks of slack: Slack, Latest, After (by gen_jg.py). -/
namespace Go.Proofs.YtomebalolmabnaaGreatDoor.T
open Go.RowKit
set_option maxRecDepth 8000
attribute [local irreducible] wpList Code.wp wpAnyH

namespace CrT
def latK (c : CrT) (R : List Bool) (i : Nat) : List Int := (List.range c.n).map fun k => if k < i then (c.sl R k : Int) + (c.lg R k).arr else (c.sl R k : Int)
def latL (c : CrT) (R : List Bool) : List Int := (List.range c.n).map fun k => (c.sl R k : Int) + (c.lg R k).arr
theorem latK_len (c : CrT) (R : List Bool) (i : Nat) : (c.latK R i).length = c.n := by unfold latK; simp
theorem latL_len (c : CrT) (R : List Bool) : (c.latL R).length = c.n := by unfold latL; simp
theorem latK_zero (c : CrT) (R : List Bool) : c.latK R 0 = c.slL R := by unfold latK slL; exact List.map_congr_left fun j _ => by rw [if_neg (Nat.not_lt_zero j)]
theorem latK_all (c : CrT) (R : List Bool) : c.latK R c.n = c.latL R := by unfold latK latL; exact List.map_congr_left fun j hj => by rw [if_pos (List.mem_range.1 hj)]
theorem latK_at {c : CrT} {R : List Bool} {i k : Nat} (h : k < c.n) : (c.latK R i).getD k 0 = if k < i then (c.sl R k : Int) + (c.lg R k).arr else (c.sl R k : Int) := by unfold latK; rw [List.getD_eq_getElem?_getD, List.getElem?_map, List.getElem?_range h]; rfl
theorem latK_set {c : CrT} {R : List Bool} {i : Nat} (h : i < c.n) : (c.latK R i).set i ((c.sl R i : Int) + (c.lg R i).arr) = c.latK R (i + 1) := by
 apply ext_getD (d := 0)
 ·rw [List.length_set, latK_len, latK_len]
 intro j hj
 rw [List.length_set, latK_len] at hj
 rw [latK_at hj, List.getD_eq_getElem?_getD, List.getElem?_set]
 by_cases h1 : i = j
 ·subst h1
  rw [if_pos rfl, if_pos (by rw [latK_len]; exact h), if_pos (Nat.lt_succ_self i)]
  rfl
 ·rw [if_neg h1, ← List.getD_eq_getElem?_getD, latK_at hj]
  by_cases h2 : j < i
  ·rw [if_pos h2, if_pos (by omega)]
  ·rw [if_neg h2, if_neg (by omega)]
end CrT
def slkL (x : InT) (ty st : Int) (l : List (Int × Bool)) (F : List Bool) (S : ShT) : List Int := if (chkE x ty st l F S) = 0 then (crs x ty st l).slL S.rts else []
def ltsL (x : InT) (ty st : Int) (l : List (Int × Bool)) (F : List Bool) (S : ShT) : List Int := if (chkE x ty st l F S) = 0 then (crs x ty st l).latL S.rts else []
def aftE (x : InT) (ty st : Int) (l : List (Int × Bool)) (F : List Bool) (S : ShT) (ai te : Int) : Int :=
 if (chkE x ty st l F S) ≠ 0 then (chkE x ty st l F S) else if ai < 0 ∨ (l.length : Int) < ai ∨ te < 0 ∨ 4096 < te then 2 else (crs x ty st l).ra S.rts ai.toNat (((crs x ty st l).lg S.rts ai.toNat).arr + te) (((crs x ty st l).lg S.rts ai.toNat).sin + te) ((crs x ty st l).n - ai.toNat)
def aftS (x : InT) (ty st : Int) (l : List (Int × Bool)) (F : List Bool) (S : ShT) (ai te : Int) : ShT := if aftE x ty st l F S ai te = 0 then (crs x ty st l).afS S.rts ai.toNat (((crs x ty st l).lg S.rts ai.toNat).arr + te) (((crs x ty st l).lg S.rts ai.toNat).sin + te) else sh0
theorem aftE_c {x : InT} {ty st : Int} {l : List (Int × Bool)} {F : List Bool} {S : ShT} {ai te : Int} (h : ¬ (chkE x ty st l F S) = 0) : aftE x ty st l F S ai te = (chkE x ty st l F S) ∧ aftS x ty st l F S ai te = sh0 := by
 have e : aftE x ty st l F S ai te = (chkE x ty st l F S) := if_pos h
 exact ⟨e, by unfold aftS; rw [e, if_neg h]⟩
theorem aftE_a {x : InT} {ty st : Int} {l : List (Int × Bool)} {F : List Bool} {S : ShT} {ai te : Int} (h : (chkE x ty st l F S) = 0) (h2 : ai < 0 ∨ (l.length : Int) < ai ∨ te < 0 ∨ 4096 < te) : aftE x ty st l F S ai te = 2 ∧ aftS x ty st l F S ai te = sh0 := by
 have e : aftE x ty st l F S ai te = 2 := by unfold aftE; rw [if_neg (fun h9 => h9 h), if_pos h2]
 exact ⟨e, by unfold aftS; rw [e, if_neg (by decide)]⟩
theorem aftE_r {x : InT} {ty st : Int} {l : List (Int × Bool)} {F : List Bool} {S : ShT} {ai te : Int} (h : (chkE x ty st l F S) = 0) (h2 : ¬ (ai < 0 ∨ (l.length : Int) < ai ∨ te < 0 ∨ 4096 < te)) : aftE x ty st l F S ai te = (crs x ty st l).ra S.rts ai.toNat (((crs x ty st l).lg S.rts ai.toNat).arr + te) (((crs x ty st l).lg S.rts ai.toNat).sin + te) ((crs x ty st l).n - ai.toNat) := by unfold aftE; rw [if_neg (fun h9 => h9 h), if_neg h2]
theorem sSlack_n (k : Iv) (x : InT) (ty st : Int) (orr oa oS : Option Addr) (cr ca cS b o bf qf bS qS : Nat) (l : List (Int × Bool)) (F : List Bool) (S : ShT) (lS : S.T.length ≤ 300000) (hok : posD x.tl x.ol ty st l = true → (crs x ty st l).Ok) (w : World) (hI : Ins w k x) (hT : Tab w) (hl : Rw w b o 2 (vF l) l.length oa) (hFx : Rw w bf qf 1 (bF F) F.length orr) (hST : Rw w bS qS 4 (fun k => tmE (S.T.getD k tm0)) S.T.length oS) : Calls Tryz.prog 7 #[.agg (iK k x), .agg (rK ty st orr F.length cr oa l.length ca), .agg (sK S oS cS)] w fun e w' => ∃ o9 c9 b9 q9, e = .returned (.tuple #[.slice o9 (slkL x ty st l F S).length c9, .int .i64 (chkE x ty st l F S)]) ∧ Rw w' b9 q9 1 (fun k => inE ((slkL x ty st l F S).getD k 0)) (slkL x ty st l F S).length o9 ∧ (∀ i, i < (slkL x ty st l F S).length → w.heap.size ≤ b9) ∧ Below w.heap.size w w' := by
 have HB : Below w.heap.size w w := Below.refl _ _
 refine sx_enter Tryz.func7 rfl [(0, .agg (iK k x)), (1, .agg (rK ty st orr F.length cr oa l.length ca)), (2, .agg (sK S oS cS))] (by kernel_rfl) ?_
 refine Yq ?_
 refine Za rfl (iK k x) 30 (fun W1 hb M2 z1 yM2 => ?_)
 replace HB := over HB hb
 clear hb
 refine Za rfl (rK ty st orr F.length cr oa l.length ca) 34 (fun W3 hb M4 z2 yM4 => ?_)
 replace HB := over HB hb
 replace M2 := M2.below hb
 clear hb
 refine Za rfl (sK S oS cS) 37 (fun W5 hb M6 z3 yM6 => ?_)
 replace HB := over HB hb
 replace M2 := M2.below hb
 replace M4 := M4.below hb
 clear hb
 refine Zv rfl (.slice none 0 0) (Zv rfl (.int .i64 0) (Yn (Yo (Yq (Zw rfl (.agg (iK k x)) (ex_load rfl M2 (by kernel_rfl) Tryz.underlying30 rfl (by kernel_rfl)) (Zw rfl (.agg (rK ty st orr F.length cr oa l.length ca)) (ex_load rfl M4 (by kernel_rfl) Tryz.underlying34 rfl (by kernel_rfl)) (Zw rfl (.agg (sK S oS cS)) (ex_load rfl M6 (by kernel_rfl) Tryz.underlying37 rfl (by kernel_rfl)) ?_)))))))
 refine Zc rfl (scourseOf_n k x ty st orr oa oS cr ca cS b o bf qf bS qS l F S lS hok W5 (hI.below HB) (hT.belowD HB) (hl.below HB) (hFx.below HB) (hST.below HB)) ?_
 rintro e W7 ⟨hcs, hb⟩
 replace HB := over HB hb
 have z4 := hb.size
 clear hb
 rcases hcs with ⟨hck, rfl⟩ | ⟨K, q, hck, rfl, hK9⟩
 ·refine ⟨_, rfl, ?_⟩
  refine Zv rfl (.tuple #[.pointer none, .int .i64 (chkE x ty st l F S)]) (Zv rfl (.pointer none) (Zv rfl (.int .i64 (chkE x ty st l F S)) (Zv rfl (.pointer none) (Zv rfl (.int .i64 (chkE x ty st l F S)) (Yn (Yo (Ys (Yq (Zv rfl (.int .i64 (chkE x ty st l F S)) (Zb rfl (((chkE x ty st l F S) : Int) != (0 : Int)) true (bne_iff_ne.2 (by omega)) (Yn (Yo (sx_true (by kernel_rfl) (Yq (Zv rfl (.int .i64 (chkE x ty st l F S)) ?_)))))))))))))))
  refine Zv rfl (.slice none 0 0) (Zv rfl (.int .i64 (chkE x ty st l F S)) (Yn (Yo (wp_ret (sx_rs ?_)))))
  have h8 : slkL x ty st l F S = [] := if_neg hck
  refine sx_ret2 (.slice none 0 0) (.int .i64 (chkE x ty st l F S)) rfl rfl rfl (by kernel_rfl) (by kernel_rfl) ⟨none, 0, 0, 0, by rw [h8]; rfl, by rw [h8]; exact fun i hi => absurd hi (Nat.not_lt_zero i), fun i hi => by rw [h8] at hi; exact absurd hi (Nat.not_lt_zero i), HB⟩
 obtain ⟨hp9, hTl, hrun, hsh, -⟩ := chk_is hck
 have hc := hok hp9
 have hn9 : (crs x ty st l).n = l.length + 1 := crs_n x ty st l
 have hl20 := posD_len hp9
 refine ⟨_, rfl, ?_⟩
 obtain ⟨v0, hv0⟩ : ∃ v, W7 = v := ⟨_, rfl⟩
 have hKv := hv0 ▸ hK9
 have HV : Below v0.heap.size v0 W7 := by rw [hv0]; exact Below.refl _ _
 have hvs : v0.heap.size = W7.heap.size := by rw [hv0]
 clear hK9
 refine Zv rfl (.tuple #[.pointer (some ⟨q, 0, none⟩), .int .i64 0]) (Zv rfl (pt q 0) (Zv rfl (.int .i64 0) (Zv rfl (pt q 0) (Zv rfl (.int .i64 0) (Yn (Yo (Ys (Yq (Zv rfl (.int .i64 0) (Zv rfl (.bool false) (Yn (Yo (sx_false (by kernel_rfl) (wp_skip (Yo (Yq (Zv rfl (pt q 0) ?_)))))))))))))))))
 have zS9 := HB.size
 refine Zc rfl (sslacks_n (crs x ty st l) hc S.rts hrun K q W7 (hKv.below HV)) ?_
 rintro e W8 ⟨cN, bN, rfl, NT, hbN, hb⟩
 replace HB := over HB hb
 replace HV := over HV hb
 have z5 := hb.size
 clear hb
 refine ⟨_, rfl, ?_⟩
 have yNT := NT.lt
 refine Zv rfl (.slice (some ⟨bN, 0, none⟩) ((crs x ty st l).slL S.rts).length cN) (Zv rfl (.int .i64 0) (Yn (Yo (wp_ret ?_))))
 have h8 : slkL x ty st l F S = ((crs x ty st l).slL S.rts) := if_pos hck
 refine sx_ret2 (.slice (some ⟨bN, 0, none⟩) ((crs x ty st l).slL S.rts).length cN) (.int .i64 0) rfl rfl rfl (by kernel_rfl) (by kernel_rfl) ⟨some ⟨bN, 0, none⟩, cN, bN, 0, by rw [h8, hck], by rw [h8]; exact Rw.of_flat inRow 0 NT, fun _ _ => by omega, HB⟩
theorem sLatest_n (k : Iv) (x : InT) (ty st : Int) (orr oa oS : Option Addr) (cr ca cS b o bf qf bS qS : Nat) (l : List (Int × Bool)) (F : List Bool) (S : ShT) (lS : S.T.length ≤ 300000) (hok : posD x.tl x.ol ty st l = true → (crs x ty st l).Ok) (w : World) (hI : Ins w k x) (hT : Tab w) (hl : Rw w b o 2 (vF l) l.length oa) (hFx : Rw w bf qf 1 (bF F) F.length orr) (hST : Rw w bS qS 4 (fun k => tmE (S.T.getD k tm0)) S.T.length oS) : Calls Tryz.prog 9 #[.agg (iK k x), .agg (rK ty st orr F.length cr oa l.length ca), .agg (sK S oS cS)] w fun e w' => ∃ o9 c9 b9 q9, e = .returned (.tuple #[.slice o9 (ltsL x ty st l F S).length c9, .int .i64 (chkE x ty st l F S)]) ∧ Rw w' b9 q9 1 (fun k => inE ((ltsL x ty st l F S).getD k 0)) (ltsL x ty st l F S).length o9 ∧ (∀ i, i < (ltsL x ty st l F S).length → w.heap.size ≤ b9) ∧ Below w.heap.size w w' := by
 have HB : Below w.heap.size w w := Below.refl _ _
 refine sx_enter Tryz.func9 rfl [(0, .agg (iK k x)), (1, .agg (rK ty st orr F.length cr oa l.length ca)), (2, .agg (sK S oS cS))] (by kernel_rfl) ?_
 refine Yq ?_
 refine Za rfl (iK k x) 30 (fun W1 hb M2 z1 yM2 => ?_)
 replace HB := over HB hb
 clear hb
 refine Za rfl (rK ty st orr F.length cr oa l.length ca) 34 (fun W3 hb M4 z2 yM4 => ?_)
 replace HB := over HB hb
 replace M2 := M2.below hb
 clear hb
 refine Za rfl (sK S oS cS) 37 (fun W5 hb M6 z3 yM6 => ?_)
 replace HB := over HB hb
 replace M2 := M2.below hb
 replace M4 := M4.below hb
 clear hb
 refine Zv rfl (.slice none 0 0) (Zv rfl (.int .i64 0) (Yn (Yo (Yq (Zw rfl (.agg (iK k x)) (ex_load rfl M2 (by kernel_rfl) Tryz.underlying30 rfl (by kernel_rfl)) (Zw rfl (.agg (rK ty st orr F.length cr oa l.length ca)) (ex_load rfl M4 (by kernel_rfl) Tryz.underlying34 rfl (by kernel_rfl)) (Zw rfl (.agg (sK S oS cS)) (ex_load rfl M6 (by kernel_rfl) Tryz.underlying37 rfl (by kernel_rfl)) ?_)))))))
 refine Zc rfl (scourseOf_n k x ty st orr oa oS cr ca cS b o bf qf bS qS l F S lS hok W5 (hI.below HB) (hT.belowD HB) (hl.below HB) (hFx.below HB) (hST.below HB)) ?_
 rintro e W7 ⟨hcs, hb⟩
 replace HB := over HB hb
 have z4 := hb.size
 clear hb
 rcases hcs with ⟨hck, rfl⟩ | ⟨K, q, hck, rfl, hK9⟩
 ·refine ⟨_, rfl, ?_⟩
  refine Zv rfl (.tuple #[.pointer none, .int .i64 (chkE x ty st l F S)]) (Zv rfl (.pointer none) (Zv rfl (.int .i64 (chkE x ty st l F S)) (Zv rfl (.pointer none) (Zv rfl (.int .i64 (chkE x ty st l F S)) (Yn (Yo (Ys (Yq (Zv rfl (.int .i64 (chkE x ty st l F S)) (Zb rfl (((chkE x ty st l F S) : Int) != (0 : Int)) true (bne_iff_ne.2 (by omega)) (Yn (Yo (sx_true (by kernel_rfl) (Yq (Zv rfl (.int .i64 (chkE x ty st l F S)) ?_)))))))))))))))
  refine Zv rfl (.slice none 0 0) (Zv rfl (.int .i64 (chkE x ty st l F S)) (Yn (Yo (wp_ret (sx_rs ?_)))))
  have h8 : ltsL x ty st l F S = [] := if_neg hck
  refine sx_ret2 (.slice none 0 0) (.int .i64 (chkE x ty st l F S)) rfl rfl rfl (by kernel_rfl) (by kernel_rfl) ⟨none, 0, 0, 0, by rw [h8]; rfl, by rw [h8]; exact fun i hi => absurd hi (Nat.not_lt_zero i), fun i hi => by rw [h8] at hi; exact absurd hi (Nat.not_lt_zero i), HB⟩
 obtain ⟨hp9, hTl, hrun, hsh, -⟩ := chk_is hck
 have hc := hok hp9
 have hn9 : (crs x ty st l).n = l.length + 1 := crs_n x ty st l
 have hl20 := posD_len hp9
 refine ⟨_, rfl, ?_⟩
 obtain ⟨v0, hv0⟩ : ∃ v, W7 = v := ⟨_, rfl⟩
 have hKv := hv0 ▸ hK9
 have HV : Below v0.heap.size v0 W7 := by rw [hv0]; exact Below.refl _ _
 have hvs : v0.heap.size = W7.heap.size := by rw [hv0]
 clear hK9
 refine Zv rfl (.tuple #[.pointer (some ⟨q, 0, none⟩), .int .i64 0]) (Zv rfl (pt q 0) (Zv rfl (.int .i64 0) (Zv rfl (pt q 0) (Zv rfl (.int .i64 0) (Yn (Yo (Ys (Yq (Zv rfl (.int .i64 0) (Zv rfl (.bool false) (Yn (Yo (sx_false (by kernel_rfl) (wp_skip (Yo (Yq (Zv rfl (pt q 0) ?_)))))))))))))))))
 have zS9 := HB.size
 refine Zc rfl (sslacks_n (crs x ty st l) hc S.rts hrun K q W7 (hKv.below HV)) ?_
 rintro e W8 ⟨cN, bN, rfl, NT, hbN, hb⟩
 replace HB := over HB hb
 replace HV := over HV hb
 have z5 := hb.size
 clear hb
 refine ⟨_, rfl, ?_⟩
 have yNT := NT.lt
 refine Zv rfl (.slice (some ⟨bN, 0, none⟩) ((crs x ty st l).slL S.rts).length cN) (Yn (Yo (Ys (Yq (Zv rfl (.slice (some ⟨bN, 0, none⟩) ((crs x ty st l).slL S.rts).length cN) (Zv rfl (.int .i64 ((((crs x ty st l).slL S.rts).length : Nat) : Int)) (Zv rfl (.int .i64 0) (Yn (Yo (wp_block ?_))))))))))
 have hsl := (crs x ty st l).slL_len S.rts
 rw [← CrT.latK_zero] at NT
 refine sx_loop (fun i : Nat => [(0, .agg (iK k x)), (1, .agg (rK ty st orr F.length cr oa l.length ca)), (2, .agg (sK S oS cS)), (3, .pointer (some ⟨w.heap.size, 0, none⟩)), (4, .pointer (some ⟨W1.heap.size, 0, none⟩)), (5, .pointer (some ⟨W3.heap.size, 0, none⟩)), (6, .slice none 0 0), (7, .int .i64 0), (8, .pointer (some ⟨q, 0, none⟩)), (9, .int .i64 0), (10, .slice (some ⟨bN, 0, none⟩) ((crs x ty st l).slL S.rts).length cN), (12, .tuple #[.pointer (some ⟨q, 0, none⟩), .int .i64 0]), (13, .agg (iK k x)), (14, .agg (rK ty st orr F.length cr oa l.length ca)), (15, .agg (sK S oS cS)), (16, .tuple #[.pointer (some ⟨q, 0, none⟩), .int .i64 0]), (17, .pointer (some ⟨q, 0, none⟩)), (18, .int .i64 0), (19, .int .i64 0), (20, .bool false), (22, .pointer (some ⟨q, 0, none⟩)), (23, .slice (some ⟨bN, 0, none⟩) ((crs x ty st l).slL S.rts).length cN), (24, .slice (some ⟨bN, 0, none⟩) ((crs x ty st l).slL S.rts).length cN), (25, .int .i64 ((((crs x ty st l).slL S.rts).length : Nat) : Int)), (26, .int .i64 ((i : Nat) : Int))]) (fun gg i wr => i ≤ (crs x ty st l).n ∧ (crs x ty st l).n - i ≤ gg ∧ Cb wr bN (((crs x ty st l).latK S.rts i).flatMap inE).toArray 3 ∧ Below w.heap.size w wr ∧ Below v0.heap.size v0 wr) ((crs x ty st l).n) (0) (by kernel_rfl) ⟨Nat.zero_le _, Nat.le_refl _, NT, HB, HV⟩ ?_
 rintro gg i g' wr9 ⟨hi, hg, NT, HB, HV⟩
 refine Ys ?_
 have yNT := NT.lt
 have zv0 := HV.size
 refine Yr ?_
 by_cases C1 : i < ((crs x ty st l).slL S.rts).length
 ·refine Zb rfl (decide (((i : Nat) : Int) < ((((crs x ty st l).slL S.rts).length : Nat) : Int))) true (decide_eq_true (by omega)) (Yn (Yo (Ys (sx_true (by kernel_rfl) (wp_skip (Yo (Ys (wp_block (Yq (Zv rfl (.int .i64 ((i : Nat) : Int)) (Zv rfl (.int .i64 ((i : Nat) : Int)) (Yn (Yo ?_)))))))))))))
  have hkl := (crs x ty st l).latK_len S.rts i
  have hla := CrT.lg_arr hc hrun (k := i) (by omega)
  have hsi := CrT.sl_is hc hrun (k := i) (by omega)
  have hst := hc.st (i + 1) (by unfold CrT.n at *; omega)
  have hcl : (((crs x ty st l).latK S.rts i).flatMap inE).toArray[i * 1]? = some (.int .i64 ((crs x ty st l).sl S.rts i : Int)) := by
   have h8 := inRow.at_ 0 ((crs x ty st l).latK S.rts i) i 0 (by omega) (by decide)
   rw [List.getElem?_toArray, ← Nat.add_zero (i * 1), h8, CrT.latK_at (by omega), if_neg (Nat.lt_irrefl i)]
   rfl
  obtain ⟨Y10, hW⟩ : ∃ W, wr9.drew = W := ⟨_, rfl⟩
  have hb : Below wr9.heap.size wr9 Y10 := hW ▸ below_drew (Below.refl _ _)
  replace HB := over HB hb
  replace HV := over HV hb
  replace NT := NT.below hb
  have z6 := hb.size
  clear hb
  refine sd_begin (fun W => True) (by kernel_rfl) trivial ?_
  rw [hW]
  clear hW
  refine Zu 0 rfl rfl (.slice (some ⟨bN, 0, none⟩) ((crs x ty st l).slL S.rts).length cN) trivial ?_
  refine Zu 1 rfl rfl (.int .i64 ((i : Nat) : Int)) trivial ?_
  refine Zt 2 rfl rfl (pt bN ((i * 1))) (fun w9 h9 => ex_index rfl bN 0 ((crs x ty st l).slL S.rts).length cN i 1 (i * 1) (by kernel_rfl) (by kernel_rfl) Tryz.underlying42 (by kernel_rfl) (by omega) (by omega)) trivial ?_
  refine Zu 4 rfl rfl (pt q 0) trivial ?_
  refine Zu 5 rfl rfl (.int .i64 ((i : Nat) : Int)) trivial ?_
  refine sd_all [3, 6] (by kernel_rfl) (by decide) ?_
  refine sd_mem (i := 3) rfl (by kernel_rfl) rfl rfl (.int .i64 (((crs x ty st l).sl S.rts i : Nat) : Int)) Y10 (el (NT.cell _ hcl) Tryz.underlying3) trivial ?_ ?_
  ·refine sd_all [6] (by kernel_rfl) (by decide) ?_
   refine sd_call (i := 6) rfl (by kernel_rfl) rfl rfl (sarr_n (crs x ty st l) hc S.rts hrun K q Y10 (hKv.below HV) i (by omega)) (by kernel_rfl) ?_ AllReadyH.nil
   rintro e w9 ⟨rfl, rfl⟩
   refine ⟨_, rfl, trivial, ?_⟩
   refine Zt 7 rfl rfl (.int .i64 ((((crs x ty st l).sl S.rts i : Nat) : Int) + ((crs x ty st l).lg S.rts i).arr)) (fun w9 _ => ex_int .i64 (IntKind.i64.wrap ((((crs x ty st l).sl S.rts i : Nat) : Int) + ((crs x ty st l).lg S.rts i).arr)) (((((crs x ty st l).sl S.rts i : Nat) : Int) + ((crs x ty st l).lg S.rts i).arr)) (by kernel_rfl) (by rw [IntKind.wrap_i64]; omega)) trivial ?_
   refine Zt 8 rfl rfl (pt bN ((i * 1))) (fun w9 h9 => ex_index rfl bN 0 ((crs x ty st l).slL S.rts).length cN i 1 (i * 1) (by kernel_rfl) (by kernel_rfl) Tryz.underlying42 (by kernel_rfl) (by omega) (by omega)) trivial ?_
   refine sd_all [9] (by kernel_rfl) (by decide) ?_
   refine sd_do (i := 9) rfl (by kernel_rfl) rfl (Y10.setCells bN (i * 1) [.int .i64 ((((crs x ty st l).sl S.rts i : Nat) : Int) + ((crs x ty st l).lg S.rts i).arr)]) (ex_storeC (k := i * 1) (old := .int .i64 (((crs x ty st l).sl S.rts i : Nat) : Int)) (v := .int .i64 ((((crs x ty st l).sl S.rts i : Nat) : Int) + ((crs x ty st l).lg S.rts i).arr)) rfl NT hcl (by kernel_rfl) (by kernel_rfl) (by kernel_rfl) (by kernel_rfl)) trivial ?_ AllReadyH.nil
   obtain ⟨W11, hW⟩ : ∃ W, Y10.setCells bN (i * 1) [.int .i64 ((((crs x ty st l).sl S.rts i : Nat) : Int) + ((crs x ty st l).lg S.rts i).arr)] = W := ⟨_, rfl⟩
   have hg9 : Y10.grownBy W11 (some bN) := hW ▸ grown_sets _ _ _ _
   have hq : Cb W11 bN (((crs x ty st l).latK S.rts (i + 1)).flatMap inE).toArray 3 := by
    rw [← CrT.latK_set (by omega), ← setN_flat inRow ((((crs x ty st l).sl S.rts i : Nat) : Int) + ((crs x ty st l).lg S.rts i).arr) _ i (by omega), ← hW]
    exact Cb.setsN [.int .i64 ((((crs x ty st l).sl S.rts i : Nat) : Int) + ((crs x ty st l).lg S.rts i).arr)] Y10 (i * 1) _ NT
   rw [hW]
   replace HB := HB.grown hg9 (by omega) (oG (by omega))
   replace HV := HV.grown hg9 (by omega) (oG (by omega))
   have z7 := hg9.size
   replace NT := hq
   clear hq hg9 hW
   refine sd_done (by kernel_rfl) ?_
   refine sx_in ?_
   refine Yo (Yr (Zi rfl (IntKind.i64.wrap (((i : Nat) : Int) + 1)) (((i + 1 : Nat) : Int)) (by rw [IntKind.wrap_i64]; omega) (Zv rfl (.int .i64 ((i + 1 : Nat) : Int)) (Yn (Yo ?_)))))
   exact sx_again ((crs x ty st l).n - (i + 1)) (i + 1) (by omega) (by kernel_rfl) ⟨by omega, Nat.le_refl _, NT, HB, HV⟩
  refine sd_call (i := 6) rfl (by kernel_rfl) rfl rfl (sarr_n (crs x ty st l) hc S.rts hrun K q Y10 (hKv.below HV) i (by omega)) (by kernel_rfl) ?_ AllReadyH.nil
  rintro e w9 ⟨rfl, rfl⟩
  refine ⟨_, rfl, trivial, ?_⟩
  refine sd_all [3] (by kernel_rfl) (by decide) ?_
  refine sd_mem (i := 3) rfl (by kernel_rfl) rfl rfl (.int .i64 (((crs x ty st l).sl S.rts i : Nat) : Int)) Y10 (el (NT.cell _ hcl) Tryz.underlying3) trivial ?_ AllReadyH.nil
  refine Zt 7 rfl rfl (.int .i64 ((((crs x ty st l).sl S.rts i : Nat) : Int) + ((crs x ty st l).lg S.rts i).arr)) (fun w9 _ => ex_int .i64 (IntKind.i64.wrap ((((crs x ty st l).sl S.rts i : Nat) : Int) + ((crs x ty st l).lg S.rts i).arr)) (((((crs x ty st l).sl S.rts i : Nat) : Int) + ((crs x ty st l).lg S.rts i).arr)) (by kernel_rfl) (by rw [IntKind.wrap_i64]; omega)) trivial ?_
  refine Zt 8 rfl rfl (pt bN ((i * 1))) (fun w9 h9 => ex_index rfl bN 0 ((crs x ty st l).slL S.rts).length cN i 1 (i * 1) (by kernel_rfl) (by kernel_rfl) Tryz.underlying42 (by kernel_rfl) (by omega) (by omega)) trivial ?_
  refine sd_all [9] (by kernel_rfl) (by decide) ?_
  refine sd_do (i := 9) rfl (by kernel_rfl) rfl (Y10.setCells bN (i * 1) [.int .i64 ((((crs x ty st l).sl S.rts i : Nat) : Int) + ((crs x ty st l).lg S.rts i).arr)]) (ex_storeC (k := i * 1) (old := .int .i64 (((crs x ty st l).sl S.rts i : Nat) : Int)) (v := .int .i64 ((((crs x ty st l).sl S.rts i : Nat) : Int) + ((crs x ty st l).lg S.rts i).arr)) rfl NT hcl (by kernel_rfl) (by kernel_rfl) (by kernel_rfl) (by kernel_rfl)) trivial ?_ AllReadyH.nil
  obtain ⟨W12, hW⟩ : ∃ W, Y10.setCells bN (i * 1) [.int .i64 ((((crs x ty st l).sl S.rts i : Nat) : Int) + ((crs x ty st l).lg S.rts i).arr)] = W := ⟨_, rfl⟩
  have hg9 : Y10.grownBy W12 (some bN) := hW ▸ grown_sets _ _ _ _
  have hq : Cb W12 bN (((crs x ty st l).latK S.rts (i + 1)).flatMap inE).toArray 3 := by
   rw [← CrT.latK_set (by omega), ← setN_flat inRow ((((crs x ty st l).sl S.rts i : Nat) : Int) + ((crs x ty st l).lg S.rts i).arr) _ i (by omega), ← hW]
   exact Cb.setsN [.int .i64 ((((crs x ty st l).sl S.rts i : Nat) : Int) + ((crs x ty st l).lg S.rts i).arr)] Y10 (i * 1) _ NT
  rw [hW]
  replace HB := HB.grown hg9 (by omega) (oG (by omega))
  replace HV := HV.grown hg9 (by omega) (oG (by omega))
  have z7 := hg9.size
  replace NT := hq
  clear hq hg9 hW
  refine sd_done (by kernel_rfl) ?_
  refine sx_in ?_
  refine Yo (Yr (Zi rfl (IntKind.i64.wrap (((i : Nat) : Int) + 1)) (((i + 1 : Nat) : Int)) (by rw [IntKind.wrap_i64]; omega) (Zv rfl (.int .i64 ((i + 1 : Nat) : Int)) (Yn (Yo ?_)))))
  exact sx_again ((crs x ty st l).n - (i + 1)) (i + 1) (by omega) (by kernel_rfl) ⟨by omega, Nat.le_refl _, NT, HB, HV⟩
 refine Zb rfl (decide (((i : Nat) : Int) < ((((crs x ty st l).slL S.rts).length : Nat) : Int))) false (decide_eq_false (by omega)) (Yn (Yo (Ys (sx_false (by kernel_rfl) (wp_exit ?_)))))
 refine sx_es ?_
 refine sx_es ?_
 refine sx_out ?_
 refine Yo (Yq (Zv rfl (.slice (some ⟨bN, 0, none⟩) ((crs x ty st l).slL S.rts).length cN) (Zv rfl (.slice (some ⟨bN, 0, none⟩) ((crs x ty st l).slL S.rts).length cN) (Zv rfl (.int .i64 0) (Yn (Yo (wp_ret ?_)))))))
 obtain rfl : i = (crs x ty st l).n := by omega
 rw [CrT.latK_all] at NT
 have h8 : ltsL x ty st l F S = (crs x ty st l).latL S.rts := if_pos hck
 have h7 := (crs x ty st l).latL_len S.rts
 refine sx_ret2 (.slice (some ⟨bN, 0, none⟩) ((crs x ty st l).slL S.rts).length cN) (.int .i64 0) rfl rfl rfl (by kernel_rfl) (by kernel_rfl) ⟨some ⟨bN, 0, none⟩, cN, bN, 0, by rw [h8, hck, h7, hsl], by rw [h8]; exact Rw.of_flat inRow 0 NT, fun _ _ => by omega, HB⟩
theorem sAfter_n (k : Iv) (x : InT) (ty st : Int) (orr oa oS : Option Addr) (cr ca cS b o bf qf bS qS : Nat) (l : List (Int × Bool)) (F : List Bool) (S : ShT) (lS : S.T.length ≤ 300000) (hok : posD x.tl x.ol ty st l = true → (crs x ty st l).Ok) (w : World) (hI : Ins w k x) (hT : Tab w) (hl : Rw w b o 2 (vF l) l.length oa) (hFx : Rw w bf qf 1 (bF F) F.length orr) (hST : Rw w bS qS 4 (fun k => tmE (S.T.getD k tm0)) S.T.length oS) (ai te : Int) : Calls Tryz.prog 12 #[.agg (iK k x), .agg (rK ty st orr F.length cr oa l.length ca), .agg (sK S oS cS), .int .i64 ai, .int .i64 te] w (ShP (aftS x ty st l F S ai te) (aftE x ty st l F S ai te) w) := by
 have HB : Below w.heap.size w w := Below.refl _ _
 refine sx_enter Tryz.func12 rfl [(0, .agg (iK k x)), (1, .agg (rK ty st orr F.length cr oa l.length ca)), (2, .agg (sK S oS cS)), (3, .int .i64 ai), (4, .int .i64 te)] (by kernel_rfl) ?_
 refine Yq ?_
 refine Za rfl (iK k x) 30 (fun W1 hb M2 z1 yM2 => ?_)
 replace HB := over HB hb
 clear hb
 refine Za rfl (rK ty st orr F.length cr oa l.length ca) 34 (fun W3 hb M4 z2 yM4 => ?_)
 replace HB := over HB hb
 replace M2 := M2.below hb
 clear hb
 refine Za rfl (sK S oS cS) 37 (fun W5 hb M6 z3 yM6 => ?_)
 replace HB := over HB hb
 replace M2 := M2.below hb
 replace M4 := M4.below hb
 clear hb
 refine Za rfl nZS 37 (fun W7 hb M8 z4 yM8 => ?_)
 replace HB := over HB hb
 replace M2 := M2.below hb
 replace M4 := M4.below hb
 replace M6 := M6.below hb
 clear hb
 refine Zv rfl (.int .i64 0) (Yn (Yo (Yq (Zw rfl (.agg (iK k x)) (ex_load rfl M2 (by kernel_rfl) Tryz.underlying30 rfl (by kernel_rfl)) (Zw rfl (.agg (rK ty st orr F.length cr oa l.length ca)) (ex_load rfl M4 (by kernel_rfl) Tryz.underlying34 rfl (by kernel_rfl)) (Zw rfl (.agg (sK S oS cS)) (ex_load rfl M6 (by kernel_rfl) Tryz.underlying37 rfl (by kernel_rfl)) ?_))))))
 refine Zc rfl (scourseOf_n k x ty st orr oa oS cr ca cS b o bf qf bS qS l F S lS hok W7 (hI.below HB) (hT.belowD HB) (hl.below HB) (hFx.below HB) (hST.below HB)) ?_
 rintro e W9 ⟨hcs, hb⟩
 replace HB := over HB hb
 replace M8 := M8.below hb
 have z5 := hb.size
 clear hb
 rcases hcs with ⟨hck, rfl⟩ | ⟨K, q, hck, rfl, hK9⟩
 ·refine ⟨_, rfl, ?_⟩
  refine Zv rfl (.tuple #[.pointer none, .int .i64 (chkE x ty st l F S)]) (Zv rfl (.pointer none) (Zv rfl (.int .i64 (chkE x ty st l F S)) (Zv rfl (.pointer none) (Zv rfl (.int .i64 (chkE x ty st l F S)) (Yn (Yo (Ys (Yq (Zv rfl (.int .i64 (chkE x ty st l F S)) (Zb rfl (((chkE x ty st l F S) : Int) != (0 : Int)) true (bne_iff_ne.2 (by omega)) (Yn (Yo (sx_true (by kernel_rfl) (Yq (Zv rfl (.agg nZS) ?_)))))))))))))))
  refine Zv rfl (.int .i64 (chkE x ty st l F S)) ?_
  refine Zr (cells := nZS) rfl rfl M8 (fun W10 hg hq => ?_)
  replace HB := HB.grown hg (by omega) (oG (by omega))
  have z6 := hg.size
  replace M8 := hq
  clear hq hg
  refine Zv rfl (.int .i64 (chkE x ty st l F S)) (Yn (Yo (wp_ret (sx_rs ?_))))
  have h7 := aftE_c (ai := ai) (te := te) hck
  exact sx_retct (v' := .int .i64 (chkE x ty st l F S)) M8 rfl rfl rfl (by kernel_rfl) (by kernel_rfl) Tryz.underlying37 rfl (by kernel_rfl) ⟨none, 0, 0, 0, by rw [h7.1, h7.2]; rfl, by rw [h7.2]; exact rw_sh0 _, fun i hi => by rw [h7.2] at hi; exact absurd hi (Nat.not_lt_zero i), HB⟩
 obtain ⟨hp9, hTl, hrun, hsh, -⟩ := chk_is hck
 have hc := hok hp9
 have hn9 : (crs x ty st l).n = l.length + 1 := crs_n x ty st l
 have hl20 := posD_len hp9
 refine ⟨_, rfl, ?_⟩
 obtain ⟨v0, hv0⟩ : ∃ v, W9 = v := ⟨_, rfl⟩
 have hKv := hv0 ▸ hK9
 have HV : Below v0.heap.size v0 W9 := by rw [hv0]; exact Below.refl _ _
 have hvs : v0.heap.size = W9.heap.size := by rw [hv0]
 clear hK9
 refine Zv rfl (.tuple #[.pointer (some ⟨q, 0, none⟩), .int .i64 0]) (Zv rfl (pt q 0) (Zv rfl (.int .i64 0) (Zv rfl (pt q 0) (Zv rfl (.int .i64 0) (Yn (Yo (Ys (Yq (Zv rfl (.int .i64 0) (Zv rfl (.bool false) (Yn (Yo (sx_false (by kernel_rfl) (wp_skip (Yo (Ys (Yq (Zv rfl (.int .i64 ai) ?_))))))))))))))))))
 by_cases C1 : ai < 0
 ·refine Zb rfl (decide (ai < 0)) true (decide_eq_true (by omega)) (Zv rfl (.bool true) (Zk rfl (Zk rfl (Zk rfl (Zk rfl (Zv rfl (.bool true) (Zv rfl (.bool true) (Zk rfl (Zk rfl (Zv rfl (.bool true) (Zv rfl (.bool true) ?_)))))))))))
  refine Zk rfl (Zk rfl (Zv rfl (.bool true) (Yn (Yo (sx_true (by kernel_rfl) (Yq (Zv rfl (.agg nZS) ?_)))))))
  refine Zr (cells := nZS) rfl rfl M8 (fun W11 hg hq => ?_)
  replace HB := HB.grown hg (by omega) (oG (by omega))
  have z6 := hg.size
  replace M8 := hq
  clear hq hg
  refine Zv rfl (.int .i64 2) (Yn (Yo (wp_ret (sx_rs ?_))))
  have h7 := aftE_a (ai := ai) (te := te) hck (by omega)
  exact sx_retct (v' := .int .i64 2) M8 rfl rfl rfl (by kernel_rfl) (by kernel_rfl) Tryz.underlying37 rfl (by kernel_rfl) ⟨none, 0, 0, 0, by rw [h7.1, h7.2]; rfl, by rw [h7.2]; exact rw_sh0 _, fun i hi => by rw [h7.2] at hi; exact absurd hi (Nat.not_lt_zero i), HB⟩
 refine Zb rfl (decide (ai < 0)) false (decide_eq_false (by omega)) (Zv rfl (.bool false) (Zv rfl (.int .i64 ai) (Zv rfl (pt q 0) ?_)))
 refine Zc rfl (send_n (crs x ty st l) hc S.rts hrun K q W9 (hKv.below HV)) ?_
 rintro e w9 ⟨rfl, rfl⟩
 refine ⟨_, rfl, ?_⟩
 by_cases C2 : ai > ((((crs x ty st l).n - 1) : Nat) : Int)
 ·refine Zb rfl (decide (ai > ((((crs x ty st l).n - 1) : Nat) : Int))) true (decide_eq_true (by omega)) (Zv rfl (.bool true) (Zv rfl (.bool true) (Zk rfl (Zk rfl (Zv rfl (.bool true) (Zv rfl (.bool true) (Zk rfl (Zk rfl (Zv rfl (.bool true) (Yn (Yo (sx_true (by kernel_rfl) ?_))))))))))))
  refine Yq (Zv rfl (.agg nZS) ?_)
  refine Zr (cells := nZS) rfl rfl M8 (fun W12 hg hq => ?_)
  replace HB := HB.grown hg (by omega) (oG (by omega))
  have z6 := hg.size
  replace M8 := hq
  clear hq hg
  refine Zv rfl (.int .i64 2) (Yn (Yo (wp_ret (sx_rs ?_))))
  have h7 := aftE_a (ai := ai) (te := te) hck (by omega)
  exact sx_retct (v' := .int .i64 2) M8 rfl rfl rfl (by kernel_rfl) (by kernel_rfl) Tryz.underlying37 rfl (by kernel_rfl) ⟨none, 0, 0, 0, by rw [h7.1, h7.2]; rfl, by rw [h7.2]; exact rw_sh0 _, fun i hi => by rw [h7.2] at hi; exact absurd hi (Nat.not_lt_zero i), HB⟩
 refine Zb rfl (decide (ai > ((((crs x ty st l).n - 1) : Nat) : Int))) false (decide_eq_false (by omega)) (Zv rfl (.bool false) (Zv rfl (.bool false) (Zv rfl (.int .i64 te) ?_)))
 by_cases C3 : te < 0
 ·refine Zb rfl (decide (te < 0)) true (decide_eq_true (by omega)) (Zv rfl (.bool true) (Zv rfl (.bool true) (Zk rfl (Zk rfl (Zv rfl (.bool true) (Yn (Yo (sx_true (by kernel_rfl) (Yq (Zv rfl (.agg nZS) ?_))))))))))
  refine Zr (cells := nZS) rfl rfl M8 (fun W13 hg hq => ?_)
  replace HB := HB.grown hg (by omega) (oG (by omega))
  have z6 := hg.size
  replace M8 := hq
  clear hq hg
  refine Zv rfl (.int .i64 2) (Yn (Yo (wp_ret (sx_rs ?_))))
  have h7 := aftE_a (ai := ai) (te := te) hck (by omega)
  exact sx_retct (v' := .int .i64 2) M8 rfl rfl rfl (by kernel_rfl) (by kernel_rfl) Tryz.underlying37 rfl (by kernel_rfl) ⟨none, 0, 0, 0, by rw [h7.1, h7.2]; rfl, by rw [h7.2]; exact rw_sh0 _, fun i hi => by rw [h7.2] at hi; exact absurd hi (Nat.not_lt_zero i), HB⟩
 refine Zb rfl (decide (te < 0)) false (decide_eq_false (by omega)) (Zv rfl (.bool false) (Zv rfl (.bool false) (Zv rfl (.int .i64 te) ?_)))
 by_cases C4 : te > 4096
 ·refine Zb rfl (decide (te > 4096)) true (decide_eq_true (by omega)) (Zv rfl (.bool true) (Yn (Yo (sx_true (by kernel_rfl) (Yq (Zv rfl (.agg nZS) ?_))))))
  refine Zr (cells := nZS) rfl rfl M8 (fun W14 hg hq => ?_)
  replace HB := HB.grown hg (by omega) (oG (by omega))
  have z6 := hg.size
  replace M8 := hq
  clear hq hg
  refine Zv rfl (.int .i64 2) (Yn (Yo (wp_ret (sx_rs ?_))))
  have h7 := aftE_a (ai := ai) (te := te) hck (by omega)
  exact sx_retct (v' := .int .i64 2) M8 rfl rfl rfl (by kernel_rfl) (by kernel_rfl) Tryz.underlying37 rfl (by kernel_rfl) ⟨none, 0, 0, 0, by rw [h7.1, h7.2]; rfl, by rw [h7.2]; exact rw_sh0 _, fun i hi => by rw [h7.2] at hi; exact absurd hi (Nat.not_lt_zero i), HB⟩
 refine Zb rfl (decide (te > 4096)) false (decide_eq_false (by omega)) (Zv rfl (.bool false) (Yn (Yo (sx_false (by kernel_rfl) (wp_skip (Yo (Yq (Zv rfl (pt q 0) (Zv rfl (.int .i64 ai) (Zv rfl (.int .i64 te) ?_))))))))))
 have hai : ((ai.toNat : Nat) : Int) = ai := Int.toNat_of_nonneg (by omega)
 have h2n : ¬ (ai < 0 ∨ (l.length : Int) < ai ∨ te < 0 ∨ 4096 < te) := by omega
 have h9 := aftE_r (x := x) (ty := ty) (st := st) (l := l) (F := F) (S := S) (ai := ai) (te := te) hck h2n
 have h8 : aftS x ty st l F S ai te = (if ((crs x ty st l).ra S.rts ai.toNat (((crs x ty st l).lg S.rts ai.toNat).arr + te) (((crs x ty st l).lg S.rts ai.toNat).sin + te) ((crs x ty st l).n - ai.toNat)) = 0 then (crs x ty st l).afS S.rts ai.toNat (((crs x ty st l).lg S.rts ai.toNat).arr + te) (((crs x ty st l).lg S.rts ai.toNat).sin + te) else sh0) := by unfold aftS; rw [h9]
 have zA := HB.size
 refine Zc rfl ((by have h7 := safter_n (crs x ty st l) hc S.rts hrun K q W9 (hKv.below HV) ai.toNat (by omega) te (by omega); rw [← h8, ← h9, hai] at h7; exact h7)) ?_
 rintro e W15 ⟨oA, cA, bA, qA, rfl, hSA, hmA, hb⟩
 replace HB := over HB hb
 replace M8 := M8.below hb
 replace HV := over HV hb
 have z6 := hb.size
 clear hb
 refine ⟨_, rfl, ?_⟩
 refine Zv rfl (.agg (sK (aftS x ty st l F S ai te) oA cA)) (Zv rfl (.int .i64 (aftE x ty st l F S ai te)) ?_)
 refine Zr (cells := (sK (aftS x ty st l F S ai te) oA cA)) rfl rfl M8 (fun W16 hg hq => ?_)
 replace HB := HB.grown hg (by omega) (oG (by omega))
 replace hSA := hSA.kept hg (fun i hi => by have h8 := hmA i hi; omega)
 have z7 := hg.size
 replace M8 := hq
 clear hq hg
 refine Zv rfl (.int .i64 (aftE x ty st l F S ai te)) (Yn (Yo (wp_ret ?_)))
 exact sx_retct (v' := .int .i64 (aftE x ty st l F S ai te)) M8 rfl rfl rfl (by kernel_rfl) (by kernel_rfl) Tryz.underlying37 rfl (by kernel_rfl) ⟨oA, cA, bA, qA, rfl, hSA, fun i hi => by have h8 := hmA i hi; omega, HB⟩

end Go.Proofs.YtomebalolmabnaaGreatDoor.T



/-! The laws of slack: numbers, sheets, few (by gen_jh.py). -/
namespace Go.Proofs.YtomebalolmabnaaGreatDoor.T
open Go.RowKit
set_option maxRecDepth 8000
attribute [local irreducible] wpList Code.wp wpAnyH

theorem numbers_n (A B : List Int) (oA oB : Option Addr) (cA cB bA qA bB qB : Nat) (lA : A.length ≤ 1000000) (w : World) (hA : Rw w bA qA 1 (fun k => inE (A.getD k 0)) A.length oA) (hB2 : Rw w bB qB 1 (fun k => inE (B.getD k 0)) B.length oB) : Calls Tryz.prog 11 #[.slice oA A.length cA, .slice oB B.length cB] w fun e w' => e = .returned (.bool (decide (A = B))) ∧ Below w.heap.size w w' := by
 have HB : Below w.heap.size w w := Below.refl _ _
 refine sx_enter Tryz.func11 rfl [(0, .slice oA A.length cA), (1, .slice oB B.length cB)] (by kernel_rfl) ?_
 refine Yq (Zv rfl (.bool false) (Yn (Yo (Ys (Yq (Zv rfl (.slice oA A.length cA) (Zv rfl (.int .i64 ((A.length : Nat) : Int)) (Zv rfl (.slice oB B.length cB) (Zv rfl (.int .i64 ((B.length : Nat) : Int)) ?_)))))))))
 by_cases C1 : A.length = B.length
 ·refine Zb rfl ((((A.length : Nat) : Int) : Int) != (((B.length : Nat) : Int) : Int)) false (by rw [bne_eq_false_iff_eq]; omega) (Yn (Yo (sx_false (by kernel_rfl) (wp_skip (Yo (Ys (Yq (Zv rfl (.int .i64 0) (Yn (Yo (wp_block ?_)))))))))))
  refine sx_loop (fun j : Nat => [(0, .slice oA A.length cA), (1, .slice oB B.length cB), (5, .int .i64 ((j : Nat) : Int)), (6, .slice oA A.length cA), (7, .int .i64 ((A.length : Nat) : Int)), (8, .slice oB B.length cB), (9, .int .i64 ((B.length : Nat) : Int)), (10, .bool false)]) (fun gg j wr => j ≤ A.length ∧ A.length - j ≤ gg ∧ (∀ i, i < j → A.getD i 0 = B.getD i 0) ∧ Below w.heap.size w wr) (A.length) (0) (by kernel_rfl) ⟨Nat.zero_le _, Nat.le_refl _, (fun i hi => absurd hi (Nat.not_lt_zero i)), Below.refl _ _⟩ ?_
  rintro gg j g' wr1 ⟨hj, hg, hJ, hbl⟩
  replace HB := over HB hbl
  have z1 := hbl.size
  have HL := hbl
  clear hbl
  refine Ys (Yq (Zv rfl (.int .i64 ((j : Nat) : Int)) (Zv rfl (.slice oA A.length cA) (Zv rfl (.int .i64 ((A.length : Nat) : Int)) ?_))))
  by_cases C2 : j < A.length
  ·refine Zb rfl (decide (((j : Nat) : Int) < ((A.length : Nat) : Int))) true (decide_eq_true (by omega)) (Yn (Yo (sx_true (by kernel_rfl) (wp_skip (Yo (Ys (wp_block (Ys ?_))))))))
   obtain ⟨Y2, hW⟩ : ∃ W, wr1.drew = W := ⟨_, rfl⟩
   have hb : Below wr1.heap.size wr1 Y2 := hW ▸ below_drew (Below.refl _ _)
   replace HB := over HB hb
   replace HL := over HL hb
   have z2 := hb.size
   clear hb
   refine sd_begin (fun W => Rw W bA qA 1 (fun k1 => inE (A.getD k1 0)) A.length oA ∧ Rw W bB qB 1 (fun k1 => inE (B.getD k1 0)) B.length oB ∧ True) (by kernel_rfl) (by rw [hW]; exact ⟨(hA.below HB), (hB2.below HB), trivial⟩) ?_
   rw [hW]
   clear hW
   refine Zu 0 rfl rfl (.slice oA A.length cA) ⟨(hA.below HB), (hB2.below HB), trivial⟩ ?_
   refine Zu 1 rfl rfl (.int .i64 ((j : Nat) : Int)) ⟨(hA.below HB), (hB2.below HB), trivial⟩ ?_
   refine Zt 2 rfl rfl (pt bA (qA + j * 1)) (fun w9 h9 => ex_indexO (q := qA) (m := A.length) (c := cA) (k := j) (s := 1) rfl (by kernel_rfl) (h9.1.oa (k := j) (by omega)) (by kernel_rfl) Tryz.underlying42 (by kernel_rfl) (by omega) (by omega)) ⟨(hA.below HB), (hB2.below HB), trivial⟩ ?_
   refine Zt 3 rfl rfl (.int .i64 (A.getD j 0)) (fun w9 h9 => el (h9.1.cell (k := j) (by omega) 0 rfl) Tryz.underlying3) ⟨(hA.below HB), (hB2.below HB), trivial⟩ ?_
   refine Zu 4 rfl rfl (.slice oB B.length cB) ⟨(hA.below HB), (hB2.below HB), trivial⟩ ?_
   refine Zu 5 rfl rfl (.int .i64 ((j : Nat) : Int)) ⟨(hA.below HB), (hB2.below HB), trivial⟩ ?_
   refine Zt 6 rfl rfl (pt bB (qB + j * 1)) (fun w9 h9 => ex_indexO (q := qB) (m := B.length) (c := cB) (k := j) (s := 1) rfl (by kernel_rfl) (h9.2.1.oa (k := j) (by omega)) (by kernel_rfl) Tryz.underlying42 (by kernel_rfl) (by omega) (by omega)) ⟨(hA.below HB), (hB2.below HB), trivial⟩ ?_
   refine Zt 7 rfl rfl (.int .i64 (B.getD j 0)) (fun w9 h9 => el (h9.2.1.cell (k := j) (by omega) 0 rfl) Tryz.underlying3) ⟨(hA.below HB), (hB2.below HB), trivial⟩ ?_
   by_cases C3 : (A.getD j 0) = (B.getD j 0)
   ·refine Zt 8 rfl rfl (.bool false) (fun w9 _ => ex_bool (((A.getD j 0) : Int) != ((B.getD j 0) : Int)) false (by kernel_rfl) (by rw [bne_eq_false_iff_eq]; omega)) ⟨(hA.below HB), (hB2.below HB), trivial⟩ ?_
    refine sd_done (by kernel_rfl) ?_
    refine Yo (sx_false (by kernel_rfl) (wp_skip ?_))
    refine sx_in ?_
    refine Yo (Yr (Zv rfl (.int .i64 ((j : Nat) : Int)) (Zi rfl (IntKind.i64.wrap (((j : Nat) : Int) + 1)) (((j + 1 : Nat) : Int)) (by rw [IntKind.wrap_i64]; omega) (Zv rfl (.int .i64 ((j + 1 : Nat) : Int)) (Yn (Yo ?_))))))
    exact sx_again (A.length - (j + 1)) (j + 1) (by omega) (by kernel_rfl) ⟨by omega, Nat.le_refl _, ext_more hJ (by assumption), HL⟩
   refine Zt 8 rfl rfl (.bool true) (fun w9 _ => ex_bool (((A.getD j 0) : Int) != ((B.getD j 0) : Int)) true (by kernel_rfl) (bne_iff_ne.2 (by omega))) ⟨(hA.below HB), (hB2.below HB), trivial⟩ ?_
   refine sd_done (by kernel_rfl) ?_
   refine Yo (sx_true (by kernel_rfl) (Yq (Zv rfl (.bool false) (Yn (Yo (wp_ret ?_))))))
   refine sx_rb ?_
   refine sx_rs (sx_rs ?_)
   refine sx_rb ?_
   refine sx_rs ?_
   refine sx_ret1 (.bool false) rfl rfl (by kernel_rfl) ⟨by rw [decide_eq_false (fun h => absurd (by rw [h]) (by assumption : ¬ (A.getD j 0) = (B.getD j 0)))], HB⟩
  refine Zb rfl (decide (((j : Nat) : Int) < ((A.length : Nat) : Int))) false (decide_eq_false (by omega)) (Yn (Yo (sx_false (by kernel_rfl) (wp_exit ?_))))
  refine sx_es ?_
  refine sx_es ?_
  refine sx_out ?_
  refine Yo (Yq (Zv rfl (.bool true) (Yn (Yo (wp_ret ?_)))))
  refine sx_ret1 (.bool true) rfl rfl (by kernel_rfl) ⟨by rw [decide_eq_true (ext_getD (d := 0) (by assumption) (fun i hi => hJ i (by omega)))], HB⟩
 refine Zb rfl ((((A.length : Nat) : Int) : Int) != (((B.length : Nat) : Int) : Int)) true (bne_iff_ne.2 (by omega)) (Yn (Yo (sx_true (by kernel_rfl) (Yq (Zv rfl (.bool false) (Yn (Yo (wp_ret (sx_rs ?_)))))))))
 refine sx_ret1 (.bool false) rfl rfl (by kernel_rfl) ⟨by rw [decide_eq_false (fun h => by subst h; exact absurd rfl (by assumption))], HB⟩
def fewB (x : InT) (l : List (Int × Bool)) (F : List Bool) (S : ShT) : Bool := decide (x.ol.length ≤ 4) && decide (l.length ≤ 10) && decide (S.T.length ≤ 12) && decide (F.length ≤ 12) && decide ((inF x).length = 0)
theorem few_is {x : InT} {l : List (Int × Bool)} {F : List Bool} {S : ShT} (h : fewB x l F S = true) : inF x = [] := by
 unfold fewB at h
 simp only [Bool.and_eq_true, decide_eq_true_eq] at h
 exact List.length_eq_zero_iff.1 h.2
theorem few_n (k : Iv) (x : InT) (hx : InU x) (ty st : Int) (orr oa oS : Option Addr) (cr ca cS : Nat) (l : List (Int × Bool)) (F : List Bool) (S : ShT) (w : World) (hI : Ins w k x) : Calls Tryz.prog 5 #[.agg #[.slice k.o0 x.pl.length k.c0, .slice k.o1 x.al.length k.c1, .slice k.o2 x.tl.length k.c2, .slice k.o3 x.ol.length k.c3, .slice k.o4 x.ap.length k.c4, .slice k.o5 x.be.length k.c5, .int .i64 ty, .int .i64 st, .slice orr F.length cr, .slice oa l.length ca, .bool S.r, .int .i64 S.d, .slice oS S.T.length cS, .int .i64 S.e, .int .i64 S.m]] w fun e w' => e = .returned (.bool (fewB x l F S)) ∧ Below w.heap.size w w' := by
 have HB : Below w.heap.size w w := Below.refl _ _
 refine sx_enter Tryz.func5 rfl [(0, .agg #[.slice k.o0 x.pl.length k.c0, .slice k.o1 x.al.length k.c1, .slice k.o2 x.tl.length k.c2, .slice k.o3 x.ol.length k.c3, .slice k.o4 x.ap.length k.c4, .slice k.o5 x.be.length k.c5, .int .i64 ty, .int .i64 st, .slice orr F.length cr, .slice oa l.length ca, .bool S.r, .int .i64 S.d, .slice oS S.T.length cS, .int .i64 S.e, .int .i64 S.m])] (by kernel_rfl) ?_
 refine Yq ?_
 refine Za rfl #[.slice k.o0 x.pl.length k.c0, .slice k.o1 x.al.length k.c1, .slice k.o2 x.tl.length k.c2, .slice k.o3 x.ol.length k.c3, .slice k.o4 x.ap.length k.c4, .slice k.o5 x.be.length k.c5, .int .i64 ty, .int .i64 st, .slice orr F.length cr, .slice oa l.length ca, .bool S.r, .int .i64 S.d, .slice oS S.T.length cS, .int .i64 S.e, .int .i64 S.m] 39 (fun W1 hb M2 z1 yM2 => ?_)
 replace HB := over HB hb
 clear hb
 refine Zv rfl (.bool false) (Yn (Yo (Yq (Zv rfl (pt w.heap.size 0) (Zv rfl (pt w.heap.size 3) (Zw rfl (.slice k.o3 x.ol.length k.c3) (el (M2.cell 3 rfl) Tryz.underlying27) (Zv rfl (.int .i64 ((x.ol.length : Nat) : Int)) ?_)))))))
 by_cases C1 : x.ol.length ≤ 4
 ·refine Zb rfl (decide (((x.ol.length : Nat) : Int) ≤ 4)) true (decide_eq_true (by omega)) (Zv rfl (.bool true) (Zv rfl (pt w.heap.size 6) (Zv rfl (pt w.heap.size 9) (Zw rfl (.slice oa l.length ca) (el (M2.cell 9 rfl) Tryz.underlying32) (Zv rfl (.int .i64 ((l.length : Nat) : Int)) ?_)))))
  by_cases C2 : l.length ≤ 10
  ·refine Zb rfl (decide (((l.length : Nat) : Int) ≤ 10)) true (decide_eq_true (by omega)) (Zv rfl (.bool true) (Zv rfl (.bool true) (Zv rfl (pt w.heap.size 10) (Zv rfl (pt w.heap.size 12) (Zw rfl (.slice oS S.T.length cS) (el (M2.cell 12 rfl) Tryz.underlying35) (Zv rfl (.int .i64 ((S.T.length : Nat) : Int)) ?_))))))
   by_cases C3 : S.T.length ≤ 12
   ·refine Zb rfl (decide (((S.T.length : Nat) : Int) ≤ 12)) true (decide_eq_true (by omega)) (Zv rfl (.bool true) (Zv rfl (.bool true) (Zv rfl (pt w.heap.size 6) (Zv rfl (pt w.heap.size 8) (Zw rfl (.slice orr F.length cr) (el (M2.cell 8 rfl) Tryz.underlying31) (Zv rfl (.int .i64 ((F.length : Nat) : Int)) ?_))))))
    by_cases C4 : F.length ≤ 12
    ·refine Zb rfl (decide (((F.length : Nat) : Int) ≤ 12)) true (decide_eq_true (by omega)) (Zv rfl (.bool true) (Zv rfl (.bool true) (Zv rfl (pt w.heap.size 0) (Zw rfl (.agg (iK k x)) (ex_mid (q := 0) rfl M2 [.slice k.o0 x.pl.length k.c0, .slice k.o1 x.al.length k.c1, .slice k.o2 x.tl.length k.c2, .slice k.o3 x.ol.length k.c3, .slice k.o4 x.ap.length k.c4, .slice k.o5 x.be.length k.c5] (by kernel_rfl) Tryz.underlying30 rfl (by kernel_rfl) rfl) ?_))))
     refine Zc rfl (refInstU_n k.o0 k.o1 k.o2 k.o3 k.o4 k.o5 k.c0 k.c1 k.c2 k.c3 k.c4 k.c5 x hx W1 (hI.below HB).h0 (hI.below HB).h1 (hI.below HB).h2 (hI.below HB).h3 (hI.below HB).h4 (hI.below HB).h5) ?_
     rintro e W3 ⟨oq, cq, rfl, -, hb⟩
     replace HB := over HB hb
     have z2 := hb.size
     clear hb
     refine ⟨_, rfl, ?_⟩
     refine Zv rfl (.int .i64 (((inF x).length : Nat) : Int)) ?_
     by_cases C5 : (inF x).length = 0
     ·refine Zb rfl (((((inF x).length : Nat) : Int) : Int) == (0 : Int)) true (beq_iff_eq.2 (by omega)) (Zv rfl (.bool true) (Zv rfl (.bool true) (Yn (Yo (wp_ret ?_)))))
      refine sx_ret1 (.bool true) rfl rfl (by kernel_rfl) ⟨by unfold fewB; rw [decide_eq_true C1, decide_eq_true C2, decide_eq_true C3, decide_eq_true C4, decide_eq_true C5]; simp, HB⟩
     refine Zb rfl (((((inF x).length : Nat) : Int) : Int) == (0 : Int)) false (beq_eq_false_iff_ne.2 (by omega)) (Zv rfl (.bool false) (Zv rfl (.bool false) (Yn (Yo (wp_ret ?_)))))
     refine sx_ret1 (.bool false) rfl rfl (by kernel_rfl) ⟨by unfold fewB; rw [decide_eq_true C1, decide_eq_true C2, decide_eq_true C3, decide_eq_true C4, decide_eq_false C5]; simp, HB⟩
    refine Zb rfl (decide (((F.length : Nat) : Int) ≤ 12)) false (decide_eq_false (by omega)) (Zv rfl (.bool false) (Zv rfl (.bool false) (Zk rfl (Zk rfl (Zk rfl (Zk rfl (Zk rfl (Zv rfl (.bool false) (Zv rfl (.bool false) (Yn (Yo (wp_ret ?_))))))))))))
    refine sx_ret1 (.bool false) rfl rfl (by kernel_rfl) ⟨by unfold fewB; rw [decide_eq_true C1, decide_eq_true C2, decide_eq_true C3, decide_eq_false C4]; simp, HB⟩
   refine Zb rfl (decide (((S.T.length : Nat) : Int) ≤ 12)) false (decide_eq_false (by omega)) (Zv rfl (.bool false) (Zv rfl (.bool false) (Zk rfl (Zk rfl (Zk rfl (Zk rfl (Zk rfl (Zv rfl (.bool false) (Zv rfl (.bool false) (Zk rfl (Zk rfl ?_)))))))))))
   refine Zk rfl (Zk rfl (Zk rfl (Zv rfl (.bool false) (Zv rfl (.bool false) (Yn (Yo (wp_ret ?_)))))))
   refine sx_ret1 (.bool false) rfl rfl (by kernel_rfl) ⟨by unfold fewB; rw [decide_eq_true C1, decide_eq_true C2, decide_eq_false C3]; simp, HB⟩
  refine Zb rfl (decide (((l.length : Nat) : Int) ≤ 10)) false (decide_eq_false (by omega)) (Zv rfl (.bool false) (Zv rfl (.bool false) (Zk rfl (Zk rfl (Zk rfl (Zk rfl (Zk rfl (Zv rfl (.bool false) (Zv rfl (.bool false) (Zk rfl (Zk rfl ?_)))))))))))
  refine Zk rfl (Zk rfl (Zk rfl (Zv rfl (.bool false) (Zv rfl (.bool false) (Zk rfl (Zk rfl (Zk rfl (Zk rfl (Zk rfl (Zv rfl (.bool false) (Zv rfl (.bool false) ?_)))))))))))
  refine Yn (Yo (wp_ret ?_))
  refine sx_ret1 (.bool false) rfl rfl (by kernel_rfl) ⟨by unfold fewB; rw [decide_eq_true C1, decide_eq_false C2]; simp, HB⟩
 refine Zb rfl (decide (((x.ol.length : Nat) : Int) ≤ 4)) false (decide_eq_false (by omega)) (Zv rfl (.bool false) (Zk rfl (Zk rfl (Zk rfl (Zk rfl (Zk rfl (Zv rfl (.bool false) (Zv rfl (.bool false) (Zk rfl (Zk rfl (Zk rfl ?_)))))))))))
 refine Zk rfl (Zk rfl (Zv rfl (.bool false) (Zv rfl (.bool false) (Zk rfl (Zk rfl (Zk rfl (Zk rfl (Zk rfl (Zv rfl (.bool false) (Zv rfl (.bool false) (Zk rfl ?_)))))))))))
 refine Zk rfl (Zk rfl (Zk rfl (Zk rfl (Zv rfl (.bool false) (Zv rfl (.bool false) (Yn (Yo (wp_ret ?_))))))))
 refine sx_ret1 (.bool false) rfl rfl (by kernel_rfl) ⟨by unfold fewB; rw [decide_eq_false C1]; simp, HB⟩

end Go.Proofs.YtomebalolmabnaaGreatDoor.T



