/-
  DERIVED. SlackKeeps: a part of the base of layer 13 (made by pack.py).
-/
import Derived.Test.YtomebalolmabnaaDoorGG
import Derived.Test.YtomebalolmabnaaDoorGA
import Derived.Test.YtomebalolmabnaaDoorJi
/-! SlackKeeps: its walk (by gen_jl.py). -/
namespace Go.Proofs.YtomebalolmabnaaDoor.T
open Go.RowKit
set_option maxRecDepth 8000
attribute [local irreducible] wpList Code.wp wpAnyH

theorem aftE_is {x : InT} {ty st : Int} {l : List (Int × Bool)} {F : List Bool} {S : ShT} {ai te : Int} (h : (aftE x ty st l F S ai te) = 0) : (chkE x ty st l F S) = 0 ∧ ¬ (ai < 0 ∨ (l.length : Int) < ai ∨ te < 0 ∨ 4096 < te) := by
 by_cases h1 : (chkE x ty st l F S) = 0
 ·refine ⟨h1, fun h2 => ?_⟩
  rw [(aftE_a h1 h2).1] at h
  cases h
 ·rw [(aftE_c h1).1] at h
  exact absurd h h1
theorem aft_zero {x : InT} {ty st : Int} {l : List (Int × Bool)} {F : List Bool} {S : ShT} {ai : Int} (_hin : inF x = []) (_hal : x.al.length ≤ 1000000) (h : (aftE x ty st l F S ai 0) = 0) : (aftS x ty st l F S ai 0) = S := by
 obtain ⟨h1, h2⟩ := aftE_is h
 obtain ⟨hp9, hTl, hrun, hsh, -⟩ := chk_is h1
 have hn := crs_n x ty st l
 have e : (aftS x ty st l F S ai 0) = (crs x ty st l).afS S.rts ai.toNat (((crs x ty st l).lg S.rts ai.toNat).arr + 0) (((crs x ty st l).lg S.rts ai.toNat).sin + 0) := if_pos h
 rw [e, Int.add_zero, Int.add_zero]
 refine Eq.trans ?_ hsh
 have hk : ai.toNat ≤ (crs x ty st l).n - 1 := by omega
 have e1 : ((crs x ty st l).stA S.rts ai.toNat ((crs x ty st l).lg S.rts ai.toNat).arr ((crs x ty st l).lg S.rts ai.toNat).sin ((crs x ty st l).n - 1 - ai.toNat)).1 = ((crs x ty st l).lg S.rts ((crs x ty st l).n - 1)).arr := by
  rw [CrT.stA_lg, show ai.toNat + ((crs x ty st l).n - 1 - ai.toNat) = (crs x ty st l).n - 1 by omega]
 have e2 : (crs x ty st l).tmB S.rts ai.toNat ((crs x ty st l).lg S.rts ai.toNat).arr ((crs x ty st l).lg S.rts ai.toNat).sin ((crs x ty st l).n - 1 - ai.toNat) = (crs x ty st l).tms S.rts := by
  unfold CrT.tmB CrT.tms
  refine List.map_congr_left fun j hj => ?_
  split
  ·rename_i h3
   unfold CrT.tmA
   rw [CrT.stA_lg, show ai.toNat + (j - ai.toNat) = j by omega]
   rfl
  ·rfl
 unfold CrT.afS CrT.sheet
 rw [e1, e2]
theorem aft_all {x : InT} {ty st : Int} {l : List (Int × Bool)} {F : List Bool} {S : ShT} {ai te : Int} (hin : inF x = []) (hal : x.al.length ≤ 1000000) (h : (aftE x ty st l F S ai te) = 0) : (aftE x ty st l F S ai 0) = 0 ∧ (aftS x ty st l F S ai te).T.length = S.T.length ∧ S.e ≤ (aftS x ty st l F S ai te).e ∧ (aftS x ty st l F S ai te).m = S.m ∧ ∀ i, i < S.T.length → (S.T.getD i tm0).a ≤ ((aftS x ty st l F S ai te).T.getD i tm0).a ∧ (S.T.getD i tm0).b ≤ ((aftS x ty st l F S ai te).T.getD i tm0).b ∧ (S.T.getD i tm0).d ≤ ((aftS x ty st l F S ai te).T.getD i tm0).d ∧ ((aftS x ty st l F S ai te).T.getD i tm0).r = (S.T.getD i tm0).r ∧ ((i : Int) < ai → S.T.getD i tm0 = (aftS x ty st l F S ai te).T.getD i tm0) := by
 obtain ⟨h1, h2⟩ := aftE_is h
 obtain ⟨hp9, hTl, hrun, hsh, -⟩ := chk_is h1
 have hn := crs_n x ty st l
 have hc := crs_ok hin hal hp9
 have hk : ai.toNat < (crs x ty st l).n := by omega
 have e : (aftS x ty st l F S ai te) = (crs x ty st l).afS S.rts ai.toNat (((crs x ty st l).lg S.rts ai.toNat).arr + te) (((crs x ty st l).lg S.rts ai.toNat).sin + te) := if_pos h
 have hg := CrT.stA_ge hc (R := S.rts) (k := ai.toNat) (a := ((crs x ty st l).lg S.rts ai.toNat).arr + te) (s := ((crs x ty st l).lg S.rts ai.toNat).sin + te) (by omega)
 have hlen : ((crs x ty st l).sheet S.rts).T.length = (crs x ty st l).n - 1 := tms_len _ _
 rw [hsh] at hlen
 have hS : ∀ i, i < (crs x ty st l).n - 1 → S.T.getD i tm0 = (crs x ty st l).tm S.rts i := fun i hi => by
  have h8 := tms_at (crs x ty st l) S.rts hi
  rw [hsh] at h8
  exact h8
 refine ⟨?_, ?_, ?_, ?_, fun i hi => ?_⟩
 ·rw [aftE_r h1 (by omega)]
  exact CrT.okD_0 hc hrun hk
 ·rw [e]
  show ((crs x ty st l).tmB S.rts ai.toNat _ _ _).length = _
  rw [CrT.tmB_len, hlen]
 ·rw [e, show S.e = ((crs x ty st l).sheet S.rts).e by rw [hsh]]
  have h8 := hg ((crs x ty st l).n - 1 - ai.toNat)
  rw [show ai.toNat + ((crs x ty st l).n - 1 - ai.toNat) = (crs x ty st l).n - 1 by omega] at h8
  exact h8
 ·rw [e, show S.m = ((crs x ty st l).sheet S.rts).m by rw [hsh]]
  rfl
 ·have hi2 : i < (crs x ty st l).n - 1 := by omega
  rw [hS i hi2, e]
  show _ ≤ (((crs x ty st l).tmB S.rts ai.toNat (((crs x ty st l).lg S.rts ai.toNat).arr + te) (((crs x ty st l).lg S.rts ai.toNat).sin + te) ((crs x ty st l).n - 1 - ai.toNat)).getD i tm0).a ∧ _ ≤ (((crs x ty st l).tmB S.rts ai.toNat (((crs x ty st l).lg S.rts ai.toNat).arr + te) (((crs x ty st l).lg S.rts ai.toNat).sin + te) ((crs x ty st l).n - 1 - ai.toNat)).getD i tm0).b ∧ _ ≤ (((crs x ty st l).tmB S.rts ai.toNat (((crs x ty st l).lg S.rts ai.toNat).arr + te) (((crs x ty st l).lg S.rts ai.toNat).sin + te) ((crs x ty st l).n - 1 - ai.toNat)).getD i tm0).d ∧ (((crs x ty st l).tmB S.rts ai.toNat (((crs x ty st l).lg S.rts ai.toNat).arr + te) (((crs x ty st l).lg S.rts ai.toNat).sin + te) ((crs x ty st l).n - 1 - ai.toNat)).getD i tm0).r = _ ∧ (_ → _ = ((crs x ty st l).tmB S.rts ai.toNat (((crs x ty st l).lg S.rts ai.toNat).arr + te) (((crs x ty st l).lg S.rts ai.toNat).sin + te) ((crs x ty st l).n - 1 - ai.toNat)).getD i tm0)
  rw [CrT.tmB_at hi2]
  by_cases h3 : ai.toNat ≤ i ∧ i < ai.toNat + ((crs x ty st l).n - 1 - ai.toNat)
  ·rw [if_pos h3]
   have h8 := hg (i - ai.toNat)
   rw [show ai.toNat + (i - ai.toNat) = i by omega] at h8
   have h9 := CrT.onA_mono hc (R := S.rts) (k := i) (a := ((crs x ty st l).lg S.rts i).arr) (s := ((crs x ty st l).lg S.rts i).sin) (s' := ((crs x ty st l).stA S.rts ai.toNat (((crs x ty st l).lg S.rts ai.toNat).arr + te) (((crs x ty st l).lg S.rts ai.toNat).sin + te) (i - ai.toNat)).2) h8
   unfold CrT.tmA
   rw [show ai.toNat + (i - ai.toNat) = i by omega]
   refine ⟨h8, ?_, h9.2, rfl, fun h4 => by omega⟩
   show (crs x ty st l).bgA i ((crs x ty st l).lg S.rts i).arr ≤ (crs x ty st l).bgA i _
   unfold CrT.bgA
   split <;> split <;> omega
  ·rw [if_neg h3]
   exact ⟨Int.le_refl _, Int.le_refl _, Int.le_refl _, rfl, fun _ => rfl⟩
theorem slackKeeps_walk (k : Iv) (x : InT) (hx : InU x) (ty st : Int) (orr oa oS : Option Addr) (cr ca cS b o bf qf bS qS : Nat) (l : List (Int × Bool)) (F : List Bool) (S : ShT) (lS : S.T.length ≤ 300000) (ai te : Int) (w : World) (hT : Tab w) (hI : Ins w k x) (hl : Rw w b o 2 (vF l) l.length oa) (hFx : Rw w bf qf 1 (bF F) F.length orr) (hST : Rw w bS qS 4 (fun k => tmE (S.T.getD k tm0)) S.T.length oS) : Calls Tryd.prog 4 #[.agg #[.slice k.o0 x.pl.length k.c0, .slice k.o1 x.al.length k.c1, .slice k.o2 x.tl.length k.c2, .slice k.o3 x.ol.length k.c3, .slice k.o4 x.ap.length k.c4, .slice k.o5 x.be.length k.c5, .int .i64 ty, .int .i64 st, .slice orr F.length cr, .slice oa l.length ca, .bool S.r, .int .i64 S.d, .slice oS S.T.length cS, .int .i64 S.e, .int .i64 S.m], .int .i64 ai, .int .i64 te] w fun e w' => e = .returned (.bool true) ∧ Below w.heap.size w w' := by
 have HB : Below w.heap.size w w := Below.refl _ _
 refine sx_enter Tryd.func4 rfl [(0, .agg #[.slice k.o0 x.pl.length k.c0, .slice k.o1 x.al.length k.c1, .slice k.o2 x.tl.length k.c2, .slice k.o3 x.ol.length k.c3, .slice k.o4 x.ap.length k.c4, .slice k.o5 x.be.length k.c5, .int .i64 ty, .int .i64 st, .slice orr F.length cr, .slice oa l.length ca, .bool S.r, .int .i64 S.d, .slice oS S.T.length cS, .int .i64 S.e, .int .i64 S.m]), (1, .int .i64 ai), (2, .int .i64 te)] (by kernel_rfl) ?_
 refine wp_seq (wp_region_lit ?_)
 obtain ⟨W1, hW, hb, hq⟩ := laidA w #[.slice k.o0 x.pl.length k.c0, .slice k.o1 x.al.length k.c1, .slice k.o2 x.tl.length k.c2, .slice k.o3 x.ol.length k.c3, .slice k.o4 x.ap.length k.c4, .slice k.o5 x.be.length k.c5, .int .i64 ty, .int .i64 st, .slice orr F.length cr, .slice oa l.length ca, .bool S.r, .int .i64 S.d, .slice oS S.T.length cS, .int .i64 S.e, .int .i64 S.m] 39
 refine sx_mem (by kernel_rfl) rfl rfl (.pointer (some ⟨w.heap.size, 0, none⟩)) W1 (by rw [← hW]; kernel_rfl) ?_
 replace HB := over HB hb
 have z1 := hb.size
 have M2 := hq
 have yM2 := hq.lt
 clear hq hb hW
 refine Zv rfl (.bool false) ?_
 refine wpList_nil (sx_norm (wp_seq (wp_seq (wp_region_lit ?_))))
 refine Zw rfl (.agg #[.slice k.o0 x.pl.length k.c0, .slice k.o1 x.al.length k.c1, .slice k.o2 x.tl.length k.c2, .slice k.o3 x.ol.length k.c3, .slice k.o4 x.ap.length k.c4, .slice k.o5 x.be.length k.c5, .int .i64 ty, .int .i64 st, .slice orr F.length cr, .slice oa l.length ca, .bool S.r, .int .i64 S.d, .slice oS S.T.length cS, .int .i64 S.e, .int .i64 S.m]) (ex_load rfl M2 (by kernel_rfl) Tryd.underlying39 rfl (by kernel_rfl)) ?_
 by_cases C1 : fewB x l F S = true
 ·refine sx_call (by kernel_rfl) rfl rfl ((by have h8 := few_n k x hx ty st orr oa oS cr ca cS l F S W1 (hI.below HB); rw [C1] at h8; exact h8)) (by kernel_rfl) ?_
  rintro e W3 ⟨rfl, hb⟩
  replace HB := over HB hb
  replace M2 := M2.below hb
  have z2 := hb.size
  clear hb
  refine ⟨_, rfl, ?_⟩
  have hin : inF x = [] := few_is C1
  refine Zv rfl (.bool false) ?_
  refine wpList_nil (sx_norm ?_)
  refine sx_false (by kernel_rfl) ?_
  refine wp_skip (sx_norm (wp_seq (wp_region_lit ?_)))
  refine Zv rfl (.pointer (some ⟨w.heap.size, 0, none⟩)) ?_
  refine Zw rfl (.agg (iK k x)) (ex_mid (q := 0) rfl M2 [.slice k.o0 x.pl.length k.c0, .slice k.o1 x.al.length k.c1, .slice k.o2 x.tl.length k.c2, .slice k.o3 x.ol.length k.c3, .slice k.o4 x.ap.length k.c4, .slice k.o5 x.be.length k.c5] (by kernel_rfl) Tryd.underlying30 rfl (by kernel_rfl) rfl) ?_
  refine Zv rfl (.pointer (some ⟨w.heap.size, 6, none⟩)) ?_
  refine Zw rfl (.agg (rK ty st orr F.length cr oa l.length ca)) (ex_mid (q := 6) rfl M2 [.int .i64 ty, .int .i64 st, .slice orr F.length cr, .slice oa l.length ca] (by kernel_rfl) Tryd.underlying34 rfl (by kernel_rfl) rfl) ?_
  refine Zv rfl (.pointer (some ⟨w.heap.size, 10, none⟩)) ?_
  refine Zw rfl (.agg #[.bool S.r, .int .i64 S.d, .slice oS S.T.length cS, .int .i64 S.e, .int .i64 S.m]) (ex_mid (q := 10) rfl M2 [.bool S.r, .int .i64 S.d, .slice oS S.T.length cS, .int .i64 S.e, .int .i64 S.m] (by kernel_rfl) Tryd.underlying37 rfl (by kernel_rfl) rfl) ?_
  refine Zv rfl (.int .i64 ai) ?_
  by_cases C2 : (aftE x ty st l F S ai 0) = 0
  ·refine sx_call (by kernel_rfl) rfl rfl ((by have h8 := sAfter_n k x ty st orr oa oS cr ca cS b o bf qf bS qS l F S lS (fun hp => crs_ok hin hx.al hp) W3 (hI.below HB) (hT.belowD HB) (hl.below HB) (hFx.below HB) (hST.below HB) ai 0; rw [aft_zero hin hx.al C2, C2] at h8; exact h8)) (by kernel_rfl) ?_
   rintro e W4 ⟨oA, cA, bA, qA, rfl, hSA, -, hb⟩
   have hA7 : ∀ i, i < S.T.length → bA < W4.heap.size := fun i hi => hSA.lt hi
   replace HB := over HB hb
   replace M2 := M2.below hb
   have z3 := hb.size
   clear hb
   refine ⟨_, rfl, ?_⟩
   refine Zv rfl (.tuple #[.agg #[.bool S.r, .int .i64 S.d, .slice oA S.T.length cA, .int .i64 S.e, .int .i64 S.m], .int .i64 0]) ?_
   refine Zv rfl (.agg #[.bool S.r, .int .i64 S.d, .slice oA S.T.length cA, .int .i64 S.e, .int .i64 S.m]) ?_
   refine Zv rfl (.int .i64 0) ?_
   obtain ⟨W6, hW, hb, hq⟩ := laidV W4 #[.bool false, .int .i64 0, .slice none 0 0, .int .i64 0, .int .i64 0] #[.bool S.r, .int .i64 S.d, .slice oA S.T.length cA, .int .i64 S.e, .int .i64 S.m] 37
   refine sx_mem (by kernel_rfl) rfl rfl (.pointer (some ⟨W4.heap.size, 0, none⟩)) (W4.alloc (.cells #[.bool false, .int .i64 0, .slice none 0 0, .int .i64 0, .int .i64 0] 37)) (by kernel_rfl) ?_
   refine Zs (cells := #[.bool S.r, .int .i64 S.d, .slice oA S.T.length cA, .int .i64 S.e, .int .i64 S.m]) rfl rfl (Cb.made W4 #[.bool false, .int .i64 0, .slice none 0 0, .int .i64 0, .int .i64 0] 37) ?_
   rw [hW]
   replace HB := over HB hb
   replace M2 := M2.below hb
   replace hSA := hSA.below hb
   have z4 := hb.size
   have M5 := hq
   have yM5 := hq.lt
   clear hq hb hW
   refine Zv rfl (.int .i64 0) ?_
   refine wpList_nil (sx_norm (wp_seq (wp_seq (wp_region_lit ?_))))
   refine Zv rfl (.int .i64 0) ?_
   refine Zv rfl (.bool true) ?_
   refine Zv rfl (.bool true) ?_
   refine Zw rfl (.agg #[.bool S.r, .int .i64 S.d, .slice oA S.T.length cA, .int .i64 S.e, .int .i64 S.m]) (ex_load rfl M5 (by kernel_rfl) Tryd.underlying37 rfl (by kernel_rfl)) ?_
   refine Zv rfl (.pointer (some ⟨w.heap.size, 10, none⟩)) ?_
   refine Zw rfl (.agg #[.bool S.r, .int .i64 S.d, .slice oS S.T.length cS, .int .i64 S.e, .int .i64 S.m]) (ex_mid (q := 10) rfl M2 [.bool S.r, .int .i64 S.d, .slice oS S.T.length cS, .int .i64 S.e, .int .i64 S.m] (by kernel_rfl) Tryd.underlying37 rfl (by kernel_rfl) rfl) ?_
   refine sx_call (by kernel_rfl) rfl rfl ((by have h8 := sheets_n S S oA oS cA cS bA qA bS qS (by omega) (by omega) W6 hSA (hST.below HB); rw [decide_eq_true (rfl : S = S)] at h8; exact h8)) (by kernel_rfl) ?_
   rintro e W7 ⟨rfl, hb⟩
   replace HB := over HB hb
   replace M2 := M2.below hb
   replace hSA := hSA.below hb
   replace M5 := M5.below hb
   have z5 := hb.size
   clear hb
   refine ⟨_, rfl, ?_⟩
   refine Zv rfl (.bool false) ?_
   refine Zv rfl (.bool false) ?_
   refine wpList_nil (sx_norm ?_)
   refine sx_false (by kernel_rfl) ?_
   refine wp_skip (sx_norm (wp_seq (wp_region_lit ?_)))
   refine Zv rfl (.pointer (some ⟨w.heap.size, 0, none⟩)) ?_
   refine Zw rfl (.agg (iK k x)) (ex_mid (q := 0) rfl M2 [.slice k.o0 x.pl.length k.c0, .slice k.o1 x.al.length k.c1, .slice k.o2 x.tl.length k.c2, .slice k.o3 x.ol.length k.c3, .slice k.o4 x.ap.length k.c4, .slice k.o5 x.be.length k.c5] (by kernel_rfl) Tryd.underlying30 rfl (by kernel_rfl) rfl) ?_
   refine Zv rfl (.pointer (some ⟨w.heap.size, 6, none⟩)) ?_
   refine Zw rfl (.agg (rK ty st orr F.length cr oa l.length ca)) (ex_mid (q := 6) rfl M2 [.int .i64 ty, .int .i64 st, .slice orr F.length cr, .slice oa l.length ca] (by kernel_rfl) Tryd.underlying34 rfl (by kernel_rfl) rfl) ?_
   refine Zv rfl (.pointer (some ⟨w.heap.size, 10, none⟩)) ?_
   refine Zw rfl (.agg #[.bool S.r, .int .i64 S.d, .slice oS S.T.length cS, .int .i64 S.e, .int .i64 S.m]) (ex_mid (q := 10) rfl M2 [.bool S.r, .int .i64 S.d, .slice oS S.T.length cS, .int .i64 S.e, .int .i64 S.m] (by kernel_rfl) Tryd.underlying37 rfl (by kernel_rfl) rfl) ?_
   refine Zv rfl (.int .i64 ai) ?_
   refine Zv rfl (.int .i64 te) ?_
   by_cases C3 : (aftE x ty st l F S ai te) = 0
   ·have zU9 := HB.size
    refine sx_call (by kernel_rfl) rfl rfl ((by have h8 := sAfter_n k x ty st orr oa oS cr ca cS b o bf qf bS qS l F S lS (fun hp => crs_ok hin hx.al hp) W7 (hI.below HB) (hT.belowD HB) (hl.below HB) (hFx.below HB) (hST.below HB) ai te; rw [C3] at h8; exact h8)) (by kernel_rfl) ?_
    rintro e W8 ⟨oU, cU, bU, qU, rfl, hSU, -, hb⟩
    have hU7 : ∀ i, i < (aftS x ty st l F S ai te).T.length → bU < W8.heap.size := fun i hi => hSU.lt hi
    obtain ⟨-, hu1, hu2, hu3, hu4⟩ := aft_all hin hx.al C3
    replace HB := over HB hb
    replace M2 := M2.below hb
    replace hSA := hSA.below hb
    replace M5 := M5.below hb
    have z6 := hb.size
    clear hb
    refine ⟨_, rfl, ?_⟩
    refine Zv rfl (.tuple #[.agg #[.bool (aftS x ty st l F S ai te).r, .int .i64 ((aftS x ty st l F S ai te).d), .slice oU (aftS x ty st l F S ai te).T.length cU, .int .i64 ((aftS x ty st l F S ai te).e), .int .i64 ((aftS x ty st l F S ai te).m)], .int .i64 0]) ?_
    refine Zv rfl (.agg #[.bool (aftS x ty st l F S ai te).r, .int .i64 ((aftS x ty st l F S ai te).d), .slice oU (aftS x ty st l F S ai te).T.length cU, .int .i64 ((aftS x ty st l F S ai te).e), .int .i64 ((aftS x ty st l F S ai te).m)]) ?_
    refine Zv rfl (.int .i64 0) ?_
    obtain ⟨W10, hW, hb, hq⟩ := laidV W8 #[.bool false, .int .i64 0, .slice none 0 0, .int .i64 0, .int .i64 0] #[.bool (aftS x ty st l F S ai te).r, .int .i64 ((aftS x ty st l F S ai te).d), .slice oU (aftS x ty st l F S ai te).T.length cU, .int .i64 ((aftS x ty st l F S ai te).e), .int .i64 ((aftS x ty st l F S ai te).m)] 37
    refine sx_mem (by kernel_rfl) rfl rfl (.pointer (some ⟨W8.heap.size, 0, none⟩)) (W8.alloc (.cells #[.bool false, .int .i64 0, .slice none 0 0, .int .i64 0, .int .i64 0] 37)) (by kernel_rfl) ?_
    refine Zs (cells := #[.bool (aftS x ty st l F S ai te).r, .int .i64 ((aftS x ty st l F S ai te).d), .slice oU (aftS x ty st l F S ai te).T.length cU, .int .i64 ((aftS x ty st l F S ai te).e), .int .i64 ((aftS x ty st l F S ai te).m)]) rfl rfl (Cb.made W8 #[.bool false, .int .i64 0, .slice none 0 0, .int .i64 0, .int .i64 0] 37) ?_
    rw [hW]
    replace HB := over HB hb
    replace M2 := M2.below hb
    replace hSA := hSA.below hb
    replace M5 := M5.below hb
    replace hSU := hSU.below hb
    have z7 := hb.size
    have M9 := hq
    have yM9 := hq.lt
    clear hq hb hW
    refine Zv rfl (.int .i64 0) ?_
    refine wpList_nil (sx_norm (wp_seq (wp_seq (wp_region_lit ?_))))
    refine Zv rfl (.int .i64 0) ?_
    refine Zv rfl (.bool false) ?_
    refine wpList_nil (sx_norm ?_)
    refine sx_false (by kernel_rfl) ?_
    refine wp_skip (sx_norm (wp_seq (wp_seq (wp_region_lit ?_))))
    refine Zv rfl (.int .i64 0) ?_
    refine Zv rfl (.bool false) ?_
    refine Zv rfl (.bool false) ?_
    refine Zv rfl (.pointer (some ⟨W8.heap.size, 2, none⟩)) ?_
    refine Zw rfl (.slice oU (aftS x ty st l F S ai te).T.length cU) (el (M9.cell 2 rfl) Tryd.underlying35) ?_
    refine Zv rfl (.int .i64 (((aftS x ty st l F S ai te).T.length : Nat) : Int)) ?_
    refine Zv rfl (.pointer (some ⟨w.heap.size, 10, none⟩)) ?_
    refine Zv rfl (.pointer (some ⟨w.heap.size, 12, none⟩)) ?_
    refine Zw rfl (.slice oS S.T.length cS) (el (M2.cell 12 rfl) Tryd.underlying35) ?_
    refine Zv rfl (.int .i64 ((S.T.length : Nat) : Int)) ?_
    refine Zb rfl (((((aftS x ty st l F S ai te).T.length : Nat) : Int) : Int) != (((S.T.length : Nat) : Int) : Int)) false (by rw [bne_eq_false_iff_eq]; omega) ?_
    refine Zv rfl (.bool false) ?_
    refine Zv rfl (.bool false) ?_
    refine Zv rfl (.pointer (some ⟨W8.heap.size, 3, none⟩)) ?_
    refine Zw rfl (.int .i64 ((aftS x ty st l F S ai te).e)) (el (M9.cell 3 rfl) Tryd.underlying3) ?_
    refine Zv rfl (.pointer (some ⟨w.heap.size, 10, none⟩)) ?_
    refine Zv rfl (.pointer (some ⟨w.heap.size, 13, none⟩)) ?_
    refine Zw rfl (.int .i64 S.e) (el (M2.cell 13 rfl) Tryd.underlying3) ?_
    refine Zb rfl (decide ((aftS x ty st l F S ai te).e < S.e)) false (decide_eq_false (by omega)) ?_
    refine Zv rfl (.bool false) ?_
    refine Zv rfl (.bool false) ?_
    refine Zv rfl (.pointer (some ⟨W8.heap.size, 4, none⟩)) ?_
    refine Zw rfl (.int .i64 ((aftS x ty st l F S ai te).m)) (el (M9.cell 4 rfl) Tryd.underlying3) ?_
    refine Zv rfl (.pointer (some ⟨w.heap.size, 10, none⟩)) ?_
    refine Zv rfl (.pointer (some ⟨w.heap.size, 14, none⟩)) ?_
    refine Zw rfl (.int .i64 S.m) (el (M2.cell 14 rfl) Tryd.underlying3) ?_
    refine Zb rfl (((aftS x ty st l F S ai te).m : Int) != (S.m : Int)) false (by rw [bne_eq_false_iff_eq]; omega) ?_
    refine Zv rfl (.bool false) ?_
    refine wpList_nil (sx_norm ?_)
    refine sx_false (by kernel_rfl) ?_
    refine wp_skip (sx_norm (wp_seq (wp_seq (wp_region_lit ?_))))
    refine Zv rfl (.int .i64 0) ?_
    refine wpList_nil (sx_norm (wp_block ?_))
    refine sx_loop (fun i : Nat => [(0, .agg #[.slice k.o0 x.pl.length k.c0, .slice k.o1 x.al.length k.c1, .slice k.o2 x.tl.length k.c2, .slice k.o3 x.ol.length k.c3, .slice k.o4 x.ap.length k.c4, .slice k.o5 x.be.length k.c5, .int .i64 ty, .int .i64 st, .slice orr F.length cr, .slice oa l.length ca, .bool S.r, .int .i64 S.d, .slice oS S.T.length cS, .int .i64 S.e, .int .i64 S.m]), (1, .int .i64 ai), (2, .int .i64 te), (3, .pointer (some ⟨w.heap.size, 0, none⟩)), (7, .pointer (some ⟨W4.heap.size, 0, none⟩)), (8, .int .i64 0), (9, .pointer (some ⟨W8.heap.size, 0, none⟩)), (10, .int .i64 0), (11, .int .i64 ((i : Nat) : Int)), (14, .agg #[.slice k.o0 x.pl.length k.c0, .slice k.o1 x.al.length k.c1, .slice k.o2 x.tl.length k.c2, .slice k.o3 x.ol.length k.c3, .slice k.o4 x.ap.length k.c4, .slice k.o5 x.be.length k.c5, .int .i64 ty, .int .i64 st, .slice orr F.length cr, .slice oa l.length ca, .bool S.r, .int .i64 S.d, .slice oS S.T.length cS, .int .i64 S.e, .int .i64 S.m]), (15, .bool true), (16, .bool false), (18, .tuple #[.agg #[.bool S.r, .int .i64 S.d, .slice oA S.T.length cA, .int .i64 S.e, .int .i64 S.m], .int .i64 0]), (19, .pointer (some ⟨w.heap.size, 0, none⟩)), (20, .agg (iK k x)), (21, .pointer (some ⟨w.heap.size, 6, none⟩)), (22, .agg (rK ty st orr F.length cr oa l.length ca)), (23, .pointer (some ⟨w.heap.size, 10, none⟩)), (24, .agg #[.bool S.r, .int .i64 S.d, .slice oS S.T.length cS, .int .i64 S.e, .int .i64 S.m]), (25, .int .i64 ai), (26, .tuple #[.agg #[.bool S.r, .int .i64 S.d, .slice oA S.T.length cA, .int .i64 S.e, .int .i64 S.m], .int .i64 0]), (27, .agg #[.bool S.r, .int .i64 S.d, .slice oA S.T.length cA, .int .i64 S.e, .int .i64 S.m]), (28, .int .i64 0), (29, .int .i64 0), (30, .bool true), (31, .bool true), (32, .agg #[.bool S.r, .int .i64 S.d, .slice oA S.T.length cA, .int .i64 S.e, .int .i64 S.m]), (33, .pointer (some ⟨w.heap.size, 10, none⟩)), (34, .agg #[.bool S.r, .int .i64 S.d, .slice oS S.T.length cS, .int .i64 S.e, .int .i64 S.m]), (35, .bool true), (36, .bool false), (37, .bool false), (38, .tuple #[.agg #[.bool (aftS x ty st l F S ai te).r, .int .i64 ((aftS x ty st l F S ai te).d), .slice oU (aftS x ty st l F S ai te).T.length cU, .int .i64 ((aftS x ty st l F S ai te).e), .int .i64 ((aftS x ty st l F S ai te).m)], .int .i64 0]), (39, .pointer (some ⟨w.heap.size, 0, none⟩)), (40, .agg (iK k x)), (41, .pointer (some ⟨w.heap.size, 6, none⟩)), (42, .agg (rK ty st orr F.length cr oa l.length ca)), (43, .pointer (some ⟨w.heap.size, 10, none⟩)), (44, .agg #[.bool S.r, .int .i64 S.d, .slice oS S.T.length cS, .int .i64 S.e, .int .i64 S.m]), (45, .int .i64 ai), (46, .int .i64 te), (47, .tuple #[.agg #[.bool (aftS x ty st l F S ai te).r, .int .i64 ((aftS x ty st l F S ai te).d), .slice oU (aftS x ty st l F S ai te).T.length cU, .int .i64 ((aftS x ty st l F S ai te).e), .int .i64 ((aftS x ty st l F S ai te).m)], .int .i64 0]), (48, .agg #[.bool (aftS x ty st l F S ai te).r, .int .i64 ((aftS x ty st l F S ai te).d), .slice oU (aftS x ty st l F S ai te).T.length cU, .int .i64 ((aftS x ty st l F S ai te).e), .int .i64 ((aftS x ty st l F S ai te).m)]), (49, .int .i64 0), (50, .int .i64 0), (51, .bool false), (64, .int .i64 0), (65, .bool false), (66, .bool false), (67, .pointer (some ⟨W8.heap.size, 2, none⟩)), (68, .slice oU (aftS x ty st l F S ai te).T.length cU), (69, .int .i64 (((aftS x ty st l F S ai te).T.length : Nat) : Int)), (70, .pointer (some ⟨w.heap.size, 10, none⟩)), (71, .pointer (some ⟨w.heap.size, 12, none⟩)), (72, .slice oS S.T.length cS), (73, .int .i64 ((S.T.length : Nat) : Int)), (74, .bool false), (75, .bool false), (76, .bool false), (77, .pointer (some ⟨W8.heap.size, 3, none⟩)), (78, .int .i64 ((aftS x ty st l F S ai te).e)), (79, .pointer (some ⟨w.heap.size, 10, none⟩)), (80, .pointer (some ⟨w.heap.size, 13, none⟩)), (81, .int .i64 S.e), (82, .bool false), (83, .bool false), (84, .bool false), (85, .pointer (some ⟨W8.heap.size, 4, none⟩)), (86, .int .i64 ((aftS x ty st l F S ai te).m)), (87, .pointer (some ⟨w.heap.size, 10, none⟩)), (88, .pointer (some ⟨w.heap.size, 14, none⟩)), (89, .int .i64 S.m), (90, .bool false), (91, .bool false)]) (fun gg i wr => i ≤ S.T.length ∧ S.T.length - i ≤ gg ∧ Cb wr (w.heap.size) #[.slice k.o0 x.pl.length k.c0, .slice k.o1 x.al.length k.c1, .slice k.o2 x.tl.length k.c2, .slice k.o3 x.ol.length k.c3, .slice k.o4 x.ap.length k.c4, .slice k.o5 x.be.length k.c5, .int .i64 ty, .int .i64 st, .slice orr F.length cr, .slice oa l.length ca, .bool S.r, .int .i64 S.d, .slice oS S.T.length cS, .int .i64 S.e, .int .i64 S.m] 39 ∧ Cb wr (W8.heap.size) #[.bool (aftS x ty st l F S ai te).r, .int .i64 ((aftS x ty st l F S ai te).d), .slice oU (aftS x ty st l F S ai te).T.length cU, .int .i64 ((aftS x ty st l F S ai te).e), .int .i64 ((aftS x ty st l F S ai te).m)] 37 ∧ Rw wr bU qU 4 (fun k1 => tmE ((aftS x ty st l F S ai te).T.getD k1 tm0)) (aftS x ty st l F S ai te).T.length oU ∧ Below w.heap.size w wr) (S.T.length) (0) (by kernel_rfl) ⟨Nat.zero_le _, Nat.le_refl _, M2, M9, hSU, HB⟩ ?_
    rintro gg i g' wr11 ⟨hi, hg, K3, K9, hSU, HB⟩
    refine wp_seq (wp_seq ?_)
    have yK3 := K3.lt
    have yK9 := K9.lt
    have zhb := HB.size
    have hU7 : ∀ i, i < (aftS x ty st l F S ai te).T.length → bU < wr11.heap.size := fun i hi => hSU.lt hi
    refine wp_region_lit ?_
    refine Zv rfl (.int .i64 ((i : Nat) : Int)) ?_
    refine Zv rfl (.pointer (some ⟨W8.heap.size, 2, none⟩)) ?_
    refine Zw rfl (.slice oU (aftS x ty st l F S ai te).T.length cU) (el (K9.cell 2 rfl) Tryd.underlying35) ?_
    refine Zv rfl (.int .i64 (((aftS x ty st l F S ai te).T.length : Nat) : Int)) ?_
    by_cases C4 : i < (aftS x ty st l F S ai te).T.length
    ·refine Zb rfl (decide (((i : Nat) : Int) < (((aftS x ty st l F S ai te).T.length : Nat) : Int))) true (decide_eq_true (by omega)) ?_
     refine wpList_nil (sx_norm ?_)
     refine sx_true (by kernel_rfl) ?_
     refine wp_skip (sx_norm (wp_seq (wp_block (wp_seq ?_))))
     obtain ⟨hv1, hv2, hv3, hv4, hv5⟩ := hu4 i (by omega)
     refine wp_region_lit ?_
     refine Zv rfl (.pointer (some ⟨w.heap.size, 10, none⟩)) ?_
     refine Zv rfl (.pointer (some ⟨w.heap.size, 12, none⟩)) ?_
     refine Zw rfl (.slice oS S.T.length cS) (el (K3.cell 12 rfl) Tryd.underlying35) ?_
     refine Zv rfl (.int .i64 ((i : Nat) : Int)) ?_
     refine Zw rfl (.pointer (some ⟨bS, qS + i * 4, none⟩)) (ex_indexO (q := qS) (m := S.T.length) (c := cS) (k := i) (s := 4) rfl (by kernel_rfl) ((hST.below HB).oa (k := i) (by omega)) (by kernel_rfl) Tryd.underlying35 (by kernel_rfl) (by omega) (by omega)) ?_
     refine Zw rfl (.agg #[.int .i64 ((S.T.getD i tm0).a), .int .i64 ((S.T.getD i tm0).b), .int .i64 ((S.T.getD i tm0).d), .bool (S.T.getD i tm0).r]) (ex_loadR rfl ((hST.below HB).range (k := i) (by omega)) (by kernel_rfl) Tryd.underlying51 rfl (by kernel_rfl)) ?_
     obtain ⟨W13, hW, hb, hq⟩ := laidV wr11 #[.int .i64 0, .int .i64 0, .int .i64 0, .bool false] #[.int .i64 ((S.T.getD i tm0).a), .int .i64 ((S.T.getD i tm0).b), .int .i64 ((S.T.getD i tm0).d), .bool (S.T.getD i tm0).r] 51
     refine sx_mem (by kernel_rfl) rfl rfl (.pointer (some ⟨wr11.heap.size, 0, none⟩)) (wr11.alloc (.cells #[.int .i64 0, .int .i64 0, .int .i64 0, .bool false] 51)) (by kernel_rfl) ?_
     refine Zs (cells := #[.int .i64 ((S.T.getD i tm0).a), .int .i64 ((S.T.getD i tm0).b), .int .i64 ((S.T.getD i tm0).d), .bool (S.T.getD i tm0).r]) rfl rfl (Cb.made wr11 #[.int .i64 0, .int .i64 0, .int .i64 0, .bool false] 51) ?_
     rw [hW]
     replace HB := over HB hb
     replace K3 := K3.below hb
     replace K9 := K9.below hb
     replace hSU := hSU.below hb
     have z8 := hb.size
     have M12 := hq
     have yM12 := hq.lt
     clear hq hb hW
     refine wpList_nil (sx_norm (wp_seq (wp_region_lit ?_)))
     refine Zv rfl (.pointer (some ⟨W8.heap.size, 2, none⟩)) ?_
     refine Zw rfl (.slice oU (aftS x ty st l F S ai te).T.length cU) (el (K9.cell 2 rfl) Tryd.underlying35) ?_
     refine Zv rfl (.int .i64 ((i : Nat) : Int)) ?_
     refine Zw rfl (.pointer (some ⟨bU, qU + i * 4, none⟩)) (ex_indexO (q := qU) (m := (aftS x ty st l F S ai te).T.length) (c := cU) (k := i) (s := 4) rfl (by kernel_rfl) (hSU.oa (k := i) (by omega)) (by kernel_rfl) Tryd.underlying35 (by kernel_rfl) (by omega) (by omega)) ?_
     refine Zw rfl (.agg #[.int .i64 (((aftS x ty st l F S ai te).T.getD i tm0).a), .int .i64 (((aftS x ty st l F S ai te).T.getD i tm0).b), .int .i64 (((aftS x ty st l F S ai te).T.getD i tm0).d), .bool ((aftS x ty st l F S ai te).T.getD i tm0).r]) (ex_loadR rfl (hSU.range (k := i) (by omega)) (by kernel_rfl) Tryd.underlying51 rfl (by kernel_rfl)) ?_
     obtain ⟨W15, hW, hb, hq⟩ := laidV W13 #[.int .i64 0, .int .i64 0, .int .i64 0, .bool false] #[.int .i64 (((aftS x ty st l F S ai te).T.getD i tm0).a), .int .i64 (((aftS x ty st l F S ai te).T.getD i tm0).b), .int .i64 (((aftS x ty st l F S ai te).T.getD i tm0).d), .bool ((aftS x ty st l F S ai te).T.getD i tm0).r] 51
     refine sx_mem (by kernel_rfl) rfl rfl (.pointer (some ⟨W13.heap.size, 0, none⟩)) (W13.alloc (.cells #[.int .i64 0, .int .i64 0, .int .i64 0, .bool false] 51)) (by kernel_rfl) ?_
     refine Zs (cells := #[.int .i64 (((aftS x ty st l F S ai te).T.getD i tm0).a), .int .i64 (((aftS x ty st l F S ai te).T.getD i tm0).b), .int .i64 (((aftS x ty st l F S ai te).T.getD i tm0).d), .bool ((aftS x ty st l F S ai te).T.getD i tm0).r]) rfl rfl (Cb.made W13 #[.int .i64 0, .int .i64 0, .int .i64 0, .bool false] 51) ?_
     rw [hW]
     replace HB := over HB hb
     replace K3 := K3.below hb
     replace K9 := K9.below hb
     replace hSU := hSU.below hb
     replace M12 := M12.below hb
     have z9 := hb.size
     have M14 := hq
     have yM14 := hq.lt
     clear hq hb hW
     refine wpList_nil (sx_norm (wp_seq (wp_region_lit ?_)))
     refine Zv rfl (.pointer (some ⟨W13.heap.size, 0, none⟩)) ?_
     refine Zw rfl (.int .i64 (((aftS x ty st l F S ai te).T.getD i tm0).a)) (el (M14.cell 0 rfl) Tryd.underlying3) ?_
     refine Zv rfl (.pointer (some ⟨wr11.heap.size, 0, none⟩)) ?_
     refine Zw rfl (.int .i64 ((S.T.getD i tm0).a)) (el (M12.cell 0 rfl) Tryd.underlying3) ?_
     refine Zb rfl (decide (((aftS x ty st l F S ai te).T.getD i tm0).a < (S.T.getD i tm0).a)) false (decide_eq_false (by omega)) ?_
     refine Zv rfl (.bool false) ?_
     refine Zv rfl (.pointer (some ⟨W13.heap.size, 1, none⟩)) ?_
     refine Zw rfl (.int .i64 (((aftS x ty st l F S ai te).T.getD i tm0).b)) (el (M14.cell 1 rfl) Tryd.underlying3) ?_
     refine Zv rfl (.pointer (some ⟨wr11.heap.size, 1, none⟩)) ?_
     refine Zw rfl (.int .i64 ((S.T.getD i tm0).b)) (el (M12.cell 1 rfl) Tryd.underlying3) ?_
     refine Zb rfl (decide (((aftS x ty st l F S ai te).T.getD i tm0).b < (S.T.getD i tm0).b)) false (decide_eq_false (by omega)) ?_
     refine Zv rfl (.bool false) ?_
     refine Zv rfl (.bool false) ?_
     refine Zv rfl (.pointer (some ⟨W13.heap.size, 2, none⟩)) ?_
     refine Zw rfl (.int .i64 (((aftS x ty st l F S ai te).T.getD i tm0).d)) (el (M14.cell 2 rfl) Tryd.underlying3) ?_
     refine Zv rfl (.pointer (some ⟨wr11.heap.size, 2, none⟩)) ?_
     refine Zw rfl (.int .i64 ((S.T.getD i tm0).d)) (el (M12.cell 2 rfl) Tryd.underlying3) ?_
     refine Zb rfl (decide (((aftS x ty st l F S ai te).T.getD i tm0).d < (S.T.getD i tm0).d)) false (decide_eq_false (by omega)) ?_
     refine Zv rfl (.bool false) ?_
     refine Zv rfl (.bool false) ?_
     refine Zv rfl (.pointer (some ⟨W13.heap.size, 3, none⟩)) ?_
     refine Zw rfl (.bool ((aftS x ty st l F S ai te).T.getD i tm0).r) (el (M14.cell 3 rfl) Tryd.underlying4) ?_
     refine Zv rfl (.pointer (some ⟨wr11.heap.size, 3, none⟩)) ?_
     refine Zw rfl (.bool (S.T.getD i tm0).r) (el (M12.cell 3 rfl) Tryd.underlying4) ?_
     refine Zb rfl ((((aftS x ty st l F S ai te).T.getD i tm0).r != (S.T.getD i tm0).r)) false (by rw [hv4]; exact bne_self_eq_false _) ?_
     refine Zv rfl (.bool false) ?_
     refine Zv rfl (.bool false) ?_
     refine Zv rfl (.int .i64 ((i : Nat) : Int)) ?_
     refine Zv rfl (.int .i64 ai) ?_
     by_cases C5 : ((i : Nat) : Int) < ai
     ·refine Zb rfl (decide (((i : Nat) : Int) < ai)) true (decide_eq_true (by omega)) ?_
      refine Zv rfl (.bool true) ?_
      refine Zw rfl (.agg #[.int .i64 ((S.T.getD i tm0).a), .int .i64 ((S.T.getD i tm0).b), .int .i64 ((S.T.getD i tm0).d), .bool (S.T.getD i tm0).r]) (ex_load rfl M12 (by kernel_rfl) Tryd.underlying51 rfl (by kernel_rfl)) ?_
      refine Zw rfl (.agg #[.int .i64 (((aftS x ty st l F S ai te).T.getD i tm0).a), .int .i64 (((aftS x ty st l F S ai te).T.getD i tm0).b), .int .i64 (((aftS x ty st l F S ai te).T.getD i tm0).d), .bool ((aftS x ty st l F S ai te).T.getD i tm0).r]) (ex_load rfl M14 (by kernel_rfl) Tryd.underlying51 rfl (by kernel_rfl)) ?_
      refine Zw rfl (.bool false) (ex_bool (!((S.T.getD i tm0).a == ((aftS x ty st l F S ai te).T.getD i tm0).a && (S.T.getD i tm0).b == ((aftS x ty st l F S ai te).T.getD i tm0).b && (S.T.getD i tm0).d == ((aftS x ty st l F S ai te).T.getD i tm0).d && (S.T.getD i tm0).r == ((aftS x ty st l F S ai te).T.getD i tm0).r)) false (ex_neqT rfl (by kernel_rfl) (by kernel_rfl)) (by rw [eqv_t (by rw [hv5 (by omega)]; exact ⟨rfl, rfl, rfl, rfl⟩)]; rfl)) ?_
      refine Zv rfl (.bool false) ?_
      refine Zv rfl (.bool false) ?_
      refine wpList_nil (sx_norm ?_)
      refine sx_false (by kernel_rfl) ?_
      refine wp_skip ?_
      refine sx_in ?_
      refine sx_norm (wp_region_lit ?_)
      refine Zv rfl (.int .i64 ((i : Nat) : Int)) ?_
      refine sx_int (by kernel_rfl) rfl rfl .i64 (IntKind.i64.wrap (((i : Nat) : Int) + 1)) (((i + 1 : Nat) : Int)) (by kernel_rfl) (by rw [IntKind.wrap_i64]; omega) ?_
      refine Zv rfl (.int .i64 ((i + 1 : Nat) : Int)) ?_
      refine wpList_nil (sx_norm ?_)
      exact sx_again (S.T.length - (i + 1)) (i + 1) (by omega) (by kernel_rfl) ⟨by omega, Nat.le_refl _, K3, K9, hSU, HB⟩
     refine Zb rfl (decide (((i : Nat) : Int) < ai)) false (decide_eq_false (by omega)) ?_
     refine Zv rfl (.bool false) ?_
     refine Zk rfl ?_
     refine Zk rfl ?_
     refine Zk rfl ?_
     refine Zv rfl (.bool false) ?_
     refine Zv rfl (.bool false) ?_
     refine wpList_nil (sx_norm ?_)
     refine sx_false (by kernel_rfl) ?_
     refine wp_skip ?_
     refine sx_in ?_
     refine sx_norm (wp_region_lit ?_)
     refine Zv rfl (.int .i64 ((i : Nat) : Int)) ?_
     refine sx_int (by kernel_rfl) rfl rfl .i64 (IntKind.i64.wrap (((i : Nat) : Int) + 1)) (((i + 1 : Nat) : Int)) (by kernel_rfl) (by rw [IntKind.wrap_i64]; omega) ?_
     refine Zv rfl (.int .i64 ((i + 1 : Nat) : Int)) ?_
     refine wpList_nil (sx_norm ?_)
     exact sx_again (S.T.length - (i + 1)) (i + 1) (by omega) (by kernel_rfl) ⟨by omega, Nat.le_refl _, K3, K9, hSU, HB⟩
    refine Zb rfl (decide (((i : Nat) : Int) < (((aftS x ty st l F S ai te).T.length : Nat) : Int))) false (decide_eq_false (by omega)) ?_
    refine wpList_nil (sx_norm ?_)
    refine sx_false (by kernel_rfl) ?_
    refine wp_exit ?_
    refine sx_es ?_
    refine sx_es ?_
    refine sx_out ?_
    refine sx_norm (wp_seq (wp_region_lit ?_))
    refine sx_call (by kernel_rfl) rfl rfl (awake19_n wr11 (hT.belowD HB)) (by kernel_rfl) ?_
    rintro e W16 ⟨rfl, hb⟩
    replace HB := over HB hb
    replace K3 := K3.below hb
    replace K9 := K9.below hb
    replace hSU := hSU.below hb
    have z8 := hb.size
    clear hb
    refine ⟨_, rfl, ?_⟩
    refine Zv rfl (.bool true) ?_
    refine wpList_nil (sx_norm (wp_ret ?_))
    exact sx_ret1 (.bool true) rfl rfl (by kernel_rfl) ⟨rfl, HB⟩
   refine sx_call (by kernel_rfl) rfl rfl ((by have h8 := sAfter_n k x ty st orr oa oS cr ca cS b o bf qf bS qS l F S lS (fun hp => crs_ok hin hx.al hp) W7 (hI.below HB) (hT.belowD HB) (hl.below HB) (hFx.below HB) (hST.below HB) ai te; rw [show (aftS x ty st l F S ai te) = sh0 from if_neg C3] at h8; exact h8)) (by kernel_rfl) ?_
   rintro e W17 ⟨oU, cU, bU, qU, rfl, -, -, hb⟩
   replace HB := over HB hb
   replace M2 := M2.below hb
   replace hSA := hSA.below hb
   replace M5 := M5.below hb
   have z6 := hb.size
   clear hb
   refine ⟨_, rfl, ?_⟩
   refine Zv rfl (.tuple #[.agg #[.bool false, .int .i64 0, .slice oU 0 cU, .int .i64 0, .int .i64 0], .int .i64 (aftE x ty st l F S ai te)]) ?_
   refine Zv rfl (.agg #[.bool false, .int .i64 0, .slice oU 0 cU, .int .i64 0, .int .i64 0]) ?_
   refine Zv rfl (.int .i64 (aftE x ty st l F S ai te)) ?_
   obtain ⟨W19, hW, hb, hq⟩ := laidV W17 #[.bool false, .int .i64 0, .slice none 0 0, .int .i64 0, .int .i64 0] #[.bool false, .int .i64 0, .slice oU 0 cU, .int .i64 0, .int .i64 0] 37
   refine sx_mem (by kernel_rfl) rfl rfl (.pointer (some ⟨W17.heap.size, 0, none⟩)) (W17.alloc (.cells #[.bool false, .int .i64 0, .slice none 0 0, .int .i64 0, .int .i64 0] 37)) (by kernel_rfl) ?_
   refine Zs (cells := #[.bool false, .int .i64 0, .slice oU 0 cU, .int .i64 0, .int .i64 0]) rfl rfl (Cb.made W17 #[.bool false, .int .i64 0, .slice none 0 0, .int .i64 0, .int .i64 0] 37) ?_
   rw [hW]
   replace HB := over HB hb
   replace M2 := M2.below hb
   replace hSA := hSA.below hb
   replace M5 := M5.below hb
   have z7 := hb.size
   have M18 := hq
   have yM18 := hq.lt
   clear hq hb hW
   refine Zv rfl (.int .i64 (aftE x ty st l F S ai te)) ?_
   refine wpList_nil (sx_norm (wp_seq (wp_seq (wp_region_lit ?_))))
   refine Zv rfl (.int .i64 (aftE x ty st l F S ai te)) ?_
   refine Zb rfl (((aftE x ty st l F S ai te) : Int) != (0 : Int)) true (bne_iff_ne.2 (by omega)) ?_
   refine wpList_nil (sx_norm ?_)
   refine sx_true (by kernel_rfl) ?_
   refine wp_seq (wp_region_lit ?_)
   refine Zv rfl (.pointer (some ⟨W17.heap.size, 2, none⟩)) ?_
   refine Zw rfl (.slice oU 0 cU) (el (M18.cell 2 rfl) Tryd.underlying35) ?_
   refine Zv rfl (.int .i64 0) ?_
   refine Zv rfl (.bool true) ?_
   refine Zv rfl (.bool true) ?_
   refine Zv rfl (.pointer (some ⟨W17.heap.size, 3, none⟩)) ?_
   refine Zw rfl (.int .i64 0) (el (M18.cell 3 rfl) Tryd.underlying3) ?_
   refine Zv rfl (.bool true) ?_
   refine Zv rfl (.bool true) ?_
   refine Zv rfl (.bool true) ?_
   refine sx_call (by kernel_rfl) rfl rfl (awake19_n W19 (hT.belowD HB)) (by kernel_rfl) ?_
   rintro e W20 ⟨rfl, hb⟩
   replace HB := over HB hb
   replace M2 := M2.below hb
   replace hSA := hSA.below hb
   replace M5 := M5.below hb
   replace M18 := M18.below hb
   have z8 := hb.size
   clear hb
   refine ⟨_, rfl, ?_⟩
   refine Zv rfl (.bool true) ?_
   refine Zv rfl (.bool true) ?_
   refine wpList_nil (sx_norm (wp_ret (sx_rs ?_)))
   exact sx_ret1 (.bool true) rfl rfl (by kernel_rfl) ⟨rfl, HB⟩
  refine sx_call (by kernel_rfl) rfl rfl ((by have h8 := sAfter_n k x ty st orr oa oS cr ca cS b o bf qf bS qS l F S lS (fun hp => crs_ok hin hx.al hp) W3 (hI.below HB) (hT.belowD HB) (hl.below HB) (hFx.below HB) (hST.below HB) ai 0; rw [show (aftS x ty st l F S ai 0) = sh0 from if_neg C2] at h8; exact h8)) (by kernel_rfl) ?_
  rintro e W21 ⟨oA, cA, bA, qA, rfl, -, -, hb⟩
  replace HB := over HB hb
  replace M2 := M2.below hb
  have z3 := hb.size
  clear hb
  refine ⟨_, rfl, ?_⟩
  refine Zv rfl (.tuple #[.agg #[.bool false, .int .i64 0, .slice oA 0 cA, .int .i64 0, .int .i64 0], .int .i64 (aftE x ty st l F S ai 0)]) ?_
  refine Zv rfl (.agg #[.bool false, .int .i64 0, .slice oA 0 cA, .int .i64 0, .int .i64 0]) ?_
  refine Zv rfl (.int .i64 (aftE x ty st l F S ai 0)) ?_
  obtain ⟨W23, hW, hb, hq⟩ := laidV W21 #[.bool false, .int .i64 0, .slice none 0 0, .int .i64 0, .int .i64 0] #[.bool false, .int .i64 0, .slice oA 0 cA, .int .i64 0, .int .i64 0] 37
  refine sx_mem (by kernel_rfl) rfl rfl (.pointer (some ⟨W21.heap.size, 0, none⟩)) (W21.alloc (.cells #[.bool false, .int .i64 0, .slice none 0 0, .int .i64 0, .int .i64 0] 37)) (by kernel_rfl) ?_
  refine Zs (cells := #[.bool false, .int .i64 0, .slice oA 0 cA, .int .i64 0, .int .i64 0]) rfl rfl (Cb.made W21 #[.bool false, .int .i64 0, .slice none 0 0, .int .i64 0, .int .i64 0] 37) ?_
  rw [hW]
  replace HB := over HB hb
  replace M2 := M2.below hb
  have z4 := hb.size
  have M22 := hq
  have yM22 := hq.lt
  clear hq hb hW
  refine Zv rfl (.int .i64 (aftE x ty st l F S ai 0)) ?_
  refine wpList_nil (sx_norm (wp_seq (wp_seq (wp_region_lit ?_))))
  refine Zv rfl (.int .i64 (aftE x ty st l F S ai 0)) ?_
  refine Zb rfl (((aftE x ty st l F S ai 0) : Int) == (0 : Int)) false (beq_eq_false_iff_ne.2 (by omega)) ?_
  refine Zv rfl (.bool false) ?_
  refine Zk rfl ?_
  refine Zk rfl ?_
  refine Zk rfl ?_
  refine Zk rfl ?_
  refine Zk rfl ?_
  refine Zv rfl (.bool false) ?_
  refine wpList_nil (sx_norm ?_)
  refine sx_false (by kernel_rfl) ?_
  refine wp_skip (sx_norm (wp_seq (wp_region_lit ?_)))
  refine Zv rfl (.pointer (some ⟨w.heap.size, 0, none⟩)) ?_
  refine Zw rfl (.agg (iK k x)) (ex_mid (q := 0) rfl M2 [.slice k.o0 x.pl.length k.c0, .slice k.o1 x.al.length k.c1, .slice k.o2 x.tl.length k.c2, .slice k.o3 x.ol.length k.c3, .slice k.o4 x.ap.length k.c4, .slice k.o5 x.be.length k.c5] (by kernel_rfl) Tryd.underlying30 rfl (by kernel_rfl) rfl) ?_
  refine Zv rfl (.pointer (some ⟨w.heap.size, 6, none⟩)) ?_
  refine Zw rfl (.agg (rK ty st orr F.length cr oa l.length ca)) (ex_mid (q := 6) rfl M2 [.int .i64 ty, .int .i64 st, .slice orr F.length cr, .slice oa l.length ca] (by kernel_rfl) Tryd.underlying34 rfl (by kernel_rfl) rfl) ?_
  refine Zv rfl (.pointer (some ⟨w.heap.size, 10, none⟩)) ?_
  refine Zw rfl (.agg #[.bool S.r, .int .i64 S.d, .slice oS S.T.length cS, .int .i64 S.e, .int .i64 S.m]) (ex_mid (q := 10) rfl M2 [.bool S.r, .int .i64 S.d, .slice oS S.T.length cS, .int .i64 S.e, .int .i64 S.m] (by kernel_rfl) Tryd.underlying37 rfl (by kernel_rfl) rfl) ?_
  refine Zv rfl (.int .i64 ai) ?_
  refine Zv rfl (.int .i64 te) ?_
  have hf9 : ¬ (aftE x ty st l F S ai te) = 0 := fun h => C2 (aft_all hin hx.al h).1
  refine sx_call (by kernel_rfl) rfl rfl ((by have h8 := sAfter_n k x ty st orr oa oS cr ca cS b o bf qf bS qS l F S lS (fun hp => crs_ok hin hx.al hp) W23 (hI.below HB) (hT.belowD HB) (hl.below HB) (hFx.below HB) (hST.below HB) ai te; rw [show (aftS x ty st l F S ai te) = sh0 from if_neg hf9] at h8; exact h8)) (by kernel_rfl) ?_
  rintro e W24 ⟨oU, cU, bU, qU, rfl, -, -, hb⟩
  replace HB := over HB hb
  replace M2 := M2.below hb
  replace M22 := M22.below hb
  have z5 := hb.size
  clear hb
  refine ⟨_, rfl, ?_⟩
  refine Zv rfl (.tuple #[.agg #[.bool false, .int .i64 0, .slice oU 0 cU, .int .i64 0, .int .i64 0], .int .i64 (aftE x ty st l F S ai te)]) ?_
  refine Zv rfl (.agg #[.bool false, .int .i64 0, .slice oU 0 cU, .int .i64 0, .int .i64 0]) ?_
  refine Zv rfl (.int .i64 (aftE x ty st l F S ai te)) ?_
  obtain ⟨W26, hW, hb, hq⟩ := laidV W24 #[.bool false, .int .i64 0, .slice none 0 0, .int .i64 0, .int .i64 0] #[.bool false, .int .i64 0, .slice oU 0 cU, .int .i64 0, .int .i64 0] 37
  refine sx_mem (by kernel_rfl) rfl rfl (.pointer (some ⟨W24.heap.size, 0, none⟩)) (W24.alloc (.cells #[.bool false, .int .i64 0, .slice none 0 0, .int .i64 0, .int .i64 0] 37)) (by kernel_rfl) ?_
  refine Zs (cells := #[.bool false, .int .i64 0, .slice oU 0 cU, .int .i64 0, .int .i64 0]) rfl rfl (Cb.made W24 #[.bool false, .int .i64 0, .slice none 0 0, .int .i64 0, .int .i64 0] 37) ?_
  rw [hW]
  replace HB := over HB hb
  replace M2 := M2.below hb
  replace M22 := M22.below hb
  have z6 := hb.size
  have M25 := hq
  have yM25 := hq.lt
  clear hq hb hW
  refine Zv rfl (.int .i64 (aftE x ty st l F S ai te)) ?_
  refine wpList_nil (sx_norm (wp_seq (wp_seq (wp_region_lit ?_))))
  refine Zv rfl (.int .i64 (aftE x ty st l F S ai te)) ?_
  refine Zb rfl (((aftE x ty st l F S ai te) : Int) != (0 : Int)) true (bne_iff_ne.2 (by omega)) ?_
  refine wpList_nil (sx_norm ?_)
  refine sx_true (by kernel_rfl) ?_
  refine wp_seq (wp_region_lit ?_)
  refine Zv rfl (.pointer (some ⟨W24.heap.size, 2, none⟩)) ?_
  refine Zw rfl (.slice oU 0 cU) (el (M25.cell 2 rfl) Tryd.underlying35) ?_
  refine Zv rfl (.int .i64 0) ?_
  refine Zv rfl (.bool true) ?_
  refine Zv rfl (.bool true) ?_
  refine Zv rfl (.pointer (some ⟨W24.heap.size, 3, none⟩)) ?_
  refine Zw rfl (.int .i64 0) (el (M25.cell 3 rfl) Tryd.underlying3) ?_
  refine Zv rfl (.bool true) ?_
  refine Zv rfl (.bool true) ?_
  refine Zv rfl (.bool true) ?_
  refine sx_call (by kernel_rfl) rfl rfl (awake19_n W26 (hT.belowD HB)) (by kernel_rfl) ?_
  rintro e W27 ⟨rfl, hb⟩
  replace HB := over HB hb
  replace M2 := M2.below hb
  replace M22 := M22.below hb
  replace M25 := M25.below hb
  have z7 := hb.size
  clear hb
  refine ⟨_, rfl, ?_⟩
  refine Zv rfl (.bool true) ?_
  refine Zv rfl (.bool true) ?_
  refine wpList_nil (sx_norm (wp_ret (sx_rs ?_)))
  exact sx_ret1 (.bool true) rfl rfl (by kernel_rfl) ⟨rfl, HB⟩
 refine sx_call (by kernel_rfl) rfl rfl ((by have h8 := few_n k x hx ty st orr oa oS cr ca cS l F S W1 (hI.below HB); rw [show fewB x l F S = false by simpa using C1] at h8; exact h8)) (by kernel_rfl) ?_
 rintro e W28 ⟨rfl, hb⟩
 replace HB := over HB hb
 replace M2 := M2.below hb
 have z2 := hb.size
 clear hb
 refine ⟨_, rfl, ?_⟩
 refine Zv rfl (.bool true) ?_
 refine wpList_nil (sx_norm ?_)
 refine sx_true (by kernel_rfl) ?_
 refine wp_seq (wp_region_lit ?_)
 refine sx_call (by kernel_rfl) rfl rfl (awake19_n W28 (hT.belowD HB)) (by kernel_rfl) ?_
 rintro e W29 ⟨rfl, hb⟩
 replace HB := over HB hb
 replace M2 := M2.below hb
 have z3 := hb.size
 clear hb
 refine ⟨_, rfl, ?_⟩
 refine Zv rfl (.bool true) ?_
 refine wpList_nil (sx_norm (wp_ret (sx_rs ?_)))
 exact sx_ret1 (.bool true) rfl rfl (by kernel_rfl) ⟨rfl, HB⟩

end Go.Proofs.YtomebalolmabnaaDoor.T



