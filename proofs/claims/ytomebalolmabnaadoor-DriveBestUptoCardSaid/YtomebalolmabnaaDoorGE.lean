/-
  DERIVED. GE: a part of the base of layer 13 (made by pack.py).
-/
import Derived.Test.YtomebalolmabnaaDoorGA
import Derived.Test.YtomebalolmabnaaDoorGC
import Derived.Test.YtomebalolmabnaaDoorDe
import Derived.Laws.MakeOwn
import Derived.Test.YtomebalolmabnaaDoorGB
/-! The walk of drive.Run (by gen_df.py). -/
namespace Go.Proofs.YtomebalolmabnaaDoor.T
open Go.RowKit
set_option maxRecDepth 8000
attribute [local irreducible] wpList Code.wp wpAnyH

def runE (x : InT) (ty st : Int) (l : List (Int × Bool)) (R : List Bool) : Int := if posD x.tl x.ol ty st l = true ∧ R.length = l.length + 1 then (crs x ty st l).run R (l.length + 1) else 2
def runS (x : InT) (ty st : Int) (l : List (Int × Bool)) (R : List Bool) : ShT := if runE x ty st l R = 0 then (crs x ty st l).sheet R else sh0
theorem crs_n (x : InT) (ty st : Int) (l : List (Int × Bool)) : (crs x ty st l).n = l.length + 1 := by
 show (crsS _ _ _).length - 1 = _
 rw [crsS_len]
 omega
theorem runE_no {x : InT} {ty st : Int} {l : List (Int × Bool)} {R : List Bool} (h : posD x.tl x.ol ty st l = false ∨ R.length ≠ l.length + 1) : runE x ty st l R = 2 ∧ runS x ty st l R = sh0 := by
 have e : runE x ty st l R = 2 := by
  unfold runE
  rw [if_neg]
  rintro ⟨h1, h2⟩
  rcases h with h | h
  ·rw [h] at h1; cases h1
  ·exact h h2
 exact ⟨e, by unfold runS; rw [e, if_neg (by decide)]⟩
theorem runE_yes {x : InT} {ty st : Int} {l : List (Int × Bool)} {R : List Bool} (h1 : posD x.tl x.ol ty st l = true) (h2 : R.length = l.length + 1) : runE x ty st l R = (crs x ty st l).run R (crs x ty st l).n := by
 unfold runE
 rw [if_pos ⟨h1, h2⟩, crs_n]
theorem rw_sh0 (w : World) : Rw w 0 0 4 (fun k => tmE (sh0.T.getD k tm0)) sh0.T.length none := fun i hi => absurd hi (Nat.not_lt_zero i)
def ShP (S : ShT) (e : Int) (w : World) (E : Ending) (w' : World) : Prop := ∃ o9 c9 b9 q9, E = .returned (.tuple #[.agg (shC S o9 c9), .int .i64 e]) ∧ Rw w' b9 q9 4 (fun k => tmE (S.T.getD k tm0)) S.T.length o9 ∧ (∀ i, i < S.T.length → w.heap.size ≤ b9) ∧ Below w.heap.size w w'
theorem run_yes (c : CrT) (hc : c.Ok) (K : CV) (q : Nat) (w : World) (hK : Crw w c K q) (R : List Bool) (hRl : R.length = c.n) (oa : Option Addr) (ca b o : Nat) (hR : Rw w b o 1 (bF R) R.length oa) (h0 : c.run R c.n = 0) : Calls Tryd.prog 29 #[.pointer (some ⟨q, 0, none⟩), .slice oa R.length ca] w fun e w' => ∃ ol cl bl ql, e = .returned (.tuple #[.slice ol c.n cl, .int .i64 0]) ∧ Rw w' bl ql 6 (fun k => legE (c.lg R k)) c.n ol ∧ Below w.heap.size w w' :=
 (run_n c hc K q w hK R hRl oa ca b o hR).mono fun e W' ⟨ol, cl, bl, ql, he, hr, hb⟩ => by
  have eA : c.legsA R = c.legs R c.n := if_pos h0
  rw [eA, CrT.legs_len] at he hr
  exact ⟨ol, cl, bl, ql, by rw [he, h0], hr.ext (fun i hi => by show legE ((c.legs R c.n).getD i leg0) = legE (c.lg R i); rw [CrT.legs_at _ _ hi]), hb⟩
theorem run_no (c : CrT) (hc : c.Ok) (K : CV) (q : Nat) (w : World) (hK : Crw w c K q) (R : List Bool) (hRl : R.length = c.n) (oa : Option Addr) (ca b o : Nat) (hR : Rw w b o 1 (bF R) R.length oa) (h0 : ¬ c.run R c.n = 0) : Calls Tryd.prog 29 #[.pointer (some ⟨q, 0, none⟩), .slice oa R.length ca] w fun e w' => ∃ ol cl, e = .returned (.tuple #[.slice ol 0 cl, .int .i64 (c.run R c.n)]) ∧ Below w.heap.size w w' :=
 (run_n c hc K q w hK R hRl oa ca b o hR).mono fun e W' ⟨ol, cl, bl, ql, he, hr, hb⟩ => by
  have eA : c.legsA R = [] := if_neg h0
  rw [eA] at he
  exact ⟨ol, cl, he, hb⟩
theorem drvRun_n (k : Iv) (x : InT) (ty st : Int) (orr oa : Option Addr) (nr cr ca b o : Nat) (l : List (Int × Bool)) (hok : posD x.tl x.ol ty st l = true → (crs x ty st l).Ok) (R : List Bool) (oR : Option Addr) (cR bR qR : Nat) (w : World) (hI : Ins w k x) (hT : Tab w) (hl : Rw w b o 2 (vF l) l.length oa) (hR : Rw w bR qR 1 (bF R) R.length oR) : Calls Tryd.prog 25 #[.agg (iK k x), .agg #[.int .i64 ty, .int .i64 st, .slice orr nr cr, .slice oa l.length ca], .slice oR R.length cR] w (ShP (runS x ty st l R) (runE x ty st l R) w) := by
 have HB : Below w.heap.size w w := Below.refl _ _
 refine sx_enter Tryd.func25 rfl [(0, .agg (iK k x)), (1, .agg #[.int .i64 ty, .int .i64 st, .slice orr nr cr, .slice oa l.length ca]), (2, .slice oR R.length cR)] (by kernel_rfl) ?_
 refine wp_seq (wp_region_lit ?_)
 obtain ⟨W1, hW, hb, hq⟩ := laidA w (iK k x) 30
 refine sx_mem (by kernel_rfl) rfl rfl (.pointer (some ⟨w.heap.size, 0, none⟩)) W1 (by rw [← hW]; kernel_rfl) ?_
 replace HB := over HB hb
 have z1 := hb.size
 have M2 := hq
 have yM2 := hq.lt
 clear hq hb hW
 obtain ⟨W3, hW, hb, hq⟩ := laidA W1 #[.int .i64 ty, .int .i64 st, .slice orr nr cr, .slice oa l.length ca] 34
 refine sx_mem (by kernel_rfl) rfl rfl (.pointer (some ⟨W1.heap.size, 0, none⟩)) W3 (by rw [← hW]; kernel_rfl) ?_
 replace HB := over HB hb
 replace M2 := M2.below hb
 have z2 := hb.size
 have M4 := hq
 have yM4 := hq.lt
 clear hq hb hW
 obtain ⟨W5, hW, hb, hq⟩ := laidA W3 #[.bool false, .int .i64 0, .slice none 0 0, .int .i64 0, .int .i64 0] 37
 refine sx_mem (by kernel_rfl) rfl rfl (.pointer (some ⟨W3.heap.size, 0, none⟩)) W5 (by rw [← hW]; kernel_rfl) ?_
 replace HB := over HB hb
 replace M2 := M2.below hb
 replace M4 := M4.below hb
 have z3 := hb.size
 have M6 := hq
 have yM6 := hq.lt
 clear hq hb hW
 refine Zv rfl (.int .i64 0) ?_
 refine wpList_nil (sx_norm (wp_seq (wp_region_lit ?_)))
 refine Zw rfl (.agg (iK k x)) (ex_load rfl M2 (by kernel_rfl) Tryd.underlying30 rfl (by kernel_rfl)) ?_
 refine Zw rfl (.agg #[.int .i64 ty, .int .i64 st, .slice orr nr cr, .slice oa l.length ca]) (ex_load rfl M4 (by kernel_rfl) Tryd.underlying34 rfl (by kernel_rfl)) ?_
 refine sx_call (by kernel_rfl) rfl rfl (courseOf_n k x ty st orr oa nr cr ca b o l W5 (hI.below HB) (hT.belowD HB) (hl.below HB)) (by kernel_rfl) ?_
 rintro e W7 ⟨hcs, hb⟩
 replace HB := over HB hb
 replace M2 := M2.below hb
 replace M4 := M4.below hb
 replace M6 := M6.below hb
 have z4 := hb.size
 clear hb
 rcases hcs with ⟨hp9, rfl⟩ | ⟨K, q, hp9, rfl, hK9⟩
 ·refine ⟨_, rfl, ?_⟩
  refine Zv rfl (.tuple #[.pointer none, .bool false]) ?_
  refine Zv rfl (.pointer none) ?_
  refine Zv rfl (.bool false) ?_
  refine Zv rfl (.pointer none) ?_
  refine Zv rfl (.bool false) ?_
  refine wpList_nil (sx_norm (wp_seq (wp_seq (wp_region_lit ?_))))
  refine Zv rfl (.bool false) ?_
  refine Zv rfl (.bool true) ?_
  refine Zv rfl (.bool true) ?_
  refine Zk rfl ?_
  refine Zk rfl ?_
  refine Zk rfl ?_
  refine Zk rfl ?_
  refine Zk rfl ?_
  refine Zv rfl (.bool true) ?_
  refine wpList_nil (sx_norm ?_)
  refine sx_true (by kernel_rfl) ?_
  refine wp_seq (wp_region_lit ?_)
  refine Zv rfl (.agg #[.bool false, .int .i64 0, .slice none 0 0, .int .i64 0, .int .i64 0]) ?_
  refine Zr (cells := #[.bool false, .int .i64 0, .slice none 0 0, .int .i64 0, .int .i64 0]) rfl rfl M6 (fun W8 hg hq => ?_)
  replace HB := HB.grown hg (by omega) (fun x e => by simp only [Option.some.injEq] at e; omega)
  replace M2 := M2.kept hg (by omega)
  replace M4 := M4.kept hg (by omega)
  have z5 := hg.size
  replace M6 := hq
  clear hq hg
  refine Zv rfl (.int .i64 2) ?_
  refine wpList_nil (sx_norm (wp_ret (sx_rs ?_)))
  have h9 := runE_no (x := x) (ty := ty) (st := st) (l := l) (R := R) (.inl hp9)
  exact sx_retct M6 rfl rfl rfl (by kernel_rfl) (by kernel_rfl) Tryd.underlying37 rfl (by kernel_rfl) ⟨none, 0, 0, 0, by rw [h9.1, h9.2]; rfl, by rw [h9.2]; exact rw_sh0 _, (fun i hi => by rw [h9.2] at hi; exact absurd hi (Nat.not_lt_zero i)), HB⟩
 have hc := hok hp9
 refine ⟨_, rfl, ?_⟩
 refine Zv rfl (.tuple #[.pointer (some ⟨q, 0, none⟩), .bool true]) ?_
 refine Zv rfl (.pointer (some ⟨q, 0, none⟩)) ?_
 refine Zv rfl (.bool true) ?_
 refine Zv rfl (.pointer (some ⟨q, 0, none⟩)) ?_
 refine Zv rfl (.bool true) ?_
 refine wpList_nil (sx_norm (wp_seq (wp_seq (wp_region_lit ?_))))
 refine Zv rfl (.bool true) ?_
 refine Zv rfl (.bool false) ?_
 refine Zv rfl (.bool false) ?_
 refine Zv rfl (.slice oR R.length cR) ?_
 refine Zv rfl (.int .i64 ((R.length : Nat) : Int)) ?_
 refine Zv rfl (.pointer (some ⟨q, 0, none⟩)) ?_
 refine sx_call (by kernel_rfl) rfl rfl ((by have h8 := ways_n (crs x ty st l) hc K q W7 hK9; rw [crs_n] at h8; exact h8)) (by kernel_rfl) ?_
 rintro e w9 ⟨rfl, rfl⟩
 refine ⟨_, rfl, ?_⟩
 by_cases C1 : R.length = l.length + 1
 ·refine Zb rfl ((((R.length : Nat) : Int) : Int) != (((l.length + 1 : Nat) : Int) : Int)) false (by rw [bne_eq_false_iff_eq]; omega) ?_
  refine Zv rfl (.bool false) ?_
  refine wpList_nil (sx_norm ?_)
  refine sx_false (by kernel_rfl) ?_
  refine wp_skip (sx_norm (wp_seq (wp_region_lit ?_)))
  refine Zv rfl (.pointer (some ⟨q, 0, none⟩)) ?_
  refine Zv rfl (.slice oR R.length cR) ?_
  have hRc : R.length = (crs x ty st l).n := by rw [crs_n]; omega
  by_cases C2 : ((crs x ty st l).run R (crs x ty st l).n) = 0
  ·refine sx_call (by kernel_rfl) rfl rfl (run_yes (crs x ty st l) hc K q W7 hK9 R hRc oR cR bR qR (hR.below HB) C2) (by kernel_rfl) ?_
   rintro e W9 ⟨ol, cl, bl, ql, rfl, hL9, hb⟩
   replace HB := over HB hb
   replace M2 := M2.below hb
   replace M4 := M4.below hb
   replace M6 := M6.below hb
   replace hK9 := hK9.below hb
   have z5 := hb.size
   clear hb
   refine ⟨_, rfl, ?_⟩
   have hrun9 := C2
   refine Zv rfl (.tuple #[.slice ol (crs x ty st l).n cl, .int .i64 0]) ?_
   refine Zv rfl (.slice ol (crs x ty st l).n cl) ?_
   refine Zv rfl (.int .i64 0) ?_
   refine Zv rfl (.slice ol (crs x ty st l).n cl) ?_
   refine Zv rfl (.int .i64 0) ?_
   refine wpList_nil (sx_norm (wp_seq (wp_seq (wp_region_lit ?_))))
   refine Zv rfl (.int .i64 0) ?_
   refine Zv rfl (.bool false) ?_
   refine wpList_nil (sx_norm ?_)
   refine sx_false (by kernel_rfl) ?_
   refine wp_skip (sx_norm (wp_seq (wp_region_lit ?_)))
   refine Zv rfl (.slice ol (crs x ty st l).n cl) ?_
   refine Zv rfl (.slice oR R.length cR) ?_
   refine sx_call (by kernel_rfl) rfl rfl (sheetOf_n (crs x ty st l) hc R hRc hrun9 ol oR cl cR bl ql bR qR W9 hL9 (hR.below HB)) (by kernel_rfl) ?_
   rintro e W10 ⟨o9, c9, b9, q9, rfl, hS9, hS8, hb⟩
   replace HB := over HB hb
   replace M2 := M2.below hb
   replace M4 := M4.below hb
   replace M6 := M6.below hb
   replace hK9 := hK9.below hb
   replace hL9 := hL9.below hb
   have z6 := hb.size
   clear hb
   refine ⟨_, rfl, ?_⟩
   refine Zr (cells := #[.bool ((crs x ty st l).sheet R).r, .int .i64 (((crs x ty st l).sheet R).d), .slice o9 ((crs x ty st l).sheet R).T.length c9, .int .i64 (((crs x ty st l).sheet R).e), .int .i64 (((crs x ty st l).sheet R).m)]) rfl rfl M6 (fun W11 hg hq => ?_)
   replace HB := HB.grown hg (by omega) (fun x e => by simp only [Option.some.injEq] at e; omega)
   replace M2 := M2.kept hg (by omega)
   replace M4 := M4.kept hg (by omega)
   replace hS9 := hS9.kept hg (fun i hi => by have h8 := hS8 i hi; omega)
   have z7 := hg.size
   replace M6 := hq
   clear hq hg
   refine Zv rfl (.int .i64 0) ?_
   refine wpList_nil (sx_norm (wp_ret ?_))
   have h8 := runE_yes (R := R) hp9 (by omega)
   rw [hrun9] at h8
   have h9 : runS x ty st l R = (crs x ty st l).sheet R := by unfold runS; rw [h8, if_pos rfl]
   exact sx_retct M6 rfl rfl rfl (by kernel_rfl) (by kernel_rfl) Tryd.underlying37 rfl (by kernel_rfl) ⟨o9, c9, b9, q9, by rw [h8, h9]; rfl, by rw [h9]; exact hS9, (fun i hi => by rw [h9] at hi; have h7 := hS8 i hi; omega), HB⟩
  refine sx_call (by kernel_rfl) rfl rfl (run_no (crs x ty st l) hc K q W7 hK9 R hRc oR cR bR qR (hR.below HB) C2) (by kernel_rfl) ?_
  rintro e W12 ⟨ol, cl, rfl, hb⟩
  replace HB := over HB hb
  replace M2 := M2.below hb
  replace M4 := M4.below hb
  replace M6 := M6.below hb
  replace hK9 := hK9.below hb
  have z5 := hb.size
  clear hb
  refine ⟨_, rfl, ?_⟩
  refine Zv rfl (.tuple #[.slice ol 0 cl, .int .i64 ((crs x ty st l).run R (crs x ty st l).n)]) ?_
  refine Zv rfl (.slice ol 0 cl) ?_
  refine Zv rfl (.int .i64 ((crs x ty st l).run R (crs x ty st l).n)) ?_
  refine Zv rfl (.slice ol 0 cl) ?_
  refine Zv rfl (.int .i64 ((crs x ty st l).run R (crs x ty st l).n)) ?_
  refine wpList_nil (sx_norm (wp_seq (wp_seq (wp_region_lit ?_))))
  refine Zv rfl (.int .i64 ((crs x ty st l).run R (crs x ty st l).n)) ?_
  refine Zb rfl ((((crs x ty st l).run R (crs x ty st l).n) : Int) != (0 : Int)) true (bne_iff_ne.2 (by omega)) ?_
  refine wpList_nil (sx_norm ?_)
  refine sx_true (by kernel_rfl) ?_
  refine wp_seq (wp_region_lit ?_)
  refine Zv rfl (.agg #[.bool false, .int .i64 0, .slice none 0 0, .int .i64 0, .int .i64 0]) ?_
  refine Zv rfl (.int .i64 ((crs x ty st l).run R (crs x ty st l).n)) ?_
  refine Zr (cells := #[.bool false, .int .i64 0, .slice none 0 0, .int .i64 0, .int .i64 0]) rfl rfl M6 (fun W13 hg hq => ?_)
  replace HB := HB.grown hg (by omega) (fun x e => by simp only [Option.some.injEq] at e; omega)
  replace M2 := M2.kept hg (by omega)
  replace M4 := M4.kept hg (by omega)
  have z6 := hg.size
  replace M6 := hq
  clear hq hg
  refine Zv rfl (.int .i64 ((crs x ty st l).run R (crs x ty st l).n)) ?_
  refine wpList_nil (sx_norm (wp_ret (sx_rs ?_)))
  have h8 := runE_yes (R := R) hp9 (by omega)
  have h9 : runS x ty st l R = sh0 := by unfold runS; rw [h8, if_neg (by assumption)]
  exact sx_retct M6 rfl rfl rfl (by kernel_rfl) (by kernel_rfl) Tryd.underlying37 rfl (by kernel_rfl) ⟨none, 0, 0, 0, by rw [h8, h9]; rfl, by rw [h9]; exact rw_sh0 _, (fun i hi => by rw [h9] at hi; exact absurd hi (Nat.not_lt_zero i)), HB⟩
 refine Zb rfl ((((R.length : Nat) : Int) : Int) != (((l.length + 1 : Nat) : Int) : Int)) true (bne_iff_ne.2 (by omega)) ?_
 refine Zv rfl (.bool true) ?_
 refine wpList_nil (sx_norm ?_)
 refine sx_true (by kernel_rfl) ?_
 refine wp_seq (wp_region_lit ?_)
 refine Zv rfl (.agg #[.bool false, .int .i64 0, .slice none 0 0, .int .i64 0, .int .i64 0]) ?_
 refine Zr (cells := #[.bool false, .int .i64 0, .slice none 0 0, .int .i64 0, .int .i64 0]) rfl rfl M6 (fun W14 hg hq => ?_)
 replace HB := HB.grown hg (by omega) (fun x e => by simp only [Option.some.injEq] at e; omega)
 replace M2 := M2.kept hg (by omega)
 replace M4 := M4.kept hg (by omega)
 have z5 := hg.size
 replace M6 := hq
 clear hq hg
 refine Zv rfl (.int .i64 2) ?_
 refine wpList_nil (sx_norm (wp_ret (sx_rs ?_)))
 have h9 := runE_no (x := x) (ty := ty) (st := st) (l := l) (R := R) (.inr (by omega))
 exact sx_retct M6 rfl rfl rfl (by kernel_rfl) (by kernel_rfl) Tryd.underlying37 rfl (by kernel_rfl) ⟨none, 0, 0, 0, by rw [h9.1, h9.2]; rfl, by rw [h9.2]; exact rw_sh0 _, (fun i hi => by rw [h9.2] at hi; exact absurd hi (Nat.not_lt_zero i)), HB⟩

end Go.Proofs.YtomebalolmabnaaDoor.T



/-! The map of what is best at each halt; slices cut out of slices. -/
namespace Go.Proofs.YtomebalolmabnaaDoor.T
open Go.RowKit Go.WideElems
set_option maxRecDepth 8000

structure ChT where
 p : Bool
 e : Int
 r : Bool
 f : Bool
deriving DecidableEq
def ch0 : ChT := ⟨false, 0, false, false⟩
def chV (c : ChT) : Value := .agg #[.bool c.p, .int .i64 c.e, .bool c.r, .bool c.f]
def chD (c : ChT) : DataW Unit := .agg [.lit (.bool c.p), .lit (.int .i64 c.e), .lit (.bool c.r), .lit (.bool c.f)]
def chR (v : Value) : Option (DataW Unit × List MemPlace) :=
 match v with
 | .agg ⟨[.bool p, .int .i64 e, .bool r, .bool f]⟩ => some (chD ⟨p, e, r, f⟩, [])
 | _ => none
theorem chR_inv {v : Value} {c : ChT} {ps : List MemPlace} (h : chR v = some (chD c, ps)) : v = chV c := by
 unfold chR at h
 split at h
 ·simp only [Option.some.injEq, Prod.mk.injEq] at h
  obtain ⟨h, -⟩ := h
  unfold chD at h
  simp only [DataW.agg.injEq, List.cons.injEq, DataW.lit.injEq, Lit.bool.injEq, Lit.int.injEq, and_true, true_and] at h
  obtain ⟨h1, h2, h3, h4⟩ := h
  unfold chV
  rw [h1, h2, h3, h4]
 ·cases h
theorem haltKey {p f t : Int} (hp : I64 p) (hf : I64 f) (ht : I64 t) : keyOf Tryd.prog 124 (.agg #[.int .i64 p, .int .i64 f, .int .i64 t]) = some (wk p f t) := by
 have h0 : 0 < Tryd.prog.types.size := of_decide_eq_true (by kernel_rfl)
 obtain ⟨m, hm⟩ : ∃ m, Tryd.prog.types.size = m + 1 := ⟨Tryd.prog.types.size - 1, by omega⟩
 have hkt : Tryd.prog.keyType 124 = true := by kernel_rfl
 have hc : Tryd.prog.cellsOf 124 = 3 := by kernel_rfl
 have hi : Tryd.prog.cellsOf 3 = 1 := by kernel_rfl
 unfold keyOf
 simp only [Tryd.underlying124]
 rw [if_pos (by simp [hkt, Value.formed, Tryd.underlying124, hc]), hm]
 unfold Program.keyLits
 simp only [Tryd.underlying124, Value.cells]
 rw [if_pos (by rw [hc]; exact ⟨rfl, by simp⟩)]
 simp [hi, Program.keyLits, Tryd.underlying3, i64_wf hp, i64_wf hf, i64_wf ht, wk]
theorem lawHalt : Maps.Keyed Tryd.prog 124 := Maps.Keyed.of_law (deep_law_laid laidOut (m := 2) (by omega) (of_decide_eq_true (by kernel_rfl)) (by kernel_rfl) (by kernel_rfl))
theorem zeroCh (w : World) : (zeroValue 126).run Tryd.prog w = .ok (chV ch0) w := by kernel_rfl
abbrev HaltF := Int → Int → Int → Option ChT
def putH (g : HaltF) (p f t : Int) (c : ChT) : HaltF := fun p' f' t' => if p' = p ∧ f' = f ∧ t' = t then some c else g p' f' t'
def Hm (w : World) (b n : Nat) (g : HaltF) : Prop :=
 ∃ D : DataW Unit, w.ownsMap Tryd.prog 124 chR b n D ∧ ∀ p f t, I64 p → I64 f → I64 t →
  Maps.has D (wk p f t) = (g p f t).isSome ∧ D.atKey (wk p f t) (chD ch0) = chD ((g p f t).getD ch0)
section
variable {w w' : World} {b n : Nat} {g g' : HaltF}
theorem Hm.lt (h : Hm w b n g) : b < w.heap.size := by obtain ⟨D, h, _⟩ := h; exact h.lt
theorem Hm.of_block (h : Hm w b n g) (hb : w'.heap[b]? = w.heap[b]?) : Hm w' b n g := by
 obtain ⟨D, ⟨es, clock, h1, h2⟩, h⟩ := h
 exact ⟨D, ⟨es, clock, hb.trans h1, h2⟩, h⟩
theorem Hm.below (h : Hm w b n g) (hb : Below w.heap.size w w') : Hm w' b n g := h.of_block (hb.block b h.lt)
theorem Hm.kept {q : Nat} (h : Hm w b n g) (hg : w.grownBy w' (some q)) (hne : b ≠ q) : Hm w' b n g := h.of_block (hg.block b h.lt (fun e => hne (by simpa using e)))
theorem Hm.made (w : World) : Hm (w.alloc (.map #[] 0)) w.heap.size 0 (fun _ _ _ => none) :=
 ⟨.map [], World.ownsMap_made w _ _ _, fun _ _ _ _ _ _ => ⟨rfl, rfl⟩⟩
theorem Hm.put (h : Hm w b n g) (hn : n < maxLen) {p f t : Int} (hp : I64 p) (hf : I64 f) (ht : I64 t) (c : ChT) :
  ∃ w', (Instr.mapUpdate 120 (.map (some b)) (.agg #[.int .i64 p, .int .i64 f, .int .i64 t]) (chV c)).run Tryd.prog w = .ok () w' ∧ Hm w' b (n + 1) (putH g p f t c) ∧ w.grownBy w' (some b) := by
 obtain ⟨D, hown, hD⟩ := h
 have hkey := haltKey hp hf ht
 obtain ⟨w', hrun, hown', hg⟩ := hown.update lawHalt Tryd.underlying120 hn hkey (show chR (chV c) = some (chD c, []) from rfl)
 refine ⟨w', hrun, ⟨_, hown', fun p' f' t' hp' hf' ht' => ?_⟩, hg⟩
 unfold putH
 by_cases e : p' = p ∧ f' = f ∧ t' = t
 ·obtain ⟨rfl, rfl, rfl⟩ := e
  rw [if_pos ⟨rfl, rfl, rfl⟩]
  exact ⟨Maps.has_put_same hown.isMap (lawHalt.key hkey) _, Maps.atKey_put_same hown.isMap (lawHalt.key hkey) _ _⟩
 ·have hne : wk p' f' t' ≠ wk p f t := fun h => e (wk_inj hp' hf' ht' hp hf ht h)
  rw [if_neg e, Maps.has_put_other hne, Maps.atKey_put_other hne]
  exact hD p' f' t' hp' hf' ht'
theorem Hm.look (h : Hm w b n g) {p f t : Int} (hp : I64 p) (hf : I64 f) (ht : I64 t) :
  (Instr.lookup 120 (.map (some b)) (.agg #[.int .i64 p, .int .i64 f, .int .i64 t]) true).run Tryd.prog w = .ok (.tuple #[chV ((g p f t).getD ch0), .bool (g p f t).isSome]) w := by
 obtain ⟨D, hown, hD⟩ := h
 obtain ⟨h1, h2⟩ := hD p f t hp hf ht
 obtain ⟨v, ps, hrun, hv⟩ := hown.look_ok lawHalt Tryd.underlying120 (zeroCh w) (show chR (chV ch0) = some (chD ch0, []) from rfl) (haltKey hp hf ht)
 rw [h2] at hv
 rw [hrun, h1, chR_inv hv]
end
section
variable {P : Program} {n : Nat} {g : Nat → Value} {l : List (Nat × Value)} {w : World} {o : Oper}
theorem ex_lookup {t : TypeId} {x y : Operand} (ho : o.op = .lookup t x y true) {m k v : Value} (hx : ev n g l x = m) (hy : ev n g l y = k) (hr : (Instr.lookup t m k true).run P w = .ok v w) : (execOp (ev n g l) o).run P w = .ok (.value v) w := by
 unfold execOp
 simp only [ho, hx, hy, hr, Sem.run_bind, Sem.run_pure, Result.andThen_ok]
theorem ex_update {t : TypeId} {x y z : Operand} (ho : o.op = .mapUpdate t x y z) {m k v : Value} {w' : World} (hx : ev n g l x = m) (hy : ev n g l y = k) (hz : ev n g l z = v) (hr : (Instr.mapUpdate t m k v).run P w = .ok () w') : (execOp (ev n g l) o).run P w = .ok .skip w' := by
 unfold execOp
 simp only [ho, hx, hy, hz, hr, Sem.run_bind, Sem.run_pure, Result.andThen_ok]
theorem ex_makeMap {t : TypeId} (ho : o.op = .makeMap t none) : (execOp (ev n g l) o).run P w = .ok (.value (.map (some w.heap.size))) (w.alloc (.map #[] 0)) := by
 unfold execOp
 simp only [ho]
 rfl
theorem add_addr (b q j : Nat) : (⟨b, q, none⟩ : Addr).add j = ⟨b, q + j, none⟩ := by
 unfold Addr.add
 split
 ·rename_i h7; subst h7; rfl
 ·rfl
theorem run_sliceM {t e : TypeId} {b q m c i j s : Nat} (hu : P.underlying t = some (.slice e)) (hs : (P.info? e).map (·.size) = some s) (hi : i ≤ j) (hj : j ≤ c) (hc : i < c) :
  (Instr.sliceAt t (.slice (some ⟨b, q, none⟩) m c) (some (.int .i64 (i : Int))) (some (.int .i64 (j : Int))) none).run P w = .ok (.slice (some ⟨b, q + i * s, none⟩) (j - i) (c - i)) w := by
 have h2 : (sizeOf e).run P w = .ok s w := by
  cases hi : P.info? e with
  | none => rw [hi] at hs; cases hs
  | some i => rw [hi] at hs; simp only [Option.map_some, Option.some.injEq] at hs; simp [sizeOf, typeInfo, hi, hs]
 unfold Instr.sliceAt Instr.slice Instr.sliceBounds Instr.sliceBound
 simp [asIntOf, Sem.run_bind, Sem.run_pure, Result.andThen_ok, run_underlying hu w, h2, Int.toNat_natCast]
 rw [if_pos hj, if_pos hi, if_neg (by omega), add_addr]
theorem ex_sliceM {ty : TypeId} {x y z : Operand} (ho : o.op = .slice ty x (some y) (some z) none) {b q m c i j s : Nat} (hx : ev n g l x = .slice (some ⟨b, q, none⟩) m c) (hy : ev n g l y = .int .i64 (i : Int)) (hz : ev n g l z = .int .i64 (j : Int)) (hi : i ≤ j) (hj : j ≤ c) (hc : i < c) {e : TypeId}
  (hu : P.underlying ty = some (.slice e)) (hs : (P.info? e).map (·.size) = some s) : (execOp (ev n g l) o).run P w = .ok (.value (.slice (some ⟨b, q + i * s, none⟩) (j - i) (c - i))) w := by
 unfold execOp
 simp only [ho, hx, hy, hz, Option.map_some, Option.map_none, run_sliceM hu hs hi hj hc, Sem.run_bind, Sem.run_pure, Result.andThen_ok]
end
end Go.Proofs.YtomebalolmabnaaDoor.T



/-! The walks of drive: the finder: next, rests (by gen_dg.py). -/
namespace Go.Proofs.YtomebalolmabnaaDoor.T
open Go.RowKit
set_option maxRecDepth 8000
attribute [local irreducible] wpList Code.wp wpAnyH

structure Fst (w : World) (c : CrT) (K : CV) (q qf mb : Nat) (F : List Bool) (oF : Option Addr) (cF b9 q9 : Nat) : Prop where
 crw : Crw w c K q
 fx : Rw w b9 q9 1 (bF F) F.length oF
 blk : Cb w qf #[.pointer (some ⟨q, 0, none⟩), .slice oF F.length cF, .map (some mb)] 122
 cap : F.length ≤ cF
 ne : b9 ≠ mb
theorem Fst.below {w w' : World} {c : CrT} {K : CV} {q qf mb : Nat} {F : List Bool} {oF : Option Addr} {cF b9 q9 : Nat} (h : Fst w c K q qf mb F oF cF b9 q9) (k : Below w.heap.size w w') : Fst w' c K q qf mb F oF cF b9 q9 := ⟨h.crw.below k, h.fx.below k, h.blk.below k, h.cap, h.ne⟩
def CrT.opts (F : List Bool) (k : Nat) : List Bool := if k < F.length then [F.getD k false] else [false, true]
theorem fnext_n (c : CrT) (hc : c.Ok) (K : CV) (q qf mb : Nat) (F : List Bool) (oF : Option Addr) (cF b9 q9 : Nat) (w : World) (hF : Fst w c K q qf mb F oF cF b9 q9) (k : Nat) (hk : k < c.n) (don sin : Int) (hd : 0 ≤ don ∧ don ≤ 8192) (hs : 0 ≤ sin ∧ sin ≤ 4096) (r : Bool) : Calls Tryd.prog 52 #[.pointer (some ⟨qf, 0, none⟩), .agg #[.int .i64 ((k : Nat) : Int), .int .i64 don, .int .i64 sin], .bool r] w fun e w' => e = .returned (.tuple #[.agg #[.int .i64 ((k + 1 : Nat) : Int), .int .i64 (c.legA k don sin r).don, .int .i64 (c.legA k don sin r).sin], .bool (decide (c.err k don sin r = 0))]) ∧ Below w.heap.size w w' := by
 have HB : Below w.heap.size w w := Below.refl _ _
 have hkn : c.n ≤ 21 := by have := hc.len; unfold CrT.n; omega
 have hFb := hF.blk
 have yhFb := hFb.lt
 have hFx := hF.fx
 refine sx_enter Tryd.func52 rfl [(0, .pointer (some ⟨qf, 0, none⟩)), (1, .agg #[.int .i64 ((k : Nat) : Int), .int .i64 don, .int .i64 sin]), (2, .bool r)] (by kernel_rfl) ?_
 refine wp_seq (wp_region_lit ?_)
 obtain ⟨W1, hW, hb, hq⟩ := laidA w #[.int .i64 ((k : Nat) : Int), .int .i64 don, .int .i64 sin] 124
 refine sx_mem (by kernel_rfl) rfl rfl (.pointer (some ⟨w.heap.size, 0, none⟩)) W1 (by rw [← hW]; kernel_rfl) ?_
 replace HB := over HB hb
 replace hFb := hFb.below hb
 have z1 := hb.size
 have M2 := hq
 have yM2 := hq.lt
 clear hq hb hW
 obtain ⟨W3, hW, hb, hq⟩ := laidA W1 #[.int .i64 0, .int .i64 0, .int .i64 0] 124
 refine sx_mem (by kernel_rfl) rfl rfl (.pointer (some ⟨W1.heap.size, 0, none⟩)) W3 (by rw [← hW]; kernel_rfl) ?_
 replace HB := over HB hb
 replace hFb := hFb.below hb
 replace M2 := M2.below hb
 have z2 := hb.size
 have M4 := hq
 have yM4 := hq.lt
 clear hq hb hW
 refine Zv rfl (.bool false) ?_
 refine wpList_nil (sx_norm (wp_seq ?_))
 obtain ⟨Y5, hW⟩ : ∃ W, W3.drew = W := ⟨_, rfl⟩
 have hb : Below W3.heap.size W3 Y5 := hW ▸ below_drew (Below.refl _ _)
 replace HB := over HB hb
 replace hFb := hFb.below hb
 replace M2 := M2.below hb
 replace M4 := M4.below hb
 have z3 := hb.size
 clear hb
 refine sd_begin (fun W => Cb W (qf) #[.pointer (some ⟨q, 0, none⟩), .slice oF F.length cF, (.map (some mb))] 122 ∧ Cb W (w.heap.size) #[.int .i64 ((k : Nat) : Int), .int .i64 don, .int .i64 sin] 124 ∧ Cb W (W1.heap.size) #[.int .i64 0, .int .i64 0, .int .i64 0] 124 ∧ True) (by kernel_rfl) (by rw [hW]; exact ⟨hFb, M2, M4, trivial⟩) ?_
 rw [hW]
 clear hW
 refine Zu 0 rfl rfl (.pointer (some ⟨qf, 0, none⟩)) ⟨hFb, M2, M4, trivial⟩ ?_
 refine Zu 1 rfl rfl (.pointer (some ⟨qf, 0, none⟩)) ⟨hFb, M2, M4, trivial⟩ ?_
 refine Zu 2 rfl rfl (.pointer (some ⟨qf, 0, none⟩)) ⟨hFb, M2, M4, trivial⟩ ?_
 refine Zt 3 rfl rfl (.pointer (some ⟨q, 0, none⟩)) (fun w9 h9 => el (h9.1.cell 0 rfl) Tryd.underlying69) ⟨hFb, M2, M4, trivial⟩ ?_
 refine Zu 4 rfl rfl (.pointer (some ⟨w.heap.size, 0, none⟩)) ⟨hFb, M2, M4, trivial⟩ ?_
 refine Zt 5 rfl rfl (.int .i64 ((k : Nat) : Int)) (fun w9 h9 => el (h9.2.1.cell 0 rfl) Tryd.underlying3) ⟨hFb, M2, M4, trivial⟩ ?_
 refine Zu 6 rfl rfl (.pointer (some ⟨w.heap.size, 1, none⟩)) ⟨hFb, M2, M4, trivial⟩ ?_
 refine Zt 7 rfl rfl (.int .i64 don) (fun w9 h9 => el (h9.2.1.cell 1 rfl) Tryd.underlying3) ⟨hFb, M2, M4, trivial⟩ ?_
 refine Zu 8 rfl rfl (.pointer (some ⟨w.heap.size, 2, none⟩)) ⟨hFb, M2, M4, trivial⟩ ?_
 refine Zt 9 rfl rfl (.int .i64 sin) (fun w9 h9 => el (h9.2.1.cell 2 rfl) Tryd.underlying3) ⟨hFb, M2, M4, trivial⟩ ?_
 refine Zu 10 rfl rfl (.bool r) ⟨hFb, M2, M4, trivial⟩ ?_
 refine sd_all [11, 15] (by kernel_rfl) (by decide) ?_
 refine sd_call (i := 11) rfl (by kernel_rfl) rfl rfl (next_n c hc K q Y5 (hF.crw.below HB) k hk don sin hd hs r) (by kernel_rfl) ?_ ?_
 ·rintro e W6 ⟨rfl, hb⟩
  replace HB := over HB hb
  replace hFb := hFb.below hb
  replace M2 := M2.below hb
  replace M4 := M4.below hb
  have z4 := hb.size
  clear hb
  refine ⟨_, rfl, ⟨hFb, M2, M4, trivial⟩, ?_⟩
  refine Zu 12 rfl rfl (.tuple #[.agg #[.int .i64 ((c.legA k don sin r).dep), .int .i64 ((c.legA k don sin r).arr), .int .i64 ((c.legA k don sin r).beg), .int .i64 ((c.legA k don sin r).don), .int .i64 ((c.legA k don sin r).sin), .int .i64 ((c.legA k don sin r).mil)], .int .i64 (c.err k don sin r)]) ⟨hFb, M2, M4, trivial⟩ ?_
  refine Zu 13 rfl rfl (.agg #[.int .i64 ((c.legA k don sin r).dep), .int .i64 ((c.legA k don sin r).arr), .int .i64 ((c.legA k don sin r).beg), .int .i64 ((c.legA k don sin r).don), .int .i64 ((c.legA k don sin r).sin), .int .i64 ((c.legA k don sin r).mil)]) ⟨hFb, M2, M4, trivial⟩ ?_
  refine Zu 14 rfl rfl (.int .i64 (c.err k don sin r)) ⟨hFb, M2, M4, trivial⟩ ?_
  refine sd_all [15] (by kernel_rfl) (by decide) ?_
  refine sd_mem (i := 15) rfl (by kernel_rfl) rfl rfl (.pointer (some ⟨W6.heap.size, 0, none⟩)) (W6.alloc (.cells #[.int .i64 0, .int .i64 0, .int .i64 0, .int .i64 0, .int .i64 0, .int .i64 0] 112)) (by kernel_rfl) ⟨(hFb.below (below_alloc W6 (.cells #[.int .i64 0, .int .i64 0, .int .i64 0, .int .i64 0, .int .i64 0, .int .i64 0] 112))), (M2.below (below_alloc W6 (.cells #[.int .i64 0, .int .i64 0, .int .i64 0, .int .i64 0, .int .i64 0, .int .i64 0] 112))), (M4.below (below_alloc W6 (.cells #[.int .i64 0, .int .i64 0, .int .i64 0, .int .i64 0, .int .i64 0, .int .i64 0] 112))), trivial⟩ ?_ AllReadyH.nil
  obtain ⟨W7, hW, hb, hq⟩ := laidA W6 #[.int .i64 0, .int .i64 0, .int .i64 0, .int .i64 0, .int .i64 0, .int .i64 0] 112
  rw [hW]
  replace HB := over HB hb
  replace hFb := hFb.below hb
  replace M2 := M2.below hb
  replace M4 := M4.below hb
  have z5 := hb.size
  have M8 := hq
  have yM8 := hq.lt
  clear hq hb hW
  refine sd_all [16] (by kernel_rfl) (by decide) ?_
  refine sd_do (i := 16) rfl (by kernel_rfl) rfl (W7.setRow (W6.heap.size) #[.int .i64 ((c.legA k don sin r).dep), .int .i64 ((c.legA k don sin r).arr), .int .i64 ((c.legA k don sin r).beg), .int .i64 ((c.legA k don sin r).don), .int .i64 ((c.legA k don sin r).sin), .int .i64 ((c.legA k don sin r).mil)]) (ex_store (cells := #[.int .i64 ((c.legA k don sin r).dep), .int .i64 ((c.legA k don sin r).arr), .int .i64 ((c.legA k don sin r).beg), .int .i64 ((c.legA k don sin r).don), .int .i64 ((c.legA k don sin r).sin), .int .i64 ((c.legA k don sin r).mil)]) rfl M8 (by kernel_rfl) (by kernel_rfl) (by kernel_rfl) (by kernel_rfl) (by kernel_rfl)) ⟨(hFb.kept (grown_row _ _ _) (by omega)), (M2.kept (grown_row _ _ _) (by omega)), (M4.kept (grown_row _ _ _) (by omega)), trivial⟩ ?_ AllReadyH.nil
  obtain ⟨W9, hW⟩ : ∃ W, W7.setRow (W6.heap.size) #[.int .i64 ((c.legA k don sin r).dep), .int .i64 ((c.legA k don sin r).arr), .int .i64 ((c.legA k don sin r).beg), .int .i64 ((c.legA k don sin r).don), .int .i64 ((c.legA k don sin r).sin), .int .i64 ((c.legA k don sin r).mil)] = W := ⟨_, rfl⟩
  have hg : W7.grownBy W9 (some (W6.heap.size)) := hW ▸ grown_row _ _ _
  have hq : Cb W9 (W6.heap.size) #[.int .i64 ((c.legA k don sin r).dep), .int .i64 ((c.legA k don sin r).arr), .int .i64 ((c.legA k don sin r).beg), .int .i64 ((c.legA k don sin r).don), .int .i64 ((c.legA k don sin r).sin), .int .i64 ((c.legA k don sin r).mil)] 112 := hW ▸ Cb.row M8 _
  rw [hW]
  replace HB := HB.grown hg (by omega) (fun x e => by simp only [Option.some.injEq] at e; omega)
  replace hFb := hFb.kept hg (by omega)
  replace M2 := M2.kept hg (by omega)
  replace M4 := M4.kept hg (by omega)
  have z6 := hg.size
  replace M8 := hq
  clear hq hg hW
  refine Zu 17 rfl rfl (.int .i64 (c.err k don sin r)) ⟨hFb, M2, M4, trivial⟩ ?_
  refine sd_done (by kernel_rfl) ?_
  refine sx_norm (wp_seq (wp_region_lit ?_))
  refine Zv rfl (.pointer (some ⟨w.heap.size, 0, none⟩)) ?_
  refine Zw rfl (.int .i64 ((k : Nat) : Int)) (el (M2.cell 0 rfl) Tryd.underlying3) ?_
  refine sx_int (by kernel_rfl) rfl rfl .i64 (IntKind.i64.wrap (((k : Nat) : Int) + 1)) (((k + 1 : Nat) : Int)) (by kernel_rfl) (by rw [IntKind.wrap_i64]; omega) ?_
  refine Zv rfl (.pointer (some ⟨W6.heap.size, 3, none⟩)) ?_
  refine Zw rfl (.int .i64 ((c.legA k don sin r).don)) (el (M8.cell 3 rfl) Tryd.underlying3) ?_
  refine Zv rfl (.pointer (some ⟨W6.heap.size, 4, none⟩)) ?_
  refine Zw rfl (.int .i64 ((c.legA k don sin r).sin)) (el (M8.cell 4 rfl) Tryd.underlying3) ?_
  refine Zv rfl (.agg #[.int .i64 ((k + 1 : Nat) : Int), .int .i64 ((c.legA k don sin r).don), .int .i64 ((c.legA k don sin r).sin)]) ?_
  refine Zv rfl (.int .i64 (c.err k don sin r)) ?_
  refine Zv rfl (.bool (((c.err k don sin r) : Int) == (0 : Int))) ?_
  refine Zr (cells := #[.int .i64 ((k + 1 : Nat) : Int), .int .i64 ((c.legA k don sin r).don), .int .i64 ((c.legA k don sin r).sin)]) rfl rfl M4 (fun W10 hg hq => ?_)
  replace HB := HB.grown hg (by omega) (fun x e => by simp only [Option.some.injEq] at e; omega)
  replace hFb := hFb.kept hg (by omega)
  replace M2 := M2.kept hg (by omega)
  replace M8 := M8.kept hg (by omega)
  have z7 := hg.size
  replace M4 := hq
  clear hq hg
  refine Zv rfl (.bool (((c.err k don sin r) : Int) == (0 : Int))) ?_
  refine wpList_nil (sx_norm (wp_ret ?_))
  have e9 : ((c.err k don sin r : Int) == 0) = decide (c.err k don sin r = 0) := by rw [Bool.eq_iff_iff, beq_iff_eq, decide_eq_true_iff]
  exact sx_retct (v' := .bool (((c.err k don sin r) : Int) == (0 : Int))) M4 rfl rfl rfl (by kernel_rfl) (by kernel_rfl) Tryd.underlying124 rfl (by kernel_rfl) ⟨by rw [← e9], HB⟩
 refine sd_mem (i := 15) rfl (by kernel_rfl) rfl rfl (.pointer (some ⟨Y5.heap.size, 0, none⟩)) (Y5.alloc (.cells #[.int .i64 0, .int .i64 0, .int .i64 0, .int .i64 0, .int .i64 0, .int .i64 0] 112)) (by kernel_rfl) ⟨(hFb.below (below_alloc Y5 (.cells #[.int .i64 0, .int .i64 0, .int .i64 0, .int .i64 0, .int .i64 0, .int .i64 0] 112))), (M2.below (below_alloc Y5 (.cells #[.int .i64 0, .int .i64 0, .int .i64 0, .int .i64 0, .int .i64 0, .int .i64 0] 112))), (M4.below (below_alloc Y5 (.cells #[.int .i64 0, .int .i64 0, .int .i64 0, .int .i64 0, .int .i64 0, .int .i64 0] 112))), trivial⟩ ?_ AllReadyH.nil
 obtain ⟨W11, hW, hb, hq⟩ := laidA Y5 #[.int .i64 0, .int .i64 0, .int .i64 0, .int .i64 0, .int .i64 0, .int .i64 0] 112
 rw [hW]
 replace HB := over HB hb
 replace hFb := hFb.below hb
 replace M2 := M2.below hb
 replace M4 := M4.below hb
 have z4 := hb.size
 have M12 := hq
 have yM12 := hq.lt
 clear hq hb hW
 refine sd_all [11] (by kernel_rfl) (by decide) ?_
 refine sd_call (i := 11) rfl (by kernel_rfl) rfl rfl (next_n c hc K q W11 (hF.crw.below HB) k hk don sin hd hs r) (by kernel_rfl) ?_ AllReadyH.nil
 rintro e W13 ⟨rfl, hb⟩
 replace HB := over HB hb
 replace hFb := hFb.below hb
 replace M2 := M2.below hb
 replace M4 := M4.below hb
 replace M12 := M12.below hb
 have z5 := hb.size
 clear hb
 refine ⟨_, rfl, ⟨hFb, M2, M4, trivial⟩, ?_⟩
 refine Zu 12 rfl rfl (.tuple #[.agg #[.int .i64 ((c.legA k don sin r).dep), .int .i64 ((c.legA k don sin r).arr), .int .i64 ((c.legA k don sin r).beg), .int .i64 ((c.legA k don sin r).don), .int .i64 ((c.legA k don sin r).sin), .int .i64 ((c.legA k don sin r).mil)], .int .i64 (c.err k don sin r)]) ⟨hFb, M2, M4, trivial⟩ ?_
 refine Zu 13 rfl rfl (.agg #[.int .i64 ((c.legA k don sin r).dep), .int .i64 ((c.legA k don sin r).arr), .int .i64 ((c.legA k don sin r).beg), .int .i64 ((c.legA k don sin r).don), .int .i64 ((c.legA k don sin r).sin), .int .i64 ((c.legA k don sin r).mil)]) ⟨hFb, M2, M4, trivial⟩ ?_
 refine Zu 14 rfl rfl (.int .i64 (c.err k don sin r)) ⟨hFb, M2, M4, trivial⟩ ?_
 refine sd_all [16] (by kernel_rfl) (by decide) ?_
 refine sd_do (i := 16) rfl (by kernel_rfl) rfl (W13.setRow (Y5.heap.size) #[.int .i64 ((c.legA k don sin r).dep), .int .i64 ((c.legA k don sin r).arr), .int .i64 ((c.legA k don sin r).beg), .int .i64 ((c.legA k don sin r).don), .int .i64 ((c.legA k don sin r).sin), .int .i64 ((c.legA k don sin r).mil)]) (ex_store (cells := #[.int .i64 ((c.legA k don sin r).dep), .int .i64 ((c.legA k don sin r).arr), .int .i64 ((c.legA k don sin r).beg), .int .i64 ((c.legA k don sin r).don), .int .i64 ((c.legA k don sin r).sin), .int .i64 ((c.legA k don sin r).mil)]) rfl M12 (by kernel_rfl) (by kernel_rfl) (by kernel_rfl) (by kernel_rfl) (by kernel_rfl)) ⟨(hFb.kept (grown_row _ _ _) (by omega)), (M2.kept (grown_row _ _ _) (by omega)), (M4.kept (grown_row _ _ _) (by omega)), trivial⟩ ?_ AllReadyH.nil
 obtain ⟨W14, hW⟩ : ∃ W, W13.setRow (Y5.heap.size) #[.int .i64 ((c.legA k don sin r).dep), .int .i64 ((c.legA k don sin r).arr), .int .i64 ((c.legA k don sin r).beg), .int .i64 ((c.legA k don sin r).don), .int .i64 ((c.legA k don sin r).sin), .int .i64 ((c.legA k don sin r).mil)] = W := ⟨_, rfl⟩
 have hg : W13.grownBy W14 (some (Y5.heap.size)) := hW ▸ grown_row _ _ _
 have hq : Cb W14 (Y5.heap.size) #[.int .i64 ((c.legA k don sin r).dep), .int .i64 ((c.legA k don sin r).arr), .int .i64 ((c.legA k don sin r).beg), .int .i64 ((c.legA k don sin r).don), .int .i64 ((c.legA k don sin r).sin), .int .i64 ((c.legA k don sin r).mil)] 112 := hW ▸ Cb.row M12 _
 rw [hW]
 replace HB := HB.grown hg (by omega) (fun x e => by simp only [Option.some.injEq] at e; omega)
 replace hFb := hFb.kept hg (by omega)
 replace M2 := M2.kept hg (by omega)
 replace M4 := M4.kept hg (by omega)
 have z6 := hg.size
 replace M12 := hq
 clear hq hg hW
 refine Zu 17 rfl rfl (.int .i64 (c.err k don sin r)) ⟨hFb, M2, M4, trivial⟩ ?_
 refine sd_done (by kernel_rfl) ?_
 refine sx_norm (wp_seq (wp_region_lit ?_))
 refine Zv rfl (.pointer (some ⟨w.heap.size, 0, none⟩)) ?_
 refine Zw rfl (.int .i64 ((k : Nat) : Int)) (el (M2.cell 0 rfl) Tryd.underlying3) ?_
 refine sx_int (by kernel_rfl) rfl rfl .i64 (IntKind.i64.wrap (((k : Nat) : Int) + 1)) (((k + 1 : Nat) : Int)) (by kernel_rfl) (by rw [IntKind.wrap_i64]; omega) ?_
 refine Zv rfl (.pointer (some ⟨Y5.heap.size, 3, none⟩)) ?_
 refine Zw rfl (.int .i64 ((c.legA k don sin r).don)) (el (M12.cell 3 rfl) Tryd.underlying3) ?_
 refine Zv rfl (.pointer (some ⟨Y5.heap.size, 4, none⟩)) ?_
 refine Zw rfl (.int .i64 ((c.legA k don sin r).sin)) (el (M12.cell 4 rfl) Tryd.underlying3) ?_
 refine Zv rfl (.agg #[.int .i64 ((k + 1 : Nat) : Int), .int .i64 ((c.legA k don sin r).don), .int .i64 ((c.legA k don sin r).sin)]) ?_
 refine Zv rfl (.int .i64 (c.err k don sin r)) ?_
 refine Zv rfl (.bool (((c.err k don sin r) : Int) == (0 : Int))) ?_
 refine Zr (cells := #[.int .i64 ((k + 1 : Nat) : Int), .int .i64 ((c.legA k don sin r).don), .int .i64 ((c.legA k don sin r).sin)]) rfl rfl M4 (fun W15 hg hq => ?_)
 replace HB := HB.grown hg (by omega) (fun x e => by simp only [Option.some.injEq] at e; omega)
 replace hFb := hFb.kept hg (by omega)
 replace M2 := M2.kept hg (by omega)
 replace M12 := M12.kept hg (by omega)
 have z7 := hg.size
 replace M4 := hq
 clear hq hg
 refine Zv rfl (.bool (((c.err k don sin r) : Int) == (0 : Int))) ?_
 refine wpList_nil (sx_norm (wp_ret ?_))
 have e9 : ((c.err k don sin r : Int) == 0) = decide (c.err k don sin r = 0) := by rw [Bool.eq_iff_iff, beq_iff_eq, decide_eq_true_iff]
 exact sx_retct (v' := .bool (((c.err k don sin r) : Int) == (0 : Int))) M4 rfl rfl rfl (by kernel_rfl) (by kernel_rfl) Tryd.underlying124 rfl (by kernel_rfl) ⟨by rw [← e9], HB⟩
theorem rw_two {w : World} {q : Nat} (h : Cb w q #[.bool false, .bool true] 4) : Rw w q 0 1 (bF [false, true]) [false, true].length (some ⟨q, 0, none⟩) := fun k hk => ⟨rfl, h.lt, fun j v hj => by
 match k, j, hk, hj with
 | 0, 0, _, hj => simp [bF] at hj; subst hj; exact h.cell 0 rfl
 | 1, 0, _, hj => simp [bF] at hj; subst hj; exact h.cell 1 rfl
 | 0, j + 1, _, hj => simp [bF] at hj
 | 1, j + 1, _, hj => simp [bF] at hj⟩
theorem frests_n (c : CrT) (K : CV) (q qf mb : Nat) (F : List Bool) (oF : Option Addr) (cF b9 q9 : Nat) (w : World) (hF : Fst w c K q qf mb F oF cF b9 q9) (hmb : mb < w.heap.size) (k : Nat) (hk : k ≤ 100) : Calls Tryd.prog 72 #[.pointer (some ⟨qf, 0, none⟩), .int .i64 ((k : Nat) : Int)] w fun e w' => ∃ oa ca b o, e = .returned (.slice oa (CrT.opts F k).length ca) ∧ Rw w' b o 1 (bF (CrT.opts F k)) (CrT.opts F k).length oa ∧ b ≠ mb ∧ ((k < F.length ∧ b = b9) ∨ w.heap.size ≤ b) ∧ Below w.heap.size w w' := by
 have HB : Below w.heap.size w w := Below.refl _ _
 have hFb := hF.blk
 have yhFb := hFb.lt
 have hFx := hF.fx
 refine sx_enter Tryd.func72 rfl [(0, .pointer (some ⟨qf, 0, none⟩)), (1, .int .i64 ((k : Nat) : Int))] (by kernel_rfl) ?_
 refine wp_seq (wp_region_lit ?_)
 refine Zv rfl (.slice none 0 0) ?_
 refine wpList_nil (sx_norm (wp_seq (wp_seq (wp_region_lit ?_))))
 refine Zv rfl (.int .i64 ((k : Nat) : Int)) ?_
 refine Zv rfl (.pointer (some ⟨qf, 0, none⟩)) ?_
 refine Zv rfl (.pointer (some ⟨qf, 0, none⟩)) ?_
 refine Zv rfl (.pointer (some ⟨qf, 1, none⟩)) ?_
 refine Zw rfl (.slice oF F.length cF) (el (hFb.cell 1 rfl) Tryd.underlying31) ?_
 refine Zv rfl (.int .i64 ((F.length : Nat) : Int)) ?_
 by_cases C1 : k < F.length
 ·refine Zb rfl (decide (((k : Nat) : Int) < ((F.length : Nat) : Int))) true (decide_eq_true (by omega)) ?_
  refine wpList_nil (sx_norm ?_)
  refine sx_true (by kernel_rfl) ?_
  refine wp_seq (wp_region_lit ?_)
  refine Zv rfl (.pointer (some ⟨qf, 0, none⟩)) ?_
  refine Zv rfl (.pointer (some ⟨qf, 0, none⟩)) ?_
  refine Zv rfl (.pointer (some ⟨qf, 1, none⟩)) ?_
  refine Zw rfl (.slice oF F.length cF) (el (hFb.cell 1 rfl) Tryd.underlying31) ?_
  refine Zv rfl (.int .i64 ((k : Nat) : Int)) ?_
  refine Zv rfl (.int .i64 ((k : Nat) : Int)) ?_
  refine sx_int (by kernel_rfl) rfl rfl .i64 (IntKind.i64.wrap (((k : Nat) : Int) + 1)) (((k + 1 : Nat) : Int)) (by kernel_rfl) (by rw [IntKind.wrap_i64]; omega) ?_
  have hoF := hFx.oa (k := k) (by omega)
  subst hoF
  have hcp := hF.cap
  refine Zw rfl (.slice (some ⟨b9, q9 + k * 1, none⟩) (k + 1 - k) (cF - k)) (ex_sliceM (b := b9) (q := q9) (m := F.length) (c := cF) (i := k) (j := k + 1) (s := 1) rfl (by kernel_rfl) (by kernel_rfl) (by kernel_rfl) (by omega) (by omega) (by omega) Tryd.underlying31 (by kernel_rfl)) ?_
  refine Zv rfl (.slice (some ⟨b9, q9 + k * 1, none⟩) (k + 1 - k) (cF - k)) ?_
  refine wpList_nil (sx_norm (wp_ret (sx_rs ?_)))
  refine sx_ret1 (.slice (some ⟨b9, q9 + k * 1, none⟩) (k + 1 - k) (cF - k)) rfl rfl (by kernel_rfl) ⟨some ⟨b9, q9 + k * 1, none⟩, cF - k, b9, q9 + k * 1, ?_, ?_, hF.ne, .inl ⟨by omega, rfl⟩, HB⟩
  ·unfold CrT.opts; rw [if_pos (by omega), show k + 1 - k = 1 by omega]; rfl
  ·unfold CrT.opts; rw [if_pos (by omega)]
   intro i hi
   have hi0 : i = 0 := by simpa using hi
   subst hi0
   refine ⟨rfl, (hFx.below HB).lt (k := k) (by omega), fun j v hj => ?_⟩
   have h9 := (hFx.below HB).cell (k := k) (by omega) j (v := v) (by simpa [bF] using hj)
   simpa using h9
 refine Zb rfl (decide (((k : Nat) : Int) < ((F.length : Nat) : Int))) false (decide_eq_false (by omega)) ?_
 refine wpList_nil (sx_norm ?_)
 refine sx_false (by kernel_rfl) ?_
 refine wp_skip (sx_norm (wp_seq (wp_region_lit ?_)))
 obtain ⟨W1, hW, hb, hq⟩ := laidA w #[.bool false, .bool true] 4
 refine sx_mem (by kernel_rfl) rfl rfl (.slice (some ⟨w.heap.size, 0, none⟩) 2 2) W1 (by rw [← hW]; kernel_rfl) ?_
 replace HB := over HB hb
 replace hFb := hFb.below hb
 have z1 := hb.size
 have M2 := hq
 have yM2 := hq.lt
 clear hq hb hW
 refine Zv rfl (.slice (some ⟨w.heap.size, 0, none⟩) 2 2) ?_
 refine wpList_nil (sx_norm (wp_ret ?_))
 refine sx_ret1 (.slice (some ⟨w.heap.size, 0, none⟩) 2 2) rfl rfl (by kernel_rfl) ⟨some ⟨w.heap.size, 0, none⟩, 2, w.heap.size, 0, ?_, ?_, by omega, .inr (Nat.le_refl _), HB⟩
 ·unfold CrT.opts; rw [if_neg (by omega)]; rfl
 ·unfold CrT.opts; rw [if_neg (by omega)]
  exact rw_two M2

end Go.Proofs.YtomebalolmabnaaDoor.T



