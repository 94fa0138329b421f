/-
  DERIVED. GF: a part of the base of layer 13 (made by pack.py).
-/
import Derived.Test.YtnapmildbodigaaDoorDd
import Derived.Test.YtnapmildbodigaaDoorDe
import Derived.Laws.MakeOwn
import Derived.Test.YtnapmildbodigaaDoorGA
/-! The walk of drive.Run (by gen_df.py). -/
namespace Go.Proofs.YtnapmildbodigaaDoor.T
open Go.RowKit
set_option maxRecDepth 8000
attribute [local irreducible] wpList Code.wp wpAnyH

/-- what Run answers -/
def runE (x : InT) (ty st : Int) (l : List (Int × Bool)) (R : List Bool) : Int := if posD x.tl x.ol ty st l = true ∧ R.length = l.length + 1 then (crs x ty st l).run R (l.length + 1) else 2
def runS (x : InT) (ty st : Int) (l : List (Int × Bool)) (R : List Bool) : ShT := if runE x ty st l R = 0 then (crs x ty st l).sheet R else sh0
theorem crs_n (x : InT) (ty st : Int) (l : List (Int × Bool)) : (crs x ty st l).n = l.length + 1 := by
  show (crsS _ _ _).length - 1 = _
  rw [crsS_len]
  omega
theorem runE_no {x : InT} {ty st : Int} {l : List (Int × Bool)} {R : List Bool} (h : posD x.tl x.ol ty st l = false ∨ R.length ≠ l.length + 1) : runE x ty st l R = 2 ∧ runS x ty st l R = sh0 := by
  have e : runE x ty st l R = 2 := by
    unfold runE
    rw [if_neg]
    rintro ⟨h1, h2⟩
    rcases h with h | h
    · rw [h] at h1; cases h1
    · exact h h2
  exact ⟨e, by unfold runS; rw [e, if_neg (by decide)]⟩
theorem runE_yes {x : InT} {ty st : Int} {l : List (Int × Bool)} {R : List Bool} (h1 : posD x.tl x.ol ty st l = true) (h2 : R.length = l.length + 1) : runE x ty st l R = (crs x ty st l).run R (crs x ty st l).n := by
  unfold runE
  rw [if_pos ⟨h1, h2⟩, crs_n]
theorem rw_sh0 (w : World) : Rw w 0 0 4 (fun k => tmE (sh0.T.getD k tm0)) sh0.T.length none := fun i hi => absurd hi (Nat.not_lt_zero i)
/-- a schedule is returned -/
def ShP (S : ShT) (e : Int) (w : World) (E : Ending) (w' : World) : Prop := ∃ o9 c9 b9 q9, E = .returned (.tuple #[.agg (shC S o9 c9), .int .i64 e]) ∧ Rw w' b9 q9 4 (fun k => tmE (S.T.getD k tm0)) S.T.length o9 ∧ (∀ i, i < S.T.length → w.heap.size ≤ b9) ∧ Below w.heap.size w w'
theorem run_yes (c : CrT) (hc : c.Ok) (K : CV) (q : Nat) (w : World) (hK : Crw w c K q) (R : List Bool) (hRl : R.length = c.n) (oa : Option Addr) (ca b o : Nat) (hR : Rw w b o 1 (bF R) R.length oa) (h0 : c.run R c.n = 0) : Calls Tryd.prog 25 #[.pointer (some ⟨q, 0, none⟩), .slice oa R.length ca] w fun e w' => ∃ ol cl bl ql, e = .returned (.tuple #[.slice ol c.n cl, .int .i64 0]) ∧ Rw w' bl ql 6 (fun k => legE (c.lg R k)) c.n ol ∧ Below w.heap.size w w' :=
  (run_n c hc K q w hK R hRl oa ca b o hR).mono fun e W' ⟨ol, cl, bl, ql, he, hr, hb⟩ => by
    have eA : c.legsA R = c.legs R c.n := if_pos h0
    rw [eA, CrT.legs_len] at he hr
    exact ⟨ol, cl, bl, ql, by rw [he, h0], hr.ext (fun i hi => by show legE ((c.legs R c.n).getD i leg0) = legE (c.lg R i); rw [CrT.legs_at _ _ hi]), hb⟩
theorem run_no (c : CrT) (hc : c.Ok) (K : CV) (q : Nat) (w : World) (hK : Crw w c K q) (R : List Bool) (hRl : R.length = c.n) (oa : Option Addr) (ca b o : Nat) (hR : Rw w b o 1 (bF R) R.length oa) (h0 : ¬ c.run R c.n = 0) : Calls Tryd.prog 25 #[.pointer (some ⟨q, 0, none⟩), .slice oa R.length ca] w fun e w' => ∃ ol cl, e = .returned (.tuple #[.slice ol 0 cl, .int .i64 (c.run R c.n)]) ∧ Below w.heap.size w w' :=
  (run_n c hc K q w hK R hRl oa ca b o hR).mono fun e W' ⟨ol, cl, bl, ql, he, hr, hb⟩ => by
    have eA : c.legsA R = [] := if_neg h0
    rw [eA] at he
    exact ⟨ol, cl, he, hb⟩
theorem drvRun_n (k : Iv) (x : InT) (ty st : Int) (orr oa : Option Addr) (nr cr ca b o : Nat) (l : List (Int × Bool)) (hok : posD x.tl x.ol ty st l = true → (crs x ty st l).Ok) (R : List Bool) (oR : Option Addr) (cR bR qR : Nat) (w : World) (hI : Ins w k x) (hT : Tab w) (hl : Rw w b o 2 (vF l) l.length oa) (hR : Rw w bR qR 1 (bF R) R.length oR) : Calls Tryd.prog 11 #[.agg #[.slice k.o0 x.pl.length k.c0, .slice k.o1 x.al.length k.c1, .slice k.o2 x.tl.length k.c2, .slice k.o3 x.ol.length k.c3, .slice k.o4 x.ap.length k.c4, .slice k.o5 x.be.length k.c5], .agg #[.int .i64 ty, .int .i64 st, .slice orr nr cr, .slice oa l.length ca], .slice oR R.length cR] w (ShP (runS x ty st l R) (runE x ty st l R) w) := by
  have HB : Below w.heap.size w w := Below.refl _ _
  refine sx_enter Tryd.func11 rfl [(0, .agg #[.slice k.o0 x.pl.length k.c0, .slice k.o1 x.al.length k.c1, .slice k.o2 x.tl.length k.c2, .slice k.o3 x.ol.length k.c3, .slice k.o4 x.ap.length k.c4, .slice k.o5 x.be.length k.c5]), (1, .agg #[.int .i64 ty, .int .i64 st, .slice orr nr cr, .slice oa l.length ca]), (2, .slice oR R.length cR)] (by kernel_rfl) ?_
  refine wp_seq ?_
  refine wp_region_lit ?_
  obtain ⟨W1, hW⟩ : ∃ W, w.alloc (.cells #[.slice k.o0 x.pl.length k.c0, .slice k.o1 x.al.length k.c1, .slice k.o2 x.tl.length k.c2, .slice k.o3 x.ol.length k.c3, .slice k.o4 x.ap.length k.c4, .slice k.o5 x.be.length k.c5] 30) = W := ⟨_, rfl⟩
  have hb := hW ▸ below_alloc w (.cells #[.slice k.o0 x.pl.length k.c0, .slice k.o1 x.al.length k.c1, .slice k.o2 x.tl.length k.c2, .slice k.o3 x.ol.length k.c3, .slice k.o4 x.ap.length k.c4, .slice k.o5 x.be.length k.c5] 30)
  have hq : Cb W1 w.heap.size #[.slice k.o0 x.pl.length k.c0, .slice k.o1 x.al.length k.c1, .slice k.o2 x.tl.length k.c2, .slice k.o3 x.ol.length k.c3, .slice k.o4 x.ap.length k.c4, .slice k.o5 x.be.length k.c5] 30 := hW ▸ Cb.made w #[.slice k.o0 x.pl.length k.c0, .slice k.o1 x.al.length k.c1, .slice k.o2 x.tl.length k.c2, .slice k.o3 x.ol.length k.c3, .slice k.o4 x.ap.length k.c4, .slice k.o5 x.be.length k.c5] 30
  refine sx_mem (by kernel_rfl) rfl rfl (.pointer (some ⟨w.heap.size, 0, none⟩)) W1 (by rw [← hW]; kernel_rfl) ?_
  replace HB := over HB hb
  have z1 := hb.size
  have M2 := hq
  have yM2 := hq.lt
  clear hq hb hW
  obtain ⟨W3, hW⟩ : ∃ W, W1.alloc (.cells #[.int .i64 ty, .int .i64 st, .slice orr nr cr, .slice oa l.length ca] 34) = W := ⟨_, rfl⟩
  have hb := hW ▸ below_alloc W1 (.cells #[.int .i64 ty, .int .i64 st, .slice orr nr cr, .slice oa l.length ca] 34)
  have hq : Cb W3 W1.heap.size #[.int .i64 ty, .int .i64 st, .slice orr nr cr, .slice oa l.length ca] 34 := hW ▸ Cb.made W1 #[.int .i64 ty, .int .i64 st, .slice orr nr cr, .slice oa l.length ca] 34
  refine sx_mem (by kernel_rfl) rfl rfl (.pointer (some ⟨W1.heap.size, 0, none⟩)) W3 (by rw [← hW]; kernel_rfl) ?_
  replace HB := over HB hb
  replace M2 := M2.below hb
  have z2 := hb.size
  have M4 := hq
  have yM4 := hq.lt
  clear hq hb hW
  obtain ⟨W5, hW⟩ : ∃ W, W3.alloc (.cells #[.bool false, .int .i64 0, .slice none 0 0, .int .i64 0, .int .i64 0] 39) = W := ⟨_, rfl⟩
  have hb := hW ▸ below_alloc W3 (.cells #[.bool false, .int .i64 0, .slice none 0 0, .int .i64 0, .int .i64 0] 39)
  have hq : Cb W5 W3.heap.size #[.bool false, .int .i64 0, .slice none 0 0, .int .i64 0, .int .i64 0] 39 := hW ▸ Cb.made W3 #[.bool false, .int .i64 0, .slice none 0 0, .int .i64 0, .int .i64 0] 39
  refine sx_mem (by kernel_rfl) rfl rfl (.pointer (some ⟨W3.heap.size, 0, none⟩)) W5 (by rw [← hW]; kernel_rfl) ?_
  replace HB := over HB hb
  replace M2 := M2.below hb
  replace M4 := M4.below hb
  have z3 := hb.size
  have M6 := hq
  have yM6 := hq.lt
  clear hq hb hW
  refine sx_val (by kernel_rfl) rfl rfl (.int .i64 0) (by kernel_rfl) ?_
  refine wpList_nil ?_
  refine sx_norm ?_
  refine wp_seq ?_
  refine wp_region_lit ?_
  refine sx_val (by kernel_rfl) rfl rfl (.agg #[.slice k.o0 x.pl.length k.c0, .slice k.o1 x.al.length k.c1, .slice k.o2 x.tl.length k.c2, .slice k.o3 x.ol.length k.c3, .slice k.o4 x.ap.length k.c4, .slice k.o5 x.be.length k.c5]) (ex_load rfl M2 (by kernel_rfl) Tryd.underlying30 rfl (by kernel_rfl)) ?_
  refine sx_val (by kernel_rfl) rfl rfl (.agg #[.int .i64 ty, .int .i64 st, .slice orr nr cr, .slice oa l.length ca]) (ex_load rfl M4 (by kernel_rfl) Tryd.underlying34 rfl (by kernel_rfl)) ?_
  refine sx_call (by kernel_rfl) rfl rfl (courseOf_n k x ty st orr oa nr cr ca b o l W5 (hI.below HB) (hT.belowD HB) (hl.below HB)) (by kernel_rfl) ?_
  rintro e W7 ⟨hcs, hb⟩
  replace HB := over HB hb
  replace M2 := M2.below hb
  replace M4 := M4.below hb
  replace M6 := M6.below hb
  have z4 := hb.size
  clear hb
  rcases hcs with ⟨hp9, rfl⟩ | ⟨K, q, hp9, rfl, hK9⟩
  · refine ⟨_, rfl, ?_⟩
    refine sx_val (by kernel_rfl) rfl rfl (.tuple #[.pointer none, .bool false]) (by kernel_rfl) ?_
    refine sx_val (by kernel_rfl) rfl rfl (.pointer none) (by kernel_rfl) ?_
    refine sx_val (by kernel_rfl) rfl rfl (.bool false) (by kernel_rfl) ?_
    refine sx_val (by kernel_rfl) rfl rfl (.pointer none) (by kernel_rfl) ?_
    refine sx_val (by kernel_rfl) rfl rfl (.bool false) (by kernel_rfl) ?_
    refine wpList_nil ?_
    refine sx_norm ?_
    refine wp_seq ?_
    refine wp_seq ?_
    refine wp_region_lit ?_
    refine sx_val (by kernel_rfl) rfl rfl (.bool false) (by kernel_rfl) ?_
    refine sx_val (by kernel_rfl) rfl rfl (.bool true) (by kernel_rfl) ?_
    refine sx_val (by kernel_rfl) rfl rfl (.bool true) (by kernel_rfl) ?_
    refine sx_skip (by kernel_rfl) rfl rfl ?_
    refine sx_skip (by kernel_rfl) rfl rfl ?_
    refine sx_skip (by kernel_rfl) rfl rfl ?_
    refine sx_skip (by kernel_rfl) rfl rfl ?_
    refine sx_skip (by kernel_rfl) rfl rfl ?_
    refine sx_val (by kernel_rfl) rfl rfl (.bool true) (by kernel_rfl) ?_
    refine wpList_nil ?_
    refine sx_norm ?_
    refine sx_true (by kernel_rfl) ?_
    refine wp_seq ?_
    refine wp_region_lit ?_
    refine sx_val (by kernel_rfl) rfl rfl (.agg #[.bool false, .int .i64 0, .slice none 0 0, .int .i64 0, .int .i64 0]) (by kernel_rfl) ?_
    refine sx_store (cells := #[.bool false, .int .i64 0, .slice none 0 0, .int .i64 0, .int .i64 0]) (by kernel_rfl) rfl rfl M6 (by kernel_rfl) (by kernel_rfl) (by kernel_rfl) (by kernel_rfl) (by kernel_rfl) ?_
    obtain ⟨W8, hW⟩ : ∃ W, W7.setRow (W3.heap.size) #[.bool false, .int .i64 0, .slice none 0 0, .int .i64 0, .int .i64 0] = W := ⟨_, rfl⟩
    have hg : W7.grownBy W8 (some (W3.heap.size)) := hW ▸ grown_row _ _ _
    have hq : Cb W8 (W3.heap.size) #[.bool false, .int .i64 0, .slice none 0 0, .int .i64 0, .int .i64 0] 39 := hW ▸ Cb.row M6 _
    rw [hW]
    replace HB := HB.grown hg (by omega) (fun x e => by simp only [Option.some.injEq] at e; omega)
    replace M2 := M2.kept hg (by omega)
    replace M4 := M4.kept hg (by omega)
    have z5 := hg.size
    replace M6 := hq
    clear hq hg hW
    refine sx_val (by kernel_rfl) rfl rfl (.int .i64 2) (by kernel_rfl) ?_
    refine wpList_nil ?_
    refine sx_norm ?_
    refine wp_ret ?_
    refine sx_rs ?_
    have h9 := runE_no (x := x) (ty := ty) (st := st) (l := l) (R := R) (.inl hp9)
    exact sx_retct M6 rfl rfl rfl (by kernel_rfl) (by kernel_rfl) Tryd.underlying39 rfl (by kernel_rfl) ⟨none, 0, 0, 0, by rw [h9.1, h9.2]; rfl, by rw [h9.2]; exact rw_sh0 _, (fun i hi => by rw [h9.2] at hi; exact absurd hi (Nat.not_lt_zero i)), HB⟩
  have hc := hok hp9
  refine ⟨_, rfl, ?_⟩
  refine sx_val (by kernel_rfl) rfl rfl (.tuple #[.pointer (some ⟨q, 0, none⟩), .bool true]) (by kernel_rfl) ?_
  refine sx_val (by kernel_rfl) rfl rfl (.pointer (some ⟨q, 0, none⟩)) (by kernel_rfl) ?_
  refine sx_val (by kernel_rfl) rfl rfl (.bool true) (by kernel_rfl) ?_
  refine sx_val (by kernel_rfl) rfl rfl (.pointer (some ⟨q, 0, none⟩)) (by kernel_rfl) ?_
  refine sx_val (by kernel_rfl) rfl rfl (.bool true) (by kernel_rfl) ?_
  refine wpList_nil ?_
  refine sx_norm ?_
  refine wp_seq ?_
  refine wp_seq ?_
  refine wp_region_lit ?_
  refine sx_val (by kernel_rfl) rfl rfl (.bool true) (by kernel_rfl) ?_
  refine sx_val (by kernel_rfl) rfl rfl (.bool false) (by kernel_rfl) ?_
  refine sx_val (by kernel_rfl) rfl rfl (.bool false) (by kernel_rfl) ?_
  refine sx_val (by kernel_rfl) rfl rfl (.slice oR R.length cR) (by kernel_rfl) ?_
  refine sx_val (by kernel_rfl) rfl rfl (.int .i64 ((R.length : Nat) : Int)) (by kernel_rfl) ?_
  refine sx_val (by kernel_rfl) rfl rfl (.pointer (some ⟨q, 0, none⟩)) (by kernel_rfl) ?_
  refine sx_call (by kernel_rfl) rfl rfl ((by have h8 := ways_n (crs x ty st l) hc K q W7 hK9; rw [crs_n] at h8; exact h8)) (by kernel_rfl) ?_
  rintro e w9 ⟨rfl, rfl⟩
  refine ⟨_, rfl, ?_⟩
  by_cases C1 : R.length = l.length + 1
  · refine sx_bool (by kernel_rfl) rfl rfl ((((R.length : Nat) : Int) : Int) != (((l.length + 1 : Nat) : Int) : Int)) false (by kernel_rfl) (by rw [bne_eq_false_iff_eq]; omega) ?_
    refine sx_val (by kernel_rfl) rfl rfl (.bool false) (by kernel_rfl) ?_
    refine wpList_nil ?_
    refine sx_norm ?_
    refine sx_false (by kernel_rfl) ?_
    refine wp_skip ?_
    refine sx_norm ?_
    refine wp_seq ?_
    refine wp_region_lit ?_
    refine sx_val (by kernel_rfl) rfl rfl (.pointer (some ⟨q, 0, none⟩)) (by kernel_rfl) ?_
    refine sx_val (by kernel_rfl) rfl rfl (.slice oR R.length cR) (by kernel_rfl) ?_
    have hRc : R.length = (crs x ty st l).n := by rw [crs_n]; omega
    by_cases C2 : ((crs x ty st l).run R (crs x ty st l).n) = 0
    · refine sx_call (by kernel_rfl) rfl rfl (run_yes (crs x ty st l) hc K q W7 hK9 R hRc oR cR bR qR (hR.below HB) C2) (by kernel_rfl) ?_
      rintro e W9 ⟨ol, cl, bl, ql, rfl, hL9, hb⟩
      replace HB := over HB hb
      replace M2 := M2.below hb
      replace M4 := M4.below hb
      replace M6 := M6.below hb
      replace hK9 := hK9.below hb
      have z5 := hb.size
      clear hb
      refine ⟨_, rfl, ?_⟩
      have hrun9 := C2
      refine sx_val (by kernel_rfl) rfl rfl (.tuple #[.slice ol (crs x ty st l).n cl, .int .i64 0]) (by kernel_rfl) ?_
      refine sx_val (by kernel_rfl) rfl rfl (.slice ol (crs x ty st l).n cl) (by kernel_rfl) ?_
      refine sx_val (by kernel_rfl) rfl rfl (.int .i64 0) (by kernel_rfl) ?_
      refine sx_val (by kernel_rfl) rfl rfl (.slice ol (crs x ty st l).n cl) (by kernel_rfl) ?_
      refine sx_val (by kernel_rfl) rfl rfl (.int .i64 0) (by kernel_rfl) ?_
      refine wpList_nil ?_
      refine sx_norm ?_
      refine wp_seq ?_
      refine wp_seq ?_
      refine wp_region_lit ?_
      refine sx_val (by kernel_rfl) rfl rfl (.int .i64 0) (by kernel_rfl) ?_
      refine sx_val (by kernel_rfl) rfl rfl (.bool false) (by kernel_rfl) ?_
      refine wpList_nil ?_
      refine sx_norm ?_
      refine sx_false (by kernel_rfl) ?_
      refine wp_skip ?_
      refine sx_norm ?_
      refine wp_seq ?_
      refine wp_region_lit ?_
      refine sx_val (by kernel_rfl) rfl rfl (.slice ol (crs x ty st l).n cl) (by kernel_rfl) ?_
      refine sx_val (by kernel_rfl) rfl rfl (.slice oR R.length cR) (by kernel_rfl) ?_
      refine sx_call (by kernel_rfl) rfl rfl (sheetOf_n (crs x ty st l) hc R hRc hrun9 ol oR cl cR bl ql bR qR W9 hL9 (hR.below HB)) (by kernel_rfl) ?_
      rintro e W10 ⟨o9, c9, b9, q9, rfl, hS9, hS8, hb⟩
      replace HB := over HB hb
      replace M2 := M2.below hb
      replace M4 := M4.below hb
      replace M6 := M6.below hb
      replace hK9 := hK9.below hb
      replace hL9 := hL9.below hb
      have z6 := hb.size
      clear hb
      refine ⟨_, rfl, ?_⟩
      refine sx_store (cells := #[.bool ((crs x ty st l).sheet R).r, .int .i64 (((crs x ty st l).sheet R).d), .slice o9 ((crs x ty st l).sheet R).T.length c9, .int .i64 (((crs x ty st l).sheet R).e), .int .i64 (((crs x ty st l).sheet R).m)]) (by kernel_rfl) rfl rfl M6 (by kernel_rfl) (by kernel_rfl) (by kernel_rfl) (by kernel_rfl) (by kernel_rfl) ?_
      obtain ⟨W11, hW⟩ : ∃ W, W10.setRow (W3.heap.size) #[.bool ((crs x ty st l).sheet R).r, .int .i64 (((crs x ty st l).sheet R).d), .slice o9 ((crs x ty st l).sheet R).T.length c9, .int .i64 (((crs x ty st l).sheet R).e), .int .i64 (((crs x ty st l).sheet R).m)] = W := ⟨_, rfl⟩
      have hg : W10.grownBy W11 (some (W3.heap.size)) := hW ▸ grown_row _ _ _
      have hq : Cb W11 (W3.heap.size) #[.bool ((crs x ty st l).sheet R).r, .int .i64 (((crs x ty st l).sheet R).d), .slice o9 ((crs x ty st l).sheet R).T.length c9, .int .i64 (((crs x ty st l).sheet R).e), .int .i64 (((crs x ty st l).sheet R).m)] 39 := hW ▸ Cb.row M6 _
      rw [hW]
      replace HB := HB.grown hg (by omega) (fun x e => by simp only [Option.some.injEq] at e; omega)
      replace M2 := M2.kept hg (by omega)
      replace M4 := M4.kept hg (by omega)
      replace hS9 := hS9.kept hg (fun i hi => by have h8 := hS8 i hi; omega)
      have z7 := hg.size
      replace M6 := hq
      clear hq hg hW
      refine sx_val (by kernel_rfl) rfl rfl (.int .i64 0) (by kernel_rfl) ?_
      refine wpList_nil ?_
      refine sx_norm ?_
      refine wp_ret ?_
      have h8 := runE_yes (R := R) hp9 (by omega)
      rw [hrun9] at h8
      have h9 : runS x ty st l R = (crs x ty st l).sheet R := by unfold runS; rw [h8, if_pos rfl]
      exact sx_retct M6 rfl rfl rfl (by kernel_rfl) (by kernel_rfl) Tryd.underlying39 rfl (by kernel_rfl) ⟨o9, c9, b9, q9, by rw [h8, h9]; rfl, by rw [h9]; exact hS9, (fun i hi => by rw [h9] at hi; have h7 := hS8 i hi; omega), HB⟩
    refine sx_call (by kernel_rfl) rfl rfl (run_no (crs x ty st l) hc K q W7 hK9 R hRc oR cR bR qR (hR.below HB) C2) (by kernel_rfl) ?_
    rintro e W12 ⟨ol, cl, rfl, hb⟩
    replace HB := over HB hb
    replace M2 := M2.below hb
    replace M4 := M4.below hb
    replace M6 := M6.below hb
    replace hK9 := hK9.below hb
    have z5 := hb.size
    clear hb
    refine ⟨_, rfl, ?_⟩
    refine sx_val (by kernel_rfl) rfl rfl (.tuple #[.slice ol 0 cl, .int .i64 ((crs x ty st l).run R (crs x ty st l).n)]) (by kernel_rfl) ?_
    refine sx_val (by kernel_rfl) rfl rfl (.slice ol 0 cl) (by kernel_rfl) ?_
    refine sx_val (by kernel_rfl) rfl rfl (.int .i64 ((crs x ty st l).run R (crs x ty st l).n)) (by kernel_rfl) ?_
    refine sx_val (by kernel_rfl) rfl rfl (.slice ol 0 cl) (by kernel_rfl) ?_
    refine sx_val (by kernel_rfl) rfl rfl (.int .i64 ((crs x ty st l).run R (crs x ty st l).n)) (by kernel_rfl) ?_
    refine wpList_nil ?_
    refine sx_norm ?_
    refine wp_seq ?_
    refine wp_seq ?_
    refine wp_region_lit ?_
    refine sx_val (by kernel_rfl) rfl rfl (.int .i64 ((crs x ty st l).run R (crs x ty st l).n)) (by kernel_rfl) ?_
    refine sx_bool (by kernel_rfl) rfl rfl ((((crs x ty st l).run R (crs x ty st l).n) : Int) != (0 : Int)) true (by kernel_rfl) (bne_iff_ne.2 (by omega)) ?_
    refine wpList_nil ?_
    refine sx_norm ?_
    refine sx_true (by kernel_rfl) ?_
    refine wp_seq ?_
    refine wp_region_lit ?_
    refine sx_val (by kernel_rfl) rfl rfl (.agg #[.bool false, .int .i64 0, .slice none 0 0, .int .i64 0, .int .i64 0]) (by kernel_rfl) ?_
    refine sx_val (by kernel_rfl) rfl rfl (.int .i64 ((crs x ty st l).run R (crs x ty st l).n)) (by kernel_rfl) ?_
    refine sx_store (cells := #[.bool false, .int .i64 0, .slice none 0 0, .int .i64 0, .int .i64 0]) (by kernel_rfl) rfl rfl M6 (by kernel_rfl) (by kernel_rfl) (by kernel_rfl) (by kernel_rfl) (by kernel_rfl) ?_
    obtain ⟨W13, hW⟩ : ∃ W, W12.setRow (W3.heap.size) #[.bool false, .int .i64 0, .slice none 0 0, .int .i64 0, .int .i64 0] = W := ⟨_, rfl⟩
    have hg : W12.grownBy W13 (some (W3.heap.size)) := hW ▸ grown_row _ _ _
    have hq : Cb W13 (W3.heap.size) #[.bool false, .int .i64 0, .slice none 0 0, .int .i64 0, .int .i64 0] 39 := hW ▸ Cb.row M6 _
    rw [hW]
    replace HB := HB.grown hg (by omega) (fun x e => by simp only [Option.some.injEq] at e; omega)
    replace M2 := M2.kept hg (by omega)
    replace M4 := M4.kept hg (by omega)
    have z6 := hg.size
    replace M6 := hq
    clear hq hg hW
    refine sx_val (by kernel_rfl) rfl rfl (.int .i64 ((crs x ty st l).run R (crs x ty st l).n)) (by kernel_rfl) ?_
    refine wpList_nil ?_
    refine sx_norm ?_
    refine wp_ret ?_
    refine sx_rs ?_
    have h8 := runE_yes (R := R) hp9 (by omega)
    have h9 : runS x ty st l R = sh0 := by unfold runS; rw [h8, if_neg (by assumption)]
    exact sx_retct M6 rfl rfl rfl (by kernel_rfl) (by kernel_rfl) Tryd.underlying39 rfl (by kernel_rfl) ⟨none, 0, 0, 0, by rw [h8, h9]; rfl, by rw [h9]; exact rw_sh0 _, (fun i hi => by rw [h9] at hi; exact absurd hi (Nat.not_lt_zero i)), HB⟩
  refine sx_bool (by kernel_rfl) rfl rfl ((((R.length : Nat) : Int) : Int) != (((l.length + 1 : Nat) : Int) : Int)) true (by kernel_rfl) (bne_iff_ne.2 (by omega)) ?_
  refine sx_val (by kernel_rfl) rfl rfl (.bool true) (by kernel_rfl) ?_
  refine wpList_nil ?_
  refine sx_norm ?_
  refine sx_true (by kernel_rfl) ?_
  refine wp_seq ?_
  refine wp_region_lit ?_
  refine sx_val (by kernel_rfl) rfl rfl (.agg #[.bool false, .int .i64 0, .slice none 0 0, .int .i64 0, .int .i64 0]) (by kernel_rfl) ?_
  refine sx_store (cells := #[.bool false, .int .i64 0, .slice none 0 0, .int .i64 0, .int .i64 0]) (by kernel_rfl) rfl rfl M6 (by kernel_rfl) (by kernel_rfl) (by kernel_rfl) (by kernel_rfl) (by kernel_rfl) ?_
  obtain ⟨W14, hW⟩ : ∃ W, W7.setRow (W3.heap.size) #[.bool false, .int .i64 0, .slice none 0 0, .int .i64 0, .int .i64 0] = W := ⟨_, rfl⟩
  have hg : W7.grownBy W14 (some (W3.heap.size)) := hW ▸ grown_row _ _ _
  have hq : Cb W14 (W3.heap.size) #[.bool false, .int .i64 0, .slice none 0 0, .int .i64 0, .int .i64 0] 39 := hW ▸ Cb.row M6 _
  rw [hW]
  replace HB := HB.grown hg (by omega) (fun x e => by simp only [Option.some.injEq] at e; omega)
  replace M2 := M2.kept hg (by omega)
  replace M4 := M4.kept hg (by omega)
  have z5 := hg.size
  replace M6 := hq
  clear hq hg hW
  refine sx_val (by kernel_rfl) rfl rfl (.int .i64 2) (by kernel_rfl) ?_
  refine wpList_nil ?_
  refine sx_norm ?_
  refine wp_ret ?_
  refine sx_rs ?_
  have h9 := runE_no (x := x) (ty := ty) (st := st) (l := l) (R := R) (.inr (by omega))
  exact sx_retct M6 rfl rfl rfl (by kernel_rfl) (by kernel_rfl) Tryd.underlying39 rfl (by kernel_rfl) ⟨none, 0, 0, 0, by rw [h9.1, h9.2]; rfl, by rw [h9.2]; exact rw_sh0 _, (fun i hi => by rw [h9.2] at hi; exact absurd hi (Nat.not_lt_zero i)), HB⟩

end Go.Proofs.YtnapmildbodigaaDoor.T


/-! The map of what is best at each halt; slices cut out of slices. -/
namespace Go.Proofs.YtnapmildbodigaaDoor.T
open Go.RowKit Go.WideElems
set_option maxRecDepth 8000

/-- what is best at a halt -/
structure ChT where
  p : Bool
  e : Int
  r : Bool
  f : Bool
deriving DecidableEq
def ch0 : ChT := ⟨false, 0, false, false⟩
def chV (c : ChT) : Value := .agg #[.bool c.p, .int .i64 c.e, .bool c.r, .bool c.f]
def chD (c : ChT) : DataW Unit := .agg [.lit (.bool c.p), .lit (.int .i64 c.e), .lit (.bool c.r), .lit (.bool c.f)]
def chR (v : Value) : Option (DataW Unit × List MemPlace) :=
  match v with
  | .agg ⟨[.bool p, .int .i64 e, .bool r, .bool f]⟩ => some (chD ⟨p, e, r, f⟩, [])
  | _ => none
theorem chR_inv {v : Value} {c : ChT} {ps : List MemPlace} (h : chR v = some (chD c, ps)) : v = chV c := by
  unfold chR at h
  split at h
  · simp only [Option.some.injEq, Prod.mk.injEq] at h
    obtain ⟨h, -⟩ := h
    unfold chD at h
    simp only [DataW.agg.injEq, List.cons.injEq, DataW.lit.injEq, Lit.bool.injEq, Lit.int.injEq, and_true, true_and] at h
    obtain ⟨h1, h2, h3, h4⟩ := h
    unfold chV
    rw [h1, h2, h3, h4]
  · cases h
/-- a halt, as a key reads -/
theorem haltKey {p f t : Int} (hp : I64 p) (hf : I64 f) (ht : I64 t) : keyOf Tryd.prog 113 (.agg #[.int .i64 p, .int .i64 f, .int .i64 t]) = some (wk p f t) := by
  have h0 : 0 < Tryd.prog.types.size := of_decide_eq_true (by kernel_rfl)
  obtain ⟨m, hm⟩ : ∃ m, Tryd.prog.types.size = m + 1 := ⟨Tryd.prog.types.size - 1, by omega⟩
  have hkt : Tryd.prog.keyType 113 = true := by kernel_rfl
  have hc : Tryd.prog.cellsOf 113 = 3 := by kernel_rfl
  have hi : Tryd.prog.cellsOf 3 = 1 := by kernel_rfl
  unfold keyOf
  simp only [Tryd.underlying113]
  rw [if_pos (by simp [hkt, Value.formed, Tryd.underlying113, hc]), hm]
  unfold Program.keyLits
  simp only [Tryd.underlying113, Value.cells]
  rw [if_pos (by rw [hc]; exact ⟨rfl, by simp⟩)]
  simp [hi, Program.keyLits, Tryd.underlying3, i64_wf hp, i64_wf hf, i64_wf ht, wk]
theorem lawHalt : Maps.Keyed Tryd.prog 113 := Maps.Keyed.of_law (deep_law_laid laidOut (m := 2) (by omega) (of_decide_eq_true (by kernel_rfl)) (by kernel_rfl) (by kernel_rfl))
theorem zeroCh (w : World) : (zeroValue 115).run Tryd.prog w = .ok (chV ch0) w := by kernel_rfl
abbrev HaltF := Int → Int → Int → Option ChT
def putH (g : HaltF) (p f t : Int) (c : ChT) : HaltF := fun p' f' t' => if p' = p ∧ f' = f ∧ t' = t then some c else g p' f' t'
/-- block b is a map: of each halt what g says -/
def Hm (w : World) (b n : Nat) (g : HaltF) : Prop :=
  ∃ D : DataW Unit, w.ownsMap Tryd.prog 113 chR b n D ∧ ∀ p f t, I64 p → I64 f → I64 t →
    Maps.has D (wk p f t) = (g p f t).isSome ∧ D.atKey (wk p f t) (chD ch0) = chD ((g p f t).getD ch0)
section
variable {w w' : World} {b n : Nat} {g g' : HaltF}
theorem Hm.lt (h : Hm w b n g) : b < w.heap.size := by obtain ⟨D, h, _⟩ := h; exact h.lt
theorem Hm.of_block (h : Hm w b n g) (hb : w'.heap[b]? = w.heap[b]?) : Hm w' b n g := by
  obtain ⟨D, ⟨es, clock, h1, h2⟩, h⟩ := h
  exact ⟨D, ⟨es, clock, hb.trans h1, h2⟩, h⟩
theorem Hm.below (h : Hm w b n g) (hb : Below w.heap.size w w') : Hm w' b n g := h.of_block (hb.block b h.lt)
theorem Hm.kept {q : Nat} (h : Hm w b n g) (hg : w.grownBy w' (some q)) (hne : b ≠ q) : Hm w' b n g := h.of_block (hg.block b h.lt (fun e => hne (by simpa using e)))
theorem Hm.made (w : World) : Hm (w.alloc (.map #[] 0)) w.heap.size 0 (fun _ _ _ => none) :=
  ⟨.map [], World.ownsMap_made w _ _ _, fun _ _ _ _ _ _ => ⟨rfl, rfl⟩⟩
theorem Hm.put (h : Hm w b n g) (hn : n < maxLen) {p f t : Int} (hp : I64 p) (hf : I64 f) (ht : I64 t) (c : ChT) :
    ∃ w', (Instr.mapUpdate 109 (.map (some b)) (.agg #[.int .i64 p, .int .i64 f, .int .i64 t]) (chV c)).run Tryd.prog w = .ok () w' ∧ Hm w' b (n + 1) (putH g p f t c) ∧ w.grownBy w' (some b) := by
  obtain ⟨D, hown, hD⟩ := h
  have hkey := haltKey hp hf ht
  obtain ⟨w', hrun, hown', hg⟩ := hown.update lawHalt Tryd.underlying109 hn hkey (show chR (chV c) = some (chD c, []) from rfl)
  refine ⟨w', hrun, ⟨_, hown', fun p' f' t' hp' hf' ht' => ?_⟩, hg⟩
  unfold putH
  by_cases e : p' = p ∧ f' = f ∧ t' = t
  · obtain ⟨rfl, rfl, rfl⟩ := e
    rw [if_pos ⟨rfl, rfl, rfl⟩]
    exact ⟨Maps.has_put_same hown.isMap (lawHalt.key hkey) _, Maps.atKey_put_same hown.isMap (lawHalt.key hkey) _ _⟩
  · have hne : wk p' f' t' ≠ wk p f t := fun h => e (wk_inj hp' hf' ht' hp hf ht h)
    rw [if_neg e, Maps.has_put_other hne, Maps.atKey_put_other hne]
    exact hD p' f' t' hp' hf' ht'
theorem Hm.look (h : Hm w b n g) {p f t : Int} (hp : I64 p) (hf : I64 f) (ht : I64 t) :
    (Instr.lookup 109 (.map (some b)) (.agg #[.int .i64 p, .int .i64 f, .int .i64 t]) true).run Tryd.prog w = .ok (.tuple #[chV ((g p f t).getD ch0), .bool (g p f t).isSome]) w := by
  obtain ⟨D, hown, hD⟩ := h
  obtain ⟨h1, h2⟩ := hD p f t hp hf ht
  obtain ⟨v, ps, hrun, hv⟩ := hown.look_ok lawHalt Tryd.underlying109 (zeroCh w) (show chR (chV ch0) = some (chD ch0, []) from rfl) (haltKey hp hf ht)
  rw [h2] at hv
  rw [hrun, h1, chR_inv hv]
end
section
variable {P : Program} {n : Nat} {g : Nat → Value} {l : List (Nat × Value)} {w : World} {o : Oper}
theorem ex_lookup {t : TypeId} {x y : Operand} (ho : o.op = .lookup t x y true) {m k v : Value} (hx : ev n g l x = m) (hy : ev n g l y = k) (hr : (Instr.lookup t m k true).run P w = .ok v w) : (execOp (ev n g l) o).run P w = .ok (.value v) w := by
  unfold execOp
  simp only [ho, hx, hy, hr, Sem.run_bind, Sem.run_pure, Result.andThen_ok]
theorem ex_update {t : TypeId} {x y z : Operand} (ho : o.op = .mapUpdate t x y z) {m k v : Value} {w' : World} (hx : ev n g l x = m) (hy : ev n g l y = k) (hz : ev n g l z = v) (hr : (Instr.mapUpdate t m k v).run P w = .ok () w') : (execOp (ev n g l) o).run P w = .ok .skip w' := by
  unfold execOp
  simp only [ho, hx, hy, hz, hr, Sem.run_bind, Sem.run_pure, Result.andThen_ok]
theorem ex_makeMap {t : TypeId} (ho : o.op = .makeMap t none) : (execOp (ev n g l) o).run P w = .ok (.value (.map (some w.heap.size))) (w.alloc (.map #[] 0)) := by
  unfold execOp
  simp only [ho]
  rfl
theorem add_addr (b q j : Nat) : (⟨b, q, none⟩ : Addr).add j = ⟨b, q + j, none⟩ := by
  unfold Addr.add
  split
  · rename_i h7; subst h7; rfl
  · rfl
/-- a slice cut out of a slice -/
theorem run_sliceM {t e : TypeId} {b q m c i j s : Nat} (hu : P.underlying t = some (.slice e)) (hs : (P.info? e).map (·.size) = some s) (hi : i ≤ j) (hj : j ≤ c) (hc : i < c) :
    (Instr.sliceAt t (.slice (some ⟨b, q, none⟩) m c) (some (.int .i64 (i : Int))) (some (.int .i64 (j : Int))) none).run P w = .ok (.slice (some ⟨b, q + i * s, none⟩) (j - i) (c - i)) w := by
  have h2 : (sizeOf e).run P w = .ok s w := by
    cases hi : P.info? e with
    | none => rw [hi] at hs; cases hs
    | some i => rw [hi] at hs; simp only [Option.map_some, Option.some.injEq] at hs; simp [sizeOf, typeInfo, hi, hs]
  unfold Instr.sliceAt Instr.slice Instr.sliceBounds Instr.sliceBound
  simp [asIntOf, Sem.run_bind, Sem.run_pure, Result.andThen_ok, run_underlying hu w, h2, Int.toNat_natCast]
  rw [if_pos hj, if_pos hi, if_neg (by omega), add_addr]
theorem ex_sliceM {ty : TypeId} {x y z : Operand} (ho : o.op = .slice ty x (some y) (some z) none) {b q m c i j s : Nat} (hx : ev n g l x = .slice (some ⟨b, q, none⟩) m c) (hy : ev n g l y = .int .i64 (i : Int)) (hz : ev n g l z = .int .i64 (j : Int)) (hi : i ≤ j) (hj : j ≤ c) (hc : i < c) {e : TypeId}
    (hu : P.underlying ty = some (.slice e)) (hs : (P.info? e).map (·.size) = some s) : (execOp (ev n g l) o).run P w = .ok (.value (.slice (some ⟨b, q + i * s, none⟩) (j - i) (c - i))) w := by
  unfold execOp
  simp only [ho, hx, hy, hz, Option.map_some, Option.map_none, run_sliceM hu hs hi hj hc, Sem.run_bind, Sem.run_pure, Result.andThen_ok]
end
end Go.Proofs.YtnapmildbodigaaDoor.T


