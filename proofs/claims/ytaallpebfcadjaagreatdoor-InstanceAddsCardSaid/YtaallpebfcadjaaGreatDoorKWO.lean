/-
 DERIVED. KWO: a part of the base of layer 13 (made by pack.py).
-/
import Derived.Test.YtaallpebfcadjaaGreatDoorKWM
import Derived.Test.YtaallpebfcadjaaGreatDoorKWN
import Derived.Test.YtaallpebfcadjaaGreatDoorKWJ
import Derived.Test.YtaallpebfcadjaaGreatDoorKIL
import Derived.Test.YtaallpebfcadjaaGreatDoorKIN
import Derived.Test.YtaallpebfcadjaaGreatDoorKWL
/-! The walk of the landed instance's Add (written by gen_inadd.py, by sx.py). -/
namespace Go.Proofs.YtaallpebfcadjaaGreatDoor.T
open Go.RowKit
set_option maxRecDepth 8000
attribute [local irreducible] wpList Code.wp wpAnyH
theorem cell_grown {w w' : World} {b q g : Nat} {v : Value} (h : w.cell? ⟨b, q, none⟩ = some v) (hg : w.grownBy w' (some g)) (hne : b ≠ g) : w'.cell? ⟨b, q, none⟩ = some v := by
 have hl := World.block_lt_of_cell? w _ h
 have e := hg.block b hl (fun e => hne (Option.some.inj e))
 unfold World.cell? at h ⊢
 rw [e]
 exact h
theorem os_of {B : Nat} {w : World} {v vl : Value} {l : List OrT} {a : OrT} {xs : List (OrT × Value)} (hx : xs.map (·.1) = l) (hg : GrO B w v (xs ++ [(a, vl)])) (he : ErO w xs) (hl : L.Li w vl a.load) : Os w v (l ++ [a]) := by
 have := hg.sl (ErO.more (x := (a, vl)) he hl)
 rwa [List.map_append, hx] at this
theorem apF_o {B : Nat} {w : World} {oa : Option Addr} {l : List OrT} (ty : TypeId) (a : OrT) (p : Option Addr) (d : Nat) {xs : List (OrT × Value)} (hxs : xs.map (·.1) = l) (hg0 : GrO B w (.slice oa l.length l.length) xs) (hn : l.length ≤ 1000000) :
  ∃ v' w', (Builtin.append_ #[27, 27] ty #[.slice oa l.length l.length, .slice (some ⟨w.heap.size, 0, none⟩) 1 1]).run Tryz.prog (w.alloc (.cells (oCells a (.slice p a.load.length d)) 44)) = .ok v' w' ∧ ((∃ o' c', v' = .slice o' (l ++ [a]).length c') ∧ GrO w.heap.size w' v' (xs ++ [(a, .slice p a.load.length d)]) ∧ Below w.heap.size w w') := by
 obtain ⟨i0, hi, hz0, hz1, hz2⟩ := infoO8
 have hb1 := below_alloc w (.cells (oCells a (.slice p a.load.length d)) 44)
 have hs1 : (w.alloc (.cells (oCells a (.slice p a.load.length d)) 44)).heap.size = w.heap.size + 1 := World.size_alloc ..
 have hlx : xs.length = l.length := by rw [← hxs, List.length_map]
 have fin : ∀ v' w', w'.ownsRow (w.alloc (.cells (oCells a (.slice p a.load.length d)) 44)).heap.size 44 16 v' (l.length + 1) (flk ccO xs ++ ccO (a, .slice p a.load.length d)) → (w.alloc (.cells (oCells a (.slice p a.load.length d)) 44)).grownBy w' none →
   ((∃ o' c', v' = .slice o' (l ++ [a]).length c') ∧ GrO w.heap.size w' v' (xs ++ [(a, .slice p a.load.length d)]) ∧ Below w.heap.size w w') := fun v' w' r1 r2 => by
  have hb2 : Below w.heap.size w w' := over hb1 (below_row (Nat.le_refl _) r2 (fun k e => by cases e))
  rw [← hlx] at r1
  have hg := gr_snoc r1
  refine ⟨?_, World.ownsRow.mono hg (by omega), hb2⟩
  obtain ⟨o', c', e⟩ := own_form hg
  exact ⟨o', c', by rw [e, List.length_append, List.length_append, hlx]; rfl⟩
 cases oa with
 | some ad =>
  have hc : ∀ j u, (flk ccO xs)[j]? = some u → w.cell? (ad.add j) = some u := fun j u hu => by
   have hj : j < xs.length * 16 := by
    rw [← flk_len ccO_len]
    exact (List.getElem?_eq_some_iff.1 hu).1
   have hg1 := hg0
   unfold GrO at hg1
   rw [hlx] at hg1 hj
   rcases hg1.2 with ⟨e, -⟩ | ⟨g, cap, cur, e, -⟩
   ·cases e
   ·simp only [Value.slice.injEq, Option.some.injEq] at e
    obtain ⟨rfl, -, -⟩ := e
    rw [add_pl, Nat.zero_add]
    exact (World.ownsRow.cellAt hg1 j hj).trans hu
  obtain ⟨v', w', hrun, r1, r2⟩ := run_append_arg_grows (P := Tryz.prog) (w := w.alloc (.cells (oCells a (.slice p a.load.length d)) 44)) 27 ty 44 i0 _ 16 _ Tryz.underlying27 hi hz0 hz1 hz2 rfl (by decide) ad l.length l.length (flk ccO xs) (by rw [flk_len ccO_len, hlx]) (fun j u hu => by
   have h1 := hc j u hu
   rw [World.cell?_alloc_lt _ _ _ (World.block_lt_of_cell? w _ h1)]; exact h1) ⟨w.heap.size, 0, none⟩ 1 1 (ccO (a, .slice p a.load.length d)) rfl (cells_new w _ _) (by omega) (by unfold maxLen; omega) (by omega)
  exact ⟨v', w', hrun, fin v' w' r1 r2⟩
 | none =>
  have h0 : l = [] := by
   rcases hg0.2 with ⟨-, e⟩ | ⟨g, cap, cur, e, -⟩
   ·exact List.eq_nil_of_length_eq_zero (hlx.symm.trans e)
   ·cases e
  subst h0
  have hx0 : xs = [] := List.eq_nil_of_length_eq_zero hlx
  subst hx0
  obtain ⟨v', w', hrun, r1, r2, -⟩ := run_append_own (P := Tryz.prog) (w.alloc (.cells (oCells a (.slice p a.load.length d)) 44)) (w.alloc (.cells (oCells a (.slice p a.load.length d)) 44)).heap.size 27 ty 44 i0 _ 16 _ Tryz.underlying27 hi hz0 hz1 hz2 rfl (by decide) (.slice none 0 0) 0 [] (World.ownsRow_nil _ _ _ _) ⟨w.heap.size, 0, none⟩ 1 1 (ccO (a, .slice p a.load.length d)) rfl (cells_new w _ _) (oneO a p d) (by unfold maxLen; omega) (by omega) (Nat.le_refl _)
  exact ⟨v', w', hrun, fin v' w' r1 r2⟩
def noAdd (c : Int) : Ending := .returned (.tuple #[.agg zC, .int .i64 c])
def AddQ (y : InT) (w : World) (e : Ending) (w' : World) : Prop := Below w.heap.size w w' ∧ ((inF y = [] ∧ ∃ k' : Iv, e = .returned (.tuple #[k'.v y, .int .i64 0]) ∧ Ins w' k' y) ∨ ∃ p l, inF y = p :: l ∧ e = noAdd p.1)
theorem fs_first {w : World} {oa : Option Addr} {m c : Nat} {p : Int × ByteArray} {l : List (Int × ByteArray)} (h : Fs w (.slice oa m c) (p :: l)) : ∃ b q, oa = some ⟨b, q, none⟩ ∧ w.cell? ⟨b, q, none⟩ = some (.int .i64 p.1) := by
 obtain ⟨oa', c', hv, hs⟩ := h
 simp only [Value.slice.injEq] at hv
 obtain ⟨rfl, -, -⟩ := hv
 obtain ⟨b, q, e, -, h0, -⟩ := hs 0 (by simp)
 rw [Nat.zero_mul, Nat.add_zero] at h0
 exact ⟨b, q, e, h0⟩
theorem cell_below {w w' : World} {b q : Nat} {v : Value} (h : w.cell? ⟨b, q, none⟩ = some v) (hb : Below w.heap.size w w') : w'.cell? ⟨b, q, none⟩ = some v := by
 have hl := World.block_lt_of_cell? w _ h
 have e := hb.block b hl
 unfold World.cell? at h ⊢
 rw [e]
 exact h
theorem res_add {n : Nat} {g : Nat → Value} {l : List (Nat × Value)} {w : World} {q : Nat} {cs : Array Value} {e : Value} (hc : Cb w q cs 30) (h4 : slotV g l 4 = .pointer (some ⟨q, 0, none⟩)) (h5 : slotV g l 5 = e) (hs : cs.size = 6 := by rfl) (hn : Nat.blt 4 n = true := by rfl) (hn5 : Nat.blt 5 n = true := by rfl) :
  (results Tryz.f18 (fr n g l).tmps).run Tryz.prog w = .ok (.tuple #[.agg cs, e]) w := by
 have e4 := slot_get (n := n) (g := g) (l := l) hn
 have e5 := slot_get (n := n) (g := g) (l := l) hn5
 rw [h4] at e4
 rw [h5] at e5
 have hl := run_loadVar_row (P := Tryz.prog) w q 30 30 cs (0, 0) _ hc Tryz.underlying30 rfl (by rw [hs]; kernel_rfl)
 simp only [results, Tryz.results18, List.mapM_toArray, List.mapM_cons, List.mapM_nil, Sem.run_bind, Sem.run_pure, Result.andThen_ok, e4, e5, asAddr, hl, map_eq_pure_bind]
 rfl
theorem addFull (k : Iv) (x : InT) (o : OrT) (oo : Option Addr) (co : Nat) (h10 : 10 ≤ x.ol.length) (w : World) (h : Ins w k x) :
  Calls Tryz.prog 18 #[k.v x, orV o (.slice oo o.load.length co)] w fun e w' => e = noAdd 4 ∧ Below w.heap.size w w' := by
 obtain ⟨o0, c0, o1, c1, o2, c2, o3, c3, o4, c4, o5, c5⟩ := k
 clear h
 have HB : Below w.heap.size w w := Below.refl _ _
 show Calls _ _ #[.agg (iC x o0 c0 o1 c1 o2 c2 o3 c3 o4 c4 o5 c5), .agg (oC o oo co)] _ _
 refine sx_enter Tryz.func18 rfl [(0, .agg (iC x o0 c0 o1 c1 o2 c2 o3 c3 o4 c4 o5 c5)), (1, .agg (oC o oo co))] (by kernel_rfl) ?_
 refine wp_seq ?_
 refine wp_region_lit ?_
 obtain ⟨W0, hW⟩ : ∃ W, w.alloc (.cells (iC x o0 c0 o1 c1 o2 c2 o3 c3 o4 c4 o5 c5) 30) = W := ⟨_, rfl⟩
 have hb := hW ▸ below_alloc w (.cells (iC x o0 c0 o1 c1 o2 c2 o3 c3 o4 c4 o5 c5) 30)
 have hq : Cb W0 w.heap.size (iC x o0 c0 o1 c1 o2 c2 o3 c3 o4 c4 o5 c5) 30 := hW ▸ Cb.made w (iC x o0 c0 o1 c1 o2 c2 o3 c3 o4 c4 o5 c5) 30
 refine sx_mem (by kernel_rfl) rfl rfl (.pointer (some ⟨w.heap.size, 0, none⟩)) W0 (by rw [← hW]; kernel_rfl) ?_
 replace HB := over HB hb
 have z1 := hb.size
 have MX := hq
 have yMX := hq.lt
 clear hq hb hW
 obtain ⟨W1, hW⟩ : ∃ W, W0.alloc (.cells (oC o oo co) 44) = W := ⟨_, rfl⟩
 have hb := hW ▸ below_alloc W0 (.cells (oC o oo co) 44)
 have hq : Cb W1 W0.heap.size (oC o oo co) 44 := hW ▸ Cb.made W0 (oC o oo co) 44
 refine sx_mem (by kernel_rfl) rfl rfl (.pointer (some ⟨W0.heap.size, 0, none⟩)) W1 (by rw [← hW]; kernel_rfl) ?_
 replace HB := over HB hb
 replace MX := MX.below hb
 have z2 := hb.size
 have MO := hq
 have yMO := hq.lt
 clear hq hb hW
 obtain ⟨W2, hW⟩ : ∃ W, W1.alloc (.cells zC 30) = W := ⟨_, rfl⟩
 have hb := hW ▸ below_alloc W1 (.cells zC 30)
 have hq : Cb W2 W1.heap.size zC 30 := hW ▸ Cb.made W1 zC 30
 refine sx_mem (by kernel_rfl) rfl rfl (.pointer (some ⟨W1.heap.size, 0, none⟩)) W2 (by rw [← hW]; kernel_rfl) ?_
 replace HB := over HB hb
 replace MX := MX.below hb
 replace MO := MO.below hb
 have z3 := hb.size
 have M4 := hq
 have yM4 := hq.lt
 clear hq hb hW
 refine sx_val (by kernel_rfl) rfl rfl (.int .i64 0) (by kernel_rfl) ?_
 refine wpList_nil ?_
 refine sx_norm ?_
 refine wp_seq ?_
 refine wp_seq ?_
 refine wp_region_lit ?_
 refine sx_val (by kernel_rfl) rfl rfl (.pointer (some ⟨w.heap.size, 3, none⟩)) (by kernel_rfl) ?_
 refine sx_load1 (by kernel_rfl) rfl rfl rfl (MX.cell 3 rfl) (by kernel_rfl) Tryz.underlying27 rfl ?_
 refine sx_val (by kernel_rfl) rfl rfl (.int .i64 x.ol.length) (by kernel_rfl) ?_
 refine sx_bool (by kernel_rfl) rfl rfl (decide ((x.ol.length : Int) ≥ 10)) true (by kernel_rfl) (decide_eq_true (by omega)) ?_
 refine wpList_nil ?_
 refine sx_norm ?_
 refine sx_true (by kernel_rfl) ?_
 refine wp_seq ?_
 refine wp_region_lit ?_
 refine sx_val (by kernel_rfl) rfl rfl (.agg zC) (by kernel_rfl) ?_
 refine sx_store (cells := zC) (by kernel_rfl) rfl rfl M4 (by kernel_rfl) (by kernel_rfl) (by kernel_rfl) (by kernel_rfl) (by kernel_rfl) ?_
 obtain ⟨W3, hW⟩ : ∃ W, W2.setRow (W1.heap.size) zC = W := ⟨_, rfl⟩
 have hg : W2.grownBy W3 (some (W1.heap.size)) := hW ▸ grown_row _ _ _
 have hq : Cb W3 (W1.heap.size) zC 30 := hW ▸ Cb.row M4 _
 rw [hW]
 replace HB := HB.grown hg (by omega) (fun x e => by simp only [Option.some.injEq] at e; omega)
 replace MX := MX.kept hg (by omega)
 replace MO := MO.kept hg (by omega)
 have z4 := hg.size
 replace M4 := hq
 clear hq hg hW
 refine sx_val (by kernel_rfl) rfl rfl (.int .i64 4) (by kernel_rfl) ?_
 refine wpList_nil ?_
 refine sx_norm ?_
 refine wp_ret ?_
 refine sx_rs ?_
 exact bodyPost_ret (v := .tuple #[.agg zC, .int .i64 4]) (res_add M4 (by kernel_rfl) (by kernel_rfl)) rfl ⟨rfl, HB⟩
theorem addGood (k : Iv) (x : InT) (o : OrT) (oo : Option Addr) (co : Nat) (h10 : ¬ 10 ≤ x.ol.length) (hC : InC x) (hlo : o.load.length ≤ 1000000) (hIW : InW (addI x o)) (w : World) (hT : Tab w) (h : Ins w k x) (hl : L.Li w (.slice oo o.load.length co) o.load) :
  Calls Tryz.prog 18 #[k.v x, orV o (.slice oo o.load.length co)] w (AddQ (addI x o) w) := by
 obtain ⟨o0, c0, o1, c1, o2, c2, o3, c3, o4, c4, o5, c5⟩ := k
 have HB : Below w.heap.size w w := Below.refl _ _
 show Calls _ _ #[.agg (iC x o0 c0 o1 c1 o2 c2 o3 c3 o4 c4 o5 c5), .agg (oC o oo co)] _ _
 refine sx_enter Tryz.func18 rfl [(0, .agg (iC x o0 c0 o1 c1 o2 c2 o3 c3 o4 c4 o5 c5)), (1, .agg (oC o oo co))] (by kernel_rfl) ?_
 refine wp_seq ?_
 refine wp_region_lit ?_
 obtain ⟨W0, hW⟩ : ∃ W, w.alloc (.cells (iC x o0 c0 o1 c1 o2 c2 o3 c3 o4 c4 o5 c5) 30) = W := ⟨_, rfl⟩
 have hb := hW ▸ below_alloc w (.cells (iC x o0 c0 o1 c1 o2 c2 o3 c3 o4 c4 o5 c5) 30)
 have hq : Cb W0 w.heap.size (iC x o0 c0 o1 c1 o2 c2 o3 c3 o4 c4 o5 c5) 30 := hW ▸ Cb.made w (iC x o0 c0 o1 c1 o2 c2 o3 c3 o4 c4 o5 c5) 30
 refine sx_mem (by kernel_rfl) rfl rfl (.pointer (some ⟨w.heap.size, 0, none⟩)) W0 (by rw [← hW]; kernel_rfl) ?_
 replace HB := over HB hb
 have z1 := hb.size
 have MX := hq
 have yMX := hq.lt
 clear hq hb hW
 obtain ⟨W1, hW⟩ : ∃ W, W0.alloc (.cells (oC o oo co) 44) = W := ⟨_, rfl⟩
 have hb := hW ▸ below_alloc W0 (.cells (oC o oo co) 44)
 have hq : Cb W1 W0.heap.size (oC o oo co) 44 := hW ▸ Cb.made W0 (oC o oo co) 44
 refine sx_mem (by kernel_rfl) rfl rfl (.pointer (some ⟨W0.heap.size, 0, none⟩)) W1 (by rw [← hW]; kernel_rfl) ?_
 replace HB := over HB hb
 replace MX := MX.below hb
 have z2 := hb.size
 have MO := hq
 have yMO := hq.lt
 clear hq hb hW
 obtain ⟨W2, hW⟩ : ∃ W, W1.alloc (.cells zC 30) = W := ⟨_, rfl⟩
 have hb := hW ▸ below_alloc W1 (.cells zC 30)
 have hq : Cb W2 W1.heap.size zC 30 := hW ▸ Cb.made W1 zC 30
 refine sx_mem (by kernel_rfl) rfl rfl (.pointer (some ⟨W1.heap.size, 0, none⟩)) W2 (by rw [← hW]; kernel_rfl) ?_
 replace HB := over HB hb
 replace MX := MX.below hb
 replace MO := MO.below hb
 have z3 := hb.size
 have M4 := hq
 have yM4 := hq.lt
 clear hq hb hW
 refine sx_val (by kernel_rfl) rfl rfl (.int .i64 0) (by kernel_rfl) ?_
 refine wpList_nil ?_
 refine sx_norm ?_
 refine wp_seq ?_
 refine wp_seq ?_
 refine wp_region_lit ?_
 refine sx_val (by kernel_rfl) rfl rfl (.pointer (some ⟨w.heap.size, 3, none⟩)) (by kernel_rfl) ?_
 refine sx_load1 (by kernel_rfl) rfl rfl rfl (MX.cell 3 rfl) (by kernel_rfl) Tryz.underlying27 rfl ?_
 refine sx_val (by kernel_rfl) rfl rfl (.int .i64 x.ol.length) (by kernel_rfl) ?_
 refine sx_bool (by kernel_rfl) rfl rfl (decide ((x.ol.length : Int) ≥ 10)) false (by kernel_rfl) (decide_eq_false (by omega)) ?_
 refine wpList_nil ?_
 refine sx_norm ?_
 refine sx_false (by kernel_rfl) ?_
 refine wp_skip ?_
 refine sx_norm ?_
 refine wp_seq ?_
 refine wp_region_lit ?_
 refine sx_load (by kernel_rfl) rfl rfl rfl MX (by kernel_rfl) Tryz.underlying30 rfl (by kernel_rfl) ?_
 refine sx_call (by kernel_rfl) rfl rfl (copyOfC_n ⟨o0, c0, o1, c1, o2, c2, o3, c3, o4, c4, o5, c5⟩ x hC W2 (h.below HB)) (by kernel_rfl) ?_
 rintro e W3 ⟨⟨p0, d0, p1, d1, p2, d2, p3, d3, p4, d4, p5, d5⟩, rfl, HM, hb, hcap⟩
 refine ⟨_, rfl, ?_⟩
 replace HB := over HB hb
 replace MX := MX.below hb
 replace MO := MO.below hb
 replace M4 := M4.below hb
 have z4 := hb.size
 clear hb
 replace hcap : d3 = x.ol.length := hcap
 subst hcap
 obtain ⟨xs, hxs, HG3, HE3, HFx, -⟩ := HM.h3
 have HB3 : Below W3.heap.size W3 W3 := Below.refl _ _
 obtain ⟨W4, hW⟩ : ∃ W, W3.alloc (.cells zC 30) = W := ⟨_, rfl⟩
 have hb := hW ▸ below_alloc W3 (.cells zC 30)
 have hq : Cb W4 W3.heap.size zC 30 := hW ▸ Cb.made W3 zC 30
 refine sx_mem (by kernel_rfl) rfl rfl (.pointer (some ⟨W3.heap.size, 0, none⟩)) W4 (by rw [← hW]; kernel_rfl) ?_
 replace HB := over HB hb
 replace MX := MX.below hb
 replace MO := MO.below hb
 replace M4 := M4.below hb
 replace HB3 := over HB3 hb
 have z5 := hb.size
 have M6 := hq
 have yM6 := hq.lt
 clear hq hb hW
 refine sx_store (cells := (iC x p0 d0 p1 d1 p2 d2 p3 x.ol.length p4 d4 p5 d5)) (by kernel_rfl) rfl rfl M6 (by kernel_rfl) (by kernel_rfl) (by kernel_rfl) (by kernel_rfl) (by kernel_rfl) ?_
 obtain ⟨W5, hW⟩ : ∃ W, W4.setRow (W3.heap.size) (iC x p0 d0 p1 d1 p2 d2 p3 x.ol.length p4 d4 p5 d5) = W := ⟨_, rfl⟩
 have hg : W4.grownBy W5 (some (W3.heap.size)) := hW ▸ grown_row _ _ _
 have hq : Cb W5 (W3.heap.size) (iC x p0 d0 p1 d1 p2 d2 p3 x.ol.length p4 d4 p5 d5) 30 := hW ▸ Cb.row M6 _
 rw [hW]
 replace HB := HB.grown hg (by omega) (fun x e => by simp only [Option.some.injEq] at e; omega)
 replace MX := MX.kept hg (by omega)
 replace MO := MO.kept hg (by omega)
 replace M4 := M4.kept hg (by omega)
 replace HB3 := HB3.grown hg (by omega) (fun x e => by simp only [Option.some.injEq] at e; omega)
 have z6 := hg.size
 replace M6 := hq
 clear hq hg hW
 refine wpList_nil ?_
 refine sx_norm ?_
 refine sx_cut (fun (_ : (Option Addr × Nat) × (Option Addr × Nat)) => [(2, .pointer (some ⟨w.heap.size, 0, none⟩)), (3, .pointer (some ⟨W0.heap.size, 0, none⟩)), (4, .pointer (some ⟨W1.heap.size, 0, none⟩)), (5, .int .i64 0), (6, .pointer (some ⟨W3.heap.size, 0, none⟩))]) (fun i W => Below w.heap.size w W ∧ Below W3.heap.size W3 W ∧ Cb W W3.heap.size (iD x o p0 d0 p1 d1 p2 d2 i.1.1 i.1.2 p4 d4 p5 d5) 30 ∧ Cb W W1.heap.size zC 30 ∧ GrO (W3.heap.size + 1) W (.slice i.1.1 (x.ol ++ [o]).length i.1.2) (xs ++ [(o, .slice i.2.1 o.load.length i.2.2)]) ∧ L.Li W (.slice i.2.1 o.load.length i.2.2) o.load ∧ Fr (W3.heap.size + 1) (.slice i.2.1 o.load.length i.2.2)) ?_ ?_
 ·refine sd_begin (fun _ => True) (by kernel_rfl) trivial ?_
  obtain ⟨Y0, hW⟩ : ∃ W, W5.drew = W := ⟨_, rfl⟩
  have hb : Below W5.heap.size W5 Y0 := hW ▸ below_drew (Below.refl _ _)
  rw [hW]
  clear hW
  replace HB := over HB hb
  replace MX := MX.below hb
  replace MO := MO.below hb
  replace M4 := M4.below hb
  replace HB3 := over HB3 hb
  replace M6 := M6.below hb
  have z7 := hb.size
  clear hb
  refine sd_take 0 rfl (by kernel_rfl) (by kernel_rfl) (by kernel_rfl) (by kernel_rfl) rfl rfl (.pointer (some ⟨W3.heap.size, 3, none⟩)) (fun w9 _ => by kernel_rfl) (fun _ _ _ h => h) trivial ?_
  refine sd_all [1, 2] (by kernel_rfl) (by decide) ?_
  refine sd_mem (i := 1) rfl (by kernel_rfl) rfl rfl (.slice p3 x.ol.length x.ol.length) (Y0) (ex_load1 rfl (M6.cell 3 rfl) (by kernel_rfl) Tryz.underlying27 rfl) trivial ?_ ?_
  ·refine sd_all [2] (by kernel_rfl) (by decide) ?_
   refine sd_mem (i := 2) rfl (by kernel_rfl) rfl rfl (.agg (oC o oo co)) (Y0) (ex_load rfl MO (by kernel_rfl) Tryz.underlying44 rfl (by kernel_rfl)) trivial ?_ AllReadyH.nil
   refine sd_all [3] (by kernel_rfl) (by decide) ?_
   refine sd_call (i := 3) rfl (by kernel_rfl) rfl rfl (copyOfOrder_n o (.slice oo o.load.length co) hlo Y0 (hl.below HB)) (by kernel_rfl) ?_ AllReadyH.nil
   rintro e Y1 ⟨pl9, dl9, rfl, HL, HFr, hb⟩
   refine ⟨_, rfl, trivial, ?_⟩
   replace HB := over HB hb
   replace MX := MX.below hb
   replace MO := MO.below hb
   replace M4 := M4.below hb
   replace HB3 := over HB3 hb
   replace M6 := M6.below hb
   have z8 := hb.size
   clear hb
   replace HFr := HFr.mono (C := W3.heap.size + 1) (by omega)
   refine sd_all [4] (by kernel_rfl) (by decide) ?_
   refine sd_mem (i := 4) rfl (by kernel_rfl) rfl rfl (.slice (some ⟨Y1.heap.size, 0, none⟩) 1 1) (Y1.alloc (.cells (oCells o (.slice pl9 o.load.length dl9)) 44)) (by kernel_rfl) trivial ?_ AllReadyH.nil
   have M6a := M6.old (.cells (oCells o (.slice pl9 o.load.length dl9)) 44)
   obtain ⟨v9, Y2, hrun, ⟨o9, c9, rfl⟩, HG, hb⟩ := apF_o 27 o pl9 dl9 hxs (own_below HG3 HB3) (by omega)
   replace HB := over HB hb
   replace MX := MX.below hb
   replace MO := MO.below hb
   replace M4 := M4.below hb
   replace HB3 := over HB3 hb
   replace M6 := M6.below hb
   replace HL := HL.below hb
   have z9 := hb.size
   clear hb
   replace HG : GrO (W3.heap.size + 1) _ _ _ := World.ownsRow.mono HG (by omega)
   refine sd_all [5] (by kernel_rfl) (by decide) ?_
   refine sd_mem (i := 5) rfl (by kernel_rfl) rfl rfl (.slice o9 (x.ol ++ [o]).length c9) (Y2) (ex_append rfl (by kernel_rfl) (by kernel_rfl) hrun) trivial ?_ AllReadyH.nil
   clear hrun M6a
   refine sd_take 6 rfl (by kernel_rfl) (by kernel_rfl) (by kernel_rfl) (by kernel_rfl) rfl rfl (.pointer (some ⟨W3.heap.size, 3, none⟩)) (fun w9 _ => by kernel_rfl) (fun _ _ _ h => h) trivial ?_
   refine sd_all [7] (by kernel_rfl) (by decide) ?_
   refine sd_do (i := 7) rfl (by kernel_rfl) rfl (Y2.setCell ⟨W3.heap.size, 3, none⟩ (.slice o9 (x.ol ++ [o]).length c9)) (ex_store1 rfl (M6.cell 3 rfl) (M6.f 3) rfl (by kernel_rfl) (by kernel_rfl) (by kernel_rfl)) trivial ?_ AllReadyH.nil
   obtain ⟨Y3, hW⟩ : ∃ W, Y2.setCell ⟨W3.heap.size, 3, none⟩ (.slice o9 (x.ol ++ [o]).length c9) = W := ⟨_, rfl⟩
   have hg : Y2.grownBy Y3 (some W3.heap.size) := hW ▸ grown_cell _ _ _ _
   have hq : Cb Y3 W3.heap.size (iD x o p0 d0 p1 d1 p2 d2 o9 c9 p4 d4 p5 d5) 30 := hW ▸ Cb.set M6 3 _
   rw [hW]
   replace HB := HB.grown hg (by omega) (fun x e => by simp only [Option.some.injEq] at e; omega)
   replace MX := MX.kept hg (by omega)
   replace MO := MO.kept hg (by omega)
   replace M4 := M4.kept hg (by omega)
   replace HB3 := HB3.grown hg (by omega) (fun x e => by simp only [Option.some.injEq] at e; omega)
   have z10 := hg.size
   replace HL := li_kept HL hg (HFr.ne (by omega))
   replace HG : GrO _ _ _ _ := World.ownsRow.kept HG hg (.inr (fun e => by have := (World.ownsRow.lt HG _ e).1; omega))
   clear hW hg M6
   refine sd_done (by kernel_rfl) ?_
   refine sx_norm ?_
   refine sx_meet (L := fun (_ : (Option Addr × Nat) × (Option Addr × Nat)) => [(2, .pointer (some ⟨w.heap.size, 0, none⟩)), (3, .pointer (some ⟨W0.heap.size, 0, none⟩)), (4, .pointer (some ⟨W1.heap.size, 0, none⟩)), (5, .int .i64 0), (6, .pointer (some ⟨W3.heap.size, 0, none⟩))]) (R := fun i W => Below w.heap.size w W ∧ Below W3.heap.size W3 W ∧ Cb W W3.heap.size (iD x o p0 d0 p1 d1 p2 d2 i.1.1 i.1.2 p4 d4 p5 d5) 30 ∧ Cb W W1.heap.size zC 30 ∧ GrO (W3.heap.size + 1) W (.slice i.1.1 (x.ol ++ [o]).length i.1.2) (xs ++ [(o, .slice i.2.1 o.load.length i.2.2)]) ∧ L.Li W (.slice i.2.1 o.load.length i.2.2) o.load ∧ Fr (W3.heap.size + 1) (.slice i.2.1 o.load.length i.2.2)) ((o9, c9), (pl9, dl9)) (by kernel_rfl) ?_
   exact ⟨HB, HB3, hq, M4, HG, HL, HFr⟩
  refine sd_mem (i := 2) rfl (by kernel_rfl) rfl rfl (.agg (oC o oo co)) (Y0) (ex_load rfl MO (by kernel_rfl) Tryz.underlying44 rfl (by kernel_rfl)) trivial ?_ AllReadyH.nil
  refine sd_all [1, 3] (by kernel_rfl) (by decide) ?_
  refine sd_mem (i := 1) rfl (by kernel_rfl) rfl rfl (.slice p3 x.ol.length x.ol.length) (Y0) (ex_load1 rfl (M6.cell 3 rfl) (by kernel_rfl) Tryz.underlying27 rfl) trivial ?_ ?_
  ·refine sd_all [3] (by kernel_rfl) (by decide) ?_
   refine sd_call (i := 3) rfl (by kernel_rfl) rfl rfl (copyOfOrder_n o (.slice oo o.load.length co) hlo Y0 (hl.below HB)) (by kernel_rfl) ?_ AllReadyH.nil
   rintro e Y1 ⟨pl9, dl9, rfl, HL, HFr, hb⟩
   refine ⟨_, rfl, trivial, ?_⟩
   replace HB := over HB hb
   replace MX := MX.below hb
   replace MO := MO.below hb
   replace M4 := M4.below hb
   replace HB3 := over HB3 hb
   replace M6 := M6.below hb
   have z8 := hb.size
   clear hb
   replace HFr := HFr.mono (C := W3.heap.size + 1) (by omega)
   refine sd_all [4] (by kernel_rfl) (by decide) ?_
   refine sd_mem (i := 4) rfl (by kernel_rfl) rfl rfl (.slice (some ⟨Y1.heap.size, 0, none⟩) 1 1) (Y1.alloc (.cells (oCells o (.slice pl9 o.load.length dl9)) 44)) (by kernel_rfl) trivial ?_ AllReadyH.nil
   have M6a := M6.old (.cells (oCells o (.slice pl9 o.load.length dl9)) 44)
   obtain ⟨v9, Y2, hrun, ⟨o9, c9, rfl⟩, HG, hb⟩ := apF_o 27 o pl9 dl9 hxs (own_below HG3 HB3) (by omega)
   replace HB := over HB hb
   replace MX := MX.below hb
   replace MO := MO.below hb
   replace M4 := M4.below hb
   replace HB3 := over HB3 hb
   replace M6 := M6.below hb
   replace HL := HL.below hb
   have z9 := hb.size
   clear hb
   replace HG : GrO (W3.heap.size + 1) _ _ _ := World.ownsRow.mono HG (by omega)
   refine sd_all [5] (by kernel_rfl) (by decide) ?_
   refine sd_mem (i := 5) rfl (by kernel_rfl) rfl rfl (.slice o9 (x.ol ++ [o]).length c9) (Y2) (ex_append rfl (by kernel_rfl) (by kernel_rfl) hrun) trivial ?_ AllReadyH.nil
   clear hrun M6a
   refine sd_take 6 rfl (by kernel_rfl) (by kernel_rfl) (by kernel_rfl) (by kernel_rfl) rfl rfl (.pointer (some ⟨W3.heap.size, 3, none⟩)) (fun w9 _ => by kernel_rfl) (fun _ _ _ h => h) trivial ?_
   refine sd_all [7] (by kernel_rfl) (by decide) ?_
   refine sd_do (i := 7) rfl (by kernel_rfl) rfl (Y2.setCell ⟨W3.heap.size, 3, none⟩ (.slice o9 (x.ol ++ [o]).length c9)) (ex_store1 rfl (M6.cell 3 rfl) (M6.f 3) rfl (by kernel_rfl) (by kernel_rfl) (by kernel_rfl)) trivial ?_ AllReadyH.nil
   obtain ⟨Y3, hW⟩ : ∃ W, Y2.setCell ⟨W3.heap.size, 3, none⟩ (.slice o9 (x.ol ++ [o]).length c9) = W := ⟨_, rfl⟩
   have hg : Y2.grownBy Y3 (some W3.heap.size) := hW ▸ grown_cell _ _ _ _
   have hq : Cb Y3 W3.heap.size (iD x o p0 d0 p1 d1 p2 d2 o9 c9 p4 d4 p5 d5) 30 := hW ▸ Cb.set M6 3 _
   rw [hW]
   replace HB := HB.grown hg (by omega) (fun x e => by simp only [Option.some.injEq] at e; omega)
   replace MX := MX.kept hg (by omega)
   replace MO := MO.kept hg (by omega)
   replace M4 := M4.kept hg (by omega)
   replace HB3 := HB3.grown hg (by omega) (fun x e => by simp only [Option.some.injEq] at e; omega)
   have z10 := hg.size
   replace HL := li_kept HL hg (HFr.ne (by omega))
   replace HG : GrO _ _ _ _ := World.ownsRow.kept HG hg (.inr (fun e => by have := (World.ownsRow.lt HG _ e).1; omega))
   clear hW hg M6
   refine sd_done (by kernel_rfl) ?_
   refine sx_norm ?_
   refine sx_meet (L := fun (_ : (Option Addr × Nat) × (Option Addr × Nat)) => [(2, .pointer (some ⟨w.heap.size, 0, none⟩)), (3, .pointer (some ⟨W0.heap.size, 0, none⟩)), (4, .pointer (some ⟨W1.heap.size, 0, none⟩)), (5, .int .i64 0), (6, .pointer (some ⟨W3.heap.size, 0, none⟩))]) (R := fun i W => Below w.heap.size w W ∧ Below W3.heap.size W3 W ∧ Cb W W3.heap.size (iD x o p0 d0 p1 d1 p2 d2 i.1.1 i.1.2 p4 d4 p5 d5) 30 ∧ Cb W W1.heap.size zC 30 ∧ GrO (W3.heap.size + 1) W (.slice i.1.1 (x.ol ++ [o]).length i.1.2) (xs ++ [(o, .slice i.2.1 o.load.length i.2.2)]) ∧ L.Li W (.slice i.2.1 o.load.length i.2.2) o.load ∧ Fr (W3.heap.size + 1) (.slice i.2.1 o.load.length i.2.2)) ((o9, c9), (pl9, dl9)) (by kernel_rfl) ?_
   exact ⟨HB, HB3, hq, M4, HG, HL, HFr⟩
  refine sd_call (i := 3) rfl (by kernel_rfl) rfl rfl (copyOfOrder_n o (.slice oo o.load.length co) hlo Y0 (hl.below HB)) (by kernel_rfl) ?_ AllReadyH.nil
  rintro e Y1 ⟨pl9, dl9, rfl, HL, HFr, hb⟩
  refine ⟨_, rfl, trivial, ?_⟩
  replace HB := over HB hb
  replace MX := MX.below hb
  replace MO := MO.below hb
  replace M4 := M4.below hb
  replace HB3 := over HB3 hb
  replace M6 := M6.below hb
  have z8 := hb.size
  clear hb
  replace HFr := HFr.mono (C := W3.heap.size + 1) (by omega)
  refine sd_all [1, 4] (by kernel_rfl) (by decide) ?_
  refine sd_mem (i := 1) rfl (by kernel_rfl) rfl rfl (.slice p3 x.ol.length x.ol.length) (Y1) (ex_load1 rfl (M6.cell 3 rfl) (by kernel_rfl) Tryz.underlying27 rfl) trivial ?_ ?_
  ·refine sd_all [4] (by kernel_rfl) (by decide) ?_
   refine sd_mem (i := 4) rfl (by kernel_rfl) rfl rfl (.slice (some ⟨Y1.heap.size, 0, none⟩) 1 1) (Y1.alloc (.cells (oCells o (.slice pl9 o.load.length dl9)) 44)) (by kernel_rfl) trivial ?_ AllReadyH.nil
   have M6a := M6.old (.cells (oCells o (.slice pl9 o.load.length dl9)) 44)
   obtain ⟨v9, Y2, hrun, ⟨o9, c9, rfl⟩, HG, hb⟩ := apF_o 27 o pl9 dl9 hxs (own_below HG3 HB3) (by omega)
   replace HB := over HB hb
   replace MX := MX.below hb
   replace MO := MO.below hb
   replace M4 := M4.below hb
   replace HB3 := over HB3 hb
   replace M6 := M6.below hb
   replace HL := HL.below hb
   have z9 := hb.size
   clear hb
   replace HG : GrO (W3.heap.size + 1) _ _ _ := World.ownsRow.mono HG (by omega)
   refine sd_all [5] (by kernel_rfl) (by decide) ?_
   refine sd_mem (i := 5) rfl (by kernel_rfl) rfl rfl (.slice o9 (x.ol ++ [o]).length c9) (Y2) (ex_append rfl (by kernel_rfl) (by kernel_rfl) hrun) trivial ?_ AllReadyH.nil
   clear hrun M6a
   refine sd_take 6 rfl (by kernel_rfl) (by kernel_rfl) (by kernel_rfl) (by kernel_rfl) rfl rfl (.pointer (some ⟨W3.heap.size, 3, none⟩)) (fun w9 _ => by kernel_rfl) (fun _ _ _ h => h) trivial ?_
   refine sd_all [7] (by kernel_rfl) (by decide) ?_
   refine sd_do (i := 7) rfl (by kernel_rfl) rfl (Y2.setCell ⟨W3.heap.size, 3, none⟩ (.slice o9 (x.ol ++ [o]).length c9)) (ex_store1 rfl (M6.cell 3 rfl) (M6.f 3) rfl (by kernel_rfl) (by kernel_rfl) (by kernel_rfl)) trivial ?_ AllReadyH.nil
   obtain ⟨Y3, hW⟩ : ∃ W, Y2.setCell ⟨W3.heap.size, 3, none⟩ (.slice o9 (x.ol ++ [o]).length c9) = W := ⟨_, rfl⟩
   have hg : Y2.grownBy Y3 (some W3.heap.size) := hW ▸ grown_cell _ _ _ _
   have hq : Cb Y3 W3.heap.size (iD x o p0 d0 p1 d1 p2 d2 o9 c9 p4 d4 p5 d5) 30 := hW ▸ Cb.set M6 3 _
   rw [hW]
   replace HB := HB.grown hg (by omega) (fun x e => by simp only [Option.some.injEq] at e; omega)
   replace MX := MX.kept hg (by omega)
   replace MO := MO.kept hg (by omega)
   replace M4 := M4.kept hg (by omega)
   replace HB3 := HB3.grown hg (by omega) (fun x e => by simp only [Option.some.injEq] at e; omega)
   have z10 := hg.size
   replace HL := li_kept HL hg (HFr.ne (by omega))
   replace HG : GrO _ _ _ _ := World.ownsRow.kept HG hg (.inr (fun e => by have := (World.ownsRow.lt HG _ e).1; omega))
   clear hW hg M6
   refine sd_done (by kernel_rfl) ?_
   refine sx_norm ?_
   refine sx_meet (L := fun (_ : (Option Addr × Nat) × (Option Addr × Nat)) => [(2, .pointer (some ⟨w.heap.size, 0, none⟩)), (3, .pointer (some ⟨W0.heap.size, 0, none⟩)), (4, .pointer (some ⟨W1.heap.size, 0, none⟩)), (5, .int .i64 0), (6, .pointer (some ⟨W3.heap.size, 0, none⟩))]) (R := fun i W => Below w.heap.size w W ∧ Below W3.heap.size W3 W ∧ Cb W W3.heap.size (iD x o p0 d0 p1 d1 p2 d2 i.1.1 i.1.2 p4 d4 p5 d5) 30 ∧ Cb W W1.heap.size zC 30 ∧ GrO (W3.heap.size + 1) W (.slice i.1.1 (x.ol ++ [o]).length i.1.2) (xs ++ [(o, .slice i.2.1 o.load.length i.2.2)]) ∧ L.Li W (.slice i.2.1 o.load.length i.2.2) o.load ∧ Fr (W3.heap.size + 1) (.slice i.2.1 o.load.length i.2.2)) ((o9, c9), (pl9, dl9)) (by kernel_rfl) ?_
   exact ⟨HB, HB3, hq, M4, HG, HL, HFr⟩
  refine sd_mem (i := 4) rfl (by kernel_rfl) rfl rfl (.slice (some ⟨Y1.heap.size, 0, none⟩) 1 1) (Y1.alloc (.cells (oCells o (.slice pl9 o.load.length dl9)) 44)) (by kernel_rfl) trivial ?_ AllReadyH.nil
  have M6a := M6.old (.cells (oCells o (.slice pl9 o.load.length dl9)) 44)
  obtain ⟨v9, Y2, hrun, ⟨o9, c9, rfl⟩, HG, hb⟩ := apF_o 27 o pl9 dl9 hxs (own_below HG3 HB3) (by omega)
  replace HB := over HB hb
  replace MX := MX.below hb
  replace MO := MO.below hb
  replace M4 := M4.below hb
  replace HB3 := over HB3 hb
  replace M6 := M6.below hb
  replace HL := HL.below hb
  have z9 := hb.size
  clear hb
  replace HG : GrO (W3.heap.size + 1) _ _ _ := World.ownsRow.mono HG (by omega)
  refine sd_all [1] (by kernel_rfl) (by decide) ?_
  refine sd_mem (i := 1) rfl (by kernel_rfl) rfl rfl (.slice p3 x.ol.length x.ol.length) (Y1.alloc (.cells (oCells o (.slice pl9 o.load.length dl9)) 44)) (ex_load1 rfl (M6a.cell 3 rfl) (by kernel_rfl) Tryz.underlying27 rfl) trivial ?_ AllReadyH.nil
  refine sd_all [5] (by kernel_rfl) (by decide) ?_
  refine sd_mem (i := 5) rfl (by kernel_rfl) rfl rfl (.slice o9 (x.ol ++ [o]).length c9) (Y2) (ex_append rfl (by kernel_rfl) (by kernel_rfl) hrun) trivial ?_ AllReadyH.nil
  clear hrun M6a
  refine sd_take 6 rfl (by kernel_rfl) (by kernel_rfl) (by kernel_rfl) (by kernel_rfl) rfl rfl (.pointer (some ⟨W3.heap.size, 3, none⟩)) (fun w9 _ => by kernel_rfl) (fun _ _ _ h => h) trivial ?_
  refine sd_all [7] (by kernel_rfl) (by decide) ?_
  refine sd_do (i := 7) rfl (by kernel_rfl) rfl (Y2.setCell ⟨W3.heap.size, 3, none⟩ (.slice o9 (x.ol ++ [o]).length c9)) (ex_store1 rfl (M6.cell 3 rfl) (M6.f 3) rfl (by kernel_rfl) (by kernel_rfl) (by kernel_rfl)) trivial ?_ AllReadyH.nil
  obtain ⟨Y3, hW⟩ : ∃ W, Y2.setCell ⟨W3.heap.size, 3, none⟩ (.slice o9 (x.ol ++ [o]).length c9) = W := ⟨_, rfl⟩
  have hg : Y2.grownBy Y3 (some W3.heap.size) := hW ▸ grown_cell _ _ _ _
  have hq : Cb Y3 W3.heap.size (iD x o p0 d0 p1 d1 p2 d2 o9 c9 p4 d4 p5 d5) 30 := hW ▸ Cb.set M6 3 _
  rw [hW]
  replace HB := HB.grown hg (by omega) (fun x e => by simp only [Option.some.injEq] at e; omega)
  replace MX := MX.kept hg (by omega)
  replace MO := MO.kept hg (by omega)
  replace M4 := M4.kept hg (by omega)
  replace HB3 := HB3.grown hg (by omega) (fun x e => by simp only [Option.some.injEq] at e; omega)
  have z10 := hg.size
  replace HL := li_kept HL hg (HFr.ne (by omega))
  replace HG : GrO _ _ _ _ := World.ownsRow.kept HG hg (.inr (fun e => by have := (World.ownsRow.lt HG _ e).1; omega))
  clear hW hg M6
  refine sd_done (by kernel_rfl) ?_
  refine sx_norm ?_
  refine sx_meet (L := fun (_ : (Option Addr × Nat) × (Option Addr × Nat)) => [(2, .pointer (some ⟨w.heap.size, 0, none⟩)), (3, .pointer (some ⟨W0.heap.size, 0, none⟩)), (4, .pointer (some ⟨W1.heap.size, 0, none⟩)), (5, .int .i64 0), (6, .pointer (some ⟨W3.heap.size, 0, none⟩))]) (R := fun i W => Below w.heap.size w W ∧ Below W3.heap.size W3 W ∧ Cb W W3.heap.size (iD x o p0 d0 p1 d1 p2 d2 i.1.1 i.1.2 p4 d4 p5 d5) 30 ∧ Cb W W1.heap.size zC 30 ∧ GrO (W3.heap.size + 1) W (.slice i.1.1 (x.ol ++ [o]).length i.1.2) (xs ++ [(o, .slice i.2.1 o.load.length i.2.2)]) ∧ L.Li W (.slice i.2.1 o.load.length i.2.2) o.load ∧ Fr (W3.heap.size + 1) (.slice i.2.1 o.load.length i.2.2)) ((o9, c9), (pl9, dl9)) (by kernel_rfl) ?_
  exact ⟨HB, HB3, hq, M4, HG, HL, HFr⟩
 clear M6 MX MO HB HB3 M4
 rintro ⟨⟨o9, c9⟩, ⟨pl9, dl9⟩⟩ g9 W6 ⟨HB, HB3, M6, M4, HG, HL, HFr⟩
 simp only at M6 HG HL HFr
 have z90 := HB.size
 have z91 := HB3.size
 have yM6 := M6.lt
 have yM4 := M4.lt
 have HI := HM.ins.below HB3
 refine wp_seq ?_
 refine wp_seq ?_
 refine wp_region_lit ?_
 refine sx_load (by kernel_rfl) rfl rfl rfl M6 (by kernel_rfl) Tryz.underlying30 rfl (by kernel_rfl) ?_
 refine sx_call (by kernel_rfl) rfl rfl (instCheck_n ⟨p0, d0, p1, d1, p2, d2, o9, c9, p4, d4, p5, d5⟩ (addI x o) hIW W6 (hT.below (Nat.le_refl _) HB) ⟨HI.h0, HI.h1, HI.h2, os_of hxs HG (HE3.below HB3) HL, HI.h4, HI.h5⟩) (by kernel_rfl) ?_
 rintro e W7 ⟨of, cf, rfl, ⟨HFs, HGl, -⟩, hb⟩
 refine ⟨_, rfl, ?_⟩
 replace HB := over HB hb
 replace HB3 := over HB3 hb
 replace M6 := M6.below hb
 replace M4 := M4.below hb
 replace HG := own_below HG hb
 replace HL := HL.below hb
 have z7 := hb.size
 clear hb
 clear HI
 refine sx_val (by kernel_rfl) rfl rfl (.slice of (inF (addI x o)).length cf) (by kernel_rfl) ?_
 refine wpList_nil ?_
 refine sx_norm ?_
 refine wp_seq ?_
 refine wp_region_lit ?_
 refine sx_val (by kernel_rfl) rfl rfl (.slice of (inF (addI x o)).length cf) (by kernel_rfl) ?_
 refine sx_val (by kernel_rfl) rfl rfl (.int .i64 ((inF (addI x o)).length)) (by kernel_rfl) ?_
 by_cases h0 : inF (addI x o) = []
 ·refine sx_bool (by kernel_rfl) rfl rfl (decide (((inF (addI x o)).length : Int) > 0)) false (by kernel_rfl) (decide_eq_false (by rw [h0]; decide)) ?_
  refine wpList_nil ?_
  refine sx_norm ?_
  refine sx_false (by kernel_rfl) ?_
  refine wp_skip ?_
  refine sx_norm ?_
  refine wp_seq ?_
  have HI := HM.below HB3
  have HE := HE3.below HB3
  refine wp_region_lit ?_
  refine sx_load (by kernel_rfl) rfl rfl rfl M6 (by kernel_rfl) Tryz.underlying30 rfl (by kernel_rfl) ?_
  refine sx_store (cells := (iD x o p0 d0 p1 d1 p2 d2 o9 c9 p4 d4 p5 d5)) (by kernel_rfl) rfl rfl M4 (by kernel_rfl) (by kernel_rfl) (by kernel_rfl) (by kernel_rfl) (by kernel_rfl) ?_
  obtain ⟨W8, hW⟩ : ∃ W, W7.setRow (W1.heap.size) (iD x o p0 d0 p1 d1 p2 d2 o9 c9 p4 d4 p5 d5) = W := ⟨_, rfl⟩
  have hg : W7.grownBy W8 (some (W1.heap.size)) := hW ▸ grown_row _ _ _
  have hq : Cb W8 (W1.heap.size) (iD x o p0 d0 p1 d1 p2 d2 o9 c9 p4 d4 p5 d5) 30 := hW ▸ Cb.row M4 _
  rw [hW]
  replace HB := HB.grown hg (by omega) (fun x e => by simp only [Option.some.injEq] at e; omega)
  replace M6 := M6.kept hg (by omega)
  replace HG := World.ownsRow.kept HG hg (.inr (fun e => by have := (World.ownsRow.lt HG _ e).1; omega))
  replace HL := li_kept HL hg (HFr.ne (by omega))
  replace HI := HI.kept hg (by omega)
  replace HE := HE.kept hg (HFx.br (by omega))
  have z8 := hg.size
  replace M4 := hq
  clear hq hg hW
  refine sx_val (by kernel_rfl) rfl rfl (.int .i64 0) (by kernel_rfl) ?_
  refine wpList_nil ?_
  refine sx_norm ?_
  refine wp_ret ?_
  exact bodyPost_ret (v := .tuple #[.agg (iD x o p0 d0 p1 d1 p2 d2 o9 c9 p4 d4 p5 d5), .int .i64 0]) (res_add M4 (by kernel_rfl) (by kernel_rfl)) rfl ⟨HB, .inl ⟨h0, ⟨p0, d0, p1, d1, p2, d2, o9, c9, p4, d4, p5, d5⟩, rfl, ⟨HI.h0, HI.h1.sl, HI.h2.sl, os_of hxs HG HE HL, HI.h4, HI.h5⟩⟩⟩
 ·refine sx_bool (by kernel_rfl) rfl rfl (decide (((inF (addI x o)).length : Int) > 0)) true (by kernel_rfl) (decide_eq_true (by have := List.length_pos_iff.2 h0; omega)) ?_
  refine wpList_nil ?_
  refine sx_norm ?_
  refine sx_true (by kernel_rfl) ?_
  refine wp_seq ?_
  obtain ⟨pf, lf, hin⟩ := List.exists_cons_of_ne_nil h0
  have hln := List.length_pos_iff.2 h0
  rw [hin] at HFs
  obtain ⟨bf, qf, rfl, HC⟩ := fs_first HFs
  have hbf := (World.ownsRow.lt HGl bf rfl).1
  refine sd_begin (fun _ => True) (by kernel_rfl) trivial ?_
  obtain ⟨Y0, hW⟩ : ∃ W, W7.drew = W := ⟨_, rfl⟩
  have hb : Below W7.heap.size W7 Y0 := hW ▸ below_drew (Below.refl _ _)
  rw [hW]
  clear hW
  replace HB := over HB hb
  replace M6 := M6.below hb
  replace M4 := M4.below hb
  replace HC := cell_below HC hb
  have z8 := hb.size
  clear hb
  refine sd_take 0 rfl (by kernel_rfl) (by kernel_rfl) (by kernel_rfl) (by kernel_rfl) rfl rfl (.agg zC) (fun w9 _ => by kernel_rfl) (fun _ _ _ h => h) trivial ?_
  refine sd_take 1 rfl (by kernel_rfl) (by kernel_rfl) (by kernel_rfl) (by kernel_rfl) rfl rfl (.slice (some ⟨bf, qf, none⟩) (inF (addI x o)).length cf) (fun w9 _ => by kernel_rfl) (fun _ _ _ h => h) trivial ?_
  refine sd_take 2 rfl (by kernel_rfl) (by kernel_rfl) (by kernel_rfl) (by kernel_rfl) rfl rfl (.pointer (some ⟨bf, qf, none⟩)) (fun w9 _ => ex_index rfl bf qf _ cf 0 2 qf (by kernel_rfl) (by kernel_rfl) Tryz.underlying33 (by kernel_rfl) hln rfl) (fun _ _ _ h => h) trivial ?_
  refine sd_take 3 rfl (by kernel_rfl) (by kernel_rfl) (by kernel_rfl) (by kernel_rfl) rfl rfl (.pointer (some ⟨bf, qf, none⟩)) (fun w9 _ => by kernel_rfl) (fun _ _ _ h => h) trivial ?_
  refine sd_all [4, 5] (by kernel_rfl) (by decide) ?_
  refine sd_mem (i := 4) rfl (by kernel_rfl) rfl rfl (.int .i64 pf.1) (Y0) (ex_load1 rfl HC (by kernel_rfl) Tryz.underlying35 rfl) trivial ?_ ?_
  ·refine sd_all [5] (by kernel_rfl) (by decide) ?_
   refine sd_do (i := 5) rfl (by kernel_rfl) rfl (Y0.setRow W1.heap.size zC) (ex_store (cells := zC) rfl M4 (by kernel_rfl) (by kernel_rfl) (by kernel_rfl) (by kernel_rfl) (by kernel_rfl)) trivial ?_ AllReadyH.nil
   obtain ⟨Y1, hW⟩ : ∃ W, Y0.setRow (W1.heap.size) zC = W := ⟨_, rfl⟩
   have hg : Y0.grownBy Y1 (some (W1.heap.size)) := hW ▸ grown_row _ _ _
   have hq : Cb Y1 (W1.heap.size) zC 30 := hW ▸ Cb.row M4 _
   rw [hW]
   replace HB := HB.grown hg (by omega) (fun x e => by simp only [Option.some.injEq] at e; omega)
   replace M6 := M6.kept hg (by omega)
   replace HC := cell_grown HC hg (by omega)
   have z9 := hg.size
   replace M4 := hq
   clear hq hg hW
   refine sd_take 6 rfl (by kernel_rfl) (by kernel_rfl) (by kernel_rfl) (by kernel_rfl) rfl rfl (.int .i64 pf.1) (fun w9 _ => by kernel_rfl) (fun _ _ _ h => h) trivial ?_
   refine sd_done (by kernel_rfl) ?_
   refine sx_norm ?_
   refine wp_ret ?_
   refine sx_rs ?_
   exact bodyPost_ret (v := .tuple #[.agg zC, .int .i64 pf.1]) (res_add M4 (by kernel_rfl) (by kernel_rfl)) rfl ⟨HB, .inr ⟨pf, lf, hin, rfl⟩⟩
  refine sd_do (i := 5) rfl (by kernel_rfl) rfl (Y0.setRow W1.heap.size zC) (ex_store (cells := zC) rfl M4 (by kernel_rfl) (by kernel_rfl) (by kernel_rfl) (by kernel_rfl) (by kernel_rfl)) trivial ?_ AllReadyH.nil
  obtain ⟨Y1, hW⟩ : ∃ W, Y0.setRow (W1.heap.size) zC = W := ⟨_, rfl⟩
  have hg : Y0.grownBy Y1 (some (W1.heap.size)) := hW ▸ grown_row _ _ _
  have hq : Cb Y1 (W1.heap.size) zC 30 := hW ▸ Cb.row M4 _
  rw [hW]
  replace HB := HB.grown hg (by omega) (fun x e => by simp only [Option.some.injEq] at e; omega)
  replace M6 := M6.kept hg (by omega)
  replace HC := cell_grown HC hg (by omega)
  have z9 := hg.size
  replace M4 := hq
  clear hq hg hW
  refine sd_all [4] (by kernel_rfl) (by decide) ?_
  refine sd_mem (i := 4) rfl (by kernel_rfl) rfl rfl (.int .i64 pf.1) (Y1) (ex_load1 rfl HC (by kernel_rfl) Tryz.underlying35 rfl) trivial ?_ AllReadyH.nil
  refine sd_take 6 rfl (by kernel_rfl) (by kernel_rfl) (by kernel_rfl) (by kernel_rfl) rfl rfl (.int .i64 pf.1) (fun w9 _ => by kernel_rfl) (fun _ _ _ h => h) trivial ?_
  refine sd_done (by kernel_rfl) ?_
  refine sx_norm ?_
  refine wp_ret ?_
  refine sx_rs ?_
  exact bodyPost_ret (v := .tuple #[.agg zC, .int .i64 pf.1]) (res_add M4 (by kernel_rfl) (by kernel_rfl)) rfl ⟨HB, .inr ⟨pf, lf, hin, rfl⟩⟩
end Go.Proofs.YtaallpebfcadjaaGreatDoor.T
namespace Go.Proofs.YtaallpebfcadjaaGreatDoor.T
open Go.RowKit Go.Deep
set_option maxRecDepth 8000
attribute [local irreducible] wpList Code.wp wpAnyH
theorem cell_belowA {w w' : World} {a : Addr} {v : Value} (h : w.cell? a = some v) (hb : Below w.heap.size w w') : w'.cell? a = some v := by
 have hl := World.block_lt_of_cell? w _ h
 have e := hb.block a.block hl
 unfold World.cell? at h ⊢
 rw [e]
 exact h
theorem one_flk {w : World} {xs : List (OrT × Value)} (he : ErO w xs) : ∀ u ∈ flk ccO xs, u.oneCell' = true := by
 intro u hu
 unfold flk at hu
 obtain ⟨⟨a, v⟩, hx, hu⟩ := List.mem_flatMap.1 hu
 obtain ⟨p, d, e, -⟩ := he _ hx
 simp only at e
 subst e
 exact oneO a p d u hu
theorem os_none {w : World} {oa : Option Addr} {c : Nat} {l : List OrT} (h : Os w (.slice oa l.length c) l) : oa = none → l = [] := by
 intro h0
 subst h0
 obtain ⟨oa', c', hv, hs⟩ := h
 simp only [Value.slice.injEq] at hv
 obtain ⟨rfl, -, -⟩ := hv
 cases l with
 | nil => rfl
 | cons y l => obtain ⟨b, o, vc, e, -⟩ := hs 0 (by simp); cases e
theorem apW_o {w W : World} {oa : Option Addr} {c : Nat} {l : List OrT} (ty : TypeId) (h : Os w (.slice oa l.length c) l) (hn : l.length ≤ 1000000) (hb : Below w.heap.size w W) :
  ∃ xs : List (OrT × Value), xs.map (·.1) = l ∧ ErO w xs ∧ ∃ v' w', (Builtin.append_ #[27, 27] ty #[.slice (some ⟨W.heap.size, 0, none⟩) 0 0, .slice oa l.length c]).run Tryz.prog (W.alloc (.cells #[] 44)) = .ok v' w' ∧ ((∃ o' c', v' = .slice o' l.length c') ∧ GrO W.heap.size w' v' xs ∧ Below W.heap.size W w') := by
 obtain ⟨xs, hxs, he, hc⟩ := os_cells h
 exact ⟨xs, hxs, he, apE_os ty hxs (fun ad e j u hu => by have h1 := hc ad e j u hu; exact cell_belowA h1 hb) (one_flk he) (os_none h) hn⟩
theorem apL_o {B : Nat} {w : World} {v : Value} {l : List OrT} {xs : List (OrT × Value)} (ty : TypeId) (a : OrT) (p : Option Addr) (d : Nat) (hx : xs.map (·.1) = l) (h : GrO B w v xs) (hB : B ≤ w.heap.size) (hn : l.length ≤ 1000000) :
  ∃ v' w', (Builtin.append_ #[27, 27] ty #[v, .slice (some ⟨w.heap.size, 0, none⟩) 1 1]).run Tryz.prog (w.alloc (.cells (oCells a (.slice p a.load.length d)) 44)) = .ok v' w' ∧ ((∃ o' c', v' = .slice o' (l ++ [a]).length c') ∧ GrO B w' v' (xs ++ [(a, .slice p a.load.length d)]) ∧ Below B w w' ∧ ∀ q (cs : Array Value) (t : TypeId), Cb w q cs t → q < B → Cb w' q cs t) := by
 have hlx : xs.length = l.length := by rw [← hx, List.length_map]
 obtain ⟨v', w', hrun, ⟨o', c', rfl⟩, hg, hb, hk⟩ := apG_o ty a p d h hB (by omega)
 exact ⟨_, w', hrun, ⟨o', c', by rw [hlx, List.length_append]; rfl⟩, hg, hb, fun q cs t hc hq => hk q cs t hc (fun e => by have := (World.ownsRow.lt h q e).1; omega)⟩
theorem res_addR {n : Nat} {g : Nat → Value} {l : List (Nat × Value)} {w : World} {q : Nat} {cs : Array Value} {e : Value} (hc : Cb w q cs 30) (h4 : slotV g l 4 = .pointer (some ⟨q, 0, none⟩)) (h5 : slotV g l 5 = e) (hs : cs.size = 6 := by rfl) (hn : Nat.blt 4 n = true := by rfl) (hn5 : Nat.blt 5 n = true := by rfl) :
  (results Tryz.f19 (fr n g l).tmps).run Tryz.prog w = .ok (.tuple #[.agg cs, e]) w := by
 have e4 := slot_get (n := n) (g := g) (l := l) hn
 have e5 := slot_get (n := n) (g := g) (l := l) hn5
 rw [h4] at e4
 rw [h5] at e5
 have hl := run_loadVar_row (P := Tryz.prog) w q 30 30 cs (0, 0) _ hc Tryz.underlying30 rfl (by rw [hs]; kernel_rfl)
 simp only [results, Tryz.results19, List.mapM_toArray, List.mapM_cons, List.mapM_nil, Sem.run_bind, Sem.run_pure, Result.andThen_ok, e4, e5, asAddr, hl, map_eq_pure_bind]
 rfl
theorem refAddFull (k : Iv) (x : InT) (o : OrT) (oo : Option Addr) (co : Nat) (h10 : 10 ≤ x.ol.length) (w : World) (h : Ins w k x) :
  Calls Tryz.prog 19 #[k.v x, orV o (.slice oo o.load.length co)] w fun e w' => e = noAdd 4 ∧ Below w.heap.size w w' := by
 obtain ⟨o0, c0, o1, c1, o2, c2, o3, c3, o4, c4, o5, c5⟩ := k
 clear h
 have HB : Below w.heap.size w w := Below.refl _ _
 show Calls _ _ #[.agg (iC x o0 c0 o1 c1 o2 c2 o3 c3 o4 c4 o5 c5), .agg (oC o oo co)] _ _
 refine sx_enter Tryz.func19 rfl [(0, .agg (iC x o0 c0 o1 c1 o2 c2 o3 c3 o4 c4 o5 c5)), (1, .agg (oC o oo co))] (by kernel_rfl) ?_
 refine wp_seq ?_
 refine wp_region_lit ?_
 obtain ⟨W0, hW⟩ : ∃ W, w.alloc (.cells (iC x o0 c0 o1 c1 o2 c2 o3 c3 o4 c4 o5 c5) 30) = W := ⟨_, rfl⟩
 have hb := hW ▸ below_alloc w (.cells (iC x o0 c0 o1 c1 o2 c2 o3 c3 o4 c4 o5 c5) 30)
 have hq : Cb W0 w.heap.size (iC x o0 c0 o1 c1 o2 c2 o3 c3 o4 c4 o5 c5) 30 := hW ▸ Cb.made w (iC x o0 c0 o1 c1 o2 c2 o3 c3 o4 c4 o5 c5) 30
 refine sx_mem (by kernel_rfl) rfl rfl (.pointer (some ⟨w.heap.size, 0, none⟩)) W0 (by rw [← hW]; kernel_rfl) ?_
 replace HB := over HB hb
 have z1 := hb.size
 have MX := hq
 have yMX := hq.lt
 clear hq hb hW
 obtain ⟨W1, hW⟩ : ∃ W, W0.alloc (.cells (oC o oo co) 44) = W := ⟨_, rfl⟩
 have hb := hW ▸ below_alloc W0 (.cells (oC o oo co) 44)
 have hq : Cb W1 W0.heap.size (oC o oo co) 44 := hW ▸ Cb.made W0 (oC o oo co) 44
 refine sx_mem (by kernel_rfl) rfl rfl (.pointer (some ⟨W0.heap.size, 0, none⟩)) W1 (by rw [← hW]; kernel_rfl) ?_
 replace HB := over HB hb
 replace MX := MX.below hb
 have z2 := hb.size
 have MO := hq
 have yMO := hq.lt
 clear hq hb hW
 obtain ⟨W2, hW⟩ : ∃ W, W1.alloc (.cells zC 30) = W := ⟨_, rfl⟩
 have hb := hW ▸ below_alloc W1 (.cells zC 30)
 have hq : Cb W2 W1.heap.size zC 30 := hW ▸ Cb.made W1 zC 30
 refine sx_mem (by kernel_rfl) rfl rfl (.pointer (some ⟨W1.heap.size, 0, none⟩)) W2 (by rw [← hW]; kernel_rfl) ?_
 replace HB := over HB hb
 replace MX := MX.below hb
 replace MO := MO.below hb
 have z3 := hb.size
 have M4 := hq
 have yM4 := hq.lt
 clear hq hb hW
 refine sx_val (by kernel_rfl) rfl rfl (.int .i64 0) (by kernel_rfl) ?_
 refine wpList_nil ?_
 refine sx_norm ?_
 refine wp_seq ?_
 refine wp_seq ?_
 refine wp_region_lit ?_
 refine sx_val (by kernel_rfl) rfl rfl (.pointer (some ⟨w.heap.size, 3, none⟩)) (by kernel_rfl) ?_
 refine sx_load1 (by kernel_rfl) rfl rfl rfl (MX.cell 3 rfl) (by kernel_rfl) Tryz.underlying27 rfl ?_
 refine sx_val (by kernel_rfl) rfl rfl (.int .i64 x.ol.length) (by kernel_rfl) ?_
 refine sx_bool (by kernel_rfl) rfl rfl (decide ((x.ol.length : Int) ≥ 10)) true (by kernel_rfl) (decide_eq_true (by omega)) ?_
 refine wpList_nil ?_
 refine sx_norm ?_
 refine sx_true (by kernel_rfl) ?_
 refine wp_seq ?_
 refine wp_region_lit ?_
 refine sx_val (by kernel_rfl) rfl rfl (.agg zC) (by kernel_rfl) ?_
 refine sx_store (cells := zC) (by kernel_rfl) rfl rfl M4 (by kernel_rfl) (by kernel_rfl) (by kernel_rfl) (by kernel_rfl) (by kernel_rfl) ?_
 obtain ⟨W3, hW⟩ : ∃ W, W2.setRow (W1.heap.size) zC = W := ⟨_, rfl⟩
 have hg : W2.grownBy W3 (some (W1.heap.size)) := hW ▸ grown_row _ _ _
 have hq : Cb W3 (W1.heap.size) zC 30 := hW ▸ Cb.row M4 _
 rw [hW]
 replace HB := HB.grown hg (by omega) (fun x e => by simp only [Option.some.injEq] at e; omega)
 replace MX := MX.kept hg (by omega)
 replace MO := MO.kept hg (by omega)
 have z4 := hg.size
 replace M4 := hq
 clear hq hg hW
 refine sx_val (by kernel_rfl) rfl rfl (.int .i64 4) (by kernel_rfl) ?_
 refine wpList_nil ?_
 refine sx_norm ?_
 refine wp_ret ?_
 refine sx_rs ?_
 exact bodyPost_ret (v := .tuple #[.agg zC, .int .i64 4]) (res_addR M4 (by kernel_rfl) (by kernel_rfl)) rfl ⟨rfl, HB⟩
theorem refAddGood (k : Iv) (x : InT) (o : OrT) (oo : Option Addr) (co : Nat) (h10 : ¬ 10 ≤ x.ol.length) (hIB : InB (addI x o)) (w : World) (h : Ins w k x) (hl : L.Li w (.slice oo o.load.length co) o.load) :
  Calls Tryz.prog 19 #[k.v x, orV o (.slice oo o.load.length co)] w (AddQ (addI x o) w) := by
 obtain ⟨o0, c0, o1, c1, o2, c2, o3, c3, o4, c4, o5, c5⟩ := k
 have HB : Below w.heap.size w w := Below.refl _ _
 show Calls _ _ #[.agg (iC x o0 c0 o1 c1 o2 c2 o3 c3 o4 c4 o5 c5), .agg (oC o oo co)] _ _
 refine sx_enter Tryz.func19 rfl [(0, .agg (iC x o0 c0 o1 c1 o2 c2 o3 c3 o4 c4 o5 c5)), (1, .agg (oC o oo co))] (by kernel_rfl) ?_
 refine wp_seq ?_
 refine wp_region_lit ?_
 obtain ⟨W0, hW⟩ : ∃ W, w.alloc (.cells (iC x o0 c0 o1 c1 o2 c2 o3 c3 o4 c4 o5 c5) 30) = W := ⟨_, rfl⟩
 have hb := hW ▸ below_alloc w (.cells (iC x o0 c0 o1 c1 o2 c2 o3 c3 o4 c4 o5 c5) 30)
 have hq : Cb W0 w.heap.size (iC x o0 c0 o1 c1 o2 c2 o3 c3 o4 c4 o5 c5) 30 := hW ▸ Cb.made w (iC x o0 c0 o1 c1 o2 c2 o3 c3 o4 c4 o5 c5) 30
 refine sx_mem (by kernel_rfl) rfl rfl (.pointer (some ⟨w.heap.size, 0, none⟩)) W0 (by rw [← hW]; kernel_rfl) ?_
 replace HB := over HB hb
 have z1 := hb.size
 have MX := hq
 have yMX := hq.lt
 clear hq hb hW
 obtain ⟨W1, hW⟩ : ∃ W, W0.alloc (.cells (oC o oo co) 44) = W := ⟨_, rfl⟩
 have hb := hW ▸ below_alloc W0 (.cells (oC o oo co) 44)
 have hq : Cb W1 W0.heap.size (oC o oo co) 44 := hW ▸ Cb.made W0 (oC o oo co) 44
 refine sx_mem (by kernel_rfl) rfl rfl (.pointer (some ⟨W0.heap.size, 0, none⟩)) W1 (by rw [← hW]; kernel_rfl) ?_
 replace HB := over HB hb
 replace MX := MX.below hb
 have z2 := hb.size
 have MO := hq
 have yMO := hq.lt
 clear hq hb hW
 obtain ⟨W2, hW⟩ : ∃ W, W1.alloc (.cells zC 30) = W := ⟨_, rfl⟩
 have hb := hW ▸ below_alloc W1 (.cells zC 30)
 have hq : Cb W2 W1.heap.size zC 30 := hW ▸ Cb.made W1 zC 30
 refine sx_mem (by kernel_rfl) rfl rfl (.pointer (some ⟨W1.heap.size, 0, none⟩)) W2 (by rw [← hW]; kernel_rfl) ?_
 replace HB := over HB hb
 replace MX := MX.below hb
 replace MO := MO.below hb
 have z3 := hb.size
 have M4 := hq
 have yM4 := hq.lt
 clear hq hb hW
 refine sx_val (by kernel_rfl) rfl rfl (.int .i64 0) (by kernel_rfl) ?_
 refine wpList_nil ?_
 refine sx_norm ?_
 refine wp_seq ?_
 refine wp_seq ?_
 refine wp_region_lit ?_
 refine sx_val (by kernel_rfl) rfl rfl (.pointer (some ⟨w.heap.size, 3, none⟩)) (by kernel_rfl) ?_
 refine sx_load1 (by kernel_rfl) rfl rfl rfl (MX.cell 3 rfl) (by kernel_rfl) Tryz.underlying27 rfl ?_
 refine sx_val (by kernel_rfl) rfl rfl (.int .i64 x.ol.length) (by kernel_rfl) ?_
 refine sx_bool (by kernel_rfl) rfl rfl (decide ((x.ol.length : Int) ≥ 10)) false (by kernel_rfl) (decide_eq_false (by omega)) ?_
 refine wpList_nil ?_
 refine sx_norm ?_
 refine sx_false (by kernel_rfl) ?_
 refine wp_skip ?_
 refine sx_norm ?_
 refine wp_seq ?_
 refine wp_region_lit ?_
 refine sx_load (by kernel_rfl) rfl rfl rfl MX (by kernel_rfl) Tryz.underlying30 rfl (by kernel_rfl) ?_
 obtain ⟨W3, hW⟩ : ∃ W, W2.alloc (.cells zC 30) = W := ⟨_, rfl⟩
 have hb := hW ▸ below_alloc W2 (.cells zC 30)
 have hq : Cb W3 W2.heap.size zC 30 := hW ▸ Cb.made W2 zC 30
 refine sx_mem (by kernel_rfl) rfl rfl (.pointer (some ⟨W2.heap.size, 0, none⟩)) W3 (by rw [← hW]; kernel_rfl) ?_
 replace HB := over HB hb
 replace MX := MX.below hb
 replace MO := MO.below hb
 replace M4 := M4.below hb
 have z4 := hb.size
 have M6 := hq
 have yM6 := hq.lt
 clear hq hb hW
 refine sx_store (cells := (iC x o0 c0 o1 c1 o2 c2 o3 c3 o4 c4 o5 c5)) (by kernel_rfl) rfl rfl M6 (by kernel_rfl) (by kernel_rfl) (by kernel_rfl) (by kernel_rfl) (by kernel_rfl) ?_
 obtain ⟨W4, hW⟩ : ∃ W, W3.setRow (W2.heap.size) (iC x o0 c0 o1 c1 o2 c2 o3 c3 o4 c4 o5 c5) = W := ⟨_, rfl⟩
 have hg : W3.grownBy W4 (some (W2.heap.size)) := hW ▸ grown_row _ _ _
 have hq : Cb W4 (W2.heap.size) (iC x o0 c0 o1 c1 o2 c2 o3 c3 o4 c4 o5 c5) 30 := hW ▸ Cb.row M6 _
 rw [hW]
 replace HB := HB.grown hg (by omega) (fun x e => by simp only [Option.some.injEq] at e; omega)
 replace MX := MX.kept hg (by omega)
 replace MO := MO.kept hg (by omega)
 replace M4 := M4.kept hg (by omega)
 have z5 := hg.size
 replace M6 := hq
 clear hq hg hW
 refine wpList_nil ?_
 refine sx_norm ?_
 refine wp_seq ?_
 refine wp_region_lit ?_
 obtain ⟨xs, hxs, HE0, v8, W5, hrun, ⟨o8, c8, rfl⟩, HG, hb⟩ := apW_o 27 h.h3 (by show x.ol.length ≤ 1000000; omega) HB
 simp only at hrun
 have MXa := MX.old (.cells #[] 44)
 replace HB := over HB hb
 replace MX := MX.below hb
 replace MO := MO.below hb
 replace M4 := M4.below hb
 replace M6 := M6.below hb
 have z6 := hb.size
 clear hb
 refine sx_mem (by kernel_rfl) rfl rfl (.slice (some ⟨W4.heap.size, 0, none⟩) 0 0) (W4.alloc (.cells #[] 44)) (by kernel_rfl) ?_
 refine sx_val (by kernel_rfl) rfl rfl (.pointer (some ⟨w.heap.size, 3, none⟩)) (by kernel_rfl) ?_
 refine sx_load1 (by kernel_rfl) rfl rfl rfl (MXa.cell 3 rfl) (by kernel_rfl) Tryz.underlying27 rfl ?_
 refine sx_mem (by kernel_rfl) rfl rfl (.slice o8 x.ol.length c8) W5 (ex_append rfl (by kernel_rfl) (by kernel_rfl) hrun) ?_
 clear hrun MXa
 refine sx_val (by kernel_rfl) rfl rfl (.pointer (some ⟨W2.heap.size, 3, none⟩)) (by kernel_rfl) ?_
 refine sx_do (by kernel_rfl) rfl (W5.setCell ⟨W2.heap.size, 3, none⟩ (.slice o8 x.ol.length c8)) (ex_store1 rfl (M6.cell 3 rfl) (M6.f 3) rfl (by kernel_rfl) (by kernel_rfl) (by kernel_rfl)) ?_
 obtain ⟨W6, hW⟩ : ∃ W, W5.setCell ⟨W2.heap.size, 3, none⟩ (.slice o8 x.ol.length c8) = W := ⟨_, rfl⟩
 have hg : W5.grownBy W6 (some (W2.heap.size)) := hW ▸ grown_cell _ _ _ _
 have hq : Cb W6 (W2.heap.size) (iC x o0 c0 o1 c1 o2 c2 o8 c8 o4 c4 o5 c5) 30 := hW ▸ Cb.set M6 3 _
 rw [hW]
 replace HB := HB.grown hg (by omega) (fun x e => by simp only [Option.some.injEq] at e; omega)
 replace MX := MX.kept hg (by omega)
 replace MO := MO.kept hg (by omega)
 replace M4 := M4.kept hg (by omega)
 replace HG := World.ownsRow.kept HG hg (.inr (fun e => by have := (World.ownsRow.lt HG _ e).1; omega))
 have z7 := hg.size
 replace M6 := hq
 clear hq hg hW
 refine wpList_nil ?_
 refine sx_norm ?_
 refine wp_seq ?_
 refine wp_region_lit ?_
 refine sx_val (by kernel_rfl) rfl rfl (.pointer (some ⟨W2.heap.size, 3, none⟩)) (by kernel_rfl) ?_
 refine sx_load1 (by kernel_rfl) rfl rfl rfl (M6.cell 3 rfl) (by kernel_rfl) Tryz.underlying27 rfl ?_
 refine sx_load (by kernel_rfl) rfl rfl rfl MO (by kernel_rfl) Tryz.underlying44 rfl (by kernel_rfl) ?_
 obtain ⟨v9, W7, hrun, ⟨o9, c9, rfl⟩, HG9, hb, HK⟩ := apL_o 27 o oo co hxs HG (by omega) (by omega)
 replace HB : Below w.heap.size w W7 := HB.trans (hb.mono (by omega))
 replace M6 := HK _ _ _ M6 (by omega)
 replace M4 := HK _ _ _ M4 (by omega)
 have z70 := hb.size
 clear HG MX MO hb HK
 have HG := HG9
 clear HG9
 refine sx_mem (by kernel_rfl) rfl rfl (.slice (some ⟨W6.heap.size, 0, none⟩) 1 1) (W6.alloc (.cells (oCells o (.slice oo o.load.length co)) 44)) (by kernel_rfl) ?_
 refine sx_mem (by kernel_rfl) rfl rfl (.slice o9 (x.ol ++ [o]).length c9) W7 (ex_append rfl (by kernel_rfl) (by kernel_rfl) hrun) ?_
 clear hrun
 refine sx_val (by kernel_rfl) rfl rfl (.pointer (some ⟨W2.heap.size, 3, none⟩)) (by kernel_rfl) ?_
 refine sx_do (by kernel_rfl) rfl (W7.setCell ⟨W2.heap.size, 3, none⟩ (.slice o9 (x.ol ++ [o]).length c9)) (ex_store1 rfl (M6.cell 3 rfl) (M6.f 3) rfl (by kernel_rfl) (by kernel_rfl) (by kernel_rfl)) ?_
 obtain ⟨W8, hW⟩ : ∃ W, W7.setCell ⟨W2.heap.size, 3, none⟩ (.slice o9 (x.ol ++ [o]).length c9) = W := ⟨_, rfl⟩
 have hg : W7.grownBy W8 (some (W2.heap.size)) := hW ▸ grown_cell _ _ _ _
 have hq : Cb W8 (W2.heap.size) (iD x o o0 c0 o1 c1 o2 c2 o9 c9 o4 c4 o5 c5) 30 := hW ▸ Cb.set M6 3 _
 rw [hW]
 replace HB := HB.grown hg (by omega) (fun x e => by simp only [Option.some.injEq] at e; omega)
 replace M4 := M4.kept hg (by omega)
 replace HG := World.ownsRow.kept HG hg (.inr (fun e => by have := (World.ownsRow.lt HG _ e).1; omega))
 have z8 := hg.size
 replace M6 := hq
 clear hq hg hW
 refine wpList_nil ?_
 refine sx_norm ?_
 refine wp_seq ?_
 refine wp_region_lit ?_
 refine sx_load (by kernel_rfl) rfl rfl rfl M6 (by kernel_rfl) Tryz.underlying30 rfl (by kernel_rfl) ?_
 have HI := h.below HB
 refine sx_call (by kernel_rfl) rfl rfl (refInst_n o0 o1 o2 o9 o4 o5 c0 c1 c2 c9 c4 c5 (addI x o) hIB W8 HI.h0 HI.h1 HI.h2 (os_of hxs HG (HE0.below HB) (hl.below HB)) HI.h4 HI.h5) (by kernel_rfl) ?_
 rintro e W9 ⟨of, cf, rfl, ⟨HFs, HGl, -⟩, hb⟩
 refine ⟨_, rfl, ?_⟩
 replace HB := over HB hb
 replace M4 := M4.below hb
 replace M6 := M6.below hb
 replace HG := own_below HG hb
 have z9 := hb.size
 clear hb
 clear HI
 refine sx_val (by kernel_rfl) rfl rfl (.slice of (inF (addI x o)).length cf) (by kernel_rfl) ?_
 refine wpList_nil ?_
 refine sx_norm ?_
 refine wp_seq ?_
 refine wp_seq ?_
 refine wp_region_lit ?_
 refine sx_val (by kernel_rfl) rfl rfl (.slice of (inF (addI x o)).length cf) (by kernel_rfl) ?_
 refine sx_val (by kernel_rfl) rfl rfl (.int .i64 ((inF (addI x o)).length)) (by kernel_rfl) ?_
 by_cases h0 : inF (addI x o) = []
 ·refine sx_bool (by kernel_rfl) rfl rfl (decide (((inF (addI x o)).length : Int) > 0)) false (by kernel_rfl) (decide_eq_false (by rw [h0]; decide)) ?_
  refine wpList_nil ?_
  refine sx_norm ?_
  refine sx_false (by kernel_rfl) ?_
  refine wp_skip ?_
  refine sx_norm ?_
  refine wp_seq ?_
  refine wp_region_lit ?_
  refine sx_load (by kernel_rfl) rfl rfl rfl M6 (by kernel_rfl) Tryz.underlying30 rfl (by kernel_rfl) ?_
  refine sx_store (cells := (iD x o o0 c0 o1 c1 o2 c2 o9 c9 o4 c4 o5 c5)) (by kernel_rfl) rfl rfl M4 (by kernel_rfl) (by kernel_rfl) (by kernel_rfl) (by kernel_rfl) (by kernel_rfl) ?_
  obtain ⟨Wa, hW⟩ : ∃ W, W9.setRow (W1.heap.size) (iD x o o0 c0 o1 c1 o2 c2 o9 c9 o4 c4 o5 c5) = W := ⟨_, rfl⟩
  have hg : W9.grownBy Wa (some (W1.heap.size)) := hW ▸ grown_row _ _ _
  have hq : Cb Wa (W1.heap.size) (iD x o o0 c0 o1 c1 o2 c2 o9 c9 o4 c4 o5 c5) 30 := hW ▸ Cb.row M4 _
  rw [hW]
  replace HB := HB.grown hg (by omega) (fun x e => by simp only [Option.some.injEq] at e; omega)
  replace M6 := M6.kept hg (by omega)
  replace HG := World.ownsRow.kept HG hg (.inr (fun e => by have := (World.ownsRow.lt HG _ e).1; omega))
  have z10 := hg.size
  replace M4 := hq
  clear hq hg hW
  refine sx_val (by kernel_rfl) rfl rfl (.int .i64 0) (by kernel_rfl) ?_
  refine wpList_nil ?_
  refine sx_norm ?_
  refine wp_ret ?_
  have HI := h.below HB
  exact bodyPost_ret (v := .tuple #[.agg (iD x o o0 c0 o1 c1 o2 c2 o9 c9 o4 c4 o5 c5), .int .i64 0]) (res_addR M4 (by kernel_rfl) (by kernel_rfl)) rfl ⟨HB, .inl ⟨h0, ⟨o0, c0, o1, c1, o2, c2, o9, c9, o4, c4, o5, c5⟩, rfl, ⟨HI.h0, HI.h1, HI.h2, os_of hxs HG (HE0.below HB) (hl.below HB), HI.h4, HI.h5⟩⟩⟩
 ·refine sx_bool (by kernel_rfl) rfl rfl (decide (((inF (addI x o)).length : Int) > 0)) true (by kernel_rfl) (decide_eq_true (by have := List.length_pos_iff.2 h0; omega)) ?_
  refine wpList_nil ?_
  refine sx_norm ?_
  refine sx_true (by kernel_rfl) ?_
  refine wp_seq ?_
  obtain ⟨pf, lf, hin⟩ := List.exists_cons_of_ne_nil h0
  have hln := List.length_pos_iff.2 h0
  rw [hin] at HFs
  obtain ⟨bf, qf, rfl, HC⟩ := fs_first HFs
  have hbf := (World.ownsRow.lt HGl bf rfl).1
  refine sd_begin (fun _ => True) (by kernel_rfl) trivial ?_
  obtain ⟨Y0, hW⟩ : ∃ W, W9.drew = W := ⟨_, rfl⟩
  have hb : Below W9.heap.size W9 Y0 := hW ▸ below_drew (Below.refl _ _)
  rw [hW]
  clear hW
  replace HB := over HB hb
  replace M4 := M4.below hb
  replace M6 := M6.below hb
  replace HC := cell_below HC hb
  have z10 := hb.size
  clear hb
  refine sd_take 0 rfl (by kernel_rfl) (by kernel_rfl) (by kernel_rfl) (by kernel_rfl) rfl rfl (.agg zC) (fun w9 _ => by kernel_rfl) (fun _ _ _ h => h) trivial ?_
  refine sd_take 1 rfl (by kernel_rfl) (by kernel_rfl) (by kernel_rfl) (by kernel_rfl) rfl rfl (.slice (some ⟨bf, qf, none⟩) (inF (addI x o)).length cf) (fun w9 _ => by kernel_rfl) (fun _ _ _ h => h) trivial ?_
  refine sd_take 2 rfl (by kernel_rfl) (by kernel_rfl) (by kernel_rfl) (by kernel_rfl) rfl rfl (.pointer (some ⟨bf, qf, none⟩)) (fun w9 _ => ex_index rfl bf qf _ cf 0 2 qf (by kernel_rfl) (by kernel_rfl) Tryz.underlying33 (by kernel_rfl) hln rfl) (fun _ _ _ h => h) trivial ?_
  refine sd_take 3 rfl (by kernel_rfl) (by kernel_rfl) (by kernel_rfl) (by kernel_rfl) rfl rfl (.pointer (some ⟨bf, qf, none⟩)) (fun w9 _ => by kernel_rfl) (fun _ _ _ h => h) trivial ?_
  refine sd_all [4, 5] (by kernel_rfl) (by decide) ?_
  refine sd_mem (i := 4) rfl (by kernel_rfl) rfl rfl (.int .i64 pf.1) (Y0) (ex_load1 rfl HC (by kernel_rfl) Tryz.underlying35 rfl) trivial ?_ ?_
  ·refine sd_all [5] (by kernel_rfl) (by decide) ?_
   refine sd_do (i := 5) rfl (by kernel_rfl) rfl (Y0.setRow W1.heap.size zC) (ex_store (cells := zC) rfl M4 (by kernel_rfl) (by kernel_rfl) (by kernel_rfl) (by kernel_rfl) (by kernel_rfl)) trivial ?_ AllReadyH.nil
   obtain ⟨Y1, hW⟩ : ∃ W, Y0.setRow (W1.heap.size) zC = W := ⟨_, rfl⟩
   have hg : Y0.grownBy Y1 (some (W1.heap.size)) := hW ▸ grown_row _ _ _
   have hq : Cb Y1 (W1.heap.size) zC 30 := hW ▸ Cb.row M4 _
   rw [hW]
   replace HB := HB.grown hg (by omega) (fun x e => by simp only [Option.some.injEq] at e; omega)
   replace M6 := M6.kept hg (by omega)
   replace HC := cell_grown HC hg (by omega)
   have z11 := hg.size
   replace M4 := hq
   clear hq hg hW
   refine sd_take 6 rfl (by kernel_rfl) (by kernel_rfl) (by kernel_rfl) (by kernel_rfl) rfl rfl (.int .i64 pf.1) (fun w9 _ => by kernel_rfl) (fun _ _ _ h => h) trivial ?_
   refine sd_done (by kernel_rfl) ?_
   refine sx_norm ?_
   refine wp_ret ?_
   refine sx_rs ?_
   exact bodyPost_ret (v := .tuple #[.agg zC, .int .i64 pf.1]) (res_addR M4 (by kernel_rfl) (by kernel_rfl)) rfl ⟨HB, .inr ⟨pf, lf, hin, rfl⟩⟩
  refine sd_do (i := 5) rfl (by kernel_rfl) rfl (Y0.setRow W1.heap.size zC) (ex_store (cells := zC) rfl M4 (by kernel_rfl) (by kernel_rfl) (by kernel_rfl) (by kernel_rfl) (by kernel_rfl)) trivial ?_ AllReadyH.nil
  obtain ⟨Y1, hW⟩ : ∃ W, Y0.setRow (W1.heap.size) zC = W := ⟨_, rfl⟩
  have hg : Y0.grownBy Y1 (some (W1.heap.size)) := hW ▸ grown_row _ _ _
  have hq : Cb Y1 (W1.heap.size) zC 30 := hW ▸ Cb.row M4 _
  rw [hW]
  replace HB := HB.grown hg (by omega) (fun x e => by simp only [Option.some.injEq] at e; omega)
  replace M6 := M6.kept hg (by omega)
  replace HC := cell_grown HC hg (by omega)
  have z11 := hg.size
  replace M4 := hq
  clear hq hg hW
  refine sd_all [4] (by kernel_rfl) (by decide) ?_
  refine sd_mem (i := 4) rfl (by kernel_rfl) rfl rfl (.int .i64 pf.1) (Y1) (ex_load1 rfl HC (by kernel_rfl) Tryz.underlying35 rfl) trivial ?_ AllReadyH.nil
  refine sd_take 6 rfl (by kernel_rfl) (by kernel_rfl) (by kernel_rfl) (by kernel_rfl) rfl rfl (.int .i64 pf.1) (fun w9 _ => by kernel_rfl) (fun _ _ _ h => h) trivial ?_
  refine sd_done (by kernel_rfl) ?_
  refine sx_norm ?_
  refine wp_ret ?_
  refine sx_rs ?_
  exact bodyPost_ret (v := .tuple #[.agg zC, .int .i64 pf.1]) (res_addR M4 (by kernel_rfl) (by kernel_rfl)) rfl ⟨HB, .inr ⟨pf, lf, hin, rfl⟩⟩
end Go.Proofs.YtaallpebfcadjaaGreatDoor.T
namespace Go.Proofs.YtaallpebfcadjaaGreatDoor.T
open Go.RowKit
set_option maxRecDepth 8000
def NzF (l : List (Int × ByteArray)) : Prop := ∀ x ∈ l, x.1 ≠ 0
def NzI (l : List Int) : Prop := ∀ x ∈ l, x ≠ 0
theorem NzF.nil : NzF [] := fun x h => by cases h
theorem NzF.one {e : Int} {s : ByteArray} (h : e ≠ 0) : NzF [(e, s)] := fun x hx => by
 rw [List.mem_singleton] at hx; subst hx; exact h
theorem NzF.app {l m : List (Int × ByteArray)} (h1 : NzF l) (h2 : NzF m) : NzF (l ++ m) := fun x hx => by
 rcases List.mem_append.1 hx with hx | hx
 ·exact h1 x hx
 ·exact h2 x hx
theorem NzF.ite {c : Prop} [Decidable c] {l m : List (Int × ByteArray)} (h1 : NzF l) (h2 : NzF m) : NzF (if c then l else m) := by
 split
 ·exact h1
 ·exact h2
theorem NzI.nil : NzI [] := fun x h => by cases h
theorem NzI.one {e : Int} (h : e ≠ 0) : NzI [e] := fun x hx => by
 rw [List.mem_singleton] at hx; subst hx; exact h
theorem NzI.app {l m : List Int} (h1 : NzI l) (h2 : NzI m) : NzI (l ++ m) := fun x hx => by
 rcases List.mem_append.1 hx with hx | hx
 ·exact h1 x hx
 ·exact h2 x hx
theorem NzI.ite {c : Prop} [Decidable c] {l m : List Int} (h1 : NzI l) (h2 : NzI m) : NzI (if c then l else m) := by
 split
 ·exact h1
 ·exact h2
theorem NzI.map {l : List Int} (h : NzI l) (s : ByteArray) : NzF (l.map fun e => (e, s)) := fun x hx => by
 rw [List.mem_map] at hx
 obtain ⟨y, hy, rfl⟩ := hx
 exact h y hy
theorem NzF.re {l : List (Int × ByteArray)} (h : NzF l) (f : ByteArray → ByteArray) : NzF (l.map fun x => (x.1, f x.2)) := fun x hx => by
 rw [List.mem_map] at hx
 obtain ⟨y, hy, rfl⟩ := hx
 exact h y hy
theorem nz_plF (l : List ByteArray) : ∀ k, NzF (plF l k)
 | 0 => by unfold plF plf0; exact NzF.ite (NzF.one (by decide)) NzF.nil
 | k + 1 => by
  unfold plF plf
  exact (nz_plF l k).app (NzF.ite (NzF.ite (NzF.one (by decide)) NzF.nil) (NzF.one (by decide)))
theorem nz_slF (l : List (Int × Int)) (i : Nat) : ∀ k, NzF (slF l i k)
 | 0 => NzF.nil
 | k + 1 => by
  unfold slF af6
  exact (nz_slF l i k).app (NzF.ite NzF.nil (NzF.one (by decide)))
theorem nz_flt (l : List (Int × Int)) : ∀ k, NzF (flt l k)
 | 0 => by unfold flt; repeat (first | exact NzF.nil | exact NzF.one (by decide) | apply NzF.ite | apply NzF.app)
 | k + 1 => by
  rw [flt_succ]
  refine ((nz_flt l k).app ?_).app ?_
  ·unfold fl1; repeat (first | exact NzF.nil | exact NzF.one (by decide) | apply NzF.ite | apply NzF.app)
  ·unfold fl3; repeat (first | exact NzF.nil | exact NzF.one (by decide) | apply NzF.ite | apply NzF.app | unfold fl2)
theorem nz_arF (np : Nat) (l : List ArcT) (i : Nat) : NzF (arF np l i) := by
 unfold arF af1 af2 af3 af4 af5
 exact (((((NzF.ite NzF.nil (NzF.one (by decide))).app (NzF.ite NzF.nil (NzF.one (by decide)))).app (NzF.ite (NzF.one (by decide)) NzF.nil)).app (NzF.re (nz_flt _ _) (fun _ => arcS i))).app (NzF.ite (NzF.one (by decide)) NzF.nil)).app (nz_slF _ _ _)
theorem nz_ntF (pl : List ByteArray) (l : List ArcT) : ∀ k, NzF (ntF pl l k)
 | 0 => by
  unfold ntF nf0
  exact (nz_plF pl _).app (NzF.ite (NzF.one (by decide)) NzF.nil)
 | k + 1 => by
  unfold ntF
  exact (nz_ntF pl l k).app (nz_arF _ _ _)
theorem nz_tyE (np : Nat) (l : List TyT) (i : Nat) : NzI (tyE np l i) := by
 unfold tyE tyE1 tyE2 tyE3 tyE4 tyE5 tyE6 tyE7 tyE8 tyE9
 repeat (first | exact NzI.nil | exact NzI.one (by decide) | apply NzI.ite | apply NzI.app)
theorem nz_flF (np : Nat) (l : List TyT) : ∀ k, NzF (flF np l k)
 | 0 => by unfold flF flF0; exact NzF.ite NzF.nil (NzF.one (by decide))
 | k + 1 => by unfold flF atT; exact (nz_flF np l k).app (NzI.map (nz_tyE np l k) _)
theorem nz_orE (np : Nat) (dims types : Int) (l : List OrT) (i : Nat) : NzI (orE np dims types l i) := by
 unfold orE orE1 orE2 orE3 orE4 orE5 orE6 orE7 orE8
 repeat (first | exact NzI.nil | exact NzI.one (by decide) | apply NzI.ite | apply NzI.app)
theorem nz_orF (np : Nat) (dims types : Int) (l : List OrT) : ∀ k, NzF (orF np dims types l k)
 | 0 => by unfold orF orF0; exact NzF.ite NzF.nil (NzF.one (by decide))
 | k + 1 => by unfold orF atT; exact (nz_orF np dims types l k).app (NzI.map (nz_orE np dims types l k) _)
theorem nz_pfF (n : Int) (l : List (Int × Int)) (word : ByteArray) (turned : Bool) : ∀ k, NzF (pfF n l word turned k)
 | 0 => by unfold pfF; exact NzF.ite (NzF.one (by decide)) NzF.nil
 | k + 1 => by
  unfold pfF pairE
  exact (nz_pfF n l word turned k).app (NzI.map (NzI.ite (NzI.one (by decide)) (NzI.ite (NzI.one (by decide)) NzI.nil)) _)
theorem nz_inF (x : InT) : NzF (inF x) := by
 unfold inF undF netF fleetF orderF checkF pairF
 exact (((NzF.re (nz_ntF _ _ _) _).app (NzF.re (nz_flF _ _ _) _)).app (NzF.re (nz_orF _ _ _ _ _) _)).app (NzF.re ((nz_pfF _ _ _ _ _).app (nz_pfF _ _ _ _ _)) _)
def zI : InT := ⟨[], [], [], [], [], []⟩
def zK : Iv := ⟨none, 0, none, 0, none, 0, none, 0, none, 0, none, 0⟩
theorem zI_ins (w : World) : Ins w zK zI := ⟨⟨none, 0, rfl, fun i hi => by cases hi⟩, ⟨none, 0, rfl, fun i hi => by cases hi⟩, Ts.nil _, Os.nil _, ⟨none, 0, rfl, fun i hi => by cases hi⟩, ⟨none, 0, rfl, fun i hi => by cases hi⟩⟩
def addW (x : InT) (o : OrT) : InT × Int := if 10 ≤ x.ol.length then (zI, 4) else match inF (addI x o) with
 | [] => (addI x o, 0)
 | p :: _ => (zI, p.1)
def AddR (x : InT) (o : OrT) (w : World) (e : Ending) (w' : World) : Prop := ∃ k' : Iv, e = .returned (.tuple #[k'.v (addW x o).1, .int .i64 (addW x o).2]) ∧ Ins w' k' (addW x o).1 ∧ Below w.heap.size w w'
theorem addW_cases (x : InT) (o : OrT) : ((addW x o).2 ≠ 0 ∧ (addW x o).1 = zI) ∨ ((addW x o).2 = 0 ∧ (addW x o).1 = addI x o ∧ inF (addI x o) = [] ∧ ¬ 10 ≤ x.ol.length) := by
 unfold addW
 by_cases h : 10 ≤ x.ol.length
 ·rw [if_pos h]; exact .inl ⟨by decide, rfl⟩
 ·rw [if_neg h]
  have hz := nz_inF (addI x o)
  cases hin : inF (addI x o) with
  | nil => exact .inr ⟨rfl, rfl, rfl, h⟩
  | cons p l => rw [hin] at hz; exact .inl ⟨hz p (List.mem_cons_self ..), rfl⟩
theorem addR_full {x : InT} {o : OrT} {w w' : World} {e : Ending} (h10 : 10 ≤ x.ol.length) (h : e = noAdd 4 ∧ Below w.heap.size w w') : AddR x o w e w' := by
 obtain ⟨rfl, hb⟩ := h
 have e1 : addW x o = (zI, 4) := by unfold addW; rw [if_pos h10]
 unfold AddR
 rw [e1]
 exact ⟨zK, rfl, zI_ins _, hb⟩
theorem addR_good {x : InT} {o : OrT} {w w' : World} {e : Ending} (h10 : ¬ 10 ≤ x.ol.length) (h : AddQ (addI x o) w e w') : AddR x o w e w' := by
 obtain ⟨hb, h⟩ := h
 unfold AddR
 rcases h with ⟨hin, k', rfl, hi⟩ | ⟨p, l, hin, rfl⟩
 ·have e1 : addW x o = (addI x o, 0) := by unfold addW; rw [if_neg h10, hin]
  rw [e1]
  exact ⟨k', rfl, hi, hb⟩
 ·have e1 : addW x o = (zI, p.1) := by unfold addW; rw [if_neg h10, hin]
  rw [e1]
  exact ⟨zK, rfl, zI_ins _, hb⟩
theorem add_n (k : Iv) (x : InT) (o : OrT) (oo : Option Addr) (co : Nat) (hC : InC x) (hlo : o.load.length ≤ 1000000) (hIW : ¬ 10 ≤ x.ol.length → InW (addI x o)) (w : World) (hT : Tab w) (h : Ins w k x) (hl : L.Li w (.slice oo o.load.length co) o.load) :
  Calls Tryz.prog 18 #[k.v x, orV o (.slice oo o.load.length co)] w (AddR x o w) := by
 by_cases h10 : 10 ≤ x.ol.length
 ·exact (addFull k x o oo co h10 w h).mono fun e w' hq => addR_full h10 hq
 ·exact (addGood k x o oo co h10 hC hlo (hIW h10) w hT h hl).mono fun e w' hq => addR_good h10 hq
theorem refAdd_n (k : Iv) (x : InT) (o : OrT) (oo : Option Addr) (co : Nat) (hIB : ¬ 10 ≤ x.ol.length → InB (addI x o)) (w : World) (h : Ins w k x) (hl : L.Li w (.slice oo o.load.length co) o.load) :
  Calls Tryz.prog 19 #[k.v x, orV o (.slice oo o.load.length co)] w (AddR x o w) := by
 by_cases h10 : 10 ≤ x.ol.length
 ·exact (refAddFull k x o oo co h10 w h).mono fun e w' hq => addR_full h10 hq
 ·exact (refAddGood k x o oo co h10 (hIB h10) w h hl).mono fun e w' hq => addR_good h10 hq
theorem getD_snoc {α : Type} {l : List α} {a d : α} {p : α → Prop} (h : ∀ i, i < l.length → p (l.getD i d)) (ha : p a) : ∀ i, i < (l ++ [a]).length → p ((l ++ [a]).getD i d) := by
 intro i hi
 rw [List.length_append, List.length_singleton] at hi
 by_cases h1 : i < l.length
 ·rw [List.getD_eq_getElem?_getD, List.getElem?_append_left h1, ← List.getD_eq_getElem?_getD]
  exact h i h1
 ·obtain rfl : i = l.length := by omega
  rw [List.getD_eq_getElem?_getD, List.getElem?_append_right (Nat.le_refl _), Nat.sub_self]
  exact ha
theorem inB_add {x : InT} {o : OrT} (h : InB x) (h10 : ¬ 10 ≤ x.ol.length) (hl : o.load.length ≤ 6) : InB (addI x o) :=
 ⟨h.pl, h.al, h.wt, h.tl, h.cap, (by show (x.ol ++ [o]).length ≤ 1000; rw [List.length_append, List.length_singleton]; omega), getD_snoc (l := x.ol) (d := or0) (p := fun (a : OrT) => a.load.length ≤ 1000000000) h.load (by omega), h.ap, h.be⟩
theorem inC_add {x : InT} {o : OrT} (h : InC x) (h10 : ¬ 10 ≤ x.ol.length) (hl : o.load.length ≤ 6) : InC (addI x o) :=
 ⟨h.pl, h.al, h.tr, h.tl, h.cap, (by show (x.ol ++ [o]).length ≤ 1000; rw [List.length_append, List.length_singleton]; omega), getD_snoc (l := x.ol) (d := or0) (p := fun (a : OrT) => a.load.length ≤ 1000000) h.load (by omega), h.ap, h.be⟩
theorem inW_add {x : InT} {o : OrT} (h : InW x) (h10 : ¬ 10 ≤ x.ol.length) (hl : o.load.length ≤ 6) (hn : o.name.size ≤ maxLen) : InW (addI x o) :=
 ⟨inB_add h.b h10 hl, h.pn, h.tn, getD_snoc (l := x.ol) (d := or0) (p := fun (a : OrT) => a.name.size ≤ maxLen) h.on hn, h.wf, h.ia, h.ib⟩
theorem inB_z : InB zI := ⟨by decide, by decide, by decide, by decide, (fun i hi => by cases hi), by decide, (fun i hi => by cases hi), by decide, by decide⟩
theorem inC_z : InC zI := ⟨by decide, by decide, (fun i hi => by cases hi), by decide, (fun i hi => by cases hi), by decide, (fun i hi => by cases hi), by decide, by decide⟩
end Go.Proofs.YtaallpebfcadjaaGreatDoor.T
namespace Go.Proofs.YtaallpebfcadjaaGreatDoor.T
open Go.RowKit
set_option maxRecDepth 8000
attribute [local irreducible] wpList Code.wp
theorem refSame_self (k k' : Iv) (x : InT) (hB : InB x) (hC : InC x) (w : World) (h : Ins w k x) (h' : Ins w k' x) : Calls Tryz.prog 17 #[k.v x, k'.v x] w fun e w' => e = .returned (.bool true) ∧ Below w.heap.size w w' := by
 obtain ⟨o0, c0, o1, c1, o2, c2, o3, c3, o4, c4, o5, c5⟩ := k
 obtain ⟨q0, d0, q1, d1, q2, d2, q3, d3, q4, d4, q5, d5⟩ := k'
 have := refSameIn_n o0 o1 o2 o3 o4 o5 q0 q1 q2 q3 q4 q5 c0 c1 c2 c3 c4 c5 d0 d1 d2 d3 d4 d5 x x hB hB hC.tr w h.h0 h.h1 h.h2 h.h3 h.h4 h.h5 h'.h0 h'.h1 h'.h2 h'.h3 h'.h4 h'.h5
 rwa [sameI_self] at this
theorem addsA (k : Iv) (x : InT) (o : OrT) (oo : Option Addr) (co : Nat) (hsm : smlB x = false) (w : World) (hT : Tab w) (hS : S.Tab w) (h : Ins w k x) (hl : L.Li w (.slice oo o.load.length co) o.load) :
  Calls Tryz.prog 6 #[k.v x, orV o (.slice oo o.load.length co)] w fun e w' => e = .returned (.bool true) ∧ Below w.heap.size w w' := by
 obtain ⟨o0, c0, o1, c1, o2, c2, o3, c3, o4, c4, o5, c5⟩ := k
 have KS := fun w h => small_b ⟨o0, c0, o1, c1, o2, c2, o3, c3, o4, c4, o5, c5⟩ x false hsm w h
 have HB : Below w.heap.size w w := Below.refl _ _
 show Calls _ _ #[.agg (iC x o0 c0 o1 c1 o2 c2 o3 c3 o4 c4 o5 c5), .agg (oC o oo co)] _ _
 refine sx_enter Tryz.func6 rfl [(0, .agg (iC x o0 c0 o1 c1 o2 c2 o3 c3 o4 c4 o5 c5)), (1, .agg (oC o oo co))] (by kernel_rfl) ?_
 refine wp_seq ?_
 refine wp_region_lit ?_
 obtain ⟨W0, hW⟩ : ∃ W, w.alloc (.cells (iC x o0 c0 o1 c1 o2 c2 o3 c3 o4 c4 o5 c5) 30) = W := ⟨_, rfl⟩
 have hb := hW ▸ below_alloc w (.cells (iC x o0 c0 o1 c1 o2 c2 o3 c3 o4 c4 o5 c5) 30)
 have hq : Cb W0 w.heap.size (iC x o0 c0 o1 c1 o2 c2 o3 c3 o4 c4 o5 c5) 30 := hW ▸ Cb.made w (iC x o0 c0 o1 c1 o2 c2 o3 c3 o4 c4 o5 c5) 30
 refine sx_mem (by kernel_rfl) rfl rfl (.pointer (some ⟨w.heap.size, 0, none⟩)) W0 (by rw [← hW]; kernel_rfl) ?_
 replace HB := over HB hb
 replace hT := hT.over hb
 replace hS := hS.over hb
 replace h := h.below hb
 replace hl := hl.below hb
 have z1 := hb.size
 have MX := hq
 have yMX := hq.lt
 clear hq hb hW
 obtain ⟨W1, hW⟩ : ∃ W, W0.alloc (.cells (oC o oo co) 44) = W := ⟨_, rfl⟩
 have hb := hW ▸ below_alloc W0 (.cells (oC o oo co) 44)
 have hq : Cb W1 W0.heap.size (oC o oo co) 44 := hW ▸ Cb.made W0 (oC o oo co) 44
 refine sx_mem (by kernel_rfl) rfl rfl (.pointer (some ⟨W0.heap.size, 0, none⟩)) W1 (by rw [← hW]; kernel_rfl) ?_
 replace HB := over HB hb
 replace hT := hT.over hb
 replace hS := hS.over hb
 replace h := h.below hb
 replace hl := hl.below hb
 replace MX := MX.below hb
 have z2 := hb.size
 have MO := hq
 have yMO := hq.lt
 clear hq hb hW
 refine sx_val (by kernel_rfl) rfl rfl (.bool false) (by kernel_rfl) ?_
 refine wpList_nil ?_
 refine sx_norm ?_
 refine wp_seq ?_
 refine wp_seq ?_
 refine wp_region_lit ?_
 refine sx_load (by kernel_rfl) rfl rfl rfl MX (by kernel_rfl) Tryz.underlying30 rfl (by kernel_rfl) ?_
 refine sx_call (by kernel_rfl) rfl rfl (KS _ h) (by kernel_rfl) ?_
 rintro e W2 ⟨rfl, hb⟩
 refine ⟨_, rfl, ?_⟩
 replace HB := over HB hb
 replace hT := hT.over hb
 replace hS := hS.over hb
 replace h := h.below hb
 replace hl := hl.below hb
 replace MX := MX.below hb
 replace MO := MO.below hb
 have z3 := hb.size
 clear hb
 refine sx_val (by kernel_rfl) rfl rfl (.bool true) (by kernel_rfl) ?_
 refine sx_val (by kernel_rfl) rfl rfl (.bool true) (by kernel_rfl) ?_
 refine sx_skip (by kernel_rfl) rfl rfl ?_
 refine sx_skip (by kernel_rfl) rfl rfl ?_
 refine sx_skip (by kernel_rfl) rfl rfl ?_
 refine sx_skip (by kernel_rfl) rfl rfl ?_
 refine sx_val (by kernel_rfl) rfl rfl (.bool true) (by kernel_rfl) ?_
 refine wpList_nil ?_
 refine sx_norm ?_
 refine sx_true (by kernel_rfl) ?_
 refine wp_seq ?_
 refine wp_region_lit ?_
 refine sx_call (by kernel_rfl) rfl rfl (awakeI_n _ hT hS) (by kernel_rfl) ?_
 rintro e W3 ⟨rfl, hb⟩
 refine ⟨_, rfl, ?_⟩
 replace HB := over HB hb
 replace hT := hT.over hb
 replace hS := hS.over hb
 replace h := h.below hb
 replace hl := hl.below hb
 replace MX := MX.below hb
 replace MO := MO.below hb
 have z4 := hb.size
 clear hb
 refine sx_val (by kernel_rfl) rfl rfl (.bool true) (by kernel_rfl) ?_
 refine wpList_nil ?_
 refine sx_norm ?_
 refine wp_ret ?_
 refine sx_rs ?_
 exact sx_ret1 (.bool true) rfl rfl (by kernel_rfl) ⟨rfl, HB⟩
theorem addsB (k : Iv) (x : InT) (o : OrT) (oo : Option Addr) (co : Nat) (hsm : smlB x = true) (hlo : ¬ o.load.length ≤ 6) (w : World) (hT : Tab w) (hS : S.Tab w) (h : Ins w k x) (hl : L.Li w (.slice oo o.load.length co) o.load) :
  Calls Tryz.prog 6 #[k.v x, orV o (.slice oo o.load.length co)] w fun e w' => e = .returned (.bool true) ∧ Below w.heap.size w w' := by
 obtain ⟨o0, c0, o1, c1, o2, c2, o3, c3, o4, c4, o5, c5⟩ := k
 have KS := fun w h => small_b ⟨o0, c0, o1, c1, o2, c2, o3, c3, o4, c4, o5, c5⟩ x true hsm w h
 have HB : Below w.heap.size w w := Below.refl _ _
 show Calls _ _ #[.agg (iC x o0 c0 o1 c1 o2 c2 o3 c3 o4 c4 o5 c5), .agg (oC o oo co)] _ _
 refine sx_enter Tryz.func6 rfl [(0, .agg (iC x o0 c0 o1 c1 o2 c2 o3 c3 o4 c4 o5 c5)), (1, .agg (oC o oo co))] (by kernel_rfl) ?_
 refine wp_seq ?_
 refine wp_region_lit ?_
 obtain ⟨W0, hW⟩ : ∃ W, w.alloc (.cells (iC x o0 c0 o1 c1 o2 c2 o3 c3 o4 c4 o5 c5) 30) = W := ⟨_, rfl⟩
 have hb := hW ▸ below_alloc w (.cells (iC x o0 c0 o1 c1 o2 c2 o3 c3 o4 c4 o5 c5) 30)
 have hq : Cb W0 w.heap.size (iC x o0 c0 o1 c1 o2 c2 o3 c3 o4 c4 o5 c5) 30 := hW ▸ Cb.made w (iC x o0 c0 o1 c1 o2 c2 o3 c3 o4 c4 o5 c5) 30
 refine sx_mem (by kernel_rfl) rfl rfl (.pointer (some ⟨w.heap.size, 0, none⟩)) W0 (by rw [← hW]; kernel_rfl) ?_
 replace HB := over HB hb
 replace hT := hT.over hb
 replace hS := hS.over hb
 replace h := h.below hb
 replace hl := hl.below hb
 have z1 := hb.size
 have MX := hq
 have yMX := hq.lt
 clear hq hb hW
 obtain ⟨W1, hW⟩ : ∃ W, W0.alloc (.cells (oC o oo co) 44) = W := ⟨_, rfl⟩
 have hb := hW ▸ below_alloc W0 (.cells (oC o oo co) 44)
 have hq : Cb W1 W0.heap.size (oC o oo co) 44 := hW ▸ Cb.made W0 (oC o oo co) 44
 refine sx_mem (by kernel_rfl) rfl rfl (.pointer (some ⟨W0.heap.size, 0, none⟩)) W1 (by rw [← hW]; kernel_rfl) ?_
 replace HB := over HB hb
 replace hT := hT.over hb
 replace hS := hS.over hb
 replace h := h.below hb
 replace hl := hl.below hb
 replace MX := MX.below hb
 have z2 := hb.size
 have MO := hq
 have yMO := hq.lt
 clear hq hb hW
 refine sx_val (by kernel_rfl) rfl rfl (.bool false) (by kernel_rfl) ?_
 refine wpList_nil ?_
 refine sx_norm ?_
 refine wp_seq ?_
 refine wp_seq ?_
 refine wp_region_lit ?_
 refine sx_load (by kernel_rfl) rfl rfl rfl MX (by kernel_rfl) Tryz.underlying30 rfl (by kernel_rfl) ?_
 refine sx_call (by kernel_rfl) rfl rfl (KS _ h) (by kernel_rfl) ?_
 rintro e W2 ⟨rfl, hb⟩
 refine ⟨_, rfl, ?_⟩
 replace HB := over HB hb
 replace hT := hT.over hb
 replace hS := hS.over hb
 replace h := h.below hb
 replace hl := hl.below hb
 replace MX := MX.below hb
 replace MO := MO.below hb
 have z3 := hb.size
 clear hb
 refine sx_val (by kernel_rfl) rfl rfl (.bool false) (by kernel_rfl) ?_
 refine sx_val (by kernel_rfl) rfl rfl (.bool false) (by kernel_rfl) ?_
 refine sx_val (by kernel_rfl) rfl rfl (.pointer (some ⟨W0.heap.size, 1, none⟩)) (by kernel_rfl) ?_
 refine sx_load1 (by kernel_rfl) rfl rfl rfl (MO.cell 1 rfl) (by kernel_rfl) Tryz.underlying40 rfl ?_
 refine sx_val (by kernel_rfl) rfl rfl (.int .i64 o.load.length) (by kernel_rfl) ?_
 refine sx_bool (by kernel_rfl) rfl rfl (decide ((o.load.length : Int) > 6)) true (by kernel_rfl) (decide_eq_true (by omega)) ?_
 refine sx_val (by kernel_rfl) rfl rfl (.bool true) (by kernel_rfl) ?_
 refine wpList_nil ?_
 refine sx_norm ?_
 refine sx_true (by kernel_rfl) ?_
 refine wp_seq ?_
 refine wp_region_lit ?_
 refine sx_call (by kernel_rfl) rfl rfl (awakeI_n _ hT hS) (by kernel_rfl) ?_
 rintro e W3 ⟨rfl, hb⟩
 refine ⟨_, rfl, ?_⟩
 replace HB := over HB hb
 replace hT := hT.over hb
 replace hS := hS.over hb
 replace h := h.below hb
 replace hl := hl.below hb
 replace MX := MX.below hb
 replace MO := MO.below hb
 have z4 := hb.size
 clear hb
 refine sx_val (by kernel_rfl) rfl rfl (.bool true) (by kernel_rfl) ?_
 refine wpList_nil ?_
 refine sx_norm ?_
 refine wp_ret ?_
 refine sx_rs ?_
 exact sx_ret1 (.bool true) rfl rfl (by kernel_rfl) ⟨rfl, HB⟩
theorem addsC (k : Iv) (x : InT) (o : OrT) (oo : Option Addr) (co : Nat) (hx : InA x) (hsm : smlB x = true) (hlo : o.load.length ≤ 6) (hno : o.name.size ≤ maxLen) (w : World) (hT : Tab w) (hS : S.Tab w) (h : Ins w k x) (hl : L.Li w (.slice oo o.load.length co) o.load) :
  Calls Tryz.prog 6 #[k.v x, orV o (.slice oo o.load.length co)] w fun e w' => e = .returned (.bool true) ∧ Below w.heap.size w w' := by
 obtain ⟨o0, c0, o1, c1, o2, c2, o3, c3, o4, c4, o5, c5⟩ := k
 have KS := fun w h => small_b ⟨o0, c0, o1, c1, o2, c2, o3, c3, o4, c4, o5, c5⟩ x true hsm w h
 have hIW := inW_of hx hsm
 have hC0 := inC_of hsm
 have KA := add_n ⟨o0, c0, o1, c1, o2, c2, o3, c3, o4, c4, o5, c5⟩ x o oo co hC0 (by omega) (fun h10 => inW_add hIW h10 hlo hno)
 have KR := refAdd_n ⟨o0, c0, o1, c1, o2, c2, o3, c3, o4, c4, o5, c5⟩ x o oo co (fun h10 => inB_add hIW.b h10 hlo)
 have HZ := addW_cases x o
 unfold AddR at KA KR
 obtain ⟨y, c, hz⟩ : ∃ y c, addW x o = (y, c) := ⟨_, _, rfl⟩
 rw [hz] at KA KR HZ
 simp only at KA KR HZ
 have HBC : InB y ∧ InC y := by
  rcases HZ with ⟨-, rfl⟩ | ⟨-, rfl, -, h10⟩
  ·exact ⟨inB_z, inC_z⟩
  ·exact ⟨inB_add hIW.b h10 hlo, inC_add hC0 h10 hlo⟩
 clear hC0 hz
 have HB : Below w.heap.size w w := Below.refl _ _
 show Calls _ _ #[.agg (iC x o0 c0 o1 c1 o2 c2 o3 c3 o4 c4 o5 c5), .agg (oC o oo co)] _ _
 refine sx_enter Tryz.func6 rfl [(0, .agg (iC x o0 c0 o1 c1 o2 c2 o3 c3 o4 c4 o5 c5)), (1, .agg (oC o oo co))] (by kernel_rfl) ?_
 refine wp_seq ?_
 refine wp_region_lit ?_
 obtain ⟨W0, hW⟩ : ∃ W, w.alloc (.cells (iC x o0 c0 o1 c1 o2 c2 o3 c3 o4 c4 o5 c5) 30) = W := ⟨_, rfl⟩
 have hb := hW ▸ below_alloc w (.cells (iC x o0 c0 o1 c1 o2 c2 o3 c3 o4 c4 o5 c5) 30)
 have hq : Cb W0 w.heap.size (iC x o0 c0 o1 c1 o2 c2 o3 c3 o4 c4 o5 c5) 30 := hW ▸ Cb.made w (iC x o0 c0 o1 c1 o2 c2 o3 c3 o4 c4 o5 c5) 30
 refine sx_mem (by kernel_rfl) rfl rfl (.pointer (some ⟨w.heap.size, 0, none⟩)) W0 (by rw [← hW]; kernel_rfl) ?_
 replace HB := over HB hb
 replace hT := hT.over hb
 replace hS := hS.over hb
 replace h := h.below hb
 replace hl := hl.below hb
 have z1 := hb.size
 have MX := hq
 have yMX := hq.lt
 clear hq hb hW
 obtain ⟨W1, hW⟩ : ∃ W, W0.alloc (.cells (oC o oo co) 44) = W := ⟨_, rfl⟩
 have hb := hW ▸ below_alloc W0 (.cells (oC o oo co) 44)
 have hq : Cb W1 W0.heap.size (oC o oo co) 44 := hW ▸ Cb.made W0 (oC o oo co) 44
 refine sx_mem (by kernel_rfl) rfl rfl (.pointer (some ⟨W0.heap.size, 0, none⟩)) W1 (by rw [← hW]; kernel_rfl) ?_
 replace HB := over HB hb
 replace hT := hT.over hb
 replace hS := hS.over hb
 replace h := h.below hb
 replace hl := hl.below hb
 replace MX := MX.below hb
 have z2 := hb.size
 have MO := hq
 have yMO := hq.lt
 clear hq hb hW
 refine sx_val (by kernel_rfl) rfl rfl (.bool false) (by kernel_rfl) ?_
 refine wpList_nil ?_
 refine sx_norm ?_
 refine wp_seq ?_
 refine wp_seq ?_
 refine wp_region_lit ?_
 refine sx_load (by kernel_rfl) rfl rfl rfl MX (by kernel_rfl) Tryz.underlying30 rfl (by kernel_rfl) ?_
 refine sx_call (by kernel_rfl) rfl rfl (KS _ h) (by kernel_rfl) ?_
 rintro e W2 ⟨rfl, hb⟩
 refine ⟨_, rfl, ?_⟩
 replace HB := over HB hb
 replace hT := hT.over hb
 replace hS := hS.over hb
 replace h := h.below hb
 replace hl := hl.below hb
 replace MX := MX.below hb
 replace MO := MO.below hb
 have z3 := hb.size
 clear hb
 refine sx_val (by kernel_rfl) rfl rfl (.bool false) (by kernel_rfl) ?_
 refine sx_val (by kernel_rfl) rfl rfl (.bool false) (by kernel_rfl) ?_
 refine sx_val (by kernel_rfl) rfl rfl (.pointer (some ⟨W0.heap.size, 1, none⟩)) (by kernel_rfl) ?_
 refine sx_load1 (by kernel_rfl) rfl rfl rfl (MO.cell 1 rfl) (by kernel_rfl) Tryz.underlying40 rfl ?_
 refine sx_val (by kernel_rfl) rfl rfl (.int .i64 o.load.length) (by kernel_rfl) ?_
 refine sx_bool (by kernel_rfl) rfl rfl (decide ((o.load.length : Int) > 6)) false (by kernel_rfl) (decide_eq_false (by omega)) ?_
 refine sx_val (by kernel_rfl) rfl rfl (.bool false) (by kernel_rfl) ?_
 refine wpList_nil ?_
 refine sx_norm ?_
 refine sx_false (by kernel_rfl) ?_
 refine wp_skip ?_
 refine sx_norm ?_
 refine wp_seq ?_
 refine wp_region_lit ?_
 refine sx_load (by kernel_rfl) rfl rfl rfl MX (by kernel_rfl) Tryz.underlying30 rfl (by kernel_rfl) ?_
 refine sx_load (by kernel_rfl) rfl rfl rfl MO (by kernel_rfl) Tryz.underlying44 rfl (by kernel_rfl) ?_
 refine sx_call (by kernel_rfl) rfl rfl (KA _ hT h hl) (by kernel_rfl) ?_
 rintro e W3 ⟨⟨p0, d0, p1, d1, p2, d2, p3, d3, p4, d4, p5, d5⟩, rfl, HI1, hb⟩
 refine ⟨_, rfl, ?_⟩
 replace HB := over HB hb
 replace hT := hT.over hb
 replace hS := hS.over hb
 replace h := h.below hb
 replace hl := hl.below hb
 replace MX := MX.below hb
 replace MO := MO.below hb
 have z4 := hb.size
 clear hb
 refine sx_val (by kernel_rfl) rfl rfl (.tuple #[.agg (iC y p0 d0 p1 d1 p2 d2 p3 d3 p4 d4 p5 d5), .int .i64 c]) (by kernel_rfl) ?_
 refine sx_val (by kernel_rfl) rfl rfl (.agg (iC y p0 d0 p1 d1 p2 d2 p3 d3 p4 d4 p5 d5)) (by kernel_rfl) ?_
 refine sx_val (by kernel_rfl) rfl rfl (.int .i64 c) (by kernel_rfl) ?_
 obtain ⟨W4, hW⟩ : ∃ W, (W3.alloc (.cells zC 30)).setRow W3.heap.size (iC y p0 d0 p1 d1 p2 d2 p3 d3 p4 d4 p5 d5) = W := ⟨_, rfl⟩
 have hb := hW ▸ below_var W3 (.cells zC 30) (iC y p0 d0 p1 d1 p2 d2 p3 d3 p4 d4 p5 d5)
 have hq : Cb W4 W3.heap.size (iC y p0 d0 p1 d1 p2 d2 p3 d3 p4 d4 p5 d5) 30 := hW ▸ Cb.row (Cb.made W3 zC 30) _
 refine sx_mem (by kernel_rfl) rfl rfl (.pointer (some ⟨W3.heap.size, 0, none⟩)) (W3.alloc (.cells zC 30)) (by kernel_rfl) ?_
 refine sx_store (cells := (iC y p0 d0 p1 d1 p2 d2 p3 d3 p4 d4 p5 d5)) (by kernel_rfl) rfl rfl (Cb.made W3 zC 30) (by kernel_rfl) (by kernel_rfl) (by kernel_rfl) (by kernel_rfl) (by kernel_rfl) ?_
 rw [hW]
 replace HB := over HB hb
 replace hT := hT.over hb
 replace hS := hS.over hb
 replace h := h.below hb
 replace hl := hl.below hb
 replace MX := MX.below hb
 replace MO := MO.below hb
 replace HI1 := HI1.below hb
 have z5 := hb.size
 have M5 := hq
 have yM5 := hq.lt
 clear hq hb hW
 refine sx_val (by kernel_rfl) rfl rfl (.int .i64 c) (by kernel_rfl) ?_
 refine wpList_nil ?_
 refine sx_norm ?_
 refine wp_seq ?_
 refine wp_region_lit ?_
 refine sx_load (by kernel_rfl) rfl rfl rfl MX (by kernel_rfl) Tryz.underlying30 rfl (by kernel_rfl) ?_
 refine sx_load (by kernel_rfl) rfl rfl rfl MO (by kernel_rfl) Tryz.underlying44 rfl (by kernel_rfl) ?_
 refine sx_call (by kernel_rfl) rfl rfl (KR _ h hl) (by kernel_rfl) ?_
 rintro e W5 ⟨⟨q0, e0, q1, e1, q2, e2, q3, e3, q4, e4, q5, e5⟩, rfl, HI2, hb⟩
 refine ⟨_, rfl, ?_⟩
 replace HB := over HB hb
 replace hT := hT.over hb
 replace hS := hS.over hb
 replace h := h.below hb
 replace hl := hl.below hb
 replace MX := MX.below hb
 replace MO := MO.below hb
 replace HI1 := HI1.below hb
 replace M5 := M5.below hb
 have z6 := hb.size
 clear hb
 refine sx_val (by kernel_rfl) rfl rfl (.tuple #[.agg (iC y q0 e0 q1 e1 q2 e2 q3 e3 q4 e4 q5 e5), .int .i64 c]) (by kernel_rfl) ?_
 refine sx_val (by kernel_rfl) rfl rfl (.agg (iC y q0 e0 q1 e1 q2 e2 q3 e3 q4 e4 q5 e5)) (by kernel_rfl) ?_
 refine sx_val (by kernel_rfl) rfl rfl (.int .i64 c) (by kernel_rfl) ?_
 obtain ⟨W6, hW⟩ : ∃ W, (W5.alloc (.cells zC 30)).setRow W5.heap.size (iC y q0 e0 q1 e1 q2 e2 q3 e3 q4 e4 q5 e5) = W := ⟨_, rfl⟩
 have hb := hW ▸ below_var W5 (.cells zC 30) (iC y q0 e0 q1 e1 q2 e2 q3 e3 q4 e4 q5 e5)
 have hq : Cb W6 W5.heap.size (iC y q0 e0 q1 e1 q2 e2 q3 e3 q4 e4 q5 e5) 30 := hW ▸ Cb.row (Cb.made W5 zC 30) _
 refine sx_mem (by kernel_rfl) rfl rfl (.pointer (some ⟨W5.heap.size, 0, none⟩)) (W5.alloc (.cells zC 30)) (by kernel_rfl) ?_
 refine sx_store (cells := (iC y q0 e0 q1 e1 q2 e2 q3 e3 q4 e4 q5 e5)) (by kernel_rfl) rfl rfl (Cb.made W5 zC 30) (by kernel_rfl) (by kernel_rfl) (by kernel_rfl) (by kernel_rfl) (by kernel_rfl) ?_
 rw [hW]
 replace HB := over HB hb
 replace hT := hT.over hb
 replace hS := hS.over hb
 replace h := h.below hb
 replace hl := hl.below hb
 replace MX := MX.below hb
 replace MO := MO.below hb
 replace HI1 := HI1.below hb
 replace M5 := M5.below hb
 replace HI2 := HI2.below hb
 have z7 := hb.size
 have M7 := hq
 have yM7 := hq.lt
 clear hq hb hW
 refine sx_val (by kernel_rfl) rfl rfl (.int .i64 c) (by kernel_rfl) ?_
 refine wpList_nil ?_
 refine sx_norm ?_
 refine wp_seq ?_
 refine wp_seq ?_
 refine wp_region_lit ?_
 refine sx_val (by kernel_rfl) rfl rfl (.int .i64 c) (by kernel_rfl) ?_
 refine sx_val (by kernel_rfl) rfl rfl (.int .i64 c) (by kernel_rfl) ?_
 refine sx_bool (by kernel_rfl) rfl rfl ((c : Int) != c) false (by kernel_rfl) (by simp) ?_
 refine sx_val (by kernel_rfl) rfl rfl (.bool false) (by kernel_rfl) ?_
 refine sx_load (by kernel_rfl) rfl rfl rfl M5 (by kernel_rfl) Tryz.underlying30 rfl (by kernel_rfl) ?_
 refine sx_load (by kernel_rfl) rfl rfl rfl M7 (by kernel_rfl) Tryz.underlying30 rfl (by kernel_rfl) ?_
 refine sx_call (by kernel_rfl) rfl rfl (refSame_self ⟨p0, d0, p1, d1, p2, d2, p3, d3, p4, d4, p5, d5⟩ ⟨q0, e0, q1, e1, q2, e2, q3, e3, q4, e4, q5, e5⟩ y HBC.1 HBC.2 _ HI1 HI2) (by kernel_rfl) ?_
 rintro e W7 ⟨rfl, hb⟩
 refine ⟨_, rfl, ?_⟩
 replace HB := over HB hb
 replace hT := hT.over hb
 replace hS := hS.over hb
 replace h := h.below hb
 replace hl := hl.below hb
 replace MX := MX.below hb
 replace MO := MO.below hb
 replace HI1 := HI1.below hb
 replace M5 := M5.below hb
 replace HI2 := HI2.below hb
 replace M7 := M7.below hb
 have z8 := hb.size
 clear hb
 refine sx_val (by kernel_rfl) rfl rfl (.bool false) (by kernel_rfl) ?_
 refine sx_val (by kernel_rfl) rfl rfl (.bool false) (by kernel_rfl) ?_
 refine wpList_nil ?_
 refine sx_norm ?_
 refine sx_false (by kernel_rfl) ?_
 refine wp_skip ?_
 refine sx_norm ?_
 refine wp_seq ?_
 refine wp_region_lit ?_
 refine sx_val (by kernel_rfl) rfl rfl (.int .i64 c) (by kernel_rfl) ?_
 rcases HZ with ⟨hc, -⟩ | ⟨hc, hy, hin, h10⟩
 ·refine sx_bool (by kernel_rfl) rfl rfl ((c : Int) != 0) true (by kernel_rfl) (by simp [hc]) ?_
  refine sx_val (by kernel_rfl) rfl rfl (.bool true) (by kernel_rfl) ?_
  refine sx_skip (by kernel_rfl) rfl rfl ?_
  refine sx_skip (by kernel_rfl) rfl rfl ?_
  refine sx_skip (by kernel_rfl) rfl rfl ?_
  refine sx_skip (by kernel_rfl) rfl rfl ?_
  refine sx_skip (by kernel_rfl) rfl rfl ?_
  refine sx_skip (by kernel_rfl) rfl rfl ?_
  refine sx_skip (by kernel_rfl) rfl rfl ?_
  refine sx_skip (by kernel_rfl) rfl rfl ?_
  refine sx_skip (by kernel_rfl) rfl rfl ?_
  refine sx_skip (by kernel_rfl) rfl rfl ?_
  refine sx_skip (by kernel_rfl) rfl rfl ?_
  refine sx_skip (by kernel_rfl) rfl rfl ?_
  refine sx_skip (by kernel_rfl) rfl rfl ?_
  refine sx_skip (by kernel_rfl) rfl rfl ?_
  refine sx_val (by kernel_rfl) rfl rfl (.bool true) (by kernel_rfl) ?_
  refine sx_val (by kernel_rfl) rfl rfl (.bool true) (by kernel_rfl) ?_
  refine sx_call (by kernel_rfl) rfl rfl (awakeI_n _ hT hS) (by kernel_rfl) ?_
  rintro e W8 ⟨rfl, hb⟩
  refine ⟨_, rfl, ?_⟩
  replace HB := over HB hb
  replace hT := hT.over hb
  replace hS := hS.over hb
  replace h := h.below hb
  replace hl := hl.below hb
  replace MX := MX.below hb
  replace MO := MO.below hb
  replace HI1 := HI1.below hb
  replace M5 := M5.below hb
  replace HI2 := HI2.below hb
  replace M7 := M7.below hb
  have z9 := hb.size
  clear hb
  refine sx_val (by kernel_rfl) rfl rfl (.bool true) (by kernel_rfl) ?_
  refine sx_val (by kernel_rfl) rfl rfl (.bool true) (by kernel_rfl) ?_
  refine wpList_nil ?_
  refine sx_norm ?_
  refine wp_ret ?_
  exact sx_ret1 (.bool true) rfl rfl (by kernel_rfl) ⟨rfl, HB⟩
 ·refine sx_bool (by kernel_rfl) rfl rfl ((c : Int) != 0) false (by kernel_rfl) (by simp [hc]) ?_
  refine sx_val (by kernel_rfl) rfl rfl (.bool false) (by kernel_rfl) ?_
  refine sx_load (by kernel_rfl) rfl rfl rfl M5 (by kernel_rfl) Tryz.underlying30 rfl (by kernel_rfl) ?_
  have hIY : InW y := by rw [hy]; exact inW_add hIW h10 hlo hno
  have hlen : y.ol.length = x.ol.length + 1 := by rw [hy]; exact List.length_append
  have hnf : (inF y).length = 0 := by rw [hy, hin]; rfl
  have hx12 := hIW.b.ol
  refine sx_call (by kernel_rfl) rfl rfl (check_len ⟨p0, d0, p1, d1, p2, d2, p3, d3, p4, d4, p5, d5⟩ y hIY 0 hnf _ hT HI1) (by kernel_rfl) ?_
  rintro e W8 ⟨oa, ca, rfl, hb⟩
  refine ⟨_, rfl, ?_⟩
  replace HB := over HB hb
  replace hT := hT.over hb
  replace hS := hS.over hb
  replace h := h.below hb
  replace hl := hl.below hb
  replace MX := MX.below hb
  replace MO := MO.below hb
  replace HI1 := HI1.below hb
  replace M5 := M5.below hb
  replace HI2 := HI2.below hb
  replace M7 := M7.below hb
  have z9 := hb.size
  clear hb
  refine sx_val (by kernel_rfl) rfl rfl (.int .i64 0) (by kernel_rfl) ?_
  refine sx_val (by kernel_rfl) rfl rfl (.bool true) (by kernel_rfl) ?_
  refine sx_val (by kernel_rfl) rfl rfl (.bool true) (by kernel_rfl) ?_
  refine sx_val (by kernel_rfl) rfl rfl (.pointer (some ⟨W3.heap.size, 3, none⟩)) (by kernel_rfl) ?_
  refine sx_load1 (by kernel_rfl) rfl rfl rfl (M5.cell 3 rfl) (by kernel_rfl) Tryz.underlying27 rfl ?_
  refine sx_val (by kernel_rfl) rfl rfl (.int .i64 y.ol.length) (by kernel_rfl) ?_
  refine sx_val (by kernel_rfl) rfl rfl (.pointer (some ⟨w.heap.size, 3, none⟩)) (by kernel_rfl) ?_
  refine sx_load1 (by kernel_rfl) rfl rfl rfl (MX.cell 3 rfl) (by kernel_rfl) Tryz.underlying27 rfl ?_
  refine sx_val (by kernel_rfl) rfl rfl (.int .i64 x.ol.length) (by kernel_rfl) ?_
  refine sx_int (by kernel_rfl) rfl rfl .i64 (IntKind.i64.wrap ((x.ol.length : Int) + 1)) (((x.ol.length + 1 : Nat) : Int)) (by kernel_rfl) (by rw [IntKind.wrap_i64]; omega) ?_
  refine sx_bool (by kernel_rfl) rfl rfl ((y.ol.length : Int) == ((x.ol.length + 1 : Nat) : Int)) true (by kernel_rfl) (by rw [hlen]; simp) ?_
  refine sx_val (by kernel_rfl) rfl rfl (.bool true) (by kernel_rfl) ?_
  refine sx_val (by kernel_rfl) rfl rfl (.bool true) (by kernel_rfl) ?_
  refine sx_val (by kernel_rfl) rfl rfl (.bool true) (by kernel_rfl) ?_
  refine sx_call (by kernel_rfl) rfl rfl (awakeI_n _ hT hS) (by kernel_rfl) ?_
  rintro e W9 ⟨rfl, hb⟩
  refine ⟨_, rfl, ?_⟩
  replace HB := over HB hb
  replace hT := hT.over hb
  replace hS := hS.over hb
  replace h := h.below hb
  replace hl := hl.below hb
  replace MX := MX.below hb
  replace MO := MO.below hb
  replace HI1 := HI1.below hb
  replace M5 := M5.below hb
  replace HI2 := HI2.below hb
  replace M7 := M7.below hb
  have z10 := hb.size
  clear hb
  refine sx_val (by kernel_rfl) rfl rfl (.bool true) (by kernel_rfl) ?_
  refine sx_val (by kernel_rfl) rfl rfl (.bool true) (by kernel_rfl) ?_
  refine wpList_nil ?_
  refine sx_norm ?_
  refine wp_ret ?_
  exact sx_ret1 (.bool true) rfl rfl (by kernel_rfl) ⟨rfl, HB⟩
theorem addsL_n (k : Iv) (x : InT) (o : OrT) (oo : Option Addr) (co : Nat) (hx : InA x) (hno : o.name.size ≤ 9223372036854775807) (w : World) (hT : Tab w) (hS : S.Tab w) (h : Ins w k x) (hl : L.Li w (.slice oo o.load.length co) o.load) :
  Calls Tryz.prog 6 #[k.v x, orV o (.slice oo o.load.length co)] w fun e w' => e = .returned (.bool true) ∧ Below w.heap.size w w' := by
 cases hsm : smlB x
 ·exact addsA k x o oo co hsm w hT hS h hl
 ·by_cases hlo : o.load.length ≤ 6
  ·exact addsC k x o oo co hx hsm hlo hno w hT hS h hl
  ·exact addsB k x o oo co hsm hlo w hT hS h hl
end Go.Proofs.YtaallpebfcadjaaGreatDoor.T

