/-
  DERIVED. GG: a part of the base of layer 13 (made by pack.py).
-/
import Derived.Test.YtomebalolmabnaaDoorGA
import Derived.Test.YtomebalolmabnaaDoorGE
import Derived.Test.YtomebalolmabnaaDoorDh
/-! The walks of drive: the arcs of a course alone (by gen_di.py). -/
namespace Go.Proofs.YtomebalolmabnaaDoor.T
open Go.RowKit
set_option maxRecDepth 8000
attribute [local irreducible] wpList Code.wp wpAnyH

def CrT.goesK (c : CrT) (f t : Int) (k : Nat) : Bool := (List.range k).any fun i => decide ((c.S.getD i st0).p = f) && decide ((c.S.getD (i + 1) st0).p = t)
def CrT.goesB (c : CrT) (f t : Int) : Bool := c.goesK f t c.n
theorem CrT.goesK_succ (c : CrT) (f t : Int) (k : Nat) : c.goesK f t (k + 1) = (c.goesK f t k || (decide ((c.S.getD k st0).p = f) && decide ((c.S.getD (k + 1) st0).p = t))) := by
 unfold CrT.goesK
 rw [List.range_succ, List.any_append]
 simp
theorem CrT.goesK_hit (c : CrT) {f t : Int} {k : Nat} (hk : k < c.n) (h1 : (c.S.getD k st0).p = f) (h2 : (c.S.getD (k + 1) st0).p = t) : c.goesB f t = true := by
 unfold CrT.goesB CrT.goesK
 rw [List.any_eq_true]
 exact ⟨k, List.mem_range.2 hk, by rw [decide_eq_true h1, decide_eq_true h2]; rfl⟩
theorem CrT.goesK_no (c : CrT) {f t : Int} {k : Nat} (h : c.goesK f t k = false) (h1 : ¬ ((c.S.getD k st0).p = f ∧ (c.S.getD (k + 1) st0).p = t)) : c.goesK f t (k + 1) = false := by
 rw [CrT.goesK_succ, h, Bool.false_or, Bool.eq_false_iff]
 intro h9
 simp only [Bool.and_eq_true, decide_eq_true_eq] at h9
 exact h1 h9
theorem goes_n (c : CrT) (hc : c.Ok) (K : CV) (q : Nat) (w : World) (hK : Crw w c K q) (f t : Int) : Calls Tryd.prog 71 #[.pointer (some ⟨q, 0, none⟩), .int .i64 f, .int .i64 t] w fun e w' => e = .returned (.bool (c.goesB f t)) ∧ w = w' := by
 have HB : Below w.heap.size w w := Below.refl _ _
 have hnl : c.n + 1 = c.S.length := by have := hc.len; unfold CrT.n; omega
 have hB := hK.blk
 have yhB := hB.lt
 have hS := hK.st
 have hln := hc.len
 have hrst := hc.rst
 have hdrv := hc.drv
 have hrd := hc.rd
 refine sx_enter Tryd.func71 rfl [(0, .pointer (some ⟨q, 0, none⟩)), (1, .int .i64 f), (2, .int .i64 t)] (by kernel_rfl) ?_
 refine wp_seq (wp_region_lit ?_)
 refine Zv rfl (.bool false) ?_
 refine wpList_nil (sx_norm (wp_seq (wp_seq (wp_region_lit ?_))))
 refine Zv rfl (.pointer (some ⟨q, 0, none⟩)) ?_
 refine sx_call (by kernel_rfl) rfl rfl (ways_n c hc K q w hK) (by kernel_rfl) ?_
 rintro e w9 ⟨rfl, rfl⟩
 refine ⟨_, rfl, ?_⟩
 refine Zv rfl (.int .i64 0) ?_
 refine wpList_nil (sx_norm (wp_block ?_))
 refine sx_loop (fun k : Nat => [(0, .pointer (some ⟨q, 0, none⟩)), (1, .int .i64 f), (2, .int .i64 t), (8, .pointer (some ⟨q, 0, none⟩)), (9, .int .i64 ((c.n : Nat) : Int)), (10, .int .i64 ((k : Nat) : Int))]) (fun gg k wr => k ≤ c.n ∧ c.n - k ≤ gg ∧ c.goesK f t k = false ∧ wr = w) (c.n) (0) (by kernel_rfl) ⟨Nat.zero_le _, Nat.le_refl _, rfl, rfl⟩ ?_
 rintro gg k g' wr1 ⟨hk, hg, hgk, rfl⟩
 refine wp_seq (wp_region_lit ?_)
 by_cases C1 : k < c.n
 ·refine Zb rfl (decide (((k : Nat) : Int) < ((c.n : Nat) : Int))) true (decide_eq_true (by omega)) ?_
  refine wpList_nil (sx_norm (wp_seq ?_))
  refine sx_true (by kernel_rfl) ?_
  refine wp_skip (sx_norm (wp_seq (wp_block (wp_seq (wp_region_lit ?_)))))
  refine Zv rfl (.int .i64 ((k : Nat) : Int)) ?_
  refine Zv rfl (.int .i64 ((k : Nat) : Int)) ?_
  refine wpList_nil (sx_norm (wp_seq (wp_region_lit ?_)))
  refine Zv rfl (.pointer (some ⟨q, 0, none⟩)) ?_
  refine Zv rfl (.pointer (some ⟨q, 0, none⟩)) ?_
  refine Zv rfl (.pointer (some ⟨q, 17, none⟩)) ?_
  refine Zw rfl (.slice K.o2 c.S.length K.c2) (el (hB.cell 17 rfl) Tryd.underlying99) ?_
  refine Zv rfl (.int .i64 ((k : Nat) : Int)) ?_
  refine Zw rfl (.pointer (some ⟨K.bs, K.os + k * 4, none⟩)) (ex_indexO (q := K.os) (m := c.S.length) (c := K.c2) (k := k) (s := 4) rfl (by kernel_rfl) ((hS.below HB).oa (k := k) (by omega)) (by kernel_rfl) Tryd.underlying99 (by kernel_rfl) (by omega) (by omega)) ?_
  refine Zv rfl (.pointer (some ⟨K.bs, K.os + k * 4, none⟩)) ?_
  refine Zw rfl (.int .i64 ((c.S.getD k st0).p)) (el ((hS.below HB).cell (k := k) (by omega) 0 rfl) Tryd.underlying3) ?_
  refine Zv rfl (.int .i64 f) ?_
  by_cases C2 : (c.S.getD k st0).p = f
  ·refine Zb rfl (((c.S.getD k st0).p : Int) == (f : Int)) true (beq_iff_eq.2 (by omega)) ?_
   refine Zv rfl (.bool true) ?_
   refine Zv rfl (.pointer (some ⟨q, 0, none⟩)) ?_
   refine Zv rfl (.pointer (some ⟨q, 0, none⟩)) ?_
   refine Zv rfl (.pointer (some ⟨q, 17, none⟩)) ?_
   refine Zw rfl (.slice K.o2 c.S.length K.c2) (el (hB.cell 17 rfl) Tryd.underlying99) ?_
   refine Zv rfl (.int .i64 ((k : Nat) : Int)) ?_
   refine sx_int (by kernel_rfl) rfl rfl .i64 (IntKind.i64.wrap (((k : Nat) : Int) + 1)) (((k + 1 : Nat) : Int)) (by kernel_rfl) (by rw [IntKind.wrap_i64]; omega) ?_
   refine Zw rfl (.pointer (some ⟨K.bs, K.os + (k + 1) * 4, none⟩)) (ex_indexO (q := K.os) (m := c.S.length) (c := K.c2) (k := k + 1) (s := 4) rfl (by kernel_rfl) ((hS.below HB).oa (k := k + 1) (by omega)) (by kernel_rfl) Tryd.underlying99 (by kernel_rfl) (by omega) (by omega)) ?_
   refine Zv rfl (.pointer (some ⟨K.bs, K.os + (k + 1) * 4, none⟩)) ?_
   refine Zw rfl (.int .i64 ((c.S.getD (k + 1) st0).p)) (el ((hS.below HB).cell (k := k + 1) (by omega) 0 rfl) Tryd.underlying3) ?_
   refine Zv rfl (.int .i64 t) ?_
   by_cases C3 : (c.S.getD (k + 1) st0).p = t
   ·refine Zb rfl (((c.S.getD (k + 1) st0).p : Int) == (t : Int)) true (beq_iff_eq.2 (by omega)) ?_
    refine Zv rfl (.bool true) ?_
    refine wpList_nil (sx_norm ?_)
    refine sx_true (by kernel_rfl) ?_
    refine wp_seq (wp_region_lit ?_)
    refine Zv rfl (.bool true) ?_
    refine wpList_nil (sx_norm (wp_ret ?_))
    refine sx_rb ?_
    refine sx_rs (sx_rs ?_)
    refine sx_rb ?_
    refine sx_rs ?_
    refine sx_ret1 (.bool true) rfl rfl (by kernel_rfl) ⟨by rw [c.goesK_hit (k := k) (by omega) (by omega) (by omega)], rfl⟩
   refine Zb rfl (((c.S.getD (k + 1) st0).p : Int) == (t : Int)) false (beq_eq_false_iff_ne.2 (by omega)) ?_
   refine Zv rfl (.bool false) ?_
   refine wpList_nil (sx_norm ?_)
   refine sx_false (by kernel_rfl) ?_
   refine wp_skip ?_
   refine sx_in ?_
   refine sx_norm (wp_region_lit ?_)
   refine sx_int (by kernel_rfl) rfl rfl .i64 (IntKind.i64.wrap (((k : Nat) : Int) + 1)) (((k + 1 : Nat) : Int)) (by kernel_rfl) (by rw [IntKind.wrap_i64]; omega) ?_
   refine Zv rfl (.int .i64 ((k + 1 : Nat) : Int)) ?_
   refine wpList_nil (sx_norm ?_)
   exact sx_again (c.n - (k + 1)) (k + 1) (by omega) (by kernel_rfl) ⟨by show k + 1 ≤ _; omega, Nat.le_refl _, c.goesK_no hgk (by omega), rfl⟩
  refine Zb rfl (((c.S.getD k st0).p : Int) == (f : Int)) false (beq_eq_false_iff_ne.2 (by omega)) ?_
  refine Zv rfl (.bool false) ?_
  refine Zk rfl ?_
  refine Zk rfl ?_
  refine Zk rfl ?_
  refine Zk rfl ?_
  refine Zk rfl ?_
  refine Zk rfl ?_
  refine Zk rfl ?_
  refine Zk rfl ?_
  refine Zk rfl ?_
  refine Zk rfl ?_
  refine Zk rfl ?_
  refine Zv rfl (.bool false) ?_
  refine wpList_nil (sx_norm ?_)
  refine sx_false (by kernel_rfl) ?_
  refine wp_skip ?_
  refine sx_in ?_
  refine sx_norm (wp_region_lit ?_)
  refine sx_int (by kernel_rfl) rfl rfl .i64 (IntKind.i64.wrap (((k : Nat) : Int) + 1)) (((k + 1 : Nat) : Int)) (by kernel_rfl) (by rw [IntKind.wrap_i64]; omega) ?_
  refine Zv rfl (.int .i64 ((k + 1 : Nat) : Int)) ?_
  refine wpList_nil (sx_norm ?_)
  exact sx_again (c.n - (k + 1)) (k + 1) (by omega) (by kernel_rfl) ⟨by show k + 1 ≤ _; omega, Nat.le_refl _, c.goesK_no hgk (by omega), rfl⟩
 refine Zb rfl (decide (((k : Nat) : Int) < ((c.n : Nat) : Int))) false (decide_eq_false (by omega)) ?_
 refine wpList_nil (sx_norm (wp_seq ?_))
 refine sx_false (by kernel_rfl) ?_
 refine wp_exit ?_
 refine sx_es ?_
 refine sx_es ?_
 refine sx_out ?_
 refine sx_norm (wp_seq (wp_region_lit ?_))
 refine Zv rfl (.bool false) ?_
 refine wpList_nil (sx_norm (wp_ret ?_))
 have hk9 : k = c.n := by omega
 subst hk9
 have e9 : c.goesB f t = false := hgk
 refine sx_ret1 (.bool false) rfl rfl (by kernel_rfl) ⟨by rw [e9], rfl⟩
abbrev ArX := ArcT × (Option Addr × Nat) × (Option Addr × Nat)
def arx0 : ArX := (arc0, (none, 0), (none, 0))
def arE (x : ArX) : List Value := [.int .i64 x.1.fr, .int .i64 x.1.to, .int .i64 x.1.prof, .int .i64 x.1.miles, .slice x.2.1.1 x.1.tr.length x.2.1.2, .slice x.2.2.1 x.1.sl.length x.2.2.2]
theorem arRow : Row arE 6 := ⟨fun _ => rfl, fun x v hv => by
 simp only [arE, List.mem_cons, List.not_mem_nil, or_false] at hv
 rcases hv with rfl | rfl | rfl | rfl | rfl | rfl <;> rfl⟩
def arZ : Value := .agg #[.int .i64 0, .int .i64 0, .int .i64 0, .int .i64 0, .slice none 0 0, .slice none 0 0]
def PsX (w : World) (x : ArX) : Prop := Ps w (.slice x.2.1.1 x.1.tr.length x.2.1.2) x.1.tr ∧ Ps w (.slice x.2.2.1 x.1.sl.length x.2.2.2) x.1.sl
theorem PsX.below {w w' : World} {x : ArX} (h : PsX w x) (k : Below w.heap.size w w') : PsX w' x := ⟨h.1.below k, h.2.below k⟩
theorem As.rwX {w : World} {oa : Option Addr} {c : Nat} {l : List ArcT} (h : As w (.slice oa l.length c) l) : ∃ (b o : Nat) (X : List ArX), X.map (·.1) = l ∧ Rw w b o 6 (fun k => arE (X.getD k arx0)) l.length oa ∧ ∀ x ∈ X, PsX w x := by
 obtain ⟨oa', c', hv, h⟩ := h
 simp only [Value.slice.injEq] at hv
 obtain ⟨rfl, -, rfl⟩ := hv
 cases l with
 | nil => exact ⟨0, 0, [], rfl, fun i hi => absurd hi (Nat.not_lt_zero _), fun x hx => by cases hx⟩
 | cons x l =>
  obtain ⟨b, o, -, -, ha, -⟩ := h 0 (by simp)
  have hex : ∀ i, i < (x :: l).length → ∃ p : (Option Addr × Nat) × (Option Addr × Nat), b < w.heap.size ∧ Ac w b (o + i * 6) ((x :: l).getD i arc0) (.slice p.1.1 ((x :: l).getD i arc0).tr.length p.1.2) (.slice p.2.1 ((x :: l).getD i arc0).sl.length p.2.2) ∧ PsX w ((x :: l).getD i arc0, p) := fun i hi => by
   obtain ⟨b', o', vt, vs, ha', hl, hc, ht, hs⟩ := h i hi
   rw [ha] at ha'
   simp only [Option.some.injEq, Addr.mk.injEq, and_true] at ha'
   obtain ⟨rfl, rfl⟩ := ha'
   have ht0 := ht
   have hs0 := hs
   obtain ⟨oa9, c9, rfl, -⟩ := ht
   obtain ⟨oa8, c8, rfl, -⟩ := hs
   exact ⟨((oa9, c9), (oa8, c8)), hl, hc, ht0, hs0⟩
  have hvc : ∃ vc : Nat → (Option Addr × Nat) × (Option Addr × Nat), ∀ i, i < (x :: l).length → b < w.heap.size ∧ Ac w b (o + i * 6) ((x :: l).getD i arc0) (.slice (vc i).1.1 ((x :: l).getD i arc0).tr.length (vc i).1.2) (.slice (vc i).2.1 ((x :: l).getD i arc0).sl.length (vc i).2.2) ∧ PsX w ((x :: l).getD i arc0, vc i) := by
   refine ⟨fun i => if hi : i < (x :: l).length then Classical.choose (hex i hi) else ((none, 0), (none, 0)), fun i hi => ?_⟩
   have h9 := Classical.choose_spec (hex i hi)
   simp only [dif_pos hi]
   exact h9
  obtain ⟨vc, hvc⟩ := hvc
  have hX : ∀ k, k < (x :: l).length → ((List.range (x :: l).length).map fun i => ((x :: l).getD i arc0, vc i)).getD k arx0 = ((x :: l).getD k arc0, vc k) := fun k hk => by
   rw [List.getD_eq_getElem?_getD, List.getElem?_map, List.getElem?_range hk]
   rfl
  refine ⟨b, o, (List.range (x :: l).length).map fun i => ((x :: l).getD i arc0, vc i), ?_, fun k hk => ⟨ha, (hvc k hk).1, fun j v hj => ?_⟩, fun y hy => ?_⟩
  ·rw [List.map_map]
   apply List.ext_getElem?
   intro j
   rw [List.getElem?_map]
   by_cases hj : j < (x :: l).length
   ·rw [List.getElem?_range hj, List.getElem?_eq_getElem hj]
    show some ((x :: l).getD j arc0) = _
    rw [List.getD_eq_getElem?_getD, List.getElem?_eq_getElem hj]
    rfl
   ·rw [List.getElem?_eq_none (by rw [List.length_range]; omega), List.getElem?_eq_none (by omega)]
    rfl
  ·simp only [hX k hk, arE] at hj
   obtain ⟨-, ⟨h0, h1, h2, h3, h4, h5⟩, -⟩ := hvc k hk
   match j, hj with
   | 0, hj => simp only [List.getElem?_cons_zero, Option.some.injEq] at hj; subst hj; exact h0
   | 1, hj => simp only [List.getElem?_cons_succ, List.getElem?_cons_zero, Option.some.injEq] at hj; subst hj; exact h1
   | 2, hj => simp only [List.getElem?_cons_succ, List.getElem?_cons_zero, Option.some.injEq] at hj; subst hj; exact h2
   | 3, hj => simp only [List.getElem?_cons_succ, List.getElem?_cons_zero, Option.some.injEq] at hj; subst hj; exact h3
   | 4, hj => simp only [List.getElem?_cons_succ, List.getElem?_cons_zero, Option.some.injEq] at hj; subst hj; exact h4
   | 5, hj => simp only [List.getElem?_cons_succ, List.getElem?_cons_zero, Option.some.injEq] at hj; subst hj; exact h5
   | j + 6, hj => simp at hj
  ·obtain ⟨i, hi, rfl⟩ := List.mem_map.1 hy
   exact (hvc i (List.mem_range.1 hi)).2.2
theorem As.ofX {w : World} {oa : Option Addr} {c b o : Nat} {l : List ArcT} {X : List ArX} (hX : X.map (·.1) = l) (hr : Rw w b o 6 (fun k => arE (X.getD k arx0)) l.length oa) (hp : ∀ x ∈ X, PsX w x) : As w (.slice oa l.length c) l := by
 subst hX
 refine ⟨oa, c, rfl, fun i hi => ?_⟩
 obtain ⟨h1, h2, h3⟩ := hr i hi
 rw [List.length_map] at hi
 have hm : X.getD i arx0 ∈ X := by rw [List.getD_eq_getElem?_getD, List.getElem?_eq_getElem hi]; exact List.getElem_mem hi
 have he : (X.map (·.1)).getD i arc0 = (X.getD i arx0).1 := by
  rw [List.getD_eq_getElem?_getD, List.getD_eq_getElem?_getD, List.getElem?_map, List.getElem?_eq_getElem hi]
  rfl
 rw [he]
 exact ⟨b, o, _, _, h1, h2, ⟨h3 0 _ rfl, h3 1 _ rfl, h3 2 _ rfl, h3 3 _ rfl, h3 4 _ rfl, h3 5 _ rfl⟩, (hp _ hm).1, (hp _ hm).2⟩
theorem Ol.rwB {α : Type} {E : α → List Value} {sz : Nat} {e : TypeId} {B : Nat} {w : World} {L : List α} (hr : Row E sz) (d : α) {oa : Option Addr} {c : Nat} (h : Ol E e sz B w (.slice oa L.length c) L) : ∃ b o, Rw w b o sz (fun k => E (L.getD k d)) L.length oa ∧ ∀ i, i < L.length → B ≤ b := by
 obtain ⟨b, o, hb⟩ := Ol.rw hr d h
 refine ⟨b, o, hb, fun i hi => ?_⟩
 have h1 := (hb i hi).1
 subst h1
 exact (h.blk rfl).1
def CrT.keepA (c : CrT) (a : ArcT) : Bool := decide (a.prof = c.ty.prof) && c.goesB a.fr a.to
def CrT.few (c : CrT) : List ArcT := c.al.filter c.keepA
def CrT.fewX (c : CrT) (X : List ArX) (k : Nat) : List ArX := (X.take k).filter fun x => c.keepA x.1
theorem CrT.fewX_yes {c : CrT} {X : List ArX} {k : Nat} (hk : k < X.length) (h1 : (X.getD k arx0).1.prof = c.ty.prof) (h2 : c.goesB (X.getD k arx0).1.fr (X.getD k arx0).1.to = true) : c.fewX X (k + 1) = c.fewX X k ++ [X.getD k arx0] := by
 unfold CrT.fewX
 rw [take_more (d := arx0) hk, List.filter_append, List.filter_cons_of_pos (by show c.keepA _ = true; unfold CrT.keepA; rw [decide_eq_true h1, h2]; rfl)]
 rfl
theorem CrT.fewX_no {c : CrT} {X : List ArX} {k : Nat} (hk : k < X.length) (h : ¬ ((X.getD k arx0).1.prof = c.ty.prof ∧ c.goesB (X.getD k arx0).1.fr (X.getD k arx0).1.to = true)) : c.fewX X (k + 1) = c.fewX X k := by
 unfold CrT.fewX
 rw [take_more (d := arx0) hk, List.filter_append, List.filter_cons_of_neg (by
  show ¬ c.keepA _ = true
  unfold CrT.keepA
  intro h9
  simp only [Bool.and_eq_true, decide_eq_true_eq] at h9
  exact h h9)]
 simp
theorem CrT.fewX_len (c : CrT) (X : List ArX) (k : Nat) : (c.fewX X k).length ≤ X.length := by
 unfold CrT.fewX
 exact Nat.le_trans (List.length_filter_le _ _) (by rw [List.length_take]; omega)
theorem CrT.fewX_few {c : CrT} {X : List ArX} (h : X.map (·.1) = c.al) : (c.fewX X X.length).map (·.1) = c.few := by
 unfold CrT.fewX CrT.few
 rw [List.take_length, ← h, List.filter_map]
 rfl
theorem arcs_n (v0 : World) (c : CrT) (hc : c.Ok) (K : CV) (q : Nat) (w : World) (hK0 : Crw v0 c K q) (HV : Below v0.heap.size v0 w) : Calls Tryd.prog 50 #[.pointer (some ⟨q, 0, none⟩)] w fun e w' => ∃ (o9 : Option Addr) (c9 bA oA : Nat) (X : List ArX), e = .returned (.slice o9 c.few.length c9) ∧ X.map (·.1) = c.few ∧ Rw w' bA oA 6 (fun k => arE (X.getD k arx0)) c.few.length o9 ∧ (∀ i, i < c.few.length → w.heap.size ≤ bA) ∧ (∀ x ∈ X, PsX v0 x) ∧ Below w.heap.size w w' := by
 have hK := hK0.below HV
 obtain ⟨ba, qa, X, hX, hA0, hXp⟩ := hK0.al.rwX
 have hA := hA0.below HV
 have hXl : X.length = c.al.length := by rw [← hX, List.length_map]
 have hal := hc.al
 have HB : Below w.heap.size w w := Below.refl _ _
 have hB := hK.blk
 have yhB := hB.lt
 have hS := hK.st
 have hln := hc.len
 have hrst := hc.rst
 have hdrv := hc.drv
 have hrd := hc.rd
 refine sx_enter Tryd.func50 rfl [(0, .pointer (some ⟨q, 0, none⟩))] (by kernel_rfl) ?_
 refine wp_seq (wp_region_lit ?_)
 refine Zv rfl (.slice none 0 0) ?_
 refine wpList_nil (sx_norm (wp_seq (wp_region_lit ?_)))
 refine Zv rfl (.slice none 0 0) ?_
 refine wpList_nil (sx_norm (wp_seq (wp_seq (wp_region_lit ?_))))
 refine Zv rfl (.pointer (some ⟨q, 0, none⟩)) ?_
 refine Zv rfl (.pointer (some ⟨q, 0, none⟩)) ?_
 refine Zv rfl (.pointer (some ⟨q, 0, none⟩)) ?_
 refine Zv rfl (.pointer (some ⟨q, 1, none⟩)) ?_
 refine Zw rfl (.slice K.o1 c.al.length K.c1) (el (hB.cell 1 rfl) Tryd.underlying23) ?_
 refine Zv rfl (.int .i64 ((c.al.length : Nat) : Int)) ?_
 refine Zv rfl (.int .i64 0) ?_
 refine wpList_nil (sx_norm (wp_block ?_))
 refine sx_loop (fun x9 : Nat × Value => [(0, .pointer (some ⟨q, 0, none⟩)), (2, .slice none 0 0), (3, x9.2), (6, .pointer (some ⟨q, 0, none⟩)), (7, .pointer (some ⟨q, 0, none⟩)), (8, .pointer (some ⟨q, 0, none⟩)), (9, .pointer (some ⟨q, 1, none⟩)), (10, .slice K.o1 c.al.length K.c1), (11, .int .i64 ((c.al.length : Nat) : Int)), (12, .int .i64 ((x9.1 : Nat) : Int))]) (fun gg x9 wr => x9.1 ≤ c.al.length ∧ c.al.length - x9.1 ≤ gg ∧ Ol arE 89 6 w.heap.size wr x9.2 (c.fewX X x9.1) ∧ Below w.heap.size w wr) (c.al.length) ((0, .slice none 0 0)) (by kernel_rfl) ⟨Nat.zero_le _, Nat.le_refl _, Ol.nil _ _ _, Below.refl _ _⟩ ?_
 rintro gg ⟨i, v3⟩ g' wr1 ⟨hi, hg, HG, hbl⟩
 dsimp only at hi hg HG hbl
 replace HB := HB.trans (hbl.mono (by omega))
 replace hB := hB.belowB (by omega) hbl
 have z1 := hbl.size
 have HL := hbl
 clear hbl
 refine wp_seq (wp_region_lit ?_)
 by_cases C1 : i < c.al.length
 ·refine Zb rfl (decide (((i : Nat) : Int) < ((c.al.length : Nat) : Int))) true (decide_eq_true (by omega)) ?_
  refine wpList_nil (sx_norm (wp_seq ?_))
  refine sx_true (by kernel_rfl) ?_
  refine wp_skip (sx_norm (wp_seq (wp_block (wp_seq (wp_region_lit ?_)))))
  refine Zw rfl (.pointer (some ⟨ba, qa + i * 6, none⟩)) (ex_indexO (q := qa) (m := c.al.length) (c := K.c1) (k := i) (s := 6) rfl (by kernel_rfl) ((hA.below HB).oa (k := i) (by omega)) (by kernel_rfl) Tryd.underlying23 (by kernel_rfl) (by omega) (by omega)) ?_
  refine Zw rfl (.agg #[.int .i64 ((X.getD i arx0).1.fr), .int .i64 ((X.getD i arx0).1.to), .int .i64 ((X.getD i arx0).1.prof), .int .i64 ((X.getD i arx0).1.miles), .slice (X.getD i arx0).2.1.1 (X.getD i arx0).1.tr.length (X.getD i arx0).2.1.2, .slice (X.getD i arx0).2.2.1 (X.getD i arx0).1.sl.length (X.getD i arx0).2.2.2]) (ex_loadR rfl ((hA.below HB).range (k := i) (by omega)) (by kernel_rfl) Tryd.underlying89 rfl (by kernel_rfl)) ?_
  obtain ⟨W3, hW, hb, hq⟩ := laidV wr1 #[.int .i64 0, .int .i64 0, .int .i64 0, .int .i64 0, .slice none 0 0, .slice none 0 0] #[.int .i64 ((X.getD i arx0).1.fr), .int .i64 ((X.getD i arx0).1.to), .int .i64 ((X.getD i arx0).1.prof), .int .i64 ((X.getD i arx0).1.miles), .slice (X.getD i arx0).2.1.1 (X.getD i arx0).1.tr.length (X.getD i arx0).2.1.2, .slice (X.getD i arx0).2.2.1 (X.getD i arx0).1.sl.length (X.getD i arx0).2.2.2] 89
  refine sx_mem (by kernel_rfl) rfl rfl (.pointer (some ⟨wr1.heap.size, 0, none⟩)) (wr1.alloc (.cells #[.int .i64 0, .int .i64 0, .int .i64 0, .int .i64 0, .slice none 0 0, .slice none 0 0] 89)) (by kernel_rfl) ?_
  refine Zs (cells := #[.int .i64 ((X.getD i arx0).1.fr), .int .i64 ((X.getD i arx0).1.to), .int .i64 ((X.getD i arx0).1.prof), .int .i64 ((X.getD i arx0).1.miles), .slice (X.getD i arx0).2.1.1 (X.getD i arx0).1.tr.length (X.getD i arx0).2.1.2, .slice (X.getD i arx0).2.2.1 (X.getD i arx0).1.sl.length (X.getD i arx0).2.2.2]) rfl rfl (Cb.made wr1 #[.int .i64 0, .int .i64 0, .int .i64 0, .int .i64 0, .slice none 0 0, .slice none 0 0] 89) ?_
  rw [hW]
  replace HB := over HB hb
  replace hB := hB.below hb
  replace HL := HL.trans (hb.mono (by omega))
  replace HG := HG.below hb
  have z2 := hb.size
  have M2 := hq
  have yM2 := hq.lt
  clear hq hb hW
  refine wpList_nil (sx_norm (wp_seq ?_))
  obtain ⟨Y4, hW⟩ : ∃ W, W3.drew = W := ⟨_, rfl⟩
  have hb : Below W3.heap.size W3 Y4 := hW ▸ below_drew (Below.refl _ _)
  replace HB := over HB hb
  replace hB := hB.below hb
  replace HL := HL.trans (hb.mono (by omega))
  replace HG := HG.below hb
  replace M2 := M2.below hb
  have z3 := hb.size
  clear hb
  refine sd_begin (fun W => Cb W (q) #[.slice K.o0 c.pl.length K.c0, .slice K.o1 c.al.length K.c1, .string c.ty.name, .int .i64 c.ty.count, .int .i64 c.ty.fr, .int .i64 c.ty.to, .slice K.va c.ty.cap.length K.vb, .int .i64 c.ty.skills, .int .i64 c.ty.prof, .int .i64 c.ty.opn, .int .i64 c.ty.cls, .int .i64 c.ty.drv, .int .i64 c.ty.rst, .int .i64 c.ty.fix, .int .i64 c.ty.pm, .int .i64 c.ty.pt, .int .i64 c.rd, .slice K.o2 c.S.length K.c2] 116 ∧ Cb W (wr1.heap.size) #[.int .i64 ((X.getD i arx0).1.fr), .int .i64 ((X.getD i arx0).1.to), .int .i64 ((X.getD i arx0).1.prof), .int .i64 ((X.getD i arx0).1.miles), .slice (X.getD i arx0).2.1.1 (X.getD i arx0).1.tr.length (X.getD i arx0).2.1.2, .slice (X.getD i arx0).2.2.1 (X.getD i arx0).1.sl.length (X.getD i arx0).2.2.2] 89 ∧ True) (by kernel_rfl) (by rw [hW]; exact ⟨hB, M2, trivial⟩) ?_
  rw [hW]
  clear hW
  refine Zu 0 rfl rfl (.pointer (some ⟨wr1.heap.size, 2, none⟩)) ⟨hB, M2, trivial⟩ ?_
  refine Zt 1 rfl rfl (.int .i64 ((X.getD i arx0).1.prof)) (fun w9 h9 => el (h9.2.1.cell 2 rfl) Tryd.underlying3) ⟨hB, M2, trivial⟩ ?_
  refine Zu 2 rfl rfl (.pointer (some ⟨q, 0, none⟩)) ⟨hB, M2, trivial⟩ ?_
  refine Zu 3 rfl rfl (.pointer (some ⟨q, 0, none⟩)) ⟨hB, M2, trivial⟩ ?_
  refine Zu 4 rfl rfl (.pointer (some ⟨q, 2, none⟩)) ⟨hB, M2, trivial⟩ ?_
  refine Zu 5 rfl rfl (.pointer (some ⟨q, 8, none⟩)) ⟨hB, M2, trivial⟩ ?_
  refine Zt 6 rfl rfl (.int .i64 c.ty.prof) (fun w9 h9 => el (h9.1.cell 8 rfl) Tryd.underlying3) ⟨hB, M2, trivial⟩ ?_
  by_cases C2 : (X.getD i arx0).1.prof = c.ty.prof
  ·refine Zt 7 rfl rfl (.bool true) (fun w9 _ => ex_bool (((X.getD i arx0).1.prof : Int) == (c.ty.prof : Int)) true (by kernel_rfl) (beq_iff_eq.2 (by omega))) ⟨hB, M2, trivial⟩ ?_
   refine Zu 8 rfl rfl (.bool true) ⟨hB, M2, trivial⟩ ?_
   refine Zu 9 rfl rfl (.pointer (some ⟨q, 0, none⟩)) ⟨hB, M2, trivial⟩ ?_
   refine Zu 10 rfl rfl (.pointer (some ⟨wr1.heap.size, 0, none⟩)) ⟨hB, M2, trivial⟩ ?_
   refine Zt 11 rfl rfl (.int .i64 ((X.getD i arx0).1.fr)) (fun w9 h9 => el (h9.2.1.cell 0 rfl) Tryd.underlying3) ⟨hB, M2, trivial⟩ ?_
   refine Zu 12 rfl rfl (.pointer (some ⟨wr1.heap.size, 1, none⟩)) ⟨hB, M2, trivial⟩ ?_
   refine Zt 13 rfl rfl (.int .i64 ((X.getD i arx0).1.to)) (fun w9 h9 => el (h9.2.1.cell 1 rfl) Tryd.underlying3) ⟨hB, M2, trivial⟩ ?_
   refine sd_all [14] (by kernel_rfl) (by decide) ?_
   by_cases C3 : c.goesB (X.getD i arx0).1.fr (X.getD i arx0).1.to = true
   ·refine sd_call (i := 14) rfl (by kernel_rfl) rfl rfl ((by have h8 := goes_n c hc K q Y4 (hK.below HB) (X.getD i arx0).1.fr (X.getD i arx0).1.to; rw [show c.goesB (X.getD i arx0).1.fr (X.getD i arx0).1.to = true by simpa using C3] at h8; exact h8)) (by kernel_rfl) ?_ AllReadyH.nil
    rintro e w9 ⟨rfl, rfl⟩
    refine ⟨_, rfl, ⟨hB, M2, trivial⟩, ?_⟩
    refine Zu 15 rfl rfl (.bool true) ⟨hB, M2, trivial⟩ ?_
    refine sd_done (by kernel_rfl) ?_
    refine sx_norm ?_
    refine sx_true (by kernel_rfl) ?_
    refine wp_region_lit ?_
    refine Zv rfl (v3) ?_
    refine Zw rfl (.agg #[.int .i64 ((X.getD i arx0).1.fr), .int .i64 ((X.getD i arx0).1.to), .int .i64 ((X.getD i arx0).1.prof), .int .i64 ((X.getD i arx0).1.miles), .slice (X.getD i arx0).2.1.1 (X.getD i arx0).1.tr.length (X.getD i arx0).2.1.2, .slice (X.getD i arx0).2.2.1 (X.getD i arx0).1.sl.length (X.getD i arx0).2.2.2]) (ex_load rfl M2 (by kernel_rfl) Tryd.underlying89 rfl (by kernel_rfl)) ?_
    obtain ⟨W5, hW, hb, hq⟩ := laidA Y4 #[.int .i64 ((X.getD i arx0).1.fr), .int .i64 ((X.getD i arx0).1.to), .int .i64 ((X.getD i arx0).1.prof), .int .i64 ((X.getD i arx0).1.miles), .slice (X.getD i arx0).2.1.1 (X.getD i arx0).1.tr.length (X.getD i arx0).2.1.2, .slice (X.getD i arx0).2.2.1 (X.getD i arx0).1.sl.length (X.getD i arx0).2.2.2] 89
    refine sx_mem (by kernel_rfl) rfl rfl (.slice (some ⟨Y4.heap.size, 0, none⟩) 1 1) W5 (by rw [← hW]; kernel_rfl) ?_
    replace HB := over HB hb
    replace hB := hB.below hb
    replace HL := HL.trans (hb.mono (by omega))
    replace HG := HG.below hb
    replace M2 := M2.below hb
    have z4 := hb.size
    have M6 := hq
    have yM6 := hq.lt
    clear hq hb hW
    obtain ⟨v9, W7, h9, hg9, hb, -, -⟩ := ap_o (P := Tryd.prog) (t := 23) (ty := 23) (z := arZ) (bytes := 80) (x := (X.getD i arx0)) arRow Tryd.underlying23 (by kernel_rfl) rfl (by decide) (by decide) HG M6 rfl (by omega) (by have := c.fewX_len X i; omega)
    refine sx_mem (by kernel_rfl) rfl rfl v9 W7 (ex_append rfl (by kernel_rfl) (by kernel_rfl) h9) ?_
    replace HB := HB.trans (hb.mono (by omega))
    replace hB := hB.belowB (by omega) hb
    replace HL := HL.trans (hb.mono (by omega))
    have z5 := hb.size
    have HG := hg9
    clear hg9 hb h9
    refine Zv rfl (v9) ?_
    refine wpList_nil ?_
    refine sx_in ?_
    refine sx_norm (wp_region_lit ?_)
    refine sx_int (by kernel_rfl) rfl rfl .i64 (IntKind.i64.wrap (((i : Nat) : Int) + 1)) (((i + 1 : Nat) : Int)) (by kernel_rfl) (by rw [IntKind.wrap_i64]; omega) ?_
    refine Zv rfl (.int .i64 ((i + 1 : Nat) : Int)) ?_
    refine wpList_nil (sx_norm ?_)
    exact sx_again (c.al.length - (i + 1)) (i + 1, v9) (by omega) (by kernel_rfl) ⟨by show i + 1 ≤ _; omega, Nat.le_refl _, by show Ol arE _ 6 _ _ _ (c.fewX X (i + 1)); rw [c.fewX_yes (by omega) (by assumption) (by assumption)]; exact HG, HL⟩
   refine sd_call (i := 14) rfl (by kernel_rfl) rfl rfl ((by have h8 := goes_n c hc K q Y4 (hK.below HB) (X.getD i arx0).1.fr (X.getD i arx0).1.to; rw [show c.goesB (X.getD i arx0).1.fr (X.getD i arx0).1.to = false by simpa using C3] at h8; exact h8)) (by kernel_rfl) ?_ AllReadyH.nil
   rintro e w9 ⟨rfl, rfl⟩
   refine ⟨_, rfl, ⟨hB, M2, trivial⟩, ?_⟩
   refine Zu 15 rfl rfl (.bool false) ⟨hB, M2, trivial⟩ ?_
   refine sd_done (by kernel_rfl) ?_
   refine sx_norm ?_
   refine sx_false (by kernel_rfl) ?_
   refine wp_skip ?_
   refine sx_in ?_
   refine sx_norm (wp_region_lit ?_)
   refine sx_int (by kernel_rfl) rfl rfl .i64 (IntKind.i64.wrap (((i : Nat) : Int) + 1)) (((i + 1 : Nat) : Int)) (by kernel_rfl) (by rw [IntKind.wrap_i64]; omega) ?_
   refine Zv rfl (.int .i64 ((i + 1 : Nat) : Int)) ?_
   refine wpList_nil (sx_norm ?_)
   exact sx_again (c.al.length - (i + 1)) (i + 1, v3) (by omega) (by kernel_rfl) ⟨by show i + 1 ≤ _; omega, Nat.le_refl _, by show Ol arE _ 6 _ _ _ (c.fewX X (i + 1)); rw [c.fewX_no (by omega) (by simp_all)]; exact HG, HL⟩
  refine Zt 7 rfl rfl (.bool false) (fun w9 _ => ex_bool (((X.getD i arx0).1.prof : Int) == (c.ty.prof : Int)) false (by kernel_rfl) (beq_eq_false_iff_ne.2 (by omega))) ⟨hB, M2, trivial⟩ ?_
  refine Zu 8 rfl rfl (.bool false) ⟨hB, M2, trivial⟩ ?_
  refine Zp 9 rfl rfl ⟨hB, M2, trivial⟩ ?_
  refine Zp 10 rfl rfl ⟨hB, M2, trivial⟩ ?_
  refine Zp 11 rfl rfl ⟨hB, M2, trivial⟩ ?_
  refine Zp 12 rfl rfl ⟨hB, M2, trivial⟩ ?_
  refine Zp 13 rfl rfl ⟨hB, M2, trivial⟩ ?_
  refine Zp 14 rfl rfl ⟨hB, M2, trivial⟩ ?_
  refine Zu 15 rfl rfl (.bool false) ⟨hB, M2, trivial⟩ ?_
  refine sd_done (by kernel_rfl) ?_
  refine sx_norm ?_
  refine sx_false (by kernel_rfl) ?_
  refine wp_skip ?_
  refine sx_in ?_
  refine sx_norm (wp_region_lit ?_)
  refine sx_int (by kernel_rfl) rfl rfl .i64 (IntKind.i64.wrap (((i : Nat) : Int) + 1)) (((i + 1 : Nat) : Int)) (by kernel_rfl) (by rw [IntKind.wrap_i64]; omega) ?_
  refine Zv rfl (.int .i64 ((i + 1 : Nat) : Int)) ?_
  refine wpList_nil (sx_norm ?_)
  exact sx_again (c.al.length - (i + 1)) (i + 1, v3) (by omega) (by kernel_rfl) ⟨by show i + 1 ≤ _; omega, Nat.le_refl _, by show Ol arE _ 6 _ _ _ (c.fewX X (i + 1)); rw [c.fewX_no (by omega) (by simp_all)]; exact HG, HL⟩
 refine Zb rfl (decide (((i : Nat) : Int) < ((c.al.length : Nat) : Int))) false (decide_eq_false (by omega)) ?_
 refine wpList_nil (sx_norm (wp_seq ?_))
 refine sx_false (by kernel_rfl) ?_
 refine wp_exit ?_
 refine sx_es ?_
 refine sx_es ?_
 refine sx_out ?_
 refine sx_norm (wp_seq (wp_region_lit ?_))
 refine Zv rfl (v3) ?_
 refine Zv rfl (v3) ?_
 refine wpList_nil (sx_norm (wp_ret ?_))
 have hi9 : i = X.length := by omega
 subst hi9
 obtain ⟨o9, c9, rfl⟩ := Ol.form HG
 obtain ⟨bA, oA, hrA, hbA⟩ := Ol.rwB arRow arx0 HG
 have hlf : (c.fewX X X.length).length = c.few.length := by rw [← c.fewX_few hX, List.length_map]
 rw [hlf] at hrA hbA
 refine sx_ret1 (.slice o9 (c.fewX X X.length).length c9) rfl rfl (by kernel_rfl) ⟨o9, c9, bA, oA, _, by rw [hlf], c.fewX_few hX, hrA, hbA, fun x hx => hXp x (List.mem_of_mem_take (List.mem_filter.1 hx).1), HB⟩

end Go.Proofs.YtomebalolmabnaaDoor.T



/-! The arcs of a course alone; the rests that are found, in plain numbers. -/
namespace Go.Proofs.YtomebalolmabnaaDoor.T
open Go.RowKit
set_option maxRecDepth 8000

theorem once_pw {l : List ArcT} : (∀ i, i < l.length → twiceB l (l.getD i arc0) i = false) ↔ l.Pairwise fun a b => likeB b a = false := by
 rw [List.pairwise_iff_getElem]
 have hg : ∀ i (h : i < l.length), l.getD i arc0 = l[i] := fun i h => by rw [List.getD_eq_getElem?_getD, List.getElem?_eq_getElem h]; rfl
 constructor
 ·intro h i j hi hj hij
  have h1 := h j hj
  unfold twiceB at h1
  rw [List.any_eq_false] at h1
  have h2 := h1 l[i] (by rw [List.mem_take_iff_getElem]; exact ⟨i, by omega, rfl⟩)
  rw [hg j hj] at h2
  simpa using h2
 ·intro h i hi
  unfold twiceB
  rw [List.any_eq_false]
  intro a ha
  obtain ⟨j, hj, rfl⟩ := List.mem_take_iff_getElem.1 ha
  have h2 := h j i (by omega) hi (by omega)
  rw [hg i hi]
  simpa using h2
theorem NetOk.filter {pl : List ByteArray} {l : List ArcT} (h : NetOk pl l) (p : ArcT → Bool) : NetOk pl (l.filter p) := by
 refine ⟨h.places, fun i hi => ?_, ?_⟩
 ·have hm : (l.filter p).getD i arc0 ∈ l.filter p := by rw [List.getD_eq_getElem?_getD, List.getElem?_eq_getElem hi]; exact List.getElem_mem hi
  exact h.mem (List.mem_filter.1 hm).1
 ·rw [once_pw]
  exact (once_pw.1 h.once).filter p
namespace CrT
def sm (c : CrT) : CrT := { c with al := c.few }
theorem sm_ok {c : CrT} (h : c.Ok) : c.sm.Ok := ⟨h.net.filter _, Nat.le_trans (List.length_filter_le _ _) h.al, h.rst, h.drv, h.len, h.st, h.rd, h.last⟩
theorem find_sm {c : CrT} {k : Nat} (hk : k < c.n) : findA c.few c.ty.prof (c.S.getD k st0).p (c.S.getD (k + 1) st0).p = findA c.al c.ty.prof (c.S.getD k st0).p (c.S.getD (k + 1) st0).p := by
 unfold findA few
 rw [List.find?_filter]
 congr 1
 funext a
 by_cases h : hitB c.ty.prof (c.S.getD k st0).p (c.S.getD (k + 1) st0).p a = true
 ·unfold hitB at h
  simp only [Bool.and_eq_true, decide_eq_true_eq] at h
  have hK : c.keepA a = true := by
   unfold keepA
   rw [decide_eq_true h.2, h.1.1, h.1.2, c.goesK_hit hk rfl rfl]
   rfl
  simp [hK]
 ·rw [Bool.eq_false_iff.2 h]
  simp
theorem go_sm {c : CrT} {k : Nat} (hk : k < c.n) (don : Int) (r : Bool) : c.sm.go k don r = c.go k don r := by
 show goV c.pl.length c.few c.ty.prof (c.S.getD k st0).p (c.S.getD (k + 1) st0).p (c.gD don r) = goV c.pl.length c.al c.ty.prof (c.S.getD k st0).p (c.S.getD (k + 1) st0).p (c.gD don r)
 unfold goV
 rw [find_sm hk]
theorem err_sm {c : CrT} {k : Nat} (hk : k < c.n) (don sin : Int) (r : Bool) : c.sm.err k don sin r = c.err k don sin r := by
 unfold err
 rw [go_sm hk]
 rfl
theorem leg_sm {c : CrT} {k : Nat} (hk : k < c.n) (don sin : Int) (r : Bool) : c.sm.leg k don sin r = c.leg k don sin r := by
 unfold leg beg
 rw [go_sm hk]
 rfl
theorem best_sm {c : CrT} (F : List Bool) : ∀ (m k : Nat), k + m = c.n → c.sm.best F m k = c.best F m k
 | 0, _, _ => rfl
 | m + 1, k, h => by
  funext don sin
  rw [best_succ, best_succ, best_sm F m (k + 1) (by omega)]
  congr 1
  funext b r
  unfold stB
  rw [err_sm (by omega), leg_sm (by omega)]
end CrT
theorem foldB_inv {st : ChT → Bool → ChT} (I : ChT → Prop) : ∀ (O : List Bool) (b : ChT), I b → (∀ b r, r ∈ O → I b → I (st b r)) → I (foldB st O b)
 | [], _, h, _ => h
 | r :: O, b, h, hs => by
  show I (if (st b r).f = true then st b r else foldB st O (st b r))
  have h1 := hs b r (by simp) h
  split
  ·exact h1
  ·exact foldB_inv I O _ h1 (fun b' r' hr => hs b' r' (by simp [hr]))
theorem best_step {c : CrT} {F : List Bool} {m k : Nat} {don sin : Int} (h : (c.best F (m + 1) k don sin).p = true) :
  (c.best F (m + 1) k don sin).r ∈ CrT.opts F k ∧ c.err k don sin (c.best F (m + 1) k don sin).r = 0 ∧ (c.best F m (k + 1) (c.leg k don sin (c.best F (m + 1) k don sin).r).don (c.leg k don sin (c.best F (m + 1) k don sin).r).sin).p = true ∧
   (c.best F (m + 1) k don sin).e = (c.best F m (k + 1) (c.leg k don sin (c.best F (m + 1) k don sin).r).don (c.leg k don sin (c.best F (m + 1) k don sin).r).sin).e := by
 have hI := foldB_inv (st := stB c (c.best F m (k + 1)) k don sin) (fun b => b.p = true → b.r ∈ CrT.opts F k ∧ c.err k don sin b.r = 0 ∧ (c.best F m (k + 1) (c.leg k don sin b.r).don (c.leg k don sin b.r).sin).p = true ∧ b.e = (c.best F m (k + 1) (c.leg k don sin b.r).don (c.leg k don sin b.r).sin).e) (CrT.opts F k) ch0 (fun h => by cases h) (fun b r hr hb => by
  unfold stB
  split
  ·rename_i h1
   split
   ·rename_i h2
    exact fun _ => ⟨hr, h1, h2.1, rfl⟩
   ·exact hb
  ·exact hb)
 rw [← c.best_succ] at hI
 exact hI h
namespace CrT
def wy (c : CrT) (F : List Bool) : Nat → Nat → Int → Int → List Bool
 | 0, _, _, _ => []
 | m + 1, k, don, sin => (c.best F (m + 1) k don sin).r :: wy c F m (k + 1) (c.leg k don sin (c.best F (m + 1) k don sin).r).don (c.leg k don sin (c.best F (m + 1) k don sin).r).sin
def fnd (c : CrT) (F : List Bool) : List Bool := c.wy F c.n 0 c.rd 0
theorem wy_len (c : CrT) (F : List Bool) : ∀ (m k : Nat) (don sin : Int), (c.wy F m k don sin).length = m
 | 0, _, _, _ => rfl
 | m + 1, k, don, sin => by
  show (wy c F m _ _ _).length + 1 = _
  rw [wy_len]
theorem fnd_len (c : CrT) (F : List Bool) : (c.fnd F).length = c.n := wy_len c F _ _ _ _
theorem wy_at {c : CrT} {F : List Bool} : ∀ {i : Nat}, i ≤ c.n → (c.fnd F).drop i = c.wy F (c.n - i) i (c.dn (c.fnd F) i).1 (c.dn (c.fnd F) i).2
 | 0, _ => rfl
 | i + 1, h => by
  have ih := wy_at (c := c) (F := F) (i := i) (by omega)
  rw [show c.n - i = (c.n - (i + 1)) + 1 by omega] at ih
  have h1 : (c.fnd F).drop i = (c.fnd F).getD i false :: (c.fnd F).drop (i + 1) := drop_more (d := false) (by rw [fnd_len]; omega)
  rw [h1] at ih
  have h2 := (List.cons.inj ih).1
  have h3 := (List.cons.inj ih).2
  rw [h3, dn_succ]
  unfold lg
  rw [h2]
theorem fnd_at {c : CrT} {F : List Bool} {i : Nat} (h : i < c.n) : (c.fnd F).getD i false = (c.best F (c.n - i) i (c.dn (c.fnd F) i).1 (c.dn (c.fnd F) i).2).r := by
 have ih := wy_at (c := c) (F := F) (i := i) (by omega)
 rw [show c.n - i = (c.n - (i + 1)) + 1 by omega] at ih
 have h1 : (c.fnd F).drop i = (c.fnd F).getD i false :: (c.fnd F).drop (i + 1) := drop_more (d := false) (by rw [fnd_len]; omega)
 rw [h1] at ih
 rw [show c.n - i = (c.n - (i + 1)) + 1 by omega]
 exact (List.cons.inj ih).1
theorem fnd_p {c : CrT} {F : List Bool} (h0 : (c.best F c.n 0 c.rd 0).p = true) : ∀ {i : Nat}, i ≤ c.n → c.run (c.fnd F) i = 0 ∧ (c.best F (c.n - i) i (c.dn (c.fnd F) i).1 (c.dn (c.fnd F) i).2).p = true ∧ (c.best F (c.n - i) i (c.dn (c.fnd F) i).1 (c.dn (c.fnd F) i).2).e = (c.best F c.n 0 c.rd 0).e
 | 0, _ => ⟨rfl, h0, rfl⟩
 | i + 1, h => by
  obtain ⟨h1, h2, h3⟩ := fnd_p h0 (i := i) (by omega)
  have h4 := fnd_at (c := c) (F := F) (i := i) (by omega)
  rw [show c.n - i = (c.n - (i + 1)) + 1 by omega] at h2 h3 h4
  have h5 := best_step h2
  rw [← h4] at h5
  refine ⟨?_, ?_, ?_⟩
  ·rw [run_succ, if_neg (fun h => h h1)]; exact h5.2.1
  ·rw [dn_succ]; exact h5.2.2.1
  ·rw [dn_succ, ← h3, h5.2.2.2]; rfl
theorem fnd_er {c : CrT} {F : List Bool} (h0 : (c.best F c.n 0 c.rd 0).p = true) {i : Nat} (h : i < c.n) : c.err i (c.dn (c.fnd F) i).1 (c.dn (c.fnd F) i).2 ((c.fnd F).getD i false) = 0 := run_er (fnd_p h0 (Nat.le_refl _)).1 h
theorem fnd_opt {c : CrT} {F : List Bool} (h0 : (c.best F c.n 0 c.rd 0).p = true) {i : Nat} (h : i < c.n) : (c.fnd F).getD i false ∈ opts F i := by
 obtain ⟨h1, h2, h3⟩ := fnd_p h0 (i := i) (by omega)
 have h4 := fnd_at (c := c) (F := F) (i := i) (by omega)
 rw [show c.n - i = (c.n - (i + 1)) + 1 by omega] at h2 h4
 rw [h4]
 exact (best_step h2).1
theorem fnd_fix {c : CrT} {F : List Bool} (h0 : (c.best F c.n 0 c.rd 0).p = true) (hF : F.length ≤ c.n) : (c.fnd F).take F.length = F := by
 apply List.ext_getElem?
 intro i
 by_cases hi : i < F.length
 ·have h1 := fnd_opt h0 (i := i) (by omega)
  unfold opts at h1
  rw [if_pos hi] at h1
  have h2 : (c.fnd F).getD i false = F.getD i false := by simpa using h1
  have hl : i < (c.fnd F).length := by rw [fnd_len]; omega
  rw [List.getElem?_take_of_lt hi, List.getElem?_eq_getElem hl, List.getElem?_eq_getElem hi]
  rw [List.getD_eq_getElem?_getD, List.getD_eq_getElem?_getD, List.getElem?_eq_getElem hl, List.getElem?_eq_getElem hi] at h2
  exact congrArg some h2
 ·rw [List.getElem?_eq_none (by rw [List.length_take]; omega), List.getElem?_eq_none (by omega)]
def mix (c : CrT) (F R : List Bool) (i : Nat) : List Bool := (c.fnd F).take i ++ R.drop i
theorem mix_len {c : CrT} {F R : List Bool} {i : Nat} (hR : R.length = c.n) (hi : i ≤ c.n) : (c.mix F R i).length = c.n := by
 unfold mix
 rw [List.length_append, List.length_take, fnd_len, List.length_drop]
 omega
theorem mix_set {c : CrT} {F R : List Bool} {i : Nat} (hR : R.length = c.n) (hi : i < c.n) : (c.mix F R i).set i ((c.fnd F).getD i false) = c.mix F R (i + 1) := by
 unfold mix
 have hl : ((c.fnd F).take i).length = i := by rw [List.length_take, fnd_len]; omega
 rw [drop_more (d := false) (show i < R.length by omega), take_more (d := false) (show i < (c.fnd F).length by rw [fnd_len]; exact hi), List.set_append_right _ _ (by omega), hl, Nat.sub_self, List.append_assoc]
 rfl
theorem mix_fix {c : CrT} {F R : List Bool} {i : Nat} (h0 : (c.best F c.n 0 c.rd 0).p = true) (hi : i ≤ c.n) (hF : F.length ≤ c.n) (h : R.take F.length = F) : (c.mix F R i).take F.length = F := by
 have h1 := fnd_fix h0 hF
 apply List.ext_getElem?
 intro j
 by_cases hj : j < F.length
 ·rw [List.getElem?_take_of_lt hj]
  unfold mix
  by_cases hji : j < i
  ·rw [List.getElem?_append_left (by rw [List.length_take, fnd_len]; omega), List.getElem?_take_of_lt hji]
   have := congrArg (·[j]?) h1
   simpa [List.getElem?_take_of_lt hj] using this
  ·have hl : ((c.fnd F).take i).length = i := by rw [List.length_take, fnd_len]; omega
   rw [List.getElem?_append_right (by omega), hl, List.getElem?_drop, show i + (j - i) = j by omega]
   have := congrArg (·[j]?) h
   simpa [List.getElem?_take_of_lt hj] using this
 ·rw [List.getElem?_eq_none (by rw [List.length_take]; omega), List.getElem?_eq_none (by omega)]
theorem mix_all {c : CrT} {F R : List Bool} (hR : R.length = c.n) : c.mix F R c.n = c.fnd F := by
 unfold mix
 rw [List.take_of_length_le (by rw [fnd_len]; exact Nat.le_refl _), List.drop_of_length_le (by omega), List.append_nil]
theorem mix_zero (c : CrT) (F R : List Bool) : c.mix F R 0 = R := by unfold mix; simp
end CrT
end Go.Proofs.YtomebalolmabnaaDoor.T



