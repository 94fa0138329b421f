/-
 DERIVED. KWM: a part of the base of layer 13 (made by pack.py).
-/
import Derived.Test.YtaallpebfcadjaaGreatDoorKID
import Derived.Test.YtaallpebfcadjaaGreatDoorKIF
import Derived.Test.YtaallpebfcadjaaGreatDoorKQG
import Derived.Test.YtaallpebfcadjaaGreatDoorKIL
import Derived.Laws.Rows
import Derived.Test.YtaallpebfcadjaaGreatDoorKWC
import Derived.Test.YtaallpebfcadjaaGreatDoorKWF
import Derived.ArgAppend
import Derived.Test.YtaallpebfcadjaaGreatDoorKIH
/-! The walks of slices.Clone of numbers, texts, points and pairs; what lies beside a row that is written. -/
namespace Go.Proofs.YtaallpebfcadjaaGreatDoor.T
open Go.RowKit
set_option maxRecDepth 8000
set_option maxHeartbeats 1600000 in
theorem clonePrs_n (v : Value) (l : List (Int × Int)) (hl : l.length ≤ 1000000) (w : World) (hv : Ps w v l) :
  Calls Tryz.prog 79 #[v] w fun e w' => ∃ oa c, e = .returned (.slice oa l.length c) ∧ Ps w' (.slice oa l.length c) l ∧ Fr w.heap.size (.slice oa l.length c) ∧ Below w.heap.size w w' := by
 have q22 : ∀ (w : World) (a : Option Addr) (n c n' c' : Nat), (binOp .eql 28 (.slice a n c) (.slice none n' c')).run Tryz.prog w = .ok (.bool a.isNone) w := fun w a n c n' c' => Lib.run_eql_slice_nil w _ _ a n c n' c' Tryz.underlying28
 obtain ⟨oa, c, rfl, ha⟩ := id hv
 cases oa with
 | none =>
  have h0 : l = [] := by
   cases l with
   | nil => rfl
   | cons x l => obtain ⟨b, o, h, -⟩ := ha 0 (by simp); cases h
  subst h0
  go_enter Tryz.func79, Tryz.ntmps79
  go_wp2_with fail
  go_ret
  exact ⟨none, 0, rfl, Sl.nil _, fun b h => (by cases h), Below.refl _ _⟩
 | some ad =>
  obtain ⟨i0, hi, hz0, hz1, hz2⟩ := infoQ
  have H0 : (w.alloc (.cells #[] 75)).ownsRow w.heap.size 75 2 (.slice (some ⟨w.heap.size, 0, none⟩) 0 0) 0 [] := World.ownsRow_lit w #[] 0 (Nat.le_refl _) (by decide) rfl
  have hr := fun ty => run_append_own_at (P := Tryz.prog) (w.alloc (.cells #[] 75)) w.heap.size 28 ty 75 i0 (.agg #[.int .i64 0, .int .i64 0]) 2 16 Tryz.underlying28 hi hz0 hz1 hz2 rfl (by decide) _ 0 [] H0 ad l.length c (flat pT pA l) (flat_len (E0 := pT) (E1 := pA) l) (ps_news (hv.below (below_alloc _ _))) (flatq_cells l) (by unfold maxLen; omega) (by omega) (by simp)
  have HR := Lib.hid hr
  clear hr H0 ha hv
  go_enter Tryz.func79, Tryz.ntmps79
  go_wp2_with (at_builtin; refine wpList_append_run rfl _ _ 28 rfl rfl rfl (HR.out _) ?_)
  intro v3 w3 hown hgr _ _
  have HG : Gq_R w.heap.size w3 v3 l := hown
  have HB3 := Lib.hid (below_row (Nat.le_refl _) ((World.grownBy_alloc w (.cells #[] 75) (some w.heap.size)).trans hgr) (fun k e => by simp only [Option.some.injEq] at e; omega))
  have hps : Ps w3 v3 l := Gn.sl HG
  have hbl := Gn.blk HG
  obtain ⟨o3, c3, rfl⟩ := Gn.form HG
  have HP := Lib.hid hps
  have HF : Hid (Fr w.heap.size (.slice o3 l.length c3)) := hbl
  clear hown hgr HG hps hbl HR
  go_wp2_with fail
  go_ret
  exact ⟨o3, c3, rfl, HP.out, HF.out, HB3.out⟩
end Go.Proofs.YtaallpebfcadjaaGreatDoor.T
namespace Go.Proofs.YtaallpebfcadjaaGreatDoor.T
open Go.RowKit
set_option maxRecDepth 8000
section
variable {β : Type} (f : β → List Value) (k : Nat)
variable {f k}
theorem flk_len (hf : ∀ x, (f x).length = k) (xs : List β) : (flk f xs).length = xs.length * k := by
 unfold flk
 induction xs with
 | nil => simp
 | cons x xs ih => rw [List.flatMap_cons, List.length_append, ih, hf, List.length_cons, Nat.succ_mul]; omega
end
end Go.Proofs.YtaallpebfcadjaaGreatDoor.T
namespace Go.Proofs.YtaallpebfcadjaaGreatDoor.T
open Go.RowKit
set_option maxRecDepth 8000
theorem InsM.ins {B : Nat} {w : World} {k : Iv} {x : InT} (h : InsM B w k x) : Ins w k x := ⟨h.h0, h.h1.sl, h.h2.sl, h.h3.sl, h.h4, h.h5⟩
end Go.Proofs.YtaallpebfcadjaaGreatDoor.T
namespace Go.Proofs.YtaallpebfcadjaaGreatDoor.T
open Go.Joins Go.ChangeShapes Go.WideShapes Go.ChangeAt Go.RowKit Go.Deep
set_option maxRecDepth 8000
section
variable {H : Type} {enc : TypeId × Value → H}
end
theorem all_at {α : Type} {p : α → Bool} {l : List α} {d : α} (h : l.all p = true) {i : Nat} (hi : i < l.length) : p (l.getD i d) = true := by
 rw [List.getD_eq_getElem?_getD, List.getElem?_eq_getElem hi]
 exact List.all_eq_true.1 h _ (List.getElem_mem hi)
theorem wt_small {l : List ArcT} (h : l.all smlA = true) : wtA l ≤ 40 * l.length := by
 unfold wtA
 induction l with
 | nil => simp
 | cons a l ih =>
  rw [List.all_cons, Bool.and_eq_true] at h
  have h1 := ih h.2
  have h2 := h.1
  unfold smlA at h2
  rw [Bool.and_eq_true, decide_eq_true_iff, decide_eq_true_iff] at h2
  rw [List.map_cons, List.sum_cons, List.length_cons]
  omega
theorem inB_of {x : InT} (h : smlB x = true) : InB x := by
 unfold smlB smlN at h
 simp only [Bool.and_eq_true, decide_eq_true_eq] at h
 obtain ⟨⟨h1, h2, h3, h4, h5, h6⟩, ha, ht, ho⟩ := h
 refine ⟨by omega, by omega, ?_, by omega, fun i hi => ?_, by omega, fun i hi => ?_, by omega, by omega⟩
 ·have := wt_small ha
  omega
 ·have := all_at (d := ty0) ht hi
  unfold smlT at this
  rw [decide_eq_true_iff] at this
  omega
 ·have := all_at (d := or0) ho hi
  unfold smlO at this
  rw [decide_eq_true_iff] at this
  omega
theorem inC_of {x : InT} (h : smlB x = true) : InC x := by
 unfold smlB smlN at h
 simp only [Bool.and_eq_true, decide_eq_true_eq] at h
 obtain ⟨⟨h1, h2, h3, h4, h5, h6⟩, ha, ht, ho⟩ := h
 refine ⟨by omega, by omega, fun i hi => ?_, by omega, fun i hi => ?_, by omega, fun i hi => ?_, by omega, by omega⟩
 ·have := all_at (d := arc0) ha hi
  unfold smlA at this
  rw [Bool.and_eq_true, decide_eq_true_iff, decide_eq_true_iff] at this
  omega
 ·have := all_at (d := ty0) ht hi
  unfold smlT at this
  rw [decide_eq_true_iff] at this
  omega
 ·have := all_at (d := or0) ho hi
  unfold smlO at this
  rw [decide_eq_true_iff] at this
  omega
theorem inW_of {x : InT} (ha : InA x) (h : smlB x = true) : InW x := ⟨inB_of h, ha.pn, ha.tn, ha.on, ha.wf, ha.ia, ha.ib⟩
end Go.Proofs.YtaallpebfcadjaaGreatDoor.T
namespace Go.Proofs.YtaallpebfcadjaaGreatDoor.T
open Go.RowKit
set_option maxRecDepth 8000
def lk : List (Nat × Value) → Nat → Option Value
 | [], _ => none
 | (k, v) :: l, i => bif Nat.beq k i then some v else lk l i
def slotV (g : Nat → Value) (l : List (Nat × Value)) (k : Nat) : Value := (lk l k).getD (g k)
def fr (n : Nat) (g : Nat → Value) (l : List (Nat × Value)) : Act := ⟨Array.ofFn (n := n) fun i => slotV g l i, []⟩
def ev (n : Nat) (g : Nat → Value) (l : List (Nat × Value)) : Operand → Value
 | .tmp k => bif Nat.blt k n then slotV g l k else undef
 | .const v => v
 | .global g => .pointer (some ⟨g, 0, none⟩)
 | .func f => .func (.func f) #[] #[]
theorem blt_iff {k n : Nat} : Nat.blt k n = decide (k < n) := by
 by_cases h : k < n
 ·rw [decide_eq_true h]; exact Nat.ble_eq_true_of_le h
 ·rw [decide_eq_false h]; exact Bool.eq_false_iff.2 fun e => h (Nat.le_of_ble_eq_true e)
theorem beq_iff {k n : Nat} : Nat.beq k n = decide (k = n) := by
 by_cases h : k = n
 ·subst h; rw [decide_eq_true rfl]; exact Nat.beq_refl k
 ·rw [decide_eq_false h]; exact Bool.eq_false_iff.2 fun e => h (Nat.eq_of_beq_eq_true e)
theorem fr_size (n : Nat) (g : Nat → Value) (l : List (Nat × Value)) : (fr n g l).tmps.size = n := by simp [fr]
theorem fr_get {n : Nat} {g : Nat → Value} {l : List (Nat × Value)} (k : Nat) : (fr n g l).tmps[k]? = if k < n then some (slotV g l k) else none := by
 unfold fr
 simp only [Array.getElem?_ofFn]
 by_cases h : k < n <;> simp [h]
theorem eval_fr (n : Nat) (g : Nat → Value) (l : List (Nat × Value)) : (fr n g l).eval = ev n g l := by
 funext x
 cases x with
 | tmp k =>
  show (fr n g l).tmps.getD k undef = bif Nat.blt k n then slotV g l k else undef
  rw [blt_iff, Array.getD_eq_getD_getElem?, fr_get]
  by_cases h : k < n <;> simp [h]
 | const v => rfl
 | global g => rfl
 | func f => rfl
theorem act_ext {a b : Act} (ht : ∀ k : Nat, a.tmps[k]? = b.tmps[k]?) (hd : a.defers = b.defers) : a = b := by
 obtain ⟨⟨t⟩, d⟩ := a
 obtain ⟨⟨t'⟩, d'⟩ := b
 simp only at hd
 subst hd
 congr 2
 refine List.ext_getElem? fun k => ?_
 have := ht k
 simpa using this
theorem put_fr {n : Nat} {g : Nat → Value} {l : List (Nat × Value)} {d : Nat} (hd : Nat.blt d n = true) (v : Value) : (fr n g l).put (some d) v = fr n g ((d, v) :: l) := by
 rw [blt_iff, decide_eq_true_iff] at hd
 refine act_ext (fun k => ?_) rfl
 show ((fr n g l).tmps.setIfInBounds d v)[k]? = _
 rw [Array.getElem?_setIfInBounds, fr_size, fr_get, fr_get]
 have e : slotV g ((d, v) :: l) k = if d = k then v else slotV g l k := by
  show (bif Nat.beq d k then some v else lk l k).getD (g k) = _
  rw [beq_iff]
  by_cases h : d = k <;> simp [h, slotV]
 rw [e]
 by_cases h : d = k
 ·subst h; simp [hd]
 ·simp [h]
theorem fr_less {n : Nat} {g : Nat → Value} {l l' : List (Nat × Value)} (h : l'.map (fun p => slotV g l p.1) = l'.map (·.2)) : ∃ g', fr n g l = fr n g' l' := by
 have key : ∀ (l' : List (Nat × Value)), l'.map (fun p => slotV g l p.1) = l'.map (·.2) → ∀ k, (lk l' k).getD (slotV g l k) = slotV g l k := by
  intro l'
  induction l' with
  | nil => intro _ k; rfl
  | cons p l' ih =>
   obtain ⟨j, v⟩ := p
   intro h k
   rw [List.map_cons, List.map_cons, List.cons.injEq] at h
   unfold lk
   rw [beq_iff]
   by_cases e : j = k
   ·subst e
    rw [decide_eq_true rfl]
    exact h.1.symm
   ·rw [decide_eq_false e]
    exact ih h.2 k
 refine ⟨slotV g l, act_ext (fun k => ?_) rfl⟩
 rw [fr_get, fr_get]
 by_cases hk : k < n
 ·rw [if_pos hk, if_pos hk]
  exact congrArg some (key l' h k).symm
 ·rw [if_neg hk, if_neg hk]
def yw (n : Nat) (g : Nat → Value) (l : List (Nat × Value)) (ops : Array Oper) (o : Oper) : Bool :=
 match o.guard with
 | none => true
 | some (j, want) => (match (ops[j]?).bind (·.dst) with
  | some d => (bif Nat.blt d n then (match slotV g l d with | .bool b => some b | _ => none) else none)
  | none => none) == some want
theorem wanted_fr (n : Nat) (g : Nat → Value) (l : List (Nat × Value)) (ops : Array Oper) (o : Oper) : Region.wanted o (yielded ops (fr n g l).tmps) = yw n g l ops o := by
 unfold Region.wanted yw
 cases o.guard with
 | none => rfl
 | some p =>
  obtain ⟨j, want⟩ := p
  show (yielded ops (fr n g l).tmps j == some want) = _
  congr 1
  unfold yielded
  cases (ops[j]?).bind (·.dst) with
  | none => rfl
  | some d =>
   show (match (fr n g l).tmps[d]? with | some (.bool b) => some b | _ => none) = (bif Nat.blt d n then (match slotV g l d with | .bool b => some b | _ => none) else none)
   rw [fr_get, blt_iff]
   by_cases h : d < n
   ·rw [if_pos h, decide_eq_true h]
    show (match some (slotV g l d) with | some (.bool b) => some b | _ => none) = (match slotV g l d with | .bool b => some b | _ => none)
    cases slotV g l d <;> rfl
   ·rw [if_neg h, decide_eq_false h]
    rfl
section
variable {P : Program} {ops : Array Oper} {Q : Exit → Act → World → Prop} {rest : List Oper} {o : Oper} {n : Nat} {g : Nat → Value} {l : List (Nat × Value)} {w : World}
theorem sx_step (hw : yw n g l ops o = true) (h : ∀ K : Act → World → Prop, (∀ a w, wpList P ops Q rest a w → K a w) → o.wp P (fr n g l) w K Q) : wpList P ops Q (o :: rest) (fr n g l) w :=
 wpList_step fun K hK => by rw [wanted_fr, if_pos hw]; exact h K hK
theorem sx_skip {d : Nat} (hw : yw n g l ops o = false) (hd : o.dst = some d) (hn : Nat.blt d n = true) (h : wpList P ops Q rest (fr n g ((d, undef) :: l)) w) : wpList P ops Q (o :: rest) (fr n g l) w :=
 wpList_skip (by rw [wanted_fr, hw]) (by rw [hd, put_fr hn]; exact h)
theorem sx_mem {d : Nat} (hw : yw n g l ops o = true) (hd : o.dst = some d) (hn : Nat.blt d n = true) (v : Value) (w' : World) (hr : (execOp (ev n g l) o).run P w = .ok (.value v) w') (h : wpList P ops Q rest (fr n g ((d, v) :: l)) w') : wpList P ops Q (o :: rest) (fr n g l) w :=
 sx_step hw fun K hK => by unfold Oper.wp; rw [eval_fr, hr]; refine hK _ _ ?_; rw [hd, put_fr hn]; exact h
theorem sx_val {d : Nat} (hw : yw n g l ops o = true) (hd : o.dst = some d) (hn : Nat.blt d n = true) (v : Value) (hr : (execOp (ev n g l) o).run P w = .ok (.value v) w) (h : wpList P ops Q rest (fr n g ((d, v) :: l)) w) : wpList P ops Q (o :: rest) (fr n g l) w :=
 sx_mem hw hd hn v w hr h
theorem sx_bool {d : Nat} (hw : yw n g l ops o = true) (hd : o.dst = some d) (hn : Nat.blt d n = true) (c b : Bool) (hr : (execOp (ev n g l) o).run P w = .ok (.value (.bool c)) w) (hb : c = b) (h : wpList P ops Q rest (fr n g ((d, .bool b) :: l)) w) : wpList P ops Q (o :: rest) (fr n g l) w :=
 sx_val hw hd hn _ (by rw [← hb]; exact hr) h
theorem sx_int {d : Nat} (hw : yw n g l ops o = true) (hd : o.dst = some d) (hn : Nat.blt d n = true) (k : IntKind) (c b : Int) (hr : (execOp (ev n g l) o).run P w = .ok (.value (.int k c)) w) (hb : c = b) (h : wpList P ops Q rest (fr n g ((d, .int k b) :: l)) w) : wpList P ops Q (o :: rest) (fr n g l) w :=
 sx_val hw hd hn _ (by rw [← hb]; exact hr) h
theorem sx_call {d : Nat} {f : FuncId} {args : Array Value} {R : Ending → World → Prop} (hw : yw n g l ops o = true) (hd : o.dst = some d) (hn : Nat.blt d n = true) (hc : Calls P f args w R) (hr : (execOp (ev n g l) o).run P w = .ok (.enter f args) w)
  (h : ∀ e w', R e w' → ∃ v, e = .returned v ∧ wpList P ops Q rest (fr n g ((d, v) :: l)) w') : wpList P ops Q (o :: rest) (fr n g l) w :=
 sx_step hw fun K hK => by
  unfold Oper.wp
  rw [eval_fr, hr]
  exact hc.mono fun e w' hR => by obtain ⟨v, rfl, hv⟩ := h e w' hR; refine hK _ _ ?_; rw [hd, put_fr hn]; exact hv
theorem sx_load {d : Nat} (hw : yw n g l ops o = true) (hd : o.dst = some d) (hn : Nat.blt d n = true) {ty : TypeId} {x : Operand} (ho : o.op = .load ty x) {q : Nat} {t : TypeId} {cs : Array Value} (hg : Cb w q cs t) (hx : ev n g l x = .pointer (some ⟨q, 0, none⟩)) {dd : TypeDesc}
  (hu : P.underlying ty = some dd) (hdd : (match dd with | .struct _ | .array _ _ => true | _ => false) = true) (hi : (P.info? ty).map (·.size) = some cs.size)
  (h : wpList P ops Q rest (fr n g ((d, .agg cs) :: l)) w) : wpList P ops Q (o :: rest) (fr n g l) w :=
 sx_step hw fun _ hK => wp_load_row ty x ho q (by rw [eval_fr]; exact hx) t cs (0, 0) dd hg hu hdd hi (hK _ _ (by rw [hd, put_fr hn]; exact h))
theorem run_load1 {p : Addr} {v : Value} (hc : w.cell? p = some v) {ty : TypeId} {d : TypeDesc} (hu : P.underlying ty = some d) (hd : (match d with | .struct _ | .array _ _ => true | _ => false) = false) :
  (Instr.loadAt ty (.pointer (some p))).run P w = .ok v w := by
 have hagg : (isAgg ty).run P w = .ok false w := by
  unfold isAgg
  rw [Sem.run_bind, run_underlying hu w]
  cases d <;> simp_all
 simp [Instr.loadAt, Instr.sureAddr, loadVar, Sem.run_bind, hagg, hc]
theorem sx_load1 {d : Nat} (hw : yw n g l ops o = true) (hd : o.dst = some d) (hn : Nat.blt d n = true) {ty : TypeId} {x : Operand} (ho : o.op = .load ty x) {p : Addr} {v : Value} (hc : w.cell? p = some v) (hx : ev n g l x = .pointer (some p)) {dd : TypeDesc}
  (hu : P.underlying ty = some dd) (hdd : (match dd with | .struct _ | .array _ _ => true | _ => false) = false) (h : wpList P ops Q rest (fr n g ((d, v) :: l)) w) : wpList P ops Q (o :: rest) (fr n g l) w :=
 sx_val hw hd hn v (by unfold execOp; simp only [ho, hx, run_load1 hc hu hdd, Sem.run_bind, Sem.run_pure, Result.andThen_ok]) h
theorem sx_store (hw : yw n g l ops o = true) (hd : o.dst = none) {ty : TypeId} {x y : Operand} (ho : o.op = .store ty x y) {q : Nat} {t : TypeId} {old : Array Value} (hg : Cb w q old t) {cells : Array Value} (hx : ev n g l x = .pointer (some ⟨q, 0, none⟩)) (hy : ev n g l y = .agg cells)
  (hi : (P.info? ty).map (·.size) = some cells.size) (hold : old.size = cells.size) (h1 : cells.all (·.oneCell') = true)
  (h : wpList P ops Q rest (fr n g l) (w.setRow q cells)) : wpList P ops Q (o :: rest) (fr n g l) w :=
 sx_step hw fun _ hK => wp_store_row ty x y ho q cells (by rw [eval_fr]; exact hx) (by rw [eval_fr]; exact hy) t old hg hi hold h1 (hK _ _ (by rw [hd]; exact h))
theorem run_index {t e : TypeId} {b q n c k s p : Nat} (hu : P.underlying t = some (.slice e)) (hs : (P.info? e).map (·.size) = some s) (hk : k < n) (hp : q + k * s = p) :
  (Instr.indexAt t (.slice (some ⟨b, q, none⟩) n c) (.int .i64 k)).run P w = .ok (.pointer (some ⟨b, p, none⟩)) w := by
 have h1 : (0 : Int) ≤ (k : Int) ∧ (k : Int) < (n : Int) := by omega
 have h2 : (sizeOf e).run P w = .ok s w := by
  cases hi : P.info? e with
  | none => rw [hi] at hs; cases hs
  | some i => rw [hi] at hs; simp only [Option.map_some, Option.some.injEq] at hs; simp [sizeOf, typeInfo, hi, hs]
 have h3 : (⟨b, q, none⟩ : Addr).add (k * s) = ⟨b, p, none⟩ := by rw [add_pl, hp]
 unfold Instr.indexAt
 simp only [asIntOf, Sem.run_bind, Sem.run_pure, Result.andThen_ok, run_underlying hu w, if_pos h1, h2, Int.toNat_natCast, h3]
end
section
variable {P : Program} {Q : Exit → Act → World → Prop} {n : Nat} {g : Nat → Value} {l : List (Nat × Value)} {w : World} {a : Act}
theorem sx_enter {f : FuncId} {fn : Func} {c : Code} {args : Array Value} {R : Ending → World → Prop} (hf : P.funcs[f]? = some fn) (hb : fn.body = some c) (l : List (Nat × Value))
  (ha : ({ tmps := args ++ Array.replicate (fn.ntmps - args.size) undef, defers := [] } : Act) = fr fn.ntmps (fun _ => undef) l) (h : c.wp P (bodyPost P fn R) (fr fn.ntmps (fun _ => undef) l) w) : Calls P f args w R :=
 calls_of_wp hf hb (by rw [ha]; exact h)
theorem sx_norm {K : Act → World → Prop} (h : K a w) : Exit.then K Q .normal a w := h
theorem sx_true {c : Operand} {x y : Code} (hc : ev n g l c = .bool true) (h : x.wp P Q (fr n g l) w) : (Code.cond c x y).wp P Q (fr n g l) w := wp_cond_true (by rw [eval_fr]; exact hc) h
theorem sx_false {c : Operand} {x y : Code} (hc : ev n g l c = .bool false) (h : y.wp P Q (fr n g l) w) : (Code.cond c x y).wp P Q (fr n g l) w := wp_cond_false (by rw [eval_fr]; exact hc) h
theorem sx_rs {K : Act → World → Prop} (h : Q .ret a w) : Exit.then K Q .ret a w := h
theorem sx_cut {ι : Type} {x y : Code} (L : ι → List (Nat × Value)) (R : ι → World → Prop) (first : x.wp P (Exit.then (fun a w => ∃ i, R i w ∧ ∃ g', a = fr n g' (L i)) Q) (fr n g l) w)
  (rest : ∀ i g' w', R i w' → y.wp P Q (fr n g' (L i)) w') : (Code.seq x y).wp P Q (fr n g l) w := by
 refine wp_seq (wp_mono first ?_)
 intro e a w h
 cases e with
 | normal => obtain ⟨i, hR, g', rfl⟩ := h; exact rest i g' w hR
 | exit id => exact h
 | goto l => exact h
 | ret => exact h
 | panic ch => exact h
 | outgrown => exact h
theorem sx_meet {ι : Type} {L : ι → List (Nat × Value)} {R : ι → World → Prop} (i : ι) (hl : (L i).map (fun p => slotV g l p.1) = (L i).map (·.2)) (hR : R i w) : ∃ i, R i w ∧ ∃ g', fr n g l = fr n g' (L i) := by
 obtain ⟨g', e⟩ := fr_less (n := n) hl
 exact ⟨i, hR, g', e⟩
theorem slot_get {k : Nat} (hk : Nat.blt k n = true) : (fr n g l).tmps.getD k undef = slotV g l k := by
 rw [blt_iff, decide_eq_true_iff] at hk
 rw [Array.getD_eq_getD_getElem?, fr_get, if_pos hk]
 rfl
theorem sx_ret1 {fn : Func} {R : Ending → World → Prop} {t : Nat} (v : Value) (hf : fn.results = #[.tmp t]) (hk : Nat.blt t n = true) (hv : slotV g l t = v) (hR : R (.returned v) w) : bodyPost P fn R .ret (fr n g l) w :=
 bodyPost_ret (v := v) (by rw [results_tmp hf, slot_get hk, hv]) rfl hR
end
theorem grown_row (w : World) (g : Nat) (cs : Array Value) : w.grownBy (w.setRow g cs) (some g) := ⟨rfl, rfl, rfl, by rw [setRow_size]; exact Nat.le_refl _, fun j hj hne => setRow_other w g j cs (fun h => hne (by rw [h]))⟩
theorem Cb.row {w : World} {q : Nat} {old : Array Value} {t : TypeId} (h : Cb w q old t) (cs : Array Value) : Cb (w.setRow q cs) q cs t := setRow_heap w q old cs t (0, 0) h
theorem below_var (w : World) (o : Obj) (cs : Array Value) : Below w.heap.size w ((w.alloc o).setRow w.heap.size cs) :=
 (below_alloc w o).grown (grown_row _ _ cs) (by rw [World.size_alloc]; omega) (fun x e => by simp only [Option.some.injEq] at e; omega)
end Go.Proofs.YtaallpebfcadjaaGreatDoor.T
namespace Go.Proofs.YtaallpebfcadjaaGreatDoor.T
open Go.RowKit
set_option maxRecDepth 8000
structure InV (x : InT) : Prop where
 b : smlB x = true → InB x
 c : smlB x = true → InC x
end Go.Proofs.YtaallpebfcadjaaGreatDoor.T
namespace Go.Proofs.YtaallpebfcadjaaGreatDoor.T
open Go.RowKit
set_option maxRecDepth 8000
attribute [local irreducible] wpList Code.wp
theorem small_b (k : Iv) (x : InT) (b : Bool) (hb : smlB x = b) (w : World) (h : Ins w k x) : Calls Tryz.prog 8 #[k.v x] w fun e w' => e = .returned (.bool b) ∧ Below w.heap.size w w' := by
 obtain ⟨o0, c0, o1, c1, o2, c2, o3, c3, o4, c4, o5, c5⟩ := k
 subst hb
 exact small_n o0 o1 o2 o3 o4 o5 c0 c1 c2 c3 c4 c5 x w h.h1 h.h2 h.h3
theorem check_len (k : Iv) (x : InT) (hx : InW x) (n : Nat) (hn : (inF x).length = n) (w : World) (hT : Tab w) (h : Ins w k x) : Calls Tryz.prog 10 #[k.v x] w fun e w' => ∃ oa c, e = .returned (.slice oa n c) ∧ Below w.heap.size w w' := by
 subst hn
 refine (instCheck_n k x hx w hT h).mono ?_
 rintro e w' ⟨oa, c, rfl, -, hb⟩
 exact ⟨oa, c, rfl, hb⟩
theorem sameI_self (x : InT) : sameI x x = true := by
 unfold sameI netsB samA samS
 simp [allI, same_refl, sameO_refl]
end Go.Proofs.YtaallpebfcadjaaGreatDoor.T
namespace Go.Proofs.YtaallpebfcadjaaGreatDoor.T
open Go.RowKit
set_option maxRecDepth 8000
section
variable {P : Program} {ops : Array Oper} {Q : Exit → Act → World → Prop} {o : Oper} {n : Nat} {g : Nat → Value} {l : List (Nat × Value)} {w : World}
theorem ex_load {ty : TypeId} {x : Operand} (ho : o.op = .load ty x) {q : Nat} {t : TypeId} {cs : Array Value} (hg : Cb w q cs t) (hx : ev n g l x = .pointer (some ⟨q, 0, none⟩)) {dd : TypeDesc}
  (hu : P.underlying ty = some dd) (hdd : (match dd with | .struct _ | .array _ _ => true | _ => false) = true) (hi : (P.info? ty).map (·.size) = some cs.size) : (execOp (ev n g l) o).run P w = .ok (.value (.agg cs)) w := by
 unfold execOp
 simp only [ho, hx, Instr.loadAt, Instr.sureAddr, Sem.run_bind, Sem.run_pure, Result.andThen_ok, run_loadVar_row w q t ty cs (0, 0) dd hg hu hdd hi]
theorem ex_load1 {ty : TypeId} {x : Operand} (ho : o.op = .load ty x) {p : Addr} {v : Value} (hc : w.cell? p = some v) (hx : ev n g l x = .pointer (some p)) {dd : TypeDesc}
  (hu : P.underlying ty = some dd) (hdd : (match dd with | .struct _ | .array _ _ => true | _ => false) = false) : (execOp (ev n g l) o).run P w = .ok (.value v) w := by
 unfold execOp; simp only [ho, hx, run_load1 hc hu hdd, Sem.run_bind, Sem.run_pure, Result.andThen_ok]
theorem ex_index {t : TypeId} {x y : Operand} (ho : o.op = .indexAddr t x y) (b q m c k s p : Nat) (hx : ev n g l x = .slice (some ⟨b, q, none⟩) m c) (hy : ev n g l y = .int .i64 k) {e : TypeId}
  (hu : P.underlying t = some (.slice e)) (hs : (P.info? e).map (·.size) = some s) (hk : k < m) (hp : q + k * s = p) : (execOp (ev n g l) o).run P w = .ok (.value (.pointer (some ⟨b, p, none⟩))) w := by
 unfold execOp; simp only [ho, hx, hy, run_index hu hs hk hp, Sem.run_bind, Sem.run_pure, Result.andThen_ok]
theorem ex_store {ty : TypeId} {x y : Operand} (ho : o.op = .store ty x y) {q : Nat} {t : TypeId} {old : Array Value} (hg : Cb w q old t) {cells : Array Value} (hx : ev n g l x = .pointer (some ⟨q, 0, none⟩)) (hy : ev n g l y = .agg cells)
  (hi : (P.info? ty).map (·.size) = some cells.size) (hold : old.size = cells.size) (h1 : cells.all (·.oneCell') = true) : (execOp (ev n g l) o).run P w = .ok .skip (w.setRow q cells) := by
 unfold execOp
 simp only [ho, hx, hy, Instr.storeAt, Instr.sureAddr, Sem.run_bind, Sem.run_pure, Result.andThen_ok, run_storeVar_row w q t ty old cells hg hi hold h1]
theorem run_store1 {p : Addr} {v old : Value} (hc : w.cell? p = some old) (hf : w.frozen? p = false) (hv : v.oneCell' = true) {ty : TypeId} (hi : (P.info? ty).map (·.size) = some 1) (hsp : p.spot = none) :
  (Instr.storeAt ty (.pointer (some p)) v).run P w = .ok () (w.setCell p v) := by
 have hcells : v.cells = #[v] := by cases v <;> first | rfl | (simp [Value.oneCell'] at hv)
 cases hq : P.info? ty with
 | none => rw [hq] at hi; cases hi
 | some i =>
  rw [hq] at hi
  simp only [Option.map_some, Option.some.injEq] at hi
  have hadd : p.add 0 = p := by obtain ⟨b, q, s⟩ := p; simp only at hsp; subst hsp; rw [add_pl]; rfl
  simp [Instr.storeAt, Instr.sureAddr, storeVar, sizeOf, typeInfo, hq, hi, hcells, Sem.run_bind, storeCells, hadd, run_store P w p v _ hv, hc, hf]
theorem ex_store1 {ty : TypeId} {x y : Operand} (ho : o.op = .store ty x y) {b q : Nat} {v old : Value} (hc : w.cell? ⟨b, q, none⟩ = some old) (hf : w.frozen? ⟨b, q, none⟩ = false) (hv : v.oneCell' = true) (hx : ev n g l x = .pointer (some ⟨b, q, none⟩)) (hy : ev n g l y = v)
  (hi : (P.info? ty).map (·.size) = some 1) : (execOp (ev n g l) o).run P w = .ok .skip (w.setCell ⟨b, q, none⟩ v) := by
 unfold execOp; simp only [ho, hx, hy, run_store1 hc hf hv hi rfl, Sem.run_bind, Sem.run_pure, Result.andThen_ok]
theorem ex_append {s x : Operand} {t : TypeId} (ho : o.op = .call { callee := .builtin .append, args := #[s, x], argTypes := #[t, t] }) {v u v' : Value} {w' : World} (hs : ev n g l s = v) (hx : ev n g l x = u)
  (hrun : (Builtin.append_ #[t, t] o.type #[v, u]).run P w = .ok v' w') : (execOp (ev n g l) o).run P w = .ok (.value v') w' := by
 unfold execOp
 simp only [ho, resolve, invoke, builtin, Sem.run_bind, Sem.run_pure, Result.andThen_ok, List.map_toArray, List.map_cons, List.map_nil, hs, hx, hrun]
theorem sx_do {rest : List Oper} (hw : yw n g l ops o = true) (hd : o.dst = none) (w' : World) (hr : (execOp (ev n g l) o).run P w = .ok .skip w') (h : wpList P ops Q rest (fr n g l) w') : wpList P ops Q (o :: rest) (fr n g l) w :=
 sx_step hw fun K hK => by unfold Oper.wp; rw [eval_fr, hr]; refine hK _ _ ?_; rw [hd]; exact h
end
section
variable {P : Program} {ops : Array Oper} {Q : Exit → Act → World → Prop} {md : Region.Mode} {S : World → Prop} {n : Nat} {g : Nat → Value} {l : List (Nat × Value)} {w : World} {fuel : Nat} {listed : Array Bool} {i : Nat} {oi : Oper} {rs : List Nat}
theorem sd_begin {id : Nat} (S : World → Prop) (hm : P.follows .mixedOrders = true) (hS : S w.drew) (h : wpAnyH P .any ops Q S ops.size (Array.replicate ops.size false) (fr n g l) w.drew) : (Code.region id ops true).wp P Q (fr n g l) w :=
 wp_region_held_drew hm hS fun _ => h
theorem sd_take (i : Nat) {d : Nat} (hi : ops[i]? = some oi) (hs : Region.noSelect ops = true) (hf : Region.free md ops listed i = true) (hr : (Region.ready md ops listed).contains i = true) (hw : yw n g l ops oi = true) (hd : oi.dst = some d) (hn : Nat.blt d n = true) (v : Value)
  (hv : ∀ w, S w → (execOp (ev n g l) oi).run P w = .ok (.value v) w) (hQ : ∀ c a w, Q (.panic c) (a.put oi.dst v) w → Q (.panic c) a w) (hS : S w) (h : wpAnyH P md ops Q S fuel (listed.setIfInBounds i true) (fr n g ((d, v) :: l)) w) : wpAnyH P md ops Q S (fuel + 1) listed (fr n g l) w :=
 wpAnyH_take hi hs hf hr hQ (.inl ⟨by rw [wanted_fr]; exact hw, fun w hS => by rw [eval_fr]; exact hv w hS⟩) hS (by rw [hd, put_fr hn]; exact h)
theorem sd_all (rs : List Nat) (hr : Region.ready md ops listed = rs) (hne : rs ≠ []) (h : AllReadyH P md ops Q S fuel listed (fr n g l) w rs) : wpAnyH P md ops Q S (fuel + 1) listed (fr n g l) w := wpAnyH_ready hr hne h
theorem sd_mem {d : Nat} (hi : ops[i]? = some oi) (hw : yw n g l ops oi = true) (hd : oi.dst = some d) (hn : Nat.blt d n = true) (v : Value) (w' : World) (hr : (execOp (ev n g l) oi).run P w = .ok (.value v) w') (hS : S w')
  (h : wpAnyH P md ops Q S fuel (listed.setIfInBounds i true) (fr n g ((d, v) :: l)) w') (hs : AllReadyH P md ops Q S fuel listed (fr n g l) w rs) : AllReadyH P md ops Q S fuel listed (fr n g l) w (i :: rs) :=
 AllReadyH.cons hi (fun K hK => by rw [wanted_fr, if_pos hw]; unfold Oper.wp; rw [eval_fr, hr]; refine hK.out _ _ hS (fun _ => ?_); rw [hd, put_fr hn]; exact h) hs
theorem sd_do (hi : ops[i]? = some oi) (hw : yw n g l ops oi = true) (hd : oi.dst = none) (w' : World) (hr : (execOp (ev n g l) oi).run P w = .ok .skip w') (hS : S w')
  (h : wpAnyH P md ops Q S fuel (listed.setIfInBounds i true) (fr n g l) w') (hs : AllReadyH P md ops Q S fuel listed (fr n g l) w rs) : AllReadyH P md ops Q S fuel listed (fr n g l) w (i :: rs) :=
 AllReadyH.cons hi (fun K hK => by rw [wanted_fr, if_pos hw]; unfold Oper.wp; rw [eval_fr, hr]; refine hK.out _ _ hS (fun _ => ?_); rw [hd]; exact h) hs
theorem sd_call {d : Nat} {f : FuncId} {args : Array Value} {R : Ending → World → Prop} (hi : ops[i]? = some oi) (hw : yw n g l ops oi = true) (hd : oi.dst = some d) (hn : Nat.blt d n = true) (hc : Calls P f args w R) (hr : (execOp (ev n g l) oi).run P w = .ok (.enter f args) w)
  (h : ∀ e w', R e w' → ∃ v, e = .returned v ∧ S w' ∧ wpAnyH P md ops Q S fuel (listed.setIfInBounds i true) (fr n g ((d, v) :: l)) w') (hs : AllReadyH P md ops Q S fuel listed (fr n g l) w rs) : AllReadyH P md ops Q S fuel listed (fr n g l) w (i :: rs) :=
 AllReadyH.cons hi (fun K hK => by
  rw [wanted_fr, if_pos hw]
  unfold Oper.wp
  rw [eval_fr, hr]
  exact hc.mono fun e w' hR => by obtain ⟨v, rfl, hS, hv⟩ := h e w' hR; refine hK.out _ _ hS (fun _ => ?_); rw [hd, put_fr hn]; exact hv) hs
theorem sd_done (hr : Region.ready md ops listed = []) (h : Q .normal (fr n g l) w) : wpAnyH P md ops Q S fuel listed (fr n g l) w := wpAnyH_done hr h fuel
end
end Go.Proofs.YtaallpebfcadjaaGreatDoor.T
namespace Go.Proofs.YtaallpebfcadjaaGreatDoor.T
abbrev zC : Array Value := #[.slice none 0 0, .slice none 0 0, .slice none 0 0, .slice none 0 0, .slice none 0 0, .slice none 0 0]
abbrev oC (o : OrT) (a : Option Addr) (c : Nat) : Array Value := #[.string o.name, .slice a o.load.length c, .int .i64 o.pp, .int .i64 o.po, .int .i64 o.pc, .int .i64 o.ps, .int .i64 o.dp, .int .i64 o.dd, .int .i64 o.dc, .int .i64 o.ds, .int .i64 o.sk, .int .i64 o.pen, .int .i64 o.spl, .int .i64 o.las, .int .i64 o.now, .bool o.off]
abbrev iC (x : InT) (a0 : Option Addr) (c0 : Nat) (a1 : Option Addr) (c1 : Nat) (a2 : Option Addr) (c2 : Nat) (a3 : Option Addr) (c3 : Nat) (a4 : Option Addr) (c4 : Nat) (a5 : Option Addr) (c5 : Nat) : Array Value := #[.slice a0 x.pl.length c0, .slice a1 x.al.length c1, .slice a2 x.tl.length c2, .slice a3 x.ol.length c3, .slice a4 x.ap.length c4, .slice a5 x.be.length c5]
abbrev iD (x : InT) (o : OrT) (a0 : Option Addr) (c0 : Nat) (a1 : Option Addr) (c1 : Nat) (a2 : Option Addr) (c2 : Nat) (a3 : Option Addr) (c3 : Nat) (a4 : Option Addr) (c4 : Nat) (a5 : Option Addr) (c5 : Nat) : Array Value := #[.slice a0 x.pl.length c0, .slice a1 x.al.length c1, .slice a2 x.tl.length c2, .slice a3 (x.ol ++ [o]).length c3, .slice a4 x.ap.length c4, .slice a5 x.be.length c5]
end Go.Proofs.YtaallpebfcadjaaGreatDoor.T
namespace Go.Proofs.YtaallpebfcadjaaGreatDoor.T
open Go.RowKit Go.Deep
set_option maxRecDepth 8000
def addI (x : InT) (o : OrT) : InT := ⟨x.pl, x.al, x.tl, x.ol ++ [o], x.ap, x.be⟩
theorem oc_cell {w : World} {b p : Nat} {a : OrT} {vc : Value} (h : Oc w b p a vc) : ∀ (r : Nat) (u : Value), (ccO (a, vc))[r]? = some u → w.cell? ⟨b, p + r, none⟩ = some u := by
 obtain ⟨h0, h1, h2, h3, h4, h5, h6, h7, h8, h9, h10, h11, h12, h13, h14, h15⟩ := h
 intro r u hu
 have hr : r < 16 := by
  have := (List.getElem?_eq_some_iff.1 hu).1
  exact this
 match r, hr with
 | 0, _ => exact (Option.some.inj hu) ▸ h0
 | 1, _ => exact (Option.some.inj hu) ▸ h1
 | 2, _ => exact (Option.some.inj hu) ▸ h2
 | 3, _ => exact (Option.some.inj hu) ▸ h3
 | 4, _ => exact (Option.some.inj hu) ▸ h4
 | 5, _ => exact (Option.some.inj hu) ▸ h5
 | 6, _ => exact (Option.some.inj hu) ▸ h6
 | 7, _ => exact (Option.some.inj hu) ▸ h7
 | 8, _ => exact (Option.some.inj hu) ▸ h8
 | 9, _ => exact (Option.some.inj hu) ▸ h9
 | 10, _ => exact (Option.some.inj hu) ▸ h10
 | 11, _ => exact (Option.some.inj hu) ▸ h11
 | 12, _ => exact (Option.some.inj hu) ▸ h12
 | 13, _ => exact (Option.some.inj hu) ▸ h13
 | 14, _ => exact (Option.some.inj hu) ▸ h14
 | 15, _ => exact (Option.some.inj hu) ▸ h15
theorem os_cells {w : World} {oa : Option Addr} {c : Nat} {l : List OrT} (h : Os w (.slice oa l.length c) l) : ∃ xs : List (OrT × Value), xs.map (·.1) = l ∧ ErO w xs ∧ ∀ ad, oa = some ad → ∀ j u, (flk ccO xs)[j]? = some u → w.cell? (ad.add j) = some u := by
 obtain ⟨oa', c', hv, hs⟩ := h
 simp only [Value.slice.injEq] at hv
 obtain ⟨rfl, -, rfl⟩ := hv
 haveI : Inhabited Value := ⟨.bool true⟩
 have key : ∀ i, i < l.length → ∃ vc : Value, L.Li w vc (l.getD i or0).load ∧ ∃ b o, oa = some ⟨b, o, none⟩ ∧ Oc w b (o + i * 16) (l.getD i or0) vc := fun i hi => by
  obtain ⟨b, o, vc, h1, -, h2, h3⟩ := hs i hi
  exact ⟨vc, h3, b, o, h1, h2⟩
 obtain ⟨q, hq⟩ := choose_lt key
 have hlen : ((List.range l.length).map fun i => (l.getD i or0, q i)).length = l.length := by simp
 have hget : ∀ i, i < l.length → ((List.range l.length).map fun i => (l.getD i or0, q i)).getD i zzO = (l.getD i or0, q i) := fun i hi => by
  rw [List.getD_eq_getElem?_getD, List.getElem?_map, List.getElem?_range hi]; rfl
 refine ⟨(List.range l.length).map fun i => (l.getD i or0, q i), ?_, ?_, ?_⟩
 ·rw [List.map_map]
  refine List.ext_getElem (by simp) fun i h1 h2 => ?_
  simp [List.getD_eq_getElem?_getD, List.getElem?_eq_getElem h2]
 ·intro x hx
  obtain ⟨i, hi, rfl⟩ := List.mem_map.1 hx
  exact (hq i (List.mem_range.1 hi)).1
 ·intro ad had j u hu
  have hj : j < ((List.range l.length).map fun i => (l.getD i or0, q i)).length * 16 := by
   rw [← flk_len ccO_len]
   exact (List.getElem?_eq_some_iff.1 hu).1
  have hi : j / 16 < l.length := by rw [hlen] at hj; omega
  obtain ⟨-, b, o, h1, h2⟩ := hq _ hi
  rw [had, Option.some.injEq] at h1
  subst h1
  have h3 := flk_at ccO_len zzO ((List.range l.length).map fun i => (l.getD i or0, q i)) (j / 16) (j % 16) (by rw [hlen]; exact hi) (Nat.mod_lt _ (by decide))
  rw [show j / 16 * 16 + j % 16 = j by omega, hu, hget _ hi] at h3
  have h4 := oc_cell h2 (j % 16) u h3.symm
  rw [add_pl]
  rw [show o + j = o + j / 16 * 16 + j % 16 by omega]
  exact h4
def oCells (a : OrT) (vc : Value) : Array Value := #[.string a.name, vc, .int .i64 a.pp, .int .i64 a.po, .int .i64 a.pc, .int .i64 a.ps, .int .i64 a.dp, .int .i64 a.dd, .int .i64 a.dc, .int .i64 a.ds, .int .i64 a.sk, .int .i64 a.pen, .int .i64 a.spl, .int .i64 a.las, .int .i64 a.now, .bool a.off]
theorem gr_snoc {B : Nat} {w : World} {v : Value} {xs : List (OrT × Value)} {a : OrT} {vc : Value} (h : w.ownsRow B 44 16 v (xs.length + 1) (flk ccO xs ++ ccO (a, vc))) : GrO B w v (xs ++ [(a, vc)]) := by
 show World.ownsRow ..
 rw [List.length_append, flk_snoc]
 exact h
theorem apE_os {w : World} {oa : Option Addr} {c : Nat} {l : List OrT} {xs : List (OrT × Value)} (ty : TypeId) (hx : xs.map (·.1) = l) (hc : ∀ ad, oa = some ad → ∀ j u, (flk ccO xs)[j]? = some u → w.cell? (ad.add j) = some u) (h1 : ∀ u ∈ flk ccO xs, u.oneCell' = true) (h0 : oa = none → l = []) (hn : l.length ≤ 1000000) :
  ∃ v' w', (Builtin.append_ #[27, 27] ty #[.slice (some ⟨w.heap.size, 0, none⟩) 0 0, .slice oa l.length c]).run Tryz.prog (w.alloc (.cells #[] 44)) = .ok v' w' ∧ ((∃ o' c', v' = .slice o' l.length c') ∧ GrO w.heap.size w' v' xs ∧ Below w.heap.size w w') := by
 obtain ⟨i0, hi, hz0, hz1, hz2⟩ := infoO8
 have hlx : xs.length = l.length := by rw [← hx, List.length_map]
 have hb1 := below_alloc w (.cells #[] 44)
 have H0 : (w.alloc (.cells #[] 44)).ownsRow w.heap.size 44 16 (.slice (some ⟨w.heap.size, 0, none⟩) 0 0) 0 [] := World.ownsRow_lit w #[] 0 (Nat.le_refl _) (by decide) rfl
 cases oa with
 | some ad =>
  obtain ⟨v', w', hrun, r1, r2, -, -⟩ := run_append_own_at (P := Tryz.prog) (w.alloc (.cells #[] 44)) w.heap.size 27 ty 44 i0 _ 16 _ Tryz.underlying27 hi hz0 hz1 hz2 rfl (by decide) _ 0 [] H0 ad l.length c (flk ccO xs) (by rw [flk_len ccO_len, hlx]) (fun j u hu => by
   have h1 := hc ad rfl j u hu
   rw [World.cell?_alloc_lt _ _ _ (World.block_lt_of_cell? w _ h1)]; exact h1) h1 (by unfold maxLen; omega) (by omega) (by rw [World.size_alloc]; omega)
  rw [Nat.zero_add, List.nil_append, ← hlx] at r1
  have hg : GrO w.heap.size w' v' xs := r1
  refine ⟨v', w', hrun, ?_, hg, ?_⟩
  ·obtain ⟨o', c', e⟩ := own_form hg
   exact ⟨o', c', by rw [e, hlx]⟩
  ·exact below_row (Nat.le_refl _) ((World.grownBy_alloc w _ (some w.heap.size)).trans r2) (fun k e => by simp only [Option.some.injEq] at e; omega)
 | none =>
  obtain rfl := h0 rfl
  obtain rfl : xs = [] := List.eq_nil_of_length_eq_zero hlx
  refine ⟨_, _, ?_, ⟨_, _, rfl⟩, H0, hb1⟩
  simp [Builtin.append_, run_underlying Tryz.underlying27, sizeOf, typeInfo, hi, Builtin.lenOf, Builtin.firstCells, storeCells]
theorem apG_o {B : Nat} {w : World} {v : Value} {xs : List (OrT × Value)} (ty : TypeId) (a : OrT) (p : Option Addr) (d : Nat) (h : GrO B w v xs) (hB : B ≤ w.heap.size) (hn : xs.length ≤ 1000000) :
  ∃ v' w', (Builtin.append_ #[27, 27] ty #[v, .slice (some ⟨w.heap.size, 0, none⟩) 1 1]).run Tryz.prog (w.alloc (.cells (oCells a (.slice p a.load.length d)) 44)) = .ok v' w' ∧ ((∃ o' c', v' = .slice o' (xs.length + 1) c') ∧ GrO B w' v' (xs ++ [(a, .slice p a.load.length d)]) ∧ Below B w w' ∧ ∀ q (cs : Array Value) (t : TypeId), Cb w q cs t → v.ownBlock ≠ some q → Cb w' q cs t) := by
 obtain ⟨i0, hi, hz0, hz1, hz2⟩ := infoO8
 have hb1 := below_alloc w (.cells (oCells a (.slice p a.load.length d)) 44)
 obtain ⟨v', w', hrun, r1, r2, -, -⟩ := run_append_own_at (P := Tryz.prog) (w.alloc (.cells (oCells a (.slice p a.load.length d)) 44)) B 27 ty 44 i0 _ 16 _ Tryz.underlying27 hi hz0 hz1 hz2 rfl (by decide) v xs.length (flk ccO xs) (own_below h hb1) ⟨w.heap.size, 0, none⟩ 1 1 (ccO (a, .slice p a.load.length d)) rfl (cells_new w _ _) (oneO a p d) (by unfold maxLen; omega) (by omega) (by rw [World.size_alloc]; omega)
 have hg := gr_snoc r1
 refine ⟨v', w', hrun, ?_, hg, ?_, fun q cs t hcb hne => (r2.block q (hcb.old _).lt (fun e => hne e.symm)).trans (hcb.old _)⟩
 ·obtain ⟨o', c', e⟩ := own_form hg
  exact ⟨o', c', by rw [e, List.length_append]; rfl⟩
 ·exact (hb1.mono hB).trans ((Below.refl B _).grown r2 (by rw [World.size_alloc]; omega) (fun k e => (World.ownsRow.lt h k e).1))
end Go.Proofs.YtaallpebfcadjaaGreatDoor.T

