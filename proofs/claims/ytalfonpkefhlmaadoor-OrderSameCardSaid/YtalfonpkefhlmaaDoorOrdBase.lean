/-
  DERIVED. Own lists of visits and of slices of int, appended to (out of layer 10's text: tools/mkordbase.py).
-/
import Derived.Test.YtalfonpkefhlmaaDoorOrdRow
import Derived.Laws.AppendOwnNone
import Derived.Laws.OwnMore
import Derived.Maps.AppendAt
import Derived.Deep.DeepCutAuto
import Derived.Deep.Cut
import Derived.Deep.CutRange
namespace Go.Proofs.YtalfonpkefhlmaaDoor.T
open Go.RowKit
set_option maxRecDepth 8000

def vE (f : Int × Bool) : Value := .int .i64 f.1
def vA (f : Int × Bool) : Value := .bool f.2
def Vs (w : World) (v : Value) (l : List (Int × Bool)) : Prop := Sl vE vA (0, false) w v l
def Gv (B : Nat) (w : World) (v : Value) (n : Nat) (l : List (Int × Bool)) : Prop := Gn 24 vE vA B w v n l
theorem infoW0 : (Tryd.prog.info? 24).map (fun i => (i.zero, i.size, i.bytes)) = some (some (.agg #[.int .i64 0, .bool false]), 2, 16) := by kernel_rfl
theorem infoW : ∃ i, Tryd.prog.info? 24 = some i ∧ i.zero = some (.agg #[.int .i64 0, .bool false]) ∧ i.size = 2 ∧ i.bytes = 16 := by
  have h := infoW0
  obtain ⟨i, hi, hzz⟩ := Option.map_eq_some_iff.1 h
  simp only [Prod.mk.injEq] at hzz
  exact ⟨i, hi, hzz.1, hzz.2.1, hzz.2.2⟩

/-- the call's own slice of faults -/
def Gw (B : Nat) (w : World) (v : Value) (l : List (Int × Bool)) : Prop := Gv B w v l.length l
theorem Gw.nil (B : Nat) (w : World) : Gw B w (.slice none 0 0) [] := Gn.nil _ _ _ _ _
theorem Gw.frame {B : Nat} {w w' : World} {v : Value} {l : List (Int × Bool)} (h : Gw B w v l) (hb : Below w.heap.size w w') : Gw B w' v l := Gn.frame h hb
theorem Gw.drew {B : Nat} {w : World} {v : Value} {l : List (Int × Bool)} (h : Gw B w v l) : Gw B w.drew v l := h
theorem Gw.more {B : Nat} {w : World} {v : Value} {l : List (Int × Bool)} {x : Int} {s : Bool} (h : w.ownsRow B 24 2 v (l.length + 1) (flat vE vA l ++ [.int .i64 x, .bool s])) : Gw B w v (l ++ [(x, s)]) := by
  unfold Gw
  rw [List.length_append]
  exact Gn.more (E0 := vE) (E1 := vA) (x, s) h
theorem Gw.ext {B : Nat} {w : World} {v : Value} {l m : List (Int × Bool)} (h : Gw B w v l) (e : l = m) : Gw B w v m := e ▸ h
theorem Gw.own {B : Nat} {w : World} {v : Value} {l : List (Int × Bool)} (h : Gw B w v l) : w.ownsRow B 24 2 v l.length (flat vE vA l) := h
theorem Gw.blk {B : Nat} {w : World} {v : Value} {l : List (Int × Bool)} (h : Gw B w v l) : ∀ k, v.ownBlock = some k → B ≤ k := Gn.blk h
/-- a result: a list of faults -/
def VisP (l : List (Int × Bool)) (w : World) (e : Ending) (w' : World) : Prop :=
  ∃ oa c, e = .returned (.slice oa l.length c) ∧ (Vs w' (.slice oa l.length c) l ∧ Gw w.heap.size w' (.slice oa l.length c) l ∧ (oa = none → c = 0)) ∧ Below w.heap.size w w'
theorem visP {B : Nat} {l : List (Int × Bool)} {w w' : World} {v : Value} (h : Gw B w' v l) (hb : Below w.heap.size w w') (hB : w.heap.size ≤ B) : VisP l w (.returned v) w' := by
  have hs : Vs w' v l := Gn.sl h
  have hg : Gw w.heap.size w' v l := Gn.mono h hB
  rcases h.2 with ⟨hv, h0⟩ | ⟨g, cap, cur, hv, _⟩
  · subst hv
    have hn : l = [] := List.eq_nil_of_length_eq_zero h0
    subst hn
    exact ⟨none, 0, rfl, ⟨hs, hg, fun _ => rfl⟩, hb⟩
  · subst hv
    exact ⟨_, _, rfl, ⟨hs, hg, fun h => (by cases h)⟩, hb⟩
theorem below_alloc (w : World) (o : Obj) : Below w.heap.size w (w.alloc o) := (Below.refl _ w).alloc (Nat.le_refl _) o
theorem Sl.grown {α : Type} {E0 E1 : α → Value} {d : α} {w w' : World} {oa : Option Addr} {c : Nat} {l : List α} {row : Option Nat} (h : Sl E0 E1 d w (.slice oa l.length c) l) (hg : w.grownBy w' row) (hne : ∀ b o, oa = some ⟨b, o, none⟩ → some b ≠ row) : Sl E0 E1 d w' (.slice oa l.length c) l := by
  obtain ⟨oa', c', hv, h⟩ := h
  simp only [Value.slice.injEq] at hv
  obtain ⟨rfl, -, rfl⟩ := hv
  refine ⟨oa, c, rfl, fun i hi => ?_⟩
  obtain ⟨b, o, ha, hl, h0, h1⟩ := h i hi
  exact ⟨b, o, ha, Nat.lt_of_lt_of_le hl hg.size, hg.cell (a := ⟨b, _, none⟩) h0 (hne b o ha), hg.cell (a := ⟨b, _, none⟩) h1 (hne b o ha)⟩
theorem vs_news {w : World} {ad : Addr} {c : Nat} {l : List (Int × Bool)} (h : Vs w (.slice (some ad) l.length c) l) : ∀ j u, (flat vE vA l)[j]? = some u → w.cell? (ad.add j) = some u := fun j u hj => by
  obtain ⟨oa, c', hv, h⟩ := h
  simp only [Value.slice.injEq] at hv
  obtain ⟨rfl, -, rfl⟩ := hv
  have hjl : j < (flat vE vA l).length := (List.getElem?_eq_some_iff.1 hj).1
  rw [flat_len] at hjl
  obtain ⟨b, o, ha, -, h0, h1⟩ := h (j / 2) (by omega)
  simp only [Option.some.injEq] at ha
  subst ha
  obtain ⟨f0, f1⟩ := flat_at (E0 := vE) (E1 := vA) (d := (0, false)) l (j / 2) (by omega)
  have had : (⟨b, o, none⟩ : Addr).add j = ⟨b, o + j, none⟩ := by
    unfold Addr.add; split
    · rename_i hz; rw [hz]; rfl
    · rfl
  rw [had]
  rcases Nat.mod_two_eq_zero_or_one j with e | e
  · rw [show j / 2 * 2 = j by omega] at h0 f0
    rw [f0] at hj
    rw [h0]; exact hj
  · rw [show j / 2 * 2 + 1 = j by omega] at f1
    rw [show o + j / 2 * 2 + 1 = o + j by omega] at h1
    rw [f1] at hj
    rw [h1]; exact hj
theorem vs_nil {w : World} {c : Nat} {l : List (Int × Bool)} (h : Vs w (.slice none l.length c) l) : l = [] := by
  obtain ⟨oa, c', hv, h⟩ := h
  simp only [Value.slice.injEq] at hv
  obtain ⟨rfl, -, rfl⟩ := hv
  cases l with
  | nil => rfl
  | cons x l =>
    obtain ⟨b, o, ha, -⟩ := h 0 (by simp)
    cases ha
theorem flatw_cells (l : List (Int × Bool)) : ∀ v ∈ flat vE vA l, v.oneCell' = true := by
  intro v hv
  unfold flat at hv
  rw [List.mem_flatMap] at hv
  obtain ⟨x, -, hx⟩ := hv
  simp only [List.mem_cons, List.not_mem_nil, or_false] at hx
  rcases hx with rfl | rfl <;> rfl
theorem Gw.onto {B : Nat} {w : World} {v : Value} {l m : List (Int × Bool)} (h : w.ownsRow B 24 2 v (l.length + m.length) (flat vE vA l ++ flat vE vA m)) : Gw B w v (l ++ m) := by
  unfold Gw Gv Gn
  rw [List.length_append]
  have : flat vE vA (l ++ m) = flat vE vA l ++ flat vE vA m := by unfold flat; rw [List.flatMap_append]
  rw [this]; exact h

theorem quiet_eq {P : Program} {f : FuncId} {args : Array Value} {w : World} {n : Nat} {v : Value} (h : Calls P f args (w.drewN n) fun e w' => e = .returned v ∧ w.drewN n = w') :
    Calls P f args (w.drewN n) fun e w'' => e = .returned v ∧ ∃ m, w'' = w.drewN m := h.mono fun _ _ ⟨he, hm⟩ => ⟨he, n, hm.symm⟩
section
variable {P : Program} {w : World}
theorem wpList_append_run {ops : Array Oper} {rest : List Oper} {o : Oper} {a : Act} {Q : Exit → Act → World → Prop} (hgd : o.guard = none) (s x : Operand) (t : TypeId)
    (ho : o.op = .call { callee := .builtin .append, args := #[s, x], argTypes := #[t, t] }) {v u : Value} {R : Value → World → Prop} (hs : a.eval s = v) (hx : a.eval x = u)
    (hrun : ∃ v' w', (Builtin.append_ #[t, t] o.type #[v, u]).run P w = .ok v' w' ∧ R v' w')
    (h : ∀ v' w', R v' w' → wpList P ops Q rest (a.put o.dst v') w') : wpList P ops Q (o :: rest) a w := by
  refine wpList_plain hgd fun K hK => ?_
  obtain ⟨v', w', hr, h2⟩ := hrun
  unfold Oper.wp execOp
  simp only [ho, resolve, invoke, builtin, Sem.run_bind, Sem.run_pure, Result.andThen_ok, List.map_toArray, List.map_cons, List.map_nil, hs, hx, hr]
  exact hK _ _ (h v' w' h2)
theorem step_append_run {ops : Array Oper} {o : Oper} {a : Act} {K : Act → World → Prop} {Q : Exit → Act → World → Prop} {E : Prop} (hgd : o.guard = none) (s x : Operand) (t : TypeId)
    (ho : o.op = .call { callee := .builtin .append, args := #[s, x], argTypes := #[t, t] }) {v u : Value} {R : Value → World → Prop} (hs : a.eval s = v) (hx : a.eval x = u)
    (hrun : ∃ v' w', (Builtin.append_ #[t, t] o.type #[v, u]).run P w = .ok v' w' ∧ R v' w')
    (h : ∀ v' w', R v' w' → K (a.put o.dst v') w') : if Region.wanted o (yielded ops a.tmps) = true then Oper.wp P o a w K Q else E := by
  have hw : Region.wanted o (yielded ops a.tmps) = true := by simp [Region.wanted, hgd]
  rw [if_pos hw]
  obtain ⟨v', w', hr, h2⟩ := hrun
  unfold Oper.wp execOp
  simp only [ho, resolve, invoke, builtin, Sem.run_bind, Sem.run_pure, Result.andThen_ok, List.map_toArray, List.map_cons, List.map_nil, hs, hx, hr]
  exact h v' w' h2
end

theorem below_row {B : Nat} {w w' : World} {row : Option Nat} (hB : B ≤ w.heap.size) (hg : w.grownBy w' row) (hb : ∀ k, row = some k → B ≤ k) : Below B w w' := (Below.refl B w).grown hg hB hb
/-- a slice of faults that is read, and is nil where it has no array -/
def Lw (w : World) (u : Value) (m : List (Int × Bool)) : Prop := ∃ oa c, u = .slice oa m.length c ∧ Vs w (.slice oa m.length c) m ∧ (oa = none → c = 0)
theorem Lw.of_vis {l : List (Int × Bool)} {w w' : World} {e : Ending} (h : VisP l w e w') : ∃ v, e = .returned v ∧ Lw w' v l ∧ Gw w.heap.size w' v l ∧ Below w.heap.size w w' := by
  obtain ⟨oa, c, he, ⟨hf, hg, hn⟩, hb⟩ := h
  exact ⟨_, he, ⟨oa, c, rfl, hf, hn⟩, hg, hb⟩
theorem Gw.of_block {B : Nat} {w w' : World} {v : Value} {l : List (Int × Bool)} (h : Gw B w v l) (hb : ∀ g, v.ownBlock = some g → w'.heap[g]? = w.heap[g]?) : Gw B w' v l := by
  have h0 := h.own
  refine (⟨h0.1, ?_⟩ : w'.ownsRow B 24 2 v l.length (flat vE vA l))
  rcases h0.2 with hn | ⟨g, cap, cur, e, hbg, hgg, rest⟩
  · exact .inl hn
  · refine .inr ⟨g, cap, cur, e, hbg, ?_, rest⟩
    rw [hb g (by rw [e]; rfl)]; exact hgg
theorem ap_w {B : Nat} {w : World} {v u : Value} {l m : List (Int × Bool)} (ty : TypeId) (hv : Gw B w v l) (hu : Lw w u m) (hB : B ≤ w.heap.size) (hn : l.length + m.length ≤ 100000000) :
    ∃ v' w', (Builtin.append_ #[27, 27] ty #[v, u]).run Tryd.prog w = .ok v' w' ∧ (Gw B w' v' (l ++ m) ∧ Below B w w' ∧ w.grownBy w' v.ownBlock ∧ (v'.ownBlock = v.ownBlock ∨ v'.ownBlock = some w.heap.size)) := by
  obtain ⟨i0, hi, hz0, hz1, hz2⟩ := infoW
  obtain ⟨oa, c, rfl, hl, hc⟩ := hu
  cases oa with
  | none =>
    have hm := vs_nil hl
    subst hm
    have h0 := hc rfl
    subst h0
    exact ⟨v, w, run_append_owned_none w B _ ty _ i0 2 Tryd.underlying27 hi v _ _ hv.own, by rw [List.append_nil]; exact hv, Below.refl _ _, World.grownBy.refl _ _, .inl rfl⟩
  | some ad =>
    obtain ⟨v', w', hr, h2, h3, -, h5⟩ := run_append_own_at (P := Tryd.prog) w B 27 ty 24 i0 (.agg #[.int .i64 0, .bool false]) 2 16 Tryd.underlying27 hi hz0 hz1 hz2 rfl (by decide) v l.length (flat vE vA l) hv.own ad m.length c (flat vE vA m) (flat_len (E0 := vE) (E1 := vA) m) (vs_news hl) (flatw_cells m) (by unfold maxLen; omega) (by omega) hB
    exact ⟨v', w', hr, Gw.onto h2, below_row hB h3 hv.blk, h3, h5⟩
theorem lw_one (w : World) (x : Int) (s : Bool) : Lw (w.alloc (.cells #[.int .i64 x, .bool s] 24)) (.slice (some ⟨w.heap.size, 0, none⟩) 1 1) [(x, s)] := by
  refine ⟨some ⟨w.heap.size, 0, none⟩, 1, rfl, ⟨some ⟨w.heap.size, 0, none⟩, 1, rfl, fun i hi => ⟨w.heap.size, 0, rfl, by simp, ?_⟩⟩, fun h => by cases h⟩
  match i, hi with
  | 0, _ => exact ⟨by simp [vE], by simp [vA]⟩
theorem ap_w1 {B : Nat} {w : World} {v : Value} {l : List (Int × Bool)} (ty : TypeId) (x : Int) (s : Bool) (hv : Gw B w v l) (hB : B ≤ w.heap.size) (hn : l.length ≤ 90000000) :
    ∃ v' w', (Builtin.append_ #[27, 27] ty #[v, .slice (some ⟨w.heap.size, 0, none⟩) 1 1]).run Tryd.prog (w.alloc (.cells #[.int .i64 x, .bool s] 24)) = .ok v' w' ∧ (Gw B w' v' (l ++ [(x, s)]) ∧ Below B w w') := by
  obtain ⟨v', w', hr, h2, h3, -, -⟩ := ap_w (w := w.alloc (.cells #[.int .i64 x, .bool s] 24)) (m := [(x, s)]) ty (hv.frame (below_alloc _ _)) (lw_one w x s) (by simp; omega) (by simp; omega)
  exact ⟨v', w', hr, h2, ((below_alloc w _).mono hB).trans h3⟩


/-! ### own slices of slices of int -/
theorem infoL0 : (Tryd.prog.info? 36).map (fun i => (i.zero, i.size, i.bytes)) = some (some (.slice none 0 0), 1, 24) := by kernel_rfl
theorem infoL : ∃ i, Tryd.prog.info? 36 = some i ∧ i.zero = some (.slice none 0 0) ∧ i.size = 1 ∧ i.bytes = 24 := by
  have h := infoL0
  obtain ⟨i, hi, hzz⟩ := Option.map_eq_some_iff.1 h
  simp only [Prod.mk.injEq] at hzz
  exact ⟨i, hi, hzz.1, hzz.2.1, hzz.2.2⟩
/-- the call's own slice of the values vs (each a slice) -/
def Gs (B : Nat) (w : World) (v : Value) (vs : List Value) : Prop := w.ownsRow B 36 1 v vs.length vs
theorem Gs.nil (B : Nat) (w : World) : Gs B w (.slice none 0 0) [] := World.ownsRow_nil w B _ _
theorem Gs.frame {B : Nat} {w w' : World} {v : Value} {l : List Value} (h : Gs B w v l) (hb : Below w.heap.size w w') : Gs B w' v l := by
  refine ⟨h.1, ?_⟩
  rcases h.2 with hn | ⟨g, cap, cur, e, hbg, hgg, rest⟩
  · exact .inl hn
  · refine .inr ⟨g, cap, cur, e, hbg, ?_, rest⟩
    rw [hb.block g (Array.getElem?_eq_some_iff.1 hgg).1]; exact hgg
theorem Gs.blk {B : Nat} {w : World} {v : Value} {l : List Value} (h : Gs B w v l) : ∀ k, v.ownBlock = some k → B ≤ k := fun k hk => (World.ownsRow.lt h k hk).1
theorem Gs.ls {B : Nat} {w : World} {v : Value} {vs : List Value} {ls : List (List Int)} (h : Gs B w v vs) (hl : vs.length = ls.length) (he : ∀ i, i < ls.length → L.Li w (vs.getD i (.bool true)) (ls.getD i [])) : L.Ls w v ls := by
  rcases h.2 with ⟨hn, h0⟩ | ⟨g, cap, cur, rfl, hbg, hgg, hnc, rest⟩
  · have : ls = [] := List.eq_nil_of_length_eq_zero (by omega)
    subst this
    exact ⟨none, 0, hn, fun i hi => by cases hi⟩
  · refine ⟨some ⟨g, 0, none⟩, cap, by rw [hl], fun i hi => ⟨_, _, rfl, (Array.getElem?_eq_some_iff.1 hgg).1, ?_, he i hi⟩⟩
    have := World.ownsRow.cellAt (g := g) (cap := cap) (n := vs.length) (xs := vs) (w := w) (base := B) (e := 36) (size := 1) ⟨h.1, .inr ⟨g, cap, cur, rfl, hbg, hgg, hnc, rest⟩⟩ i (by omega)
    show w.cell? (Addr.add ⟨g, 0, none⟩ i) = _
    rw [L.add_zero_off, this, List.getD_eq_getElem?_getD, List.getElem?_eq_getElem (by omega)]
    rfl
theorem ap_s1 {B : Nat} {w : World} {v : Value} {l : List Value} (ty : TypeId) (oa : Option Addr) (n c : Nat) (hv : Gs B w v l) (hB : B ≤ w.heap.size) (hn : l.length ≤ 9000000) :
    ∃ v' w', (Builtin.append_ #[53, 53] ty #[v, .slice (some ⟨w.heap.size, 0, none⟩) 1 1]).run Tryd.prog (w.alloc (.cells #[.slice oa n c] 36)) = .ok v' w' ∧ (Gs B w' v' (l ++ [.slice oa n c]) ∧ Below B w w') := by
  obtain ⟨i0, hi, hz0, hz1, hz2⟩ := infoL
  have hv2 := hv.frame (below_alloc w (.cells #[.slice oa n c] 36))
  obtain ⟨v', w', hr, h2, h3, -, -⟩ := run_append_own_at (P := Tryd.prog) (w.alloc (.cells #[.slice oa n c] 36)) B 53 ty 36 i0 (.slice none 0 0) 1 24 Tryd.underlying53 hi hz0 hz1 hz2 rfl (by decide) v l.length l hv2 ⟨w.heap.size, 0, none⟩ 1 1 [.slice oa n c] rfl
    (fun j u hj => by
      match j, hj with
      | 0, hj => simp at hj; subst hj; simp [Addr.add]) (by intro u hu; simp at hu; subst hu; rfl) (by unfold maxLen; omega) (by omega) (by simp; omega)
  refine ⟨v', w', hr, ?_, ((below_alloc w _).mono hB).trans (below_row (by simp; omega) h3 hv.blk)⟩
  unfold Gs
  rw [List.length_append]
  exact h2

end Go.Proofs.YtalfonpkefhlmaaDoor.T

