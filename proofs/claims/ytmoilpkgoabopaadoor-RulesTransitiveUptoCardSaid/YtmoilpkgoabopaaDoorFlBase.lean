/-
  DERIVED. Lists of errors and of faults, appended to: what each append leaves (of layer 9's texts: mkflbase.py).
-/
import Derived.Test.YtmoilpkgoabopaaDoorLRow
import Derived.Test.YtmoilpkgoabopaaDoorTravDec
import Derived.Laws.AppendOwnNone
import Derived.Laws.OwnMore
import Derived.Maps.AppendAt
import Derived.Deep.DeepCutAuto
import Derived.Deep.Cut
import Derived.Deep.CutRange
namespace Go.Proofs.YtmoilpkgoabopaaDoor.T
open Go.RowKit
set_option maxRecDepth 8000

/-- the call's own slice of faults -/
def Gl (B : Nat) (w : World) (v : Value) (l : List (Int × ByteArray)) : Prop := Gf B w v l.length l
theorem Gl.nil (B : Nat) (w : World) : Gl B w (.slice none 0 0) [] := Gn.nil _ _ _ _ _
theorem Gl.frame {B : Nat} {w w' : World} {v : Value} {l : List (Int × ByteArray)} (h : Gl B w v l) (hb : Below w.heap.size w w') : Gl B w' v l := Gn.frame h hb
theorem Gl.drew {B : Nat} {w : World} {v : Value} {l : List (Int × ByteArray)} (h : Gl B w v l) : Gl B w.drew v l := h
theorem Gl.more {B : Nat} {w : World} {v : Value} {l : List (Int × ByteArray)} {x : Int} {s : ByteArray} (h : w.ownsRow B 28 2 v (l.length + 1) (flat fE fA l ++ [.int .i64 x, .string s])) : Gl B w v (l ++ [(x, s)]) := by
  unfold Gl
  rw [List.length_append]
  exact Gn.more (E0 := fE) (E1 := fA) (x, s) h
theorem Gl.ext {B : Nat} {w : World} {v : Value} {l m : List (Int × ByteArray)} (h : Gl B w v l) (e : l = m) : Gl B w v m := e ▸ h
theorem Gl.own {B : Nat} {w : World} {v : Value} {l : List (Int × ByteArray)} (h : Gl B w v l) : w.ownsRow B 28 2 v l.length (flat fE fA l) := h
theorem Gl.blk {B : Nat} {w : World} {v : Value} {l : List (Int × ByteArray)} (h : Gl B w v l) : ∀ k, v.ownBlock = some k → B ≤ k := Gn.blk h
/-- a result: a list of faults -/
def ChkP (l : List (Int × ByteArray)) (w : World) (e : Ending) (w' : World) : Prop :=
  ∃ oa c, e = .returned (.slice oa l.length c) ∧ (Fs w' (.slice oa l.length c) l ∧ Gl w.heap.size w' (.slice oa l.length c) l ∧ (oa = none → c = 0)) ∧ Below w.heap.size w w'
theorem chkP {B : Nat} {l : List (Int × ByteArray)} {w w' : World} {v : Value} (h : Gl B w' v l) (hb : Below w.heap.size w w') (hB : w.heap.size ≤ B) : ChkP l w (.returned v) w' := by
  have hs : Fs w' v l := Gn.sl h
  have hg : Gl w.heap.size w' v l := Gn.mono h hB
  rcases h.2 with ⟨hv, h0⟩ | ⟨g, cap, cur, hv, _⟩
  · subst hv
    have hn : l = [] := List.eq_nil_of_length_eq_zero h0
    subst hn
    exact ⟨none, 0, rfl, ⟨hs, hg, fun _ => rfl⟩, hb⟩
  · subst hv
    exact ⟨_, _, rfl, ⟨hs, hg, fun h => (by cases h)⟩, hb⟩
theorem below_alloc (w : World) (o : Obj) : Below w.heap.size w (w.alloc o) := (Below.refl _ w).alloc (Nat.le_refl _) o
theorem Sl.grown {α : Type} {E0 E1 : α → Value} {d : α} {w w' : World} {oa : Option Addr} {c : Nat} {l : List α} {row : Option Nat} (h : Sl E0 E1 d w (.slice oa l.length c) l) (hg : w.grownBy w' row) (hne : ∀ b o, oa = some ⟨b, o, none⟩ → some b ≠ row) : Sl E0 E1 d w' (.slice oa l.length c) l := by
  obtain ⟨oa', c', hv, h⟩ := h
  simp only [Value.slice.injEq] at hv
  obtain ⟨rfl, -, rfl⟩ := hv
  refine ⟨oa, c, rfl, fun i hi => ?_⟩
  obtain ⟨b, o, ha, hl, h0, h1⟩ := h i hi
  exact ⟨b, o, ha, Nat.lt_of_lt_of_le hl hg.size, hg.cell (a := ⟨b, _, none⟩) h0 (hne b o ha), hg.cell (a := ⟨b, _, none⟩) h1 (hne b o ha)⟩
theorem fs_news {w : World} {ad : Addr} {c : Nat} {l : List (Int × ByteArray)} (h : Fs w (.slice (some ad) l.length c) l) : ∀ j u, (flat fE fA l)[j]? = some u → w.cell? (ad.add j) = some u := fun j u hj => by
  obtain ⟨oa, c', hv, h⟩ := h
  simp only [Value.slice.injEq] at hv
  obtain ⟨rfl, -, rfl⟩ := hv
  have hjl : j < (flat fE fA l).length := (List.getElem?_eq_some_iff.1 hj).1
  rw [flat_len] at hjl
  obtain ⟨b, o, ha, -, h0, h1⟩ := h (j / 2) (by omega)
  simp only [Option.some.injEq] at ha
  subst ha
  obtain ⟨f0, f1⟩ := flat_at (E0 := fE) (E1 := fA) (d := (0, ⟨#[]⟩)) l (j / 2) (by omega)
  have had : (⟨b, o, none⟩ : Addr).add j = ⟨b, o + j, none⟩ := by
    unfold Addr.add; split
    · rename_i hz; rw [hz]; rfl
    · rfl
  rw [had]
  rcases Nat.mod_two_eq_zero_or_one j with e | e
  · rw [show j / 2 * 2 = j by omega] at h0 f0
    rw [f0] at hj
    rw [h0]; exact hj
  · rw [show j / 2 * 2 + 1 = j by omega] at f1
    rw [show o + j / 2 * 2 + 1 = o + j by omega] at h1
    rw [f1] at hj
    rw [h1]; exact hj
theorem fs_nil {w : World} {c : Nat} {l : List (Int × ByteArray)} (h : Fs w (.slice none l.length c) l) : l = [] := by
  obtain ⟨oa, c', hv, h⟩ := h
  simp only [Value.slice.injEq] at hv
  obtain ⟨rfl, -, rfl⟩ := hv
  cases l with
  | nil => rfl
  | cons x l =>
    obtain ⟨b, o, ha, -⟩ := h 0 (by simp)
    cases ha
theorem flat_cells (l : List (Int × ByteArray)) : ∀ v ∈ flat fE fA l, v.oneCell' = true := by
  intro v hv
  unfold flat at hv
  rw [List.mem_flatMap] at hv
  obtain ⟨x, -, hx⟩ := hv
  simp only [List.mem_cons, List.not_mem_nil, or_false] at hx
  rcases hx with rfl | rfl <;> rfl
theorem Gl.onto {B : Nat} {w : World} {v : Value} {l m : List (Int × ByteArray)} (h : w.ownsRow B 28 2 v (l.length + m.length) (flat fE fA l ++ flat fE fA m)) : Gl B w v (l ++ m) := by
  unfold Gl Gf Gn
  rw [List.length_append]
  have : flat fE fA (l ++ m) = flat fE fA l ++ flat fE fA m := by unfold flat; rw [List.flatMap_append]
  rw [this]; exact h

theorem dec_size {k : Nat} (h : k ≤ 1000000000) : (dec k).size ≤ 20 := by
  have := dec_len 19 k (by omega)
  unfold dec
  show (Lib.decDigits k).toArray.size ≤ 20
  simpa using this
theorem quiet_eq {P : Program} {f : FuncId} {args : Array Value} {w : World} {n : Nat} {v : Value} (h : Calls P f args (w.drewN n) fun e w' => e = .returned v ∧ w.drewN n = w') :
    Calls P f args (w.drewN n) fun e w'' => e = .returned v ∧ ∃ m, w'' = w.drewN m := h.mono fun _ _ ⟨he, hm⟩ => ⟨he, n, hm.symm⟩
section
variable {P : Program} {w : World}
theorem wpList_append_run {ops : Array Oper} {rest : List Oper} {o : Oper} {a : Act} {Q : Exit → Act → World → Prop} (hgd : o.guard = none) (s x : Operand) (t : TypeId)
    (ho : o.op = .call { callee := .builtin .append, args := #[s, x], argTypes := #[t, t] }) {v u : Value} {R : Value → World → Prop} (hs : a.eval s = v) (hx : a.eval x = u)
    (hrun : ∃ v' w', (Builtin.append_ #[t, t] o.type #[v, u]).run P w = .ok v' w' ∧ R v' w')
    (h : ∀ v' w', R v' w' → wpList P ops Q rest (a.put o.dst v') w') : wpList P ops Q (o :: rest) a w := by
  refine wpList_plain hgd fun K hK => ?_
  obtain ⟨v', w', hr, h2⟩ := hrun
  unfold Oper.wp execOp
  simp only [ho, resolve, invoke, builtin, Sem.run_bind, Sem.run_pure, Result.andThen_ok, List.map_toArray, List.map_cons, List.map_nil, hs, hx, hr]
  exact hK _ _ (h v' w' h2)
theorem step_append_run {ops : Array Oper} {o : Oper} {a : Act} {K : Act → World → Prop} {Q : Exit → Act → World → Prop} {E : Prop} (hgd : o.guard = none) (s x : Operand) (t : TypeId)
    (ho : o.op = .call { callee := .builtin .append, args := #[s, x], argTypes := #[t, t] }) {v u : Value} {R : Value → World → Prop} (hs : a.eval s = v) (hx : a.eval x = u)
    (hrun : ∃ v' w', (Builtin.append_ #[t, t] o.type #[v, u]).run P w = .ok v' w' ∧ R v' w')
    (h : ∀ v' w', R v' w' → K (a.put o.dst v') w') : if Region.wanted o (yielded ops a.tmps) = true then Oper.wp P o a w K Q else E := by
  have hw : Region.wanted o (yielded ops a.tmps) = true := by simp [Region.wanted, hgd]
  rw [if_pos hw]
  obtain ⟨v', w', hr, h2⟩ := hrun
  unfold Oper.wp execOp
  simp only [ho, resolve, invoke, builtin, Sem.run_bind, Sem.run_pure, Result.andThen_ok, List.map_toArray, List.map_cons, List.map_nil, hs, hx, hr]
  exact h v' w' h2
end

/-! ### lists of errors -/
theorem infoE0 : (Tryd.prog.info? 26).map (fun i => (i.zero, i.size, i.bytes)) = some (some (.int .i64 0), 1, 8) := by kernel_rfl
theorem infoE : ∃ i, Tryd.prog.info? 26 = some i ∧ i.zero = some (.int .i64 0) ∧ i.size = 1 ∧ i.bytes = 8 := by
  have h := infoE0
  obtain ⟨i, hi, hzz⟩ := Option.map_eq_some_iff.1 h
  simp only [Prod.mk.injEq] at hzz
  exact ⟨i, hi, hzz.1, hzz.2.1, hzz.2.2⟩
/-- the call's own slice of errors -/
def Ge (B : Nat) (w : World) (v : Value) (l : List Int) : Prop := w.ownsRow B 26 1 v l.length (l.map L.vi)
theorem Ge.nil (B : Nat) (w : World) : Ge B w (.slice none 0 0) [] := World.ownsRow_nil w B _ _
theorem Ge.frame {B : Nat} {w w' : World} {v : Value} {l : List Int} (h : Ge B w v l) (hb : Below w.heap.size w w') : Ge B w' v l := by
  refine ⟨h.1, ?_⟩
  rcases h.2 with hn | ⟨g, cap, cur, e, hbg, hgg, rest⟩
  · exact .inl hn
  · refine .inr ⟨g, cap, cur, e, hbg, ?_, rest⟩
    rw [hb.block g (Array.getElem?_eq_some_iff.1 hgg).1]; exact hgg
theorem Ge.mono {B C : Nat} {w : World} {v : Value} {l : List Int} (h : Ge B w v l) (hle : C ≤ B) : Ge C w v l := World.ownsRow.mono h hle
theorem Ge.blk {B : Nat} {w : World} {v : Value} {l : List Int} (h : Ge B w v l) : ∀ k, v.ownBlock = some k → B ≤ k := fun k hk => (World.ownsRow.lt h k hk).1
theorem Ge.ext {B : Nat} {w : World} {v : Value} {l m : List Int} (h : Ge B w v l) (e : l = m) : Ge B w v m := e ▸ h
theorem Ge.li {B : Nat} {w : World} {v : Value} {l : List Int} (h : Ge B w v l) : L.Li w v l := by
  rcases h.2 with ⟨hn, h0⟩ | ⟨g, cap, cur, rfl, hbg, hgg, hnc, rest⟩
  · have : l = [] := List.eq_nil_of_length_eq_zero h0
    subst this
    exact ⟨none, 0, hn, fun i hi => by cases hi⟩
  · refine ⟨some ⟨g, 0, none⟩, cap, rfl, fun i hi => ⟨_, rfl, (Array.getElem?_eq_some_iff.1 hgg).1, ?_⟩⟩
    have := World.ownsRow.cellAt (g := g) (cap := cap) (n := l.length) (xs := l.map L.vi) (w := w) (base := B) (e := 26) (size := 1) ⟨h.1, .inr ⟨g, cap, cur, rfl, hbg, hgg, hnc, rest⟩⟩ i (by omega)
    show w.cell? (Addr.add ⟨g, 0, none⟩ i) = _
    rw [L.add_zero_off, this, List.getElem?_map, List.getD_eq_getElem?_getD, List.getElem?_eq_getElem hi]
    rfl
theorem vi_cells (m : List Int) : ∀ u ∈ m.map L.vi, u.oneCell' = true := by
  intro u hu
  obtain ⟨x, -, rfl⟩ := List.mem_map.1 hu
  rfl
/-- a slice of errors that is read, and is nil where it has no array -/
def Le (w : World) (u : Value) (m : List Int) : Prop := ∃ oa c, u = .slice oa m.length c ∧ L.Li w (.slice oa m.length c) m ∧ (oa = none → c = 0)
theorem li_news {w : World} {ad : Addr} {c : Nat} {m : List Int} (h : L.Li w (.slice (some ad) m.length c) m) : ∀ j u, (m.map L.vi)[j]? = some u → w.cell? (ad.add j) = some u := fun j u hj => by
  obtain ⟨oa, c', hv, h⟩ := h
  simp only [Value.slice.injEq] at hv
  obtain ⟨rfl, -, rfl⟩ := hv
  rw [List.getElem?_map, Option.map_eq_some_iff] at hj
  obtain ⟨x, hx, rfl⟩ := hj
  obtain ⟨hjl, rfl⟩ := List.getElem?_eq_some_iff.1 hx
  obtain ⟨a, ha, -, hc⟩ := h j hjl
  obtain rfl : ad = a := by simpa using ha
  rw [hc, List.getD_eq_getElem?_getD, List.getElem?_eq_getElem hjl]
  rfl
theorem li_nil {w : World} {c : Nat} {m : List Int} (h : L.Li w (.slice none m.length c) m) : m = [] := by
  obtain ⟨oa, c', hv, h⟩ := h
  simp only [Value.slice.injEq] at hv
  obtain ⟨rfl, -, rfl⟩ := hv
  cases m with
  | nil => rfl
  | cons x l =>
    obtain ⟨a, ha, -⟩ := h 0 (by simp)
    cases ha
theorem Ge.le {B : Nat} {w : World} {v : Value} {l : List Int} (h : Ge B w v l) : Le w v l := by
  have hl := h.li
  rcases h.2 with ⟨hv, h0⟩ | ⟨g, cap, cur, hv, _⟩
  · subst hv
    have hn : l = [] := List.eq_nil_of_length_eq_zero h0
    subst hn
    exact ⟨none, 0, rfl, hl, fun _ => rfl⟩
  · subst hv
    exact ⟨_, _, rfl, hl, fun h => (by cases h)⟩
theorem Le.below {w w' : World} {v : Value} {l : List Int} (h : Le w v l) (hb : Below w.heap.size w w') : Le w' v l := by
  obtain ⟨oa, c, hv, hl, hn⟩ := h
  exact ⟨oa, c, hv, hl.below hb, hn⟩
theorem below_row {B : Nat} {w w' : World} {row : Option Nat} (hB : B ≤ w.heap.size) (hg : w.grownBy w' row) (hb : ∀ k, row = some k → B ≤ k) : Below B w w' := (Below.refl B w).grown hg hB hb
theorem le_one (w : World) (x : Int) : Le (w.alloc (.cells #[.int .i64 x] 26)) (.slice (some ⟨w.heap.size, 0, none⟩) 1 1) [x] := by
  refine ⟨some ⟨w.heap.size, 0, none⟩, 1, rfl, ⟨some ⟨w.heap.size, 0, none⟩, 1, rfl, fun i hi => ⟨_, rfl, by simp, ?_⟩⟩, fun h => by cases h⟩
  match i, hi with
  | 0, _ => simp [Addr.add]
/-- a result: a list of errors -/
def ErrP (l : List Int) (w : World) (e : Ending) (w' : World) : Prop := ∃ v, e = .returned v ∧ Le w' v l ∧ Below w.heap.size w w'
theorem errP {B : Nat} {l : List Int} {w w' : World} {v : Value} (h : Ge B w' v l) (hb : Below w.heap.size w w') : ErrP l w (.returned v) w' := ⟨v, rfl, h.le, hb⟩

/-! ### lists of faults -/
/-- a slice of faults that is read, and is nil where it has no array -/
def Lf (w : World) (u : Value) (m : List (Int × ByteArray)) : Prop := ∃ oa c, u = .slice oa m.length c ∧ Fs w (.slice oa m.length c) m ∧ (oa = none → c = 0)
theorem Lf.of_chk {l : List (Int × ByteArray)} {w w' : World} {e : Ending} (h : ChkP l w e w') : ∃ v, e = .returned v ∧ Lf w' v l ∧ Gl w.heap.size w' v l ∧ Below w.heap.size w w' := by
  obtain ⟨oa, c, he, ⟨hf, hg, hn⟩, hb⟩ := h
  exact ⟨_, he, ⟨oa, c, rfl, hf, hn⟩, hg, hb⟩
theorem Gl.of_block {B : Nat} {w w' : World} {v : Value} {l : List (Int × ByteArray)} (h : Gl B w v l) (hb : ∀ g, v.ownBlock = some g → w'.heap[g]? = w.heap[g]?) : Gl B w' v l := by
  have h0 := h.own
  refine (⟨h0.1, ?_⟩ : w'.ownsRow B 28 2 v l.length (flat fE fA l))
  rcases h0.2 with hn | ⟨g, cap, cur, e, hbg, hgg, rest⟩
  · exact .inl hn
  · refine .inr ⟨g, cap, cur, e, hbg, ?_, rest⟩
    rw [hb g (by rw [e]; rfl)]; exact hgg
theorem ap_f {B : Nat} {w : World} {v u : Value} {l m : List (Int × ByteArray)} (ty : TypeId) (hv : Gl B w v l) (hu : Lf w u m) (hB : B ≤ w.heap.size) (hn : l.length + m.length ≤ 100000000) :
    ∃ v' w', (Builtin.append_ #[24, 24] ty #[v, u]).run Tryd.prog w = .ok v' w' ∧ (Gl B w' v' (l ++ m) ∧ Below B w w' ∧ w.grownBy w' v.ownBlock ∧ (v'.ownBlock = v.ownBlock ∨ v'.ownBlock = some w.heap.size)) := by
  obtain ⟨i0, hi, hz0, hz1, hz2⟩ := infoF
  obtain ⟨oa, c, rfl, hl, hc⟩ := hu
  cases oa with
  | none =>
    have hm := fs_nil hl
    subst hm
    have h0 := hc rfl
    subst h0
    exact ⟨v, w, run_append_owned_none w B _ ty _ i0 2 Tryd.underlying24 hi v _ _ hv.own, by rw [List.append_nil]; exact hv, Below.refl _ _, World.grownBy.refl _ _, .inl rfl⟩
  | some ad =>
    obtain ⟨v', w', hr, h2, h3, -, h5⟩ := run_append_own_at (P := Tryd.prog) w B 24 ty 28 i0 (.agg #[.int .i64 0, .string ⟨#[]⟩]) 2 24 Tryd.underlying24 hi hz0 hz1 hz2 rfl (by decide) v l.length (flat fE fA l) hv.own ad m.length c (flat fE fA m) (flat_len (E0 := fE) (E1 := fA) m) (fs_news hl) (flat_cells m) (by unfold maxLen; omega) (by omega) hB
    exact ⟨v', w', hr, Gl.onto h2, below_row hB h3 hv.blk, h3, h5⟩
theorem lf_one (w : World) (x : Int) (s : ByteArray) : Lf (w.alloc (.cells #[.int .i64 x, .string s] 28)) (.slice (some ⟨w.heap.size, 0, none⟩) 1 1) [(x, s)] := by
  refine ⟨some ⟨w.heap.size, 0, none⟩, 1, rfl, ⟨some ⟨w.heap.size, 0, none⟩, 1, rfl, fun i hi => ⟨w.heap.size, 0, rfl, by simp, ?_⟩⟩, fun h => by cases h⟩
  match i, hi with
  | 0, _ => exact ⟨by simp [fE], by simp [fA]⟩
theorem ap_f1 {B : Nat} {w : World} {v : Value} {l : List (Int × ByteArray)} (ty : TypeId) (x : Int) (s : ByteArray) (hv : Gl B w v l) (hB : B ≤ w.heap.size) (hn : l.length ≤ 90000000) :
    ∃ v' w', (Builtin.append_ #[24, 24] ty #[v, .slice (some ⟨w.heap.size, 0, none⟩) 1 1]).run Tryd.prog (w.alloc (.cells #[.int .i64 x, .string s] 28)) = .ok v' w' ∧ (Gl B w' v' (l ++ [(x, s)]) ∧ Below B w w') := by
  obtain ⟨v', w', hr, h2, h3, -, -⟩ := ap_f (w := w.alloc (.cells #[.int .i64 x, .string s] 28)) (m := [(x, s)]) ty (hv.frame (below_alloc _ _)) (lf_one w x s) (by simp; omega) (by simp; omega)
  exact ⟨v', w', hr, h2, ((below_alloc w _).mono hB).trans h3⟩

end Go.Proofs.YtmoilpkgoabopaaDoor.T

