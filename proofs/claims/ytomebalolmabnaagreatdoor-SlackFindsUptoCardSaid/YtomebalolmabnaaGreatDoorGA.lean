/-
  DERIVED. GA: a part of the base of layer 13 (made by pack.py).
-/
import Derived.Laws.IdiomCopy
import Derived.Deep.OwnRows
import Derived.Laws.Concat
import Derived.Deep.MidRow
import Derived.Test.YtomebalolmabnaaGreatDoorHS
import Derived.Test.YtomebalolmabnaaGreatDoorHE
import Derived.Test.YtomebalolmabnaaGreatDoorHK
import Derived.Laws.Rows
/-! Walks by rules: rows of structs that are read, single cells that are written, results in cells (for layer 18). -/
namespace Go.Proofs.YtomebalolmabnaaGreatDoor.T
open Go.RowKit
set_option maxRecDepth 8000

theorem Cb.f {w : World} {q : Nat} {cs : Array Value} {t : TypeId} (h : Cb w q cs t) (k : Nat) : w.frozen? ⟨q, k, none⟩ = false := by unfold Cb at h; simp [World.frozen?, h]
theorem Cb.below {w w' : World} {q : Nat} {cs : Array Value} {t : TypeId} (h : Cb w q cs t) (hb : Below w.heap.size w w') : Cb w' q cs t := (hb.block q h.lt).trans h
theorem Cb.made (w : World) (cs : Array Value) (t : TypeId) : Cb (w.alloc (.cells cs t)) w.heap.size cs t := by
  show (w.heap.push _)[w.heap.size]? = _
  simp
/-! ### rows that are read -/
/-- a slice of n elements of sz cells each at block b from o on; element k has the cells E k -/
def Rw (w : World) (b o sz : Nat) (E : Nat → List Value) (n : Nat) (oa : Option Addr) : Prop :=
  ∀ k, k < n → oa = some ⟨b, o, none⟩ ∧ b < w.heap.size ∧ ∀ (j : Nat) (v : Value), (E k)[j]? = some v → w.cell? ⟨b, o + k * sz + j, none⟩ = some v
theorem Rw.below {w w' : World} {b o sz : Nat} {E : Nat → List Value} {n : Nat} {oa : Option Addr} (h : Rw w b o sz E n oa) (hb : Below w.heap.size w w') : Rw w' b o sz E n oa := fun k hk => by
  obtain ⟨h1, h2, h3⟩ := h k hk
  exact ⟨h1, Nat.lt_of_lt_of_le h2 hb.size, fun j v hj => (hb.cell (p := ⟨b, _, none⟩) h2).trans (h3 j v hj)⟩
theorem Rw.over {w w1 w' : World} {b o sz : Nat} {E : Nat → List Value} {n : Nat} {oa : Option Addr} (h : Rw w b o sz E n oa) (hb : Below w.heap.size w w1) (hb' : Below w1.heap.size w1 w') : Rw w' b o sz E n oa := (h.below hb).below hb'
theorem Rw.cell {w : World} {b o sz : Nat} {E : Nat → List Value} {n : Nat} {oa : Option Addr} (h : Rw w b o sz E n oa) {k : Nat} (hk : k < n) (j : Nat) {v : Value} (hj : (E k)[j]? = some v) : w.cell? ⟨b, o + k * sz + j, none⟩ = some v := (h k hk).2.2 j v hj
theorem Rw.oa {w : World} {b o sz : Nat} {E : Nat → List Value} {n : Nat} {oa : Option Addr} (h : Rw w b o sz E n oa) {k : Nat} (hk : k < n) : oa = some ⟨b, o, none⟩ := (h k hk).1
theorem Rw.range {w : World} {b o sz : Nat} {E : Nat → List Value} {n : Nat} {oa : Option Addr} (h : Rw w b o sz E n oa) {k : Nat} (hk : k < n) : w.rangeAt b (o + k * sz) (E k) := fun j v hj => (h k hk).2.2 j v hj
theorem Rw.lt {w : World} {b o sz : Nat} {E : Nat → List Value} {n : Nat} {oa : Option Addr} (h : Rw w b o sz E n oa) {k : Nat} (hk : k < n) : b < w.heap.size := (h k hk).2.1
theorem Rw.kept {w w' : World} {b o sz g : Nat} {E : Nat → List Value} {n : Nat} {oa : Option Addr} (h : Rw w b o sz E n oa) (hg : w.grownBy w' (some g)) (hne : ∀ k, k < n → b ≠ g) : Rw w' b o sz E n oa := fun k hk => by
  obtain ⟨h1, h2, h3⟩ := h k hk
  have hb := hg.block b h2 (fun e => hne k hk (by simpa using e))
  exact ⟨h1, Nat.lt_of_lt_of_le h2 hg.size, fun j v hj => (World.cell?_of_block (w := w) (a := ⟨b, _, none⟩) hb).trans (h3 j v hj)⟩
/-- a slice of structs of two cells -/
theorem Sl.rw {α : Type} {E0 E1 : α → Value} {d : α} {w : World} {v : Value} {l : List α} (h : Sl E0 E1 d w v l) : ∃ oa c b o, v = .slice oa l.length c ∧ Rw w b o 2 (fun k => [E0 (l.getD k d), E1 (l.getD k d)]) l.length oa := by
  obtain ⟨oa, c, rfl, h⟩ := h
  cases l with
  | nil => exact ⟨oa, c, 0, 0, rfl, fun k hk => by cases hk⟩
  | cons x l =>
    obtain ⟨b, o, ha, -⟩ := h 0 (by simp)
    refine ⟨oa, c, b, o, rfl, fun k hk => ?_⟩
    obtain ⟨b', o', ha', hl, h0, h1⟩ := h k hk
    rw [ha] at ha'
    simp only [Option.some.injEq, Addr.mk.injEq, and_true] at ha'
    obtain ⟨rfl, rfl⟩ := ha'
    refine ⟨ha, hl, fun j v hj => ?_⟩
    match j, hj with
    | 0, hj => simp only [List.getElem?_cons_zero, Option.some.injEq] at hj; subst hj; exact h0
    | 1, hj => simp only [List.getElem?_cons_succ, List.getElem?_cons_zero, Option.some.injEq] at hj; subst hj; exact h1
    | j + 2, hj => simp at hj
/-- a slice of ints -/
theorem Li.rw {w : World} {v : Value} {l : List Int} (h : L.Li w v l) : ∃ oa c b o, v = .slice oa l.length c ∧ (l = [] ∨ ∃ s, oa = some ⟨b, o, s⟩) := by
  obtain ⟨oa, c, rfl, h⟩ := h
  cases l with
  | nil => exact ⟨oa, c, 0, 0, rfl, .inl rfl⟩
  | cons x l =>
    obtain ⟨⟨b, o, s⟩, ha, -⟩ := h 0 (by simp)
    exact ⟨oa, c, b, o, rfl, .inr ⟨s, ha⟩⟩

section
variable {P : Program} {ops : Array Oper} {Q : Exit → Act → World → Prop} {rest : List Oper} {o : Oper} {n : Nat} {g : Nat → Value} {l : List (Nat × Value)} {w : World}
/-! ### answers -/
theorem ex_int (k : IntKind) (c b : Int) (hr : (execOp (ev n g l) o).run P w = .ok (.value (.int k c)) w) (hb : c = b) : (execOp (ev n g l) o).run P w = .ok (.value (.int k b)) w := hb ▸ hr
theorem ex_bool (c b : Bool) (hr : (execOp (ev n g l) o).run P w = .ok (.value (.bool c)) w) (hb : c = b) : (execOp (ev n g l) o).run P w = .ok (.value (.bool b)) w := hb ▸ hr
theorem ex_indexO {t : TypeId} {x y : Operand} (ho : o.op = .indexAddr t x y) {oa : Option Addr} {b q m c k s p : Nat} (hx : ev n g l x = .slice oa m c) (ha : oa = some ⟨b, q, none⟩) (hy : ev n g l y = .int .i64 k) {e : TypeId}
    (hu : P.underlying t = some (.slice e)) (hs : (P.info? e).map (·.size) = some s) (hk : k < m) (hp : q + k * s = p) : (execOp (ev n g l) o).run P w = .ok (.value (.pointer (some ⟨b, p, none⟩))) w := by
  subst ha
  exact ex_index ho b q m c k s p hx hy hu hs hk hp
theorem ex_loadR {ty : TypeId} {x : Operand} (ho : o.op = .load ty x) {b p : Nat} {cs : List Value} (hr : w.rangeAt b p cs) (hx : ev n g l x = .pointer (some ⟨b, p, none⟩)) {dd : TypeDesc}
    (hu : P.underlying ty = some dd) (hdd : dd.isRow = true) (hi : (P.info? ty).map (·.size) = some cs.length) : (execOp (ev n g l) o).run P w = .ok (.value (.agg cs.toArray)) w := by
  unfold execOp
  simp only [ho, hx, run_loadAt_mid w b p ty cs dd hr hu hdd hi, Sem.run_bind, Sem.run_pure, Result.andThen_ok]
/-- one cell of a known block -/
theorem ex_storeC {ty : TypeId} {x y : Operand} (ho : o.op = .store ty x y) {q k : Nat} {cs : Array Value} {t : TypeId} {v old : Value} (hg : Cb w q cs t) (hc : cs[k]? = some old) (hv : v.oneCell' = true) (hx : ev n g l x = .pointer (some ⟨q, k, none⟩)) (hy : ev n g l y = v)
    (hi : (P.info? ty).map (·.size) = some 1) : (execOp (ev n g l) o).run P w = .ok .skip (w.setCell ⟨q, k, none⟩ v) := ex_store1 ho (hg.cell k hc) (hg.f k) hv hx hy hi
theorem grown_set (w : World) (q k : Nat) (v : Value) : w.grownBy (w.setCell ⟨q, k, none⟩ v) (some q) := ⟨rfl, rfl, rfl, by simp [World.setCell], fun j hj hne => Below.heap_setCell _ _ _ _ (fun h => hne (by rw [h]))⟩
theorem sx_retc {fn : Func} {R : Ending → World → Prop} {t : Nat} {ty : TypeId} {q : Nat} {cs : Array Value} {tq : TypeId} {dd : TypeDesc} (hg : Cb w q cs tq) (hf : fn.results = #[.cell t ty]) (hk : Nat.blt t n = true) (hv : slotV g l t = .pointer (some ⟨q, 0, none⟩))
    (hu : P.underlying ty = some dd) (hdd : (match dd with | .struct _ | .array _ _ => true | _ => false) = true) (hi : (P.info? ty).map (·.size) = some cs.size) (hR : R (.returned (.agg cs)) w) : bodyPost P fn R .ret (fr n g l) w := by
  have hs : (fr n g l).tmps[t]?.getD undef = .pointer (some ⟨q, 0, none⟩) := by
    rw [← Array.getD_eq_getD_getElem?]
    exact (slot_get hk).trans hv
  have hrun := run_loadVar_row w q tq ty cs (0, 0) dd hg hu hdd hi
  refine bodyPost_ret (v := .agg cs) ?_ rfl hR
  unfold results
  simp only [hf]
  simp [hs, hrun, asAddr]
end
theorem Cb.belowB {w w' : World} {q B : Nat} {cs : Array Value} {t : TypeId} (h : Cb w q cs t) (hq : q < B) (hb : Below B w w') : Cb w' q cs t := (hb.block q hq).trans h
theorem Rw.belowB {w w' : World} {b o sz B : Nat} {E : Nat → List Value} {n : Nat} {oa : Option Addr} (h : Rw w b o sz E n oa) (hq : ∀ k, k < n → b < B) (hb : Below B w w') : Rw w' b o sz E n oa := fun k hk => by
  obtain ⟨h1, h2, h3⟩ := h k hk
  exact ⟨h1, Nat.lt_of_lt_of_le h2 hb.size, fun j v hj => (hb.cell (p := ⟨b, _, none⟩) (hq k hk)).trans (h3 j v hj)⟩
section
variable {P : Program} {ops : Array Oper} {Q : Exit → Act → World → Prop} {rest : List Oper} {o : Oper} {n : Nat} {g : Nat → Value} {l : List (Nat × Value)} {w : World}
/-! ### memory -/
theorem Cb.there {w : World} {q p n : Nat} {cs : Array Value} {t : TypeId} (h : Cb w q cs t) (hp : p + n ≤ cs.size) : w.there q p n := fun j hj => by
  refine ⟨?_, h.f _⟩
  rw [h.cell (p + j) (Array.getElem?_eq_getElem (by omega))]
  rfl
theorem Cb.setsN {q : Nat} {t : TypeId} : ∀ (vs : List Value) (w : World) (p : Nat) (cs : Array Value), Cb w q cs t → Cb (w.setCells q p vs) q (setN cs.toList p vs).toArray t
  | [], _, _, _, h => h
  | v :: vs, w, p, cs, h => by
    have h1 := Cb.setsN vs (w.setCell ⟨q, p, none⟩ v) (p + 1) (cs.setIfInBounds p v) (h.set p v)
    rw [Array.toList_setIfInBounds] at h1
    exact h1
theorem grown_sets (q : Nat) : ∀ (vs : List Value) (w : World) (p : Nat), w.grownBy (w.setCells q p vs) (some q)
  | [], w, _ => ⟨rfl, rfl, rfl, Nat.le_refl _, fun _ _ _ => rfl⟩
  | v :: vs, w, p => by
    have h1 := grown_set w q p v
    have h2 := grown_sets q vs (w.setCell ⟨q, p, none⟩ v) (p + 1)
    exact ⟨h2.os.trans h1.os, h2.tape.trans h1.tape, h2.output.trans h1.output, Nat.le_trans h1.size h2.size, fun j hj hne => (h2.block j (Nat.lt_of_lt_of_le hj h1.size) hne).trans (h1.block j hj hne)⟩

theorem ex_storeM {ty : TypeId} {x y : Operand} (ho : o.op = .store ty x y) {q p : Nat} {cs cells : Array Value} {t : TypeId} (hg : Cb w q cs t) (hp : p + cells.size ≤ cs.size) (h1 : cells.all (·.oneCell') = true) (hx : ev n g l x = .pointer (some ⟨q, p, none⟩)) (hy : ev n g l y = .agg cells)
    (hi : (P.info? ty).map (·.size) = some cells.size) : (execOp (ev n g l) o).run P w = .ok .skip (w.setCells q p cells.toList) := by
  unfold execOp
  simp only [ho, hx, hy, run_storeAt_mid w q p ty cells (hg.there hp) hi h1, Sem.run_bind, Sem.run_pure, Result.andThen_ok]
end
/-- orders -/
def oF (l : List OrT) (vc : Nat → Value) (k : Nat) : List Value := let a := l.getD k or0; [.string a.name, vc k, .int .i64 a.pp, .int .i64 a.po, .int .i64 a.pc, .int .i64 a.ps, .int .i64 a.dp, .int .i64 a.dd, .int .i64 a.dc, .int .i64 a.ds, .int .i64 a.sk, .int .i64 a.pen, .int .i64 a.spl, .int .i64 a.las, .int .i64 a.now, .bool a.off]
theorem Os.rw {w : World} {oa : Option Addr} {c : Nat} {l : List OrT} (h : Os w (.slice oa l.length c) l) : ∃ b o vc, Rw w b o 16 (oF l vc) l.length oa := by
  obtain ⟨oa', c', hv, h⟩ := h
  simp only [Value.slice.injEq] at hv
  obtain ⟨rfl, -, rfl⟩ := hv
  cases l with
  | nil => exact ⟨0, 0, fun _ => .bool true, fun k hk => by cases hk⟩
  | cons x l =>
    obtain ⟨b, o, -, ha, -⟩ := h 0 (by simp)
    have hex : ∀ i, i < (x :: l).length → ∃ vc, b < w.heap.size ∧ Oc w b (o + i * 16) ((x :: l).getD i or0) vc := fun i hi => by
      obtain ⟨b', o', vc, ha', hl, hc, -⟩ := h i hi
      rw [ha] at ha'
      simp only [Option.some.injEq, Addr.mk.injEq, and_true] at ha'
      obtain ⟨rfl, rfl⟩ := ha'
      exact ⟨vc, hl, hc⟩
    have hvc : ∃ vc : Nat → Value, ∀ i, i < (x :: l).length → b < w.heap.size ∧ Oc w b (o + i * 16) ((x :: l).getD i or0) (vc i) := by
      refine ⟨fun i => if hi : i < (x :: l).length then Classical.choose (hex i hi) else .bool true, fun i hi => ?_⟩
      have h9 := Classical.choose_spec (hex i hi)
      simp only [dif_pos hi]
      exact h9
    obtain ⟨vc, hvc⟩ := hvc
    refine ⟨b, o, vc, fun k hk => ⟨ha, (hvc k hk).1, fun j v hj => ?_⟩⟩
    obtain ⟨-, h0, h1, h2, h3, h4, h5, h6, h7, h8, h9, h10, h11, h12, h13, h14, h15⟩ := hvc k hk
    unfold oF at hj
    simp only at hj
    match j, hj with
    | 0, hj => simp only [List.getElem?_cons_zero, Option.some.injEq] at hj; subst hj; exact h0
    | 1, hj => simp only [List.getElem?_cons_succ, List.getElem?_cons_zero, Option.some.injEq] at hj; subst hj; exact h1
    | 2, hj => simp only [List.getElem?_cons_succ, List.getElem?_cons_zero, Option.some.injEq] at hj; subst hj; exact h2
    | 3, hj => simp only [List.getElem?_cons_succ, List.getElem?_cons_zero, Option.some.injEq] at hj; subst hj; exact h3
    | 4, hj => simp only [List.getElem?_cons_succ, List.getElem?_cons_zero, Option.some.injEq] at hj; subst hj; exact h4
    | 5, hj => simp only [List.getElem?_cons_succ, List.getElem?_cons_zero, Option.some.injEq] at hj; subst hj; exact h5
    | 6, hj => simp only [List.getElem?_cons_succ, List.getElem?_cons_zero, Option.some.injEq] at hj; subst hj; exact h6
    | 7, hj => simp only [List.getElem?_cons_succ, List.getElem?_cons_zero, Option.some.injEq] at hj; subst hj; exact h7
    | 8, hj => simp only [List.getElem?_cons_succ, List.getElem?_cons_zero, Option.some.injEq] at hj; subst hj; exact h8
    | 9, hj => simp only [List.getElem?_cons_succ, List.getElem?_cons_zero, Option.some.injEq] at hj; subst hj; exact h9
    | 10, hj => simp only [List.getElem?_cons_succ, List.getElem?_cons_zero, Option.some.injEq] at hj; subst hj; exact h10
    | 11, hj => simp only [List.getElem?_cons_succ, List.getElem?_cons_zero, Option.some.injEq] at hj; subst hj; exact h11
    | 12, hj => simp only [List.getElem?_cons_succ, List.getElem?_cons_zero, Option.some.injEq] at hj; subst hj; exact h12
    | 13, hj => simp only [List.getElem?_cons_succ, List.getElem?_cons_zero, Option.some.injEq] at hj; subst hj; exact h13
    | 14, hj => simp only [List.getElem?_cons_succ, List.getElem?_cons_zero, Option.some.injEq] at hj; subst hj; exact h14
    | 15, hj => simp only [List.getElem?_cons_succ, List.getElem?_cons_zero, Option.some.injEq] at hj; subst hj; exact h15
    | j + 16, hj => simp at hj
/-! ### memory -/
/-- all blocks but those that Z names are as they were -/
structure Keep (Z : Nat → Prop) (w w' : World) : Prop where
  os : w'.os = w.os
  tape : w'.tape = w.tape
  output : w'.output = w.output
  size : w.heap.size ≤ w'.heap.size
  block : ∀ k, k < w.heap.size → ¬ Z k → w'.heap[k]? = w.heap[k]?
theorem Keep.refl (Z : Nat → Prop) (w : World) : Keep Z w w := ⟨rfl, rfl, rfl, Nat.le_refl _, fun _ _ _ => rfl⟩
theorem Keep.trans {Z Z' : Nat → Prop} {a b c : World} (h : Keep Z a b) (k : Keep Z' b c) (hz : ∀ i, i < a.heap.size → Z' i → Z i) : Keep Z a c :=
  ⟨k.os.trans h.os, k.tape.trans h.tape, k.output.trans h.output, Nat.le_trans h.size k.size, fun i hi hn => (k.block i (Nat.lt_of_lt_of_le hi h.size) fun e => hn (hz i hi e)).trans (h.block i hi hn)⟩
theorem Keep.below {Z : Nat → Prop} {a b c : World} (h : Keep Z a b) (k : Below b.heap.size b c) : Keep Z a c :=
  ⟨k.os.trans h.os, k.tape.trans h.tape, k.output.trans h.output, Nat.le_trans h.size k.size, fun i hi hn => (k.block i (Nat.lt_of_lt_of_le hi h.size)).trans (h.block i hi hn)⟩
theorem Keep.grown {Z : Nat → Prop} {a b c : World} {r : Option Nat} (h : Keep Z a b) (k : b.grownBy c r) (hz : ∀ i, i < a.heap.size → r = some i → Z i) : Keep Z a c :=
  ⟨k.os.trans h.os, k.tape.trans h.tape, k.output.trans h.output, Nat.le_trans h.size k.size, fun i hi hn => (k.block i (Nat.lt_of_lt_of_le hi h.size) (fun e => hn (hz i hi e.symm))).trans (h.block i hi hn)⟩
theorem Cb.grownO {w w' : World} {q : Nat} {cs : Array Value} {t : TypeId} {r : Option Nat} (h : Cb w q cs t) (k : w.grownBy w' r) (hn : r ≠ some q) : Cb w' q cs t := (k.block q h.lt (Ne.symm hn)).trans h
theorem Rw.grownO {w w' : World} {b o sz : Nat} {E : Nat → List Value} {n : Nat} {oa : Option Addr} {r : Option Nat} (h : Rw w b o sz E n oa) (k : w.grownBy w' r) (hn : ∀ i, i < n → r ≠ some b) : Rw w' b o sz E n oa := fun i hi => by
  obtain ⟨h1, h2, h3⟩ := h i hi
  exact ⟨h1, Nat.lt_of_lt_of_le h2 k.size, fun j v hj => (World.cell?_of_block (w := w) (a := ⟨b, _, none⟩) (k.block b h2 (Ne.symm (hn i hi)))).trans (h3 j v hj)⟩
theorem own_keep {Z : Nat → Prop} {w w' : World} {B : Nat} {e : TypeId} {s : Nat} {v : Value} {n : Nat} {xs : List Value} (h : w.ownsRow B e s v n xs) (k : Keep Z w w') (hn : ∀ i, v.ownBlock = some i → ¬ Z i) : w'.ownsRow B e s v n xs := by
  refine ⟨h.1, ?_⟩
  rcases h.2 with h0 | ⟨g, cap, cur, rfl, hb, hg, rest⟩
  · exact .inl h0
  · exact .inr ⟨g, cap, cur, rfl, hb, by rw [k.block g (Array.getElem?_eq_some_iff.1 hg).1 (hn g rfl)]; exact hg, rest⟩
theorem own_below {w w' : World} {B : Nat} {e : TypeId} {s : Nat} {v : Value} {n : Nat} {xs : List Value} (h : w.ownsRow B e s v n xs) (k : Below w.heap.size w w') : w'.ownsRow B e s v n xs :=
  own_keep (Z := fun _ => False) h ⟨k.os, k.tape, k.output, k.size, fun i hi _ => k.block i hi⟩ fun _ _ => id
end Go.Proofs.YtomebalolmabnaaGreatDoor.T



/-! The steps of walks, said shortly. -/
namespace Go.Proofs.YtomebalolmabnaaGreatDoor.T
open Go.RowKit
set_option maxRecDepth 8000
attribute [local irreducible] wpList Code.wp wpAnyH

def iK (k : Iv) (x : InT) : Array Value := #[.slice k.o0 x.pl.length k.c0, .slice k.o1 x.al.length k.c1, .slice k.o2 x.tl.length k.c2, .slice k.o3 x.ol.length k.c3, .slice k.o4 x.ap.length k.c4, .slice k.o5 x.be.length k.c5]
def rK (ty st : Int) (orr : Option Addr) (n cr : Nat) (oa : Option Addr) (m ca : Nat) : Array Value := #[.int .i64 ty, .int .i64 st, .slice orr n cr, .slice oa m ca]
theorem laidA (w : World) (A : Array Value) (T : TypeId) : ∃ W, w.alloc (.cells A T) = W ∧ Below w.heap.size w W ∧ Cb W w.heap.size A T := ⟨_, rfl, below_alloc _ _, Cb.made _ _ _⟩
theorem laidV (w : World) (Z A : Array Value) (T : TypeId) : ∃ W, (w.alloc (.cells Z T)).setRow w.heap.size A = W ∧ Below w.heap.size w W ∧ Cb W w.heap.size A T := ⟨_, rfl, below_var _ _ _, Cb.row (Cb.made _ _ _) _⟩
abbrev tK (a : TyT) (va : Option Addr) (vb : Nat) : Array Value := #[.string a.name, .int .i64 a.count, .int .i64 a.fr, .int .i64 a.to, .slice va a.cap.length vb, .int .i64 a.skills, .int .i64 a.prof, .int .i64 a.opn, .int .i64 a.cls, .int .i64 a.drv, .int .i64 a.rst, .int .i64 a.fix, .int .i64 a.pm, .int .i64 a.pt]
abbrev pK (s : StT) : Array Value := #[.int .i64 s.p, .int .i64 s.o, .int .i64 s.c, .int .i64 s.s]
abbrev pt (b o : Nat) : Value := .pointer (some ⟨b, o, none⟩)
abbrev nZT : Array Value := #[.string ⟨#[]⟩, .int .i64 0, .int .i64 0, .int .i64 0, .slice none 0 0, .int .i64 0, .int .i64 0, .int .i64 0, .int .i64 0, .int .i64 0, .int .i64 0, .int .i64 0, .int .i64 0, .int .i64 0]
abbrev nZS : Array Value := #[.bool false, .int .i64 0, .slice none 0 0, .int .i64 0, .int .i64 0]
abbrev nZM : Array Value := #[.int .i64 0, .int .i64 0, .int .i64 0, .bool false]
abbrev nZ6 : Array Value := #[.int .i64 0, .int .i64 0, .int .i64 0, .int .i64 0, .int .i64 0, .int .i64 0]
abbrev nZ4 : Array Value := #[.int .i64 0, .int .i64 0, .int .i64 0, .int .i64 0]
abbrev nZ3 : Array Value := #[.int .i64 0, .int .i64 0, .int .i64 0]
theorem oG {B q : Nat} (h : B ≤ q) (k : Nat) (e : some q = some k) : B ≤ k := by
  cases e
  exact h
theorem Yn {P : Program} {Q : Exit → Act → World → Prop} {a : Act} {w : World} {ops : Array Oper} (h : Q .normal a w) : wpList P ops Q [] a w := wpList_nil h
theorem Yr {P : Program} {Q : Exit → Act → World → Prop} {a : Act} {w : World} {id : Nat} {l : List Oper} (h : wpList P l.toArray Q l a w) : (Code.region id l.toArray false).wp P Q a w := wp_region_lit h
theorem Ys {P : Program} {Q : Exit → Act → World → Prop} {a : Act} {w : World} {x y : Code} (h : x.wp P (Exit.then (y.wp P Q) Q) a w) : (Code.seq x y).wp P Q a w := wp_seq h
theorem Yq {P : Program} {Q : Exit → Act → World → Prop} {a : Act} {w : World} {y : Code} {id : Nat} {l : List Oper} (h : wpList P l.toArray (Exit.then (y.wp P Q) Q) l a w) : (Code.seq (Code.region id l.toArray false) y).wp P Q a w := wp_seq (wp_region_lit h)
theorem Yo {Q : Exit → Act → World → Prop} {a : Act} {w : World} {K : Act → World → Prop} (h : K a w) : Exit.then K Q .normal a w := sx_norm h
section
variable {P : Program} {ops : Array Oper} {Q : Exit → Act → World → Prop} {rest : List Oper} {o : Oper} {n : Nat} {g : Nat → Value} {l : List (Nat × Value)} {w : World}
theorem Zv {d : Nat} (hd : o.dst = some d) (v : Value) (h : wpList P ops Q rest (fr n g ((d, v) :: l)) w) (hw : yw n g l ops o = true := by kernel_rfl) (hn : Nat.blt d n = true := by exact rfl) (hr : (execOp (ev n g l) o).run P w = .ok (.value v) w := by kernel_rfl) : wpList P ops Q (o :: rest) (fr n g l) w := sx_val hw hd hn v hr h
theorem Zw {d : Nat} (hd : o.dst = some d) (v : Value) (hr : (execOp (ev n g l) o).run P w = .ok (.value v) w) (h : wpList P ops Q rest (fr n g ((d, v) :: l)) w) (hw : yw n g l ops o = true := by kernel_rfl) (hn : Nat.blt d n = true := by exact rfl) : wpList P ops Q (o :: rest) (fr n g l) w := sx_val hw hd hn v hr h
theorem Zb {d : Nat} (hd : o.dst = some d) (c b : Bool) (hb : c = b) (h : wpList P ops Q rest (fr n g ((d, .bool b) :: l)) w) (hw : yw n g l ops o = true := by kernel_rfl) (hn : Nat.blt d n = true := by exact rfl) (hr : (execOp (ev n g l) o).run P w = .ok (.value (.bool c)) w := by kernel_rfl) : wpList P ops Q (o :: rest) (fr n g l) w := sx_bool hw hd hn c b hr hb h
theorem Zs {cells : Array Value} (hd : o.dst = none) {ty : TypeId} {x y : Operand} (ho : o.op = .store ty x y) {q : Nat} {t : TypeId} {old : Array Value} (hg : Cb w q old t) (h : wpList P ops Q rest (fr n g l) (w.setRow q cells)) (hw : yw n g l ops o = true := by kernel_rfl) (hx : ev n g l x = .pointer (some ⟨q, 0, none⟩) := by kernel_rfl) (hy : ev n g l y = .agg cells := by kernel_rfl) (hi : (P.info? ty).map (·.size) = some cells.size := by kernel_rfl) (hold : old.size = cells.size := by kernel_rfl) (h1 : cells.all (·.oneCell') = true := by kernel_rfl) : wpList P ops Q (o :: rest) (fr n g l) w := sx_store hw hd ho hg hx hy hi hold h1 h
theorem Zr {cells : Array Value} (hd : o.dst = none) {ty : TypeId} {x y : Operand} (ho : o.op = .store ty x y) {q : Nat} {t : TypeId} {old : Array Value} (hg : Cb w q old t) (h : ∀ W, w.grownBy W (some q) → Cb W q cells t → wpList P ops Q rest (fr n g l) W) (hw : yw n g l ops o = true := by kernel_rfl) (hx : ev n g l x = .pointer (some ⟨q, 0, none⟩) := by kernel_rfl) (hy : ev n g l y = .agg cells := by kernel_rfl) (hi : (P.info? ty).map (·.size) = some cells.size := by kernel_rfl) (hold : old.size = cells.size := by kernel_rfl) (h1 : cells.all (·.oneCell') = true := by kernel_rfl) : wpList P ops Q (o :: rest) (fr n g l) w := sx_store hw hd ho hg hx hy hi hold h1 (h _ (grown_row _ _ _) (Cb.row hg _))
theorem el {ty : TypeId} {x : Operand} {p : Addr} {v : Value} {dd : TypeDesc} (hc : w.cell? p = some v) (hu : P.underlying ty = some dd) (ho : o.op = .load ty x := by exact rfl) (hx : ev n g l x = .pointer (some p) := by kernel_rfl) (hdd : (match dd with | .struct _ | .array _ _ => true | _ => false) = false := by exact rfl) : (execOp (ev n g l) o).run P w = .ok (.value v) w := ex_load1 ho hc hx hu hdd
theorem Zk {d : Nat} (hd : o.dst = some d) (h : wpList P ops Q rest (fr n g ((d, undef) :: l)) w) (hw : yw n g l ops o = false := by kernel_rfl) (hn : Nat.blt d n = true := by exact rfl) : wpList P ops Q (o :: rest) (fr n g l) w := sx_skip hw hd hn h
theorem Za {d : Nat} (hd : o.dst = some d) (A : Array Value) (T : TypeId) (h : ∀ W, Below w.heap.size w W → Cb W w.heap.size A T → w.heap.size ≤ W.heap.size → w.heap.size < W.heap.size → wpList P ops Q rest (fr n g ((d, .pointer (some ⟨w.heap.size, 0, none⟩)) :: l)) W) (hw : yw n g l ops o = true := by kernel_rfl) (hn : Nat.blt d n = true := by exact rfl) (hr : (execOp (ev n g l) o).run P w = .ok (.value (.pointer (some ⟨w.heap.size, 0, none⟩))) (w.alloc (.cells A T)) := by kernel_rfl) : wpList P ops Q (o :: rest) (fr n g l) w := by
  obtain ⟨W, hW, hb, hq⟩ := laidA w A T
  exact sx_mem hw hd hn _ W (by rw [← hW]; exact hr) (h W hb hq hb.size hq.lt)
theorem Zc {d : Nat} {f : FuncId} {args : Array Value} {R : Ending → World → Prop} (hd : o.dst = some d) (hc : Calls P f args w R) (h : ∀ e w', R e w' → ∃ v, e = .returned v ∧ wpList P ops Q rest (fr n g ((d, v) :: l)) w') (hw : yw n g l ops o = true := by kernel_rfl) (hn : Nat.blt d n = true := by exact rfl) (hr : (execOp (ev n g l) o).run P w = .ok (.enter f args) w := by kernel_rfl) : wpList P ops Q (o :: rest) (fr n g l) w := sx_call hw hd hn hc hr h
theorem Zd {d : Nat} {f : FuncId} {args : Array Value} {v : Value} (hd : o.dst = some d) (hc : Calls P f args w fun e w' => e = .returned v ∧ Below w.heap.size w w') (h : ∀ W, Below w.heap.size w W → w.heap.size ≤ W.heap.size → wpList P ops Q rest (fr n g ((d, v) :: l)) W) (hw : yw n g l ops o = true := by kernel_rfl) (hn : Nat.blt d n = true := by exact rfl) (hr : (execOp (ev n g l) o).run P w = .ok (.enter f args) w := by kernel_rfl) : wpList P ops Q (o :: rest) (fr n g l) w :=
  sx_call hw hd hn hc hr fun _ W k => ⟨v, k.1, h W k.2 k.2.size⟩
theorem Zi {d : Nat} (hd : o.dst = some d) (c b : Int) (hb : c = b) (h : wpList P ops Q rest (fr n g ((d, .int .i64 b) :: l)) w) (hw : yw n g l ops o = true := by kernel_rfl) (hn : Nat.blt d n = true := by exact rfl) (hr : (execOp (ev n g l) o).run P w = .ok (.value (.int .i64 c)) w := by kernel_rfl) : wpList P ops Q (o :: rest) (fr n g l) w := sx_int hw hd hn .i64 c b hr hb h
end
section
variable {P : Program} {ops : Array Oper} {Q : Exit → Act → World → Prop} {md : Region.Mode} {S : World → Prop} {n : Nat} {g : Nat → Value} {l : List (Nat × Value)} {w : World} {fuel : Nat} {listed : Array Bool} {oi : Oper}
theorem Zt (i : Nat) {d : Nat} (hi : ops[i]? = some oi) (hd : oi.dst = some d) (v : Value) (hv : ∀ w, S w → (execOp (ev n g l) oi).run P w = .ok (.value v) w) (hS : S w) (h : wpAnyH P md ops Q S fuel (listed.setIfInBounds i true) (fr n g ((d, v) :: l)) w) (hQ : ∀ c a w, Q (.panic c) (a.put oi.dst v) w → Q (.panic c) a w := by exact fun _ _ _ h => h) (hs : Region.noSelect ops = true := by kernel_rfl) (hf : Region.free md ops listed i = true := by kernel_rfl) (hr : (Region.ready md ops listed).contains i = true := by kernel_rfl) (hw : yw n g l ops oi = true := by kernel_rfl) (hn : Nat.blt d n = true := by exact rfl) : wpAnyH P md ops Q S (fuel + 1) listed (fr n g l) w := sd_take i hi hs hf hr hw hd hn v hv hQ hS h
theorem Zu (i : Nat) {d : Nat} (hi : ops[i]? = some oi) (hd : oi.dst = some d) (v : Value) (hS : S w) (h : wpAnyH P md ops Q S fuel (listed.setIfInBounds i true) (fr n g ((d, v) :: l)) w) (hv : ∀ w, S w → (execOp (ev n g l) oi).run P w = .ok (.value v) w := by intro w9 h9; kernel_rfl) (hQ : ∀ c a w, Q (.panic c) (a.put oi.dst v) w → Q (.panic c) a w := by exact fun _ _ _ h => h) (hs : Region.noSelect ops = true := by kernel_rfl) (hf : Region.free md ops listed i = true := by kernel_rfl) (hr : (Region.ready md ops listed).contains i = true := by kernel_rfl) (hw : yw n g l ops oi = true := by kernel_rfl) (hn : Nat.blt d n = true := by exact rfl) : wpAnyH P md ops Q S (fuel + 1) listed (fr n g l) w := sd_take i hi hs hf hr hw hd hn v hv hQ hS h
theorem Zp (i : Nat) {d : Nat} (hi : ops[i]? = some oi) (hd : oi.dst = some d) (hS : S w) (h : wpAnyH P md ops Q S fuel (listed.setIfInBounds i true) (fr n g ((d, undef) :: l)) w) (hQ : ∀ c a w, Q (.panic c) (a.put oi.dst undef) w → Q (.panic c) a w := by exact fun _ _ _ h => h) (hs : Region.noSelect ops = true := by kernel_rfl) (hf : Region.free md ops listed i = true := by kernel_rfl) (hr : (Region.ready md ops listed).contains i = true := by kernel_rfl) (hw : yw n g l ops oi = false := by kernel_rfl) (hn : Nat.blt d n = true := by exact rfl) : wpAnyH P md ops Q S (fuel + 1) listed (fr n g l) w := sd_pass i hi hs hf hr hw hd hn hQ hS h
end
end Go.Proofs.YtomebalolmabnaaGreatDoor.T



/-! Schedules of routes, in plain numbers. -/
namespace Go.Proofs.YtomebalolmabnaaGreatDoor.T
open Go.RowKit
set_option maxRecDepth 8000

structure CrT where
 pl : List ByteArray
 al : List ArcT
 ty : TyT
 S : List StT
 rd : Int
structure LegT where
 dep : Int
 arr : Int
 beg : Int
 don : Int
 sin : Int
 mil : Int
def leg0 : LegT := ⟨0, 0, 0, 0, 0, 0⟩
namespace CrT
def gD (c : CrT) (don : Int) (r : Bool) : Int := if r then don + c.ty.rst else don
def gS (sin : Int) (r : Bool) : Int := if r then 0 else sin
def go (c : CrT) (k : Nat) (don : Int) (r : Bool) : Int × Int × Int := goV c.pl.length c.al c.ty.prof (c.S.getD k st0).p (c.S.getD (k + 1) st0).p (c.gD don r)
def late (c : CrT) (k : Nat) : Int := if k + 1 = c.S.length then 15 else 14
def err (c : CrT) (k : Nat) (don sin : Int) (r : Bool) : Int :=
 if (c.go k don r).2.2 ≠ 0 then 12 else if (c.S.getD (k + 1) st0).c < (c.go k don r).1 then c.late (k + 1) else if c.ty.drv < gS sin r + ((c.go k don r).1 - c.gD don r) then 16 else 0
def beg (c : CrT) (k : Nat) (don : Int) (r : Bool) : Int := if (c.go k don r).1 < (c.S.getD (k + 1) st0).o then (c.S.getD (k + 1) st0).o else (c.go k don r).1
def leg (c : CrT) (k : Nat) (don sin : Int) (r : Bool) : LegT :=
 ⟨c.gD don r, (c.go k don r).1, c.beg k don r, c.beg k don r + (c.S.getD (k + 1) st0).s, gS sin r + ((c.go k don r).1 - c.gD don r), (c.go k don r).2.1⟩
def dn (c : CrT) (R : List Bool) : Nat → Int × Int
 | 0 => (c.rd, 0)
 | k + 1 => ((c.leg k (dn c R k).1 (dn c R k).2 (R.getD k false)).don, (c.leg k (dn c R k).1 (dn c R k).2 (R.getD k false)).sin)
def lg (c : CrT) (R : List Bool) (k : Nat) : LegT := c.leg k (c.dn R k).1 (c.dn R k).2 (R.getD k false)
def er (c : CrT) (R : List Bool) (k : Nat) : Int := c.err k (c.dn R k).1 (c.dn R k).2 (R.getD k false)
def run (c : CrT) (R : List Bool) : Nat → Int
 | 0 => 0
 | k + 1 => if run c R k ≠ 0 then run c R k else c.er R k
def mil (c : CrT) (R : List Bool) : Nat → Int
 | 0 => 0
 | k + 1 => mil c R k + (c.lg R k).mil
theorem dn_succ (c : CrT) (R : List Bool) (k : Nat) : c.dn R (k + 1) = ((c.lg R k).don, (c.lg R k).sin) := rfl
theorem run_succ (c : CrT) (R : List Bool) (k : Nat) : c.run R (k + 1) = if c.run R k ≠ 0 then c.run R k else c.er R k := rfl
theorem run_ok {c : CrT} {R : List Bool} {k : Nat} (h : c.run R (k + 1) = 0) : c.run R k = 0 ∧ c.er R k = 0 := by
 rw [run_succ] at h
 split at h
 ·rename_i h1; exact absurd h h1
 ·rename_i h1; exact ⟨Decidable.of_not_not h1, h⟩
theorem run_le {c : CrT} {R : List Bool} {k m : Nat} (h : c.run R m = 0) (hk : k ≤ m) : c.run R k = 0 := by
 induction m with
 | zero => rw [show k = 0 by omega]; exact h
 | succ m ih =>
  rcases Nat.lt_or_eq_of_le hk with h1 | h1
  ·exact ih (run_ok h).1 (by omega)
  ·rw [h1]; exact h
theorem run_er {c : CrT} {R : List Bool} {k m : Nat} (h : c.run R m = 0) (hk : k < m) : c.er R k = 0 := (run_ok (run_le h (show k + 1 ≤ m by omega))).2
theorem run_stop {c : CrT} {R : List Bool} {k : Nat} (h0 : c.run R k = 0) (h : c.er R k ≠ 0) : ∀ m, k < m → c.run R m = c.er R k
 | 0, h1 => absurd h1 (Nat.not_lt_zero k)
 | m + 1, h1 => by
  rw [run_succ]
  rcases Nat.lt_or_eq_of_le (Nat.le_of_lt_succ h1) with h2 | h2
  ·rw [run_stop h0 h m h2, if_pos h]
  ·rw [← h2, h0, if_neg (fun h => h rfl)]
def n (c : CrT) : Nat := c.S.length - 1
structure Ok (c : CrT) : Prop where
 net : NetOk c.pl c.al
 al : c.al.length ≤ 1000000
 rst : 0 ≤ c.ty.rst ∧ c.ty.rst ≤ 4096
 drv : 1 ≤ c.ty.drv ∧ c.ty.drv ≤ 4096
 len : 2 ≤ c.S.length ∧ c.S.length ≤ 22
 st : ∀ k, k < c.S.length → 0 ≤ (c.S.getD k st0).o ∧ (c.S.getD k st0).o ≤ (c.S.getD k st0).c ∧ (c.S.getD k st0).c ≤ 4096 ∧ 0 ≤ (c.S.getD k st0).s ∧ (c.S.getD k st0).s ≤ 4096
 rd : 0 ≤ c.rd ∧ c.rd ≤ 4096
 last : (c.S.getD (c.S.length - 1) st0).o = 0
theorem goV_bd {pl : List ByteArray} {al : List ArcT} (h : NetOk pl al) {pr f t d : Int} (hd : 0 ≤ d) (h0 : (goV pl.length al pr f t d).2.2 = 0) : d ≤ (goV pl.length al pr f t d).1 ∧ (goV pl.length al pr f t d).1 ≤ d + 73728 ∧ 0 ≤ (goV pl.length al pr f t d).2.1 ∧ (goV pl.length al pr f t d).2.1 ≤ 10000 := by
 unfold goV at h0 ⊢
 split at h0
 ·rename_i h1
  rw [if_pos h1]
  split at h0
  ·rename_i h2
   rw [if_pos h2]
   exact ⟨Int.le_refl _, by show d ≤ _; omega, Int.le_refl _, by show (0 : Int) ≤ _; omega⟩
  ·rename_i h2
   rw [if_neg h2]
   split at h0
   ·rename_i a ha
    have hA := h.mem (find_mem ha).1
    have h3 := arrA_bd hA hd
    have h4 := hA.miles
    exact ⟨h3.1, h3.2, h4.1, h4.2⟩
   ·cases h0
 ·cases h0
theorem goV_mono {pl : List ByteArray} {al : List ArcT} (h : NetOk pl al) {pr f t d e : Int} (hde : d ≤ e) : (goV pl.length al pr f t d).2.2 = (goV pl.length al pr f t e).2.2 ∧ (goV pl.length al pr f t d).2.1 = (goV pl.length al pr f t e).2.1 ∧ (goV pl.length al pr f t d).1 ≤ (goV pl.length al pr f t e).1 := by
 unfold goV
 split
 ·split
  ·exact ⟨rfl, rfl, hde⟩
  ·split
   ·rename_i a ha
    exact ⟨rfl, rfl, arrA_mono (h.mem (find_mem ha).1) hde⟩
   ·exact ⟨rfl, rfl, Int.le_refl _⟩
 ·exact ⟨rfl, rfl, Int.le_refl _⟩
section
variable {c : CrT} (hc : c.Ok) {R : List Bool}
include hc
theorem gD_bd {don : Int} (r : Bool) (h : 0 ≤ don ∧ don ≤ 8192) : 0 ≤ c.gD don r ∧ c.gD don r ≤ 12288 := by
 have := hc.rst
 unfold gD
 split <;> omega
theorem err_ok {k : Nat} (hk : k < c.n) {don sin : Int} {r : Bool} (hd : 0 ≤ don ∧ don ≤ 8192) (hs : 0 ≤ sin ∧ sin ≤ 4096) (h : c.err k don sin r = 0) :
  (c.go k don r).2.2 = 0 ∧ (c.go k don r).1 ≤ (c.S.getD (k + 1) st0).c ∧ c.gD don r ≤ (c.go k don r).1 ∧ (c.leg k don sin r).sin ≤ c.ty.drv ∧ 0 ≤ (c.leg k don sin r).sin ∧ (c.go k don r).1 ≤ (c.leg k don sin r).beg ∧ (c.S.getD (k + 1) st0).o ≤ (c.leg k don sin r).beg ∧ (c.leg k don sin r).beg ≤ (c.S.getD (k + 1) st0).c ∧ 0 ≤ (c.leg k don sin r).don ∧ (c.leg k don sin r).don ≤ 8192 ∧ 0 ≤ (c.leg k don sin r).mil ∧ (c.leg k don sin r).mil ≤ 10000 := by
 have hn : k + 1 < c.S.length := by unfold n at hk; omega
 have hst := hc.st (k + 1) hn
 have hgd := gD_bd hc r hd
 unfold err at h
 split at h
 ·cases h
 rename_i h1
 have h1 : (c.go k don r).2.2 = 0 := Decidable.of_not_not h1
 split at h
 ·unfold late at h; split at h <;> cases h
 rename_i h2
 split at h
 ·cases h
 rename_i h3
 have hb := goV_bd hc.net hgd.1 (pr := c.ty.prof) (f := (c.S.getD k st0).p) (t := (c.S.getD (k + 1) st0).p) h1
 have hb1 : c.gD don r ≤ (c.go k don r).1 := hb.1
 have hb3 : 0 ≤ (c.go k don r).2.1 ∧ (c.go k don r).2.1 ≤ 10000 := hb.2.2
 have hgs : 0 ≤ gS sin r := by unfold gS; split <;> omega
 have hbeg : c.beg k don r = if (c.go k don r).1 < (c.S.getD (k + 1) st0).o then (c.S.getD (k + 1) st0).o else (c.go k don r).1 := rfl
 refine ⟨h1, by omega, hb1, ?_, ?_, ?_, ?_, ?_, ?_, ?_, hb3.1, hb3.2⟩
 ·show gS sin r + ((c.go k don r).1 - c.gD don r) ≤ _; omega
 ·show 0 ≤ gS sin r + ((c.go k don r).1 - c.gD don r); omega
 ·show _ ≤ c.beg k don r; rw [hbeg]; split <;> omega
 ·show _ ≤ c.beg k don r; rw [hbeg]; split <;> omega
 ·show c.beg k don r ≤ _; rw [hbeg]; split <;> omega
 ·show 0 ≤ c.beg k don r + _; rw [hbeg]; split <;> omega
 ·show c.beg k don r + _ ≤ _; rw [hbeg]; split <;> omega
theorem dn_bd : ∀ k, k ≤ c.n → c.run R k = 0 → 0 ≤ (c.dn R k).1 ∧ (c.dn R k).1 ≤ 8192 ∧ 0 ≤ (c.dn R k).2 ∧ (c.dn R k).2 ≤ 4096
 | 0, _, _ => by
  have := hc.rd
  show 0 ≤ c.rd ∧ c.rd ≤ 8192 ∧ (0 : Int) ≤ 0 ∧ (0 : Int) ≤ 4096
  omega
 | k + 1, hk, h => by
  obtain ⟨h1, h2⟩ := run_ok h
  have ih := dn_bd k (by omega) h1
  have h3 := err_ok hc (by omega) ⟨ih.1, ih.2.1⟩ ⟨ih.2.2.1, ih.2.2.2⟩ h2
  have h4 := hc.drv
  rw [dn_succ]
  unfold lg
  refine ⟨h3.2.2.2.2.2.2.2.2.1, h3.2.2.2.2.2.2.2.2.2.1, h3.2.2.2.2.1, ?_⟩
  have := h3.2.2.2.1
  show (c.leg k (c.dn R k).1 (c.dn R k).2 (R.getD k false)).sin ≤ 4096
  omega
theorem lg_ok {k m : Nat} (hm : m ≤ c.n) (h : c.run R m = 0) (hk : k < m) :
  (c.go k (c.dn R k).1 (R.getD k false)).2.2 = 0 ∧ (c.lg R k).arr ≤ (c.S.getD (k + 1) st0).c ∧ (c.lg R k).dep ≤ (c.lg R k).arr ∧ (c.lg R k).sin ≤ c.ty.drv ∧ 0 ≤ (c.lg R k).sin ∧ (c.lg R k).arr ≤ (c.lg R k).beg ∧ (c.S.getD (k + 1) st0).o ≤ (c.lg R k).beg ∧ (c.lg R k).beg ≤ (c.S.getD (k + 1) st0).c ∧ 0 ≤ (c.lg R k).don ∧ (c.lg R k).don ≤ 8192 ∧ 0 ≤ (c.lg R k).mil ∧ (c.lg R k).mil ≤ 10000 := by
 have ih := dn_bd hc k (by omega) (run_le h (by omega)) (R := R)
 exact err_ok hc (by omega) ⟨ih.1, ih.2.1⟩ ⟨ih.2.2.1, ih.2.2.2⟩ (run_er h hk)
theorem mil_bd : ∀ k, k ≤ c.n → c.run R k = 0 → 0 ≤ c.mil R k ∧ c.mil R k ≤ 10000 * k
 | 0, _, _ => by show (0 : Int) ≤ 0 ∧ (0 : Int) ≤ _; omega
 | k + 1, hk, h => by
  have ih := mil_bd k (by omega) (run_ok h).1
  have h3 := lg_ok hc hk h (Nat.lt_succ_self k)
  show 0 ≤ c.mil R k + (c.lg R k).mil ∧ c.mil R k + (c.lg R k).mil ≤ _
  omega
end
end CrT
def stopsOk (ol : List OrT) (l : List (Int × Bool)) : Bool := l.all fun v => decide (stopE ol v.1 v.2 = 0)
def posD (tl : List TyT) (ol : List OrT) (ty st : Int) (l : List (Int × Bool)) : Bool := decide (0 ≤ ty) && decide (ty < tl.length) && decide (0 ≤ st) && decide (st ≤ 4096) && decide (l.length ≤ 20) && stopsOk ol l
def crsS (t : TyT) (ol : List OrT) (l : List (Int × Bool)) : List StT := ⟨t.fr, 0, 0, 0⟩ :: (l.map fun v => stopV ol v.1 v.2) ++ [⟨t.to, 0, t.cls, 0⟩]
def crs (x : InT) (ty st : Int) (l : List (Int × Bool)) : CrT := ⟨x.pl, x.al, x.tl.getD ty.toNat ty0, crsS (x.tl.getD ty.toNat ty0) x.ol l, if (x.tl.getD ty.toNat ty0).opn < st then st else (x.tl.getD ty.toNat ty0).opn⟩
theorem crsS_len (t : TyT) (ol : List OrT) (l : List (Int × Bool)) : (crsS t ol l).length = l.length + 2 := by unfold crsS; simp
end Go.Proofs.YtomebalolmabnaaGreatDoor.T



/-! A course in memory; results in cells; schedules as values. -/
namespace Go.Proofs.YtomebalolmabnaaGreatDoor.T
open Go.RowKit
set_option maxRecDepth 8000

section
variable {P : Program} {Q : Exit → Act → World → Prop} {n : Nat} {g : Nat → Value} {l : List (Nat × Value)} {w : World}
theorem sx_retct {fn : Func} {R : Ending → World → Prop} {t u : Nat} {ty : TypeId} {q : Nat} {cs : Array Value} {tq : TypeId} {dd : TypeDesc} {v' : Value} (hg : Cb w q cs tq) (hf : fn.results = #[.cell t ty, .tmp u]) (hk : Nat.blt t n = true) (hk' : Nat.blt u n = true) (hv : slotV g l t = .pointer (some ⟨q, 0, none⟩)) (hv' : slotV g l u = v')
  (hu : P.underlying ty = some dd) (hdd : (match dd with | .struct _ | .array _ _ => true | _ => false) = true) (hi : (P.info? ty).map (·.size) = some cs.size) (hR : R (.returned (.tuple #[.agg cs, v'])) w) : bodyPost P fn R .ret (fr n g l) w := by
 have hs : (fr n g l).tmps[t]?.getD undef = .pointer (some ⟨q, 0, none⟩) := by
  rw [← Array.getD_eq_getD_getElem?]
  exact (slot_get hk).trans hv
 have hs' : (fr n g l).tmps[u]?.getD undef = v' := by
  rw [← Array.getD_eq_getD_getElem?]
  exact (slot_get hk').trans hv'
 have hrun := run_loadVar_row w q tq ty cs (0, 0) dd hg hu hdd hi
 refine bodyPost_ret (v := .tuple #[.agg cs, v']) ?_ rfl hR
 unfold results
 simp only [hf]
 simp [hs, hs', hrun, asAddr]
theorem sx_retctt {fn : Func} {R : Ending → World → Prop} {t u x : Nat} {ty : TypeId} {q : Nat} {cs : Array Value} {tq : TypeId} {dd : TypeDesc} {v' v2 : Value} (hg : Cb w q cs tq) (hf : fn.results = #[.cell t ty, .tmp u, .tmp x]) (hk : Nat.blt t n = true) (hk' : Nat.blt u n = true) (hk2 : Nat.blt x n = true) (hv : slotV g l t = .pointer (some ⟨q, 0, none⟩)) (hv' : slotV g l u = v') (hv2 : slotV g l x = v2)
  (hu : P.underlying ty = some dd) (hdd : (match dd with | .struct _ | .array _ _ => true | _ => false) = true) (hi : (P.info? ty).map (·.size) = some cs.size) (hR : R (.returned (.tuple #[.agg cs, v', v2])) w) : bodyPost P fn R .ret (fr n g l) w := by
 have hs : (fr n g l).tmps[t]?.getD undef = .pointer (some ⟨q, 0, none⟩) := by
  rw [← Array.getD_eq_getD_getElem?]
  exact (slot_get hk).trans hv
 have hs' : (fr n g l).tmps[u]?.getD undef = v' := by
  rw [← Array.getD_eq_getD_getElem?]
  exact (slot_get hk').trans hv'
 have hs2 : (fr n g l).tmps[x]?.getD undef = v2 := by
  rw [← Array.getD_eq_getD_getElem?]
  exact (slot_get hk2).trans hv2
 have hrun := run_loadVar_row w q tq ty cs (0, 0) dd hg hu hdd hi
 refine bodyPost_ret (v := .tuple #[.agg cs, v', v2]) ?_ rfl hR
 unfold results
 simp only [hf]
 simp [hs, hs', hs2, hrun, asAddr]
end
def sF (S : List StT) (k : Nat) : List Value := [.int .i64 (S.getD k st0).p, .int .i64 (S.getD k st0).o, .int .i64 (S.getD k st0).c, .int .i64 (S.getD k st0).s]
def bF (R : List Bool) (k : Nat) : List Value := [.bool (R.getD k false)]
def vF (l : List (Int × Bool)) (k : Nat) : List Value := [vE (l.getD k (0, false)), vA (l.getD k (0, false))]
structure TmT where
 a : Int
 b : Int
 d : Int
 r : Bool
deriving DecidableEq
def tm0 : TmT := ⟨0, 0, 0, false⟩
structure ShT where
 r : Bool
 d : Int
 T : List TmT
 e : Int
 m : Int
deriving DecidableEq
def sh0 : ShT := ⟨false, 0, [], 0, 0⟩
structure CV where
 o0 : Option Addr
 c0 : Nat
 o1 : Option Addr
 c1 : Nat
 va : Option Addr
 vb : Nat
 o2 : Option Addr
 c2 : Nat
 bs : Nat
 os : Nat
def CV.cells (K : CV) (c : CrT) : Array Value := #[.slice K.o0 c.pl.length K.c0, .slice K.o1 c.al.length K.c1, .string c.ty.name, .int .i64 c.ty.count, .int .i64 c.ty.fr, .int .i64 c.ty.to, (.slice K.va c.ty.cap.length K.vb), .int .i64 c.ty.skills, .int .i64 c.ty.prof, .int .i64 c.ty.opn, .int .i64 c.ty.cls, .int .i64 c.ty.drv, .int .i64 c.ty.rst, .int .i64 c.ty.fix, .int .i64 c.ty.pm, .int .i64 c.ty.pt, .int .i64 c.rd, .slice K.o2 c.S.length K.c2]
structure Crw (w : World) (c : CrT) (K : CV) (q : Nat) : Prop where
 blk : Cb w q (K.cells c) 156
 st : Rw w K.bs K.os 4 (sF c.S) c.S.length K.o2
 pl : Ss w (.slice K.o0 c.pl.length K.c0) c.pl
 al : As w (.slice K.o1 c.al.length K.c1) c.al
 tab : Tab w
theorem Ins.below {w w' : World} {k : Iv} {x : InT} (h : Ins w k x) (hb : Below w.heap.size w w') : Ins w' k x := ⟨h.h0.below hb, h.h1.below hb, h.h2.below hb, h.h3.below hb, h.h4.below hb, h.h5.below hb⟩
theorem Tab.belowD {w w' : World} (h : Tab w) (k : Below w.heap.size w w') : Tab w' := h.over k
theorem Crw.below {w w' : World} {c : CrT} {K : CV} {q : Nat} (h : Crw w c K q) (k : Below w.heap.size w w') : Crw w' c K q := ⟨h.blk.below k, h.st.below k, h.pl.below k, h.al.below k, h.tab.belowD k⟩
end Go.Proofs.YtomebalolmabnaaGreatDoor.T



/-! A schedule's cells by a name. -/
namespace Go.Proofs.YtomebalolmabnaaGreatDoor.T
open Go.RowKit
abbrev sK (S : ShT) (oa : Option Addr) (c : Nat) : Array Value := #[.bool S.r, .int .i64 S.d, .slice oa S.T.length c, .int .i64 S.e, .int .i64 S.m]
end Go.Proofs.YtomebalolmabnaaGreatDoor.T



/-! The walks of drive: ways, late; window.Begin (by gen_da.py). -/
namespace Go.Proofs.YtomebalolmabnaaGreatDoor.T
open Go.RowKit
set_option maxRecDepth 8000
attribute [local irreducible] wpList Code.wp wpAnyH

theorem ways_n (c : CrT) (hc : c.Ok) (K : CV) (q : Nat) (w : World) (hK : Crw w c K q) : Calls Tryz.prog 70 #[.pointer (some ⟨q, 0, none⟩)] w fun e w' => e = .returned (.int .i64 ((c.n : Nat) : Int)) ∧ w = w' := by
 have hB := hK.blk
 have yhB := hB.lt
 have hS := hK.st
 have hln := hc.len
 have hrst := hc.rst
 have hdrv := hc.drv
 have hrd := hc.rd
 refine sx_enter Tryz.func70 rfl [(0, .pointer (some ⟨q, 0, none⟩))] (by kernel_rfl) ?_
 refine Yq (Zv rfl (.int .i64 0) (Yn (Yo (Yq (Zv rfl (pt q 0) (Zv rfl (pt q 0) (Zv rfl (pt q 17) (Zw rfl (.slice K.o2 c.S.length K.c2) (el (hB.cell 17 rfl) Tryz.underlying83) (Zv rfl (.int .i64 ((c.S.length : Nat) : Int)) (Zi rfl (IntKind.i64.wrap (((c.S.length : Nat) : Int) - 1)) (((c.n : Nat) : Int)) (by rw [IntKind.wrap_i64]; unfold CrT.n; omega) (Zv rfl (.int .i64 ((c.n : Nat) : Int)) (Yn (Yo (wp_ret ?_))))))))))))))
 exact sx_ret1 (.int .i64 ((c.n : Nat) : Int)) rfl rfl (by kernel_rfl) ⟨rfl, rfl⟩
theorem late_n (c : CrT) (hc : c.Ok) (K : CV) (q : Nat) (w : World) (hK : Crw w c K q) (k : Nat) (hk : k ≤ c.n) : Calls Tryz.prog 95 #[.pointer (some ⟨q, 0, none⟩), .int .i64 ((k : Nat) : Int)] w fun e w' => e = .returned (.int .i64 (c.late k)) ∧ w = w' := by
 have hB := hK.blk
 have yhB := hB.lt
 have hS := hK.st
 have hln := hc.len
 have hrst := hc.rst
 have hdrv := hc.drv
 have hrd := hc.rd
 refine sx_enter Tryz.func95 rfl [(0, .pointer (some ⟨q, 0, none⟩)), (1, .int .i64 ((k : Nat) : Int))] (by kernel_rfl) ?_
 refine Yq (Zv rfl (.int .i64 0) (Yn (Yo (Ys (Yq (Zv rfl (.int .i64 ((k : Nat) : Int)) (Zv rfl (pt q 0) ?_)))))))
 refine Zc rfl (ways_n c hc K q w hK) ?_
 rintro e w9 ⟨rfl, rfl⟩
 refine ⟨_, rfl, ?_⟩
 by_cases C1 : k = c.n
 ·refine Zb rfl ((((k : Nat) : Int) : Int) == (((c.n : Nat) : Int) : Int)) true (beq_iff_eq.2 (by omega)) (Yn (Yo (sx_true (by kernel_rfl) (Yq (Zv rfl (.int .i64 15) (Yn (Yo (wp_ret (sx_rs ?_)))))))))
  refine sx_ret1 (.int .i64 15) rfl rfl (by kernel_rfl) ⟨?_, rfl⟩
  unfold CrT.late
  rw [if_pos (by unfold CrT.n at *; omega)]
 refine Zb rfl ((((k : Nat) : Int) : Int) == (((c.n : Nat) : Int) : Int)) false (beq_eq_false_iff_ne.2 (by omega)) (Yn (Yo (sx_false (by kernel_rfl) (wp_skip (Yo (Yq (Zv rfl (.int .i64 14) (Yn (Yo (wp_ret ?_))))))))))
 refine sx_ret1 (.int .i64 14) rfl rfl (by kernel_rfl) ⟨?_, rfl⟩
 unfold CrT.late
 rw [if_neg (by unfold CrT.n at *; omega)]
theorem begin_n (p o cl se a : Int) (hoc : o ≤ cl) (w : World) : Calls Tryz.prog 48 #[.agg #[.int .i64 p, .int .i64 o, .int .i64 cl, .int .i64 se], .int .i64 a] w fun e w' => e = .returned (.tuple #[.int .i64 (if cl < a then 0 else if a < o then o else a), .int .i64 (if cl < a then 14 else 0)]) ∧ Below w.heap.size w w' := by
 have HB : Below w.heap.size w w := Below.refl _ _
 refine sx_enter Tryz.func48 rfl [(0, .agg #[.int .i64 p, .int .i64 o, .int .i64 cl, .int .i64 se]), (1, .int .i64 a)] (by kernel_rfl) ?_
 refine Yq ?_
 refine Za rfl #[.int .i64 p, .int .i64 o, .int .i64 cl, .int .i64 se] 76 (fun W1 hb M2 z1 yM2 => ?_)
 replace HB := over HB hb
 clear hb
 refine Zv rfl (.int .i64 0) (Zv rfl (.int .i64 0) (Yn (Yo (Yq (Zv rfl (.int .i64 a) (Zv rfl (pt w.heap.size 1) (Zw rfl (.int .i64 o) (el (M2.cell 1 rfl) Tryz.underlying3) (Zv rfl (.int .i64 (if a < o then o else a)) (Zv rfl (.int .i64 (if a < o then o else a)) (Yn (Yo (Ys (Yq (Zv rfl (.int .i64 (if a < o then o else a)) (Zv rfl (pt w.heap.size 2) (Zw rfl (.int .i64 cl) (el (M2.cell 2 rfl) Tryz.underlying3) ?_))))))))))))))))
 by_cases C1 : (if a < o then o else a) > cl
 ·refine Zb rfl (decide ((if a < o then o else a) > cl)) true (decide_eq_true (by omega)) (Yn (Yo (sx_true (by kernel_rfl) (Yq (Zv rfl (.int .i64 0) (Zv rfl (.int .i64 14) (Yn (Yo (wp_ret (sx_rs ?_))))))))))
  refine sx_ret2 (.int .i64 0) (.int .i64 14) rfl rfl rfl (by kernel_rfl) (by kernel_rfl) ⟨?_, HB⟩
  have h9 : cl < a := by split at *; all_goals omega
  rw [if_pos h9, if_pos h9]
 refine Zb rfl (decide ((if a < o then o else a) > cl)) false (decide_eq_false (by omega)) (Yn (Yo (sx_false (by kernel_rfl) (wp_skip (Yo (Yq (Zv rfl (.int .i64 (if a < o then o else a)) (Zv rfl (.int .i64 (if a < o then o else a)) (Zv rfl (.int .i64 0) (Yn (Yo (wp_ret ?_))))))))))))
 refine sx_ret2 (.int .i64 (if a < o then o else a)) (.int .i64 0) rfl rfl rfl (by kernel_rfl) (by kernel_rfl) ⟨?_, HB⟩
 have h9 : ¬ cl < a := by split at *; all_goals omega
 rw [if_neg h9, if_neg h9]

end Go.Proofs.YtomebalolmabnaaGreatDoor.T



