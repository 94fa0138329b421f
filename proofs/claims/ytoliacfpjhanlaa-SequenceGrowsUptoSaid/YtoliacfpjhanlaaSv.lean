/-
  DERIVED. Sv: a part of the base of layer 13 (made by pack.py).
-/
import Derived.Laws.Concat
import Derived.Deep.MidRow
import Derived.Test.YtoliacfpjhanlaaHT
/-! Walks by rules: rows of structs that are read, single cells that are written, shifts, results in cells. -/
namespace Go.Proofs.Ytoliacfpjhanlaa.T
open Go.RowKit
set_option maxRecDepth 8000

/-! ### rows that are read -/
/-- a slice of n elements of sz cells each at block b from o on; element k has the cells E k -/
def Rw (w : World) (b o sz : Nat) (E : Nat → List Value) (n : Nat) (oa : Option Addr) : Prop :=
  ∀ k, k < n → oa = some ⟨b, o, none⟩ ∧ b < w.heap.size ∧ ∀ (j : Nat) (v : Value), (E k)[j]? = some v → w.cell? ⟨b, o + k * sz + j, none⟩ = some v
theorem Rw.below {w w' : World} {b o sz : Nat} {E : Nat → List Value} {n : Nat} {oa : Option Addr} (h : Rw w b o sz E n oa) (hb : Below w.heap.size w w') : Rw w' b o sz E n oa := fun k hk => by
  obtain ⟨h1, h2, h3⟩ := h k hk
  exact ⟨h1, Nat.lt_of_lt_of_le h2 hb.size, fun j v hj => (hb.cell (p := ⟨b, _, none⟩) h2).trans (h3 j v hj)⟩
theorem Rw.cell {w : World} {b o sz : Nat} {E : Nat → List Value} {n : Nat} {oa : Option Addr} (h : Rw w b o sz E n oa) {k : Nat} (hk : k < n) (j : Nat) {v : Value} (hj : (E k)[j]? = some v) : w.cell? ⟨b, o + k * sz + j, none⟩ = some v := (h k hk).2.2 j v hj
theorem Rw.oa {w : World} {b o sz : Nat} {E : Nat → List Value} {n : Nat} {oa : Option Addr} (h : Rw w b o sz E n oa) {k : Nat} (hk : k < n) : oa = some ⟨b, o, none⟩ := (h k hk).1
theorem Rw.range {w : World} {b o sz : Nat} {E : Nat → List Value} {n : Nat} {oa : Option Addr} (h : Rw w b o sz E n oa) {k : Nat} (hk : k < n) : w.rangeAt b (o + k * sz) (E k) := fun j v hj => (h k hk).2.2 j v hj
theorem Rw.lt {w : World} {b o sz : Nat} {E : Nat → List Value} {n : Nat} {oa : Option Addr} (h : Rw w b o sz E n oa) {k : Nat} (hk : k < n) : b < w.heap.size := (h k hk).2.1
theorem Rw.kept {w w' : World} {b o sz g : Nat} {E : Nat → List Value} {n : Nat} {oa : Option Addr} (h : Rw w b o sz E n oa) (hg : w.grownBy w' (some g)) (hne : ∀ k, k < n → b ≠ g) : Rw w' b o sz E n oa := fun k hk => by
  obtain ⟨h1, h2, h3⟩ := h k hk
  have hb := hg.block b h2 (fun e => hne k hk (by simpa using e))
  exact ⟨h1, Nat.lt_of_lt_of_le h2 hg.size, fun j v hj => (World.cell?_of_block (w := w) (a := ⟨b, _, none⟩) hb).trans (h3 j v hj)⟩
/-- a slice of structs of two cells -/
theorem Sl.rw {α : Type} {E0 E1 : α → Value} {d : α} {w : World} {v : Value} {l : List α} (h : Sl E0 E1 d w v l) : ∃ oa c b o, v = .slice oa l.length c ∧ Rw w b o 2 (fun k => [E0 (l.getD k d), E1 (l.getD k d)]) l.length oa := by
  obtain ⟨oa, c, rfl, h⟩ := h
  cases l with
  | nil => exact ⟨oa, c, 0, 0, rfl, fun k hk => by cases hk⟩
  | cons x l =>
    obtain ⟨b, o, ha, -⟩ := h 0 (by simp)
    refine ⟨oa, c, b, o, rfl, fun k hk => ?_⟩
    obtain ⟨b', o', ha', hl, h0, h1⟩ := h k hk
    rw [ha] at ha'
    simp only [Option.some.injEq, Addr.mk.injEq, and_true] at ha'
    obtain ⟨rfl, rfl⟩ := ha'
    refine ⟨ha, hl, fun j v hj => ?_⟩
    match j, hj with
    | 0, hj => simp only [List.getElem?_cons_zero, Option.some.injEq] at hj; subst hj; exact h0
    | 1, hj => simp only [List.getElem?_cons_succ, List.getElem?_cons_zero, Option.some.injEq] at hj; subst hj; exact h1
    | j + 2, hj => simp at hj
theorem Sl.of_rw {α : Type} {E0 E1 : α → Value} {d : α} {w : World} {oa : Option Addr} {c b o : Nat} {l : List α} (h : Rw w b o 2 (fun k => [E0 (l.getD k d), E1 (l.getD k d)]) l.length oa) : Sl E0 E1 d w (.slice oa l.length c) l :=
  ⟨oa, c, rfl, fun _ hi => ⟨b, o, h.oa hi, h.lt hi, h.cell hi 0 rfl, h.cell hi 1 rfl⟩⟩
/-- a slice of ints -/
theorem Li.rw {w : World} {v : Value} {l : List Int} (h : L.Li w v l) : ∃ oa c b o, v = .slice oa l.length c ∧ (l = [] ∨ ∃ s, oa = some ⟨b, o, s⟩) := by
  obtain ⟨oa, c, rfl, h⟩ := h
  cases l with
  | nil => exact ⟨oa, c, 0, 0, rfl, .inl rfl⟩
  | cons x l =>
    obtain ⟨⟨b, o, s⟩, ha, -⟩ := h 0 (by simp)
    exact ⟨oa, c, b, o, rfl, .inr ⟨s, ha⟩⟩

section
variable {P : Program} {ops : Array Oper} {Q : Exit → Act → World → Prop} {rest : List Oper} {o : Oper} {n : Nat} {g : Nat → Value} {l : List (Nat × Value)} {w : World}
/-! ### answers -/
theorem ex_int (k : IntKind) (c b : Int) (hr : (execOp (ev n g l) o).run P w = .ok (.value (.int k c)) w) (hb : c = b) : (execOp (ev n g l) o).run P w = .ok (.value (.int k b)) w := hb ▸ hr
theorem ex_bool (c b : Bool) (hr : (execOp (ev n g l) o).run P w = .ok (.value (.bool c)) w) (hb : c = b) : (execOp (ev n g l) o).run P w = .ok (.value (.bool b)) w := hb ▸ hr
theorem ex_indexO {t : TypeId} {x y : Operand} (ho : o.op = .indexAddr t x y) {oa : Option Addr} {b q m c k s p : Nat} (hx : ev n g l x = .slice oa m c) (ha : oa = some ⟨b, q, none⟩) (hy : ev n g l y = .int .i64 k) {e : TypeId}
    (hu : P.underlying t = some (.slice e)) (hs : (P.info? e).map (·.size) = some s) (hk : k < m) (hp : q + k * s = p) : (execOp (ev n g l) o).run P w = .ok (.value (.pointer (some ⟨b, p, none⟩))) w := by
  subst ha
  exact ex_index ho b q m c k s p hx hy hu hs hk hp
theorem ex_loadR {ty : TypeId} {x : Operand} (ho : o.op = .load ty x) {b p : Nat} {cs : List Value} (hr : w.rangeAt b p cs) (hx : ev n g l x = .pointer (some ⟨b, p, none⟩)) {dd : TypeDesc}
    (hu : P.underlying ty = some dd) (hdd : dd.isRow = true) (hi : (P.info? ty).map (·.size) = some cs.length) : (execOp (ev n g l) o).run P w = .ok (.value (.agg cs.toArray)) w := by
  unfold execOp
  simp only [ho, hx, run_loadAt_mid w b p ty cs dd hr hu hdd hi, Sem.run_bind, Sem.run_pure, Result.andThen_ok]
theorem ex_shl {ty : TypeId} {x y : Operand} {ty2 : TypeId} (ho : o.op = .binOp .shl ty x y ty2)
    (yk : IntKind) (c : Int) (k : Nat) (v : Int) (hx : ev n g l x = .int .i64 c) (hy : ev n g l y = .int yk k) (hk : k ≤ 62) (hv : IntKind.i64.wrap (c * 2 ^ k) = v) : (execOp (ev n g l) o).run P w = .ok (.value (.int .i64 v)) w := by
  have h1 : ¬ ((k : Nat) : Int) < 0 := by omega
  have h2 : min k 64 = k := by omega
  unfold execOp
  simp only [ho, hx, hy, eqGuard, binOp, Op.shift, Sem.run_bind, Sem.run_pure]
  rw [if_neg h1]
  simp only [Int.toNat_natCast, IntKind.bits, h2, hv, Sem.run_pure]
  rfl
theorem ex_shr {ty : TypeId} {x y : Operand} {ty2 : TypeId} (ho : o.op = .binOp .shr ty x y ty2)
    (yk : IntKind) (c : Int) (k : Nat) (v : Int) (hx : ev n g l x = .int .i64 c) (hy : ev n g l y = .int yk k) (hk : k ≤ 62) (hv : c.fdiv (2 ^ k) = v) : (execOp (ev n g l) o).run P w = .ok (.value (.int .i64 v)) w := by
  have h1 : ¬ ((k : Nat) : Int) < 0 := by omega
  have h2 : min k 64 = k := by omega
  unfold execOp
  simp only [ho, hx, hy, eqGuard, binOp, Op.shift, Sem.run_bind, Sem.run_pure]
  rw [if_neg h1]
  simp only [Int.toNat_natCast, IntKind.bits, h2, hv, Sem.run_pure]
  rfl
/-- one cell of a known block -/
theorem ex_storeC {ty : TypeId} {x y : Operand} (ho : o.op = .store ty x y) {q k : Nat} {cs : Array Value} {t : TypeId} {v old : Value} (hg : Cb w q cs t) (hc : cs[k]? = some old) (hv : v.oneCell' = true) (hx : ev n g l x = .pointer (some ⟨q, k, none⟩)) (hy : ev n g l y = v)
    (hi : (P.info? ty).map (·.size) = some 1) : (execOp (ev n g l) o).run P w = .ok .skip (w.setCell ⟨q, k, none⟩ v) := ex_store1 ho (hg.cell k hc) (hg.f k) hv hx hy hi
theorem grown_set (w : World) (q k : Nat) (v : Value) : w.grownBy (w.setCell ⟨q, k, none⟩ v) (some q) := ⟨rfl, rfl, rfl, by simp [World.setCell], fun j hj hne => Below.heap_setCell _ _ _ _ (fun h => hne (by rw [h]))⟩
theorem sx_retc {fn : Func} {R : Ending → World → Prop} {t : Nat} {ty : TypeId} {q : Nat} {cs : Array Value} {tq : TypeId} {dd : TypeDesc} (hg : Cb w q cs tq) (hf : fn.results = #[.cell t ty]) (hk : Nat.blt t n = true) (hv : slotV g l t = .pointer (some ⟨q, 0, none⟩))
    (hu : P.underlying ty = some dd) (hdd : (match dd with | .struct _ | .array _ _ => true | _ => false) = true) (hi : (P.info? ty).map (·.size) = some cs.size) (hR : R (.returned (.agg cs)) w) : bodyPost P fn R .ret (fr n g l) w := by
  have hs : (fr n g l).tmps[t]?.getD undef = .pointer (some ⟨q, 0, none⟩) := by
    rw [← Array.getD_eq_getD_getElem?]
    exact (slot_get hk).trans hv
  have hrun := run_loadVar_row w q tq ty cs (0, 0) dd hg hu hdd hi
  refine bodyPost_ret (v := .agg cs) ?_ rfl hR
  unfold results
  simp only [hf]
  simp [hs, hrun, asAddr]
theorem sx_fall {fn : Func} {R : Ending → World → Prop} (hf : fn.results = #[]) (hR : R (.returned (.tuple #[])) w) : bodyPost P fn R .normal (fr n g l) w := by
  refine ⟨rfl, .tuple #[], ?_, hR⟩
  unfold results
  simp [hf]
theorem sx_ret0 {fn : Func} {R : Ending → World → Prop} (hf : fn.results = #[]) (hR : R (.returned (.tuple #[])) w) : bodyPost P fn R .ret (fr n g l) w := by
  refine ⟨rfl, .tuple #[], ?_, hR⟩
  unfold results
  simp [hf]
end
/-! ### visits are compared -/
theorem eqV (a b : Int) (c d : Bool) (w : World) : (Op.equalIn 10000 52 (.agg #[.int .i64 a, .bool c]) (.agg #[.int .i64 b, .bool d])).run Try.prog w = .ok (a == b && c == d) w := by
  have u3 := Try.underlying3
  have u4 := Try.underlying4
  have a3 := Try.isAgg3
  have z3 := Try.sizeOf3
  have a4 := Try.isAgg4
  have z4 := Try.sizeOf4
  have hS : Try.prog.underlying 52 = some (.struct (Try.prog.fieldsOf 52)) := by kernel_rfl
  have hp : Try.prog.stoodInHeld 52 = false := by kernel_rfl
  rw [show (10000 : Nat) = 9999 + 1 from rfl, run_equalIn_agg w 9999 52 _ _ hS hp]
  simp only [Program.fieldsOf, Try.underlying52]
  go_simp
  by_cases h1 : a = b <;> by_cases h2 : c = d <;> simp [h1, h2]
theorem ex_neqV {n : Nat} {g : Nat → Value} {l : List (Nat × Value)} {w : World} {o : Oper} {x y : Operand} {ty2 : TypeId} (ho : o.op = .binOp .neq 52 x y ty2) {a b : Int} {c d : Bool} (hx : ev n g l x = .agg #[.int .i64 a, .bool c]) (hy : ev n g l y = .agg #[.int .i64 b, .bool d]) :
    (execOp (ev n g l) o).run Try.prog w = .ok (.value (.bool (!(a == b && c == d)))) w := by
  unfold execOp
  simp only [ho, hx, hy, run_eqGuard_agg w .neq 52 x y _ _ (by kernel_rfl : Try.prog.eqGuardType Try.prog.depth 52 = false), Sem.run_bind, run_neq_struct, eqV, Result.andThen_ok, Sem.run_pure]
theorem ex_eqlV {n : Nat} {g : Nat → Value} {l : List (Nat × Value)} {w : World} {o : Oper} {x y : Operand} {ty2 : TypeId} (ho : o.op = .binOp .eql 52 x y ty2) {a b : Int} {c d : Bool} (hx : ev n g l x = .agg #[.int .i64 a, .bool c]) (hy : ev n g l y = .agg #[.int .i64 b, .bool d]) :
    (execOp (ev n g l) o).run Try.prog w = .ok (.value (.bool (a == b && c == d))) w := by
  unfold execOp
  simp only [ho, hx, hy, run_eqGuard_agg w .eql 52 x y _ _ (by kernel_rfl : Try.prog.eqGuardType Try.prog.depth 52 = false), Sem.run_bind, run_eql_struct, eqV, Result.andThen_ok, Sem.run_pure]
theorem eqv_t {a b : Int} {c d : Bool} (h : a = b ∧ c = d) : (a == b && c == d) = true := by rw [h.1, h.2]; simp
theorem eqv_f {a b : Int} {c d : Bool} (h : ¬ (a = b ∧ c = d)) : (a == b && c == d) = false := by
  cases h9 : (a == b && c == d)
  · rfl
  · rw [Bool.and_eq_true, beq_iff_eq, beq_iff_eq] at h9; exact absurd h9 h
end Go.Proofs.Ytoliacfpjhanlaa.T


