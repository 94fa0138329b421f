/-
  DERIVED. GA: a part of the base of layer 13 (made by pack.py).
-/
import Derived.Laws.Concat
import Derived.Deep.MidRow
import Derived.Test.YtoliacfpjhanlaaHS
import Derived.Test.YtoliacfpjhanlaaHO
/-! Walks by rules: rows of structs that are read, single cells that are written, shifts, results in cells. -/
namespace Go.Proofs.Ytoliacfpjhanlaa.T
open Go.RowKit
set_option maxRecDepth 8000

/-! ### rows that are read -/
/-- a slice of n elements of sz cells each at block b from o on; element k has the cells E k -/
def Rw (w : World) (b o sz : Nat) (E : Nat → List Value) (n : Nat) (oa : Option Addr) : Prop :=
  ∀ k, k < n → oa = some ⟨b, o, none⟩ ∧ b < w.heap.size ∧ ∀ (j : Nat) (v : Value), (E k)[j]? = some v → w.cell? ⟨b, o + k * sz + j, none⟩ = some v
theorem Rw.below {w w' : World} {b o sz : Nat} {E : Nat → List Value} {n : Nat} {oa : Option Addr} (h : Rw w b o sz E n oa) (hb : Below w.heap.size w w') : Rw w' b o sz E n oa := fun k hk => by
  obtain ⟨h1, h2, h3⟩ := h k hk
  exact ⟨h1, Nat.lt_of_lt_of_le h2 hb.size, fun j v hj => (hb.cell (p := ⟨b, _, none⟩) h2).trans (h3 j v hj)⟩
theorem Rw.cell {w : World} {b o sz : Nat} {E : Nat → List Value} {n : Nat} {oa : Option Addr} (h : Rw w b o sz E n oa) {k : Nat} (hk : k < n) (j : Nat) {v : Value} (hj : (E k)[j]? = some v) : w.cell? ⟨b, o + k * sz + j, none⟩ = some v := (h k hk).2.2 j v hj
theorem Rw.oa {w : World} {b o sz : Nat} {E : Nat → List Value} {n : Nat} {oa : Option Addr} (h : Rw w b o sz E n oa) {k : Nat} (hk : k < n) : oa = some ⟨b, o, none⟩ := (h k hk).1
theorem Rw.range {w : World} {b o sz : Nat} {E : Nat → List Value} {n : Nat} {oa : Option Addr} (h : Rw w b o sz E n oa) {k : Nat} (hk : k < n) : w.rangeAt b (o + k * sz) (E k) := fun j v hj => (h k hk).2.2 j v hj
theorem Rw.lt {w : World} {b o sz : Nat} {E : Nat → List Value} {n : Nat} {oa : Option Addr} (h : Rw w b o sz E n oa) {k : Nat} (hk : k < n) : b < w.heap.size := (h k hk).2.1
theorem Rw.kept {w w' : World} {b o sz g : Nat} {E : Nat → List Value} {n : Nat} {oa : Option Addr} (h : Rw w b o sz E n oa) (hg : w.grownBy w' (some g)) (hne : ∀ k, k < n → b ≠ g) : Rw w' b o sz E n oa := fun k hk => by
  obtain ⟨h1, h2, h3⟩ := h k hk
  have hb := hg.block b h2 (fun e => hne k hk (by simpa using e))
  exact ⟨h1, Nat.lt_of_lt_of_le h2 hg.size, fun j v hj => (World.cell?_of_block (w := w) (a := ⟨b, _, none⟩) hb).trans (h3 j v hj)⟩
/-- a slice of structs of two cells -/
theorem Sl.rw {α : Type} {E0 E1 : α → Value} {d : α} {w : World} {v : Value} {l : List α} (h : Sl E0 E1 d w v l) : ∃ oa c b o, v = .slice oa l.length c ∧ Rw w b o 2 (fun k => [E0 (l.getD k d), E1 (l.getD k d)]) l.length oa := by
  obtain ⟨oa, c, rfl, h⟩ := h
  cases l with
  | nil => exact ⟨oa, c, 0, 0, rfl, fun k hk => by cases hk⟩
  | cons x l =>
    obtain ⟨b, o, ha, -⟩ := h 0 (by simp)
    refine ⟨oa, c, b, o, rfl, fun k hk => ?_⟩
    obtain ⟨b', o', ha', hl, h0, h1⟩ := h k hk
    rw [ha] at ha'
    simp only [Option.some.injEq, Addr.mk.injEq, and_true] at ha'
    obtain ⟨rfl, rfl⟩ := ha'
    refine ⟨ha, hl, fun j v hj => ?_⟩
    match j, hj with
    | 0, hj => simp only [List.getElem?_cons_zero, Option.some.injEq] at hj; subst hj; exact h0
    | 1, hj => simp only [List.getElem?_cons_succ, List.getElem?_cons_zero, Option.some.injEq] at hj; subst hj; exact h1
    | j + 2, hj => simp at hj
theorem Sl.of_rw {α : Type} {E0 E1 : α → Value} {d : α} {w : World} {oa : Option Addr} {c b o : Nat} {l : List α} (h : Rw w b o 2 (fun k => [E0 (l.getD k d), E1 (l.getD k d)]) l.length oa) : Sl E0 E1 d w (.slice oa l.length c) l :=
  ⟨oa, c, rfl, fun _ hi => ⟨b, o, h.oa hi, h.lt hi, h.cell hi 0 rfl, h.cell hi 1 rfl⟩⟩
/-- a slice of ints -/
theorem Li.rw {w : World} {v : Value} {l : List Int} (h : L.Li w v l) : ∃ oa c b o, v = .slice oa l.length c ∧ (l = [] ∨ ∃ s, oa = some ⟨b, o, s⟩) := by
  obtain ⟨oa, c, rfl, h⟩ := h
  cases l with
  | nil => exact ⟨oa, c, 0, 0, rfl, .inl rfl⟩
  | cons x l =>
    obtain ⟨⟨b, o, s⟩, ha, -⟩ := h 0 (by simp)
    exact ⟨oa, c, b, o, rfl, .inr ⟨s, ha⟩⟩

section
variable {P : Program} {ops : Array Oper} {Q : Exit → Act → World → Prop} {rest : List Oper} {o : Oper} {n : Nat} {g : Nat → Value} {l : List (Nat × Value)} {w : World}
/-! ### answers -/
theorem ex_int (k : IntKind) (c b : Int) (hr : (execOp (ev n g l) o).run P w = .ok (.value (.int k c)) w) (hb : c = b) : (execOp (ev n g l) o).run P w = .ok (.value (.int k b)) w := hb ▸ hr
theorem ex_bool (c b : Bool) (hr : (execOp (ev n g l) o).run P w = .ok (.value (.bool c)) w) (hb : c = b) : (execOp (ev n g l) o).run P w = .ok (.value (.bool b)) w := hb ▸ hr
theorem ex_indexO {t : TypeId} {x y : Operand} (ho : o.op = .indexAddr t x y) {oa : Option Addr} {b q m c k s p : Nat} (hx : ev n g l x = .slice oa m c) (ha : oa = some ⟨b, q, none⟩) (hy : ev n g l y = .int .i64 k) {e : TypeId}
    (hu : P.underlying t = some (.slice e)) (hs : (P.info? e).map (·.size) = some s) (hk : k < m) (hp : q + k * s = p) : (execOp (ev n g l) o).run P w = .ok (.value (.pointer (some ⟨b, p, none⟩))) w := by
  subst ha
  exact ex_index ho b q m c k s p hx hy hu hs hk hp
theorem ex_loadR {ty : TypeId} {x : Operand} (ho : o.op = .load ty x) {b p : Nat} {cs : List Value} (hr : w.rangeAt b p cs) (hx : ev n g l x = .pointer (some ⟨b, p, none⟩)) {dd : TypeDesc}
    (hu : P.underlying ty = some dd) (hdd : dd.isRow = true) (hi : (P.info? ty).map (·.size) = some cs.length) : (execOp (ev n g l) o).run P w = .ok (.value (.agg cs.toArray)) w := by
  unfold execOp
  simp only [ho, hx, run_loadAt_mid w b p ty cs dd hr hu hdd hi, Sem.run_bind, Sem.run_pure, Result.andThen_ok]
theorem ex_shl {ty : TypeId} {x y : Operand} {ty2 : TypeId} (ho : o.op = .binOp .shl ty x y ty2)
    (yk : IntKind) (c : Int) (k : Nat) (v : Int) (hx : ev n g l x = .int .i64 c) (hy : ev n g l y = .int yk k) (hk : k ≤ 62) (hv : IntKind.i64.wrap (c * 2 ^ k) = v) : (execOp (ev n g l) o).run P w = .ok (.value (.int .i64 v)) w := by
  have h1 : ¬ ((k : Nat) : Int) < 0 := by omega
  have h2 : min k 64 = k := by omega
  unfold execOp
  simp only [ho, hx, hy, eqGuard, binOp, Op.shift, Sem.run_bind, Sem.run_pure]
  rw [if_neg h1]
  simp only [Int.toNat_natCast, IntKind.bits, h2, hv, Sem.run_pure]
  rfl
theorem ex_shr {ty : TypeId} {x y : Operand} {ty2 : TypeId} (ho : o.op = .binOp .shr ty x y ty2)
    (yk : IntKind) (c : Int) (k : Nat) (v : Int) (hx : ev n g l x = .int .i64 c) (hy : ev n g l y = .int yk k) (hk : k ≤ 62) (hv : c.fdiv (2 ^ k) = v) : (execOp (ev n g l) o).run P w = .ok (.value (.int .i64 v)) w := by
  have h1 : ¬ ((k : Nat) : Int) < 0 := by omega
  have h2 : min k 64 = k := by omega
  unfold execOp
  simp only [ho, hx, hy, eqGuard, binOp, Op.shift, Sem.run_bind, Sem.run_pure]
  rw [if_neg h1]
  simp only [Int.toNat_natCast, IntKind.bits, h2, hv, Sem.run_pure]
  rfl
/-- one cell of a known block -/
theorem ex_storeC {ty : TypeId} {x y : Operand} (ho : o.op = .store ty x y) {q k : Nat} {cs : Array Value} {t : TypeId} {v old : Value} (hg : Cb w q cs t) (hc : cs[k]? = some old) (hv : v.oneCell' = true) (hx : ev n g l x = .pointer (some ⟨q, k, none⟩)) (hy : ev n g l y = v)
    (hi : (P.info? ty).map (·.size) = some 1) : (execOp (ev n g l) o).run P w = .ok .skip (w.setCell ⟨q, k, none⟩ v) := ex_store1 ho (hg.cell k hc) (hg.f k) hv hx hy hi
theorem grown_set (w : World) (q k : Nat) (v : Value) : w.grownBy (w.setCell ⟨q, k, none⟩ v) (some q) := ⟨rfl, rfl, rfl, by simp [World.setCell], fun j hj hne => Below.heap_setCell _ _ _ _ (fun h => hne (by rw [h]))⟩
theorem sx_retc {fn : Func} {R : Ending → World → Prop} {t : Nat} {ty : TypeId} {q : Nat} {cs : Array Value} {tq : TypeId} {dd : TypeDesc} (hg : Cb w q cs tq) (hf : fn.results = #[.cell t ty]) (hk : Nat.blt t n = true) (hv : slotV g l t = .pointer (some ⟨q, 0, none⟩))
    (hu : P.underlying ty = some dd) (hdd : (match dd with | .struct _ | .array _ _ => true | _ => false) = true) (hi : (P.info? ty).map (·.size) = some cs.size) (hR : R (.returned (.agg cs)) w) : bodyPost P fn R .ret (fr n g l) w := by
  have hs : (fr n g l).tmps[t]?.getD undef = .pointer (some ⟨q, 0, none⟩) := by
    rw [← Array.getD_eq_getD_getElem?]
    exact (slot_get hk).trans hv
  have hrun := run_loadVar_row w q tq ty cs (0, 0) dd hg hu hdd hi
  refine bodyPost_ret (v := .agg cs) ?_ rfl hR
  unfold results
  simp only [hf]
  simp [hs, hrun, asAddr]
theorem sx_fall {fn : Func} {R : Ending → World → Prop} (hf : fn.results = #[]) (hR : R (.returned (.tuple #[])) w) : bodyPost P fn R .normal (fr n g l) w := by
  refine ⟨rfl, .tuple #[], ?_, hR⟩
  unfold results
  simp [hf]
theorem sx_ret0 {fn : Func} {R : Ending → World → Prop} (hf : fn.results = #[]) (hR : R (.returned (.tuple #[])) w) : bodyPost P fn R .ret (fr n g l) w := by
  refine ⟨rfl, .tuple #[], ?_, hR⟩
  unfold results
  simp [hf]
end
/-! ### visits are compared -/
theorem eqV (a b : Int) (c d : Bool) (w : World) : (Op.equalIn 10000 52 (.agg #[.int .i64 a, .bool c]) (.agg #[.int .i64 b, .bool d])).run Try.prog w = .ok (a == b && c == d) w := by
  have u3 := Try.underlying3
  have u4 := Try.underlying4
  have a3 := Try.isAgg3
  have z3 := Try.sizeOf3
  have a4 := Try.isAgg4
  have z4 := Try.sizeOf4
  have hS : Try.prog.underlying 52 = some (.struct (Try.prog.fieldsOf 52)) := by kernel_rfl
  have hp : Try.prog.stoodInHeld 52 = false := by kernel_rfl
  rw [show (10000 : Nat) = 9999 + 1 from rfl, run_equalIn_agg w 9999 52 _ _ hS hp]
  simp only [Program.fieldsOf, Try.underlying52]
  go_simp
  by_cases h1 : a = b <;> by_cases h2 : c = d <;> simp [h1, h2]
theorem ex_neqV {n : Nat} {g : Nat → Value} {l : List (Nat × Value)} {w : World} {o : Oper} {x y : Operand} {ty2 : TypeId} (ho : o.op = .binOp .neq 52 x y ty2) {a b : Int} {c d : Bool} (hx : ev n g l x = .agg #[.int .i64 a, .bool c]) (hy : ev n g l y = .agg #[.int .i64 b, .bool d]) :
    (execOp (ev n g l) o).run Try.prog w = .ok (.value (.bool (!(a == b && c == d)))) w := by
  unfold execOp
  simp only [ho, hx, hy, run_eqGuard_agg w .neq 52 x y _ _ (by kernel_rfl : Try.prog.eqGuardType Try.prog.depth 52 = false), Sem.run_bind, run_neq_struct, eqV, Result.andThen_ok, Sem.run_pure]
theorem ex_eqlV {n : Nat} {g : Nat → Value} {l : List (Nat × Value)} {w : World} {o : Oper} {x y : Operand} {ty2 : TypeId} (ho : o.op = .binOp .eql 52 x y ty2) {a b : Int} {c d : Bool} (hx : ev n g l x = .agg #[.int .i64 a, .bool c]) (hy : ev n g l y = .agg #[.int .i64 b, .bool d]) :
    (execOp (ev n g l) o).run Try.prog w = .ok (.value (.bool (a == b && c == d))) w := by
  unfold execOp
  simp only [ho, hx, hy, run_eqGuard_agg w .eql 52 x y _ _ (by kernel_rfl : Try.prog.eqGuardType Try.prog.depth 52 = false), Sem.run_bind, run_eql_struct, eqV, Result.andThen_ok, Sem.run_pure]
theorem eqv_t {a b : Int} {c d : Bool} (h : a = b ∧ c = d) : (a == b && c == d) = true := by rw [h.1, h.2]; simp
theorem eqv_f {a b : Int} {c d : Bool} (h : ¬ (a = b ∧ c = d)) : (a == b && c == d) = false := by
  cases h9 : (a == b && c == d)
  · rfl
  · rw [Bool.and_eq_true, beq_iff_eq, beq_iff_eq] at h9; exact absurd h9 h
end Go.Proofs.Ytoliacfpjhanlaa.T


/-! Small functions of sequence and of its specification (by gen_sa.py). -/
namespace Go.Proofs.Ytoliacfpjhanlaa.T
open Go.RowKit
set_option maxRecDepth 8000
attribute [local irreducible] wpList Code.wp wpAnyH

def num62 (n : Int) : Bool := decide (0 ≤ n) && decide (n ≤ 62)
/-- bit k of a number of any sign -/
def hasZ (z : Int) (k : Nat) : Bool := decide (z / 2 ^ k % 2 = 1)
theorem and_one (x : Int) : bits .and .i64 x 1 = x % 2 := by
  rw [S.b_and]
  have h : ((1 : Int) % 18446744073709551616).toNat = 1 := by decide
  rw [h, Nat.and_one_is_mod, IntKind.wrap_i64]
  omega
theorem and_one_eq (z : Int) (k : Nat) : (bits .and .i64 (z.fdiv (2 ^ k)) 1 == 1) = hasZ z k := by
  have hp : (0 : Int) ≤ 2 ^ k := Int.le_of_lt (Int.pow_pos (by decide))
  rw [Int.fdiv_eq_ediv_of_nonneg _ hp, and_one, hasZ]
  by_cases h : z / 2 ^ k % 2 = 1 <;> simp [h]
theorem isNumber_n (n : Int) (w : World) : Calls Try.prog 45 #[.int .i64 n] w fun e w' => e = .returned (.bool (num62 n)) ∧ w = w' := by
  refine sx_enter Try.func45 rfl [(0, .int .i64 n)] (by kernel_rfl) ?_
  refine wp_seq ?_
  refine wp_region_lit ?_
  refine sx_val (by kernel_rfl) rfl rfl (.bool false) (by kernel_rfl) ?_
  refine wpList_nil ?_
  refine sx_norm ?_
  refine wp_seq ?_
  refine wp_region_lit ?_
  refine sx_val (by kernel_rfl) rfl rfl (.int .i64 n) (by kernel_rfl) ?_
  by_cases C1 : 0 ≤ n
  · refine sx_bool (by kernel_rfl) rfl rfl (decide (0 ≤ n)) true (by kernel_rfl) (decide_eq_true (by omega)) ?_
    refine sx_val (by kernel_rfl) rfl rfl (.bool true) (by kernel_rfl) ?_
    refine sx_val (by kernel_rfl) rfl rfl (.int .i64 n) (by kernel_rfl) ?_
    by_cases C2 : n ≤ 62
    · refine sx_bool (by kernel_rfl) rfl rfl (decide (n ≤ 62)) true (by kernel_rfl) (decide_eq_true (by omega)) ?_
      refine sx_val (by kernel_rfl) rfl rfl (.bool true) (by kernel_rfl) ?_
      refine sx_val (by kernel_rfl) rfl rfl (.bool true) (by kernel_rfl) ?_
      refine wpList_nil ?_
      refine sx_norm ?_
      refine wp_ret ?_
      exact sx_ret1 (.bool true) rfl rfl (by kernel_rfl) ⟨ret_bool (by unfold num62; simp; try omega), rfl⟩
    refine sx_bool (by kernel_rfl) rfl rfl (decide (n ≤ 62)) false (by kernel_rfl) (decide_eq_false (by omega)) ?_
    refine sx_val (by kernel_rfl) rfl rfl (.bool false) (by kernel_rfl) ?_
    refine sx_val (by kernel_rfl) rfl rfl (.bool false) (by kernel_rfl) ?_
    refine wpList_nil ?_
    refine sx_norm ?_
    refine wp_ret ?_
    exact sx_ret1 (.bool false) rfl rfl (by kernel_rfl) ⟨ret_bool (by unfold num62; simp; try omega), rfl⟩
  refine sx_bool (by kernel_rfl) rfl rfl (decide (0 ≤ n)) false (by kernel_rfl) (decide_eq_false (by omega)) ?_
  refine sx_val (by kernel_rfl) rfl rfl (.bool false) (by kernel_rfl) ?_
  refine sx_skip (by kernel_rfl) rfl rfl ?_
  refine sx_skip (by kernel_rfl) rfl rfl ?_
  refine sx_val (by kernel_rfl) rfl rfl (.bool false) (by kernel_rfl) ?_
  refine sx_val (by kernel_rfl) rfl rfl (.bool false) (by kernel_rfl) ?_
  refine wpList_nil ?_
  refine sx_norm ?_
  refine wp_ret ?_
  exact sx_ret1 (.bool false) rfl rfl (by kernel_rfl) ⟨ret_bool (by unfold num62; simp; try omega), rfl⟩
theorem seqHas_n (z : Int) (k : Nat) (hk : k ≤ 62) (w : World) : Calls Try.prog 72 #[.int .i64 z, .int .i64 ((k : Nat) : Int)] w fun e w' => e = .returned (.bool (hasZ z k)) ∧ w = w' := by
  refine sx_enter Try.func72 rfl [(0, .int .i64 z), (1, .int .i64 ((k : Nat) : Int))] (by kernel_rfl) ?_
  refine wp_seq ?_
  refine wp_region_lit ?_
  refine sx_val (by kernel_rfl) rfl rfl (.bool false) (by kernel_rfl) ?_
  refine wpList_nil ?_
  refine sx_norm ?_
  refine wp_seq ?_
  refine wp_region_lit ?_
  refine sx_val (by kernel_rfl) rfl rfl (.int .i64 z) (by kernel_rfl) ?_
  refine sx_val (by kernel_rfl) rfl rfl (.int .i64 ((k : Nat) : Int)) (by kernel_rfl) ?_
  refine sx_val (by kernel_rfl) rfl rfl (.int .i64 (z.fdiv (2 ^ k))) (ex_shr rfl .i64 z k (z.fdiv (2 ^ k)) (by kernel_rfl) (by kernel_rfl) hk rfl) ?_
  refine sx_val (by kernel_rfl) rfl rfl (.int .i64 (bits .and .i64 (z.fdiv (2 ^ k)) 1)) (by kernel_rfl) ?_
  refine sx_val (by kernel_rfl) rfl rfl (.bool (((bits .and .i64 (z.fdiv (2 ^ k)) 1) : Int) == (1 : Int))) (by kernel_rfl) ?_
  refine sx_val (by kernel_rfl) rfl rfl (.bool (((bits .and .i64 (z.fdiv (2 ^ k)) 1) : Int) == (1 : Int))) (by kernel_rfl) ?_
  refine wpList_nil ?_
  refine sx_norm ?_
  refine wp_ret ?_
  exact sx_ret1 (.bool (((bits .and .i64 (z.fdiv (2 ^ k)) 1) : Int) == (1 : Int))) rfl rfl (by kernel_rfl) ⟨ret_bool (and_one_eq z k), rfl⟩
def hasR (z i : Int) : Bool := decide (0 ≤ z) && (num62 i && hasZ z i.toNat)
end Go.Proofs.Ytoliacfpjhanlaa.T


/-! Visits are compared (by gen_sb.py). -/
namespace Go.Proofs.Ytoliacfpjhanlaa.T
open Go.RowKit
set_option maxRecDepth 8000
attribute [local irreducible] wpList Code.wp wpAnyH

def cmpV (v u : Int × Bool) : Int := if v.1 < u.1 then -1 else if u.1 < v.1 then 1 else if v.2 = u.2 then 0 else if u.2 then -1 else 1
theorem cmpInt_n (x y : Int) (w : World) : Calls Try.prog 73 #[.int .i64 x, .int .i64 y] w fun e w' => e = .returned (.int .i64 (if x < y then -1 else if y < x then 1 else 0)) ∧ w = w' := by
  refine (Try.cmp_Compare_int x y w).mono ?_
  rintro e w' ⟨he, hw⟩
  refine ⟨?_, hw.symm⟩
  rw [he]
  unfold Lib.compareInt
  rfl
theorem compare_n (v u : Int × Bool) (w : World) : Calls Try.prog 49 #[.agg #[.int .i64 v.1, .bool v.2], .agg #[.int .i64 u.1, .bool u.2]] w fun e w' => e = .returned (.int .i64 (cmpV v u)) ∧ Below w.heap.size w w' := by
  have HB : Below w.heap.size w w := Below.refl _ _
  refine sx_enter Try.func49 rfl [(0, .agg #[.int .i64 v.1, .bool v.2]), (1, .agg #[.int .i64 u.1, .bool u.2])] (by kernel_rfl) ?_
  refine wp_seq ?_
  refine wp_region_lit ?_
  obtain ⟨W1, hW⟩ : ∃ W, w.alloc (.cells #[.int .i64 v.1, .bool v.2] 52) = W := ⟨_, rfl⟩
  have hb := hW ▸ below_alloc w (.cells #[.int .i64 v.1, .bool v.2] 52)
  have hq : Cb W1 w.heap.size #[.int .i64 v.1, .bool v.2] 52 := hW ▸ Cb.made w #[.int .i64 v.1, .bool v.2] 52
  refine sx_mem (by kernel_rfl) rfl rfl (.pointer (some ⟨w.heap.size, 0, none⟩)) W1 (by rw [← hW]; kernel_rfl) ?_
  replace HB := over HB hb
  have z1 := hb.size
  have M2 := hq
  have yM2 := hq.lt
  clear hq hb hW
  obtain ⟨W3, hW⟩ : ∃ W, W1.alloc (.cells #[.int .i64 u.1, .bool u.2] 52) = W := ⟨_, rfl⟩
  have hb := hW ▸ below_alloc W1 (.cells #[.int .i64 u.1, .bool u.2] 52)
  have hq : Cb W3 W1.heap.size #[.int .i64 u.1, .bool u.2] 52 := hW ▸ Cb.made W1 #[.int .i64 u.1, .bool u.2] 52
  refine sx_mem (by kernel_rfl) rfl rfl (.pointer (some ⟨W1.heap.size, 0, none⟩)) W3 (by rw [← hW]; kernel_rfl) ?_
  replace HB := over HB hb
  replace M2 := M2.below hb
  have z2 := hb.size
  have M4 := hq
  have yM4 := hq.lt
  clear hq hb hW
  refine sx_val (by kernel_rfl) rfl rfl (.int .i64 0) (by kernel_rfl) ?_
  refine wpList_nil ?_
  refine sx_norm ?_
  refine wp_seq ?_
  refine wp_block ?_
  refine wp_seq ?_
  refine wp_region_lit ?_
  refine sx_val (by kernel_rfl) rfl rfl (.pointer (some ⟨w.heap.size, 0, none⟩)) (by kernel_rfl) ?_
  refine sx_val (by kernel_rfl) rfl rfl (.int .i64 v.1) (ex_load1 rfl (M2.cell 0 rfl) (by kernel_rfl) Try.underlying3 rfl) ?_
  refine sx_val (by kernel_rfl) rfl rfl (.pointer (some ⟨W1.heap.size, 0, none⟩)) (by kernel_rfl) ?_
  refine sx_val (by kernel_rfl) rfl rfl (.int .i64 u.1) (ex_load1 rfl (M4.cell 0 rfl) (by kernel_rfl) Try.underlying3 rfl) ?_
  by_cases C1 : v.1 = u.1
  · refine sx_bool (by kernel_rfl) rfl rfl ((v.1 : Int) != (u.1 : Int)) false (by kernel_rfl) (by rw [bne_eq_false_iff_eq]; omega) ?_
    refine sx_val (by kernel_rfl) rfl rfl (.bool false) (by kernel_rfl) ?_
    refine wpList_nil ?_
    refine sx_norm ?_
    refine sx_false (by kernel_rfl) ?_
    refine wp_seq ?_
    refine wp_region_lit ?_
    refine sx_val (by kernel_rfl) rfl rfl (.pointer (some ⟨w.heap.size, 1, none⟩)) (by kernel_rfl) ?_
    refine sx_val (by kernel_rfl) rfl rfl (.bool v.2) (ex_load1 rfl (M2.cell 1 rfl) (by kernel_rfl) Try.underlying4 rfl) ?_
    refine sx_val (by kernel_rfl) rfl rfl (.pointer (some ⟨W1.heap.size, 1, none⟩)) (by kernel_rfl) ?_
    refine sx_val (by kernel_rfl) rfl rfl (.bool u.2) (ex_load1 rfl (M4.cell 1 rfl) (by kernel_rfl) Try.underlying4 rfl) ?_
    by_cases C2 : v.2 = u.2
    · refine sx_bool (by kernel_rfl) rfl rfl ((v.2 == u.2)) true (by kernel_rfl) (by simp [C2]) ?_
      refine sx_val (by kernel_rfl) rfl rfl (.bool true) (by kernel_rfl) ?_
      refine wpList_nil ?_
      refine sx_norm ?_
      refine sx_true (by kernel_rfl) ?_
      refine wp_seq ?_
      refine wp_region_lit ?_
      refine sx_val (by kernel_rfl) rfl rfl (.int .i64 0) (by kernel_rfl) ?_
      refine wpList_nil ?_
      refine sx_norm ?_
      refine wp_ret ?_
      refine sx_rb ?_
      refine sx_rs ?_
      exact sx_ret1 (.int .i64 0) rfl rfl (by kernel_rfl) ⟨ret_int (by unfold cmpV; split <;> simp_all <;> omega), HB⟩
    refine sx_bool (by kernel_rfl) rfl rfl ((v.2 == u.2)) false (by kernel_rfl) (by simp [C2]) ?_
    refine sx_val (by kernel_rfl) rfl rfl (.bool false) (by kernel_rfl) ?_
    refine wpList_nil ?_
    refine sx_norm ?_
    refine sx_false (by kernel_rfl) ?_
    refine wp_seq ?_
    refine wp_region_lit ?_
    refine sx_val (by kernel_rfl) rfl rfl (.pointer (some ⟨W1.heap.size, 1, none⟩)) (by kernel_rfl) ?_
    by_cases C3 : u.2 = true
    · refine sx_val (by kernel_rfl) rfl rfl (.bool true) (ex_load1 (v := .bool true) rfl (by have h8 := M4.cell 1 rfl; rw [show u.2 = true by simpa using C3] at h8; exact h8) (by kernel_rfl) Try.underlying4 rfl) ?_
      refine sx_val (by kernel_rfl) rfl rfl (.bool true) (by kernel_rfl) ?_
      refine wpList_nil ?_
      refine sx_norm ?_
      refine sx_true (by kernel_rfl) ?_
      refine wp_seq ?_
      refine wp_region_lit ?_
      refine sx_val (by kernel_rfl) rfl rfl (.int .i64 (-1)) (by kernel_rfl) ?_
      refine wpList_nil ?_
      refine sx_norm ?_
      refine wp_ret ?_
      refine sx_rb ?_
      refine sx_rs ?_
      exact sx_ret1 (.int .i64 (-1)) rfl rfl (by kernel_rfl) ⟨ret_int (by unfold cmpV; split <;> simp_all <;> omega), HB⟩
    refine sx_val (by kernel_rfl) rfl rfl (.bool false) (ex_load1 (v := .bool false) rfl (by have h8 := M4.cell 1 rfl; rw [show u.2 = false by simpa using C3] at h8; exact h8) (by kernel_rfl) Try.underlying4 rfl) ?_
    refine sx_val (by kernel_rfl) rfl rfl (.bool false) (by kernel_rfl) ?_
    refine wpList_nil ?_
    refine sx_norm ?_
    refine sx_false (by kernel_rfl) ?_
    refine wp_skip ?_
    refine sx_in ?_
    refine sx_norm ?_
    refine wp_seq ?_
    refine wp_region_lit ?_
    refine sx_val (by kernel_rfl) rfl rfl (.int .i64 1) (by kernel_rfl) ?_
    refine wpList_nil ?_
    refine sx_norm ?_
    refine wp_ret ?_
    exact sx_ret1 (.int .i64 1) rfl rfl (by kernel_rfl) ⟨ret_int (by unfold cmpV; split <;> simp_all <;> omega), HB⟩
  refine sx_bool (by kernel_rfl) rfl rfl ((v.1 : Int) != (u.1 : Int)) true (by kernel_rfl) (bne_iff_ne.2 (by omega)) ?_
  refine sx_val (by kernel_rfl) rfl rfl (.bool true) (by kernel_rfl) ?_
  refine wpList_nil ?_
  refine sx_norm ?_
  refine sx_true (by kernel_rfl) ?_
  refine wp_seq ?_
  refine wp_region_lit ?_
  refine sx_val (by kernel_rfl) rfl rfl (.pointer (some ⟨w.heap.size, 0, none⟩)) (by kernel_rfl) ?_
  refine sx_val (by kernel_rfl) rfl rfl (.int .i64 v.1) (ex_load1 rfl (M2.cell 0 rfl) (by kernel_rfl) Try.underlying3 rfl) ?_
  refine sx_val (by kernel_rfl) rfl rfl (.pointer (some ⟨W1.heap.size, 0, none⟩)) (by kernel_rfl) ?_
  refine sx_val (by kernel_rfl) rfl rfl (.int .i64 u.1) (ex_load1 rfl (M4.cell 0 rfl) (by kernel_rfl) Try.underlying3 rfl) ?_
  refine sx_call (by kernel_rfl) rfl rfl (cmpInt_n (v.1) (u.1) W3) (by kernel_rfl) ?_
  rintro e w9 ⟨rfl, rfl⟩
  refine ⟨_, rfl, ?_⟩
  refine sx_val (by kernel_rfl) rfl rfl (.int .i64 (if v.1 < u.1 then -1 else if u.1 < v.1 then 1 else 0)) (by kernel_rfl) ?_
  refine wpList_nil ?_
  refine sx_norm ?_
  refine wp_ret ?_
  refine sx_rb ?_
  refine sx_rs ?_
  exact sx_ret1 (.int .i64 (if v.1 < u.1 then -1 else if u.1 < v.1 then 1 else 0)) rfl rfl (by kernel_rfl) ⟨ret_int (by unfold cmpV; split <;> simp_all <;> omega), HB⟩
end Go.Proofs.Ytoliacfpjhanlaa.T


/-! Orders, Less, Same, of sequence and of its specification (by gen_sc.py). -/
namespace Go.Proofs.Ytoliacfpjhanlaa.T
open Go.RowKit
set_option maxRecDepth 8000
attribute [local irreducible] wpList Code.wp wpAnyH

def vF (l : List (Int × Bool)) (k : Nat) : List Value := [vE (l.getD k (0, false)), vA (l.getD k (0, false))]
theorem Vs.rw {w : World} {v : Value} {l : List (Int × Bool)} (h : Vs w v l) : ∃ oa c b o, v = .slice oa l.length c ∧ Rw w b o 2 (vF l) l.length oa := Sl.rw h
/-! ### the orders of visits -/
def ordK (l : List (Int × Bool)) (j : Nat) : Nat := (l.take j).foldl (fun m v => m ||| 2 ^ v.1.toNat) 0
def ordB (l : List (Int × Bool)) : Bool := l.all fun v => num62 v.1
def ordN (l : List (Int × Bool)) : Int := if ordB l then (ordK l l.length : Nat) else 0
def ordE (l : List (Int × Bool)) : Int := if ordB l then 0 else 2
theorem ordK_more {l : List (Int × Bool)} {j : Nat} (h : j < l.length) : ordK l (j + 1) = ordK l j ||| 2 ^ (l.getD j (0, false)).1.toNat := by
  unfold ordK
  rw [take_more (d := (0, false)) h, List.foldl_append]
  rfl
theorem ordK_lt {l : List (Int × Bool)} (hb : ∀ i, i < l.length → num62 (l.getD i (0, false)).1 = true) : ∀ j, j ≤ l.length → ordK l j < 2 ^ 63
  | 0, _ => by unfold ordK; simp
  | j + 1, h => by
    rw [ordK_more (by omega)]
    have h1 := hb j (by omega)
    unfold num62 at h1
    rw [Bool.and_eq_true, decide_eq_true_eq, decide_eq_true_eq] at h1
    exact Nat.or_lt_two_pow (ordK_lt hb j (by omega)) (Nat.pow_lt_pow_right (by omega) (by omega))
theorem ordK_lt' {l : List (Int × Bool)} {j : Nat} (hj : j ≤ l.length) (hb : ∀ i, i < j → num62 (l.getD i (0, false)).1 = true) : ordK l j < 2 ^ 63 := by
  have h1 : (l.take j).length = j := by rw [List.length_take]; omega
  have h := ordK_lt (l := l.take j) (fun i hi => by
    rw [h1] at hi
    rw [List.getD_eq_getElem?_getD, List.getElem?_take, if_pos hi, ← List.getD_eq_getElem?_getD]
    exact hb i hi) j (by omega)
  unfold ordK at h ⊢
  rwa [List.take_take, Nat.min_self] at h
theorem ordB_all {l : List (Int × Bool)} (hb : ∀ i, i < l.length → num62 (l.getD i (0, false)).1 = true) : ordB l = true := by
  unfold ordB
  rw [List.all_eq_true]
  intro x hx
  obtain ⟨i, hi, rfl⟩ := List.getElem_of_mem hx
  have := hb i hi
  rwa [List.getD_eq_getElem?_getD, List.getElem?_eq_getElem hi] at this
theorem ordB_not {l : List (Int × Bool)} {j : Nat} (hj : j < l.length) (hb : num62 (l.getD j (0, false)).1 = false) : ordB l = false := by
  cases h : ordB l
  · rfl
  · unfold ordB at h
    rw [List.all_eq_true] at h
    rw [h _ (getD_mem hj)] at hb; cases hb
theorem or_shl (m : Nat) (x : Int) (hm : m < 2 ^ 63) (hx : num62 x = true) : bits .or .i64 (m : Int) (IntKind.i64.wrap (1 * 2 ^ x.toNat)) = ((m ||| 2 ^ x.toNat : Nat) : Int) := by
  unfold num62 at hx
  rw [Bool.and_eq_true, decide_eq_true_eq, decide_eq_true_eq] at hx
  rw [Int.one_mul]
  have h := or_bit m x.toNat hm (by omega)
  unfold wrap64 at h
  rw [IntKind.wrap_i64]
  exact h
theorem orders_n (ty st : Int) (orr oa : Option Addr) (nr cr c b o : Nat) (l : List (Int × Bool)) (hl : l.length ≤ 1000000) (w : World) (hv : Rw w b o 2 (vF l) l.length oa) : Calls Try.prog 19 #[.agg #[.int .i64 ty, .int .i64 st, .slice orr nr cr, .slice oa l.length c]] w fun e w' => e = .returned (.tuple #[.int .i64 (ordN l), .int .i64 (ordE l)]) ∧ Below w.heap.size w w' := by
  have HB : Below w.heap.size w w := Below.refl _ _
  refine sx_enter Try.func19 rfl [(0, .agg #[.int .i64 ty, .int .i64 st, .slice orr nr cr, .slice oa l.length c])] (by kernel_rfl) ?_
  refine wp_seq ?_
  refine wp_region_lit ?_
  obtain ⟨W1, hW⟩ : ∃ W, w.alloc (.cells #[.int .i64 ty, .int .i64 st, .slice orr nr cr, .slice oa l.length c] 34) = W := ⟨_, rfl⟩
  have hb := hW ▸ below_alloc w (.cells #[.int .i64 ty, .int .i64 st, .slice orr nr cr, .slice oa l.length c] 34)
  have hq : Cb W1 w.heap.size #[.int .i64 ty, .int .i64 st, .slice orr nr cr, .slice oa l.length c] 34 := hW ▸ Cb.made w #[.int .i64 ty, .int .i64 st, .slice orr nr cr, .slice oa l.length c] 34
  refine sx_mem (by kernel_rfl) rfl rfl (.pointer (some ⟨w.heap.size, 0, none⟩)) W1 (by rw [← hW]; kernel_rfl) ?_
  replace HB := over HB hb
  have z1 := hb.size
  have M2 := hq
  have yM2 := hq.lt
  clear hq hb hW
  refine sx_val (by kernel_rfl) rfl rfl (.int .i64 0) (by kernel_rfl) ?_
  refine sx_val (by kernel_rfl) rfl rfl (.int .i64 0) (by kernel_rfl) ?_
  refine wpList_nil ?_
  refine sx_norm ?_
  refine wp_seq ?_
  refine wp_region_lit ?_
  refine sx_val (by kernel_rfl) rfl rfl (.int .i64 0) (by kernel_rfl) ?_
  refine wpList_nil ?_
  refine sx_norm ?_
  refine wp_seq ?_
  refine wp_seq ?_
  refine wp_region_lit ?_
  refine sx_val (by kernel_rfl) rfl rfl (.pointer (some ⟨w.heap.size, 3, none⟩)) (by kernel_rfl) ?_
  refine sx_val (by kernel_rfl) rfl rfl (.slice oa l.length c) (ex_load1 rfl (M2.cell 3 rfl) (by kernel_rfl) Try.underlying32 rfl) ?_
  refine sx_val (by kernel_rfl) rfl rfl (.int .i64 ((l.length : Nat) : Int)) (by kernel_rfl) ?_
  refine sx_val (by kernel_rfl) rfl rfl (.int .i64 0) (by kernel_rfl) ?_
  refine wpList_nil ?_
  refine sx_norm ?_
  refine wp_block ?_
  refine sx_loop (fun j : Nat => [(0, .agg #[.int .i64 ty, .int .i64 st, .slice orr nr cr, .slice oa l.length c]), (1, .pointer (some ⟨w.heap.size, 0, none⟩)), (4, .int .i64 ((ordK l j : Nat) : Int)), (7, .pointer (some ⟨w.heap.size, 3, none⟩)), (8, .slice oa l.length c), (9, .int .i64 ((l.length : Nat) : Int)), (10, .int .i64 ((j : Nat) : Int))]) (fun gg j wr => j ≤ l.length ∧ l.length - j ≤ gg ∧ (∀ i, i < j → num62 (l.getD i (0, false)).1 = true) ∧ Below W1.heap.size W1 wr) (l.length) (0) (by kernel_rfl) ⟨Nat.zero_le _, Nat.le_refl _, fun i hi => absurd hi (Nat.not_lt_zero _), Below.refl _ _⟩ ?_
  rintro gg j g' wr ⟨hj, hg, hn, hbl⟩
  replace HB := over HB hbl
  replace M2 := M2.below hbl
  have z2 := hbl.size
  have HL := hbl
  clear hbl
  have hk63 := ordK_lt' hj hn
  refine wp_seq ?_
  refine wp_region_lit ?_
  by_cases C1 : j < l.length
  · refine sx_bool (by kernel_rfl) rfl rfl (decide (((j : Nat) : Int) < ((l.length : Nat) : Int))) true (by kernel_rfl) (decide_eq_true (by omega)) ?_
    refine wpList_nil ?_
    refine sx_norm ?_
    refine wp_seq ?_
    refine sx_true (by kernel_rfl) ?_
    refine wp_skip ?_
    refine sx_norm ?_
    refine wp_seq ?_
    refine wp_block ?_
    refine wp_seq ?_
    refine wp_region_lit ?_
    refine sx_val (by kernel_rfl) rfl rfl (.pointer (some ⟨b, o + j * 2, none⟩)) (ex_indexO (q := o) (m := l.length) (c := c) (k := j) (s := 2) rfl (by kernel_rfl) ((hv.below HB).oa (k := j) (by omega)) (by kernel_rfl) Try.underlying32 (by kernel_rfl) (by omega) (by omega)) ?_
    refine sx_val (by kernel_rfl) rfl rfl (.agg #[.int .i64 ((l.getD j (0, false)).1), .bool (l.getD j (0, false)).2]) (ex_loadR rfl ((hv.below HB).range (k := j) (by omega)) (by kernel_rfl) Try.underlying52 rfl (by kernel_rfl)) ?_
    obtain ⟨W3, hW⟩ : ∃ W, wr.alloc (.cells #[.int .i64 0, .bool false] 52) = W := ⟨_, rfl⟩
    have hb := hW ▸ below_alloc wr (.cells #[.int .i64 0, .bool false] 52)
    have hq : Cb W3 wr.heap.size #[.int .i64 0, .bool false] 52 := hW ▸ Cb.made wr #[.int .i64 0, .bool false] 52
    refine sx_mem (by kernel_rfl) rfl rfl (.pointer (some ⟨wr.heap.size, 0, none⟩)) W3 (by rw [← hW]; kernel_rfl) ?_
    replace HB := over HB hb
    replace M2 := M2.below hb
    replace HL := over HL hb
    have z3 := hb.size
    have M4 := hq
    have yM4 := hq.lt
    clear hq hb hW
    refine sx_store (cells := #[.int .i64 ((l.getD j (0, false)).1), .bool (l.getD j (0, false)).2]) (by kernel_rfl) rfl rfl M4 (by kernel_rfl) (by kernel_rfl) (by kernel_rfl) (by kernel_rfl) (by kernel_rfl) ?_
    obtain ⟨W5, hW⟩ : ∃ W, W3.setRow (wr.heap.size) #[.int .i64 ((l.getD j (0, false)).1), .bool (l.getD j (0, false)).2] = W := ⟨_, rfl⟩
    have hg : W3.grownBy W5 (some (wr.heap.size)) := hW ▸ grown_row _ _ _
    have hq : Cb W5 (wr.heap.size) #[.int .i64 ((l.getD j (0, false)).1), .bool (l.getD j (0, false)).2] 52 := hW ▸ Cb.row M4 _
    rw [hW]
    replace HB := HB.grown hg (by omega) (fun x e => by simp only [Option.some.injEq] at e; omega)
    replace M2 := M2.kept hg (by omega)
    replace HL := HL.grown hg (by omega) (fun x e => by simp only [Option.some.injEq] at e; omega)
    have z4 := hg.size
    replace M4 := hq
    clear hq hg hW
    refine wpList_nil ?_
    refine sx_norm ?_
    refine wp_seq ?_
    refine wp_seq ?_
    refine wp_region_lit ?_
    refine sx_val (by kernel_rfl) rfl rfl (.pointer (some ⟨wr.heap.size, 0, none⟩)) (by kernel_rfl) ?_
    refine sx_val (by kernel_rfl) rfl rfl (.int .i64 ((l.getD j (0, false)).1)) (ex_load1 rfl (M4.cell 0 rfl) (by kernel_rfl) Try.underlying3 rfl) ?_
    by_cases C2 : num62 ((l.getD j (0, false)).1) = true
    · refine sx_call (by kernel_rfl) rfl rfl ((by have h8 := isNumber_n ((l.getD j (0, false)).1) W5; rw [show num62 ((l.getD j (0, false)).1) = true by simpa using C2] at h8; exact h8)) (by kernel_rfl) ?_
      rintro e w9 ⟨rfl, rfl⟩
      refine ⟨_, rfl, ?_⟩
      refine sx_val (by kernel_rfl) rfl rfl (.bool false) (by kernel_rfl) ?_
      refine wpList_nil ?_
      refine sx_norm ?_
      refine sx_false (by kernel_rfl) ?_
      refine wp_skip ?_
      refine sx_norm ?_
      refine wp_region_lit ?_
      refine sx_val (by kernel_rfl) rfl rfl (.int .i64 ((ordK l j : Nat) : Int)) (by kernel_rfl) ?_
      refine sx_val (by kernel_rfl) rfl rfl (.pointer (some ⟨wr.heap.size, 0, none⟩)) (by kernel_rfl) ?_
      refine sx_val (by kernel_rfl) rfl rfl (.int .i64 ((l.getD j (0, false)).1)) (ex_load1 rfl (M4.cell 0 rfl) (by kernel_rfl) Try.underlying3 rfl) ?_
      have N1 : num62 (l.getD j (0, false)).1 = true := C2
      have hkx : (l.getD j (0, false)).1 = (((l.getD j (0, false)).1.toNat : Nat) : Int) ∧ (l.getD j (0, false)).1.toNat ≤ 62 := by unfold num62 at N1; rw [Bool.and_eq_true, decide_eq_true_eq, decide_eq_true_eq] at N1; omega
      refine sx_val (by kernel_rfl) rfl rfl (.int .i64 (IntKind.i64.wrap (1 * 2 ^ (l.getD j (0, false)).1.toNat))) (ex_shl rfl .i64 1 (l.getD j (0, false)).1.toNat _ (by kernel_rfl) (by rw [← hkx.1]; kernel_rfl) hkx.2 rfl) ?_
      refine sx_int (by kernel_rfl) rfl rfl .i64 (bits .or .i64 ((ordK l j : Nat) : Int) (IntKind.i64.wrap (1 * 2 ^ (l.getD j (0, false)).1.toNat))) (((ordK l (j + 1) : Nat) : Int)) (by kernel_rfl) (by rw [ordK_more (by omega)]; exact or_shl _ _ hk63 N1) ?_
      refine sx_val (by kernel_rfl) rfl rfl (.int .i64 ((ordK l (j + 1) : Nat) : Int)) (by kernel_rfl) ?_
      refine wpList_nil ?_
      refine sx_in ?_
      refine sx_norm ?_
      refine wp_region_lit ?_
      refine sx_int (by kernel_rfl) rfl rfl .i64 (IntKind.i64.wrap (((j : Nat) : Int) + 1)) (((j + 1 : Nat) : Int)) (by kernel_rfl) (by rw [IntKind.wrap_i64]; omega) ?_
      refine sx_val (by kernel_rfl) rfl rfl (.int .i64 ((j + 1 : Nat) : Int)) (by kernel_rfl) ?_
      refine wpList_nil ?_
      refine sx_norm ?_
      exact sx_again (l.length - (j + 1)) (j + 1) (by omega) (by kernel_rfl) ⟨by omega, Nat.le_refl _, fun i hi => by rcases Nat.lt_succ_iff_lt_or_eq.1 hi with h | h; exact hn i h; subst h; exact N1, HL⟩
    refine sx_call (by kernel_rfl) rfl rfl ((by have h8 := isNumber_n ((l.getD j (0, false)).1) W5; rw [show num62 ((l.getD j (0, false)).1) = false by simpa using C2] at h8; exact h8)) (by kernel_rfl) ?_
    rintro e w9 ⟨rfl, rfl⟩
    refine ⟨_, rfl, ?_⟩
    refine sx_val (by kernel_rfl) rfl rfl (.bool true) (by kernel_rfl) ?_
    refine wpList_nil ?_
    refine sx_norm ?_
    refine sx_true (by kernel_rfl) ?_
    refine wp_seq ?_
    refine wp_region_lit ?_
    refine sx_val (by kernel_rfl) rfl rfl (.int .i64 0) (by kernel_rfl) ?_
    refine sx_val (by kernel_rfl) rfl rfl (.int .i64 2) (by kernel_rfl) ?_
    refine wpList_nil ?_
    refine sx_norm ?_
    refine wp_ret ?_
    refine sx_rs ?_
    refine sx_rb ?_
    refine sx_rs ?_
    refine sx_rs ?_
    refine sx_rb ?_
    refine sx_rs ?_
    refine sx_ret2 (.int .i64 0) (.int .i64 2) rfl rfl rfl (by kernel_rfl) (by kernel_rfl) ⟨?_, HB⟩
    unfold ordE ordN
    rw [ordB_not (by omega) (by simpa using C2)]
    rfl
  refine sx_bool (by kernel_rfl) rfl rfl (decide (((j : Nat) : Int) < ((l.length : Nat) : Int))) false (by kernel_rfl) (decide_eq_false (by omega)) ?_
  refine wpList_nil ?_
  refine sx_norm ?_
  refine wp_seq ?_
  refine sx_false (by kernel_rfl) ?_
  refine wp_exit ?_
  refine sx_es ?_
  refine sx_es ?_
  refine sx_out ?_
  refine sx_norm ?_
  refine wp_seq ?_
  refine wp_region_lit ?_
  refine sx_val (by kernel_rfl) rfl rfl (.int .i64 ((ordK l j : Nat) : Int)) (by kernel_rfl) ?_
  refine sx_val (by kernel_rfl) rfl rfl (.int .i64 ((ordK l j : Nat) : Int)) (by kernel_rfl) ?_
  refine sx_val (by kernel_rfl) rfl rfl (.int .i64 0) (by kernel_rfl) ?_
  refine wpList_nil ?_
  refine sx_norm ?_
  refine wp_ret ?_
  refine sx_ret2 (.int .i64 ((ordK l j : Nat) : Int)) (.int .i64 0) rfl rfl rfl (by kernel_rfl) (by kernel_rfl) ⟨?_, HB⟩
  obtain rfl : j = l.length := by omega
  unfold ordE ordN
  rw [ordB_all hn]
  rfl

end Go.Proofs.Ytoliacfpjhanlaa.T


