/-
  DERIVED. Dn: a part of the base of layer 13 (made by pack.py).
-/
import Derived.Test.YtomebalolmabnaaGreatDoorGA
import Derived.Test.YtomebalolmabnaaGreatDoorGD
/-! The walks of drive: equal lists; the rests of a schedule; equal schedules (by gen_dn.py). -/
namespace Go.Proofs.YtomebalolmabnaaGreatDoor.T
open Go.RowKit
set_option maxRecDepth 8000
attribute [local irreducible] wpList Code.wp wpAnyH

theorem eqT (a a' b b' c c' : Int) (d d' : Bool) (w : World) : (Op.equalIn 10000 61 (.agg #[.int .i64 a, .int .i64 b, .int .i64 c, .bool d]) (.agg #[.int .i64 a', .int .i64 b', .int .i64 c', .bool d'])).run Tryz.prog w = .ok (a == a' && b == b' && c == c' && d == d') w := by
 have u3 := Tryz.underlying3
 have u4 := Tryz.underlying4
 have a3 := Tryz.isAgg3
 have z3 := Tryz.sizeOf3
 have a4 := Tryz.isAgg4
 have z4 := Tryz.sizeOf4
 have hS : Tryz.prog.underlying 61 = some (.struct (Tryz.prog.fieldsOf 61)) := by kernel_rfl
 have hp : Tryz.prog.stoodInHeld 61 = false := by kernel_rfl
 rw [show (10000 : Nat) = 9999 + 1 from rfl, run_equalIn_agg w 9999 61 _ _ hS hp]
 simp only [Program.fieldsOf, Tryz.underlying61]
 go_simp
 by_cases h1 : a = a' <;> by_cases h2 : b = b' <;> by_cases h3 : c = c' <;> by_cases h4 : d = d' <;> simp [h1, h2, h3, h4]
theorem ex_neqT {n : Nat} {g : Nat → Value} {l : List (Nat × Value)} {w : World} {o : Oper} {x y : Operand} {ty2 : TypeId} (ho : o.op = .binOp .neq 61 x y ty2) {a a' b b' c c' : Int} {d d' : Bool} (hx : ev n g l x = .agg #[.int .i64 a, .int .i64 b, .int .i64 c, .bool d]) (hy : ev n g l y = .agg #[.int .i64 a', .int .i64 b', .int .i64 c', .bool d']) :
  (execOp (ev n g l) o).run Tryz.prog w = .ok (.value (.bool (!(a == a' && b == b' && c == c' && d == d')))) w := by
 unfold execOp
 simp only [ho, hx, hy, run_eqGuard_agg w .neq 61 x y _ _ (by kernel_rfl : Tryz.prog.eqGuardType Tryz.prog.depth 61 = false), Sem.run_bind, run_neq_struct, eqT, Result.andThen_ok, Sem.run_pure]
theorem eqv_t {a a' b b' c c' : Int} {d d' : Bool} (h : a = a' ∧ b = b' ∧ c = c' ∧ d = d') : (a == a' && b == b' && c == c' && d == d') = true := by rw [h.1, h.2.1, h.2.2.1, h.2.2.2]; simp
theorem eqv_f {a a' b b' c c' : Int} {d d' : Bool} (h : ¬ (a = a' ∧ b = b' ∧ c = c' ∧ d = d')) : (a == a' && b == b' && c == c' && d == d') = false := by
 rw [Bool.eq_false_iff]
 intro h9
 simp only [Bool.and_eq_true, beq_iff_eq] at h9
 exact h ⟨h9.1.1.1, h9.1.1.2, h9.1.2, h9.2⟩
theorem ext_getD {α : Type} {d : α} {a b : List α} (hl : a.length = b.length) (h : ∀ i, i < a.length → a.getD i d = b.getD i d) : a = b := by
 apply List.ext_getElem hl
 intro i h1 h2
 have h3 := h i h1
 rw [List.getD_eq_getElem?_getD, List.getD_eq_getElem?_getD, List.getElem?_eq_getElem h1, List.getElem?_eq_getElem h2] at h3
 exact h3
theorem ext_more {α : Type} {d : α} {a b : List α} {j : Nat} (h : ∀ i, i < j → a.getD i d = b.getD i d) (e : a.getD j d = b.getD j d) : ∀ i, i < j + 1 → a.getD i d = b.getD i d := fun i hi => by
 rcases Nat.lt_or_eq_of_le (Nat.le_of_lt_succ hi) with h1 | h1
 ·exact h i h1
 ·rw [h1]; exact e
theorem tm_ext {a b : TmT} (h : a.a = b.a ∧ a.b = b.b ∧ a.d = b.d ∧ a.r = b.r) : a = b := by
 cases a; cases b; simp only [TmT.mk.injEq]; exact h
theorem eqBools_n (oa ob : Option Addr) (ca cb pa qa pb qb : Nat) (a b : List Bool) (la : a.length ≤ 1000000) (w : World) (hra : Rw w pa qa 1 (bF a) a.length oa) (hrb : Rw w pb qb 1 (bF b) b.length ob) : Calls Tryz.prog 72 #[.slice oa a.length ca, .slice ob b.length cb] w fun e w' => e = .returned (.bool (decide (a = b))) ∧ Below w.heap.size w w' := by
 have HB : Below w.heap.size w w := Below.refl _ _
 refine sx_enter Tryz.func72 rfl [(0, .slice oa a.length ca), (1, .slice ob b.length cb)] (by kernel_rfl) ?_
 refine Yq (Zv rfl (.bool false) (Yn (Yo (Ys (Yq (Zv rfl (.slice oa a.length ca) (Zv rfl (.int .i64 ((a.length : Nat) : Int)) (Zv rfl (.slice ob b.length cb) (Zv rfl (.int .i64 ((b.length : Nat) : Int)) ?_)))))))))
 by_cases C1 : a.length = b.length
 ·refine Zb rfl ((((a.length : Nat) : Int) : Int) != (((b.length : Nat) : Int) : Int)) false (by rw [bne_eq_false_iff_eq]; omega) (Yn (Yo (sx_false (by kernel_rfl) (wp_skip (Yo (Ys (Yq (Zv rfl (.slice oa a.length ca) (Zv rfl (.int .i64 ((a.length : Nat) : Int)) (Zv rfl (.int .i64 0) (Yn (Yo (wp_block ?_)))))))))))))
  refine sx_loop (fun j : Nat => [(0, .slice oa a.length ca), (1, .slice ob b.length cb), (6, .slice oa a.length ca), (7, .int .i64 ((a.length : Nat) : Int)), (8, .slice ob b.length cb), (9, .int .i64 ((b.length : Nat) : Int)), (10, .bool false), (11, .slice oa a.length ca), (12, .int .i64 ((a.length : Nat) : Int)), (13, .int .i64 ((j : Nat) : Int))]) (fun gg j wr => j ≤ a.length ∧ a.length - j ≤ gg ∧ (∀ i, i < j → a.getD i false = b.getD i false) ∧ Below w.heap.size w wr) (a.length) (0) (by kernel_rfl) ⟨Nat.zero_le _, Nat.le_refl _, (fun i hi => absurd hi (Nat.not_lt_zero i)), Below.refl _ _⟩ ?_
  rintro gg j g' wr1 ⟨hj, hg, hI, hbl⟩
  replace HB := over HB hbl
  have z1 := hbl.size
  have HL := hbl
  clear hbl
  refine Yq ?_
  by_cases C2 : j < a.length
  ·refine Zb rfl (decide (((j : Nat) : Int) < ((a.length : Nat) : Int))) true (decide_eq_true (by omega)) (Yn (Yo (Ys (sx_true (by kernel_rfl) (wp_skip (Yo (Ys (wp_block (Yq (Zv rfl (.int .i64 ((j : Nat) : Int)) (Zv rfl (.int .i64 ((j : Nat) : Int)) (Yn (Yo (Ys ?_))))))))))))))
   obtain ⟨Y2, hW⟩ : ∃ W, wr1.drew = W := ⟨_, rfl⟩
   have hb : Below wr1.heap.size wr1 Y2 := hW ▸ below_drew (Below.refl _ _)
   replace HB := over HB hb
   replace HL := over HL hb
   have z2 := hb.size
   clear hb
   refine sd_begin (fun W => Rw W pa qa 1 (bF a) a.length oa ∧ Rw W pb qb 1 (bF b) b.length ob ∧ True) (by kernel_rfl) (by rw [hW]; exact ⟨(hra.below HB), (hrb.below HB), trivial⟩) ?_
   rw [hW]
   clear hW
   refine Zu 0 rfl rfl (.slice oa a.length ca) ⟨(hra.below HB), (hrb.below HB), trivial⟩ ?_
   refine Zu 1 rfl rfl (.int .i64 ((j : Nat) : Int)) ⟨(hra.below HB), (hrb.below HB), trivial⟩ ?_
   refine Zt 2 rfl rfl (pt pa (qa + j * 1)) (fun w9 h9 => ex_indexO (q := qa) (m := a.length) (c := ca) (k := j) (s := 1) rfl (by kernel_rfl) (h9.1.oa (k := j) (by omega)) (by kernel_rfl) Tryz.underlying31 (by kernel_rfl) (by omega) (by omega)) ⟨(hra.below HB), (hrb.below HB), trivial⟩ ?_
   refine Zt 3 rfl rfl (.bool (a.getD j false)) (fun w9 h9 => el (h9.1.cell (k := j) (by omega) 0 rfl) Tryz.underlying4) ⟨(hra.below HB), (hrb.below HB), trivial⟩ ?_
   refine Zu 4 rfl rfl (.slice ob b.length cb) ⟨(hra.below HB), (hrb.below HB), trivial⟩ ?_
   refine Zu 5 rfl rfl (.int .i64 ((j : Nat) : Int)) ⟨(hra.below HB), (hrb.below HB), trivial⟩ ?_
   refine Zt 6 rfl rfl (pt pb (qb + j * 1)) (fun w9 h9 => ex_indexO (q := qb) (m := b.length) (c := cb) (k := j) (s := 1) rfl (by kernel_rfl) (h9.2.1.oa (k := j) (by omega)) (by kernel_rfl) Tryz.underlying31 (by kernel_rfl) (by omega) (by omega)) ⟨(hra.below HB), (hrb.below HB), trivial⟩ ?_
   refine Zt 7 rfl rfl (.bool (b.getD j false)) (fun w9 h9 => el (h9.2.1.cell (k := j) (by omega) 0 rfl) Tryz.underlying4) ⟨(hra.below HB), (hrb.below HB), trivial⟩ ?_
   by_cases C3 : (a.getD j false) = (b.getD j false)
   ·refine Zt 8 rfl rfl (.bool false) (fun w9 _ => ex_bool (((a.getD j false) != (b.getD j false))) false (by kernel_rfl) (by rw [C3]; exact bne_self_eq_false _)) ⟨(hra.below HB), (hrb.below HB), trivial⟩ ?_
    refine sd_done (by kernel_rfl) ?_
    refine Yo (sx_false (by kernel_rfl) (wp_skip ?_))
    refine sx_in ?_
    refine Yo (Yr (Zi rfl (IntKind.i64.wrap (((j : Nat) : Int) + 1)) (((j + 1 : Nat) : Int)) (by rw [IntKind.wrap_i64]; omega) (Zv rfl (.int .i64 ((j + 1 : Nat) : Int)) (Yn (Yo ?_)))))
    exact sx_again (a.length - (j + 1)) (j + 1) (by omega) (by kernel_rfl) ⟨by omega, Nat.le_refl _, ext_more hI (by assumption), HL⟩
   refine Zt 8 rfl rfl (.bool true) (fun w9 _ => ex_bool (((a.getD j false) != (b.getD j false))) true (by kernel_rfl) (bne_iff_ne.2 C3)) ⟨(hra.below HB), (hrb.below HB), trivial⟩ ?_
   refine sd_done (by kernel_rfl) ?_
   refine Yo (sx_true (by kernel_rfl) (Yq (Zv rfl (.bool false) (Yn (Yo (wp_ret ?_))))))
   refine sx_rb ?_
   refine sx_rs (sx_rs ?_)
   refine sx_rb ?_
   refine sx_rs ?_
   refine sx_ret1 (.bool false) rfl rfl (by kernel_rfl) ⟨by rw [decide_eq_false (fun h => absurd (by rw [h]) (by assumption : ¬ a.getD j false = b.getD j false))], HB⟩
  refine Zb rfl (decide (((j : Nat) : Int) < ((a.length : Nat) : Int))) false (decide_eq_false (by omega)) (Yn (Yo (Ys (sx_false (by kernel_rfl) (wp_exit ?_)))))
  refine sx_es ?_
  refine sx_es ?_
  refine sx_out ?_
  refine Yo (Yq (Zv rfl (.bool true) (Yn (Yo (wp_ret ?_)))))
  refine sx_ret1 (.bool true) rfl rfl (by kernel_rfl) ⟨by rw [decide_eq_true (ext_getD (d := false) (by omega) (fun i hi => hI i (by omega)))], HB⟩
 refine Zb rfl ((((a.length : Nat) : Int) : Int) != (((b.length : Nat) : Int) : Int)) true (bne_iff_ne.2 (by omega)) (Yn (Yo (sx_true (by kernel_rfl) (Yq (Zv rfl (.bool false) (Yn (Yo (wp_ret (sx_rs ?_)))))))))
 refine sx_ret1 (.bool false) rfl rfl (by kernel_rfl) ⟨by rw [decide_eq_false (fun h => by have h9 := congrArg List.length h; omega)], HB⟩
theorem eqTimes_n (oa ob : Option Addr) (ca cb pa qa pb qb : Nat) (a b : List TmT) (la : a.length ≤ 1000000) (w : World) (hra : Rw w pa qa 4 (fun k => tmE (a.getD k tm0)) a.length oa) (hrb : Rw w pb qb 4 (fun k => tmE (b.getD k tm0)) b.length ob) : Calls Tryz.prog 89 #[.slice oa a.length ca, .slice ob b.length cb] w fun e w' => e = .returned (.bool (decide (a = b))) ∧ Below w.heap.size w w' := by
 have HB : Below w.heap.size w w := Below.refl _ _
 refine sx_enter Tryz.func89 rfl [(0, .slice oa a.length ca), (1, .slice ob b.length cb)] (by kernel_rfl) ?_
 refine Yq (Zv rfl (.bool false) (Yn (Yo (Ys (Yq (Zv rfl (.slice oa a.length ca) (Zv rfl (.int .i64 ((a.length : Nat) : Int)) (Zv rfl (.slice ob b.length cb) (Zv rfl (.int .i64 ((b.length : Nat) : Int)) ?_)))))))))
 by_cases C1 : a.length = b.length
 ·refine Zb rfl ((((a.length : Nat) : Int) : Int) != (((b.length : Nat) : Int) : Int)) false (by rw [bne_eq_false_iff_eq]; omega) (Yn (Yo (sx_false (by kernel_rfl) (wp_skip (Yo (Ys (Yq (Zv rfl (.slice oa a.length ca) (Zv rfl (.int .i64 ((a.length : Nat) : Int)) (Zv rfl (.int .i64 0) (Yn (Yo (wp_block ?_)))))))))))))
  refine sx_loop (fun j : Nat => [(0, .slice oa a.length ca), (1, .slice ob b.length cb), (6, .slice oa a.length ca), (7, .int .i64 ((a.length : Nat) : Int)), (8, .slice ob b.length cb), (9, .int .i64 ((b.length : Nat) : Int)), (10, .bool false), (11, .slice oa a.length ca), (12, .int .i64 ((a.length : Nat) : Int)), (13, .int .i64 ((j : Nat) : Int))]) (fun gg j wr => j ≤ a.length ∧ a.length - j ≤ gg ∧ (∀ i, i < j → a.getD i tm0 = b.getD i tm0) ∧ Below w.heap.size w wr) (a.length) (0) (by kernel_rfl) ⟨Nat.zero_le _, Nat.le_refl _, (fun i hi => absurd hi (Nat.not_lt_zero i)), Below.refl _ _⟩ ?_
  rintro gg j g' wr1 ⟨hj, hg, hI, hbl⟩
  replace HB := over HB hbl
  have z1 := hbl.size
  have HL := hbl
  clear hbl
  refine Yq ?_
  by_cases C2 : j < a.length
  ·refine Zb rfl (decide (((j : Nat) : Int) < ((a.length : Nat) : Int))) true (decide_eq_true (by omega)) (Yn (Yo (Ys (sx_true (by kernel_rfl) (wp_skip (Yo (Ys (wp_block (Yq (Zv rfl (.int .i64 ((j : Nat) : Int)) (Zv rfl (.int .i64 ((j : Nat) : Int)) (Yn (Yo (Ys ?_))))))))))))))
   obtain ⟨Y2, hW⟩ : ∃ W, wr1.drew = W := ⟨_, rfl⟩
   have hb : Below wr1.heap.size wr1 Y2 := hW ▸ below_drew (Below.refl _ _)
   replace HB := over HB hb
   replace HL := over HL hb
   have z2 := hb.size
   clear hb
   refine sd_begin (fun W => Rw W pa qa 4 (fun k => tmE (a.getD k tm0)) a.length oa ∧ Rw W pb qb 4 (fun k => tmE (b.getD k tm0)) b.length ob ∧ True) (by kernel_rfl) (by rw [hW]; exact ⟨(hra.below HB), (hrb.below HB), trivial⟩) ?_
   rw [hW]
   clear hW
   refine Zu 0 rfl rfl (.slice oa a.length ca) ⟨(hra.below HB), (hrb.below HB), trivial⟩ ?_
   refine Zu 1 rfl rfl (.int .i64 ((j : Nat) : Int)) ⟨(hra.below HB), (hrb.below HB), trivial⟩ ?_
   refine Zt 2 rfl rfl (pt pa (qa + j * 4)) (fun w9 h9 => ex_indexO (q := qa) (m := a.length) (c := ca) (k := j) (s := 4) rfl (by kernel_rfl) (h9.1.oa (k := j) (by omega)) (by kernel_rfl) Tryz.underlying35 (by kernel_rfl) (by omega) (by omega)) ⟨(hra.below HB), (hrb.below HB), trivial⟩ ?_
   refine Zt 3 rfl rfl (.agg #[.int .i64 ((a.getD j tm0).a), .int .i64 ((a.getD j tm0).b), .int .i64 ((a.getD j tm0).d), .bool (a.getD j tm0).r]) (fun w9 h9 => ex_loadR rfl (h9.1.range (k := j) (by omega)) (by kernel_rfl) Tryz.underlying61 rfl (by kernel_rfl)) ⟨(hra.below HB), (hrb.below HB), trivial⟩ ?_
   refine Zu 4 rfl rfl (.slice ob b.length cb) ⟨(hra.below HB), (hrb.below HB), trivial⟩ ?_
   refine Zu 5 rfl rfl (.int .i64 ((j : Nat) : Int)) ⟨(hra.below HB), (hrb.below HB), trivial⟩ ?_
   refine Zt 6 rfl rfl (pt pb (qb + j * 4)) (fun w9 h9 => ex_indexO (q := qb) (m := b.length) (c := cb) (k := j) (s := 4) rfl (by kernel_rfl) (h9.2.1.oa (k := j) (by omega)) (by kernel_rfl) Tryz.underlying35 (by kernel_rfl) (by omega) (by omega)) ⟨(hra.below HB), (hrb.below HB), trivial⟩ ?_
   refine Zt 7 rfl rfl (.agg #[.int .i64 ((b.getD j tm0).a), .int .i64 ((b.getD j tm0).b), .int .i64 ((b.getD j tm0).d), .bool (b.getD j tm0).r]) (fun w9 h9 => ex_loadR rfl (h9.2.1.range (k := j) (by omega)) (by kernel_rfl) Tryz.underlying61 rfl (by kernel_rfl)) ⟨(hra.below HB), (hrb.below HB), trivial⟩ ?_
   by_cases C3 : (a.getD j tm0).a = (b.getD j tm0).a ∧ (a.getD j tm0).b = (b.getD j tm0).b ∧ (a.getD j tm0).d = (b.getD j tm0).d ∧ (a.getD j tm0).r = (b.getD j tm0).r
   ·refine Zt 8 rfl rfl (.bool false) (fun w9 h9 => ex_bool (!((a.getD j tm0).a == (b.getD j tm0).a && (a.getD j tm0).b == (b.getD j tm0).b && (a.getD j tm0).d == (b.getD j tm0).d && (a.getD j tm0).r == (b.getD j tm0).r)) false (ex_neqT rfl (by kernel_rfl) (by kernel_rfl)) (by rw [eqv_t C3]; rfl)) ⟨(hra.below HB), (hrb.below HB), trivial⟩ ?_
    refine sd_done (by kernel_rfl) ?_
    refine Yo (sx_false (by kernel_rfl) (wp_skip ?_))
    refine sx_in ?_
    refine Yo (Yr (Zi rfl (IntKind.i64.wrap (((j : Nat) : Int) + 1)) (((j + 1 : Nat) : Int)) (by rw [IntKind.wrap_i64]; omega) (Zv rfl (.int .i64 ((j + 1 : Nat) : Int)) (Yn (Yo ?_)))))
    exact sx_again (a.length - (j + 1)) (j + 1) (by omega) (by kernel_rfl) ⟨by omega, Nat.le_refl _, ext_more hI (tm_ext (by assumption)), HL⟩
   refine Zt 8 rfl rfl (.bool true) (fun w9 h9 => ex_bool (!((a.getD j tm0).a == (b.getD j tm0).a && (a.getD j tm0).b == (b.getD j tm0).b && (a.getD j tm0).d == (b.getD j tm0).d && (a.getD j tm0).r == (b.getD j tm0).r)) true (ex_neqT rfl (by kernel_rfl) (by kernel_rfl)) (by rw [eqv_f C3]; rfl)) ⟨(hra.below HB), (hrb.below HB), trivial⟩ ?_
   refine sd_done (by kernel_rfl) ?_
   refine Yo (sx_true (by kernel_rfl) (Yq (Zv rfl (.bool false) (Yn (Yo (wp_ret ?_))))))
   refine sx_rb ?_
   refine sx_rs (sx_rs ?_)
   refine sx_rb ?_
   refine sx_rs ?_
   refine sx_ret1 (.bool false) rfl rfl (by kernel_rfl) ⟨by rw [decide_eq_false (fun h => absurd (by rw [h]; exact ⟨rfl, rfl, rfl, rfl⟩) (by assumption : ¬ ((a.getD j tm0).a = (b.getD j tm0).a ∧ (a.getD j tm0).b = (b.getD j tm0).b ∧ (a.getD j tm0).d = (b.getD j tm0).d ∧ (a.getD j tm0).r = (b.getD j tm0).r)))], HB⟩
  refine Zb rfl (decide (((j : Nat) : Int) < ((a.length : Nat) : Int))) false (decide_eq_false (by omega)) (Yn (Yo (Ys (sx_false (by kernel_rfl) (wp_exit ?_)))))
  refine sx_es ?_
  refine sx_es ?_
  refine sx_out ?_
  refine Yo (Yq (Zv rfl (.bool true) (Yn (Yo (wp_ret ?_)))))
  refine sx_ret1 (.bool true) rfl rfl (by kernel_rfl) ⟨by rw [decide_eq_true (ext_getD (d := tm0) (by omega) (fun i hi => hI i (by omega)))], HB⟩
 refine Zb rfl ((((a.length : Nat) : Int) : Int) != (((b.length : Nat) : Int) : Int)) true (bne_iff_ne.2 (by omega)) (Yn (Yo (sx_true (by kernel_rfl) (Yq (Zv rfl (.bool false) (Yn (Yo (wp_ret (sx_rs ?_)))))))))
 refine sx_ret1 (.bool false) rfl rfl (by kernel_rfl) ⟨by rw [decide_eq_false (fun h => by have h9 := congrArg List.length h; omega)], HB⟩
def ShT.rts (S : ShT) : List Bool := S.r :: S.T.map (·.r)
def rtsK (S : ShT) (i : Nat) : List Bool := S.r :: (S.T.take i).map (·.r)
theorem rtsK_len {S : ShT} {i : Nat} (h : i ≤ S.T.length) : (rtsK S i).length = i + 1 := by unfold rtsK; simp [Nat.min_eq_left h]
theorem rtsK_more {S : ShT} {i : Nat} (h : i < S.T.length) : rtsK S (i + 1) = rtsK S i ++ [(S.T.getD i tm0).r] := by
 unfold rtsK
 rw [take_more (d := tm0) h, List.map_append]
 rfl
theorem rts_len (S : ShT) : S.rts.length = S.T.length + 1 := by unfold ShT.rts; simp
theorem rtsK_all (S : ShT) : rtsK S S.T.length = S.rts := by unfold rtsK ShT.rts; rw [List.take_length]
theorem restsOf_n (S : ShT) (oS : Option Addr) (cS bS qS : Nat) (lS : S.T.length ≤ 300000) (w : World) (hT : Rw w bS qS 4 (fun k => tmE (S.T.getD k tm0)) S.T.length oS) : Calls Tryz.prog 71 #[.agg (sK S oS cS)] w fun e w' => ∃ b9 c9, e = .returned (.slice (some ⟨b9, 0, none⟩) S.rts.length c9) ∧ S.rts.length ≤ c9 ∧ Rw w' b9 0 1 (bF S.rts) S.rts.length (some ⟨b9, 0, none⟩) ∧ w.heap.size ≤ b9 ∧ Below w.heap.size w w' := by
 have HB : Below w.heap.size w w := Below.refl _ _
 refine sx_enter Tryz.func71 rfl [(0, .agg (sK S oS cS))] (by kernel_rfl) ?_
 refine Yq ?_
 refine Za rfl (sK S oS cS) 37 (fun W1 hb M2 z1 yM2 => ?_)
 replace HB := over HB hb
 clear hb
 refine Zv rfl (.slice none 0 0) (Yn (Yo (Yq (Zv rfl (pt w.heap.size 2) (Zw rfl (.slice oS S.T.length cS) (el (M2.cell 2 rfl) Tryz.underlying35) (Zv rfl (.int .i64 ((S.T.length : Nat) : Int)) (Zi rfl (IntKind.i64.wrap (((S.T.length : Nat) : Int) + 1)) (((S.T.length + 1 : Nat) : Int)) (by rw [IntKind.wrap_i64]; omega) ?_)))))))
 obtain ⟨W3, hW, hb, hq⟩ := laidA W1 (madeCells (Value.bool false).cells ((S.T.length + 1) * 1)) 4
 have HG : Ol boE 4 1 W1.heap.size W3 (.slice (some ⟨W1.heap.size, 0, none⟩) 0 (S.T.length + 1)) [] := Ol.made0 hq (Nat.le_refl _) (by omega)
 refine sx_mem (by kernel_rfl) rfl rfl (.slice (some ⟨W1.heap.size, 0, none⟩) 0 (S.T.length + 1)) W3 (by rw [← hW]; exact ex_make0 (e := 4) (sz := 1) (z := .bool false) (bytes := 1) rfl (by kernel_rfl) (by kernel_rfl) Tryz.underlying31 (by kernel_rfl) (by decide) (by omega)) ?_
 replace HB := over HB hb
 replace M2 := M2.below hb
 have z2 := hb.size
 clear hb hW hq
 refine Zv rfl (.slice (some ⟨W1.heap.size, 0, none⟩) 0 (S.T.length + 1)) (Yn (Yo (Yq (Zv rfl (.slice (some ⟨W1.heap.size, 0, none⟩) 0 (S.T.length + 1)) (Zv rfl (pt w.heap.size 0) (Zw rfl (.bool S.r) (el (M2.cell 0 rfl) Tryz.underlying4) ?_))))))
 obtain ⟨W4, hW, hb, hq⟩ := laidA W3 #[.bool S.r] 4
 refine sx_mem (by kernel_rfl) rfl rfl (.slice (some ⟨W3.heap.size, 0, none⟩) 1 1) W4 (by rw [← hW]; kernel_rfl) ?_
 replace HB := over HB hb
 replace M2 := M2.below hb
 replace HG := HG.below hb
 have z3 := hb.size
 have M5 := hq
 have yM5 := hq.lt
 clear hq hb hW
 obtain ⟨v7, W6, h9, hg9, hb, -, -⟩ := ap_o (P := Tryz.prog) (t := 31) (ty := 31) (z := .bool false) (bytes := 1) (x := (S.r : Bool)) boRow Tryz.underlying31 (by kernel_rfl) rfl (by decide) (by decide) HG M5 rfl (by omega) (by decide)
 refine sx_mem (by kernel_rfl) rfl rfl v7 W6 (ex_append rfl (by kernel_rfl) (by kernel_rfl) h9) ?_
 replace HB := HB.trans (hb.mono (by omega))
 replace M2 := M2.belowB (by omega) hb
 have z4 := hb.size
 have HG := hg9
 clear hg9 hb h9
 refine Zv rfl (v7) (Yn (Yo (Ys (Yq (Zv rfl (pt w.heap.size 2) (Zw rfl (.slice oS S.T.length cS) (el (M2.cell 2 rfl) Tryz.underlying35) (Zv rfl (.int .i64 ((S.T.length : Nat) : Int)) (Zv rfl (.int .i64 0) (Yn (Yo (wp_block ?_)))))))))))
 refine sx_loop (fun x9 : Nat × Value => [(0, .agg (sK S oS cS)), (1, .pointer (some ⟨w.heap.size, 0, none⟩)), (2, .slice none 0 0), (3, x9.2), (6, .pointer (some ⟨w.heap.size, 2, none⟩)), (7, .slice oS S.T.length cS), (8, .int .i64 ((S.T.length : Nat) : Int)), (9, .int .i64 ((S.T.length + 1 : Nat) : Int)), (10, .slice (some ⟨W1.heap.size, 0, none⟩) 0 (S.T.length + 1)), (11, .slice (some ⟨W1.heap.size, 0, none⟩) 0 (S.T.length + 1)), (12, .pointer (some ⟨w.heap.size, 0, none⟩)), (13, .bool S.r), (14, .slice (some ⟨W3.heap.size, 0, none⟩) 1 1), (15, v7), (16, .pointer (some ⟨w.heap.size, 2, none⟩)), (17, .slice oS S.T.length cS), (18, .int .i64 ((S.T.length : Nat) : Int)), (19, .int .i64 ((x9.1 : Nat) : Int))]) (fun gg x9 wr => x9.1 ≤ S.T.length ∧ S.T.length - x9.1 ≤ gg ∧ Ol boE 4 1 W1.heap.size wr x9.2 (rtsK S x9.1) ∧ Below W1.heap.size W6 wr) (S.T.length) ((0, v7)) (by kernel_rfl) ⟨Nat.zero_le _, Nat.le_refl _, HG, Below.refl _ _⟩ ?_
 rintro gg ⟨i, v3⟩ g' wr8 ⟨hi, hg, HG, hbl⟩
 dsimp only at hi hg HG hbl
 replace HB := HB.trans (hbl.mono (by omega))
 have z5 := hbl.size
 have HL := hbl
 clear hbl
 refine Yq ?_
 by_cases C1 : i < S.T.length
 ·refine Zb rfl (decide (((i : Nat) : Int) < ((S.T.length : Nat) : Int))) true (decide_eq_true (by omega)) (Yn (Yo (Ys (sx_true (by kernel_rfl) (wp_skip (Yo (Ys (wp_block (Yq (Zw rfl (pt bS (qS + i * 4)) (ex_indexO (q := qS) (m := S.T.length) (c := cS) (k := i) (s := 4) rfl (by kernel_rfl) ((hT.below HB).oa (k := i) (by omega)) (by kernel_rfl) Tryz.underlying35 (by kernel_rfl) (by omega) (by omega)) (Zw rfl (.agg #[.int .i64 ((S.T.getD i tm0).a), .int .i64 ((S.T.getD i tm0).b), .int .i64 ((S.T.getD i tm0).d), .bool (S.T.getD i tm0).r]) (ex_loadR rfl ((hT.below HB).range (k := i) (by omega)) (by kernel_rfl) Tryz.underlying61 rfl (by kernel_rfl)) ?_)))))))))))
  obtain ⟨W10, hW, hb, hq⟩ := laidV wr8 nZM #[.int .i64 ((S.T.getD i tm0).a), .int .i64 ((S.T.getD i tm0).b), .int .i64 ((S.T.getD i tm0).d), .bool (S.T.getD i tm0).r] 61
  refine sx_mem (by kernel_rfl) rfl rfl (pt wr8.heap.size 0) (wr8.alloc (.cells nZM 61)) (by kernel_rfl) ?_
  refine Zs (cells := #[.int .i64 ((S.T.getD i tm0).a), .int .i64 ((S.T.getD i tm0).b), .int .i64 ((S.T.getD i tm0).d), .bool (S.T.getD i tm0).r]) rfl rfl (Cb.made wr8 nZM 61) ?_
  rw [hW]
  replace HB := over HB hb
  replace HL := HL.trans (hb.mono (by omega))
  replace HG := HG.below hb
  have z6 := hb.size
  have M9 := hq
  have yM9 := hq.lt
  clear hq hb hW
  refine Yn (Yo (Yr (Zv rfl (v3) (Zv rfl (pt wr8.heap.size 3) (Zw rfl (.bool (S.T.getD i tm0).r) (el (M9.cell 3 rfl) Tryz.underlying4) ?_)))))
  obtain ⟨W11, hW, hb, hq⟩ := laidA W10 #[.bool (S.T.getD i tm0).r] 4
  refine sx_mem (by kernel_rfl) rfl rfl (.slice (some ⟨W10.heap.size, 0, none⟩) 1 1) W11 (by rw [← hW]; kernel_rfl) ?_
  replace HB := over HB hb
  replace HL := HL.trans (hb.mono (by omega))
  replace HG := HG.below hb
  have z7 := hb.size
  have M12 := hq
  have yM12 := hq.lt
  clear hq hb hW
  obtain ⟨v14, W13, h9, hg9, hb, -, -⟩ := ap_o (P := Tryz.prog) (t := 31) (ty := 31) (z := .bool false) (bytes := 1) (x := ((S.T.getD i tm0).r : Bool)) boRow Tryz.underlying31 (by kernel_rfl) rfl (by decide) (by decide) HG M12 rfl (by omega) (by rw [rtsK_len (by omega)]; omega)
  refine sx_mem (by kernel_rfl) rfl rfl v14 W13 (ex_append rfl (by kernel_rfl) (by kernel_rfl) h9) ?_
  replace HB := HB.trans (hb.mono (by omega))
  replace HL := HL.trans (hb.mono (by omega))
  have z8 := hb.size
  have HG := hg9
  clear hg9 hb h9
  refine Zv rfl (v14) (Yn ?_)
  refine sx_in ?_
  refine Yo (Yr (Zi rfl (IntKind.i64.wrap (((i : Nat) : Int) + 1)) (((i + 1 : Nat) : Int)) (by rw [IntKind.wrap_i64]; omega) (Zv rfl (.int .i64 ((i + 1 : Nat) : Int)) (Yn (Yo ?_)))))
  exact sx_again (S.T.length - (i + 1)) (i + 1, v14) (by omega) (by kernel_rfl) ⟨by show i + 1 ≤ _; omega, Nat.le_refl _, by show Ol boE _ 1 _ _ _ (rtsK S (i + 1)); rw [rtsK_more (by omega)]; exact HG, HL⟩
 refine Zb rfl (decide (((i : Nat) : Int) < ((S.T.length : Nat) : Int))) false (decide_eq_false (by omega)) (Yn (Yo (Ys (sx_false (by kernel_rfl) (wp_exit ?_)))))
 refine sx_es ?_
 refine sx_es ?_
 refine sx_out ?_
 refine Yo (Yq (Zv rfl (v3) (Zv rfl (v3) (Yn (Yo (wp_ret ?_))))))
 have hi9 : i = S.T.length := by omega
 subst hi9
 rw [rtsK_all] at HG
 obtain ⟨o9, c9, rfl⟩ := Ol.form HG
 obtain ⟨b9, q9, hr9, hb9⟩ := Ol.rwB boRow false HG
 have ho9 : ∃ b8, o9 = some ⟨b8, 0, none⟩ := by
  rcases HG.2 with ⟨-, h0⟩ | ⟨g8, cap8, cur8, e8, -⟩
  ·rw [rts_len] at h0; omega
  ·simp only [Value.slice.injEq] at e8; exact ⟨g8, e8.1⟩
 obtain ⟨b8, rfl⟩ := ho9
 have h7 := (hr9 0 (by rw [rts_len]; omega)).1
 simp only [Option.some.injEq, Addr.mk.injEq, and_true] at h7
 obtain ⟨rfl, rfl⟩ := h7
 have hcap : S.rts.length ≤ c9 := by
  rcases HG.2 with ⟨h8, -⟩ | ⟨g8, cap8, cur8, e8, -, -, h8, -⟩
  ·cases h8
  ·simp only [Value.slice.injEq] at e8; rw [e8.2.2]; exact h8
 refine sx_ret1 (.slice (some ⟨b8, 0, none⟩) S.rts.length c9) rfl rfl (by kernel_rfl) ⟨b8, c9, rfl, hcap, hr9, by have h6 := hb9 0 (by rw [rts_len]; omega); omega, HB⟩
theorem sh_ext {a b : ShT} (h : a.r = b.r ∧ a.d = b.d ∧ a.e = b.e ∧ a.m = b.m ∧ a.T = b.T) : a = b := by
 cases a; cases b; simp only [ShT.mk.injEq]; exact ⟨h.1, h.2.1, h.2.2.2.2, h.2.2.1, h.2.2.2.1⟩
theorem isSame_n (S R : ShT) (oS oR : Option Addr) (cS cR bS qS bR qR : Nat) (lS : S.T.length ≤ 1000000) (w : World) (hS : Rw w bS qS 4 (fun k => tmE (S.T.getD k tm0)) S.T.length oS) (hR : Rw w bR qR 4 (fun k => tmE (R.T.getD k tm0)) R.T.length oR) : Calls Tryz.prog 74 #[.agg (sK S oS cS), .agg (sK R oR cR)] w fun e w' => e = .returned (.bool (decide (S = R))) ∧ Below w.heap.size w w' := by
 have HB : Below w.heap.size w w := Below.refl _ _
 refine sx_enter Tryz.func74 rfl [(0, .agg (sK S oS cS)), (1, .agg (sK R oR cR))] (by kernel_rfl) ?_
 refine Yq ?_
 refine Za rfl (sK S oS cS) 37 (fun W1 hb M2 z1 yM2 => ?_)
 replace HB := over HB hb
 clear hb
 refine Za rfl (sK R oR cR) 37 (fun W3 hb M4 z2 yM4 => ?_)
 replace HB := over HB hb
 replace M2 := M2.below hb
 clear hb
 refine Zv rfl (.bool false) (Yn (Yo (Yq (Zv rfl (pt w.heap.size 0) (Zw rfl (.bool S.r) (el (M2.cell 0 rfl) Tryz.underlying4) (Zv rfl (pt W1.heap.size 0) (Zw rfl (.bool R.r) (el (M4.cell 0 rfl) Tryz.underlying4) ?_)))))))
 by_cases C1 : S.r = R.r
 ·refine Zb rfl ((S.r == R.r)) true (by simp [C1]) (Zv rfl (.bool true) (Zv rfl (pt w.heap.size 1) (Zw rfl (.int .i64 S.d) (el (M2.cell 1 rfl) Tryz.underlying3) (Zv rfl (pt W1.heap.size 1) (Zw rfl (.int .i64 R.d) (el (M4.cell 1 rfl) Tryz.underlying3) ?_)))))
  by_cases C2 : S.d = R.d
  ·refine Zb rfl ((S.d : Int) == (R.d : Int)) true (beq_iff_eq.2 (by omega)) (Zv rfl (.bool true) (Zv rfl (.bool true) (Zv rfl (pt w.heap.size 3) (Zw rfl (.int .i64 S.e) (el (M2.cell 3 rfl) Tryz.underlying3) (Zv rfl (pt W1.heap.size 3) (Zw rfl (.int .i64 R.e) (el (M4.cell 3 rfl) Tryz.underlying3) ?_))))))
   by_cases C3 : S.e = R.e
   ·refine Zb rfl ((S.e : Int) == (R.e : Int)) true (beq_iff_eq.2 (by omega)) (Zv rfl (.bool true) (Zv rfl (.bool true) (Zv rfl (pt w.heap.size 4) (Zw rfl (.int .i64 S.m) (el (M2.cell 4 rfl) Tryz.underlying3) (Zv rfl (pt W1.heap.size 4) (Zw rfl (.int .i64 R.m) (el (M4.cell 4 rfl) Tryz.underlying3) ?_))))))
    by_cases C4 : S.m = R.m
    ·refine Zb rfl ((S.m : Int) == (R.m : Int)) true (beq_iff_eq.2 (by omega)) (Zv rfl (.bool true) (Zv rfl (.bool true) (Zv rfl (pt w.heap.size 2) (Zw rfl (.slice oS S.T.length cS) (el (M2.cell 2 rfl) Tryz.underlying35) (Zv rfl (pt W1.heap.size 2) (Zw rfl (.slice oR R.T.length cR) (el (M4.cell 2 rfl) Tryz.underlying35) ?_))))))
     by_cases C5 : (decide (S.T = R.T)) = true
     ·refine Zd rfl ((by have h8 := eqTimes_n oS oR cS cR bS qS bR qR S.T R.T lS W3 (hS.below HB) (hR.below HB); rw [show (decide (S.T = R.T)) = true by simpa using C5] at h8; exact h8)) (fun W5 hb z3 => ?_)
      replace HB := over HB hb
      clear hb
      refine Zv rfl (.bool true) (Zv rfl (.bool true) (Yn (Yo (wp_ret ?_))))
      refine sx_ret1 (.bool true) rfl rfl (by kernel_rfl) ⟨by rw [decide_eq_true (sh_ext ⟨by assumption, by assumption, by assumption, by assumption, by simp_all⟩)], HB⟩
     refine Zd rfl ((by have h8 := eqTimes_n oS oR cS cR bS qS bR qR S.T R.T lS W3 (hS.below HB) (hR.below HB); rw [show (decide (S.T = R.T)) = false by simpa using C5] at h8; exact h8)) (fun W6 hb z3 => ?_)
     replace HB := over HB hb
     clear hb
     refine Zv rfl (.bool false) (Zv rfl (.bool false) (Yn (Yo (wp_ret ?_))))
     refine sx_ret1 (.bool false) rfl rfl (by kernel_rfl) ⟨by rw [decide_eq_false (fun h => by subst h; simp_all)], HB⟩
    refine Zb rfl ((S.m : Int) == (R.m : Int)) false (beq_eq_false_iff_ne.2 (by omega)) (Zv rfl (.bool false) (Zv rfl (.bool false) (Zk rfl (Zk rfl (Zk rfl (Zk rfl (Zk rfl (Zv rfl (.bool false) (Zv rfl (.bool false) (Yn (Yo (wp_ret ?_))))))))))))
    refine sx_ret1 (.bool false) rfl rfl (by kernel_rfl) ⟨by rw [decide_eq_false (fun h => by subst h; simp_all)], HB⟩
   refine Zb rfl ((S.e : Int) == (R.e : Int)) false (beq_eq_false_iff_ne.2 (by omega)) (Zv rfl (.bool false) (Zv rfl (.bool false) (Zk rfl (Zk rfl (Zk rfl (Zk rfl (Zk rfl (Zv rfl (.bool false) (Zv rfl (.bool false) (Zk rfl (Zk rfl ?_)))))))))))
   refine Zk rfl (Zk rfl (Zk rfl (Zv rfl (.bool false) (Zv rfl (.bool false) (Yn (Yo (wp_ret ?_)))))))
   refine sx_ret1 (.bool false) rfl rfl (by kernel_rfl) ⟨by rw [decide_eq_false (fun h => by subst h; simp_all)], HB⟩
  refine Zb rfl ((S.d : Int) == (R.d : Int)) false (beq_eq_false_iff_ne.2 (by omega)) (Zv rfl (.bool false) (Zv rfl (.bool false) (Zk rfl (Zk rfl (Zk rfl (Zk rfl (Zk rfl (Zv rfl (.bool false) (Zv rfl (.bool false) (Zk rfl (Zk rfl ?_)))))))))))
  refine Zk rfl (Zk rfl (Zk rfl (Zv rfl (.bool false) (Zv rfl (.bool false) (Zk rfl (Zk rfl (Zk rfl (Zk rfl (Zk rfl (Zv rfl (.bool false) (Zv rfl (.bool false) ?_)))))))))))
  refine Yn (Yo (wp_ret ?_))
  refine sx_ret1 (.bool false) rfl rfl (by kernel_rfl) ⟨by rw [decide_eq_false (fun h => by subst h; simp_all)], HB⟩
 refine Zb rfl ((S.r == R.r)) false (by simp [C1]) (Zv rfl (.bool false) (Zk rfl (Zk rfl (Zk rfl (Zk rfl (Zk rfl (Zv rfl (.bool false) (Zv rfl (.bool false) (Zk rfl (Zk rfl (Zk rfl ?_)))))))))))
 refine Zk rfl (Zk rfl (Zv rfl (.bool false) (Zv rfl (.bool false) (Zk rfl (Zk rfl (Zk rfl (Zk rfl (Zk rfl (Zv rfl (.bool false) (Zv rfl (.bool false) (Zk rfl ?_)))))))))))
 refine Zk rfl (Zk rfl (Zk rfl (Zk rfl (Zv rfl (.bool false) (Zv rfl (.bool false) (Yn (Yo (wp_ret ?_))))))))
 refine sx_ret1 (.bool false) rfl rfl (by kernel_rfl) ⟨by rw [decide_eq_false (fun h => by subst h; simp_all)], HB⟩

end Go.Proofs.YtomebalolmabnaaGreatDoor.T



