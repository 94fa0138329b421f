/-
  DERIVED. GE: a part of the base of layer 13 (made by pack.py).
-/
import Derived.Test.YtomebalolmabnaaDoorGA
import Derived.Test.YtomebalolmabnaaDoorGD
import Derived.Test.YtomebalolmabnaaDoorGB
/-! The arcs of a course alone; the rests that are found, in plain numbers. -/
namespace Go.Proofs.YtomebalolmabnaaDoor.T
open Go.RowKit
set_option maxRecDepth 8000

theorem once_pw {l : List ArcT} : (∀ i, i < l.length → twiceB l (l.getD i arc0) i = false) ↔ l.Pairwise fun a b => likeB b a = false := by
 rw [List.pairwise_iff_getElem]
 have hg : ∀ i (h : i < l.length), l.getD i arc0 = l[i] := fun i h => by rw [List.getD_eq_getElem?_getD, List.getElem?_eq_getElem h]; rfl
 constructor
 ·intro h i j hi hj hij
  have h1 := h j hj
  unfold twiceB at h1
  rw [List.any_eq_false] at h1
  have h2 := h1 l[i] (by rw [List.mem_take_iff_getElem]; exact ⟨i, by omega, rfl⟩)
  rw [hg j hj] at h2
  simpa using h2
 ·intro h i hi
  unfold twiceB
  rw [List.any_eq_false]
  intro a ha
  obtain ⟨j, hj, rfl⟩ := List.mem_take_iff_getElem.1 ha
  have h2 := h j i (by omega) hi (by omega)
  rw [hg i hi]
  simpa using h2
theorem NetOk.filter {pl : List ByteArray} {l : List ArcT} (h : NetOk pl l) (p : ArcT → Bool) : NetOk pl (l.filter p) := by
 refine ⟨h.places, fun i hi => ?_, ?_⟩
 ·have hm : (l.filter p).getD i arc0 ∈ l.filter p := by rw [List.getD_eq_getElem?_getD, List.getElem?_eq_getElem hi]; exact List.getElem_mem hi
  exact h.mem (List.mem_filter.1 hm).1
 ·rw [once_pw]
  exact (once_pw.1 h.once).filter p
namespace CrT
def sm (c : CrT) : CrT := { c with al := c.few }
theorem sm_ok {c : CrT} (h : c.Ok) : c.sm.Ok := ⟨h.net.filter _, Nat.le_trans (List.length_filter_le _ _) h.al, h.rst, h.drv, h.len, h.st, h.rd, h.last⟩
theorem find_sm {c : CrT} {k : Nat} (hk : k < c.n) : findA c.few c.ty.prof (c.S.getD k st0).p (c.S.getD (k + 1) st0).p = findA c.al c.ty.prof (c.S.getD k st0).p (c.S.getD (k + 1) st0).p := by
 unfold findA few
 rw [List.find?_filter]
 congr 1
 funext a
 by_cases h : hitB c.ty.prof (c.S.getD k st0).p (c.S.getD (k + 1) st0).p a = true
 ·unfold hitB at h
  simp only [Bool.and_eq_true, decide_eq_true_eq] at h
  have hK : c.keepA a = true := by
   unfold keepA
   rw [decide_eq_true h.2, h.1.1, h.1.2, c.goesK_hit hk rfl rfl]
   rfl
  simp [hK]
 ·rw [Bool.eq_false_iff.2 h]
  simp
theorem go_sm {c : CrT} {k : Nat} (hk : k < c.n) (don : Int) (r : Bool) : c.sm.go k don r = c.go k don r := by
 show goV c.pl.length c.few c.ty.prof (c.S.getD k st0).p (c.S.getD (k + 1) st0).p (c.gD don r) = goV c.pl.length c.al c.ty.prof (c.S.getD k st0).p (c.S.getD (k + 1) st0).p (c.gD don r)
 unfold goV
 rw [find_sm hk]
theorem err_sm {c : CrT} {k : Nat} (hk : k < c.n) (don sin : Int) (r : Bool) : c.sm.err k don sin r = c.err k don sin r := by
 unfold err
 rw [go_sm hk]
 rfl
theorem leg_sm {c : CrT} {k : Nat} (hk : k < c.n) (don sin : Int) (r : Bool) : c.sm.leg k don sin r = c.leg k don sin r := by
 unfold leg beg
 rw [go_sm hk]
 rfl
theorem best_sm {c : CrT} (F : List Bool) : ∀ (m k : Nat), k + m = c.n → c.sm.best F m k = c.best F m k
 | 0, _, _ => rfl
 | m + 1, k, h => by
  funext don sin
  rw [best_succ, best_succ, best_sm F m (k + 1) (by omega)]
  congr 1
  funext b r
  unfold stB
  rw [err_sm (by omega), leg_sm (by omega)]
end CrT
theorem foldB_inv {st : ChT → Bool → ChT} (I : ChT → Prop) : ∀ (O : List Bool) (b : ChT), I b → (∀ b r, r ∈ O → I b → I (st b r)) → I (foldB st O b)
 | [], _, h, _ => h
 | r :: O, b, h, hs => by
  show I (if (st b r).f = true then st b r else foldB st O (st b r))
  have h1 := hs b r (by simp) h
  split
  ·exact h1
  ·exact foldB_inv I O _ h1 (fun b' r' hr => hs b' r' (by simp [hr]))
theorem best_step {c : CrT} {F : List Bool} {m k : Nat} {don sin : Int} (h : (c.best F (m + 1) k don sin).p = true) :
  (c.best F (m + 1) k don sin).r ∈ CrT.opts F k ∧ c.err k don sin (c.best F (m + 1) k don sin).r = 0 ∧ (c.best F m (k + 1) (c.leg k don sin (c.best F (m + 1) k don sin).r).don (c.leg k don sin (c.best F (m + 1) k don sin).r).sin).p = true ∧
   (c.best F (m + 1) k don sin).e = (c.best F m (k + 1) (c.leg k don sin (c.best F (m + 1) k don sin).r).don (c.leg k don sin (c.best F (m + 1) k don sin).r).sin).e := by
 have hI := foldB_inv (st := stB c (c.best F m (k + 1)) k don sin) (fun b => b.p = true → b.r ∈ CrT.opts F k ∧ c.err k don sin b.r = 0 ∧ (c.best F m (k + 1) (c.leg k don sin b.r).don (c.leg k don sin b.r).sin).p = true ∧ b.e = (c.best F m (k + 1) (c.leg k don sin b.r).don (c.leg k don sin b.r).sin).e) (CrT.opts F k) ch0 (fun h => by cases h) (fun b r hr hb => by
  unfold stB
  split
  ·rename_i h1
   split
   ·rename_i h2
    exact fun _ => ⟨hr, h1, h2.1, rfl⟩
   ·exact hb
  ·exact hb)
 rw [← c.best_succ] at hI
 exact hI h
namespace CrT
def wy (c : CrT) (F : List Bool) : Nat → Nat → Int → Int → List Bool
 | 0, _, _, _ => []
 | m + 1, k, don, sin => (c.best F (m + 1) k don sin).r :: wy c F m (k + 1) (c.leg k don sin (c.best F (m + 1) k don sin).r).don (c.leg k don sin (c.best F (m + 1) k don sin).r).sin
def fnd (c : CrT) (F : List Bool) : List Bool := c.wy F c.n 0 c.rd 0
theorem wy_len (c : CrT) (F : List Bool) : ∀ (m k : Nat) (don sin : Int), (c.wy F m k don sin).length = m
 | 0, _, _, _ => rfl
 | m + 1, k, don, sin => by
  show (wy c F m _ _ _).length + 1 = _
  rw [wy_len]
theorem fnd_len (c : CrT) (F : List Bool) : (c.fnd F).length = c.n := wy_len c F _ _ _ _
theorem wy_at {c : CrT} {F : List Bool} : ∀ {i : Nat}, i ≤ c.n → (c.fnd F).drop i = c.wy F (c.n - i) i (c.dn (c.fnd F) i).1 (c.dn (c.fnd F) i).2
 | 0, _ => rfl
 | i + 1, h => by
  have ih := wy_at (c := c) (F := F) (i := i) (by omega)
  rw [show c.n - i = (c.n - (i + 1)) + 1 by omega] at ih
  have h1 : (c.fnd F).drop i = (c.fnd F).getD i false :: (c.fnd F).drop (i + 1) := drop_more (d := false) (by rw [fnd_len]; omega)
  rw [h1] at ih
  have h2 := (List.cons.inj ih).1
  have h3 := (List.cons.inj ih).2
  rw [h3, dn_succ]
  unfold lg
  rw [h2]
theorem fnd_at {c : CrT} {F : List Bool} {i : Nat} (h : i < c.n) : (c.fnd F).getD i false = (c.best F (c.n - i) i (c.dn (c.fnd F) i).1 (c.dn (c.fnd F) i).2).r := by
 have ih := wy_at (c := c) (F := F) (i := i) (by omega)
 rw [show c.n - i = (c.n - (i + 1)) + 1 by omega] at ih
 have h1 : (c.fnd F).drop i = (c.fnd F).getD i false :: (c.fnd F).drop (i + 1) := drop_more (d := false) (by rw [fnd_len]; omega)
 rw [h1] at ih
 rw [show c.n - i = (c.n - (i + 1)) + 1 by omega]
 exact (List.cons.inj ih).1
theorem fnd_p {c : CrT} {F : List Bool} (h0 : (c.best F c.n 0 c.rd 0).p = true) : ∀ {i : Nat}, i ≤ c.n → c.run (c.fnd F) i = 0 ∧ (c.best F (c.n - i) i (c.dn (c.fnd F) i).1 (c.dn (c.fnd F) i).2).p = true ∧ (c.best F (c.n - i) i (c.dn (c.fnd F) i).1 (c.dn (c.fnd F) i).2).e = (c.best F c.n 0 c.rd 0).e
 | 0, _ => ⟨rfl, h0, rfl⟩
 | i + 1, h => by
  obtain ⟨h1, h2, h3⟩ := fnd_p h0 (i := i) (by omega)
  have h4 := fnd_at (c := c) (F := F) (i := i) (by omega)
  rw [show c.n - i = (c.n - (i + 1)) + 1 by omega] at h2 h3 h4
  have h5 := best_step h2
  rw [← h4] at h5
  refine ⟨?_, ?_, ?_⟩
  ·rw [run_succ, if_neg (fun h => h h1)]; exact h5.2.1
  ·rw [dn_succ]; exact h5.2.2.1
  ·rw [dn_succ, ← h3, h5.2.2.2]; rfl
theorem fnd_er {c : CrT} {F : List Bool} (h0 : (c.best F c.n 0 c.rd 0).p = true) {i : Nat} (h : i < c.n) : c.err i (c.dn (c.fnd F) i).1 (c.dn (c.fnd F) i).2 ((c.fnd F).getD i false) = 0 := run_er (fnd_p h0 (Nat.le_refl _)).1 h
theorem fnd_opt {c : CrT} {F : List Bool} (h0 : (c.best F c.n 0 c.rd 0).p = true) {i : Nat} (h : i < c.n) : (c.fnd F).getD i false ∈ opts F i := by
 obtain ⟨h1, h2, h3⟩ := fnd_p h0 (i := i) (by omega)
 have h4 := fnd_at (c := c) (F := F) (i := i) (by omega)
 rw [show c.n - i = (c.n - (i + 1)) + 1 by omega] at h2 h4
 rw [h4]
 exact (best_step h2).1
theorem fnd_fix {c : CrT} {F : List Bool} (h0 : (c.best F c.n 0 c.rd 0).p = true) (hF : F.length ≤ c.n) : (c.fnd F).take F.length = F := by
 apply List.ext_getElem?
 intro i
 by_cases hi : i < F.length
 ·have h1 := fnd_opt h0 (i := i) (by omega)
  unfold opts at h1
  rw [if_pos hi] at h1
  have h2 : (c.fnd F).getD i false = F.getD i false := by simpa using h1
  have hl : i < (c.fnd F).length := by rw [fnd_len]; omega
  rw [List.getElem?_take_of_lt hi, List.getElem?_eq_getElem hl, List.getElem?_eq_getElem hi]
  rw [List.getD_eq_getElem?_getD, List.getD_eq_getElem?_getD, List.getElem?_eq_getElem hl, List.getElem?_eq_getElem hi] at h2
  exact congrArg some h2
 ·rw [List.getElem?_eq_none (by rw [List.length_take]; omega), List.getElem?_eq_none (by omega)]
def mix (c : CrT) (F R : List Bool) (i : Nat) : List Bool := (c.fnd F).take i ++ R.drop i
theorem mix_len {c : CrT} {F R : List Bool} {i : Nat} (hR : R.length = c.n) (hi : i ≤ c.n) : (c.mix F R i).length = c.n := by
 unfold mix
 rw [List.length_append, List.length_take, fnd_len, List.length_drop]
 omega
theorem mix_set {c : CrT} {F R : List Bool} {i : Nat} (hR : R.length = c.n) (hi : i < c.n) : (c.mix F R i).set i ((c.fnd F).getD i false) = c.mix F R (i + 1) := by
 unfold mix
 have hl : ((c.fnd F).take i).length = i := by rw [List.length_take, fnd_len]; omega
 rw [drop_more (d := false) (show i < R.length by omega), take_more (d := false) (show i < (c.fnd F).length by rw [fnd_len]; exact hi), List.set_append_right _ _ (by omega), hl, Nat.sub_self, List.append_assoc]
 rfl
theorem mix_fix {c : CrT} {F R : List Bool} {i : Nat} (h0 : (c.best F c.n 0 c.rd 0).p = true) (hi : i ≤ c.n) (hF : F.length ≤ c.n) (h : R.take F.length = F) : (c.mix F R i).take F.length = F := by
 have h1 := fnd_fix h0 hF
 apply List.ext_getElem?
 intro j
 by_cases hj : j < F.length
 ·rw [List.getElem?_take_of_lt hj]
  unfold mix
  by_cases hji : j < i
  ·rw [List.getElem?_append_left (by rw [List.length_take, fnd_len]; omega), List.getElem?_take_of_lt hji]
   have := congrArg (·[j]?) h1
   simpa [List.getElem?_take_of_lt hj] using this
  ·have hl : ((c.fnd F).take i).length = i := by rw [List.length_take, fnd_len]; omega
   rw [List.getElem?_append_right (by omega), hl, List.getElem?_drop, show i + (j - i) = j by omega]
   have := congrArg (·[j]?) h
   simpa [List.getElem?_take_of_lt hj] using this
 ·rw [List.getElem?_eq_none (by rw [List.length_take]; omega), List.getElem?_eq_none (by omega)]
theorem mix_all {c : CrT} {F R : List Bool} (hR : R.length = c.n) : c.mix F R c.n = c.fnd F := by
 unfold mix
 rw [List.take_of_length_le (by rw [fnd_len]; exact Nat.le_refl _), List.drop_of_length_le (by omega), List.append_nil]
theorem mix_zero (c : CrT) (F R : List Bool) : c.mix F R 0 = R := by unfold mix; simp
end CrT
end Go.Proofs.YtomebalolmabnaaDoor.T



/-! The walk of drive: the rests that are found (by gen_dk.py). -/
namespace Go.Proofs.YtomebalolmabnaaDoor.T
open Go.RowKit
set_option maxRecDepth 8000
attribute [local irreducible] wpList Code.wp wpAnyH

def boE (r : Bool) : List Value := [.bool r]
theorem boRow : Row boE 1 := ⟨fun _ => rfl, fun x v hv => by
 simp only [boE, List.mem_cons, List.not_mem_nil, or_false] at hv
 subst hv; rfl⟩
theorem ex_sliceH {P : Program} {o : Oper} {n : Nat} {g : Nat → Value} {l : List (Nat × Value)} {w : World} {ty : TypeId} {x y : Operand} (ho : o.op = .slice ty x none (some y) none) {b q m c k s : Nat} (hx : ev n g l x = .slice (some ⟨b, q, none⟩) m c) (hy : ev n g l y = .int .i64 (k : Int)) (hk : k ≤ c) {e : TypeId}
  (hu : P.underlying ty = some (.slice e)) (hs : (P.info? e).map (·.size) = some s) : (execOp (ev n g l) o).run P w = .ok (.value (.slice (some ⟨b, q, none⟩) k c)) w := by
 have h2 : (sizeOf e).run P w = .ok s w := by
  cases hi : P.info? e with
  | none => rw [hi] at hs; cases hs
  | some i => rw [hi] at hs; simp only [Option.map_some, Option.some.injEq] at hs; simp [sizeOf, typeInfo, hi, hs]
 have hr : (Instr.sliceAt ty (.slice (some ⟨b, q, none⟩) m c) none (some (.int .i64 (k : Int))) none).run P w = .ok (.slice (some ⟨b, q, none⟩) k c) w := by
  unfold Instr.sliceAt Instr.slice Instr.sliceBounds Instr.sliceBound
  simp [asIntOf, Sem.run_bind, Sem.run_pure, Result.andThen_ok, run_underlying hu w, h2, Int.toNat_natCast]
  rw [if_pos hk]
  by_cases h0 : c = 0
  ·simp [h0]
  ·simp [h0, add_addr]
 unfold execOp
 simp only [ho, hx, hy, Option.map_some, Option.map_none, hr, Sem.run_bind, Sem.run_pure, Result.andThen_ok]
end Go.Proofs.YtomebalolmabnaaDoor.T



/-! The walks of drive: equal lists; the rests of a schedule; equal schedules (by gen_dn.py). -/
namespace Go.Proofs.YtomebalolmabnaaDoor.T
open Go.RowKit
set_option maxRecDepth 8000
attribute [local irreducible] wpList Code.wp wpAnyH

theorem eqT (a a' b b' c c' : Int) (d d' : Bool) (w : World) : (Op.equalIn 10000 51 (.agg #[.int .i64 a, .int .i64 b, .int .i64 c, .bool d]) (.agg #[.int .i64 a', .int .i64 b', .int .i64 c', .bool d'])).run Tryd.prog w = .ok (a == a' && b == b' && c == c' && d == d') w := by
 have u3 := Tryd.underlying3
 have u4 := Tryd.underlying4
 have a3 := Tryd.isAgg3
 have z3 := Tryd.sizeOf3
 have a4 := Tryd.isAgg4
 have z4 := Tryd.sizeOf4
 have hS : Tryd.prog.underlying 51 = some (.struct (Tryd.prog.fieldsOf 51)) := by kernel_rfl
 have hp : Tryd.prog.stoodInHeld 51 = false := by kernel_rfl
 rw [show (10000 : Nat) = 9999 + 1 from rfl, run_equalIn_agg w 9999 51 _ _ hS hp]
 simp only [Program.fieldsOf, Tryd.underlying51]
 go_simp
 by_cases h1 : a = a' <;> by_cases h2 : b = b' <;> by_cases h3 : c = c' <;> by_cases h4 : d = d' <;> simp [h1, h2, h3, h4]
theorem ex_neqT {n : Nat} {g : Nat → Value} {l : List (Nat × Value)} {w : World} {o : Oper} {x y : Operand} {ty2 : TypeId} (ho : o.op = .binOp .neq 51 x y ty2) {a a' b b' c c' : Int} {d d' : Bool} (hx : ev n g l x = .agg #[.int .i64 a, .int .i64 b, .int .i64 c, .bool d]) (hy : ev n g l y = .agg #[.int .i64 a', .int .i64 b', .int .i64 c', .bool d']) :
  (execOp (ev n g l) o).run Tryd.prog w = .ok (.value (.bool (!(a == a' && b == b' && c == c' && d == d')))) w := by
 unfold execOp
 simp only [ho, hx, hy, run_eqGuard_agg w .neq 51 x y _ _ (by kernel_rfl : Tryd.prog.eqGuardType Tryd.prog.depth 51 = false), Sem.run_bind, run_neq_struct, eqT, Result.andThen_ok, Sem.run_pure]
theorem eqv_t {a a' b b' c c' : Int} {d d' : Bool} (h : a = a' ∧ b = b' ∧ c = c' ∧ d = d') : (a == a' && b == b' && c == c' && d == d') = true := by rw [h.1, h.2.1, h.2.2.1, h.2.2.2]; simp
theorem eqv_f {a a' b b' c c' : Int} {d d' : Bool} (h : ¬ (a = a' ∧ b = b' ∧ c = c' ∧ d = d')) : (a == a' && b == b' && c == c' && d == d') = false := by
 rw [Bool.eq_false_iff]
 intro h9
 simp only [Bool.and_eq_true, beq_iff_eq] at h9
 exact h ⟨h9.1.1.1, h9.1.1.2, h9.1.2, h9.2⟩
theorem ext_getD {α : Type} {d : α} {a b : List α} (hl : a.length = b.length) (h : ∀ i, i < a.length → a.getD i d = b.getD i d) : a = b := by
 apply List.ext_getElem hl
 intro i h1 h2
 have h3 := h i h1
 rw [List.getD_eq_getElem?_getD, List.getD_eq_getElem?_getD, List.getElem?_eq_getElem h1, List.getElem?_eq_getElem h2] at h3
 exact h3
theorem ext_more {α : Type} {d : α} {a b : List α} {j : Nat} (h : ∀ i, i < j → a.getD i d = b.getD i d) (e : a.getD j d = b.getD j d) : ∀ i, i < j + 1 → a.getD i d = b.getD i d := fun i hi => by
 rcases Nat.lt_or_eq_of_le (Nat.le_of_lt_succ hi) with h1 | h1
 ·exact h i h1
 ·rw [h1]; exact e
theorem tm_ext {a b : TmT} (h : a.a = b.a ∧ a.b = b.b ∧ a.d = b.d ∧ a.r = b.r) : a = b := by
 cases a; cases b; simp only [TmT.mk.injEq]; exact h
theorem eqBools_n (oa ob : Option Addr) (ca cb pa qa pb qb : Nat) (a b : List Bool) (la : a.length ≤ 1000000) (w : World) (hra : Rw w pa qa 1 (bF a) a.length oa) (hrb : Rw w pb qb 1 (bF b) b.length ob) : Calls Tryd.prog 67 #[.slice oa a.length ca, .slice ob b.length cb] w fun e w' => e = .returned (.bool (decide (a = b))) ∧ Below w.heap.size w w' := by
 have HB : Below w.heap.size w w := Below.refl _ _
 refine sx_enter Tryd.func67 rfl [(0, .slice oa a.length ca), (1, .slice ob b.length cb)] (by kernel_rfl) ?_
 refine wp_seq (wp_region_lit ?_)
 refine Zv rfl (.bool false) ?_
 refine wpList_nil (sx_norm (wp_seq (wp_seq (wp_region_lit ?_))))
 refine Zv rfl (.slice oa a.length ca) ?_
 refine Zv rfl (.int .i64 ((a.length : Nat) : Int)) ?_
 refine Zv rfl (.slice ob b.length cb) ?_
 refine Zv rfl (.int .i64 ((b.length : Nat) : Int)) ?_
 by_cases C1 : a.length = b.length
 ·refine Zb rfl ((((a.length : Nat) : Int) : Int) != (((b.length : Nat) : Int) : Int)) false (by rw [bne_eq_false_iff_eq]; omega) ?_
  refine wpList_nil (sx_norm ?_)
  refine sx_false (by kernel_rfl) ?_
  refine wp_skip (sx_norm (wp_seq (wp_seq (wp_region_lit ?_))))
  refine Zv rfl (.slice oa a.length ca) ?_
  refine Zv rfl (.int .i64 ((a.length : Nat) : Int)) ?_
  refine Zv rfl (.int .i64 0) ?_
  refine wpList_nil (sx_norm (wp_block ?_))
  refine sx_loop (fun j : Nat => [(0, .slice oa a.length ca), (1, .slice ob b.length cb), (6, .slice oa a.length ca), (7, .int .i64 ((a.length : Nat) : Int)), (8, .slice ob b.length cb), (9, .int .i64 ((b.length : Nat) : Int)), (10, .bool false), (11, .slice oa a.length ca), (12, .int .i64 ((a.length : Nat) : Int)), (13, .int .i64 ((j : Nat) : Int))]) (fun gg j wr => j ≤ a.length ∧ a.length - j ≤ gg ∧ (∀ i, i < j → a.getD i false = b.getD i false) ∧ Below w.heap.size w wr) (a.length) (0) (by kernel_rfl) ⟨Nat.zero_le _, Nat.le_refl _, (fun i hi => absurd hi (Nat.not_lt_zero i)), Below.refl _ _⟩ ?_
  rintro gg j g' wr1 ⟨hj, hg, hI, hbl⟩
  replace HB := over HB hbl
  have z1 := hbl.size
  have HL := hbl
  clear hbl
  refine wp_seq (wp_region_lit ?_)
  by_cases C2 : j < a.length
  ·refine Zb rfl (decide (((j : Nat) : Int) < ((a.length : Nat) : Int))) true (decide_eq_true (by omega)) ?_
   refine wpList_nil (sx_norm (wp_seq ?_))
   refine sx_true (by kernel_rfl) ?_
   refine wp_skip (sx_norm (wp_seq (wp_block (wp_seq (wp_region_lit ?_)))))
   refine Zv rfl (.int .i64 ((j : Nat) : Int)) ?_
   refine Zv rfl (.int .i64 ((j : Nat) : Int)) ?_
   refine wpList_nil (sx_norm (wp_seq ?_))
   obtain ⟨Y2, hW⟩ : ∃ W, wr1.drew = W := ⟨_, rfl⟩
   have hb : Below wr1.heap.size wr1 Y2 := hW ▸ below_drew (Below.refl _ _)
   replace HB := over HB hb
   replace HL := over HL hb
   have z2 := hb.size
   clear hb
   refine sd_begin (fun W => Rw W pa qa 1 (bF a) a.length oa ∧ Rw W pb qb 1 (bF b) b.length ob ∧ True) (by kernel_rfl) (by rw [hW]; exact ⟨(hra.below HB), (hrb.below HB), trivial⟩) ?_
   rw [hW]
   clear hW
   refine Zu 0 rfl rfl (.slice oa a.length ca) ⟨(hra.below HB), (hrb.below HB), trivial⟩ ?_
   refine Zu 1 rfl rfl (.int .i64 ((j : Nat) : Int)) ⟨(hra.below HB), (hrb.below HB), trivial⟩ ?_
   refine Zt 2 rfl rfl (.pointer (some ⟨pa, qa + j * 1, none⟩)) (fun w9 h9 => ex_indexO (q := qa) (m := a.length) (c := ca) (k := j) (s := 1) rfl (by kernel_rfl) (h9.1.oa (k := j) (by omega)) (by kernel_rfl) Tryd.underlying31 (by kernel_rfl) (by omega) (by omega)) ⟨(hra.below HB), (hrb.below HB), trivial⟩ ?_
   refine Zt 3 rfl rfl (.bool (a.getD j false)) (fun w9 h9 => el (h9.1.cell (k := j) (by omega) 0 rfl) Tryd.underlying4) ⟨(hra.below HB), (hrb.below HB), trivial⟩ ?_
   refine Zu 4 rfl rfl (.slice ob b.length cb) ⟨(hra.below HB), (hrb.below HB), trivial⟩ ?_
   refine Zu 5 rfl rfl (.int .i64 ((j : Nat) : Int)) ⟨(hra.below HB), (hrb.below HB), trivial⟩ ?_
   refine Zt 6 rfl rfl (.pointer (some ⟨pb, qb + j * 1, none⟩)) (fun w9 h9 => ex_indexO (q := qb) (m := b.length) (c := cb) (k := j) (s := 1) rfl (by kernel_rfl) (h9.2.1.oa (k := j) (by omega)) (by kernel_rfl) Tryd.underlying31 (by kernel_rfl) (by omega) (by omega)) ⟨(hra.below HB), (hrb.below HB), trivial⟩ ?_
   refine Zt 7 rfl rfl (.bool (b.getD j false)) (fun w9 h9 => el (h9.2.1.cell (k := j) (by omega) 0 rfl) Tryd.underlying4) ⟨(hra.below HB), (hrb.below HB), trivial⟩ ?_
   by_cases C3 : (a.getD j false) = (b.getD j false)
   ·refine Zt 8 rfl rfl (.bool false) (fun w9 _ => ex_bool (((a.getD j false) != (b.getD j false))) false (by kernel_rfl) (by rw [C3]; exact bne_self_eq_false _)) ⟨(hra.below HB), (hrb.below HB), trivial⟩ ?_
    refine sd_done (by kernel_rfl) ?_
    refine sx_norm ?_
    refine sx_false (by kernel_rfl) ?_
    refine wp_skip ?_
    refine sx_in ?_
    refine sx_norm (wp_region_lit ?_)
    refine sx_int (by kernel_rfl) rfl rfl .i64 (IntKind.i64.wrap (((j : Nat) : Int) + 1)) (((j + 1 : Nat) : Int)) (by kernel_rfl) (by rw [IntKind.wrap_i64]; omega) ?_
    refine Zv rfl (.int .i64 ((j + 1 : Nat) : Int)) ?_
    refine wpList_nil (sx_norm ?_)
    exact sx_again (a.length - (j + 1)) (j + 1) (by omega) (by kernel_rfl) ⟨by omega, Nat.le_refl _, ext_more hI (by assumption), HL⟩
   refine Zt 8 rfl rfl (.bool true) (fun w9 _ => ex_bool (((a.getD j false) != (b.getD j false))) true (by kernel_rfl) (bne_iff_ne.2 C3)) ⟨(hra.below HB), (hrb.below HB), trivial⟩ ?_
   refine sd_done (by kernel_rfl) ?_
   refine sx_norm ?_
   refine sx_true (by kernel_rfl) ?_
   refine wp_seq (wp_region_lit ?_)
   refine Zv rfl (.bool false) ?_
   refine wpList_nil (sx_norm (wp_ret ?_))
   refine sx_rb ?_
   refine sx_rs (sx_rs ?_)
   refine sx_rb ?_
   refine sx_rs ?_
   refine sx_ret1 (.bool false) rfl rfl (by kernel_rfl) ⟨by rw [decide_eq_false (fun h => absurd (by rw [h]) (by assumption : ¬ a.getD j false = b.getD j false))], HB⟩
  refine Zb rfl (decide (((j : Nat) : Int) < ((a.length : Nat) : Int))) false (decide_eq_false (by omega)) ?_
  refine wpList_nil (sx_norm (wp_seq ?_))
  refine sx_false (by kernel_rfl) ?_
  refine wp_exit ?_
  refine sx_es ?_
  refine sx_es ?_
  refine sx_out ?_
  refine sx_norm (wp_seq (wp_region_lit ?_))
  refine Zv rfl (.bool true) ?_
  refine wpList_nil (sx_norm (wp_ret ?_))
  refine sx_ret1 (.bool true) rfl rfl (by kernel_rfl) ⟨by rw [decide_eq_true (ext_getD (d := false) (by omega) (fun i hi => hI i (by omega)))], HB⟩
 refine Zb rfl ((((a.length : Nat) : Int) : Int) != (((b.length : Nat) : Int) : Int)) true (bne_iff_ne.2 (by omega)) ?_
 refine wpList_nil (sx_norm ?_)
 refine sx_true (by kernel_rfl) ?_
 refine wp_seq (wp_region_lit ?_)
 refine Zv rfl (.bool false) ?_
 refine wpList_nil (sx_norm (wp_ret (sx_rs ?_)))
 refine sx_ret1 (.bool false) rfl rfl (by kernel_rfl) ⟨by rw [decide_eq_false (fun h => by have h9 := congrArg List.length h; omega)], HB⟩
theorem eqTimes_n (oa ob : Option Addr) (ca cb pa qa pb qb : Nat) (a b : List TmT) (la : a.length ≤ 1000000) (w : World) (hra : Rw w pa qa 4 (fun k => tmE (a.getD k tm0)) a.length oa) (hrb : Rw w pb qb 4 (fun k => tmE (b.getD k tm0)) b.length ob) : Calls Tryd.prog 87 #[.slice oa a.length ca, .slice ob b.length cb] w fun e w' => e = .returned (.bool (decide (a = b))) ∧ Below w.heap.size w w' := by
 have HB : Below w.heap.size w w := Below.refl _ _
 refine sx_enter Tryd.func87 rfl [(0, .slice oa a.length ca), (1, .slice ob b.length cb)] (by kernel_rfl) ?_
 refine wp_seq (wp_region_lit ?_)
 refine Zv rfl (.bool false) ?_
 refine wpList_nil (sx_norm (wp_seq (wp_seq (wp_region_lit ?_))))
 refine Zv rfl (.slice oa a.length ca) ?_
 refine Zv rfl (.int .i64 ((a.length : Nat) : Int)) ?_
 refine Zv rfl (.slice ob b.length cb) ?_
 refine Zv rfl (.int .i64 ((b.length : Nat) : Int)) ?_
 by_cases C1 : a.length = b.length
 ·refine Zb rfl ((((a.length : Nat) : Int) : Int) != (((b.length : Nat) : Int) : Int)) false (by rw [bne_eq_false_iff_eq]; omega) ?_
  refine wpList_nil (sx_norm ?_)
  refine sx_false (by kernel_rfl) ?_
  refine wp_skip (sx_norm (wp_seq (wp_seq (wp_region_lit ?_))))
  refine Zv rfl (.slice oa a.length ca) ?_
  refine Zv rfl (.int .i64 ((a.length : Nat) : Int)) ?_
  refine Zv rfl (.int .i64 0) ?_
  refine wpList_nil (sx_norm (wp_block ?_))
  refine sx_loop (fun j : Nat => [(0, .slice oa a.length ca), (1, .slice ob b.length cb), (6, .slice oa a.length ca), (7, .int .i64 ((a.length : Nat) : Int)), (8, .slice ob b.length cb), (9, .int .i64 ((b.length : Nat) : Int)), (10, .bool false), (11, .slice oa a.length ca), (12, .int .i64 ((a.length : Nat) : Int)), (13, .int .i64 ((j : Nat) : Int))]) (fun gg j wr => j ≤ a.length ∧ a.length - j ≤ gg ∧ (∀ i, i < j → a.getD i tm0 = b.getD i tm0) ∧ Below w.heap.size w wr) (a.length) (0) (by kernel_rfl) ⟨Nat.zero_le _, Nat.le_refl _, (fun i hi => absurd hi (Nat.not_lt_zero i)), Below.refl _ _⟩ ?_
  rintro gg j g' wr1 ⟨hj, hg, hI, hbl⟩
  replace HB := over HB hbl
  have z1 := hbl.size
  have HL := hbl
  clear hbl
  refine wp_seq (wp_region_lit ?_)
  by_cases C2 : j < a.length
  ·refine Zb rfl (decide (((j : Nat) : Int) < ((a.length : Nat) : Int))) true (decide_eq_true (by omega)) ?_
   refine wpList_nil (sx_norm (wp_seq ?_))
   refine sx_true (by kernel_rfl) ?_
   refine wp_skip (sx_norm (wp_seq (wp_block (wp_seq (wp_region_lit ?_)))))
   refine Zv rfl (.int .i64 ((j : Nat) : Int)) ?_
   refine Zv rfl (.int .i64 ((j : Nat) : Int)) ?_
   refine wpList_nil (sx_norm (wp_seq ?_))
   obtain ⟨Y2, hW⟩ : ∃ W, wr1.drew = W := ⟨_, rfl⟩
   have hb : Below wr1.heap.size wr1 Y2 := hW ▸ below_drew (Below.refl _ _)
   replace HB := over HB hb
   replace HL := over HL hb
   have z2 := hb.size
   clear hb
   refine sd_begin (fun W => Rw W pa qa 4 (fun k => tmE (a.getD k tm0)) a.length oa ∧ Rw W pb qb 4 (fun k => tmE (b.getD k tm0)) b.length ob ∧ True) (by kernel_rfl) (by rw [hW]; exact ⟨(hra.below HB), (hrb.below HB), trivial⟩) ?_
   rw [hW]
   clear hW
   refine Zu 0 rfl rfl (.slice oa a.length ca) ⟨(hra.below HB), (hrb.below HB), trivial⟩ ?_
   refine Zu 1 rfl rfl (.int .i64 ((j : Nat) : Int)) ⟨(hra.below HB), (hrb.below HB), trivial⟩ ?_
   refine Zt 2 rfl rfl (.pointer (some ⟨pa, qa + j * 4, none⟩)) (fun w9 h9 => ex_indexO (q := qa) (m := a.length) (c := ca) (k := j) (s := 4) rfl (by kernel_rfl) (h9.1.oa (k := j) (by omega)) (by kernel_rfl) Tryd.underlying35 (by kernel_rfl) (by omega) (by omega)) ⟨(hra.below HB), (hrb.below HB), trivial⟩ ?_
   refine Zt 3 rfl rfl (.agg #[.int .i64 ((a.getD j tm0).a), .int .i64 ((a.getD j tm0).b), .int .i64 ((a.getD j tm0).d), .bool (a.getD j tm0).r]) (fun w9 h9 => ex_loadR rfl (h9.1.range (k := j) (by omega)) (by kernel_rfl) Tryd.underlying51 rfl (by kernel_rfl)) ⟨(hra.below HB), (hrb.below HB), trivial⟩ ?_
   refine Zu 4 rfl rfl (.slice ob b.length cb) ⟨(hra.below HB), (hrb.below HB), trivial⟩ ?_
   refine Zu 5 rfl rfl (.int .i64 ((j : Nat) : Int)) ⟨(hra.below HB), (hrb.below HB), trivial⟩ ?_
   refine Zt 6 rfl rfl (.pointer (some ⟨pb, qb + j * 4, none⟩)) (fun w9 h9 => ex_indexO (q := qb) (m := b.length) (c := cb) (k := j) (s := 4) rfl (by kernel_rfl) (h9.2.1.oa (k := j) (by omega)) (by kernel_rfl) Tryd.underlying35 (by kernel_rfl) (by omega) (by omega)) ⟨(hra.below HB), (hrb.below HB), trivial⟩ ?_
   refine Zt 7 rfl rfl (.agg #[.int .i64 ((b.getD j tm0).a), .int .i64 ((b.getD j tm0).b), .int .i64 ((b.getD j tm0).d), .bool (b.getD j tm0).r]) (fun w9 h9 => ex_loadR rfl (h9.2.1.range (k := j) (by omega)) (by kernel_rfl) Tryd.underlying51 rfl (by kernel_rfl)) ⟨(hra.below HB), (hrb.below HB), trivial⟩ ?_
   by_cases C3 : (a.getD j tm0).a = (b.getD j tm0).a ∧ (a.getD j tm0).b = (b.getD j tm0).b ∧ (a.getD j tm0).d = (b.getD j tm0).d ∧ (a.getD j tm0).r = (b.getD j tm0).r
   ·refine Zt 8 rfl rfl (.bool false) (fun w9 h9 => ex_bool (!((a.getD j tm0).a == (b.getD j tm0).a && (a.getD j tm0).b == (b.getD j tm0).b && (a.getD j tm0).d == (b.getD j tm0).d && (a.getD j tm0).r == (b.getD j tm0).r)) false (ex_neqT rfl (by kernel_rfl) (by kernel_rfl)) (by rw [eqv_t C3]; rfl)) ⟨(hra.below HB), (hrb.below HB), trivial⟩ ?_
    refine sd_done (by kernel_rfl) ?_
    refine sx_norm ?_
    refine sx_false (by kernel_rfl) ?_
    refine wp_skip ?_
    refine sx_in ?_
    refine sx_norm (wp_region_lit ?_)
    refine sx_int (by kernel_rfl) rfl rfl .i64 (IntKind.i64.wrap (((j : Nat) : Int) + 1)) (((j + 1 : Nat) : Int)) (by kernel_rfl) (by rw [IntKind.wrap_i64]; omega) ?_
    refine Zv rfl (.int .i64 ((j + 1 : Nat) : Int)) ?_
    refine wpList_nil (sx_norm ?_)
    exact sx_again (a.length - (j + 1)) (j + 1) (by omega) (by kernel_rfl) ⟨by omega, Nat.le_refl _, ext_more hI (tm_ext (by assumption)), HL⟩
   refine Zt 8 rfl rfl (.bool true) (fun w9 h9 => ex_bool (!((a.getD j tm0).a == (b.getD j tm0).a && (a.getD j tm0).b == (b.getD j tm0).b && (a.getD j tm0).d == (b.getD j tm0).d && (a.getD j tm0).r == (b.getD j tm0).r)) true (ex_neqT rfl (by kernel_rfl) (by kernel_rfl)) (by rw [eqv_f C3]; rfl)) ⟨(hra.below HB), (hrb.below HB), trivial⟩ ?_
   refine sd_done (by kernel_rfl) ?_
   refine sx_norm ?_
   refine sx_true (by kernel_rfl) ?_
   refine wp_seq (wp_region_lit ?_)
   refine Zv rfl (.bool false) ?_
   refine wpList_nil (sx_norm (wp_ret ?_))
   refine sx_rb ?_
   refine sx_rs (sx_rs ?_)
   refine sx_rb ?_
   refine sx_rs ?_
   refine sx_ret1 (.bool false) rfl rfl (by kernel_rfl) ⟨by rw [decide_eq_false (fun h => absurd (by rw [h]; exact ⟨rfl, rfl, rfl, rfl⟩) (by assumption : ¬ ((a.getD j tm0).a = (b.getD j tm0).a ∧ (a.getD j tm0).b = (b.getD j tm0).b ∧ (a.getD j tm0).d = (b.getD j tm0).d ∧ (a.getD j tm0).r = (b.getD j tm0).r)))], HB⟩
  refine Zb rfl (decide (((j : Nat) : Int) < ((a.length : Nat) : Int))) false (decide_eq_false (by omega)) ?_
  refine wpList_nil (sx_norm (wp_seq ?_))
  refine sx_false (by kernel_rfl) ?_
  refine wp_exit ?_
  refine sx_es ?_
  refine sx_es ?_
  refine sx_out ?_
  refine sx_norm (wp_seq (wp_region_lit ?_))
  refine Zv rfl (.bool true) ?_
  refine wpList_nil (sx_norm (wp_ret ?_))
  refine sx_ret1 (.bool true) rfl rfl (by kernel_rfl) ⟨by rw [decide_eq_true (ext_getD (d := tm0) (by omega) (fun i hi => hI i (by omega)))], HB⟩
 refine Zb rfl ((((a.length : Nat) : Int) : Int) != (((b.length : Nat) : Int) : Int)) true (bne_iff_ne.2 (by omega)) ?_
 refine wpList_nil (sx_norm ?_)
 refine sx_true (by kernel_rfl) ?_
 refine wp_seq (wp_region_lit ?_)
 refine Zv rfl (.bool false) ?_
 refine wpList_nil (sx_norm (wp_ret (sx_rs ?_)))
 refine sx_ret1 (.bool false) rfl rfl (by kernel_rfl) ⟨by rw [decide_eq_false (fun h => by have h9 := congrArg List.length h; omega)], HB⟩
def ShT.rts (S : ShT) : List Bool := S.r :: S.T.map (·.r)
def rtsK (S : ShT) (i : Nat) : List Bool := S.r :: (S.T.take i).map (·.r)
theorem rtsK_len {S : ShT} {i : Nat} (h : i ≤ S.T.length) : (rtsK S i).length = i + 1 := by unfold rtsK; simp [Nat.min_eq_left h]
theorem rtsK_more {S : ShT} {i : Nat} (h : i < S.T.length) : rtsK S (i + 1) = rtsK S i ++ [(S.T.getD i tm0).r] := by
 unfold rtsK
 rw [take_more (d := tm0) h, List.map_append]
 rfl
theorem rts_len (S : ShT) : S.rts.length = S.T.length + 1 := by unfold ShT.rts; simp
theorem rtsK_all (S : ShT) : rtsK S S.T.length = S.rts := by unfold rtsK ShT.rts; rw [List.take_length]
theorem restsOf_n (S : ShT) (oS : Option Addr) (cS bS qS : Nat) (lS : S.T.length ≤ 300000) (w : World) (hT : Rw w bS qS 4 (fun k => tmE (S.T.getD k tm0)) S.T.length oS) : Calls Tryd.prog 66 #[.agg #[.bool S.r, .int .i64 S.d, .slice oS S.T.length cS, .int .i64 S.e, .int .i64 S.m]] w fun e w' => ∃ b9 c9, e = .returned (.slice (some ⟨b9, 0, none⟩) S.rts.length c9) ∧ S.rts.length ≤ c9 ∧ Rw w' b9 0 1 (bF S.rts) S.rts.length (some ⟨b9, 0, none⟩) ∧ w.heap.size ≤ b9 ∧ Below w.heap.size w w' := by
 have HB : Below w.heap.size w w := Below.refl _ _
 refine sx_enter Tryd.func66 rfl [(0, .agg #[.bool S.r, .int .i64 S.d, .slice oS S.T.length cS, .int .i64 S.e, .int .i64 S.m])] (by kernel_rfl) ?_
 refine wp_seq (wp_region_lit ?_)
 obtain ⟨W1, hW, hb, hq⟩ := laidA w #[.bool S.r, .int .i64 S.d, .slice oS S.T.length cS, .int .i64 S.e, .int .i64 S.m] 37
 refine sx_mem (by kernel_rfl) rfl rfl (.pointer (some ⟨w.heap.size, 0, none⟩)) W1 (by rw [← hW]; kernel_rfl) ?_
 replace HB := over HB hb
 have z1 := hb.size
 have M2 := hq
 have yM2 := hq.lt
 clear hq hb hW
 refine Zv rfl (.slice none 0 0) ?_
 refine wpList_nil (sx_norm (wp_seq (wp_region_lit ?_)))
 refine Zv rfl (.pointer (some ⟨w.heap.size, 2, none⟩)) ?_
 refine Zw rfl (.slice oS S.T.length cS) (el (M2.cell 2 rfl) Tryd.underlying35) ?_
 refine Zv rfl (.int .i64 ((S.T.length : Nat) : Int)) ?_
 refine sx_int (by kernel_rfl) rfl rfl .i64 (IntKind.i64.wrap (((S.T.length : Nat) : Int) + 1)) (((S.T.length + 1 : Nat) : Int)) (by kernel_rfl) (by rw [IntKind.wrap_i64]; omega) ?_
 obtain ⟨W3, hW, hb, hq⟩ := laidA W1 (madeCells (Value.bool false).cells ((S.T.length + 1) * 1)) 4
 have HG : Ol boE 4 1 W1.heap.size W3 (.slice (some ⟨W1.heap.size, 0, none⟩) 0 (S.T.length + 1)) [] := Ol.made0 hq (Nat.le_refl _) (by omega)
 refine sx_mem (by kernel_rfl) rfl rfl (.slice (some ⟨W1.heap.size, 0, none⟩) 0 (S.T.length + 1)) W3 (by rw [← hW]; exact ex_make0 (e := 4) (sz := 1) (z := .bool false) (bytes := 1) rfl (by kernel_rfl) (by kernel_rfl) Tryd.underlying31 (by kernel_rfl) (by decide) (by omega)) ?_
 replace HB := over HB hb
 replace M2 := M2.below hb
 have z2 := hb.size
 clear hb hW hq
 refine Zv rfl (.slice (some ⟨W1.heap.size, 0, none⟩) 0 (S.T.length + 1)) ?_
 refine wpList_nil (sx_norm (wp_seq (wp_region_lit ?_)))
 refine Zv rfl (.slice (some ⟨W1.heap.size, 0, none⟩) 0 (S.T.length + 1)) ?_
 refine Zv rfl (.pointer (some ⟨w.heap.size, 0, none⟩)) ?_
 refine Zw rfl (.bool S.r) (el (M2.cell 0 rfl) Tryd.underlying4) ?_
 obtain ⟨W4, hW, hb, hq⟩ := laidA W3 #[.bool S.r] 4
 refine sx_mem (by kernel_rfl) rfl rfl (.slice (some ⟨W3.heap.size, 0, none⟩) 1 1) W4 (by rw [← hW]; kernel_rfl) ?_
 replace HB := over HB hb
 replace M2 := M2.below hb
 replace HG := HG.below hb
 have z3 := hb.size
 have M5 := hq
 have yM5 := hq.lt
 clear hq hb hW
 obtain ⟨v7, W6, h9, hg9, hb, -, -⟩ := ap_o (P := Tryd.prog) (t := 31) (ty := 31) (z := .bool false) (bytes := 1) (x := (S.r : Bool)) boRow Tryd.underlying31 (by kernel_rfl) rfl (by decide) (by decide) HG M5 rfl (by omega) (by decide)
 refine sx_mem (by kernel_rfl) rfl rfl v7 W6 (ex_append rfl (by kernel_rfl) (by kernel_rfl) h9) ?_
 replace HB := HB.trans (hb.mono (by omega))
 replace M2 := M2.belowB (by omega) hb
 have z4 := hb.size
 have HG := hg9
 clear hg9 hb h9
 refine Zv rfl (v7) ?_
 refine wpList_nil (sx_norm (wp_seq (wp_seq (wp_region_lit ?_))))
 refine Zv rfl (.pointer (some ⟨w.heap.size, 2, none⟩)) ?_
 refine Zw rfl (.slice oS S.T.length cS) (el (M2.cell 2 rfl) Tryd.underlying35) ?_
 refine Zv rfl (.int .i64 ((S.T.length : Nat) : Int)) ?_
 refine Zv rfl (.int .i64 0) ?_
 refine wpList_nil (sx_norm (wp_block ?_))
 refine sx_loop (fun x9 : Nat × Value => [(0, .agg #[.bool S.r, .int .i64 S.d, .slice oS S.T.length cS, .int .i64 S.e, .int .i64 S.m]), (1, .pointer (some ⟨w.heap.size, 0, none⟩)), (2, .slice none 0 0), (3, x9.2), (6, .pointer (some ⟨w.heap.size, 2, none⟩)), (7, .slice oS S.T.length cS), (8, .int .i64 ((S.T.length : Nat) : Int)), (9, .int .i64 ((S.T.length + 1 : Nat) : Int)), (10, .slice (some ⟨W1.heap.size, 0, none⟩) 0 (S.T.length + 1)), (11, .slice (some ⟨W1.heap.size, 0, none⟩) 0 (S.T.length + 1)), (12, .pointer (some ⟨w.heap.size, 0, none⟩)), (13, .bool S.r), (14, .slice (some ⟨W3.heap.size, 0, none⟩) 1 1), (15, v7), (16, .pointer (some ⟨w.heap.size, 2, none⟩)), (17, .slice oS S.T.length cS), (18, .int .i64 ((S.T.length : Nat) : Int)), (19, .int .i64 ((x9.1 : Nat) : Int))]) (fun gg x9 wr => x9.1 ≤ S.T.length ∧ S.T.length - x9.1 ≤ gg ∧ Ol boE 4 1 W1.heap.size wr x9.2 (rtsK S x9.1) ∧ Below W1.heap.size W6 wr) (S.T.length) ((0, v7)) (by kernel_rfl) ⟨Nat.zero_le _, Nat.le_refl _, HG, Below.refl _ _⟩ ?_
 rintro gg ⟨i, v3⟩ g' wr8 ⟨hi, hg, HG, hbl⟩
 dsimp only at hi hg HG hbl
 replace HB := HB.trans (hbl.mono (by omega))
 replace M2 := M2.belowB (by omega) hbl
 have z5 := hbl.size
 have HL := hbl
 clear hbl
 refine wp_seq (wp_region_lit ?_)
 by_cases C1 : i < S.T.length
 ·refine Zb rfl (decide (((i : Nat) : Int) < ((S.T.length : Nat) : Int))) true (decide_eq_true (by omega)) ?_
  refine wpList_nil (sx_norm (wp_seq ?_))
  refine sx_true (by kernel_rfl) ?_
  refine wp_skip (sx_norm (wp_seq (wp_block (wp_seq (wp_region_lit ?_)))))
  refine Zw rfl (.pointer (some ⟨bS, qS + i * 4, none⟩)) (ex_indexO (q := qS) (m := S.T.length) (c := cS) (k := i) (s := 4) rfl (by kernel_rfl) ((hT.below HB).oa (k := i) (by omega)) (by kernel_rfl) Tryd.underlying35 (by kernel_rfl) (by omega) (by omega)) ?_
  refine Zw rfl (.agg #[.int .i64 ((S.T.getD i tm0).a), .int .i64 ((S.T.getD i tm0).b), .int .i64 ((S.T.getD i tm0).d), .bool (S.T.getD i tm0).r]) (ex_loadR rfl ((hT.below HB).range (k := i) (by omega)) (by kernel_rfl) Tryd.underlying51 rfl (by kernel_rfl)) ?_
  obtain ⟨W10, hW, hb, hq⟩ := laidV wr8 #[.int .i64 0, .int .i64 0, .int .i64 0, .bool false] #[.int .i64 ((S.T.getD i tm0).a), .int .i64 ((S.T.getD i tm0).b), .int .i64 ((S.T.getD i tm0).d), .bool (S.T.getD i tm0).r] 51
  refine sx_mem (by kernel_rfl) rfl rfl (.pointer (some ⟨wr8.heap.size, 0, none⟩)) (wr8.alloc (.cells #[.int .i64 0, .int .i64 0, .int .i64 0, .bool false] 51)) (by kernel_rfl) ?_
  refine Zs (cells := #[.int .i64 ((S.T.getD i tm0).a), .int .i64 ((S.T.getD i tm0).b), .int .i64 ((S.T.getD i tm0).d), .bool (S.T.getD i tm0).r]) rfl rfl (Cb.made wr8 #[.int .i64 0, .int .i64 0, .int .i64 0, .bool false] 51) ?_
  rw [hW]
  replace HB := over HB hb
  replace M2 := M2.below hb
  replace HL := HL.trans (hb.mono (by omega))
  replace HG := HG.below hb
  have z6 := hb.size
  have M9 := hq
  have yM9 := hq.lt
  clear hq hb hW
  refine wpList_nil (sx_norm (wp_region_lit ?_))
  refine Zv rfl (v3) ?_
  refine Zv rfl (.pointer (some ⟨wr8.heap.size, 3, none⟩)) ?_
  refine Zw rfl (.bool (S.T.getD i tm0).r) (el (M9.cell 3 rfl) Tryd.underlying4) ?_
  obtain ⟨W11, hW, hb, hq⟩ := laidA W10 #[.bool (S.T.getD i tm0).r] 4
  refine sx_mem (by kernel_rfl) rfl rfl (.slice (some ⟨W10.heap.size, 0, none⟩) 1 1) W11 (by rw [← hW]; kernel_rfl) ?_
  replace HB := over HB hb
  replace M2 := M2.below hb
  replace HL := HL.trans (hb.mono (by omega))
  replace HG := HG.below hb
  replace M9 := M9.below hb
  have z7 := hb.size
  have M12 := hq
  have yM12 := hq.lt
  clear hq hb hW
  obtain ⟨v14, W13, h9, hg9, hb, -, -⟩ := ap_o (P := Tryd.prog) (t := 31) (ty := 31) (z := .bool false) (bytes := 1) (x := ((S.T.getD i tm0).r : Bool)) boRow Tryd.underlying31 (by kernel_rfl) rfl (by decide) (by decide) HG M12 rfl (by omega) (by rw [rtsK_len (by omega)]; omega)
  refine sx_mem (by kernel_rfl) rfl rfl v14 W13 (ex_append rfl (by kernel_rfl) (by kernel_rfl) h9) ?_
  replace HB := HB.trans (hb.mono (by omega))
  replace M2 := M2.belowB (by omega) hb
  replace HL := HL.trans (hb.mono (by omega))
  have z8 := hb.size
  have HG := hg9
  clear hg9 hb h9
  refine Zv rfl (v14) ?_
  refine wpList_nil ?_
  refine sx_in ?_
  refine sx_norm (wp_region_lit ?_)
  refine sx_int (by kernel_rfl) rfl rfl .i64 (IntKind.i64.wrap (((i : Nat) : Int) + 1)) (((i + 1 : Nat) : Int)) (by kernel_rfl) (by rw [IntKind.wrap_i64]; omega) ?_
  refine Zv rfl (.int .i64 ((i + 1 : Nat) : Int)) ?_
  refine wpList_nil (sx_norm ?_)
  exact sx_again (S.T.length - (i + 1)) (i + 1, v14) (by omega) (by kernel_rfl) ⟨by show i + 1 ≤ _; omega, Nat.le_refl _, by show Ol boE _ 1 _ _ _ (rtsK S (i + 1)); rw [rtsK_more (by omega)]; exact HG, HL⟩
 refine Zb rfl (decide (((i : Nat) : Int) < ((S.T.length : Nat) : Int))) false (decide_eq_false (by omega)) ?_
 refine wpList_nil (sx_norm (wp_seq ?_))
 refine sx_false (by kernel_rfl) ?_
 refine wp_exit ?_
 refine sx_es ?_
 refine sx_es ?_
 refine sx_out ?_
 refine sx_norm (wp_seq (wp_region_lit ?_))
 refine Zv rfl (v3) ?_
 refine Zv rfl (v3) ?_
 refine wpList_nil (sx_norm (wp_ret ?_))
 have hi9 : i = S.T.length := by omega
 subst hi9
 rw [rtsK_all] at HG
 obtain ⟨o9, c9, rfl⟩ := Ol.form HG
 obtain ⟨b9, q9, hr9, hb9⟩ := Ol.rwB boRow false HG
 have ho9 : ∃ b8, o9 = some ⟨b8, 0, none⟩ := by
  rcases HG.2 with ⟨-, h0⟩ | ⟨g8, cap8, cur8, e8, -⟩
  ·rw [rts_len] at h0; omega
  ·simp only [Value.slice.injEq] at e8; exact ⟨g8, e8.1⟩
 obtain ⟨b8, rfl⟩ := ho9
 have h7 := (hr9 0 (by rw [rts_len]; omega)).1
 simp only [Option.some.injEq, Addr.mk.injEq, and_true] at h7
 obtain ⟨rfl, rfl⟩ := h7
 have hcap : S.rts.length ≤ c9 := by
  rcases HG.2 with ⟨h8, -⟩ | ⟨g8, cap8, cur8, e8, -, -, h8, -⟩
  ·cases h8
  ·simp only [Value.slice.injEq] at e8; rw [e8.2.2]; exact h8
 refine sx_ret1 (.slice (some ⟨b8, 0, none⟩) S.rts.length c9) rfl rfl (by kernel_rfl) ⟨b8, c9, rfl, hcap, hr9, by have h6 := hb9 0 (by rw [rts_len]; omega); omega, HB⟩
theorem sh_ext {a b : ShT} (h : a.r = b.r ∧ a.d = b.d ∧ a.e = b.e ∧ a.m = b.m ∧ a.T = b.T) : a = b := by
 cases a; cases b; simp only [ShT.mk.injEq]; exact ⟨h.1, h.2.1, h.2.2.2.2, h.2.2.1, h.2.2.2.1⟩
theorem isSame_n (S R : ShT) (oS oR : Option Addr) (cS cR bS qS bR qR : Nat) (lS : S.T.length ≤ 1000000) (w : World) (hS : Rw w bS qS 4 (fun k => tmE (S.T.getD k tm0)) S.T.length oS) (hR : Rw w bR qR 4 (fun k => tmE (R.T.getD k tm0)) R.T.length oR) : Calls Tryd.prog 68 #[.agg #[.bool S.r, .int .i64 S.d, .slice oS S.T.length cS, .int .i64 S.e, .int .i64 S.m], .agg #[.bool R.r, .int .i64 R.d, .slice oR R.T.length cR, .int .i64 R.e, .int .i64 R.m]] w fun e w' => e = .returned (.bool (decide (S = R))) ∧ Below w.heap.size w w' := by
 have HB : Below w.heap.size w w := Below.refl _ _
 refine sx_enter Tryd.func68 rfl [(0, .agg #[.bool S.r, .int .i64 S.d, .slice oS S.T.length cS, .int .i64 S.e, .int .i64 S.m]), (1, .agg #[.bool R.r, .int .i64 R.d, .slice oR R.T.length cR, .int .i64 R.e, .int .i64 R.m])] (by kernel_rfl) ?_
 refine wp_seq (wp_region_lit ?_)
 obtain ⟨W1, hW, hb, hq⟩ := laidA w #[.bool S.r, .int .i64 S.d, .slice oS S.T.length cS, .int .i64 S.e, .int .i64 S.m] 37
 refine sx_mem (by kernel_rfl) rfl rfl (.pointer (some ⟨w.heap.size, 0, none⟩)) W1 (by rw [← hW]; kernel_rfl) ?_
 replace HB := over HB hb
 have z1 := hb.size
 have M2 := hq
 have yM2 := hq.lt
 clear hq hb hW
 obtain ⟨W3, hW, hb, hq⟩ := laidA W1 #[.bool R.r, .int .i64 R.d, .slice oR R.T.length cR, .int .i64 R.e, .int .i64 R.m] 37
 refine sx_mem (by kernel_rfl) rfl rfl (.pointer (some ⟨W1.heap.size, 0, none⟩)) W3 (by rw [← hW]; kernel_rfl) ?_
 replace HB := over HB hb
 replace M2 := M2.below hb
 have z2 := hb.size
 have M4 := hq
 have yM4 := hq.lt
 clear hq hb hW
 refine Zv rfl (.bool false) ?_
 refine wpList_nil (sx_norm (wp_seq (wp_region_lit ?_)))
 refine Zv rfl (.pointer (some ⟨w.heap.size, 0, none⟩)) ?_
 refine Zw rfl (.bool S.r) (el (M2.cell 0 rfl) Tryd.underlying4) ?_
 refine Zv rfl (.pointer (some ⟨W1.heap.size, 0, none⟩)) ?_
 refine Zw rfl (.bool R.r) (el (M4.cell 0 rfl) Tryd.underlying4) ?_
 by_cases C1 : S.r = R.r
 ·refine Zb rfl ((S.r == R.r)) true (by simp [C1]) ?_
  refine Zv rfl (.bool true) ?_
  refine Zv rfl (.pointer (some ⟨w.heap.size, 1, none⟩)) ?_
  refine Zw rfl (.int .i64 S.d) (el (M2.cell 1 rfl) Tryd.underlying3) ?_
  refine Zv rfl (.pointer (some ⟨W1.heap.size, 1, none⟩)) ?_
  refine Zw rfl (.int .i64 R.d) (el (M4.cell 1 rfl) Tryd.underlying3) ?_
  by_cases C2 : S.d = R.d
  ·refine Zb rfl ((S.d : Int) == (R.d : Int)) true (beq_iff_eq.2 (by omega)) ?_
   refine Zv rfl (.bool true) ?_
   refine Zv rfl (.bool true) ?_
   refine Zv rfl (.pointer (some ⟨w.heap.size, 3, none⟩)) ?_
   refine Zw rfl (.int .i64 S.e) (el (M2.cell 3 rfl) Tryd.underlying3) ?_
   refine Zv rfl (.pointer (some ⟨W1.heap.size, 3, none⟩)) ?_
   refine Zw rfl (.int .i64 R.e) (el (M4.cell 3 rfl) Tryd.underlying3) ?_
   by_cases C3 : S.e = R.e
   ·refine Zb rfl ((S.e : Int) == (R.e : Int)) true (beq_iff_eq.2 (by omega)) ?_
    refine Zv rfl (.bool true) ?_
    refine Zv rfl (.bool true) ?_
    refine Zv rfl (.pointer (some ⟨w.heap.size, 4, none⟩)) ?_
    refine Zw rfl (.int .i64 S.m) (el (M2.cell 4 rfl) Tryd.underlying3) ?_
    refine Zv rfl (.pointer (some ⟨W1.heap.size, 4, none⟩)) ?_
    refine Zw rfl (.int .i64 R.m) (el (M4.cell 4 rfl) Tryd.underlying3) ?_
    by_cases C4 : S.m = R.m
    ·refine Zb rfl ((S.m : Int) == (R.m : Int)) true (beq_iff_eq.2 (by omega)) ?_
     refine Zv rfl (.bool true) ?_
     refine Zv rfl (.bool true) ?_
     refine Zv rfl (.pointer (some ⟨w.heap.size, 2, none⟩)) ?_
     refine Zw rfl (.slice oS S.T.length cS) (el (M2.cell 2 rfl) Tryd.underlying35) ?_
     refine Zv rfl (.pointer (some ⟨W1.heap.size, 2, none⟩)) ?_
     refine Zw rfl (.slice oR R.T.length cR) (el (M4.cell 2 rfl) Tryd.underlying35) ?_
     by_cases C5 : (decide (S.T = R.T)) = true
     ·refine sx_call (by kernel_rfl) rfl rfl ((by have h8 := eqTimes_n oS oR cS cR bS qS bR qR S.T R.T lS W3 (hS.below HB) (hR.below HB); rw [show (decide (S.T = R.T)) = true by simpa using C5] at h8; exact h8)) (by kernel_rfl) ?_
      rintro e W5 ⟨rfl, hb⟩
      replace HB := over HB hb
      replace M2 := M2.below hb
      replace M4 := M4.below hb
      have z3 := hb.size
      clear hb
      refine ⟨_, rfl, ?_⟩
      refine Zv rfl (.bool true) ?_
      refine Zv rfl (.bool true) ?_
      refine wpList_nil (sx_norm (wp_ret ?_))
      refine sx_ret1 (.bool true) rfl rfl (by kernel_rfl) ⟨by rw [decide_eq_true (sh_ext ⟨by assumption, by assumption, by assumption, by assumption, by simp_all⟩)], HB⟩
     refine sx_call (by kernel_rfl) rfl rfl ((by have h8 := eqTimes_n oS oR cS cR bS qS bR qR S.T R.T lS W3 (hS.below HB) (hR.below HB); rw [show (decide (S.T = R.T)) = false by simpa using C5] at h8; exact h8)) (by kernel_rfl) ?_
     rintro e W6 ⟨rfl, hb⟩
     replace HB := over HB hb
     replace M2 := M2.below hb
     replace M4 := M4.below hb
     have z3 := hb.size
     clear hb
     refine ⟨_, rfl, ?_⟩
     refine Zv rfl (.bool false) ?_
     refine Zv rfl (.bool false) ?_
     refine wpList_nil (sx_norm (wp_ret ?_))
     refine sx_ret1 (.bool false) rfl rfl (by kernel_rfl) ⟨by rw [decide_eq_false (fun h => by subst h; simp_all)], HB⟩
    refine Zb rfl ((S.m : Int) == (R.m : Int)) false (beq_eq_false_iff_ne.2 (by omega)) ?_
    refine Zv rfl (.bool false) ?_
    refine Zv rfl (.bool false) ?_
    refine Zk rfl ?_
    refine Zk rfl ?_
    refine Zk rfl ?_
    refine Zk rfl ?_
    refine Zk rfl ?_
    refine Zv rfl (.bool false) ?_
    refine Zv rfl (.bool false) ?_
    refine wpList_nil (sx_norm (wp_ret ?_))
    refine sx_ret1 (.bool false) rfl rfl (by kernel_rfl) ⟨by rw [decide_eq_false (fun h => by subst h; simp_all)], HB⟩
   refine Zb rfl ((S.e : Int) == (R.e : Int)) false (beq_eq_false_iff_ne.2 (by omega)) ?_
   refine Zv rfl (.bool false) ?_
   refine Zv rfl (.bool false) ?_
   refine Zk rfl ?_
   refine Zk rfl ?_
   refine Zk rfl ?_
   refine Zk rfl ?_
   refine Zk rfl ?_
   refine Zv rfl (.bool false) ?_
   refine Zv rfl (.bool false) ?_
   refine Zk rfl ?_
   refine Zk rfl ?_
   refine Zk rfl ?_
   refine Zk rfl ?_
   refine Zk rfl ?_
   refine Zv rfl (.bool false) ?_
   refine Zv rfl (.bool false) ?_
   refine wpList_nil (sx_norm (wp_ret ?_))
   refine sx_ret1 (.bool false) rfl rfl (by kernel_rfl) ⟨by rw [decide_eq_false (fun h => by subst h; simp_all)], HB⟩
  refine Zb rfl ((S.d : Int) == (R.d : Int)) false (beq_eq_false_iff_ne.2 (by omega)) ?_
  refine Zv rfl (.bool false) ?_
  refine Zv rfl (.bool false) ?_
  refine Zk rfl ?_
  refine Zk rfl ?_
  refine Zk rfl ?_
  refine Zk rfl ?_
  refine Zk rfl ?_
  refine Zv rfl (.bool false) ?_
  refine Zv rfl (.bool false) ?_
  refine Zk rfl ?_
  refine Zk rfl ?_
  refine Zk rfl ?_
  refine Zk rfl ?_
  refine Zk rfl ?_
  refine Zv rfl (.bool false) ?_
  refine Zv rfl (.bool false) ?_
  refine Zk rfl ?_
  refine Zk rfl ?_
  refine Zk rfl ?_
  refine Zk rfl ?_
  refine Zk rfl ?_
  refine Zv rfl (.bool false) ?_
  refine Zv rfl (.bool false) ?_
  refine wpList_nil (sx_norm (wp_ret ?_))
  refine sx_ret1 (.bool false) rfl rfl (by kernel_rfl) ⟨by rw [decide_eq_false (fun h => by subst h; simp_all)], HB⟩
 refine Zb rfl ((S.r == R.r)) false (by simp [C1]) ?_
 refine Zv rfl (.bool false) ?_
 refine Zk rfl ?_
 refine Zk rfl ?_
 refine Zk rfl ?_
 refine Zk rfl ?_
 refine Zk rfl ?_
 refine Zv rfl (.bool false) ?_
 refine Zv rfl (.bool false) ?_
 refine Zk rfl ?_
 refine Zk rfl ?_
 refine Zk rfl ?_
 refine Zk rfl ?_
 refine Zk rfl ?_
 refine Zv rfl (.bool false) ?_
 refine Zv rfl (.bool false) ?_
 refine Zk rfl ?_
 refine Zk rfl ?_
 refine Zk rfl ?_
 refine Zk rfl ?_
 refine Zk rfl ?_
 refine Zv rfl (.bool false) ?_
 refine Zv rfl (.bool false) ?_
 refine Zk rfl ?_
 refine Zk rfl ?_
 refine Zk rfl ?_
 refine Zk rfl ?_
 refine Zk rfl ?_
 refine Zv rfl (.bool false) ?_
 refine Zv rfl (.bool false) ?_
 refine wpList_nil (sx_norm (wp_ret ?_))
 refine sx_ret1 (.bool false) rfl rfl (by kernel_rfl) ⟨by rw [decide_eq_false (fun h => by subst h; simp_all)], HB⟩

end Go.Proofs.YtomebalolmabnaaDoor.T



