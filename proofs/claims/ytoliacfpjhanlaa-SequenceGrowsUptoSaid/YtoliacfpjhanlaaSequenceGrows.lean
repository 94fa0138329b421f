/-
  DERIVED. SequenceGrows: a part of the base of layer 13 (made by pack.py).
-/
import Derived.Test.YtoliacfpjhanlaaSequenceNext
import Derived.Test.YtoliacfpjhanlaaSqChk3
import Derived.Test.YtoliacfpjhanlaaSv
import Derived.Test.YtoliacfpjhanlaaSqArgs2
import Derived.Lib.SmallJoins
import Derived.Test.YtoliacfpjhanlaaSequenceChecks
/-! Each visit of a route that the check lets through can follow those before it. -/
namespace Go.Proofs.Ytoliacfpjhanlaa.T
open Go.RowKit
set_option maxRecDepth 8000

section
variable {ol : List OrT} {ap be : List (Int × Int)} {l : List (Int × Bool)}
/-- what a check without an error says -/
theorem chk_ok (h : chkR ol ap be l = 0) : l.length ≠ 0 ∧ Ex ol.length l ∧ (∀ i, i < l.length → offV ol (l.getD i (0, false)) = false) ∧ (∀ i, i < l.length → idxV l (l.getD i (0, false)) = (i : Int)) ∧ prdB ol l = true ∧ befL (ordN l) be l = true := by
  unfold chkR at h
  split at h
  · cases h
  rename_i h1
  split at h
  · cases h
  rename_i h2
  split at h
  · cases h
  rename_i h3
  split at h
  · cases h
  rename_i h4
  split at h
  · cases h
  rename_i h5
  split at h
  · cases h
  split at h
  · cases h
  rename_i h7
  refine ⟨fun e => h2 (.inr e), gone_ex h1, fun i hi => ?_, Decidable.of_not_not h4, by simpa using h5, by simpa using h7⟩
  cases e : offV ol (l.getD i (0, false))
  · rfl
  · exact absurd (List.any_eq_true.2 ⟨_, getD_mem hi, e⟩) h3
theorem mem_take_idx {v : Int × Bool} {i : Nat} (hv : v ∈ l) (h : idxV l v < (i : Int)) : v ∈ l.take i := by
  obtain ⟨j, hj, e1, e2⟩ := idxV_get hv
  rw [← e2, List.getD_eq_getElem?_getD, List.getElem?_eq_getElem hj]
  exact List.mem_take_iff_getElem.2 ⟨j, by omega, rfl⟩
theorem not_mem_take (hO : ∀ i, i < l.length → idxV l (l.getD i (0, false)) = (i : Int)) {i : Nat} (hi : i < l.length) : l.getD i (0, false) ∉ l.take i := idxV_first (hO i hi)
theorem mem_nxR {z : Int} {v : Int × Bool} {k : Nat} (h : v ∈ nxO z ol be l k) : ∀ m, k < m → v ∈ nxR z ol be l m
  | 0, h9 => absurd h9 (Nat.not_lt_zero k)
  | m + 1, h9 => by
    unfold nxR
    rw [List.mem_append]
    rcases Nat.lt_succ_iff_lt_or_eq.1 h9 with h8 | h8
    · exact .inl (mem_nxR h m h8)
    · subst h8
      exact .inr h
/-- a checked route's positions -/
theorem chk_lay (ok : Okv ol) (h : chkR ol ap be l = 0) {k : Nat} (hk : k < ol.length) (hm : ∃ d, ((k : Int), d) ∈ l) : Lay l (trK ol.length l l.length) (k : Int) (visR ol k) := by
  obtain ⟨-, hex, -, hO, hp, -⟩ := chk_ok h
  exact lay_of (fun v hv => posT_all hex ((once_iff hex).2 hO) hv) ok hp hk hm
theorem lay_con (ok : Okv ol) (h : chkR ol ap be l = 0) {k : Nat} (hk : k < ol.length) (hm : ∃ d, ((k : Int), d) ∈ l) : ∀ v ∈ visR ol k, v ∈ l := fun v hv => by
  rcases (chk_lay ok h hk hm).c with ⟨e, h1, h2⟩ | ⟨e, h1, h2⟩ | ⟨e, h1, h2⟩
  · rw [e] at hv
    simp only [List.mem_cons, List.not_mem_nil, or_false] at hv
    rcases hv with rfl | rfl
    · exact idxV_mem.2 h1
    · exact idxV_mem.2 (by omega)
  · rw [e] at hv
    simp only [List.mem_cons, List.not_mem_nil, or_false] at hv
    subst hv
    exact idxV_mem.2 h1
  · rw [e] at hv
    simp only [List.mem_cons, List.not_mem_nil, or_false] at hv
    subst hv
    exact idxV_mem.2 h1
theorem grow_rdy (ok : Okv ol) (hn : ol.length ≤ 10) (hr : U.Rt ol.length be) (h : chkR ol ap be l = 0) {i k : Nat} (hi : i < l.length) (hk : k < ol.length) (hv : (l.getD i (0, false)).1 = (k : Int)) : rdyB ol be (l.take i) k = true := by
  obtain ⟨-, hex, -, hO, hp, hbf⟩ := chk_ok h
  have hm : ((k : Int), (l.getD i (0, false)).2) ∈ l := by
    have e : ((k : Int), (l.getD i (0, false)).2) = l.getD i (0, false) := Prod.ext hv.symm rfl
    rw [e]
    exact getD_mem hi
  unfold rdyB
  rw [List.all_eq_true]
  intro p hpm
  unfold rdyP
  by_cases hb : U.pb p = k
  · have hrt := hr.a hpm
    unfold befL at hbf
    rw [List.all_eq_true] at hbf
    have h1 := hbf p hpm
    unfold befP at h1
    rw [hb, (hasR_ord hn hex hk).2 ⟨_, hm⟩] at h1
    simp only [Bool.not_true, Bool.false_or, Bool.and_eq_true, decide_eq_true_eq] at h1
    have hla := (hasR_ord hn hex hrt.1).1 h1.1
    have hN := (nob_iff hO _ _).1 h1.2
    rw [decide_eq_true hb]
    show conV (l.take i) (visR ol (U.pa p)) = true
    unfold conV
    rw [List.all_eq_true]
    intro v hv2
    rw [decide_eq_true_iff]
    have hvl := lay_con ok h hrt.1 hla v hv2
    have hv1 : v.1 = (U.pa p : Int) := by
      rcases (chk_lay ok h hrt.1 hla).c with ⟨e, -⟩ | ⟨e, -⟩ | ⟨e, -⟩ <;> rw [e] at hv2 <;> simp only [List.mem_cons, List.not_mem_nil, or_false] at hv2
      · rcases hv2 with rfl | rfl <;> rfl
      · subst hv2; rfl
      · subst hv2; rfl
    have ev : ((U.pa p : Int), v.2) = v := Prod.ext hv1.symm rfl
    have h2 := hN v.2 (l.getD i (0, false)).2 (by rw [ev]; exact hvl) hm
    rw [ev] at h2
    have ei : idxV l ((k : Int), (l.getD i (0, false)).2) = (i : Int) := by
      have e : ((k : Int), (l.getD i (0, false)).2) = l.getD i (0, false) := Prod.ext hv.symm rfl
      rw [e]
      exact hO i hi
    rw [ei] at h2
    refine mem_take_idx hvl ?_
    have hne : idxV l v ≠ (i : Int) := fun e => by
      have h3 := idxV_inj hvl (getD_mem (d := (0, false)) hi) (e.trans (hO i hi).symm)
      rw [h3] at hv1
      omega
    omega
  · rw [decide_eq_false hb]
    rfl
theorem grow_one (ok : Okv ol) (hn : ol.length ≤ 10) (hr : U.Rt ol.length be) (h : chkR ol ap be l = 0) {i : Nat} (hi : i < l.length) : l.getD i (0, false) ∈ nxR (ordN l) ol be (l.take i) ol.length := by
  obtain ⟨-, hex, hoff, hO, hp, -⟩ := chk_ok h
  obtain ⟨k, hk, hv⟩ := ex_mem hex (getD_mem (d := (0, false)) hi)
  have hm : ∃ d, ((k : Int), d) ∈ l := ⟨(l.getD i (0, false)).2, by
    have e : ((k : Int), (l.getD i (0, false)).2) = l.getD i (0, false) := Prod.ext hv.symm rfl
    rw [e]
    exact getD_mem hi⟩
  have hvis : l.getD i (0, false) ∈ visR ol k := by
    unfold prdB at hp
    rw [List.all_eq_true] at hp
    have h1 := hp _ (getD_mem (d := (0, false)) hi)
    unfold prdP at h1
    rw [hv, Int.toNat_natCast] at h1
    simp only [Bool.and_eq_true, Bool.not_eq_true', decide_eq_false_iff_not] at h1
    exact idxV_mem.2 (by omega)
  have hnt := not_mem_take hO hi
  refine mem_nxR ?_ _ hk
  unfold nxO
  have ho : (ol.getD k or0).off = false := by
    have := hoff i hi
    unfold offV at this
    rwa [hv, Int.toNat_natCast] at this
  rw [if_pos ⟨(hasR_ord hn hex hk).2 hm, ho, grow_rdy ok hn hr h hi hk hv⟩, nxV_is ok hk]
  have hc : ¬ conV (l.take i) (visR ol k) = true := fun hc => by
    unfold conV at hc
    rw [List.all_eq_true] at hc
    exact hnt (of_decide_eq_true (hc _ hvis))
  rw [if_neg hc, List.mem_singleton]
  refine Prod.ext hv ?_
  have hidx := hO i hi
  cases e : (l.getD i (0, false)).2
  · have ev : l.getD i (0, false) = ((k : Int), false) := Prod.ext hv e
    rw [ev] at hvis hnt
    simp [hvis, hnt]
  · have ev : l.getD i (0, false) = ((k : Int), true) := Prod.ext hv e
    rw [ev] at hvis hidx
    rcases (chk_lay ok h hk hm).c with ⟨e1, h1, h2⟩ | ⟨e1, h1, h2⟩ | ⟨e1, h1, h2⟩
    · have := mem_take_idx (idxV_mem.2 h1) (show idxV l ((k : Int), false) < (i : Int) by omega)
      simp [this]
    · rw [e1] at hvis
      simp at hvis
    · rw [e1]
      simp
theorem grow_end (ok : Okv ol) (hn : ol.length ≤ 10) (h : chkR ol ap be l = 0) : nxR (ordN l) ol be l ol.length = [] := by
  obtain ⟨-, hex, -, -, -, -⟩ := chk_ok h
  have key : ∀ m, m ≤ ol.length → nxR (ordN l) ol be l m = [] := by
    intro m
    induction m with
    | zero => intro _; rfl
    | succ m ih =>
      intro hm
      unfold nxR nxO
      rw [ih (by omega), List.nil_append]
      split
      · rename_i h9
        have hla := (hasR_ord hn hex (show m < ol.length by omega)).1 h9.1
        rw [nxV_is ok (by omega), if_pos]
        unfold conV
        rw [List.all_eq_true]
        intro v hv
        exact decide_eq_true (lay_con ok h (by omega) hla v hv)
      · rfl
  exact key _ (Nat.le_refl _)
end
end Go.Proofs.Ytoliacfpjhanlaa.T

/-! The first elements of a slice. -/
namespace Go.Proofs.Ytoliacfpjhanlaa.T
open Go.RowKit
set_option maxRecDepth 8000

theorem map_add0 (oa : Option Addr) : oa.map (fun a => a.add 0) = oa := by
  cases oa with
  | none => rfl
  | some a =>
    obtain ⟨b, q, p⟩ := a
    rfl
theorem run_sliceH {P : Program} {w : World} {t e : TypeId} {oa : Option Addr} {m c k s : Nat} (hu : P.underlying t = some (.slice e)) (hs : (P.info? e).map (·.size) = some s) (hk : k ≤ c) :
    (Instr.sliceAt t (.slice oa m c) none (some (.int .i64 (k : Int))) none).run P w = .ok (.slice oa k c) w := by
  have h2 : (sizeOf e).run P w = .ok s w := by
    cases hi : P.info? e with
    | none => rw [hi] at hs; cases hs
    | some i => rw [hi] at hs; simp only [Option.map_some, Option.some.injEq] at hs; simp [sizeOf, typeInfo, hi, hs]
  have h3 : (if c = 0 then oa else oa.map (fun a => a.add 0)) = oa := by
    rw [map_add0]
    split <;> rfl
  unfold Instr.sliceAt Instr.slice Instr.sliceBounds Instr.sliceBound
  simp [asIntOf, Sem.run_bind, Sem.run_pure, Result.andThen_ok, run_underlying hu w, h2, Int.toNat_natCast]
  rw [if_pos hk, h3]
theorem ex_sliceH {P : Program} {o : Oper} {n : Nat} {g : Nat → Value} {l : List (Nat × Value)} {w : World} {ty : TypeId} {x y : Operand} (ho : o.op = .slice ty x none (some y) none) {oa : Option Addr} {m c k s : Nat} (hx : ev n g l x = .slice oa m c) (hy : ev n g l y = .int .i64 (k : Int)) (hk : k ≤ c) {e : TypeId}
    (hu : P.underlying ty = some (.slice e)) (hs : (P.info? e).map (·.size) = some s) : (execOp (ev n g l) o).run P w = .ok (.value (.slice oa k c)) w := by
  unfold execOp
  simp only [ho, hx, hy, Option.map_some, Option.map_none, run_sliceH hu hs hk, Sem.run_bind, Sem.run_pure, Result.andThen_ok]
end Go.Proofs.Ytoliacfpjhanlaa.T

/-! A route as an argument, with its visits' capacity. -/
namespace Go.Proofs.Ytoliacfpjhanlaa.T
open Go.Joins Go.ChangeShapes Go.WideShapes Go.ChangeAt Go.RowKit Go.Deep
set_option maxRecDepth 8000

section
variable {H : Type} {enc : TypeId × Value → H}
theorem slice_cap {W : World} {base : Nat} {t e : TypeId} {oa : Option Addr} {k c : Nat} {y : DataW H × List MemPlace} {n : Nat} (ht : Try.prog.underlying t = some (.slice e))
    (hf : DataW.trod enc Try.prog W base (fun _ => true) true n t [.slice oa k c] = some y) : k ≤ c := by
  rcases open_slice ht hf with ⟨hcs, -⟩ | ⟨a, len, cap, m, n, D, Pl, hcs, _, hl, -⟩
  · simp only [List.cons.injEq, Value.slice.injEq, and_true] at hcs
    omega
  · simp only [List.cons.injEq, Value.slice.injEq, and_true] at hcs
    omega
/-- a route by value -/
theorem arg_routeC {W : World} {base : Nat} {v : Value} {d : DataW H} {p : List MemPlace}
    (hv : Value.okWide Try.prog W .any base 34 v) (h : DataW.Trod enc Try.prog W 0 (fun _ => true) true 34 v d p) (hlt : ∀ x ∈ p, x.block < W.heap.size) :
    ∃ (ty st : Int) (orr oa : Option Addr) (nr cr c b o : Nat) (l : List (Int × Bool)), v = .agg #[.int .i64 ty, .int .i64 st, .slice orr nr cr, .slice oa l.length c] ∧ Rw W b o 2 (vF l) l.length oa ∧ l.length ≤ c := by
  have hC : Try.prog.cellsOf 34 = 4 := by kernel_rfl
  obtain ⟨cs, rfl, hsz⟩ := okWide_struct Try.underlying34 hv
  obtain ⟨fuel, hf⟩ := h
  have he : Try.prog.underlying 34 = some (.struct #[_, _, _, _]) := Try.underlying34
  obtain ⟨xs, n', _, hx, _, hxl, hg⟩ := DataW.trod_struct he hf
  obtain ⟨l⟩ := cs
  have hl4 : l.length = 4 := by rw [← hC]; exact hsz
  match l, hl4 with
  | [v0, v1, v2, v3], _ =>
    match xs, hxl with
    | [y0, y1, y2, y3], _ =>
      have k0 := hg 0 _ rfl
      have k1 := hg 1 _ rfl
      have k2 := hg 2 _ rfl
      have k3 := hg 3 _ rfl
      have o1 : Try.prog.cellsOf 3 = 1 := by kernel_rfl
      have o3 : Try.prog.cellsOf 32 = 1 := by kernel_rfl
      have o4 : Try.prog.cellsOf 31 = 1 := by kernel_rfl
      simp [o1, o3, o4, Value.cells] at k0 k1 k2 k3
      obtain ⟨ty, e0, _, _⟩ := DataW.trod_int Try.underlying3 k0
      obtain ⟨st, e1, _, _⟩ := DataW.trod_int Try.underlying3 k1
      simp only [List.cons.injEq, and_true] at e0 e1
      subst e0 e1
      obtain ⟨orr, nr, cr, rfl⟩ := slice_is Try.underlying31 k2
      simp only [Prod.mk.injEq] at hx
      obtain ⟨-, hx2⟩ := hx
      obtain ⟨oa, c, b, o, l, rfl, hl⟩ := visits_of k3 (fun p hp => hlt p (by rw [hx2]; simp; exact .inr (.inr (.inr hp))))
      exact ⟨ty, st, orr, oa, nr, cr, c, b, o, l, rfl, hl, slice_cap Try.underlying32 k3⟩
end
end Go.Proofs.Ytoliacfpjhanlaa.T

/-! The walk of the law SequenceGrows (by gen_ui.py). -/
namespace Go.Proofs.Ytoliacfpjhanlaa.T
open Go.RowKit
set_option maxRecDepth 8000
attribute [local irreducible] wpList Code.wp wpAnyH

theorem take_row {W : World} {b o : Nat} {l : List (Int × Bool)} {oa : Option Addr} (h : Rw W b o 2 (vF l) l.length oa) {j : Nat} (hj : j ≤ l.length) : Rw W b o 2 (vF (l.take j)) (l.take j).length oa := fun i hi => by
  have hlt : i < j := by rw [List.length_take] at hi; omega
  have e : vF (l.take j) i = vF l i := by
    unfold vF
    rw [List.getD_eq_getElem?_getD, List.getElem?_take, if_pos hlt, ← List.getD_eq_getElem?_getD]
  rw [e]
  exact h i (by omega)
theorem ord_pos {ol : List OrT} (hn : ol.length ≤ 10) {l : List (Int × Bool)} (hex : Ex ol.length l) : 0 ≤ ordN l ∧ ordE l = 0 := by
  have hb := ordB_ex hn hex
  unfold ordN ordE
  rw [hb, if_pos rfl, if_pos rfl]
  exact ⟨by omega, rfl⟩
theorem sequenceGrows_walk (k : Iv) (x : InT) (hv : InV x) (ty st : Int) (orr oa : Option Addr) (nr cr c b o : Nat) (l : List (Int × Bool)) (hlc : l.length ≤ c) (w : World) (hI : Ins w k x) (hl : Rw w b o 2 (vF l) l.length oa) : Calls Try.prog 7 #[.agg #[.slice k.o0 x.pl.length k.c0, .slice k.o1 x.al.length k.c1, .slice k.o2 x.tl.length k.c2, .slice k.o3 x.ol.length k.c3, .slice k.o4 x.ap.length k.c4, .slice k.o5 x.be.length k.c5], .agg #[.int .i64 ty, .int .i64 st, .slice orr nr cr, .slice oa l.length c]] w fun e w' => e = .returned (.bool true) ∧ Below w.heap.size w w' := by
  have HB : Below w.heap.size w w := Below.refl _ _
  refine sx_enter Try.func7 rfl [(0, .agg #[.slice k.o0 x.pl.length k.c0, .slice k.o1 x.al.length k.c1, .slice k.o2 x.tl.length k.c2, .slice k.o3 x.ol.length k.c3, .slice k.o4 x.ap.length k.c4, .slice k.o5 x.be.length k.c5]), (1, .agg #[.int .i64 ty, .int .i64 st, .slice orr nr cr, .slice oa l.length c])] (by kernel_rfl) ?_
  refine wp_seq ?_
  refine wp_region_lit ?_
  obtain ⟨W1, hW⟩ : ∃ W, w.alloc (.cells #[.slice k.o0 x.pl.length k.c0, .slice k.o1 x.al.length k.c1, .slice k.o2 x.tl.length k.c2, .slice k.o3 x.ol.length k.c3, .slice k.o4 x.ap.length k.c4, .slice k.o5 x.be.length k.c5] 30) = W := ⟨_, rfl⟩
  have hb := hW ▸ below_alloc w (.cells #[.slice k.o0 x.pl.length k.c0, .slice k.o1 x.al.length k.c1, .slice k.o2 x.tl.length k.c2, .slice k.o3 x.ol.length k.c3, .slice k.o4 x.ap.length k.c4, .slice k.o5 x.be.length k.c5] 30)
  have hq : Cb W1 w.heap.size #[.slice k.o0 x.pl.length k.c0, .slice k.o1 x.al.length k.c1, .slice k.o2 x.tl.length k.c2, .slice k.o3 x.ol.length k.c3, .slice k.o4 x.ap.length k.c4, .slice k.o5 x.be.length k.c5] 30 := hW ▸ Cb.made w #[.slice k.o0 x.pl.length k.c0, .slice k.o1 x.al.length k.c1, .slice k.o2 x.tl.length k.c2, .slice k.o3 x.ol.length k.c3, .slice k.o4 x.ap.length k.c4, .slice k.o5 x.be.length k.c5] 30
  refine sx_mem (by kernel_rfl) rfl rfl (.pointer (some ⟨w.heap.size, 0, none⟩)) W1 (by rw [← hW]; kernel_rfl) ?_
  replace HB := over HB hb
  have z1 := hb.size
  have M2 := hq
  have yM2 := hq.lt
  clear hq hb hW
  obtain ⟨W3, hW⟩ : ∃ W, W1.alloc (.cells #[.int .i64 ty, .int .i64 st, .slice orr nr cr, .slice oa l.length c] 34) = W := ⟨_, rfl⟩
  have hb := hW ▸ below_alloc W1 (.cells #[.int .i64 ty, .int .i64 st, .slice orr nr cr, .slice oa l.length c] 34)
  have hq : Cb W3 W1.heap.size #[.int .i64 ty, .int .i64 st, .slice orr nr cr, .slice oa l.length c] 34 := hW ▸ Cb.made W1 #[.int .i64 ty, .int .i64 st, .slice orr nr cr, .slice oa l.length c] 34
  refine sx_mem (by kernel_rfl) rfl rfl (.pointer (some ⟨W1.heap.size, 0, none⟩)) W3 (by rw [← hW]; kernel_rfl) ?_
  replace HB := over HB hb
  replace M2 := M2.below hb
  have z2 := hb.size
  have M4 := hq
  have yM4 := hq.lt
  clear hq hb hW
  refine sx_val (by kernel_rfl) rfl rfl (.bool false) (by kernel_rfl) ?_
  refine wpList_nil ?_
  refine sx_norm ?_
  refine wp_seq ?_
  refine wp_seq ?_
  refine wp_region_lit ?_
  refine sx_val (by kernel_rfl) rfl rfl (.agg #[.slice k.o0 x.pl.length k.c0, .slice k.o1 x.al.length k.c1, .slice k.o2 x.tl.length k.c2, .slice k.o3 x.ol.length k.c3, .slice k.o4 x.ap.length k.c4, .slice k.o5 x.be.length k.c5]) (ex_load rfl M2 (by kernel_rfl) Try.underlying30 rfl (by kernel_rfl)) ?_
  by_cases C1 : (fewB x) = true
  · refine sx_call (by kernel_rfl) rfl rfl ((by have h8 := few_n k x hv W3 (hI.below HB); rw [show (fewB x) = true by simpa using C1] at h8; exact h8)) (by kernel_rfl) ?_
    rintro e W5 ⟨rfl, hb⟩
    replace HB := over HB hb
    replace M2 := M2.below hb
    replace M4 := M4.below hb
    have z3 := hb.size
    clear hb
    refine ⟨_, rfl, ?_⟩
    refine sx_val (by kernel_rfl) rfl rfl (.bool false) (by kernel_rfl) ?_
    refine sx_val (by kernel_rfl) rfl rfl (.bool false) (by kernel_rfl) ?_
    refine sx_val (by kernel_rfl) rfl rfl (.pointer (some ⟨W1.heap.size, 3, none⟩)) (by kernel_rfl) ?_
    refine sx_val (by kernel_rfl) rfl rfl (.slice oa l.length c) (ex_load1 rfl (M4.cell 3 rfl) (by kernel_rfl) Try.underlying32 rfl) ?_
    refine sx_val (by kernel_rfl) rfl rfl (.int .i64 ((l.length : Nat) : Int)) (by kernel_rfl) ?_
    by_cases C2 : l.length > 12
    · refine sx_bool (by kernel_rfl) rfl rfl (decide (((l.length : Nat) : Int) > 12)) true (by kernel_rfl) (decide_eq_true (by omega)) ?_
      refine sx_val (by kernel_rfl) rfl rfl (.bool true) (by kernel_rfl) ?_
      refine sx_val (by kernel_rfl) rfl rfl (.bool true) (by kernel_rfl) ?_
      refine sx_skip (by kernel_rfl) rfl rfl ?_
      refine sx_skip (by kernel_rfl) rfl rfl ?_
      refine sx_skip (by kernel_rfl) rfl rfl ?_
      refine sx_skip (by kernel_rfl) rfl rfl ?_
      refine sx_val (by kernel_rfl) rfl rfl (.bool true) (by kernel_rfl) ?_
      refine wpList_nil ?_
      refine sx_norm ?_
      refine sx_true (by kernel_rfl) ?_
      refine wp_seq ?_
      refine wp_region_lit ?_
      refine sx_call (by kernel_rfl) rfl rfl (awake16_n W5) (by kernel_rfl) ?_
      rintro e W6 ⟨rfl, hb⟩
      replace HB := over HB hb
      replace M2 := M2.below hb
      replace M4 := M4.below hb
      have z4 := hb.size
      clear hb
      refine ⟨_, rfl, ?_⟩
      refine sx_val (by kernel_rfl) rfl rfl (.bool true) (by kernel_rfl) ?_
      refine wpList_nil ?_
      refine sx_norm ?_
      refine wp_ret ?_
      refine sx_rs ?_
      exact sx_ret1 (.bool true) rfl rfl (by kernel_rfl) ⟨rfl, HB⟩
    refine sx_bool (by kernel_rfl) rfl rfl (decide (((l.length : Nat) : Int) > 12)) false (by kernel_rfl) (decide_eq_false (by omega)) ?_
    refine sx_val (by kernel_rfl) rfl rfl (.bool false) (by kernel_rfl) ?_
    refine sx_val (by kernel_rfl) rfl rfl (.bool false) (by kernel_rfl) ?_
    refine sx_val (by kernel_rfl) rfl rfl (.agg #[.slice k.o0 x.pl.length k.c0, .slice k.o1 x.al.length k.c1, .slice k.o2 x.tl.length k.c2, .slice k.o3 x.ol.length k.c3, .slice k.o4 x.ap.length k.c4, .slice k.o5 x.be.length k.c5]) (ex_load rfl M2 (by kernel_rfl) Try.underlying30 rfl (by kernel_rfl)) ?_
    refine sx_val (by kernel_rfl) rfl rfl (.agg #[.int .i64 ty, .int .i64 st, .slice orr nr cr, .slice oa l.length c]) (ex_load rfl M4 (by kernel_rfl) Try.underlying34 rfl (by kernel_rfl)) ?_
    have hq := few_ok (x := x) (by assumption)
    have hq1 := hq.1
    have hq5 := hq.2.2.2.2.1
    have hq6 := hq.2.2.2.2.2
    refine sx_call (by kernel_rfl) rfl rfl ((by have h8 := check16_n k.o0 k.o1 k.o2 k.o3 k.o4 k.o5 x.pl.length x.al.length x.tl.length k.c0 k.c1 k.c2 k.c3 k.c4 k.c5 x.ol x.ap x.be (by omega) hq.2.2.1 (by omega) hq.2.2.2.1 (by omega) W5 (hI.below HB).h3 (hI.below HB).h4 (hI.below HB).h5 ty st orr oa nr cr c b o l (by omega) (hl.below HB); rw [chk_is hq.2.1 (by omega) hq.2.2.1 hq.2.2.2.1 l] at h8; exact h8)) (by kernel_rfl) ?_
    rintro e W7 ⟨rfl, hb⟩
    replace HB := over HB hb
    replace M2 := M2.below hb
    replace M4 := M4.below hb
    have z4 := hb.size
    clear hb
    refine ⟨_, rfl, ?_⟩
    by_cases C3 : (chkR x.ol x.ap x.be l) = 0
    · refine sx_bool (by kernel_rfl) rfl rfl (((chkR x.ol x.ap x.be l) : Int) != (0 : Int)) false (by kernel_rfl) (by rw [bne_eq_false_iff_eq]; omega) ?_
      refine sx_val (by kernel_rfl) rfl rfl (.bool false) (by kernel_rfl) ?_
      refine wpList_nil ?_
      refine sx_norm ?_
      refine sx_false (by kernel_rfl) ?_
      refine wp_skip ?_
      refine sx_norm ?_
      refine wp_seq ?_
      have hc0 : chkR x.ol x.ap x.be l = 0 := by assumption
      have hex := (chk_ok hc0).2.1
      have hp0 := (ord_pos (by omega) hex).1
      have hE0 := (ord_pos (by omega) hex).2
      have hend := grow_end hq.2.1 (by omega) hc0
      refine wp_region_lit ?_
      refine sx_val (by kernel_rfl) rfl rfl (.agg #[.int .i64 ty, .int .i64 st, .slice orr nr cr, .slice oa l.length c]) (ex_load rfl M4 (by kernel_rfl) Try.underlying34 rfl (by kernel_rfl)) ?_
      refine sx_call (by kernel_rfl) rfl rfl (orders_n ty st orr oa nr cr c b o l (by omega) W7 (hl.below HB)) (by kernel_rfl) ?_
      rintro e W8 ⟨rfl, hb⟩
      replace HB := over HB hb
      replace M2 := M2.below hb
      replace M4 := M4.below hb
      have z5 := hb.size
      clear hb
      refine ⟨_, rfl, ?_⟩
      refine sx_val (by kernel_rfl) rfl rfl (.tuple #[.int .i64 (ordN l), .int .i64 (ordE l)]) (by kernel_rfl) ?_
      refine sx_val (by kernel_rfl) rfl rfl (.int .i64 (ordN l)) (by kernel_rfl) ?_
      refine sx_val (by kernel_rfl) rfl rfl (.int .i64 (ordE l)) (by kernel_rfl) ?_
      refine sx_val (by kernel_rfl) rfl rfl (.int .i64 (ordN l)) (by kernel_rfl) ?_
      refine sx_val (by kernel_rfl) rfl rfl (.int .i64 (ordE l)) (by kernel_rfl) ?_
      refine wpList_nil ?_
      refine sx_norm ?_
      refine wp_seq ?_
      refine wp_seq ?_
      refine wp_region_lit ?_
      refine sx_val (by kernel_rfl) rfl rfl (.int .i64 0) (by kernel_rfl) ?_
      refine wpList_nil ?_
      refine sx_norm ?_
      refine wp_block ?_
      refine sx_loop (fun j : Nat => [(0, .agg #[.slice k.o0 x.pl.length k.c0, .slice k.o1 x.al.length k.c1, .slice k.o2 x.tl.length k.c2, .slice k.o3 x.ol.length k.c3, .slice k.o4 x.ap.length k.c4, .slice k.o5 x.be.length k.c5]), (1, .agg #[.int .i64 ty, .int .i64 st, .slice orr nr cr, .slice oa l.length c]), (2, .pointer (some ⟨w.heap.size, 0, none⟩)), (3, .pointer (some ⟨W1.heap.size, 0, none⟩)), (5, .int .i64 (ordN l)), (6, .int .i64 (ordE l)), (7, .int .i64 ((j : Nat) : Int)), (8, .agg #[.slice k.o0 x.pl.length k.c0, .slice k.o1 x.al.length k.c1, .slice k.o2 x.tl.length k.c2, .slice k.o3 x.ol.length k.c3, .slice k.o4 x.ap.length k.c4, .slice k.o5 x.be.length k.c5]), (9, .bool true), (10, .bool false), (11, .bool false), (12, .pointer (some ⟨W1.heap.size, 3, none⟩)), (13, .slice oa l.length c), (14, .int .i64 ((l.length : Nat) : Int)), (15, .bool false), (16, .bool false), (17, .bool false), (18, .agg #[.slice k.o0 x.pl.length k.c0, .slice k.o1 x.al.length k.c1, .slice k.o2 x.tl.length k.c2, .slice k.o3 x.ol.length k.c3, .slice k.o4 x.ap.length k.c4, .slice k.o5 x.be.length k.c5]), (19, .agg #[.int .i64 ty, .int .i64 st, .slice orr nr cr, .slice oa l.length c]), (20, .int .i64 (chkR x.ol x.ap x.be l)), (21, .bool false), (22, .bool false), (24, .tuple #[.int .i64 (ordN l), .int .i64 (ordE l)]), (25, .agg #[.int .i64 ty, .int .i64 st, .slice orr nr cr, .slice oa l.length c]), (26, .tuple #[.int .i64 (ordN l), .int .i64 (ordE l)]), (27, .int .i64 (ordN l)), (28, .int .i64 (ordE l))]) (fun gg j wr => j ≤ l.length ∧ l.length - j ≤ gg ∧ Below W8.heap.size W8 wr) (l.length) (0) (by kernel_rfl) ⟨Nat.zero_le _, Nat.le_refl _, Below.refl _ _⟩ ?_
      rintro gg j g' wr9 ⟨hj, hg, hbl⟩
      replace HB := over HB hbl
      replace M2 := M2.below hbl
      replace M4 := M4.below hbl
      have z6 := hbl.size
      have HL := hbl
      clear hbl
      refine wp_seq ?_
      refine wp_seq ?_
      refine wp_region_lit ?_
      refine sx_val (by kernel_rfl) rfl rfl (.int .i64 ((j : Nat) : Int)) (by kernel_rfl) ?_
      refine sx_val (by kernel_rfl) rfl rfl (.pointer (some ⟨W1.heap.size, 3, none⟩)) (by kernel_rfl) ?_
      refine sx_val (by kernel_rfl) rfl rfl (.slice oa l.length c) (ex_load1 rfl (M4.cell 3 rfl) (by kernel_rfl) Try.underlying32 rfl) ?_
      refine sx_val (by kernel_rfl) rfl rfl (.int .i64 ((l.length : Nat) : Int)) (by kernel_rfl) ?_
      by_cases C4 : j < l.length
      · refine sx_bool (by kernel_rfl) rfl rfl (decide (((j : Nat) : Int) < ((l.length : Nat) : Int))) true (by kernel_rfl) (decide_eq_true (by omega)) ?_
        refine wpList_nil ?_
        refine sx_norm ?_
        refine sx_true (by kernel_rfl) ?_
        refine wp_skip ?_
        refine sx_norm ?_
        refine wp_seq ?_
        refine wp_block ?_
        refine wp_seq ?_
        obtain ⟨Y10, hW⟩ : ∃ W, wr9.drew = W := ⟨_, rfl⟩
        have hb : Below wr9.heap.size wr9 Y10 := hW ▸ below_drew (Below.refl _ _)
        replace HB := over HB hb
        replace M2 := M2.below hb
        replace M4 := M4.below hb
        replace HL := over HL hb
        have z7 := hb.size
        clear hb
        refine sd_begin (fun W => Cb W (w.heap.size) #[.slice k.o0 x.pl.length k.c0, .slice k.o1 x.al.length k.c1, .slice k.o2 x.tl.length k.c2, .slice k.o3 x.ol.length k.c3, .slice k.o4 x.ap.length k.c4, .slice k.o5 x.be.length k.c5] 30 ∧ Cb W (W1.heap.size) #[.int .i64 ty, .int .i64 st, .slice orr nr cr, .slice oa l.length c] 34 ∧ Rw W b o 2 (vF l) l.length oa ∧ True) (by kernel_rfl) (by rw [hW]; exact ⟨M2, M4, (hl.below HB), trivial⟩) ?_
        rw [hW]
        clear hW
        refine sd_take 0 rfl (by kernel_rfl) (by kernel_rfl) (by kernel_rfl) (by kernel_rfl) rfl rfl (.agg #[.slice k.o0 x.pl.length k.c0, .slice k.o1 x.al.length k.c1, .slice k.o2 x.tl.length k.c2, .slice k.o3 x.ol.length k.c3, .slice k.o4 x.ap.length k.c4, .slice k.o5 x.be.length k.c5]) (fun w9 h9 => ex_load rfl h9.1 (by kernel_rfl) Try.underlying30 rfl (by kernel_rfl)) (fun _ _ _ h => h) ⟨M2, M4, (hl.below HB), trivial⟩ ?_
        refine sd_take 1 rfl (by kernel_rfl) (by kernel_rfl) (by kernel_rfl) (by kernel_rfl) rfl rfl (.int .i64 (ordN l)) (fun w9 _ => by kernel_rfl) (fun _ _ _ h => h) ⟨M2, M4, (hl.below HB), trivial⟩ ?_
        refine sd_take 2 rfl (by kernel_rfl) (by kernel_rfl) (by kernel_rfl) (by kernel_rfl) rfl rfl (.pointer (some ⟨W1.heap.size, 3, none⟩)) (fun w9 _ => by kernel_rfl) (fun _ _ _ h => h) ⟨M2, M4, (hl.below HB), trivial⟩ ?_
        refine sd_take 3 rfl (by kernel_rfl) (by kernel_rfl) (by kernel_rfl) (by kernel_rfl) rfl rfl (.slice oa l.length c) (fun w9 h9 => ex_load1 rfl (h9.2.1.cell 3 rfl) (by kernel_rfl) Try.underlying32 rfl) (fun _ _ _ h => h) ⟨M2, M4, (hl.below HB), trivial⟩ ?_
        refine sd_take 4 rfl (by kernel_rfl) (by kernel_rfl) (by kernel_rfl) (by kernel_rfl) rfl rfl (.int .i64 ((j : Nat) : Int)) (fun w9 _ => by kernel_rfl) (fun _ _ _ h => h) ⟨M2, M4, (hl.below HB), trivial⟩ ?_
        refine sd_take 5 rfl (by kernel_rfl) (by kernel_rfl) (by kernel_rfl) (by kernel_rfl) rfl rfl (.slice oa j c) (fun w9 h9 => ex_sliceH (oa := oa) (m := l.length) (c := c) (k := j) (s := 2) rfl (by kernel_rfl) (by kernel_rfl) (by omega) Try.underlying32 (by kernel_rfl)) (fun _ _ _ h => h) ⟨M2, M4, (hl.below HB), trivial⟩ ?_
        refine sd_take 7 rfl (by kernel_rfl) (by kernel_rfl) (by kernel_rfl) (by kernel_rfl) rfl rfl (.pointer (some ⟨W1.heap.size, 3, none⟩)) (fun w9 _ => by kernel_rfl) (fun _ _ _ h => h) ⟨M2, M4, (hl.below HB), trivial⟩ ?_
        refine sd_take 8 rfl (by kernel_rfl) (by kernel_rfl) (by kernel_rfl) (by kernel_rfl) rfl rfl (.slice oa l.length c) (fun w9 h9 => ex_load1 rfl (h9.2.1.cell 3 rfl) (by kernel_rfl) Try.underlying32 rfl) (fun _ _ _ h => h) ⟨M2, M4, (hl.below HB), trivial⟩ ?_
        refine sd_take 9 rfl (by kernel_rfl) (by kernel_rfl) (by kernel_rfl) (by kernel_rfl) rfl rfl (.int .i64 ((j : Nat) : Int)) (fun w9 _ => by kernel_rfl) (fun _ _ _ h => h) ⟨M2, M4, (hl.below HB), trivial⟩ ?_
        refine sd_take 10 rfl (by kernel_rfl) (by kernel_rfl) (by kernel_rfl) (by kernel_rfl) rfl rfl (.pointer (some ⟨b, o + j * 2, none⟩)) (fun w9 h9 => ex_indexO (q := o) (m := l.length) (c := c) (k := j) (s := 2) rfl (by kernel_rfl) (h9.2.2.1.oa (k := j) (by omega)) (by kernel_rfl) Try.underlying32 (by kernel_rfl) (by omega) (by omega)) (fun _ _ _ h => h) ⟨M2, M4, (hl.below HB), trivial⟩ ?_
        refine sd_take 11 rfl (by kernel_rfl) (by kernel_rfl) (by kernel_rfl) (by kernel_rfl) rfl rfl (.agg #[.int .i64 ((l.getD j (0, false)).1), .bool (l.getD j (0, false)).2]) (fun w9 h9 => ex_loadR rfl (h9.2.2.1.range (k := j) (by omega)) (by kernel_rfl) Try.underlying52 rfl (by kernel_rfl)) (fun _ _ _ h => h) ⟨M2, M4, (hl.below HB), trivial⟩ ?_
        refine sd_all [6] (by kernel_rfl) (by decide) ?_
        refine sd_call (i := 6) rfl (by kernel_rfl) rfl rfl ((by have h8 := nextTop_n k.o0 k.o1 k.o2 k.o3 k.o4 k.o5 x.pl.length x.al.length x.tl.length x.ap.length k.c0 k.c1 k.c2 k.c3 k.c4 k.c5 x.ol x.be (by omega) hq.2.2.2.1 (by omega) Y10 (hI.below HB).h3 (hI.below HB).h5 (ordN l) (l.take j) (by first | omega | (rw [List.length_take]; omega)) oa c b o (take_row (hl.below HB) (by omega)); rw [next_is hq.2.1 (by omega) hq.2.2.2.1 hp0 (l.take j)] at h8; rw [show (l.take j).length = j by rw [List.length_take]; omega] at h8; exact h8)) (by kernel_rfl) ?_ AllReadyH.nil
        rintro e W11 ⟨oa91, c91, rfl, ⟨hvs91, -, -⟩, hb⟩
        replace HB := over HB hb
        replace M2 := M2.below hb
        replace M4 := M4.below hb
        replace HL := over HL hb
        have z8 := hb.size
        clear hb
        refine ⟨_, rfl, ⟨M2, M4, (hl.below HB), trivial⟩, ?_⟩
        obtain ⟨bv91, qv91, hvr91⟩ := hvs91.rw2
        clear hvs91
        refine sd_all [12] (by kernel_rfl) (by decide) ?_
        refine sd_call (i := 12) rfl (by kernel_rfl) rfl rfl (refIndex_n (l.getD j (0, false)) (nxR (ordN l) x.ol x.be (l.take j) x.ol.length) (by have h8 := nxR_len (ordN l) x.ol x.be (l.take j) x.ol.length; omega) oa91 c91 bv91 qv91 W11 hvr91) (by kernel_rfl) ?_ AllReadyH.nil
        rintro e W12 ⟨rfl, hb⟩
        replace HB := over HB hb
        replace M2 := M2.below hb
        replace M4 := M4.below hb
        replace HL := over HL hb
        replace hvr91 := hvr91.below hb
        have z9 := hb.size
        clear hb
        refine ⟨_, rfl, ⟨M2, M4, (hl.below HB), trivial⟩, ?_⟩
        have hgr := idxV_mem.1 (grow_one hq.2.1 (by omega) hq.2.2.2.1 hc0 (show j < l.length by omega))
        refine sd_take 13 rfl (by kernel_rfl) (by kernel_rfl) (by kernel_rfl) (by kernel_rfl) rfl rfl (.bool false) (fun w9 _ => ex_bool (decide ((idxV (nxR (ordN l) x.ol x.be (l.take j) x.ol.length) (l.getD j (0, false))) < 0)) false (by kernel_rfl) (decide_eq_false (by omega))) (fun _ _ _ h => h) ⟨M2, M4, (hl.below HB), trivial⟩ ?_
        refine sd_done (by kernel_rfl) ?_
        refine sx_norm ?_
        refine sx_false (by kernel_rfl) ?_
        refine wp_skip ?_
        refine sx_in ?_
        refine sx_norm ?_
        refine wp_region_lit ?_
        refine sx_val (by kernel_rfl) rfl rfl (.int .i64 ((j : Nat) : Int)) (by kernel_rfl) ?_
        refine sx_int (by kernel_rfl) rfl rfl .i64 (IntKind.i64.wrap (((j : Nat) : Int) + 1)) (((j + 1 : Nat) : Int)) (by kernel_rfl) (by rw [IntKind.wrap_i64]; omega) ?_
        refine sx_val (by kernel_rfl) rfl rfl (.int .i64 ((j + 1 : Nat) : Int)) (by kernel_rfl) ?_
        refine wpList_nil ?_
        refine sx_norm ?_
        exact sx_again (l.length - (j + 1)) (j + 1) (by omega) (by kernel_rfl) ⟨by omega, Nat.le_refl _, HL⟩
      refine sx_bool (by kernel_rfl) rfl rfl (decide (((j : Nat) : Int) < ((l.length : Nat) : Int))) false (by kernel_rfl) (decide_eq_false (by omega)) ?_
      refine wpList_nil ?_
      refine sx_norm ?_
      refine sx_false (by kernel_rfl) ?_
      refine wp_exit ?_
      refine sx_es ?_
      refine sx_es ?_
      refine sx_out ?_
      refine sx_norm ?_
      refine wp_seq ?_
      have hnl : (nxR (ordN l) x.ol x.be l x.ol.length).length = 0 := by rw [hend]; rfl
      refine wp_region_lit ?_
      refine sx_val (by kernel_rfl) rfl rfl (.int .i64 (ordE l)) (by kernel_rfl) ?_
      refine sx_bool (by kernel_rfl) rfl rfl (((ordE l) : Int) == (0 : Int)) true (by kernel_rfl) (beq_iff_eq.2 (by omega)) ?_
      refine sx_val (by kernel_rfl) rfl rfl (.bool true) (by kernel_rfl) ?_
      refine sx_val (by kernel_rfl) rfl rfl (.agg #[.slice k.o0 x.pl.length k.c0, .slice k.o1 x.al.length k.c1, .slice k.o2 x.tl.length k.c2, .slice k.o3 x.ol.length k.c3, .slice k.o4 x.ap.length k.c4, .slice k.o5 x.be.length k.c5]) (ex_load rfl M2 (by kernel_rfl) Try.underlying30 rfl (by kernel_rfl)) ?_
      refine sx_val (by kernel_rfl) rfl rfl (.int .i64 (ordN l)) (by kernel_rfl) ?_
      refine sx_val (by kernel_rfl) rfl rfl (.pointer (some ⟨W1.heap.size, 3, none⟩)) (by kernel_rfl) ?_
      refine sx_val (by kernel_rfl) rfl rfl (.slice oa l.length c) (ex_load1 rfl (M4.cell 3 rfl) (by kernel_rfl) Try.underlying32 rfl) ?_
      refine sx_call (by kernel_rfl) rfl rfl ((by have h8 := nextTop_n k.o0 k.o1 k.o2 k.o3 k.o4 k.o5 x.pl.length x.al.length x.tl.length x.ap.length k.c0 k.c1 k.c2 k.c3 k.c4 k.c5 x.ol x.be (by omega) hq.2.2.2.1 (by omega) wr9 (hI.below HB).h3 (hI.below HB).h5 (ordN l) l (by first | omega | (rw [List.length_take]; omega)) oa c b o (hl.below HB); rw [next_is hq.2.1 (by omega) hq.2.2.2.1 hp0 l] at h8; exact h8)) (by kernel_rfl) ?_
      rintro e W13 ⟨oa92, c92, rfl, ⟨hvs92, -, -⟩, hb⟩
      replace HB := over HB hb
      replace M2 := M2.below hb
      replace M4 := M4.below hb
      replace HL := over HL hb
      have z7 := hb.size
      clear hb
      refine ⟨_, rfl, ?_⟩
      obtain ⟨bv92, qv92, hvr92⟩ := hvs92.rw2
      clear hvs92
      refine sx_val (by kernel_rfl) rfl rfl (.int .i64 (((nxR (ordN l) x.ol x.be l x.ol.length).length : Nat) : Int)) (by kernel_rfl) ?_
      refine sx_bool (by kernel_rfl) rfl rfl (((((nxR (ordN l) x.ol x.be l x.ol.length).length : Nat) : Int) : Int) == (0 : Int)) true (by kernel_rfl) (beq_iff_eq.2 (by omega)) ?_
      refine sx_val (by kernel_rfl) rfl rfl (.bool true) (by kernel_rfl) ?_
      refine sx_val (by kernel_rfl) rfl rfl (.bool true) (by kernel_rfl) ?_
      refine sx_call (by kernel_rfl) rfl rfl (awake16_n W13) (by kernel_rfl) ?_
      rintro e W14 ⟨rfl, hb⟩
      replace HB := over HB hb
      replace M2 := M2.below hb
      replace M4 := M4.below hb
      replace HL := over HL hb
      replace hvr92 := hvr92.below hb
      have z8 := hb.size
      clear hb
      refine ⟨_, rfl, ?_⟩
      refine sx_val (by kernel_rfl) rfl rfl (.bool true) (by kernel_rfl) ?_
      refine sx_val (by kernel_rfl) rfl rfl (.bool true) (by kernel_rfl) ?_
      refine wpList_nil ?_
      refine sx_norm ?_
      refine wp_ret ?_
      exact sx_ret1 (.bool true) rfl rfl (by kernel_rfl) ⟨rfl, HB⟩
    refine sx_bool (by kernel_rfl) rfl rfl (((chkR x.ol x.ap x.be l) : Int) != (0 : Int)) true (by kernel_rfl) (bne_iff_ne.2 (by omega)) ?_
    refine sx_val (by kernel_rfl) rfl rfl (.bool true) (by kernel_rfl) ?_
    refine wpList_nil ?_
    refine sx_norm ?_
    refine sx_true (by kernel_rfl) ?_
    refine wp_seq ?_
    refine wp_region_lit ?_
    refine sx_call (by kernel_rfl) rfl rfl (awake16_n W7) (by kernel_rfl) ?_
    rintro e W15 ⟨rfl, hb⟩
    replace HB := over HB hb
    replace M2 := M2.below hb
    replace M4 := M4.below hb
    have z5 := hb.size
    clear hb
    refine ⟨_, rfl, ?_⟩
    refine sx_val (by kernel_rfl) rfl rfl (.bool true) (by kernel_rfl) ?_
    refine wpList_nil ?_
    refine sx_norm ?_
    refine wp_ret ?_
    refine sx_rs ?_
    exact sx_ret1 (.bool true) rfl rfl (by kernel_rfl) ⟨rfl, HB⟩
  refine sx_call (by kernel_rfl) rfl rfl ((by have h8 := few_n k x hv W3 (hI.below HB); rw [show (fewB x) = false by simpa using C1] at h8; exact h8)) (by kernel_rfl) ?_
  rintro e W16 ⟨rfl, hb⟩
  replace HB := over HB hb
  replace M2 := M2.below hb
  replace M4 := M4.below hb
  have z3 := hb.size
  clear hb
  refine ⟨_, rfl, ?_⟩
  refine sx_val (by kernel_rfl) rfl rfl (.bool true) (by kernel_rfl) ?_
  refine sx_val (by kernel_rfl) rfl rfl (.bool true) (by kernel_rfl) ?_
  refine sx_skip (by kernel_rfl) rfl rfl ?_
  refine sx_skip (by kernel_rfl) rfl rfl ?_
  refine sx_skip (by kernel_rfl) rfl rfl ?_
  refine sx_skip (by kernel_rfl) rfl rfl ?_
  refine sx_val (by kernel_rfl) rfl rfl (.bool true) (by kernel_rfl) ?_
  refine sx_val (by kernel_rfl) rfl rfl (.bool true) (by kernel_rfl) ?_
  refine sx_skip (by kernel_rfl) rfl rfl ?_
  refine sx_skip (by kernel_rfl) rfl rfl ?_
  refine sx_skip (by kernel_rfl) rfl rfl ?_
  refine sx_skip (by kernel_rfl) rfl rfl ?_
  refine sx_val (by kernel_rfl) rfl rfl (.bool true) (by kernel_rfl) ?_
  refine wpList_nil ?_
  refine sx_norm ?_
  refine sx_true (by kernel_rfl) ?_
  refine wp_seq ?_
  refine wp_region_lit ?_
  refine sx_call (by kernel_rfl) rfl rfl (awake16_n W16) (by kernel_rfl) ?_
  rintro e W17 ⟨rfl, hb⟩
  replace HB := over HB hb
  replace M2 := M2.below hb
  replace M4 := M4.below hb
  have z4 := hb.size
  clear hb
  refine ⟨_, rfl, ?_⟩
  refine sx_val (by kernel_rfl) rfl rfl (.bool true) (by kernel_rfl) ?_
  refine wpList_nil ?_
  refine sx_norm ?_
  refine wp_ret ?_
  refine sx_rs ?_
  exact sx_ret1 (.bool true) rfl rfl (by kernel_rfl) ⟨rfl, HB⟩

end Go.Proofs.Ytoliacfpjhanlaa.T

