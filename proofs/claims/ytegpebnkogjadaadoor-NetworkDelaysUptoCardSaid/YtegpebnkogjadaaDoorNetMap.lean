/-
  DERIVED. Maps of ways and of texts that a call makes itself.
-/
import Derived.Test.YtegpebnkogjadaaDoorNetTop1
import Derived.Test.YtegpebnkogjadaaDoorNetArgs
import Derived.Maps.OwnSet
import Derived.DeepKeys4
namespace Go.Proofs.YtegpebnkogjadaaDoor.T
open Go.RowKit
set_option maxRecDepth 8000

def I64 (x : Int) : Prop := -9223372036854775808 ≤ x ∧ x ≤ 9223372036854775807
theorem i64_wf {x : Int} (h : I64 x) : (Lit.int .i64 x).wf = true := by
  unfold I64 at h
  simp [Lit.wf, IntKind.min, IntKind.max, IntKind.signed, IntKind.bits]
  omega
theorem wf_i64 {x : Int} (h : (Lit.int .i64 x).wf = true) : I64 x := by
  unfold I64
  simp [Lit.wf, IntKind.min, IntKind.max, IntKind.signed, IntKind.bits] at h
  omega
/-- a way, as a key reads -/
def wk (p f t : Int) : Lit := .string (keyBytes [.int .i64 p, .int .i64 f, .int .i64 t])
theorem wayKey {p f t : Int} (hp : I64 p) (hf : I64 f) (ht : I64 t) : keyOf Tryd.prog 59 (.agg #[.int .i64 p, .int .i64 f, .int .i64 t]) = some (wk p f t) := by
  have h0 : 0 < Tryd.prog.types.size := of_decide_eq_true (by kernel_rfl)
  obtain ⟨m, hm⟩ : ∃ m, Tryd.prog.types.size = m + 1 := ⟨Tryd.prog.types.size - 1, by omega⟩
  have hkt : Tryd.prog.keyType 59 = true := by kernel_rfl
  have hc : Tryd.prog.cellsOf 59 = 3 := by kernel_rfl
  have hi : Tryd.prog.cellsOf 3 = 1 := by kernel_rfl
  unfold keyOf
  simp only [Tryd.underlying59]
  rw [if_pos (by simp [hkt, Value.formed, Tryd.underlying59, hc]), hm]
  unfold Program.keyLits
  simp only [Tryd.underlying59, Value.cells]
  rw [if_pos (by rw [hc]; exact ⟨rfl, by simp⟩)]
  simp [hi, Program.keyLits, Tryd.underlying3, i64_wf hp, i64_wf hf, i64_wf ht, wk]
theorem lawWay : Maps.Keyed Tryd.prog 59 := Maps.Keyed.of_law (deep_law_laid laidOut (m := 2) (by omega) (of_decide_eq_true (by kernel_rfl)) (by kernel_rfl) (by kernel_rfl))
theorem wk_inj {p f t p' f' t' : Int} (hp : I64 p) (hf : I64 f) (ht : I64 t) (hp' : I64 p') (hf' : I64 f') (ht' : I64 t') (h : wk p f t = wk p' f' t') : p = p' ∧ f = f' ∧ t = t' := by
  have h1 := wayKey hp hf ht
  have h2 := wayKey hp' hf' ht'
  rw [← h] at h2
  have h3 := lawWay.inj h1 h2
  injection h3 with h3
  injection h3 with h3
  injection h3 with h4 h5
  injection h5 with h5 h6
  injection h6 with h6 _
  injection h4 with _ h4
  injection h5 with _ h5
  injection h6 with _ h6
  exact ⟨h4, h5, h6⟩
theorem zeroI (w : World) : (zeroValue 3).run Tryd.prog w = .ok (.int .i64 0) w := by kernel_rfl
theorem zeroB (w : World) : (zeroValue 4).run Tryd.prog w = .ok (.bool false) w := by kernel_rfl
theorem makeMap_n {P : Program} (t k e : TypeId) (kd : IntKind) (n : Int) (ht : P.underlying t = some (.map k e)) (w : World) : (Instr.makeMap t (some (.int kd n))).run P w = .ok (.map (some w.heap.size)) (w.alloc (.map #[] 0)) := by
  simp [Instr.makeMap, run_underlying ht]; rfl

abbrev WayF := Int → Int → Int → Option Nat
def putF (g : WayF) (p f t : Int) (i : Nat) : WayF := fun p' f' t' => if p' = p ∧ f' = f ∧ t' = t then some i else g p' f' t'
/-- block b is a map: of each way the number that g says -/
def Wm (w : World) (b n : Nat) (g : WayF) : Prop :=
  ∃ D : DataW Unit, w.ownsMap Tryd.prog 59 (plainElem Tryd.prog 3) b n D ∧ ∀ p f t, I64 p → I64 f → I64 t →
    Maps.has D (wk p f t) = (g p f t).isSome ∧ D.atKey (wk p f t) (.lit (.int .i64 0)) = .lit (.int .i64 ((g p f t).getD 0 : Nat))
section
variable {w w' : World} {b n : Nat} {g g' : WayF}
theorem Wm.lt (h : Wm w b n g) : b < w.heap.size := by obtain ⟨D, h, _⟩ := h; exact h.lt
theorem Wm.of_block (h : Wm w b n g) (hb : w'.heap[b]? = w.heap[b]?) : Wm w' b n g := by
  obtain ⟨D, ⟨es, clock, h1, h2⟩, h⟩ := h
  exact ⟨D, ⟨es, clock, hb.trans h1, h2⟩, h⟩
theorem Wm.below (h : Wm w b n g) (hb : Below w.heap.size w w') : Wm w' b n g := h.of_block (hb.block b h.lt)
theorem Wm.grown {row : Option Nat} (h : Wm w b n g) (hg : w.grownBy w' row) (hne : some b ≠ row) : Wm w' b n g := h.of_block (hg.block b h.lt hne)
theorem Wm.ext (h : Wm w b n g) (e : ∀ p f t, g p f t = g' p f t) : Wm w b n g' := by
  obtain ⟨D, h1, h⟩ := h
  exact ⟨D, h1, fun p f t hp hf ht => by rw [← e p f t]; exact h p f t hp hf ht⟩
theorem Wm.made (w : World) : Wm (w.alloc (.map #[] 0)) w.heap.size 0 (fun _ _ _ => none) :=
  ⟨.map [], World.ownsMap_made w _ _ _, fun _ _ _ _ _ _ => ⟨rfl, rfl⟩⟩
theorem Wm.put (h : Wm w b n g) (hn : n < maxLen) {p f t : Int} (hp : I64 p) (hf : I64 f) (ht : I64 t) (i : Nat) (hi : i ≤ 1000000000) :
    ∃ w', (Instr.mapUpdate 56 (.map (some b)) (.agg #[.int .i64 p, .int .i64 f, .int .i64 t]) (.int .i64 (i : Int))).run Tryd.prog w = .ok () w' ∧ Wm w' b (n + 1) (putF g p f t i) ∧ w.grownBy w' (some b) := by
  obtain ⟨D, hown, hD⟩ := h
  have hkey := wayKey hp hf ht
  obtain ⟨w', hrun, hown', hg⟩ := hown.update lawWay Tryd.underlying56 hn hkey (plainElem_int (H := Unit) (P := Tryd.prog) (e := 3) Tryd.underlying3 (i64_wf (x := (i : Int)) ⟨by omega, by omega⟩))
  refine ⟨w', hrun, ⟨_, hown', fun p' f' t' hp' hf' ht' => ?_⟩, hg⟩
  unfold putF
  by_cases e : p' = p ∧ f' = f ∧ t' = t
  · obtain ⟨rfl, rfl, rfl⟩ := e
    rw [if_pos ⟨rfl, rfl, rfl⟩]
    exact ⟨Maps.has_put_same hown.isMap (lawWay.key hkey) _, Maps.atKey_put_same hown.isMap (lawWay.key hkey) _ _⟩
  · have hne : wk p' f' t' ≠ wk p f t := fun h => e (wk_inj hp' hf' ht' hp hf ht h)
    rw [if_neg e, Maps.has_put_other hne, Maps.atKey_put_other hne]
    exact hD p' f' t' hp' hf' ht'
theorem Wm.look (h : Wm w b n g) {p f t : Int} (hp : I64 p) (hf : I64 f) (ht : I64 t) :
    (Instr.lookup 56 (.map (some b)) (.agg #[.int .i64 p, .int .i64 f, .int .i64 t]) true).run Tryd.prog w = .ok (.tuple #[.int .i64 ((g p f t).getD 0 : Nat), .bool (g p f t).isSome]) w := by
  obtain ⟨D, hown, hD⟩ := h
  obtain ⟨h1, h2⟩ := hD p f t hp hf ht
  obtain ⟨v, ps, hrun, hv⟩ := hown.look_ok lawWay Tryd.underlying56 (zeroI w) (plainElem_int (H := Unit) (P := Tryd.prog) (e := 3) Tryd.underlying3 (i64_wf (x := 0) ⟨by omega, by omega⟩)) (wayKey hp hf ht)
  obtain ⟨c, rfl, hc, _⟩ := plainElem_int_inv Tryd.underlying3 hv
  simp only [Prod.mk.injEq] at hc
  rw [h2] at hc
  obtain ⟨hc, -⟩ := hc
  injection hc with hc
  injection hc with _ hc
  rw [hrun, h1, ← hc]
theorem Wm.look1 (h : Wm w b n g) {p f t : Int} (hp : I64 p) (hf : I64 f) (ht : I64 t) :
    (Instr.lookup 56 (.map (some b)) (.agg #[.int .i64 p, .int .i64 f, .int .i64 t]) false).run Tryd.prog w = .ok (.int .i64 ((g p f t).getD 0 : Nat)) w := by
  obtain ⟨D, hown, hD⟩ := h
  obtain ⟨-, h2⟩ := hD p f t hp hf ht
  obtain ⟨c, hrun, hc, _⟩ := hown.lookup_int lawWay Tryd.underlying56 Tryd.underlying3 (zeroI w) (wayKey hp hf ht)
  rw [h2] at hc
  injection hc with hc
  injection hc with _ hc
  rw [hrun, ← hc]
end

/-! ### maps of texts -/
theorem lawStr : Maps.Keyed Tryd.prog 9 := Maps.string_keyed Tryd.underlying9
def sk (s : ByteArray) : Lit := .string s.data.toList
theorem strKey {s : ByteArray} (h : s.size ≤ maxLen) : keyOf Tryd.prog 9 (.string s) = some (sk s) := WideMaps.keyOf_string_mk Tryd.underlying9 h
theorem sk_inj {s s' : ByteArray} (h : sk s = sk s') : s = s' := by
  unfold sk at h
  injection h with h
  obtain ⟨⟨l⟩⟩ := s
  obtain ⟨⟨l'⟩⟩ := s'
  simp at h
  rw [h]
theorem plainElem_bool_inv {v : Value} {z : DataW Unit × List MemPlace} (h : plainElem Tryd.prog 4 v = some z) : ∃ x, v = .bool x ∧ z = (.lit (.bool x), []) := by
  unfold plainElem at h
  rw [Tryd.underlying4] at h
  cases v <;> simp at h
  exact ⟨_, rfl, h.symm⟩
/-- block b is a map: of each text what g says -/
def Sm (w : World) (b n : Nat) (g : ByteArray → Bool) : Prop :=
  ∃ D : DataW Unit, w.ownsMap Tryd.prog 9 (plainElem Tryd.prog 4) b n D ∧ ∀ s, s.size ≤ maxLen → D.atKey (sk s) (.lit (.bool false)) = .lit (.bool (g s))
section
variable {w w' : World} {b n : Nat} {g g' : ByteArray → Bool}
theorem Sm.lt (h : Sm w b n g) : b < w.heap.size := by obtain ⟨D, h, _⟩ := h; exact h.lt
theorem Sm.of_block (h : Sm w b n g) (hb : w'.heap[b]? = w.heap[b]?) : Sm w' b n g := by
  obtain ⟨D, ⟨es, clock, h1, h2⟩, h⟩ := h
  exact ⟨D, ⟨es, clock, hb.trans h1, h2⟩, h⟩
theorem Sm.below (h : Sm w b n g) (hb : Below w.heap.size w w') : Sm w' b n g := h.of_block (hb.block b h.lt)
theorem Sm.grown {row : Option Nat} (h : Sm w b n g) (hg : w.grownBy w' row) (hne : some b ≠ row) : Sm w' b n g := h.of_block (hg.block b h.lt hne)
theorem Sm.ext (h : Sm w b n g) (e : ∀ s, g s = g' s) : Sm w b n g' := by
  obtain ⟨D, h1, h⟩ := h
  exact ⟨D, h1, fun s hs => by rw [← e s]; exact h s hs⟩
theorem Sm.made (w : World) : Sm (w.alloc (.map #[] 0)) w.heap.size 0 (fun _ => false) :=
  ⟨.map [], World.ownsMap_made w _ _ _, fun _ _ => rfl⟩
theorem Sm.put (h : Sm w b n g) (hn : n < maxLen) {s : ByteArray} (hs : s.size ≤ maxLen) :
    ∃ w', (Instr.mapUpdate 76 (.map (some b)) (.string s) (.bool true)).run Tryd.prog w = .ok () w' ∧ Sm w' b (n + 1) (fun s' => g s' || (s'.toList == s.toList)) ∧ w.grownBy w' (some b) := by
  obtain ⟨D, hown, hD⟩ := h
  have hkey := strKey hs
  obtain ⟨w', hrun, hown', hg⟩ := hown.update lawStr Tryd.underlying76 hn hkey (plainElem_bool (H := Unit) (P := Tryd.prog) (e := 4) Tryd.underlying4 true)
  refine ⟨w', hrun, ⟨_, hown', fun s' hs' => ?_⟩, hg⟩
  by_cases e : s' = s
  · subst e
    rw [Maps.atKey_put_same hown.isMap (lawStr.key hkey)]
    simp
  · have hne : sk s' ≠ sk s := fun h => e (sk_inj h)
    rw [Maps.atKey_put_other hne, hD s' hs']
    have h2 : (s'.toList == s.toList) = false := by
      rw [beq_eq_false_iff_ne]
      intro h
      apply hne
      have h3 : s'.data.toList = s.data.toList := by
        have h4 := ByteArray.toList_eq s' 
        have h5 := ByteArray.toList_eq s
        rw [← h4, ← h5]; exact h
      unfold sk; rw [h3]
    show _ = DataW.lit (.bool (g s' || (s'.toList == s.toList)))
    rw [h2, Bool.or_false]
theorem Sm.look1 (h : Sm w b n g) {s : ByteArray} (hs : s.size ≤ maxLen) :
    (Instr.lookup 76 (.map (some b)) (.string s) false).run Tryd.prog w = .ok (.bool (g s)) w := by
  obtain ⟨D, hown, hD⟩ := h
  have h2 := hD s hs
  obtain ⟨v, ps, hrun, hv⟩ := hown.lookup lawStr Tryd.underlying76 (zeroB w) (plainElem_bool (H := Unit) (P := Tryd.prog) (e := 4) Tryd.underlying4 false) (strKey hs)
  obtain ⟨x, rfl, hx⟩ := plainElem_bool_inv hv
  simp only [Prod.mk.injEq] at hx
  rw [h2] at hx
  obtain ⟨hx, -⟩ := hx
  injection hx with hx
  injection hx with hx
  rw [hrun, hx]
end

/-! ### the first arc of a way -/
def fixA (pr f t : Int) : List ArcT → Nat → Option Nat
  | [], _ => none
  | a :: l, k => if hitB pr f t a then some k else fixA pr f t l (k + 1)
def ixA (l : List ArcT) (k : Nat) : WayF := fun p f t => fixA p f t (l.drop k) k
theorem ixA_end (l : List ArcT) (p f t : Int) : ixA l l.length p f t = none := by unfold ixA; rw [List.drop_length]; rfl
theorem ixA_step {l : List ArcT} {k : Nat} (hk : k < l.length) (p f t : Int) : putF (ixA l (k + 1)) (l.getD k arc0).prof (l.getD k arc0).fr (l.getD k arc0).to k p f t = ixA l k p f t := by
  unfold putF ixA
  rw [show l.drop k = l.getD k arc0 :: l.drop (k + 1) from drop_more (d := arc0) hk]
  generalize l.getD k arc0 = a
  show _ = if hitB p f t a then some k else fixA p f t (l.drop (k + 1)) (k + 1)
  by_cases e : p = a.prof ∧ f = a.fr ∧ t = a.to
  · obtain ⟨rfl, rfl, rfl⟩ := e
    rw [if_pos ⟨rfl, rfl, rfl⟩, hit_yes rfl rfl rfl]; rfl
  · rw [if_neg e, hit_no (by
      by_cases e1 : a.fr = f
      · by_cases e2 : a.to = t
        · exact .inr (.inr fun e3 => e ⟨e3.symm, e1.symm, e2.symm⟩)
        · exact .inr (.inl e2)
      · exact .inl e1)]
    rfl
theorem fixA_some {pr f t : Int} : ∀ {l : List ArcT} {k i : Nat}, fixA pr f t l k = some i → k ≤ i ∧ i - k < l.length ∧ hitB pr f t (l.getD (i - k) arc0) = true ∧ findA l pr f t = some (l.getD (i - k) arc0) ∧ ∀ j, j < i - k → hitB pr f t (l.getD j arc0) = false
  | [], k, i, h => by cases h
  | a :: l, k, i, h => by
    unfold fixA at h
    by_cases e : hitB pr f t a = true
    · rw [if_pos e] at h
      injection h with h
      subst h
      rw [Nat.sub_self]
      refine ⟨Nat.le_refl _, by simp, e, ?_, fun j hj => absurd hj (Nat.not_lt_zero _)⟩
      unfold findA; rw [List.find?_cons, e]; rfl
    · rw [if_neg e] at h
      have e' : hitB pr f t a = false := by cases hb : hitB pr f t a <;> simp_all
      obtain ⟨h1, h2, h3, h4, h5⟩ := fixA_some h
      have hs : i - k = (i - (k + 1)) + 1 := by omega
      rw [hs]
      refine ⟨by omega, by rw [List.length_cons]; omega, by simpa using h3, ?_, fun j hj => ?_⟩
      · unfold findA at h4 ⊢; rw [List.find?_cons, e']; simpa using h4
      · cases j with
        | zero => exact e'
        | succ j => simpa using h5 j (by omega)
theorem fixA_none {pr f t : Int} : ∀ {l : List ArcT} {k : Nat}, fixA pr f t l k = none → findA l pr f t = none
  | [], _, _ => rfl
  | a :: l, k, h => by
    unfold fixA at h
    by_cases e : hitB pr f t a = true
    · rw [if_pos e] at h; cases h
    · rw [if_neg e] at h
      have e' : hitB pr f t a = false := by cases hb : hitB pr f t a <;> simp_all
      have := fixA_none h
      unfold findA at this ⊢
      rw [List.find?_cons, e']; exact this
theorem ix_some {l : List ArcT} {p f t : Int} {i : Nat} (h : ixA l 0 p f t = some i) : i < l.length ∧ findA l p f t = some (l.getD i arc0) := by
  unfold ixA at h
  rw [List.drop_zero] at h
  obtain ⟨-, h2, -, h4, -⟩ := fixA_some h
  exact ⟨by omega, by simpa using h4⟩
theorem ix_none {l : List ArcT} {p f t : Int} (h : ixA l 0 p f t = none) : findA l p f t = none := by
  unfold ixA at h
  rw [List.drop_zero] at h
  exact fixA_none h
/-- an arc comes twice if the first one of its way comes ahead of it -/
theorem ix_twice {l : List ArcT} {i : Nat} (hi : i < l.length) : ∃ j, ixA l 0 (l.getD i arc0).prof (l.getD i arc0).fr (l.getD i arc0).to = some j ∧ twiceB l (l.getD i arc0) i = decide (j < i) := by
  have hself : hitB (l.getD i arc0).prof (l.getD i arc0).fr (l.getD i arc0).to (l.getD i arc0) = true := hit_yes rfl rfl rfl
  have hlike : ∀ b, likeB (l.getD i arc0) b = hitB (l.getD i arc0).prof (l.getD i arc0).fr (l.getD i arc0).to b := fun b => by
    unfold likeB hitB
    rw [decide_eq_decide.2 (eq_comm (a := (l.getD i arc0).fr)), decide_eq_decide.2 (eq_comm (a := (l.getD i arc0).to)), decide_eq_decide.2 (eq_comm (a := (l.getD i arc0).prof))]
  generalize hp : (l.getD i arc0).prof = p at *
  generalize hf : (l.getD i arc0).fr = f at *
  generalize ht : (l.getD i arc0).to = t at *
  cases h : ixA l 0 p f t with
  | none =>
    have h1 := ix_none h
    unfold findA at h1
    rw [List.find?_eq_none] at h1
    exact absurd hself (h1 _ (getD_mem hi))
  | some j =>
    refine ⟨j, rfl, ?_⟩
    unfold ixA at h
    rw [List.drop_zero] at h
    obtain ⟨-, h2, h3, -, h5⟩ := fixA_some h
    rw [Nat.sub_zero] at h2 h3 h5
    have hji : j ≤ i := by
      apply Decidable.byContradiction
      intro hc
      have := h5 i (by omega)
      rw [hself] at this; cases this
    unfold twiceB
    by_cases e : j < i
    · rw [decide_eq_true e, List.any_eq_true]
      refine ⟨l.getD j arc0, ?_, by rw [hlike]; exact h3⟩
      rw [List.getD_eq_getElem?_getD, List.getElem?_eq_getElem h2]
      exact List.mem_take_iff_getElem.2 ⟨j, by omega, rfl⟩
    · rw [decide_eq_false e, List.any_eq_false]
      intro b hb
      obtain ⟨m, hm, rfl⟩ := List.mem_take_iff_getElem.1 hb
      have := h5 m (by omega)
      rw [List.getD_eq_getElem?_getD, List.getElem?_eq_getElem (by omega)] at this
      rw [hlike]
      simpa using this

end Go.Proofs.YtegpebnkogjadaaDoor.T

