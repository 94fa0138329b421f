/-
  DERIVED. KID: a part of the base of layer 13 (made by pack.py).
-/
import Derived.Test.YtaallpebfcadjaaGreatDoorKIC
/-! The walks of slices.Clone of numbers, texts, points and pairs; what lies beside a row that is written. -/
namespace Go.Proofs.YtaallpebfcadjaaGreatDoor.T
open Go.RowKit
set_option maxRecDepth 8000

/-! ### beside a row -/
theorem ps_kept {w w' : World} {v : Value} {l : List (Int × Int)} {g : Nat} (h : Ps w v l) (hg : w.grownBy w' (some g)) (hne : v.ownBlock ≠ some g) : Ps w' v l := by
  obtain ⟨oa, c, rfl, h⟩ := h
  refine ⟨oa, c, rfl, fun i hi => ?_⟩
  obtain ⟨b, o, rfl, hl, h0, h1⟩ := h i hi
  exact ⟨b, o, rfl, Nat.lt_of_lt_of_le hl hg.size, hg.cell (a := ⟨b, _, none⟩) h0 hne, hg.cell (a := ⟨b, _, none⟩) h1 hne⟩
theorem li_kept {w w' : World} {v : Value} {l : List Int} {g : Nat} (h : L.Li w v l) (hg : w.grownBy w' (some g)) (hne : v.ownBlock ≠ some g) : L.Li w' v l := by
  obtain ⟨oa, c, rfl, h⟩ := h
  refine ⟨oa, c, rfl, fun i hi => ?_⟩
  obtain ⟨a, rfl, hl, h0⟩ := h i hi
  refine ⟨a, rfl, Nat.lt_of_lt_of_le hl hg.size, hg.cell h0 ?_⟩
  rw [add_block]
  exact hne
/-- made since block B -/
def Fr (B : Nat) (v : Value) : Prop := ∀ b, v.ownBlock = some b → B ≤ b
theorem Fr.ne {B g : Nat} {v : Value} (h : Fr B v) (hg : g < B) : v.ownBlock ≠ some g := fun e => by have := h g e; omega

/-! ### clones -/
set_option maxHeartbeats 1600000 in
theorem cloneP_n (v : Value) (l : List (Int × Int)) (hl : l.length ≤ 1000000) (w : World) (hv : Ps w v l) :
    Calls Tryz.prog 119 #[v] w fun e w' => ∃ oa c, e = .returned (.slice oa l.length c) ∧ Ps w' (.slice oa l.length c) l ∧ Fr w.heap.size (.slice oa l.length c) ∧ Below w.heap.size w w' := by
  have q22 : ∀ (w : World) (a : Option Addr) (n c n' c' : Nat), (binOp .eql 52 (.slice a n c) (.slice none n' c')).run Tryz.prog w = .ok (.bool a.isNone) w := fun w a n c n' c' => Lib.run_eql_slice_nil w _ _ a n c n' c' Tryz.underlying52
  obtain ⟨oa, c, rfl, ha⟩ := id hv
  cases oa with
  | none =>
    have h0 : l = [] := by
      cases l with
      | nil => rfl
      | cons x l => obtain ⟨b, o, h, -⟩ := ha 0 (by simp); cases h
    subst h0
    go_enter Tryz.func119, Tryz.ntmps119
    go_wp2_with fail
    go_ret
    exact ⟨none, 0, rfl, Sl.nil _, fun b h => (by cases h), Below.refl _ _⟩
  | some ad =>
    obtain ⟨i0, hi, hz0, hz1, hz2⟩ := infoP
    have H0 : (w.alloc (.cells #[] 105)).ownsRow w.heap.size 105 2 (.slice (some ⟨w.heap.size, 0, none⟩) 0 0) 0 [] := World.ownsRow_lit w #[] 0 (Nat.le_refl _) (by decide) rfl
    have hr := fun ty => run_append_own_at (P := Tryz.prog) (w.alloc (.cells #[] 105)) w.heap.size 52 ty 105 i0 (.agg #[.int .i64 0, .int .i64 0]) 2 16 Tryz.underlying52 hi hz0 hz1 hz2 rfl (by decide) _ 0 [] H0 ad l.length c (flat pT pA l) (flat_len (E0 := pT) (E1 := pA) l) (ps_news (hv.below (below_alloc _ _))) (flatq_cells l) (by unfold maxLen; omega) (by omega) (by simp)
    have HR := Lib.hid hr
    clear hr H0 ha hv
    go_enter Tryz.func119, Tryz.ntmps119
    go_wp2_with (at_builtin; refine wpList_append_run rfl _ _ 52 rfl rfl rfl (HR.out _) ?_)
    intro v3 w3 hown hgr _ _
    have HG : Gp w.heap.size w3 v3 l.length l := hown
    have HB3 := Lib.hid (below_row (Nat.le_refl _) ((World.grownBy_alloc w (.cells #[] 105) (some w.heap.size)).trans hgr) (fun k e => by simp only [Option.some.injEq] at e; omega))
    have hps : Ps w3 v3 l := Gn.sl HG
    have hbl := Gn.blk HG
    obtain ⟨o3, c3, rfl⟩ := Gn.form HG
    have HP := Lib.hid hps
    have HF : Hid (Fr w.heap.size (.slice o3 l.length c3)) := hbl
    clear hown hgr HG hps hbl HR
    go_wp2_with fail
    go_ret
    exact ⟨o3, c3, rfl, HP.out, HF.out, HB3.out⟩
theorem own_form {w : World} {B : Nat} {e : TypeId} {k n : Nat} {v : Value} {xs : List Value} (h : w.ownsRow B e k v n xs) : ∃ oa c, v = .slice oa n c := by
  rcases h.2 with ⟨hv, h0⟩ | ⟨g, cap, cur, rfl, _⟩
  · exact ⟨none, 0, by rw [hv, h0]⟩
  · exact ⟨_, _, rfl⟩
theorem cloneInts_n (v : Value) (l : List Int) (hl : l.length ≤ 1000000) (w : World) (hv : L.Li w v l) :
    Calls Tryz.prog 80 #[v] w fun e w' => ∃ oa c, e = .returned (.slice oa l.length c) ∧ L.Li w' (.slice oa l.length c) l ∧ Fr w.heap.size (.slice oa l.length c) ∧ Below w.heap.size w w' := by
  obtain ⟨oa, c, rfl, ha⟩ := id hv
  have fin : ∀ e w', (∃ v', e = Ending.returned v' ∧ L.Own w.heap.size w' v' l ∧ Below w.heap.size w w') → ∃ oa c, e = Ending.returned (.slice oa l.length c) ∧ L.Li w' (.slice oa l.length c) l ∧ Fr w.heap.size (.slice oa l.length c) ∧ Below w.heap.size w w' := by
    rintro e w' ⟨v', rfl, ho, hb⟩
    obtain ⟨o3, c3, rfl⟩ := own_form ho
    exact ⟨o3, c3, rfl, ho.li, ho.blk, hb⟩
  cases oa with
  | none =>
    have h0 : l = [] := by
      cases l with
      | nil => rfl
      | cons x l => obtain ⟨a, h, -⟩ := ha 0 (by simp); cases h
    subst h0
    refine (Tryz.slices_Clone_int_nil 0 c w).mono ?_
    rintro e w' ⟨rfl, rfl⟩
    exact fin _ _ ⟨_, rfl, L.Own.nil _ _, Below.refl _ _⟩
  | some ad =>
    by_cases h0 : l.length = 0
    · have h0' : l = [] := List.eq_nil_of_length_eq_zero h0
      subst h0'
      refine (Tryz.slices_Clone_int_zero ad c w).mono ?_
      rintro e w' ⟨v', rfl, ho, -, hb⟩
      exact fin _ _ ⟨v', rfl, ho, hb⟩
    · obtain ⟨pa, hpa, -, xa⟩ := ha 0 (by omega)
      simp only [Option.some.injEq] at hpa
      subst hpa
      obtain ⟨b1, o1, s1⟩ := ad
      have hs1 : s1 = none := by simpa [Addr.add] using World.cell?_spot xa
      subst hs1
      refine (Tryz.slices_Clone_int b1 o1 l.length c l w (Nat.le_refl _) (by omega) (li_cells hv)).mono ?_
      rintro e w' ⟨v', rfl, ho, -, hb⟩
      rw [List.take_length] at ho
      exact fin _ _ ⟨v', rfl, ho, hb⟩
theorem ss_own {w : World} {B : Nat} {v : Value} {l : List ByteArray} (h : w.ownsRow B 9 1 v l.length (l.map Value.string)) : Ss w v l := by
  rcases h.2 with ⟨hv, h0⟩ | ⟨g, cap, cur, rfl, hbg, hgg, hnc, rest⟩
  · have hx : l = [] := List.eq_nil_of_length_eq_zero h0
    subst hx
    exact ⟨none, 0, hv, fun i hi => by cases hi⟩
  · refine ⟨some ⟨g, 0, none⟩, cap, rfl, fun i hi => ⟨_, rfl, (Array.getElem?_eq_some_iff.1 hgg).1, ?_⟩⟩
    have hc := World.ownsRow.cellAt (g := g) (cap := cap) (n := l.length) (xs := l.map Value.string) (w := w) (base := B) (e := 9) (size := 1) ⟨h.1, .inr ⟨g, cap, cur, rfl, hbg, hgg, hnc, rest⟩⟩ i (by omega)
    rw [add_pl, Nat.zero_add, hc, List.getElem?_map, List.getD_eq_getElem?_getD, List.getElem?_eq_getElem hi]
    rfl
theorem cloneS_n (v : Value) (l : List ByteArray) (hl : l.length ≤ 1000000) (w : World) (hv : Ss w v l) :
    Calls Tryz.prog 84 #[v] w fun e w' => ∃ oa c, e = .returned (.slice oa l.length c) ∧ Ss w' (.slice oa l.length c) l ∧ Fr w.heap.size (.slice oa l.length c) ∧ Below w.heap.size w w' := by
  obtain ⟨oa, c, rfl, ha⟩ := id hv
  have fin : ∀ e w', (∃ v', e = Ending.returned v' ∧ w'.ownsRow w.heap.size 9 1 v' l.length (l.map Value.string) ∧ Below w.heap.size w w') → ∃ oa c, e = Ending.returned (.slice oa l.length c) ∧ Ss w' (.slice oa l.length c) l ∧ Fr w.heap.size (.slice oa l.length c) ∧ Below w.heap.size w w' := by
    rintro e w' ⟨v', rfl, ho, hb⟩
    obtain ⟨o3, c3, rfl⟩ := own_form ho
    exact ⟨o3, c3, rfl, ss_own ho, fun b h => (World.ownsRow.lt ho b h).1, hb⟩
  cases oa with
  | none =>
    have h0 : l = [] := by
      cases l with
      | nil => rfl
      | cons x l => obtain ⟨a, h, -⟩ := ha 0 (by simp); cases h
    subst h0
    refine (Tryz.slices_Clone_string_nil 0 c w).mono ?_
    rintro e w' ⟨rfl, rfl⟩
    exact fin _ _ ⟨_, rfl, World.ownsRow_nil _ _ _ _, Below.refl _ _⟩
  | some ad =>
    by_cases h0 : l.length = 0
    · have h0' : l = [] := List.eq_nil_of_length_eq_zero h0
      subst h0'
      refine (Tryz.slices_Clone_string_zero ad c w).mono ?_
      rintro e w' ⟨v', rfl, ho, -, hb⟩
      exact fin _ _ ⟨v', rfl, ho, hb⟩
    · obtain ⟨pa, hpa, -, xa⟩ := ha 0 (by omega)
      simp only [Option.some.injEq] at hpa
      subst hpa
      obtain ⟨b1, o1, s1⟩ := ad
      have hs1 : s1 = none := by simpa [Addr.add] using World.cell?_spot xa
      subst hs1
      refine (Tryz.slices_Clone_string b1 o1 l.length c l w (Nat.le_refl _) (by omega) (ss_cells hv)).mono ?_
      rintro e w' ⟨v', rfl, ho, -, hb⟩
      rw [List.take_length] at ho
      exact fin _ _ ⟨v', rfl, ho, hb⟩

end Go.Proofs.YtaallpebfcadjaaGreatDoor.T


/-! Rows of structs in general; the walks of copyOfArc, copyOfType, copyOfOrder (written by gen_incp2.py). -/
namespace Go.Proofs.YtaallpebfcadjaaGreatDoor.T
open Go.RowKit
set_option maxRecDepth 8000

/-! ### rows of structs of k cells -/
section
variable {β : Type} (f : β → List Value) (k : Nat)
def flk (xs : List β) : List Value := xs.flatMap f
variable {f k}
theorem flk_snoc (xs : List β) (x : β) : flk f (xs ++ [x]) = flk f xs ++ f x := by unfold flk; simp
theorem flk_at (hf : ∀ x, (f x).length = k) (d : β) : ∀ (xs : List β) (i j : Nat), i < xs.length → j < k → (flk f xs)[i * k + j]? = (f (xs.getD i d))[j]?
  | x :: xs, 0, j, _, hj => by
    unfold flk
    rw [List.flatMap_cons, Nat.zero_mul, Nat.zero_add, List.getElem?_append_left (by rw [hf]; exact hj)]
    rfl
  | x :: xs, i + 1, j, h, hj => by
    have := flk_at hf d xs i j (by simpa using h) hj
    unfold flk at this ⊢
    rw [List.flatMap_cons, List.getElem?_append_right (by rw [hf, Nat.succ_mul]; omega), hf]
    rw [show (i + 1) * k + j - k = i * k + j by rw [Nat.succ_mul]; omega]
    simpa using this
end
/-- values written from place p on -/
def setN : List Value → Nat → List Value → List Value
  | cs, _, [] => cs
  | cs, p, v :: vs => setN (cs.set p v) (p + 1) vs
theorem setN_len : ∀ (vs : List Value) (cs : List Value) (p : Nat), (setN cs p vs).length = cs.length
  | [], _, _ => rfl
  | v :: vs, cs, p => by
    show (setN (cs.set p v) (p + 1) vs).length = _
    rw [setN_len vs, List.length_set]
theorem setN_take : ∀ (vs : List Value) (cs : List Value) (p : Nat), p + vs.length ≤ cs.length → (setN cs p vs).take (p + vs.length) = cs.take p ++ vs
  | [], cs, p, _ => by show cs.take (p + 0) = _; rw [Nat.add_zero, List.append_nil]
  | v :: vs, cs, p, h => by
    rw [List.length_cons] at h
    show (setN (cs.set p v) (p + 1) vs).take (p + (vs.length + 1)) = _
    rw [show p + (vs.length + 1) = p + 1 + vs.length by omega, setN_take vs (cs.set p v) (p + 1) (by rw [List.length_set]; omega), List.take_succ_eq_append_getElem (by rw [List.length_set]; omega), List.take_set_of_le (by omega), List.getElem_set_self, List.append_assoc]
    rfl
def setCells (w : World) (g : Nat) : Nat → List Value → World
  | _, [] => w
  | p, v :: vs => setCells (w.setCell ⟨g, p, none⟩ v) g (p + 1) vs
theorem storedN {B : Nat} {e : TypeId} {k g n cap : Nat} : ∀ (vs : List Value) (w : World) (p : Nat) (xs : List Value), w.ownsRow B e k (.slice (some ⟨g, 0, none⟩) n cap) n xs →
    (setCells w g p vs).ownsRow B e k (.slice (some ⟨g, 0, none⟩) n cap) n (setN xs p vs) ∧ w.grownBy (setCells w g p vs) (some g)
  | [], w, _, _, h => ⟨h, World.grownBy.refl _ _⟩
  | v :: vs, w, p, xs, h => by
    obtain ⟨h1, g1⟩ := World.ownsRow.stored h p v
    obtain ⟨h2, g2⟩ := storedN vs _ (p + 1) _ h1
    exact ⟨h2, g1.trans g2⟩
theorem Cb.set {w : World} {q : Nat} {cs : Array Value} {t : TypeId} (h : Cb w q cs t) (k : Nat) (v : Value) : Cb (w.setCell ⟨q, k, none⟩ v) q (cs.setIfInBounds k v) t := by
  unfold Cb at *
  simp only [World.setCell, Array.getElem?_modify, if_true, h]
  rfl
theorem grown_cell (w : World) (q k : Nat) (v : Value) : w.grownBy (w.setCell ⟨q, k, none⟩ v) (some q) :=
  ⟨rfl, rfl, rfl, by simp [World.setCell], fun j hj hne => by
    have hne' : ¬ q = j := fun h => hne (by rw [h])
    simp only [World.setCell, Array.getElem?_modify]
    rw [if_neg hne']⟩
theorem Cb.cells {q : Nat} {t : TypeId} : ∀ (vs : List Value) (w : World) (p : Nat) (cs : Array Value), Cb w q cs t → Cb (setCells w q p vs) q (setN cs.toList p vs).toArray t
  | [], _, _, _, h => h
  | v :: vs, w, p, cs, h => by
    have h1 := Cb.cells vs (w.setCell ⟨q, p, none⟩ v) (p + 1) (cs.setIfInBounds p v) (h.set p v)
    rw [Array.toList_setIfInBounds] at h1
    exact h1
theorem Cb.full {w : World} {q : Nat} {cs : Array Value} {t : TypeId} (h : Cb w q cs t) (vs : List Value) (hl : vs.length = cs.size) : Cb (setCells w q 0 vs) q vs.toArray t := by
  have h1 := Cb.cells vs w 0 cs h
  have h2 := setN_take vs cs.toList 0 (by have := Array.length_toList (xs := cs); omega)
  rw [List.take_zero, List.nil_append, Nat.zero_add, List.take_of_length_le (by have := Array.length_toList (xs := cs); rw [setN_len]; omega)] at h2
  rwa [h2] at h1
theorem grown_cells {g : Nat} : ∀ (vs : List Value) (w : World) (p : Nat), w.grownBy (setCells w g p vs) (some g)
  | [], _, _ => World.grownBy.refl _ _
  | v :: vs, w, p => (grown_cell w g p v).trans (grown_cells vs _ (p + 1))
theorem Cb.kept {w w' : World} {q g : Nat} {cs : Array Value} {t : TypeId} (h : Cb w q cs t) (hg : w.grownBy w' (some g)) (hne : q ≠ g) : Cb w' q cs t := (hg.block q h.lt (by simpa using hne)).trans h

/-- a result: ArcT whose lists were made by the call -/
def copyOfArcP (a : ArcT) (w : World) (e : Ending) (w' : World) : Prop := ∃ (p0 p1 : Option Addr) (d0 d1 : Nat), e = .returned (arcV a (.slice p0 a.tr.length d0) (.slice p1 a.sl.length d1)) ∧ Ps w' (.slice p0 a.tr.length d0) a.tr ∧ Fr w.heap.size (.slice p0 a.tr.length d0) ∧ Ps w' (.slice p1 a.sl.length d1) a.sl ∧ Fr w.heap.size (.slice p1 a.sl.length d1) ∧ Below w.heap.size w w'
set_option maxHeartbeats 6400000 in
theorem copyOfArc_n (a : ArcT) (v0 v1 : Value) (hl : a.tr.length ≤ 1000000 ∧ a.sl.length ≤ 1000000) (w : World) (h0 : Ps w v0 a.tr) (h1 : Ps w v1 a.sl) :
    Calls Tryz.prog 86 #[arcV a v0 v1] w (copyOfArcP a w) := by
  obtain ⟨fr, dt, pr, mi, tr, sl⟩ := a
  unfold copyOfArcP
  simp only at hl h0 h1 ⊢
  obtain ⟨o0, c0, rfl, -⟩ := id h0
  obtain ⟨o1, c1, rfl, -⟩ := id h1
  have K0 := Lib.hid (fun w hv => cloneP_n (.slice o0 tr.length c0) tr hl.1 w hv)
  have K1 := Lib.hid (fun w hv => cloneP_n (.slice o1 sl.length c1) sl hl.2 w hv)
  unfold arcV
  simp only
  have B1 := below_alloc w (.cells #[.int .i64 fr, .int .i64 dt, .int .i64 pr, .int .i64 mi, .slice o0 tr.length c0, .slice o1 sl.length c1] 54)
  have B0 := over B1 (below_alloc (w.alloc (.cells #[.int .i64 fr, .int .i64 dt, .int .i64 pr, .int .i64 mi, .slice o0 tr.length c0, .slice o1 sl.length c1] 54)) (.cells #[.int .i64 0, .int .i64 0, .int .i64 0, .int .i64 0, .slice none 0 0, .slice none 0 0] 54))
  have M1 := (Cb.made w #[.int .i64 fr, .int .i64 dt, .int .i64 pr, .int .i64 mi, .slice o0 tr.length c0, .slice o1 sl.length c1] 54).old (.cells #[.int .i64 0, .int .i64 0, .int .i64 0, .int .i64 0, .slice none 0 0, .slice none 0 0] 54)
  have M2 := Cb.made (w.alloc (.cells #[.int .i64 fr, .int .i64 dt, .int .i64 pr, .int .i64 mi, .slice o0 tr.length c0, .slice o1 sl.length c1] 54)) #[.int .i64 0, .int .i64 0, .int .i64 0, .int .i64 0, .slice none 0 0, .slice none 0 0] 54
  have hs1 : (w.alloc (.cells #[.int .i64 fr, .int .i64 dt, .int .i64 pr, .int .i64 mi, .slice o0 tr.length c0, .slice o1 sl.length c1] 54)).heap.size = w.heap.size + 1 := World.size_alloc ..
  rw [hs1] at M2
  have J0 := Lib.hid h0
  have J1 := Lib.hid h1
  have hq0 : w.heap.size + 2 ≤ ((w.alloc (.cells #[.int .i64 fr, .int .i64 dt, .int .i64 pr, .int .i64 mi, .slice o0 tr.length c0, .slice o1 sl.length c1] 54)).alloc (.cells #[.int .i64 0, .int .i64 0, .int .i64 0, .int .i64 0, .slice none 0 0, .slice none 0 0] 54)).heap.size := by simp only [World.size_alloc]; omega
  obtain ⟨W0, hW0⟩ : ∃ W0, (w.alloc (.cells #[.int .i64 fr, .int .i64 dt, .int .i64 pr, .int .i64 mi, .slice o0 tr.length c0, .slice o1 sl.length c1] 54)).alloc (.cells #[.int .i64 0, .int .i64 0, .int .i64 0, .int .i64 0, .slice none 0 0, .slice none 0 0] 54) = W0 := ⟨_, rfl⟩
  rw [hW0] at M1 M2 B0 hq0
  have HM1 := Lib.hid M1
  have HM2 := Lib.hid M2
  have HB := Lib.hid B0
  have HW0 := Lib.hid hW0
  have hsz := B0.size
  clear M1 M2 B1 B0 hW0 h0 h1 hl
  go_enter Tryz.func86, Tryz.ntmps86
  go_upto_region 1 with fail
  rw [HW0.out]
  try rw [hs1]
  clear HW0 hs1
  have m4 : W0.cell? ⟨w.heap.size, 4, none⟩ = some (.slice o0 tr.length c0) := HM1.out.cell 4 rfl
  go_wp2_with fail
  refine (K0.out _ (psI_below2 J0.out HB.out)).mono ?_
  rintro e w1 ⟨p0, d0, rfl, hp, hf, hb⟩
  have HP0 := Lib.hid hp
  have HF0 : Hid (Fr (w.heap.size + 2) (.slice p0 tr.length d0)) := fun b hb' => Nat.le_trans (by omega) (hf b hb')
  have HB := Lib.hid (HB.out.trans (hb.mono (by omega)))
  have HM1 := Lib.hid (HM1.out.below hb)
  have HM2 := Lib.hid (HM2.out.below hb)
  have hsz0 := hb.size
  have m4 : w1.cell? ⟨w.heap.size, 4, none⟩ = some (.slice o0 tr.length c0) := HM1.out.cell 4 rfl
  have f4 := HM1.out.f 4
  have HM3 : Hid (Cb (w1.setCell ⟨w.heap.size, 4, none⟩ (.slice p0 tr.length d0)) w.heap.size #[.int .i64 fr, .int .i64 dt, .int .i64 pr, .int .i64 mi, .slice p0 tr.length d0, .slice o1 sl.length c1] 54) := HM1.out.set 4 _
  have hgr := grown_cell w1 w.heap.size 4 (.slice p0 tr.length d0)
  have HM4 := Lib.hid (HM2.out.kept hgr (by omega))
  have HB2 : Hid (Below w.heap.size w (w1.setCell ⟨w.heap.size, 4, none⟩ (.slice p0 tr.length d0))) := HB.out.grown hgr (by omega) (fun x e => by simp only [Option.some.injEq] at e; omega)
  have hszz := hgr.size
  have HP0 := Lib.hid (ps_kept HP0.out hgr (HF0.out.ne (by omega)))
  clear HM1 HM2 HB hgr hp hf hb
  go_upto_region 2 with fail
  obtain ⟨W1, hW⟩ : ∃ W1, w1.setCell ⟨w.heap.size, 4, none⟩ (.slice p0 tr.length d0) = W1 := ⟨_, rfl⟩
  rw [hW] at HM3 HM4 HB2 hszz HP0 ⊢
  clear hW m4 f4
  have HM1 := HM3
  have HM2 := HM4
  have HB := HB2
  clear HM3 HM4 HB2
  have m5 : W1.cell? ⟨w.heap.size, 5, none⟩ = some (.slice o1 sl.length c1) := HM1.out.cell 5 rfl
  go_wp2_with fail
  refine (K1.out _ (psI_below2 J1.out HB.out)).mono ?_
  rintro e w2 ⟨p1, d1, rfl, hp, hf, hb⟩
  have HP1 := Lib.hid hp
  have HF1 : Hid (Fr (w.heap.size + 2) (.slice p1 sl.length d1)) := fun b hb' => Nat.le_trans (by omega) (hf b hb')
  have HB := Lib.hid (HB.out.trans (hb.mono (by omega)))
  have HM1 := Lib.hid (HM1.out.below hb)
  have HM2 := Lib.hid (HM2.out.below hb)
  have HP0 := Lib.hid (psI_below2 HP0.out hb)
  have hsz1 := hb.size
  have m5 : w2.cell? ⟨w.heap.size, 5, none⟩ = some (.slice o1 sl.length c1) := HM1.out.cell 5 rfl
  have f5 := HM1.out.f 5
  have HM3 : Hid (Cb (w2.setCell ⟨w.heap.size, 5, none⟩ (.slice p1 sl.length d1)) w.heap.size #[.int .i64 fr, .int .i64 dt, .int .i64 pr, .int .i64 mi, .slice p0 tr.length d0, .slice p1 sl.length d1] 54) := HM1.out.set 5 _
  have hgr := grown_cell w2 w.heap.size 5 (.slice p1 sl.length d1)
  have HM4 := Lib.hid (HM2.out.kept hgr (by omega))
  have HB2 : Hid (Below w.heap.size w (w2.setCell ⟨w.heap.size, 5, none⟩ (.slice p1 sl.length d1))) := HB.out.grown hgr (by omega) (fun x e => by simp only [Option.some.injEq] at e; omega)
  have hszz := hgr.size
  have HP0 := Lib.hid (ps_kept HP0.out hgr (HF0.out.ne (by omega)))
  have HP1 := Lib.hid (ps_kept HP1.out hgr (HF1.out.ne (by omega)))
  clear HM1 HM2 HB hgr hp hf hb
  go_upto_region 3 with fail
  obtain ⟨W2, hW⟩ : ∃ W2, w2.setCell ⟨w.heap.size, 5, none⟩ (.slice p1 sl.length d1) = W2 := ⟨_, rfl⟩
  rw [hW] at HM3 HM4 HB2 hszz HP0 HP1 ⊢
  clear hW m5 f5
  have HM1 := HM3
  have HM2 := HM4
  have HB := HB2
  clear HM3 HM4 HB2
  have m0 : W2.cell? ⟨w.heap.size, 0, none⟩ = some (.int .i64 fr) := HM1.out.cell 0 rfl
  have m1 : W2.cell? ⟨w.heap.size, 1, none⟩ = some (.int .i64 dt) := HM1.out.cell 1 rfl
  have m2 : W2.cell? ⟨w.heap.size, 2, none⟩ = some (.int .i64 pr) := HM1.out.cell 2 rfl
  have m3 : W2.cell? ⟨w.heap.size, 3, none⟩ = some (.int .i64 mi) := HM1.out.cell 3 rfl
  have m4 : W2.cell? ⟨w.heap.size, 4, none⟩ = some (.slice p0 tr.length d0) := HM1.out.cell 4 rfl
  have m5 : W2.cell? ⟨w.heap.size, 5, none⟩ = some (.slice p1 sl.length d1) := HM1.out.cell 5 rfl
  have n0 : W2.cell? ⟨w.heap.size + 1, 0, none⟩ = some (.int .i64 0) := HM2.out.cell 0 rfl
  have f0 := HM2.out.f 0
  have n1 : W2.cell? ⟨w.heap.size + 1, 1, none⟩ = some (.int .i64 0) := HM2.out.cell 1 rfl
  have f1 := HM2.out.f 1
  have n2 : W2.cell? ⟨w.heap.size + 1, 2, none⟩ = some (.int .i64 0) := HM2.out.cell 2 rfl
  have f2 := HM2.out.f 2
  have n3 : W2.cell? ⟨w.heap.size + 1, 3, none⟩ = some (.int .i64 0) := HM2.out.cell 3 rfl
  have f3 := HM2.out.f 3
  have n4 : W2.cell? ⟨w.heap.size + 1, 4, none⟩ = some (.slice none 0 0) := HM2.out.cell 4 rfl
  have f4 := HM2.out.f 4
  have n5 : W2.cell? ⟨w.heap.size + 1, 5, none⟩ = some (.slice none 0 0) := HM2.out.cell 5 rfl
  have f5 := HM2.out.f 5
  go_wp2_with fail
  clear m0 n0 f0 m1 n1 f1 m2 n2 f2 m3 n3 f3 m4 n4 f4 m5 n5 f5
  have HM5 := Lib.hid (HM2.out.full [.int .i64 fr, .int .i64 dt, .int .i64 pr, .int .i64 mi, .slice p0 tr.length d0, .slice p1 sl.length d1] rfl)
  have hgr := grown_cells (g := w.heap.size + 1) [.int .i64 fr, .int .i64 dt, .int .i64 pr, .int .i64 mi, .slice p0 tr.length d0, .slice p1 sl.length d1] W2 0
  have HB5 := Lib.hid (HB.out.grown hgr (by omega) (fun x e => by simp only [Option.some.injEq] at e; omega))
  have HP0 := Lib.hid (ps_kept HP0.out hgr (HF0.out.ne (by omega)))
  have HP1 := Lib.hid (ps_kept HP1.out hgr (HF1.out.ne (by omega)))
  show bodyPost _ _ _ _ _ (setCells W2 (w.heap.size + 1) 0 [.int .i64 fr, .int .i64 dt, .int .i64 pr, .int .i64 mi, .slice p0 tr.length d0, .slice p1 sl.length d1])
  obtain ⟨W9, hW9⟩ : ∃ W9, setCells W2 (w.heap.size + 1) 0 [.int .i64 fr, .int .i64 dt, .int .i64 pr, .int .i64 mi, .slice p0 tr.length d0, .slice p1 sl.length d1] = W9 := ⟨_, rfl⟩
  rw [hW9] at HM5 HB5 HP0 HP1 ⊢
  have g0 : W9.cell? ⟨w.heap.size + 1, 0, none⟩ = some (.int .i64 fr) := HM5.out.cell 0 rfl
  have g1 : W9.cell? ⟨w.heap.size + 1, 1, none⟩ = some (.int .i64 dt) := HM5.out.cell 1 rfl
  have g2 : W9.cell? ⟨w.heap.size + 1, 2, none⟩ = some (.int .i64 pr) := HM5.out.cell 2 rfl
  have g3 : W9.cell? ⟨w.heap.size + 1, 3, none⟩ = some (.int .i64 mi) := HM5.out.cell 3 rfl
  have g4 : W9.cell? ⟨w.heap.size + 1, 4, none⟩ = some (.slice p0 tr.length d0) := HM5.out.cell 4 rfl
  have g5 : W9.cell? ⟨w.heap.size + 1, 5, none⟩ = some (.slice p1 sl.length d1) := HM5.out.cell 5 rfl
  refine bodyPost_ret (v := .agg #[.int .i64 fr, .int .i64 dt, .int .i64 pr, .int .i64 mi, .slice p0 tr.length d0, .slice p1 sl.length d1]) (by simp [results, Tryz.results86, go_sem, g0, g1, g2, g3, g4, g5]) rfl ⟨p0, p1, d0, d1, rfl, HP0.out, (fun b hb => Nat.le_trans (by omega) (HF0.out b hb)), HP1.out, (fun b hb => Nat.le_trans (by omega) (HF1.out b hb)), HB5.out⟩

/-- a result: TyT whose lists were made by the call -/
def copyOfTypeP (a : TyT) (w : World) (e : Ending) (w' : World) : Prop := ∃ (p0 : Option Addr) (d0 : Nat), e = .returned (tyV a (.slice p0 a.cap.length d0)) ∧ L.Li w' (.slice p0 a.cap.length d0) a.cap ∧ Fr w.heap.size (.slice p0 a.cap.length d0) ∧ Below w.heap.size w w'
set_option maxHeartbeats 6400000 in
theorem copyOfType_n (a : TyT) (v0 : Value) (hl : a.cap.length ≤ 1000000) (w : World) (h0 : L.Li w v0 a.cap) :
    Calls Tryz.prog 55 #[tyV a v0] w (copyOfTypeP a w) := by
  obtain ⟨nm, cnt, fr, dt, cap, sk, prof, opn, cls, drv, rst, fix, pm, pt⟩ := a
  unfold copyOfTypeP
  simp only at hl h0 ⊢
  obtain ⟨o0, c0, rfl, -⟩ := id h0
  have K0 := Lib.hid (fun w hv => cloneInts_n (.slice o0 cap.length c0) cap hl w hv)
  unfold tyV
  simp only
  have B1 := below_alloc w (.cells #[.string nm, .int .i64 cnt, .int .i64 fr, .int .i64 dt, .slice o0 cap.length c0, .int .i64 sk, .int .i64 prof, .int .i64 opn, .int .i64 cls, .int .i64 drv, .int .i64 rst, .int .i64 fix, .int .i64 pm, .int .i64 pt] 56)
  have B0 := over B1 (below_alloc (w.alloc (.cells #[.string nm, .int .i64 cnt, .int .i64 fr, .int .i64 dt, .slice o0 cap.length c0, .int .i64 sk, .int .i64 prof, .int .i64 opn, .int .i64 cls, .int .i64 drv, .int .i64 rst, .int .i64 fix, .int .i64 pm, .int .i64 pt] 56)) (.cells #[.string ⟨#[]⟩, .int .i64 0, .int .i64 0, .int .i64 0, .slice none 0 0, .int .i64 0, .int .i64 0, .int .i64 0, .int .i64 0, .int .i64 0, .int .i64 0, .int .i64 0, .int .i64 0, .int .i64 0] 56))
  have M1 := (Cb.made w #[.string nm, .int .i64 cnt, .int .i64 fr, .int .i64 dt, .slice o0 cap.length c0, .int .i64 sk, .int .i64 prof, .int .i64 opn, .int .i64 cls, .int .i64 drv, .int .i64 rst, .int .i64 fix, .int .i64 pm, .int .i64 pt] 56).old (.cells #[.string ⟨#[]⟩, .int .i64 0, .int .i64 0, .int .i64 0, .slice none 0 0, .int .i64 0, .int .i64 0, .int .i64 0, .int .i64 0, .int .i64 0, .int .i64 0, .int .i64 0, .int .i64 0, .int .i64 0] 56)
  have M2 := Cb.made (w.alloc (.cells #[.string nm, .int .i64 cnt, .int .i64 fr, .int .i64 dt, .slice o0 cap.length c0, .int .i64 sk, .int .i64 prof, .int .i64 opn, .int .i64 cls, .int .i64 drv, .int .i64 rst, .int .i64 fix, .int .i64 pm, .int .i64 pt] 56)) #[.string ⟨#[]⟩, .int .i64 0, .int .i64 0, .int .i64 0, .slice none 0 0, .int .i64 0, .int .i64 0, .int .i64 0, .int .i64 0, .int .i64 0, .int .i64 0, .int .i64 0, .int .i64 0, .int .i64 0] 56
  have hs1 : (w.alloc (.cells #[.string nm, .int .i64 cnt, .int .i64 fr, .int .i64 dt, .slice o0 cap.length c0, .int .i64 sk, .int .i64 prof, .int .i64 opn, .int .i64 cls, .int .i64 drv, .int .i64 rst, .int .i64 fix, .int .i64 pm, .int .i64 pt] 56)).heap.size = w.heap.size + 1 := World.size_alloc ..
  rw [hs1] at M2
  have J0 := Lib.hid h0
  have hq0 : w.heap.size + 2 ≤ ((w.alloc (.cells #[.string nm, .int .i64 cnt, .int .i64 fr, .int .i64 dt, .slice o0 cap.length c0, .int .i64 sk, .int .i64 prof, .int .i64 opn, .int .i64 cls, .int .i64 drv, .int .i64 rst, .int .i64 fix, .int .i64 pm, .int .i64 pt] 56)).alloc (.cells #[.string ⟨#[]⟩, .int .i64 0, .int .i64 0, .int .i64 0, .slice none 0 0, .int .i64 0, .int .i64 0, .int .i64 0, .int .i64 0, .int .i64 0, .int .i64 0, .int .i64 0, .int .i64 0, .int .i64 0] 56)).heap.size := by simp only [World.size_alloc]; omega
  obtain ⟨W0, hW0⟩ : ∃ W0, (w.alloc (.cells #[.string nm, .int .i64 cnt, .int .i64 fr, .int .i64 dt, .slice o0 cap.length c0, .int .i64 sk, .int .i64 prof, .int .i64 opn, .int .i64 cls, .int .i64 drv, .int .i64 rst, .int .i64 fix, .int .i64 pm, .int .i64 pt] 56)).alloc (.cells #[.string ⟨#[]⟩, .int .i64 0, .int .i64 0, .int .i64 0, .slice none 0 0, .int .i64 0, .int .i64 0, .int .i64 0, .int .i64 0, .int .i64 0, .int .i64 0, .int .i64 0, .int .i64 0, .int .i64 0] 56) = W0 := ⟨_, rfl⟩
  rw [hW0] at M1 M2 B0 hq0
  have HM1 := Lib.hid M1
  have HM2 := Lib.hid M2
  have HB := Lib.hid B0
  have HW0 := Lib.hid hW0
  have hsz := B0.size
  clear M1 M2 B1 B0 hW0 h0 hl
  go_enter Tryz.func55, Tryz.ntmps55
  go_upto_region 1 with fail
  rw [HW0.out]
  try rw [hs1]
  clear HW0 hs1
  have m4 : W0.cell? ⟨w.heap.size, 4, none⟩ = some (.slice o0 cap.length c0) := HM1.out.cell 4 rfl
  go_wp2_with fail
  refine (K0.out _ (J0.out.below HB.out)).mono ?_
  rintro e w1 ⟨p0, d0, rfl, hp, hf, hb⟩
  have HP0 := Lib.hid hp
  have HF0 : Hid (Fr (w.heap.size + 2) (.slice p0 cap.length d0)) := fun b hb' => Nat.le_trans (by omega) (hf b hb')
  have HB := Lib.hid (HB.out.trans (hb.mono (by omega)))
  have HM1 := Lib.hid (HM1.out.below hb)
  have HM2 := Lib.hid (HM2.out.below hb)
  have hsz0 := hb.size
  have m4 : w1.cell? ⟨w.heap.size, 4, none⟩ = some (.slice o0 cap.length c0) := HM1.out.cell 4 rfl
  have f4 := HM1.out.f 4
  have HM3 : Hid (Cb (w1.setCell ⟨w.heap.size, 4, none⟩ (.slice p0 cap.length d0)) w.heap.size #[.string nm, .int .i64 cnt, .int .i64 fr, .int .i64 dt, .slice p0 cap.length d0, .int .i64 sk, .int .i64 prof, .int .i64 opn, .int .i64 cls, .int .i64 drv, .int .i64 rst, .int .i64 fix, .int .i64 pm, .int .i64 pt] 56) := HM1.out.set 4 _
  have hgr := grown_cell w1 w.heap.size 4 (.slice p0 cap.length d0)
  have HM4 := Lib.hid (HM2.out.kept hgr (by omega))
  have HB2 : Hid (Below w.heap.size w (w1.setCell ⟨w.heap.size, 4, none⟩ (.slice p0 cap.length d0))) := HB.out.grown hgr (by omega) (fun x e => by simp only [Option.some.injEq] at e; omega)
  have hszz := hgr.size
  have HP0 := Lib.hid (li_kept HP0.out hgr (HF0.out.ne (by omega)))
  clear HM1 HM2 HB hgr hp hf hb
  go_upto_region 2 with fail
  obtain ⟨W1, hW⟩ : ∃ W1, w1.setCell ⟨w.heap.size, 4, none⟩ (.slice p0 cap.length d0) = W1 := ⟨_, rfl⟩
  rw [hW] at HM3 HM4 HB2 hszz HP0 ⊢
  clear hW m4 f4
  have HM1 := HM3
  have HM2 := HM4
  have HB := HB2
  clear HM3 HM4 HB2
  have m0 : W1.cell? ⟨w.heap.size, 0, none⟩ = some (.string nm) := HM1.out.cell 0 rfl
  have m1 : W1.cell? ⟨w.heap.size, 1, none⟩ = some (.int .i64 cnt) := HM1.out.cell 1 rfl
  have m2 : W1.cell? ⟨w.heap.size, 2, none⟩ = some (.int .i64 fr) := HM1.out.cell 2 rfl
  have m3 : W1.cell? ⟨w.heap.size, 3, none⟩ = some (.int .i64 dt) := HM1.out.cell 3 rfl
  have m4 : W1.cell? ⟨w.heap.size, 4, none⟩ = some (.slice p0 cap.length d0) := HM1.out.cell 4 rfl
  have m5 : W1.cell? ⟨w.heap.size, 5, none⟩ = some (.int .i64 sk) := HM1.out.cell 5 rfl
  have m6 : W1.cell? ⟨w.heap.size, 6, none⟩ = some (.int .i64 prof) := HM1.out.cell 6 rfl
  have m7 : W1.cell? ⟨w.heap.size, 7, none⟩ = some (.int .i64 opn) := HM1.out.cell 7 rfl
  have m8 : W1.cell? ⟨w.heap.size, 8, none⟩ = some (.int .i64 cls) := HM1.out.cell 8 rfl
  have m9 : W1.cell? ⟨w.heap.size, 9, none⟩ = some (.int .i64 drv) := HM1.out.cell 9 rfl
  have m10 : W1.cell? ⟨w.heap.size, 10, none⟩ = some (.int .i64 rst) := HM1.out.cell 10 rfl
  have m11 : W1.cell? ⟨w.heap.size, 11, none⟩ = some (.int .i64 fix) := HM1.out.cell 11 rfl
  have m12 : W1.cell? ⟨w.heap.size, 12, none⟩ = some (.int .i64 pm) := HM1.out.cell 12 rfl
  have m13 : W1.cell? ⟨w.heap.size, 13, none⟩ = some (.int .i64 pt) := HM1.out.cell 13 rfl
  have n0 : W1.cell? ⟨w.heap.size + 1, 0, none⟩ = some (.string ⟨#[]⟩) := HM2.out.cell 0 rfl
  have f0 := HM2.out.f 0
  have n1 : W1.cell? ⟨w.heap.size + 1, 1, none⟩ = some (.int .i64 0) := HM2.out.cell 1 rfl
  have f1 := HM2.out.f 1
  have n2 : W1.cell? ⟨w.heap.size + 1, 2, none⟩ = some (.int .i64 0) := HM2.out.cell 2 rfl
  have f2 := HM2.out.f 2
  have n3 : W1.cell? ⟨w.heap.size + 1, 3, none⟩ = some (.int .i64 0) := HM2.out.cell 3 rfl
  have f3 := HM2.out.f 3
  have n4 : W1.cell? ⟨w.heap.size + 1, 4, none⟩ = some (.slice none 0 0) := HM2.out.cell 4 rfl
  have f4 := HM2.out.f 4
  have n5 : W1.cell? ⟨w.heap.size + 1, 5, none⟩ = some (.int .i64 0) := HM2.out.cell 5 rfl
  have f5 := HM2.out.f 5
  have n6 : W1.cell? ⟨w.heap.size + 1, 6, none⟩ = some (.int .i64 0) := HM2.out.cell 6 rfl
  have f6 := HM2.out.f 6
  have n7 : W1.cell? ⟨w.heap.size + 1, 7, none⟩ = some (.int .i64 0) := HM2.out.cell 7 rfl
  have f7 := HM2.out.f 7
  have n8 : W1.cell? ⟨w.heap.size + 1, 8, none⟩ = some (.int .i64 0) := HM2.out.cell 8 rfl
  have f8 := HM2.out.f 8
  have n9 : W1.cell? ⟨w.heap.size + 1, 9, none⟩ = some (.int .i64 0) := HM2.out.cell 9 rfl
  have f9 := HM2.out.f 9
  have n10 : W1.cell? ⟨w.heap.size + 1, 10, none⟩ = some (.int .i64 0) := HM2.out.cell 10 rfl
  have f10 := HM2.out.f 10
  have n11 : W1.cell? ⟨w.heap.size + 1, 11, none⟩ = some (.int .i64 0) := HM2.out.cell 11 rfl
  have f11 := HM2.out.f 11
  have n12 : W1.cell? ⟨w.heap.size + 1, 12, none⟩ = some (.int .i64 0) := HM2.out.cell 12 rfl
  have f12 := HM2.out.f 12
  have n13 : W1.cell? ⟨w.heap.size + 1, 13, none⟩ = some (.int .i64 0) := HM2.out.cell 13 rfl
  have f13 := HM2.out.f 13
  go_wp2_with fail
  clear m0 n0 f0 m1 n1 f1 m2 n2 f2 m3 n3 f3 m4 n4 f4 m5 n5 f5 m6 n6 f6 m7 n7 f7 m8 n8 f8 m9 n9 f9 m10 n10 f10 m11 n11 f11 m12 n12 f12 m13 n13 f13
  have HM5 := Lib.hid (HM2.out.full [.string nm, .int .i64 cnt, .int .i64 fr, .int .i64 dt, .slice p0 cap.length d0, .int .i64 sk, .int .i64 prof, .int .i64 opn, .int .i64 cls, .int .i64 drv, .int .i64 rst, .int .i64 fix, .int .i64 pm, .int .i64 pt] rfl)
  have hgr := grown_cells (g := w.heap.size + 1) [.string nm, .int .i64 cnt, .int .i64 fr, .int .i64 dt, .slice p0 cap.length d0, .int .i64 sk, .int .i64 prof, .int .i64 opn, .int .i64 cls, .int .i64 drv, .int .i64 rst, .int .i64 fix, .int .i64 pm, .int .i64 pt] W1 0
  have HB5 := Lib.hid (HB.out.grown hgr (by omega) (fun x e => by simp only [Option.some.injEq] at e; omega))
  have HP0 := Lib.hid (li_kept HP0.out hgr (HF0.out.ne (by omega)))
  show bodyPost _ _ _ _ _ (setCells W1 (w.heap.size + 1) 0 [.string nm, .int .i64 cnt, .int .i64 fr, .int .i64 dt, .slice p0 cap.length d0, .int .i64 sk, .int .i64 prof, .int .i64 opn, .int .i64 cls, .int .i64 drv, .int .i64 rst, .int .i64 fix, .int .i64 pm, .int .i64 pt])
  obtain ⟨W9, hW9⟩ : ∃ W9, setCells W1 (w.heap.size + 1) 0 [.string nm, .int .i64 cnt, .int .i64 fr, .int .i64 dt, .slice p0 cap.length d0, .int .i64 sk, .int .i64 prof, .int .i64 opn, .int .i64 cls, .int .i64 drv, .int .i64 rst, .int .i64 fix, .int .i64 pm, .int .i64 pt] = W9 := ⟨_, rfl⟩
  rw [hW9] at HM5 HB5 HP0 ⊢
  have g0 : W9.cell? ⟨w.heap.size + 1, 0, none⟩ = some (.string nm) := HM5.out.cell 0 rfl
  have g1 : W9.cell? ⟨w.heap.size + 1, 1, none⟩ = some (.int .i64 cnt) := HM5.out.cell 1 rfl
  have g2 : W9.cell? ⟨w.heap.size + 1, 2, none⟩ = some (.int .i64 fr) := HM5.out.cell 2 rfl
  have g3 : W9.cell? ⟨w.heap.size + 1, 3, none⟩ = some (.int .i64 dt) := HM5.out.cell 3 rfl
  have g4 : W9.cell? ⟨w.heap.size + 1, 4, none⟩ = some (.slice p0 cap.length d0) := HM5.out.cell 4 rfl
  have g5 : W9.cell? ⟨w.heap.size + 1, 5, none⟩ = some (.int .i64 sk) := HM5.out.cell 5 rfl
  have g6 : W9.cell? ⟨w.heap.size + 1, 6, none⟩ = some (.int .i64 prof) := HM5.out.cell 6 rfl
  have g7 : W9.cell? ⟨w.heap.size + 1, 7, none⟩ = some (.int .i64 opn) := HM5.out.cell 7 rfl
  have g8 : W9.cell? ⟨w.heap.size + 1, 8, none⟩ = some (.int .i64 cls) := HM5.out.cell 8 rfl
  have g9 : W9.cell? ⟨w.heap.size + 1, 9, none⟩ = some (.int .i64 drv) := HM5.out.cell 9 rfl
  have g10 : W9.cell? ⟨w.heap.size + 1, 10, none⟩ = some (.int .i64 rst) := HM5.out.cell 10 rfl
  have g11 : W9.cell? ⟨w.heap.size + 1, 11, none⟩ = some (.int .i64 fix) := HM5.out.cell 11 rfl
  have g12 : W9.cell? ⟨w.heap.size + 1, 12, none⟩ = some (.int .i64 pm) := HM5.out.cell 12 rfl
  have g13 : W9.cell? ⟨w.heap.size + 1, 13, none⟩ = some (.int .i64 pt) := HM5.out.cell 13 rfl
  refine bodyPost_ret (v := .agg #[.string nm, .int .i64 cnt, .int .i64 fr, .int .i64 dt, .slice p0 cap.length d0, .int .i64 sk, .int .i64 prof, .int .i64 opn, .int .i64 cls, .int .i64 drv, .int .i64 rst, .int .i64 fix, .int .i64 pm, .int .i64 pt]) (by simp [results, Tryz.results55, go_sem, g0, g1, g2, g3, g4, g5, g6, g7, g8, g9, g10, g11, g12, g13]) rfl ⟨p0, d0, rfl, HP0.out, (fun b hb => Nat.le_trans (by omega) (HF0.out b hb)), HB5.out⟩

/-- a result: OrT whose lists were made by the call -/
def copyOfOrderP (a : OrT) (w : World) (e : Ending) (w' : World) : Prop := ∃ (p0 : Option Addr) (d0 : Nat), e = .returned (orV a (.slice p0 a.load.length d0)) ∧ L.Li w' (.slice p0 a.load.length d0) a.load ∧ Fr w.heap.size (.slice p0 a.load.length d0) ∧ Below w.heap.size w w'
set_option maxHeartbeats 6400000 in
theorem copyOfOrder_n (a : OrT) (v0 : Value) (hl : a.load.length ≤ 1000000) (w : World) (h0 : L.Li w v0 a.load) :
    Calls Tryz.prog 51 #[orV a v0] w (copyOfOrderP a w) := by
  obtain ⟨nm, load, pp, po, pc, ps, dp, dd, dc, ds, sk, pen, spl, las, now, off⟩ := a
  unfold copyOfOrderP
  simp only at hl h0 ⊢
  obtain ⟨o0, c0, rfl, -⟩ := id h0
  have K0 := Lib.hid (fun w hv => cloneInts_n (.slice o0 load.length c0) load hl w hv)
  unfold orV
  simp only
  have B1 := below_alloc w (.cells #[.string nm, .slice o0 load.length c0, .int .i64 pp, .int .i64 po, .int .i64 pc, .int .i64 ps, .int .i64 dp, .int .i64 dd, .int .i64 dc, .int .i64 ds, .int .i64 sk, .int .i64 pen, .int .i64 spl, .int .i64 las, .int .i64 now, .bool off] 44)
  have B0 := over B1 (below_alloc (w.alloc (.cells #[.string nm, .slice o0 load.length c0, .int .i64 pp, .int .i64 po, .int .i64 pc, .int .i64 ps, .int .i64 dp, .int .i64 dd, .int .i64 dc, .int .i64 ds, .int .i64 sk, .int .i64 pen, .int .i64 spl, .int .i64 las, .int .i64 now, .bool off] 44)) (.cells #[.string ⟨#[]⟩, .slice none 0 0, .int .i64 0, .int .i64 0, .int .i64 0, .int .i64 0, .int .i64 0, .int .i64 0, .int .i64 0, .int .i64 0, .int .i64 0, .int .i64 0, .int .i64 0, .int .i64 0, .int .i64 0, .bool false] 44))
  have M1 := (Cb.made w #[.string nm, .slice o0 load.length c0, .int .i64 pp, .int .i64 po, .int .i64 pc, .int .i64 ps, .int .i64 dp, .int .i64 dd, .int .i64 dc, .int .i64 ds, .int .i64 sk, .int .i64 pen, .int .i64 spl, .int .i64 las, .int .i64 now, .bool off] 44).old (.cells #[.string ⟨#[]⟩, .slice none 0 0, .int .i64 0, .int .i64 0, .int .i64 0, .int .i64 0, .int .i64 0, .int .i64 0, .int .i64 0, .int .i64 0, .int .i64 0, .int .i64 0, .int .i64 0, .int .i64 0, .int .i64 0, .bool false] 44)
  have M2 := Cb.made (w.alloc (.cells #[.string nm, .slice o0 load.length c0, .int .i64 pp, .int .i64 po, .int .i64 pc, .int .i64 ps, .int .i64 dp, .int .i64 dd, .int .i64 dc, .int .i64 ds, .int .i64 sk, .int .i64 pen, .int .i64 spl, .int .i64 las, .int .i64 now, .bool off] 44)) #[.string ⟨#[]⟩, .slice none 0 0, .int .i64 0, .int .i64 0, .int .i64 0, .int .i64 0, .int .i64 0, .int .i64 0, .int .i64 0, .int .i64 0, .int .i64 0, .int .i64 0, .int .i64 0, .int .i64 0, .int .i64 0, .bool false] 44
  have hs1 : (w.alloc (.cells #[.string nm, .slice o0 load.length c0, .int .i64 pp, .int .i64 po, .int .i64 pc, .int .i64 ps, .int .i64 dp, .int .i64 dd, .int .i64 dc, .int .i64 ds, .int .i64 sk, .int .i64 pen, .int .i64 spl, .int .i64 las, .int .i64 now, .bool off] 44)).heap.size = w.heap.size + 1 := World.size_alloc ..
  rw [hs1] at M2
  have J0 := Lib.hid h0
  have hq0 : w.heap.size + 2 ≤ ((w.alloc (.cells #[.string nm, .slice o0 load.length c0, .int .i64 pp, .int .i64 po, .int .i64 pc, .int .i64 ps, .int .i64 dp, .int .i64 dd, .int .i64 dc, .int .i64 ds, .int .i64 sk, .int .i64 pen, .int .i64 spl, .int .i64 las, .int .i64 now, .bool off] 44)).alloc (.cells #[.string ⟨#[]⟩, .slice none 0 0, .int .i64 0, .int .i64 0, .int .i64 0, .int .i64 0, .int .i64 0, .int .i64 0, .int .i64 0, .int .i64 0, .int .i64 0, .int .i64 0, .int .i64 0, .int .i64 0, .int .i64 0, .bool false] 44)).heap.size := by simp only [World.size_alloc]; omega
  obtain ⟨W0, hW0⟩ : ∃ W0, (w.alloc (.cells #[.string nm, .slice o0 load.length c0, .int .i64 pp, .int .i64 po, .int .i64 pc, .int .i64 ps, .int .i64 dp, .int .i64 dd, .int .i64 dc, .int .i64 ds, .int .i64 sk, .int .i64 pen, .int .i64 spl, .int .i64 las, .int .i64 now, .bool off] 44)).alloc (.cells #[.string ⟨#[]⟩, .slice none 0 0, .int .i64 0, .int .i64 0, .int .i64 0, .int .i64 0, .int .i64 0, .int .i64 0, .int .i64 0, .int .i64 0, .int .i64 0, .int .i64 0, .int .i64 0, .int .i64 0, .int .i64 0, .bool false] 44) = W0 := ⟨_, rfl⟩
  rw [hW0] at M1 M2 B0 hq0
  have HM1 := Lib.hid M1
  have HM2 := Lib.hid M2
  have HB := Lib.hid B0
  have HW0 := Lib.hid hW0
  have hsz := B0.size
  clear M1 M2 B1 B0 hW0 h0 hl
  go_enter Tryz.func51, Tryz.ntmps51
  go_upto_region 1 with fail
  rw [HW0.out]
  try rw [hs1]
  clear HW0 hs1
  have m1 : W0.cell? ⟨w.heap.size, 1, none⟩ = some (.slice o0 load.length c0) := HM1.out.cell 1 rfl
  go_wp2_with fail
  refine (K0.out _ (J0.out.below HB.out)).mono ?_
  rintro e w1 ⟨p0, d0, rfl, hp, hf, hb⟩
  have HP0 := Lib.hid hp
  have HF0 : Hid (Fr (w.heap.size + 2) (.slice p0 load.length d0)) := fun b hb' => Nat.le_trans (by omega) (hf b hb')
  have HB := Lib.hid (HB.out.trans (hb.mono (by omega)))
  have HM1 := Lib.hid (HM1.out.below hb)
  have HM2 := Lib.hid (HM2.out.below hb)
  have hsz0 := hb.size
  have m1 : w1.cell? ⟨w.heap.size, 1, none⟩ = some (.slice o0 load.length c0) := HM1.out.cell 1 rfl
  have f1 := HM1.out.f 1
  have HM3 : Hid (Cb (w1.setCell ⟨w.heap.size, 1, none⟩ (.slice p0 load.length d0)) w.heap.size #[.string nm, .slice p0 load.length d0, .int .i64 pp, .int .i64 po, .int .i64 pc, .int .i64 ps, .int .i64 dp, .int .i64 dd, .int .i64 dc, .int .i64 ds, .int .i64 sk, .int .i64 pen, .int .i64 spl, .int .i64 las, .int .i64 now, .bool off] 44) := HM1.out.set 1 _
  have hgr := grown_cell w1 w.heap.size 1 (.slice p0 load.length d0)
  have HM4 := Lib.hid (HM2.out.kept hgr (by omega))
  have HB2 : Hid (Below w.heap.size w (w1.setCell ⟨w.heap.size, 1, none⟩ (.slice p0 load.length d0))) := HB.out.grown hgr (by omega) (fun x e => by simp only [Option.some.injEq] at e; omega)
  have hszz := hgr.size
  have HP0 := Lib.hid (li_kept HP0.out hgr (HF0.out.ne (by omega)))
  clear HM1 HM2 HB hgr hp hf hb
  go_upto_region 2 with fail
  obtain ⟨W1, hW⟩ : ∃ W1, w1.setCell ⟨w.heap.size, 1, none⟩ (.slice p0 load.length d0) = W1 := ⟨_, rfl⟩
  rw [hW] at HM3 HM4 HB2 hszz HP0 ⊢
  clear hW m1 f1
  have HM1 := HM3
  have HM2 := HM4
  have HB := HB2
  clear HM3 HM4 HB2
  have m0 : W1.cell? ⟨w.heap.size, 0, none⟩ = some (.string nm) := HM1.out.cell 0 rfl
  have m1 : W1.cell? ⟨w.heap.size, 1, none⟩ = some (.slice p0 load.length d0) := HM1.out.cell 1 rfl
  have m2 : W1.cell? ⟨w.heap.size, 2, none⟩ = some (.int .i64 pp) := HM1.out.cell 2 rfl
  have m3 : W1.cell? ⟨w.heap.size, 3, none⟩ = some (.int .i64 po) := HM1.out.cell 3 rfl
  have m4 : W1.cell? ⟨w.heap.size, 4, none⟩ = some (.int .i64 pc) := HM1.out.cell 4 rfl
  have m5 : W1.cell? ⟨w.heap.size, 5, none⟩ = some (.int .i64 ps) := HM1.out.cell 5 rfl
  have m6 : W1.cell? ⟨w.heap.size, 6, none⟩ = some (.int .i64 dp) := HM1.out.cell 6 rfl
  have m7 : W1.cell? ⟨w.heap.size, 7, none⟩ = some (.int .i64 dd) := HM1.out.cell 7 rfl
  have m8 : W1.cell? ⟨w.heap.size, 8, none⟩ = some (.int .i64 dc) := HM1.out.cell 8 rfl
  have m9 : W1.cell? ⟨w.heap.size, 9, none⟩ = some (.int .i64 ds) := HM1.out.cell 9 rfl
  have m10 : W1.cell? ⟨w.heap.size, 10, none⟩ = some (.int .i64 sk) := HM1.out.cell 10 rfl
  have m11 : W1.cell? ⟨w.heap.size, 11, none⟩ = some (.int .i64 pen) := HM1.out.cell 11 rfl
  have m12 : W1.cell? ⟨w.heap.size, 12, none⟩ = some (.int .i64 spl) := HM1.out.cell 12 rfl
  have m13 : W1.cell? ⟨w.heap.size, 13, none⟩ = some (.int .i64 las) := HM1.out.cell 13 rfl
  have m14 : W1.cell? ⟨w.heap.size, 14, none⟩ = some (.int .i64 now) := HM1.out.cell 14 rfl
  have m15 : W1.cell? ⟨w.heap.size, 15, none⟩ = some (.bool off) := HM1.out.cell 15 rfl
  have n0 : W1.cell? ⟨w.heap.size + 1, 0, none⟩ = some (.string ⟨#[]⟩) := HM2.out.cell 0 rfl
  have f0 := HM2.out.f 0
  have n1 : W1.cell? ⟨w.heap.size + 1, 1, none⟩ = some (.slice none 0 0) := HM2.out.cell 1 rfl
  have f1 := HM2.out.f 1
  have n2 : W1.cell? ⟨w.heap.size + 1, 2, none⟩ = some (.int .i64 0) := HM2.out.cell 2 rfl
  have f2 := HM2.out.f 2
  have n3 : W1.cell? ⟨w.heap.size + 1, 3, none⟩ = some (.int .i64 0) := HM2.out.cell 3 rfl
  have f3 := HM2.out.f 3
  have n4 : W1.cell? ⟨w.heap.size + 1, 4, none⟩ = some (.int .i64 0) := HM2.out.cell 4 rfl
  have f4 := HM2.out.f 4
  have n5 : W1.cell? ⟨w.heap.size + 1, 5, none⟩ = some (.int .i64 0) := HM2.out.cell 5 rfl
  have f5 := HM2.out.f 5
  have n6 : W1.cell? ⟨w.heap.size + 1, 6, none⟩ = some (.int .i64 0) := HM2.out.cell 6 rfl
  have f6 := HM2.out.f 6
  have n7 : W1.cell? ⟨w.heap.size + 1, 7, none⟩ = some (.int .i64 0) := HM2.out.cell 7 rfl
  have f7 := HM2.out.f 7
  have n8 : W1.cell? ⟨w.heap.size + 1, 8, none⟩ = some (.int .i64 0) := HM2.out.cell 8 rfl
  have f8 := HM2.out.f 8
  have n9 : W1.cell? ⟨w.heap.size + 1, 9, none⟩ = some (.int .i64 0) := HM2.out.cell 9 rfl
  have f9 := HM2.out.f 9
  have n10 : W1.cell? ⟨w.heap.size + 1, 10, none⟩ = some (.int .i64 0) := HM2.out.cell 10 rfl
  have f10 := HM2.out.f 10
  have n11 : W1.cell? ⟨w.heap.size + 1, 11, none⟩ = some (.int .i64 0) := HM2.out.cell 11 rfl
  have f11 := HM2.out.f 11
  have n12 : W1.cell? ⟨w.heap.size + 1, 12, none⟩ = some (.int .i64 0) := HM2.out.cell 12 rfl
  have f12 := HM2.out.f 12
  have n13 : W1.cell? ⟨w.heap.size + 1, 13, none⟩ = some (.int .i64 0) := HM2.out.cell 13 rfl
  have f13 := HM2.out.f 13
  have n14 : W1.cell? ⟨w.heap.size + 1, 14, none⟩ = some (.int .i64 0) := HM2.out.cell 14 rfl
  have f14 := HM2.out.f 14
  have n15 : W1.cell? ⟨w.heap.size + 1, 15, none⟩ = some (.bool false) := HM2.out.cell 15 rfl
  have f15 := HM2.out.f 15
  go_wp2_with fail
  clear m0 n0 f0 m1 n1 f1 m2 n2 f2 m3 n3 f3 m4 n4 f4 m5 n5 f5 m6 n6 f6 m7 n7 f7 m8 n8 f8 m9 n9 f9 m10 n10 f10 m11 n11 f11 m12 n12 f12 m13 n13 f13 m14 n14 f14 m15 n15 f15
  have HM5 := Lib.hid (HM2.out.full [.string nm, .slice p0 load.length d0, .int .i64 pp, .int .i64 po, .int .i64 pc, .int .i64 ps, .int .i64 dp, .int .i64 dd, .int .i64 dc, .int .i64 ds, .int .i64 sk, .int .i64 pen, .int .i64 spl, .int .i64 las, .int .i64 now, .bool off] rfl)
  have hgr := grown_cells (g := w.heap.size + 1) [.string nm, .slice p0 load.length d0, .int .i64 pp, .int .i64 po, .int .i64 pc, .int .i64 ps, .int .i64 dp, .int .i64 dd, .int .i64 dc, .int .i64 ds, .int .i64 sk, .int .i64 pen, .int .i64 spl, .int .i64 las, .int .i64 now, .bool off] W1 0
  have HB5 := Lib.hid (HB.out.grown hgr (by omega) (fun x e => by simp only [Option.some.injEq] at e; omega))
  have HP0 := Lib.hid (li_kept HP0.out hgr (HF0.out.ne (by omega)))
  show bodyPost _ _ _ _ _ (setCells W1 (w.heap.size + 1) 0 [.string nm, .slice p0 load.length d0, .int .i64 pp, .int .i64 po, .int .i64 pc, .int .i64 ps, .int .i64 dp, .int .i64 dd, .int .i64 dc, .int .i64 ds, .int .i64 sk, .int .i64 pen, .int .i64 spl, .int .i64 las, .int .i64 now, .bool off])
  obtain ⟨W9, hW9⟩ : ∃ W9, setCells W1 (w.heap.size + 1) 0 [.string nm, .slice p0 load.length d0, .int .i64 pp, .int .i64 po, .int .i64 pc, .int .i64 ps, .int .i64 dp, .int .i64 dd, .int .i64 dc, .int .i64 ds, .int .i64 sk, .int .i64 pen, .int .i64 spl, .int .i64 las, .int .i64 now, .bool off] = W9 := ⟨_, rfl⟩
  rw [hW9] at HM5 HB5 HP0 ⊢
  have g0 : W9.cell? ⟨w.heap.size + 1, 0, none⟩ = some (.string nm) := HM5.out.cell 0 rfl
  have g1 : W9.cell? ⟨w.heap.size + 1, 1, none⟩ = some (.slice p0 load.length d0) := HM5.out.cell 1 rfl
  have g2 : W9.cell? ⟨w.heap.size + 1, 2, none⟩ = some (.int .i64 pp) := HM5.out.cell 2 rfl
  have g3 : W9.cell? ⟨w.heap.size + 1, 3, none⟩ = some (.int .i64 po) := HM5.out.cell 3 rfl
  have g4 : W9.cell? ⟨w.heap.size + 1, 4, none⟩ = some (.int .i64 pc) := HM5.out.cell 4 rfl
  have g5 : W9.cell? ⟨w.heap.size + 1, 5, none⟩ = some (.int .i64 ps) := HM5.out.cell 5 rfl
  have g6 : W9.cell? ⟨w.heap.size + 1, 6, none⟩ = some (.int .i64 dp) := HM5.out.cell 6 rfl
  have g7 : W9.cell? ⟨w.heap.size + 1, 7, none⟩ = some (.int .i64 dd) := HM5.out.cell 7 rfl
  have g8 : W9.cell? ⟨w.heap.size + 1, 8, none⟩ = some (.int .i64 dc) := HM5.out.cell 8 rfl
  have g9 : W9.cell? ⟨w.heap.size + 1, 9, none⟩ = some (.int .i64 ds) := HM5.out.cell 9 rfl
  have g10 : W9.cell? ⟨w.heap.size + 1, 10, none⟩ = some (.int .i64 sk) := HM5.out.cell 10 rfl
  have g11 : W9.cell? ⟨w.heap.size + 1, 11, none⟩ = some (.int .i64 pen) := HM5.out.cell 11 rfl
  have g12 : W9.cell? ⟨w.heap.size + 1, 12, none⟩ = some (.int .i64 spl) := HM5.out.cell 12 rfl
  have g13 : W9.cell? ⟨w.heap.size + 1, 13, none⟩ = some (.int .i64 las) := HM5.out.cell 13 rfl
  have g14 : W9.cell? ⟨w.heap.size + 1, 14, none⟩ = some (.int .i64 now) := HM5.out.cell 14 rfl
  have g15 : W9.cell? ⟨w.heap.size + 1, 15, none⟩ = some (.bool off) := HM5.out.cell 15 rfl
  refine bodyPost_ret (v := .agg #[.string nm, .slice p0 load.length d0, .int .i64 pp, .int .i64 po, .int .i64 pc, .int .i64 ps, .int .i64 dp, .int .i64 dd, .int .i64 dc, .int .i64 ds, .int .i64 sk, .int .i64 pen, .int .i64 spl, .int .i64 las, .int .i64 now, .bool off]) (by simp [results, Tryz.results51, go_sem, g0, g1, g2, g3, g4, g5, g6, g7, g8, g9, g10, g11, g12, g13, g14, g15]) rfl ⟨p0, d0, rfl, HP0.out, (fun b hb => Nat.le_trans (by omega) (HF0.out b hb)), HB5.out⟩

end Go.Proofs.YtaallpebfcadjaaGreatDoor.T


/-! The walks of instance.copies over arcs, types and orders (written by gen_incp3.py). -/
namespace Go.Proofs.YtaallpebfcadjaaGreatDoor.T
open Go.RowKit
set_option maxRecDepth 8000

theorem own_below {w w' : World} {B : Nat} {e : TypeId} {k n : Nat} {v : Value} {xs : List Value} (h : w.ownsRow B e k v n xs) (hb : Below w.heap.size w w') : w'.ownsRow B e k v n xs := by
  refine ⟨h.1, ?_⟩
  rcases h.2 with hn | ⟨g, cap, cur, e, hbg, hgg, rest⟩
  · exact .inl hn
  · refine .inr ⟨g, cap, cur, e, hbg, ?_, rest⟩
    rw [hb.block g (Array.getElem?_eq_some_iff.1 hgg).1]; exact hgg
theorem row_cell {w : World} {B : Nat} {e : TypeId} {k n g cap : Nat} {cs : List Value} (h : w.ownsRow B e k (.slice (some ⟨g, 0, none⟩) n cap) n cs) {j : Nat} (hj : j < n * k) : w.cell? ⟨g, j, none⟩ = some (cs.getD j (.bool false)) := by
  rw [World.ownsRow.cellAt h j hj, List.getD_eq_getElem?_getD, List.getElem?_eq_getElem (by rw [h.1]; exact hj)]
  rfl
theorem idx_lt {k n K c : Nat} (h : k < n) (hc : c < K) : k * K + c < n * K := by
  have : (k + 1) * K ≤ n * K := Nat.mul_le_mul_right _ h
  rw [Nat.succ_mul] at this
  omega
theorem map_snoc1 {α β : Type} {xs : List (α × β)} {l : List α} {k : Nat} {d : α} {y : β} (h : xs.map (·.1) = l.take k) (hk : k < l.length) : (xs ++ [(l.getD k d, y)]).map (·.1) = l.take (k + 1) := by
  rw [List.map_append, h, take_more (d := d) hk]
  rfl
theorem len_of {α β : Type} {xs : List (α × β)} {l : List α} {k : Nat} (h : xs.map (·.1) = l.take k) (hk : k ≤ l.length) : xs.length = k := by
  have := congrArg List.length h
  rw [List.length_map, List.length_take] at this
  omega

/-! ### lorry/instance.copies[lorry/api.Arc] -/
/-- the cells of an element with its lists -/
def ccA (x : (ArcT × Value × Value)) : List Value := [.int .i64 x.1.fr, .int .i64 x.1.to, .int .i64 x.1.prof, .int .i64 x.1.miles, x.2.1, x.2.2]
theorem ccA_len (x : (ArcT × Value × Value)) : (ccA x).length = 6 := rfl
def zzA : (ArcT × Value × Value) := (arc0, .bool false, .bool false)
theorem infoA9 : (Tryz.prog.info? 54).map (fun i => (i.zero, i.size, i.bytes)) = some (some (.agg #[.int .i64 0, .int .i64 0, .int .i64 0, .int .i64 0, .slice none 0 0, .slice none 0 0]), 6, 80) := by kernel_rfl
theorem infoA8 : ∃ i, Tryz.prog.info? 54 = some i ∧ i.zero = some (.agg #[.int .i64 0, .int .i64 0, .int .i64 0, .int .i64 0, .slice none 0 0, .slice none 0 0]) ∧ i.size = 6 ∧ i.bytes = 80 := by
  have h := infoA9
  obtain ⟨i, hi, hzz⟩ := Option.map_eq_some_iff.1 h
  simp only [Prod.mk.injEq] at hzz
  exact ⟨i, hi, hzz.1, hzz.2.1, hzz.2.2⟩
/-- the call's own slice of elements -/
def GrA (B : Nat) (w : World) (v : Value) (xs : List (ArcT × Value × Value)) : Prop := w.ownsRow B 54 6 v xs.length (flk ccA xs)
/-- their lists hold what they should -/
def ErA (w : World) (xs : List (ArcT × Value × Value)) : Prop := ∀ x ∈ xs, Ps w x.2.1 x.1.tr ∧ Ps w x.2.2 x.1.sl
/-- their lists lie beside a row -/
def BrA (xs : List (ArcT × Value × Value)) (g : Nat) : Prop := ∀ x ∈ xs, x.2.1.ownBlock ≠ some g ∧ x.2.2.ownBlock ≠ some g
theorem ErA.below {w w' : World} {xs : List (ArcT × Value × Value)} (h : ErA w xs) (hb : Below w.heap.size w w') : ErA w' xs := fun x hx => ⟨psI_below2 (h x hx).1 hb, psI_below2 (h x hx).2 hb⟩
theorem ErA.kept {w w' : World} {xs : List (ArcT × Value × Value)} {g : Nat} (h : ErA w xs) (hg : w.grownBy w' (some g)) (hb : BrA xs g) : ErA w' xs := fun x hx => ⟨ps_kept (h x hx).1 hg (hb x hx).1, ps_kept (h x hx).2 hg (hb x hx).2⟩
theorem ErA.more {w : World} {xs : List (ArcT × Value × Value)} {x : (ArcT × Value × Value)} (h : ErA w xs) (hx : Ps w x.2.1 x.1.tr ∧ Ps w x.2.2 x.1.sl) : ErA w (xs ++ [x]) := fun y hy => by
  rcases List.mem_append.1 hy with hy | hy
  · exact h y hy
  · rw [List.mem_singleton] at hy; subst hy; exact hx
theorem BrA.more {xs : List (ArcT × Value × Value)} {x : (ArcT × Value × Value)} {g : Nat} (h : BrA xs g) (hx : x.2.1.ownBlock ≠ some g ∧ x.2.2.ownBlock ≠ some g) : BrA (xs ++ [x]) g := fun y hy => by
  rcases List.mem_append.1 hy with hy | hy
  · exact h y hy
  · rw [List.mem_singleton] at hy; subst hy; exact hx
/-- their lists were made since block B -/
def FxA (B : Nat) (xs : List (ArcT × Value × Value)) : Prop := ∀ x ∈ xs, Fr B x.2.1 ∧ Fr B x.2.2
theorem FxA.br {B g : Nat} {xs : List (ArcT × Value × Value)} (h : FxA B xs) (hg : g < B) : BrA xs g := fun x hx => ⟨((h x hx).1).ne hg, ((h x hx).2).ne hg⟩
theorem FxA.more {B : Nat} {xs : List (ArcT × Value × Value)} {x : (ArcT × Value × Value)} (h : FxA B xs) (hx : Fr B x.2.1 ∧ Fr B x.2.2) : FxA B (xs ++ [x]) := fun y hy => by
  rcases List.mem_append.1 hy with hy | hy
  · exact h y hy
  · rw [List.mem_singleton] at hy; subst hy; exact hx
theorem FxA.mono {B C : Nat} {xs : List (ArcT × Value × Value)} (h : FxA B xs) (hc : C ≤ B) : FxA C xs := fun x hx => ⟨(fun b hb => Nat.le_trans hc ((h x hx).1 b hb)), (fun b hb => Nat.le_trans hc ((h x hx).2 b hb))⟩
theorem GrA.sl {B : Nat} {w : World} {v : Value} {xs : List (ArcT × Value × Value)} (h : GrA B w v xs) (he : ErA w xs) : As w v (xs.map (·.1)) := by
  have hget : ∀ i, i < xs.length → (xs.map (·.1)).getD i arc0 = (xs.getD i zzA).1 := fun i hi => by
    rw [List.getD_eq_getElem?_getD, List.getD_eq_getElem?_getD, List.getElem?_map, List.getElem?_eq_getElem hi]; rfl
  have hmem : ∀ i, i < xs.length → xs.getD i zzA ∈ xs := fun i hi => getD_mem hi
  rcases h.2 with ⟨hv, h0⟩ | ⟨g, cap, cur, rfl, hbg, hgg, hnc, rest⟩
  · have hx : xs = [] := List.eq_nil_of_length_eq_zero h0
    subst hx
    exact ⟨none, 0, hv, fun i hi => by cases hi⟩
  · refine ⟨some ⟨g, 0, none⟩, cap, by rw [List.length_map], fun i hi => ?_⟩
    rw [List.length_map] at hi
    have hc := fun j (hj : j < 6) => (World.ownsRow.cellAt (g := g) (cap := cap) (n := xs.length) (xs := flk ccA xs) (w := w) (base := B) (e := 54) (size := 6) ⟨h.1, .inr ⟨g, cap, cur, rfl, hbg, hgg, hnc, rest⟩⟩ (i * 6 + j) (by omega)).trans (flk_at ccA_len zzA xs i j hi hj)
    rw [hget i hi]
    have hp := he _ (hmem i hi)
    refine ⟨g, 0, (xs.getD i zzA).2.1, (xs.getD i zzA).2.2, rfl, (Array.getElem?_eq_some_iff.1 hgg).1, ?_, hp.1, hp.2⟩
    rw [Nat.zero_add]
    exact ⟨hc 0 (by omega), hc 1 (by omega), hc 2 (by omega), hc 3 (by omega), hc 4 (by omega), hc 5 (by omega)⟩

/-- a list of elements, all of it made since block B -/
def FmA (B : Nat) (w : World) (v : Value) (l : List ArcT) : Prop := ∃ xs : List (ArcT × Value × Value), xs.map (·.1) = l ∧ GrA B w v xs ∧ ErA w xs ∧ FxA B xs ∧ ∀ g, v.ownBlock = some g → BrA xs g
theorem FmA.sl {B : Nat} {w : World} {v : Value} {l : List ArcT} (h : FmA B w v l) : As w v l := by
  obtain ⟨xs, rfl, hg, he, -, -⟩ := h
  exact hg.sl he
theorem FmA.below {B : Nat} {w w' : World} {v : Value} {l : List ArcT} (h : FmA B w v l) (hb : Below w.heap.size w w') : FmA B w' v l := by
  obtain ⟨xs, hx, hg, he, hf, hr⟩ := h
  exact ⟨xs, hx, own_below hg hb, he.below hb, hf, hr⟩
theorem FmA.kept {B g : Nat} {w w' : World} {v : Value} {l : List ArcT} (h : FmA B w v l) (hg : w.grownBy w' (some g)) (hB : g < B) : FmA B w' v l := by
  obtain ⟨xs, hx, hgr, he, hf, hr⟩ := h
  exact ⟨xs, hx, World.ownsRow.kept hgr hg (.inr (fun e => by have := (World.ownsRow.lt hgr g e).1; omega)), he.kept hg (hf.br hB), hf, hr⟩
theorem FmA.mono {B C : Nat} {w : World} {v : Value} {l : List ArcT} (h : FmA B w v l) (hc : C ≤ B) : FmA C w v l := by
  obtain ⟨xs, hx, hgr, he, hf, hr⟩ := h
  exact ⟨xs, hx, World.ownsRow.mono hgr hc, he, hf.mono hc, hr⟩

set_option maxHeartbeats 12800000 in
theorem copiesArcs_n (gf : FuncId) (eg : ∀ args w, (callFunc gf args).run Tryz.prog w = .ok (.enter gf args) w) (v : Value) (l : List ArcT) (hl : l.length ≤ 100000)
    (hp : ∀ i, i < l.length → ∀ (o0 o1 : Option Addr) (c0 c1 : Nat) (w : World), Ps w (.slice o0 (l.getD i arc0).tr.length c0) (l.getD i arc0).tr → Ps w (.slice o1 (l.getD i arc0).sl.length c1) (l.getD i arc0).sl → Calls Tryz.prog gf #[arcV (l.getD i arc0) (.slice o0 (l.getD i arc0).tr.length c0) (.slice o1 (l.getD i arc0).sl.length c1)] w (copyOfArcP (l.getD i arc0) w)) (w : World) (hv : As w v l) :
    Calls Tryz.prog 85 #[v, .func (.func gf) #[] #[]] w fun e w' => ∃ (oa : Option Addr) (c : Nat), e = .returned (.slice oa l.length c) ∧ FmA w.heap.size w' (.slice oa l.length c) l ∧ Below w.heap.size w w' := by
  have HV := Lib.hid hv
  obtain ⟨ob, cb, rfl, -⟩ := hv
  have KP := Lib.hid hp
  obtain ⟨i0, hi, hz0, hz1, hz2⟩ := infoA8
  have HTk := Lib.hid (fun k (hk : k < l.length) (xs : List (ArcT × Value × Value)) (y : Value × Value) h => map_snoc1 (xs := xs) (l := l) (d := arc0) (y := y) h hk)
  have HLen := Lib.hid (fun k (hk : k ≤ l.length) (xs : List (ArcT × Value × Value)) h => len_of (xs := xs) (l := l) h hk)
  have HAll : Hid (l.take l.length = l) := List.take_length
  generalize hn : l.length = n at *
  have HN := Lib.hid hn
  clear hp hn
  go_enter Tryz.func85, Tryz.ntmps85
  go_wp2_with (at_make; refine wpList_make_full _ rfl _ _ 23 rfl w.heap.size 54 i0 _ 6 Tryz.underlying23 hi hz0 hz1 _ _ _ _ n rfl rfl ?e0 ?e1 ?e3 ?e4 (Nat.le_refl _) ?_)
  case e0 => rfl
  case e1 => rfl
  case e3 => first | omega | (rw [hz2]; omega)
  case e4 => unfold maxLen; omega
  intro w1 hown hgrow
  have HB1 : Hid (Below w.heap.size w w1) := (Below.refl _ w).grown hgrow (Nat.le_refl _) (fun k h => by cases h)
  have HG1 := Lib.hid hown
  have hgl := (World.ownsRow.lt hown w.heap.size rfl).2
  clear hown hgrow
  go_wp2
  go_loopg [13] n (fun gg j wr => ∃ (k : Nat) (cs : List Value) (xs : List (ArcT × Value × Value)), k ≤ n ∧ j = .int .i64 k ∧ n - k ≤ gg ∧ Hid (wr.ownsRow w.heap.size 54 6 (.slice (some ⟨w.heap.size, 0, none⟩) n n) n cs) ∧ Hid (cs.take (k * 6) = flk ccA xs) ∧ Hid (xs.map (·.1) = l.take k) ∧ Hid (ErA wr xs) ∧ Hid (FxA (w.heap.size + 1) xs) ∧ Hid (Below w.heap.size w wr))
  case atStart => exact ⟨0, _, [], Nat.zero_le _, rfl, Nat.le_refl _, HG1, (by show _ = _; rw [Nat.zero_mul, List.take_zero]; rfl), rfl, (fun x hx => by cases hx), (fun x hx => by cases hx), HB1⟩
  case round =>
    clear HG1 HB1
    obtain ⟨k, cs, xs, hk, rfl, hg, HG, HC, HX, HE, HBr, HB⟩ := hrel
    by_cases hlt : k < n
    · have hkI : (k : Int) < (n : Int) := by omega
      obtain ⟨ob', c', hob, hos⟩ := HV.out.below HB.out
      rw [HN.out] at hob
      simp only [Value.slice.injEq] at hob
      obtain ⟨rfl, -, rfl⟩ := hob
      obtain ⟨b1, q1, vt, vs, rfl, hb1, hac, hvt, hvs⟩ := hos k (by rw [HN.out]; exact hlt)
      have HPk := Lib.hid (fun o0 o1 c0 c1 => KP.out k hlt o0 o1 c0 c1)
      have HTk2 := Lib.hid (fun xs y h => HTk.out k hlt xs y h)
      obtain ⟨o0, c0, rfl, -⟩ := id hvt
      obtain ⟨o1, c1, rfl, -⟩ := id hvs
      obtain ⟨x0, x1, x2, x3, x4, x5⟩ := hac
      clear hos
      generalize l.getD k arc0 = s at *
      unfold copyOfArcP arcV at HPk
      have hal := below_alloc wr (.cells #[.int .i64 s.fr, .int .i64 s.to, .int .i64 s.prof, .int .i64 s.miles, .slice o0 s.tr.length c0, .slice o1 s.sl.length c1] 54)
      have M1 := Cb.made wr #[.int .i64 s.fr, .int .i64 s.to, .int .i64 s.prof, .int .i64 s.miles, .slice o0 s.tr.length c0, .slice o1 s.sl.length c1] 54
      have J0 := Lib.hid (psI_below2 hvt hal)
      have J1 := Lib.hid (psI_below2 hvs hal)
      have HG := Lib.hid (own_below HG.out hal)
      have HE := Lib.hid (HE.out.below hal)
      have HB := Lib.hid (over HB.out hal)
      obtain ⟨W1, hW1⟩ : ∃ W1, wr.alloc (.cells #[.int .i64 s.fr, .int .i64 s.to, .int .i64 s.prof, .int .i64 s.miles, .slice o0 s.tr.length c0, .slice o1 s.sl.length c1] 54) = W1 := ⟨_, rfl⟩
      rw [hW1] at M1 HG HE HB J0 J1
      have hw1 := (World.ownsRow.lt HG.out w.heap.size rfl).2
      have HW1 := Lib.hid hW1
      have HM1 := Lib.hid M1
      clear hal M1 hW1 hvt hvs
      go_upto_region 5 with fail
      rw [HW1.out]
      clear x0 x1 x2 x3 x4 x5 HW1
      generalize wr.heap.size = q1 at *
      have m0 : W1.cell? ⟨q1, 0, none⟩ = some (.int .i64 s.fr) := HM1.out.cell 0 rfl
      have m1 : W1.cell? ⟨q1, 1, none⟩ = some (.int .i64 s.to) := HM1.out.cell 1 rfl
      have m2 : W1.cell? ⟨q1, 2, none⟩ = some (.int .i64 s.prof) := HM1.out.cell 2 rfl
      have m3 : W1.cell? ⟨q1, 3, none⟩ = some (.int .i64 s.miles) := HM1.out.cell 3 rfl
      have m4 : W1.cell? ⟨q1, 4, none⟩ = some (.slice o0 s.tr.length c0) := HM1.out.cell 4 rfl
      have m5 : W1.cell? ⟨q1, 5, none⟩ = some (.slice o1 s.sl.length c1) := HM1.out.cell 5 rfl
      go_wp2_with fail
      refine (HPk.out _ _ _ _ _ J0.out J1.out).mono ?_
      clear m0 m1 m2 m3 m4 m5
      rintro e w5 ⟨p0, p1, d0, d1, rfl, hp0, hf0, hp1, hf1, hb⟩
      have HG := Lib.hid (own_below HG.out hb)
      have HE := Lib.hid (HE.out.below hb)
      have hsz := HB.out.size
      have HB := Lib.hid (over HB.out hb)
      have r0 := row_cell HG.out (idx_lt (c := 0) hlt (by omega : 0 < 6))
      have f0 := World.ownsRow.frozenAt HG.out (k * 6 + 0)
      have r1 := row_cell HG.out (idx_lt (c := 1) hlt (by omega : 1 < 6))
      have f1 := World.ownsRow.frozenAt HG.out (k * 6 + 1)
      have r2 := row_cell HG.out (idx_lt (c := 2) hlt (by omega : 2 < 6))
      have f2 := World.ownsRow.frozenAt HG.out (k * 6 + 2)
      have r3 := row_cell HG.out (idx_lt (c := 3) hlt (by omega : 3 < 6))
      have f3 := World.ownsRow.frozenAt HG.out (k * 6 + 3)
      have r4 := row_cell HG.out (idx_lt (c := 4) hlt (by omega : 4 < 6))
      have f4 := World.ownsRow.frozenAt HG.out (k * 6 + 4)
      have r5 := row_cell HG.out (idx_lt (c := 5) hlt (by omega : 5 < 6))
      have f5 := World.ownsRow.frozenAt HG.out (k * 6 + 5)
      try rw [Nat.add_zero] at r0 f0
      obtain ⟨hst, hgr⟩ := storedN [.int .i64 s.fr, .int .i64 s.to, .int .i64 s.prof, .int .i64 s.miles, .slice p0 s.tr.length d0, .slice p1 s.sl.length d1] w5 (k * 6) cs HG.out
      have HE := Lib.hid (HE.out.kept hgr (HBr.out.br (Nat.lt_succ_self _)))
      have HP0 := Lib.hid (ps_kept hp0 hgr (hf0.ne hw1))
      have HF0 : Hid (Fr (w.heap.size + 1) (Value.slice p0 s.tr.length d0)) := fun b hb => Nat.le_trans hw1 (hf0 b hb)
      have HP1 := Lib.hid (ps_kept hp1 hgr (hf1.ne hw1))
      have HF1 : Hid (Fr (w.heap.size + 1) (Value.slice p1 s.sl.length d1)) := fun b hb => Nat.le_trans hw1 (hf1 b hb)
      have HB := Lib.hid (HB.out.grown hgr HB.out.size (fun x e => by simp only [Option.some.injEq] at e; omega))
      have hcl := HG.out.1
      have htk := setN_take [.int .i64 s.fr, .int .i64 s.to, .int .i64 s.prof, .int .i64 s.miles, .slice p0 s.tr.length d0, .slice p1 s.sl.length d1] cs (k * 6) (by rw [hcl]; exact idx_lt (c := 5) hlt (by omega))
      have HG := Lib.hid hst
      have HC : Hid ((setN cs (k * 6) [.int .i64 s.fr, .int .i64 s.to, .int .i64 s.prof, .int .i64 s.miles, .slice p0 s.tr.length d0, .slice p1 s.sl.length d1]).take ((k + 1) * 6) = flk ccA (xs ++ [(s, .slice p0 s.tr.length d0, .slice p1 s.sl.length d1)])) := by
        show _ = _
        rw [Nat.succ_mul, flk_snoc]
        exact htk.trans (by rw [HC.out]; rfl)
      have HX := Lib.hid (HTk2.out xs (.slice p0 s.tr.length d0, .slice p1 s.sl.length d1) HX.out)
      have HE := Lib.hid (HE.out.more (x := (s, .slice p0 s.tr.length d0, .slice p1 s.sl.length d1)) ⟨HP0.out, HP1.out⟩)
      have HBr := Lib.hid (HBr.out.more (x := (s, .slice p0 s.tr.length d0, .slice p1 s.sl.length d1)) ⟨HF0.out, HF1.out⟩)
      clear hst hgr htk hcl hp0 hf0 hp1 hf1 hb HPk KP HTk2
      go_wp2_with fail
      clear r0 f0 r1 f1 r2 f2 r3 f3 r4 f4 r5 f5
      go_roundg (n - (k + 1))
      case measure => omega
      case rel => exact ⟨k + 1, _, _, by omega, by go_num, by omega, HG, HC, HX, HE, HBr, HB⟩
    · have hkk : k = n := by omega
      have hkI : ¬ (k : Int) < (n : Int) := by omega
      subst hkk
      have hcs : cs = flk ccA xs := by rw [← HC.out, List.take_of_length_le (by rw [HG.out.1]; exact Nat.le_refl _)]
      have hxl := HLen.out k (Nat.le_refl _) xs HX.out
      have hxm : Hid (xs.map (·.1) = l) := by show _ = _; rw [HX.out, HAll.out]
      have HG9 : Hid (GrA w.heap.size wr (.slice (some ⟨w.heap.size, 0, none⟩) k k) xs) := by
        show World.ownsRow ..
        rw [hxl, ← hcs]
        exact HG.out
      clear hcs hxl HG HC
      go_wp2_with fail
      go_ret
      exact ⟨some ⟨w.heap.size, 0, none⟩, k, rfl, ⟨xs, hxm.out, HG9.out, HE.out, HBr.out.mono (Nat.le_succ _), (fun g h => by simp only [Value.ownBlock, Option.some.injEq] at h; subst h; exact HBr.out.br (Nat.lt_succ_self _))⟩, HB.out⟩

end Go.Proofs.YtaallpebfcadjaaGreatDoor.T


