/-
  DERIVED. GL: a part of the base of layer 13 (made by pack.py).
-/
import Derived.Test.YtoliacfpjhanlaaSt
import Derived.Test.YtoliacfpjhanlaaGK
import Derived.Test.YtoliacfpjhanlaaGG
/-! All sequences of the program are those of the specification. -/
namespace Go.Proofs.Ytoliacfpjhanlaa.T
open Go.RowKit
set_option maxRecDepth 8000

/-- the specification's search -/
def extR (z : Int) (ol : List OrT) (be : List (Int × Int)) : Nat → List (Int × Bool) → List (List (Int × Bool)) → List (List (Int × Bool))
  | 0, _, f => f
  | n + 1, L, f => if 8192 < f.length then f else if (nxR z ol be L ol.length).length = 0 then f ++ [L] else (nxR z ol be L ol.length).foldl (fun f v => extR z ol be n (L ++ [v]) f) f
theorem extR_stop {z : Int} {ol : List OrT} {be : List (Int × Int)} {n : Nat} {L : List (Int × Bool)} {f : List (List (Int × Bool))} (h : 8192 < f.length) : extR z ol be n L f = f := by
  cases n with
  | zero => rfl
  | succ n => unfold extR; rw [if_pos h]
theorem done_snoc (L : List (Int × Bool)) {v : Int × Bool} (h : num62 v.1 = true) : doneL (L ++ [v]) = withP (doneL L) v := by
  unfold doneL
  rw [List.foldl_append]
  show stepD _ v = _
  unfold stepD
  rw [if_pos h]
theorem fold_same {α β : Type} {g h : β → α → β} : ∀ (l : List α) (f : β), (∀ v ∈ l, ∀ f, g f v = h f v) → l.foldl g f = l.foldl h f
  | [], _, _ => rfl
  | v :: l, f, e => by
    rw [List.foldl_cons, List.foldl_cons, e v (List.mem_cons_self ..) f]
    exact fold_same l _ fun u hu => e u (List.mem_cons_of_mem _ hu)
section
variable {z : Int} {ol : List OrT} {ap be : List (Int × Int)}
theorem done_dn (L : List (Int × Bool)) : Dn (doneL L) := done_lt L (0, 0) (by decide) (by decide)
theorem extR_is (ok : Okv ol) (hn : ol.length ≤ 10) (hr : U.Rt ol.length be) (hz : 0 ≤ z) : ∀ (n : Nat) (L : List (Int × Bool)) (f : List (List (Int × Bool))), f.length ≤ 8192 → (0 < L.length ∨ 0 < (nxR z ol be L ol.length).length) → extF (waysF z ol be) n L (doneL L) f = extR z ol be n L f
  | 0, _, _, _, _ => rfl
  | n + 1, L, f, hf, hL => by
    have hx := ways_b (z := z) (show ol.length ≤ 63 by omega) hr
    have e : nextW (waysF z ol be) (doneL L) = nxR z ol be L ol.length := next_is ok hn hr hz L
    unfold extF extR
    rw [e, if_neg (show ¬ 8192 < f.length by omega)]
    by_cases h0 : (nxR z ol be L ol.length).length = 0
    · rw [if_pos ⟨h0, by omega⟩, if_pos h0, List.eq_nil_of_length_eq_zero h0, List.foldl_nil]
    · rw [if_neg (fun h => h0 h.1), if_neg h0]
      refine fold_same _ _ fun v hv f => ?_
      have hv2 : v ∈ nextW (waysF z ol be) (doneL L) := by rw [e]; exact hv
      by_cases h1 : 8192 < f.length
      · rw [if_pos h1, extR_stop h1]
      · rw [if_neg h1, ← done_snoc L (next_ok hx (done_dn L) hv2).1]
        exact extR_is ok hn hr hz n (L ++ [v]) f (by omega) (.inl (by simp))
theorem hasRS_nat {s k : Nat} (hs : s < 2 ^ 63) (hk : k ≤ 62) : hasR (s : Int) (k : Int) = S.has s k := by
  have h62 : num62 (k : Int) = true := by unfold num62; rw [decide_eq_true (by omega), decide_eq_true (by omega)]; rfl
  rw [has_def]
  unfold hasR
  rw [decide_eq_true (by omega), Bool.true_and, h62, Bool.true_and, Int.toNat_natCast]
  first | rfl | skip
theorem conV_vis (ok : Okv ol) {k : Nat} (hk : k < ol.length) : conV [] (visR ol k) = false := by
  rcases visR_form ok hk with e | e | e <;> rw [e] <;> rfl
/-- something can begin -/
theorem root_next (ok : Okv ol) (hn : ol.length ≤ 10) (hr : U.Rt ol.length be) {off : Nat → Bool} (hoff : ∀ i, off i = (ol.getD i or0).off) {s : Nat} (h : U.Okay ol.length off ap be s) (h0 : s ≠ 0) : 0 < (nxR (s : Int) ol be [] ol.length).length := by
  have h63 : s < 2 ^ 63 := Nat.lt_of_lt_of_le h.lt (Nat.le_trans (Nat.pow_le_pow_right (by omega) hn) (by decide))
  have hcan : U.canF ol.length be s = true := by
    have h9 := (U.allow_iff (off := off) (ap := ap) hr h.lt).2 h
    rw [U.allow_can] at h9
    split at h9
    · cases h9
    · split at h9
      · cases h9
      · split at h9
        · assumption
        · cases h9
  have hne : U.fol be s 0 ≠ 0 := fun e => by
    have h1 := U.CfI.fix hr hn h.lt (U.CfI.start be s) e
    rw [hcan, beq_iff_eq] at h1
    exact h0 h1.symm
  obtain ⟨i, hi⟩ : ∃ i, S.has (U.fol be s 0) i = true := by
    refine Classical.byContradiction fun hno => hne (U.has_ext fun i => ?_)
    rw [U.has_zero]
    cases e : S.has (U.fol be s 0) i
    · rfl
    · exact absurd ⟨i, e⟩ hno
  obtain ⟨h1, h2⟩ := (U.has_fol hr hn h.lt i).1 hi
  have hil := U.lt_has h.lt h1
  have hrd : rdyB ol be [] i = true := by
    unfold rdyB
    rw [List.all_eq_true]
    intro p hp
    unfold rdyP
    by_cases e : U.pb p = i
    · have h3 := h2 p hp e.symm
      rw [U.has_zero] at h3
      cases h3
    · rw [decide_eq_false e]; rfl
  have hm : ((i : Int), !(decide (((i : Int), false) ∈ visR ol i) && !decide (((i : Int), false) ∈ ([] : List (Int × Bool))))) ∈ nxO (s : Int) ol be [] i := by
    unfold nxO
    rw [if_pos ⟨by rw [hasRS_nat h63 (by omega)]; exact h1, by rw [← hoff]; exact h.on i h1, hrd⟩, nxV_is ok hil, if_neg (by rw [conV_vis ok hil]; decide)]
    exact List.mem_singleton.2 rfl
  exact List.length_pos_of_mem (mem_nxR hm _ hil)
/-- nothing of the empty set can begin -/
theorem zero_next (L : List (Int × Bool)) : ∀ k, k ≤ 63 → nxR 0 ol be L k = []
  | 0, _ => rfl
  | k + 1, h => by
    unfold nxR nxO
    have : hasR 0 (k : Int) = false := by
      have h1 := hasRS_nat (s := 0) (k := k) (by decide) (by omega)
      rw [U.has_zero] at h1
      exact h1
    rw [zero_next L k (by omega), if_neg (fun h => by rw [this] at h; cases h.1)]
    rfl
theorem allF_zero (ok : Okv ol) (hn : ol.length ≤ 10) (hr : U.Rt ol.length be) : allF 0 ol be = [] := by
  have e : nextW (waysF 0 ol be) (doneL []) = nxR 0 ol be [] ol.length := next_is ok hn hr (by decide) []
  rw [zero_next [] _ (by omega)] at e
  unfold allF
  show extF (waysF 0 ol be) (126 + 1) [] (doneL []) [] = []
  unfold extF
  rw [e]
  rfl

/-! ### whether there is a sequence -/
/-- what can be added -/
def AddP (s : Nat) (ol : List OrT) (be : List (Int × Int)) (l : List (Int × Bool)) (k : Nat) : Prop := S.has s k = true ∧ (ol.getD k or0).off = false ∧ conV l (visR ol k) = false ∧ rdyB ol be l k = true
structure PsI (s : Nat) (ol : List OrT) (be : List (Int × Int)) (l : List (Int × Bool)) (d : Nat) : Prop where
  con : ∀ k, k < ol.length → conV l (visR ol k) = S.has d k
  cf : U.CfI be s d
  on : ∀ k, S.has d k = true → (ol.getD k or0).off = false
  len : l.length + 2 * muB (U.minus s d) ≤ 2 * muB s
theorem conV_app (l : List (Int × Bool)) (V : List (Int × Bool)) : conV (l ++ V) V = true := by
  unfold conV
  rw [List.all_eq_true]
  exact fun v hv => decide_eq_true (List.mem_append_right _ hv)
theorem visR_num (ok : Okv ol) {k : Nat} (hk : k < ol.length) : ∀ v ∈ visR ol k, v.1 = (k : Int) := fun v hv => by
  rcases visR_form ok hk with e | e | e <;> rw [e] at hv <;> simp only [List.mem_cons, List.not_mem_nil, or_false] at hv
  · rcases hv with rfl | rfl <;> rfl
  · rw [hv]
  · rw [hv]
theorem conV_other (ok : Okv ol) {i k : Nat} (hi : i < ol.length) (hk : k < ol.length) (hne : k ≠ i) (l : List (Int × Bool)) : conV (l ++ visR ol i) (visR ol k) = conV l (visR ol k) := by
  unfold conV
  rw [Bool.eq_iff_iff, List.all_eq_true, List.all_eq_true]
  refine ⟨fun h v hv => ?_, fun h v hv => decide_eq_true (List.mem_append_left _ (of_decide_eq_true (h v hv)))⟩
  rcases List.mem_append.1 (of_decide_eq_true (h v hv)) with h1 | h1
  · exact decide_eq_true h1
  · have h2 := visR_num ok hi v h1
    have h3 := visR_num ok hk v hv
    omega
theorem PsI.add (ok : Okv ol) (hn : ol.length ≤ 10) (hr : U.Rt ol.length be) {s : Nat} (hs : s < 2 ^ ol.length) {l : List (Int × Bool)} {d i : Nat} (h : PsI s ol be l d) (hi : i < ol.length) (ha : AddP s ol be l i) :
    PsI s ol be (l ++ visR ol i) (d ||| 2 ^ i) ∧ muB (U.minus s (d ||| 2 ^ i)) < muB (U.minus s d) := by
  obtain ⟨h1, h2, h3, h4⟩ := ha
  have h10 : 2 ^ ol.length ≤ 1024 := U.pow_le hn
  have hd : d < 2 ^ ol.length := h.cf.lt hs
  have hdi : S.has d i = false := by rw [← h.con i hi, h3]
  have hd2 : d ||| 2 ^ i < 2 ^ ol.length := U.has_lt fun k hk => by
    rw [U.has_or, Bool.or_eq_true, U.has_pow, decide_eq_true_iff] at hk
    rcases hk with hk | rfl
    · exact U.lt_has hd hk
    · exact hi
  have hmu : muB (U.minus s (d ||| 2 ^ i)) < muB (U.minus s d) := muB_lt (k := i) (by omega) (by rw [U.has_minus (by omega) (by omega), h1, hdi]; rfl) (by rw [U.has_minus (by omega) (by omega), U.has_or, U.has_pow, decide_eq_true rfl]; simp) fun k hk => by
    rw [U.has_minus (by omega) (by omega), U.has_or] at hk
    rw [U.has_minus (by omega) (by omega)]
    simp only [Bool.and_eq_true, Bool.not_eq_true', Bool.or_eq_false_iff] at hk ⊢
    exact ⟨hk.1, hk.2.1⟩
  have hrd : ∀ p ∈ be, U.pb p = i → S.has d (U.pa p) = true := fun p hp e => by
    unfold rdyB at h4
    rw [List.all_eq_true] at h4
    have h5 := h4 p hp
    unfold rdyP at h5
    rw [decide_eq_true e, Bool.not_true, Bool.false_or, h.con _ (hr.a hp).1] at h5
    exact h5
  have hci : ¬ U.Ch be i i := fun hc => by
    cases hc with
    | one hp e =>
      have h5 := hrd _ hp rfl
      rw [e, hdi] at h5
      cases h5
    | more h6 hp => exact h.cf.ci _ (hrd _ hp rfl) ((U.Ch.one hp rfl).trans h6)
  refine ⟨⟨fun k hk => ?_, ⟨fun k hk => ?_, fun p hp hb => ?_, fun k hk => ?_⟩, fun k hk => ?_, ?_⟩, hmu⟩
  · rw [U.has_or, U.has_pow]
    by_cases e : k = i
    · subst e
      rw [conV_app, decide_eq_true rfl, Bool.or_true]
    · rw [conV_other ok hi hk e, h.con k hk, decide_eq_false e, Bool.or_false]
  · rw [U.has_or, Bool.or_eq_true, U.has_pow, decide_eq_true_iff] at hk
    rcases hk with hk | rfl
    · exact h.cf.sub k hk
    · exact h1
  · rw [U.has_or, Bool.or_eq_true, U.has_pow, decide_eq_true_iff] at hb ⊢
    rcases hb with hb | hb
    · exact .inl (h.cf.cl p hp hb)
    · exact .inl (hrd p hp hb)
  · rw [U.has_or, Bool.or_eq_true, U.has_pow, decide_eq_true_iff] at hk
    rcases hk with hk | rfl
    · exact h.cf.ci k hk
    · exact hci
  · rw [U.has_or, Bool.or_eq_true, U.has_pow, decide_eq_true_iff] at hk
    rcases hk with hk | rfl
    · exact h.on k hk
    · exact h2
  · have h5 := h.len
    have h6 := visR_len ol i
    rw [List.length_append]
    omega
/-- whether there is a sequence -/
def posB (s : Nat) (ol : List OrT) (ap be : List (Int × Int)) : Bool := decide (s ≠ 0) && decide (U.allowE ol.length (offF ol) ap be (s : Int) = 0)
theorem offF_is (ol : List OrT) (i : Nat) : offF ol i = (ol.getD i or0).off := by first | rfl | (unfold offF; rfl)
theorem allF_is (ok : Okv ol) (hn : ol.length ≤ 10) (hr : U.Rt ol.length be) {s : Nat} (h : posB s ol ap be = true) : allF (s : Int) ol be = extR (s : Int) ol be 127 [] [] := by
  unfold posB at h
  rw [Bool.and_eq_true, decide_eq_true_iff, decide_eq_true_iff] at h
  have hk := (U.allowE_zero hr h.2).2
  rw [Int.toNat_natCast] at hk
  exact extR_is ok hn hr (by omega) 127 [] [] (by decide) (.inr (root_next ok hn hr (offF_is ol) hk h.1))
end
end Go.Proofs.Ytoliacfpjhanlaa.T


/-! The specification of sequences: the search (by gen_vb.py). -/
namespace Go.Proofs.Ytoliacfpjhanlaa.T
open Go.RowKit
set_option maxRecDepth 8000
attribute [local irreducible] wpList Code.wp wpAnyH

theorem ElR.lt {w : World} {u : Value} {L : List (Int × Bool)} (h : ElR w u L) {b : Nat} (hb : u.ownBlock = some b) : b < w.heap.size := by
  obtain ⟨b', c, rfl, -, hl⟩ := h
  simp only [Value.ownBlock, Option.some.injEq] at hb
  omega
end Go.Proofs.Ytoliacfpjhanlaa.T


/-! The specification of sequences: All; lists of sequences are compared (by gen_vc.py). -/
namespace Go.Proofs.Ytoliacfpjhanlaa.T
open Go.RowKit
set_option maxRecDepth 8000
attribute [local irreducible] wpList Code.wp wpAnyH

theorem extR_lens (z : Int) (ol : List OrT) (be : List (Int × Int)) : ∀ (n : Nat) (L : List (Int × Bool)) (f : List (List (Int × Bool))), ∀ u ∈ extR z ol be n L f, u ∈ f ∨ u.length ≤ L.length + n
  | 0, _, f, u, h => .inl h
  | n + 1, L, f, u, h => by
    unfold extR at h
    split at h
    · exact .inl h
    · split at h
      · rcases List.mem_append.1 h with h | h
        · exact .inl h
        · rw [List.mem_singleton] at h; subst h; exact .inr (by omega)
      · have key : ∀ (l : List (Int × Bool)) (f : List (List (Int × Bool))), u ∈ l.foldl (fun f v => extR z ol be n (L ++ [v]) f) f → u ∈ f ∨ u.length ≤ L.length + (n + 1) := by
          intro l
          induction l with
          | nil => intro f h; exact .inl h
          | cons v l ih =>
            intro f h
            rw [List.foldl_cons] at h
            rcases ih _ h with h | h
            · rcases extR_lens z ol be n _ f u h with h | h
              · exact .inl h
              · rw [List.length_append, List.length_singleton] at h; exact .inr (by omega)
            · exact .inr h
        exact key _ _ h
section
variable {z : Int} {ol : List OrT} {ap be : List (Int × Int)}
theorem posB_no (ok : Okv ol) (hn : ol.length ≤ 10) (hr : U.Rt ol.length be) {s : Nat} (hs : s < 2 ^ ol.length) (h : ¬ posB s ol ap be = true) : allE (s : Int) ol ap be = 0 ∧ allS (s : Int) ol ap be = [] := by
  have h1 : U.allowE ol.length (offF ol) ap be (s : Int) ≠ 2 := by
    rw [U.allowE_nat hs, U.allow_can]
    cases U.offE ol.length (offF ol) s <;> cases U.apartE ap s <;> cases U.canF ol.length be s <;> decide
  by_cases h2 : U.allowE ol.length (offF ol) ap be (s : Int) = 0
  · have h3 : s = 0 := Decidable.of_not_not fun h3 => h (by unfold posB; rw [decide_eq_true h3, decide_eq_true h2]; rfl)
    subst h3
    have e : allF ((0 : Nat) : Int) ol be = [] := allF_zero ok hn hr
    unfold allE allS
    rw [e, if_pos h2]
    exact ⟨rfl, by split <;> rfl⟩
  · unfold allE allS
    rw [if_neg h2, if_neg h1, if_neg (fun h => h2 h.1)]
    exact ⟨rfl, rfl⟩
theorem posB_all (ok : Okv ol) (hn : ol.length ≤ 10) (hr : U.Rt ol.length be) {s : Nat} (h : posB s ol ap be = true) :
    (8192 < (extR (s : Int) ol be 127 [] []).length → allE (s : Int) ol ap be = 4 ∧ allS (s : Int) ol ap be = []) ∧ (¬ 8192 < (extR (s : Int) ol be 127 [] []).length → allE (s : Int) ol ap be = 0 ∧ allS (s : Int) ol ap be = extR (s : Int) ol be 127 [] []) := by
  have e := allF_is ok hn hr h
  unfold posB at h
  rw [Bool.and_eq_true, decide_eq_true_iff, decide_eq_true_iff] at h
  unfold allE allS
  rw [e, if_pos h.2]
  exact ⟨fun h1 => ⟨by rw [if_pos h1], by rw [if_neg (fun h9 => by omega)]⟩, fun h1 => ⟨by rw [if_neg h1], by rw [if_pos ⟨h.2, by omega⟩]⟩⟩
theorem allS_lens (ok : Okv ol) (hn : ol.length ≤ 10) (hr : U.Rt ol.length be) (hz : z ≤ 9223372036854775807) : ∀ u ∈ allS z ol ap be, u.length ≤ 127 := fun u hu => by
  by_cases h0 : U.allowE ol.length (offF ol) ap be z = 0
  · obtain ⟨hz0, hk⟩ := U.allowE_zero hr h0
    obtain ⟨s, rfl⟩ := Int.eq_ofNat_of_zero_le hz0
    rw [Int.toNat_natCast] at hk
    by_cases h : posB s ol ap be = true
    · have h9 := posB_all ok hn hr h
      by_cases h1 : 8192 < (extR (s : Int) ol be 127 [] []).length
      · rw [(h9.1 h1).2] at hu; cases hu
      · rw [(h9.2 h1).2] at hu
        rcases extR_lens _ _ _ _ _ _ u hu with h | h
        · cases h
        · simpa using h
    · rw [(posB_no ok hn hr hk.lt h).2] at hu; cases hu
  · unfold allS at hu
    rw [if_neg (fun h => h0 h.1)] at hu
    cases hu
end
theorem fo_rw {B : Nat} {w : World} {oa : Option Addr} {c : Nat} {vs : List Value} (h : Fo B w (.slice oa vs.length c) vs) : ∃ b o, Rw w b o 1 (fun k => [vs.getD k undef]) vs.length oa := by
  rcases h.2 with ⟨-, h0⟩ | ⟨g, cap, cur, e, hb, hg, -, -, hsz, ht⟩
  · exact ⟨0, 0, fun i hi => by omega⟩
  · simp only [Value.slice.injEq] at e
    refine ⟨g, 0, fun i hi => ⟨by rw [e.1], (Array.getElem?_eq_some_iff.1 hg).1, fun j v hj => ?_⟩⟩
    match j, hj with
    | 0, hj =>
      simp only [List.getElem?_cons_zero, Option.some.injEq] at hj
      subst hj
      have hh := (show w.ownsRow B 32 1 (.slice oa vs.length c) vs.length vs from h).cells (g := g) (by rw [e.1]; rfl) i (vs.getD i undef) (by rw [List.getD_eq_getElem?_getD, List.getElem?_eq_getElem hi]; rfl)
      have e9 : (⟨g, 0, none⟩ : Addr).add i = ⟨g, 0 + i * 1 + 0, none⟩ := by
        unfold Addr.add
        split
        · subst_vars; rfl
        · simp
      rw [e9] at hh
      exact hh
end Go.Proofs.Ytoliacfpjhanlaa.T


/-! The walk of the law SequenceAll (by gen_vd.py). -/
namespace Go.Proofs.Ytoliacfpjhanlaa.T
open Go.RowKit
set_option maxRecDepth 8000
attribute [local irreducible] wpList Code.wp wpAnyH

theorem allS_len (z : Int) (ol : List OrT) (ap be : List (Int × Int)) : (allS z ol ap be).length ≤ 8192 := by
  unfold allS
  split
  · rename_i h; exact h.2
  · simp
end Go.Proofs.Ytoliacfpjhanlaa.T


/-! What the search finds: each sequence is right, they ascend, each right route is one of them, and they are few. -/
namespace Go.Proofs.Ytoliacfpjhanlaa.T
open Go.RowKit
set_option maxRecDepth 8000

section
variable {z : Int} {ol : List OrT} {ap be : List (Int × Int)} {L : List (Int × Bool)}
/-- what of order k can follow -/
def nV (ol : List OrT) (L : List (Int × Bool)) (k : Nat) : Int × Bool := ((k : Int), !(decide (((k : Int), false) ∈ visR ol k) && !decide (((k : Int), false) ∈ L)))
theorem nxO_is (ok : Okv ol) {k : Nat} (hk : k < ol.length) : nxO z ol be L k = if hasR z (k : Int) = true ∧ (ol.getD k or0).off = false ∧ rdyB ol be L k = true ∧ conV L (visR ol k) = false then [nV ol L k] else [] := by
  unfold nxO
  by_cases h : hasR z (k : Int) = true ∧ (ol.getD k or0).off = false ∧ rdyB ol be L k = true
  · rw [if_pos h, nxV_is ok hk]
    cases e : conV L (visR ol k)
    · rw [if_neg (by decide), if_pos ⟨h.1, h.2.1, h.2.2, rfl⟩]; rfl
    · rw [if_pos rfl, if_neg (fun h => by cases h.2.2.2)]
  · rw [if_neg h, if_neg (fun h9 => h ⟨h9.1, h9.2.1, h9.2.2.1⟩)]
theorem mem_nxR2 {v : Int × Bool} : ∀ m, v ∈ nxR z ol be L m ↔ ∃ k, k < m ∧ v ∈ nxO z ol be L k
  | 0 => ⟨(fun h => by cases h), fun ⟨_, h, _⟩ => absurd h (Nat.not_lt_zero _)⟩
  | m + 1 => by
    rw [nxR_succ, List.mem_append, mem_nxR2 m]
    constructor
    · rintro (⟨k, h1, h2⟩ | h)
      · exact ⟨k, by omega, h2⟩
      · exact ⟨m, by omega, h⟩
    · rintro ⟨k, h1, h2⟩
      rcases Nat.lt_succ_iff_lt_or_eq.1 h1 with h3 | h3
      · exact .inl ⟨k, h3, h2⟩
      · subst h3; exact .inr h2
/-- what can follow is new, and one of its order's visits, a delivery behind its pickup -/
structure NewV (z : Int) (ol : List OrT) (be : List (Int × Int)) (L : List (Int × Bool)) (v : Int × Bool) (k : Nat) : Prop where
  lt : k < ol.length
  num : v.1 = (k : Int)
  has : hasR z (k : Int) = true
  on : (ol.getD k or0).off = false
  rdy : rdyB ol be L k = true
  vis : v ∈ visR ol k
  new : v ∉ L
  pd : v.2 = true → ((k : Int), false) ∈ visR ol k → ((k : Int), false) ∈ L
theorem new_of (ok : Okv ol) {v : Int × Bool} {k : Nat} (hk : k < ol.length) (h : v ∈ nxO z ol be L k) : NewV z ol be L v k := by
  rw [nxO_is ok hk] at h
  split at h
  · rename_i hc
    obtain ⟨h1, h2, h3, h4⟩ := hc
    rw [List.mem_singleton] at h
    have hcon : ¬ ∀ u ∈ visR ol k, u ∈ L := fun h9 => by
      unfold conV at h4
      have : (visR ol k).all (fun v => decide (v ∈ L)) = true := List.all_eq_true.2 fun u hu => decide_eq_true (h9 u hu)
      rw [this] at h4; cases h4
    subst h
    refine ⟨hk, rfl, h1, h2, h3, ?_, ?_, ?_⟩
    · unfold nV
      rcases visR_form ok hk with e | e | e <;> rw [e] at hcon ⊢
      · by_cases hm : ((k : Int), false) ∈ L <;> simp [hm]
      · have hm : ((k : Int), false) ∉ L := fun hm => hcon fun u hu => by rw [List.mem_singleton] at hu; rw [hu]; exact hm
        simp [hm]
      · simp
    · unfold nV
      rcases visR_form ok hk with e | e | e <;> rw [e] at hcon ⊢
      · by_cases hm : ((k : Int), false) ∈ L
        · have hm2 : ((k : Int), true) ∉ L := fun h9 => hcon fun u hu => by
            simp only [List.mem_cons, List.not_mem_nil, or_false] at hu
            rcases hu with rfl | rfl
            · exact hm
            · exact h9
          simp [hm, hm2]
        · simp [hm]
      · have hm : ((k : Int), false) ∉ L := fun hm => hcon fun u hu => by rw [List.mem_singleton] at hu; rw [hu]; exact hm
        simp [hm]
      · have hm : ((k : Int), true) ∉ L := fun hm => hcon fun u hu => by rw [List.mem_singleton] at hu; rw [hu]; exact hm
        simpa using hm
    · unfold nV
      intro h5 h6
      simp only [h6, decide_true, Bool.true_and, Bool.not_not, decide_eq_true_eq] at h5
      exact h5
  · cases h
theorem new_nx (ok : Okv ol) {v : Int × Bool} (h : v ∈ nxR z ol be L ol.length) : ∃ k, NewV z ol be L v k := by
  obtain ⟨k, hk, h1⟩ := (mem_nxR2 _).1 h
  exact ⟨k, new_of ok hk h1⟩

/-! ### what is found -/
inductive Pth (z : Int) (ol : List OrT) (be : List (Int × Int)) : List (Int × Bool) → Prop
  | nil : Pth z ol be []
  | snoc {L : List (Int × Bool)} {v : Int × Bool} : Pth z ol be L → v ∈ nxR z ol be L ol.length → Pth z ol be (L ++ [v])
structure Pin (z : Int) (ol : List OrT) (be : List (Int × Int)) (L : List (Int × Bool)) : Prop where
  ex : ∀ v ∈ L, ∃ k, k < ol.length ∧ hasR z (k : Int) = true ∧ (ol.getD k or0).off = false ∧ v.1 = (k : Int) ∧ v ∈ visR ol k
  once : ∀ i, i < L.length → idxV L (L.getD i (0, false)) = (i : Int)
  pd : ∀ k, k < ol.length → ((k : Int), true) ∈ L → ((k : Int), false) ∈ visR ol k → 0 ≤ idxV L ((k : Int), false) ∧ idxV L ((k : Int), false) < idxV L ((k : Int), true)
  bf : ∀ v ∈ L, ∀ p ∈ be, v.1 = (U.pb p : Int) → ∀ u ∈ visR ol (U.pa p), 0 ≤ idxV L u ∧ idxV L u < idxV L v
theorem idxV_len {v : Int × Bool} (h : v ∈ L) : 0 ≤ idxV L v ∧ idxV L v < L.length := by
  obtain ⟨i, hi, e, -⟩ := idxV_get h
  omega
theorem Pin.of (ok : Okv ol) (h : Pth z ol be L) : Pin z ol be L := by
  induction h with
  | nil => exact ⟨(fun v hv => by cases hv), fun i hi => absurd hi (Nat.not_lt_zero i), (fun k _ h => by cases h), (fun v hv => by cases hv)⟩
  | @snoc L v _ hv ih =>
    obtain ⟨k, hN⟩ := new_nx ok hv
    have hnw := hN.new
    have hsn : idxV (L ++ [v]) v = L.length := idxV_snoc hnw
    have hold : ∀ u, u ∈ L → idxV (L ++ [v]) u = idxV L u := fun u hu => idxV_snoc_ne fun e => hnw (e ▸ hu)
    refine ⟨fun u hu => ?_, fun i hi => ?_, fun j hj h1 h2 => ?_, fun u hu p hp e x hx => ?_⟩
    · rcases List.mem_append.1 hu with hu | hu
      · exact ih.ex u hu
      · rw [List.mem_singleton] at hu
        subst hu
        exact ⟨k, hN.lt, hN.has, hN.on, hN.num, hN.vis⟩
    · rw [List.length_append, List.length_singleton] at hi
      rcases Nat.lt_succ_iff_lt_or_eq.1 hi with h3 | h3
      · have e : (L ++ [v]).getD i (0, false) = L.getD i (0, false) := by
          rw [List.getD_eq_getElem?_getD, List.getElem?_append_left h3, ← List.getD_eq_getElem?_getD]
        rw [e, hold _ (getD_mem h3)]
        exact ih.once i h3
      · have e : (L ++ [v]).getD i (0, false) = v := by
          rw [h3, List.getD_eq_getElem?_getD, List.getElem?_append_right (Nat.le_refl _)]
          simp
        rw [e, hsn, h3]
    · rcases List.mem_append.1 h1 with h1 | h1
      · have h3 := ih.pd j hj h1 h2
        rw [hold _ h1, hold _ (idxV_mem.2 h3.1)]
        exact h3
      · rw [List.mem_singleton] at h1
        have hjk : j = k := by have := hN.num; rw [← h1] at this; simp only at this; omega
        subst hjk
        have h3 := hN.pd (by rw [← h1]) h2
        rw [hold _ h3, h1, hsn]
        exact idxV_len h3
    · rcases List.mem_append.1 hu with hu | hu
      · have h3 := ih.bf u hu p hp e x hx
        rw [hold _ hu, hold _ (idxV_mem.2 h3.1)]
        exact h3
      · rw [List.mem_singleton] at hu
        subst hu
        have hpk : U.pb p = k := by have := hN.num; omega
        have h4 := hN.rdy
        unfold rdyB at h4
        have h5 := List.all_eq_true.1 h4 p hp
        unfold rdyP at h5
        rw [decide_eq_true hpk, Bool.not_true, Bool.false_or] at h5
        unfold conV at h5
        have h6 := of_decide_eq_true (List.all_eq_true.1 h5 x hx)
        rw [hold _ h6, hsn]
        exact idxV_len h6
theorem canF_of {s : Nat} (hr : U.Rt ol.length be) {off : Nat → Bool} (h : U.Okay ol.length off ap be s) : U.canF ol.length be s = true := by
  have h9 := (U.allow_iff (off := off) (ap := ap) hr h.lt).2 h
  rw [U.allow_can] at h9
  split at h9
  · cases h9
  · split at h9
    · cases h9
    · split at h9
      · assumption
      · cases h9
theorem visR_some (ok : Okv ol) {k : Nat} (hk : k < ol.length) : ∃ b, ((k : Int), b) ∈ visR ol k := by
  rcases visR_form ok hk with e | e | e <;> rw [e]
  · exact ⟨false, by simp⟩
  · exact ⟨false, by simp⟩
  · exact ⟨true, by simp⟩
/-- behind the last visit all orders are done -/
theorem leaf_all (ok : Okv ol) (hn : ol.length ≤ 10) (hr : U.Rt ol.length be) {s : Nat} (h : U.Okay ol.length (offF ol) ap be s) (hP : Pin (s : Int) ol be L) (h0 : nxR (s : Int) ol be L ol.length = []) : ∀ k, S.has s k = true → conV L (visR ol k) = true := by
  have h63 : s < 2 ^ 63 := Nat.lt_of_lt_of_le h.lt (Nat.le_trans (Nat.pow_le_pow_right (by omega) hn) (by decide))
  have hd : ∀ i, S.has (U.ofB (fun k => conV L (visR ol k)) ol.length) i = (decide (i < ol.length) && conV L (visR ol i)) := U.has_ofB _ _
  have hin : ∀ k, k < ol.length → conV L (visR ol k) = true → ∃ b, ((k : Int), b) ∈ L := fun k hk hc => by
    obtain ⟨b, hb⟩ := visR_some ok hk
    unfold conV at hc
    exact ⟨b, of_decide_eq_true (List.all_eq_true.1 hc _ hb)⟩
  have hsub : ∀ i, S.has (U.ofB (fun k => conV L (visR ol k)) ol.length) i = true → S.has s i = true := fun i hi => by
    rw [hd, Bool.and_eq_true, decide_eq_true_iff] at hi
    obtain ⟨b, hb⟩ := hin i hi.1 hi.2
    obtain ⟨k, hk, h1, -, h3, -⟩ := hP.ex _ hb
    have : i = k := by simp only at h3; omega
    subst this
    rw [hasRS_nat h63 (by omega)] at h1
    exact h1
  have hcf : U.CfI be s (U.ofB (fun k => conV L (visR ol k)) ol.length) := by
    refine ⟨hsub, fun p hp hb => ?_, fun i hi => h.ci i (hsub i hi)⟩
    rw [hd, Bool.and_eq_true, decide_eq_true_iff] at hb ⊢
    obtain ⟨b, hb2⟩ := hin _ hb.1 hb.2
    refine ⟨(hr.a hp).1, ?_⟩
    unfold conV
    rw [List.all_eq_true]
    exact fun u hu => decide_eq_true (idxV_mem.2 (hP.bf _ hb2 p hp rfl u hu).1)
  have hfol : U.fol be s (U.ofB (fun k => conV L (visR ol k)) ol.length) = U.ofB (fun k => conV L (visR ol k)) ol.length := U.has_ext fun i => by
    rw [Bool.eq_iff_iff]
    refine ⟨fun hi => ?_, hcf.sup hr hn h.lt i⟩
    obtain ⟨h1, h2⟩ := (U.has_fol hr hn h.lt i).1 hi
    have hil := U.lt_has h.lt h1
    rw [hd, decide_eq_true hil, Bool.true_and]
    cases hc : conV L (visR ol i)
    · have hrd : rdyB ol be L i = true := by
        unfold rdyB
        rw [List.all_eq_true]
        intro p hp
        unfold rdyP
        by_cases e : U.pb p = i
        · have h3 := h2 p hp e.symm
          rw [hd, Bool.and_eq_true] at h3
          rw [decide_eq_true e, h3.2]; rfl
        · rw [decide_eq_false e]; rfl
      have hm : nV ol L i ∈ nxR (s : Int) ol be L ol.length := (mem_nxR2 _).2 ⟨i, hil, by
        rw [nxO_is ok hil, if_pos ⟨by rw [hasRS_nat h63 (by omega)]; exact h1, by rw [← offF_is]; exact h.on i h1, hrd, hc⟩]
        exact List.mem_singleton.2 rfl⟩
      rw [h0] at hm
      cases hm
    · rfl
  have heq := hcf.fix hr hn h.lt hfol
  rw [canF_of hr h, beq_iff_eq] at heq
  intro k hk
  rw [← heq, hd, Bool.and_eq_true] at hk
  exact hk.2
/-- what is found is right -/
theorem leaf_chk (ok : Okv ol) (hn : ol.length ≤ 10) (hra : U.Rt ol.length ap) (hr : U.Rt ol.length be) {s : Nat} (h : U.Okay ol.length (offF ol) ap be s) (hs0 : s ≠ 0) (hP : Pin (s : Int) ol be L) (h0 : nxR (s : Int) ol be L ol.length = []) : chkR ol ap be L = 0 ∧ ordN L = (s : Int) ∧ ordE L = 0 := by
  have h63 : s < 2 ^ 63 := Nat.lt_of_lt_of_le h.lt (Nat.le_trans (Nat.pow_le_pow_right (by omega) hn) (by decide))
  have hall := leaf_all ok hn hr h hP h0
  have hcon : ∀ k, S.has s k = true → ∀ v ∈ visR ol k, v ∈ L := fun k hk v hv => by
    have h1 := hall k hk
    unfold conV at h1
    exact of_decide_eq_true (List.all_eq_true.1 h1 v hv)
  have hex : Ex ol.length L := fun i hi => by
    obtain ⟨k, hk, -, -, h3, -⟩ := hP.ex _ (getD_mem (d := (0, false)) hi)
    omega
  have hoB := ordB_ex hn hex
  have hE : ordE L = 0 := by unfold ordE; rw [hoB]; rfl
  have hN : ordN L = (s : Int) := by
    unfold ordN
    rw [hoB, if_pos rfl]
    congr 1
    refine U.has_ext fun k => ?_
    rw [Bool.eq_iff_iff, has_ordK k L.length (Nat.le_refl _)]
    constructor
    · rintro ⟨i, hi, e⟩
      obtain ⟨k', hk', h1, -, h3, -⟩ := hP.ex _ (getD_mem (d := (0, false)) hi)
      have : k = k' := by omega
      subst this
      rw [hasRS_nat h63 (by omega)] at h1
      exact h1
    · intro hk
      obtain ⟨b, hb⟩ := visR_some ok (U.lt_has h.lt hk)
      obtain ⟨i, hi, -, e⟩ := idxV_get (hcon k hk _ hb)
      exact ⟨i, hi, by rw [e]; simp⟩
  refine ⟨?_, hN, hE⟩
  have hlen : L.length ≠ 0 := fun e => by
    have hL : L = [] := List.eq_nil_of_length_eq_zero e
    obtain ⟨k, hk⟩ : ∃ k, S.has s k = true := Classical.byContradiction fun hno => hs0 (U.has_ext fun k => by
      rw [U.has_zero]
      cases e : S.has s k
      · rfl
      · exact absurd ⟨k, e⟩ hno)
    obtain ⟨b, hb⟩ := visR_some ok (U.lt_has h.lt hk)
    have := hcon k hk _ hb
    rw [hL] at this
    cases this
  unfold chkR
  rw [if_neg, if_neg (show ¬ (ordE L ≠ 0 ∨ L.length = 0) from fun h9 => h9.elim (fun q => q hE) hlen), if_neg, if_neg (fun h9 => h9 hP.once), if_neg, hN, if_neg, if_neg]
  · -- before
    intro h9
    have : befL (s : Int) be L = true := by
      unfold befL
      rw [List.all_eq_true]
      intro p hp
      have hrt := hr.a hp
      unfold befP
      rw [hasRS_nat h63 (by omega), hasRS_nat h63 (by omega)]
      cases hb : S.has s (U.pb p)
      · rfl
      · rw [h.bef p hp hb, Bool.not_true, Bool.false_or, Bool.true_and, decide_eq_true_iff, nob_iff hP.once]
        intro d e ha hbv
        obtain ⟨k, hk, -, -, h3, h4⟩ := hP.ex _ ha
        have : U.pa p = k := by simp only at h3; omega
        subst this
        have := hP.bf _ hbv p hp rfl _ h4
        omega
    rw [this] at h9
    cases h9
  · -- apart
    intro h9
    have : aptB (s : Int) ap = true := by
      unfold aptB
      rw [List.all_eq_true]
      intro p hp
      have hrt := hra.a hp
      unfold aptP
      rw [hasRS_nat h63 (by omega), hasRS_nat h63 (by omega)]
      cases ha : S.has s (U.pa p)
      · rfl
      · rw [h.apt p hp ha]; rfl
    rw [this] at h9
    cases h9
  · -- pairs
    intro h9
    have : prdB ol L = true := by
      unfold prdB
      rw [List.all_eq_true]
      intro v hv
      obtain ⟨k, hk, h1, -, h3, h4⟩ := hP.ex v hv
      rw [hasRS_nat h63 (by omega)] at h1
      unfold prdP
      rw [h3, Int.toNat_natCast]
      have i1 : ¬ idxV (visR ol k) v < 0 := Int.not_lt.2 (idxV_mem.1 h4)
      rw [decide_eq_false i1, hall k h1, Bool.not_false, Bool.true_and, Bool.true_and]
      rcases visR_form ok hk with e | e | e
      · have hm1 : ((k : Int), true) ∈ L := hcon k h1 _ (by rw [e]; simp)
        have := hP.pd k hk hm1 (by rw [e]; simp)
        rw [e]
        show (!(decide ([((k : Int), false), ((k : Int), true)].length = 2) && decide (idxV L ((k : Int), false) > idxV L ((k : Int), true)))) = true
        rw [decide_eq_false (show ¬ idxV L ((k : Int), false) > idxV L ((k : Int), true) by omega), Bool.and_false]
        rfl
      · rw [e]; rfl
      · rw [e]; rfl
    rw [this] at h9
    cases h9
  · rw [Bool.not_eq_true]
    refine List.any_eq_false.2 fun v hv => ?_
    obtain ⟨k, -, -, h2, h3, -⟩ := hP.ex v hv
    unfold offV
    rw [h3, Int.toNat_natCast, h2]
    decide
  · rw [Bool.not_eq_true]
    refine List.any_eq_false.2 fun v hv => ?_
    obtain ⟨k, hk, -, -, h3, -⟩ := hP.ex v hv
    unfold goneV
    rw [decide_eq_false (by omega), decide_eq_false (by omega)]
    decide
end
end Go.Proofs.Ytoliacfpjhanlaa.T


/-! The search without its limit: its sequences are right, ascend, are few, and hold each right route. -/
namespace Go.Proofs.Ytoliacfpjhanlaa.T
open Go.RowKit
set_option maxRecDepth 8000

def enu (z : Int) (ol : List OrT) (be : List (Int × Int)) : Nat → List (Int × Bool) → List (List (Int × Bool))
  | 0, _ => []
  | n + 1, L => if (nxR z ol be L ol.length).length = 0 then [L] else (nxR z ol be L ol.length).flatMap fun v => enu z ol be n (L ++ [v])
section
variable {z : Int} {ol : List OrT} {ap be : List (Int × Int)}
theorem extR_enu : ∀ (n : Nat) (L : List (Int × Bool)) (f : List (List (Int × Bool))), (f ++ enu z ol be n L).length ≤ 8192 → extR z ol be n L f = f ++ enu z ol be n L
  | 0, _, f, _ => by unfold extR enu; rw [List.append_nil]
  | n + 1, L, f, h => by
    have hf : ¬ 8192 < f.length := by rw [List.length_append] at h; omega
    unfold enu at h ⊢
    unfold extR
    rw [if_neg hf]
    by_cases h0 : (nxR z ol be L ol.length).length = 0
    · rw [if_pos h0, if_pos h0]
    · rw [if_neg h0] at h ⊢
      rw [if_neg h0]
      have key : ∀ (l : List (Int × Bool)) (f : List (List (Int × Bool))), (f ++ l.flatMap fun v => enu z ol be n (L ++ [v])).length ≤ 8192 → l.foldl (fun f v => extR z ol be n (L ++ [v]) f) f = f ++ l.flatMap fun v => enu z ol be n (L ++ [v]) := by
        intro l
        induction l with
        | nil => intro f _; rw [List.flatMap_nil, List.append_nil]; rfl
        | cons v l ih =>
          intro f h
          rw [List.flatMap_cons, ← List.append_assoc] at h
          rw [List.foldl_cons, extR_enu n _ f (by rw [List.length_append] at h; omega), ih _ h, List.flatMap_cons, List.append_assoc]
      exact key _ _ h
theorem enu_pth : ∀ (n : Nat) (L u : List (Int × Bool)), Pth z ol be L → u ∈ enu z ol be n L → Pth z ol be u ∧ nxR z ol be u ol.length = []
  | 0, _, _, _, h => by cases h
  | n + 1, L, u, hP, h => by
    unfold enu at h
    split at h
    · rename_i h0
      rw [List.mem_singleton] at h
      subst h
      exact ⟨hP, List.eq_nil_of_length_eq_zero h0⟩
    · obtain ⟨v, hv, h1⟩ := List.mem_flatMap.1 h
      exact enu_pth n _ u (hP.snoc hv) h1
theorem enu_has {l : List (Int × Bool)} (hg : ∀ i, i < l.length → l.getD i (0, false) ∈ nxR z ol be (l.take i) ol.length) (hend : nxR z ol be l ol.length = []) : ∀ (n i : Nat), i ≤ l.length → l.length - i < n → l ∈ enu z ol be n (l.take i)
  | 0, i, _, h => absurd h (Nat.not_lt_zero _)
  | n + 1, i, hi, h => by
    unfold enu
    by_cases h0 : i = l.length
    · subst h0
      rw [List.take_length, hend]
      exact (List.mem_singleton.2 rfl : l ∈ [l])
    · have hm := hg i (by omega)
      rw [if_neg (by have := List.length_pos_of_mem hm; omega)]
      refine List.mem_flatMap.2 ⟨_, hm, ?_⟩
      rw [← take_more (d := (0, false)) (by omega)]
      exact enu_has hg hend n (i + 1) (by omega) (by omega)

/-! ### they ascend -/
theorem enu_pre : ∀ (n : Nat) (L u : List (Int × Bool)), u ∈ enu z ol be n L → ∃ t, u = L ++ t
  | 0, _, _, h => by cases h
  | n + 1, L, u, h => by
    unfold enu at h
    split at h
    · rw [List.mem_singleton] at h
      exact ⟨[], by rw [h, List.append_nil]⟩
    · obtain ⟨v, -, h1⟩ := List.mem_flatMap.1 h
      obtain ⟨t, e⟩ := enu_pre n _ u h1
      exact ⟨v :: t, by rw [e, List.append_assoc]; rfl⟩
theorem cmpV_self (x : Int × Bool) : cmpV x x = 0 := cmpV_z.2 rfl
theorem cmpL_app : ∀ (L a b : List (Int × Bool)), cmpL (L ++ a) (L ++ b) = cmpL a b
  | [], _, _ => rfl
  | x :: L, a, b => by
    rw [List.cons_append, List.cons_append]
    show (if cmpV x x = 0 then cmpL (L ++ a) (L ++ b) else cmpV x x) = _
    rw [if_pos (cmpV_self x)]
    exact cmpL_app L a b
theorem less_first {L a b : List (Int × Bool)} {v u : Int × Bool} (h : v.1 < u.1) : lessL (L ++ v :: a) (L ++ u :: b) = true := by
  unfold lessL
  rw [cmpL_app]
  have : cmpV v u = -1 := by unfold cmpV; rw [if_pos h]
  refine decide_eq_true ?_
  show (if cmpV v u = 0 then cmpL a b else cmpV v u) < 0
  rw [this, if_neg (by decide)]
  decide
theorem nxR_up (ok : Okv ol) {L : List (Int × Bool)} : ∀ m, m ≤ ol.length → (nxR z ol be L m).Pairwise (fun v u => v.1 < u.1) ∧ ∀ v ∈ nxR z ol be L m, v.1 < (m : Int)
  | 0, _ => ⟨List.Pairwise.nil, fun v hv => by cases hv⟩
  | m + 1, h => by
    have ih := nxR_up ok (L := L) m (by omega)
    have hO : nxO z ol be L m = [] ∨ nxO z ol be L m = [nV ol L m] := by
      rw [nxO_is ok (by omega)]
      split
      · exact .inr rfl
      · exact .inl rfl
    rw [nxR_succ]
    rcases hO with e | e <;> rw [e]
    · rw [List.append_nil]
      exact ⟨ih.1, fun v hv => by have := ih.2 v hv; omega⟩
    · refine ⟨List.pairwise_append.2 ⟨ih.1, List.pairwise_singleton _ _, fun a ha b hb => ?_⟩, fun v hv => ?_⟩
      · rw [List.mem_singleton] at hb
        subst hb
        exact ih.2 a ha
      · rcases List.mem_append.1 hv with hv | hv
        · have := ih.2 v hv; omega
        · rw [List.mem_singleton] at hv
          subst hv
          show ((m : Nat) : Int) < _
          omega
theorem enu_up (ok : Okv ol) : ∀ (n : Nat) (L : List (Int × Bool)), (enu z ol be n L).Pairwise fun a b => lessL a b = true
  | 0, _ => List.Pairwise.nil
  | n + 1, L => by
    unfold enu
    split
    · exact List.pairwise_singleton _ _
    · have hup := (nxR_up (z := z) (be := be) ok (L := L) ol.length (Nat.le_refl _)).1
      have key : ∀ l : List (Int × Bool), l.Pairwise (fun v u => v.1 < u.1) → (l.flatMap fun v => enu z ol be n (L ++ [v])).Pairwise fun a b => lessL a b = true := by
        intro l
        induction l with
        | nil => intro _; exact List.Pairwise.nil
        | cons v l ih =>
          intro h
          rw [List.flatMap_cons]
          refine List.pairwise_append.2 ⟨enu_up ok n _, ih h.of_cons, fun a ha b hb => ?_⟩
          obtain ⟨u, hu, hb2⟩ := List.mem_flatMap.1 hb
          obtain ⟨t, rfl⟩ := enu_pre n _ a ha
          obtain ⟨t2, rfl⟩ := enu_pre n _ b hb2
          rw [List.append_assoc, List.append_assoc]
          exact less_first (List.rel_of_pairwise_cons h hu)
      exact key _ hup

/-! ### they are few -/
def tG (x y : Nat) : Nat := if x = 0 then 0 else y
def cG : Nat → Nat → Nat → Nat → Nat → Nat
  | 0, _, _, _, _ => 0
  | n + 1, a, b, c, d => max 1 (tG a (cG n (a - 1) b c d) + tG b (cG n a (b - 1) c d) + tG c (cG n a b (c - 1) d) + tG d (cG n a b c (d - 1)))
def remV (s : Nat) (ol : List OrT) (L : List (Int × Bool)) (k : Nat) : Nat := if S.has s k = true then ((visR ol k).filter fun v => !decide (v ∈ L)).length else 0
theorem rem_le (s : Nat) (ol : List OrT) (L : List (Int × Bool)) (k : Nat) : remV s ol L k ≤ 2 := by
  unfold remV
  split
  · exact Nat.le_trans (List.length_filter_le ..) (visR_len ol k)
  · omega
theorem rem_other (ok : Okv ol) {s k j : Nat} {L : List (Int × Bool)} {v : Int × Bool} (hv : v.1 = (k : Int)) (hj : j < ol.length ∨ S.has s j = false) (hne : j ≠ k) : remV s ol (L ++ [v]) j = remV s ol L j := by
  unfold remV
  rcases hj with hj | hj
  · have e : (visR ol j).filter (fun u => !decide (u ∈ L ++ [v])) = (visR ol j).filter (fun u => !decide (u ∈ L)) := List.filter_congr fun u hu => by
      have h1 := visR_num ok hj u hu
      have h2 : u ≠ v := fun e => by rw [e, hv] at h1; omega
      simp [h2]
    rw [e]
  · rw [if_neg (by rw [hj]; decide), if_neg (by rw [hj]; decide)]
theorem rem_self (ok : Okv ol) {s k : Nat} (hk : k < ol.length) {L : List (Int × Bool)} {v : Int × Bool} (hs : S.has s k = true) (hv : v ∈ visR ol k) (hn : v ∉ L) : remV s ol L k ≠ 0 ∧ remV s ol (L ++ [v]) k = remV s ol L k - 1 := by
  unfold remV
  rw [if_pos hs, if_pos hs]
  rcases visR_form ok hk with e | e | e <;> rw [e] at hv ⊢ <;> simp only [List.mem_cons, List.not_mem_nil, or_false] at hv
  · rcases hv with rfl | rfl
    · by_cases h2 : ((k : Int), true) ∈ L <;> simp [hn, h2]
    · by_cases h2 : ((k : Int), false) ∈ L <;> simp [hn, h2]
  · subst hv; simp [hn]
  · subst hv; simp [hn]
theorem enu_few (ok : Okv ol) (h4 : ol.length ≤ 4) {s : Nat} (hs : s < 2 ^ ol.length) : ∀ (n : Nat) (L : List (Int × Bool)), (enu (s : Int) ol be n L).length ≤ cG n (remV s ol L 0) (remV s ol L 1) (remV s ol L 2) (remV s ol L 3)
  | 0, _ => Nat.le_refl _
  | n + 1, L => by
    have h63 : s < 2 ^ 63 := Nat.lt_of_lt_of_le hs (Nat.le_trans (Nat.pow_le_pow_right (by omega) h4) (by decide))
    have hout : ∀ j, j < ol.length ∨ S.has s j = false := fun j => by
      by_cases h : j < ol.length
      · exact .inl h
      · refine .inr ?_
        cases e : S.has s j
        · rfl
        · exact absurd (U.lt_has hs e) h
    unfold enu cG
    split
    · exact Nat.le_max_left _ _
    · refine Nat.le_trans ?_ (Nat.le_max_right _ _)
      have one : ∀ k y, k < ol.length → (∀ v, v.1 = (k : Int) → remV s ol L k ≠ 0 → remV s ol (L ++ [v]) k = remV s ol L k - 1 → (enu (s : Int) ol be n (L ++ [v])).length ≤ y) → ((nxO (s : Int) ol be L k).flatMap fun v => enu (s : Int) ol be n (L ++ [v])).length ≤ tG (remV s ol L k) y := fun k y hk hy => by
        by_cases e : nxO (s : Int) ol be L k = []
        · rw [e]; exact Nat.zero_le _
        · obtain ⟨v, hv⟩ := List.exists_mem_of_ne_nil _ e
          have hN := new_of ok hk hv
          have hr := rem_self ok hk (s := s) (by rw [← hasRS_nat h63 (by omega)]; exact hN.has) hN.vis hN.new
          have e2 : nxO (s : Int) ol be L k = [v] := by
            have h9 := hv
            rw [nxO_is ok hk] at h9 ⊢
            split at h9
            · rename_i hc
              rw [List.mem_singleton] at h9
              rw [if_pos hc, h9]
            · cases h9
          rw [e2, List.flatMap_cons, List.flatMap_nil, List.append_nil]
          unfold tG
          rw [if_neg hr.1]
          exact hy v hN.num hr.1 hr.2
      have ih := enu_few ok h4 hs n
      have o0 : 0 < ol.length → _ := fun h => one 0 (cG n (remV s ol L 0 - 1) (remV s ol L 1) (remV s ol L 2) (remV s ol L 3)) h fun v hv _ e => by
        have := ih (L ++ [v])
        rwa [e, rem_other ok hv (hout 1) (by decide), rem_other ok hv (hout 2) (by decide), rem_other ok hv (hout 3) (by decide)] at this
      have o1 : 1 < ol.length → _ := fun h => one 1 (cG n (remV s ol L 0) (remV s ol L 1 - 1) (remV s ol L 2) (remV s ol L 3)) h fun v hv _ e => by
        have := ih (L ++ [v])
        rwa [e, rem_other ok hv (hout 0) (by decide), rem_other ok hv (hout 2) (by decide), rem_other ok hv (hout 3) (by decide)] at this
      have o2 : 2 < ol.length → _ := fun h => one 2 (cG n (remV s ol L 0) (remV s ol L 1) (remV s ol L 2 - 1) (remV s ol L 3)) h fun v hv _ e => by
        have := ih (L ++ [v])
        rwa [e, rem_other ok hv (hout 0) (by decide), rem_other ok hv (hout 1) (by decide), rem_other ok hv (hout 3) (by decide)] at this
      have o3 : 3 < ol.length → _ := fun h => one 3 (cG n (remV s ol L 0) (remV s ol L 1) (remV s ol L 2) (remV s ol L 3 - 1)) h fun v hv _ e => by
        have := ih (L ++ [v])
        rwa [e, rem_other ok hv (hout 0) (by decide), rem_other ok hv (hout 1) (by decide), rem_other ok hv (hout 2) (by decide)] at this
      have hsum : ∀ m, ((nxR (s : Int) ol be L (m + 1)).flatMap fun v => enu (s : Int) ol be n (L ++ [v])).length = ((nxR (s : Int) ol be L m).flatMap fun v => enu (s : Int) ol be n (L ++ [v])).length + ((nxO (s : Int) ol be L m).flatMap fun v => enu (s : Int) ol be n (L ++ [v])).length := fun m => by
        rw [nxR_succ, List.flatMap_append, List.length_append]
      have hz : ((nxR (s : Int) ol be L 0).flatMap fun v => enu (s : Int) ol be n (L ++ [v])).length = 0 := rfl
      have q0 := hsum 0
      have q1 := hsum 1
      have q2 := hsum 2
      have q3 := hsum 3
      simp only [Nat.zero_add, Nat.reduceAdd] at q0 q1 q2 q3
      rcases (show ol.length = 0 ∨ ol.length = 1 ∨ ol.length = 2 ∨ ol.length = 3 ∨ ol.length = 4 by omega) with e | e | e | e | e <;> rw [e]
      · omega
      · have := o0 (by omega); omega
      · have := o0 (by omega); have := o1 (by omega); omega
      · have := o0 (by omega); have := o1 (by omega); have := o2 (by omega); omega
      · have := o0 (by omega); have := o1 (by omega); have := o2 (by omega); have := o3 (by omega); omega
theorem cG_few : ∀ a, a < 3 → ∀ b, b < 3 → ∀ c, c < 3 → ∀ d, d < 3 → cG 127 a b c d ≤ 8192 := by decide +kernel

/-! ### a right route -/
theorem chk_apt {l : List (Int × Bool)} (h : chkR ol ap be l = 0) : aptB (ordN l) ap = true := by
  unfold chkR at h
  split at h
  · cases h
  split at h
  · cases h
  split at h
  · cases h
  split at h
  · cases h
  split at h
  · cases h
  split at h
  · cases h
  rename_i h7
  simpa using h7
theorem chk_okay (hn : ol.length ≤ 10) (hra : U.Rt ol.length ap) (hr : U.Rt ol.length be) {l : List (Int × Bool)} (h : chkR ol ap be l = 0) : ∃ s : Nat, ordN l = (s : Int) ∧ s ≠ 0 ∧ U.Okay ol.length (offF ol) ap be s := by
  have hapt := chk_apt h
  obtain ⟨hl0, hex, hoff, hO, -, hbf⟩ := chk_ok h
  have hoB := ordB_ex hn hex
  have hN : ordN l = (ordK l l.length : Int) := by unfold ordN; rw [hoB]; rfl
  rw [hN] at hapt hbf
  have hhas : ∀ k, S.has (ordK l l.length) k = true ↔ ∃ i, i < l.length ∧ (l.getD i (0, false)).1.toNat = k := fun k => has_ordK k l.length (Nat.le_refl _)
  have hlt : ordK l l.length < 2 ^ ol.length := U.has_lt fun k hk => by
    obtain ⟨i, hi, e⟩ := (hhas k).1 hk
    have := hex i hi
    omega
  have h63 : ordK l l.length < 2 ^ 63 := Nat.lt_of_lt_of_le hlt (Nat.le_trans (Nat.pow_le_pow_right (by omega) hn) (by decide))
  have hmem : ∀ k, S.has (ordK l l.length) k = true → ∃ d, ((k : Int), d) ∈ l := fun k hk => by
    obtain ⟨i, hi, e⟩ := (hhas k).1 hk
    have h2 := hex i hi
    refine ⟨(l.getD i (0, false)).2, ?_⟩
    have e : ((k : Int), (l.getD i (0, false)).2) = l.getD i (0, false) := Prod.ext (by simp only; omega) rfl
    rw [e]
    exact getD_mem hi
  have hbef : ∀ p ∈ be, S.has (ordK l l.length) (U.pb p) = true → S.has (ordK l l.length) (U.pa p) = true ∧ ∀ d e, ((U.pa p : Int), d) ∈ l → ((U.pb p : Int), e) ∈ l → idxV l ((U.pa p : Int), d) < idxV l ((U.pb p : Int), e) := fun p hp hb => by
    have hrt := hr.a hp
    unfold befL at hbf
    have h1 := List.all_eq_true.1 hbf p hp
    unfold befP at h1
    rw [hasRS_nat h63 (by omega), hasRS_nat h63 (by omega), hb, Bool.not_true, Bool.false_or, Bool.and_eq_true, decide_eq_true_iff, nob_iff hO] at h1
    refine ⟨h1.1, fun d e ha hbv => ?_⟩
    have h2 := h1.2 d e ha hbv
    have h3 : idxV l ((U.pa p : Int), d) ≠ idxV l ((U.pb p : Int), e) := fun e9 => by
      have := idxV_inj ha hbv e9
      simp only [Prod.mk.injEq] at this
      omega
    omega
  have hch : ∀ a b, U.Ch be a b → S.has (ordK l l.length) b = true → S.has (ordK l l.length) a = true ∧ ∀ d e, ((a : Int), d) ∈ l → ((b : Int), e) ∈ l → idxV l ((a : Int), d) < idxV l ((b : Int), e) := fun a b hc => by
    induction hc with
    | one hp e => subst e; exact hbef _ hp
    | more h1 hp ih =>
      intro hb
      obtain ⟨h3, h4⟩ := hbef _ hp hb
      obtain ⟨h5, h6⟩ := ih h3
      refine ⟨h5, fun d e ha hbv => ?_⟩
      obtain ⟨d2, hd2⟩ := hmem _ h3
      exact Int.lt_trans (h6 d d2 ha hd2) (h4 d2 e hd2 hbv)
  refine ⟨ordK l l.length, hN, fun e0 => ?_, hlt, fun i hi => ?_, fun p hp ha => ?_, fun p hp hb => (hbef p hp hb).1, fun i hi hc => ?_⟩
  · have h1 := (hhas (l.getD 0 (0, false)).1.toNat).2 ⟨0, by omega, rfl⟩
    rw [e0, U.has_zero] at h1
    cases h1
  · obtain ⟨j, hj, e⟩ := (hhas i).1 hi
    have h1 := hoff j hj
    unfold offV at h1
    rw [e] at h1
    rw [offF_is]
    exact h1
  · have hrt := hra.a hp
    unfold aptB at hapt
    have h1 := List.all_eq_true.1 hapt p hp
    unfold aptP at h1
    rw [hasRS_nat h63 (by omega), hasRS_nat h63 (by omega), ha, Bool.true_and, Bool.not_eq_true'] at h1
    exact h1
  · obtain ⟨d, hd⟩ := hmem i hi
    have := (hch i i hc hi).2 d d hd hd
    omega
/-- what the search finds for the orders of a right route -/
theorem find_ok (ok : Okv ol) (h4 : ol.length ≤ 4) (hra : U.Rt ol.length ap) (hr : U.Rt ol.length be) {l : List (Int × Bool)} (hl : l.length ≤ 12) (h : chkR ol ap be l = 0) :
    allE (ordN l) ol ap be = 0 ∧ (∀ u ∈ allS (ordN l) ol ap be, chkR ol ap be u = 0 ∧ ordN u = ordN l ∧ ordE u = 0) ∧ (allS (ordN l) ol ap be).Pairwise (fun a b => lessL a b = true) ∧ l ∈ allS (ordN l) ol ap be := by
  have hn : ol.length ≤ 10 := by omega
  obtain ⟨s, hs, hs0, hk⟩ := chk_okay hn hra hr h
  have hpos : posB s ol ap be = true := by
    unfold posB
    rw [decide_eq_true hs0, U.allowE_nat hk.lt, (U.allow_iff hr hk.lt).2 hk]
    rfl
  have hfew : (enu (s : Int) ol be 127 []).length ≤ 8192 := Nat.le_trans (enu_few ok h4 hk.lt 127 []) (cG_few _ (Nat.lt_succ_of_le (rem_le ..)) _ (Nat.lt_succ_of_le (rem_le ..)) _ (Nat.lt_succ_of_le (rem_le ..)) _ (Nat.lt_succ_of_le (rem_le ..)))
  have he : extR (s : Int) ol be 127 [] [] = enu (s : Int) ol be 127 [] := by
    rw [extR_enu 127 [] [] (by rw [List.nil_append]; exact hfew), List.nil_append]
  have h9 := (posB_all ok hn hr hpos).2 (by rw [he]; omega)
  rw [hs, h9.2, he]
  refine ⟨h9.1, fun u hu => ?_, enu_up ok 127 [], ?_⟩
  · obtain ⟨hP, h0⟩ := enu_pth 127 [] u .nil hu
    obtain ⟨c1, c2, c3⟩ := leaf_chk ok hn hra hr hk hs0 (Pin.of ok hP) h0
    exact ⟨c1, c2, c3⟩
  · have h1 := enu_has (z := (s : Int)) (ol := ol) (be := be) (l := l) (fun i hi => by rw [← hs]; exact grow_one ok hn hr h hi) (by rw [← hs]; exact grow_end ok hn h) 127 0 (Nat.zero_le _) (by omega)
    exact h1
end
end Go.Proofs.Ytoliacfpjhanlaa.T


