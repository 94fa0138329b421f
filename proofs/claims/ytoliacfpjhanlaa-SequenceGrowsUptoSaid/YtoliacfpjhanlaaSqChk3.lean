/-
  DERIVED. The program's check of a route's visits is the specification's.
-/
import Derived.Test.YtoliacfpjhanlaaSqChk2
namespace Go.Proofs.Ytoliacfpjhanlaa.T
open Go.RowKit
set_option maxRecDepth 8000

theorem turn_app (T : List Nat) : ∀ (a b : List (Int × Bool)) (m : Nat), inTurnB T (a ++ b) m = (inTurnB T a m && inTurnB T b (a.foldl (fun _ v => posT T v) m))
  | [], b, m => by show _ = (true && _); rw [Bool.true_and]; rfl
  | v :: a, b, m => by
    show (decide _ && inTurnB T (a ++ b) _) = ((decide _ && inTurnB T a _) && _)
    rw [turn_app T a b, Bool.and_assoc]
    rfl
section
variable {ol : List OrT} {l : List (Int × Bool)} {T : List Nat}
theorem nob_iff (h : ∀ i, i < l.length → idxV l (l.getD i (0, false)) = (i : Int)) (a b : Int) : NoB l a b ↔ ∀ d e : Bool, (a, d) ∈ l → (b, e) ∈ l → ¬ idxV l (b, e) < idxV l (a, d) := by
  constructor
  · intro hN d e ha hb hlt
    obtain ⟨i, hi, e1, e2⟩ := idxV_get ha
    obtain ⟨j, hj, e3, e4⟩ := idxV_get hb
    exact hN i hi j (by omega) ⟨by rw [e2], by rw [e4]⟩
  · intro hA j hj k hk ⟨h1, h2⟩
    have e1 : (a, (l.getD j (0, false)).2) = l.getD j (0, false) := Prod.ext h1.symm rfl
    have e2 : (b, (l.getD k (0, false)).2) = l.getD k (0, false) := Prod.ext h2.symm rfl
    have h3 := hA (l.getD j (0, false)).2 (l.getD k (0, false)).2 (by rw [e1]; exact getD_mem hj) (by rw [e2]; exact getD_mem (by omega))
    rw [e1, e2, h j hj, h k (by omega)] at h3
    omega
/-- what the visits of an order that is there look like -/
structure Lay (l : List (Int × Bool)) (T : List Nat) (k : Int) (V : List (Int × Bool)) : Prop where
  c : (V = [(k, false), (k, true)] ∧ 0 ≤ idxV l (k, false) ∧ idxV l (k, false) < idxV l (k, true)) ∨ (V = [(k, false)] ∧ 0 ≤ idxV l (k, false) ∧ idxV l (k, true) < 0) ∨ (V = [(k, true)] ∧ 0 ≤ idxV l (k, true) ∧ idxV l (k, false) < 0)
theorem lay_of (hT : ∀ v : Int × Bool, 0 ≤ v.1 ∧ v.1 < ol.length → ((posT T v : Nat) : Int) = idxV l v + 1) (ok : Okv ol) (hp : prdB ol l = true) {k : Nat} (hk : k < ol.length) (hm : ∃ d, ((k : Int), d) ∈ l) : Lay l T (k : Int) (visR ol k) := by
  have ha := hT ((k : Int), false) ⟨by simp, by simpa using hk⟩
  have hb := hT ((k : Int), true) ⟨by simp, by simpa using hk⟩
  unfold prdB at hp
  rw [List.all_eq_true] at hp
  -- each visit of the order that is there is one of its visits
  have hin : ∀ d, ((k : Int), d) ∈ l → ((k : Int), d) ∈ visR ol k := fun d hd => by
    have h := hp _ hd
    unfold prdP at h
    rw [Int.toNat_natCast] at h
    simp only [Bool.and_eq_true, Bool.not_eq_true', decide_eq_false_iff_not] at h
    exact idxV_mem.2 (by omega)
  obtain ⟨d, hd⟩ := hm
  have ht : inTurnB T (visR ol k) 0 = true := by
    rw [turn_con hT ok hk]
    have h := hp _ hd
    unfold prdP at h
    rw [Int.toNat_natCast, Bool.and_assoc, Bool.and_eq_true] at h
    exact h.2
  have m0 := idxV_mem (l := l) (x := ((k : Int), false))
  have m1 := idxV_mem (l := l) (x := ((k : Int), true))
  rcases visR_form ok hk with e | e | e
  · rw [e, turn_two, Bool.and_eq_true, decide_eq_true_iff, decide_eq_true_iff] at ht
    exact ⟨.inl ⟨e, by omega, by omega⟩⟩
  · rw [e, turn_one, decide_eq_true_iff] at ht
    refine ⟨.inr (.inl ⟨e, by omega, ?_⟩)⟩
    refine Int.not_le.1 fun h9 => ?_
    have h8 := hin true (m1.2 h9)
    rw [e] at h8
    simp at h8
  · rw [e, turn_one, decide_eq_true_iff] at ht
    refine ⟨.inr (.inr ⟨e, by omega, ?_⟩)⟩
    refine Int.not_le.1 fun h9 => ?_
    have h8 := hin false (m0.2 h9)
    rw [e] at h8
    simp at h8
theorem fol_one (hT : ∀ v : Int × Bool, 0 ≤ v.1 ∧ v.1 < ol.length → ((posT T v : Nat) : Int) = idxV l v + 1) (ok : Okv ol) (hn : ol.length ≤ 10) (hex : Ex ol.length l) (hO : ∀ i, i < l.length → idxV l (l.getD i (0, false)) = (i : Int)) (hp : prdB ol l = true) {p : Int × Int} (ha : U.pa p < ol.length) (hb : U.pb p < ol.length) (hab : U.pa p ≠ U.pb p) :
    (!hasT T (U.pb p) || inTurnB T (visL ol (U.pa p : Int) ++ visL ol (U.pb p : Int)) 0) = befP (ordN l) l p := by
  unfold befP
  rw [visL_is ok ha, visL_is ok hb, hasT_hasR hT hn hex hb]
  by_cases h1 : hasR (ordN l) ((U.pb p : Nat) : Int) = true
  · have lb := (lay_of hT ok hp hb ((hasR_ord hn hex hb).1 h1)).c
    rw [h1]
    simp only [Bool.not_true, Bool.false_or]
    have a0 := hT ((U.pa p : Int), false) ⟨by simp, by simpa using ha⟩
    have a1 := hT ((U.pa p : Int), true) ⟨by simp, by simpa using ha⟩
    have b0 := hT ((U.pb p : Int), false) ⟨by simp, by simpa using hb⟩
    have b1 := hT ((U.pb p : Int), true) ⟨by simp, by simpa using hb⟩
    have hne : ∀ d e : Bool, 0 ≤ idxV l ((U.pa p : Int), d) → 0 ≤ idxV l ((U.pb p : Int), e) → idxV l ((U.pa p : Int), d) ≠ idxV l ((U.pb p : Int), e) := fun d e h1 h2 h3 => by
      have h4 := idxV_inj (idxV_mem.2 h1) (idxV_mem.2 h2) h3
      simp only [Prod.mk.injEq] at h4
      omega
    have e00 := hne false false
    have e01 := hne false true
    have e10 := hne true false
    have e11 := hne true true
    clear hne
    have ga0 := idxV_ge l ((U.pa p : Int), false)
    have ga1 := idxV_ge l ((U.pa p : Int), true)
    by_cases h2 : hasR (ordN l) ((U.pa p : Nat) : Int) = true
    · have la := (lay_of hT ok hp ha ((hasR_ord hn hex ha).1 h2)).c
      rw [h2, Bool.true_and, turn_app, Bool.eq_iff_iff, Bool.and_eq_true, decide_eq_true_iff, nob_iff hO]
      simp only [Bool.forall_bool, idxV_mem]
      rcases la with ⟨e1, la⟩ | ⟨e1, la⟩ | ⟨e1, la⟩ <;> rcases lb with ⟨e2, lb⟩ | ⟨e2, lb⟩ | ⟨e2, lb⟩ <;> rw [e1, e2] <;> simp only [turn_two, turn_one, List.foldl_cons, List.foldl_nil, Bool.and_eq_true, decide_eq_true_iff] <;> omega
    · have h3 : hasR (ordN l) ((U.pa p : Nat) : Int) = false := by simpa using h2
      rw [h3, Bool.false_and, turn_app]
      have n0 : ∀ d, ¬ 0 ≤ idxV l ((U.pa p : Int), d) := fun d h9 => h2 ((hasR_ord hn hex ha).2 ⟨d, idxV_mem.2 h9⟩)
      have n1 := n0 false
      have n2 := n0 true
      have : inTurnB T (visR ol (U.pa p)) 0 = false := by
        rcases visR_form ok ha with e | e | e
        · rw [e, turn_two, decide_eq_false (by omega), Bool.false_and]
        · rw [e, turn_one, decide_eq_false (by omega)]
        · rw [e, turn_one, decide_eq_false (by omega)]
      rw [this, Bool.false_and]
  · have h3 : hasR (ordN l) ((U.pb p : Nat) : Int) = false := by simpa using h1
    rw [h3]
    rfl
theorem folB_is (hT : ∀ v : Int × Bool, 0 ≤ v.1 ∧ v.1 < ol.length → ((posT T v : Nat) : Int) = idxV l v + 1) (ok : Okv ol) (hn : ol.length ≤ 10) (hex : Ex ol.length l) (hO : ∀ i, i < l.length → idxV l (l.getD i (0, false)) = (i : Int)) (hp : prdB ol l = true) {be : List (Int × Int)} (hr : U.Rt ol.length be) : folB ol T be = befL (ordN l) be l := by
  unfold folB befL
  rw [Bool.eq_iff_iff, List.all_eq_true, List.all_eq_true]
  constructor
  · intro h p hpm
    have h1 := hr.a hpm
    rw [← fol_one hT ok hn hex hO hp h1.1 h1.2.1 h1.2.2.1]
    exact h p hpm
  · intro h p hpm
    have h1 := hr.a hpm
    rw [fol_one hT ok hn hex hO hp h1.1 h1.2.1 h1.2.2.1]
    exact h p hpm
end
/-- the program's error is the specification's -/
theorem chk_is {ol : List OrT} (ok : Okv ol) (hn : ol.length ≤ 10) {ap be : List (Int × Int)} (hra : U.Rt ol.length ap) (hr : U.Rt ol.length be) (l : List (Int × Bool)) : chkS ol ap be l = chkR ol ap be l := by
  unfold chkS chkR
  by_cases h1 : l.any (goneV ol.length) = true
  · rw [if_pos (.inr h1), if_pos h1]
  · rw [if_neg h1]
    have hex := gone_ex h1
    have hE : ordE l = 0 := by unfold ordE; rw [ordB_ex hn hex]; rfl
    by_cases h0 : l.length = 0
    · rw [if_pos (.inl h0), if_pos (.inr h0)]
    · rw [if_neg (show ¬ (l.length = 0 ∨ l.any (goneV ol.length) = true) from fun h => h.elim h0 h1), if_neg (show ¬ (ordE l ≠ 0 ∨ l.length = 0) from fun h => h.elim (fun h => h hE) h0)]
      by_cases h2 : l.any (offV ol) = true
      · rw [if_pos h2, if_pos h2]
      · rw [if_neg h2, if_neg h2]
        by_cases h3 : Once ol.length l l.length
        · have hO := (once_iff hex).1 h3
          have hT : ∀ v : Int × Bool, 0 ≤ v.1 ∧ v.1 < ol.length → ((posT (trK ol.length l l.length) v : Nat) : Int) = idxV l v + 1 := fun v hv => posT_all hex h3 hv
          rw [if_neg (show ¬ ¬ Once ol.length l l.length from fun h => h h3), if_neg (show ¬ ¬ (∀ i, i < l.length → idxV l (l.getD i (0, false)) = (i : Int)) from fun h => h hO), pairdB_is hT ok hex]
          by_cases h4 : prdB ol l = false
          · rw [if_pos h4, if_pos h4]
          · have h5 : prdB ol l = true := by simpa using h4
            rw [if_neg h4, if_neg h4, pairB_is hT hn hex hra, folB_is hT ok hn hex hO h5 hr]
            cases aptB (ordN l) ap
            · rfl
            · rfl
        · rw [if_pos h3, if_pos (fun h => h3 ((once_iff hex).2 h))]
end Go.Proofs.Ytoliacfpjhanlaa.T

