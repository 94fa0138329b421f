/-
  DERIVED. The walks of the landed rules' isRight, ascending, faults, Check.
-/
import Derived.Test.YtmoilpkgoabopaaDoorRuMap
import Derived.Test.YtmoilpkgoabopaaDoorRuLaw1
namespace Go.Proofs.YtmoilpkgoabopaaDoor.T
open Go.RowKit
set_option maxRecDepth 8000

theorem own_lt {B : Nat} {w : World} {v : Value} {l : List (Int × ByteArray)} (h : Gl B w v l) {b : Nat} (e : v.ownBlock = some b) : b < w.heap.size := (World.ownsRow.lt h.own b e).2
theorem ap_g1 {B : Nat} {w : World} {v : Value} {l : List (Int × ByteArray)} (ty : TypeId) (x : Int) (s : ByteArray) (hv : Gl B w v l) (hB : B ≤ w.heap.size) (hn : l.length ≤ 90000000) :
    ∃ v' w', (Builtin.append_ #[24, 24] ty #[v, .slice (some ⟨w.heap.size, 0, none⟩) 1 1]).run Tryd.prog (w.alloc (.cells #[.int .i64 x, .string s] 28)) = .ok v' w' ∧ (Gl B w' v' (l ++ [(x, s)]) ∧ Below B w w' ∧ (w.alloc (.cells #[.int .i64 x, .string s] 28)).grownBy w' v.ownBlock ∧ (v'.ownBlock = v.ownBlock ∨ v'.ownBlock = some (w.heap.size + 1))) := by
  obtain ⟨v', w', hr, h2, h3, h4, h5⟩ := ap_f (w := w.alloc (.cells #[.int .i64 x, .string s] 28)) (m := [(x, s)]) ty (hv.frame (below_alloc _ _)) (lf_one w x s) (by simp; omega) (by simp; omega)
  rw [World.size_alloc] at h5
  exact ⟨v', w', hr, h2, ((below_alloc w _).mono hB).trans h3, h4, h5⟩

theorem bad_mm {n : Int} {p : Int × Int} : badP n p = !((decide (0 ≤ min p.1 p.2) && decide (max p.1 p.2 < n)) && !(p.1 == p.2)) := by
  unfold badP
  rw [Bool.eq_iff_iff]
  simp only [Bool.or_eq_true, decide_eq_true_iff, Bool.not_eq_true', Bool.and_eq_false_iff, decide_eq_false_iff_not, Bool.not_eq_false', beq_iff_eq]
  omega
set_option maxHeartbeats 1600000 in
theorem isRight_n (n : Int) (p : Int × Int) (w : World) :
    Calls Tryd.prog 43 #[.int .i64 n, .agg #[.int .i64 p.1, .int .i64 p.2]] w fun e w' => e = .returned (.bool (!badP n p)) ∧ Below w.heap.size w w' := by
  have HB := Lib.hid (below_alloc w (.cells #[.int .i64 p.1, .int .i64 p.2] 45))
  have HR : Hid ((!badP n p) = ((decide (0 ≤ min p.1 p.2) && decide (max p.1 p.2 < n)) && !(p.1 == p.2))) := by show _ = _; rw [bad_mm, Bool.not_not]
  generalize (!badP n p) = r at *
  generalize p.1 = x at *
  generalize p.2 = y at *
  obtain ⟨mn, hmn⟩ : ∃ mn, min x y = mn := ⟨_, rfl⟩
  obtain ⟨mx, hmx⟩ : ∃ mx, max x y = mx := ⟨_, rfl⟩
  rw [hmn, hmx] at HR
  by_cases h1 : 0 ≤ mn
  · by_cases h2 : mx < n
    · by_cases h3 : x = y
      · have HX : Hid (r = false) := by show _ = _; rw [HR.out, h3]; simp
        have h3I : (x != y) = false := by rw [h3]; simp
        clear h3
        go_enter Tryd.func43, Tryd.ntmps43
        go_wp2_with fail
        go_ret
        exact ⟨ret_bool (by rw [HX.out]), HB.out⟩
      · have HX : Hid (r = true) := by show _ = _; rw [HR.out, decide_eq_true h1, decide_eq_true h2, ne_eqI h3]; rfl
        have h3I := ne_neI h3
        clear h3
        go_enter Tryd.func43, Tryd.ntmps43
        go_wp2_with fail
        go_ret
        exact ⟨ret_bool (by rw [HX.out]), HB.out⟩
    · have HX : Hid (r = false) := by show _ = _; rw [HR.out, decide_eq_false h2]; simp
      go_enter Tryd.func43, Tryd.ntmps43
      go_wp2_with fail
      go_ret
      exact ⟨ret_bool (by rw [HX.out]), HB.out⟩
  · have HX : Hid (r = false) := by show _ = _; rw [HR.out, decide_eq_false h1]; simp
    go_enter Tryd.func43, Tryd.ntmps43
    go_wp2_with fail
    go_ret
    exact ⟨ret_bool (by rw [HX.out]), HB.out⟩

/-! ### pairs with the lesser number first -/
def ascP (p : Int × Int) : Int × Int := (min p.1 p.2, max p.1 p.2)
theorem flat_set : ∀ (l : List (Int × Int)) (k : Nat) (x : Int × Int), ((flat pT pA l).set (k * 2) (pT x)).set (k * 2 + 1) (pA x) = flat pT pA (l.set k x)
  | [], k, x => by simp [flat]
  | y :: l, 0, x => by simp [flat]
  | y :: l, k + 1, x => by
    have := flat_set l k x
    rw [show (k + 1) * 2 = k * 2 + 2 by omega]
    unfold flat at this ⊢
    rw [List.set_cons_succ, List.flatMap_cons, List.flatMap_cons, ← this]
    rfl
theorem Gq.store {B : Nat} {w : World} {g cap : Nat} {l : List (Int × Int)} (h : Gq B w (.slice (some ⟨g, 0, none⟩) l.length cap) l) (k : Nat) (x y : Int) :
    Gq B ((w.setCell ⟨g, k * 2, none⟩ (.int .i64 x)).setCell ⟨g, k * 2 + 1, none⟩ (.int .i64 y)) (.slice (some ⟨g, 0, none⟩) (l.set k (x, y)).length cap) (l.set k (x, y)) ∧ w.grownBy ((w.setCell ⟨g, k * 2, none⟩ (.int .i64 x)).setCell ⟨g, k * 2 + 1, none⟩ (.int .i64 y)) (some g) := by
  obtain ⟨h1, g1⟩ := World.ownsRow.stored h.own (k * 2) (.int .i64 x)
  obtain ⟨h2, g2⟩ := World.ownsRow.stored h1 (k * 2 + 1) (.int .i64 y)
  refine ⟨?_, g1.trans g2⟩
  unfold Gq Gr Gn
  rw [List.length_set]
  have e := flat_set l k (x, y)
  rw [← e]
  exact h2

def ascL (l : List (Int × Int)) : List (Int × Int) := l.map ascP
theorem ascL_len (l : List (Int × Int)) : (ascL l).length = l.length := List.length_map ..
theorem ascL_get {l : List (Int × Int)} {k : Nat} (h : k < l.length) : (ascL l).getD k (0, 0) = ascP (l.getD k (0, 0)) := by
  unfold ascL
  rw [List.getD_eq_getElem?_getD, List.getD_eq_getElem?_getD, List.getElem?_map, List.getElem?_eq_getElem h]; rfl
theorem get_set {l : List (Int × Int)} {k j : Nat} {x : Int × Int} (hk : k < l.length) : (l.set k x).getD j (0, 0) = if k = j then x else l.getD j (0, 0) := by
  rw [List.getD_eq_getElem?_getD, List.getD_eq_getElem?_getD, List.getElem?_set]
  by_cases e : k = j
  · subst e; rw [if_pos rfl, if_pos rfl, if_pos hk]; rfl
  · rw [if_neg e, if_neg e]
theorem asc_ext {l m : List (Int × Int)} (hl : m.length = l.length) (h : ∀ j, j < l.length → m.getD j (0, 0) = ascP (l.getD j (0, 0))) : m = ascL l := by
  apply List.ext_getElem?
  intro j
  by_cases hj : j < l.length
  · have h1 := h j hj
    rw [← ascL_get hj, List.getD_eq_getElem?_getD, List.getD_eq_getElem?_getD, List.getElem?_eq_getElem (by omega), List.getElem?_eq_getElem (by rw [ascL_len]; exact hj)] at h1
    rw [List.getElem?_eq_getElem (by omega), List.getElem?_eq_getElem (by rw [ascL_len]; exact hj)]
    exact congrArg some h1
  · rw [List.getElem?_eq_none (by omega), List.getElem?_eq_none (by rw [ascL_len]; omega)]
theorem zeros_flat : ∀ n, (madeCells #[Value.int .i64 0, Value.int .i64 0] (n * 2)).toList = flat pT pA (List.replicate n ((0 : Int), (0 : Int))) := by
  intro n
  apply List.ext_getElem?
  intro j
  by_cases hj : j < n * 2
  · have hf := flat_at (E0 := pT) (E1 := pA) (d := ((0 : Int), (0 : Int))) (List.replicate n ((0 : Int), (0 : Int))) (j / 2) (by rw [List.length_replicate]; omega)
    have hg : (List.replicate n ((0 : Int), (0 : Int))).getD (j / 2) (0, 0) = (0, 0) := by
      rw [List.getD_eq_getElem?_getD, List.getElem?_replicate]; split <;> rfl
    rw [hg] at hf
    have e : (flat pT pA (List.replicate n ((0 : Int), (0 : Int))))[j]? = some (.int .i64 0) := by
      rcases Nat.mod_two_eq_zero_or_one j with e | e
      · rw [show j = j / 2 * 2 by omega]; exact hf.1
      · rw [show j = j / 2 * 2 + 1 by omega]; exact hf.2
    rw [e]
    simp only [madeCells, Array.toList_map, Array.toList_range, List.getElem?_map, List.getElem?_range hj, Option.map_some]
    have h2 : j % 2 = 0 ∨ j % 2 = 1 := Nat.mod_two_eq_zero_or_one j
    rcases h2 with e2 | e2 <;> simp [e2]
  · rw [List.getElem?_eq_none (by simp [madeCells]; omega), List.getElem?_eq_none (by rw [flat_len, List.length_replicate]; omega)]
theorem Gq.at {B : Nat} {w : World} {g cap : Nat} {l : List (Int × Int)} (h : Gq B w (.slice (some ⟨g, 0, none⟩) l.length cap) l) {k : Nat} (hk : k < l.length) :
    (∃ x y, w.cell? ⟨g, k * 2, none⟩ = some (.int .i64 x) ∧ w.cell? ⟨g, k * 2 + 1, none⟩ = some (.int .i64 y)) ∧ w.frozen? ⟨g, k * 2, none⟩ = false ∧ w.frozen? ⟨g, k * 2 + 1, none⟩ = false ∧ g < w.heap.size := by
  have hs : Ps w (.slice (some ⟨g, 0, none⟩) l.length cap) l := Gn.sl h
  obtain ⟨b, o, hbo, hl, x0, x1⟩ := ps_at hs hk
  simp only [Option.some.injEq, Addr.mk.injEq, and_true] at hbo
  obtain ⟨rfl, rfl⟩ := hbo
  rw [Nat.zero_add] at x0 x1
  exact ⟨⟨_, _, x0, x1⟩, World.ownsRow.frozenAt h.own _, World.ownsRow.frozenAt h.own _, hl⟩

set_option maxHeartbeats 3200000 in
theorem ascending_n (v : Value) (l : List (Int × Int)) (hl : l.length ≤ 1000) (w : World) (hv : Ps w v l) :
    Calls Tryd.prog 26 #[v] w (PrsP (ascL l) w) := by
  have HV := Lib.hid hv
  obtain ⟨oa, c, rfl, -⟩ := hv
  obtain ⟨i0, hi, hz0, hz1, hz2⟩ := infoQ
  have HF := Lib.hid (fun (m : List (Int × Int)) (h1 : m.length = l.length) h2 => asc_ext (l := l) h1 h2)
  have HP : Hid (∀ k, ascP (l.getD k (0, 0)) = (min (l.getD k (0, 0)).1 (l.getD k (0, 0)).2, max (l.getD k (0, 0)).1 (l.getD k (0, 0)).2)) := fun _ => rfl
  generalize ascL l = r at *
  generalize hn : l.length = n at *
  have HN := Lib.hid hn
  clear hn
  go_enter Tryd.func26, Tryd.ntmps26
  go_wp2_with (at_make; refine wpList_make_full _ rfl _ _ 22 rfl w.heap.size 45 i0 _ 2 Tryd.underlying22 hi hz0 hz1 _ _ _ _ n rfl rfl ?e0 ?e1 ?e3 ?e4 (Nat.le_refl _) ?_)
  case e0 => rfl
  case e1 => rfl
  case e3 => rw [hz2]; omega
  case e4 => unfold maxLen; omega
  intro w1 hown hgrow
  have HB1 : Hid (Below w.heap.size w w1) := (Below.refl _ w).grown hgrow (Nat.le_refl _) (fun k h => by cases h)
  have HG1 : Hid (Gq w.heap.size w1 (.slice (some ⟨w.heap.size, 0, none⟩) n n) (List.replicate n (0, 0))) := by
    show Gn _ _ _ _ _ _ _ _
    unfold Gn
    rw [List.length_replicate, ← zeros_flat]; exact hown
  clear hown hgrow
  go_wp2
  go_loopg [11] n (fun g j wr => ∃ (k : Nat) (m : List (Int × Int)), k ≤ n ∧ j = .int .i64 k ∧ n - k ≤ g ∧ Hid (m.length = n) ∧ Hid (Gq w.heap.size wr (.slice (some ⟨w.heap.size, 0, none⟩) n n) m) ∧ Hid (∀ i, i < k → m.getD i (0, 0) = ascP (l.getD i (0, 0))) ∧ Hid (Below w.heap.size w wr))
  case atStart => exact ⟨0, List.replicate n (0, 0), Nat.zero_le _, rfl, Nat.le_refl _, List.length_replicate, HG1, fun i hi => absurd hi (Nat.not_lt_zero _), HB1⟩
  case round =>
    clear HG1 HB1
    obtain ⟨k, m, hk, rfl, hg, HL, HG, HK, HB⟩ := hrel
    by_cases hlt : k < n
    · have hkI : (k : Int) < (n : Int) := by omega
      have hka : k < l.length := by rw [HN.out]; exact hlt
      obtain ⟨b, o, rfl, hab, x0, x1⟩ := ps_at (by have := HV.out; rw [← HN.out] at this; exact this) hka
      have x0 := (HB.out.cell (p := ⟨b, _, none⟩) hab).trans x0
      have x1 := (HB.out.cell (p := ⟨b, _, none⟩) hab).trans x1
      have HGm : Gq w.heap.size wr (.slice (some ⟨w.heap.size, 0, none⟩) m.length n) m := by rw [HL.out]; exact HG.out
      obtain ⟨⟨z0, z1, y0, y1⟩, f0, f1, hgl⟩ := HGm.at (k := k) (by rw [HL.out]; exact hlt)
      have HPk := Lib.hid (HP.out k)
      generalize hp : l.getD k (0, 0) = p at *
      have HPp := Lib.hid hp
      clear hp
      generalize p.1 = x at *
      generalize p.2 = y at *
      obtain ⟨mn, hmn⟩ : ∃ mn, min x y = mn := ⟨_, rfl⟩
      obtain ⟨mx, hmx⟩ : ∃ mx, max x y = mx := ⟨_, rfl⟩
      rw [hmn, hmx] at HPk
      obtain ⟨s1, s2⟩ := HGm.store k mn mx
      have HS1 := Lib.hid s1
      have HB2 := Lib.hid (over (HB.out.grown s2 HB.out.size (fun x e => by simp only [Option.some.injEq] at e; omega)) (below_alloc ((wr.setCell ⟨w.heap.size, k * 2, none⟩ (.int .i64 mn)).setCell ⟨w.heap.size, k * 2 + 1, none⟩ (.int .i64 mx)) (.cells #[.int .i64 x, .int .i64 y] 45)))
      have HS2 : Hid (Gq w.heap.size (((wr.setCell ⟨w.heap.size, k * 2, none⟩ (.int .i64 mn)).setCell ⟨w.heap.size, k * 2 + 1, none⟩ (.int .i64 mx)).alloc (.cells #[.int .i64 x, .int .i64 y] 45)) (.slice (some ⟨w.heap.size, 0, none⟩) n n) (m.set k (mn, mx))) := by
        have := HS1.out.frame (below_alloc _ (.cells #[.int .i64 x, .int .i64 y] 45))
        rw [List.length_set, HL.out] at this
        exact this
      have HK2 : Hid (∀ i, i < k + 1 → (m.set k (mn, mx)).getD i (0, 0) = ascP (l.getD i (0, 0))) := fun i hi => by
        rw [get_set (by rw [HL.out]; exact hlt)]
        by_cases e : k = i
        · subst e; rw [if_pos rfl, HPp.out, HPk.out]
        · rw [if_neg e]; exact HK.out i (by omega)
      have HL2 : Hid ((m.set k (mn, mx)).length = n) := by show _ = _; rw [List.length_set]; exact HL.out
      clear s1 s2 HGm HS1 HG HB
      go_wp2_with fail
      go_roundg (n - (k + 1))
      case measure => omega
      case rel => exact ⟨k + 1, m.set k (mn, mx), by omega, by go_num, by omega, HL2, HS2, HK2, HB2⟩
    · have hkk : k = n := by omega
      have hkI : ¬ (k : Int) < (n : Int) := by omega
      have HR : Hid (m = r) := HF.out m HL.out (by rw [← hkk]; exact HK.out)
      go_wp2_with fail
      go_ret
      refine prsP (B := w.heap.size) (l := r) ?_ HB.out (Nat.le_refl _)
      rw [← HR.out]; exact HG.out

/-! ### the faults of pairs -/
theorem asc_pair (n : Int) (l : List (Int × Int)) (i : Nat) (hi : i < l.length) : pairE n false (ascL l) i = pairE n true l i := by
  have hb : badP n (ascP (l.getD i (0, 0))) = badP n (l.getD i (0, 0)) := by
    generalize l.getD i (0, 0) = p
    unfold badP ascP
    rw [Bool.eq_iff_iff]
    simp only [Bool.or_eq_true, decide_eq_true_iff, beq_iff_eq]
    omega
  have he : ∀ q p : Int × Int, eqP false (ascP q) (ascP p) = eqP true q p := fun q p => by
    unfold eqP ascP
    rw [Bool.eq_iff_iff]
    simp only [Bool.or_eq_true, Bool.and_eq_true, beq_iff_eq, Bool.false_and, Bool.true_and, Bool.false_eq_true, or_false]
    omega
  have ht : twiceP false (ascL l) i i = twiceP true l i i := by
    unfold twiceP
    rw [ascL_get hi]
    unfold ascL
    rw [← List.map_take, List.any_map]
    congr 1
    funext q
    exact he q _
  unfold pairE
  rw [ascL_get hi, hb, ht]
theorem asc_faults (n : Int) (l : List (Int × Int)) (word : ByteArray) : pairF n (ascL l) word false = pairF n l word true := by
  have h : ∀ k, k ≤ l.length → pfF n (ascL l) word false k = pfF n l word true k := by
    intro k
    induction k with
    | zero => intro _; unfold pfF; rw [ascL_len]
    | succ k ih => intro hk; unfold pfF; rw [ih (by omega), asc_pair n l k (by omega)]
  unfold pairF
  rw [ascL_len, h _ (Nat.le_refl _)]
/-- what has been seen -/
def seenP (l : List (Int × Int)) (k : Nat) (p : Int × Int) : Bool := (l.take k).any fun q => eqP false q p
theorem seen_step {l : List (Int × Int)} {k : Nat} (h : k < l.length) (p : Int × Int) : seenP l (k + 1) p = (seenP l k p || (p == l.getD k (0, 0))) := by
  unfold seenP
  rw [take_more (d := (0, 0)) h, List.any_append]
  congr 1
  unfold eqP
  simp only [List.any_cons, List.any_nil, Bool.or_false, Bool.false_and]
  rw [Bool.eq_iff_iff, Bool.and_eq_true, beq_iff_eq, beq_iff_eq, beq_iff_eq]
  constructor
  · rintro ⟨h1, h2⟩; exact (Prod.ext h1 h2).symm
  · rintro rfl; exact ⟨rfl, rfl⟩

end Go.Proofs.YtmoilpkgoabopaaDoor.T

