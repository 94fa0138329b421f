/-
  DERIVED. The walk of the specification's delayed.
-/
import Derived.Test.YtegpebnkogjadaaDoorRefNet7
import Derived.Laws.OwnMore
namespace Go.Proofs.YtegpebnkogjadaaDoor.T
open Go.RowKit
set_option maxRecDepth 8000

/-- the call's own slice of points -/
def Gq (B : Nat) (w : World) (v : Value) (l : List (Int × Int)) : Prop := Gp B w v l.length l
theorem Gq.nil (B : Nat) (w : World) : Gq B w (.slice none 0 0) [] := Gn.nil _ _ _ _ _
theorem Gq.frame {B : Nat} {w w' : World} {v : Value} {l : List (Int × Int)} (h : Gq B w v l) (hb : Below w.heap.size w w') : Gq B w' v l := Gn.frame h hb
theorem Gq.own {B : Nat} {w : World} {v : Value} {l : List (Int × Int)} (h : Gq B w v l) : w.ownsRow B 75 2 v l.length (flat pT pA l) := h
theorem Gq.ps {B : Nat} {w : World} {v : Value} {l : List (Int × Int)} (h : Gq B w v l) : Ps w v l := Gn.sl h
theorem Gq.ext {B : Nat} {w : World} {v : Value} {l m : List (Int × Int)} (h : Gq B w v l) (e : l = m) : Gq B w v m := e ▸ h
theorem Gq.more {B : Nat} {w : World} {v : Value} {l : List (Int × Int)} {x y : Int} (h : w.ownsRow B 75 2 v (l.length + 1) (flat pT pA l ++ [.int .i64 x, .int .i64 y])) : Gq B w v (l ++ [(x, y)]) := by
  unfold Gq
  rw [List.length_append]
  exact Gn.more (E0 := pT) (E1 := pA) (x, y) h
theorem Gq.onto {B : Nat} {w : World} {v : Value} {l : List (Int × Int)} (h : w.ownsRow B 75 2 v (0 + l.length) ([] ++ flat pT pA l)) : Gq B w v l := by
  unfold Gq Gp Gn
  simpa using h
theorem flat_set (l : List (Int × Int)) (m : Nat) (x y : Int) (h : m < l.length) (hx : (l.getD m (0, 0)).1 = x) : (flat pT pA l).set (m * 2 + 1) (.int .i64 y) = flat pT pA (l.set m (x, y)) := by
  induction l generalizing m with
  | nil => cases h
  | cons p l ih =>
    cases m with
    | zero =>
      obtain ⟨a, b⟩ := p
      simp only [List.getD_cons_zero] at hx
      subst hx
      simp [flat, pT, pA]
    | succ m =>
      have := ih m (by simpa using h) (by simpa using hx)
      unfold flat at this ⊢
      rw [List.flatMap_cons, List.set_cons_succ, List.flatMap_cons, show (m + 1) * 2 + 1 = m * 2 + 1 + 2 by omega]
      simp only [List.cons_append, List.nil_append, List.set_cons_succ]
      rw [this]
theorem ps_news {w : World} {ad : Addr} {c : Nat} {l : List (Int × Int)} (h : Ps w (.slice (some ad) l.length c) l) : ∀ j u, (flat pT pA l)[j]? = some u → w.cell? (ad.add j) = some u := fun j u hj => by
  obtain ⟨oa, c', hv, h⟩ := h
  simp only [Value.slice.injEq] at hv
  obtain ⟨rfl, -, rfl⟩ := hv
  have hjl : j < (flat pT pA l).length := (List.getElem?_eq_some_iff.1 hj).1
  rw [flat_len] at hjl
  obtain ⟨b, o, ha, -, h0, h1⟩ := h (j / 2) (by omega)
  simp only [Option.some.injEq] at ha
  subst ha
  obtain ⟨f0, f1⟩ := flat_at (E0 := pT) (E1 := pA) (d := (0, 0)) l (j / 2) (by omega)
  have had : (⟨b, o, none⟩ : Addr).add j = ⟨b, o + j, none⟩ := by
    unfold Addr.add; split
    · rename_i hz; rw [hz]; rfl
    · rfl
  rw [had]
  rcases Nat.mod_two_eq_zero_or_one j with e | e
  · rw [show j / 2 * 2 = j by omega] at h0 f0
    rw [f0] at hj
    rw [h0]; exact hj
  · rw [show j / 2 * 2 + 1 = j by omega] at f1
    rw [show o + j / 2 * 2 + 1 = o + j by omega] at h1
    rw [f1] at hj
    rw [h1]; exact hj
theorem ps_cells (l : List (Int × Int)) : ∀ v ∈ flat pT pA l, v.oneCell' = true := by
  intro v hv
  unfold flat at hv
  rw [List.mem_flatMap] at hv
  obtain ⟨x, -, hx⟩ := hv
  simp only [List.mem_cons, List.not_mem_nil, or_false] at hx
  rcases hx with rfl | rfl <;> rfl
theorem ps_nil {w : World} {n c : Nat} {l : List (Int × Int)} (h : Ps w (.slice none n c) l) : l = [] ∧ n = 0 := by
  obtain ⟨oa, c', hv, h⟩ := h
  simp only [Value.slice.injEq] at hv
  obtain ⟨rfl, rfl, rfl⟩ := hv
  cases l with
  | nil => exact ⟨rfl, rfl⟩
  | cons x l =>
    obtain ⟨b, o, ha, -⟩ := h 0 (by simp)
    cases ha

/-- a later point of Slow -/
def dlE (l : List (Int × Int)) (t n : Int) : List (Int × Int) × Int :=
  if 0 < l.length ∧ t < (l.getD (l.length - 1) (0, 0)).1 then ([], 2)
  else if 0 < l.length ∧ t = (l.getD (l.length - 1) (0, 0)).1 then
    (if 4096 < (l.getD (l.length - 1) (0, 0)).2 + n then ([], 2) else (l.set (l.length - 1) ((l.getD (l.length - 1) (0, 0)).1, (l.getD (l.length - 1) (0, 0)).2 + n), 0))
  else if 16 ≤ l.length then ([], 4) else (l ++ [(t, n)], 0)
def DlP (x : List (Int × Int) × Int) (w : World) (e : Ending) (w' : World) : Prop :=
  ∃ v, e = .returned (.tuple #[v, .int .i64 x.2]) ∧ Gq w.heap.size w' v x.1 ∧ Below w.heap.size w w'
theorem dlP {x r : List (Int × Int) × Int} (hx : x = r) {w w' : World} {v : Value} (h : Gq w.heap.size w' v x.1) (hb : Below w.heap.size w w') : DlP r w (.returned (.tuple #[v, .int .i64 x.2])) w' := by
  subst hx
  exact ⟨v, rfl, h, hb⟩
theorem refDelayed_nil (c : Nat) (t n : Int) (w : World) :
    Calls Tryd.prog 44 #[.slice none 0 c, .int .i64 t, .int .i64 n] w (DlP ([(t, n)], 0) w) := by
  obtain ⟨i0, hi, hz0, hz1, hz2⟩ := infoP
  have HG0 := Lib.hid (Gq.nil w.heap.size w)
  go_enter Tryd.func44, Tryd.ntmps44
  go_wp2_with (at_builtin; refine wpList_append_own _ rfl _ _ 34 rfl w.heap.size 75 i0 (.agg #[.int .i64 0, .int .i64 0]) 2 16 Tryd.underlying34 hi hz0 hz1 hz2 rfl (by decide) _ _ _ rfl (World.ownsRow.alloc HG0.out.own _) ⟨w.heap.size, 0, none⟩ 1 1 [.int .i64 t, .int .i64 n] rfl rfl (two_new _ _ _ _) (pcells _ _) (by decide) (by decide) (by simp) ?_)
  intro v3 w3 hown hgrow _
  have HG3 : Hid (Gq w.heap.size w3 v3 ([] ++ [(t, n)])) := Gq.more (l := []) hown
  have HB3 : Hid (Below w.heap.size w w3) := ((Below.refl _ w).alloc (Nat.le_refl _) _).grown hgrow (by simp) (fun k hk => by cases hk)
  clear hown hgrow
  go_wp2_with fail
  go_ret2
  exact dlP (x := ([(t, n)], 0)) rfl HG3.out HB3.out
set_option maxHeartbeats 3200000 in
theorem refDelayed_n (u : Value) (l : List (Int × Int)) (t n : Int) (hl : l.length ≤ 1000000) (hs : ∀ k, k < l.length → 0 ≤ (l.getD k (0, 0)).2 ∧ (l.getD k (0, 0)).2 ≤ 4096) (hn0 : 0 ≤ n) (hn1 : n ≤ 4096) (w : World) (hu : Ps w u l) :
    Calls Tryd.prog 44 #[u, .int .i64 t, .int .i64 n] w (DlP (dlE l t n) w) := by
  have HU := Lib.hid hu
  obtain ⟨oa, c, rfl, -⟩ := hu
  cases oa with
  | none =>
    obtain ⟨rfl, -⟩ := ps_nil HU.out
    exact refDelayed_nil c t n w
  | some ad =>
  obtain ⟨i0, hi, hz0, hz1, hz2⟩ := infoP
  have HE : Hid (dlE l t n = dlE l t n) := rfl
  generalize hr : dlE l t n = r at HE ⊢
  have HR := Lib.hid hr
  clear HE hr
  have HG0 := Lib.hid (Gq.nil w.heap.size w)
  go_enter Tryd.func44, Tryd.ntmps44
  go_upto_region 2 with fail
  go_cut [8] from 9 (fun v wx => Hid (Gq w.heap.size wx v l) ∧ Hid (Below w.heap.size w wx))
  case first =>
    go_wp2_with (at_builtin; refine wpList_append_own _ rfl _ _ 34 rfl w.heap.size 75 i0 (.agg #[.int .i64 0, .int .i64 0]) 2 16 Tryd.underlying34 hi hz0 hz1 hz2 rfl (by decide) _ _ _ rfl HG0.out.own ad l.length c (flat pT pA l) rfl (flat_len l) (ps_news HU.out) (ps_cells l) (by simp; unfold maxLen; omega) (by simp; omega) (by omega) ?_)
    intro v3 w3 hown hgrow _
    have HG3 : Hid (Gq w.heap.size w3 v3 l) := Gq.onto (by simpa [flat] using hown)
    have HB3 : Hid (Below w.heap.size w w3) := (Below.refl _ w).grown hgrow (Nat.le_refl _) (fun k hk => by cases hk)
    clear hown hgrow
    go_wp2_with fail
    go_meet
    case rel => exact ⟨HG3, HB3⟩
  obtain ⟨HG, HB⟩ := hcut
  have hsz := HB.out.size
  obtain ⟨ou, cu, hvu⟩ := Gn.form HG.out
  subst hvu
  by_cases hlen : l = []
  · subst hlen
    have HX : Hid (([] ++ [(t, n)], 0) = r) := by show _ = _; rw [← HR.out]; rfl
    clear HR HU HG0
    go_wp2_with (at_builtin; refine wpList_append_own _ rfl _ _ 34 rfl w.heap.size 75 i0 (.agg #[.int .i64 0, .int .i64 0]) 2 16 Tryd.underlying34 hi hz0 hz1 hz2 rfl (by decide) _ _ _ rfl (World.ownsRow.alloc HG.out.own _) ⟨wc.heap.size, 0, none⟩ 1 1 [.int .i64 t, .int .i64 n] rfl rfl (two_new _ _ _ _) (pcells _ _) (by decide) (by decide) (by simp <;> omega) ?_)
    intro v3 w3 hown hgrow _
    have HG3 : Hid (Gq w.heap.size w3 v3 ([] ++ [(t, n)])) := Gq.more (l := []) hown
    have HB3 : Hid (Below w.heap.size w w3) := (HB.out.alloc (by omega) _).grown hgrow (by simp <;> omega) (Gn.blk HG.out)
    clear hown hgrow
    go_wp2_with fail
    go_ret2
    exact dlP (x := ([] ++ [(t, n)], 0)) HX.out HG3.out HB3.out
  · have hlp : 0 < l.length := by cases l with | nil => exact absurd rfl hlen | cons => simp
    obtain ⟨m, hm⟩ : ∃ m, l.length = m + 1 := ⟨l.length - 1, by omega⟩
    rcases HG.out.2 with ⟨hv, h0⟩ | ⟨g, cap, cur, hv, hgB, hgg, _⟩
    · omega
    simp only [Value.slice.injEq] at hv
    obtain ⟨rfl, -, rfl⟩ := hv
    have hgl : g < wc.heap.size := (Array.getElem?_eq_some_iff.1 hgg).1
    have hcc := fun j (hj : j < l.length * 2) => World.ownsRow.cellAt HG.out.own j (by omega)
    obtain ⟨f0, f1⟩ := flat_at (E0 := pT) (E1 := pA) (d := (0, 0)) l m (by omega)
    obtain ⟨y0, y1⟩ := hs m (by omega)
    obtain ⟨x, y, hxy⟩ : ∃ x y, l.getD m (0, 0) = (x, y) := ⟨_, _, rfl⟩
    have d0 : wc.cell? ⟨g, m * 2, none⟩ = some (.int .i64 x) := by rw [hcc (m * 2) (by omega), f0, hxy]; rfl
    have d1 : wc.cell? ⟨g, m * 2 + 1, none⟩ = some (.int .i64 y) := by rw [hcc (m * 2 + 1) (by omega), f1, hxy]; rfl
    have hfz : wc.frozen? ⟨g, m * 2 + 1, none⟩ = false := World.ownsRow.frozenAt HG.out.own (m * 2 + 1)
    rw [hxy] at y0 y1
    simp only at y0 y1
    have hE : Hid (dlE l t n = if t < x then ([], 2) else if t = x then (if 4096 < y + n then ([], 2) else (l.set m (x, y + n), 0)) else if 16 ≤ l.length then ([], 4) else (l ++ [(t, n)], 0)) := by
      show _ = _
      unfold dlE
      rw [show l.length - 1 = m by omega, hxy]
      have : 0 < l.length := by omega
      simp only [this, true_and]
    have hGS : Hid (Gq w.heap.size (wc.setCell ⟨g, m * 2 + 1, none⟩ (.int .i64 (y + n))) (.slice (some ⟨g, 0, none⟩) (l.set m (x, y + n)).length cu) (l.set m (x, y + n))) := by
      show Gq _ _ _ _
      have := (World.ownsRow.stored HG.out.own (m * 2 + 1) (.int .i64 (y + n))).1
      rw [flat_set l m x (y + n) (by omega) (by rw [hxy])] at this
      unfold Gq Gp Gn
      rw [List.length_set]
      exact this
    have hBS : Hid (Below w.heap.size w (wc.setCell ⟨g, m * 2 + 1, none⟩ (.int .i64 (y + n)))) := HB.out.setCell hgB _
    rw [List.length_set] at hGS
    clear hcc f0 f1 hgg HU HG0
    have hm0 : (0 : Int) < (m : Int) + 1 := by omega
    have hm1 : (0 : Int) ≤ (m : Int) := by omega
    have hwm : IntKind.i64.wrap (m : Int) = (m : Int) := IntWalk.i64_in _ (by omega)
    have hlI : (l.length : Int) = (m : Int) + 1 := by omega
    rw [hm] at HG hGS ⊢
    by_cases p1 : t < x
    · have HX : Hid ((([] : List (Int × Int)), (2 : Int)) = r) := by show _ = _; rw [← HR.out, hE.out, if_pos p1]
      clear HR hE hGS hBS
      go_wp2_with fail
      go_ret2
      exact dlP (x := ([], 2)) HX.out (Gq.nil _ _) HB.out
    · by_cases p2 : t = x
      · by_cases p3 : 4096 < y + n
        · have HX : Hid ((([] : List (Int × Int)), (2 : Int)) = r) := by show _ = _; rw [← HR.out, hE.out, if_neg p1, if_pos p2, if_pos p3]
          clear HR hE hGS hBS
          subst p2
          go_wp2_with fail
          go_ret2
          exact dlP (x := ([], 2)) HX.out (Gq.nil _ _) HB.out
        · have HX : Hid ((l.set m (x, y + n), (0 : Int)) = r) := by show _ = _; rw [← HR.out, hE.out, if_neg p1, if_pos p2, if_neg p3]
          clear HR hE
          subst p2
          go_wp2_with fail
          go_ret2
          exact dlP (x := (l.set m (t, y + n), 0)) HX.out hGS.out hBS.out
      · have p2n := ne_eqI p2
        by_cases p4 : 16 ≤ m + 1
        · have HX : Hid ((([] : List (Int × Int)), (4 : Int)) = r) := by show _ = _; rw [← HR.out, hE.out, if_neg p1, if_neg p2, if_pos (by omega)]
          have p4n : (16 : Int) ≤ (m : Int) + 1 := by omega
          clear HR hE hGS hBS p2
          go_wp2_with fail
          go_ret2
          exact dlP (x := ([], 4)) HX.out (Gq.nil _ _) HB.out
        · have HX : Hid ((l ++ [(t, n)], (0 : Int)) = r) := by show _ = _; rw [← HR.out, hE.out, if_neg p1, if_neg p2, if_neg (by omega)]
          have p4n : ¬ (16 : Int) ≤ (m : Int) + 1 := by omega
          clear HR hE hGS hBS p2
          go_wp2_with (at_builtin; refine wpList_append_own _ rfl _ _ 34 rfl w.heap.size 75 i0 (.agg #[.int .i64 0, .int .i64 0]) 2 16 Tryd.underlying34 hi hz0 hz1 hz2 rfl (by decide) _ _ _ rfl (World.ownsRow.alloc HG.out.own _) ⟨wc.heap.size, 0, none⟩ 1 1 [.int .i64 t, .int .i64 n] rfl rfl (two_new _ _ _ _) (pcells _ _) (by unfold maxLen; omega) (by omega) (by simp <;> omega) ?_)
          intro v3 w3 hown hgrow _
          have HG3 : Hid (Gq w.heap.size w3 v3 (l ++ [(t, n)])) := Gq.more (by rw [hm]; exact hown)
          have HB3 : Hid (Below w.heap.size w w3) := (HB.out.alloc (by omega) _).grown hgrow (by simp <;> omega) (Gn.blk HG.out)
          clear hown hgrow
          go_wp2_with fail
          go_ret2
          exact dlP (x := (l ++ [(t, n)], 0)) HX.out HG3.out HB3.out

end Go.Proofs.YtegpebnkogjadaaDoor.T

