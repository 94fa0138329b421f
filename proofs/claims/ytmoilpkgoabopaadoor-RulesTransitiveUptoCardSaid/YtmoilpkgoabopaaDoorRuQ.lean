/-
  DERIVED. Own lists of pairs, appended to (out of layer 10's text: tools/mkrubase.py).
-/
import Derived.Test.YtmoilpkgoabopaaDoorFlBase
namespace Go.Proofs.YtmoilpkgoabopaaDoor.T
open Go.RowKit
set_option maxRecDepth 8000

def Gr (B : Nat) (w : World) (v : Value) (n : Nat) (l : List (Int × Int)) : Prop := Gn 45 pT pA B w v n l
theorem infoQ0 : (Tryd.prog.info? 45).map (fun i => (i.zero, i.size, i.bytes)) = some (some (.agg #[.int .i64 0, .int .i64 0]), 2, 16) := by kernel_rfl
theorem infoQ : ∃ i, Tryd.prog.info? 45 = some i ∧ i.zero = some (.agg #[.int .i64 0, .int .i64 0]) ∧ i.size = 2 ∧ i.bytes = 16 := by
  have h := infoQ0
  obtain ⟨i, hi, hzz⟩ := Option.map_eq_some_iff.1 h
  simp only [Prod.mk.injEq] at hzz
  exact ⟨i, hi, hzz.1, hzz.2.1, hzz.2.2⟩
/-- the call's own slice of pairs -/
def Gq (B : Nat) (w : World) (v : Value) (l : List (Int × Int)) : Prop := Gr B w v l.length l
theorem Gq.nil (B : Nat) (w : World) : Gq B w (.slice none 0 0) [] := Gn.nil _ _ _ _ _
theorem Gq.frame {B : Nat} {w w' : World} {v : Value} {l : List (Int × Int)} (h : Gq B w v l) (hb : Below w.heap.size w w') : Gq B w' v l := Gn.frame h hb
theorem Gq.drew {B : Nat} {w : World} {v : Value} {l : List (Int × Int)} (h : Gq B w v l) : Gq B w.drew v l := h
theorem Gq.more {B : Nat} {w : World} {v : Value} {l : List (Int × Int)} {x : Int} {s : Int} (h : w.ownsRow B 45 2 v (l.length + 1) (flat pT pA l ++ [.int .i64 x, .int .i64 s])) : Gq B w v (l ++ [(x, s)]) := by
  unfold Gq
  rw [List.length_append]
  exact Gn.more (E0 := pT) (E1 := pA) (x, s) h
theorem Gq.ext {B : Nat} {w : World} {v : Value} {l m : List (Int × Int)} (h : Gq B w v l) (e : l = m) : Gq B w v m := e ▸ h
theorem Gq.own {B : Nat} {w : World} {v : Value} {l : List (Int × Int)} (h : Gq B w v l) : w.ownsRow B 45 2 v l.length (flat pT pA l) := h
theorem Gq.blk {B : Nat} {w : World} {v : Value} {l : List (Int × Int)} (h : Gq B w v l) : ∀ k, v.ownBlock = some k → B ≤ k := Gn.blk h
/-- a result: a list of pairs -/
def PrsP (l : List (Int × Int)) (w : World) (e : Ending) (w' : World) : Prop :=
  ∃ oa c, e = .returned (.slice oa l.length c) ∧ (Ps w' (.slice oa l.length c) l ∧ Gq w.heap.size w' (.slice oa l.length c) l ∧ (oa = none → c = 0)) ∧ Below w.heap.size w w'
theorem prsP {B : Nat} {l : List (Int × Int)} {w w' : World} {v : Value} (h : Gq B w' v l) (hb : Below w.heap.size w w') (hB : w.heap.size ≤ B) : PrsP l w (.returned v) w' := by
  have hs : Ps w' v l := Gn.sl h
  have hg : Gq w.heap.size w' v l := Gn.mono h hB
  rcases h.2 with ⟨hv, h0⟩ | ⟨g, cap, cur, hv, _⟩
  · subst hv
    have hn : l = [] := List.eq_nil_of_length_eq_zero h0
    subst hn
    exact ⟨none, 0, rfl, ⟨hs, hg, fun _ => rfl⟩, hb⟩
  · subst hv
    exact ⟨_, _, rfl, ⟨hs, hg, fun h => (by cases h)⟩, hb⟩
theorem ps_news {w : World} {ad : Addr} {c : Nat} {l : List (Int × Int)} (h : Ps w (.slice (some ad) l.length c) l) : ∀ j u, (flat pT pA l)[j]? = some u → w.cell? (ad.add j) = some u := fun j u hj => by
  obtain ⟨oa, c', hv, h⟩ := h
  simp only [Value.slice.injEq] at hv
  obtain ⟨rfl, -, rfl⟩ := hv
  have hjl : j < (flat pT pA l).length := (List.getElem?_eq_some_iff.1 hj).1
  rw [flat_len] at hjl
  obtain ⟨b, o, ha, -, h0, h1⟩ := h (j / 2) (by omega)
  simp only [Option.some.injEq] at ha
  subst ha
  obtain ⟨f0, f1⟩ := flat_at (E0 := pT) (E1 := pA) (d := (0, 0)) l (j / 2) (by omega)
  have had : (⟨b, o, none⟩ : Addr).add j = ⟨b, o + j, none⟩ := by
    unfold Addr.add; split
    · rename_i hz; rw [hz]; rfl
    · rfl
  rw [had]
  rcases Nat.mod_two_eq_zero_or_one j with e | e
  · rw [show j / 2 * 2 = j by omega] at h0 f0
    rw [f0] at hj
    rw [h0]; exact hj
  · rw [show j / 2 * 2 + 1 = j by omega] at f1
    rw [show o + j / 2 * 2 + 1 = o + j by omega] at h1
    rw [f1] at hj
    rw [h1]; exact hj
theorem ps_nil {w : World} {c : Nat} {l : List (Int × Int)} (h : Ps w (.slice none l.length c) l) : l = [] := by
  obtain ⟨oa, c', hv, h⟩ := h
  simp only [Value.slice.injEq] at hv
  obtain ⟨rfl, -, rfl⟩ := hv
  cases l with
  | nil => rfl
  | cons x l =>
    obtain ⟨b, o, ha, -⟩ := h 0 (by simp)
    cases ha
theorem flatq_cells (l : List (Int × Int)) : ∀ v ∈ flat pT pA l, v.oneCell' = true := by
  intro v hv
  unfold flat at hv
  rw [List.mem_flatMap] at hv
  obtain ⟨x, -, hx⟩ := hv
  simp only [List.mem_cons, List.not_mem_nil, or_false] at hx
  rcases hx with rfl | rfl <;> rfl
theorem Gq.onto {B : Nat} {w : World} {v : Value} {l m : List (Int × Int)} (h : w.ownsRow B 45 2 v (l.length + m.length) (flat pT pA l ++ flat pT pA m)) : Gq B w v (l ++ m) := by
  unfold Gq Gr Gn
  rw [List.length_append]
  have : flat pT pA (l ++ m) = flat pT pA l ++ flat pT pA m := by unfold flat; rw [List.flatMap_append]
  rw [this]; exact h

/-- a slice of pairs that is read, and is nil where it has no array -/
def Lq (w : World) (u : Value) (m : List (Int × Int)) : Prop := ∃ oa c, u = .slice oa m.length c ∧ Ps w (.slice oa m.length c) m ∧ (oa = none → c = 0)
theorem Lq.of_prs {l : List (Int × Int)} {w w' : World} {e : Ending} (h : PrsP l w e w') : ∃ v, e = .returned v ∧ Lq w' v l ∧ Gq w.heap.size w' v l ∧ Below w.heap.size w w' := by
  obtain ⟨oa, c, he, ⟨hf, hg, hn⟩, hb⟩ := h
  exact ⟨_, he, ⟨oa, c, rfl, hf, hn⟩, hg, hb⟩
theorem Gq.of_block {B : Nat} {w w' : World} {v : Value} {l : List (Int × Int)} (h : Gq B w v l) (hb : ∀ g, v.ownBlock = some g → w'.heap[g]? = w.heap[g]?) : Gq B w' v l := by
  have h0 := h.own
  refine (⟨h0.1, ?_⟩ : w'.ownsRow B 45 2 v l.length (flat pT pA l))
  rcases h0.2 with hn | ⟨g, cap, cur, e, hbg, hgg, rest⟩
  · exact .inl hn
  · refine .inr ⟨g, cap, cur, e, hbg, ?_, rest⟩
    rw [hb g (by rw [e]; rfl)]; exact hgg
theorem ap_q {B : Nat} {w : World} {v u : Value} {l m : List (Int × Int)} (ty : TypeId) (hv : Gq B w v l) (hu : Lq w u m) (hB : B ≤ w.heap.size) (hn : l.length + m.length ≤ 100000000) :
    ∃ v' w', (Builtin.append_ #[22, 22] ty #[v, u]).run Tryd.prog w = .ok v' w' ∧ (Gq B w' v' (l ++ m) ∧ Below B w w' ∧ w.grownBy w' v.ownBlock ∧ (v'.ownBlock = v.ownBlock ∨ v'.ownBlock = some w.heap.size)) := by
  obtain ⟨i0, hi, hz0, hz1, hz2⟩ := infoQ
  obtain ⟨oa, c, rfl, hl, hc⟩ := hu
  cases oa with
  | none =>
    have hm := ps_nil hl
    subst hm
    have h0 := hc rfl
    subst h0
    exact ⟨v, w, run_append_owned_none w B _ ty _ i0 2 Tryd.underlying22 hi v _ _ hv.own, by rw [List.append_nil]; exact hv, Below.refl _ _, World.grownBy.refl _ _, .inl rfl⟩
  | some ad =>
    obtain ⟨v', w', hr, h2, h3, -, h5⟩ := run_append_own_at (P := Tryd.prog) w B 22 ty 45 i0 (.agg #[.int .i64 0, .int .i64 0]) 2 16 Tryd.underlying22 hi hz0 hz1 hz2 rfl (by decide) v l.length (flat pT pA l) hv.own ad m.length c (flat pT pA m) (flat_len (E0 := pT) (E1 := pA) m) (ps_news hl) (flatq_cells m) (by unfold maxLen; omega) (by omega) hB
    exact ⟨v', w', hr, Gq.onto h2, below_row hB h3 hv.blk, h3, h5⟩
theorem lq_one (w : World) (x : Int) (s : Int) : Lq (w.alloc (.cells #[.int .i64 x, .int .i64 s] 45)) (.slice (some ⟨w.heap.size, 0, none⟩) 1 1) [(x, s)] := by
  refine ⟨some ⟨w.heap.size, 0, none⟩, 1, rfl, ⟨some ⟨w.heap.size, 0, none⟩, 1, rfl, fun i hi => ⟨w.heap.size, 0, rfl, by simp, ?_⟩⟩, fun h => by cases h⟩
  match i, hi with
  | 0, _ => exact ⟨by simp [pT], by simp [pA]⟩
theorem ap_q1 {B : Nat} {w : World} {v : Value} {l : List (Int × Int)} (ty : TypeId) (x : Int) (s : Int) (hv : Gq B w v l) (hB : B ≤ w.heap.size) (hn : l.length ≤ 90000000) :
    ∃ v' w', (Builtin.append_ #[22, 22] ty #[v, .slice (some ⟨w.heap.size, 0, none⟩) 1 1]).run Tryd.prog (w.alloc (.cells #[.int .i64 x, .int .i64 s] 45)) = .ok v' w' ∧ (Gq B w' v' (l ++ [(x, s)]) ∧ Below B w w') := by
  obtain ⟨v', w', hr, h2, h3, -, -⟩ := ap_q (w := w.alloc (.cells #[.int .i64 x, .int .i64 s] 45)) (m := [(x, s)]) ty (hv.frame (below_alloc _ _)) (lq_one w x s) (by simp; omega) (by simp; omega)
  exact ⟨v', w', hr, h2, ((below_alloc w _).mono hB).trans h3⟩

end Go.Proofs.YtmoilpkgoabopaaDoor.T

