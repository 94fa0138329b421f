/-
  DERIVED. Slices of structs of two one-cell fields: as arguments, and made by the call itself.
-/
import Derived.Test.YtmoilpkgoabopaaDoorRows
import Derived.WalkKit
import Derived.WalkSpells
import Derived.WalkLawsBesides
import Derived.WalkMore
import Derived.Below
import Derived.OwnWalk
import Derived.IntWalk
import Derived.Laws.OwnMore
import Derived.Laws.AppendOwn
import Derived.Deep.AppendLies
import Derived.Deep.Draws
import Derived.Deep.QuietTactic
import Derived.Deep.RegionLaw
import Derived.Deep.RegionWith
import Derived.BigQuiet
import Derived.Lib.Hide
import Derived.WalkSmall
import Derived.Deep.Onto
import Derived.Deep.LoopGhost
import Derived.Handy
namespace Go.Proofs.YtmoilpkgoabopaaDoor.T
open Go.RowKit
set_option maxRecDepth 8000

def vi (x : Int) : Value := .int .i64 x
theorem add_block (a : Addr) (i : Nat) : (a.add i).block = a.block := by unfold Addr.add; split <;> rfl
theorem over {w W w1 : World} (h : Below w.heap.size w W) (b : Below W.heap.size W w1) : Below w.heap.size w w1 := h.trans (b.mono h.size)
theorem below_drewN {B : Nat} {a w : World} (h : Below B a w) (n : Nat) : Below B a (w.drewN n) := ⟨h.os, h.tape, h.output, h.size, h.block⟩
theorem below_drew {B : Nat} {a w : World} (h : Below B a w) : Below B a w.drew := ⟨h.os, h.tape, h.output, h.size, h.block⟩

/-! ### lists -/
section
variable {α : Type}
theorem drop_more {l : List α} {k : Nat} {d : α} (h : k < l.length) : l.drop k = l.getD k d :: l.drop (k + 1) := by
  rw [List.drop_eq_getElem_cons h, List.getD_eq_getElem?_getD, List.getElem?_eq_getElem h]; rfl
theorem take_more {l : List α} {k : Nat} {d : α} (h : k < l.length) : l.take (k + 1) = l.take k ++ [l.getD k d] := by
  rw [List.take_succ_eq_append_getElem h, List.getD_eq_getElem?_getD, List.getElem?_eq_getElem h]; rfl
theorem getD_mem {l : List α} {k : Nat} {d : α} (h : k < l.length) : l.getD k d ∈ l := by
  rw [List.getD_eq_getElem?_getD, List.getElem?_eq_getElem h]; exact List.getElem_mem h
end
theorem ret_bool {a b : Bool} (h : a = b) : Ending.returned (.bool a) = .returned (.bool b) := by rw [h]
theorem ret_int {k : IntKind} {a b : Int} (h : a = b) : Ending.returned (.int k a) = .returned (.int k b) := by rw [h]
theorem ret_str {a b : ByteArray} (h : a = b) : Ending.returned (.string a) = .returned (.string b) := by rw [h]
theorem ne_eqN {a b : Nat} (h : a ≠ b) : (((a : Int) == (b : Int)) = false) := by
  rw [beq_eq_false_iff_ne]; omega
theorem ne_neN {a b : Nat} (h : a ≠ b) : (((a : Int) != (b : Int)) = true) := by
  rw [bne_iff_ne]; omega
theorem ne_eqI {a b : Int} (h : a ≠ b) : ((a == b) = false) := by
  rw [beq_eq_false_iff_ne]; exact h
theorem ne_neI {a b : Int} (h : a ≠ b) : ((a != b) = true) := by
  rw [bne_iff_ne]; exact h

/-! ### slices of structs of two cells -/
section
variable {α : Type} (E0 E1 : α → Value) (d : α)
/-- v is a slice of structs with the cells E0 x, E1 x: the list l -/
def Sl (w : World) (v : Value) (l : List α) : Prop :=
  ∃ (oa : Option Addr) (c : Nat), v = .slice oa l.length c ∧ ∀ i, i < l.length → ∃ b o : Nat, oa = some ⟨b, o, none⟩ ∧ b < w.heap.size ∧
    w.cell? ⟨b, o + i * 2, none⟩ = some (E0 (l.getD i d)) ∧ w.cell? ⟨b, o + i * 2 + 1, none⟩ = some (E1 (l.getD i d))
variable {E0 E1 d}
theorem Sl.below {w w' : World} {v : Value} {l : List α} (h : Sl E0 E1 d w v l) (hb : Below w.heap.size w w') : Sl E0 E1 d w' v l := by
  obtain ⟨oa, c, hv, h⟩ := h
  refine ⟨oa, c, hv, fun i hi => ?_⟩
  obtain ⟨b, o, ha, hl, h0, h1⟩ := h i hi
  exact ⟨b, o, ha, Nat.lt_of_lt_of_le hl hb.size, (hb.cell (p := ⟨b, _, none⟩) hl).trans h0, (hb.cell (p := ⟨b, _, none⟩) hl).trans h1⟩
theorem Sl.over {w w1 w' : World} {v : Value} {l : List α} (h : Sl E0 E1 d w v l) (hb : Below w.heap.size w w1) (hb' : Below w1.heap.size w1 w') : Sl E0 E1 d w' v l := (h.below hb).below hb'
theorem Sl.nil (w : World) : Sl E0 E1 d w (.slice none 0 0) [] := ⟨none, 0, rfl, fun i hi => by cases hi⟩

/-- the cells of a list -/
def flat (E0 E1 : α → Value) (l : List α) : List Value := l.flatMap fun x => [E0 x, E1 x]
theorem flat_len (l : List α) : (flat E0 E1 l).length = l.length * 2 := by
  unfold flat
  induction l with
  | nil => rfl
  | cons x l ih => rw [List.flatMap_cons, List.length_append, ih]; simp; omega
theorem flat_at : ∀ (l : List α) (i : Nat), i < l.length → (flat E0 E1 l)[i * 2]? = some (E0 (l.getD i d)) ∧ (flat E0 E1 l)[i * 2 + 1]? = some (E1 (l.getD i d))
  | x :: l, 0, _ => by simp [flat]
  | x :: l, i + 1, h => by
    have := flat_at l i (by simpa using h)
    rw [show (i + 1) * 2 = i * 2 + 2 by omega]
    unfold flat at this ⊢
    rw [List.flatMap_cons]
    simpa using this
theorem flat_snoc (l : List α) (x : α) : flat E0 E1 (l ++ [x]) = flat E0 E1 l ++ [E0 x, E1 x] := by unfold flat; simp

/-- the call's own slice v of n structs of type e, made since block B: the list l -/
def Gn (e : TypeId) (E0 E1 : α → Value) (B : Nat) (w : World) (v : Value) (n : Nat) (l : List α) : Prop := w.ownsRow B e 2 v n (flat E0 E1 l)
variable {e : TypeId} {B : Nat} {w w' : World} {v : Value} {n : Nat} {l : List α}
theorem Gn.frame (h : Gn e E0 E1 B w v n l) (hb : Below w.heap.size w w') : Gn e E0 E1 B w' v n l := by
  refine ⟨h.1, ?_⟩
  rcases h.2 with hn | ⟨g, cap, cur, e, hbg, hgg, rest⟩
  · exact .inl hn
  · refine .inr ⟨g, cap, cur, e, hbg, ?_, rest⟩
    rw [hb.block g (Array.getElem?_eq_some_iff.1 hgg).1]; exact hgg
theorem Gn.mono {C : Nat} (h : Gn e E0 E1 B w v n l) (hle : C ≤ B) : Gn e E0 E1 C w v n l := World.ownsRow.mono h hle
theorem Gn.nil (e : TypeId) (E0 E1 : α → Value) (B : Nat) (w : World) : Gn e E0 E1 B w (.slice none 0 0) 0 [] := World.ownsRow_nil w B _ _
theorem Gn.blk (h : Gn e E0 E1 B w v n l) : ∀ k, v.ownBlock = some k → B ≤ k := fun k hk => (World.ownsRow.lt h k hk).1
theorem Gn.len (h : Gn e E0 E1 B w v n l) : n = l.length := by have := h.1; rw [flat_len] at this; omega
theorem Gn.sl (h : Gn e E0 E1 B w v n l) : Sl E0 E1 d w v l := by
  have hn := h.len
  rcases h.2 with ⟨hv, h0⟩ | ⟨g, cap, cur, rfl, hbg, hgg, hnc, rest⟩
  · have : l = [] := List.eq_nil_of_length_eq_zero (by omega)
    subst this
    exact ⟨none, 0, hv, fun i hi => by cases hi⟩
  · refine ⟨some ⟨g, 0, none⟩, cap, by rw [hn], fun i hi => ⟨g, 0, rfl, (Array.getElem?_eq_some_iff.1 hgg).1, ?_⟩⟩
    have hc := fun j hj => World.ownsRow.cellAt (g := g) (cap := cap) (n := n) (xs := flat E0 E1 l) (w := w) (base := B) (e := e) (size := 2) ⟨h.1, .inr ⟨g, cap, cur, rfl, hbg, hgg, hnc, rest⟩⟩ j hj
    have hf := flat_at (E0 := E0) (E1 := E1) (d := d) l i hi
    rw [Nat.zero_add, hc (i * 2) (by omega), hc (i * 2 + 1) (by omega)]
    exact hf
theorem Gn.form (h : Gn e E0 E1 B w v n l) : ∃ oa c, v = .slice oa n c := by
  rcases h.2 with ⟨hv, h0⟩ | ⟨g, cap, cur, rfl, _⟩
  · exact ⟨none, 0, by rw [hv, h0]⟩
  · exact ⟨_, _, rfl⟩
theorem Gn.more (x : α) (h : w.ownsRow B e 2 v (n + 1) (flat E0 E1 l ++ [E0 x, E1 x])) : Gn e E0 E1 B w v (n + 1) (l ++ [x]) := by
  unfold Gn
  rw [flat_snoc]
  exact h
end
theorem two_new (w : World) (x y : Value) (e : TypeId) : ∀ (j : Nat) (v : Value), [x, y][j]? = some v → (w.alloc (.cells #[x, y] e)).cell? ((⟨w.heap.size, 0, none⟩ : Addr).add j) = some v := by
  intro j v hv
  match j, hv with
  | 0, hv => simp at hv; subst hv; simp [Addr.add]
  | 1, hv => simp at hv; subst hv; simp [Addr.add]

/-! ### points and faults -/
def pT (p : Int × Int) : Value := .int .i64 p.1
def pA (p : Int × Int) : Value := .int .i64 p.2
def fE (f : Int × ByteArray) : Value := .int .i64 f.1
def fA (f : Int × ByteArray) : Value := .string f.2
def Ps (w : World) (v : Value) (l : List (Int × Int)) : Prop := Sl pT pA (0, 0) w v l
def Fs (w : World) (v : Value) (l : List (Int × ByteArray)) : Prop := Sl fE fA (0, ⟨#[]⟩) w v l
def Gp (B : Nat) (w : World) (v : Value) (n : Nat) (l : List (Int × Int)) : Prop := Gn 130 pT pA B w v n l
def Gf (B : Nat) (w : World) (v : Value) (n : Nat) (l : List (Int × ByteArray)) : Prop := Gn 28 fE fA B w v n l
theorem infoP0 : (Tryd.prog.info? 130).map (fun i => (i.zero, i.size, i.bytes)) = some (some (.agg #[.int .i64 0, .int .i64 0]), 2, 16) := by kernel_rfl
theorem infoP : ∃ i, Tryd.prog.info? 130 = some i ∧ i.zero = some (.agg #[.int .i64 0, .int .i64 0]) ∧ i.size = 2 ∧ i.bytes = 16 := by
  have h := infoP0
  obtain ⟨i, hi, hzz⟩ := Option.map_eq_some_iff.1 h
  simp only [Prod.mk.injEq] at hzz
  exact ⟨i, hi, hzz.1, hzz.2.1, hzz.2.2⟩
theorem infoF0 : (Tryd.prog.info? 28).map (fun i => (i.zero, i.size, i.bytes)) = some (some (.agg #[.int .i64 0, .string ⟨#[]⟩]), 2, 24) := by kernel_rfl
theorem infoF : ∃ i, Tryd.prog.info? 28 = some i ∧ i.zero = some (.agg #[.int .i64 0, .string ⟨#[]⟩]) ∧ i.size = 2 ∧ i.bytes = 24 := by
  have h := infoF0
  obtain ⟨i, hi, hzz⟩ := Option.map_eq_some_iff.1 h
  simp only [Prod.mk.injEq] at hzz
  exact ⟨i, hi, hzz.1, hzz.2.1, hzz.2.2⟩
theorem pcells (x y : Int) : ∀ v ∈ [Value.int .i64 x, Value.int .i64 y], v.oneCell' = true := by
  intro v hv; simp at hv; rcases hv with rfl | rfl <;> rfl
theorem fcells (x : Int) (s : ByteArray) : ∀ v ∈ [Value.int .i64 x, Value.string s], v.oneCell' = true := by
  intro v hv; simp at hv; rcases hv with rfl | rfl <;> rfl

end Go.Proofs.YtmoilpkgoabopaaDoor.T

