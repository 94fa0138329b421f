/-
  DERIVED. KPA: a part of the base of layer 13 (made by pack.py).
-/
import Derived.Test.YtaallpebfcadjaaGreatDoorRows
import Derived.WalkKit
import Derived.WalkSpells
import Derived.WalkLawsBesides
import Derived.WalkMore
import Derived.Below
import Derived.OwnWalk
import Derived.IntWalk
import Derived.Laws.OwnMore
import Derived.Laws.AppendOwn
import Derived.Deep.AppendLies
import Derived.Deep.Draws
import Derived.Deep.QuietTactic
import Derived.Deep.RegionLaw
import Derived.Deep.RegionWith
import Derived.BigQuiet
import Derived.Lib.Hide
import Derived.WalkSmall
import Derived.Deep.Onto
import Derived.Deep.LoopGhost
import Derived.Handy
import Derived.Lib.ItoaNum
import Derived.Test.YtaallpebfcadjaaGreatDoorShelf
/-! Plain Lean: what the functions of package text and of its specification compute, on lists of bytes. -/
namespace Go.Proofs.YtaallpebfcadjaaGreatDoor

/-- a digit -/
def dig (c : Nat) : Bool := decide (48 ≤ c) && decide (c ≤ 57)
/-- a letter -/
def let1 (c : Nat) : Bool := decide (97 ≤ c) && decide (c ≤ 122) || decide (65 ≤ c) && decide (c ≤ 90)
/-- of a name -/
def nam (c : Nat) : Bool := let1 c || dig c || c == 95

def nameB (l : List UInt8) : Bool := !l.isEmpty && decide (l.length ≤ 16) && !dig (l.headD 0).toNat && l.all fun c => nam c.toNat

theorem nam1 {c : Nat} (h : let1 c = true) : nam c = true := by simp [nam, h]
theorem nam2 {c : Nat} (h : dig c = true) : nam c = true := by simp [nam, h]
theorem nam3 {c : Nat} (h : ((c : Int) != 95) = false) : nam c = true := by
  have : c = 95 := by simp at h; omega
  simp [nam, this]
theorem nam4 {c : Nat} (h1 : ¬ let1 c = true) (h2 : ¬ dig c = true) (h3 : ((c : Int) != 95) = true) : nam c = false := by
  have : c ≠ 95 := by simp at h3; omega
  simp [nam, h1, h2, this]
theorem nameB_all (l : List UInt8) (h0 : l ≠ []) (h : l.length ≤ 16) (hd : dig (l.headD 0).toNat = false) : nameB l = l.all fun c => nam c.toNat := by
  unfold nameB; rw [hd]; simp [h, h0]
theorem nameB_no (l : List UInt8) (h : l = [] ∨ 16 < l.length ∨ dig (l.headD 0).toNat = true) : nameB l = false := by
  rcases h with h | h | h
  · simp [nameB, h]
  · simp [nameB]; intro _ h2; omega
  · unfold nameB; rw [h]; simp

theorem take_snoc (s : ByteArray) (k : Nat) (h : k < s.size) : s.data.toList.take (k + 1) = s.data.toList.take k ++ [s[k]] := by
  rw [List.take_succ_eq_append_getElem (by simpa using h)]; rfl
theorem all_step (s : ByteArray) (p : UInt8 → Bool) (k : Nat) (h : k < s.size) (ha : (s.data.toList.take k).all p = true) (hp : p s[k] = true) : (s.data.toList.take (k + 1)).all p = true := by
  rw [take_snoc s k h, List.all_append, ha]; simp [hp]
theorem all_stop (s : ByteArray) (p : UInt8 → Bool) (k : Nat) (h : k < s.size) (hp : p s[k] = false) : s.data.toList.all p = false := by
  rw [List.all_eq_false]; exact ⟨s[k], by rw [← Array.mem_toList_iff.symm]; exact Array.getElem_mem h, by simp [hp]⟩
theorem all_end (s : ByteArray) (p : UInt8 → Bool) (ha : (s.data.toList.take s.size).all p = true) : s.data.toList.all p = true := by
  rwa [List.take_of_length_le (by simp)] at ha
theorem head_of (s : ByteArray) (h : 0 < s.size) : s.data.toList.headD 0 = s[0] := by
  obtain ⟨⟨l⟩⟩ := s
  cases l with
  | nil => simp [ByteArray.size] at h
  | cons a l => rfl
theorem ne_of (s : ByteArray) (h : 0 < s.size) : s.data.toList ≠ [] := by
  obtain ⟨⟨l⟩⟩ := s
  cases l with
  | nil => simp [ByteArray.size] at h
  | cons a l => simp
theorem empty_of (s : ByteArray) (h : s.size = 0) : s = ⟨#[]⟩ := by
  obtain ⟨⟨l⟩⟩ := s
  cases l with
  | nil => rfl
  | cons a l => simp [ByteArray.size] at h

/-! ### forms -/
theorem len_of (s : ByteArray) : s.data.toList.length = s.size := by simp

end Go.Proofs.YtaallpebfcadjaaGreatDoor


/-! Slices of structs of two one-cell fields: as arguments, and made by the call itself. -/
namespace Go.Proofs.YtaallpebfcadjaaGreatDoor.T
open Go.RowKit
set_option maxRecDepth 8000

theorem add_block (a : Addr) (i : Nat) : (a.add i).block = a.block := by unfold Addr.add; split <;> rfl
theorem over {w W w1 : World} (h : Below w.heap.size w W) (b : Below W.heap.size W w1) : Below w.heap.size w w1 := h.trans (b.mono h.size)
theorem below_drewN {B : Nat} {a w : World} (h : Below B a w) (n : Nat) : Below B a (w.drewN n) := ⟨h.os, h.tape, h.output, h.size, h.block⟩
theorem below_drew {B : Nat} {a w : World} (h : Below B a w) : Below B a w.drew := ⟨h.os, h.tape, h.output, h.size, h.block⟩

/-! ### lists -/
section
variable {α : Type}
theorem drop_more {l : List α} {k : Nat} {d : α} (h : k < l.length) : l.drop k = l.getD k d :: l.drop (k + 1) := by
  rw [List.drop_eq_getElem_cons h, List.getD_eq_getElem?_getD, List.getElem?_eq_getElem h]; rfl
theorem take_more {l : List α} {k : Nat} {d : α} (h : k < l.length) : l.take (k + 1) = l.take k ++ [l.getD k d] := by
  rw [List.take_succ_eq_append_getElem h, List.getD_eq_getElem?_getD, List.getElem?_eq_getElem h]; rfl
theorem getD_mem {l : List α} {k : Nat} {d : α} (h : k < l.length) : l.getD k d ∈ l := by
  rw [List.getD_eq_getElem?_getD, List.getElem?_eq_getElem h]; exact List.getElem_mem h
end
theorem ret_bool {a b : Bool} (h : a = b) : Ending.returned (.bool a) = .returned (.bool b) := by rw [h]
theorem ret_int {k : IntKind} {a b : Int} (h : a = b) : Ending.returned (.int k a) = .returned (.int k b) := by rw [h]
theorem ret_str {a b : ByteArray} (h : a = b) : Ending.returned (.string a) = .returned (.string b) := by rw [h]
theorem ne_eqN {a b : Nat} (h : a ≠ b) : (((a : Int) == (b : Int)) = false) := by
  rw [beq_eq_false_iff_ne]; omega
theorem ne_neN {a b : Nat} (h : a ≠ b) : (((a : Int) != (b : Int)) = true) := by
  rw [bne_iff_ne]; omega
theorem ne_eqI {a b : Int} (h : a ≠ b) : ((a == b) = false) := by
  rw [beq_eq_false_iff_ne]; exact h
theorem ne_neI {a b : Int} (h : a ≠ b) : ((a != b) = true) := by
  rw [bne_iff_ne]; exact h

/-! ### slices of structs of two cells -/
section
variable {α : Type} (E0 E1 : α → Value) (d : α)
/-- v is a slice of structs with the cells E0 x, E1 x: the list l -/
def Sl (w : World) (v : Value) (l : List α) : Prop :=
  ∃ (oa : Option Addr) (c : Nat), v = .slice oa l.length c ∧ ∀ i, i < l.length → ∃ b o : Nat, oa = some ⟨b, o, none⟩ ∧ b < w.heap.size ∧
    w.cell? ⟨b, o + i * 2, none⟩ = some (E0 (l.getD i d)) ∧ w.cell? ⟨b, o + i * 2 + 1, none⟩ = some (E1 (l.getD i d))
variable {E0 E1 d}
theorem Sl.below {w w' : World} {v : Value} {l : List α} (h : Sl E0 E1 d w v l) (hb : Below w.heap.size w w') : Sl E0 E1 d w' v l := by
  obtain ⟨oa, c, hv, h⟩ := h
  refine ⟨oa, c, hv, fun i hi => ?_⟩
  obtain ⟨b, o, ha, hl, h0, h1⟩ := h i hi
  exact ⟨b, o, ha, Nat.lt_of_lt_of_le hl hb.size, (hb.cell (p := ⟨b, _, none⟩) hl).trans h0, (hb.cell (p := ⟨b, _, none⟩) hl).trans h1⟩
theorem Sl.over {w w1 w' : World} {v : Value} {l : List α} (h : Sl E0 E1 d w v l) (hb : Below w.heap.size w w1) (hb' : Below w1.heap.size w1 w') : Sl E0 E1 d w' v l := (h.below hb).below hb'
theorem Sl.nil (w : World) : Sl E0 E1 d w (.slice none 0 0) [] := ⟨none, 0, rfl, fun i hi => by cases hi⟩

/-- the cells of a list -/
def flat (E0 E1 : α → Value) (l : List α) : List Value := l.flatMap fun x => [E0 x, E1 x]
theorem flat_len (l : List α) : (flat E0 E1 l).length = l.length * 2 := by
  unfold flat
  induction l with
  | nil => rfl
  | cons x l ih => rw [List.flatMap_cons, List.length_append, ih]; simp; omega
theorem flat_at : ∀ (l : List α) (i : Nat), i < l.length → (flat E0 E1 l)[i * 2]? = some (E0 (l.getD i d)) ∧ (flat E0 E1 l)[i * 2 + 1]? = some (E1 (l.getD i d))
  | x :: l, 0, _ => by simp [flat]
  | x :: l, i + 1, h => by
    have := flat_at l i (by simpa using h)
    rw [show (i + 1) * 2 = i * 2 + 2 by omega]
    unfold flat at this ⊢
    rw [List.flatMap_cons]
    simpa using this
theorem flat_snoc (l : List α) (x : α) : flat E0 E1 (l ++ [x]) = flat E0 E1 l ++ [E0 x, E1 x] := by unfold flat; simp

/-- the call's own slice v of n structs of type e, made since block B: the list l -/
def Gn (e : TypeId) (E0 E1 : α → Value) (B : Nat) (w : World) (v : Value) (n : Nat) (l : List α) : Prop := w.ownsRow B e 2 v n (flat E0 E1 l)
variable {e : TypeId} {B : Nat} {w w' : World} {v : Value} {n : Nat} {l : List α}
theorem Gn.frame (h : Gn e E0 E1 B w v n l) (hb : Below w.heap.size w w') : Gn e E0 E1 B w' v n l := by
  refine ⟨h.1, ?_⟩
  rcases h.2 with hn | ⟨g, cap, cur, e, hbg, hgg, rest⟩
  · exact .inl hn
  · refine .inr ⟨g, cap, cur, e, hbg, ?_, rest⟩
    rw [hb.block g (Array.getElem?_eq_some_iff.1 hgg).1]; exact hgg
theorem Gn.mono {C : Nat} (h : Gn e E0 E1 B w v n l) (hle : C ≤ B) : Gn e E0 E1 C w v n l := World.ownsRow.mono h hle
theorem Gn.nil (e : TypeId) (E0 E1 : α → Value) (B : Nat) (w : World) : Gn e E0 E1 B w (.slice none 0 0) 0 [] := World.ownsRow_nil w B _ _
theorem Gn.blk (h : Gn e E0 E1 B w v n l) : ∀ k, v.ownBlock = some k → B ≤ k := fun k hk => (World.ownsRow.lt h k hk).1
theorem Gn.len (h : Gn e E0 E1 B w v n l) : n = l.length := by have := h.1; rw [flat_len] at this; omega
theorem Gn.sl (h : Gn e E0 E1 B w v n l) : Sl E0 E1 d w v l := by
  have hn := h.len
  rcases h.2 with ⟨hv, h0⟩ | ⟨g, cap, cur, rfl, hbg, hgg, hnc, rest⟩
  · have : l = [] := List.eq_nil_of_length_eq_zero (by omega)
    subst this
    exact ⟨none, 0, hv, fun i hi => by cases hi⟩
  · refine ⟨some ⟨g, 0, none⟩, cap, by rw [hn], fun i hi => ⟨g, 0, rfl, (Array.getElem?_eq_some_iff.1 hgg).1, ?_⟩⟩
    have hc := fun j hj => World.ownsRow.cellAt (g := g) (cap := cap) (n := n) (xs := flat E0 E1 l) (w := w) (base := B) (e := e) (size := 2) ⟨h.1, .inr ⟨g, cap, cur, rfl, hbg, hgg, hnc, rest⟩⟩ j hj
    have hf := flat_at (E0 := E0) (E1 := E1) (d := d) l i hi
    rw [Nat.zero_add, hc (i * 2) (by omega), hc (i * 2 + 1) (by omega)]
    exact hf
theorem Gn.form (h : Gn e E0 E1 B w v n l) : ∃ oa c, v = .slice oa n c := by
  rcases h.2 with ⟨hv, h0⟩ | ⟨g, cap, cur, rfl, _⟩
  · exact ⟨none, 0, by rw [hv, h0]⟩
  · exact ⟨_, _, rfl⟩
theorem Gn.more (x : α) (h : w.ownsRow B e 2 v (n + 1) (flat E0 E1 l ++ [E0 x, E1 x])) : Gn e E0 E1 B w v (n + 1) (l ++ [x]) := by
  unfold Gn
  rw [flat_snoc]
  exact h
end
theorem two_new (w : World) (x y : Value) (e : TypeId) : ∀ (j : Nat) (v : Value), [x, y][j]? = some v → (w.alloc (.cells #[x, y] e)).cell? ((⟨w.heap.size, 0, none⟩ : Addr).add j) = some v := by
  intro j v hv
  match j, hv with
  | 0, hv => simp at hv; subst hv; simp [Addr.add]
  | 1, hv => simp at hv; subst hv; simp [Addr.add]

/-! ### points and faults -/
def pT (p : Int × Int) : Value := .int .i64 p.1
def pA (p : Int × Int) : Value := .int .i64 p.2
def fE (f : Int × ByteArray) : Value := .int .i64 f.1
def fA (f : Int × ByteArray) : Value := .string f.2
def Ps (w : World) (v : Value) (l : List (Int × Int)) : Prop := Sl pT pA (0, 0) w v l
def Fs (w : World) (v : Value) (l : List (Int × ByteArray)) : Prop := Sl fE fA (0, ⟨#[]⟩) w v l
def Gp (B : Nat) (w : World) (v : Value) (n : Nat) (l : List (Int × Int)) : Prop := Gn 105 pT pA B w v n l
def Gf (B : Nat) (w : World) (v : Value) (n : Nat) (l : List (Int × ByteArray)) : Prop := Gn 37 fE fA B w v n l
theorem infoP0 : (Tryz.prog.info? 105).map (fun i => (i.zero, i.size, i.bytes)) = some (some (.agg #[.int .i64 0, .int .i64 0]), 2, 16) := by kernel_rfl
theorem infoP : ∃ i, Tryz.prog.info? 105 = some i ∧ i.zero = some (.agg #[.int .i64 0, .int .i64 0]) ∧ i.size = 2 ∧ i.bytes = 16 := by
  have h := infoP0
  obtain ⟨i, hi, hzz⟩ := Option.map_eq_some_iff.1 h
  simp only [Prod.mk.injEq] at hzz
  exact ⟨i, hi, hzz.1, hzz.2.1, hzz.2.2⟩
theorem infoF0 : (Tryz.prog.info? 37).map (fun i => (i.zero, i.size, i.bytes)) = some (some (.agg #[.int .i64 0, .string ⟨#[]⟩]), 2, 24) := by kernel_rfl
theorem infoF : ∃ i, Tryz.prog.info? 37 = some i ∧ i.zero = some (.agg #[.int .i64 0, .string ⟨#[]⟩]) ∧ i.size = 2 ∧ i.bytes = 24 := by
  have h := infoF0
  obtain ⟨i, hi, hzz⟩ := Option.map_eq_some_iff.1 h
  simp only [Prod.mk.injEq] at hzz
  exact ⟨i, hi, hzz.1, hzz.2.1, hzz.2.2⟩
theorem fcells (x : Int) (s : ByteArray) : ∀ v ∈ [Value.int .i64 x, Value.string s], v.oneCell' = true := by
  intro v hv; simp at hv; rcases hv with rfl | rfl <;> rfl

end Go.Proofs.YtaallpebfcadjaaGreatDoor.T


/-! Slices of int: as arguments, and made by the call itself. -/
namespace Go.Proofs.YtaallpebfcadjaaGreatDoor.L
open Go.RowKit
set_option maxRecDepth 8000

def vi (x : Int) : Value := .int .i64 x
/-- v is a slice of the numbers l -/
def Li (w : World) (v : Value) (l : List Int) : Prop :=
  ∃ (oa : Option Addr) (c : Nat), v = .slice oa l.length c ∧ ∀ i, i < l.length → ∃ a : Addr, oa = some a ∧ a.block < w.heap.size ∧ w.cell? (a.add i) = some (.int .i64 (l.getD i 0))
theorem add_block (a : Addr) (i : Nat) : (a.add i).block = a.block := by unfold Addr.add; split <;> rfl
theorem add_zero_off (g i : Nat) : (Addr.add ⟨g, 0, none⟩ i) = ⟨g, i, none⟩ := by
  unfold Addr.add
  split
  · rename_i h; rw [h]
  · simp
theorem Li.below {w w' : World} {v : Value} {l : List Int} (h : Li w v l) (hb : Below w.heap.size w w') : Li w' v l := by
  obtain ⟨oa, c, hv, h⟩ := h
  refine ⟨oa, c, hv, fun i hi => ?_⟩
  obtain ⟨a, ha, hl, hc⟩ := h i hi
  exact ⟨a, ha, Nat.lt_of_lt_of_le hl hb.size, (hb.cell (by rw [add_block]; exact hl)).trans hc⟩
theorem Li.over {w w1 w' : World} {v : Value} {l : List Int} (h : Li w v l) (hb : Below w.heap.size w w1) (hb' : Below w1.heap.size w1 w') : Li w' v l := (h.below hb).below hb'
theorem Li.nil (w : World) : Li w (.slice none 0 0) [] := ⟨none, 0, rfl, fun i hi => by cases hi⟩
section
variable {α : Type}
theorem drop_more {l : List α} {k : Nat} {d : α} (h : k < l.length) : l.drop k = l.getD k d :: l.drop (k + 1) := by
  rw [List.drop_eq_getElem_cons h, List.getD_eq_getElem?_getD, List.getElem?_eq_getElem h]; rfl
end
theorem ret_bool {a b : Bool} (h : a = b) : Ending.returned (.bool a) = .returned (.bool b) := by rw [h]
theorem ne_eqI {a b : Int} (h : a ≠ b) : ((a == b) = false) := by
  rw [beq_eq_false_iff_ne]; exact h
/-- the call's own slice v, made since block B, holds the numbers l -/
def Own (B : Nat) (w : World) (v : Value) (l : List Int) : Prop := w.ownsRow B 3 1 v l.length (l.map vi)
theorem Own.frame {B : Nat} {w w' : World} {v : Value} {l : List Int} (h : Own B w v l) (hb : Below w.heap.size w w') : Own B w' v l := by
  refine ⟨h.1, ?_⟩
  rcases h.2 with hn | ⟨g, cap, cur, e, hbg, hgg, rest⟩
  · exact .inl hn
  · refine .inr ⟨g, cap, cur, e, hbg, ?_, rest⟩
    rw [hb.block g (Array.getElem?_eq_some_iff.1 hgg).1]; exact hgg
theorem Own.alloc {B : Nat} {w : World} {v : Value} {l : List Int} (h : Own B w v l) (o : Obj) : Own B (w.alloc o) v l := World.ownsRow.alloc h o
theorem Own.drewN {B : Nat} {w : World} {v : Value} {l : List Int} (h : Own B w v l) (n : Nat) : Own B (w.drewN n) v l := h
theorem Own.mono {B C : Nat} {w : World} {v : Value} {l : List Int} (h : Own B w v l) (hle : C ≤ B) : Own C w v l := World.ownsRow.mono h hle
theorem Own.nil (B : Nat) (w : World) : Own B w (.slice none 0 0) [] := World.ownsRow_nil w B _ _
theorem Own.blk {B : Nat} {w : World} {v : Value} {l : List Int} (h : Own B w v l) : ∀ k, v.ownBlock = some k → B ≤ k := fun k hk => (World.ownsRow.lt h k hk).1
theorem Own.li {B : Nat} {w : World} {v : Value} {l : List Int} (h : Own B w v l) : Li w v l := by
  rcases h.2 with ⟨hn, h0⟩ | ⟨g, cap, cur, rfl, hbg, hgg, hnc, rest⟩
  · have : l = [] := List.eq_nil_of_length_eq_zero h0
    subst this
    exact ⟨none, 0, hn, fun i hi => by cases hi⟩
  · refine ⟨some ⟨g, 0, none⟩, cap, rfl, fun i hi => ⟨_, rfl, (Array.getElem?_eq_some_iff.1 hgg).1, ?_⟩⟩
    have := World.ownsRow.cellAt (g := g) (cap := cap) (n := l.length) (xs := l.map vi) (w := w) (base := B) (e := 3) (size := 1) ⟨h.1, .inr ⟨g, cap, cur, rfl, hbg, hgg, hnc, rest⟩⟩ i (by omega)
    show w.cell? (Addr.add ⟨g, 0, none⟩ i) = _
    rw [add_zero_off, this, List.getElem?_map, List.getD_eq_getElem?_getD, List.getElem?_eq_getElem hi]
    rfl
theorem Own.ext {B : Nat} {w : World} {v : Value} {l m : List Int} (h : Own B w v l) (e : l = m) : Own B w v m := e ▸ h
section
variable {B : Nat} {w w' : World} {g cap : Nat} {l : List Int}
end
end Go.Proofs.YtaallpebfcadjaaGreatDoor.L


/-! Travel functions in plain lists of pairs: what each function answers. -/
namespace Go.Proofs.YtaallpebfcadjaaGreatDoor.T

def tickB (t : Int) : Bool := decide (0 ≤ t) && decide (t ≤ 4096)
def longB (p : Int × Int) : Bool := decide (p.1 + 4096 < p.2)
def pointB (p : Int × Int) : Bool := tickB p.1 && (decide (p.1 ≤ p.2) && !longB p)
def beforeB (p q : Int × Int) : Bool := decide (p.1 < q.1) && decide (p.2 ≤ q.2)
def dec (i : Nat) : ByteArray := ⟨(Lib.decDigits i).toArray⟩
def fl0 (n : Nat) : List (Int × ByteArray) := if 1 ≤ n ∧ n ≤ 16 then [] else [(4, ⟨#[]⟩)]
def fl1 (p : Int × Int) (i : Nat) : List (Int × ByteArray) := if pointB p then [] else [(2, dec i)]
def fl2 (p q : Int × Int) (i : Nat) : List (Int × ByteArray) := if beforeB p q then [] else [(13, dec i)]
def fl3 (l : List (Int × Int)) (i : Nat) : List (Int × ByteArray) := if 0 < i then fl2 (l.getD (i - 1) (0, 0)) (l.getD i (0, 0)) i else []
/-- the faults of the first k points -/
def flt (l : List (Int × Int)) : Nat → List (Int × ByteArray)
  | 0 => fl0 l.length
  | k + 1 => flt l k ++ fl1 (l.getD k (0, 0)) k ++ fl3 l k
def faults (l : List (Int × Int)) : List (Int × ByteArray) := flt l l.length
theorem flt_succ (l : List (Int × Int)) (k : Nat) : flt l (k + 1) = flt l k ++ fl1 (l.getD k (0, 0)) k ++ fl3 l k := rfl
theorem fl1_len (p : Int × Int) (i : Nat) : (fl1 p i).length ≤ 1 := by unfold fl1; split <;> simp
theorem fl2_len (p q : Int × Int) (i : Nat) : (fl2 p q i).length ≤ 1 := by unfold fl2; split <;> simp
theorem fl3_len (l : List (Int × Int)) (i : Nat) : (fl3 l i).length ≤ 1 := by
  unfold fl3; split
  · exact fl2_len _ _ _
  · simp
theorem flt_len (l : List (Int × Int)) : ∀ k, (flt l k).length ≤ 2 * k + 1
  | 0 => by unfold flt fl0; split <;> simp
  | k + 1 => by
    rw [flt_succ, List.length_append, List.length_append]
    have := flt_len l k
    have := fl1_len (l.getD k (0, 0)) k
    have := fl3_len l k
    omega

/-- a travel function -/
structure Ok (l : List (Int × Int)) : Prop where
  least : 1 ≤ l.length
  most : l.length ≤ 16
  each : ∀ i, i < l.length → pointB (l.getD i (0, 0)) = true
  next : ∀ i, i + 1 < l.length → beforeB (l.getD i (0, 0)) (l.getD (i + 1) (0, 0)) = true
theorem fl0_nil (n : Nat) : fl0 n = [] ↔ 1 ≤ n ∧ n ≤ 16 := by unfold fl0; split <;> simp [*]
theorem fl1_nil (p : Int × Int) (i : Nat) : fl1 p i = [] ↔ pointB p = true := by unfold fl1; split <;> simp [*]
theorem fl2_nil (p q : Int × Int) (i : Nat) : fl2 p q i = [] ↔ beforeB p q = true := by unfold fl2; split <;> simp [*]
theorem pointB_iff (p : Int × Int) : pointB p = true ↔ 0 ≤ p.1 ∧ p.1 ≤ 4096 ∧ p.1 ≤ p.2 ∧ p.2 ≤ p.1 + 4096 := by
  unfold pointB tickB longB
  simp [Bool.and_eq_true]
  omega
theorem beforeB_iff (p q : Int × Int) : beforeB p q = true ↔ p.1 < q.1 ∧ p.2 ≤ q.2 := by
  unfold beforeB
  simp [Bool.and_eq_true]
theorem Ok.at {l : List (Int × Int)} (h : Ok l) {i : Nat} (hi : i < l.length) : 0 ≤ (l.getD i (0, 0)).1 ∧ (l.getD i (0, 0)).1 ≤ 4096 ∧ (l.getD i (0, 0)).1 ≤ (l.getD i (0, 0)).2 ∧ (l.getD i (0, 0)).2 ≤ (l.getD i (0, 0)).1 + 4096 := (pointB_iff _).1 (h.each i hi)
theorem Ok.lt {l : List (Int × Int)} (h : Ok l) {i : Nat} (hi : i + 1 < l.length) : (l.getD i (0, 0)).1 < (l.getD (i + 1) (0, 0)).1 ∧ (l.getD i (0, 0)).2 ≤ (l.getD (i + 1) (0, 0)).2 := (beforeB_iff _ _).1 (h.next i hi)

/-! ### arrivals -/
def quo (p q : Int × Int) (t : Int) : Int := p.2 + ((t - p.1) * (q.2 - p.2) + (q.1 - p.1) - 1) / (q.1 - p.1)
def arrT : Int × Int → List (Int × Int) → Int → Int
  | p, [], t => t + (p.2 - p.1)
  | p, q :: r, t => if t < q.1 then quo p q t else arrT q r t
def arr : List (Int × Int) → Int → Int
  | [], _ => 0
  | p :: r, t => if t < p.1 then t + (p.2 - p.1) else arrT p r t
section
variable {l : List (Int × Int)} (h : Ok l)
include h
end
end Go.Proofs.YtaallpebfcadjaaGreatDoor.T


/-! Travel functions in plain lists of pairs: arrivals of any list, latest departures, delays, equal arrivals. -/
namespace Go.Proofs.YtaallpebfcadjaaGreatDoor.T

def befB (f : Int) (p : Int × Int) : Bool := decide (p.1 < f - 1)
def aftB (f : Int) (p : Int × Int) : Bool := decide (f < p.1)
def addN (n : Int) (p : Int × Int) : Int × Int := (p.1, p.2 + n)
def sBef (l : List (Int × Int)) (f : Int) (k : Nat) : List (Int × Int) := (l.take k).filter (befB f)
def sAft (l : List (Int × Int)) (f n : Int) (k : Nat) : List (Int × Int) := ((l.take k).filter (aftB f)).map (addN n)
def sOne (l : List (Int × Int)) (f : Int) : List (Int × Int) := if 0 < f then [(f - 1, arr l (f - 1))] else []
def sMid (l : List (Int × Int)) (f n : Int) : List (Int × Int) := sBef l f l.length ++ sOne l f ++ [(f, arr l f + n)]
def slow (l : List (Int × Int)) (f n : Int) : List (Int × Int) := sMid l f n ++ sAft l f n l.length
section
variable {l : List (Int × Int)} (h : Ok l) {f n : Int} (hf0 : 0 ≤ f) (hf1 : f ≤ 4096) (hn : 0 ≤ n)
include h hf0 hf1
end
end Go.Proofs.YtaallpebfcadjaaGreatDoor.T


/-! The walks of lorryref01's Decimal and of strconv.Itoa below 100. -/
namespace Go.Proofs.YtaallpebfcadjaaGreatDoor.T
open Go.RowKit
set_option maxRecDepth 8000

theorem dec_small {u : Nat} (h : u < 10) : Lib.decDigits u = [UInt8.ofNat (48 + u)] := by rw [Lib.decDigits, dif_pos h]
theorem dec_big {u : Nat} (h : ¬ u < 10) : Lib.decDigits u = Lib.decDigits (u / 10) ++ [UInt8.ofNat (48 + u % 10)] := by rw [Lib.decDigits, dif_neg h]
theorem dec_len : ∀ (k u : Nat), u < 10 ^ (k + 1) → (Lib.decDigits u).length ≤ k + 1
  | 0, u, h => by rw [dec_small (by simpa using h)]; simp
  | k + 1, u, h => by
    by_cases h1 : u < 10
    · rw [dec_small h1]; simp
    · rw [dec_big h1, List.length_append]
      have := dec_len k (u / 10) (by rw [Nat.pow_succ] at h; omega)
      simp; omega
/-- what the library's table of powers of ten holds -/
def Tab (w : World) : Prop := Lib.TabIs Tryz.prog w "internal/strconv.uint64pow10" .u64 Lib.pow10Tab
theorem gTab : Tryz.prog.globalNamed "internal/strconv.uint64pow10" = some 2 := by kernel_rfl
theorem Tab.lt {w : World} (h : Tab w) : 2 < w.heap.size :=
  World.block_lt_of_cell? _ _ (Lib.TabIs.cell h gTab 0 (by decide))
theorem Tab.below {B : Nat} {w w' : World} (h : Tab w) (hB : w.heap.size ≤ B) (hb : Below B w w') : Tab w' := var?_below hb gTab (Nat.lt_of_lt_of_le h.lt hB) h
theorem Tab.over {w W : World} (h : Tab w) (b : Below w.heap.size w W) : Tab W := h.below (Nat.le_refl _) b
theorem Tab.alloc {w : World} (h : Tab w) (o : Obj) : Tab (w.alloc o) := h.over ((Below.refl _ w).alloc (Nat.le_refl _) o)
theorem below_grow3 {B : Nat} (w : World) (h : B ≤ w.heap.size) (os : Array Obj) : Below B w (Sort.grow w os) :=
  ⟨rfl, rfl, rfl, by simp [Sort.grow], fun k hk => by simp only [Sort.grow]; rw [Array.getElem?_append_left (by omega)]⟩
theorem itoa_n (i : Nat) (hi : i ≤ 1000000000) (w : World) (ht : Tab w) :
    Calls Tryz.prog 106 #[.int .i64 i] w fun e w' => e = .returned (.string (dec i)) ∧ Below w.heap.size w w' := by
  refine (Tryz.strconv_Itoa i (by omega) (by omega) _ ht).mono ?_
  rintro e w' ⟨rfl, k, os, hw⟩
  refine ⟨ret_str ?_, ?_⟩
  · show _ = dec i
    unfold dec Lib.itoa
    rw [if_neg (by omega)]
    rfl
  · rw [hw]
    exact (below_drewN (Below.refl _ w) k).trans (below_grow3 (w.drewN k) (Nat.le_refl _) os)

end Go.Proofs.YtaallpebfcadjaaGreatDoor.T


