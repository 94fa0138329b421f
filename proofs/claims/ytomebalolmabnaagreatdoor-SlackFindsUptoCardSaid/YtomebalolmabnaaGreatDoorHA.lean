/-
  DERIVED. HA: a part of the base of layer 13 (made by pack.py).
-/
import Derived.Test.YtomebalolmabnaaGreatDoorRows
import Derived.WalkKit
import Derived.WalkSpells
import Derived.WalkLawsBesides
import Derived.WalkMore
import Derived.Below
import Derived.OwnWalk
import Derived.IntWalk
import Derived.Laws.OwnMore
import Derived.Laws.AppendOwn
import Derived.Deep.AppendLies
import Derived.Deep.Draws
import Derived.Deep.QuietTactic
import Derived.Deep.RegionLaw
import Derived.Deep.RegionWith
import Derived.BigQuiet
import Derived.Lib.Hide
import Derived.WalkSmall
import Derived.Deep.Onto
import Derived.Deep.LoopGhost
import Derived.Handy
import Derived.Lib.ItoaNum
import Derived.Test.YtomebalolmabnaaGreatDoorShelf
/-! Plain Lean: what the functions of package text and of its specification compute, on lists of bytes. -/
namespace Go.Proofs.YtomebalolmabnaaGreatDoor

def dig (c : Nat) : Bool := decide (48 ≤ c) && decide (c ≤ 57)
def let1 (c : Nat) : Bool := decide (97 ≤ c) && decide (c ≤ 122) || decide (65 ≤ c) && decide (c ≤ 90)
def nam (c : Nat) : Bool := let1 c || dig c || c == 95

def nameB (l : List UInt8) : Bool := !l.isEmpty && decide (l.length ≤ 16) && !dig (l.headD 0).toNat && l.all fun c => nam c.toNat

def ltr (c : Nat) : Bool := let1 c || c == 95
theorem nam5 {c : Nat} (h : ltr c = true) : nam c = true := by
 simp [ltr] at h; rcases h with h | h <;> simp [nam, h]
theorem nam6 {c : Nat} (h1 : ¬ ltr c = true) (h2 : (!dig c) = true) : nam c = false := by
 simp [ltr] at h1; simp at h2; simp [nam, h1, h2]
theorem nam7 {c : Nat} (h : (!dig c) = false) : nam c = true := by simp at h; simp [nam, h]
theorem nameB_all (l : List UInt8) (h0 : l ≠ []) (h : l.length ≤ 16) (hd : dig (l.headD 0).toNat = false) : nameB l = l.all fun c => nam c.toNat := by
 unfold nameB; rw [hd]; simp [h, h0]
theorem nameB_no (l : List UInt8) (h : l = [] ∨ 16 < l.length ∨ dig (l.headD 0).toNat = true) : nameB l = false := by
 rcases h with h | h | h
 ·simp [nameB, h]
 ·simp [nameB]; intro _ h2; omega
 ·unfold nameB; rw [h]; simp

theorem take_snoc (s : ByteArray) (k : Nat) (h : k < s.size) : s.data.toList.take (k + 1) = s.data.toList.take k ++ [s[k]] := by
 rw [List.take_succ_eq_append_getElem (by simpa using h)]; rfl
theorem all_step (s : ByteArray) (p : UInt8 → Bool) (k : Nat) (h : k < s.size) (ha : (s.data.toList.take k).all p = true) (hp : p s[k] = true) : (s.data.toList.take (k + 1)).all p = true := by
 rw [take_snoc s k h, List.all_append, ha]; simp [hp]
theorem all_stop (s : ByteArray) (p : UInt8 → Bool) (k : Nat) (h : k < s.size) (hp : p s[k] = false) : s.data.toList.all p = false := by
 rw [List.all_eq_false]; exact ⟨s[k], by rw [← Array.mem_toList_iff.symm]; exact Array.getElem_mem h, by simp [hp]⟩
theorem all_end (s : ByteArray) (p : UInt8 → Bool) (ha : (s.data.toList.take s.size).all p = true) : s.data.toList.all p = true := by
 rwa [List.take_of_length_le (by simp)] at ha
theorem head_of (s : ByteArray) (h : 0 < s.size) : s.data.toList.headD 0 = s[0] := by
 obtain ⟨⟨l⟩⟩ := s
 cases l with
 | nil => simp [ByteArray.size] at h
 | cons a l => rfl
theorem ne_of (s : ByteArray) (h : 0 < s.size) : s.data.toList ≠ [] := by
 obtain ⟨⟨l⟩⟩ := s
 cases l with
 | nil => simp [ByteArray.size] at h
 | cons a l => simp
theorem empty_of (s : ByteArray) (h : s.size = 0) : s = ⟨#[]⟩ := by
 obtain ⟨⟨l⟩⟩ := s
 cases l with
 | nil => rfl
 | cons a l => simp [ByteArray.size] at h

end Go.Proofs.YtomebalolmabnaaGreatDoor




/-! Slices of structs of two one-cell fields: as arguments, and made by the call itself. -/
namespace Go.Proofs.YtomebalolmabnaaGreatDoor.T
open Go.RowKit
set_option maxRecDepth 8000

theorem add_block (a : Addr) (i : Nat) : (a.add i).block = a.block := by unfold Addr.add; split <;> rfl
theorem over {w W w1 : World} (h : Below w.heap.size w W) (b : Below W.heap.size W w1) : Below w.heap.size w w1 := h.trans (b.mono h.size)
theorem below_drewN {B : Nat} {a w : World} (h : Below B a w) (n : Nat) : Below B a (w.drewN n) := ⟨h.os, h.tape, h.output, h.size, h.block⟩
theorem below_drew {B : Nat} {a w : World} (h : Below B a w) : Below B a w.drew := ⟨h.os, h.tape, h.output, h.size, h.block⟩

section
variable {α : Type}
theorem drop_more {l : List α} {k : Nat} {d : α} (h : k < l.length) : l.drop k = l.getD k d :: l.drop (k + 1) := by
 rw [List.drop_eq_getElem_cons h, List.getD_eq_getElem?_getD, List.getElem?_eq_getElem h]; rfl
theorem take_more {l : List α} {k : Nat} {d : α} (h : k < l.length) : l.take (k + 1) = l.take k ++ [l.getD k d] := by
 rw [List.take_succ_eq_append_getElem h, List.getD_eq_getElem?_getD, List.getElem?_eq_getElem h]; rfl
theorem getD_mem {l : List α} {k : Nat} {d : α} (h : k < l.length) : l.getD k d ∈ l := by
 rw [List.getD_eq_getElem?_getD, List.getElem?_eq_getElem h]; exact List.getElem_mem h
end
theorem ret_bool {a b : Bool} (h : a = b) : Ending.returned (.bool a) = .returned (.bool b) := by rw [h]
theorem ret_int {k : IntKind} {a b : Int} (h : a = b) : Ending.returned (.int k a) = .returned (.int k b) := by rw [h]
theorem ret_str {a b : ByteArray} (h : a = b) : Ending.returned (.string a) = .returned (.string b) := by rw [h]
theorem ne_eqN {a b : Nat} (h : a ≠ b) : (((a : Int) == (b : Int)) = false) := by
 rw [beq_eq_false_iff_ne]; omega
theorem ne_neN {a b : Nat} (h : a ≠ b) : (((a : Int) != (b : Int)) = true) := by
 rw [bne_iff_ne]; omega
theorem ne_eqI {a b : Int} (h : a ≠ b) : ((a == b) = false) := by
 rw [beq_eq_false_iff_ne]; exact h
section
variable {α : Type} (E0 E1 : α → Value) (d : α)
def Sl (w : World) (v : Value) (l : List α) : Prop :=
  ∃ (oa : Option Addr) (c : Nat), v = .slice oa l.length c ∧ ∀ i, i < l.length → ∃ b o : Nat, oa = some ⟨b, o, none⟩ ∧ b < w.heap.size ∧
    w.cell? ⟨b, o + i * 2, none⟩ = some (E0 (l.getD i d)) ∧ w.cell? ⟨b, o + i * 2 + 1, none⟩ = some (E1 (l.getD i d))
variable {E0 E1 d}
theorem Sl.below {w w' : World} {v : Value} {l : List α} (h : Sl E0 E1 d w v l) (hb : Below w.heap.size w w') : Sl E0 E1 d w' v l := by
 obtain ⟨oa, c, hv, h⟩ := h
 refine ⟨oa, c, hv, fun i hi => ?_⟩
 obtain ⟨b, o, ha, hl, h0, h1⟩ := h i hi
 exact ⟨b, o, ha, Nat.lt_of_lt_of_le hl hb.size, (hb.cell (p := ⟨b, _, none⟩) hl).trans h0, (hb.cell (p := ⟨b, _, none⟩) hl).trans h1⟩
theorem Sl.over {w w1 w' : World} {v : Value} {l : List α} (h : Sl E0 E1 d w v l) (hb : Below w.heap.size w w1) (hb' : Below w1.heap.size w1 w') : Sl E0 E1 d w' v l := (h.below hb).below hb'
theorem Sl.nil (w : World) : Sl E0 E1 d w (.slice none 0 0) [] := ⟨none, 0, rfl, fun i hi => by cases hi⟩

def flat (E0 E1 : α → Value) (l : List α) : List Value := l.flatMap fun x => [E0 x, E1 x]
theorem flat_len (l : List α) : (flat E0 E1 l).length = l.length * 2 := by
 unfold flat
 induction l with
 | nil => rfl
 | cons x l ih => rw [List.flatMap_cons, List.length_append, ih]; simp; omega
theorem flat_at : ∀ (l : List α) (i : Nat), i < l.length → (flat E0 E1 l)[i * 2]? = some (E0 (l.getD i d)) ∧ (flat E0 E1 l)[i * 2 + 1]? = some (E1 (l.getD i d))
 | x :: l, 0, _ => by simp [flat]
 | x :: l, i + 1, h => by
  have := flat_at l i (by simpa using h)
  rw [show (i + 1) * 2 = i * 2 + 2 by omega]
  unfold flat at this ⊢
  rw [List.flatMap_cons]
  simpa using this
theorem flat_snoc (l : List α) (x : α) : flat E0 E1 (l ++ [x]) = flat E0 E1 l ++ [E0 x, E1 x] := by unfold flat; simp

def Gn (e : TypeId) (E0 E1 : α → Value) (B : Nat) (w : World) (v : Value) (n : Nat) (l : List α) : Prop := w.ownsRow B e 2 v n (flat E0 E1 l)
variable {e : TypeId} {B : Nat} {w w' : World} {v : Value} {n : Nat} {l : List α}
theorem Gn.frame (h : Gn e E0 E1 B w v n l) (hb : Below w.heap.size w w') : Gn e E0 E1 B w' v n l := by
 refine ⟨h.1, ?_⟩
 rcases h.2 with hn | ⟨g, cap, cur, e, hbg, hgg, rest⟩
 ·exact .inl hn
 ·refine .inr ⟨g, cap, cur, e, hbg, ?_, rest⟩
  rw [hb.block g (Array.getElem?_eq_some_iff.1 hgg).1]; exact hgg
theorem Gn.mono {C : Nat} (h : Gn e E0 E1 B w v n l) (hle : C ≤ B) : Gn e E0 E1 C w v n l := World.ownsRow.mono h hle
theorem Gn.nil (e : TypeId) (E0 E1 : α → Value) (B : Nat) (w : World) : Gn e E0 E1 B w (.slice none 0 0) 0 [] := World.ownsRow_nil w B _ _
theorem Gn.blk (h : Gn e E0 E1 B w v n l) : ∀ k, v.ownBlock = some k → B ≤ k := fun k hk => (World.ownsRow.lt h k hk).1
theorem Gn.len (h : Gn e E0 E1 B w v n l) : n = l.length := by have := h.1; rw [flat_len] at this; omega
theorem Gn.sl (h : Gn e E0 E1 B w v n l) : Sl E0 E1 d w v l := by
 have hn := h.len
 rcases h.2 with ⟨hv, h0⟩ | ⟨g, cap, cur, rfl, hbg, hgg, hnc, rest⟩
 ·have : l = [] := List.eq_nil_of_length_eq_zero (by omega)
  subst this
  exact ⟨none, 0, hv, fun i hi => by cases hi⟩
 ·refine ⟨some ⟨g, 0, none⟩, cap, by rw [hn], fun i hi => ⟨g, 0, rfl, (Array.getElem?_eq_some_iff.1 hgg).1, ?_⟩⟩
  have hc := fun j hj => World.ownsRow.cellAt (g := g) (cap := cap) (n := n) (xs := flat E0 E1 l) (w := w) (base := B) (e := e) (size := 2) ⟨h.1, .inr ⟨g, cap, cur, rfl, hbg, hgg, hnc, rest⟩⟩ j hj
  have hf := flat_at (E0 := E0) (E1 := E1) (d := d) l i hi
  rw [Nat.zero_add, hc (i * 2) (by omega), hc (i * 2 + 1) (by omega)]
  exact hf
theorem Gn.form (h : Gn e E0 E1 B w v n l) : ∃ oa c, v = .slice oa n c := by
 rcases h.2 with ⟨hv, h0⟩ | ⟨g, cap, cur, rfl, _⟩
 ·exact ⟨none, 0, by rw [hv, h0]⟩
 ·exact ⟨_, _, rfl⟩
theorem Gn.more (x : α) (h : w.ownsRow B e 2 v (n + 1) (flat E0 E1 l ++ [E0 x, E1 x])) : Gn e E0 E1 B w v (n + 1) (l ++ [x]) := by
 unfold Gn
 rw [flat_snoc]
 exact h
end
theorem two_new (w : World) (x y : Value) (e : TypeId) : ∀ (j : Nat) (v : Value), [x, y][j]? = some v → (w.alloc (.cells #[x, y] e)).cell? ((⟨w.heap.size, 0, none⟩ : Addr).add j) = some v := by
 intro j v hv
 match j, hv with
 | 0, hv => simp at hv; subst hv; simp [Addr.add]
 | 1, hv => simp at hv; subst hv; simp [Addr.add]

def pT (p : Int × Int) : Value := .int .i64 p.1
def pA (p : Int × Int) : Value := .int .i64 p.2
def fE (f : Int × ByteArray) : Value := .int .i64 f.1
def fA (f : Int × ByteArray) : Value := .string f.2
def Ps (w : World) (v : Value) (l : List (Int × Int)) : Prop := Sl pT pA (0, 0) w v l
def Fs (w : World) (v : Value) (l : List (Int × ByteArray)) : Prop := Sl fE fA (0, ⟨#[]⟩) w v l
def Gf (B : Nat) (w : World) (v : Value) (n : Nat) (l : List (Int × ByteArray)) : Prop := Gn 101 fE fA B w v n l
theorem infoF0 : (Tryz.prog.info? 101).map (fun i => (i.zero, i.size, i.bytes)) = some (some (.agg #[.int .i64 0, .string ⟨#[]⟩]), 2, 24) := by kernel_rfl
theorem infoF : ∃ i, Tryz.prog.info? 101 = some i ∧ i.zero = some (.agg #[.int .i64 0, .string ⟨#[]⟩]) ∧ i.size = 2 ∧ i.bytes = 24 := by
 have h := infoF0
 obtain ⟨i, hi, hzz⟩ := Option.map_eq_some_iff.1 h
 simp only [Prod.mk.injEq] at hzz
 exact ⟨i, hi, hzz.1, hzz.2.1, hzz.2.2⟩
theorem fcells (x : Int) (s : ByteArray) : ∀ v ∈ [Value.int .i64 x, Value.string s], v.oneCell' = true := by
 intro v hv; simp at hv; rcases hv with rfl | rfl <;> rfl

end Go.Proofs.YtomebalolmabnaaGreatDoor.T




/-! Slices of int: as arguments, and made by the call itself. -/
namespace Go.Proofs.YtomebalolmabnaaGreatDoor.L
open Go.RowKit
set_option maxRecDepth 8000

def vi (x : Int) : Value := .int .i64 x
def Li (w : World) (v : Value) (l : List Int) : Prop :=
  ∃ (oa : Option Addr) (c : Nat), v = .slice oa l.length c ∧ ∀ i, i < l.length → ∃ a : Addr, oa = some a ∧ a.block < w.heap.size ∧ w.cell? (a.add i) = some (.int .i64 (l.getD i 0))
theorem add_block (a : Addr) (i : Nat) : (a.add i).block = a.block := by unfold Addr.add; split <;> rfl
theorem add_zero_off (g i : Nat) : (Addr.add ⟨g, 0, none⟩ i) = ⟨g, i, none⟩ := by
 unfold Addr.add
 split
 ·rename_i h; rw [h]
 ·simp
theorem Li.below {w w' : World} {v : Value} {l : List Int} (h : Li w v l) (hb : Below w.heap.size w w') : Li w' v l := by
 obtain ⟨oa, c, hv, h⟩ := h
 refine ⟨oa, c, hv, fun i hi => ?_⟩
 obtain ⟨a, ha, hl, hc⟩ := h i hi
 exact ⟨a, ha, Nat.lt_of_lt_of_le hl hb.size, (hb.cell (by rw [add_block]; exact hl)).trans hc⟩
theorem Li.over {w w1 w' : World} {v : Value} {l : List Int} (h : Li w v l) (hb : Below w.heap.size w w1) (hb' : Below w1.heap.size w1 w') : Li w' v l := (h.below hb).below hb'
theorem Li.nil (w : World) : Li w (.slice none 0 0) [] := ⟨none, 0, rfl, fun i hi => by cases hi⟩
section
variable {α : Type}
theorem drop_more {l : List α} {k : Nat} {d : α} (h : k < l.length) : l.drop k = l.getD k d :: l.drop (k + 1) := by
 rw [List.drop_eq_getElem_cons h, List.getD_eq_getElem?_getD, List.getElem?_eq_getElem h]; rfl
end
theorem ret_bool {a b : Bool} (h : a = b) : Ending.returned (.bool a) = .returned (.bool b) := by rw [h]
theorem ne_neI {a b : Int} (h : a ≠ b) : ((a != b) = true) := by
 rw [bne_iff_ne]; exact h

def Own (B : Nat) (w : World) (v : Value) (l : List Int) : Prop := w.ownsRow B 3 1 v l.length (l.map vi)
theorem Own.frame {B : Nat} {w w' : World} {v : Value} {l : List Int} (h : Own B w v l) (hb : Below w.heap.size w w') : Own B w' v l := by
 refine ⟨h.1, ?_⟩
 rcases h.2 with hn | ⟨g, cap, cur, e, hbg, hgg, rest⟩
 ·exact .inl hn
 ·refine .inr ⟨g, cap, cur, e, hbg, ?_, rest⟩
  rw [hb.block g (Array.getElem?_eq_some_iff.1 hgg).1]; exact hgg
theorem Own.alloc {B : Nat} {w : World} {v : Value} {l : List Int} (h : Own B w v l) (o : Obj) : Own B (w.alloc o) v l := World.ownsRow.alloc h o
theorem Own.drewN {B : Nat} {w : World} {v : Value} {l : List Int} (h : Own B w v l) (n : Nat) : Own B (w.drewN n) v l := h
theorem Own.mono {B C : Nat} {w : World} {v : Value} {l : List Int} (h : Own B w v l) (hle : C ≤ B) : Own C w v l := World.ownsRow.mono h hle
theorem Own.nil (B : Nat) (w : World) : Own B w (.slice none 0 0) [] := World.ownsRow_nil w B _ _
theorem Own.blk {B : Nat} {w : World} {v : Value} {l : List Int} (h : Own B w v l) : ∀ k, v.ownBlock = some k → B ≤ k := fun k hk => (World.ownsRow.lt h k hk).1
theorem Own.li {B : Nat} {w : World} {v : Value} {l : List Int} (h : Own B w v l) : Li w v l := by
 rcases h.2 with ⟨hn, h0⟩ | ⟨g, cap, cur, rfl, hbg, hgg, hnc, rest⟩
 ·have : l = [] := List.eq_nil_of_length_eq_zero h0
  subst this
  exact ⟨none, 0, hn, fun i hi => by cases hi⟩
 ·refine ⟨some ⟨g, 0, none⟩, cap, rfl, fun i hi => ⟨_, rfl, (Array.getElem?_eq_some_iff.1 hgg).1, ?_⟩⟩
  have := World.ownsRow.cellAt (g := g) (cap := cap) (n := l.length) (xs := l.map vi) (w := w) (base := B) (e := 3) (size := 1) ⟨h.1, .inr ⟨g, cap, cur, rfl, hbg, hgg, hnc, rest⟩⟩ i (by omega)
  show w.cell? (Addr.add ⟨g, 0, none⟩ i) = _
  rw [add_zero_off, this, List.getElem?_map, List.getD_eq_getElem?_getD, List.getElem?_eq_getElem hi]
  rfl
theorem Own.ext {B : Nat} {w : World} {v : Value} {l m : List Int} (h : Own B w v l) (e : l = m) : Own B w v m := e ▸ h
def Rw (B : Nat) (w : World) (g cap : Nat) (l : List Int) : Prop := Own B w (.slice (some ⟨g, 0, none⟩) l.length cap) l
section
variable {B : Nat} {w w' : World} {g cap : Nat} {l : List Int}
theorem Rw.cell (h : Rw B w g cap l) (k : Nat) (hk : k < l.length) : w.cell? ⟨g, k, none⟩ = some (.int .i64 (l.getD k 0)) := by
 have := World.ownsRow.cellAt h k (by omega)
 rw [this, List.getElem?_map, List.getD_eq_getElem?_getD, List.getElem?_eq_getElem hk]
 rfl
theorem Rw.frozen (h : Rw B w g cap l) (k : Nat) : w.frozen? ⟨g, k, none⟩ = false := World.ownsRow.frozenAt h k
theorem Rw.store (h : Rw B w g cap l) (k : Nat) (c : Int) : Rw B (w.setCell ⟨g, k, none⟩ (.int .i64 c)) g cap (l.set k c) := by
 have := (World.ownsRow.stored h k (vi c)).1
 unfold Rw Own
 rw [List.length_set, List.map_set]
 exact this
theorem Rw.lt (h : Rw B w g cap l) : B ≤ g ∧ g < w.heap.size := World.ownsRow.lt h g rfl
theorem Rw.of_block (h : Rw B w g cap l) (hb : w'.heap[g]? = w.heap[g]?) : Rw B w' g cap l := by
 refine ⟨h.1, ?_⟩
 rcases h.2 with ⟨h', _⟩ | ⟨g', cap', cur, h', hbg, hg, rest⟩
 ·cases h'
 ·cases h'; exact .inr ⟨g, cap, cur, rfl, hbg, hb.trans hg, rest⟩
theorem Rw.below (h : Rw B w g cap l) (hb : Below w.heap.size w w') : Rw B w' g cap l := h.of_block (hb.block g h.lt.2)
theorem Rw.ext (h : Rw B w g cap l) {m : List Int} (e : m = l) : Rw B w g cap m := e ▸ h
end
end Go.Proofs.YtomebalolmabnaaGreatDoor.L




/-! Travel functions in plain lists of pairs: what each function answers. -/
namespace Go.Proofs.YtomebalolmabnaaGreatDoor.T

def tickB (t : Int) : Bool := decide (0 ≤ t) && decide (t ≤ 4096)
def longB (p : Int × Int) : Bool := decide (p.1 + 4096 < p.2)
def pointB (p : Int × Int) : Bool := tickB p.1 && (decide (p.1 ≤ p.2) && !longB p)
def beforeB (p q : Int × Int) : Bool := decide (p.1 < q.1) && decide (p.2 ≤ q.2)
def dec (i : Nat) : ByteArray := ⟨(Lib.decDigits i).toArray⟩
def fl0 (n : Nat) : List (Int × ByteArray) := if 1 ≤ n ∧ n ≤ 16 then [] else [(4, ⟨#[]⟩)]
def fl1 (p : Int × Int) (i : Nat) : List (Int × ByteArray) := if pointB p then [] else [(2, dec i)]
def fl2 (p q : Int × Int) (i : Nat) : List (Int × ByteArray) := if beforeB p q then [] else [(13, dec i)]
def fl3 (l : List (Int × Int)) (i : Nat) : List (Int × ByteArray) := if 0 < i then fl2 (l.getD (i - 1) (0, 0)) (l.getD i (0, 0)) i else []
def flt (l : List (Int × Int)) : Nat → List (Int × ByteArray)
  | 0 => fl0 l.length
  | k + 1 => flt l k ++ fl1 (l.getD k (0, 0)) k ++ fl3 l k
def faults (l : List (Int × Int)) : List (Int × ByteArray) := flt l l.length
theorem flt_succ (l : List (Int × Int)) (k : Nat) : flt l (k + 1) = flt l k ++ fl1 (l.getD k (0, 0)) k ++ fl3 l k := rfl
theorem fl1_len (p : Int × Int) (i : Nat) : (fl1 p i).length ≤ 1 := by unfold fl1; split <;> simp
theorem fl2_len (p q : Int × Int) (i : Nat) : (fl2 p q i).length ≤ 1 := by unfold fl2; split <;> simp
theorem fl3_len (l : List (Int × Int)) (i : Nat) : (fl3 l i).length ≤ 1 := by
 unfold fl3; split
 ·exact fl2_len _ _ _
 ·simp
theorem flt_len (l : List (Int × Int)) : ∀ k, (flt l k).length ≤ 2 * k + 1
 | 0 => by unfold flt fl0; split <;> simp
 | k + 1 => by
  rw [flt_succ, List.length_append, List.length_append]
  have := flt_len l k
  have := fl1_len (l.getD k (0, 0)) k
  have := fl3_len l k
  omega

structure Ok (l : List (Int × Int)) : Prop where
  least : 1 ≤ l.length
  most : l.length ≤ 16
  each : ∀ i, i < l.length → pointB (l.getD i (0, 0)) = true
  next : ∀ i, i + 1 < l.length → beforeB (l.getD i (0, 0)) (l.getD (i + 1) (0, 0)) = true
theorem fl0_nil (n : Nat) : fl0 n = [] ↔ 1 ≤ n ∧ n ≤ 16 := by unfold fl0; split <;> simp [*]
theorem fl1_nil (p : Int × Int) (i : Nat) : fl1 p i = [] ↔ pointB p = true := by unfold fl1; split <;> simp [*]
theorem fl2_nil (p q : Int × Int) (i : Nat) : fl2 p q i = [] ↔ beforeB p q = true := by unfold fl2; split <;> simp [*]
theorem flt_nil (l : List (Int × Int)) : ∀ k, flt l k = [] ↔ (1 ≤ l.length ∧ l.length ≤ 16) ∧ (∀ i, i < k → pointB (l.getD i (0, 0)) = true) ∧ (∀ i, i + 1 < k → beforeB (l.getD i (0, 0)) (l.getD (i + 1) (0, 0)) = true)
 | 0 => by
  show fl0 _ = [] ↔ _
  rw [fl0_nil]
  exact ⟨fun h => ⟨h, fun i hi => absurd hi (Nat.not_lt_zero _), fun i hi => absurd hi (by omega)⟩, fun h => h.1⟩
 | k + 1 => by
  rw [flt_succ, List.append_eq_nil_iff, List.append_eq_nil_iff, flt_nil l k, fl1_nil]
  have h3 : fl3 l k = [] ↔ (0 < k → beforeB (l.getD (k - 1) (0, 0)) (l.getD k (0, 0)) = true) := by
   unfold fl3
   by_cases h : 0 < k
   ·rw [if_pos h, fl2_nil]; exact ⟨fun a _ => a, fun a => a h⟩
   ·rw [if_neg h]; exact ⟨fun _ a => absurd a h, fun _ => rfl⟩
  rw [h3]
  constructor
  ·rintro ⟨⟨⟨h0, h1, h2⟩, hp⟩, hb⟩
   refine ⟨h0, fun i hi => ?_, fun i hi => ?_⟩
   ·by_cases e : i = k
    ·rw [e]; exact hp
    ·exact h1 i (by omega)
   ·by_cases e : i + 1 = k
    ·have := hb (by omega)
     rw [← e] at this
     exact this
    ·exact h2 i (by omega)
  ·rintro ⟨h0, h1, h2⟩
   refine ⟨⟨⟨h0, fun i hi => h1 i (by omega), fun i hi => h2 i (by omega)⟩, h1 k (by omega)⟩, fun hk => ?_⟩
   have := h2 (k - 1) (by omega)
   rwa [show k - 1 + 1 = k by omega] at this
theorem faults_nil (l : List (Int × Int)) : faults l = [] ↔ Ok l := by
 unfold faults
 rw [flt_nil]
 exact ⟨fun ⟨h0, h1, h2⟩ => ⟨h0.1, h0.2, h1, h2⟩, fun h => ⟨⟨h.least, h.most⟩, h.each, h.next⟩⟩
def okB (l : List (Int × Int)) : Bool := decide ((faults l).length = 0)
theorem okB_iff (l : List (Int × Int)) : okB l = true ↔ Ok l := by
 unfold okB
 rw [decide_eq_true_iff, List.length_eq_zero_iff, faults_nil]
theorem okB_len (l : List (Int × Int)) : (decide (l.length ≤ 16) && decide ((faults l).length = 0)) = okB l := by
 show (decide (l.length ≤ 16) && okB l) = okB l
 cases e : okB l
 ·rw [Bool.and_false]
 ·rw [decide_eq_true ((okB_iff l).1 e).most]; rfl
theorem pointB_iff (p : Int × Int) : pointB p = true ↔ 0 ≤ p.1 ∧ p.1 ≤ 4096 ∧ p.1 ≤ p.2 ∧ p.2 ≤ p.1 + 4096 := by
 unfold pointB tickB longB
 simp [Bool.and_eq_true]
 omega
theorem beforeB_iff (p q : Int × Int) : beforeB p q = true ↔ p.1 < q.1 ∧ p.2 ≤ q.2 := by
 unfold beforeB
 simp [Bool.and_eq_true]
theorem Ok.at {l : List (Int × Int)} (h : Ok l) {i : Nat} (hi : i < l.length) : 0 ≤ (l.getD i (0, 0)).1 ∧ (l.getD i (0, 0)).1 ≤ 4096 ∧ (l.getD i (0, 0)).1 ≤ (l.getD i (0, 0)).2 ∧ (l.getD i (0, 0)).2 ≤ (l.getD i (0, 0)).1 + 4096 := (pointB_iff _).1 (h.each i hi)
theorem Ok.lt {l : List (Int × Int)} (h : Ok l) {i : Nat} (hi : i + 1 < l.length) : (l.getD i (0, 0)).1 < (l.getD (i + 1) (0, 0)).1 ∧ (l.getD i (0, 0)).2 ≤ (l.getD (i + 1) (0, 0)).2 := (beforeB_iff _ _).1 (h.next i hi)

def quo (p q : Int × Int) (t : Int) : Int := p.2 + ((t - p.1) * (q.2 - p.2) + (q.1 - p.1) - 1) / (q.1 - p.1)
def arrT : Int × Int → List (Int × Int) → Int → Int
  | p, [], t => t + (p.2 - p.1)
  | p, q :: r, t => if t < q.1 then quo p q t else arrT q r t
def arr : List (Int × Int) → Int → Int
  | [], _ => 0
  | p :: r, t => if t < p.1 then t + (p.2 - p.1) else arrT p r t
theorem arr_cons (p : Int × Int) (r : List (Int × Int)) (t : Int) : arr (p :: r) t = if t < p.1 then t + (p.2 - p.1) else arrT p r t := rfl
theorem arrT_nil (p : Int × Int) (t : Int) : arrT p [] t = t + (p.2 - p.1) := rfl
theorem arrT_cons (p q : Int × Int) (r : List (Int × Int)) (t : Int) : arrT p (q :: r) t = if t < q.1 then quo p q t else arrT q r t := rfl
def arrX (l : List (Int × Int)) (t : Int) : Nat → Int
  | 0 => arr l t
  | k + 1 => arrT (l.getD k (0, 0)) (l.drop (k + 1)) t
theorem arrX_zero (l : List (Int × Int)) (t : Int) : arrX l t 0 = arr l t := rfl
theorem arrX_step {l : List (Int × Int)} {t : Int} {k : Nat} (hk : k < l.length) (ht : (l.getD k (0, 0)).1 ≤ t) : arrX l t k = arrX l t (k + 1) := by
 cases k with
 | zero =>
  cases l with
  | nil => simp at hk
  | cons p r =>
   have hp : p.1 ≤ t := ht
   show (if t < p.1 then _ else arrT p r t) = arrT p r t
   rw [if_neg (by omega)]
 | succ k =>
  show arrT _ (l.drop (k + 1)) t = arrT _ _ t
  rw [drop_more (d := (0, 0)) hk]
  generalize l.getD (k + 1) (0, 0) = q at *
  show (if t < q.1 then _ else _) = _
  rw [if_neg (by omega)]
theorem arr_first {l : List (Int × Int)} {t : Int} (hk : 0 < l.length) (ht : t < (l.getD 0 (0, 0)).1) : arr l t = t + ((l.getD 0 (0, 0)).2 - (l.getD 0 (0, 0)).1) := by
 cases l with
 | nil => simp at hk
 | cons p r => exact if_pos ht
theorem arrX_end {l : List (Int × Int)} {t : Int} {k : Nat} (hk : k + 1 = l.length) : arrX l t (k + 1) = t + ((l.getD k (0, 0)).2 - (l.getD k (0, 0)).1) := by
 show arrT _ _ _ = _
 rw [List.drop_of_length_le (by omega)]; rfl
theorem arrX_mid {l : List (Int × Int)} {t : Int} {k : Nat} (hk : k + 1 < l.length) (ht : t < (l.getD (k + 1) (0, 0)).1) : arrX l t (k + 1) = quo (l.getD k (0, 0)) (l.getD (k + 1) (0, 0)) t := by
 show arrT _ _ _ = _
 rw [drop_more (d := (0, 0)) hk]
 exact if_pos ht

theorem up_le {x y z : Int} (hy : 0 < y) (h : x ≤ z * y) : (x + y - 1) / y ≤ z := by
 have : (x + y - 1) / y < z + 1 := Int.ediv_lt_of_lt_mul hy (by rw [Int.add_mul, Int.one_mul]; omega)
 omega
theorem le_up {x y z : Int} (hy : 0 < y) (h : z * y ≤ x) : z ≤ (x + y - 1) / y := Int.le_ediv_of_mul_le hy (by omega)
theorem up_mono {x x' y : Int} (hy : 0 < y) (h : x ≤ x') : (x + y - 1) / y ≤ (x' + y - 1) / y := Int.ediv_le_ediv hy (by omega)
theorem quo_le {p q : Int × Int} {t : Int} (_h1 : p.1 ≤ t) (h2 : t ≤ q.1) (hpq : p.1 < q.1) (ha : p.2 ≤ q.2) : quo p q t ≤ q.2 := by
 unfold quo
 have hm : (t - p.1) * (q.2 - p.2) ≤ (q.2 - p.2) * (q.1 - p.1) := by
  rw [Int.mul_comm (q.2 - p.2)]
  exact Int.mul_le_mul_of_nonneg_right (by omega) (by omega)
 have := up_le (y := q.1 - p.1) (by omega) hm
 omega
theorem quo_ge {p q : Int × Int} {t : Int} (_h1 : p.1 ≤ t) (hpq : p.1 < q.1) (ha : p.2 ≤ q.2) : p.2 ≤ quo p q t := by
 unfold quo
 have hm : 0 * (q.1 - p.1) ≤ (t - p.1) * (q.2 - p.2) := by
  rw [Int.zero_mul]
  exact Int.mul_nonneg (by omega) (by omega)
 have := le_up (y := q.1 - p.1) (by omega) hm
 omega
theorem quo_mono {p q : Int × Int} {t : Int} (hpq : p.1 < q.1) (ha : p.2 ≤ q.2) : quo p q t ≤ quo p q (t + 1) := by
 unfold quo
 have hm : (t - p.1) * (q.2 - p.2) ≤ (t + 1 - p.1) * (q.2 - p.2) := Int.mul_le_mul_of_nonneg_right (by omega) (by omega)
 have := up_mono (y := q.1 - p.1) (by omega) hm
 omega
theorem quo_far {p q : Int × Int} {t : Int} (h1 : p.1 ≤ t) (h2 : t ≤ q.1) (hpq : p.1 < q.1) (hp : p.1 ≤ p.2) (hq : q.1 ≤ q.2) : t ≤ quo p q t := by
 unfold quo
 have hm : (t - p.2) * (q.1 - p.1) ≤ (t - p.1) * (q.2 - p.2) := by
  have a1 : (t - p.1) * (q.1 - p.2) ≤ (t - p.1) * (q.2 - p.2) := Int.mul_le_mul_of_nonneg_left (by omega) (by omega)
  have a2 : (p.1 - p.2) * (q.1 - p.1) ≤ (p.1 - p.2) * (t - p.1) := by
   have := Int.mul_le_mul_of_nonneg_left (c := p.2 - p.1) (show t - p.1 ≤ q.1 - p.1 by omega) (by omega)
   have e1 : (p.1 - p.2) * (q.1 - p.1) = -((p.2 - p.1) * (q.1 - p.1)) := by rw [← Int.neg_mul]; congr 1; omega
   have e2 : (p.1 - p.2) * (t - p.1) = -((p.2 - p.1) * (t - p.1)) := by rw [← Int.neg_mul]; congr 1; omega
   omega
  grind
 have := le_up (y := q.1 - p.1) (by omega) hm
 omega
def good (p : Int × Int) : Prop := 0 ≤ p.1 ∧ p.1 ≤ 4096 ∧ p.1 ≤ p.2 ∧ p.2 ≤ p.1 + 4096
def chn : Int × Int → List (Int × Int) → Prop
  | p, [] => good p
  | p, q :: r => good p ∧ p.1 < q.1 ∧ p.2 ≤ q.2 ∧ chn q r
theorem chn_good : ∀ {p : Int × Int} {r : List (Int × Int)}, chn p r → good p
 | _, [], h => h
 | _, _ :: _, h => h.1
theorem ok_chn : ∀ (r : List (Int × Int)) (p : Int × Int), (∀ i, i < (p :: r).length → pointB ((p :: r).getD i (0, 0)) = true) → (∀ i, i + 1 < (p :: r).length → beforeB ((p :: r).getD i (0, 0)) ((p :: r).getD (i + 1) (0, 0)) = true) → chn p r
 | [], p, h1, _ => (pointB_iff _).1 (h1 0 (by simp))
 | q :: r, p, h1, h2 => by
  have h3 := (beforeB_iff _ _).1 (h2 0 (by simp))
  exact ⟨(pointB_iff _).1 (h1 0 (by simp)), h3.1, h3.2, ok_chn r q (fun i hi => h1 (i + 1) (by simpa using hi)) (fun i hi => h2 (i + 1) (by simpa using hi))⟩
theorem Ok.chn {l : List (Int × Int)} (h : Ok l) : ∃ p r, l = p :: r ∧ chn p r := by
 cases l with
 | nil => exact absurd h.least (by simp)
 | cons p r => exact ⟨p, r, rfl, ok_chn r p h.each h.next⟩
theorem arrT_ge : ∀ (r : List (Int × Int)) (p : Int × Int) (t : Int), chn p r → p.1 ≤ t → p.2 ≤ arrT p r t ∧ t ≤ arrT p r t ∧ arrT p r t ≤ t + 8192
 | [], p, t, h, ht => by
  have := chn_good h
  unfold good at this
  rw [arrT_nil]
  omega
 | q :: r, p, t, ⟨hp, h1, h2, hc⟩, ht => by
  rw [arrT_cons]
  have hq := chn_good hc
  unfold good at hp hq
  by_cases hlt : t < q.1
  ·rw [if_pos hlt]
   have a1 := quo_ge ht h1 h2
   have a2 := quo_far ht (by omega) h1 hp.2.2.1 hq.2.2.1
   have a3 := quo_le ht (by omega) h1 h2
   omega
  ·rw [if_neg hlt]
   have := arrT_ge r q t hc (by omega)
   omega
theorem arrT_mono : ∀ (r : List (Int × Int)) (p : Int × Int) (t : Int), chn p r → p.1 ≤ t → arrT p r t ≤ arrT p r (t + 1)
 | [], p, t, _, _ => by rw [arrT_nil, arrT_nil]; omega
 | q :: r, p, t, ⟨_, h1, h2, hc⟩, ht => by
  rw [arrT_cons, arrT_cons]
  by_cases a : t < q.1
  ·rw [if_pos a]
   by_cases b : t + 1 < q.1
   ·rw [if_pos b]; exact quo_mono h1 h2
   ·rw [if_neg b]
    have := quo_le (p := p) (q := q) ht (by omega) h1 h2
    have := (arrT_ge r q (t + 1) hc (by omega)).1
    omega
  ·rw [if_neg a, if_neg (by omega)]
   exact arrT_mono r q t hc (by omega)
section
variable {l : List (Int × Int)} (h : Ok l)
include h
theorem arr_ge {t : Int} (_ht : 0 ≤ t) : t ≤ arr l t ∧ arr l t ≤ t + 8192 := by
 obtain ⟨p, r, rfl, hc⟩ := h.chn
 have hp := chn_good hc
 unfold good at hp
 rw [arr_cons]
 by_cases a : t < p.1
 ·rw [if_pos a]; omega
 ·rw [if_neg a]
  exact (arrT_ge r p t hc (by omega)).2
theorem arr_mono {t : Int} : arr l t ≤ arr l (t + 1) := by
 obtain ⟨p, r, rfl, hc⟩ := h.chn
 rw [arr_cons, arr_cons]
 by_cases a : t < p.1
 ·rw [if_pos a]
  by_cases b : t + 1 < p.1
  ·rw [if_pos b]; omega
  ·rw [if_neg b]
   have := (arrT_ge r p (t + 1) hc (by omega)).1
   omega
 ·rw [if_neg a, if_neg (by omega)]
  exact arrT_mono r p t hc (by omega)
theorem arr_le {s t : Int} (hst : s ≤ t) : arr l s ≤ arr l t := by
 obtain ⟨n, rfl⟩ : ∃ n : Nat, t = s + n := ⟨(t - s).toNat, by omega⟩
 clear hst
 induction n with
 | zero => simp
 | succ n ih =>
  have := arr_mono h (t := s + n)
  have e : s + (n : Int) + 1 = s + ((n + 1 : Nat) : Int) := by omega
  rw [e] at this
  omega
end
end Go.Proofs.YtomebalolmabnaaGreatDoor.T




/-! Travel functions in plain lists of pairs: arrivals of any list, latest departures, delays, equal arrivals. -/
namespace Go.Proofs.YtomebalolmabnaaGreatDoor.T

def dayB (t : Int) : Bool := decide (0 ≤ t) && decide (t ≤ 1073741824)
def arrF (l : List (Int × Int)) (t : Int) : Int := if okB l = true ∧ dayB t = true then arr l t else 0
theorem arrF_yes {l : List (Int × Int)} {t : Int} (h : Ok l) (h0 : 0 ≤ t) (h1 : t ≤ 1073741824) : arrF l t = arr l t := by
 unfold arrF
 rw [if_pos ⟨(okB_iff l).2 h, by unfold dayB; rw [decide_eq_true h0, decide_eq_true h1]; rfl⟩]
theorem arrF_day {l : List (Int × Int)} {t : Int} (h : t < 0 ∨ 1073741824 < t) : arrF l t = 0 := by
 unfold arrF
 rw [if_neg]
 rintro ⟨-, h2⟩
 unfold dayB at h2
 rw [Bool.and_eq_true, decide_eq_true_iff, decide_eq_true_iff] at h2
 omega
theorem arrF_not {l : List (Int × Int)} {t : Int} (h : okB l = false) : arrF l t = 0 := by
 unfold arrF
 rw [if_neg]
 rintro ⟨h2, -⟩
 rw [h] at h2; cases h2
def befB (f : Int) (p : Int × Int) : Bool := decide (p.1 < f - 1)
def aftB (f : Int) (p : Int × Int) : Bool := decide (f < p.1)
def addN (n : Int) (p : Int × Int) : Int × Int := (p.1, p.2 + n)
def sBef (l : List (Int × Int)) (f : Int) (k : Nat) : List (Int × Int) := (l.take k).filter (befB f)
def sAft (l : List (Int × Int)) (f n : Int) (k : Nat) : List (Int × Int) := ((l.take k).filter (aftB f)).map (addN n)
def sOne (l : List (Int × Int)) (f : Int) : List (Int × Int) := if 0 < f then [(f - 1, arr l (f - 1))] else []
def sMid (l : List (Int × Int)) (f n : Int) : List (Int × Int) := sBef l f l.length ++ sOne l f ++ [(f, arr l f + n)]
def slow (l : List (Int × Int)) (f n : Int) : List (Int × Int) := sMid l f n ++ sAft l f n l.length
end Go.Proofs.YtomebalolmabnaaGreatDoor.T




/-! The walks of lorryref01's Decimal and of strconv.Itoa below 100. -/
namespace Go.Proofs.YtomebalolmabnaaGreatDoor.T
open Go.RowKit
set_option maxRecDepth 8000

def bc (l : List UInt8) : List Value := l.map fun c => .int .u8 c.toNat
theorem bc_len (l : List UInt8) : (bc l).length = l.length := by simp [bc]
theorem own_string {W : World} {B : Nat} {v : Value} {n : Nat} {l : List UInt8} (h : W.ownsRow B 5 1 v n (bc l)) :
  (convert 131 9 v).run Tryz.prog W = .ok (.string ⟨l.toArray⟩) W := by
 have hl : l.length = n := by have := h.1; rw [bc_len] at this; omega
 subst hl
 have hcell := fun g hg => h.cells (g := g) hg
 rcases h.2 with ⟨rfl, h0⟩ | ⟨g, cap, cur, rfl, _, _, hnc, _⟩
 ·have : l = [] := List.eq_nil_of_length_eq_zero h0
  subst this
  exact run_convert_bytes_nil W 131 5 Tryz.underlying131 Tryz.underlying5 0 0 _ Tryz.underlying9
 ·refine run_convert_bytes_back W _ _ 5 _ cap l Tryz.underlying131 Tryz.underlying5 Tryz.underlying9 ?_
  intro j hj
  exact hcell g rfl j _ (by simp [bc, hj])

theorem dec_small {u : Nat} (h : u < 10) : Lib.decDigits u = [UInt8.ofNat (48 + u)] := by rw [Lib.decDigits, dif_pos h]
theorem dec_big {u : Nat} (h : ¬ u < 10) : Lib.decDigits u = Lib.decDigits (u / 10) ++ [UInt8.ofNat (48 + u % 10)] := by rw [Lib.decDigits, dif_neg h]
theorem toNat_digit (d : Nat) (h : d < 10) : (UInt8.ofNat (48 + d)).toNat = 48 + d := UInt8.toNat_ofNat_of_lt' (by simp [UInt8.size]; omega)
def decM : Value → Value → Nat
  | .int _ x, .bool true => x.natAbs + 1
  | _, _ => 0

theorem dec_len : ∀ (k u : Nat), u < 10 ^ (k + 1) → (Lib.decDigits u).length ≤ k + 1
 | 0, u, h => by rw [dec_small (by simpa using h)]; simp
 | k + 1, u, h => by
  by_cases h1 : u < 10
  ·rw [dec_small h1]; simp
  ·rw [dec_big h1, List.length_append]
   have := dec_len k (u / 10) (by rw [Nat.pow_succ] at h; omega)
   simp; omega
theorem dec_round (x z d : Nat) (hd : d = x % 10) (hz : z = x / 10) (s N : List UInt8) (h : Lib.decDigits x ++ s = N) :
  (z ≠ 0 → Lib.decDigits z ++ ((48 + UInt8.ofNat d) :: s) = N) ∧ (z = 0 → (48 + UInt8.ofNat d) :: s = N) := by
 have hc : 48 + UInt8.ofNat d = UInt8.ofNat (48 + d) := by simp
 rw [hc]
 constructor
 ·intro h0
  rw [dec_big (by omega), List.append_assoc, ← hd, ← hz] at h
  exact h
 ·intro h0
  rw [dec_small (by omega)] at h
  rw [show 48 + d = 48 + x by omega]; exact h
theorem cat1 (c : UInt8) (s : List UInt8) : Value.string ((⟨#[c]⟩ : ByteArray) ++ ⟨s.toArray⟩) = .string ⟨(c :: s).toArray⟩ := by
 congr 1
theorem decM_lt (x z : Int) (h : z.natAbs = x.natAbs / 10) : decM (.int .i64 z) (.bool (z != 0)) < decM (.int .i64 x) (.bool true) := by
 by_cases h0 : z = 0
 ·subst h0; simp [decM]
 ·have : (z != 0) = true := by simpa using h0
  rw [this]; simp only [decM]; omega

set_option maxRecDepth 100000 in
set_option maxHeartbeats 400000 in
theorem refDecimal_any (n : Int) (h0 : -9223372036854775808 ≤ n) (h1 : n ≤ 9223372036854775807) (w : World) :
  Calls Tryz.prog 44 #[.int .i64 n] w fun e w' => e = .returned (.string ⟨(Lib.itoa n).toArray⟩) ∧ Below w.heap.size w w' := by
 go_enter Tryz.func44, Tryz.ntmps44
 go_wp2_with fail
 go_loopw [3, 4, 5] (fun a b c wr => ∃ (s : List UInt8) (x : Int) (g : Bool), a = .string ⟨s.toArray⟩ ∧ b = .int .i64 x ∧ c = .bool g ∧ -9223372036854775808 ≤ x ∧ x ≤ 9223372036854775807 ∧ Below w.heap.size w wr ∧ Hid ((g = true → Lib.decDigits x.natAbs ++ s = Lib.decDigits n.natAbs) ∧ (g = false → s = Lib.decDigits n.natAbs)))
  (fun _ b c _ => decM b c)
 case atStart => exact ⟨[], n, true, rfl, rfl, rfl, h0, h1, Below.refl _ _, ⟨fun _ => by simp, fun h => by cases h⟩⟩
 case round =>
  obtain ⟨s, x, g, rfl, rfl, rfl, hx0, hx1, hb, HI⟩ := hrel
  cases g
  ·have HF := Lib.hid (HI.out.2 rfl)
   have HL : Hid (s.length ≤ 20) := by show _ ≤ _; rw [HF.out]; exact dec_len 19 _ (by omega)
   clear HI
   by_cases hn : n < 0
   ·have hsl : s.length ≤ 20 := HL.out
    go_wp2
    go_ret
    exact ⟨by rw [Lib.itoa, if_pos hn, ← HF.out]; exact congrArg Ending.returned (cat1 45 s), hb⟩
   ·go_wp2
    go_ret
    exact ⟨by rw [Lib.itoa, if_neg (by omega), show n.toNat = n.natAbs by omega, ← HF.out]; rfl, hb⟩
  ·obtain ⟨d, y, z, hd, hdu, hm, hq, hz, hy⟩ : ∃ (d : Nat) (y z : Int), d < 10 ∧ d = x.natAbs % 10 ∧ x.tmod 10 = y ∧ x.tdiv 10 = z ∧ z.natAbs = x.natAbs / 10 ∧ (y = d ∨ (y = -(d : Int) ∧ 0 < d)) := by
    rcases Int.le_total 0 x with hx | hx
    ·refine ⟨x.natAbs % 10, _, _, by omega, rfl, rfl, rfl, by rw [Int.tdiv_eq_ediv_of_nonneg hx]; omega, Or.inl (by rw [Int.tmod_eq_emod_of_nonneg hx]; omega)⟩
    ·obtain ⟨u, hu⟩ : ∃ u : Nat, x = -(u : Int) := ⟨x.natAbs, by omega⟩
     have hm : x.tmod 10 = -((u % 10 : Nat) : Int) := by rw [hu, Int.neg_tmod]; rfl
     have hq : x.tdiv 10 = -((u / 10 : Nat) : Int) := by rw [hu, Int.neg_tdiv]; rfl
     refine ⟨u % 10, _, _, by omega, by omega, rfl, rfl, by rw [hq]; omega, ?_⟩
     by_cases h : u % 10 = 0
     ·left; rw [hm]; omega
     ·right; exact ⟨hm, by omega⟩
   have hz1 : -9223372036854775808 ≤ z := by omega
   have hz2 : z ≤ 9223372036854775807 := by omega
   have hcv : (convert 131 9 (.slice (some ⟨wr.heap.size, 0, none⟩) 1 1)).run Tryz.prog (wr.alloc (.cells #[.int .u8 (48 + (d : Int))] 5)) = .ok (.string ⟨#[UInt8.ofNat (48 + d)]⟩) (wr.alloc (.cells #[.int .u8 (48 + (d : Int))] 5)) := by
    have e : (48 + (d : Int)) = ((UInt8.ofNat (48 + d)).toNat : Int) := by rw [toNat_digit d hd]; omega
    rw [e]
    exact own_string (B := wr.heap.size) (v := .slice (some ⟨wr.heap.size, 0, none⟩) 1 1) (n := 1) (l := [UInt8.ofNat (48 + d)]) ⟨by simp [bc], .inr ⟨wr.heap.size, 1, _, rfl, Nat.le_refl _, heap_alloc_new wr _, Nat.le_refl _, by decide, rfl, rfl⟩⟩
   have HZ := Lib.hid hz
   have HD := Lib.hid hdu
   have HR := Lib.hid (dec_round x.natAbs z.natAbs d hdu hz s _ (HI.out.1 rfl))
   have hsl : s.length ≤ 20 := by
    have h2 := congrArg List.length (HI.out.1 rfl)
    rw [List.length_append] at h2
    have := dec_len 19 n.natAbs (by omega)
    omega
   clear hz hdu HI
   rcases hy with hy | ⟨hy, hy2⟩
   ·subst hy
    go_wp2_with fail
    go_roundw
    case rel => exact ⟨_, z, (z != 0), cat1 _ _, rfl, rfl, hz1, hz2, by exact hb.alloc hb.size _, ⟨fun h => HR.out.1 (by simpa using h), fun h => HR.out.2 (by simpa using h)⟩⟩
    case measure => exact decM_lt x z HZ.out
   ·subst hy
    go_wp2_with fail
    go_roundw
    case rel => exact ⟨_, z, (z != 0), cat1 _ _, rfl, rfl, hz1, hz2, by exact hb.alloc hb.size _, ⟨fun h => HR.out.1 (by simpa using h), fun h => HR.out.2 (by simpa using h)⟩⟩
    case measure => exact decM_lt x z HZ.out


theorem decimal_n (i : Nat) (hi : i ≤ 1000000000) (w : World) :
  Calls Tryz.prog 44 #[.int .i64 i] w fun e w' => e = .returned (.string (dec i)) ∧ Below w.heap.size w w' := by
 refine (refDecimal_any i (by omega) (by omega) w).mono fun e w' ⟨he, hb⟩ => ⟨he.trans (ret_str ?_), hb⟩
 show _ = dec i
 unfold dec Lib.itoa
 rw [if_neg (by omega)]
 rfl
def Tab (w : World) : Prop := Lib.TabIs Tryz.prog w "internal/strconv.uint64pow10" .u64 Lib.pow10Tab
theorem gTab : Tryz.prog.globalNamed "internal/strconv.uint64pow10" = some 0 := by kernel_rfl
theorem Tab.lt {w : World} (h : Tab w) : 0 < w.heap.size :=
 World.block_lt_of_cell? _ _ (Lib.TabIs.cell h gTab 0 (by decide))
theorem Tab.below {B : Nat} {w w' : World} (h : Tab w) (hB : w.heap.size ≤ B) (hb : Below B w w') : Tab w' := var?_below hb gTab (Nat.lt_of_lt_of_le h.lt hB) h
theorem Tab.over {w W : World} (h : Tab w) (b : Below w.heap.size w W) : Tab W := h.below (Nat.le_refl _) b
theorem Tab.alloc {w : World} (h : Tab w) (o : Obj) : Tab (w.alloc o) := h.over ((Below.refl _ w).alloc (Nat.le_refl _) o)
theorem below_grow3 {B : Nat} (w : World) (h : B ≤ w.heap.size) (os : Array Obj) : Below B w (Sort.grow w os) :=
 ⟨rfl, rfl, rfl, by simp [Sort.grow], fun k hk => by simp only [Sort.grow]; rw [Array.getElem?_append_left (by omega)]⟩
theorem itoa_n (i : Nat) (hi : i ≤ 1000000000) (w : World) (ht : Tab w) :
  Calls Tryz.prog 101 #[.int .i64 i] w fun e w' => e = .returned (.string (dec i)) ∧ Below w.heap.size w w' := by
 refine (Tryz.strconv_Itoa i (by omega) (by omega) _ ht).mono ?_
 rintro e w' ⟨rfl, k, os, hw⟩
 refine ⟨ret_str ?_, ?_⟩
 ·show _ = dec i
  unfold dec Lib.itoa
  rw [if_neg (by omega)]
  rfl
 ·rw [hw]
  exact (below_drewN (Below.refl _ w) k).trans (below_grow3 (w.drewN k) (Nat.le_refl _) os)

end Go.Proofs.YtomebalolmabnaaGreatDoor.T




