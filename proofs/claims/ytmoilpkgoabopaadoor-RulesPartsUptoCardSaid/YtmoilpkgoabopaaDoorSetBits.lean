/-
  DERIVED. Rows of ints; bits of machine integers (out of layer 5's texts: tools/mkrusets.py).
-/
import Derived.Test.YtmoilpkgoabopaaDoorSetPureB
import Derived.WalkKit
import Derived.WalkSpells
import Derived.WalkLawsBesides
import Derived.Below
import Derived.OwnWalk
import Derived.Laws.OwnMore
import Derived.Deep.AppendLies
import Derived.Deep.Draws
import Derived.Deep.QuietTactic
import Derived.BigQuiet
import Derived.Lib.Hide
import Derived.WalkSmall
import Derived.Deep.Onto
import Derived.Deep.LoopGhost
import Derived.Deep.RegionLaw
import Derived.IntWalk
import Derived.BigRegion
import Derived.Laws.BitsLemmas
import Derived.Laws.Bits64b
import Derived.Laws.Bits128
namespace Go.Proofs.YtmoilpkgoabopaaDoor.S
open Go.RowKit
set_option maxRecDepth 8000

def iv (n : Nat) : Value := .int .i64 (n : Int)
/-- the slice v holds the digits l -/
def Ow (w : World) (v : Value) (l : List Nat) : Prop := w.ownsRow 0 3 1 v l.length (l.map iv)

theorem Ow.frame {w w' : World} {v : Value} {l : List Nat} (h : Ow w v l) (hb : Below w.heap.size w w') : Ow w' v l := by
  refine ⟨h.1, ?_⟩
  rcases h.2 with hn | ⟨g, cap, cur, rfl, hbg, hgg, rest⟩
  · exact .inl hn
  · refine .inr ⟨g, cap, cur, rfl, hbg, ?_, rest⟩
    rw [hb.block g (Array.getElem?_eq_some_iff.1 hgg).1]; exact hgg
theorem Ow.alloc {w : World} {v : Value} {l : List Nat} (h : Ow w v l) (o : Obj) : Ow (w.alloc o) v l := h.frame ((Below.refl _ w).alloc (Nat.le_refl _) o)
theorem Ow.drewN {w : World} {v : Value} {l : List Nat} (h : Ow w v l) (n : Nat) : Ow (w.drewN n) v l := h
theorem Ow.shape {w : World} {v : Value} {l : List Nat} (h : Ow w v l) : ∃ A c, v = .slice A l.length c ∧ l.length ≤ c ∧ ∀ i, i < l.length → ∃ g, A = some ⟨g, 0, none⟩ ∧ g < w.heap.size ∧ w.cell? ⟨g, i, none⟩ = some (.int .i64 ((l.getD i 0 : Nat) : Int)) := by
  rcases h.2 with ⟨hn, h0⟩ | ⟨g, cap, cur, rfl, hbg, hgg, hnc, rest⟩
  · exact ⟨none, 0, by rw [hn, h0], by omega, fun i hi => by omega⟩
  · refine ⟨some ⟨g, 0, none⟩, cap, rfl, hnc, fun i hi => ⟨g, rfl, (Array.getElem?_eq_some_iff.1 hgg).1, ?_⟩⟩
    have := World.ownsRow.cellAt (g := g) (cap := cap) (n := l.length) (xs := l.map iv) (w := w) (base := 0) (e := 3) (size := 1) ⟨h.1, .inr ⟨g, cap, cur, rfl, hbg, hgg, hnc, rest⟩⟩ i (by omega)
    rw [this, List.getElem?_map, List.getD_eq_getElem?_getD, List.getElem?_eq_getElem hi]
    rfl
theorem Ow.ext {w : World} {v : Value} {l m : List Nat} (h : Ow w v l) (e : m = l) : Ow w v m := e ▸ h
theorem Ow.nil (w : World) : Ow w (.slice none 0 0) [] := World.ownsRow_nil w 0 _ _
theorem Ow.cut {w : World} {A : Option Addr} {c n : Nat} {l : List Nat} (h : Ow w (.slice A n c) l) (k : Nat) (hk : k ≤ l.length) : Ow w (.slice A k c) (l.take k) := by
  rcases h.2 with ⟨hn, h0⟩ | ⟨g, cap, cur, hv, hbg, hg, hnc, hcm, hcs, ht⟩
  · have hl : l = [] := List.eq_nil_of_length_eq_zero h0
    subst hl
    have : k = 0 := by simpa using hk
    subst this
    cases hn
    exact Ow.nil w
  · cases hv
    refine ⟨by simp, .inr ⟨g, c, cur, ?_, hbg, hg, ?_, hcm, hcs, ?_⟩⟩
    · rw [List.length_take, Nat.min_eq_left hk]
    · rw [List.length_take]; omega
    · rw [List.map_take, ← ht, List.take_take, List.length_take]
      simp only [Nat.mul_one]
theorem info3a : (Tryd.prog.info? 3).map (fun i => (i.zero, i.size, i.bytes)) = some (some (.int .i64 0), 1, 8) := by kernel_rfl
theorem info3' : ∃ i, Tryd.prog.info? 3 = some i ∧ i.zero = some (.int .i64 0) ∧ i.size = 1 ∧ i.bytes = 8 := by
  have h := info3a
  cases hi : Tryd.prog.info? 3 with
  | none => rw [hi] at h; cases h
  | some i => rw [hi] at h; simp at h; exact ⟨i, rfl, h.1, h.2.1, h.2.2⟩
theorem one_new (w : World) (x : Int) : ∀ (j : Nat) (v : Value), [Value.int .i64 x][j]? = some v → (w.alloc (.cells #[.int .i64 x] 3)).cell? ((⟨w.heap.size, 0, none⟩ : Addr).add j) = some v := by
  intro j v hv
  match j, hv with
  | 0, hv => simp at hv; subst hv; simp [Addr.add]
theorem one_cell (x : Int) : ∀ v ∈ [Value.int .i64 x], v.oneCell' = true := by
  intro v hv; simp at hv; subst hv; rfl
theorem Ow.of_own {w : World} {v : Value} {n x : Nat} {l : List Nat} {z : Int} (hz : z = (x : Int)) (hn : l.length = n) (h : w.ownsRow 0 3 1 v (n + 1) (l.map iv ++ [.int .i64 z])) : Ow w v (l ++ [x]) := by
  subst hn
  subst hz
  unfold Ow
  rw [List.map_append, List.length_append]
  exact h
/-- the call's own slice v, made since block B, holds the digits l -/
def Owb (B : Nat) (w : World) (v : Value) (l : List Nat) : Prop := w.ownsRow B 3 1 v l.length (l.map iv)
theorem Owb.weak {B : Nat} {w : World} {v : Value} {l : List Nat} (h : Owb B w v l) : Ow w v l := World.ownsRow.mono h (Nat.zero_le _)
theorem Owb.alloc {B : Nat} {w : World} {v : Value} {l : List Nat} (h : Owb B w v l) (o : Obj) : Owb B (w.alloc o) v l := World.ownsRow.alloc h o
theorem Owb.nil (B : Nat) (w : World) : Owb B w (.slice none 0 0) [] := World.ownsRow_nil w B _ _
theorem Owb.blk {B : Nat} {w : World} {v : Value} {l : List Nat} (h : Owb B w v l) : ∀ k, v.ownBlock = some k → B ≤ k := fun k hk => (World.ownsRow.lt h k hk).1
theorem Owb.of_own {B : Nat} {w : World} {v : Value} {n x : Nat} {l : List Nat} {z : Int} (hz : z = (x : Int)) (hn : l.length = n) (h : w.ownsRow B 3 1 v (n + 1) (l.map iv ++ [.int .i64 z])) : Owb B w v (l ++ [x]) := by
  subst hn
  subst hz
  unfold Owb
  rw [List.map_append, List.length_append]
  exact h
theorem ret_sl {a : Option Addr} {n m cap : Nat} (h : n = m) : Ending.returned (.slice a n cap) = .returned (.slice a m cap) := by rw [h]
def slLen : Value → Nat | .slice _ n _ => n | _ => 0

/-! ### slices as arguments -/
/-- a slice of n one-cell elements V -/
def SlV (w : World) (v : Value) (n : Nat) (V : Nat → Value) : Prop :=
  ∃ (oa : Option Addr) (c : Nat), v = .slice oa n c ∧ ∀ i, i < n → ∃ a : Addr, oa = some a ∧ a.block < w.heap.size ∧ w.cell? (a.add i) = some (V i)
theorem add_block (a : Addr) (i : Nat) : (a.add i).block = a.block := by unfold Addr.add; split <;> rfl
theorem SlV.below {w w' : World} {v : Value} {n : Nat} {V : Nat → Value} (h : SlV w v n V) (hb : Below w.heap.size w w') : SlV w' v n V := by
  obtain ⟨oa, c, hv, h⟩ := h
  refine ⟨oa, c, hv, fun i hi => ?_⟩
  obtain ⟨a, ha, hl, hc⟩ := h i hi
  exact ⟨a, ha, Nat.lt_of_lt_of_le hl hb.size, (hb.cell (by rw [add_block]; exact hl)).trans hc⟩
def Vi (z : Nat → Int) (i : Nat) : Value := .int .i64 (z i)

theorem ret_bool {a b : Bool} (h : a = b) : Ending.returned (.bool a) = .returned (.bool b) := by rw [h]
theorem ret_int {k : IntKind} {a b : Int} (h : a = b) : Ending.returned (.int k a) = .returned (.int k b) := by rw [h]
theorem over5 {w W w1 : World} (h : Below w.heap.size w W) (b : Below W.heap.size W w1) : Below w.heap.size w w1 := h.trans (b.mono h.size)

theorem w64 {q : Nat} (h : q < 9223372036854775808) : wrap64 (q : Int) = (q : Int) := by unfold wrap64; omega
theorem mem_lt62 {n i : Nat} (h : i ∈ members n) : i ≤ 62 := by have := (mem_iff n 63 i).1 h; omega
theorem members_len (n : Nat) : (members n).length ≤ 63 := mem_len n 63
def listZ (n : Nat) (z : Nat → Int) : List Int := (List.range n).map z
theorem listZ_len (n : Nat) (z : Nat → Int) : (listZ n z).length = n := by simp [listZ]
theorem listZ_drop {n k : Nat} (z : Nat → Int) (h : k < n) : (listZ n z).drop k = z k :: (listZ n z).drop (k + 1) := by
  rw [List.drop_eq_getElem_cons (by rw [listZ_len]; exact h)]
  congr 1
  simp [listZ]
theorem listZ_end (n : Nat) (z : Nat → Int) : (listZ n z).drop n = [] := List.drop_of_length_le (by rw [listZ_len]; exact Nat.le_refl _)
theorem ret_pair {a b c d : Int} (h : (a, b) = (c, d)) : Ending.returned (.tuple #[.int .i64 a, .int .i64 b]) = .returned (.tuple #[.int .i64 c, .int .i64 d]) := by
  injection h with h1 h2; rw [h1, h2]
/-- the numbers l in the slice A, apart from the block go -/
def LZ (w : World) (A : Option Addr) (l : List Nat) (go : Nat) : Prop :=
  ∀ i, i < l.length → ∃ g, A = some ⟨g, 0, none⟩ ∧ g < w.heap.size ∧ g ≠ go ∧ w.cell? ⟨g, i, none⟩ = some (.int .i64 ((l.getD i 0 : Nat) : Int))
theorem LZ.alloc {w : World} {A : Option Addr} {l : List Nat} {go : Nat} (h : LZ w A l go) (o : Obj) : LZ (w.alloc o) A l go := fun i hi => by
  obtain ⟨g, a, b, c, d⟩ := h i hi
  exact ⟨g, a, by simp; omega, c, (World.grownBy_alloc w o none).cell d (by simp)⟩
theorem LZ.grown {w w' : World} {A : Option Addr} {l : List Nat} {g g' : Nat} (h : LZ w A l g) (hg : w.grownBy w' (some g)) (hat : some g = some g' ∨ g' = w.heap.size) : LZ w' A l g' := fun i hi => by
  obtain ⟨b, ha, hl, hne, hc⟩ := h i hi
  refine ⟨b, ha, Nat.lt_of_lt_of_le hl hg.size, ?_, hg.cell hc (by simpa using hne)⟩
  rcases hat with e | e
  · injection e with e; omega
  · omega
/-- the call's own slice in block g -/
def Gw (B : Nat) (w : World) (g n cap : Nat) (l : List Nat) : Prop := w.ownsRow B 3 1 (.slice (some ⟨g, 0, none⟩) n cap) n (l.map iv)
theorem Gw.cell {B : Nat} {w : World} {g n cap : Nat} {l : List Nat} (h : Gw B w g n cap l) (j : Nat) (hj : j < n) (hl : j < l.length) : w.cell? ⟨g, j, none⟩ = some (.int .i64 ((l.getD j 0 : Nat) : Int)) := by
  rw [World.ownsRow.cellAt h j (by omega), List.getElem?_map, List.getD_eq_getElem?_getD, List.getElem?_eq_getElem hl]; rfl
theorem Gw.owb {B : Nat} {w : World} {g n cap : Nat} {l : List Nat} (h : Gw B w g n cap l) (hn : l.length = n) : Owb B w (.slice (some ⟨g, 0, none⟩) n cap) l := by
  subst hn; exact h
def subsR (n : Nat) : List Nat := if 13 < size n then [] else subsL [0] (members n)
def subsE (n : Nat) : Int := if 13 < size n then 4 else 0

theorem take_more {l : List Nat} {k : Nat} (h : k < l.length) : l.take (k + 1) = l.take k ++ [l.getD k 0] := by
  rw [List.take_succ_eq_append_getElem h, List.getD_eq_getElem?_getD, List.getElem?_eq_getElem h]; rfl
theorem sumP_take {l : List Nat} {k : Nat} (h : k < l.length) : sumP (l.take k) + 2 ^ (l.getD k 0) ≤ sumP l := by
  have e := congrArg sumP (List.take_append_drop (k + 1) l)
  rw [sumP_app, take_more h, sumP_app] at e
  simp only [sumP] at e
  omega
theorem getD_front {L M : List Nat} {q : Nat} (h : q < L.length) : (L ++ M).getD q 0 = L.getD q 0 := by
  rw [List.getD_eq_getElem?_getD, List.getD_eq_getElem?_getD, List.getElem?_append_left h]
theorem getD_mem {L : List Nat} {q : Nat} (h : q < L.length) : L.getD q 0 ∈ L := by
  rw [List.getD_eq_getElem?_getD, List.getElem?_eq_getElem h]; exact List.getElem_mem h
theorem row_more {L : List Nat} {q p : Nat} (h : q < L.length) : (L ++ (L.take q).map (· + p)).map iv ++ [.int .i64 (((L.getD q 0 : Nat) : Int) + (p : Int))] = (L ++ (L.take (q + 1)).map (· + p)).map iv := by
  rw [take_more h, List.map_append, List.map_append, List.map_append, List.map_append, List.append_assoc]; rfl

theorem cho_neg {n : Nat} {k : Int} (h : k < 0) : cho n k = 0 := if_pos h
theorem cho_nat (n k : Nat) : cho n (k : Int) = min (bin n k) 100000 := by rw [cho, if_neg (by omega), Int.toNat_natCast]
theorem cho_big {n k : Nat} (h : n < k) : cho n (k : Int) = 0 := by rw [cho_nat, bin_big h]; rfl
theorem cho_none (n : Nat) : cho n ((0 : Nat) : Int) = 1 := by rw [cho_nat, bin_zero]; rfl
theorem cho_all (n : Nat) : cho n (n : Int) = 1 := by rw [cho_nat, bin_self]; rfl
theorem cho_of {n k m q : Nat} (h : n = m + q) (hk : bin n q = bin n k) : cho n (k : Int) = min (bin (m + q) q) 100000 := by rw [cho_nat, ← hk, h]
theorem ne_eqI {a b : Nat} (h : a ≠ b) : (((a : Int) == (b : Int)) = false) := by
  rw [beq_eq_false_iff_ne]; omega
theorem eq0I {a : Nat} (h : a ≠ 0) : (((a : Int) == 0) = false) := by
  rw [beq_eq_false_iff_ne]; omega

/-- the numbers l in the slice A -/
def Ar (w : World) (A : Option Addr) (l : List Nat) : Prop :=
  ∀ i, i < l.length → ∃ g, A = some ⟨g, 0, none⟩ ∧ g < w.heap.size ∧ w.cell? ⟨g, i, none⟩ = some (.int .i64 ((l.getD i 0 : Nat) : Int))
theorem Ar.below {w w' : World} {A : Option Addr} {l : List Nat} (h : Ar w A l) (hb : Below w.heap.size w w') : Ar w' A l := fun i hi => by
  obtain ⟨g, a, b, c⟩ := h i hi
  exact ⟨g, a, Nat.lt_of_lt_of_le b hb.size, (hb.cell (p := ⟨g, i, none⟩) b).trans c⟩
/-- apart from the block of the slice v -/
def LZo (w : World) (A : Option Addr) (l : List Nat) (v : Value) : Prop :=
  ∀ i, i < l.length → ∃ g, A = some ⟨g, 0, none⟩ ∧ g < w.heap.size ∧ some g ≠ v.ownBlock ∧ w.cell? ⟨g, i, none⟩ = some (.int .i64 ((l.getD i 0 : Nat) : Int))
theorem LZo.alloc {w : World} {A : Option Addr} {l : List Nat} {v : Value} (h : LZo w A l v) (o : Obj) : LZo (w.alloc o) A l v := fun i hi => by
  obtain ⟨g, a, b, c, d⟩ := h i hi
  exact ⟨g, a, by simp; omega, c, (World.grownBy_alloc w o none).cell d (by simp)⟩
theorem LZo.grown {w w' : World} {A : Option Addr} {l : List Nat} {v : Value} {g' n c : Nat} (h : LZo w A l v) (hg : w.grownBy w' v.ownBlock) (hat : v.ownBlock = some g' ∨ g' = w.heap.size) : LZo w' A l (.slice (some ⟨g', 0, none⟩) n c) := fun i hi => by
  obtain ⟨b, ha, hl, hne, hc⟩ := h i hi
  refine ⟨b, ha, Nat.lt_of_lt_of_le hl hg.size, ?_, hg.cell hc hne⟩
  show some b ≠ some g'
  rcases hat with e | e
  · rw [← e]; exact hne
  · intro e2; injection e2 with e2; omega
/-- the call's own slice -/
def Gv (B : Nat) (w : World) (v : Value) (n : Nat) (l : List Nat) : Prop := w.ownsRow B 3 1 v n (l.map iv)
theorem Owb.frame {B : Nat} {w w' : World} {v : Value} {l : List Nat} (h : Owb B w v l) (hb : Below w.heap.size w w') : Owb B w' v l := by
  refine ⟨h.1, ?_⟩
  rcases h.2 with hn | ⟨g, cap, cur, e, hbg, hgg, rest⟩
  · exact .inl hn
  · refine .inr ⟨g, cap, cur, e, hbg, ?_, rest⟩
    rw [hb.block g (Array.getElem?_eq_some_iff.1 hgg).1]; exact hgg

theorem Owb.lit (w : World) (B : Nat) (hB : B ≤ w.heap.size) : Owb B (w.alloc (.cells #[.int .i64 0] 3)) (.slice (some ⟨w.heap.size, 0, none⟩) 1 1) [0] :=
  World.ownsRow_lit (base := B) (size := 1) (e := 3) w #[.int .i64 0] 1 hB (by decide) rfl
def szR (n : Nat) (z : Int) : List Nat := if z < 0 ∨ 8192 < bin (size n) z.toNat then [] else szL (members n) (size n) z.toNat
def szE (n : Nat) (z : Int) : Int := if z < 0 ∨ bin (size n) z.toNat ≤ 8192 then 0 else 4

theorem below_drewN {B : Nat} {a w : World} (h : Below B a w) (n : Nat) : Below B a (w.drewN n) := ⟨h.os, h.tape, h.output, h.size, h.block⟩
theorem has_test (n i : Nat) : has n i = n.testBit i := by
  rw [Nat.testBit_eq_decide_div_mod_eq, has_div]
  by_cases h : n / 2 ^ i % 2 = 1
  · rw [h]; rfl
  · rw [decide_eq_false h, beq_eq_false_iff_ne]; exact h
theorem within_and (a b : Nat) : withinB (a &&& b) a = true := by
  rw [withinB, List.all_eq_true]
  intro i hi
  have h := ((mem_iff _ 63 i).1 hi).2
  rw [has_test, Nat.testBit_and, Bool.and_eq_true] at h
  rw [has_test]; exact h.1
theorem within_or (a b : Nat) : withinB a (a ||| b) = true := by
  rw [withinB, List.all_eq_true]
  intro i hi
  have h := ((mem_iff _ 63 i).1 hi).2
  rw [has_test] at h
  rw [has_test, Nat.testBit_or, h]; rfl
theorem i64_and63 (n : Int) : bits .and .i64 n 9223372036854775807 = n % 9223372036854775808 := by
  have h127 : (BitVec.ofInt 64 9223372036854775807).toNat = 2 ^ 63 - 1 := by decide
  have key : (BitVec.ofInt 64 n &&& BitVec.ofInt 64 9223372036854775807).toNat = (n % ((2 ^ 64 : Nat) : Int)).toNat % 2 ^ 63 := by
    rw [BitVec.toNat_and, BitVec.toNat_ofInt, h127, Nat.and_two_pow_sub_one_eq_mod]
  show IntKind.i64.wrap ((BitVec.ofInt 64 n &&& BitVec.ofInt 64 9223372036854775807).toNat : Nat) = n % 9223372036854775808
  rw [key, IntKind.wrap_i64]
  omega
theorem i64_and (a b : Nat) (ha : a < 9223372036854775808) (hb : b < 9223372036854775808) : bits .and .i64 (a : Int) (b : Int) = ((a &&& b : Nat) : Int) := by
  have hx : a &&& b < 2 ^ 63 := Nat.and_lt_two_pow _ (by omega)
  have h1 : (BitVec.ofInt 64 (a : Int)).toNat = a := by
    rw [BitVec.ofInt_natCast, BitVec.toNat_ofNat]; exact Nat.mod_eq_of_lt (by omega)
  have h2 : (BitVec.ofInt 64 (b : Int)).toNat = b := by
    rw [BitVec.ofInt_natCast, BitVec.toNat_ofNat]; exact Nat.mod_eq_of_lt (by omega)
  show IntKind.i64.wrap ((BitVec.ofInt 64 (a : Int) &&& BitVec.ofInt 64 (b : Int)).toNat : Int) = _
  rw [BitVec.toNat_and, h1, h2, IntKind.wrap_i64]
  omega
theorem i64_or (a b : Nat) (ha : a < 9223372036854775808) (hb : b < 9223372036854775808) : bits .or .i64 (a : Int) (b : Int) = ((a ||| b : Nat) : Int) := by
  have hx : a ||| b < 2 ^ 63 := Nat.or_lt_two_pow (by omega) (by omega)
  have h1 : (BitVec.ofInt 64 (a : Int)).toNat = a := by
    rw [BitVec.ofInt_natCast, BitVec.toNat_ofNat]; exact Nat.mod_eq_of_lt (by omega)
  have h2 : (BitVec.ofInt 64 (b : Int)).toNat = b := by
    rw [BitVec.ofInt_natCast, BitVec.toNat_ofNat]; exact Nat.mod_eq_of_lt (by omega)
  show IntKind.i64.wrap ((BitVec.ofInt 64 (a : Int) ||| BitVec.ofInt 64 (b : Int)).toNat : Int) = _
  rw [BitVec.toNat_or, h1, h2, IntKind.wrap_i64]
  omega
/-- a set of any number -/
def plainN (z : Int) : Nat := (z % 9223372036854775808).toNat
theorem plain_lt (z : Int) : plainN z < 2 ^ 63 := by unfold plainN; omega
theorem plain_bits (z : Int) : bits .and .i64 z 9223372036854775807 = (plainN z : Int) := by rw [i64_and63]; unfold plainN; omega
theorem b_and (x y : Int) : bits .and .i64 x y = IntKind.i64.wrap (((x % 18446744073709551616).toNat &&& (y % 18446744073709551616).toNat : Nat) : Int) := by
  show IntKind.i64.wrap ((BitVec.ofInt 64 x &&& BitVec.ofInt 64 y).toNat : Int) = _
  rw [BitVec.toNat_and, BitVec.toNat_ofInt, BitVec.toNat_ofInt]; rfl
theorem b_or (x y : Int) : bits .or .i64 x y = IntKind.i64.wrap (((x % 18446744073709551616).toNat ||| (y % 18446744073709551616).toNat : Nat) : Int) := by
  show IntKind.i64.wrap ((BitVec.ofInt 64 x ||| BitVec.ofInt 64 y).toNat : Int) = _
  rw [BitVec.toNat_or, BitVec.toNat_ofInt, BitVec.toNat_ofInt]; rfl
theorem b_andNot (x y : Int) : bits .andNot .i64 x y = IntKind.i64.wrap (((x % 18446744073709551616).toNat &&& (18446744073709551616 - 1 - (y % 18446744073709551616).toNat) : Nat) : Int) := by
  show IntKind.i64.wrap ((BitVec.ofInt 64 x &&& ~~~ BitVec.ofInt 64 y).toNat : Int) = _
  rw [BitVec.toNat_and, BitVec.toNat_not, BitVec.toNat_ofInt, BitVec.toNat_ofInt]; rfl
theorem b_xor (x y : Int) : bits .xor .i64 x y = IntKind.i64.wrap (((x % 18446744073709551616).toNat ^^^ (y % 18446744073709551616).toNat : Nat) : Int) := by
  show IntKind.i64.wrap ((BitVec.ofInt 64 x ^^^ BitVec.ofInt 64 y).toNat : Int) = _
  rw [BitVec.toNat_xor, BitVec.toNat_ofInt, BitVec.toNat_ofInt]; rfl
theorem u_and (x y : Int) : bits .and .u64 x y = (((x % 18446744073709551616).toNat &&& (y % 18446744073709551616).toNat : Nat) : Int) := by
  show IntKind.u64.wrap ((BitVec.ofInt 64 x &&& BitVec.ofInt 64 y).toNat : Int) = _
  rw [BitVec.toNat_and, BitVec.toNat_ofInt, BitVec.toNat_ofInt, IntKind.wrap_u64]
  have h : (x % 18446744073709551616).toNat &&& (y % 18446744073709551616).toNat < 2 ^ 64 := Nat.and_lt_two_pow _ (by omega)
  show (((x % 18446744073709551616).toNat &&& (y % 18446744073709551616).toNat : Nat) : Int) % 18446744073709551616 = _
  omega
theorem u_and_n (a b : Nat) (ha : a < 18446744073709551616) (hb : b < 18446744073709551616) : bits .and .u64 (a : Int) (b : Int) = ((a &&& b : Nat) : Int) := by
  rw [u_and, show ((a : Int) % 18446744073709551616).toNat = a by omega, show ((b : Int) % 18446744073709551616).toNat = b by omega]
theorem wrap_n (x : Nat) (h : x < 9223372036854775808) : IntKind.i64.wrap (x : Int) = (x : Int) := by rw [IntKind.wrap_i64]; omega
theorem nat_mod (a : Nat) (h : a < 9223372036854775808) : ((a : Int) % 18446744073709551616).toNat = a := by omega

/-! ### sets -/
theorem i_andNot (n m : Nat) (hn : n < 9223372036854775808) : bits .andNot .i64 (n : Int) ((n - pd 63 n m : Nat) : Int) = (pd 63 n m : Nat) := by
  have hl := pd_le 63 n m
  have hc := pd_cmp 63 64 n m (by omega) (by simpa using hn)
  rw [b_andNot, nat_mod n hn, nat_mod _ (by omega), Nat.and_comm]
  rw [show (2 : Nat) ^ 64 = 18446744073709551616 by decide] at hc
  rw [hc, wrap_n _ (by omega)]
theorem i_inc (n m s : Nat) (hn : n < 9223372036854775808) (hs : pd 63 n m = s) (hm : m + 1 < 2 ^ size n) : bits .and .i64 ((s : Int) - (n : Int)) (n : Int) = (pd 63 n (m + 1) : Nat) := by
  subst hs
  have hl := pd_lt 63 n m (by simpa using hn) hm
  have hl2 := pd_le 63 n (m + 1)
  have hc := pd_inc 63 64 n m (by omega) (by simpa using hn) hm
  rw [show (2 : Nat) ^ 64 = 18446744073709551616 by decide] at hc
  rw [b_and, nat_mod n hn, show (((pd 63 n m : Int) - (n : Int)) % 18446744073709551616).toNat = 18446744073709551616 - (n - pd 63 n m) by omega, hc, wrap_n _ (by omega)]
theorem i_not (n : Nat) (hn : n < 9223372036854775808) : bits .xor .i64 (-1) (n : Int) = -1 - (n : Int) := by
  have h : (18446744073709551615 : Nat) ^^^ n = 18446744073709551615 - n := by
    apply Nat.eq_of_testBit_eq
    intro i
    have h1 := Nat.testBit_two_pow_sub_succ (n := 64) (x := n) (by omega) i
    rw [show (2 : Nat) ^ 64 - (n + 1) = 18446744073709551615 - n by omega] at h1
    have h2 := Nat.testBit_two_pow_sub_succ (n := 64) (x := 0) (by omega) i
    rw [show (2 : Nat) ^ 64 - (0 + 1) = 18446744073709551615 by omega] at h2
    rw [Nat.testBit_xor, h1, h2]
    simp
    by_cases hi : i < 64
    · simp [hi]
    · have : n.testBit i = false := Nat.testBit_lt_two_pow (Nat.lt_of_lt_of_le hn (Nat.le_trans (by decide : 9223372036854775808 ≤ 2 ^ 64) (Nat.pow_le_pow_right (by omega) (by omega))))
      simp [hi, this]
  rw [b_xor, nat_mod n hn, show ((-1 : Int) % 18446744073709551616).toNat = 18446744073709551615 by decide, h, IntKind.wrap_i64]
  omega
theorem i_orNot (n m s : Nat) (hn : n < 9223372036854775808) (hs : pd 63 n m = s) : bits .or .i64 (s : Int) (-1 - (n : Int)) = -1 - ((n : Int) - (s : Int)) := by
  subst hs
  have hl := pd_le 63 n m
  have hc := pd_orn 63 64 n m (by omega) (by simpa using hn)
  rw [show (2 : Nat) ^ 64 = 18446744073709551616 by decide] at hc
  rw [b_or, nat_mod _ (by omega), show ((-1 - (n : Int)) % 18446744073709551616).toNat = 18446744073709551616 - 1 - n by omega, hc, IntKind.wrap_i64]
  omega
theorem i_low (s : Nat) (h0 : 0 < s) (hs : s < 9223372036854775808) : bits .and .i64 (s : Int) (-(s : Int)) = (lb 63 s : Nat) := by
  have hl := lb_le 63 s
  have hc := lb_and 63 64 s (by omega) h0 (by simpa using hs)
  rw [show (2 : Nat) ^ 64 = 18446744073709551616 by decide] at hc
  rw [b_and, nat_mod s hs, show ((-(s : Int)) % 18446744073709551616).toNat = 18446744073709551616 - s by omega, hc, wrap_n _ (by omega)]
theorem i_car (n m s : Nat) (hn : n < 9223372036854775808) (hs : pd 63 n m = s) (h0 : 0 < m) (hm : m + lb 63 m < 2 ^ size n) :
    lb 63 s ≤ n - s ∧ bits .and .i64 (-1 - ((n : Int) - (s : Int)) + (lb 63 s : Nat)) (n : Int) = (pd 63 n (m + lb 63 m) : Nat) := by
  subst hs
  have hl := pd_le 63 n m
  have hl2 := pd_le 63 n (m + lb 63 m)
  obtain ⟨h1, h2⟩ := pd_car 63 64 n m (by omega) (by simpa using hn) h0 hm
  rw [show (2 : Nat) ^ 64 = 18446744073709551616 by decide] at h2
  refine ⟨h1, ?_⟩
  rw [b_and, nat_mod n hn, show ((-1 - ((n : Int) - (pd 63 n m : Int)) + (lb 63 (pd 63 n m) : Nat)) % 18446744073709551616).toNat = 18446744073709551616 - 1 - (n - pd 63 n m) + lb 63 (pd 63 n m) by omega, h2, wrap_n _ (by omega)]
theorem i_within (a b : Nat) (ha : a < 9223372036854775808) (hb : b < 9223372036854775808) : (bits .andNot .i64 (a : Int) (b : Int) == 0) = withinB a b := by
  have hx : a &&& (18446744073709551616 - 1 - b) < 2 ^ 63 := Nat.lt_of_le_of_lt Nat.and_le_left (by omega)
  rw [b_andNot, nat_mod a ha, nat_mod b hb, wrap_n _ (by omega), Bool.eq_iff_iff]
  rw [beq_iff_eq, withinB, List.all_eq_true]
  have hbit : ∀ i, (18446744073709551616 - 1 - b).testBit i = (decide (i < 64) && !b.testBit i) := by
    intro i
    have h1 := Nat.testBit_two_pow_sub_succ (n := 64) (x := b) (by omega) i
    rw [show (2 : Nat) ^ 64 - (b + 1) = 18446744073709551616 - 1 - b by omega] at h1
    exact h1
  constructor
  · intro h i hi
    have hi2 := (mem_iff _ 63 i).1 hi
    have hz : a &&& (18446744073709551616 - 1 - b) = 0 := by omega
    have h3 := congrArg (fun x => x.testBit i) hz
    simp only [Nat.testBit_and, hbit, Nat.zero_testBit] at h3
    rw [has_test] at hi2 ⊢
    rw [hi2.2, decide_eq_true (by omega)] at h3
    simpa using h3
  · intro h
    have hz : a &&& (18446744073709551616 - 1 - b) = 0 := by
      apply Nat.eq_of_testBit_eq
      intro i
      rw [Nat.testBit_and, hbit, Nat.zero_testBit]
      cases ha2 : a.testBit i
      · rfl
      · have hi63 : i < 63 := by
          have hlt : a < 2 ^ 63 := by omega
          by_cases hi : i < 63
          · exact hi
          · have := Nat.testBit_lt_two_pow (Nat.lt_of_lt_of_le hlt (Nat.pow_le_pow_right (by omega) (show 63 ≤ i by omega)))
            rw [this] at ha2; cases ha2
        have := h i ((mem_iff _ 63 i).2 ⟨hi63, by rw [has_test]; exact ha2⟩)
        rw [has_test] at this
        rw [this]; simp
    rw [hz]; rfl
theorem i_has (n k : Nat) (hn : n < 9223372036854775808) : (bits .and .i64 ((n / 2 ^ k : Nat) : Int) 1 == 1) = has n k := by
  have hq : n / 2 ^ k ≤ n := Nat.div_le_self _ _
  have h1 := i64_and (n / 2 ^ k) 1 (by omega) (by omega)
  rw [show ((1 : Nat) : Int) = 1 from rfl, Nat.and_one_is_mod] at h1
  rw [h1, has_div, Bool.eq_iff_iff, beq_iff_eq, beq_iff_eq]; omega
theorem or_free (n k : Nat) (h : has n k = false) : n ||| 2 ^ k = n + 2 ^ k := by
  induction k generalizing n with
  | zero =>
    obtain ⟨t, rfl | rfl⟩ := halves n
    · have := or_eo t 0
      rw [Nat.or_zero] at this; exact this
    · rw [has_o0] at h; cases h
  | succ k ih =>
    rw [Nat.pow_succ, Nat.mul_comm]
    obtain ⟨t, rfl | rfl⟩ := halves n
    · rw [has_es] at h; rw [or_ee, ih t h]; omega
    · rw [has_os] at h; rw [or_oe, ih t h]; omega

/-! ### how many bits, by masks -/
theorem split_and (a q b r : Nat) (ha : a < 256) (hb : b < 256) : (a + 256 * q) &&& (b + 256 * r) = (a &&& b) + 256 * (q &&& r) := by
  have h1 := Nat.and_div_two_pow (a := a + 256 * q) (b := b + 256 * r) (n := 8)
  have h2 := Nat.and_mod_two_pow (a := a + 256 * q) (b := b + 256 * r) (n := 8)
  rw [show (2 : Nat) ^ 8 = 256 by decide] at h1 h2
  rw [show (a + 256 * q) / 256 = q by omega, show (b + 256 * r) / 256 = r by omega] at h1
  rw [show (a + 256 * q) % 256 = a by omega, show (b + 256 * r) % 256 = b by omega] at h2
  omega
def m1 : Nat → Nat
  | 0 => 0
  | j + 1 => 85 + 256 * m1 j
def m2 : Nat → Nat
  | 0 => 0
  | j + 1 => 51 + 256 * m2 j
def m3 : Nat → Nat
  | 0 => 0
  | j + 1 => 15 + 256 * m3 j
/-- the bits of each byte -/
def bs : Nat → Nat → Nat
  | 0, _ => 0
  | j + 1, n => cnt 8 (n % 256) + 256 * bs j (n / 256)
def s1 (j n : Nat) : Nat := (n / 2 &&& m1 j) + (n &&& m1 j)
def s2 (j y : Nat) : Nat := (y / 4 &&& m2 j) + (y &&& m2 j)
def s3 (j y : Nat) : Nat := (y / 16 + y) &&& m3 j
theorem byte1 : ∀ a, a < 256 → ∀ c, c < 2 → ((a / 2 + 128 * c) &&& 85) + (a &&& 85) = s1 1 a ∧ s1 1 a < 256 := by decide
theorem byte2 : ∀ a, a < 256 → ∀ c, c < 4 → ((a / 4 + 64 * c) &&& 51) + (a &&& 51) = s2 1 a := by decide
theorem byte3 : ∀ a, a < 256 → s2 1 (s1 1 a) < 256 ∧ s2 1 (s1 1 a) % 16 ≤ 4 ∧ s2 1 (s1 1 a) / 16 ≤ 4 ∧ (s2 1 (s1 1 a) / 16 + s2 1 (s1 1 a)) % 16 = cnt 8 a := by decide
theorem s1_step (j n : Nat) : s1 (j + 1) n = s1 1 (n % 256) + 256 * s1 j (n / 256) := by
  have hn : n = n % 256 + 256 * (n / 256) := by omega
  obtain ⟨a, ha⟩ : ∃ a, n % 256 = a := ⟨_, rfl⟩
  obtain ⟨q, hq⟩ : ∃ q, n / 256 = q := ⟨_, rfl⟩
  have ha2 : a < 256 := by omega
  rw [ha, hq] at hn ⊢
  subst hn
  rw [s1, m1, split_and a q 85 _ ha2 (by omega), show (a + 256 * q) / 2 = (a / 2 + 128 * (q % 2)) + 256 * (q / 2) by omega, split_and _ _ 85 _ (by omega) (by omega)]
  have := (byte1 a ha2 (q % 2) (by omega)).1
  show _ = s1 1 a + 256 * ((q / 2 &&& m1 j) + (q &&& m1 j))
  omega
theorem s2_step (j y q : Nat) (a : Nat) (ha : a < 256) (hy : y = a + 256 * q) : s2 (j + 1) y = s2 1 a + 256 * s2 j q := by
  subst hy
  rw [s2, m2, split_and a q 51 _ ha (by omega), show (a + 256 * q) / 4 = (a / 4 + 64 * (q % 4)) + 256 * (q / 4) by omega, split_and _ _ 51 _ (by omega) (by omega)]
  have := byte2 a ha (q % 4) (by omega)
  show _ = s2 1 a + 256 * ((q / 4 &&& m2 j) + (q &&& m2 j))
  omega
theorem s1_lt : ∀ j n, s1 j n < 256 ^ j
  | 0, n => by simp [s1, m1]
  | j + 1, n => by
    have h1 := (byte1 (n % 256) (by omega) 0 (by omega)).2
    have h2 := s1_lt j (n / 256)
    rw [s1_step, Nat.pow_succ]; omega
theorem s2_low (j n : Nat) : s2 j (s1 j n) % 16 ≤ 4 := by
  cases j with
  | zero => simp [s1, s2, m1, m2]
  | succ j =>
    have h1 := byte1 (n % 256) (by omega) 0 (by omega)
    have h3 := byte3 (n % 256) (by omega)
    rw [s1_step, s2_step j _ _ _ h1.2 rfl]; omega
theorem s3_all : ∀ j n, s3 j (s2 j (s1 j n)) = bs j n
  | 0, n => by simp [s3, m3, bs]
  | j + 1, n => by
    have h1 := byte1 (n % 256) (by omega) 0 (by omega)
    have h3 := byte3 (n % 256) (by omega)
    have hlow := s2_low j (n / 256)
    have ih := s3_all j (n / 256)
    rw [s1_step, s2_step j _ _ _ h1.2 rfl]
    obtain ⟨a, ha⟩ : ∃ a, s2 1 (s1 1 (n % 256)) = a := ⟨_, rfl⟩
    obtain ⟨q, hq⟩ : ∃ q, s2 j (s1 j (n / 256)) = q := ⟨_, rfl⟩
    rw [ha] at h3 ⊢
    rw [hq] at hlow ih ⊢
    rw [s3, m3, show (a + 256 * q) / 16 + (a + 256 * q) = (a / 16 + a + 16 * (q % 16)) + 256 * (q / 16 + q) by omega, split_and _ _ 15 _ (by omega) (by omega), bs, ← ih, s3, ← h3.2.2.2]
    congr 1
    have := Nat.and_two_pow_sub_one_eq_mod (a / 16 + a + 16 * (q % 16)) 4
    rw [show (2 : Nat) ^ 4 - 1 = 15 by decide, show (2 : Nat) ^ 4 = 16 by decide] at this
    rw [this]; omega
theorem cnt_split : ∀ i k n, cnt (i + k) n = cnt i (n % 2 ^ i) + cnt k (n / 2 ^ i)
  | 0, k, n => by rw [Nat.pow_zero, Nat.div_one, Nat.zero_add]; show _ = 0 + _; omega
  | i + 1, k, n => by
    rw [show i + 1 + k = (i + k) + 1 by omega, cnt_succ, cnt_split i k, cnt_succ i]
    have h1 : n % 2 ^ (i + 1) % 2 = n % 2 := Nat.mod_mod_of_dvd n (Nat.dvd_of_pow_dvd (show 1 ≤ i + 1 by omega) (Nat.dvd_refl _))
    have h2 : n % 2 ^ (i + 1) / 2 = n / 2 % 2 ^ i := by rw [Nat.pow_succ, Nat.mul_comm, Nat.mod_mul_right_div_self]
    have h3 : n / 2 / 2 ^ i = n / 2 ^ (i + 1) := by rw [Nat.div_div_eq_div_mul, Nat.pow_succ, Nat.mul_comm]
    rw [h1, h2, h3]; omega
theorem cnt_byte (k n : Nat) : cnt (8 + k) n = cnt 8 (n % 256) + cnt k (n / 256) := cnt_split 8 k n
theorem cnt_last (y : Nat) : cnt 8 y = cnt 8 (y % 256) := by
  have h := cnt_byte 0 y
  rw [show cnt 0 (y / 256) = 0 from rfl, Nat.add_zero, Nat.add_zero] at h
  exact h
theorem bs_all (n : Nat) : ∃ p0 p1 p2 p3 p4 p5 p6 p7 : Nat, bs 8 n = p0 + 256 * (p1 + 256 * (p2 + 256 * (p3 + 256 * (p4 + 256 * (p5 + 256 * (p6 + 256 * p7)))))) ∧ cnt 64 n = p0 + (p1 + (p2 + (p3 + (p4 + (p5 + (p6 + p7)))))) ∧
    p0 ≤ 8 ∧ p1 ≤ 8 ∧ p2 ≤ 8 ∧ p3 ≤ 8 ∧ p4 ≤ 8 ∧ p5 ≤ 8 ∧ p6 ≤ 8 ∧ p7 ≤ 8 := by
  refine ⟨cnt 8 (n % 256), cnt 8 (n / 256 % 256), cnt 8 (n / 256 / 256 % 256), cnt 8 (n / 256 / 256 / 256 % 256), cnt 8 (n / 256 / 256 / 256 / 256 % 256), cnt 8 (n / 256 / 256 / 256 / 256 / 256 % 256), cnt 8 (n / 256 / 256 / 256 / 256 / 256 / 256 % 256), cnt 8 (n / 256 / 256 / 256 / 256 / 256 / 256 / 256 % 256), ?_, ?_, cnt_le 8 _, cnt_le 8 _, cnt_le 8 _, cnt_le 8 _, cnt_le 8 _, cnt_le 8 _, cnt_le 8 _, cnt_le 8 _⟩
  · simp only [bs, Nat.mul_zero, Nat.add_zero]
  · rw [show (64 : Nat) = 8 + 56 from rfl, cnt_byte, show (56 : Nat) = 8 + 48 from rfl, cnt_byte, show (48 : Nat) = 8 + 40 from rfl, cnt_byte, show (40 : Nat) = 8 + 32 from rfl, cnt_byte, show (32 : Nat) = 8 + 24 from rfl, cnt_byte, show (24 : Nat) = 8 + 16 from rfl, cnt_byte, show (16 : Nat) = 8 + 8 from rfl, cnt_byte, cnt_last (n / 256 / 256 / 256 / 256 / 256 / 256 / 256)]
theorem div_of (r z d : Nat) (h : r < d) : (r + d * z) / d = z := by
  rw [Nat.add_mul_div_left _ _ (by omega), Nat.div_eq_of_lt h, Nat.zero_add]
theorem mod_of (r z d : Nat) (h : r < d) : (r + d * z) % d = r := by
  rw [Nat.add_mul_mod_self_left, Nat.mod_eq_of_lt h]
theorem sum_all (x p0 p1 p2 p3 p4 p5 p6 p7 : Nat) (hx : x = p0 + 256 * (p1 + 256 * (p2 + 256 * (p3 + 256 * (p4 + 256 * (p5 + 256 * (p6 + 256 * p7)))))))
    (l0 : p0 ≤ 8) (l1 : p1 ≤ 8) (l2 : p2 ≤ 8) (l3 : p3 ≤ 8) (l4 : p4 ≤ 8) (l5 : p5 ≤ 8) (l6 : p6 ≤ 8) (l7 : p7 ≤ 8) :
    ∃ y4 y5 y6 : Nat, x + x / 256 = y4 ∧ y4 + y4 / 65536 = y5 ∧ y5 + y5 / 4294967296 = y6 ∧ y6 < 9223372036854775808 ∧ y6 % 128 = p0 + (p1 + (p2 + (p3 + (p4 + (p5 + (p6 + p7)))))) := by
  have d1 : x / 256 = p1 + 256 * (p2 + 256 * (p3 + 256 * (p4 + 256 * (p5 + 256 * (p6 + 256 * p7))))) := by rw [hx]; exact div_of _ _ _ (by omega)
  obtain ⟨q1, hq1⟩ : ∃ q, p1 + 256 * (p2 + 256 * (p3 + 256 * (p4 + 256 * (p5 + 256 * (p6 + 256 * p7))))) = q := ⟨_, rfl⟩
  rw [hq1] at d1
  refine ⟨x + x / 256, x + x / 256 + (x + x / 256) / 65536, _, rfl, rfl, rfl, ?_⟩
  have e4 : x + q1 = (p0 + p1 + 256 * (p1 + p2)) + 65536 * (p2 + p3 + 256 * (p3 + p4) + 65536 * (p4 + p5 + 256 * (p5 + p6)) + 4294967296 * (p6 + p7 + 256 * p7)) := by rw [hx, ← hq1]; grind
  have d2 : (x + q1) / 65536 = p2 + p3 + 256 * (p3 + p4) + 65536 * (p4 + p5 + 256 * (p5 + p6)) + 4294967296 * (p6 + p7 + 256 * p7) := by rw [e4]; exact div_of _ _ _ (by omega)
  have e5 : x + q1 + (x + q1) / 65536 = (p0 + p1 + p2 + p3 + 256 * (p1 + p2 + p3 + p4) + 65536 * (p2 + p3 + p4 + p5) + 16777216 * (p3 + p4 + p5 + p6)) + 4294967296 * (p4 + p5 + p6 + p7 + 256 * (p5 + p6 + p7) + 65536 * (p6 + p7) + 16777216 * p7) := by rw [d2, e4]; grind
  have d3 : (x + q1 + (x + q1) / 65536) / 4294967296 = p4 + p5 + p6 + p7 + 256 * (p5 + p6 + p7) + 65536 * (p6 + p7) + 16777216 * p7 := by rw [e5]; exact div_of _ _ _ (by omega)
  rw [d1]
  have e6 : x + q1 + (x + q1) / 65536 + (x + q1 + (x + q1) / 65536) / 4294967296 = (p0 + (p1 + (p2 + (p3 + (p4 + (p5 + (p6 + p7))))))) + 128 * (2 * (p1 + p2 + p3 + p4 + p5 + p6 + p7) + 512 * (p2 + p3 + p4 + p5 + p6 + p7) + 131072 * (p3 + p4 + p5 + p6 + p7) + 33554432 * (p4 + p5 + p6 + p7 + 256 * (p5 + p6 + p7) + 65536 * (p6 + p7) + 16777216 * p7)) := by rw [d3, e5]; grind
  rw [e6]
  clear e6 d3 e5 d2 e4 d1 hq1 hx
  exact ⟨by omega, mod_of _ _ _ (by omega)⟩
set_option maxHeartbeats 1000000 in
theorem ones_steps (n : Nat) (hn : n < 18446744073709551616) : ∃ a1 b1 y1 a2 b2 y2 s3 y3 y4 y5 y6 : Nat,
    bits .and .u64 ((n : Int) / 2) 6148914691236517205 = (a1 : Int) ∧ bits .and .u64 (n : Int) 6148914691236517205 = (b1 : Int) ∧ IntKind.u64.wrap ((a1 : Int) + (b1 : Int)) = (y1 : Int) ∧
    bits .and .u64 ((y1 : Int) / 4) 3689348814741910323 = (a2 : Int) ∧ bits .and .u64 (y1 : Int) 3689348814741910323 = (b2 : Int) ∧ IntKind.u64.wrap ((a2 : Int) + (b2 : Int)) = (y2 : Int) ∧
    IntKind.u64.wrap ((y2 : Int) / 16 + (y2 : Int)) = (s3 : Int) ∧ bits .and .u64 (s3 : Int) 1085102592571150095 = (y3 : Int) ∧
    IntKind.u64.wrap ((y3 : Int) + (y3 : Int) / 256) = (y4 : Int) ∧ IntKind.u64.wrap ((y4 : Int) + (y4 : Int) / 65536) = (y5 : Int) ∧ IntKind.u64.wrap ((y5 : Int) + (y5 : Int) / 4294967296) = (y6 : Int) ∧
    y6 < 9223372036854775808 ∧ bits .and .i64 (y6 : Int) 127 = (cnt 64 n : Nat) := by
  have e1 : m1 8 = 6148914691236517205 := by decide
  have e2 : m2 8 = 3689348814741910323 := by decide
  have e3 : m3 8 = 1085102592571150095 := by decide
  have hall := s3_all 8 n
  have hlt1 : s1 8 n < 18446744073709551616 := by have := s1_lt 8 n; rw [show (256 : Nat) ^ 8 = 18446744073709551616 by decide] at this; exact this
  have hy2 : s2 8 (s1 8 n) < 2 * 3689348814741910324 := by
    have h1 : s1 8 n / 4 &&& m2 8 ≤ m2 8 := Nat.and_le_right
    have h2 : s1 8 n &&& m2 8 ≤ m2 8 := Nat.and_le_right
    rw [s2]; omega
  obtain ⟨p0, p1, p2, p3, p4, p5, p6, p7, hb, hcn, l0, l1, l2, l3, l4, l5, l6, l7⟩ := bs_all n
  obtain ⟨y4, y5, y6, h4, h5, h6, h7, h8⟩ := sum_all (bs 8 n) p0 p1 p2 p3 p4 p5 p6 p7 hb l0 l1 l2 l3 l4 l5 l6 l7
  have hbl : bs 8 n < 9223372036854775808 := by omega
  obtain ⟨x1, hx1⟩ : ∃ x, s1 8 n = x := ⟨_, rfl⟩
  obtain ⟨x2, hx2⟩ : ∃ x, s2 8 x1 = x := ⟨_, rfl⟩
  have hsum1 : (n / 2 &&& m1 8) + (n &&& m1 8) = x1 := hx1
  have hsum2 : (x1 / 4 &&& m2 8) + (x1 &&& m2 8) = x2 := hx2
  have hu5 : (x2 / 16 + x2) &&& m3 8 = bs 8 n := by rw [← hx2, ← hx1]; exact hall
  rw [hx1] at hlt1 hy2
  rw [hx2] at hy2
  have u1 := u_and_n (n / 2) (m1 8) (by omega) (by omega)
  have u2 := u_and_n n (m1 8) hn (by omega)
  have u3 := u_and_n (x1 / 4) (m2 8) (by omega) (by omega)
  have u4 := u_and_n x1 (m2 8) hlt1 (by omega)
  have u5 := u_and_n (x2 / 16 + x2) (m3 8) (by omega) (by omega)
  rw [hu5] at u5
  rw [e1] at u1 u2 hsum1
  rw [e2] at u3 u4 hsum2
  rw [e3] at u5
  generalize bs 8 n = x3 at *
  clear hall hx1 hx2 hu5 e1 e2 e3 hb l0 l1 l2 l3 l4 l5 l6 l7
  have hm := i64_and y6 127 h7 (by omega)
  have hmod := Nat.and_two_pow_sub_one_eq_mod y6 7
  rw [show (2 : Nat) ^ 7 - 1 = 127 by decide, show (2 : Nat) ^ 7 = 128 by decide] at hmod
  rw [hmod, h8, ← hcn] at hm
  generalize n / 2 &&& 6148914691236517205 = a1 at *
  generalize n &&& 6148914691236517205 = b1 at *
  generalize x1 / 4 &&& 3689348814741910323 = a2 at *
  generalize x1 &&& 3689348814741910323 = b2 at *
  have w1 : IntKind.u64.wrap ((a1 : Int) + (b1 : Int)) = (x1 : Int) := by rw [IntKind.wrap_u64]; omega
  have w2 : IntKind.u64.wrap ((a2 : Int) + (b2 : Int)) = (x2 : Int) := by rw [IntKind.wrap_u64]; omega
  have w3 : IntKind.u64.wrap ((x2 : Int) / 16 + (x2 : Int)) = ((x2 / 16 + x2 : Nat) : Int) := by rw [IntKind.wrap_u64]; omega
  have w4 : IntKind.u64.wrap ((x3 : Int) + (x3 : Int) / 256) = (y4 : Int) := by rw [IntKind.wrap_u64]; omega
  have w5 : IntKind.u64.wrap ((y4 : Int) + (y4 : Int) / 65536) = (y5 : Int) := by rw [IntKind.wrap_u64]; omega
  have w6 : IntKind.u64.wrap ((y5 : Int) + (y5 : Int) / 4294967296) = (y6 : Int) := by rw [IntKind.wrap_u64]; omega
  exact ⟨a1, b1, x1, a2, b2, x2, x2 / 16 + x2, x3, y4, y5, y6, u1, u2, w1, u3, u4, w2, w3, u5, w4, w5, w6, h7, hm⟩
theorem cnt64 (n : Nat) (hn : n < 9223372036854775808) : cnt 64 n = size n := cnt_more 63 n (by simpa using hn)

/-! ### the lowest bit's place, by a table -/
def dbTab : List Nat := [0, 1, 56, 2, 57, 49, 28, 3, 61, 58, 42, 50, 38, 29, 17, 4, 62, 47, 59, 36, 45, 43, 51, 22, 53, 39, 33, 30, 24, 18, 12, 5, 63, 55, 48, 27, 60, 41, 37, 16, 46, 35, 44, 21, 52, 32, 23, 11, 54, 26, 40, 15, 34, 20, 31, 10, 25, 14, 19, 9, 13, 8, 7, 6]
theorem dbTab_at : ∀ k, k < 64 → dbTab.getD (2 ^ k * 285870213051353865 % 18446744073709551616 / 288230376151711744) 0 = k := by decide
theorem u_low (i q n : Nat) (hq : n = 2 ^ i * (2 * q + 1)) (hn : n < 9223372036854775808) : bits .and .u64 (n : Int) (IntKind.u64.wrap (-(n : Int))) = (2 ^ i : Nat) := by
  have h := low_and i q 64 (by rw [← hq]; exact Nat.lt_of_lt_of_le hn (by decide))
  have hp := pow_p i
  have hn0 : 0 < n := by rw [hq]; exact Nat.mul_pos hp (by omega)
  rw [← hq, show (2 : Nat) ^ 64 = 18446744073709551616 by decide] at h
  rw [IntKind.wrap_u64, u_and, show ((n : Int) % 18446744073709551616).toNat = n by omega, show (-(n : Int) % 18446744073709551616 % 18446744073709551616).toNat = 18446744073709551616 - n by omega, h]

end Go.Proofs.YtmoilpkgoabopaaDoor.S

