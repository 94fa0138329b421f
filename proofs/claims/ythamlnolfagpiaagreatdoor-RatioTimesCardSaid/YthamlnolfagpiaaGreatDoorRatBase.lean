/-
  DERIVED. Merged by mkrat.py: RatKeep, RatMem, RatMem2.
-/
import Derived.Test.YthamlnolfagpiaaGreatDoorRatPure2
import Derived.Test.YthamlnolfagpiaaGreatDoorWholeIf
import Derived.Handy
import Derived.Deep.QuietTactic
import Derived.BigQuiet
import Derived.BigRegion
import Derived.Deep.RegionWith
import Derived.Deep.CutRange
import Derived.Deep.RegionHeld3
namespace Go.Proofs.YthamlnolfagpiaaGreatDoor.D
open Go.RowKit

/-- s and l keep the integer z: as an int, or as a text -/
def Rp (s : Int) (l : ByteArray) (z : Int) : Prop :=
  (l = ⟨#[]⟩ ∧ s = z ∧ -9223372036854775808 < z ∧ z < 9223372036854775808) ∨ (s = 0 ∧ l = inum z ∧ 18 ≤ nd z.natAbs ∧ nd z.natAbs ≤ 4096)
theorem Rp.short {z : Int} (h1 : -9223372036854775808 < z) (h2 : z < 9223372036854775808) : Rp z ⟨#[]⟩ z := .inl ⟨rfl, rfl, h1, h2⟩
theorem Rp.long {z : Int} (h1 : 18 ≤ nd z.natAbs) (h2 : nd z.natAbs ≤ 4096) : Rp 0 (inum z) z := .inr ⟨rfl, rfl, h1, h2⟩
theorem Rp.nd {s z : Int} {l : ByteArray} (h : Rp s l z) : nd z.natAbs ≤ 4096 := by
  rcases h with ⟨_, _, h1, h2⟩ | ⟨_, _, _, h⟩
  · exact Nat.le_trans (nd_le _ 18 (by omega)) (by omega)
  · exact h
theorem nd_big {n : Nat} (h : 18 ≤ nd n) : 10 ^ 17 ≤ n := by
  apply Decidable.byContradiction
  intro hc
  have := nd_le_of_lt (u := n) (k := 17) (by omega) (by omega)
  omega
theorem inum_long (z : Int) (h : 18 ≤ nd z.natAbs) : (inum z).size ≠ 0 := by rw [inum_size]; omega
theorem inum_some (z : Int) : (inum z).toList ≠ [] := by
  obtain ⟨c, t, hc, h1, h2⟩ := dec_head z.natAbs
  rw [ByteArray.toList_eq, inum_data]
  by_cases h : z < 0
  · rw [inumL_neg h]; simp
  · rw [inumL_pos (by omega), hc]; simp
/-- a text of at most 18 bytes is a small number's -/
theorem nd_lt_pow {u k : Nat} (h : nd u ≤ k) : u < 10 ^ k := lt_pow_of_nd h
theorem inum_small {z : Int} (h : (inum z).size ≤ 18) : -1000000000000000000 < z ∧ z < 1000000000000000000 := by
  have h1 := nd_sz h
  have h2 := nd_lt_pow h1
  omega
theorem inum_big {z : Int} (h : 18 < (inum z).size) : 18 ≤ nd z.natAbs := by
  rw [inum_size] at h
  have : off z ≤ 1 := by unfold off; split <;> omega
  omega

/-! ### quotients of ints -/
theorem tdiv_down (x y : Int) (hy : 0 < y) : (x.tmod y < 0 → x.tdiv y - 1 = x / y) ∧ (0 ≤ x.tmod y → x.tdiv y = x / y) := by
  have h1 := Int.mul_tdiv_add_tmod x y
  have h2 : (x.tmod y).natAbs < y.natAbs := by rw [Int.natAbs_tmod]; exact Nat.mod_lt _ (by omega)
  refine ⟨fun h => ?_, fun h => ?_⟩
  · have := (Int.ediv_emod_unique (a := x) (q := x.tdiv y - 1) (r := x.tmod y + y) hy).2 ⟨by rw [Int.mul_sub]; omega, by omega, by omega⟩
    exact this.1.symm
  · have := (Int.ediv_emod_unique (a := x) (q := x.tdiv y) (r := x.tmod y) hy).2 ⟨by omega, by omega, by omega⟩
    exact this.1.symm
theorem tdiv_bd (x y : Int) : (x.tdiv y).natAbs ≤ x.natAbs := by rw [Int.natAbs_tdiv]; exact Nat.div_le_self _ _
theorem tmod_bd (x y : Int) : (x.tmod y).natAbs ≤ x.natAbs := by rw [Int.natAbs_tmod]; exact Nat.mod_le _ _
theorem gcd_tmod (x y : Int) : Nat.gcd y.natAbs (x.tmod y).natAbs = Nat.gcd x.natAbs y.natAbs := by
  rw [Int.natAbs_tmod, Nat.gcd_comm y.natAbs, ← Nat.gcd_rec, Nat.gcd_comm]
theorem tmod_less {x y : Int} (hy : y ≠ 0) : (x.tmod y).natAbs < y.natAbs := by rw [Int.natAbs_tmod]; exact Nat.mod_lt _ (by omega)

/-! ### comparisons -/
theorem compareInt_cmpI (x y : Int) : Lib.compareInt x y = cmpI x y := by
  unfold Lib.compareInt cmpI
  split
  · rfl
  · split <;> split <;> first | rfl | omega
theorem compareInt_sgn (x : Int) : Lib.compareInt x 0 = sgnI x := by
  unfold Lib.compareInt sgnI
  split
  · rfl
  · split <;> split <;> first | rfl | omega
theorem cmpI_sub (x y : Int) : cmpI x y = sgnI (x - y) := by
  unfold cmpI sgnI
  split <;> split <;> (try split) <;> (try split) <;> first | rfl | omega
theorem cmpI_crs (r s : Rat) : cmpI (r.num * s.den) (s.num * r.den) = cmpR r s := cmpI_sub _ _

end Go.Proofs.YthamlnolfagpiaaGreatDoor.D

namespace Go.Proofs.YthamlnolfagpiaaGreatDoor.D
open Go.RowKit
set_option maxRecDepth 8000

/-- block n holds these cells -/
def Bk (w : World) (n : Nat) (cs : Array Value) (t : TypeId) : Prop := w.heap[n]? = some (.cells cs t)
section
variable {w w' : World} {n : Nat} {cs : Array Value} {t : TypeId}
theorem Bk.cell (h : Bk w n cs t) (k : Nat) {v : Value} (hv : cs[k]? = some v) : w.cell? ⟨n, k, none⟩ = some v := by unfold Bk at h; simp [World.cell?, h, hv]
theorem Bk.fr (h : Bk w n cs t) (k : Nat) : w.frozen? ⟨n, k, none⟩ = false := by unfold Bk at h; simp [World.frozen?, h]
theorem Bk.lt (h : Bk w n cs t) : n < w.heap.size := by
  apply Decidable.byContradiction
  intro hc
  unfold Bk at h
  rw [Array.getElem?_eq_none (by omega)] at h; cases h
theorem Bk.below {B : Nat} (h : Bk w n cs t) (hb : Below B w w') (hn : n < B) : Bk w' n cs t := (hb.block n hn).trans h
theorem Bk.under (h : Bk w n cs t) (hb : Below w.heap.size w w') : Bk w' n cs t := h.below hb h.lt
theorem Bk.alloc (h : Bk w n cs t) (o : Obj) : Bk (w.alloc o) n cs t := (Below.heap_alloc w o n h.lt).trans h
theorem Bk.made (w : World) (n : Nat) (hn : n = w.heap.size) (cs : Array Value) (t : TypeId) : Bk (w.alloc (.cells cs t)) n cs t := by
  subst hn
  show (w.heap.push _)[w.heap.size]? = _
  simp
theorem Bk.far (h : Bk w n cs t) {p : Addr} (hp : n ≠ p.block) (u : Value) : Bk (w.setCell p u) n cs t := (Below.heap_setCell w p u n hp).trans h
theorem Bk.set (h : Bk w n cs t) (k : Nat) (v : Value) : Bk (w.setCell ⟨n, k, none⟩ v) n (cs.setIfInBounds k v) t := by
  unfold Bk at *; simp [World.setCell, Array.getElem?_modify, h]
theorem Bk.drew (h : Bk w n cs t) : Bk w.drew n cs t := h
end

theorem Below.undrew {w w' : World} (h : Below w.drew.heap.size w.drew w') : Below w.heap.size w w' := ⟨h.os, h.tape, h.output, h.size, h.block⟩
theorem Below.undrewN {w w' : World} {n : Nat} (h : Below (w.drewN n).heap.size (w.drewN n) w') : Below w.heap.size w w' := (below_drewN (Below.refl _ w) n).trans (h.mono (Nat.le_refl _))

/-- an integer in memory -/
def Bi (w : World) (n : Nat) (s : Int) (l : ByteArray) : Prop := Bk w n #[.int .i64 s, .string l] 46
/-- a number in memory -/
def Bf (w : World) (n : Nat) (s : Int) (l : ByteArray) (s' : Int) (l' : ByteArray) : Prop := Bk w n #[.int .i64 s, .string l, .int .i64 s', .string l'] 48
/-- a chain in memory -/
def Bc (w : World) (n : Nat) (e : Int) : Prop := Bk w n #[.int .i64 e] 64
def cInt (s : Int) (l : ByteArray) : Obj := .cells #[.int .i64 s, .string l] 46
section
variable {w w' : World} {n : Nat} {s s' e : Int} {l l' : ByteArray}
theorem Bi.c0 (h : Bi w n s l) : w.cell? ⟨n, 0, none⟩ = some (.int .i64 s) := Bk.cell h 0 rfl
theorem Bi.c1 (h : Bi w n s l) : w.cell? ⟨n, 1, none⟩ = some (.string l) := Bk.cell h 1 rfl
theorem Bi.f0 (h : Bi w n s l) : w.frozen? ⟨n, 0, none⟩ = false := Bk.fr h 0
theorem Bi.f1 (h : Bi w n s l) : w.frozen? ⟨n, 1, none⟩ = false := Bk.fr h 1
theorem Bi.lt (h : Bi w n s l) : n < w.heap.size := Bk.lt h
theorem Bi.under (h : Bi w n s l) (hb : Below w.heap.size w w') : Bi w' n s l := Bk.under h hb
theorem Bi.below {B : Nat} (h : Bi w n s l) (hb : Below B w w') (hn : n < B) : Bi w' n s l := Bk.below h hb hn
theorem Bi.alloc (h : Bi w n s l) (o : Obj) : Bi (w.alloc o) n s l := Bk.alloc h o
theorem Bi.far (h : Bi w n s l) {p : Addr} (hp : n ≠ p.block) (u : Value) : Bi (w.setCell p u) n s l := Bk.far h hp u
theorem Bi.made (w : World) (n : Nat) (hn : n = w.heap.size) (s : Int) (l : ByteArray) : Bi (w.alloc (.cells #[.int .i64 s, .string l] 46)) n s l := Bk.made w n hn _ _
theorem Bi.put (h : Bi w n s l) (s' : Int) (l' : ByteArray) : Bi ((w.setCell ⟨n, 0, none⟩ (.int .i64 s')).setCell ⟨n, 1, none⟩ (.string l')) n s' l' := Bk.set (Bk.set h 0 (.int .i64 s')) 1 (.string l')
end

/-! ### fractions and chains in memory -/
def cFr (s : Int) (l : ByteArray) (s' : Int) (l' : ByteArray) : Obj := .cells #[.int .i64 s, .string l, .int .i64 s', .string l'] 48
def cCh (e : Int) : Obj := .cells #[.int .i64 e] 64
section
variable {w w' : World} {n : Nat} {s s' e : Int} {l l' : ByteArray}
theorem Bf.c0 (h : Bf w n s l s' l') : w.cell? ⟨n, 0, none⟩ = some (.int .i64 s) := Bk.cell h 0 rfl
theorem Bf.c1 (h : Bf w n s l s' l') : w.cell? ⟨n, 1, none⟩ = some (.string l) := Bk.cell h 1 rfl
theorem Bf.c2 (h : Bf w n s l s' l') : w.cell? ⟨n, 2, none⟩ = some (.int .i64 s') := Bk.cell h 2 rfl
theorem Bf.c3 (h : Bf w n s l s' l') : w.cell? ⟨n, 3, none⟩ = some (.string l') := Bk.cell h 3 rfl
theorem Bf.f (h : Bf w n s l s' l') (k : Nat) : w.frozen? ⟨n, k, none⟩ = false := Bk.fr h k
theorem Bf.lt (h : Bf w n s l s' l') : n < w.heap.size := Bk.lt h
theorem Bf.under (h : Bf w n s l s' l') (hb : Below w.heap.size w w') : Bf w' n s l s' l' := Bk.under h hb
theorem Bf.below {B : Nat} (h : Bf w n s l s' l') (hb : Below B w w') (hn : n < B) : Bf w' n s l s' l' := Bk.below h hb hn
theorem Bf.alloc (h : Bf w n s l s' l') (o : Obj) : Bf (w.alloc o) n s l s' l' := Bk.alloc h o
theorem Bf.far (h : Bf w n s l s' l') {p : Addr} (hp : n ≠ p.block) (u : Value) : Bf (w.setCell p u) n s l s' l' := Bk.far h hp u
theorem Bf.made (w : World) (n : Nat) (hn : n = w.heap.size) (s : Int) (l : ByteArray) (s' : Int) (l' : ByteArray) : Bf (w.alloc (.cells #[.int .i64 s, .string l, .int .i64 s', .string l'] 48)) n s l s' l' := Bk.made w n hn _ _
theorem Bf.put (h : Bf w n s l s' l') (a : Int) (b : ByteArray) (c : Int) (d : ByteArray) : Bf ((((w.setCell ⟨n, 0, none⟩ (.int .i64 a)).setCell ⟨n, 1, none⟩ (.string b)).setCell ⟨n, 2, none⟩ (.int .i64 c)).setCell ⟨n, 3, none⟩ (.string d)) n a b c d := by
  have h := (Bk.set (Bk.set (Bk.set (Bk.set h 0 (.int .i64 a)) 1 (.string b)) 2 (.int .i64 c)) 3 (.string d))
  exact h
theorem Bc.c0 (h : Bc w n e) : w.cell? ⟨n, 0, none⟩ = some (.int .i64 e) := Bk.cell h 0 rfl
theorem Bc.f0 (h : Bc w n e) : w.frozen? ⟨n, 0, none⟩ = false := Bk.fr h 0
theorem Bc.lt (h : Bc w n e) : n < w.heap.size := Bk.lt h
theorem Bc.under (h : Bc w n e) (hb : Below w.heap.size w w') : Bc w' n e := Bk.under h hb
theorem Bc.alloc (h : Bc w n e) (o : Obj) : Bc (w.alloc o) n e := Bk.alloc h o
theorem Bc.far (h : Bc w n e) {p : Addr} (hp : n ≠ p.block) (u : Value) : Bc (w.setCell p u) n e := Bk.far h hp u
theorem Bc.made (w : World) (n : Nat) (hn : n = w.heap.size) (e : Int) : Bc (w.alloc (.cells #[.int .i64 e] 64)) n e := Bk.made w n hn _ _
theorem Bc.put (h : Bc w n e) (e' : Int) : Bc (w.setCell ⟨n, 0, none⟩ (.int .i64 e')) n e' := Bk.set h 0 (.int .i64 e')
end
theorem bi2 {w w1 : World} {s s' : Int} {l l' : ByteArray} (h : Below ((w.alloc (cInt s l)).alloc (cInt s' l')).heap.size ((w.alloc (cInt s l)).alloc (cInt s' l')) w1) : Bi w1 w.heap.size s l ∧ Bi w1 (w.heap.size + 1) s' l' :=
  ⟨((Bi.made w _ rfl s l).alloc _).under h, (Bi.made (w.alloc (cInt s l)) _ (by simp) s' l').under h⟩
theorem bi3 {w w1 : World} {s s' s'' : Int} {l l' l'' : ByteArray} (h : Below (((w.alloc (cInt s l)).alloc (cInt s' l')).alloc (cInt s'' l'')).heap.size (((w.alloc (cInt s l)).alloc (cInt s' l')).alloc (cInt s'' l'')) w1) : Bi w1 w.heap.size s l ∧ Bi w1 (w.heap.size + 1) s' l' ∧ Bi w1 (w.heap.size + 2) s'' l'' :=
  ⟨(((Bi.made w _ rfl s l).alloc _).alloc _).under h, ((Bi.made (w.alloc (cInt s l)) _ (by simp) s' l').alloc _).under h, (Bi.made ((w.alloc (cInt s l)).alloc (cInt s' l')) _ (by simp) s'' l'').under h⟩

/-- all blocks but n are as they were -/
structure Turn (n : Nat) (w w' : World) : Prop where
  os : w'.os = w.os
  tape : w'.tape = w.tape
  output : w'.output = w.output
  size : w.heap.size ≤ w'.heap.size
  block : ∀ k, k < w.heap.size → k ≠ n → w'.heap[k]? = w.heap[k]?
section
variable {w w' w'' : World} {n : Nat}
theorem Turn.of (h : Below w.heap.size w w') : Turn n w w' := ⟨h.os, h.tape, h.output, h.size, fun k hk _ => h.block k hk⟩
theorem Turn.trans (h : Turn n w w') (k : Turn n w' w'') : Turn n w w'' :=
  ⟨k.os.trans h.os, k.tape.trans h.tape, k.output.trans h.output, Nat.le_trans h.size k.size, fun i hi hn => (k.block i (Nat.lt_of_lt_of_le hi h.size) hn).trans (h.block i hi hn)⟩
theorem Turn.set (w : World) (n : Nat) (k : Nat) (v : Value) : Turn n w (w.setCell ⟨n, k, none⟩ v) :=
  ⟨rfl, rfl, rfl, by simp [World.setCell], fun i _ hn => Below.heap_setCell w ⟨n, k, none⟩ v i hn⟩
theorem Turn.below {B : Nat} (h : Turn n w w') (hB : B ≤ w.heap.size) (hn : B ≤ n) : Below B w w' :=
  ⟨h.os, h.tape, h.output, h.size, fun k hk => h.block k (by omega) (by omega)⟩
theorem Turn.bk {m : Nat} {cs : Array Value} {t : TypeId} (h : Turn n w w') (hb : Bk w m cs t) (hm : m ≠ n) : Bk w' m cs t := (h.block m hb.lt hm).trans hb
theorem Turn.bi {m : Nat} {s : Int} {l : ByteArray} (h : Turn n w w') (hb : Bi w m s l) (hm : m ≠ n) : Bi w' m s l := h.bk hb hm
theorem Turn.bf {m : Nat} {s s' : Int} {l l' : ByteArray} (h : Turn n w w') (hb : Bf w m s l s' l') (hm : m ≠ n) : Bf w' m s l s' l' := h.bk hb hm
end

end Go.Proofs.YthamlnolfagpiaaGreatDoor.D

namespace Go.Proofs.YthamlnolfagpiaaGreatDoor.D
open Go.RowKit

theorem Below.keepc {w w' : World} (hb : Below w.heap.size w w') {p : Addr} {v : Value} (h : w.cell? p = some v) : w'.cell? p = some v := (hb.cell (World.block_lt_of_cell? _ _ h)).trans h
theorem Turn.keepc {n : Nat} {w w' : World} (hb : Turn n w w') {p : Addr} {v : Value} (h : w.cell? p = some v) (hp : p.block ≠ n) : w'.cell? p = some v :=
  (World.cell?_of_block (w := w) (hb.block p.block (World.block_lt_of_cell? _ _ h) hp)).trans h
theorem cell_far {w : World} {p q : Addr} {u v : Value} (h : w.cell? q = some v) (hne : q.block ≠ p.block) : (w.setCell p u).cell? q = some v :=
  (World.cell?_of_block (w := w) (Below.heap_setCell w p u q.block hne)).trans h
theorem far2 {w : World} {n : Nat} {q : Addr} {v a b : Value} (h : w.cell? q = some v) (hne : q.block ≠ n) : ((w.setCell ⟨n, 0, none⟩ a).setCell ⟨n, 1, none⟩ b).cell? q = some v := cell_far (cell_far h hne) hne
theorem far2' {w : World} {n : Nat} {q : Addr} {v c d : Value} (h : w.cell? q = some v) (hne : q.block ≠ n) : ((w.setCell ⟨n, 2, none⟩ c).setCell ⟨n, 3, none⟩ d).cell? q = some v := cell_far (cell_far h hne) hne
theorem far4 {w : World} {n : Nat} {q : Addr} {v a b c d : Value} (h : w.cell? q = some v) (hne : q.block ≠ n) : ((((w.setCell ⟨n, 0, none⟩ a).setCell ⟨n, 1, none⟩ b).setCell ⟨n, 2, none⟩ c).setCell ⟨n, 3, none⟩ d).cell? q = some v := far2' (far2 h hne) hne

end Go.Proofs.YthamlnolfagpiaaGreatDoor.D

