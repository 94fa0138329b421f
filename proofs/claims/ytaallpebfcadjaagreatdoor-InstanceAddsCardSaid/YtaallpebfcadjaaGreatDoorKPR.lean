/-
  DERIVED. KPR: a part of the base of layer 13 (made by pack.py).
-/
import Derived.Deep.RegionHeld3
import Derived.Laws.StructEq
import Derived.ChangeKeysEq
import Derived.Test.YtaallpebfcadjaaGreatDoorKPH
import Derived.Test.YtaallpebfcadjaaGreatDoorKPC
import Derived.Test.YtaallpebfcadjaaGreatDoorKPG
import Derived.Test.YtaallpebfcadjaaGreatDoorRows
import Derived.WalkKit
import Derived.WalkSpells
import Derived.WalkLawsBesides
import Derived.Below
import Derived.OwnWalk
import Derived.Laws.OwnMore
import Derived.Deep.AppendLies
import Derived.Deep.Draws
import Derived.Deep.QuietTactic
import Derived.BigQuiet
import Derived.Lib.Hide
import Derived.WalkSmall
import Derived.Deep.Onto
import Derived.Deep.LoopGhost
import Derived.Shelf.Abstract
import Derived.Test.YtaallpebfcadjaaGreatDoorKPA
import Derived.Test.YtaallpebfcadjaaGreatDoorKPB
import Derived.Lib.ItoaNum
import Derived.WalkMore
import Derived.IntWalk
import Derived.Laws.AppendOwn
import Derived.Deep.RegionLaw
import Derived.Deep.RegionWith
import Derived.Handy
import Derived.Maps.AppendAt
import Derived.Laws.AppendOwnNone
import Derived.Deep.DeepCutAuto
import Derived.Deep.Cut
import Derived.Deep.CutRange
import Derived.Test.YtaallpebfcadjaaGreatDoorShelf
/-! Slices of types, a type and a network by value, as arguments. -/
namespace Go.Proofs.YtaallpebfcadjaaGreatDoor.T
open Go.Joins Go.ChangeShapes Go.WideShapes Go.ChangeAt Go.RowKit Go.Deep
set_option maxRecDepth 8000

section
variable {H : Type} {enc : TypeId × Value → H}
theorem ints_of {W : World} {base : Nat} {v : Value} {y : DataW H × List MemPlace} {n : Nat}
    (hf : DataW.trod enc Tryz.prog W base (fun _ => true) true n 40 [v] = some y) (hlt : ∀ x ∈ y.2, x.block < W.heap.size) :
    ∃ (oa : Option Addr) (c : Nat) (l : List Int), v = .slice oa l.length c ∧ L.Li W v l ∧ l.length ≤ 9223372036854775807 := by
  obtain ⟨y1, y2⟩ := y
  simp only at hlt
  rcases open_ints Tryz.underlying40 Tryz.underlying3 (by kernel_rfl) hf with ⟨hcs, hx⟩ | ⟨a, len, cap, zs, hcs, _, hl, hm, hzl, hx, hcell, hwz⟩
  · simp only [List.cons.injEq, and_true] at hcs
    subst hcs
    exact ⟨none, 0, [], rfl, L.Li.nil W, by simp⟩
  · simp only [List.cons.injEq, and_true] at hcs
    subst hcs
    simp only [if_true] at hzl
    simp only [Prod.mk.injEq] at hx
    have hln : (zs.take len).length = len := by rw [List.length_take, Nat.min_eq_left (by omega)]
    refine ⟨some a, cap, zs.take len, by rw [hln], ⟨some a, cap, by rw [hln], fun i hi => ?_⟩, by rw [hln]; unfold maxLen at hm; omega⟩
    rw [hln] at hi
    refine ⟨a, rfl, row_lt (q := []) (n := i) (by rw [List.append_nil]; exact hx.2) hlt (show i < zs.length by omega), ?_⟩
    rw [hcell i (by omega), List.getD_eq_getElem?_getD, List.getD_eq_getElem?_getD, List.getElem?_take_of_lt (by omega)]

/-! ### one type -/
theorem type_of {W : World} {base : Nat} {cs : List Value} {x : DataW H × List MemPlace} {n : Nat} (hlen : cs.length = 14)
    (hf : DataW.trod enc Tryz.prog W base (fun _ => true) true n 56 cs = some x) (hlt : ∀ p ∈ x.2, p.block < W.heap.size) :
    ∃ (q : TyT) (oa : Option Addr) (c : Nat), cs = [.string q.name, .int .i64 q.count, .int .i64 q.fr, .int .i64 q.to, .slice oa q.cap.length c, .int .i64 q.skills, .int .i64 q.prof, .int .i64 q.opn, .int .i64 q.cls, .int .i64 q.drv, .int .i64 q.rst, .int .i64 q.fix, .int .i64 q.pm, .int .i64 q.pt] ∧
      L.Li W (.slice oa q.cap.length c) q.cap ∧ q.cap.length ≤ 9223372036854775807 ∧ q.name.size ≤ 9223372036854775807 ∧ q.skills ≤ 9223372036854775807 := by
  have he : Tryz.prog.underlying 56 = some (.struct #[_, _, _, _, _, _, _, _, _, _, _, _, _, _]) := Tryz.underlying56
  obtain ⟨xs, n', _, hx, _, hxl, hg⟩ := DataW.trod_struct he hf
  match cs, hlen with
  | [v0, v1, v2, v3, v4, v5, v6, v7, v8, v9, v10, v11, v12, v13], _ =>
    match xs, hxl with
    | [y0, y1, y2, y3, y4, y5, y6, y7, y8, y9, y10, y11, y12, y13], _ =>
      have k0 := hg 0 _ rfl
      have k1 := hg 1 _ rfl
      have k2 := hg 2 _ rfl
      have k3 := hg 3 _ rfl
      have k4 := hg 4 _ rfl
      have k5 := hg 5 _ rfl
      have k6 := hg 6 _ rfl
      have k7 := hg 7 _ rfl
      have k8 := hg 8 _ rfl
      have k9 := hg 9 _ rfl
      have k10 := hg 10 _ rfl
      have k11 := hg 11 _ rfl
      have k12 := hg 12 _ rfl
      have k13 := hg 13 _ rfl
      have o1 : Tryz.prog.cellsOf 3 = 1 := by kernel_rfl
      have o2 : Tryz.prog.cellsOf 40 = 1 := by kernel_rfl
      have o3 : Tryz.prog.cellsOf 9 = 1 := by kernel_rfl
      simp [o1, o2, o3] at k0 k1 k2 k3 k4 k5 k6 k7 k8 k9 k10 k11 k12 k13
      obtain ⟨s0, e0, z0⟩ : ∃ s : ByteArray, v0 = .string s ∧ s.size ≤ maxLen := by
        obtain ⟨s, e0, _, hs⟩ := DataW.trod_string Tryz.underlying9 k0
        simp only [List.cons.injEq, and_true] at e0
        exact ⟨s, e0, hs⟩
      obtain ⟨q1, e1, _, _⟩ := DataW.trod_int Tryz.underlying3 k1
      obtain ⟨q2, e2, _, _⟩ := DataW.trod_int Tryz.underlying3 k2
      obtain ⟨q3, e3, _, _⟩ := DataW.trod_int Tryz.underlying3 k3
      obtain ⟨q5, e5, _, w5⟩ := DataW.trod_int Tryz.underlying3 k5
      obtain ⟨q6, e6, _, _⟩ := DataW.trod_int Tryz.underlying3 k6
      obtain ⟨q7, e7, _, _⟩ := DataW.trod_int Tryz.underlying3 k7
      obtain ⟨q8, e8, _, _⟩ := DataW.trod_int Tryz.underlying3 k8
      obtain ⟨q9, e9, _, _⟩ := DataW.trod_int Tryz.underlying3 k9
      obtain ⟨q10, e10, _, _⟩ := DataW.trod_int Tryz.underlying3 k10
      obtain ⟨q11, e11, _, _⟩ := DataW.trod_int Tryz.underlying3 k11
      obtain ⟨q12, e12, _, _⟩ := DataW.trod_int Tryz.underlying3 k12
      obtain ⟨q13, e13, _, _⟩ := DataW.trod_int Tryz.underlying3 k13
      simp only [List.cons.injEq, and_true] at e1 e2 e3 e5 e6 e7 e8 e9 e10 e11 e12 e13
      subst e0 e1 e2 e3 e5 e6 e7 e8 e9 e10 e11 e12 e13
      subst hx
      obtain ⟨oa, c, l, rfl, hl, hl9⟩ := ints_of k4 (fun p hp => hlt p (by simp; exact .inr (.inr (.inr (.inr (.inl hp))))))
      refine ⟨⟨s0, q1, q2, q3, l, q5, q6, q7, q8, q9, q10, q11, q12, q13⟩, oa, c, rfl, hl, hl9, by unfold maxLen at z0; exact z0, ?_⟩
      have := bounds_i64 w5
      exact this.2
end

end Go.Proofs.YtaallpebfcadjaaGreatDoor.T


/-! Stops in memory, and what the functions of window answer, in plain numbers. -/
namespace Go.Proofs.YtaallpebfcadjaaGreatDoor.V
open Go.RowKit
set_option maxRecDepth 8000

theorem over {w W w1 : World} (h : Below w.heap.size w W) (b : Below W.heap.size W w1) : Below w.heap.size w w1 := h.trans (b.mono h.size)
theorem ret_bool {a b : Bool} (h : a = b) : Ending.returned (.bool a) = .returned (.bool b) := by rw [h]
theorem ret_int {k : IntKind} {a b : Int} (h : a = b) : Ending.returned (.int k a) = .returned (.int k b) := by rw [h]
theorem ne_eqI {a b : Int} (h : a ≠ b) : ((a == b) = false) := by
  rw [beq_eq_false_iff_ne]; exact h
/-- block n holds a stop -/
def Bs (w : World) (n : Nat) (p o c s : Int) : Prop := w.heap[n]? = some (.cells #[.int .i64 p, .int .i64 o, .int .i64 c, .int .i64 s] 42)
section
variable {w w' : World} {n : Nat} {p o c s : Int}
theorem Bs.c0 (h : Bs w n p o c s) : w.cell? ⟨n, 0, none⟩ = some (.int .i64 p) := by unfold Bs at h; simp [World.cell?, h]
theorem Bs.c1 (h : Bs w n p o c s) : w.cell? ⟨n, 1, none⟩ = some (.int .i64 o) := by unfold Bs at h; simp [World.cell?, h]
theorem Bs.c2 (h : Bs w n p o c s) : w.cell? ⟨n, 2, none⟩ = some (.int .i64 c) := by unfold Bs at h; simp [World.cell?, h]
theorem Bs.c3 (h : Bs w n p o c s) : w.cell? ⟨n, 3, none⟩ = some (.int .i64 s) := by unfold Bs at h; simp [World.cell?, h]
theorem Bs.f0 (h : Bs w n p o c s) : w.frozen? ⟨n, 0, none⟩ = false := by unfold Bs at h; simp [World.frozen?, h]
theorem Bs.lt (h : Bs w n p o c s) : n < w.heap.size := by
  apply Decidable.byContradiction
  intro hc
  unfold Bs at h
  rw [Array.getElem?_eq_none (by omega)] at h; cases h
theorem Bs.below (h : Bs w n p o c s) (hb : Below w.heap.size w w') : Bs w' n p o c s := (hb.block n h.lt).trans h
theorem Bs.alloc (h : Bs w n p o c s) (x : Obj) : Bs (w.alloc x) n p o c s := (Below.heap_alloc w x n h.lt).trans h
theorem Bs.made (w : World) (p o c s : Int) : Bs (w.alloc (.cells #[.int .i64 p, .int .i64 o, .int .i64 c, .int .i64 s] 42)) w.heap.size p o c s := by
  show (w.heap.push _)[w.heap.size]? = _
  simp
theorem Bs.put (h : Bs w n p o c s) (p' o' c' s' : Int) : Bs ((((w.setCell ⟨n, 0, none⟩ (.int .i64 p')).setCell ⟨n, 1, none⟩ (.int .i64 o')).setCell ⟨n, 2, none⟩ (.int .i64 c')).setCell ⟨n, 3, none⟩ (.int .i64 s')) n p' o' c' s' := by
  unfold Bs at *; simp [World.setCell, Array.getElem?_modify, h]
end

/-! ### what is answered -/
def tickB (t : Int) : Bool := decide (0 ≤ t) && decide (t ≤ 4096)
theorem tick_iff (t : Int) : tickB t = true ↔ 0 ≤ t ∧ t ≤ 4096 := by unfold tickB; simp
theorem tick_no {t : Int} (h : tickB t = false) : t < 0 ∨ 4096 < t := by
  unfold tickB at h
  rw [Bool.and_eq_false_iff, decide_eq_false_iff_not, decide_eq_false_iff_not] at h
  omega
/-- a stop that is none -/
def noneB (p o c s : Int) : Bool := decide (p = -1 ∧ o = 0 ∧ c = 0 ∧ s = 0)
/-- a stop at a place -/
def atB (p o c s : Int) : Bool := decide (0 ≤ p ∧ 0 ≤ o ∧ o ≤ c ∧ c ≤ 4096 ∧ 0 ≤ s ∧ s ≤ 4096)
def chk (p o c s : Int) : Int := if noneB p o c s || atB p o c s then 0 else 2
theorem at_iff (p o c s : Int) : atB p o c s = true ↔ 0 ≤ p ∧ 0 ≤ o ∧ o ≤ c ∧ c ≤ 4096 ∧ 0 ≤ s ∧ s ≤ 4096 := by unfold atB; rw [decide_eq_true_iff]
end Go.Proofs.YtaallpebfcadjaaGreatDoor.V


/-! Slices of int that hold natural numbers, nil or not. -/
namespace Go.Proofs.YtaallpebfcadjaaGreatDoor.S
open Go.RowKit
set_option maxRecDepth 8000

def iv (n : Nat) : Value := .int .i64 (n : Int)
theorem info3a : (Tryz.prog.info? 3).map (fun i => (i.zero, i.size, i.bytes)) = some (some (.int .i64 0), 1, 8) := by kernel_rfl
theorem info3' : ∃ i, Tryz.prog.info? 3 = some i ∧ i.zero = some (.int .i64 0) ∧ i.size = 1 ∧ i.bytes = 8 := by
  have h := info3a
  cases hi : Tryz.prog.info? 3 with
  | none => rw [hi] at h; cases h
  | some i => rw [hi] at h; simp at h; exact ⟨i, rfl, h.1, h.2.1, h.2.2⟩
theorem one_new (w : World) (x : Int) : ∀ (j : Nat) (v : Value), [Value.int .i64 x][j]? = some v → (w.alloc (.cells #[.int .i64 x] 3)).cell? ((⟨w.heap.size, 0, none⟩ : Addr).add j) = some v := by
  intro j v hv
  match j, hv with
  | 0, hv => simp at hv; subst hv; simp [Addr.add]
theorem one_cell (x : Int) : ∀ v ∈ [Value.int .i64 x], v.oneCell' = true := by
  intro v hv; simp at hv; subst hv; rfl
/-- the call's own slice v, made since block B, holds the digits l -/
def Owb (B : Nat) (w : World) (v : Value) (l : List Nat) : Prop := w.ownsRow B 3 1 v l.length (l.map iv)
theorem Owb.alloc {B : Nat} {w : World} {v : Value} {l : List Nat} (h : Owb B w v l) (o : Obj) : Owb B (w.alloc o) v l := World.ownsRow.alloc h o
theorem Owb.nil (B : Nat) (w : World) : Owb B w (.slice none 0 0) [] := World.ownsRow_nil w B _ _
theorem Owb.blk {B : Nat} {w : World} {v : Value} {l : List Nat} (h : Owb B w v l) : ∀ k, v.ownBlock = some k → B ≤ k := fun k hk => (World.ownsRow.lt h k hk).1
theorem Owb.of_own {B : Nat} {w : World} {v : Value} {n x : Nat} {l : List Nat} {z : Int} (hz : z = (x : Int)) (hn : l.length = n) (h : w.ownsRow B 3 1 v (n + 1) (l.map iv ++ [.int .i64 z])) : Owb B w v (l ++ [x]) := by
  subst hn
  subst hz
  unfold Owb
  rw [List.map_append, List.length_append]
  exact h
end Go.Proofs.YtaallpebfcadjaaGreatDoor.S


/-! Plain Lean: sets of numbers from 0 to 62 as natural numbers. -/
namespace Go.Proofs.YtaallpebfcadjaaGreatDoor.S

def has (n i : Nat) : Bool := n / 2 ^ i % 2 == 1
def hasI (n : Nat) (i : Int) : Bool := decide (0 ≤ i) && (decide (i ≤ 62) && has n i.toNat)
/-- how many of the k lowest bits are set -/
def cnt : Nat → Nat → Nat
  | 0, _ => 0
  | k + 1, n => n % 2 + cnt k (n / 2)
def size (n : Nat) : Nat := cnt 63 n
/-- the members below k -/
def mem (n k : Nat) : List Nat := (List.range k).filter (has n)
def members (n : Nat) : List Nat := mem n 63
theorem cnt_succ (k n : Nat) : cnt (k + 1) n = n % 2 + cnt k (n / 2) := rfl
theorem cnt_more (k : Nat) : ∀ n, n < 2 ^ k → cnt (k + 1) n = cnt k n := by
  induction k with
  | zero => intro n h; have : n = 0 := by simpa using h
            subst this; rfl
  | succ k ih =>
    intro n h
    rw [cnt_succ (k + 1), cnt_succ k n, ih (n / 2) (by rw [Nat.pow_succ] at h; omega)]
theorem cnt_le (k n : Nat) : cnt k n ≤ k := by
  induction k generalizing n with
  | zero => exact Nat.le_refl _
  | succ k ih => rw [cnt_succ]; have := ih (n / 2); omega
theorem mem_succ (n k : Nat) : mem n (k + 1) = mem n k ++ (if has n k then [k] else []) := by
  rw [mem, List.range_succ, List.filter_append]
  congr 1
  by_cases h : has n k = true
  · rw [if_pos h, List.filter_cons_of_pos h]; rfl
  · rw [if_neg h, List.filter_cons_of_neg h]; rfl
theorem mem_len (n k : Nat) : (mem n k).length ≤ k := by
  rw [mem]; exact Nat.le_trans (List.length_filter_le _ _) (by rw [List.length_range]; exact Nat.le_refl _)
theorem mem_iff (n k i : Nat) : i ∈ mem n k ↔ i < k ∧ has n i = true := by rw [mem, List.mem_filter, List.mem_range]
theorem pow_le62 {k : Nat} (h : k ≤ 62) : 2 ^ k ≤ 4611686018427387904 := Nat.le_trans (Nat.pow_le_pow_right (by omega) h) (by decide)
theorem hasI_nat {n k : Nat} (h : k ≤ 62) : hasI n (k : Int) = has n k := by
  rw [hasI, decide_eq_true (by omega), decide_eq_true (by omega)]; rfl
theorem hasI_neg {n : Nat} {i : Int} (h : i < 0) : hasI n i = false := by rw [hasI, decide_eq_false (by omega)]; rfl
theorem hasI_big {n : Nat} {i : Int} (h : 62 < i) : hasI n i = false := by rw [hasI, decide_eq_true (by omega), decide_eq_false (by omega)]; rfl

/-! ### a set of a list -/
theorem has_div (n i : Nat) : has n i = (n / 2 ^ i % 2 == 1) := rfl
theorem mod_step (n k : Nat) : n % 2 ^ (k + 1) = n % 2 ^ k + (if has n k then 2 ^ k else 0) := by
  rw [Nat.pow_succ, Nat.mod_mul, has_div]
  by_cases h : n / 2 ^ k % 2 = 1
  · rw [h]; simp
  · rw [show n / 2 ^ k % 2 = 0 by omega]; simp
theorem mem_cnt (n : Nat) : ∀ k, (mem n k).length = cnt k (n % 2 ^ k)
  | 0 => rfl
  | k + 1 => by
    have e : ∀ m k, m < 2 ^ k → ∀ b, b = 0 ∨ b = 1 → cnt (k + 1) (m + b * 2 ^ k) = cnt k m + b := by
      intro m k
      induction k generalizing m with
      | zero =>
        intro h b hb
        have : m = 0 := by simpa using h
        subst this
        rcases hb with rfl | rfl <;> rfl
      | succ k ih =>
        intro h b hb
        rw [Nat.pow_succ] at h
        rw [cnt_succ (k + 1), cnt_succ k m]
        have hq : b * 2 ^ (k + 1) = 2 * (b * 2 ^ k) := by rw [Nat.pow_succ, Nat.mul_comm (2 ^ k) 2, Nat.mul_left_comm]
        have h1 : (m + b * 2 ^ (k + 1)) % 2 = m % 2 := by rw [hq, Nat.add_mul_mod_self_left]
        have h2 : (m + b * 2 ^ (k + 1)) / 2 = m / 2 + b * 2 ^ k := by rw [hq, Nat.add_mul_div_left _ _ (by omega)]
        rw [h1, h2, ih (m / 2) (by omega) b hb]; omega
    rw [mem_succ, List.length_append, mem_cnt n k, mod_step]
    have h := e (n % 2 ^ k) k (Nat.mod_lt n (Nat.pow_pos (by omega)))
    by_cases hk : has n k = true
    · rw [if_pos hk, if_pos hk]
      have := h 1 (.inr rfl)
      rw [Nat.one_mul] at this
      rw [this]; rfl
    · rw [if_neg hk, if_neg hk]
      have := h 0 (.inl rfl)
      rw [Nat.zero_mul] at this
      rw [this]; rfl
theorem members_size {n : Nat} (hn : n < 2 ^ 63) : (members n).length = size n := by rw [members, mem_cnt, Nat.mod_eq_of_lt hn]; rfl

end Go.Proofs.YtaallpebfcadjaaGreatDoor.S


/-! The walks of lorryref05's Bit, Has, Size. -/
namespace Go.Proofs.YtaallpebfcadjaaGreatDoor.S
open Go.RowKit
set_option maxRecDepth 8000

theorem ret_bool {a b : Bool} (h : a = b) : Ending.returned (.bool a) = .returned (.bool b) := by rw [h]
theorem ret_int {k : IntKind} {a b : Int} (h : a = b) : Ending.returned (.int k a) = .returned (.int k b) := by rw [h]
end Go.Proofs.YtaallpebfcadjaaGreatDoor.S


/-! The walks of lorryref05's Members, Least, Within, Of. -/
namespace Go.Proofs.YtaallpebfcadjaaGreatDoor.S
open Go.RowKit
set_option maxRecDepth 8000

theorem mem_lt62 {n i : Nat} (h : i ∈ members n) : i ≤ 62 := by have := (mem_iff n 63 i).1 h; omega
end Go.Proofs.YtaallpebfcadjaaGreatDoor.S


/-! The walks of lorryref06's Add and Sub. -/
namespace Go.Proofs.YtaallpebfcadjaaGreatDoor.L
open Go.RowKit
set_option maxRecDepth 8000

/-- the call's own slice v of n numbers l -/
def Gn (B : Nat) (w : World) (v : Value) (n : Nat) (l : List Int) : Prop := w.ownsRow B 3 1 v n (l.map vi)
theorem Gn.own {B : Nat} {w : World} {v : Value} {n : Nat} {l : List Int} (h : Gn B w v n l) (e : n = l.length) : Own B w v l := by unfold Own; rw [← e]; exact h
theorem Gn.nil (B : Nat) (w : World) : Gn B w (.slice none 0 0) 0 [] := World.ownsRow_nil w B _ _
end Go.Proofs.YtaallpebfcadjaaGreatDoor.L


/-! Orders in plain lists: what each function answers. -/
namespace Go.Proofs.YtaallpebfcadjaaGreatDoor.T

/-- an order -/
structure OrT where
  name : ByteArray
  load : List Int
  pp : Int
  po : Int
  pc : Int
  ps : Int
  dp : Int
  dd : Int
  dc : Int
  ds : Int
  sk : Int
  pen : Int
  spl : Int
  las : Int
  now : Int
  off : Bool
deriving DecidableEq
def or0 : OrT := ⟨⟨#[]⟩, [], 0, 0, 0, 0, 0, 0, 0, 0, 0, 0, 0, 0, 0, false⟩
def sameO (a b : OrT) : Bool :=
  (a.name.toList == b.name.toList) && (a.load == b.load) && (a.pp == b.pp && (a.po == b.po && (a.pc == b.pc && a.ps == b.ps))) && (a.dp == b.dp && (a.dd == b.dd && (a.dc == b.dc && a.ds == b.ds))) && (a.sk == b.sk) && (a.pen == b.pen) && (a.spl == b.spl) && (a.las == b.las) && (a.now == b.now) && (a.off == b.off)
end Go.Proofs.YtaallpebfcadjaaGreatDoor.T


/-! Slices and blocks of orders (written by gen_ordrow.py). -/
namespace Go.Proofs.YtaallpebfcadjaaGreatDoor.T
open Go.RowKit
set_option maxRecDepth 8000

/-- an order by value -/
def orV (a : OrT) (vc : Value) : Value := .agg #[.string a.name, vc, .int .i64 a.pp, .int .i64 a.po, .int .i64 a.pc, .int .i64 a.ps, .int .i64 a.dp, .int .i64 a.dd, .int .i64 a.dc, .int .i64 a.ds, .int .i64 a.sk, .int .i64 a.pen, .int .i64 a.spl, .int .i64 a.las, .int .i64 a.now, .bool a.off]
/-- the cells of an order at an address -/
def Oc (w : World) (b o : Nat) (a : OrT) (vc : Value) : Prop :=
  w.cell? ⟨b, o, none⟩ = some (.string a.name) ∧ w.cell? ⟨b, o + 1, none⟩ = some vc ∧ w.cell? ⟨b, o + 2, none⟩ = some (.int .i64 a.pp) ∧ w.cell? ⟨b, o + 3, none⟩ = some (.int .i64 a.po) ∧ w.cell? ⟨b, o + 4, none⟩ = some (.int .i64 a.pc) ∧ w.cell? ⟨b, o + 5, none⟩ = some (.int .i64 a.ps) ∧ w.cell? ⟨b, o + 6, none⟩ = some (.int .i64 a.dp) ∧ w.cell? ⟨b, o + 7, none⟩ = some (.int .i64 a.dd) ∧ w.cell? ⟨b, o + 8, none⟩ = some (.int .i64 a.dc) ∧ w.cell? ⟨b, o + 9, none⟩ = some (.int .i64 a.ds) ∧ w.cell? ⟨b, o + 10, none⟩ = some (.int .i64 a.sk) ∧ w.cell? ⟨b, o + 11, none⟩ = some (.int .i64 a.pen) ∧ w.cell? ⟨b, o + 12, none⟩ = some (.int .i64 a.spl) ∧ w.cell? ⟨b, o + 13, none⟩ = some (.int .i64 a.las) ∧ w.cell? ⟨b, o + 14, none⟩ = some (.int .i64 a.now) ∧ w.cell? ⟨b, o + 15, none⟩ = some (.bool a.off)
theorem Oc.below {w w' : World} {b o : Nat} {a : OrT} {vc : Value} (h : Oc w b o a vc) (hl : b < w.heap.size) (hb : Below w.heap.size w w') : Oc w' b o a vc := by
  obtain ⟨h0, h1, h2, h3, h4, h5, h6, h7, h8, h9, h10, h11, h12, h13, h14, h15⟩ := h
  exact ⟨(hb.cell (p := ⟨b, _, none⟩) hl).trans h0, (hb.cell (p := ⟨b, _, none⟩) hl).trans h1, (hb.cell (p := ⟨b, _, none⟩) hl).trans h2, (hb.cell (p := ⟨b, _, none⟩) hl).trans h3, (hb.cell (p := ⟨b, _, none⟩) hl).trans h4, (hb.cell (p := ⟨b, _, none⟩) hl).trans h5, (hb.cell (p := ⟨b, _, none⟩) hl).trans h6, (hb.cell (p := ⟨b, _, none⟩) hl).trans h7, (hb.cell (p := ⟨b, _, none⟩) hl).trans h8, (hb.cell (p := ⟨b, _, none⟩) hl).trans h9, (hb.cell (p := ⟨b, _, none⟩) hl).trans h10, (hb.cell (p := ⟨b, _, none⟩) hl).trans h11, (hb.cell (p := ⟨b, _, none⟩) hl).trans h12, (hb.cell (p := ⟨b, _, none⟩) hl).trans h13, (hb.cell (p := ⟨b, _, none⟩) hl).trans h14, (hb.cell (p := ⟨b, _, none⟩) hl).trans h15⟩
/-- v is a slice of the orders l -/
def Os (w : World) (v : Value) (l : List OrT) : Prop :=
  ∃ (oa : Option Addr) (c : Nat), v = .slice oa l.length c ∧ ∀ i, i < l.length → ∃ (b o : Nat) (vc : Value), oa = some ⟨b, o, none⟩ ∧ b < w.heap.size ∧ Oc w b (o + i * 16) (l.getD i or0) vc ∧ L.Li w vc (l.getD i or0).load
theorem Os.below {w w' : World} {v : Value} {l : List OrT} (h : Os w v l) (hb : Below w.heap.size w w') : Os w' v l := by
  obtain ⟨oa, c, hv, h⟩ := h
  refine ⟨oa, c, hv, fun i hi => ?_⟩
  obtain ⟨b, o, vc, ha, hl, hc, ht⟩ := h i hi
  exact ⟨b, o, vc, ha, Nat.lt_of_lt_of_le hl hb.size, hc.below hl hb, ht.below hb⟩
theorem Os.nil (w : World) : Os w (.slice none 0 0) [] := ⟨none, 0, rfl, fun i hi => by cases hi⟩

/-- block n holds an order's sixteen cells -/
def Ob (w : World) (n : Nat) (x0 x1 x2 x3 x4 x5 x6 x7 x8 x9 x10 x11 x12 x13 x14 x15 : Value) : Prop := w.heap[n]? = some (.cells #[x0, x1, x2, x3, x4, x5, x6, x7, x8, x9, x10, x11, x12, x13, x14, x15] 44)
section
variable {w w' : World} {n : Nat} {x0 x1 x2 x3 x4 x5 x6 x7 x8 x9 x10 x11 x12 x13 x14 x15 : Value}
theorem Ob.c0 (h : Ob w n x0 x1 x2 x3 x4 x5 x6 x7 x8 x9 x10 x11 x12 x13 x14 x15) : w.cell? ⟨n, 0, none⟩ = some x0 := by unfold Ob at h; simp [World.cell?, h]
theorem Ob.c1 (h : Ob w n x0 x1 x2 x3 x4 x5 x6 x7 x8 x9 x10 x11 x12 x13 x14 x15) : w.cell? ⟨n, 1, none⟩ = some x1 := by unfold Ob at h; simp [World.cell?, h]
theorem Ob.c2 (h : Ob w n x0 x1 x2 x3 x4 x5 x6 x7 x8 x9 x10 x11 x12 x13 x14 x15) : w.cell? ⟨n, 2, none⟩ = some x2 := by unfold Ob at h; simp [World.cell?, h]
theorem Ob.c3 (h : Ob w n x0 x1 x2 x3 x4 x5 x6 x7 x8 x9 x10 x11 x12 x13 x14 x15) : w.cell? ⟨n, 3, none⟩ = some x3 := by unfold Ob at h; simp [World.cell?, h]
theorem Ob.c4 (h : Ob w n x0 x1 x2 x3 x4 x5 x6 x7 x8 x9 x10 x11 x12 x13 x14 x15) : w.cell? ⟨n, 4, none⟩ = some x4 := by unfold Ob at h; simp [World.cell?, h]
theorem Ob.c5 (h : Ob w n x0 x1 x2 x3 x4 x5 x6 x7 x8 x9 x10 x11 x12 x13 x14 x15) : w.cell? ⟨n, 5, none⟩ = some x5 := by unfold Ob at h; simp [World.cell?, h]
theorem Ob.c6 (h : Ob w n x0 x1 x2 x3 x4 x5 x6 x7 x8 x9 x10 x11 x12 x13 x14 x15) : w.cell? ⟨n, 6, none⟩ = some x6 := by unfold Ob at h; simp [World.cell?, h]
theorem Ob.c7 (h : Ob w n x0 x1 x2 x3 x4 x5 x6 x7 x8 x9 x10 x11 x12 x13 x14 x15) : w.cell? ⟨n, 7, none⟩ = some x7 := by unfold Ob at h; simp [World.cell?, h]
theorem Ob.c8 (h : Ob w n x0 x1 x2 x3 x4 x5 x6 x7 x8 x9 x10 x11 x12 x13 x14 x15) : w.cell? ⟨n, 8, none⟩ = some x8 := by unfold Ob at h; simp [World.cell?, h]
theorem Ob.c9 (h : Ob w n x0 x1 x2 x3 x4 x5 x6 x7 x8 x9 x10 x11 x12 x13 x14 x15) : w.cell? ⟨n, 9, none⟩ = some x9 := by unfold Ob at h; simp [World.cell?, h]
theorem Ob.c10 (h : Ob w n x0 x1 x2 x3 x4 x5 x6 x7 x8 x9 x10 x11 x12 x13 x14 x15) : w.cell? ⟨n, 10, none⟩ = some x10 := by unfold Ob at h; simp [World.cell?, h]
theorem Ob.c11 (h : Ob w n x0 x1 x2 x3 x4 x5 x6 x7 x8 x9 x10 x11 x12 x13 x14 x15) : w.cell? ⟨n, 11, none⟩ = some x11 := by unfold Ob at h; simp [World.cell?, h]
theorem Ob.c12 (h : Ob w n x0 x1 x2 x3 x4 x5 x6 x7 x8 x9 x10 x11 x12 x13 x14 x15) : w.cell? ⟨n, 12, none⟩ = some x12 := by unfold Ob at h; simp [World.cell?, h]
theorem Ob.c13 (h : Ob w n x0 x1 x2 x3 x4 x5 x6 x7 x8 x9 x10 x11 x12 x13 x14 x15) : w.cell? ⟨n, 13, none⟩ = some x13 := by unfold Ob at h; simp [World.cell?, h]
theorem Ob.c14 (h : Ob w n x0 x1 x2 x3 x4 x5 x6 x7 x8 x9 x10 x11 x12 x13 x14 x15) : w.cell? ⟨n, 14, none⟩ = some x14 := by unfold Ob at h; simp [World.cell?, h]
theorem Ob.c15 (h : Ob w n x0 x1 x2 x3 x4 x5 x6 x7 x8 x9 x10 x11 x12 x13 x14 x15) : w.cell? ⟨n, 15, none⟩ = some x15 := by unfold Ob at h; simp [World.cell?, h]
theorem Ob.f (h : Ob w n x0 x1 x2 x3 x4 x5 x6 x7 x8 x9 x10 x11 x12 x13 x14 x15) (k : Nat) : w.frozen? ⟨n, k, none⟩ = false := by unfold Ob at h; simp [World.frozen?, h]
theorem Ob.lt (h : Ob w n x0 x1 x2 x3 x4 x5 x6 x7 x8 x9 x10 x11 x12 x13 x14 x15) : n < w.heap.size := by
  apply Decidable.byContradiction
  intro hc
  unfold Ob at h
  rw [Array.getElem?_eq_none (by omega)] at h; cases h
theorem Ob.below (h : Ob w n x0 x1 x2 x3 x4 x5 x6 x7 x8 x9 x10 x11 x12 x13 x14 x15) (hb : Below w.heap.size w w') : Ob w' n x0 x1 x2 x3 x4 x5 x6 x7 x8 x9 x10 x11 x12 x13 x14 x15 := (hb.block n h.lt).trans h
theorem Ob.made (w : World) (x0 x1 x2 x3 x4 x5 x6 x7 x8 x9 x10 x11 x12 x13 x14 x15 : Value) : Ob (w.alloc (.cells #[x0, x1, x2, x3, x4, x5, x6, x7, x8, x9, x10, x11, x12, x13, x14, x15] 44)) w.heap.size x0 x1 x2 x3 x4 x5 x6 x7 x8 x9 x10 x11 x12 x13 x14 x15 := by
  show (w.heap.push _)[w.heap.size]? = _
  simp
end

end Go.Proofs.YtaallpebfcadjaaGreatDoor.T


/-! The walk of the specification's Same (written by gen_reford5.py). -/
namespace Go.Proofs.YtaallpebfcadjaaGreatDoor.T
open Go.RowKit
set_option maxRecDepth 8000

theorem eqlStop (p o c s p' o' c' s' : Int) (w : World) : (binOp .eql 42 (.agg #[.int .i64 p, .int .i64 o, .int .i64 c, .int .i64 s]) (.agg #[.int .i64 p', .int .i64 o', .int .i64 c', .int .i64 s'])).run Tryz.prog w = .ok (.bool (p == p' && (o == o' && (c == c' && s == s')))) w := by
  have hS : Tryz.prog.underlying 42 = some (.struct (Tryz.prog.fieldsOf 42)) := by kernel_rfl
  have hp : Tryz.prog.stoodInHeld 42 = false := by kernel_rfl
  have u3 := Tryz.underlying3
  have a3 := Tryz.isAgg3
  have z3 := Tryz.sizeOf3
  rw [run_eql_struct, show (10000 : Nat) = 9999 + 1 from rfl, run_equalIn_agg w 9999 42 _ _ hS hp]
  simp only [Program.fieldsOf, Tryz.underlying42]
  go_simp
  by_cases h1 : p = p' <;> by_cases h2 : o = o' <;> by_cases h3 : c = c' <;> by_cases h4 : s = s' <;> simp [h1, h2, h3, h4]
end Go.Proofs.YtaallpebfcadjaaGreatDoor.T


