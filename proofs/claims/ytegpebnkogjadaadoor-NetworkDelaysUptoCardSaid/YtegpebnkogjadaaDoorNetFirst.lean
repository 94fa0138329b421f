/-
  DERIVED. The walks of slices.Backward over arcs and of network's firstArcs.
-/
import Derived.Test.YtegpebnkogjadaaDoorNetMap
import Derived.RangeFuncBox
import Derived.RangeFuncNested
import Derived.RangeFuncBound
import Derived.RangeFuncCalls
import Derived.RangeFuncLeaves
import Derived.Shelf.Abstract
import Derived.Shelf.RegionOpen
import Derived.OwnWalkIn
import Derived.TacticsInMore
import Derived.LoopNIn
import Derived.LoopIn
namespace Go.Proofs.YtegpebnkogjadaaDoor.T
open Go.RowKit Go.Shelf
set_option maxRecDepth 8000
attribute [local go_sem] Oper.semAt_some

/-- what a round is handed: an index and an arc -/
structure ArcX where
  i : Nat
  fr : Int
  dt : Int
  prof : Int
  miles : Int
  ot : Option Addr
  nt : Nat
  ct : Nat
  os : Option Addr
  ns : Nat
  cs : Nat
  hi : i ≤ 1000000000
  hp : I64 prof
  hf : I64 fr
  ht : I64 dt
def encX (x : ArcX) : Array Value := #[.int .i64 (x.i : Int), .agg #[.int .i64 x.fr, .int .i64 x.dt, .int .i64 x.prof, .int .i64 x.miles, .slice x.ot x.nt x.ct, .slice x.os x.ns x.cs]]
/-- the arcs from behind: what has come when k rounds are over -/
def bkX (X : Nat → ArcX) (n k : Nat) : List ArcX := (List.range k).map fun j => X (n - 1 - j)
theorem bkX_len (X : Nat → ArcX) (n k : Nat) : (bkX X n k).length = k := by simp [bkX]
theorem bkX_succ (X : Nat → ArcX) (n k : Nat) : bkX X n (k + 1) = bkX X n k ++ [X (n - 1 - k)] := by simp [bkX, List.range_succ]
def XAt (n₀ : Nat) (W : World) (oa : Option Addr) (q : Nat) (x : ArcX) : Prop :=
  x.i = q ∧ ∃ b o, oa = some ⟨b, o, none⟩ ∧ b < n₀ ∧ Ac W b (o + q * 6) ⟨x.fr, x.dt, x.prof, x.miles, [], []⟩ (.slice x.ot x.nt x.ct) (.slice x.os x.ns x.cs)
theorem XAt.below {n₀ : Nat} {W W' : World} {oa : Option Addr} {q : Nat} {x : ArcX} (h : XAt n₀ W oa q x) (hb : Below n₀ W W') : XAt n₀ W' oa q x := by
  obtain ⟨hi, b, o, ha, hl, h0, h1, h2, h3, h4, h5⟩ := h
  exact ⟨hi, b, o, ha, hl, (hb.cell (p := ⟨b, _, none⟩) hl).trans h0, (hb.cell (p := ⟨b, _, none⟩) hl).trans h1, (hb.cell (p := ⟨b, _, none⟩) hl).trans h2, (hb.cell (p := ⟨b, _, none⟩) hl).trans h3, (hb.cell (p := ⟨b, _, none⟩) hl).trans h4, (hb.cell (p := ⟨b, _, none⟩) hl).trans h5⟩

/-- what a round keeps: all below n₀, and the box -/
def Kq (n₀ Bs : Nat) (W W' : World) : Prop := Below n₀ W W' ∧ W'.heap[Bs]? = W.heap[Bs]?
theorem kq_t {n₀ Bs : Nat} {A B C : World} (h : Kq n₀ Bs A B) (k : Kq n₀ Bs B C) : Kq n₀ Bs A C := ⟨h.1.trans k.1, k.2.trans h.2⟩
theorem kq_refl (n₀ Bs : Nat) (A : World) : Kq n₀ Bs A A := ⟨Below.refl _ _, rfl⟩
theorem kq_b {n₀ Bs : Nat} {w : World} (hn : n₀ ≤ w.heap.size) (hB : Bs < w.heap.size) (W : World) (l : Nat) (o o' : Obj) (hl : w.heap.size ≤ l) (h : W.heap[l]? = some o) (h1 : o.isCells = false) (h2 : o.isWalk = false) : Kq n₀ Bs W (W.putObj l o') :=
  ⟨belowK_b hn W l o o' hl h h1 h2, World.putObj_heap_other (by omega)⟩

set_option maxHeartbeats 2000000 in
theorem back1_in (l Bs n₀ n cap : Nat) (oa : Option Addr) (X : Nat → ArcX) (hn9 : n ≤ 1000000000) (J Jx : List ArcX → World → Prop)
    (hY : ∀ pre x W, J pre W → pre.length < n → YieldAt Fence.wide 3 Tryd.prog l (encX x) W fun e W' =>
      (e = .returned (.bool true) ∧ J (pre ++ [x]) W' ∧ Kq n₀ Bs W W') ∨ (e = .returned (.bool false) ∧ Jx (pre ++ [x]) W'))
    (W : World) (hc : W.cell? ⟨Bs, 0, none⟩ = some (.slice oa n cap)) (hX : ∀ q, q < n → XAt n₀ W oa q (X q)) (h0 : J [] W) :
    CallsIn Fence.wide 4 Tryd.prog 63 #[.func (.yield l) #[] #[], .pointer (some ⟨Bs, 0, none⟩)] W fun e W' => (∃ v, e = .returned v) ∧
      ((∃ ys, ys = bkX X n n ∧ J ys W') ∨ (∃ pre, True ∧ Jx pre W')) := by
  have HX := Lib.hid hX
  have HY := Lib.hid hY
  have HC := Lib.hid hc
  clear hX hY
  refine callsIn_of_wp Tryd.func63 rfl trivial ?_ rfl
  simp only [Tryd.ntmps63, List.size_toArray, List.length_cons, List.length_nil, Nat.reduceAdd, Nat.reduceSub, Array.replicate_succ, Array.replicate_zero, List.push_toArray, List.append_toArray, List.nil_append, List.cons_append]
  gi_wp2
  clear hc
  gi_loopw [3] (fun p wr => ∃ (m : Nat) (z : Int), p = .int .i64 z ∧ Hid (z + 1 = m) ∧ m ≤ n ∧ -1 ≤ z ∧ z ≤ 1000000000 ∧ Hid (J (bkX X n (n - m)) wr) ∧ Hid (Kq n₀ Bs W wr))
    (fun p _ => (intOf p + 1).toNat)
  case atStart => exact ⟨n, (n : Int) - 1, rfl, by show _ = _; omega, Nat.le_refl _, by omega, by omega, by show J _ _; rw [Nat.sub_self]; exact h0, kq_refl _ _ _⟩
  case round =>
    clear h0
    obtain ⟨m, z, rfl, hz, hm, hz1, hz2, HJ, HW⟩ := hrel
    cases m with
    | zero =>
      have hz' : z = -1 := by have := hz.out; omega
      subst hz'
      gi_wp2
      go_end0
      exact ⟨⟨_, rfl⟩, .inl ⟨_, rfl, HJ.out⟩⟩
    | succ q =>
      have hz' : z = (q : Int) := by have := hz.out; omega
      subst hz'
      have hq : q < n := by omega
      have hx := (HX.out q hq).below HW.out.1
      obtain ⟨fn, tmps, assign, body, hy, hR⟩ := HY.out _ (X q) wr HJ.out (by rw [bkX_len]; omega)
      have HE : Hid (bkX X n (n - (q + 1)) ++ [X q] = bkX X n (n - q)) := by
        show _ = _
        rw [show n - q = (n - (q + 1)) + 1 by omega, bkX_succ, show n - 1 - (n - (q + 1)) = q by omega]
      generalize bkX X n (n - (q + 1)) = pre at *
      have hcc := (World.cell?_of_block (a := ⟨Bs, 0, none⟩) HW.out.2).trans HC.out
      generalize X q = x at *
      obtain ⟨i, fr, dt, prof, miles, ot, nt, ct, os, ns, cs, hi, hp, hf, ht⟩ := x
      obtain ⟨hiq, b, o, rfl, hb, d0, d1, d2, d3, d4, d5⟩ := hx
      simp only at hiq d0 d1 d2 d3 d4 d5
      subst hiq
      simp only [encX] at hy
      have HR := Lib.hid hR
      clear hR hz
      have hqI : (i : Int) < (n : Int) := by omega
      gi_wp2
      refine HR.out.mono ?_
      rintro e W3 (⟨rfl, hJ3, hk3⟩ | ⟨rfl, hJx3⟩)
      · have HJ3 := Lib.hid (HE.out ▸ hJ3)
        have HW3 := Lib.hid (kq_t HW.out hk3)
        clear hJ3 hk3
        gi_wp2
        go_roundw
        case rel => exact ⟨i, (i : Int) - 1, rfl, by show _ = _; omega, by omega, by omega, by omega, HJ3, HW3⟩
        case measure => simp [intOf] <;> omega
      · gi_wp2
        refine bodyPost_ret (results_none rfl _ _ _) rfl ?_
        exact ⟨⟨_, rfl⟩, .inr ⟨_, trivial, hJx3⟩⟩
theorem back_stops (Bs n₀ n cap : Nat) (oa : Option Addr) (X : Nat → ArcX) (hn9 : n ≤ 1000000000) (w : World) (hBw : Bs < w.heap.size) (hn₀ : n₀ ≤ w.heap.size) (hc : w.cell? ⟨Bs, 0, none⟩ = some (.slice oa n cap)) (hX : ∀ q, q < n → XAt n₀ w oa q (X q)) :
    SeqStopsK Fence.wide 4 Tryd.prog 63 #[.pointer (some ⟨Bs, 0, none⟩)] encX (Kq n₀ Bs) (fun ys => ys = bkX X n n) (fun _ => True) n w := fun l J Jx W hW _ _ hY h0 =>
  back1_in l Bs n₀ n cap oa X hn9 J Jx hY W ((hW.cell (p := ⟨Bs, 0, none⟩) hBw).trans hc) (fun q hq => (hX q hq).below (hW.mono hn₀)) h0
theorem backward_n (oa : Option Addr) (n c : Nat) (w : World) :
    Calls Tryd.prog 52 #[.slice oa n c] w fun e w' => e = .returned (.func (.func 63) #[] #[.pointer (some ⟨w.heap.size, 0, none⟩)]) ∧ w' = w.alloc (.cells #[.slice oa n c] 23) := by
  go_enter Tryd.func52, Tryd.ntmps52
  go_wp2_with fail
  go_ret
  exact ⟨rfl, rfl⟩

end Go.Proofs.YtegpebnkogjadaaDoor.T

