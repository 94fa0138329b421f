/-
  DERIVED. HK: a part of the base of layer 13 (made by pack.py).
-/
import Derived.Test.YtomebalolmabnaaGreatDoorHE
import Derived.Laws.AppendOwnNone
import Derived.Deep.DeepCutAuto
import Derived.Deep.Cut
import Derived.Deep.CutRange
import Derived.Test.YtomebalolmabnaaGreatDoorHB
import Derived.ProofKit
import Derived.LaidMore
import Derived.ChangeSlices
import Derived.SliceStrings
import Derived.Carry
import Derived.OpenShut
import Derived.Deep.SlicePairs
import Derived.Deep.Slices
import Derived.Deep.Fields
import Derived.Lib.SmallJoins
import Derived.Maps.AppendAt
import Derived.Test.YtomebalolmabnaaGreatDoorShelf
import Derived.Lib.ItoaNum
import Derived.Test.YtomebalolmabnaaGreatDoorHA
import Derived.Lib.SliceRun
import Derived.Test.YtomebalolmabnaaGreatDoorHC
import Derived.Maps.OwnSet
import Derived.DeepKeys4
import Derived.RangeFuncBox
import Derived.RangeFuncNested
import Derived.RangeFuncBound
import Derived.RangeFuncCalls
import Derived.RangeFuncLeaves
import Derived.Shelf.Abstract
import Derived.Shelf.RegionOpen
import Derived.OwnWalkIn
import Derived.TacticsInMore
import Derived.LoopNIn
import Derived.LoopIn
import Derived.Test.YtomebalolmabnaaGreatDoorRows
import Derived.WalkKit
import Derived.WalkSpells
import Derived.WalkLawsBesides
import Derived.WalkMore
import Derived.Below
import Derived.OwnWalk
import Derived.IntWalk
import Derived.Laws.OwnMore
import Derived.Deep.AppendLies
import Derived.Deep.Draws
import Derived.Deep.QuietTactic
import Derived.Deep.RegionLaw
import Derived.BigQuiet
import Derived.Lib.Hide
import Derived.WalkSmall
import Derived.Deep.Onto
import Derived.Deep.LoopGhost
/-! The walk of the specification's Earliest. -/
namespace Go.Proofs.YtomebalolmabnaaGreatDoor.T
open Go.RowKit
set_option maxRecDepth 8000

theorem arrA_bd {np : Nat} {a : ArcT} (h : ArcOk np a) {t : Int} (ht : 0 ≤ t) : t ≤ arrA a t ∧ arrA a t ≤ t + 73728 := by
 have h1 := arr_ge h.tr ht
 have h2 := slowS_le t a.sl (fun k hk => (slowB_tick (h.slow k hk)).2)
 have := h.len
 unfold arrA
 omega
end Go.Proofs.YtomebalolmabnaaGreatDoor.T




/-! Earliest arrivals: the places settled in the order of their arrivals, and the arcs improved again and again, give the same list. -/
namespace Go.Proofs.YtomebalolmabnaaGreatDoor.T

theorem slowS_mono : ∀ (l : List (Int × Int)) {s t : Int}, (∀ k, k < l.length → 0 ≤ (l.getD k (0, 0)).2 ∧ (l.getD k (0, 0)).2 ≤ 4096) → s ≤ t → slowS l s ≤ slowS l t
 | [], _, _, _, _ => Int.le_refl _
 | p :: l, s, t, h, hst => by
  have h0 := h 0 (by simp)
  simp only [List.getD_cons_zero] at h0
  have := slowS_mono l (s := s) (t := t) (fun k hk => by have := h (k + 1) (by simpa using hk); simpa using this) hst
  show (if p.1 ≤ s then p.2 else 0) + slowS l s ≤ (if p.1 ≤ t then p.2 else 0) + slowS l t
  split <;> split <;> omega
theorem arrA_mono {np : Nat} {a : ArcT} (h : ArcOk np a) {s t : Int} (hst : s ≤ t) : arrA a s ≤ arrA a t := by
 have h1 := arr_le h.tr hst
 have h2 := slowS_mono a.sl (fun k hk => (slowB_tick (h.slow k hk)).2) hst
 unfold arrA
 omega

inductive Rch (l : List ArcT) (pr : Int) (f : Nat) (t : Int) : Nat → Nat → Int → Prop
  | here : Rch l pr f t 0 f t
  | step {n u : Nat} {x : Int} (a : ArcT) : Rch l pr f t n u x → a ∈ l → a.prof = pr → a.fr.toNat = u → Rch l pr f t (n + 1) a.to.toNat (arrA a x)
structure Ev (np : Nat) (l : List ArcT) (pr : Int) (f : Nat) (t : Int) (d : List Int) : Prop where
  len : d.length = np
  lo : ∀ p, p < np → -1 ≤ d.getD p 0
  rch : ∀ p, p < np → 0 ≤ d.getD p 0 → ∃ n, Rch l pr f t n p (d.getD p 0)
section
variable {pl : List ByteArray} {l : List ArcT} {pr : Int} {f : Nat} {t : Int}
structure Nx (np : Nat) (d : List Int) (lf : List Bool) (u : Nat) : Prop where
  lt : u < np
  new : lf.getD u false = false
  at_ : 0 ≤ d.getD u 0
  least : ∀ q, q < np → lf.getD q false = false → 0 ≤ d.getD q 0 → d.getD u 0 ≤ d.getD q 0
end
end Go.Proofs.YtomebalolmabnaaGreatDoor.T




/-! The walk of the specification's Slower. -/
namespace Go.Proofs.YtomebalolmabnaaGreatDoor.T
open Go.RowKit
set_option maxRecDepth 8000

theorem Nb.put {w : World} {n : Nat} {vp va : Value} (h : Nb w n vp va) (y0 y1 : Value) : Nb ((w.setCell ⟨n, 0, none⟩ y0).setCell ⟨n, 1, none⟩ y1) n y0 y1 := by
 unfold Nb at *; simp [World.setCell, Array.getElem?_modify, h]
end Go.Proofs.YtomebalolmabnaaGreatDoor.T




/-! A network by value, as an argument; how much it holds. -/
namespace Go.Proofs.YtomebalolmabnaaGreatDoor.T
open Go.Joins Go.ChangeShapes Go.WideShapes Go.ChangeAt Go.RowKit Go.Deep
set_option maxRecDepth 8000

theorem laidOut : laidOutB Tryz.prog = true := by kernel_rfl
section
variable {H : Type} {enc : TypeId × Value → H}
theorem bulk_pos (d : DataW H) : 1 ≤ Rows.uptoBulk d := by
 cases d with
 | lit l => cases l <;> simp [Rows.uptoBulk]
 | nil => simp [Rows.uptoBulk]
 | ptr d => simp [Rows.uptoBulk]
 | slice elems spare => simp [Rows.uptoBulk]
 | agg parts => simp [Rows.uptoBulk]
 | iface t d => simp [Rows.uptoBulk]
 | map entries => simp [Rows.uptoBulk]
 | held h => simp [Rows.uptoBulk]
theorem bulk_sum (l : List (DataW H)) : Rows.uptoBulkAll l = (l.map Rows.uptoBulk).sum := by
 induction l with
 | nil => simp [Rows.uptoBulkAll]
 | cons x l ih => simp only [Rows.uptoBulkAll, ih, List.map_cons, List.sum_cons]
theorem bulk_len (l : List (DataW H)) : l.length ≤ Rows.uptoBulkAll l := by
 induction l with
 | nil => simp [Rows.uptoBulkAll]
 | cons x l ih => have := bulk_pos x; simp only [Rows.uptoBulkAll, List.length_cons]; omega
theorem bulk_slice (a b : List (DataW H)) : Rows.uptoBulkAll a + 1 ≤ Rows.uptoBulk (.slice a b) := by simp only [Rows.uptoBulk]; omega
theorem sum_le {n : Nat} {f g : Nat → Nat} (h : ∀ i, i < n → f i ≤ g i) : ((List.range n).map f).sum ≤ ((List.range n).map g).sum := by
 induction n with
 | zero => simp
 | succ n ih =>
  rw [List.range_succ, List.map_append, List.map_append, List.sum_append, List.sum_append]
  have := ih (fun i hi => h i (by omega))
  have := h n (by omega)
  simp
  omega
theorem bulk_part {x : DataW H} {l : List (DataW H)} (h : x ∈ l) : Rows.uptoBulk x ≤ Rows.uptoBulkAll l := by
 induction l with
 | nil => cases h
 | cons y l ih =>
  simp only [Rows.uptoBulkAll]
  rcases List.mem_cons.1 h with rfl | h
  ·omega
  ·have := ih h; omega

theorem row_lt {W : World} {a : Addr} {n m : Nat} {p q : List MemPlace} (hp : p = MemPlace.row a m ++ q) (hlt : ∀ x ∈ p, x.block < W.heap.size) (hn : n < m) : a.block < W.heap.size := by
 subst hp
 obtain ⟨b, off, spot⟩ := a
 exact hlt (.cell b off) (List.mem_append.2 (.inl (MemPlace.mem_row.2 ⟨0, by omega, by simp⟩)))
end

end Go.Proofs.YtomebalolmabnaaGreatDoor.T




/-! The walks of network's small functions: isTick, isPlace, wayOf, earlier, copyOf; text's Decimal; slices.Clone. -/
namespace Go.Proofs.YtomebalolmabnaaGreatDoor.T
open Go.RowKit
set_option maxRecDepth 8000

theorem netPlace_n (op : Option Addr) (n c : Nat) (va : Value) (x : Int) (w : World) :
  Calls Tryz.prog 82 #[.agg #[.slice op n c, va], .int .i64 x] w fun e w' => e = .returned (.bool (inB n x)) ∧ Below w.heap.size w w' := by
 by_cases h1 : 0 ≤ x
 ·have HR : Hid (decide (x < n) = inB n x) := by show _ = _; unfold inB; rw [decide_eq_true h1, Bool.true_and]
  generalize inB n x = r at *
  go_enter Tryz.func82, Tryz.ntmps82
  go_wp2_with fail
  go_ret
  exact ⟨ret_bool HR.out, by go_grown⟩
 ·have HR : Hid (false = inB n x) := by show _ = _; unfold inB; rw [decide_eq_false h1, Bool.false_and]
  have h2 : x < 0 := by omega
  generalize inB n x = r at *
  go_enter Tryz.func82, Tryz.ntmps82
  go_wp2_with fail
  go_ret
  exact ⟨ret_bool HR.out, by go_grown⟩
theorem wayOf_n (fr dt prof miles : Int) (vt vs : Value) (w : World) :
  Calls Tryz.prog 92 #[.agg #[.int .i64 fr, .int .i64 dt, .int .i64 prof, .int .i64 miles, vt, vs]] w fun e w' => e = .returned (.agg #[.int .i64 prof, .int .i64 fr, .int .i64 dt]) ∧ Below w.heap.size w w' := by
 go_enter Tryz.func92, Tryz.ntmps92
 go_wp2_with fail
 exact bodyPost_ret (v := .agg #[.int .i64 prof, .int .i64 fr, .int .i64 dt]) (by simp [results, Tryz.results92, go_sem]) rfl ⟨rfl, by go_grown⟩
end Go.Proofs.YtomebalolmabnaaGreatDoor.T




/-! Maps of ways and of texts that a call makes itself. -/
namespace Go.Proofs.YtomebalolmabnaaGreatDoor.T
open Go.RowKit
set_option maxRecDepth 8000

def I64 (x : Int) : Prop := -9223372036854775808 ≤ x ∧ x ≤ 9223372036854775807
theorem wf_i64 {x : Int} (h : (Lit.int .i64 x).wf = true) : I64 x := by
 unfold I64
 simp [Lit.wf, IntKind.min, IntKind.max, IntKind.signed, IntKind.bits] at h
 omega
abbrev WayF := Int → Int → Int → Option Nat
def fixA (pr f t : Int) : List ArcT → Nat → Option Nat
  | [], _ => none
  | a :: l, k => if hitB pr f t a then some k else fixA pr f t l (k + 1)
def ixA (l : List ArcT) (k : Nat) : WayF := fun p f t => fixA p f t (l.drop k) k
theorem ixA_end (l : List ArcT) (p f t : Int) : ixA l l.length p f t = none := by unfold ixA; rw [List.drop_length]; rfl
theorem fixA_some {pr f t : Int} : ∀ {l : List ArcT} {k i : Nat}, fixA pr f t l k = some i → k ≤ i ∧ i - k < l.length ∧ hitB pr f t (l.getD (i - k) arc0) = true ∧ findA l pr f t = some (l.getD (i - k) arc0) ∧ ∀ j, j < i - k → hitB pr f t (l.getD j arc0) = false
 | [], k, i, h => by cases h
 | a :: l, k, i, h => by
  unfold fixA at h
  by_cases e : hitB pr f t a = true
  ·rw [if_pos e] at h
   injection h with h
   subst h
   rw [Nat.sub_self]
   refine ⟨Nat.le_refl _, by simp, e, ?_, fun j hj => absurd hj (Nat.not_lt_zero _)⟩
   unfold findA; rw [List.find?_cons, e]; rfl
  ·rw [if_neg e] at h
   have e' : hitB pr f t a = false := by cases hb : hitB pr f t a <;> simp_all
   obtain ⟨h1, h2, h3, h4, h5⟩ := fixA_some h
   have hs : i - k = (i - (k + 1)) + 1 := by omega
   rw [hs]
   refine ⟨by omega, by rw [List.length_cons]; omega, by simpa using h3, ?_, fun j hj => ?_⟩
   ·unfold findA at h4 ⊢; rw [List.find?_cons, e']; simpa using h4
   ·cases j with
    | zero => exact e'
    | succ j => simpa using h5 j (by omega)
theorem fixA_none {pr f t : Int} : ∀ {l : List ArcT} {k : Nat}, fixA pr f t l k = none → findA l pr f t = none
 | [], _, _ => rfl
 | a :: l, k, h => by
  unfold fixA at h
  by_cases e : hitB pr f t a = true
  ·rw [if_pos e] at h; cases h
  ·rw [if_neg e] at h
   have e' : hitB pr f t a = false := by cases hb : hitB pr f t a <;> simp_all
   have := fixA_none h
   unfold findA at this ⊢
   rw [List.find?_cons, e']; exact this
theorem ix_some {l : List ArcT} {p f t : Int} {i : Nat} (h : ixA l 0 p f t = some i) : i < l.length ∧ findA l p f t = some (l.getD i arc0) := by
 unfold ixA at h
 rw [List.drop_zero] at h
 obtain ⟨-, h2, -, h4, -⟩ := fixA_some h
 exact ⟨by omega, by simpa using h4⟩
theorem ix_none {l : List ArcT} {p f t : Int} (h : ixA l 0 p f t = none) : findA l p f t = none := by
 unfold ixA at h
 rw [List.drop_zero] at h
 exact fixA_none h
end Go.Proofs.YtomebalolmabnaaGreatDoor.T




/-! The walks of slices.Backward over arcs and of network's firstArcs. -/
namespace Go.Proofs.YtomebalolmabnaaGreatDoor.T
open Go.RowKit Go.Shelf
set_option maxRecDepth 8000
attribute [local go_sem] Oper.semAt_some

structure ArcX where
  i : Nat
  fr : Int
  dt : Int
  prof : Int
  miles : Int
  ot : Option Addr
  nt : Nat
  ct : Nat
  os : Option Addr
  ns : Nat
  cs : Nat
  hi : i ≤ 1000000000
  hp : I64 prof
  hf : I64 fr
  ht : I64 dt
end Go.Proofs.YtomebalolmabnaaGreatDoor.T




/-! The walk of network's firstArcs. -/
namespace Go.Proofs.YtomebalolmabnaaGreatDoor.T
open Go.RowKit Go.Shelf
set_option maxRecDepth 8000
attribute [local go_sem] Oper.semAt_some

instance : Inhabited ArcX := ⟨⟨0, 0, 0, 0, 0, none, 0, 0, none, 0, 0, by omega, by unfold I64; omega, by unfold I64; omega, by unfold I64; omega⟩⟩
def Wfa (l : List ArcT) : Prop := ∀ i, i < l.length → I64 (l.getD i arc0).fr ∧ I64 (l.getD i arc0).to ∧ I64 (l.getD i arc0).prof
end Go.Proofs.YtomebalolmabnaaGreatDoor.T




/-! The walks of network's firstArc, arrival, nextPlace. -/
namespace Go.Proofs.YtomebalolmabnaaGreatDoor.T
open Go.RowKit
set_option maxRecDepth 8000

def ixI : Option Nat → Int
  | some i => i
  | none => -1
theorem ix_next {l : List ArcT} {k : Nat} (hk : k < l.length) (p f t : Int) : ixA l k p f t = if hitB p f t (l.getD k arc0) then some k else ixA l (k + 1) p f t := by
 unfold ixA
 rw [show l.drop k = l.getD k arc0 :: l.drop (k + 1) from drop_more (d := arc0) hk]
 rfl
def Wb (w : World) (n : Nat) (p f t : Int) : Prop := w.heap[n]? = some (.cells #[.int .i64 p, .int .i64 f, .int .i64 t] 153)
section
variable {w w' : World} {n : Nat} {p f t : Int}
theorem Wb.c0 (h : Wb w n p f t) : w.cell? ⟨n, 0, none⟩ = some (.int .i64 p) := by unfold Wb at h; simp [World.cell?, h]
theorem Wb.c1 (h : Wb w n p f t) : w.cell? ⟨n, 1, none⟩ = some (.int .i64 f) := by unfold Wb at h; simp [World.cell?, h]
theorem Wb.c2 (h : Wb w n p f t) : w.cell? ⟨n, 2, none⟩ = some (.int .i64 t) := by unfold Wb at h; simp [World.cell?, h]
theorem Wb.lt (h : Wb w n p f t) : n < w.heap.size := by
 apply Decidable.byContradiction
 intro hc
 unfold Wb at h
 rw [Array.getElem?_eq_none (by omega)] at h; cases h
theorem Wb.below (h : Wb w n p f t) (hb : Below w.heap.size w w') : Wb w' n p f t := (hb.block n h.lt).trans h
theorem Wb.made (w : World) (p f t : Int) : Wb (w.alloc (.cells #[.int .i64 p, .int .i64 f, .int .i64 t] 153)) w.heap.size p f t := by
 show (w.heap.push _)[w.heap.size]? = _
 simp
end

set_option maxHeartbeats 3200000 in
theorem firstArc_n (va : Value) (l : List ArcT) (p f t : Int) (hl : l.length ≤ 1000000000) (w : World) (ha : As w va l) :
  Calls Tryz.prog 83 #[va, .agg #[.int .i64 p, .int .i64 f, .int .i64 t]] w fun e w' => e = .returned (.int .i64 (ixI (ixA l 0 p f t))) ∧ Below w.heap.size w w' := by
 have HST := Lib.hid (fun k (hk : k < l.length) => ix_next hk p f t)
 have HZ := Lib.hid (ixA_end l p f t)
 have HE : Hid (ixA l 0 p f t = ixA l 0 p f t) := rfl
 generalize hr : ixA l 0 p f t = r at HE ⊢
 clear HE
 have HE := Lib.hid hr
 clear hr
 obtain ⟨oa, c, rfl, ha⟩ := ha
 have HA := Lib.hid ha
 clear ha
 generalize hn : l.length = n at *
 obtain ⟨W0, hW0⟩ : ∃ W0, w.alloc (.cells #[.int .i64 p, .int .i64 f, .int .i64 t] 153) = W0 := ⟨_, rfl⟩
 have B0 := Lib.hid (below_alloc w (.cells #[.int .i64 p, .int .i64 f, .int .i64 t] 153))
 have V0 := Lib.hid (Wb.made w p f t)
 rw [hW0] at B0 V0
 go_enter Tryz.func83, Tryz.ntmps83
 go_wp2_with fail
 clear hW0
 go_loopw [8] (fun i wr => ∃ k : Nat, k ≤ n ∧ i = .int .i64 k ∧ Hid (ixA l k p f t = r) ∧ Hid (Wb wr w.heap.size p f t) ∧ Hid (Below w.heap.size w wr)) (fun i _ => n - (intOf i).toNat)
 case atStart => exact ⟨0, Nat.zero_le _, rfl, HE, V0, B0⟩
 case round =>
  clear HE V0 B0
  obtain ⟨k, hk, rfl, HI, HV, HW⟩ := hrel
  by_cases hlt : k < n
  ·obtain ⟨b, o, vt, vs, rfl, hab, ⟨h0, h1, h2, h3, h4, h5⟩, hpt, hps⟩ := HA.out k hlt
   have hst := HST.out k hlt
   have d0 := (HW.out.cell (p := ⟨b, _, none⟩) hab).trans h0
   have d1 := (HW.out.cell (p := ⟨b, _, none⟩) hab).trans h1
   have d2 := (HW.out.cell (p := ⟨b, _, none⟩) hab).trans h2
   have d3 := (HW.out.cell (p := ⟨b, _, none⟩) hab).trans h3
   have d4 := (HW.out.cell (p := ⟨b, _, none⟩) hab).trans h4
   have d5 := (HW.out.cell (p := ⟨b, _, none⟩) hab).trans h5
   clear h0 h1 h2 h3 h4 h5
   obtain ⟨ot, ct, hvt, -⟩ := hpt
   obtain ⟨os, cs, hvs, -⟩ := hps
   subst hvt
   subst hvs
   generalize l.getD k arc0 = a at *
   obtain ⟨fr, dt, prof, miles, tr, sl⟩ := a
   simp only at d0 d1 d2 d3 d4 d5 hst
   have g0 := HV.out.c0
   have g1 := HV.out.c1
   have g2 := HV.out.c2
   have hkI : (k : Int) < (n : Int) := by omega
   have hk0 : (0 : Int) ≤ (k : Int) := by omega
   have HVd : Hid (Wb wr.drew w.heap.size p f t) := HV.out
   have HWd := Lib.hid (below_drew HW.out)
   by_cases hh : fr = f ∧ dt = t ∧ prof = p
   ·obtain ⟨rfl, rfl, rfl⟩ := hh
    have HX : Hid (some k = r) := by show _ = _; rw [← HI.out, hst, (hit_yes rfl rfl rfl : hitB prof fr dt ⟨fr, dt, prof, miles, tr, sl⟩ = true)]; rfl
    clear hst HI
    go_wp2_with fail
    go_region_with (go_at_call 92; refine (wayOf_n _ _ _ _ _ _ _).mono ?_; rintro e w5 ⟨rfl, b5⟩; have V5 := HVd.out.below b5; have e0 := V5.c0; have e1 := V5.c1; have e2 := V5.c2; have B5 := over HWd.out b5)
    all_goals
     go_wp2_with fail
     go_ret
     exact ⟨by rw [← HX.out]; rfl, by first | exact B5 | exact below_drew B5⟩
   ·have hno : hitB p f t ⟨fr, dt, prof, miles, tr, sl⟩ = false := hit_no (by
     by_cases e1 : fr = f
     ·by_cases e2 : dt = t
      ·exact .inr (.inr fun e3 => hh ⟨e1, e2, e3⟩)
      ·exact .inr (.inl e2)
     ·exact .inl e1)
    rw [hno] at hst
    have HI2 : Hid (ixA l (k + 1) p f t = r) := by show _ = _; rw [← HI.out, hst]; rfl
    clear hst HI hno
    have key : (prof == p && (fr == f && dt == t)) = false := by
     cases hc : (prof == p && (fr == f && dt == t))
     ·rfl
     ·simp only [Bool.and_eq_true, beq_iff_eq] at hc
      exact absurd ⟨hc.2.1, hc.2.2, hc.1⟩ hh
    have key2 : ¬ (prof = p ∧ fr = f ∧ dt = t) := fun h => hh ⟨h.2.1, h.2.2, h.1⟩
    by_cases e1 : prof = p
    ·subst e1
     by_cases e2 : fr = f
     ·subst e2
      have e3 := ne_eqI (fun e3 => hh ⟨rfl, e3, rfl⟩ : dt ≠ t)
      clear hh key key2
      go_wp2_with fail
      go_region_with (go_at_call 92; refine (wayOf_n _ _ _ _ _ _ _).mono ?_; rintro e w5 ⟨rfl, b5⟩; have V5 := HVd.out.below b5; have e0 := V5.c0; have e1 := V5.c1; have e2 := V5.c2; have B5 := over HWd.out b5)
      all_goals
       have HV5 := Lib.hid V5
       have HB5 := Lib.hid B5
       clear V5 B5
       go_wp2_with fail
       go_roundw
       case rel => exact ⟨k + 1, by omega, by go_num, HI2, by first | exact HV5 | exact HV5.out, by first | exact HB5 | exact below_drew HB5.out⟩
       case measure => simp [intOf]; omega
     ·have e3 := ne_eqI e2
      clear hh key key2 e2
      go_wp2_with fail
      go_region_with (go_at_call 92; refine (wayOf_n _ _ _ _ _ _ _).mono ?_; rintro e w5 ⟨rfl, b5⟩; have V5 := HVd.out.below b5; have e0 := V5.c0; have e1 := V5.c1; have e2 := V5.c2; have B5 := over HWd.out b5)
      all_goals
       have HV5 := Lib.hid V5
       have HB5 := Lib.hid B5
       clear V5 B5
       go_wp2_with fail
       go_roundw
       case rel => exact ⟨k + 1, by omega, by go_num, HI2, by first | exact HV5 | exact HV5.out, by first | exact HB5 | exact below_drew HB5.out⟩
       case measure => simp [intOf]; omega
    ·have e3 := ne_eqI e1
     clear hh key key2 e1
     go_wp2_with fail
     go_region_with (go_at_call 92; refine (wayOf_n _ _ _ _ _ _ _).mono ?_; rintro e w5 ⟨rfl, b5⟩; have V5 := HVd.out.below b5; have e0 := V5.c0; have e1 := V5.c1; have e2 := V5.c2; have B5 := over HWd.out b5)
     all_goals
      have HV5 := Lib.hid V5
      have HB5 := Lib.hid B5
      clear V5 B5
      go_wp2_with fail
      go_roundw
      case rel => exact ⟨k + 1, by omega, by go_num, HI2, by first | exact HV5 | exact HV5.out, by first | exact HB5 | exact below_drew HB5.out⟩
      case measure => simp [intOf]; omega
  ·have hk' : k = n := by omega
   subst hk'
   have HX : Hid (none = r) := by show _ = _; rw [← HI.out, HZ.out]
   go_wp2_with fail
   go_ret
   exact ⟨by rw [← HX.out]; rfl, HW.out⟩

end Go.Proofs.YtomebalolmabnaaGreatDoor.T




/-! The walks of network's arrival and nextPlace. -/
namespace Go.Proofs.YtomebalolmabnaaGreatDoor.T
open Go.RowKit
set_option maxRecDepth 8000

set_option maxHeartbeats 1600000 in
theorem arrival9_n (np : Nat) (a : ArcT) (vt vs : Value) (t : Int) (ha : ArcOk np a) (ht0 : 0 ≤ t) (ht1 : t ≤ 1073741824) (w : World) (ht : Ps w vt a.tr) (hs : Ps w vs a.sl) (hT : Tab w) :
  Calls Tryz.prog 84 #[.agg #[.int .i64 a.fr, .int .i64 a.to, .int .i64 a.prof, .int .i64 a.miles, vt, vs], .int .i64 t] w fun e w' => e = .returned (.int .i64 (arrA a t)) ∧ Below w.heap.size w w' := by
 have KA := Lib.hid (fun w hu hT => arrive_n vt a.tr t w hu hT (by have := ha.tr.most; omega))
 rw [arrF_yes ha.tr ht0 ht1] at KA
 have hb := arr_ge ha.tr ht0
 have HE : Hid (arr a.tr t + slowS (a.sl.drop 0) t = arrA a t) := rfl
 have HQ := Lib.hid (fun k (hk : k < a.sl.length) => slowB_tick (ha.slow k hk))
 have hlen := ha.len
 have HT := Lib.hid ht
 have HS := Lib.hid hs
 have HTB := Lib.hid hT
 have HST := Lib.hid (fun k (hk : k < a.sl.length) => slowS_step (t := t) hk)
 have HZ : Hid (slowS (a.sl.drop a.sl.length) t = 0) := by show _ = _; rw [List.drop_length]; rfl
 obtain ⟨fr, dt, prof, miles, tr, sl⟩ := a
 simp only at KA HE HQ hlen HT HS HST HZ hb ⊢
 clear ha ht hs hT
 obtain ⟨ob, c, hvs, -⟩ := HS.out
 subst hvs
 generalize arrA _ t = r at *
 generalize arr tr t = x0 at *
 obtain ⟨W0, hW0⟩ : ∃ W0, w.alloc (.cells #[.int .i64 fr, .int .i64 dt, .int .i64 prof, .int .i64 miles, vt, .slice ob sl.length c] 74) = W0 := ⟨_, rfl⟩
 have B0 : Hid (Below w.heap.size w W0) := by show Below _ _ _; rw [← hW0]; exact below_alloc _ _
 have a4 : W0.cell? ⟨w.heap.size, 4, none⟩ = some vt := by rw [← hW0]; simp
 have a5 : W0.cell? ⟨w.heap.size, 5, none⟩ = some (.slice ob sl.length c) := by rw [← hW0]; simp
 have hsz : w.heap.size < W0.heap.size := by rw [← hW0]; simp
 generalize hn : sl.length = n at *
 go_enter Tryz.func84, Tryz.ntmps84
 go_wp2_with fail
 clear hW0
 refine (KA.out _ (HT.out.below B0.out) (HTB.out.over B0.out)).mono ?_
 rintro e w1 ⟨rfl, b1⟩
 have B1 := Lib.hid (over B0.out b1)
 have c5 := (b1.cell (p := ⟨w.heap.size, 5, none⟩) hsz).trans a5
 have hsz1 : w.heap.size < w1.heap.size := Nat.lt_of_lt_of_le hsz b1.size
 have S1 := Lib.hid (HS.out.below B1.out)
 clear b1 B0 a4 a5 hsz HT HS KA
 obtain ⟨oa3, c3, h3, ha3⟩ := S1.out
 simp only [Value.slice.injEq] at h3
 obtain ⟨rfl, -, rfl⟩ := h3
 rw [hn] at ha3
 have A1 := Lib.hid ha3
 clear ha3 S1
 go_wp2_with fail
 go_loopw [5, 15] (fun x i wr => ∃ (k : Nat) (z : Int), k ≤ n ∧ x = .int .i64 z ∧ i = .int .i64 k ∧ 0 ≤ z ∧ z ≤ t + 8192 + 4096 * k ∧ Hid (z + slowS (sl.drop k) t = r) ∧ Hid (Below w1.heap.size w1 wr)) (fun _ i _ => n - (intOf i).toNat)
 case atStart => exact ⟨0, x0, Nat.zero_le _, rfl, rfl, by omega, by omega, HE, Below.refl _ _⟩
 case round =>
  clear HE
  obtain ⟨k, z, hk, rfl, rfl, hz0, hz1, HI, HW⟩ := hrel
  by_cases hlt : k < n
  ·obtain ⟨b, o, rfl, hab, d0, d1⟩ := A1.out k hlt
   obtain ⟨⟨q0, q1⟩, q2, q3⟩ := HQ.out k hlt
   have hst := HST.out k hlt
   unfold pT at d0
   unfold pA at d1
   replace d0 := (HW.out.cell (p := ⟨b, _, none⟩) hab).trans d0
   replace d1 := (HW.out.cell (p := ⟨b, _, none⟩) hab).trans d1
   generalize sl.getD k (0, 0) = p at *
   obtain ⟨x, y⟩ := p
   simp only at d0 d1 q0 q1 q2 q3 hst
   have HW2 := Lib.hid (HW.out.alloc HW.out.size (.cells #[.int .i64 x, .int .i64 y] 71))
   by_cases hx : x ≤ t
   ·have HI2 : Hid (z + y + slowS (sl.drop (k + 1)) t = r) := by show _ = _; rw [← HI.out, hst, if_pos hx]; omega
    clear hst HI
    go_wp2_with fail
    go_roundw
    case rel => exact ⟨k + 1, z + y, by omega, rfl, by go_num, by omega, by omega, HI2, HW2⟩
    case measure => simp [intOf]; omega
   ·have HI2 : Hid (z + slowS (sl.drop (k + 1)) t = r) := by show _ = _; rw [← HI.out, hst, if_neg hx]; omega
    clear hst HI
    go_wp2_with fail
    go_roundw
    case rel => exact ⟨k + 1, z, by omega, rfl, by go_num, by omega, by omega, HI2, HW2⟩
    case measure => simp [intOf]; omega
  ·have hk' : k = n := by omega
   subst hk'
   have HR : Hid (z = r) := by show _ = _; rw [← HI.out, HZ.out]; omega
   go_wp2_with fail
   go_ret
   exact ⟨ret_int HR.out, over B1.out HW.out⟩

end Go.Proofs.YtomebalolmabnaaGreatDoor.T




/-! The walk of network's Go. -/
namespace Go.Proofs.YtomebalolmabnaaGreatDoor.T
open Go.RowKit
set_option maxRecDepth 8000

set_option maxHeartbeats 3200000 in
theorem go_n (vp va : Value) (pl : List ByteArray) (l : List ArcT) (pr f t d : Int) (hl : l.length ≤ 1000000) (hN : NetOk pl l) (hd0 : 0 ≤ d) (hd1 : d ≤ 1073741824) (w : World) (hp : Ss w vp pl) (ha : As w va l) (hT : Tab w) :
  Calls Tryz.prog 59 #[.agg #[vp, va], .int .i64 pr, .int .i64 f, .int .i64 t, .int .i64 d] w (GoP (goV pl.length l pr f t d) w) := by
 obtain ⟨op, cp, rfl, -⟩ := hp
 obtain ⟨oa, ca, hva, -⟩ := id ha
 subst hva
 have HA := Lib.hid ha
 have HTB := Lib.hid hT
 have K1 := Lib.hid (fun w => netPlace_n op pl.length cp (.slice oa l.length ca) f w)
 have K2 := Lib.hid (fun w => netPlace_n op pl.length cp (.slice oa l.length ca) t w)
 have N0 := Lib.hid (Nb.made w (.slice op pl.length cp) (.slice oa l.length ca))
 clear hT
 cases h1 : inB pl.length f
 ·have HR : Hid ((0, 0, 11) = goV pl.length l pr f t d) := by show _ = _; unfold goV; rw [h1]; rfl
  rw [h1] at K1
  generalize goV pl.length l pr f t d = r at *
  clear h1 ha hN
  go_enter Tryz.func59, Tryz.ntmps59
  go_wp2_with fail
  refine (K1.out _).mono ?_
  rintro e w1 ⟨rfl, b1⟩
  have B1 := Lib.hid (over (w := w) (by go_grown) b1)
  clear b1
  go_wp2_with fail
  go_ret3
  exact ⟨ret_three HR.out, B1.out⟩
 cases h2 : inB pl.length t
 ·have HR : Hid ((0, 0, 11) = goV pl.length l pr f t d) := by show _ = _; unfold goV; rw [h1, h2]; rfl
  rw [h1] at K1
  rw [h2] at K2
  generalize goV pl.length l pr f t d = r at *
  clear h1 h2 ha hN
  go_enter Tryz.func59, Tryz.ntmps59
  go_wp2_with fail
  refine (K1.out _).mono ?_
  rintro e w1 ⟨rfl, b1⟩
  have B1 := Lib.hid (over (w := w) (by go_grown) b1)
  have N1 := Lib.hid (N0.out.below b1)
  have g0 := N1.out.c0
  have g1 := N1.out.c1
  clear b1
  go_wp2_with fail
  refine (K2.out _).mono ?_
  rintro e w2 ⟨rfl, b2⟩
  have B2 := Lib.hid (over B1.out b2)
  clear b2
  go_wp2_with fail
  go_ret3
  exact ⟨ret_three HR.out, B2.out⟩
 rw [h1] at K1
 rw [h2] at K2
 by_cases hft : f = t
 ·have HR : Hid ((d, 0, 0) = goV pl.length l pr f t d) := by show _ = _; unfold goV; rw [h1, h2, if_pos hft]; rfl
  subst hft
  generalize goV pl.length l pr f f d = r at *
  clear h1 h2 ha hN
  go_enter Tryz.func59, Tryz.ntmps59
  go_wp2_with fail
  refine (K1.out _).mono ?_
  rintro e w1 ⟨rfl, b1⟩
  have B1 := Lib.hid (over (w := w) (by go_grown) b1)
  have N1 := Lib.hid (N0.out.below b1)
  have g0 := N1.out.c0
  have g1 := N1.out.c1
  clear b1
  go_wp2_with fail
  refine (K2.out _).mono ?_
  rintro e w2 ⟨rfl, b2⟩
  have B2 := Lib.hid (over B1.out b2)
  clear b2
  go_wp2_with fail
  go_ret3
  exact ⟨ret_three HR.out, B2.out⟩
 have K3 := Lib.hid (fun w ha => firstArc_n (.slice oa l.length ca) l pr f t (by omega) w ha)
 have hne := ne_eqI hft
 cases hF : ixA l 0 pr f t with
 | none =>
  have HR : Hid ((0, 0, 12) = goV pl.length l pr f t d) := by show _ = _; unfold goV; rw [h1, h2, if_neg hft, ix_none hF]; rfl
  rw [hF] at K3
  generalize goV pl.length l pr f t d = r at *
  clear h1 h2 ha hN hft hF
  unfold ixI at K3
  go_enter Tryz.func59, Tryz.ntmps59
  go_wp2_with fail
  refine (K1.out _).mono ?_
  rintro e w1 ⟨rfl, b1⟩
  have B1 := Lib.hid (over (w := w) (by go_grown) b1)
  have N1 := Lib.hid (N0.out.below b1)
  have g0 := N1.out.c0
  have g1 := N1.out.c1
  clear b1
  go_wp2_with fail
  refine (K2.out _).mono ?_
  rintro e w2 ⟨rfl, b2⟩
  have B2 := Lib.hid (over B1.out b2)
  have N2 := Lib.hid (N1.out.below b2)
  clear b2 g0 g1
  have g0 := N2.out.c0
  have g1 := N2.out.c1
  go_wp2_with fail
  refine (K3.out _ (HA.out.below B2.out)).mono ?_
  rintro e w3 ⟨rfl, b3⟩
  have B3 := Lib.hid (over B2.out b3)
  clear b3 g0 g1
  go_wp2_with fail
  go_ret3
  exact ⟨ret_three HR.out, B3.out⟩
 | some i =>
  obtain ⟨hin, hfa⟩ := ix_some hF
  have HR : Hid ((arrA (l.getD i arc0) d, (l.getD i arc0).miles, 0) = goV pl.length l pr f t d) := by show _ = _; unfold goV; rw [h1, h2, if_neg hft, hfa]; rfl
  rw [hF] at K3
  have hok := hN.arcs i hin
  have K4 := Lib.hid (fun vt vs w ht hs hT => arrival9_n pl.length (l.getD i arc0) vt vs d hok hd0 hd1 w ht hs hT)
  generalize goV pl.length l pr f t d = r at *
  clear h1 h2 ha hN hft hF hok hfa
  have K3' : Hid (∀ w, As w (.slice oa l.length ca) l → Calls Tryz.prog 83 #[.slice oa l.length ca, .agg #[.int .i64 pr, .int .i64 f, .int .i64 t]] w fun e w' => e = .returned (.int .i64 (i : Int)) ∧ Below w.heap.size w w') := K3
  clear K3
  generalize hn : l.length = n at *
  have hi0 : (0 : Int) ≤ (i : Int) := by omega
  have hiI : (i : Int) < (n : Int) := by omega
  go_enter Tryz.func59, Tryz.ntmps59
  go_wp2_with fail
  refine (K1.out _).mono ?_
  rintro e w1 ⟨rfl, b1⟩
  have B1 := Lib.hid (over (w := w) (by go_grown) b1)
  have N1 := Lib.hid (N0.out.below b1)
  have g0 := N1.out.c0
  have g1 := N1.out.c1
  clear b1
  go_wp2_with fail
  refine (K2.out _).mono ?_
  rintro e w2 ⟨rfl, b2⟩
  have B2 := Lib.hid (over B1.out b2)
  have N2 := Lib.hid (N1.out.below b2)
  clear b2 g0 g1
  have g0 := N2.out.c0
  have g1 := N2.out.c1
  go_wp2_with fail
  refine (K3'.out _ (HA.out.below B2.out)).mono ?_
  rintro e w3 ⟨rfl, b3⟩
  have B3 := Lib.hid (over B2.out b3)
  have N3 := Lib.hid (N2.out.below b3)
  clear b3 g0 g1
  have hA1 := HA.out.below B3.out
  obtain ⟨oa1, c1, hv1, hA1⟩ := hA1
  simp only [Value.slice.injEq] at hv1
  obtain ⟨rfl, -, rfl⟩ := hv1
  obtain ⟨b', o, vt, vs, rfl, hab, hac, hpt, hps⟩ := hA1 i (by omega)
  clear hA1
  obtain ⟨ot, ct, hvt, -⟩ := id hpt
  obtain ⟨os, cs, hvs, -⟩ := id hps
  subst hvt
  subst hvs
  have HT4 := Lib.hid (HTB.out.over B3.out)
  generalize l.getD i arc0 = a at *
  obtain ⟨fr, dt, prof, miles, tr, sl⟩ := a
  generalize arrA _ d = x at *
  simp only at hac hpt hps K4 HR
  have HAC := Lib.hid hac
  obtain ⟨d0, d1, d2, d3, d4, d5⟩ := hac
  have g1 := N3.out.c1
  have A4 : Hid (Ac w3.drew b' (o + i * 6) ⟨fr, dt, prof, miles, tr, sl⟩ (.slice ot tr.length ct) (.slice os sl.length cs)) := HAC.out
  have N4 : Hid (Nb w3.drew w.heap.size (.slice op pl.length cp) (.slice (some ⟨b', o, none⟩) n ca)) := N3.out
  have HT5 : Hid (Ps w3.drew (.slice ot tr.length ct) tr) := hpt
  have HS5 : Hid (Ps w3.drew (.slice os sl.length cs) sl) := hps
  have HTT : Hid (Tab w3.drew) := HT4.out.over (below_drew (Below.refl _ _))
  have B4 := Lib.hid (below_drew B3.out)
  have habd : b' < w3.drew.heap.size := hab
  clear hpt hps HAC HT4 B1 B2 B3 N1 N2 N3 N0 HA K1 K2 K3'
  go_wp2_with fail
  go_region_with (go_at_call 84; (with_reducible refine (K4.out _ _ _ HT5.out HS5.out HTT.out).mono ?_); rintro e w5 ⟨rfl, b5⟩; have m3 := (A4.out.below habd b5).2.2.2.1; have n1 := (N4.out.below b5).c1; have B5 := over B4.out b5)
  all_goals
   go_wp2_with fail
   go_ret3
   exact ⟨ret_three HR.out, B5⟩

end Go.Proofs.YtomebalolmabnaaGreatDoor.T




/-! The walk of loads' Right and what it calls (out of layer 6's texts: tools/mkflload.py). -/
namespace Go.Proofs.YtomebalolmabnaaGreatDoor.L
open Go.RowKit
set_option maxRecDepth 8000

def inRange (x : Int) : Bool := decide (0 ≤ x) && decide (x ≤ 1000)
def rightB (l : List Int) (d : Int) : Bool := decide ((l.length : Int) = d) && l.all inRange
end Go.Proofs.YtomebalolmabnaaGreatDoor.L




/-! The walks of the specification's in, Dims, Total, known, capacity. -/
namespace Go.Proofs.YtomebalolmabnaaGreatDoor.T
open Go.RowKit
set_option maxRecDepth 8000

theorem in_n (x lo hi : Int) (w : World) : Calls Tryz.prog 42 #[.int .i64 x, .int .i64 lo, .int .i64 hi] w fun e w' => e = .returned (.bool (rgB lo hi x)) ∧ w = w' := by
 by_cases h1 : lo ≤ x
 ·have HR : Hid (decide (x ≤ hi) = rgB lo hi x) := by show _ = _; unfold rgB; rw [decide_eq_true h1, Bool.true_and]
  generalize rgB lo hi x = r at *
  go_enter Tryz.func42, Tryz.ntmps42
  go_wp2_with fail
  go_ret
  exact ⟨ret_bool HR.out, rfl⟩
 ·have HR : Hid (false = rgB lo hi x) := by show _ = _; unfold rgB; rw [decide_eq_false h1, Bool.false_and]
  have h2 : x < lo := by omega
  generalize rgB lo hi x = r at *
  go_enter Tryz.func42, Tryz.ntmps42
  go_wp2_with fail
  go_ret
  exact ⟨ret_bool HR.out, rfl⟩

theorem refDims_n (v : Value) (l : List TyT) (hl : l.length ≤ 1000000000) (w : World) (hv : Ts w v l) :
  Calls Tryz.prog 28 #[v] w fun e w' => e = .returned (.int .i64 (dimsF l : Nat)) ∧ w = w' := by
 obtain ⟨oa, c, rfl, ha⟩ := hv
 by_cases h : l.length = 0
 ·have hl0 : l = [] := List.eq_nil_of_length_eq_zero h
  subst hl0
  go_enter Tryz.func28, Tryz.ntmps28
  go_wp2_with fail
  go_ret
  exact ⟨rfl, rfl⟩
 ·obtain ⟨b, o, vc, rfl, hb, ⟨h0, h1, h2, h3, h4, h5, h6, h7, h8, h9, h10, h11, h12, h13⟩, hc⟩ := ha 0 (by omega)
  obtain ⟨oc, cc, rfl, -⟩ := hc
  have hd : Hid ((l.getD 0 ty0).cap.length = dimsF l) := rfl
  have hne : ((l.length : Int) == 0) = false := ne_eqN h
  have hpos : (0 : Int) < (l.length : Int) := by omega
  simp only [Nat.zero_mul, Nat.add_zero] at h0 h1 h2 h3 h4 h5 h6 h7 h8 h9 h10 h11 h12 h13
  generalize dimsF l = d at *
  generalize (l.getD 0 ty0).cap.length = d' at *
  generalize l.length = n at *
  go_enter Tryz.func28, Tryz.ntmps28
  go_wp2_with fail
  go_ret
  exact ⟨ret_int (by rw [hd.out]), rfl⟩

theorem known_zero (l : List TyT) (s : ByteArray) : knownB l s 0 = false := rfl
theorem known_step {l : List TyT} {s : ByteArray} {k : Nat} (hk : k < l.length) : knownB l s (k + 1) = (knownB l s k || ((l.getD k ty0).name.toList == s.toList)) := by
 unfold knownB
 rw [take_more (d := ty0) hk, List.any_append]
 simp
theorem known_more {l : List TyT} {s : ByteArray} {k i : Nat} (hk : k ≤ i) (h : knownB l s k = true) : knownB l s i = true := by
 unfold knownB at *
 rw [List.any_eq_true] at *
 obtain ⟨x, hx, hp⟩ := h
 exact ⟨x, (List.take_subset_take_left l hk) hx, hp⟩

set_option maxHeartbeats 1600000 in
theorem refKnown_n (v : Value) (l : List TyT) (i : Nat) (s : ByteArray) (hl : l.length ≤ 1000000000) (hi : i ≤ l.length) (w : World) (hv : Ts w v l) :
  Calls Tryz.prog 63 #[v, .int .i64 i, .string s] w fun e w' => e = .returned (.bool (knownB l s i)) ∧ Below w.heap.size w w' := by
 obtain ⟨oa, c, rfl, ha⟩ := hv
 have HA := Lib.hid ha
 have HS := Lib.hid (fun k (hk : k < l.length) => known_step (s := s) hk)
 have HM := Lib.hid (fun k (hk : k ≤ i) h => known_more (l := l) (s := s) hk h)
 have H0 := Lib.hid (known_zero l s)
 have HE : Hid (knownB l s i = knownB l s i) := rfl
 generalize hr : knownB l s i = r at HE HM ⊢
 clear HE
 have HE := Lib.hid hr
 generalize hn : l.length = n at *
 clear ha hn hr
 go_enter Tryz.func63, Tryz.ntmps63
 go_wp2_with fail
 go_loopw [7] (fun j wr => ∃ k : Nat, k ≤ i ∧ j = .int .i64 k ∧ Hid (knownB l s k = false) ∧ Hid (Below w.heap.size w wr)) (fun j _ => i - (intOf j).toNat)
 case atStart => exact ⟨0, Nat.zero_le _, rfl, H0, Below.refl _ _⟩
 case round =>
  obtain ⟨k, hk, rfl, HK, HW⟩ := hrel
  by_cases hlt : k < i
  ·obtain ⟨b, o, vc, rfl, hab, ⟨h0, -⟩, -⟩ := HA.out k (by omega)
   have d0 := (HW.out.cell (p := ⟨b, _, none⟩) hab).trans h0
   have hkI : (k : Int) < (i : Int) := by omega
   have hkN : (k : Int) < (n : Int) := by omega
   have HSk := Lib.hid (HS.out k (by omega))
   have HMk := Lib.hid (HM.out (k + 1) (by omega))
   clear h0
   generalize (l.getD k ty0).name = x at *
   rw [HK.out, Bool.false_or] at HSk
   cases hx : (x.toList == s.toList)
   ·have HK1 : Hid (knownB l s (k + 1) = false) := by show _ = _; rw [HSk.out, hx]
    go_wp2_with fail
    go_roundw
    case rel => exact ⟨k + 1, by omega, by go_num, HK1, HW⟩
    case measure => simp [intOf] <;> omega
   ·have HR : Hid (r = true) := HMk.out (by rw [HSk.out, hx])
    go_wp2_with fail
    go_ret
    exact ⟨ret_bool (by rw [HR.out]), HW.out⟩
  ·have hk' : k = i := by omega
   subst hk'
   have HR : Hid (r = false) := by show _ = _; rw [← HE.out, HK.out]
   go_wp2_with fail
   go_ret
   exact ⟨ret_bool (by rw [HR.out]), HW.out⟩

end Go.Proofs.YtomebalolmabnaaGreatDoor.T




/-! The walks of the specification's capacity and Able. -/
namespace Go.Proofs.YtomebalolmabnaaGreatDoor.T
open Go.RowKit
set_option maxRecDepth 8000

theorem all_step {l : List Int} {k : Nat} (h : k < l.length) (p : Int → Bool) : (l.take (k + 1)).all p = ((l.take k).all p && p (l.getD k 0)) := by
 rw [take_more (d := 0) h, List.all_append]
 simp
theorem all_no {l : List Int} {k : Nat} (h : k < l.length) {p : Int → Bool} (hp : p (l.getD k 0) = false) : l.all p = false := by
 rw [List.all_eq_false]
 exact ⟨l.getD k 0, getD_mem h, by rw [hp]; simp⟩
set_option maxHeartbeats 1600000 in
theorem refCapacity_n (u : Value) (l : List Int) (d : Nat) (hl : l.length ≤ 1000000000) (w : World) (hu : L.Li w u l) :
  Calls Tryz.prog 64 #[u, .int .i64 d] w fun e w' => e = .returned (.bool (capB l d)) ∧ w = w' := by
 obtain ⟨oa, c, rfl, ha⟩ := hu
 have HA := Lib.hid ha
 have HC : Hid ((rgB 1 3 l.length && decide (l.length = d) && l.all (rgB 0 1000)) = capB l d) := rfl
 have K0 := Lib.hid (fun w => in_n (l.length : Int) 1 3 w)
 have HS := Lib.hid (fun k (h : k < l.length) => all_step h (rgB 0 1000))
 have HNo := Lib.hid (fun k (h : k < l.length) (hp : rgB 0 1000 (l.getD k 0) = false) => all_no h hp)
 have HZ : Hid ((l.take 0).all (rgB 0 1000) = true) := rfl
 have HE : Hid ((l.take l.length).all (rgB 0 1000) = l.all (rgB 0 1000)) := by show _ = _; rw [List.take_length]
 generalize capB l d = r at *
 generalize hn : l.length = n at *
 generalize rgB 1 3 (n : Int) = b0 at *
 clear ha hn
 cases b0
 ·have HR : Hid (false = r) := by show _ = _; rw [← HC.out]; rfl
  go_enter Tryz.func64, Tryz.ntmps64
  go_wp2_with fail
  refine (K0.out _).mono ?_
  rintro e w1 ⟨rfl, rfl⟩
  go_wp2_with fail
  go_ret
  exact ⟨ret_bool HR.out, rfl⟩
 by_cases hd : n = d
 ·subst hd
  have hne : ((n : Int) != (n : Int)) = false := by simp
  have HC2 : Hid (l.all (rgB 0 1000) = r) := by show _ = _; rw [← HC.out, decide_eq_true rfl]; rfl
  go_enter Tryz.func64, Tryz.ntmps64
  go_wp2_with fail
  refine (K0.out _).mono ?_
  rintro e w1 ⟨rfl, rfl⟩
  go_wp2_with fail
  go_loopw [5] (fun j wr => ∃ k : Nat, k ≤ n ∧ j = .int .i64 k ∧ Hid ((l.take k).all (rgB 0 1000) = true) ∧ w = wr) (fun j _ => n - (intOf j).toNat)
  case atStart => exact ⟨0, Nat.zero_le _, rfl, HZ, rfl⟩
  case round =>
   obtain ⟨k, hk, rfl, HK, rfl⟩ := hrel
   by_cases hlt : k < n
   ·obtain ⟨a, rfl, hab, hc0⟩ := HA.out k hlt
    have d0 := hc0
    have hkI : (k : Int) < (n : Int) := by omega
    have HSk := Lib.hid (HS.out k hlt)
    have HNk := Lib.hid (HNo.out k hlt)
    have KI := Lib.hid (fun w => in_n (l.getD k 0) 0 1000 w)
    generalize l.getD k 0 = x at *
    rw [HK.out, Bool.true_and] at HSk
    cases hr : rgB 0 1000 x
    ·rw [hr] at KI HNk
     have HR : Hid (false = r) := by show _ = _; rw [← HC2.out, HNk.out rfl]
     go_wp2_with fail
     refine (KI.out _).mono ?_
     rintro e w2 ⟨rfl, rfl⟩
     go_wp2_with fail
     go_ret
     exact ⟨ret_bool HR.out, rfl⟩
    ·rw [hr] at KI HSk
     go_wp2_with fail
     refine (KI.out _).mono ?_
     rintro e w2 ⟨rfl, rfl⟩
     go_wp2_with fail
     go_roundw
     case rel => exact ⟨k + 1, by omega, by go_num, HSk, by first | trivial | rfl⟩
     case measure => simp [intOf] <;> omega
   ·have hk' : k = n := by omega
    subst hk'
    have HR : Hid (true = r) := by show _ = _; rw [← HC2.out, ← HE.out, HK.out]
    go_wp2_with fail
    go_ret
    exact ⟨ret_bool HR.out, rfl⟩
 ·have hne : ((n : Int) != (d : Int)) = true := ne_neN hd
  have HR : Hid (false = r) := by show _ = _; rw [← HC.out, decide_eq_false hd]; rfl
  go_enter Tryz.func64, Tryz.ntmps64
  go_wp2_with fail
  refine (K0.out _).mono ?_
  rintro e w1 ⟨rfl, rfl⟩
  go_wp2_with fail
  go_ret
  exact ⟨ret_bool HR.out, rfl⟩

end Go.Proofs.YtomebalolmabnaaGreatDoor.T




