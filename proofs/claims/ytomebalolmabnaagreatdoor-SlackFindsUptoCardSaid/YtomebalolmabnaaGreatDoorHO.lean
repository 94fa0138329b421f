/-
  DERIVED. HO: a part of the base of layer 13 (made by pack.py).
-/
import Derived.Test.YtomebalolmabnaaGreatDoorHN
import Derived.Deep.RegionHeld3
import Derived.RangeFuncBox
import Derived.RangeFuncNested
import Derived.RangeFuncBound
import Derived.RangeFuncCalls
import Derived.RangeFuncLeaves
import Derived.Shelf.Abstract
import Derived.Shelf.RegionOpen
import Derived.OwnWalkIn
import Derived.TacticsInMore
import Derived.LoopNIn
import Derived.LoopIn
import Derived.Lib.LaidTab
import Derived.BigRegion
import Derived.Laws.BitsLemmas
import Derived.Laws.Bits64b
import Derived.Laws.Bits128
import Derived.Test.YtomebalolmabnaaGreatDoorHK
import Derived.Test.YtomebalolmabnaaGreatDoorHM
import Derived.Test.YtomebalolmabnaaGreatDoorRefFl3
/-! The walks of lorryref12's Check and Right. -/
namespace Go.Proofs.YtomebalolmabnaaGreatDoor.T
open Go.RowKit
set_option maxRecDepth 8000

def apartW : ByteArray := ⟨#[97, 112, 97, 114, 116]⟩
def beforeW : ByteArray := ⟨#[98, 101, 102, 111, 114, 101]⟩
def checkF (n : Int) (ap be : List (Int × Int)) : List (Int × ByteArray) := pairF n ap apartW true ++ pairF n be beforeW false
theorem pairF_len (n : Int) (l : List (Int × Int)) (word : ByteArray) (turned : Bool) : (pairF n l word turned).length ≤ l.length + 1 := pfF_len n l word turned l.length
set_option maxHeartbeats 3200000 in
theorem check12_n (n : Int) (v u : Value) (ap be : List (Int × Int)) (ha : ap.length ≤ 2000000) (hb : be.length ≤ 2000000) (w : World) (hv : Ps w v ap) (hu : Ps w u be) :
  Calls Tryz.prog 29 #[.int .i64 n, v, u] w (ChkP (checkF n ap be) w) := by
 have K1 := Lib.hid (fun w hv => faults12_n n v ap apartW true ha (by decide) w hv)
 have K2 := Lib.hid (fun w hv => faults12_n n u be beforeW false hb (by decide) w hv)
 have HV := Lib.hid hv
 have HU := Lib.hid hu
 have h1 := pairF_len n ap apartW true
 have h2 := pairF_len n be beforeW false
 have HR : Hid (pairF n ap apartW true ++ pairF n be beforeW false = checkF n ap be) := rfl
 generalize checkF n ap be = r at *
 generalize pairF n ap apartW true = r1 at *
 generalize pairF n be beforeW false = r2 at *
 unfold apartW at K1
 unfold beforeW at K2
 clear hv hu
 go_enter Tryz.func29, Tryz.ntmps29
 go_wp2_with fail
 refine (K1.out _ HV.out).mono ?_
 intro e w1 h
 obtain ⟨v1, rfl, -, hg1, b1⟩ := Lf.of_chk h
 have HG1 := Lib.hid hg1
 have B1 := Lib.hid b1
 have HU1 := Lib.hid (HU.out.below b1)
 clear hg1 b1 h HU K1
 go_wp2_with fail
 refine (K2.out _ HU1.out).mono ?_
 intro e w2 h
 obtain ⟨v2, rfl, hl2, -, b2⟩ := Lf.of_chk h
 have HG2 := Lib.hid (HG1.out.frame b2)
 have HL2 := Lib.hid hl2
 have B2 := Lib.hid (over B1.out b2)
 have hsz := B2.out.size
 clear hl2 b2 h HG1 B1 HU1 K2
 go_wp2_with (at_builtin; refine wpList_append_run rfl _ _ 51 rfl rfl rfl (ap_f _ HG2.out HL2.out hsz (by omega)) ?_)
 intro v3 w3 hg3 hb3 _ _
 have HG3 := Lib.hid hg3
 have B3 := Lib.hid (B2.out.trans hb3)
 clear hg3 hb3
 go_wp2_with fail
 go_ret
 exact chkP (HR.out ▸ HG3.out) B3.out (Nat.le_refl _)

def Ib (w : World) (q : Nat) (x0 x1 x2 x3 x4 x5 : Value) : Prop := w.heap[q]? = some (.cells #[x0, x1, x2, x3, x4, x5] 30)
section
variable {w w' : World} {q : Nat} {x0 x1 x2 x3 x4 x5 : Value}
theorem Ib.c0 (h : Ib w q x0 x1 x2 x3 x4 x5) : w.cell? ⟨q, 0, none⟩ = some x0 := by unfold Ib at h; simp [World.cell?, h]
theorem Ib.c1 (h : Ib w q x0 x1 x2 x3 x4 x5) : w.cell? ⟨q, 1, none⟩ = some x1 := by unfold Ib at h; simp [World.cell?, h]
theorem Ib.c2 (h : Ib w q x0 x1 x2 x3 x4 x5) : w.cell? ⟨q, 2, none⟩ = some x2 := by unfold Ib at h; simp [World.cell?, h]
theorem Ib.c3 (h : Ib w q x0 x1 x2 x3 x4 x5) : w.cell? ⟨q, 3, none⟩ = some x3 := by unfold Ib at h; simp [World.cell?, h]
theorem Ib.c4 (h : Ib w q x0 x1 x2 x3 x4 x5) : w.cell? ⟨q, 4, none⟩ = some x4 := by unfold Ib at h; simp [World.cell?, h]
theorem Ib.c5 (h : Ib w q x0 x1 x2 x3 x4 x5) : w.cell? ⟨q, 5, none⟩ = some x5 := by unfold Ib at h; simp [World.cell?, h]
theorem Ib.lt (h : Ib w q x0 x1 x2 x3 x4 x5) : q < w.heap.size := by
 apply Decidable.byContradiction
 intro hc
 unfold Ib at h
 rw [Array.getElem?_eq_none (by omega)] at h; cases h
theorem Ib.below (h : Ib w q x0 x1 x2 x3 x4 x5) (hb : Below w.heap.size w w') : Ib w' q x0 x1 x2 x3 x4 x5 := (hb.block q h.lt).trans h
theorem Ib.made (w : World) (x0 x1 x2 x3 x4 x5 : Value) : Ib (w.alloc (.cells #[x0, x1, x2, x3, x4, x5] 30)) w.heap.size x0 x1 x2 x3 x4 x5 := by
 show (w.heap.push _)[w.heap.size]? = _
 simp
end
def inV (x0 x1 x2 x3 x4 x5 : Value) : Value := .agg #[x0, x1, x2, x3, x4, x5]
end Go.Proofs.YtomebalolmabnaaGreatDoor.T




/-! Orders (of layer 11's text), and which of them are cancelled. -/
namespace Go.Proofs.YtomebalolmabnaaGreatDoor.T
open Go.RowKit
set_option maxRecDepth 8000

def In64 (p : Int × Int) : Prop := I64 p.1 ∧ I64 p.2

end Go.Proofs.YtomebalolmabnaaGreatDoor.T




/-! Slices of pairs, and an instance by value, as arguments (written by gen_ruargs.py). -/
namespace Go.Proofs.YtomebalolmabnaaGreatDoor.T
open Go.Joins Go.ChangeShapes Go.WideShapes Go.ChangeAt Go.RowKit Go.Deep
set_option maxRecDepth 8000

section
variable {H : Type} {enc : TypeId × Value → H}
theorem sum_ge {c n : Nat} {f : Nat → Nat} (h : ∀ i, i < n → c ≤ f i) : c * n ≤ ((List.range n).map f).sum := by
 induction n with
 | zero => simp
 | succ n ih =>
  rw [List.range_succ, List.map_append, List.sum_append]
  have h1 := ih (fun i hi => h i (by omega))
  have h2 := h n (by omega)
  simp only [List.map_cons, List.map_nil, List.sum_cons, List.sum_nil, Nat.add_zero]
  rw [Nat.mul_succ]
  omega
theorem pair_of {W : World} {base : Nat} {cs : List Value} {x : DataW H × List MemPlace} {n : Nat}
  (hf : DataW.trod enc Tryz.prog W base (fun _ => true) true n 133 cs = some x) : ∃ a b : Int, cs = [.int .i64 a, .int .i64 b] ∧ In64 (a, b) ∧ 3 ≤ Rows.uptoBulk x.1 := by
 have hC : Tryz.prog.cellsOf 133 = 2 := by kernel_rfl
 have hu : Tryz.prog.underlying 133 = some (.array 2 3) := Tryz.underlying133
 obtain ⟨xs, m, _, hx, hlen, hxl, hg⟩ := DataW.trod_array hu hf
 rw [hC] at hlen
 match cs, hlen with
 | [v0, v1], _ =>
  match xs, hxl with
  | [y0, y1], _ =>
   have k0 := hg 0 (by omega)
   have k1 := hg 1 (by omega)
   have o1 : Tryz.prog.cellsOf 3 = 1 := by kernel_rfl
   simp [o1] at k0 k1
   obtain ⟨q0, e0, _, w0⟩ := DataW.trod_int Tryz.underlying3 k0
   obtain ⟨q1, e1, _, w1⟩ := DataW.trod_int Tryz.underlying3 k1
   simp only [List.cons.injEq, and_true] at e0 e1
   subst e0 e1
   subst hx
   have h0 := bulk_pos y0.1
   have h1 := bulk_pos y1.1
   exact ⟨_, _, rfl, ⟨wf_i64 w0, wf_i64 w1⟩, by simp only [List.map_cons, List.map_nil, Rows.uptoBulk, Rows.uptoBulkAll]; omega⟩
theorem pairs_of {W : World} {base : Nat} {v : Value} {y : DataW H × List MemPlace} {n : Nat}
  (hf : DataW.trod enc Tryz.prog W base (fun _ => true) true n 28 [v] = some y) (hlt : ∀ x ∈ y.2, x.block < W.heap.size) :
  ∃ (oa : Option Addr) (c : Nat) (l : List (Int × Int)), v = .slice oa l.length c ∧ Ps W (.slice oa l.length c) l ∧ (3 * l.length + 1 ≤ Rows.uptoBulk y.1 ∧ ∀ p ∈ l, In64 p) := by
 obtain ⟨y1, y2⟩ := y
 simp only at hlt ⊢
 have hC : Tryz.prog.cellsOf 133 = 2 := by kernel_rfl
 rcases open_slice Tryz.underlying28 hf with ⟨hcs, hx⟩ | ⟨a, len, cap, m, n, D, Pl, hcs, _, hl, hm, hmm, hx, hall⟩
 ·simp only [List.cons.injEq, and_true] at hcs
  simp only [Prod.mk.injEq] at hx
  obtain ⟨rfl, rfl⟩ := hx
  subst hcs
  exact ⟨none, 0, [], rfl, Sl.nil W, by simp [Rows.uptoBulk], fun _ h => by cases h⟩
 ·simp only [List.cons.injEq, and_true] at hcs
  subst hcs
  simp only [if_true] at hmm
  simp only [Prod.mk.injEq] at hx
  rw [hC] at hx hall
  have key : ∀ i, i < len → ∃ q : Int × Int, (W.cell? ((a.add (i * 2)).add 0) = some (pT q) ∧ W.cell? ((a.add (i * 2)).add 1) = some (pA q)) ∧ (In64 q ∧ 3 ≤ Rows.uptoBulk (D i)) := fun i hi => by
   obtain ⟨cs', hc, ht⟩ := hall i (by omega)
   obtain ⟨_, _, hat⟩ := World.cells?_some hc
   obtain ⟨x, y, rfl, h6, h3⟩ := pair_of ht
   exact ⟨(x, y), ⟨by rw [hat 0 (by omega)]; rfl, by rw [hat 1 (by omega)]; rfl⟩, h6, h3⟩
  obtain ⟨q, hq⟩ := choose_lt key
  have hbk : 3 * len + 1 ≤ Rows.uptoBulk y1 := by
   rw [hx.1]
   refine Nat.le_trans ?_ (bulk_slice _ _)
   rw [bulk_sum, List.map_map]
   exact Nat.succ_le_succ (sum_ge fun i hi => (hq i hi).2.2)
  have hln : ((List.range len).map q).length = len := by simp
  refine ⟨some a, cap, (List.range len).map q, by rw [hln], ⟨some a, cap, by rw [hln], fun i hi => ?_⟩, by rw [hln]; exact hbk, fun p hp => by
   rw [List.mem_map] at hp
   obtain ⟨i, hi, rfl⟩ := hp
   exact (hq i (List.mem_range.1 hi)).2.1⟩
  rw [hln] at hi
  obtain ⟨⟨h0, h1⟩, _⟩ := hq i hi
  have eg : ((List.range len).map q).getD i (0, 0) = q i := by
   rw [List.getD_eq_getElem?_getD, List.getElem?_map, List.getElem?_range hi]; rfl
  rw [eg]
  have hb := row_lt (n := i) hx.2 hlt (show i < m * 2 by omega)
  obtain ⟨b, o, spot⟩ := a
  have hspot : spot = none := by
   obtain ⟨⟨z0, _⟩, _⟩ := hq 0 (by omega)
   simpa [Addr.add] using World.cell?_spot z0
  subst hspot
  rw [add_pl, add_pl] at h0 h1
  exact ⟨b, o, rfl, hb, h0, h1⟩
end

end Go.Proofs.YtomebalolmabnaaGreatDoor.T




/-! What is wrong with orders: the errors of an order, the faults of all. -/
namespace Go.Proofs.YtomebalolmabnaaGreatDoor.T
open Go.RowKit
set_option maxRecDepth 8000

def knownO (l : List OrT) (s : ByteArray) (j : Nat) : Bool := (l.take j).any fun x => x.name.toList == s.toList
def orE1 (a : OrT) : List Int := if nmT a.name then [] else [5]
def orE2 (l : List OrT) (i : Nat) (a : OrT) : List Int := if knownO l a.name i then [6] else []
def orE3 (dims : Int) (a : OrT) : List Int := if L.rightB a.load dims then [] else [17]
def orE4 (np : Nat) (a : OrT) : List Int := if rgB (-1) (np - 1) a.pp && rgB (-1) (np - 1) a.dp then [] else [11]
def orE5 (a : OrT) : List Int := if !(decide (a.pp = -1) && decide (a.dp = -1)) then [] else [19]
def orE6 (a : OrT) : List Int := if decide (V.chk a.pp a.po a.pc a.ps = 0) && decide (V.chk a.dp a.dd a.dc a.ds = 0) then [] else [14]
def orE7 (a : OrT) : List Int := if rgB 0 1073741823 a.sk then [] else [18]
def splB (pp dp spl : Int) : Bool := rgB 1 4 spl && !(decide (1 < spl) && (decide (pp ≠ -1) && decide (dp ≠ -1)))
def typB (types x : Int) : Bool := decide (-1 ≤ x) && decide (x < types)
def orE8 (types : Int) (a : OrT) : List Int := if rgB (-1) 1000000 a.pen && splB a.pp a.dp a.spl && typB types a.las && typB types a.now then [] else [2]
def orE (np : Nat) (dims types : Int) (l : List OrT) (i : Nat) : List Int :=
  orE1 (l.getD i or0) ++ orE2 l i (l.getD i or0) ++ orE3 dims (l.getD i or0) ++ orE4 np (l.getD i or0) ++ orE5 (l.getD i or0) ++ orE6 (l.getD i or0) ++ orE7 (l.getD i or0) ++ orE8 types (l.getD i or0)
def orF0 (n : Nat) : List (Int × ByteArray) := if n ≤ 10 then [] else [(4, ⟨#[]⟩)]
def orF (np : Nat) (dims types : Int) (l : List OrT) : Nat → List (Int × ByteArray)
  | 0 => orF0 l.length
  | k + 1 => orF np dims types l k ++ atT k (orE np dims types l k)
def orderF (np : Nat) (dims types : Int) (l : List OrT) : List (Int × ByteArray) := orF np dims types l l.length
theorem orE_len (np : Nat) (dims types : Int) (l : List OrT) (i : Nat) : (orE np dims types l i).length ≤ 8 := by
 unfold orE
 simp only [List.length_append]
 have h1 : (orE1 (l.getD i or0)).length ≤ 1 := by unfold orE1; exact if_len _ _
 have h2 : (orE2 l i (l.getD i or0)).length ≤ 1 := by unfold orE2; split <;> simp
 have h3 : (orE3 dims (l.getD i or0)).length ≤ 1 := by unfold orE3; exact if_len _ _
 have h4 : (orE4 np (l.getD i or0)).length ≤ 1 := by unfold orE4; exact if_len _ _
 have h5 : (orE5 (l.getD i or0)).length ≤ 1 := by unfold orE5; exact if_len _ _
 have h6 : (orE6 (l.getD i or0)).length ≤ 1 := by unfold orE6; exact if_len _ _
 have h7 : (orE7 (l.getD i or0)).length ≤ 1 := by unfold orE7; exact if_len _ _
 have h8 : (orE8 types (l.getD i or0)).length ≤ 1 := by unfold orE8; exact if_len _ _
 omega
theorem orF_len (np : Nat) (dims types : Int) (l : List OrT) : ∀ k, (orF np dims types l k).length ≤ 1 + 8 * k
 | 0 => by unfold orF orF0; split <;> simp
 | k + 1 => by
  unfold orF atT
  rw [List.length_append, List.length_map]
  have := orF_len np dims types l k
  have := orE_len np dims types l k
  omega

theorem knownO_zero (l : List OrT) (s : ByteArray) : knownO l s 0 = false := by unfold knownO; rw [List.take_zero]; rfl
theorem knownO_step {l : List OrT} {s : ByteArray} {k : Nat} (hk : k < l.length) : knownO l s (k + 1) = (knownO l s k || (l.getD k or0).name.toList == s.toList) := by
 unfold knownO
 rw [take_more (d := or0) hk, List.any_append]
 simp
theorem knownO_more {l : List OrT} {s : ByteArray} {k m : Nat} (hk : k ≤ m) (h : knownO l s k = true) : knownO l s m = true := by
 unfold knownO at *
 obtain ⟨x, hx, hp⟩ := List.any_eq_true.1 h
 exact List.any_eq_true.2 ⟨x, (List.take_subset_take_left l hk) hx, hp⟩

end Go.Proofs.YtomebalolmabnaaGreatDoor.T




