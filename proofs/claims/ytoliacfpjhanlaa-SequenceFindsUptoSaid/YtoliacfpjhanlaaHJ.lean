/-
  DERIVED. HJ: a part of the base of layer 13 (made by pack.py).
-/
import Derived.Laws.AppendOwnNone
import Derived.Maps.AppendAt
import Derived.Deep.DeepCutAuto
import Derived.Deep.Cut
import Derived.Deep.CutRange
import Derived.Test.YtoliacfpjhanlaaShelf
import Derived.Test.YtoliacfpjhanlaaHA
import Derived.ProofKit
import Derived.LaidMore
import Derived.ChangeSlices
import Derived.SliceStrings
import Derived.Carry
import Derived.OpenShut
import Derived.Deep.SlicePairs
import Derived.Deep.Slices
import Derived.Deep.Fields
import Derived.Lib.SmallJoins
import Derived.Lib.ItoaNum
import Derived.Maps.OwnSet
import Derived.DeepKeys4
import Derived.Laws.OwnMore
import Derived.Test.YtoliacfpjhanlaaRows
import Derived.WalkKit
import Derived.WalkSpells
import Derived.WalkLawsBesides
import Derived.WalkMore
import Derived.Below
import Derived.OwnWalk
import Derived.IntWalk
import Derived.Laws.AppendOwn
import Derived.Deep.AppendLies
import Derived.Deep.Draws
import Derived.Deep.QuietTactic
import Derived.Deep.RegionLaw
import Derived.Deep.RegionWith
import Derived.BigQuiet
import Derived.Lib.Hide
import Derived.WalkSmall
import Derived.Deep.Onto
import Derived.Deep.LoopGhost
import Derived.Handy
import Derived.Lib.SliceRun
import Derived.RangeFuncBox
import Derived.RangeFuncNested
import Derived.RangeFuncBound
import Derived.RangeFuncCalls
import Derived.RangeFuncLeaves
import Derived.Shelf.Abstract
import Derived.Shelf.RegionOpen
import Derived.OwnWalkIn
import Derived.TacticsInMore
import Derived.LoopNIn
import Derived.LoopIn
import Derived.Test.YtoliacfpjhanlaaHB
/-! Earliest arrivals: the places settled in the order of their arrivals, and the arcs improved again and again, give the same list. -/
namespace Go.Proofs.Ytoliacfpjhanlaa.T

/-! ### arrivals never fall -/
section
variable {pl : List ByteArray} {l : List ArcT} {pr : Int} {f : Nat} {t : Int}
/-- the place that is settled next -/
structure Nx (np : Nat) (d : List Int) (lf : List Bool) (u : Nat) : Prop where
  lt : u < np
  new : lf.getD u false = false
  at_ : 0 ≤ d.getD u 0
  least : ∀ q, q < np → lf.getD q false = false → 0 ≤ d.getD q 0 → d.getD u 0 ≤ d.getD q 0
end
end Go.Proofs.Ytoliacfpjhanlaa.T



/-! The walk of the specification's Slower. -/
namespace Go.Proofs.Ytoliacfpjhanlaa.T
open Go.RowKit
set_option maxRecDepth 8000

theorem Nb.put {w : World} {n : Nat} {vp va : Value} (h : Nb w n vp va) (y0 y1 : Value) : Nb ((w.setCell ⟨n, 0, none⟩ y0).setCell ⟨n, 1, none⟩ y1) n y0 y1 := by
  unfold Nb at *; simp [World.setCell, Array.getElem?_modify, h]
end Go.Proofs.Ytoliacfpjhanlaa.T



/-! A network by value, as an argument; how much it holds. -/
namespace Go.Proofs.Ytoliacfpjhanlaa.T
open Go.Joins Go.ChangeShapes Go.WideShapes Go.ChangeAt Go.RowKit Go.Deep
set_option maxRecDepth 8000

section
variable {H : Type} {enc : TypeId × Value → H}
/-! ### how much is read -/
theorem bulk_pos (d : DataW H) : 1 ≤ Rows.uptoBulk d := by
  cases d with
  | lit l => cases l <;> simp [Rows.uptoBulk]
  | nil => simp [Rows.uptoBulk]
  | ptr d => simp [Rows.uptoBulk]
  | slice elems spare => simp [Rows.uptoBulk]
  | agg parts => simp [Rows.uptoBulk]
  | iface t d => simp [Rows.uptoBulk]
  | map entries => simp [Rows.uptoBulk]
  | held h => simp [Rows.uptoBulk]
theorem bulk_sum (l : List (DataW H)) : Rows.uptoBulkAll l = (l.map Rows.uptoBulk).sum := by
  induction l with
  | nil => simp [Rows.uptoBulkAll]
  | cons x l ih => simp only [Rows.uptoBulkAll, ih, List.map_cons, List.sum_cons]
theorem bulk_len (l : List (DataW H)) : l.length ≤ Rows.uptoBulkAll l := by
  induction l with
  | nil => simp [Rows.uptoBulkAll]
  | cons x l ih => have := bulk_pos x; simp only [Rows.uptoBulkAll, List.length_cons]; omega
theorem bulk_slice (a b : List (DataW H)) : Rows.uptoBulkAll a + 1 ≤ Rows.uptoBulk (.slice a b) := by simp only [Rows.uptoBulk]; omega
theorem sum_le {n : Nat} {f g : Nat → Nat} (h : ∀ i, i < n → f i ≤ g i) : ((List.range n).map f).sum ≤ ((List.range n).map g).sum := by
  induction n with
  | zero => simp
  | succ n ih =>
    rw [List.range_succ, List.map_append, List.map_append, List.sum_append, List.sum_append]
    have := ih (fun i hi => h i (by omega))
    have := h n (by omega)
    simp
    omega
theorem bulk_part {x : DataW H} {l : List (DataW H)} (h : x ∈ l) : Rows.uptoBulk x ≤ Rows.uptoBulkAll l := by
  induction l with
  | nil => cases h
  | cons y l ih =>
    simp only [Rows.uptoBulkAll]
    rcases List.mem_cons.1 h with rfl | h
    · omega
    · have := ih h; omega

theorem row_lt {W : World} {a : Addr} {n m : Nat} {p q : List MemPlace} (hp : p = MemPlace.row a m ++ q) (hlt : ∀ x ∈ p, x.block < W.heap.size) (hn : n < m) : a.block < W.heap.size := by
  subst hp
  obtain ⟨b, off, spot⟩ := a
  exact hlt (.cell b off) (List.mem_append.2 (.inl (MemPlace.mem_row.2 ⟨0, by omega, by simp⟩)))
end

end Go.Proofs.Ytoliacfpjhanlaa.T



/-! Maps of ways and of texts that a call makes itself. -/
namespace Go.Proofs.Ytoliacfpjhanlaa.T
open Go.RowKit
set_option maxRecDepth 8000

def I64 (x : Int) : Prop := -9223372036854775808 ≤ x ∧ x ≤ 9223372036854775807
theorem wf_i64 {x : Int} (h : (Lit.int .i64 x).wf = true) : I64 x := by
  unfold I64
  simp [Lit.wf, IntKind.min, IntKind.max, IntKind.signed, IntKind.bits] at h
  omega
end Go.Proofs.Ytoliacfpjhanlaa.T



/-! The walks of slices.Backward over arcs and of network's firstArcs. -/
namespace Go.Proofs.Ytoliacfpjhanlaa.T
open Go.RowKit Go.Shelf
set_option maxRecDepth 8000
attribute [local go_sem] Oper.semAt_some

/-- what a round is handed: an index and an arc -/
structure ArcX where
  i : Nat
  fr : Int
  dt : Int
  prof : Int
  miles : Int
  ot : Option Addr
  nt : Nat
  ct : Nat
  os : Option Addr
  ns : Nat
  cs : Nat
  hi : i ≤ 1000000000
  hp : I64 prof
  hf : I64 fr
  ht : I64 dt
end Go.Proofs.Ytoliacfpjhanlaa.T



/-! The walk of network's firstArcs. -/
namespace Go.Proofs.Ytoliacfpjhanlaa.T
open Go.RowKit Go.Shelf
set_option maxRecDepth 8000
attribute [local go_sem] Oper.semAt_some

instance : Inhabited ArcX := ⟨⟨0, 0, 0, 0, 0, none, 0, 0, none, 0, 0, by omega, by unfold I64; omega, by unfold I64; omega, by unfold I64; omega⟩⟩
/-- the numbers of the arcs are numbers of the machine's -/
def Wfa (l : List ArcT) : Prop := ∀ i, i < l.length → I64 (l.getD i arc0).fr ∧ I64 (l.getD i arc0).to ∧ I64 (l.getD i arc0).prof
end Go.Proofs.Ytoliacfpjhanlaa.T



/-! The walk of loads' Right and what it calls (out of layer 6's texts: tools/mkflload.py). -/
namespace Go.Proofs.Ytoliacfpjhanlaa.L
open Go.RowKit
set_option maxRecDepth 8000

def inRange (x : Int) : Bool := decide (0 ≤ x) && decide (x ≤ 1000)
def rightB (l : List Int) (d : Int) : Bool := decide ((l.length : Int) = d) && l.all inRange
end Go.Proofs.Ytoliacfpjhanlaa.L



/-! The walks of the specification's in, Dims, Total, known, capacity. -/
namespace Go.Proofs.Ytoliacfpjhanlaa.T
open Go.RowKit
set_option maxRecDepth 8000

theorem in_n (x lo hi : Int) (w : World) : Calls Try.prog 76 #[.int .i64 x, .int .i64 lo, .int .i64 hi] w fun e w' => e = .returned (.bool (rgB lo hi x)) ∧ w = w' := by
  by_cases h1 : lo ≤ x
  · have HR : Hid (decide (x ≤ hi) = rgB lo hi x) := by show _ = _; unfold rgB; rw [decide_eq_true h1, Bool.true_and]
    generalize rgB lo hi x = r at *
    go_enter Try.func76, Try.ntmps76
    go_wp2_with fail
    go_ret
    exact ⟨ret_bool HR.out, rfl⟩
  · have HR : Hid (false = rgB lo hi x) := by show _ = _; unfold rgB; rw [decide_eq_false h1, Bool.false_and]
    have h2 : x < lo := by omega
    generalize rgB lo hi x = r at *
    go_enter Try.func76, Try.ntmps76
    go_wp2_with fail
    go_ret
    exact ⟨ret_bool HR.out, rfl⟩

theorem refDims_n (v : Value) (l : List TyT) (hl : l.length ≤ 1000000000) (w : World) (hv : Ts w v l) :
    Calls Try.prog 56 #[v] w fun e w' => e = .returned (.int .i64 (dimsF l : Nat)) ∧ w = w' := by
  obtain ⟨oa, c, rfl, ha⟩ := hv
  by_cases h : l.length = 0
  · have hl0 : l = [] := List.eq_nil_of_length_eq_zero h
    subst hl0
    go_enter Try.func56, Try.ntmps56
    go_wp2_with fail
    go_ret
    exact ⟨rfl, rfl⟩
  · obtain ⟨b, o, vc, rfl, hb, ⟨h0, h1, h2, h3, h4, h5, h6, h7, h8, h9, h10, h11, h12, h13⟩, hc⟩ := ha 0 (by omega)
    obtain ⟨oc, cc, rfl, -⟩ := hc
    have hd : Hid ((l.getD 0 ty0).cap.length = dimsF l) := rfl
    have hne : ((l.length : Int) == 0) = false := ne_eqN h
    have hpos : (0 : Int) < (l.length : Int) := by omega
    simp only [Nat.zero_mul, Nat.add_zero] at h0 h1 h2 h3 h4 h5 h6 h7 h8 h9 h10 h11 h12 h13
    generalize dimsF l = d at *
    generalize (l.getD 0 ty0).cap.length = d' at *
    generalize l.length = n at *
    go_enter Try.func56, Try.ntmps56
    go_wp2_with fail
    go_ret
    exact ⟨ret_int (by rw [hd.out]), rfl⟩

theorem known_zero (l : List TyT) (s : ByteArray) : knownB l s 0 = false := rfl
theorem known_step {l : List TyT} {s : ByteArray} {k : Nat} (hk : k < l.length) : knownB l s (k + 1) = (knownB l s k || ((l.getD k ty0).name.toList == s.toList)) := by
  unfold knownB
  rw [take_more (d := ty0) hk, List.any_append]
  simp
theorem known_more {l : List TyT} {s : ByteArray} {k i : Nat} (hk : k ≤ i) (h : knownB l s k = true) : knownB l s i = true := by
  unfold knownB at *
  rw [List.any_eq_true] at *
  obtain ⟨x, hx, hp⟩ := h
  exact ⟨x, (List.take_subset_take_left l hk) hx, hp⟩

set_option maxHeartbeats 1600000 in
theorem refKnown_n (v : Value) (l : List TyT) (i : Nat) (s : ByteArray) (hl : l.length ≤ 1000000000) (hi : i ≤ l.length) (w : World) (hv : Ts w v l) :
    Calls Try.prog 90 #[v, .int .i64 i, .string s] w fun e w' => e = .returned (.bool (knownB l s i)) ∧ Below w.heap.size w w' := by
  obtain ⟨oa, c, rfl, ha⟩ := hv
  have HA := Lib.hid ha
  have HS := Lib.hid (fun k (hk : k < l.length) => known_step (s := s) hk)
  have HM := Lib.hid (fun k (hk : k ≤ i) h => known_more (l := l) (s := s) hk h)
  have H0 := Lib.hid (known_zero l s)
  have HE : Hid (knownB l s i = knownB l s i) := rfl
  generalize hr : knownB l s i = r at HE HM ⊢
  clear HE
  have HE := Lib.hid hr
  generalize hn : l.length = n at *
  clear ha hn hr
  go_enter Try.func90, Try.ntmps90
  go_wp2_with fail
  go_loopw [7] (fun j wr => ∃ k : Nat, k ≤ i ∧ j = .int .i64 k ∧ Hid (knownB l s k = false) ∧ Hid (Below w.heap.size w wr)) (fun j _ => i - (intOf j).toNat)
  case atStart => exact ⟨0, Nat.zero_le _, rfl, H0, Below.refl _ _⟩
  case round =>
    obtain ⟨k, hk, rfl, HK, HW⟩ := hrel
    by_cases hlt : k < i
    · obtain ⟨b, o, vc, rfl, hab, ⟨h0, -⟩, -⟩ := HA.out k (by omega)
      have d0 := (HW.out.cell (p := ⟨b, _, none⟩) hab).trans h0
      have hkI : (k : Int) < (i : Int) := by omega
      have hkN : (k : Int) < (n : Int) := by omega
      have HSk := Lib.hid (HS.out k (by omega))
      have HMk := Lib.hid (HM.out (k + 1) (by omega))
      clear h0
      generalize (l.getD k ty0).name = x at *
      rw [HK.out, Bool.false_or] at HSk
      cases hx : (x.toList == s.toList)
      · have HK1 : Hid (knownB l s (k + 1) = false) := by show _ = _; rw [HSk.out, hx]
        go_wp2_with fail
        go_roundw
        case rel => exact ⟨k + 1, by omega, by go_num, HK1, HW⟩
        case measure => simp [intOf] <;> omega
      · have HR : Hid (r = true) := HMk.out (by rw [HSk.out, hx])
        go_wp2_with fail
        go_ret
        exact ⟨ret_bool (by rw [HR.out]), HW.out⟩
    · have hk' : k = i := by omega
      subst hk'
      have HR : Hid (r = false) := by show _ = _; rw [← HE.out, HK.out]
      go_wp2_with fail
      go_ret
      exact ⟨ret_bool (by rw [HR.out]), HW.out⟩

end Go.Proofs.Ytoliacfpjhanlaa.T



/-! The walks of the specification's capacity and Able. -/
namespace Go.Proofs.Ytoliacfpjhanlaa.T
open Go.RowKit
set_option maxRecDepth 8000

theorem all_step {l : List Int} {k : Nat} (h : k < l.length) (p : Int → Bool) : (l.take (k + 1)).all p = ((l.take k).all p && p (l.getD k 0)) := by
  rw [take_more (d := 0) h, List.all_append]
  simp
theorem all_no {l : List Int} {k : Nat} (h : k < l.length) {p : Int → Bool} (hp : p (l.getD k 0) = false) : l.all p = false := by
  rw [List.all_eq_false]
  exact ⟨l.getD k 0, getD_mem h, by rw [hp]; simp⟩
set_option maxHeartbeats 1600000 in
theorem refCapacity_n (u : Value) (l : List Int) (d : Nat) (hl : l.length ≤ 1000000000) (w : World) (hu : L.Li w u l) :
    Calls Try.prog 91 #[u, .int .i64 d] w fun e w' => e = .returned (.bool (capB l d)) ∧ w = w' := by
  obtain ⟨oa, c, rfl, ha⟩ := hu
  have HA := Lib.hid ha
  have HC : Hid ((rgB 1 3 l.length && decide (l.length = d) && l.all (rgB 0 1000)) = capB l d) := rfl
  have K0 := Lib.hid (fun w => in_n (l.length : Int) 1 3 w)
  have HS := Lib.hid (fun k (h : k < l.length) => all_step h (rgB 0 1000))
  have HNo := Lib.hid (fun k (h : k < l.length) (hp : rgB 0 1000 (l.getD k 0) = false) => all_no h hp)
  have HZ : Hid ((l.take 0).all (rgB 0 1000) = true) := rfl
  have HE : Hid ((l.take l.length).all (rgB 0 1000) = l.all (rgB 0 1000)) := by show _ = _; rw [List.take_length]
  generalize capB l d = r at *
  generalize hn : l.length = n at *
  generalize rgB 1 3 (n : Int) = b0 at *
  clear ha hn
  cases b0
  · have HR : Hid (false = r) := by show _ = _; rw [← HC.out]; rfl
    go_enter Try.func91, Try.ntmps91
    go_wp2_with fail
    refine (K0.out _).mono ?_
    rintro e w1 ⟨rfl, rfl⟩
    go_wp2_with fail
    go_ret
    exact ⟨ret_bool HR.out, rfl⟩
  by_cases hd : n = d
  · subst hd
    have hne : ((n : Int) != (n : Int)) = false := by simp
    have HC2 : Hid (l.all (rgB 0 1000) = r) := by show _ = _; rw [← HC.out, decide_eq_true rfl]; rfl
    go_enter Try.func91, Try.ntmps91
    go_wp2_with fail
    refine (K0.out _).mono ?_
    rintro e w1 ⟨rfl, rfl⟩
    go_wp2_with fail
    go_loopw [5] (fun j wr => ∃ k : Nat, k ≤ n ∧ j = .int .i64 k ∧ Hid ((l.take k).all (rgB 0 1000) = true) ∧ w = wr) (fun j _ => n - (intOf j).toNat)
    case atStart => exact ⟨0, Nat.zero_le _, rfl, HZ, rfl⟩
    case round =>
      obtain ⟨k, hk, rfl, HK, rfl⟩ := hrel
      by_cases hlt : k < n
      · obtain ⟨a, rfl, hab, hc0⟩ := HA.out k hlt
        have d0 := hc0
        have hkI : (k : Int) < (n : Int) := by omega
        have HSk := Lib.hid (HS.out k hlt)
        have HNk := Lib.hid (HNo.out k hlt)
        have KI := Lib.hid (fun w => in_n (l.getD k 0) 0 1000 w)
        generalize l.getD k 0 = x at *
        rw [HK.out, Bool.true_and] at HSk
        cases hr : rgB 0 1000 x
        · rw [hr] at KI HNk
          have HR : Hid (false = r) := by show _ = _; rw [← HC2.out, HNk.out rfl]
          go_wp2_with fail
          refine (KI.out _).mono ?_
          rintro e w2 ⟨rfl, rfl⟩
          go_wp2_with fail
          go_ret
          exact ⟨ret_bool HR.out, rfl⟩
        · rw [hr] at KI HSk
          go_wp2_with fail
          refine (KI.out _).mono ?_
          rintro e w2 ⟨rfl, rfl⟩
          go_wp2_with fail
          go_roundw
          case rel => exact ⟨k + 1, by omega, by go_num, HSk, by first | trivial | rfl⟩
          case measure => simp [intOf] <;> omega
      · have hk' : k = n := by omega
        subst hk'
        have HR : Hid (true = r) := by show _ = _; rw [← HC2.out, ← HE.out, HK.out]
        go_wp2_with fail
        go_ret
        exact ⟨ret_bool HR.out, rfl⟩
  · have hne : ((n : Int) != (d : Int)) = true := ne_neN hd
    have HR : Hid (false = r) := by show _ = _; rw [← HC.out, decide_eq_false hd]; rfl
    go_enter Try.func91, Try.ntmps91
    go_wp2_with fail
    refine (K0.out _).mono ?_
    rintro e w1 ⟨rfl, rfl⟩
    go_wp2_with fail
    go_ret
    exact ⟨ret_bool HR.out, rfl⟩

/-! ### skills -/
end Go.Proofs.Ytoliacfpjhanlaa.T



