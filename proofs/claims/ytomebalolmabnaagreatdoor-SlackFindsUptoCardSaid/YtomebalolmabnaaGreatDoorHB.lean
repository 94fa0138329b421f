/-
  DERIVED. HB: a part of the base of layer 13 (made by pack.py).
-/
import Derived.Test.YtomebalolmabnaaGreatDoorHA
import Derived.Maps.AppendAt
import Derived.Laws.AppendOwnNone
import Derived.Deep.DeepCutAuto
import Derived.Deep.Cut
import Derived.Deep.CutRange
import Derived.Maps.OwnSet
import Derived.DeepKeys4
import Derived.Laws.OwnMore
import Derived.Lib.ItoaNum
import Derived.Test.YtomebalolmabnaaGreatDoorRows
import Derived.WalkKit
import Derived.WalkSpells
import Derived.WalkLawsBesides
import Derived.WalkMore
import Derived.Below
import Derived.OwnWalk
import Derived.IntWalk
import Derived.Laws.AppendOwn
import Derived.Deep.AppendLies
import Derived.Deep.Draws
import Derived.Deep.QuietTactic
import Derived.Deep.RegionLaw
import Derived.Deep.RegionWith
import Derived.BigQuiet
import Derived.Lib.Hide
import Derived.WalkSmall
import Derived.Deep.Onto
import Derived.Deep.LoopGhost
import Derived.Handy
import Derived.Test.YtomebalolmabnaaGreatDoorShelf
/-! Networks in plain lists: what each function answers. -/
namespace Go.Proofs.YtomebalolmabnaaGreatDoor.T

structure ArcT where
  fr : Int
  «to» : Int
  prof : Int
  miles : Int
  tr : List (Int × Int)
  sl : List (Int × Int)
deriving DecidableEq
def arc0 : ArcT := ⟨0, 0, 0, 0, [], []⟩
def sPlace : ByteArray := ⟨#[112, 108, 97, 99, 101, 32]⟩
def sArc : ByteArray := ⟨#[97, 114, 99, 32]⟩
def sPlaces : ByteArray := ⟨#[112, 108, 97, 99, 101, 115]⟩
def sArcs : ByteArray := ⟨#[97, 114, 99, 115]⟩
def placeS (i : Nat) : ByteArray := sPlace ++ dec i
def arcS (i : Nat) : ByteArray := sArc ++ dec i
def nmB (s : ByteArray) : Bool := nameB s.data.toList
def seen (l : List ByteArray) (s : ByteArray) (j : Nat) : Bool := (l.take j).any fun x => x.toList == s.toList
def plf (l : List ByteArray) (i : Nat) : List (Int × ByteArray) :=
  if nmB (l.getD i ⟨#[]⟩) then (if seen l (l.getD i ⟨#[]⟩) i then [(6, placeS i)] else []) else [(5, placeS i)]
def plf0 (n : Nat) : List (Int × ByteArray) := if 24 < n then [(4, sPlaces)] else []
def plF (l : List ByteArray) : Nat → List (Int × ByteArray)
  | 0 => plf0 l.length
  | k + 1 => plF l k ++ plf l k
def inB (np : Nat) (x : Int) : Bool := decide (0 ≤ x) && decide (x < np)
def af1 (np : Nat) (a : ArcT) (i : Nat) : List (Int × ByteArray) := if inB np a.fr && inB np a.to then [] else [(11, arcS i)]
def valB (a : ArcT) : Bool := decide (0 ≤ a.prof) && decide (a.prof ≤ 7) && decide (0 ≤ a.miles) && decide (a.miles ≤ 10000) && !decide (a.fr = a.to)
def af2 (a : ArcT) (i : Nat) : List (Int × ByteArray) := if valB a then [] else [(2, arcS i)]
def likeB (a b : ArcT) : Bool := decide (a.fr = b.fr) && decide (a.to = b.to) && decide (a.prof = b.prof)
def twiceB (l : List ArcT) (a : ArcT) (j : Nat) : Bool := (l.take j).any fun b => likeB a b
def af3 (l : List ArcT) (a : ArcT) (i : Nat) : List (Int × ByteArray) := if twiceB l a i then [(6, arcS i)] else []
def af4 (l : List (Int × ByteArray)) (i : Nat) : List (Int × ByteArray) := l.map fun f => (f.1, arcS i)
def af5 (a : ArcT) (i : Nat) : List (Int × ByteArray) := if 16 < a.sl.length then [(4, arcS i)] else []
def slowB (l : List (Int × Int)) (k : Nat) : Bool :=
  tickB (l.getD k (0, 0)).1 && tickB (l.getD k (0, 0)).2 && !(decide (0 < k) && decide ((l.getD k (0, 0)).1 ≤ (l.getD (k - 1) (0, 0)).1))
def af6 (l : List (Int × Int)) (i k : Nat) : List (Int × ByteArray) := if slowB l k then [] else [(2, arcS i)]
def slF (l : List (Int × Int)) (i : Nat) : Nat → List (Int × ByteArray)
  | 0 => []
  | k + 1 => slF l i k ++ af6 l i k
def arF (np : Nat) (l : List ArcT) (i : Nat) : List (Int × ByteArray) :=
  af1 np (l.getD i arc0) i ++ af2 (l.getD i arc0) i ++ af3 l (l.getD i arc0) i ++ af4 (faults (l.getD i arc0).tr) i ++ af5 (l.getD i arc0) i ++ slF (l.getD i arc0).sl i (l.getD i arc0).sl.length
def nf0 (pl : List ByteArray) (n : Nat) : List (Int × ByteArray) := plF pl pl.length ++ if 1024 < n then [(4, sArcs)] else []
def ntF (pl : List ByteArray) (l : List ArcT) : Nat → List (Int × ByteArray)
  | 0 => nf0 pl l.length
  | k + 1 => ntF pl l k ++ arF pl.length l k
def netF (pl : List ByteArray) (l : List ArcT) : List (Int × ByteArray) := ntF pl l l.length

structure ArcOk (np : Nat) (a : ArcT) : Prop where
  fr : 0 ≤ a.fr ∧ a.fr < np
  «to» : 0 ≤ a.to ∧ a.to < np
  ne : a.fr ≠ a.to
  prof : 0 ≤ a.prof ∧ a.prof ≤ 7
  miles : 0 ≤ a.miles ∧ a.miles ≤ 10000
  tr : Ok a.tr
  len : a.sl.length ≤ 16
  slow : ∀ k, k < a.sl.length → slowB a.sl k = true
structure NetOk (pl : List ByteArray) (l : List ArcT) : Prop where
  places : pl.length ≤ 24
  arcs : ∀ i, i < l.length → ArcOk pl.length (l.getD i arc0)
  once : ∀ i, i < l.length → twiceB l (l.getD i arc0) i = false
theorem slF_nil (l : List (Int × Int)) (i : Nat) : ∀ k, slF l i k = [] ↔ ∀ j, j < k → slowB l j = true
 | 0 => ⟨fun _ j hj => absurd hj (Nat.not_lt_zero _), fun _ => rfl⟩
 | k + 1 => by
  show slF l i k ++ af6 l i k = [] ↔ _
  rw [List.append_eq_nil_iff, slF_nil l i k]
  have h6 : af6 l i k = [] ↔ slowB l k = true := by unfold af6; split <;> simp [*]
  rw [h6]
  constructor
  ·rintro ⟨h, hk⟩ j hj
   by_cases e : j = k
   ·rw [e]; exact hk
   ·exact h j (by omega)
  ·intro h
   exact ⟨fun j hj => h j (by omega), h k (by omega)⟩
theorem arF_nil (np : Nat) (l : List ArcT) (i : Nat) : arF np l i = [] ↔ ArcOk np (l.getD i arc0) ∧ twiceB l (l.getD i arc0) i = false := by
 unfold arF
 generalize l.getD i arc0 = a
 rw [List.append_eq_nil_iff, List.append_eq_nil_iff, List.append_eq_nil_iff, List.append_eq_nil_iff, List.append_eq_nil_iff, slF_nil]
 have h1 : af1 np a i = [] ↔ (0 ≤ a.fr ∧ a.fr < np) ∧ (0 ≤ a.to ∧ a.to < np) := by unfold af1 inB; split <;> simp_all
 have h2 : af2 a i = [] ↔ (0 ≤ a.prof ∧ a.prof ≤ 7) ∧ (0 ≤ a.miles ∧ a.miles ≤ 10000) ∧ a.fr ≠ a.to := by unfold af2 valB; split <;> simp_all [and_assoc]
 have h3 : af3 l a i = [] ↔ twiceB l a i = false := by unfold af3; split <;> simp_all
 have h4 : af4 (faults a.tr) i = [] ↔ Ok a.tr := by unfold af4; rw [List.map_eq_nil_iff, faults_nil]
 have h5 : af5 a i = [] ↔ a.sl.length ≤ 16 := by unfold af5; split <;> simp <;> omega
 rw [h1, h2, h3, h4, h5]
 constructor
 ·rintro ⟨⟨⟨⟨⟨⟨f, t⟩, p, m, n⟩, w⟩, o⟩, s⟩, k⟩
  exact ⟨⟨f, t, n, p, m, o, s, k⟩, w⟩
 ·rintro ⟨⟨f, t, n, p, m, o, s, k⟩, w⟩
  exact ⟨⟨⟨⟨⟨⟨f, t⟩, p, m, n⟩, w⟩, o⟩, s⟩, k⟩
theorem plF_places (l : List ByteArray) : ∀ k, plF l k = [] → l.length ≤ 24
 | 0, h => by unfold plF plf0 at h; split at h <;> simp_all
 | k + 1, h => plF_places l k (List.append_eq_nil_iff.1 h).1
theorem ntF_nil (pl : List ByteArray) (l : List ArcT) : ∀ k, ntF pl l k = [] → nf0 pl l.length = [] ∧ ∀ i, i < k → arF pl.length l i = []
 | 0, h => ⟨h, fun i hi => absurd hi (Nat.not_lt_zero _)⟩
 | k + 1, h => by
  have h2 := List.append_eq_nil_iff.1 (show ntF pl l k ++ arF pl.length l k = [] from h)
  obtain ⟨h3, h4⟩ := ntF_nil pl l k h2.1
  refine ⟨h3, fun i hi => ?_⟩
  by_cases e : i = k
  ·rw [e]; exact h2.2
  ·exact h4 i (by omega)
theorem netOk_of {pl : List ByteArray} {l : List ArcT} (h : netF pl l = []) : NetOk pl l := by
 obtain ⟨h0, h1⟩ := ntF_nil pl l _ h
 refine ⟨plF_places pl _ (List.append_eq_nil_iff.1 h0).1, fun i hi => ((arF_nil _ _ _).1 (h1 i hi)).1, fun i hi => ((arF_nil _ _ _).1 (h1 i hi)).2⟩

def slowS : List (Int × Int) → Int → Int
  | [], _ => 0
  | p :: l, t => (if p.1 ≤ t then p.2 else 0) + slowS l t
def arrA (a : ArcT) (t : Int) : Int := arr a.tr t + slowS a.sl t

end Go.Proofs.YtomebalolmabnaaGreatDoor.T




/-! Slices of texts and of arcs. -/
namespace Go.Proofs.YtomebalolmabnaaGreatDoor.T
open Go.RowKit
set_option maxRecDepth 8000

def Ss (w : World) (v : Value) (l : List ByteArray) : Prop :=
  ∃ (oa : Option Addr) (c : Nat), v = .slice oa l.length c ∧ ∀ i, i < l.length → ∃ a, oa = some a ∧ a.block < w.heap.size ∧ w.cell? (a.add i) = some (.string (l.getD i ⟨#[]⟩))
theorem Ss.below {w w' : World} {v : Value} {l : List ByteArray} (h : Ss w v l) (hb : Below w.heap.size w w') : Ss w' v l := by
 obtain ⟨oa, c, hv, h⟩ := h
 refine ⟨oa, c, hv, fun i hi => ?_⟩
 obtain ⟨a, ha, hl, hc⟩ := h i hi
 exact ⟨a, ha, Nat.lt_of_lt_of_le hl hb.size, (hb.cell (p := a.add i) (by rw [add_block]; exact hl)).trans hc⟩
theorem Ss.nil (w : World) : Ss w (.slice none 0 0) [] := ⟨none, 0, rfl, fun i hi => by cases hi⟩

def Ac (w : World) (b o : Nat) (a : ArcT) (vt vs : Value) : Prop :=
  w.cell? ⟨b, o, none⟩ = some (.int .i64 a.fr) ∧ w.cell? ⟨b, o + 1, none⟩ = some (.int .i64 a.to) ∧ w.cell? ⟨b, o + 2, none⟩ = some (.int .i64 a.prof) ∧
    w.cell? ⟨b, o + 3, none⟩ = some (.int .i64 a.miles) ∧ w.cell? ⟨b, o + 4, none⟩ = some vt ∧ w.cell? ⟨b, o + 5, none⟩ = some vs
theorem Ac.below {w w' : World} {b o : Nat} {a : ArcT} {vt vs : Value} (h : Ac w b o a vt vs) (hl : b < w.heap.size) (hb : Below w.heap.size w w') : Ac w' b o a vt vs := by
 obtain ⟨h0, h1, h2, h3, h4, h5⟩ := h
 exact ⟨(hb.cell (p := ⟨b, _, none⟩) hl).trans h0, (hb.cell (p := ⟨b, _, none⟩) hl).trans h1, (hb.cell (p := ⟨b, _, none⟩) hl).trans h2, (hb.cell (p := ⟨b, _, none⟩) hl).trans h3, (hb.cell (p := ⟨b, _, none⟩) hl).trans h4, (hb.cell (p := ⟨b, _, none⟩) hl).trans h5⟩
def As (w : World) (v : Value) (l : List ArcT) : Prop :=
  ∃ (oa : Option Addr) (c : Nat), v = .slice oa l.length c ∧ ∀ i, i < l.length → ∃ (b o : Nat) (vt vs : Value), oa = some ⟨b, o, none⟩ ∧ b < w.heap.size ∧
    Ac w b (o + i * 6) (l.getD i arc0) vt vs ∧ Ps w vt (l.getD i arc0).tr ∧ Ps w vs (l.getD i arc0).sl
theorem As.below {w w' : World} {v : Value} {l : List ArcT} (h : As w v l) (hb : Below w.heap.size w w') : As w' v l := by
 obtain ⟨oa, c, hv, h⟩ := h
 refine ⟨oa, c, hv, fun i hi => ?_⟩
 obtain ⟨b, o, vt, vs, ha, hl, hc, ht, hs⟩ := h i hi
 exact ⟨b, o, vt, vs, ha, Nat.lt_of_lt_of_le hl hb.size, hc.below hl hb, ht.below hb, hs.below hb⟩
theorem As.nil (w : World) : As w (.slice none 0 0) [] := ⟨none, 0, rfl, fun i hi => by cases hi⟩

def Nb (w : World) (n : Nat) (vp va : Value) : Prop := w.heap[n]? = some (.cells #[vp, va] 25)
section
variable {w w' : World} {n : Nat} {vp va : Value}
theorem Nb.c0 (h : Nb w n vp va) : w.cell? ⟨n, 0, none⟩ = some vp := by unfold Nb at h; simp [World.cell?, h]
theorem Nb.c1 (h : Nb w n vp va) : w.cell? ⟨n, 1, none⟩ = some va := by unfold Nb at h; simp [World.cell?, h]
theorem Nb.lt (h : Nb w n vp va) : n < w.heap.size := by
 apply Decidable.byContradiction
 intro hc
 unfold Nb at h
 rw [Array.getElem?_eq_none (by omega)] at h; cases h
theorem Nb.below (h : Nb w n vp va) (hb : Below w.heap.size w w') : Nb w' n vp va := (hb.block n h.lt).trans h
theorem Nb.made (w : World) (vp va : Value) : Nb (w.alloc (.cells #[vp, va] 25)) w.heap.size vp va := by
 show (w.heap.push _)[w.heap.size]? = _
 simp
end

end Go.Proofs.YtomebalolmabnaaGreatDoor.T




/-! Types of vehicles in plain lists: what each function answers. -/
namespace Go.Proofs.YtomebalolmabnaaGreatDoor.T

structure TyT where
  name : ByteArray
  count : Int
  fr : Int
  «to» : Int
  cap : List Int
  skills : Int
  prof : Int
  opn : Int
  cls : Int
  drv : Int
  rst : Int
  fix : Int
  pm : Int
  pt : Int
deriving DecidableEq
def ty0 : TyT := ⟨⟨#[]⟩, 0, 0, 0, [], 0, 0, 0, 0, 0, 0, 0, 0, 0⟩
def nmT (s : ByteArray) : Bool := nameB s.data.toList
def rgB (lo hi x : Int) : Bool := decide (lo ≤ x) && decide (x ≤ hi)
def capB (l : List Int) (dims : Nat) : Bool := rgB 1 3 l.length && decide (l.length = dims) && l.all (rgB 0 1000)
def dimsF (l : List TyT) : Nat := (l.getD 0 ty0).cap.length
def knownB (l : List TyT) (s : ByteArray) (j : Nat) : Bool := (l.take j).any fun x => x.name.toList == s.toList
def tyE1 (t : TyT) : List Int := if nmT t.name then [] else [5]
def tyE2 (l : List TyT) (i : Nat) (t : TyT) : List Int := if knownB l t.name i then [6] else []
def tyE3 (t : TyT) : List Int := if rgB 0 10 t.count then [] else [22]
def tyE4 (np : Nat) (t : TyT) : List Int := if rgB 0 (np - 1) t.fr && rgB 0 (np - 1) t.to then [] else [11]
def tyE5 (dims : Nat) (t : TyT) : List Int := if capB t.cap dims then [] else [17]
def tyE6 (t : TyT) : List Int := if rgB 0 1073741823 t.skills then [] else [18]
def tyE7 (t : TyT) : List Int := if rgB 0 t.cls t.opn && decide (t.cls ≤ 4096) then [] else [15]
def tyE8 (t : TyT) : List Int := if rgB 1 4096 t.drv && rgB 0 4096 t.rst then [] else [16]
def tyE9 (t : TyT) : List Int := if rgB 0 7 t.prof && rgB 0 100000 t.fix && rgB 0 100 t.pm && rgB 0 100 t.pt then [] else [2]
def tyE (np : Nat) (l : List TyT) (i : Nat) : List Int :=
  tyE1 (l.getD i ty0) ++ tyE2 l i (l.getD i ty0) ++ tyE3 (l.getD i ty0) ++ tyE4 np (l.getD i ty0) ++ tyE5 (dimsF l) (l.getD i ty0) ++ tyE6 (l.getD i ty0) ++ tyE7 (l.getD i ty0) ++ tyE8 (l.getD i ty0) ++ tyE9 (l.getD i ty0)
def flF0 (n : Nat) : List (Int × ByteArray) := if rgB 1 6 n then [] else [(4, ⟨#[]⟩)]
def atT (i : Nat) (l : List Int) : List (Int × ByteArray) := l.map fun x => (x, dec i)
def flF (np : Nat) (l : List TyT) : Nat → List (Int × ByteArray)
  | 0 => flF0 l.length
  | k + 1 => flF np l k ++ atT k (tyE np l k)
def fleetF (np : Nat) (l : List TyT) : List (Int × ByteArray) := flF np l l.length
end Go.Proofs.YtomebalolmabnaaGreatDoor.T




/-! Slices and blocks of types of vehicles (written by gen_flrow.py). -/
namespace Go.Proofs.YtomebalolmabnaaGreatDoor.T
open Go.RowKit
set_option maxRecDepth 8000

def Tc (w : World) (b o : Nat) (a : TyT) (vc : Value) : Prop :=
  w.cell? ⟨b, o, none⟩ = some (.string a.name) ∧ w.cell? ⟨b, o + 1, none⟩ = some (.int .i64 a.count) ∧ w.cell? ⟨b, o + 2, none⟩ = some (.int .i64 a.fr) ∧ w.cell? ⟨b, o + 3, none⟩ = some (.int .i64 a.to) ∧ w.cell? ⟨b, o + 4, none⟩ = some vc ∧ w.cell? ⟨b, o + 5, none⟩ = some (.int .i64 a.skills) ∧ w.cell? ⟨b, o + 6, none⟩ = some (.int .i64 a.prof) ∧ w.cell? ⟨b, o + 7, none⟩ = some (.int .i64 a.opn) ∧ w.cell? ⟨b, o + 8, none⟩ = some (.int .i64 a.cls) ∧ w.cell? ⟨b, o + 9, none⟩ = some (.int .i64 a.drv) ∧ w.cell? ⟨b, o + 10, none⟩ = some (.int .i64 a.rst) ∧ w.cell? ⟨b, o + 11, none⟩ = some (.int .i64 a.fix) ∧ w.cell? ⟨b, o + 12, none⟩ = some (.int .i64 a.pm) ∧ w.cell? ⟨b, o + 13, none⟩ = some (.int .i64 a.pt)
theorem Tc.below {w w' : World} {b o : Nat} {a : TyT} {vc : Value} (h : Tc w b o a vc) (hl : b < w.heap.size) (hb : Below w.heap.size w w') : Tc w' b o a vc := by
 obtain ⟨h0, h1, h2, h3, h4, h5, h6, h7, h8, h9, h10, h11, h12, h13⟩ := h
 exact ⟨(hb.cell (p := ⟨b, _, none⟩) hl).trans h0, (hb.cell (p := ⟨b, _, none⟩) hl).trans h1, (hb.cell (p := ⟨b, _, none⟩) hl).trans h2, (hb.cell (p := ⟨b, _, none⟩) hl).trans h3, (hb.cell (p := ⟨b, _, none⟩) hl).trans h4, (hb.cell (p := ⟨b, _, none⟩) hl).trans h5, (hb.cell (p := ⟨b, _, none⟩) hl).trans h6, (hb.cell (p := ⟨b, _, none⟩) hl).trans h7, (hb.cell (p := ⟨b, _, none⟩) hl).trans h8, (hb.cell (p := ⟨b, _, none⟩) hl).trans h9, (hb.cell (p := ⟨b, _, none⟩) hl).trans h10, (hb.cell (p := ⟨b, _, none⟩) hl).trans h11, (hb.cell (p := ⟨b, _, none⟩) hl).trans h12, (hb.cell (p := ⟨b, _, none⟩) hl).trans h13⟩
def Ts (w : World) (v : Value) (l : List TyT) : Prop :=
  ∃ (oa : Option Addr) (c : Nat), v = .slice oa l.length c ∧ ∀ i, i < l.length → ∃ (b o : Nat) (vc : Value), oa = some ⟨b, o, none⟩ ∧ b < w.heap.size ∧ Tc w b (o + i * 14) (l.getD i ty0) vc ∧ L.Li w vc (l.getD i ty0).cap
theorem Ts.below {w w' : World} {v : Value} {l : List TyT} (h : Ts w v l) (hb : Below w.heap.size w w') : Ts w' v l := by
 obtain ⟨oa, c, hv, h⟩ := h
 refine ⟨oa, c, hv, fun i hi => ?_⟩
 obtain ⟨b, o, vc, ha, hl, hc, ht⟩ := h i hi
 exact ⟨b, o, vc, ha, Nat.lt_of_lt_of_le hl hb.size, hc.below hl hb, ht.below hb⟩
theorem Ts.nil (w : World) : Ts w (.slice none 0 0) [] := ⟨none, 0, rfl, fun i hi => by cases hi⟩

def Tb (w : World) (n : Nat) (x0 x1 x2 x3 x4 x5 x6 x7 x8 x9 x10 x11 x12 x13 : Value) : Prop := w.heap[n]? = some (.cells #[x0, x1, x2, x3, x4, x5, x6, x7, x8, x9, x10, x11, x12, x13] 80)
section
variable {w w' : World} {n : Nat} {x0 x1 x2 x3 x4 x5 x6 x7 x8 x9 x10 x11 x12 x13 : Value}
theorem Tb.c0 (h : Tb w n x0 x1 x2 x3 x4 x5 x6 x7 x8 x9 x10 x11 x12 x13) : w.cell? ⟨n, 0, none⟩ = some x0 := by unfold Tb at h; simp [World.cell?, h]
theorem Tb.c1 (h : Tb w n x0 x1 x2 x3 x4 x5 x6 x7 x8 x9 x10 x11 x12 x13) : w.cell? ⟨n, 1, none⟩ = some x1 := by unfold Tb at h; simp [World.cell?, h]
theorem Tb.c2 (h : Tb w n x0 x1 x2 x3 x4 x5 x6 x7 x8 x9 x10 x11 x12 x13) : w.cell? ⟨n, 2, none⟩ = some x2 := by unfold Tb at h; simp [World.cell?, h]
theorem Tb.c3 (h : Tb w n x0 x1 x2 x3 x4 x5 x6 x7 x8 x9 x10 x11 x12 x13) : w.cell? ⟨n, 3, none⟩ = some x3 := by unfold Tb at h; simp [World.cell?, h]
theorem Tb.c4 (h : Tb w n x0 x1 x2 x3 x4 x5 x6 x7 x8 x9 x10 x11 x12 x13) : w.cell? ⟨n, 4, none⟩ = some x4 := by unfold Tb at h; simp [World.cell?, h]
theorem Tb.c5 (h : Tb w n x0 x1 x2 x3 x4 x5 x6 x7 x8 x9 x10 x11 x12 x13) : w.cell? ⟨n, 5, none⟩ = some x5 := by unfold Tb at h; simp [World.cell?, h]
theorem Tb.c6 (h : Tb w n x0 x1 x2 x3 x4 x5 x6 x7 x8 x9 x10 x11 x12 x13) : w.cell? ⟨n, 6, none⟩ = some x6 := by unfold Tb at h; simp [World.cell?, h]
theorem Tb.c7 (h : Tb w n x0 x1 x2 x3 x4 x5 x6 x7 x8 x9 x10 x11 x12 x13) : w.cell? ⟨n, 7, none⟩ = some x7 := by unfold Tb at h; simp [World.cell?, h]
theorem Tb.c8 (h : Tb w n x0 x1 x2 x3 x4 x5 x6 x7 x8 x9 x10 x11 x12 x13) : w.cell? ⟨n, 8, none⟩ = some x8 := by unfold Tb at h; simp [World.cell?, h]
theorem Tb.c9 (h : Tb w n x0 x1 x2 x3 x4 x5 x6 x7 x8 x9 x10 x11 x12 x13) : w.cell? ⟨n, 9, none⟩ = some x9 := by unfold Tb at h; simp [World.cell?, h]
theorem Tb.c10 (h : Tb w n x0 x1 x2 x3 x4 x5 x6 x7 x8 x9 x10 x11 x12 x13) : w.cell? ⟨n, 10, none⟩ = some x10 := by unfold Tb at h; simp [World.cell?, h]
theorem Tb.c11 (h : Tb w n x0 x1 x2 x3 x4 x5 x6 x7 x8 x9 x10 x11 x12 x13) : w.cell? ⟨n, 11, none⟩ = some x11 := by unfold Tb at h; simp [World.cell?, h]
theorem Tb.c12 (h : Tb w n x0 x1 x2 x3 x4 x5 x6 x7 x8 x9 x10 x11 x12 x13) : w.cell? ⟨n, 12, none⟩ = some x12 := by unfold Tb at h; simp [World.cell?, h]
theorem Tb.c13 (h : Tb w n x0 x1 x2 x3 x4 x5 x6 x7 x8 x9 x10 x11 x12 x13) : w.cell? ⟨n, 13, none⟩ = some x13 := by unfold Tb at h; simp [World.cell?, h]
theorem Tb.f (h : Tb w n x0 x1 x2 x3 x4 x5 x6 x7 x8 x9 x10 x11 x12 x13) (k : Nat) : w.frozen? ⟨n, k, none⟩ = false := by unfold Tb at h; simp [World.frozen?, h]
theorem Tb.lt (h : Tb w n x0 x1 x2 x3 x4 x5 x6 x7 x8 x9 x10 x11 x12 x13) : n < w.heap.size := by
 apply Decidable.byContradiction
 intro hc
 unfold Tb at h
 rw [Array.getElem?_eq_none (by omega)] at h; cases h
theorem Tb.below (h : Tb w n x0 x1 x2 x3 x4 x5 x6 x7 x8 x9 x10 x11 x12 x13) (hb : Below w.heap.size w w') : Tb w' n x0 x1 x2 x3 x4 x5 x6 x7 x8 x9 x10 x11 x12 x13 := (hb.block n h.lt).trans h
theorem Tb.made (w : World) (x0 x1 x2 x3 x4 x5 x6 x7 x8 x9 x10 x11 x12 x13 : Value) : Tb (w.alloc (.cells #[x0, x1, x2, x3, x4, x5, x6, x7, x8, x9, x10, x11, x12, x13] 80)) w.heap.size x0 x1 x2 x3 x4 x5 x6 x7 x8 x9 x10 x11 x12 x13 := by
 show (w.heap.push _)[w.heap.size]? = _
 simp
end

end Go.Proofs.YtomebalolmabnaaGreatDoor.T




/-! Lists of errors and of faults, appended to: what each append leaves (of layer 9's texts: mkflbase.py). -/
namespace Go.Proofs.YtomebalolmabnaaGreatDoor.T
open Go.RowKit
set_option maxRecDepth 8000

def Gl (B : Nat) (w : World) (v : Value) (l : List (Int × ByteArray)) : Prop := Gf B w v l.length l
theorem Gl.nil (B : Nat) (w : World) : Gl B w (.slice none 0 0) [] := Gn.nil _ _ _ _ _
theorem Gl.frame {B : Nat} {w w' : World} {v : Value} {l : List (Int × ByteArray)} (h : Gl B w v l) (hb : Below w.heap.size w w') : Gl B w' v l := Gn.frame h hb
theorem Gl.drew {B : Nat} {w : World} {v : Value} {l : List (Int × ByteArray)} (h : Gl B w v l) : Gl B w.drew v l := h
theorem Gl.more {B : Nat} {w : World} {v : Value} {l : List (Int × ByteArray)} {x : Int} {s : ByteArray} (h : w.ownsRow B 101 2 v (l.length + 1) (flat fE fA l ++ [.int .i64 x, .string s])) : Gl B w v (l ++ [(x, s)]) := by
 unfold Gl
 rw [List.length_append]
 exact Gn.more (E0 := fE) (E1 := fA) (x, s) h
theorem Gl.ext {B : Nat} {w : World} {v : Value} {l m : List (Int × ByteArray)} (h : Gl B w v l) (e : l = m) : Gl B w v m := e ▸ h
theorem Gl.own {B : Nat} {w : World} {v : Value} {l : List (Int × ByteArray)} (h : Gl B w v l) : w.ownsRow B 101 2 v l.length (flat fE fA l) := h
theorem Gl.blk {B : Nat} {w : World} {v : Value} {l : List (Int × ByteArray)} (h : Gl B w v l) : ∀ k, v.ownBlock = some k → B ≤ k := Gn.blk h
def ChkP (l : List (Int × ByteArray)) (w : World) (e : Ending) (w' : World) : Prop :=
  ∃ oa c, e = .returned (.slice oa l.length c) ∧ (Fs w' (.slice oa l.length c) l ∧ Gl w.heap.size w' (.slice oa l.length c) l ∧ (oa = none → c = 0)) ∧ Below w.heap.size w w'
theorem chkP {B : Nat} {l : List (Int × ByteArray)} {w w' : World} {v : Value} (h : Gl B w' v l) (hb : Below w.heap.size w w') (hB : w.heap.size ≤ B) : ChkP l w (.returned v) w' := by
 have hs : Fs w' v l := Gn.sl h
 have hg : Gl w.heap.size w' v l := Gn.mono h hB
 rcases h.2 with ⟨hv, h0⟩ | ⟨g, cap, cur, hv, _⟩
 ·subst hv
  have hn : l = [] := List.eq_nil_of_length_eq_zero h0
  subst hn
  exact ⟨none, 0, rfl, ⟨hs, hg, fun _ => rfl⟩, hb⟩
 ·subst hv
  exact ⟨_, _, rfl, ⟨hs, hg, fun h => (by cases h)⟩, hb⟩
theorem below_alloc (w : World) (o : Obj) : Below w.heap.size w (w.alloc o) := (Below.refl _ w).alloc (Nat.le_refl _) o
theorem Sl.grown {α : Type} {E0 E1 : α → Value} {d : α} {w w' : World} {oa : Option Addr} {c : Nat} {l : List α} {row : Option Nat} (h : Sl E0 E1 d w (.slice oa l.length c) l) (hg : w.grownBy w' row) (hne : ∀ b o, oa = some ⟨b, o, none⟩ → some b ≠ row) : Sl E0 E1 d w' (.slice oa l.length c) l := by
 obtain ⟨oa', c', hv, h⟩ := h
 simp only [Value.slice.injEq] at hv
 obtain ⟨rfl, -, rfl⟩ := hv
 refine ⟨oa, c, rfl, fun i hi => ?_⟩
 obtain ⟨b, o, ha, hl, h0, h1⟩ := h i hi
 exact ⟨b, o, ha, Nat.lt_of_lt_of_le hl hg.size, hg.cell (a := ⟨b, _, none⟩) h0 (hne b o ha), hg.cell (a := ⟨b, _, none⟩) h1 (hne b o ha)⟩
theorem fs_news {w : World} {ad : Addr} {c : Nat} {l : List (Int × ByteArray)} (h : Fs w (.slice (some ad) l.length c) l) : ∀ j u, (flat fE fA l)[j]? = some u → w.cell? (ad.add j) = some u := fun j u hj => by
 obtain ⟨oa, c', hv, h⟩ := h
 simp only [Value.slice.injEq] at hv
 obtain ⟨rfl, -, rfl⟩ := hv
 have hjl : j < (flat fE fA l).length := (List.getElem?_eq_some_iff.1 hj).1
 rw [flat_len] at hjl
 obtain ⟨b, o, ha, -, h0, h1⟩ := h (j / 2) (by omega)
 simp only [Option.some.injEq] at ha
 subst ha
 obtain ⟨f0, f1⟩ := flat_at (E0 := fE) (E1 := fA) (d := (0, ⟨#[]⟩)) l (j / 2) (by omega)
 have had : (⟨b, o, none⟩ : Addr).add j = ⟨b, o + j, none⟩ := by
  unfold Addr.add; split
  ·rename_i hz; rw [hz]; rfl
  ·rfl
 rw [had]
 rcases Nat.mod_two_eq_zero_or_one j with e | e
 ·rw [show j / 2 * 2 = j by omega] at h0 f0
  rw [f0] at hj
  rw [h0]; exact hj
 ·rw [show j / 2 * 2 + 1 = j by omega] at f1
  rw [show o + j / 2 * 2 + 1 = o + j by omega] at h1
  rw [f1] at hj
  rw [h1]; exact hj
theorem fs_nil {w : World} {c : Nat} {l : List (Int × ByteArray)} (h : Fs w (.slice none l.length c) l) : l = [] := by
 obtain ⟨oa, c', hv, h⟩ := h
 simp only [Value.slice.injEq] at hv
 obtain ⟨rfl, -, rfl⟩ := hv
 cases l with
 | nil => rfl
 | cons x l =>
  obtain ⟨b, o, ha, -⟩ := h 0 (by simp)
  cases ha
theorem flat_cells (l : List (Int × ByteArray)) : ∀ v ∈ flat fE fA l, v.oneCell' = true := by
 intro v hv
 unfold flat at hv
 rw [List.mem_flatMap] at hv
 obtain ⟨x, -, hx⟩ := hv
 simp only [List.mem_cons, List.not_mem_nil, or_false] at hx
 rcases hx with rfl | rfl <;> rfl
theorem Gl.onto {B : Nat} {w : World} {v : Value} {l m : List (Int × ByteArray)} (h : w.ownsRow B 101 2 v (l.length + m.length) (flat fE fA l ++ flat fE fA m)) : Gl B w v (l ++ m) := by
 unfold Gl Gf Gn
 rw [List.length_append]
 have : flat fE fA (l ++ m) = flat fE fA l ++ flat fE fA m := by unfold flat; rw [List.flatMap_append]
 rw [this]; exact h

theorem dec_size {k : Nat} (h : k ≤ 1000000000) : (dec k).size ≤ 20 := by
 have := dec_len 19 k (by omega)
 unfold dec
 show (Lib.decDigits k).toArray.size ≤ 20
 simpa using this
theorem quiet_eq {P : Program} {f : FuncId} {args : Array Value} {w : World} {n : Nat} {v : Value} (h : Calls P f args (w.drewN n) fun e w' => e = .returned v ∧ w.drewN n = w') :
  Calls P f args (w.drewN n) fun e w'' => e = .returned v ∧ ∃ m, w'' = w.drewN m := h.mono fun _ _ ⟨he, hm⟩ => ⟨he, n, hm.symm⟩
section
variable {P : Program} {w : World}
theorem wpList_append_run {ops : Array Oper} {rest : List Oper} {o : Oper} {a : Act} {Q : Exit → Act → World → Prop} (hgd : o.guard = none) (s x : Operand) (t : TypeId)
  (ho : o.op = .call { callee := .builtin .append, args := #[s, x], argTypes := #[t, t] }) {v u : Value} {R : Value → World → Prop} (hs : a.eval s = v) (hx : a.eval x = u)
  (hrun : ∃ v' w', (Builtin.append_ #[t, t] o.type #[v, u]).run P w = .ok v' w' ∧ R v' w')
  (h : ∀ v' w', R v' w' → wpList P ops Q rest (a.put o.dst v') w') : wpList P ops Q (o :: rest) a w := by
 refine wpList_plain hgd fun K hK => ?_
 obtain ⟨v', w', hr, h2⟩ := hrun
 unfold Oper.wp execOp
 simp only [ho, resolve, invoke, builtin, Sem.run_bind, Sem.run_pure, Result.andThen_ok, List.map_toArray, List.map_cons, List.map_nil, hs, hx, hr]
 exact hK _ _ (h v' w' h2)
theorem step_append_run {ops : Array Oper} {o : Oper} {a : Act} {K : Act → World → Prop} {Q : Exit → Act → World → Prop} {E : Prop} (hgd : o.guard = none) (s x : Operand) (t : TypeId)
  (ho : o.op = .call { callee := .builtin .append, args := #[s, x], argTypes := #[t, t] }) {v u : Value} {R : Value → World → Prop} (hs : a.eval s = v) (hx : a.eval x = u)
  (hrun : ∃ v' w', (Builtin.append_ #[t, t] o.type #[v, u]).run P w = .ok v' w' ∧ R v' w')
  (h : ∀ v' w', R v' w' → K (a.put o.dst v') w') : if Region.wanted o (yielded ops a.tmps) = true then Oper.wp P o a w K Q else E := by
 have hw : Region.wanted o (yielded ops a.tmps) = true := by simp [Region.wanted, hgd]
 rw [if_pos hw]
 obtain ⟨v', w', hr, h2⟩ := hrun
 unfold Oper.wp execOp
 simp only [ho, resolve, invoke, builtin, Sem.run_bind, Sem.run_pure, Result.andThen_ok, List.map_toArray, List.map_cons, List.map_nil, hs, hx, hr]
 exact h v' w' h2
end

theorem infoE0 : (Tryz.prog.info? 43).map (fun i => (i.zero, i.size, i.bytes)) = some (some (.int .i64 0), 1, 8) := by kernel_rfl
theorem infoE : ∃ i, Tryz.prog.info? 43 = some i ∧ i.zero = some (.int .i64 0) ∧ i.size = 1 ∧ i.bytes = 8 := by
 have h := infoE0
 obtain ⟨i, hi, hzz⟩ := Option.map_eq_some_iff.1 h
 simp only [Prod.mk.injEq] at hzz
 exact ⟨i, hi, hzz.1, hzz.2.1, hzz.2.2⟩
def Ge (B : Nat) (w : World) (v : Value) (l : List Int) : Prop := w.ownsRow B 43 1 v l.length (l.map L.vi)
theorem Ge.nil (B : Nat) (w : World) : Ge B w (.slice none 0 0) [] := World.ownsRow_nil w B _ _
theorem Ge.frame {B : Nat} {w w' : World} {v : Value} {l : List Int} (h : Ge B w v l) (hb : Below w.heap.size w w') : Ge B w' v l := by
 refine ⟨h.1, ?_⟩
 rcases h.2 with hn | ⟨g, cap, cur, e, hbg, hgg, rest⟩
 ·exact .inl hn
 ·refine .inr ⟨g, cap, cur, e, hbg, ?_, rest⟩
  rw [hb.block g (Array.getElem?_eq_some_iff.1 hgg).1]; exact hgg
theorem Ge.mono {B C : Nat} {w : World} {v : Value} {l : List Int} (h : Ge B w v l) (hle : C ≤ B) : Ge C w v l := World.ownsRow.mono h hle
theorem Ge.blk {B : Nat} {w : World} {v : Value} {l : List Int} (h : Ge B w v l) : ∀ k, v.ownBlock = some k → B ≤ k := fun k hk => (World.ownsRow.lt h k hk).1
theorem Ge.ext {B : Nat} {w : World} {v : Value} {l m : List Int} (h : Ge B w v l) (e : l = m) : Ge B w v m := e ▸ h
theorem Ge.li {B : Nat} {w : World} {v : Value} {l : List Int} (h : Ge B w v l) : L.Li w v l := by
 rcases h.2 with ⟨hn, h0⟩ | ⟨g, cap, cur, rfl, hbg, hgg, hnc, rest⟩
 ·have : l = [] := List.eq_nil_of_length_eq_zero h0
  subst this
  exact ⟨none, 0, hn, fun i hi => by cases hi⟩
 ·refine ⟨some ⟨g, 0, none⟩, cap, rfl, fun i hi => ⟨_, rfl, (Array.getElem?_eq_some_iff.1 hgg).1, ?_⟩⟩
  have := World.ownsRow.cellAt (g := g) (cap := cap) (n := l.length) (xs := l.map L.vi) (w := w) (base := B) (e := 43) (size := 1) ⟨h.1, .inr ⟨g, cap, cur, rfl, hbg, hgg, hnc, rest⟩⟩ i (by omega)
  show w.cell? (Addr.add ⟨g, 0, none⟩ i) = _
  rw [L.add_zero_off, this, List.getElem?_map, List.getD_eq_getElem?_getD, List.getElem?_eq_getElem hi]
  rfl
theorem vi_cells (m : List Int) : ∀ u ∈ m.map L.vi, u.oneCell' = true := by
 intro u hu
 obtain ⟨x, -, rfl⟩ := List.mem_map.1 hu
 rfl
def Le (w : World) (u : Value) (m : List Int) : Prop := ∃ oa c, u = .slice oa m.length c ∧ L.Li w (.slice oa m.length c) m ∧ (oa = none → c = 0)
theorem li_news {w : World} {ad : Addr} {c : Nat} {m : List Int} (h : L.Li w (.slice (some ad) m.length c) m) : ∀ j u, (m.map L.vi)[j]? = some u → w.cell? (ad.add j) = some u := fun j u hj => by
 obtain ⟨oa, c', hv, h⟩ := h
 simp only [Value.slice.injEq] at hv
 obtain ⟨rfl, -, rfl⟩ := hv
 rw [List.getElem?_map, Option.map_eq_some_iff] at hj
 obtain ⟨x, hx, rfl⟩ := hj
 obtain ⟨hjl, rfl⟩ := List.getElem?_eq_some_iff.1 hx
 obtain ⟨a, ha, -, hc⟩ := h j hjl
 obtain rfl : ad = a := by simpa using ha
 rw [hc, List.getD_eq_getElem?_getD, List.getElem?_eq_getElem hjl]
 rfl
theorem li_nil {w : World} {c : Nat} {m : List Int} (h : L.Li w (.slice none m.length c) m) : m = [] := by
 obtain ⟨oa, c', hv, h⟩ := h
 simp only [Value.slice.injEq] at hv
 obtain ⟨rfl, -, rfl⟩ := hv
 cases m with
 | nil => rfl
 | cons x l =>
  obtain ⟨a, ha, -⟩ := h 0 (by simp)
  cases ha
theorem Ge.le {B : Nat} {w : World} {v : Value} {l : List Int} (h : Ge B w v l) : Le w v l := by
 have hl := h.li
 rcases h.2 with ⟨hv, h0⟩ | ⟨g, cap, cur, hv, _⟩
 ·subst hv
  have hn : l = [] := List.eq_nil_of_length_eq_zero h0
  subst hn
  exact ⟨none, 0, rfl, hl, fun _ => rfl⟩
 ·subst hv
  exact ⟨_, _, rfl, hl, fun h => (by cases h)⟩
theorem Le.below {w w' : World} {v : Value} {l : List Int} (h : Le w v l) (hb : Below w.heap.size w w') : Le w' v l := by
 obtain ⟨oa, c, hv, hl, hn⟩ := h
 exact ⟨oa, c, hv, hl.below hb, hn⟩
theorem below_row {B : Nat} {w w' : World} {row : Option Nat} (hB : B ≤ w.heap.size) (hg : w.grownBy w' row) (hb : ∀ k, row = some k → B ≤ k) : Below B w w' := (Below.refl B w).grown hg hB hb
theorem ap_e {B : Nat} {w : World} {v u : Value} {l m : List Int} (ty : TypeId) (hv : Ge B w v l) (hu : Le w u m) (hB : B ≤ w.heap.size) (hn : l.length + m.length ≤ 10000000) :
  ∃ v' w', (Builtin.append_ #[104, 104] ty #[v, u]).run Tryz.prog w = .ok v' w' ∧ (Ge B w' v' (l ++ m) ∧ Below B w w') := by
 obtain ⟨i0, hi, hz0, hz1, hz2⟩ := infoE
 obtain ⟨oa, c, rfl, hl, hc⟩ := hu
 cases oa with
 | none =>
  have hm := li_nil hl
  subst hm
  have h0 := hc rfl
  subst h0
  exact ⟨v, w, run_append_owned_none w B _ ty _ i0 1 Tryz.underlying104 hi v _ _ hv, by rw [List.append_nil]; exact hv, Below.refl _ _⟩
 | some ad =>
  obtain ⟨v', w', hr, h2, h3, -, -⟩ := run_append_own_at (P := Tryz.prog) w B 104 ty 43 i0 (.int .i64 0) 1 8 Tryz.underlying104 hi hz0 hz1 hz2 rfl (by decide) v l.length (l.map L.vi) hv ad m.length c (m.map L.vi) (by rw [List.length_map, Nat.mul_one]) (li_news hl) (vi_cells m) (by unfold maxLen; omega) (by omega) hB
  refine ⟨v', w', hr, ?_, below_row hB h3 hv.blk⟩
  unfold Ge
  rw [List.length_append, List.map_append]
  exact h2
theorem le_one (w : World) (x : Int) : Le (w.alloc (.cells #[.int .i64 x] 43)) (.slice (some ⟨w.heap.size, 0, none⟩) 1 1) [x] := by
 refine ⟨some ⟨w.heap.size, 0, none⟩, 1, rfl, ⟨some ⟨w.heap.size, 0, none⟩, 1, rfl, fun i hi => ⟨_, rfl, by simp, ?_⟩⟩, fun h => by cases h⟩
 match i, hi with
 | 0, _ => simp [Addr.add]
theorem ap_e1 {B : Nat} {w : World} {v : Value} {l : List Int} (ty : TypeId) (x : Int) (hv : Ge B w v l) (hB : B ≤ w.heap.size) (hn : l.length ≤ 9000000) :
  ∃ v' w', (Builtin.append_ #[104, 104] ty #[v, .slice (some ⟨w.heap.size, 0, none⟩) 1 1]).run Tryz.prog (w.alloc (.cells #[.int .i64 x] 43)) = .ok v' w' ∧ (Ge B w' v' (l ++ [x]) ∧ Below B w w') := by
 obtain ⟨v', w', hr, h2, h3⟩ := ap_e (w := w.alloc (.cells #[.int .i64 x] 43)) (m := [x]) ty (hv.frame (below_alloc _ _)) (le_one w x) (by simp; omega) (by simp; omega)
 exact ⟨v', w', hr, h2, ((below_alloc w _).mono hB).trans h3⟩
def Lf (w : World) (u : Value) (m : List (Int × ByteArray)) : Prop := ∃ oa c, u = .slice oa m.length c ∧ Fs w (.slice oa m.length c) m ∧ (oa = none → c = 0)
theorem Lf.of_chk {l : List (Int × ByteArray)} {w w' : World} {e : Ending} (h : ChkP l w e w') : ∃ v, e = .returned v ∧ Lf w' v l ∧ Gl w.heap.size w' v l ∧ Below w.heap.size w w' := by
 obtain ⟨oa, c, he, ⟨hf, hg, hn⟩, hb⟩ := h
 exact ⟨_, he, ⟨oa, c, rfl, hf, hn⟩, hg, hb⟩
theorem ap_f {B : Nat} {w : World} {v u : Value} {l m : List (Int × ByteArray)} (ty : TypeId) (hv : Gl B w v l) (hu : Lf w u m) (hB : B ≤ w.heap.size) (hn : l.length + m.length ≤ 100000000) :
  ∃ v' w', (Builtin.append_ #[51, 51] ty #[v, u]).run Tryz.prog w = .ok v' w' ∧ (Gl B w' v' (l ++ m) ∧ Below B w w' ∧ w.grownBy w' v.ownBlock ∧ (v'.ownBlock = v.ownBlock ∨ v'.ownBlock = some w.heap.size)) := by
 obtain ⟨i0, hi, hz0, hz1, hz2⟩ := infoF
 obtain ⟨oa, c, rfl, hl, hc⟩ := hu
 cases oa with
 | none =>
  have hm := fs_nil hl
  subst hm
  have h0 := hc rfl
  subst h0
  exact ⟨v, w, run_append_owned_none w B _ ty _ i0 2 Tryz.underlying51 hi v _ _ hv.own, by rw [List.append_nil]; exact hv, Below.refl _ _, World.grownBy.refl _ _, .inl rfl⟩
 | some ad =>
  obtain ⟨v', w', hr, h2, h3, -, h5⟩ := run_append_own_at (P := Tryz.prog) w B 51 ty 101 i0 (.agg #[.int .i64 0, .string ⟨#[]⟩]) 2 24 Tryz.underlying51 hi hz0 hz1 hz2 rfl (by decide) v l.length (flat fE fA l) hv.own ad m.length c (flat fE fA m) (flat_len (E0 := fE) (E1 := fA) m) (fs_news hl) (flat_cells m) (by unfold maxLen; omega) (by omega) hB
  exact ⟨v', w', hr, Gl.onto h2, below_row hB h3 hv.blk, h3, h5⟩
theorem lf_one (w : World) (x : Int) (s : ByteArray) : Lf (w.alloc (.cells #[.int .i64 x, .string s] 101)) (.slice (some ⟨w.heap.size, 0, none⟩) 1 1) [(x, s)] := by
 refine ⟨some ⟨w.heap.size, 0, none⟩, 1, rfl, ⟨some ⟨w.heap.size, 0, none⟩, 1, rfl, fun i hi => ⟨w.heap.size, 0, rfl, by simp, ?_⟩⟩, fun h => by cases h⟩
 match i, hi with
 | 0, _ => exact ⟨by simp [fE], by simp [fA]⟩
theorem ap_f1 {B : Nat} {w : World} {v : Value} {l : List (Int × ByteArray)} (ty : TypeId) (x : Int) (s : ByteArray) (hv : Gl B w v l) (hB : B ≤ w.heap.size) (hn : l.length ≤ 90000000) :
  ∃ v' w', (Builtin.append_ #[51, 51] ty #[v, .slice (some ⟨w.heap.size, 0, none⟩) 1 1]).run Tryz.prog (w.alloc (.cells #[.int .i64 x, .string s] 101)) = .ok v' w' ∧ (Gl B w' v' (l ++ [(x, s)]) ∧ Below B w w') := by
 obtain ⟨v', w', hr, h2, h3, -, -⟩ := ap_f (w := w.alloc (.cells #[.int .i64 x, .string s] 101)) (m := [(x, s)]) ty (hv.frame (below_alloc _ _)) (lf_one w x s) (by simp; omega) (by simp; omega)
 exact ⟨v', w', hr, h2, ((below_alloc w _).mono hB).trans h3⟩

end Go.Proofs.YtomebalolmabnaaGreatDoor.T




/-! Maps of texts that a call makes itself (out of layer 9's text: tools/mkflload.py). -/
namespace Go.Proofs.YtomebalolmabnaaGreatDoor.T
open Go.RowKit
set_option maxRecDepth 8000

def sk (s : ByteArray) : Lit := .string s.data.toList
end Go.Proofs.YtomebalolmabnaaGreatDoor.T




/-! The walk of lorryref13.under: faults with a word before their paths. -/
namespace Go.Proofs.YtomebalolmabnaaGreatDoor.T
open Go.RowKit
set_option maxRecDepth 8000

def undS (word s : ByteArray) : ByteArray := if s.toList.isEmpty then word else word ++ ⟨#[32]⟩ ++ s
def undF (word : ByteArray) (l : List (Int × ByteArray)) : List (Int × ByteArray) := l.map fun x => (x.1, undS word x.2)
theorem und_step {word : ByteArray} {l : List (Int × ByteArray)} {k : Nat} (h : k < l.length) : undF word (l.take (k + 1)) = undF word (l.take k) ++ [((l.getD k (0, ⟨#[]⟩)).1, undS word (l.getD k (0, ⟨#[]⟩)).2)] := by
 unfold undF
 rw [take_more (d := (0, ⟨#[]⟩)) h, List.map_append]
 rfl
set_option maxHeartbeats 3200000 in
theorem under13_n (word : ByteArray) (hw : word.size ≤ 1000000) (u : Value) (l : List (Int × ByteArray)) (hl : l.length ≤ 80000000) (hs : ∀ i, i < l.length → (l.getD i (0, ⟨#[]⟩)).2.size ≤ 1000000) (w : World) (hu : Fs w u l) :
  Calls Tryz.prog 24 #[.string word, u] w (ChkP (undF word l) w) := by
 obtain ⟨ou, cu, rfl, ha⟩ := hu
 have HA := Lib.hid ha
 have HS := Lib.hid (fun k (hk : k < l.length) => und_step (word := word) hk)
 have HZ := Lib.hid (fun k (hk : k < l.length) => hs k hk)
 have HL : Hid (∀ k, k ≤ l.length → (undF word (l.take k)).length = k) := fun k hk => by unfold undF; rw [List.length_map, List.length_take]; omega
 have HE : Hid (undF word (l.take l.length) = undF word l) := by show _ = _; rw [List.take_length]
 have H0 : Hid (undF word (l.take 0) = []) := rfl
 generalize undF word l = r at *
 obtain ⟨U, hU⟩ : ∃ U : Nat → List (Int × ByteArray), ∀ k, undF word (l.take k) = U k := ⟨fun k => undF word (l.take k), fun _ => rfl⟩
 simp only [hU] at HS HL HE H0
 obtain ⟨g, hg0⟩ : ∃ g : Nat → Int × ByteArray, ∀ k, l.getD k (0, ⟨#[]⟩) = g k := ⟨fun k => l.getD k (0, ⟨#[]⟩), fun _ => rfl⟩
 simp only [hg0] at HA HS HZ
 generalize hn : l.length = n at *
 clear ha hs hU hg0 hn
 go_enter Tryz.func24, Tryz.ntmps24
 go_wp2_with fail
 go_loopg [5, 6] n (fun gg v j wr => ∃ k : Nat, k ≤ n ∧ j = .int .i64 k ∧ n - k ≤ gg ∧ Hid (Gl w.heap.size wr v (U k)) ∧ Hid (Below w.heap.size w wr))
 case atStart => exact ⟨0, Nat.zero_le _, rfl, Nat.le_refl _, (Gl.nil _ _).ext H0.out.symm, Below.refl _ _⟩
 case round =>
  obtain ⟨k, hkn, rfl, hgg, HG, HB⟩ := hrel
  by_cases hlt : k < n
  ·obtain ⟨b, o, rfl, hab, h0, h1⟩ := HA.out k hlt
   have y0 := (HB.out.cell (p := ⟨b, _, none⟩) hab).trans h0
   have y1 := (HB.out.cell (p := ⟨b, _, none⟩) hab).trans h1
   have hkI : (k : Int) < (n : Int) := by omega
   have HSk := Lib.hid (HS.out k hlt)
   have hz := HZ.out k hlt
   have hlk := HL.out k hkn
   have hsz := HB.out.size
   unfold fE at y0
   unfold fA at y1
   clear h0 h1
   generalize g k = p at y0 y1 HSk hz
   obtain ⟨x, s⟩ := p
   try simp only at y0 y1 HSk hz
   have hws : (word ++ (⟨#[32]⟩ : ByteArray)).size = word.size + 1 := by rw [ByteArray.size_append]; rfl
   have hwt : (word ++ (⟨#[32]⟩ : ByteArray) ++ s).size = word.size + 1 + s.size := by rw [ByteArray.size_append, hws]
   cases hx : s.toList.isEmpty
   ·have HX : Hid (U (k + 1) = U k ++ [(x, word ++ ⟨#[32]⟩ ++ s)]) := by show _ = _; rw [HSk.out]; unfold undS; rw [hx]; rfl
    clear HSk
    go_wp2_with (at_builtin; refine wpList_append_run rfl _ _ 51 rfl rfl rfl (ap_f1 _ x (word ++ ⟨#[32]⟩ ++ s) HG.out hsz (by omega)) ?_)
    intro v3 w3 hg3 hb3
    have HG3 : Hid (Gl w.heap.size w3 v3 (U (k + 1))) := by show Gl _ _ _ _; rw [HX.out]; exact hg3
    have HB3 := Lib.hid (HB.out.trans hb3)
    clear hg3 hb3
    go_wp2_with fail
    go_roundg (n - (k + 1))
    case measure => omega
    case rel => exact ⟨k + 1, by omega, by go_num, by omega, HG3, HB3⟩
   ·have HX : Hid (U (k + 1) = U k ++ [(x, word)]) := by show _ = _; rw [HSk.out]; unfold undS; rw [hx]; rfl
    clear HSk
    go_wp2_with (at_builtin; refine wpList_append_run rfl _ _ 51 rfl rfl rfl (ap_f1 _ x word HG.out hsz (by omega)) ?_)
    intro v3 w3 hg3 hb3
    have HG3 : Hid (Gl w.heap.size w3 v3 (U (k + 1))) := by show Gl _ _ _ _; rw [HX.out]; exact hg3
    have HB3 := Lib.hid (HB.out.trans hb3)
    clear hg3 hb3
    go_wp2_with fail
    go_roundg (n - (k + 1))
    case measure => omega
    case rel => exact ⟨k + 1, by omega, by go_num, by omega, HG3, HB3⟩
  ·have hk' : k = n := by omega
   subst hk'
   have HR := Lib.hid HE.out
   go_wp2_with fail
   go_ret
   exact chkP (HR.out ▸ HG.out) HB.out (Nat.le_refl _)

end Go.Proofs.YtomebalolmabnaaGreatDoor.T




