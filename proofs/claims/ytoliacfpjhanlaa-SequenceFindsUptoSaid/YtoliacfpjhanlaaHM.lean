/-
  DERIVED. HM: a part of the base of layer 13 (made by pack.py).
-/
import Derived.Maps.OwnSet
import Derived.DeepKeys4
import Derived.Test.YtoliacfpjhanlaaHB
import Derived.Test.YtoliacfpjhanlaaHD
import Derived.Test.YtoliacfpjhanlaaHL
import Derived.Shelf.Abstract
import Derived.Test.YtoliacfpjhanlaaNetOwn
import Derived.BigRegion
import Derived.Laws.BitsLemmas
import Derived.Laws.Bits64b
import Derived.Laws.Bits128
import Derived.RangeFuncBox
import Derived.RangeFuncNested
import Derived.RangeFuncBound
import Derived.RangeFuncCalls
import Derived.RangeFuncLeaves
import Derived.Shelf.RegionOpen
import Derived.OwnWalkIn
import Derived.TacticsInMore
import Derived.LoopNIn
import Derived.LoopIn
import Derived.Lib.SliceRun
import Derived.ProofKit
import Derived.LaidMore
import Derived.ChangeSlices
import Derived.SliceStrings
import Derived.Carry
import Derived.OpenShut
import Derived.Deep.SlicePairs
import Derived.Deep.Slices
import Derived.Deep.Fields
import Derived.Lib.SmallJoins
import Derived.Test.YtoliacfpjhanlaaHA
import Derived.Lib.LaidTab
/-! Own lists of visits and of slices of int, appended to (out of layer 10's text: tools/mkordbase.py). -/
namespace Go.Proofs.Ytoliacfpjhanlaa.T
open Go.RowKit
set_option maxRecDepth 8000

def vE (f : Int × Bool) : Value := .int .i64 f.1
def vA (f : Int × Bool) : Value := .bool f.2
def Vs (w : World) (v : Value) (l : List (Int × Bool)) : Prop := Sl vE vA (0, false) w v l
def Gv (B : Nat) (w : World) (v : Value) (n : Nat) (l : List (Int × Bool)) : Prop := Gn 52 vE vA B w v n l
theorem infoW0 : (Try.prog.info? 52).map (fun i => (i.zero, i.size, i.bytes)) = some (some (.agg #[.int .i64 0, .bool false]), 2, 16) := by kernel_rfl
theorem infoW : ∃ i, Try.prog.info? 52 = some i ∧ i.zero = some (.agg #[.int .i64 0, .bool false]) ∧ i.size = 2 ∧ i.bytes = 16 := by
  have h := infoW0
  obtain ⟨i, hi, hzz⟩ := Option.map_eq_some_iff.1 h
  simp only [Prod.mk.injEq] at hzz
  exact ⟨i, hi, hzz.1, hzz.2.1, hzz.2.2⟩

/-- the call's own slice of faults -/
def Gw (B : Nat) (w : World) (v : Value) (l : List (Int × Bool)) : Prop := Gv B w v l.length l
theorem Gw.nil (B : Nat) (w : World) : Gw B w (.slice none 0 0) [] := Gn.nil _ _ _ _ _
theorem Gw.frame {B : Nat} {w w' : World} {v : Value} {l : List (Int × Bool)} (h : Gw B w v l) (hb : Below w.heap.size w w') : Gw B w' v l := Gn.frame h hb
theorem Gw.drew {B : Nat} {w : World} {v : Value} {l : List (Int × Bool)} (h : Gw B w v l) : Gw B w.drew v l := h
theorem Gw.more {B : Nat} {w : World} {v : Value} {l : List (Int × Bool)} {x : Int} {s : Bool} (h : w.ownsRow B 52 2 v (l.length + 1) (flat vE vA l ++ [.int .i64 x, .bool s])) : Gw B w v (l ++ [(x, s)]) := by
  unfold Gw
  rw [List.length_append]
  exact Gn.more (E0 := vE) (E1 := vA) (x, s) h
theorem Gw.ext {B : Nat} {w : World} {v : Value} {l m : List (Int × Bool)} (h : Gw B w v l) (e : l = m) : Gw B w v m := e ▸ h
theorem Gw.own {B : Nat} {w : World} {v : Value} {l : List (Int × Bool)} (h : Gw B w v l) : w.ownsRow B 52 2 v l.length (flat vE vA l) := h
theorem Gw.blk {B : Nat} {w : World} {v : Value} {l : List (Int × Bool)} (h : Gw B w v l) : ∀ k, v.ownBlock = some k → B ≤ k := Gn.blk h
/-- a result: a list of faults -/
def VisP (l : List (Int × Bool)) (w : World) (e : Ending) (w' : World) : Prop :=
  ∃ oa c, e = .returned (.slice oa l.length c) ∧ (Vs w' (.slice oa l.length c) l ∧ Gw w.heap.size w' (.slice oa l.length c) l ∧ (oa = none → c = 0)) ∧ Below w.heap.size w w'
theorem visP {B : Nat} {l : List (Int × Bool)} {w w' : World} {v : Value} (h : Gw B w' v l) (hb : Below w.heap.size w w') (hB : w.heap.size ≤ B) : VisP l w (.returned v) w' := by
  have hs : Vs w' v l := Gn.sl h
  have hg : Gw w.heap.size w' v l := Gn.mono h hB
  rcases h.2 with ⟨hv, h0⟩ | ⟨g, cap, cur, hv, _⟩
  · subst hv
    have hn : l = [] := List.eq_nil_of_length_eq_zero h0
    subst hn
    exact ⟨none, 0, rfl, ⟨hs, hg, fun _ => rfl⟩, hb⟩
  · subst hv
    exact ⟨_, _, rfl, ⟨hs, hg, fun h => (by cases h)⟩, hb⟩
theorem vs_news {w : World} {ad : Addr} {c : Nat} {l : List (Int × Bool)} (h : Vs w (.slice (some ad) l.length c) l) : ∀ j u, (flat vE vA l)[j]? = some u → w.cell? (ad.add j) = some u := fun j u hj => by
  obtain ⟨oa, c', hv, h⟩ := h
  simp only [Value.slice.injEq] at hv
  obtain ⟨rfl, -, rfl⟩ := hv
  have hjl : j < (flat vE vA l).length := (List.getElem?_eq_some_iff.1 hj).1
  rw [flat_len] at hjl
  obtain ⟨b, o, ha, -, h0, h1⟩ := h (j / 2) (by omega)
  simp only [Option.some.injEq] at ha
  subst ha
  obtain ⟨f0, f1⟩ := flat_at (E0 := vE) (E1 := vA) (d := (0, false)) l (j / 2) (by omega)
  have had : (⟨b, o, none⟩ : Addr).add j = ⟨b, o + j, none⟩ := by
    unfold Addr.add; split
    · rename_i hz; rw [hz]; rfl
    · rfl
  rw [had]
  rcases Nat.mod_two_eq_zero_or_one j with e | e
  · rw [show j / 2 * 2 = j by omega] at h0 f0
    rw [f0] at hj
    rw [h0]; exact hj
  · rw [show j / 2 * 2 + 1 = j by omega] at f1
    rw [show o + j / 2 * 2 + 1 = o + j by omega] at h1
    rw [f1] at hj
    rw [h1]; exact hj
theorem vs_nil {w : World} {c : Nat} {l : List (Int × Bool)} (h : Vs w (.slice none l.length c) l) : l = [] := by
  obtain ⟨oa, c', hv, h⟩ := h
  simp only [Value.slice.injEq] at hv
  obtain ⟨rfl, -, rfl⟩ := hv
  cases l with
  | nil => rfl
  | cons x l =>
    obtain ⟨b, o, ha, -⟩ := h 0 (by simp)
    cases ha
theorem flatw_cells (l : List (Int × Bool)) : ∀ v ∈ flat vE vA l, v.oneCell' = true := by
  intro v hv
  unfold flat at hv
  rw [List.mem_flatMap] at hv
  obtain ⟨x, -, hx⟩ := hv
  simp only [List.mem_cons, List.not_mem_nil, or_false] at hx
  rcases hx with rfl | rfl <;> rfl
theorem Gw.onto {B : Nat} {w : World} {v : Value} {l m : List (Int × Bool)} (h : w.ownsRow B 52 2 v (l.length + m.length) (flat vE vA l ++ flat vE vA m)) : Gw B w v (l ++ m) := by
  unfold Gw Gv Gn
  rw [List.length_append]
  have : flat vE vA (l ++ m) = flat vE vA l ++ flat vE vA m := by unfold flat; rw [List.flatMap_append]
  rw [this]; exact h

/-- a slice of faults that is read, and is nil where it has no array -/
def Lw (w : World) (u : Value) (m : List (Int × Bool)) : Prop := ∃ oa c, u = .slice oa m.length c ∧ Vs w (.slice oa m.length c) m ∧ (oa = none → c = 0)
theorem ap_w {B : Nat} {w : World} {v u : Value} {l m : List (Int × Bool)} (ty : TypeId) (hv : Gw B w v l) (hu : Lw w u m) (hB : B ≤ w.heap.size) (hn : l.length + m.length ≤ 100000000) :
    ∃ v' w', (Builtin.append_ #[32, 32] ty #[v, u]).run Try.prog w = .ok v' w' ∧ (Gw B w' v' (l ++ m) ∧ Below B w w' ∧ w.grownBy w' v.ownBlock ∧ (v'.ownBlock = v.ownBlock ∨ v'.ownBlock = some w.heap.size)) := by
  obtain ⟨i0, hi, hz0, hz1, hz2⟩ := infoW
  obtain ⟨oa, c, rfl, hl, hc⟩ := hu
  cases oa with
  | none =>
    have hm := vs_nil hl
    subst hm
    have h0 := hc rfl
    subst h0
    exact ⟨v, w, run_append_owned_none w B _ ty _ i0 2 Try.underlying32 hi v _ _ hv.own, by rw [List.append_nil]; exact hv, Below.refl _ _, World.grownBy.refl _ _, .inl rfl⟩
  | some ad =>
    obtain ⟨v', w', hr, h2, h3, -, h5⟩ := run_append_own_at (P := Try.prog) w B 32 ty 52 i0 (.agg #[.int .i64 0, .bool false]) 2 16 Try.underlying32 hi hz0 hz1 hz2 rfl (by decide) v l.length (flat vE vA l) hv.own ad m.length c (flat vE vA m) (flat_len (E0 := vE) (E1 := vA) m) (vs_news hl) (flatw_cells m) (by unfold maxLen; omega) (by omega) hB
    exact ⟨v', w', hr, Gw.onto h2, below_row hB h3 hv.blk, h3, h5⟩
theorem lw_one (w : World) (x : Int) (s : Bool) : Lw (w.alloc (.cells #[.int .i64 x, .bool s] 52)) (.slice (some ⟨w.heap.size, 0, none⟩) 1 1) [(x, s)] := by
  refine ⟨some ⟨w.heap.size, 0, none⟩, 1, rfl, ⟨some ⟨w.heap.size, 0, none⟩, 1, rfl, fun i hi => ⟨w.heap.size, 0, rfl, by simp, ?_⟩⟩, fun h => by cases h⟩
  match i, hi with
  | 0, _ => exact ⟨by simp [vE], by simp [vA]⟩
theorem ap_w1 {B : Nat} {w : World} {v : Value} {l : List (Int × Bool)} (ty : TypeId) (x : Int) (s : Bool) (hv : Gw B w v l) (hB : B ≤ w.heap.size) (hn : l.length ≤ 90000000) :
    ∃ v' w', (Builtin.append_ #[32, 32] ty #[v, .slice (some ⟨w.heap.size, 0, none⟩) 1 1]).run Try.prog (w.alloc (.cells #[.int .i64 x, .bool s] 52)) = .ok v' w' ∧ (Gw B w' v' (l ++ [(x, s)]) ∧ Below B w w') := by
  obtain ⟨v', w', hr, h2, h3, -, -⟩ := ap_w (w := w.alloc (.cells #[.int .i64 x, .bool s] 52)) (m := [(x, s)]) ty (hv.frame (below_alloc _ _)) (lw_one w x s) (by simp; omega) (by simp; omega)
  exact ⟨v', w', hr, h2, ((below_alloc w _).mono hB).trans h3⟩


/-! ### own slices of slices of int -/
end Go.Proofs.Ytoliacfpjhanlaa.T



/-! The walks of the specification's in, Visits and Stop. -/
namespace Go.Proofs.Ytoliacfpjhanlaa.T
open Go.RowKit
set_option maxRecDepth 8000

theorem in_n_O (x lo hi : Int) (w : World) : Calls Try.prog 93 #[.int .i64 x, .int .i64 lo, .int .i64 hi] w fun e w' => e = .returned (.bool (rgB lo hi x)) ∧ w = w' := by
  by_cases h1 : lo ≤ x
  · have HR : Hid (decide (x ≤ hi) = rgB lo hi x) := by show _ = _; unfold rgB; rw [decide_eq_true h1, Bool.true_and]
    generalize rgB lo hi x = r at *
    go_enter Try.func93, Try.ntmps93
    go_wp2_with fail
    go_ret
    exact ⟨ret_bool HR.out, rfl⟩
  · have HR : Hid (false = rgB lo hi x) := by show _ = _; unfold rgB; rw [decide_eq_false h1, Bool.false_and]
    have h2 : x < lo := by omega
    generalize rgB lo hi x = r at *
    go_enter Try.func93, Try.ntmps93
    go_wp2_with fail
    go_ret
    exact ⟨ret_bool HR.out, rfl⟩
end Go.Proofs.Ytoliacfpjhanlaa.T



/-! Slices of orders, an order and a visit by value, as arguments (written by gen_ordargs.py). -/
namespace Go.Proofs.Ytoliacfpjhanlaa.T
open Go.Joins Go.ChangeShapes Go.WideShapes Go.ChangeAt Go.RowKit Go.Deep
set_option maxRecDepth 8000

section
variable {H : Type} {enc : TypeId × Value → H}
theorem stop_of {W : World} {base : Nat} {cs : List Value} {x : DataW H × List MemPlace} {n : Nat} (hlen : cs.length = 4)
    (hf : DataW.trod enc Try.prog W base (fun _ => true) true n 66 cs = some x) : ∃ p o c s : Int, cs = [.int .i64 p, .int .i64 o, .int .i64 c, .int .i64 s] := by
  have he : Try.prog.underlying 66 = some (.struct #[_, _, _, _]) := Try.underlying66
  obtain ⟨xs, n', _, hx, _, hxl, hg⟩ := DataW.trod_struct he hf
  match cs, hlen with
  | [v0, v1, v2, v3], _ =>
    match xs, hxl with
    | [y0, y1, y2, y3], _ =>
      have k0 := hg 0 _ rfl
      have k1 := hg 1 _ rfl
      have k2 := hg 2 _ rfl
      have k3 := hg 3 _ rfl
      have o1 : Try.prog.cellsOf 3 = 1 := by kernel_rfl
      simp [o1] at k0 k1 k2 k3
      obtain ⟨q0, e0, _, _⟩ := DataW.trod_int Try.underlying3 k0
      obtain ⟨q1, e1, _, _⟩ := DataW.trod_int Try.underlying3 k1
      obtain ⟨q2, e2, _, _⟩ := DataW.trod_int Try.underlying3 k2
      obtain ⟨q3, e3, _, _⟩ := DataW.trod_int Try.underlying3 k3
      simp only [List.cons.injEq, and_true] at e0 e1 e2 e3
      subst e0 e1 e2 e3
      exact ⟨_, _, _, _, rfl⟩
theorem order_of {W : World} {base : Nat} {cs : List Value} {x : DataW H × List MemPlace} {n : Nat} (hlen : cs.length = 16)
    (hf : DataW.trod enc Try.prog W base (fun _ => true) true n 68 cs = some x) (hlt : ∀ p ∈ x.2, p.block < W.heap.size) :
    ∃ (q : OrT) (oa : Option Addr) (c : Nat), cs = [.string q.name, .slice oa q.load.length c, .int .i64 q.pp, .int .i64 q.po, .int .i64 q.pc, .int .i64 q.ps, .int .i64 q.dp, .int .i64 q.dd, .int .i64 q.dc, .int .i64 q.ds, .int .i64 q.sk, .int .i64 q.pen, .int .i64 q.spl, .int .i64 q.las, .int .i64 q.now, .bool q.off] ∧
      L.Li W (.slice oa q.load.length c) q.load ∧ q.load.length ≤ 9223372036854775807 ∧ q.name.size ≤ 9223372036854775807 := by
  have he : Try.prog.underlying 68 = some (.struct #[_, _, _, _, _, _, _, _, _, _]) := Try.underlying68
  obtain ⟨xs, n', _, hx, _, hxl, hg⟩ := DataW.trod_struct he hf
  match cs, hlen with
  | [v0, v1, v2, v3, v4, v5, v6, v7, v8, v9, v10, v11, v12, v13, v14, v15], _ =>
    match xs, hxl with
    | [y0, y1, y2, y3, y4, y5, y6, y7, y8, y9], _ =>
      have k0 := hg 0 _ rfl
      have k1 := hg 1 _ rfl
      have k2 := hg 2 _ rfl
      have k3 := hg 3 _ rfl
      have k4 := hg 4 _ rfl
      have k5 := hg 5 _ rfl
      have k6 := hg 6 _ rfl
      have k7 := hg 7 _ rfl
      have k8 := hg 8 _ rfl
      have k9 := hg 9 _ rfl
      have o1 : Try.prog.cellsOf 3 = 1 := by kernel_rfl
      have o2 : Try.prog.cellsOf 64 = 1 := by kernel_rfl
      have o3 : Try.prog.cellsOf 9 = 1 := by kernel_rfl
      have o4 : Try.prog.cellsOf 66 = 4 := by kernel_rfl
      have o5 : Try.prog.cellsOf 4 = 1 := by kernel_rfl
      simp [o1, o2, o3, o4, o5] at k0 k1 k2 k3 k4 k5 k6 k7 k8 k9
      obtain ⟨s0, e0, z0⟩ : ∃ s : ByteArray, v0 = .string s ∧ s.size ≤ maxLen := by
        obtain ⟨s, e0, _, hs⟩ := DataW.trod_string Try.underlying9 k0
        simp only [List.cons.injEq, and_true] at e0
        exact ⟨s, e0, hs⟩
      obtain ⟨p0, p1, p2, p3, e2⟩ := stop_of rfl k2
      obtain ⟨r0, r1, r2, r3, e3⟩ := stop_of rfl k3
      obtain ⟨q4, e4, _, _⟩ := DataW.trod_int Try.underlying3 k4
      obtain ⟨q5, e5, _, _⟩ := DataW.trod_int Try.underlying3 k5
      obtain ⟨q6, e6, _, _⟩ := DataW.trod_int Try.underlying3 k6
      obtain ⟨q7, e7, _, _⟩ := DataW.trod_int Try.underlying3 k7
      obtain ⟨q8, e8, _, _⟩ := DataW.trod_int Try.underlying3 k8
      obtain ⟨q9, e9, _⟩ := DataW.trod_bool Try.underlying4 k9
      simp only [List.cons.injEq, and_true] at e2 e3 e4 e5 e6 e7 e8 e9
      obtain ⟨e20, e21, e22, e23⟩ := e2
      obtain ⟨e30, e31, e32, e33⟩ := e3
      subst e0 e20 e21 e22 e23 e30 e31 e32 e33 e4 e5 e6 e7 e8 e9
      subst hx
      obtain ⟨oa, c, l, rfl, hl, hl9⟩ := ints_of k1 (fun p hp => hlt p (by simp; exact .inr (.inl hp)))
      exact ⟨⟨s0, l, p0, p1, p2, p3, r0, r1, r2, r3, q4, q5, q6, q7, q8, q9⟩, oa, c, rfl, hl, hl9, by unfold maxLen at z0; exact z0⟩
end

end Go.Proofs.Ytoliacfpjhanlaa.T



/-! The walks of order: exists, Visits, Stop. -/
namespace Go.Proofs.Ytoliacfpjhanlaa.T
open Go.RowKit
set_option maxRecDepth 8000

theorem exists_n (oa : Option Addr) (c : Nat) (l : List OrT) (i : Int) (w : World) : Calls Try.prog 82 #[.slice oa l.length c, .int .i64 i] w fun e w' => e = .returned (.bool (inR l i)) ∧ w = w' := by
  by_cases h1 : 0 ≤ i
  · have HR : Hid (decide (i < (l.length : Int)) = inR l i) := by show _ = _; unfold inR; rw [decide_eq_true h1, Bool.true_and]
    generalize inR l i = r at *
    generalize l.length = n at *
    go_enter Try.func82, Try.ntmps82
    go_wp2_with fail
    go_ret
    exact ⟨ret_bool HR.out, rfl⟩
  · have HR : Hid (false = inR l i) := by show _ = _; unfold inR; rw [decide_eq_false h1, Bool.false_and]
    have h2 : i < 0 := by omega
    generalize inR l i = r at *
    generalize l.length = n at *
    go_enter Try.func82, Try.ntmps82
    go_wp2_with fail
    go_ret
    exact ⟨ret_bool HR.out, rfl⟩

set_option maxHeartbeats 3200000 in
theorem ordVisits_n (v : Value) (l : List OrT) (i : Int) (w : World) (hv : Os w v l) :
    Calls Try.prog 62 #[v, .int .i64 i] w (VisP (visL l i) w) := by
  obtain ⟨oa, c, rfl, ha⟩ := hv
  have KI := Lib.hid (fun w => exists_n oa c l i w)
  cases hr : inR l i
  · have HR : Hid (visL l i = []) := by show _ = _; unfold visL; rw [hr]; rfl
    rw [hr] at KI
    generalize visL l i = r at *
    generalize l.length = n at *
    clear hr ha
    go_enter Try.func62, Try.ntmps62
    go_wp2_with fail
    refine (KI.out _).mono ?_
    rintro e w1 ⟨rfl, rfl⟩
    go_wp2_with fail
    go_ret
    exact visP (HR.out ▸ Gw.nil _ _) (Below.refl _ _) (Nat.le_refl _)
  · have HR : Hid (visL l i = visO (l.getD i.toNat or0) i) := by show _ = _; unfold visL; rw [hr, if_pos rfl]
    rw [hr] at KI
    obtain ⟨k, rfl, hk⟩ := inR_yes hr
    obtain ⟨b, o, vc, rfl, hab, ⟨h0, h1, h2, h3, h4, h5, h6, h7, h8, h9, h10, h11, h12, h13, h14, h15⟩, -⟩ := ha k hk
    rw [Int.toNat_natCast] at HR
    have hkI : (k : Int) < (l.length : Int) := by omega
    generalize visL l k = r at *
    generalize l.getD k or0 = a at *
    generalize l.length = n at *
    clear hr ha
    have HE : Hid (r = [] ++ (if 0 ≤ a.pp then [((k : Int), false)] else []) ++ (if 0 ≤ a.dp then [((k : Int), true)] else [])) := by show _ = _; rw [HR.out]; rfl
    clear HR
    obtain ⟨i0, hi, hz0, hz1, hz2⟩ := infoW
    go_enter Try.func62, Try.ntmps62
    go_wp2_with fail
    refine (KI.out _).mono ?_
    rintro e w1 ⟨rfl, rfl⟩
    go_wp2_with (at_make; refine wpList_make_own _ rfl _ _ 32 rfl w.heap.size 52 i0 (.agg #[.int .i64 0, .bool false]) 2 Try.underlying32 hi hz0 hz1 _ _ _ 2 rfl rfl ?e1 ?e3 ?e4 (Nat.le_refl _) ?_)
    case e1 => rfl
    case e3 => rw [hz2]; omega
    case e4 => unfold maxLen; omega
    intro w1 hown hgrow
    have HG1 : Hid (Gw w.heap.size w1 (.slice (some ⟨w.heap.size, 0, none⟩) 0 2) []) := hown
    have HB1 : Hid (Below w.heap.size w w1) := (Below.refl _ w).grown hgrow (Nat.le_refl _) (fun k h => by cases h)
    have h2 := (HB1.out.cell (p := ⟨b, _, none⟩) hab).trans h2
    have h6 := (HB1.out.cell (p := ⟨b, _, none⟩) hab).trans h6
    have hsz1 := HB1.out.size
    have hab1 : b < w1.heap.size := by omega
    clear hown hgrow h0 h1 h3 h4 h5 h7 h8 h9 h10 h11 h12 h13 h14 h15
    generalize Value.slice (some ⟨w.heap.size, 0, none⟩) 0 2 = v1 at *
    by_cases p1 : 0 ≤ a.pp
    · have q1 : decide (0 ≤ a.pp) = true := decide_eq_true p1
      rw [if_pos p1] at HE
      go_wp2_with (at_builtin; refine wpList_append_run rfl _ _ 32 rfl rfl rfl (ap_w1 _ (k : Int) false HG1.out hsz1 (by simp)) ?_)
      intro v3 w3 hg3 hb3
      have HB3 := Lib.hid (HB1.out.trans hb3)
      have d6 := (HB3.out.cell (p := ⟨b, _, none⟩) hab).trans ((HB1.out.cell (p := ⟨b, _, none⟩) hab).symm.trans h6)
      have HG3 := Lib.hid hg3
      have hsz := HB3.out.size
      clear hg3 hb3 h6
      by_cases p2 : 0 ≤ a.dp
      · rw [if_pos p2] at HE
        go_wp2_with (at_builtin; refine wpList_append_run rfl _ _ 32 rfl rfl rfl (ap_w1 _ (k : Int) true HG3.out hsz (by simp)) ?_)
        intro v4 w4 hg4 hb4
        have HG4 := Lib.hid hg4
        have HB4 := Lib.hid (HB3.out.trans hb4)
        clear hg4 hb4
        go_wp2_with fail
        go_ret
        exact visP (HE.out ▸ HG4.out) HB4.out (Nat.le_refl _)
      · rw [if_neg p2] at HE
        go_wp2_with fail
        go_ret
        exact visP (HE.out ▸ (HG3.out.ext (by simp))) HB3.out (Nat.le_refl _)
    · rw [if_neg p1] at HE
      by_cases p2 : 0 ≤ a.dp
      · rw [if_pos p2] at HE
        go_wp2_with (at_builtin; refine wpList_append_run rfl _ _ 32 rfl rfl rfl (ap_w1 _ (k : Int) true HG1.out hsz1 (by simp)) ?_)
        intro v4 w4 hg4 hb4
        have HG4 := Lib.hid hg4
        have HB4 := Lib.hid (HB1.out.trans hb4)
        clear hg4 hb4
        go_wp2_with fail
        go_ret
        exact visP (HE.out ▸ (HG4.out.ext (by simp))) HB4.out (Nat.le_refl _)
      · rw [if_neg p2] at HE
        go_wp2_with fail
        go_ret
        exact visP (HE.out ▸ (HG1.out.ext (by simp))) HB1.out (Nat.le_refl _)

end Go.Proofs.Ytoliacfpjhanlaa.T



/-! Rows of ints; bits of machine integers (out of layer 5's texts: tools/mkrusets.py). -/
namespace Go.Proofs.Ytoliacfpjhanlaa.S
open Go.RowKit
set_option maxRecDepth 8000

/-- the call's own slice in block g -/
def Gw (B : Nat) (w : World) (g n cap : Nat) (l : List Nat) : Prop := w.ownsRow B 3 1 (.slice (some ⟨g, 0, none⟩) n cap) n (l.map iv)
theorem Gw.cell {B : Nat} {w : World} {g n cap : Nat} {l : List Nat} (h : Gw B w g n cap l) (j : Nat) (hj : j < n) (hl : j < l.length) : w.cell? ⟨g, j, none⟩ = some (.int .i64 ((l.getD j 0 : Nat) : Int)) := by
  rw [World.ownsRow.cellAt h j (by omega), List.getElem?_map, List.getD_eq_getElem?_getD, List.getElem?_eq_getElem hl]; rfl
theorem has_test (n i : Nat) : has n i = n.testBit i := by
  rw [Nat.testBit_eq_decide_div_mod_eq, has_div]
  by_cases h : n / 2 ^ i % 2 = 1
  · rw [h]; rfl
  · rw [decide_eq_false h, beq_eq_false_iff_ne]; exact h
theorem i64_and (a b : Nat) (ha : a < 9223372036854775808) (hb : b < 9223372036854775808) : bits .and .i64 (a : Int) (b : Int) = ((a &&& b : Nat) : Int) := by
  have hx : a &&& b < 2 ^ 63 := Nat.and_lt_two_pow _ (by omega)
  have h1 : (BitVec.ofInt 64 (a : Int)).toNat = a := by
    rw [BitVec.ofInt_natCast, BitVec.toNat_ofNat]; exact Nat.mod_eq_of_lt (by omega)
  have h2 : (BitVec.ofInt 64 (b : Int)).toNat = b := by
    rw [BitVec.ofInt_natCast, BitVec.toNat_ofNat]; exact Nat.mod_eq_of_lt (by omega)
  show IntKind.i64.wrap ((BitVec.ofInt 64 (a : Int) &&& BitVec.ofInt 64 (b : Int)).toNat : Int) = _
  rw [BitVec.toNat_and, h1, h2, IntKind.wrap_i64]
  omega
theorem i64_or (a b : Nat) (ha : a < 9223372036854775808) (hb : b < 9223372036854775808) : bits .or .i64 (a : Int) (b : Int) = ((a ||| b : Nat) : Int) := by
  have hx : a ||| b < 2 ^ 63 := Nat.or_lt_two_pow (by omega) (by omega)
  have h1 : (BitVec.ofInt 64 (a : Int)).toNat = a := by
    rw [BitVec.ofInt_natCast, BitVec.toNat_ofNat]; exact Nat.mod_eq_of_lt (by omega)
  have h2 : (BitVec.ofInt 64 (b : Int)).toNat = b := by
    rw [BitVec.ofInt_natCast, BitVec.toNat_ofNat]; exact Nat.mod_eq_of_lt (by omega)
  show IntKind.i64.wrap ((BitVec.ofInt 64 (a : Int) ||| BitVec.ofInt 64 (b : Int)).toNat : Int) = _
  rw [BitVec.toNat_or, h1, h2, IntKind.wrap_i64]
  omega
theorem b_and (x y : Int) : bits .and .i64 x y = IntKind.i64.wrap (((x % 18446744073709551616).toNat &&& (y % 18446744073709551616).toNat : Nat) : Int) := by
  show IntKind.i64.wrap ((BitVec.ofInt 64 x &&& BitVec.ofInt 64 y).toNat : Int) = _
  rw [BitVec.toNat_and, BitVec.toNat_ofInt, BitVec.toNat_ofInt]; rfl
theorem b_andNot (x y : Int) : bits .andNot .i64 x y = IntKind.i64.wrap (((x % 18446744073709551616).toNat &&& (18446744073709551616 - 1 - (y % 18446744073709551616).toNat) : Nat) : Int) := by
  show IntKind.i64.wrap ((BitVec.ofInt 64 x &&& ~~~ BitVec.ofInt 64 y).toNat : Int) = _
  rw [BitVec.toNat_and, BitVec.toNat_not, BitVec.toNat_ofInt, BitVec.toNat_ofInt]; rfl
theorem wrap_n (x : Nat) (h : x < 9223372036854775808) : IntKind.i64.wrap (x : Int) = (x : Int) := by rw [IntKind.wrap_i64]; omega
theorem nat_mod (a : Nat) (h : a < 9223372036854775808) : ((a : Int) % 18446744073709551616).toNat = a := by omega

/-! ### sets -/
theorem i_within (a b : Nat) (ha : a < 9223372036854775808) (hb : b < 9223372036854775808) : (bits .andNot .i64 (a : Int) (b : Int) == 0) = withinB a b := by
  have hx : a &&& (18446744073709551616 - 1 - b) < 2 ^ 63 := Nat.lt_of_le_of_lt Nat.and_le_left (by omega)
  rw [b_andNot, nat_mod a ha, nat_mod b hb, wrap_n _ (by omega), Bool.eq_iff_iff]
  rw [beq_iff_eq, withinB, List.all_eq_true]
  have hbit : ∀ i, (18446744073709551616 - 1 - b).testBit i = (decide (i < 64) && !b.testBit i) := by
    intro i
    have h1 := Nat.testBit_two_pow_sub_succ (n := 64) (x := b) (by omega) i
    rw [show (2 : Nat) ^ 64 - (b + 1) = 18446744073709551616 - 1 - b by omega] at h1
    exact h1
  constructor
  · intro h i hi
    have hi2 := (mem_iff _ 63 i).1 hi
    have hz : a &&& (18446744073709551616 - 1 - b) = 0 := by omega
    have h3 := congrArg (fun x => x.testBit i) hz
    simp only [Nat.testBit_and, hbit, Nat.zero_testBit] at h3
    rw [has_test] at hi2 ⊢
    rw [hi2.2, decide_eq_true (by omega)] at h3
    simpa using h3
  · intro h
    have hz : a &&& (18446744073709551616 - 1 - b) = 0 := by
      apply Nat.eq_of_testBit_eq
      intro i
      rw [Nat.testBit_and, hbit, Nat.zero_testBit]
      cases ha2 : a.testBit i
      · rfl
      · have hi63 : i < 63 := by
          have hlt : a < 2 ^ 63 := by omega
          by_cases hi : i < 63
          · exact hi
          · have := Nat.testBit_lt_two_pow (Nat.lt_of_lt_of_le hlt (Nat.pow_le_pow_right (by omega) (show 63 ≤ i by omega)))
            rw [this] at ha2; cases ha2
        have := h i ((mem_iff _ 63 i).2 ⟨hi63, by rw [has_test]; exact ha2⟩)
        rw [has_test] at this
        rw [this]; simp
    rw [hz]; rfl
theorem i_has (n k : Nat) (hn : n < 9223372036854775808) : (bits .and .i64 ((n / 2 ^ k : Nat) : Int) 1 == 1) = has n k := by
  have hq : n / 2 ^ k ≤ n := Nat.div_le_self _ _
  have h1 := i64_and (n / 2 ^ k) 1 (by omega) (by omega)
  rw [show ((1 : Nat) : Int) = 1 from rfl, Nat.and_one_is_mod] at h1
  rw [h1, has_div, Bool.eq_iff_iff, beq_iff_eq, beq_iff_eq]; omega
end Go.Proofs.Ytoliacfpjhanlaa.S



/-! The walks of sets: Has, Within, Size, Least, Members (out of layer 5's texts: tools/mkrusets.py). -/
namespace Go.Proofs.Ytoliacfpjhanlaa.S
open Go.RowKit
set_option maxRecDepth 8000

theorem isNumber_yes (i : Int) (h0 : 0 ≤ i) (h1 : i ≤ 62) (w : World) :
    Calls Try.prog 96 #[.int .i64 i] w fun e w' => e = .returned (.bool true) ∧ w = w' := by
  go_enter Try.func96, Try.ntmps96
  go_wp2_with fail
  go_ret
  exact ⟨rfl, rfl⟩
theorem tHas_n (n k : Nat) (hn : n < 9223372036854775808) (hk : k ≤ 62) (b : Bool) (hb : Hid (has n k = b)) (w : World) :
    Calls Try.prog 84 #[.int .i64 n, .int .i64 k] w fun e w' => e = .returned (.bool b) ∧ w = w' := by
  have HN := Lib.hid (isNumber_yes (k : Int) (by omega) (by omega))
  have h1 := i_has n k hn
  rw [hb.out, show ((n / 2 ^ k : Nat) : Int) = (n : Int) / 2 ^ k by simp] at h1
  have H1 := Lib.hid h1
  clear h1
  go_enter Try.func84, Try.ntmps84
  go_wp2_with fail
  refine (HN.out _).mono ?_
  rintro e w' ⟨rfl, rfl⟩
  go_wp2_with fail
  go_ret
  exact ⟨ret_bool H1.out, rfl⟩
theorem setWithin_n (a b : Nat) (ha : a < 2 ^ 63) (hb : b < 2 ^ 63) (w : World) :
    Calls Try.prog 67 #[.int .i64 a, .int .i64 b] w fun e w' => e = .returned (.bool (withinB a b)) ∧ w = w' := by
  have h1 := i_within a b (by simpa using ha) (by simpa using hb)
  have H1 := Lib.hid h1
  clear h1
  go_enter Try.func67, Try.ntmps67
  go_wp2_with fail
  go_ret
  exact ⟨ret_bool H1.out, rfl⟩
end Go.Proofs.Ytoliacfpjhanlaa.S



/-! Plain Lean: pairs of orders, chains, the sets that follow. -/
namespace Go.Proofs.Ytoliacfpjhanlaa.U

theorem has_bit (n i : Nat) : S.has n i = n.testBit i := by
  unfold S.has
  rw [Nat.testBit_eq_decide_div_mod_eq, Bool.eq_iff_iff]
  simp
theorem has_zero (i : Nat) : S.has 0 i = false := by rw [has_bit, Nat.zero_testBit]
theorem has_ext {a b : Nat} (h : ∀ i, S.has a i = S.has b i) : a = b := Nat.eq_of_testBit_eq fun i => by rw [← has_bit, ← has_bit]; exact h i
theorem has_add {s j : Nat} (h : S.has s j = false) (i : Nat) : S.has (s + 2 ^ j) i = (S.has s i || decide (i = j)) := by
  have e : s + 2 ^ j = s ||| 2 ^ j := by
    rw [has_bit] at h
    have h0 : 2 ^ j &&& s = 0 := Nat.eq_of_testBit_eq fun k => by
      rw [Nat.testBit_and, Nat.testBit_two_pow, Nat.zero_testBit]
      by_cases e : j = k
      · subst e; rw [h, Bool.and_false]
      · rw [decide_eq_false e, Bool.false_and]
    have := Nat.two_pow_add_eq_or_of_lt (i := j) (b := s % 2 ^ j) (Nat.mod_lt _ (Nat.pow_pos (by omega))) (s / 2 ^ j + 1)
    have h1 := Nat.div_add_mod s (2 ^ j)
    have h3 : s / 2 ^ j % 2 = 0 := by
      rw [Nat.testBit_eq_decide_div_mod_eq] at h
      have : ¬ s / 2 ^ j % 2 = 1 := by simpa using h
      omega
    refine Nat.eq_of_testBit_eq fun k => ?_
    rw [Nat.testBit_or, Nat.testBit_two_pow]
    rw [show s + 2 ^ j = 2 ^ j * (s / 2 ^ j + 1) + s % 2 ^ j by rw [Nat.mul_add, Nat.mul_one]; omega, this, Nat.testBit_or, Nat.testBit_mod_two_pow, Nat.testBit_two_pow_mul]
    by_cases hk : k < j
    · rw [decide_eq_true hk, decide_eq_false (show ¬ k ≥ j by omega), decide_eq_false (show ¬ j = k by omega)]
      simp
    · rw [decide_eq_false hk, decide_eq_true (show k ≥ j by omega)]
      rw [Nat.testBit_eq_decide_div_mod_eq, Nat.testBit_eq_decide_div_mod_eq]
      by_cases e : k = j
      · subst e
        simp
        omega
      · obtain ⟨d, rfl⟩ : ∃ d, k = j + (d + 1) := ⟨k - j - 1, by omega⟩
        have e1 : s / 2 ^ (j + (d + 1)) = s / 2 ^ j / 2 / 2 ^ d := by rw [Nat.pow_add, ← Nat.div_div_eq_div_mul, Nat.pow_succ', ← Nat.div_div_eq_div_mul]
        have e2 : (s / 2 ^ j + 1) / 2 ^ (d + 1) = s / 2 ^ j / 2 / 2 ^ d := by rw [Nat.pow_succ', ← Nat.div_div_eq_div_mul, show (s / 2 ^ j + 1) / 2 = s / 2 ^ j / 2 by omega]
        rw [show j + (d + 1) - j = d + 1 by omega, decide_eq_false (show ¬ j = j + (d + 1) by omega), e1, e2]
        simp
  rw [e, has_bit, Nat.testBit_or, Nat.testBit_two_pow, ← has_bit]
  congr 1
  rw [decide_eq_decide]
  exact eq_comm
theorem has_lt {s n : Nat} (h : ∀ i, S.has s i = true → i < n) : s < 2 ^ n := by
  apply Nat.lt_pow_two_of_testBit
  intro i hi
  cases hb : s.testBit i
  · rfl
  · have := h i (by rw [has_bit]; exact hb)
    omega
theorem lt_has {s n i : Nat} (h : s < 2 ^ n) (hi : S.has s i = true) : i < n := by
  apply Decidable.byContradiction
  intro hc
  rw [has_bit, Nat.testBit_lt_two_pow (Nat.lt_of_lt_of_le h (Nat.pow_le_pow_right (by omega) (by omega)))] at hi
  cases hi

/-! ### chains -/
def pa (p : Int × Int) : Nat := p.1.toNat
def pb (p : Int × Int) : Nat := p.2.toNat
def Rt (n : Nat) (l : List (Int × Int)) : Prop := ∀ p ∈ l, 0 ≤ p.1 ∧ p.1 < n ∧ 0 ≤ p.2 ∧ p.2 < n ∧ p.1 ≠ p.2
theorem Rt.a {n : Nat} {l : List (Int × Int)} (h : Rt n l) {p : Int × Int} (hp : p ∈ l) : pa p < n ∧ pb p < n ∧ pa p ≠ pb p ∧ p = ((pa p : Int), (pb p : Int)) := by
  obtain ⟨h1, h2, h3, h4, h5⟩ := h p hp
  unfold pa pb
  refine ⟨by omega, by omega, by omega, ?_⟩
  obtain ⟨x, y⟩ := p
  simp only at h1 h3 ⊢
  rw [Int.toNat_of_nonneg h1, Int.toNat_of_nonneg h3]
/-- there is a chain -/
inductive Ch (l : List (Int × Int)) (a : Nat) : Nat → Prop
  | one {p : Int × Int} : p ∈ l → pa p = a → Ch l a (pb p)
  | more {p : Int × Int} : Ch l a (pa p) → p ∈ l → Ch l a (pb p)
theorem Ch.trans {l : List (Int × Int)} {a b c : Nat} (h : Ch l a b) (h2 : Ch l b c) : Ch l a c := by
  induction h2 with
  | one hp e => subst e; exact h.more hp
  | more _ hp ih => exact ih.more hp
theorem Ch.lt {n : Nat} {l : List (Int × Int)} (hr : Rt n l) {a b : Nat} (h : Ch l a b) : a < n ∧ b < n := by
  induction h with
  | one hp e => subst e; exact ⟨(hr.a hp).1, (hr.a hp).2.1⟩
  | more _ hp ih => exact ⟨ih.1, (hr.a hp).2.1⟩
/-- a set that has with the end of each pair its beginning has all that a member needs -/
theorem Ch.back {l : List (Int × Int)} {s : Nat} (hc : ∀ p ∈ l, S.has s (pb p) = true → S.has s (pa p) = true) {a b : Nat} (h : Ch l a b) (hb : S.has s b = true) : S.has s a = true := by
  induction h with
  | one hp e => subst e; exact hc _ hp hb
  | more _ hp ih => exact ih (hc _ hp hb)

/-! ### what a chain leads to -/
def stepR (f s : Nat) (p : Int × Int) : Nat := if (decide (pa p = f) || S.has s (pa p)) && !S.has s (pb p) then s + 2 ^ pb p else s
def roundR (f : Nat) (l : List (Int × Int)) (s : Nat) : Nat := l.foldl (stepR f) s
def reachK (f : Nat) (l : List (Int × Int)) : Nat → Nat
  | 0 => 0
  | k + 1 => roundR f l (reachK f l k)
def reach (n : Nat) (l : List (Int × Int)) (f : Nat) : Nat := reachK f l (n + 1)
theorem step_has (f s : Nat) (p : Int × Int) (i : Nat) : S.has (stepR f s p) i = (S.has s i || ((decide (pa p = f) || S.has s (pa p)) && decide (i = pb p))) := by
  unfold stepR
  cases h : S.has s (pb p)
  · cases h2 : (decide (pa p = f) || S.has s (pa p))
    · simp
    · rw [if_pos (by rfl), has_add h, Bool.true_and]
  · rw [if_neg (by simp)]
    by_cases e : i = pb p
    · subst e; rw [h]; rfl
    · rw [decide_eq_false e, Bool.and_false, Bool.or_false]
theorem step_mono (f s : Nat) (p : Int × Int) {i : Nat} (h : S.has s i = true) : S.has (stepR f s p) i = true := by rw [step_has, h]; rfl
theorem step_le (f s : Nat) (p : Int × Int) : s ≤ stepR f s p := by
  unfold stepR
  split
  · exact Nat.le_add_right _ _
  · exact Nat.le_refl _
theorem round_mono (f : Nat) (l : List (Int × Int)) : ∀ (s : Nat) {i : Nat}, S.has s i = true → S.has (roundR f l s) i = true := by
  induction l with
  | nil => intro s i h; exact h
  | cons p l ih => intro s i h; exact ih (stepR f s p) (step_mono f s p h)
theorem round_le (f : Nat) (l : List (Int × Int)) : ∀ s, s ≤ roundR f l s := by
  induction l with
  | nil => intro s; exact Nat.le_refl _
  | cons p l ih => intro s; exact Nat.le_trans (step_le f s p) (ih _)
/-- a round that changes nothing: the set is closed -/
theorem round_fix (f : Nat) (l : List (Int × Int)) : ∀ s, roundR f l s = s → ∀ p ∈ l, (pa p = f ∨ S.has s (pa p) = true) → S.has s (pb p) = true := by
  induction l with
  | nil => intro s _ p hp; cases hp
  | cons q l ih =>
    intro s h p hp hc
    have h1 := step_le f s q
    have h2 := round_le f l (stepR f s q)
    have h3 : roundR f l (stepR f s q) = s := h
    have h4 : stepR f s q = s := by omega
    rcases List.mem_cons.1 hp with rfl | hp
    · have h5 := step_has f s p (pb p)
      rw [h4] at h5
      rw [h5]
      rcases hc with hc | hc
      · rw [decide_eq_true hc]; simp
      · rw [hc]; simp
    · rw [h4] at h3
      exact ih s h3 p hp hc
theorem round_sound (f : Nat) (l0 : List (Int × Int)) : ∀ (l : List (Int × Int)), (∀ p ∈ l, p ∈ l0) → ∀ s, (∀ i, S.has s i = true → Ch l0 f i) → ∀ i, S.has (roundR f l s) i = true → Ch l0 f i := by
  intro l
  induction l with
  | nil => intro _ s h i hi; exact h i hi
  | cons p l ih =>
    intro hl s h
    refine ih (fun q hq => hl q (List.mem_cons_of_mem _ hq)) (stepR f s p) fun i hi => ?_
    rw [step_has, Bool.or_eq_true, Bool.and_eq_true, Bool.or_eq_true, decide_eq_true_iff, decide_eq_true_iff] at hi
    rcases hi with hi | ⟨hi, rfl⟩
    · exact h i hi
    · have hp := hl p (List.mem_cons_self ..)
      rcases hi with hi | hi
      · exact Ch.one hp hi
      · exact (h _ hi).more hp
theorem reach_sound {l : List (Int × Int)} (f : Nat) : ∀ k i, S.has (reachK f l k) i = true → Ch l f i
  | 0, i, h => by rw [reachK, has_zero] at h; cases h
  | k + 1, i, h => round_sound f l l (fun _ h => h) _ (reach_sound f k) i h
theorem filter_lt {α : Type} (p q : α → Bool) (l : List α) (hpq : ∀ x, p x = true → q x = true) {x : α} (hx : x ∈ l) (h1 : q x = true) (h2 : p x = false) : (l.filter p).length < (l.filter q).length := by
  have hle : ∀ l : List α, (l.filter p).length ≤ (l.filter q).length := by
    intro l
    induction l with
    | nil => exact Nat.le_refl _
    | cons y l ih =>
      rw [List.filter_cons, List.filter_cons]
      cases hp : p y
      · cases hq : q y
        · simpa using ih
        · simp; omega
      · rw [hpq y hp]; simp; exact ih
  induction l with
  | nil => cases hx
  | cons y l ih =>
    rw [List.filter_cons, List.filter_cons]
    rcases List.mem_cons.1 hx with rfl | hx
    · rw [h1, h2]; simp; have := hle l; omega
    · have := ih hx
      cases hp : p y
      · cases hq : q y
        · simpa using this
        · simp; omega
      · rw [hpq y hp]; simp; exact this
theorem reach_stops {n : Nat} {l : List (Int × Int)} (hr : Rt n l) (f : Nat) : ∃ k, k ≤ n ∧ reachK f l (k + 1) = reachK f l k := by
  apply Classical.byContradiction
  intro hc
  have hne : ∀ k, k ≤ n → reachK f l (k + 1) ≠ reachK f l k := fun k hk e => hc ⟨k, hk, e⟩
  have hlen : ∀ k, k ≤ n + 1 → k ≤ (S.mem (reachK f l k) n).length := by
    intro k
    induction k with
    | zero => intro _; exact Nat.zero_le _
    | succ k ih =>
      intro hk
      have h1 := ih (by omega)
      have h2 := hne k (by omega)
      have hsub : ∀ i, S.has (reachK f l k) i = true → S.has (reachK f l (k + 1)) i = true := fun i => round_mono f l _
      have hex : ∃ i, S.has (reachK f l (k + 1)) i = true ∧ S.has (reachK f l k) i = false := by
        apply Classical.byContradiction
        intro hno
        apply h2
        refine has_ext fun i => ?_
        cases ha : S.has (reachK f l k) i
        · cases hb : S.has (reachK f l (k + 1)) i
          · rfl
          · exact absurd ⟨i, hb, ha⟩ hno
        · exact hsub i ha
      obtain ⟨i, hi1, hi2⟩ := hex
      have hin : i < n := ((reach_sound f (k + 1) i hi1).lt hr).2
      have := filter_lt (S.has (reachK f l k)) (S.has (reachK f l (k + 1))) (List.range n) hsub (List.mem_range.2 hin) hi1 hi2
      show k + 1 ≤ _
      unfold S.mem at h1 ⊢
      omega
  have h1 := hlen (n + 1) (Nat.le_refl _)
  have h2 := S.mem_len (reachK f l (n + 1)) n
  omega
theorem reach_fix {n : Nat} {l : List (Int × Int)} (hr : Rt n l) (f : Nat) : roundR f l (reach n l f) = reach n l f := by
  obtain ⟨k, hk, e⟩ := reach_stops hr f
  have h : ∀ m, reachK f l (k + m) = reachK f l k := by
    intro m
    induction m with
    | zero => rfl
    | succ m ih => rw [show k + (m + 1) = (k + m) + 1 from rfl, reachK, ih]; exact e
  have h1 : reach n l f = reachK f l k := by
    unfold reach
    rw [show n + 1 = k + (n + 1 - k) by omega, h]
  rw [h1]; exact e
/-- the set that a chain leads to -/
theorem reach_iff {n : Nat} {l : List (Int × Int)} (hr : Rt n l) (f i : Nat) : S.has (reach n l f) i = true ↔ Ch l f i := by
  constructor
  · exact reach_sound f (n + 1) i
  · intro h
    have hf := round_fix f l _ (reach_fix hr f)
    induction h with
    | one hp e => exact hf _ hp (.inl e)
    | more _ hp ih => exact hf _ hp (.inr ih)
def ofB (p : Nat → Bool) : Nat → Nat
  | 0 => 0
  | k + 1 => if p k then ofB p k + 2 ^ k else ofB p k
theorem has_ofB (p : Nat → Bool) : ∀ k i, S.has (ofB p k) i = (decide (i < k) && p i)
  | 0, i => by rw [ofB, has_zero]; rfl
  | k + 1, i => by
    have h0 : S.has (ofB p k) k = false := by rw [has_ofB p k k, decide_eq_false (by omega)]; rfl
    rw [ofB]
    cases hp : p k
    · rw [if_neg (by simp), has_ofB p k i]
      by_cases e : i = k
      · subst e; rw [hp]; simp
      · congr 1; rw [decide_eq_decide]; omega
    · rw [if_pos rfl, has_add h0, has_ofB p k i]
      by_cases e : i = k
      · subst e; rw [hp]; simp
      · rw [decide_eq_false e, Bool.or_false]; congr 1; rw [decide_eq_decide]; omega
end Go.Proofs.Ytoliacfpjhanlaa.U



/-! Plain Lean: what Closure, Needs, Allowed and Never answer, and what follows of it. -/
namespace Go.Proofs.Ytoliacfpjhanlaa.U

/-! ### all pairs that follow -/
def needP (n : Nat) (l : List (Int × Int)) (o i : Nat) : Bool := decide (i = o) || S.has (reach n l i) o
def needN (n : Nat) (l : List (Int × Int)) (o : Nat) : Nat := ofB (needP n l o) n
theorem has_need {n : Nat} {l : List (Int × Int)} (hr : Rt n l) (o i : Nat) : S.has (needN n l o) i = true ↔ i < n ∧ (i = o ∨ Ch l i o) := by
  unfold needN needP
  rw [has_ofB, Bool.and_eq_true, decide_eq_true_iff, Bool.or_eq_true, decide_eq_true_iff, reach_iff hr]
def offE (n : Nat) (off : Nat → Bool) (s : Nat) : Bool := (List.range n).any fun i => S.has s i && off i
def apartE (l : List (Int × Int)) (s : Nat) : Bool := l.any fun p => S.has s (pa p) && S.has s (pb p)
def beforeE (l : List (Int × Int)) (s : Nat) : Bool := l.any fun p => S.has s (pb p) && !S.has s (pa p)
def circleE (n : Nat) (l : List (Int × Int)) (s : Nat) : Bool := (List.range n).any fun i => S.has s i && S.has (reach n l i) i
def allowN (n : Nat) (off : Nat → Bool) (ap be : List (Int × Int)) (s : Nat) : Int := if offE n off s then 9 else if apartE ap s then 20 else if beforeE be s then 21 else if circleE n be s then 21 else 0
def allowE (n : Nat) (off : Nat → Bool) (ap be : List (Int × Int)) (s : Int) : Int := if s < 0 ∨ ((2 ^ n : Nat) : Int) ≤ s then 2 else allowN n off ap be s.toNat
/-- what an allowed set is -/
structure Okay (n : Nat) (off : Nat → Bool) (ap be : List (Int × Int)) (s : Nat) : Prop where
  lt : s < 2 ^ n
  on : ∀ i, S.has s i = true → off i = false
  apt : ∀ p ∈ ap, S.has s (pa p) = true → S.has s (pb p) = false
  bef : ∀ p ∈ be, S.has s (pb p) = true → S.has s (pa p) = true
  ci : ∀ i, S.has s i = true → ¬ Ch be i i
theorem allow_iff {n : Nat} {off : Nat → Bool} {ap be : List (Int × Int)} (hr : Rt n be) {s : Nat} (hs : s < 2 ^ n) : allowN n off ap be s = 0 ↔ Okay n off ap be s := by
  unfold allowN
  constructor
  · intro h
    cases h1 : offE n off s
    · cases h2 : apartE ap s
      · cases h3 : beforeE be s
        · cases h4 : circleE n be s
          · refine ⟨hs, fun i hi => ?_, fun p hp ha => ?_, fun p hp hb => ?_, fun i hi hc => ?_⟩
            · have := List.any_eq_false.1 h1 i (List.mem_range.2 (lt_has hs hi))
              rw [hi] at this
              simpa using this
            · have := List.any_eq_false.1 h2 p hp
              rw [ha] at this
              simpa using this
            · have := List.any_eq_false.1 h3 p hp
              rw [hb] at this
              simpa using this
            · have := List.any_eq_false.1 h4 i (List.mem_range.2 (lt_has hs hi))
              rw [hi, (reach_iff hr i i).2 hc] at this
              simp at this
          · rw [h1, h2, h3, h4] at h; simp at h
        · rw [h1, h2, h3] at h; simp at h
      · rw [h1, h2] at h; simp at h
    · rw [h1] at h; simp at h
  · intro h
    have h1 : offE n off s = false := List.any_eq_false.2 fun i hi => by
      cases hh : S.has s i
      · simp
      · rw [h.on i hh]; simp
    have h2 : apartE ap s = false := List.any_eq_false.2 fun p hp => by
      cases hh : S.has s (pa p)
      · simp
      · rw [h.apt p hp hh]; simp
    have h3 : beforeE be s = false := List.any_eq_false.2 fun p hp => by
      cases hh : S.has s (pb p)
      · simp
      · rw [h.bef p hp hh]; simp
    have h4 : circleE n be s = false := List.any_eq_false.2 fun i hi => by
      cases hh : S.has s i
      · simp
      · cases hc : S.has (reach n be i) i
        · simp
        · exact absurd ((reach_iff hr i i).1 hc) (h.ci i hh)
    rw [h1, h2, h3, h4]; simp
theorem allowE_nat {n : Nat} {off : Nat → Bool} {ap be : List (Int × Int)} {s : Nat} (hs : s < 2 ^ n) : allowE n off ap be (s : Int) = allowN n off ap be s := by
  unfold allowE
  rw [if_neg (by omega), Int.toNat_natCast]
theorem allowE_zero {n : Nat} {off : Nat → Bool} {ap be : List (Int × Int)} (hr : Rt n be) {s : Int} (h : allowE n off ap be s = 0) : 0 ≤ s ∧ Okay n off ap be s.toNat := by
  unfold allowE at h
  by_cases hc : s < 0 ∨ ((2 ^ n : Nat) : Int) ≤ s
  · rw [if_pos hc] at h; cases h
  · rw [if_neg hc] at h
    exact ⟨by omega, (allow_iff hr (by omega)).1 h⟩
theorem and_sub {a b : Nat} (h : ∀ i, S.has a i = true → S.has b i = true) : a &&& b = a := Nat.eq_of_testBit_eq fun i => by
  rw [Nat.testBit_and]
  have := h i
  rw [has_bit, has_bit] at this
  cases ha : a.testBit i
  · rfl
  · rw [this ha]; rfl
end Go.Proofs.Ytoliacfpjhanlaa.U



