/-
  DERIVED. HM: a part of the base of layer 13 (made by pack.py).
-/
import Derived.Test.YtomebalolmabnaaGreatDoorRefFl3
import Derived.Deep.RegionHeld3
import Derived.Test.YtomebalolmabnaaGreatDoorShelf
import Derived.Lib.ItoaNum
import Derived.Test.YtomebalolmabnaaGreatDoorRows
import Derived.WalkKit
import Derived.WalkSpells
import Derived.WalkLawsBesides
import Derived.WalkMore
import Derived.Below
import Derived.OwnWalk
import Derived.IntWalk
import Derived.Laws.OwnMore
import Derived.Laws.AppendOwn
import Derived.Deep.AppendLies
import Derived.Deep.Draws
import Derived.Deep.QuietTactic
import Derived.Deep.RegionLaw
import Derived.Deep.RegionWith
import Derived.BigQuiet
import Derived.Lib.Hide
import Derived.WalkSmall
import Derived.Deep.Onto
import Derived.Deep.LoopGhost
import Derived.Handy
import Derived.Maps.AppendAt
import Derived.Laws.AppendOwnNone
import Derived.Deep.DeepCutAuto
import Derived.Deep.Cut
import Derived.Deep.CutRange
import Derived.Laws.StructEq
import Derived.Shelf.Abstract
import Derived.ChangeKeysEq
import Derived.Test.YtomebalolmabnaaGreatDoorHK
import Derived.RangeFuncBox
import Derived.RangeFuncNested
import Derived.RangeFuncBound
import Derived.RangeFuncCalls
import Derived.RangeFuncLeaves
import Derived.Shelf.RegionOpen
import Derived.OwnWalkIn
import Derived.TacticsInMore
import Derived.LoopNIn
import Derived.LoopIn
import Derived.Lib.SliceRun
import Derived.Maps.OwnSet
import Derived.DeepKeys4
import Derived.ProofKit
import Derived.LaidMore
import Derived.ChangeSlices
import Derived.SliceStrings
import Derived.Carry
import Derived.OpenShut
import Derived.Deep.SlicePairs
import Derived.Deep.Slices
import Derived.Deep.Fields
import Derived.Lib.SmallJoins
import Derived.Test.YtomebalolmabnaaGreatDoorHC
import Derived.Test.YtomebalolmabnaaGreatDoorHA
import Derived.Test.YtomebalolmabnaaGreatDoorHB
/-! The walk of the specification's Same. -/
namespace Go.Proofs.YtomebalolmabnaaGreatDoor.T
open Go.RowKit
set_option maxRecDepth 8000

theorem tyE_len (np : Nat) (l : List TyT) (i : Nat) : (tyE np l i).length ≤ 9 := by
 unfold tyE
 simp only [List.length_append]
 have h1 : (tyE1 (l.getD i ty0)).length ≤ 1 := by unfold tyE1; exact if_len _ _
 have h2 : (tyE2 l i (l.getD i ty0)).length ≤ 1 := by unfold tyE2; split <;> simp
 have h3 : (tyE3 (l.getD i ty0)).length ≤ 1 := by unfold tyE3; exact if_len _ _
 have h4 : (tyE4 np (l.getD i ty0)).length ≤ 1 := by unfold tyE4; exact if_len _ _
 have h5 : (tyE5 (dimsF l) (l.getD i ty0)).length ≤ 1 := by unfold tyE5; exact if_len _ _
 have h6 : (tyE6 (l.getD i ty0)).length ≤ 1 := by unfold tyE6; exact if_len _ _
 have h7 : (tyE7 (l.getD i ty0)).length ≤ 1 := by unfold tyE7; exact if_len _ _
 have h8 : (tyE8 (l.getD i ty0)).length ≤ 1 := by unfold tyE8; exact if_len _ _
 have h9 : (tyE9 (l.getD i ty0)).length ≤ 1 := by unfold tyE9; exact if_len _ _
 omega
theorem flF_len (np : Nat) (l : List TyT) : ∀ k, (flF np l k).length ≤ 1 + 9 * k
 | 0 => by unfold flF flF0; split <;> simp
 | k + 1 => by
  unfold flF atT
  rw [List.length_append, List.length_map]
  have := flF_len np l k
  have := tyE_len np l k
  omega
theorem atT_step {i : Nat} {l : List Int} {k : Nat} (h : k < l.length) : atT i (l.take (k + 1)) = atT i (l.take k) ++ [(l.getD k 0, dec i)] := by
 unfold atT
 rw [take_more (d := 0) h, List.map_append]
 rfl

end Go.Proofs.YtomebalolmabnaaGreatDoor.T




/-! The walk of the specification's Check. -/
namespace Go.Proofs.YtomebalolmabnaaGreatDoor.T
open Go.RowKit
set_option maxRecDepth 8000

theorem li_grown {w w' : World} {oE : Option Addr} {c : Nat} {E : List Int} {row : Option Nat} (h : L.Li w (.slice oE E.length c) E) (hg : w.grownBy w' row) (hne : ∀ a, oE = some a → 0 < E.length → some a.block ≠ row) : L.Li w' (.slice oE E.length c) E := by
 obtain ⟨oa', c', hv, h⟩ := h
 simp only [Value.slice.injEq] at hv
 obtain ⟨rfl, -, rfl⟩ := hv
 refine ⟨oE, c, rfl, fun i hi => ?_⟩
 obtain ⟨a, ha, hl, hc⟩ := h i hi
 exact ⟨a, ha, Nat.lt_of_lt_of_le hl hg.size, hg.cell (a := a.add i) hc (by rw [L.add_block]; exact hne a ha (by omega))⟩
theorem ap_fk {B : Nat} {w : World} {v : Value} {l : List (Int × ByteArray)} (ty : TypeId) (x : Int) (s : ByteArray) (hv : Gl B w v l) (hB : B ≤ w.heap.size) (hn : l.length ≤ 90000000) {oE : Option Addr} {cE : Nat} {E : List Int}
  (hE : L.Li w (.slice oE E.length cE) E) (hN : ∀ a, oE = some a → 0 < E.length → a.block < w.heap.size ∧ v.ownBlock ≠ some a.block) :
  ∃ v' w', (Builtin.append_ #[51, 51] ty #[v, .slice (some ⟨w.heap.size, 0, none⟩) 1 1]).run Tryz.prog (w.alloc (.cells #[.int .i64 x, .string s] 101)) = .ok v' w' ∧
   (Gl B w' v' (l ++ [(x, s)]) ∧ Below B w w' ∧ L.Li w' (.slice oE E.length cE) E ∧ ∀ a, oE = some a → 0 < E.length → a.block < w'.heap.size ∧ v'.ownBlock ≠ some a.block) := by
 have hsz : (w.alloc (.cells #[.int .i64 x, .string s] 101)).heap.size = w.heap.size + 1 := by simp
 obtain ⟨v', w', hr, h2, h3, h4, h5⟩ := ap_f (w := w.alloc (.cells #[.int .i64 x, .string s] 101)) (m := [(x, s)]) ty (hv.frame (below_alloc _ _)) (lf_one w x s) (by omega) (by simp; omega)
 refine ⟨v', w', hr, h2, ((below_alloc w _).mono hB).trans h3, li_grown (hE.below (below_alloc _ _)) h4 (fun a ha h0 h => (hN a ha h0).2 h.symm), fun a ha h0 => ?_⟩
 obtain ⟨h6, h7⟩ := hN a ha h0
 refine ⟨Nat.lt_of_lt_of_le (by omega) h4.size, fun h => ?_⟩
 rcases h5 with h5 | h5
 ·exact h7 (h5 ▸ h)
 ·rw [h5, hsz] at h
  simp only [Option.some.injEq] at h
  omega

set_option maxHeartbeats 6400000 in
theorem refFleet_n (op : Option Addr) (np cp : Nat) (oa : Option Addr) (na ca : Nat) (v : Value) (l : List TyT) (hl : l.length ≤ 1000000) (hnp : np ≤ 9223372036854775807) (hc9 : ∀ i, i < l.length → (l.getD i ty0).cap.length ≤ 1000000000) (w : World) (hv : Ts w v l) :
  Calls Tryz.prog 26 #[.agg #[.slice op np cp, .slice oa na ca], v] w (ChkP (fleetF np l) w) := by
 have BW := below_alloc w (.cells #[.slice op np cp, .slice oa na ca] 25)
 have HV := Lib.hid (hv.below BW)
 have N0 := Lib.hid (Nb.made w (.slice op np cp) (.slice oa na ca))
 obtain ⟨ov, cv, rfl, -⟩ := hv
 have KR := Lib.hid (fun i (hi : i < l.length) w hv => refRules_n op np cp oa na ca (.slice ov l.length cv) l i hi hl hnp (hc9 i hi) w hv)
 have HE : Hid (flF np l l.length = fleetF np l) := rfl
 have H0 : Hid (flF np l 0 = if rgB 1 6 l.length then [] else [(4, ⟨#[]⟩)]) := rfl
 have HS : Hid (∀ k, flF np l (k + 1) = flF np l k ++ atT k (tyE np l k)) := fun _ => rfl
 have HL := Lib.hid (flF_len np l)
 have HL2 := Lib.hid (fun k => tyE_len np l k)
 obtain ⟨W0, hW0⟩ : ∃ W0, w.alloc (.cells #[.slice op np cp, .slice oa na ca] 25) = W0 := ⟨_, rfl⟩
 have hsz0 : w.heap.size ≤ W0.heap.size := by rw [← hW0]; exact BW.size
 rw [hW0] at HV N0 BW
 have B0 := Lib.hid BW
 clear BW hc9
 generalize fleetF np l = r at *
 generalize hn : l.length = n at *
 go_enter Tryz.func26, Tryz.ntmps26
 go_wp2_with fail
 refine (in_n (n : Int) 1 6 _).mono ?_
 rintro e w1 ⟨rfl, rfl⟩
 go_upto_if 12 with fail
 clear hW0
 go_cut [5] from 9 to 16 (fun v wx => Hid (Gl W0.heap.size wx v (flF np l 0)) ∧ Hid (Below W0.heap.size W0 wx))
 case first => as_aux_lemma =>
  cases hb : rgB 1 6 (n : Int)
  ·have HF : Hid (flF np l 0 = [] ++ [(4, ⟨#[]⟩)]) := by show _ = _; rw [H0.out, hb]; rfl
   clear hb
   go_wp2_with (at_builtin; refine wpList_append_run rfl _ _ 51 rfl rfl rfl (ap_f1 _ 4 ⟨#[]⟩ (Gl.nil _ W0) (Nat.le_refl _) (by simp)) ?_)
   intro v3 w3 hg3 hb3
   go_wp2_with fail
   go_meet
   case rel => exact ⟨HF.out ▸ hg3, hb3⟩
  ·have HF : Hid (flF np l 0 = []) := by show _ = _; rw [H0.out, hb]; rfl
   clear hb
   go_wp2_with fail
   go_meet
   case rel => exact ⟨HF.out ▸ Gl.nil _ _, Below.refl _ _⟩
 obtain ⟨HG, HB⟩ := hcut
 go_wp2_with fail
 go_loopg [5, 6] n (fun g v j wx => ∃ k : Nat, k ≤ n ∧ j = .int .i64 k ∧ n - k ≤ g ∧ Hid (Gl W0.heap.size wx v (flF np l k)) ∧ Hid (Below W0.heap.size W0 wx))
 case atStart => exact ⟨0, Nat.zero_le _, rfl, Nat.le_refl _, HG, HB⟩
 case round =>
  clear HG HB H0
  obtain ⟨k, hkn, rfl, hg, HG, HB⟩ := hrel
  by_cases hlt : k < n
  ·have hkI : (k : Int) < (n : Int) := by omega
   have g0 := (N0.out.below HB.out).c0
   have g1 := (N0.out.below HB.out).c1
   have HVk := Lib.hid (HV.out.below HB.out)
   have KRk := Lib.hid (KR.out k hlt)
   have hl1 := HL.out k
   have hl2 := HL2.out k
   have HSk := Lib.hid (HS.out k)
   have KD := Lib.hid (fun w => decimal_n k (by omega) w)
   generalize tyE np l k = E at *
   generalize flF np l k = F at *
   go_wp2_with fail
   refine (KRk.out _ HVk.out).mono ?_
   rintro e w2 ⟨vE, rfl, hGe, ⟨oE, cE, rfl, hLi, -⟩, b2⟩
   have HB2 := Lib.hid (over HB.out b2)
   have HG2 := Lib.hid (HG.out.frame b2)
   have HE2 := Lib.hid hLi
   have HN2 : Hid (∀ a, oE = some a → 0 < E.length → a.block < w2.heap.size ∧ u5.ownBlock ≠ some a.block) := fun a ha _ => by
    have h1 := World.ownsRow.lt hGe a.block (by rw [ha]; rfl)
    refine ⟨h1.2, fun h => ?_⟩
    have h2 := (World.ownsRow.lt HG.out.own a.block h).2
    omega
   clear g0 g1 hGe hLi b2 HB HG HVk KRk
   have HZ4 : Hid (F ++ atT k (E.take 0) = F) := List.append_nil _
   have HS4 := Lib.hid (fun m (hm : m < E.length) => atT_step (i := k) hm)
   have HL4 : Hid (∀ m, m ≤ E.length → (atT k (E.take m)).length = m) := fun m hm => by unfold atT; rw [List.length_map, List.length_take]; omega
   have HE4 : Hid (flF np l (k + 1) = F ++ atT k (E.take E.length)) := by show _ = _; rw [HSk.out, List.take_length]
   clear HSk
   go_wp2_with fail
   go_loopg [5, 8] E.length (fun g v j wx => ∃ m : Nat, m ≤ E.length ∧ j = .int .i64 m ∧ E.length - m ≤ g ∧ Hid (Gl W0.heap.size wx v (F ++ atT k (E.take m))) ∧ Hid (Below W0.heap.size W0 wx) ∧ Hid (L.Li wx (.slice oE E.length cE) E) ∧ Hid (∀ a, oE = some a → 0 < E.length → a.block < wx.heap.size ∧ v.ownBlock ≠ some a.block))
   case atStart => exact ⟨0, Nat.zero_le _, rfl, Nat.le_refl _, HG2.out.ext HZ4.out.symm, HB2, HE2, HN2⟩
   case round =>
    clear HG2 HB2 HE2 HN2 HZ4
    obtain ⟨m, hm, rfl, hgm, HG, HB, HEl, HNl⟩ := hrel
    by_cases hlt2 : m < E.length
    ·have hEl := HEl.out
     obtain ⟨oE', cE', hvE, hall⟩ := hEl
     simp only [Value.slice.injEq] at hvE
     obtain ⟨rfl, -, rfl⟩ := hvE
     obtain ⟨a, rfl, hab, hc0⟩ := hall m hlt2
     have hmI : (m : Int) < (E.length : Int) := by omega
     have hl4 := HL4.out m hm
     have hlen : (F ++ atT k (E.take m)).length ≤ 90000000 := by rw [List.length_append]; omega
     have HX : Hid (F ++ atT k (E.take (m + 1)) = F ++ atT k (E.take m) ++ [(E.getD m 0, dec k)]) := by show _ = _; rw [HS4.out m hlt2, List.append_assoc]
     have d0 : wr.drew.cell? (a.add m) = some (.int .i64 (E.getD m 0)) := hc0
     have HGd : Gl W0.heap.size wr.drew u5 (F ++ atT k (E.take m)) := HG.out
     have HBd : Below W0.heap.size W0 wr.drew := below_drew HB.out
     have HEd : L.Li wr.drew (.slice (some a) E.length cE) E := HEl.out
     have HNd : ∀ a', some a = some a' → 0 < E.length → a'.block < wr.drew.heap.size ∧ u5.ownBlock ≠ some a'.block := HNl.out
     have HHG := Lib.hid HGd
     have HHE := Lib.hid HEd
     have HHN := Lib.hid HNd
     clear hc0 hall HG HEl HNl HGd HEd HNd
     generalize E.getD m 0 = x at *
     go_wp2_with fail
     go_region_law (first
      | (refine step_append_run (by rfl) _ _ 51 (by rfl) (by rfl) (by rfl) (ap_fk _ x (dec k) HGz.out hsz hlen HEz.out HNz.out) ?_; rintro v3 w3 ⟨hg3, hb3, he3, hn3⟩)
      | (go_simp; go_at_call 44; (with_reducible refine (KD.out _).mono ?_); rintro e wz ⟨rfl, bz⟩; have HGz := Lib.hid (HHG.out.frame bz); have HBz := HBd.trans (bz.mono HBd.size); have HEz := Lib.hid (HHE.out.below bz); have HNz := Lib.hid (fun a' ha h0 => And.intro (Nat.lt_of_lt_of_le (HHN.out a' ha h0).1 bz.size) (HHN.out a' ha h0).2); have hsz := HBz.size; have d0 := (bz.cell (p := a.add m) (by rw [L.add_block]; exact hab)).trans d0))
     all_goals
      have HG3 : Hid (Gl W0.heap.size w3 v3 (F ++ atT k (E.take (m + 1)))) := by show Gl _ _ _ _; rw [HX.out]; exact hg3
      have HB3 := Lib.hid (HBz.trans hb3)
      have HE3 := Lib.hid he3
      have HN3 := Lib.hid hn3
      clear hg3 hb3 he3 hn3 HBz HBd d0
      go_wp2_with fail
      go_roundg (E.length - (m + 1))
      case measure => omega
      case rel => exact ⟨m + 1, by omega, by go_num, by omega, HG3, HB3, HE3, HN3⟩
    ·have hm' : m = E.length := by omega
     have HG3 := Lib.hid (HG.out.ext (show F ++ atT k (E.take m) = flF np l (k + 1) by rw [HE4.out, hm']))
     clear HG HEl HNl
     go_wp2_with fail
     go_roundg (n - (k + 1))
     case measure => omega
     case rel => exact ⟨k + 1, by omega, by go_num, by omega, HG3, HB⟩
  ·have hk' : k = n := by omega
   subst hk'
   have HR := Lib.hid HE.out
   go_wp2_with fail
   go_ret
   exact chkP (HR.out ▸ HG.out) (over B0.out HB.out) hsz0

end Go.Proofs.YtomebalolmabnaaGreatDoor.T




/-! The walk of fleet's Same (written by gen_fltop3.py). -/
namespace Go.Proofs.YtomebalolmabnaaGreatDoor.T
open Go.RowKit
set_option maxRecDepth 8000

theorem add_pl (b o j : Nat) : (⟨b, o, none⟩ : Addr).add j = ⟨b, o + j, none⟩ := by
 unfold Addr.add
 split
 ·rename_i hz; rw [hz]; rfl
 ·rfl
end Go.Proofs.YtomebalolmabnaaGreatDoor.T




/-! Slices of types, a type and a network by value, as arguments. -/
namespace Go.Proofs.YtomebalolmabnaaGreatDoor.T
open Go.Joins Go.ChangeShapes Go.WideShapes Go.ChangeAt Go.RowKit Go.Deep
set_option maxRecDepth 8000

section
variable {H : Type} {enc : TypeId × Value → H}
theorem ints_of {W : World} {base : Nat} {v : Value} {y : DataW H × List MemPlace} {n : Nat}
  (hf : DataW.trod enc Tryz.prog W base (fun _ => true) true n 42 [v] = some y) (hlt : ∀ x ∈ y.2, x.block < W.heap.size) :
  ∃ (oa : Option Addr) (c : Nat) (l : List Int), v = .slice oa l.length c ∧ L.Li W v l ∧ l.length ≤ 9223372036854775807 := by
 obtain ⟨y1, y2⟩ := y
 simp only at hlt
 rcases open_ints Tryz.underlying42 Tryz.underlying3 (by kernel_rfl) hf with ⟨hcs, hx⟩ | ⟨a, len, cap, zs, hcs, _, hl, hm, hzl, hx, hcell, hwz⟩
 ·simp only [List.cons.injEq, and_true] at hcs
  subst hcs
  exact ⟨none, 0, [], rfl, L.Li.nil W, by simp⟩
 ·simp only [List.cons.injEq, and_true] at hcs
  subst hcs
  simp only [if_true] at hzl
  simp only [Prod.mk.injEq] at hx
  have hln : (zs.take len).length = len := by rw [List.length_take, Nat.min_eq_left (by omega)]
  refine ⟨some a, cap, zs.take len, by rw [hln], ⟨some a, cap, by rw [hln], fun i hi => ?_⟩, by rw [hln]; unfold maxLen at hm; omega⟩
  rw [hln] at hi
  refine ⟨a, rfl, row_lt (q := []) (n := i) (by rw [List.append_nil]; exact hx.2) hlt (show i < zs.length by omega), ?_⟩
  rw [hcell i (by omega), List.getD_eq_getElem?_getD, List.getD_eq_getElem?_getD, List.getElem?_take_of_lt (by omega)]

theorem type_of {W : World} {base : Nat} {cs : List Value} {x : DataW H × List MemPlace} {n : Nat} (hlen : cs.length = 14)
  (hf : DataW.trod enc Tryz.prog W base (fun _ => true) true n 80 cs = some x) (hlt : ∀ p ∈ x.2, p.block < W.heap.size) :
  ∃ (q : TyT) (oa : Option Addr) (c : Nat), cs = [.string q.name, .int .i64 q.count, .int .i64 q.fr, .int .i64 q.to, .slice oa q.cap.length c, .int .i64 q.skills, .int .i64 q.prof, .int .i64 q.opn, .int .i64 q.cls, .int .i64 q.drv, .int .i64 q.rst, .int .i64 q.fix, .int .i64 q.pm, .int .i64 q.pt] ∧
   L.Li W (.slice oa q.cap.length c) q.cap ∧ q.cap.length ≤ 9223372036854775807 ∧ q.name.size ≤ 9223372036854775807 ∧ q.skills ≤ 9223372036854775807 := by
 have he : Tryz.prog.underlying 80 = some (.struct #[_, _, _, _, _, _, _, _, _, _, _, _, _, _]) := Tryz.underlying80
 obtain ⟨xs, n', _, hx, _, hxl, hg⟩ := DataW.trod_struct he hf
 match cs, hlen with
 | [v0, v1, v2, v3, v4, v5, v6, v7, v8, v9, v10, v11, v12, v13], _ =>
  match xs, hxl with
  | [y0, y1, y2, y3, y4, y5, y6, y7, y8, y9, y10, y11, y12, y13], _ =>
   have k0 := hg 0 _ rfl
   have k1 := hg 1 _ rfl
   have k2 := hg 2 _ rfl
   have k3 := hg 3 _ rfl
   have k4 := hg 4 _ rfl
   have k5 := hg 5 _ rfl
   have k6 := hg 6 _ rfl
   have k7 := hg 7 _ rfl
   have k8 := hg 8 _ rfl
   have k9 := hg 9 _ rfl
   have k10 := hg 10 _ rfl
   have k11 := hg 11 _ rfl
   have k12 := hg 12 _ rfl
   have k13 := hg 13 _ rfl
   have o1 : Tryz.prog.cellsOf 3 = 1 := by kernel_rfl
   have o2 : Tryz.prog.cellsOf 42 = 1 := by kernel_rfl
   have o3 : Tryz.prog.cellsOf 9 = 1 := by kernel_rfl
   simp [o1, o2, o3] at k0 k1 k2 k3 k4 k5 k6 k7 k8 k9 k10 k11 k12 k13
   obtain ⟨s0, e0, z0⟩ : ∃ s : ByteArray, v0 = .string s ∧ s.size ≤ maxLen := by
    obtain ⟨s, e0, _, hs⟩ := DataW.trod_string Tryz.underlying9 k0
    simp only [List.cons.injEq, and_true] at e0
    exact ⟨s, e0, hs⟩
   obtain ⟨q1, e1, _, _⟩ := DataW.trod_int Tryz.underlying3 k1
   obtain ⟨q2, e2, _, _⟩ := DataW.trod_int Tryz.underlying3 k2
   obtain ⟨q3, e3, _, _⟩ := DataW.trod_int Tryz.underlying3 k3
   obtain ⟨q5, e5, _, w5⟩ := DataW.trod_int Tryz.underlying3 k5
   obtain ⟨q6, e6, _, _⟩ := DataW.trod_int Tryz.underlying3 k6
   obtain ⟨q7, e7, _, _⟩ := DataW.trod_int Tryz.underlying3 k7
   obtain ⟨q8, e8, _, _⟩ := DataW.trod_int Tryz.underlying3 k8
   obtain ⟨q9, e9, _, _⟩ := DataW.trod_int Tryz.underlying3 k9
   obtain ⟨q10, e10, _, _⟩ := DataW.trod_int Tryz.underlying3 k10
   obtain ⟨q11, e11, _, _⟩ := DataW.trod_int Tryz.underlying3 k11
   obtain ⟨q12, e12, _, _⟩ := DataW.trod_int Tryz.underlying3 k12
   obtain ⟨q13, e13, _, _⟩ := DataW.trod_int Tryz.underlying3 k13
   simp only [List.cons.injEq, and_true] at e1 e2 e3 e5 e6 e7 e8 e9 e10 e11 e12 e13
   subst e0 e1 e2 e3 e5 e6 e7 e8 e9 e10 e11 e12 e13
   subst hx
   obtain ⟨oa, c, l, rfl, hl, hl9⟩ := ints_of k4 (fun p hp => hlt p (by simp; exact .inr (.inr (.inr (.inr (.inl hp))))))
   refine ⟨⟨s0, q1, q2, q3, l, q5, q6, q7, q8, q9, q10, q11, q12, q13⟩, oa, c, rfl, hl, hl9, by unfold maxLen at z0; exact z0, ?_⟩
   have := bounds_i64 w5
   exact this.2
end

end Go.Proofs.YtomebalolmabnaaGreatDoor.T




/-! Stops in memory, and what the functions of window answer, in plain numbers. -/
namespace Go.Proofs.YtomebalolmabnaaGreatDoor.V
open Go.RowKit
set_option maxRecDepth 8000

theorem ret_int {k : IntKind} {a b : Int} (h : a = b) : Ending.returned (.int k a) = .returned (.int k b) := by rw [h]
theorem ne_eqI {a b : Int} (h : a ≠ b) : ((a == b) = false) := by
 rw [beq_eq_false_iff_ne]; exact h
def noneB (p o c s : Int) : Bool := decide (p = -1 ∧ o = 0 ∧ c = 0 ∧ s = 0)
def atB (p o c s : Int) : Bool := decide (0 ≤ p ∧ 0 ≤ o ∧ o ≤ c ∧ c ≤ 4096 ∧ 0 ≤ s ∧ s ≤ 4096)
def chk (p o c s : Int) : Int := if noneB p o c s || atB p o c s then 0 else 2
theorem at_iff (p o c s : Int) : atB p o c s = true ↔ 0 ≤ p ∧ 0 ≤ o ∧ o ≤ c ∧ c ≤ 4096 ∧ 0 ≤ s ∧ s ≤ 4096 := by unfold atB; rw [decide_eq_true_iff]
theorem none_iff (p o c s : Int) : noneB p o c s = true ↔ p = -1 ∧ o = 0 ∧ c = 0 ∧ s = 0 := by unfold noneB; rw [decide_eq_true_iff]
theorem chk_at {p o c s : Int} (h : 0 ≤ p ∧ 0 ≤ o ∧ o ≤ c ∧ c ≤ 4096 ∧ 0 ≤ s ∧ s ≤ 4096) : chk p o c s = 0 := by
 unfold chk; rw [(at_iff p o c s).2 h, Bool.or_true]; rfl
theorem chk_none {p o c s : Int} (h : p = -1 ∧ o = 0 ∧ c = 0 ∧ s = 0) : chk p o c s = 0 := by
 unfold chk; rw [(none_iff p o c s).2 h, Bool.true_or]; rfl
theorem chk_no {p o c s : Int} (h : ¬ (p = -1 ∧ o = 0 ∧ c = 0 ∧ s = 0)) (h2 : ¬ (0 ≤ p ∧ 0 ≤ o ∧ o ≤ c ∧ c ≤ 4096 ∧ 0 ≤ s ∧ s ≤ 4096)) : chk p o c s = 2 := by
 unfold chk noneB atB; rw [decide_eq_false h, decide_eq_false h2]; rfl
end Go.Proofs.YtomebalolmabnaaGreatDoor.V




/-! The walk of the specification's Check. -/
namespace Go.Proofs.YtomebalolmabnaaGreatDoor.V
open Go.RowKit
set_option maxRecDepth 8000

set_option maxHeartbeats 800000 in
theorem refCheck_n (p o c s : Int) (w : World) : Calls Tryz.prog 67 #[.agg #[.int .i64 p, .int .i64 o, .int .i64 c, .int .i64 s]] w fun e w' => e = .returned (.int .i64 (chk p o c s)) ∧ Below w.heap.size w w' := by
 by_cases h0 : p = -1
 ·subst h0
  by_cases h1 : o = 0
  ·subst h1
   by_cases h2 : c = 0
   ·subst h2
    by_cases h3 : s = 0
    ·subst h3
     have HR : Hid (0 = chk (-1) 0 0 0) := (chk_none ⟨rfl, rfl, rfl, rfl⟩).symm
     generalize chk (-1) 0 0 0 = r at *
     go_enter Tryz.func67, Tryz.ntmps67
     go_wp2_with fail
     go_ret
     exact ⟨ret_int HR.out, by go_grown⟩
    ·have HR : Hid (2 = chk (-1) 0 0 s) := (chk_no (by omega) (by omega)).symm
     have e3 := ne_eqI h3
     generalize chk (-1) 0 0 s = r at *
     go_enter Tryz.func67, Tryz.ntmps67
     go_wp2_with fail
     go_ret
     exact ⟨ret_int HR.out, by go_grown⟩
   ·have HR : Hid (2 = chk (-1) 0 c s) := (chk_no (by omega) (by omega)).symm
    have e3 := ne_eqI h2
    generalize chk (-1) 0 c s = r at *
    go_enter Tryz.func67, Tryz.ntmps67
    go_wp2_with fail
    go_ret
    exact ⟨ret_int HR.out, by go_grown⟩
  ·have HR : Hid (2 = chk (-1) o c s) := (chk_no (by omega) (by omega)).symm
   have e3 := ne_eqI h1
   generalize chk (-1) o c s = r at *
   go_enter Tryz.func67, Tryz.ntmps67
   go_wp2_with fail
   go_ret
   exact ⟨ret_int HR.out, by go_grown⟩
 ·have e0 := ne_eqI h0
  by_cases h1 : p < 0
  ·have HR : Hid (2 = chk p o c s) := (chk_no (by omega) (by omega)).symm
   generalize chk p o c s = r at *
   go_enter Tryz.func67, Tryz.ntmps67
   go_wp2_with fail
   go_ret
   exact ⟨ret_int HR.out, by go_grown⟩
  ·by_cases h2 : o < 0
   ·have HR : Hid (2 = chk p o c s) := (chk_no (by omega) (by omega)).symm
    generalize chk p o c s = r at *
    go_enter Tryz.func67, Tryz.ntmps67
    go_wp2_with fail
    go_ret
    exact ⟨ret_int HR.out, by go_grown⟩
   ·by_cases h3 : c < o
    ·have HR : Hid (2 = chk p o c s) := (chk_no (by omega) (by omega)).symm
     generalize chk p o c s = r at *
     go_enter Tryz.func67, Tryz.ntmps67
     go_wp2_with fail
     go_ret
     exact ⟨ret_int HR.out, by go_grown⟩
    ·by_cases h4 : 4096 < c
     ·have HR : Hid (2 = chk p o c s) := (chk_no (by omega) (by omega)).symm
      generalize chk p o c s = r at *
      go_enter Tryz.func67, Tryz.ntmps67
      go_wp2_with fail
      go_ret
      exact ⟨ret_int HR.out, by go_grown⟩
     ·by_cases h5 : s < 0
      ·have HR : Hid (2 = chk p o c s) := (chk_no (by omega) (by omega)).symm
       generalize chk p o c s = r at *
       go_enter Tryz.func67, Tryz.ntmps67
       go_wp2_with fail
       go_ret
       exact ⟨ret_int HR.out, by go_grown⟩
      ·by_cases h6 : 4096 < s
       ·have HR : Hid (2 = chk p o c s) := (chk_no (by omega) (by omega)).symm
        generalize chk p o c s = r at *
        go_enter Tryz.func67, Tryz.ntmps67
        go_wp2_with fail
        go_ret
        exact ⟨ret_int HR.out, by go_grown⟩
       ·have HR : Hid (0 = chk p o c s) := (chk_at (by omega)).symm
        generalize chk p o c s = r at *
        go_enter Tryz.func67, Tryz.ntmps67
        go_wp2_with fail
        go_ret
        exact ⟨ret_int HR.out, by go_grown⟩

end Go.Proofs.YtomebalolmabnaaGreatDoor.V




/-! Plain Lean: sets of numbers from 0 to 62 as natural numbers. -/
namespace Go.Proofs.YtomebalolmabnaaGreatDoor.S

def has (n i : Nat) : Bool := n / 2 ^ i % 2 == 1
def mem (n k : Nat) : List Nat := (List.range k).filter (has n)
theorem mem_len (n k : Nat) : (mem n k).length ≤ k := by
 rw [mem]; exact Nat.le_trans (List.length_filter_le _ _) (by rw [List.length_range]; exact Nat.le_refl _)
end Go.Proofs.YtomebalolmabnaaGreatDoor.S




/-! The walks of lorryref06's Right, Fits, Same, even and of the laws' within, all. -/
namespace Go.Proofs.YtomebalolmabnaaGreatDoor.L
open Go.RowKit
set_option maxRecDepth 8000

theorem all_drop {l : List Int} {p : Int → Bool} {k : Nat} (h : k < l.length) : (l.drop k).all p = (p (l.getD k 0) && (l.drop (k + 1)).all p) := by
 rw [drop_more (d := 0) h, List.all_cons]

theorem refRight_len (l : List Int) (d : Int) (oa : Option Addr) (c : Nat) (h : (l.length : Int) ≠ d) (w : World) :
  Calls Tryz.prog 65 #[.slice oa l.length c, .int .i64 d] w fun e w' => e = .returned (.bool (rightB l d)) ∧ w = w' := by
 have HR : Hid (false = rightB l d) := by show _ = _; unfold rightB; rw [decide_eq_false h]; rfl
 have hne := ne_neI h
 generalize rightB l d = r at *
 generalize l.length = n at *
 go_enter Tryz.func65, Tryz.ntmps65
 go_wp2_with fail
 go_ret
 exact ⟨ret_bool HR.out, rfl⟩
theorem inRange_eq (x : Int) : inRange x = (decide (0 ≤ x) && decide (x ≤ 1000)) := rfl
theorem refRight_n (u : Value) (l : List Int) (d : Int) (hl9 : l.length ≤ 1000000000000000) (w : World) (hu : Li w u l) :
  Calls Tryz.prog 65 #[u, .int .i64 d] w fun e w' => e = .returned (.bool (rightB l d)) ∧ w = w' := by
 obtain ⟨oa, c, rfl, ha⟩ := hu
 by_cases h : (l.length : Int) = d
 ·subst h
  have HR : Hid (l.all inRange = rightB l l.length) := by show _ = _; unfold rightB; rw [decide_eq_true rfl]; rfl
  generalize rightB l l.length = r at *
  have HS := Lib.hid (fun k (h : k < l.length) => all_drop (p := inRange) h)
  have HE : Hid ((l.drop l.length).all inRange = true) := by show _ = _; rw [List.drop_length]; rfl
  have HA := Lib.hid ha
  generalize hn : l.length = n at *
  have hne : ((n : Int) != (n : Int)) = false := by simp
  clear ha hn
  go_enter Tryz.func65, Tryz.ntmps65
  go_wp2_with fail
  go_loop [5] (fun i => ∃ k : Nat, k ≤ n ∧ i = .int .i64 k ∧ Hid ((l.drop k).all inRange = r)) (fun i => n - (intOf i).toNat)
  case atStart => exact ⟨0, Nat.zero_le _, rfl, HR⟩
  case round =>
   clear HR
   obtain ⟨k, hk, rfl, HR⟩ := hrel
   by_cases hlt : k < n
   ·obtain ⟨ad, rfl, hab, hc⟩ := HA.out k hlt
    have HS2 := Lib.hid (HS.out k hlt)
    have HP2 := Lib.hid (inRange_eq (l.getD k 0))
    generalize l.getD k 0 = x at *
    by_cases h1 : x < 0
    ·have hf : Hid (false = r) := by show _ = _; rw [← HR.out, HS2.out, HP2.out]; simp; omega
     go_wp2_with fail
     go_ret
     exact ⟨ret_bool hf.out, rfl⟩
    ·by_cases h2 : 1000 < x
     ·have hf : Hid (false = r) := by show _ = _; rw [← HR.out, HS2.out, HP2.out]; simp; omega
      go_wp2_with fail
      go_ret
      exact ⟨ret_bool hf.out, rfl⟩
     ·have hf : Hid ((l.drop (k + 1)).all inRange = r) := by
       show _ = _
       rw [← HR.out, HS2.out, HP2.out, decide_eq_true (show 0 ≤ x by omega), decide_eq_true (show x ≤ 1000 by omega)]; rfl
      go_wp2_with fail
      go_round
      case rel => exact ⟨k + 1, by omega, by go_num, hf⟩
      case measure => simp [intOf]; omega
   ·have hk' : k = n := by omega
    subst hk'
    have hf : Hid (true = r) := by show _ = _; rw [← HR.out, HE.out]
    go_wp2_with fail
    go_ret
    exact ⟨ret_bool hf.out, rfl⟩
 ·exact refRight_len l d oa c h w

end Go.Proofs.YtomebalolmabnaaGreatDoor.L




/-! The walks of lorryref06's Add and Sub. -/
namespace Go.Proofs.YtomebalolmabnaaGreatDoor.L
open Go.RowKit
set_option maxRecDepth 8000

def Gn (B : Nat) (w : World) (v : Value) (n : Nat) (l : List Int) : Prop := w.ownsRow B 3 1 v n (l.map vi)
theorem Gn.own {B : Nat} {w : World} {v : Value} {n : Nat} {l : List Int} (h : Gn B w v n l) (e : n = l.length) : Own B w v l := by unfold Own; rw [← e]; exact h
theorem Gn.nil (B : Nat) (w : World) : Gn B w (.slice none 0 0) 0 [] := World.ownsRow_nil w B _ _
end Go.Proofs.YtomebalolmabnaaGreatDoor.L




/-! Orders in plain lists: what each function answers. -/
namespace Go.Proofs.YtomebalolmabnaaGreatDoor.T

structure OrT where
  name : ByteArray
  load : List Int
  pp : Int
  po : Int
  pc : Int
  ps : Int
  dp : Int
  dd : Int
  dc : Int
  ds : Int
  sk : Int
  pen : Int
  spl : Int
  las : Int
  now : Int
  off : Bool
deriving DecidableEq
def or0 : OrT := ⟨⟨#[]⟩, [], 0, 0, 0, 0, 0, 0, 0, 0, 0, 0, 0, 0, 0, false⟩
def inR (l : List OrT) (i : Int) : Bool := decide (0 ≤ i) && decide (i < l.length)
theorem inR_yes {l : List OrT} {i : Int} (h : inR l i = true) : ∃ k : Nat, i = k ∧ k < l.length := by
 unfold inR at h
 rw [Bool.and_eq_true, decide_eq_true_iff, decide_eq_true_iff] at h
 exact ⟨i.toNat, by omega, by omega⟩
structure StT where
  p : Int
  o : Int
  c : Int
  s : Int
deriving DecidableEq
def st0 : StT := ⟨0, 0, 0, 0⟩
def stQ (o : OrT) (d : Bool) : StT := if d then ⟨o.dp, o.dd, o.dc, o.ds⟩ else ⟨o.pp, o.po, o.pc, o.ps⟩
def stopE (l : List OrT) (i : Int) (d : Bool) : Int := if inR l i then (if (stQ (l.getD i.toNat or0) d).p < 0 then 19 else 0) else 2
def stopV (l : List OrT) (i : Int) (d : Bool) : StT := if inR l i then (if (stQ (l.getD i.toNat or0) d).p < 0 then st0 else stQ (l.getD i.toNat or0) d) else st0
end Go.Proofs.YtomebalolmabnaaGreatDoor.T




/-! Slices and blocks of orders (written by gen_ordrow.py). -/
namespace Go.Proofs.YtomebalolmabnaaGreatDoor.T
open Go.RowKit
set_option maxRecDepth 8000

def Oc (w : World) (b o : Nat) (a : OrT) (vc : Value) : Prop :=
  w.cell? ⟨b, o, none⟩ = some (.string a.name) ∧ w.cell? ⟨b, o + 1, none⟩ = some vc ∧ w.cell? ⟨b, o + 2, none⟩ = some (.int .i64 a.pp) ∧ w.cell? ⟨b, o + 3, none⟩ = some (.int .i64 a.po) ∧ w.cell? ⟨b, o + 4, none⟩ = some (.int .i64 a.pc) ∧ w.cell? ⟨b, o + 5, none⟩ = some (.int .i64 a.ps) ∧ w.cell? ⟨b, o + 6, none⟩ = some (.int .i64 a.dp) ∧ w.cell? ⟨b, o + 7, none⟩ = some (.int .i64 a.dd) ∧ w.cell? ⟨b, o + 8, none⟩ = some (.int .i64 a.dc) ∧ w.cell? ⟨b, o + 9, none⟩ = some (.int .i64 a.ds) ∧ w.cell? ⟨b, o + 10, none⟩ = some (.int .i64 a.sk) ∧ w.cell? ⟨b, o + 11, none⟩ = some (.int .i64 a.pen) ∧ w.cell? ⟨b, o + 12, none⟩ = some (.int .i64 a.spl) ∧ w.cell? ⟨b, o + 13, none⟩ = some (.int .i64 a.las) ∧ w.cell? ⟨b, o + 14, none⟩ = some (.int .i64 a.now) ∧ w.cell? ⟨b, o + 15, none⟩ = some (.bool a.off)
theorem Oc.below {w w' : World} {b o : Nat} {a : OrT} {vc : Value} (h : Oc w b o a vc) (hl : b < w.heap.size) (hb : Below w.heap.size w w') : Oc w' b o a vc := by
 obtain ⟨h0, h1, h2, h3, h4, h5, h6, h7, h8, h9, h10, h11, h12, h13, h14, h15⟩ := h
 exact ⟨(hb.cell (p := ⟨b, _, none⟩) hl).trans h0, (hb.cell (p := ⟨b, _, none⟩) hl).trans h1, (hb.cell (p := ⟨b, _, none⟩) hl).trans h2, (hb.cell (p := ⟨b, _, none⟩) hl).trans h3, (hb.cell (p := ⟨b, _, none⟩) hl).trans h4, (hb.cell (p := ⟨b, _, none⟩) hl).trans h5, (hb.cell (p := ⟨b, _, none⟩) hl).trans h6, (hb.cell (p := ⟨b, _, none⟩) hl).trans h7, (hb.cell (p := ⟨b, _, none⟩) hl).trans h8, (hb.cell (p := ⟨b, _, none⟩) hl).trans h9, (hb.cell (p := ⟨b, _, none⟩) hl).trans h10, (hb.cell (p := ⟨b, _, none⟩) hl).trans h11, (hb.cell (p := ⟨b, _, none⟩) hl).trans h12, (hb.cell (p := ⟨b, _, none⟩) hl).trans h13, (hb.cell (p := ⟨b, _, none⟩) hl).trans h14, (hb.cell (p := ⟨b, _, none⟩) hl).trans h15⟩
def Os (w : World) (v : Value) (l : List OrT) : Prop :=
  ∃ (oa : Option Addr) (c : Nat), v = .slice oa l.length c ∧ ∀ i, i < l.length → ∃ (b o : Nat) (vc : Value), oa = some ⟨b, o, none⟩ ∧ b < w.heap.size ∧ Oc w b (o + i * 16) (l.getD i or0) vc ∧ L.Li w vc (l.getD i or0).load
theorem Os.below {w w' : World} {v : Value} {l : List OrT} (h : Os w v l) (hb : Below w.heap.size w w') : Os w' v l := by
 obtain ⟨oa, c, hv, h⟩ := h
 refine ⟨oa, c, hv, fun i hi => ?_⟩
 obtain ⟨b, o, vc, ha, hl, hc, ht⟩ := h i hi
 exact ⟨b, o, vc, ha, Nat.lt_of_lt_of_le hl hb.size, hc.below hl hb, ht.below hb⟩
theorem Os.nil (w : World) : Os w (.slice none 0 0) [] := ⟨none, 0, rfl, fun i hi => by cases hi⟩

def Ob (w : World) (n : Nat) (x0 x1 x2 x3 x4 x5 x6 x7 x8 x9 x10 x11 x12 x13 x14 x15 : Value) : Prop := w.heap[n]? = some (.cells #[x0, x1, x2, x3, x4, x5, x6, x7, x8, x9, x10, x11, x12, x13, x14, x15] 78)
section
variable {w w' : World} {n : Nat} {x0 x1 x2 x3 x4 x5 x6 x7 x8 x9 x10 x11 x12 x13 x14 x15 : Value}
theorem Ob.c0 (h : Ob w n x0 x1 x2 x3 x4 x5 x6 x7 x8 x9 x10 x11 x12 x13 x14 x15) : w.cell? ⟨n, 0, none⟩ = some x0 := by unfold Ob at h; simp [World.cell?, h]
theorem Ob.c1 (h : Ob w n x0 x1 x2 x3 x4 x5 x6 x7 x8 x9 x10 x11 x12 x13 x14 x15) : w.cell? ⟨n, 1, none⟩ = some x1 := by unfold Ob at h; simp [World.cell?, h]
theorem Ob.c2 (h : Ob w n x0 x1 x2 x3 x4 x5 x6 x7 x8 x9 x10 x11 x12 x13 x14 x15) : w.cell? ⟨n, 2, none⟩ = some x2 := by unfold Ob at h; simp [World.cell?, h]
theorem Ob.c3 (h : Ob w n x0 x1 x2 x3 x4 x5 x6 x7 x8 x9 x10 x11 x12 x13 x14 x15) : w.cell? ⟨n, 3, none⟩ = some x3 := by unfold Ob at h; simp [World.cell?, h]
theorem Ob.c4 (h : Ob w n x0 x1 x2 x3 x4 x5 x6 x7 x8 x9 x10 x11 x12 x13 x14 x15) : w.cell? ⟨n, 4, none⟩ = some x4 := by unfold Ob at h; simp [World.cell?, h]
theorem Ob.c5 (h : Ob w n x0 x1 x2 x3 x4 x5 x6 x7 x8 x9 x10 x11 x12 x13 x14 x15) : w.cell? ⟨n, 5, none⟩ = some x5 := by unfold Ob at h; simp [World.cell?, h]
theorem Ob.c6 (h : Ob w n x0 x1 x2 x3 x4 x5 x6 x7 x8 x9 x10 x11 x12 x13 x14 x15) : w.cell? ⟨n, 6, none⟩ = some x6 := by unfold Ob at h; simp [World.cell?, h]
theorem Ob.c7 (h : Ob w n x0 x1 x2 x3 x4 x5 x6 x7 x8 x9 x10 x11 x12 x13 x14 x15) : w.cell? ⟨n, 7, none⟩ = some x7 := by unfold Ob at h; simp [World.cell?, h]
theorem Ob.c8 (h : Ob w n x0 x1 x2 x3 x4 x5 x6 x7 x8 x9 x10 x11 x12 x13 x14 x15) : w.cell? ⟨n, 8, none⟩ = some x8 := by unfold Ob at h; simp [World.cell?, h]
theorem Ob.c9 (h : Ob w n x0 x1 x2 x3 x4 x5 x6 x7 x8 x9 x10 x11 x12 x13 x14 x15) : w.cell? ⟨n, 9, none⟩ = some x9 := by unfold Ob at h; simp [World.cell?, h]
theorem Ob.c10 (h : Ob w n x0 x1 x2 x3 x4 x5 x6 x7 x8 x9 x10 x11 x12 x13 x14 x15) : w.cell? ⟨n, 10, none⟩ = some x10 := by unfold Ob at h; simp [World.cell?, h]
theorem Ob.c11 (h : Ob w n x0 x1 x2 x3 x4 x5 x6 x7 x8 x9 x10 x11 x12 x13 x14 x15) : w.cell? ⟨n, 11, none⟩ = some x11 := by unfold Ob at h; simp [World.cell?, h]
theorem Ob.c12 (h : Ob w n x0 x1 x2 x3 x4 x5 x6 x7 x8 x9 x10 x11 x12 x13 x14 x15) : w.cell? ⟨n, 12, none⟩ = some x12 := by unfold Ob at h; simp [World.cell?, h]
theorem Ob.c13 (h : Ob w n x0 x1 x2 x3 x4 x5 x6 x7 x8 x9 x10 x11 x12 x13 x14 x15) : w.cell? ⟨n, 13, none⟩ = some x13 := by unfold Ob at h; simp [World.cell?, h]
theorem Ob.c14 (h : Ob w n x0 x1 x2 x3 x4 x5 x6 x7 x8 x9 x10 x11 x12 x13 x14 x15) : w.cell? ⟨n, 14, none⟩ = some x14 := by unfold Ob at h; simp [World.cell?, h]
theorem Ob.f (h : Ob w n x0 x1 x2 x3 x4 x5 x6 x7 x8 x9 x10 x11 x12 x13 x14 x15) (k : Nat) : w.frozen? ⟨n, k, none⟩ = false := by unfold Ob at h; simp [World.frozen?, h]
theorem Ob.lt (h : Ob w n x0 x1 x2 x3 x4 x5 x6 x7 x8 x9 x10 x11 x12 x13 x14 x15) : n < w.heap.size := by
 apply Decidable.byContradiction
 intro hc
 unfold Ob at h
 rw [Array.getElem?_eq_none (by omega)] at h; cases h
theorem Ob.below (h : Ob w n x0 x1 x2 x3 x4 x5 x6 x7 x8 x9 x10 x11 x12 x13 x14 x15) (hb : Below w.heap.size w w') : Ob w' n x0 x1 x2 x3 x4 x5 x6 x7 x8 x9 x10 x11 x12 x13 x14 x15 := (hb.block n h.lt).trans h
theorem Ob.made (w : World) (x0 x1 x2 x3 x4 x5 x6 x7 x8 x9 x10 x11 x12 x13 x14 x15 : Value) : Ob (w.alloc (.cells #[x0, x1, x2, x3, x4, x5, x6, x7, x8, x9, x10, x11, x12, x13, x14, x15] 78)) w.heap.size x0 x1 x2 x3 x4 x5 x6 x7 x8 x9 x10 x11 x12 x13 x14 x15 := by
 show (w.heap.push _)[w.heap.size]? = _
 simp
end

end Go.Proofs.YtomebalolmabnaaGreatDoor.T




/-! Own lists of visits and of slices of int, appended to (out of layer 10's text: tools/mkordbase.py). -/
namespace Go.Proofs.YtomebalolmabnaaGreatDoor.T
open Go.RowKit
set_option maxRecDepth 8000

def vE (f : Int × Bool) : Value := .int .i64 f.1
def vA (f : Int × Bool) : Value := .bool f.2
end Go.Proofs.YtomebalolmabnaaGreatDoor.T




/-! The walks of the specification's in, Visits and Stop. -/
namespace Go.Proofs.YtomebalolmabnaaGreatDoor.T
open Go.RowKit
set_option maxRecDepth 8000

theorem in_n_O (x lo hi : Int) (w : World) : Calls Tryz.prog 66 #[.int .i64 x, .int .i64 lo, .int .i64 hi] w fun e w' => e = .returned (.bool (rgB lo hi x)) ∧ w = w' := by
 by_cases h1 : lo ≤ x
 ·have HR : Hid (decide (x ≤ hi) = rgB lo hi x) := by show _ = _; unfold rgB; rw [decide_eq_true h1, Bool.true_and]
  generalize rgB lo hi x = r at *
  go_enter Tryz.func66, Tryz.ntmps66
  go_wp2_with fail
  go_ret
  exact ⟨ret_bool HR.out, rfl⟩
 ·have HR : Hid (false = rgB lo hi x) := by show _ = _; unfold rgB; rw [decide_eq_false h1, Bool.false_and]
  have h2 : x < lo := by omega
  generalize rgB lo hi x = r at *
  go_enter Tryz.func66, Tryz.ntmps66
  go_wp2_with fail
  go_ret
  exact ⟨ret_bool HR.out, rfl⟩
def StopP (s : StT) (x : Int) (w : World) (e : Ending) (w' : World) : Prop := e = .returned (.tuple #[.agg #[.int .i64 s.p, .int .i64 s.o, .int .i64 s.c, .int .i64 s.s], .int .i64 x]) ∧ Below w.heap.size w w'

end Go.Proofs.YtomebalolmabnaaGreatDoor.T




/-! Slices of orders, an order and a visit by value, as arguments (written by gen_ordargs.py). -/
namespace Go.Proofs.YtomebalolmabnaaGreatDoor.T
open Go.Joins Go.ChangeShapes Go.WideShapes Go.ChangeAt Go.RowKit Go.Deep
set_option maxRecDepth 8000

section
variable {H : Type} {enc : TypeId × Value → H}
theorem stop_of {W : World} {base : Nat} {cs : List Value} {x : DataW H × List MemPlace} {n : Nat} (hlen : cs.length = 4)
  (hf : DataW.trod enc Tryz.prog W base (fun _ => true) true n 76 cs = some x) : ∃ p o c s : Int, cs = [.int .i64 p, .int .i64 o, .int .i64 c, .int .i64 s] := by
 have he : Tryz.prog.underlying 76 = some (.struct #[_, _, _, _]) := Tryz.underlying76
 obtain ⟨xs, n', _, hx, _, hxl, hg⟩ := DataW.trod_struct he hf
 match cs, hlen with
 | [v0, v1, v2, v3], _ =>
  match xs, hxl with
  | [y0, y1, y2, y3], _ =>
   have k0 := hg 0 _ rfl
   have k1 := hg 1 _ rfl
   have k2 := hg 2 _ rfl
   have k3 := hg 3 _ rfl
   have o1 : Tryz.prog.cellsOf 3 = 1 := by kernel_rfl
   simp [o1] at k0 k1 k2 k3
   obtain ⟨q0, e0, _, _⟩ := DataW.trod_int Tryz.underlying3 k0
   obtain ⟨q1, e1, _, _⟩ := DataW.trod_int Tryz.underlying3 k1
   obtain ⟨q2, e2, _, _⟩ := DataW.trod_int Tryz.underlying3 k2
   obtain ⟨q3, e3, _, _⟩ := DataW.trod_int Tryz.underlying3 k3
   simp only [List.cons.injEq, and_true] at e0 e1 e2 e3
   subst e0 e1 e2 e3
   exact ⟨_, _, _, _, rfl⟩
theorem order_of {W : World} {base : Nat} {cs : List Value} {x : DataW H × List MemPlace} {n : Nat} (hlen : cs.length = 16)
  (hf : DataW.trod enc Tryz.prog W base (fun _ => true) true n 78 cs = some x) (hlt : ∀ p ∈ x.2, p.block < W.heap.size) :
  ∃ (q : OrT) (oa : Option Addr) (c : Nat), cs = [.string q.name, .slice oa q.load.length c, .int .i64 q.pp, .int .i64 q.po, .int .i64 q.pc, .int .i64 q.ps, .int .i64 q.dp, .int .i64 q.dd, .int .i64 q.dc, .int .i64 q.ds, .int .i64 q.sk, .int .i64 q.pen, .int .i64 q.spl, .int .i64 q.las, .int .i64 q.now, .bool q.off] ∧
   L.Li W (.slice oa q.load.length c) q.load ∧ q.load.length ≤ 9223372036854775807 ∧ q.name.size ≤ 9223372036854775807 := by
 have he : Tryz.prog.underlying 78 = some (.struct #[_, _, _, _, _, _, _, _, _, _]) := Tryz.underlying78
 obtain ⟨xs, n', _, hx, _, hxl, hg⟩ := DataW.trod_struct he hf
 match cs, hlen with
 | [v0, v1, v2, v3, v4, v5, v6, v7, v8, v9, v10, v11, v12, v13, v14, v15], _ =>
  match xs, hxl with
  | [y0, y1, y2, y3, y4, y5, y6, y7, y8, y9], _ =>
   have k0 := hg 0 _ rfl
   have k1 := hg 1 _ rfl
   have k2 := hg 2 _ rfl
   have k3 := hg 3 _ rfl
   have k4 := hg 4 _ rfl
   have k5 := hg 5 _ rfl
   have k6 := hg 6 _ rfl
   have k7 := hg 7 _ rfl
   have k8 := hg 8 _ rfl
   have k9 := hg 9 _ rfl
   have o1 : Tryz.prog.cellsOf 3 = 1 := by kernel_rfl
   have o2 : Tryz.prog.cellsOf 42 = 1 := by kernel_rfl
   have o3 : Tryz.prog.cellsOf 9 = 1 := by kernel_rfl
   have o4 : Tryz.prog.cellsOf 76 = 4 := by kernel_rfl
   have o5 : Tryz.prog.cellsOf 4 = 1 := by kernel_rfl
   simp [o1, o2, o3, o4, o5] at k0 k1 k2 k3 k4 k5 k6 k7 k8 k9
   obtain ⟨s0, e0, z0⟩ : ∃ s : ByteArray, v0 = .string s ∧ s.size ≤ maxLen := by
    obtain ⟨s, e0, _, hs⟩ := DataW.trod_string Tryz.underlying9 k0
    simp only [List.cons.injEq, and_true] at e0
    exact ⟨s, e0, hs⟩
   obtain ⟨p0, p1, p2, p3, e2⟩ := stop_of rfl k2
   obtain ⟨r0, r1, r2, r3, e3⟩ := stop_of rfl k3
   obtain ⟨q4, e4, _, _⟩ := DataW.trod_int Tryz.underlying3 k4
   obtain ⟨q5, e5, _, _⟩ := DataW.trod_int Tryz.underlying3 k5
   obtain ⟨q6, e6, _, _⟩ := DataW.trod_int Tryz.underlying3 k6
   obtain ⟨q7, e7, _, _⟩ := DataW.trod_int Tryz.underlying3 k7
   obtain ⟨q8, e8, _, _⟩ := DataW.trod_int Tryz.underlying3 k8
   obtain ⟨q9, e9, _⟩ := DataW.trod_bool Tryz.underlying4 k9
   simp only [List.cons.injEq, and_true] at e2 e3 e4 e5 e6 e7 e8 e9
   obtain ⟨e20, e21, e22, e23⟩ := e2
   obtain ⟨e30, e31, e32, e33⟩ := e3
   subst e0 e20 e21 e22 e23 e30 e31 e32 e33 e4 e5 e6 e7 e8 e9
   subst hx
   obtain ⟨oa, c, l, rfl, hl, hl9⟩ := ints_of k1 (fun p hp => hlt p (by simp; exact .inr (.inl hp)))
   exact ⟨⟨s0, l, p0, p1, p2, p3, r0, r1, r2, r3, q4, q5, q6, q7, q8, q9⟩, oa, c, rfl, hl, hl9, by unfold maxLen at z0; exact z0⟩
end

end Go.Proofs.YtomebalolmabnaaGreatDoor.T




