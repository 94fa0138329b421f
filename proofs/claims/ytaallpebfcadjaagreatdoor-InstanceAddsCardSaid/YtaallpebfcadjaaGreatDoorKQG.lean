/-
  DERIVED. KQG: a part of the base of layer 13 (made by pack.py).
-/
import Derived.Test.YtaallpebfcadjaaGreatDoorKQD
import Derived.Test.YtaallpebfcadjaaGreatDoorKQE
import Derived.Test.YtaallpebfcadjaaGreatDoorKPX
import Derived.Test.YtaallpebfcadjaaGreatDoorKPK
import Derived.Test.YtaallpebfcadjaaGreatDoorKQA
import Derived.Laws.StructEq
import Derived.ChangeKeysEq
import Derived.Test.YtaallpebfcadjaaGreatDoorKPH
import Derived.ProofKit
import Derived.LaidMore
import Derived.ChangeSlices
import Derived.SliceStrings
import Derived.Carry
import Derived.OpenShut
import Derived.Deep.SlicePairs
import Derived.Deep.Slices
import Derived.Deep.Fields
import Derived.Lib.SmallJoins
import Derived.Maps.AppendAt
import Derived.Lib.ItoaNum
import Derived.WalkKit
import Derived.WalkSpells
import Derived.WalkLawsBesides
import Derived.WalkMore
import Derived.Below
import Derived.OwnWalk
import Derived.IntWalk
import Derived.Laws.OwnMore
import Derived.Laws.AppendOwn
import Derived.Deep.AppendLies
import Derived.Deep.Draws
import Derived.Deep.QuietTactic
import Derived.Deep.RegionLaw
import Derived.Deep.RegionWith
import Derived.BigQuiet
import Derived.Lib.Hide
import Derived.WalkSmall
import Derived.Deep.Onto
import Derived.Deep.LoopGhost
import Derived.Handy
import Derived.Deep.RegionHeld3
import Derived.Laws.AppendOwnNone
import Derived.Deep.DeepCutAuto
import Derived.Deep.Cut
import Derived.Deep.CutRange
import Derived.Test.YtaallpebfcadjaaGreatDoorShelf
import Derived.RangeFuncBox
import Derived.RangeFuncNested
import Derived.RangeFuncBound
import Derived.RangeFuncCalls
import Derived.RangeFuncLeaves
import Derived.Shelf.Abstract
import Derived.Shelf.RegionOpen
import Derived.OwnWalkIn
import Derived.TacticsInMore
import Derived.LoopNIn
import Derived.LoopIn
import Derived.Maps.OwnSet
import Derived.DeepKeys4
import Derived.Lib.SliceRun
import Derived.Test.YtaallpebfcadjaaGreatDoorKPR
/-! Which instances are small: the walk of lorrylaw13's Small (written by gen_small.py). -/
namespace Go.Proofs.YtaallpebfcadjaaGreatDoor.T
open Go.RowKit
set_option maxRecDepth 8000

def smlA (a : ArcT) : Bool := decide (a.tr.length ≤ 20) && decide (a.sl.length ≤ 20)
def smlT (t : TyT) : Bool := decide (t.cap.length ≤ 6)
def smlO (o : OrT) : Bool := decide (o.load.length ≤ 6)
def smlN (x : InT) : Bool := decide (x.pl.length ≤ 12) && (decide (x.al.length ≤ 60) && (decide (x.tl.length ≤ 8) && (decide (x.ol.length ≤ 12) && (decide (x.ap.length ≤ 24) && decide (x.be.length ≤ 24)))))
/-- is an instance small? -/
def smlB (x : InT) : Bool := smlN x && (x.al.all smlA && (x.tl.all smlT && x.ol.all smlO))
theorem sml_yes {α : Type} {p : α → Bool} {l : List α} {d : α} (h : ∀ i, i < l.length → p (l.getD i d) = true) : l.all p = true := List.all_eq_true.2 fun x hx => by
  obtain ⟨i, hi, rfl⟩ := List.getElem_of_mem hx
  have := h i hi
  rwa [List.getD_eq_getElem?_getD, List.getElem?_eq_getElem hi] at this
theorem sml_no {α : Type} {p : α → Bool} {l : List α} {d : α} {i : Nat} (hi : i < l.length) (h : p (l.getD i d) = false) : l.all p = false := by
  cases ha : l.all p
  · rfl
  · have := List.all_eq_true.1 ha (l.getD i d) (getD_mem hi)
    rw [h] at this; cases this
theorem less_mor {P : Nat → Prop} {k : Nat} (h : ∀ i, i < k → P i) (hk : P k) : ∀ i, i < k + 1 → P i := fun i hi => by
  by_cases e : i = k
  · subst e; exact hk
  · exact h i (by omega)
set_option maxHeartbeats 6400000 in
theorem small_n (o0 o1 o2 o3 o4 o5 : Option Addr) (c0 c1 c2 c3 c4 c5 : Nat) (x : InT) (w : World) (h1 : As w (.slice o1 x.al.length c1) x.al) (h2 : Ts w (.slice o2 x.tl.length c2) x.tl) (h3 : Os w (.slice o3 x.ol.length c3) x.ol) :
    Calls Tryz.prog 8 #[inV (.slice o0 x.pl.length c0) (.slice o1 x.al.length c1) (.slice o2 x.tl.length c2) (.slice o3 x.ol.length c3) (.slice o4 x.ap.length c4) (.slice o5 x.be.length c5)] w fun e w' => e = .returned (.bool (smlB x)) ∧ Below w.heap.size w w' := by
  have BI := below_alloc w (.cells #[.slice o0 x.pl.length c0, .slice o1 x.al.length c1, .slice o2 x.tl.length c2, .slice o3 x.ol.length c3, .slice o4 x.ap.length c4, .slice o5 x.be.length c5] 30)
  have I0 := Ib.made w (.slice o0 x.pl.length c0) (.slice o1 x.al.length c1) (.slice o2 x.tl.length c2) (.slice o3 x.ol.length c3) (.slice o4 x.ap.length c4) (.slice o5 x.be.length c5)
  have H1 := Lib.hid (h1.below BI)
  have H2 := Lib.hid (h2.below BI)
  have H3 := Lib.hid (h3.below BI)
  have HB := Lib.hid BI
  have i0 := I0.c0
  have i1 := I0.c1
  have i2 := I0.c2
  have i3 := I0.c3
  have i4 := I0.c4
  have i5 := I0.c5
  obtain ⟨W0, hW0⟩ : ∃ W0, w.alloc (.cells #[.slice o0 x.pl.length c0, .slice o1 x.al.length c1, .slice o2 x.tl.length c2, .slice o3 x.ol.length c3, .slice o4 x.ap.length c4, .slice o5 x.be.length c5] 30) = W0 := ⟨_, rfl⟩
  rw [hW0] at H1 H2 H3 HB i0 i1 i2 i3 i4 i5
  have HW0 := Lib.hid hW0
  clear BI I0 h1 h2 h3 hW0
  have HE : Hid ((smlN x && (x.al.all smlA && (x.tl.all smlT && x.ol.all smlO))) = smlB x) := rfl
  have HN : Hid (smlN x = (decide (x.pl.length ≤ 12) && (decide (x.al.length ≤ 60) && (decide (x.tl.length ≤ 8) && (decide (x.ol.length ≤ 12) && (decide (x.ap.length ≤ 24) && decide (x.be.length ≤ 24))))))) := rfl
  have HA1 : Hid (∀ i, i < x.al.length → smlA (x.al.getD i arc0) = false → x.al.all smlA = false) := fun i hi h => sml_no hi h
  have HA2 : Hid ((∀ i, i < x.al.length → smlA (x.al.getD i arc0) = true) → x.al.all smlA = true) := fun h => sml_yes h
  have HT1 : Hid (∀ i, i < x.tl.length → smlT (x.tl.getD i ty0) = false → x.tl.all smlT = false) := fun i hi h => sml_no hi h
  have HT2 : Hid ((∀ i, i < x.tl.length → smlT (x.tl.getD i ty0) = true) → x.tl.all smlT = true) := fun h => sml_yes h
  have HO1 : Hid (∀ i, i < x.ol.length → smlO (x.ol.getD i or0) = false → x.ol.all smlO = false) := fun i hi h => sml_no hi h
  have HO2 : Hid ((∀ i, i < x.ol.length → smlO (x.ol.getD i or0) = true) → x.ol.all smlO = true) := fun h => sml_yes h
  obtain ⟨pl, al, tl, ol, ap, be⟩ := x
  simp only at *
  unfold inV
  generalize smlB ⟨pl, al, tl, ol, ap, be⟩ = r at *
  generalize smlN ⟨pl, al, tl, ol, ap, be⟩ = r0 at *
  generalize al.all smlA = r1 at *
  generalize tl.all smlT = r2 at *
  generalize ol.all smlO = r3 at *
  generalize pl.length = n0 at *
  generalize ha : al.length = n1 at *
  generalize ht : tl.length = n2 at *
  generalize ho : ol.length = n3 at *
  generalize ap.length = n4 at *
  generalize be.length = n5 at *
  have HAl := Lib.hid ha
  have HTl := Lib.hid ht
  have HOl := Lib.hid ho
  clear ha ht ho
  by_cases g0 : n0 ≤ 12
  · have g0I : ¬ (12 : Int) < (n0 : Int) := by omega
    have g0D : decide ((12 : Int) < (n0 : Int)) = false := decide_eq_false g0I
    by_cases g1 : n1 ≤ 60
    · have g1I : ¬ (60 : Int) < (n1 : Int) := by omega
      have g1D : decide ((60 : Int) < (n1 : Int)) = false := decide_eq_false g1I
      by_cases g2 : n2 ≤ 8
      · have g2I : ¬ (8 : Int) < (n2 : Int) := by omega
        have g2D : decide ((8 : Int) < (n2 : Int)) = false := decide_eq_false g2I
        by_cases g3 : n3 ≤ 12
        · have g3I : ¬ (12 : Int) < (n3 : Int) := by omega
          have g3D : decide ((12 : Int) < (n3 : Int)) = false := decide_eq_false g3I
          by_cases g4 : n4 ≤ 24
          · have g4I : ¬ (24 : Int) < (n4 : Int) := by omega
            have g4D : decide ((24 : Int) < (n4 : Int)) = false := decide_eq_false g4I
            by_cases g5 : n5 ≤ 24
            · have g5I : ¬ (24 : Int) < (n5 : Int) := by omega
              have g5D : decide ((24 : Int) < (n5 : Int)) = false := decide_eq_false g5I
              have HN1 : Hid (r0 = true) := by show _ = _; rw [HN.out, decide_eq_true g0, decide_eq_true g1, decide_eq_true g2, decide_eq_true g3, decide_eq_true g4, decide_eq_true g5]; rfl
              have HE1 : Hid ((r1 && (r2 && r3)) = r) := by show _ = _; rw [← HE.out, HN1.out]; rfl
              clear HN HE HN1
              go_enter Tryz.func8, Tryz.ntmps8
              go_upto_region 1 with fail
              rw [HW0.out]
              go_wp2_with fail
              go_loopg [3] n1 (fun g j wr => ∃ k : Nat, k ≤ n1 ∧ j = .int .i64 k ∧ n1 - k ≤ g ∧ Hid (∀ i, i < k → smlA (al.getD i arc0) = true) ∧ W0 = wr)
              case atStart => exact ⟨0, Nat.zero_le _, rfl, Nat.le_refl _, fun i hi => absurd hi (Nat.not_lt_zero _), rfl⟩
              case round =>
                obtain ⟨k, hk, rfl, hg, HK, rfl⟩ := hrel
                by_cases hlt : k < n1
                · have hkI : (k : Int) < (n1 : Int) := by omega
                  obtain ⟨oa', c', hoa, has⟩ := H1.out
                  simp only [Value.slice.injEq] at hoa
                  obtain ⟨rfl, -, rfl⟩ := hoa
                  obtain ⟨b, o, vt, vs, rfl, hab, hac, hpt, hps⟩ := has k (by rw [HAl.out]; exact hlt)
                  obtain ⟨k0, k1, k2, k3, k4, k5⟩ := hac
                  obtain ⟨ot, ct, rfl, -⟩ := hpt
                  obtain ⟨os, cs, rfl, -⟩ := hps
                  have HA1k := Lib.hid (HA1.out k hlt)
                  have HKm := Lib.hid (fun h => less_mor (k := k) HK.out h)
                  have HSa : Hid (smlA (al.getD k arc0) = (decide ((al.getD k arc0).tr.length ≤ 20) && decide ((al.getD k arc0).sl.length ≤ 20))) := rfl
                  generalize smlA (al.getD k arc0) = sa at *
                  generalize al.getD k arc0 = a at *
                  generalize a.tr.length = m1 at *
                  generalize a.sl.length = m2 at *
                  clear has k0 k1 k2 k3
                  by_cases e1 : m1 ≤ 20
                  · have e1I : ¬ (20 : Int) < (m1 : Int) := by omega
                    have e1D : decide ((20 : Int) < (m1 : Int)) = false := decide_eq_false e1I
                    by_cases e2 : m2 ≤ 20
                    · have e2I : ¬ (20 : Int) < (m2 : Int) := by omega
                      have HK2 := Lib.hid (HKm.out (by rw [HSa.out, decide_eq_true e1, decide_eq_true e2]; rfl))
                      go_wp2_with fail
                      go_roundg (n1 - (k + 1))
                      case measure => omega
                      case rel => exact ⟨k + 1, by omega, by go_num, by omega, HK2, rfl⟩
                    · have e2I : (20 : Int) < (m2 : Int) := by omega
                      have HX : Hid (r = false) := by show _ = _; rw [← HE1.out, HA1k.out (by rw [HSa.out, decide_eq_false e2, Bool.and_false])]; rfl
                      go_wp2_with fail
                      go_ret
                      exact ⟨ret_bool (by rw [HX.out]), HB.out⟩
                  · have e1I : (20 : Int) < (m1 : Int) := by omega
                    have HX : Hid (r = false) := by show _ = _; rw [← HE1.out, HA1k.out (by rw [HSa.out, decide_eq_false e1]; rfl)]; rfl
                    go_wp2_with fail
                    go_ret
                    exact ⟨ret_bool (by rw [HX.out]), HB.out⟩
                · have hkk : k = n1 := by omega
                  have hkI : ¬ (k : Int) < (n1 : Int) := by omega
                  have HE2 : Hid ((r2 && r3) = r) := by show _ = _; rw [← HE1.out, HA2.out (by rw [← hkk]; exact HK.out)]; rfl
                  clear HA1 HA2 HE1 HK H1 hkk
                  go_wp2_with fail
                  go_loopg [4] n2 (fun g j wr => ∃ k : Nat, k ≤ n2 ∧ j = .int .i64 k ∧ n2 - k ≤ g ∧ Hid (∀ i, i < k → smlT (tl.getD i ty0) = true) ∧ W0 = wr)
                  case atStart => exact ⟨0, Nat.zero_le _, rfl, Nat.le_refl _, fun i hi => absurd hi (Nat.not_lt_zero _), rfl⟩
                  case round =>
                    obtain ⟨k, hk, rfl, hg, HK, rfl⟩ := hrel
                    by_cases hlt : k < n2
                    · have hkI : (k : Int) < (n2 : Int) := by omega
                      obtain ⟨oa', c', hoa, has⟩ := H2.out
                      simp only [Value.slice.injEq] at hoa
                      obtain ⟨rfl, -, rfl⟩ := hoa
                      obtain ⟨b, o, vc, rfl, hab, hac, hli⟩ := has k (by rw [HTl.out]; exact hlt)
                      obtain ⟨k0, k1, k2, k3, k4, k5, k6, k7, k8, k9, k10, k11, k12, k13⟩ := hac
                      obtain ⟨ot, ct, rfl, -⟩ := hli
                      have HNk := Lib.hid (HT1.out k hlt)
                      have HKm := Lib.hid (fun h => less_mor (k := k) HK.out h)
                      have HSa : Hid (smlT (tl.getD k ty0) = decide ((tl.getD k ty0).cap.length ≤ 6)) := rfl
                      generalize smlT (tl.getD k ty0) = sa at *
                      generalize tl.getD k ty0 = a at *
                      generalize a.cap.length = m1 at *
                      clear has
                      by_cases e1 : m1 ≤ 6
                      · have e1I : ¬ (6 : Int) < (m1 : Int) := by omega
                        have HK2 := Lib.hid (HKm.out (by rw [HSa.out, decide_eq_true e1]))
                        go_wp2_with fail
                        go_roundg (n2 - (k + 1))
                        case measure => omega
                        case rel => exact ⟨k + 1, by omega, by go_num, by omega, HK2, rfl⟩
                      · have e1I : (6 : Int) < (m1 : Int) := by omega
                        have HX : Hid (r = false) := by show _ = _; rw [← HE2.out, HNk.out (by rw [HSa.out, decide_eq_false e1])]; rfl
                        go_wp2_with fail
                        go_ret
                        exact ⟨ret_bool (by rw [HX.out]), HB.out⟩
                    · have hkk : k = n2 := by omega
                      have hkI : ¬ (k : Int) < (n2 : Int) := by omega
                      have HE3 : Hid (r3 = r) := by show _ = _; rw [← HE2.out, HT2.out (by rw [← hkk]; exact HK.out)]; rfl
                      clear HT1 HT2 HE2 HK H2 hkk
                      go_wp2_with fail
                      go_loopg [5] n3 (fun g j wr => ∃ k : Nat, k ≤ n3 ∧ j = .int .i64 k ∧ n3 - k ≤ g ∧ Hid (∀ i, i < k → smlO (ol.getD i or0) = true) ∧ W0 = wr)
                      case atStart => exact ⟨0, Nat.zero_le _, rfl, Nat.le_refl _, fun i hi => absurd hi (Nat.not_lt_zero _), rfl⟩
                      case round =>
                        obtain ⟨k, hk, rfl, hg, HK, rfl⟩ := hrel
                        by_cases hlt : k < n3
                        · have hkI : (k : Int) < (n3 : Int) := by omega
                          obtain ⟨oa', c', hoa, has⟩ := H3.out
                          simp only [Value.slice.injEq] at hoa
                          obtain ⟨rfl, -, rfl⟩ := hoa
                          obtain ⟨b, o, vc, rfl, hab, hac, hli⟩ := has k (by rw [HOl.out]; exact hlt)
                          obtain ⟨k0, k1, k2, k3, k4, k5, k6, k7, k8, k9, k10, k11, k12, k13, k14, k15⟩ := hac
                          obtain ⟨ot, ct, rfl, -⟩ := hli
                          have HNk := Lib.hid (HO1.out k hlt)
                          have HKm := Lib.hid (fun h => less_mor (k := k) HK.out h)
                          have HSa : Hid (smlO (ol.getD k or0) = decide ((ol.getD k or0).load.length ≤ 6)) := rfl
                          generalize smlO (ol.getD k or0) = sa at *
                          generalize ol.getD k or0 = a at *
                          generalize a.load.length = m1 at *
                          clear has
                          by_cases e1 : m1 ≤ 6
                          · have e1I : ¬ (6 : Int) < (m1 : Int) := by omega
                            have HK2 := Lib.hid (HKm.out (by rw [HSa.out, decide_eq_true e1]))
                            go_wp2_with fail
                            go_roundg (n3 - (k + 1))
                            case measure => omega
                            case rel => exact ⟨k + 1, by omega, by go_num, by omega, HK2, rfl⟩
                          · have e1I : (6 : Int) < (m1 : Int) := by omega
                            have HX : Hid (r = false) := by show _ = _; rw [← HE3.out, HNk.out (by rw [HSa.out, decide_eq_false e1])]
                            go_wp2_with fail
                            go_ret
                            exact ⟨ret_bool (by rw [HX.out]), HB.out⟩
                        · have hkk : k = n3 := by omega
                          have hkI : ¬ (k : Int) < (n3 : Int) := by omega
                          have HE4 : Hid (true = r) := by show _ = _; rw [← HE3.out, HO2.out (by rw [← hkk]; exact HK.out)]
                          clear HO1 HO2 HE3 HK H3 hkk
                          go_wp2_with fail
                          go_ret
                          exact ⟨ret_bool HE4.out, HB.out⟩
            · have g5I : (24 : Int) < (n5 : Int) := by omega
              have HX : Hid (r = false) := by show _ = _; rw [← HE.out, HN.out, decide_eq_false g5]; simp
              go_enter Tryz.func8, Tryz.ntmps8
              go_upto_region 1 with fail
              rw [HW0.out]
              go_wp2_with fail
              go_ret
              exact ⟨ret_bool (by rw [HX.out]), HB.out⟩
          · have g4I : (24 : Int) < (n4 : Int) := by omega
            have HX : Hid (r = false) := by show _ = _; rw [← HE.out, HN.out, decide_eq_false g4]; simp
            go_enter Tryz.func8, Tryz.ntmps8
            go_upto_region 1 with fail
            rw [HW0.out]
            go_wp2_with fail
            go_ret
            exact ⟨ret_bool (by rw [HX.out]), HB.out⟩
        · have g3I : (12 : Int) < (n3 : Int) := by omega
          have HX : Hid (r = false) := by show _ = _; rw [← HE.out, HN.out, decide_eq_false g3]; simp
          go_enter Tryz.func8, Tryz.ntmps8
          go_upto_region 1 with fail
          rw [HW0.out]
          go_wp2_with fail
          go_ret
          exact ⟨ret_bool (by rw [HX.out]), HB.out⟩
      · have g2I : (8 : Int) < (n2 : Int) := by omega
        have HX : Hid (r = false) := by show _ = _; rw [← HE.out, HN.out, decide_eq_false g2]; simp
        go_enter Tryz.func8, Tryz.ntmps8
        go_upto_region 1 with fail
        rw [HW0.out]
        go_wp2_with fail
        go_ret
        exact ⟨ret_bool (by rw [HX.out]), HB.out⟩
    · have g1I : (60 : Int) < (n1 : Int) := by omega
      have HX : Hid (r = false) := by show _ = _; rw [← HE.out, HN.out, decide_eq_false g1]; simp
      go_enter Tryz.func8, Tryz.ntmps8
      go_upto_region 1 with fail
      rw [HW0.out]
      go_wp2_with fail
      go_ret
      exact ⟨ret_bool (by rw [HX.out]), HB.out⟩
  · have g0I : (12 : Int) < (n0 : Int) := by omega
    have HX : Hid (r = false) := by show _ = _; rw [← HE.out, HN.out, decide_eq_false g0]; simp
    go_enter Tryz.func8, Tryz.ntmps8
    go_upto_region 1 with fail
    rw [HW0.out]
    go_wp2_with fail
    go_ret
    exact ⟨ret_bool (by rw [HX.out]), HB.out⟩

end Go.Proofs.YtaallpebfcadjaaGreatDoor.T


/-! The walks of lorryref13's All and Must (written by gen_refin3.py). -/
namespace Go.Proofs.YtaallpebfcadjaaGreatDoor.T
open Go.RowKit
set_option maxRecDepth 8000

def allP (l : List OrT) (i : Nat) : Bool := !(l.getD i or0).off
def mustP (l : List OrT) (i : Nat) : Bool := !(l.getD i or0).off && (l.getD i or0).pen == -1
/-- all orders that are not cancelled -/
def allN (l : List OrT) : Nat := U.ofB (allP l) l.length
/-- those that must be served -/
def mustN (l : List OrT) : Nat := U.ofB (mustP l) l.length
theorem ofb_yes {p : Nat → Bool} {k : Nat} (h : p k = true) : U.ofB p (k + 1) = U.ofB p k + 2 ^ k := by rw [U.ofB, if_pos h]
theorem ofb_no {p : Nat → Bool} {k : Nat} (h : p k = false) : U.ofB p (k + 1) = U.ofB p k := by rw [U.ofB, if_neg (by rw [h]; simp)]
theorem pow40 {k : Nat} (h : k ≤ 40) : 2 ^ k ≤ 1099511627776 := Nat.le_trans (Nat.pow_le_pow_right (by omega) h) (by decide)
end Go.Proofs.YtaallpebfcadjaaGreatDoor.T


/-! The walks of lorryref13's points and pairs (written by gen_refin4.py). -/
namespace Go.Proofs.YtaallpebfcadjaaGreatDoor.T
open Go.RowKit
set_option maxRecDepth 8000

theorem neqPr (a b c d : Int) (w : World) : (binOp .neq 75 (.agg #[.int .i64 a, .int .i64 b]) (.agg #[.int .i64 c, .int .i64 d])).run Tryz.prog w = .ok (.bool (!(a == c && b == d))) w := by
  have hi0 : (Tryz.prog.info? 3).isSome = true := by kernel_rfl
  obtain ⟨i, hi⟩ := Option.isSome_iff_exists.1 hi0
  have hc : Tryz.prog.cellsOf 3 = 1 := by kernel_rfl
  rw [run_neq_struct, show (10000 : Nat) = 9998 + 1 + 1 from rfl, run_equalIn_array w _ _ _ Tryz.underlying75 hi, hc,
    eqItems_ints (by kernel_rfl) Tryz.underlying3 9998 _ _ (fun i => [a, b].getD i 0) (fun i => [c, d].getD i 0) w (List.range 2)
      (fun i hi => by
        have h := List.mem_range.1 hi
        match i, h with
        | 0, _ => exact ⟨rfl, rfl⟩
        | 1, _ => exact ⟨rfl, rfl⟩)]
  show Result.ok (Value.bool (!(a == c && (b == d && true)))) w = _
  rw [Bool.and_true]
theorem neqPt (a b c d : Int) (w : World) : (binOp .neq 105 (.agg #[.int .i64 a, .int .i64 b]) (.agg #[.int .i64 c, .int .i64 d])).run Tryz.prog w = .ok (.bool (!(a == c && b == d))) w := by
  have hS : Tryz.prog.underlying 105 = some (.struct (Tryz.prog.fieldsOf 105)) := by kernel_rfl
  have hp : Tryz.prog.stoodInHeld 105 = false := by kernel_rfl
  have u3 := Tryz.underlying3
  have a3 := Tryz.isAgg3
  have z3 := Tryz.sizeOf3
  by_cases h1 : a = c
  · by_cases h2 : b = d
    · subst h1 h2
      rw [run_neq_struct, show (10000 : Nat) = 9999 + 1 from rfl, run_equalIn_agg w 9999 105 _ _ hS hp]
      simp only [Program.fieldsOf, Tryz.underlying105]
      go_simp
    · have e2 := ne_eqI h2
      subst h1
      rw [run_neq_struct, show (10000 : Nat) = 9999 + 1 from rfl, run_equalIn_agg w 9999 105 _ _ hS hp]
      simp only [Program.fieldsOf, Tryz.underlying105]
      go_simp
  · have e1 := ne_eqI h1
    rw [run_neq_struct, show (10000 : Nat) = 9999 + 1 from rfl, run_equalIn_agg w 9999 105 _ _ hS hp]
    simp only [Program.fieldsOf, Tryz.underlying105]
    go_simp
theorem eqb_of {a b : List (Int × Int)} (hl : a.length = b.length) (h : ∀ i, i < a.length → a.getD i (0, 0) = b.getD i (0, 0)) : (a == b) = true := by
  rw [beq_iff_eq]
  apply List.ext_getElem?
  intro i
  by_cases hi : i < a.length
  · have h1 := h i hi
    rw [List.getD_eq_getElem?_getD, List.getD_eq_getElem?_getD, List.getElem?_eq_getElem hi, List.getElem?_eq_getElem (by omega)] at h1
    rw [List.getElem?_eq_getElem hi, List.getElem?_eq_getElem (by omega)]
    exact congrArg some h1
  · rw [List.getElem?_eq_none (by omega), List.getElem?_eq_none (by omega)]
theorem eqb_no {a b : List (Int × Int)} {i : Nat} (h : a.getD i (0, 0) ≠ b.getD i (0, 0)) : (a == b) = false := by
  rw [beq_eq_false_iff_ne]
  intro e
  exact h (by rw [e])
theorem eqb_len {a b : List (Int × Int)} (h : a.length ≠ b.length) : (a == b) = false := by
  rw [beq_eq_false_iff_ne]
  intro e
  exact h (by rw [e])
theorem pr_eq {p q : Int × Int} : (p.1 == q.1 && p.2 == q.2) = true ↔ p = q := by
  rw [Bool.and_eq_true, beq_iff_eq, beq_iff_eq]
  constructor
  · rintro ⟨h1, h2⟩; exact Prod.ext h1 h2
  · rintro rfl; exact ⟨rfl, rfl⟩
end Go.Proofs.YtaallpebfcadjaaGreatDoor.T


/-! The walk of lorryref13's nets (written by gen_refin5.py). -/
namespace Go.Proofs.YtaallpebfcadjaaGreatDoor.T
open Go.RowKit
set_option maxRecDepth 8000

def samA (a b : ArcT) : Bool := a.fr == b.fr && (a.to == b.to && (a.prof == b.prof && (a.miles == b.miles && (a.tr == b.tr && a.sl == b.sl))))
def samS (a b : ByteArray) : Bool := a.toList == b.toList
/-- do all indices below n hold p? -/
def allI (n : Nat) (p : Nat → Bool) : Bool := (List.range n).all p
theorem allI_yes {n : Nat} {p : Nat → Bool} (h : ∀ i, i < n → p i = true) : allI n p = true := List.all_eq_true.2 fun i hi => h i (List.mem_range.1 hi)
theorem allI_no {n i : Nat} {p : Nat → Bool} (hi : i < n) (h : p i = false) : allI n p = false := by
  cases ha : allI n p
  · rfl
  · have := List.all_eq_true.1 ha i (List.mem_range.2 hi)
    rw [h] at this; cases this
theorem less_mo {P : Nat → Prop} {k : Nat} (h : ∀ i, i < k → P i) (hk : P k) : ∀ i, i < k + 1 → P i := fun i hi => by
  by_cases e : i = k
  · subst e; exact hk
  · exact h i (by omega)
/-- are two networks the same? -/
def netsB (pl pl' : List ByteArray) (al al' : List ArcT) : Bool :=
  (decide (pl.length = pl'.length) && decide (al.length = al'.length)) && (allI pl.length (fun i => samS (pl.getD i ⟨#[]⟩) (pl'.getD i ⟨#[]⟩)) && allI al.length (fun i => samA (al.getD i arc0) (al'.getD i arc0)))
end Go.Proofs.YtaallpebfcadjaaGreatDoor.T


/-! The walk of lorryref13.Same (written by gen_refin6.py). -/
namespace Go.Proofs.YtaallpebfcadjaaGreatDoor.T
open Go.RowKit
set_option maxRecDepth 8000

/-- are two instances the same? -/
def sameI (x y : InT) : Bool :=
  netsB x.pl y.pl x.al y.al && (decide (x.tl.length = y.tl.length) && (decide (x.ol.length = y.ol.length) && (allI x.tl.length (fun i => sameT (x.tl.getD i ty0) (y.tl.getD i ty0)) && (allI x.ol.length (fun i => sameO (x.ol.getD i or0) (y.ol.getD i or0)) && (x.ap == y.ap && x.be == y.be)))))
end Go.Proofs.YtaallpebfcadjaaGreatDoor.T


/-! Plain Lean: ranks of members; ascending lists; sets laid at the members of a set. -/
namespace Go.Proofs.YtaallpebfcadjaaGreatDoor.S
/-- ascending -/
def Asc (l : List Nat) : Prop := l.Pairwise (· < ·)
theorem asc_members (n : Nat) : Asc (members n) := by
  unfold members mem Asc
  exact List.Pairwise.filter _ List.pairwise_lt_range
/-- how many members are less than p -/
def rk (n p : Nat) : Nat := ((members n).filter fun i => decide (i < p)).length
theorem has_bit (n i : Nat) : has n i = n.testBit i := by
  unfold has
  rw [Nat.testBit_eq_decide_div_mod_eq, Bool.eq_iff_iff, beq_iff_eq, decide_eq_true_iff]
theorem has_below (n p i : Nat) : has (n % 2 ^ p) i = (decide (i < p) && has n i) := by
  rw [has_bit, has_bit, Nat.testBit_mod_two_pow]
theorem members_below (n p : Nat) : members (n % 2 ^ p) = (members n).filter fun i => decide (i < p) := by
  unfold members mem
  rw [List.filter_filter]
  congr 1
  funext i
  exact has_below n p i
/-- the program reckons it so -/
theorem rk_size {n p : Nat} (hn : n < 2 ^ 63) : size (n % 2 ^ p) = rk n p := by
  unfold rk
  rw [← members_below, members_size (Nat.lt_of_le_of_lt (Nat.mod_le _ _) hn)]

/-! ### ascending lists -/
theorem asc_lt {l : List Nat} (h : Asc l) {i j : Nat} (hij : i < j) (hj : j < l.length) : l.getD i 0 < l.getD j 0 := by
  rw [List.getD_eq_getElem?_getD, List.getD_eq_getElem?_getD, List.getElem?_eq_getElem hj, List.getElem?_eq_getElem (by omega)]
  exact List.pairwise_iff_getElem.1 h i j (by omega) hj hij
theorem members_iff (n i : Nat) : i ∈ members n ↔ i < 63 ∧ has n i = true := mem_iff n 63 i
theorem mem_at {l : List Nat} {k : Nat} (hk : k < l.length) : l.getD k 0 ∈ l := by
  rw [List.getD_eq_getElem?_getD, List.getElem?_eq_getElem hk]
  exact List.getElem_mem _
end Go.Proofs.YtaallpebfcadjaaGreatDoor.S


/-! Plain Lean: parts of instances are valid if the whole is; a part of a part is a part. -/
namespace Go.Proofs.YtaallpebfcadjaaGreatDoor.T
open Go.RowKit
set_option maxRecDepth 8000

/-- the pairs of which both orders are in the set, numbered anew -/
def renP (n : Nat) (l : List (Int × Int)) : List (Int × Int) := (l.filter fun p => S.hasI n p.1 && S.hasI n p.2).map fun p => ((S.rk n p.1.toNat : Int), (S.rk n p.2.toNat : Int))
/-- the instance with the orders of the set alone -/
def onlyI (x : InT) (n : Nat) : InT := ⟨x.pl, x.al, x.tl, (S.members n).map fun i => x.ol.getD i or0, renP n x.ap, renP n x.be⟩

theorem hasI_iff (n : Nat) (i : Int) : S.hasI n i = true ↔ 0 ≤ i ∧ i.toNat ∈ S.members n := by
  unfold S.hasI
  rw [Bool.and_eq_true, Bool.and_eq_true, decide_eq_true_iff, decide_eq_true_iff, S.members_iff]
  exact ⟨fun h => ⟨h.1, by omega, h.2.2⟩, fun h => ⟨h.1, by omega, h.2.2⟩⟩
end Go.Proofs.YtaallpebfcadjaaGreatDoor.T


