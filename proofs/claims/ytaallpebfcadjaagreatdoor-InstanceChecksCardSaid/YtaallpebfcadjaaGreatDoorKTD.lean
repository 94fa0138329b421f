/-
  DERIVED. KTD: a part of the base of layer 13 (made by pack.py).
-/
import Derived.Test.YtaallpebfcadjaaGreatDoorKQG
import Derived.Test.YtaallpebfcadjaaGreatDoorKIF
import Derived.Test.YtaallpebfcadjaaGreatDoorKIN
import Derived.Test.YtaallpebfcadjaaGreatDoorKTA
import Derived.Test.YtaallpebfcadjaaGreatDoorKTB
import Derived.Test.YtaallpebfcadjaaGreatDoorKTC
/-! An instance by value, opened whole, as an argument. -/
namespace Go.Proofs.YtaallpebfcadjaaGreatDoor.T
open Go.Joins Go.ChangeShapes Go.WideShapes Go.ChangeAt Go.RowKit Go.Deep
set_option maxRecDepth 8000

section
variable {H : Type} {enc : TypeId × Value → H}
end
/-! ### small instances -/
theorem all_at {α : Type} {p : α → Bool} {l : List α} {d : α} (h : l.all p = true) {i : Nat} (hi : i < l.length) : p (l.getD i d) = true := by
  rw [List.getD_eq_getElem?_getD, List.getElem?_eq_getElem hi]
  exact List.all_eq_true.1 h _ (List.getElem_mem hi)
theorem wt_small {l : List ArcT} (h : l.all smlA = true) : wtA l ≤ 40 * l.length := by
  unfold wtA
  induction l with
  | nil => simp
  | cons a l ih =>
    rw [List.all_cons, Bool.and_eq_true] at h
    have h1 := ih h.2
    have h2 := h.1
    unfold smlA at h2
    rw [Bool.and_eq_true, decide_eq_true_iff, decide_eq_true_iff] at h2
    rw [List.map_cons, List.sum_cons, List.length_cons]
    omega
theorem inB_of {x : InT} (h : smlB x = true) : InB x := by
  unfold smlB smlN at h
  simp only [Bool.and_eq_true, decide_eq_true_eq] at h
  obtain ⟨⟨h1, h2, h3, h4, h5, h6⟩, ha, ht, ho⟩ := h
  refine ⟨by omega, by omega, ?_, by omega, fun i hi => ?_, by omega, fun i hi => ?_, by omega, by omega⟩
  · have := wt_small ha
    omega
  · have := all_at (d := ty0) ht hi
    unfold smlT at this
    rw [decide_eq_true_iff] at this
    omega
  · have := all_at (d := or0) ho hi
    unfold smlO at this
    rw [decide_eq_true_iff] at this
    omega
theorem inC_of {x : InT} (h : smlB x = true) : InC x := by
  unfold smlB smlN at h
  simp only [Bool.and_eq_true, decide_eq_true_eq] at h
  obtain ⟨⟨h1, h2, h3, h4, h5, h6⟩, ha, ht, ho⟩ := h
  refine ⟨by omega, by omega, fun i hi => ?_, by omega, fun i hi => ?_, by omega, fun i hi => ?_, by omega, by omega⟩
  · have := all_at (d := arc0) ha hi
    unfold smlA at this
    rw [Bool.and_eq_true, decide_eq_true_iff, decide_eq_true_iff] at this
    omega
  · have := all_at (d := ty0) ht hi
    unfold smlT at this
    rw [decide_eq_true_iff] at this
    omega
  · have := all_at (d := or0) ho hi
    unfold smlO at this
    rw [decide_eq_true_iff] at this
    omega
end Go.Proofs.YtaallpebfcadjaaGreatDoor.T


/-! InstanceSame: its walk (written by gen_inlaw2.py). -/
namespace Go.Proofs.YtaallpebfcadjaaGreatDoor.T
open Go.RowKit
set_option maxRecDepth 8000

theorem allI_congr {n : Nat} {p q : Nat → Bool} (h : ∀ i, p i = q i) : allI n p = allI n q := by rw [funext h]
theorem samA_comm (a b : ArcT) : samA a b = samA b a := by
  unfold samA
  rw [BEq.comm (a := a.fr), BEq.comm (a := a.to), BEq.comm (a := a.prof), BEq.comm (a := a.miles), BEq.comm (a := a.tr), BEq.comm (a := a.sl)]
theorem samS_comm (a b : ByteArray) : samS a b = samS b a := by
  unfold samS
  rw [BEq.comm]
theorem allI_ne {n m : Nat} {p q : Nat → Bool} (h : ∀ i, p i = q i) : (decide (n = m) && allI n p) = (decide (m = n) && allI m q) := by
  by_cases hn : n = m
  · subst hn
    rw [allI_congr h]
  · rw [decide_eq_false hn, decide_eq_false (fun e => hn e.symm)]
    rfl
theorem sameI_comm (x y : InT) : sameI x y = sameI y x := by
  have h1 := allI_ne (n := x.pl.length) (m := y.pl.length) (fun i => samS_comm (x.pl.getD i ⟨#[]⟩) (y.pl.getD i ⟨#[]⟩))
  have h2 := allI_ne (n := x.al.length) (m := y.al.length) (fun i => samA_comm (x.al.getD i arc0) (y.al.getD i arc0))
  have h3 := allI_ne (n := x.tl.length) (m := y.tl.length) (fun i => same_comm (x.tl.getD i ty0) (y.tl.getD i ty0))
  have h4 := allI_ne (n := x.ol.length) (m := y.ol.length) (fun i => sameO_comm (x.ol.getD i or0) (y.ol.getD i or0))
  unfold sameI netsB
  rw [BEq.comm (a := x.ap), BEq.comm (a := x.be)]
  generalize allI x.pl.length _ = a1 at *
  generalize allI x.al.length _ = a2 at *
  generalize allI x.tl.length _ = a3 at *
  generalize allI x.ol.length _ = a4 at *
  generalize allI y.pl.length _ = b1 at *
  generalize allI y.al.length _ = b2 at *
  generalize allI y.tl.length _ = b3 at *
  generalize allI y.ol.length _ = b4 at *
  generalize (y.ap == x.ap) = e1
  generalize (y.be == x.be) = e2
  generalize decide (x.pl.length = y.pl.length) = c1 at *
  generalize decide (x.al.length = y.al.length) = c2 at *
  generalize decide (x.tl.length = y.tl.length) = c3 at *
  generalize decide (x.ol.length = y.ol.length) = c4 at *
  generalize decide (y.pl.length = x.pl.length) = d1 at *
  generalize decide (y.al.length = x.al.length) = d2 at *
  generalize decide (y.tl.length = x.tl.length) = d3 at *
  generalize decide (y.ol.length = x.ol.length) = d4 at *
  have t1 : ((c1 && c2) && (a1 && a2)) = ((c1 && a1) && (c2 && a2)) := by cases c1 <;> cases c2 <;> cases a1 <;> cases a2 <;> rfl
  have t2 : ((d1 && d2) && (b1 && b2)) = ((d1 && b1) && (d2 && b2)) := by cases d1 <;> cases d2 <;> cases b1 <;> cases b2 <;> rfl
  have t3 : (c3 && (c4 && (a3 && (a4 && (e1 && e2))))) = ((c3 && a3) && ((c4 && a4) && (e1 && e2))) := by cases c3 <;> cases c4 <;> cases a3 <;> cases a4 <;> rfl
  have t4 : (d3 && (d4 && (b3 && (b4 && (e1 && e2))))) = ((d3 && b3) && ((d4 && b4) && (e1 && e2))) := by cases d3 <;> cases d4 <;> cases b3 <;> cases b4 <;> rfl
  rw [t1, t2, t3, t4, h1, h2, h3, h4]
theorem sameI_refl (x : InT) : sameI x x = true := by
  unfold sameI netsB samA samS
  simp [allI, same_refl, sameO_refl]
/-- what a small instance's lists may be -/
structure InV (x : InT) : Prop where
  b : smlB x = true → InB x
  c : smlB x = true → InC x
set_option maxHeartbeats 6400000 in
theorem sameL_n (k k' : Iv) (x y : InT) (hx : InV x) (hy : InV y) (w : World) (hT : Tab w) (hS : S.Tab w) (h : Ins w k x) (h' : Ins w k' y) :
    Calls Tryz.prog 5 #[k.v x, k'.v y] w fun e w' => e = .returned (.bool true) ∧ Below w.heap.size w w' := by
  obtain ⟨o0, c0, o1, c1, o2, c2, o3, c3, o4, c4, o5, c5⟩ := k
  obtain ⟨q0, d0, q1, d1, q2, d2, q3, d3, q4, d4, q5, d5⟩ := k'
  have BI := over (below_alloc w (.cells #[.slice o0 x.pl.length c0, .slice o1 x.al.length c1, .slice o2 x.tl.length c2, .slice o3 x.ol.length c3, .slice o4 x.ap.length c4, .slice o5 x.be.length c5] 30)) (below_alloc (w.alloc (.cells #[.slice o0 x.pl.length c0, .slice o1 x.al.length c1, .slice o2 x.tl.length c2, .slice o3 x.ol.length c3, .slice o4 x.ap.length c4, .slice o5 x.be.length c5] 30)) (.cells #[.slice q0 y.pl.length d0, .slice q1 y.al.length d1, .slice q2 y.tl.length d2, .slice q3 y.ol.length d3, .slice q4 y.ap.length d4, .slice q5 y.be.length d5] 30))
  have M0 := (Cb.made w #[.slice o0 x.pl.length c0, .slice o1 x.al.length c1, .slice o2 x.tl.length c2, .slice o3 x.ol.length c3, .slice o4 x.ap.length c4, .slice o5 x.be.length c5] 30).old (.cells #[.slice q0 y.pl.length d0, .slice q1 y.al.length d1, .slice q2 y.tl.length d2, .slice q3 y.ol.length d3, .slice q4 y.ap.length d4, .slice q5 y.be.length d5] 30)
  have N0 := Cb.made (w.alloc (.cells #[.slice o0 x.pl.length c0, .slice o1 x.al.length c1, .slice o2 x.tl.length c2, .slice o3 x.ol.length c3, .slice o4 x.ap.length c4, .slice o5 x.be.length c5] 30)) #[.slice q0 y.pl.length d0, .slice q1 y.al.length d1, .slice q2 y.tl.length d2, .slice q3 y.ol.length d3, .slice q4 y.ap.length d4, .slice q5 y.be.length d5] 30
  simp only [World.size_alloc] at N0
  obtain ⟨W0, hW0⟩ : ∃ W0, (w.alloc (.cells #[.slice o0 x.pl.length c0, .slice o1 x.al.length c1, .slice o2 x.tl.length c2, .slice o3 x.ol.length c3, .slice o4 x.ap.length c4, .slice o5 x.be.length c5] 30)).alloc (.cells #[.slice q0 y.pl.length d0, .slice q1 y.al.length d1, .slice q2 y.tl.length d2, .slice q3 y.ol.length d3, .slice q4 y.ap.length d4, .slice q5 y.be.length d5] 30) = W0 := ⟨_, rfl⟩
  rw [hW0] at BI M0 N0
  have IX := Lib.hid (h.below BI)
  have IY := Lib.hid (h'.below BI)
  have HT := Lib.hid (hT.over BI)
  have HS := Lib.hid (hS.over BI)
  have MX := Lib.hid M0
  have MY := Lib.hid N0
  have HB := Lib.hid BI
  have BW : Hid (Below W0.heap.size W0 W0) := Below.refl _ _
  have HW0 := Lib.hid hW0
  have AW : Hid (∀ W, Below W0.heap.size W0 W → Calls Tryz.prog 9 #[] W fun e w' => e = .returned (.bool true) ∧ Below W.heap.size W w') := fun W hb => awakeI_n W (HT.out.over hb) (HS.out.over hb)
  have SX := Lib.hid (fun w h1 h2 h3 => small_n o0 o1 o2 o3 o4 o5 c0 c1 c2 c3 c4 c5 x w h1 h2 h3)
  have SY := Lib.hid (fun w h1 h2 h3 => small_n q0 q1 q2 q3 q4 q5 d0 d1 d2 d3 d4 d5 y w h1 h2 h3)
  obtain ⟨z, hz⟩ : ∃ z, sameI x y = z := ⟨_, rfl⟩
  have K1 : Hid (smlB x = true → smlB y = true → ∀ w, Ins w ⟨o0, c0, o1, c1, o2, c2, o3, c3, o4, c4, o5, c5⟩ x → Ins w ⟨q0, d0, q1, d1, q2, d2, q3, d3, q4, d4, q5, d5⟩ y → Calls Tryz.prog 16 #[.agg #[.slice o0 x.pl.length c0, .slice o1 x.al.length c1, .slice o2 x.tl.length c2, .slice o3 x.ol.length c3, .slice o4 x.ap.length c4, .slice o5 x.be.length c5], .agg #[.slice q0 y.pl.length d0, .slice q1 y.al.length d1, .slice q2 y.tl.length d2, .slice q3 y.ol.length d3, .slice q4 y.ap.length d4, .slice q5 y.be.length d5]] w fun e w' => e = .returned (.bool z) ∧ Below w.heap.size w w') := fun h1 h2 w a b => hz ▸ sameInst_n ⟨o0, c0, o1, c1, o2, c2, o3, c3, o4, c4, o5, c5⟩ ⟨q0, d0, q1, d1, q2, d2, q3, d3, q4, d4, q5, d5⟩ x y (hx.c h1) (hy.c h2) w a b
  have K2 : Hid (smlB x = true → smlB y = true → ∀ w, Ins w ⟨o0, c0, o1, c1, o2, c2, o3, c3, o4, c4, o5, c5⟩ x → Ins w ⟨q0, d0, q1, d1, q2, d2, q3, d3, q4, d4, q5, d5⟩ y → Calls Tryz.prog 16 #[.agg #[.slice q0 y.pl.length d0, .slice q1 y.al.length d1, .slice q2 y.tl.length d2, .slice q3 y.ol.length d3, .slice q4 y.ap.length d4, .slice q5 y.be.length d5], .agg #[.slice o0 x.pl.length c0, .slice o1 x.al.length c1, .slice o2 x.tl.length c2, .slice o3 x.ol.length c3, .slice o4 x.ap.length c4, .slice o5 x.be.length c5]] w fun e w' => e = .returned (.bool z) ∧ Below w.heap.size w w') := fun h1 h2 w a b => hz ▸ sameI_comm y x ▸ sameInst_n ⟨q0, d0, q1, d1, q2, d2, q3, d3, q4, d4, q5, d5⟩ ⟨o0, c0, o1, c1, o2, c2, o3, c3, o4, c4, o5, c5⟩ y x (hy.c h2) (hx.c h1) w b a
  have K3 : Hid (smlB x = true → ∀ w, Ins w ⟨o0, c0, o1, c1, o2, c2, o3, c3, o4, c4, o5, c5⟩ x → Calls Tryz.prog 16 #[.agg #[.slice o0 x.pl.length c0, .slice o1 x.al.length c1, .slice o2 x.tl.length c2, .slice o3 x.ol.length c3, .slice o4 x.ap.length c4, .slice o5 x.be.length c5], .agg #[.slice o0 x.pl.length c0, .slice o1 x.al.length c1, .slice o2 x.tl.length c2, .slice o3 x.ol.length c3, .slice o4 x.ap.length c4, .slice o5 x.be.length c5]] w fun e w' => e = .returned (.bool true) ∧ Below w.heap.size w w') := fun h1 w a => sameI_refl x ▸ sameInst_n ⟨o0, c0, o1, c1, o2, c2, o3, c3, o4, c4, o5, c5⟩ ⟨o0, c0, o1, c1, o2, c2, o3, c3, o4, c4, o5, c5⟩ x x (hx.c h1) (hx.c h1) w a a
  have K4 : Hid (smlB x = true → smlB y = true → ∀ w, Ins w ⟨o0, c0, o1, c1, o2, c2, o3, c3, o4, c4, o5, c5⟩ x → Ins w ⟨q0, d0, q1, d1, q2, d2, q3, d3, q4, d4, q5, d5⟩ y → Calls Tryz.prog 17 #[.agg #[.slice o0 x.pl.length c0, .slice o1 x.al.length c1, .slice o2 x.tl.length c2, .slice o3 x.ol.length c3, .slice o4 x.ap.length c4, .slice o5 x.be.length c5], .agg #[.slice q0 y.pl.length d0, .slice q1 y.al.length d1, .slice q2 y.tl.length d2, .slice q3 y.ol.length d3, .slice q4 y.ap.length d4, .slice q5 y.be.length d5]] w fun e w' => e = .returned (.bool z) ∧ Below w.heap.size w w') := fun h1 h2 w a b => hz ▸ refSameIn_n o0 o1 o2 o3 o4 o5 q0 q1 q2 q3 q4 q5 c0 c1 c2 c3 c4 c5 d0 d1 d2 d3 d4 d5 x y (hx.b h1) (hy.b h2) (hx.c h1).tr w a.h0 a.h1 a.h2 a.h3 a.h4 a.h5 b.h0 b.h1 b.h2 b.h3 b.h4 b.h5
  clear hz hx hy
  unfold inV at *
  clear h h' hT hS BI hW0 M0 N0
  show Calls _ _ #[.agg #[.slice o0 x.pl.length c0, .slice o1 x.al.length c1, .slice o2 x.tl.length c2, .slice o3 x.ol.length c3, .slice o4 x.ap.length c4, .slice o5 x.be.length c5], .agg #[.slice q0 y.pl.length d0, .slice q1 y.al.length d1, .slice q2 y.tl.length d2, .slice q3 y.ol.length d3, .slice q4 y.ap.length d4, .slice q5 y.be.length d5]] _ _
  go_enter Tryz.func5, Tryz.ntmps5
  go_upto_region 1 with fail
  rw [HW0.out]
  clear HW0
  have m0 : W0.cell? ⟨w.heap.size, 0, none⟩ = some (.slice o0 x.pl.length c0) := MX.out.cell 0 rfl
  have m1 : W0.cell? ⟨w.heap.size, 1, none⟩ = some (.slice o1 x.al.length c1) := MX.out.cell 1 rfl
  have m2 : W0.cell? ⟨w.heap.size, 2, none⟩ = some (.slice o2 x.tl.length c2) := MX.out.cell 2 rfl
  have m3 : W0.cell? ⟨w.heap.size, 3, none⟩ = some (.slice o3 x.ol.length c3) := MX.out.cell 3 rfl
  have m4 : W0.cell? ⟨w.heap.size, 4, none⟩ = some (.slice o4 x.ap.length c4) := MX.out.cell 4 rfl
  have m5 : W0.cell? ⟨w.heap.size, 5, none⟩ = some (.slice o5 x.be.length c5) := MX.out.cell 5 rfl
  have n0 : W0.cell? ⟨w.heap.size + 1, 0, none⟩ = some (.slice q0 y.pl.length d0) := MY.out.cell 0 rfl
  have n1 : W0.cell? ⟨w.heap.size + 1, 1, none⟩ = some (.slice q1 y.al.length d1) := MY.out.cell 1 rfl
  have n2 : W0.cell? ⟨w.heap.size + 1, 2, none⟩ = some (.slice q2 y.tl.length d2) := MY.out.cell 2 rfl
  have n3 : W0.cell? ⟨w.heap.size + 1, 3, none⟩ = some (.slice q3 y.ol.length d3) := MY.out.cell 3 rfl
  have n4 : W0.cell? ⟨w.heap.size + 1, 4, none⟩ = some (.slice q4 y.ap.length d4) := MY.out.cell 4 rfl
  have n5 : W0.cell? ⟨w.heap.size + 1, 5, none⟩ = some (.slice q5 y.be.length d5) := MY.out.cell 5 rfl
  go_wp2_with fail
  refine (SX.out _ IX.out.h1 IX.out.h2 IX.out.h3).mono ?_
  rintro e wz ⟨rfl, bz⟩; have MX := Lib.hid (MX.out.below bz); have MY := Lib.hid (MY.out.below bz); have IX := Lib.hid (IX.out.below bz); have IY := Lib.hid (IY.out.below bz); have BW := Lib.hid (over BW.out bz); have m0 : wz.cell? ⟨w.heap.size, 0, none⟩ = some (.slice o0 x.pl.length c0) := MX.out.cell 0 rfl; have m1 : wz.cell? ⟨w.heap.size, 1, none⟩ = some (.slice o1 x.al.length c1) := MX.out.cell 1 rfl; have m2 : wz.cell? ⟨w.heap.size, 2, none⟩ = some (.slice o2 x.tl.length c2) := MX.out.cell 2 rfl; have m3 : wz.cell? ⟨w.heap.size, 3, none⟩ = some (.slice o3 x.ol.length c3) := MX.out.cell 3 rfl; have m4 : wz.cell? ⟨w.heap.size, 4, none⟩ = some (.slice o4 x.ap.length c4) := MX.out.cell 4 rfl; have m5 : wz.cell? ⟨w.heap.size, 5, none⟩ = some (.slice o5 x.be.length c5) := MX.out.cell 5 rfl; have n0 : wz.cell? ⟨w.heap.size + 1, 0, none⟩ = some (.slice q0 y.pl.length d0) := MY.out.cell 0 rfl; have n1 : wz.cell? ⟨w.heap.size + 1, 1, none⟩ = some (.slice q1 y.al.length d1) := MY.out.cell 1 rfl; have n2 : wz.cell? ⟨w.heap.size + 1, 2, none⟩ = some (.slice q2 y.tl.length d2) := MY.out.cell 2 rfl; have n3 : wz.cell? ⟨w.heap.size + 1, 3, none⟩ = some (.slice q3 y.ol.length d3) := MY.out.cell 3 rfl; have n4 : wz.cell? ⟨w.heap.size + 1, 4, none⟩ = some (.slice q4 y.ap.length d4) := MY.out.cell 4 rfl; have n5 : wz.cell? ⟨w.heap.size + 1, 5, none⟩ = some (.slice q5 y.be.length d5) := MY.out.cell 5 rfl
  cases hs1 : smlB x
  · go_wp2_with fail
    refine (AW.out _ BW.out).mono ?_
    rintro e w2 ⟨rfl, hb⟩
    have B2 := over (over HB.out BW.out) hb
    go_wp2_with fail
    go_ret
    exact ⟨rfl, B2⟩
  go_wp2_with fail
  refine (SY.out _ IY.out.h1 IY.out.h2 IY.out.h3).mono ?_
  rintro e wz ⟨rfl, bz⟩; have MX := Lib.hid (MX.out.below bz); have MY := Lib.hid (MY.out.below bz); have IX := Lib.hid (IX.out.below bz); have IY := Lib.hid (IY.out.below bz); have BW := Lib.hid (over BW.out bz); have m0 : wz.cell? ⟨w.heap.size, 0, none⟩ = some (.slice o0 x.pl.length c0) := MX.out.cell 0 rfl; have m1 : wz.cell? ⟨w.heap.size, 1, none⟩ = some (.slice o1 x.al.length c1) := MX.out.cell 1 rfl; have m2 : wz.cell? ⟨w.heap.size, 2, none⟩ = some (.slice o2 x.tl.length c2) := MX.out.cell 2 rfl; have m3 : wz.cell? ⟨w.heap.size, 3, none⟩ = some (.slice o3 x.ol.length c3) := MX.out.cell 3 rfl; have m4 : wz.cell? ⟨w.heap.size, 4, none⟩ = some (.slice o4 x.ap.length c4) := MX.out.cell 4 rfl; have m5 : wz.cell? ⟨w.heap.size, 5, none⟩ = some (.slice o5 x.be.length c5) := MX.out.cell 5 rfl; have n0 : wz.cell? ⟨w.heap.size + 1, 0, none⟩ = some (.slice q0 y.pl.length d0) := MY.out.cell 0 rfl; have n1 : wz.cell? ⟨w.heap.size + 1, 1, none⟩ = some (.slice q1 y.al.length d1) := MY.out.cell 1 rfl; have n2 : wz.cell? ⟨w.heap.size + 1, 2, none⟩ = some (.slice q2 y.tl.length d2) := MY.out.cell 2 rfl; have n3 : wz.cell? ⟨w.heap.size + 1, 3, none⟩ = some (.slice q3 y.ol.length d3) := MY.out.cell 3 rfl; have n4 : wz.cell? ⟨w.heap.size + 1, 4, none⟩ = some (.slice q4 y.ap.length d4) := MY.out.cell 4 rfl; have n5 : wz.cell? ⟨w.heap.size + 1, 5, none⟩ = some (.slice q5 y.be.length d5) := MY.out.cell 5 rfl
  cases hs2 : smlB y
  · go_wp2_with fail
    refine (AW.out _ BW.out).mono ?_
    rintro e w2 ⟨rfl, hb⟩
    have B2 := over (over HB.out BW.out) hb
    go_wp2_with fail
    go_ret
    exact ⟨rfl, B2⟩
  have K1 := Lib.hid (K1.out hs1 hs2)
  have K2 := Lib.hid (K2.out hs1 hs2)
  have K3 := Lib.hid (K3.out hs1)
  have K4 := Lib.hid (K4.out hs1 hs2)
  clear hs1 hs2 SX SY
  go_upto_region 3 with fail
  have hdr : Below wz.heap.size wz wz.drew := below_drew (Below.refl _ _)
  have MX := Lib.hid (MX.out.below hdr)
  have MY := Lib.hid (MY.out.below hdr)
  have IX := Lib.hid (IX.out.below hdr)
  have IY := Lib.hid (IY.out.below hdr)
  have BW := Lib.hid (over BW.out hdr)
  clear hdr m0 m1 m2 m3 m4 m5 n0 n1 n2 n3 n4 n5
  have m0 : wz.drew.cell? ⟨w.heap.size, 0, none⟩ = some (.slice o0 x.pl.length c0) := MX.out.cell 0 rfl
  have m1 : wz.drew.cell? ⟨w.heap.size, 1, none⟩ = some (.slice o1 x.al.length c1) := MX.out.cell 1 rfl
  have m2 : wz.drew.cell? ⟨w.heap.size, 2, none⟩ = some (.slice o2 x.tl.length c2) := MX.out.cell 2 rfl
  have m3 : wz.drew.cell? ⟨w.heap.size, 3, none⟩ = some (.slice o3 x.ol.length c3) := MX.out.cell 3 rfl
  have m4 : wz.drew.cell? ⟨w.heap.size, 4, none⟩ = some (.slice o4 x.ap.length c4) := MX.out.cell 4 rfl
  have m5 : wz.drew.cell? ⟨w.heap.size, 5, none⟩ = some (.slice o5 x.be.length c5) := MX.out.cell 5 rfl
  have n0 : wz.drew.cell? ⟨w.heap.size + 1, 0, none⟩ = some (.slice q0 y.pl.length d0) := MY.out.cell 0 rfl
  have n1 : wz.drew.cell? ⟨w.heap.size + 1, 1, none⟩ = some (.slice q1 y.al.length d1) := MY.out.cell 1 rfl
  have n2 : wz.drew.cell? ⟨w.heap.size + 1, 2, none⟩ = some (.slice q2 y.tl.length d2) := MY.out.cell 2 rfl
  have n3 : wz.drew.cell? ⟨w.heap.size + 1, 3, none⟩ = some (.slice q3 y.ol.length d3) := MY.out.cell 3 rfl
  have n4 : wz.drew.cell? ⟨w.heap.size + 1, 4, none⟩ = some (.slice q4 y.ap.length d4) := MY.out.cell 4 rfl
  have n5 : wz.drew.cell? ⟨w.heap.size + 1, 5, none⟩ = some (.slice q5 y.be.length d5) := MY.out.cell 5 rfl
  go_region_held3 (fun w' => w'.cell? ⟨w.heap.size, 0, none⟩ = some (.slice o0 x.pl.length c0) ∧ w'.cell? ⟨w.heap.size, 1, none⟩ = some (.slice o1 x.al.length c1) ∧ w'.cell? ⟨w.heap.size, 2, none⟩ = some (.slice o2 x.tl.length c2) ∧ w'.cell? ⟨w.heap.size, 3, none⟩ = some (.slice o3 x.ol.length c3) ∧ w'.cell? ⟨w.heap.size, 4, none⟩ = some (.slice o4 x.ap.length c4) ∧ w'.cell? ⟨w.heap.size, 5, none⟩ = some (.slice o5 x.be.length c5) ∧ w'.cell? ⟨w.heap.size + 1, 0, none⟩ = some (.slice q0 y.pl.length d0) ∧ w'.cell? ⟨w.heap.size + 1, 1, none⟩ = some (.slice q1 y.al.length d1) ∧ w'.cell? ⟨w.heap.size + 1, 2, none⟩ = some (.slice q2 y.tl.length d2) ∧ w'.cell? ⟨w.heap.size + 1, 3, none⟩ = some (.slice q3 y.ol.length d3) ∧ w'.cell? ⟨w.heap.size + 1, 4, none⟩ = some (.slice q4 y.ap.length d4) ∧ w'.cell? ⟨w.heap.size + 1, 5, none⟩ = some (.slice q5 y.be.length d5))
    (with_reducible exact ⟨m0, m1, m2, m3, m4, m5, n0, n1, n2, n3, n4, n5⟩)
    (first
      | (go_at_call 16; (first | (with_reducible refine (K1.out _ IX.out IY.out).mono ?_) | (with_reducible refine (K2.out _ IX.out IY.out).mono ?_) | (with_reducible refine (K3.out _ IX.out).mono ?_)); rintro e wz ⟨rfl, bz⟩; have MX := Lib.hid (MX.out.below bz); have MY := Lib.hid (MY.out.below bz); have IX := Lib.hid (IX.out.below bz); have IY := Lib.hid (IY.out.below bz); have BW := Lib.hid (over BW.out bz); have m0 : wz.cell? ⟨w.heap.size, 0, none⟩ = some (.slice o0 x.pl.length c0) := MX.out.cell 0 rfl; have m1 : wz.cell? ⟨w.heap.size, 1, none⟩ = some (.slice o1 x.al.length c1) := MX.out.cell 1 rfl; have m2 : wz.cell? ⟨w.heap.size, 2, none⟩ = some (.slice o2 x.tl.length c2) := MX.out.cell 2 rfl; have m3 : wz.cell? ⟨w.heap.size, 3, none⟩ = some (.slice o3 x.ol.length c3) := MX.out.cell 3 rfl; have m4 : wz.cell? ⟨w.heap.size, 4, none⟩ = some (.slice o4 x.ap.length c4) := MX.out.cell 4 rfl; have m5 : wz.cell? ⟨w.heap.size, 5, none⟩ = some (.slice o5 x.be.length c5) := MX.out.cell 5 rfl; have n0 : wz.cell? ⟨w.heap.size + 1, 0, none⟩ = some (.slice q0 y.pl.length d0) := MY.out.cell 0 rfl; have n1 : wz.cell? ⟨w.heap.size + 1, 1, none⟩ = some (.slice q1 y.al.length d1) := MY.out.cell 1 rfl; have n2 : wz.cell? ⟨w.heap.size + 1, 2, none⟩ = some (.slice q2 y.tl.length d2) := MY.out.cell 2 rfl; have n3 : wz.cell? ⟨w.heap.size + 1, 3, none⟩ = some (.slice q3 y.ol.length d3) := MY.out.cell 3 rfl; have n4 : wz.cell? ⟨w.heap.size + 1, 4, none⟩ = some (.slice q4 y.ap.length d4) := MY.out.cell 4 rfl; have n5 : wz.cell? ⟨w.heap.size + 1, 5, none⟩ = some (.slice q5 y.be.length d5) := MY.out.cell 5 rfl)
      | (go_at_call 17; (first | (with_reducible refine (K4.out _ IX.out IY.out).mono ?_)); rintro e wz ⟨rfl, bz⟩; have MX := Lib.hid (MX.out.below bz); have MY := Lib.hid (MY.out.below bz); have IX := Lib.hid (IX.out.below bz); have IY := Lib.hid (IY.out.below bz); have BW := Lib.hid (over BW.out bz); have m0 : wz.cell? ⟨w.heap.size, 0, none⟩ = some (.slice o0 x.pl.length c0) := MX.out.cell 0 rfl; have m1 : wz.cell? ⟨w.heap.size, 1, none⟩ = some (.slice o1 x.al.length c1) := MX.out.cell 1 rfl; have m2 : wz.cell? ⟨w.heap.size, 2, none⟩ = some (.slice o2 x.tl.length c2) := MX.out.cell 2 rfl; have m3 : wz.cell? ⟨w.heap.size, 3, none⟩ = some (.slice o3 x.ol.length c3) := MX.out.cell 3 rfl; have m4 : wz.cell? ⟨w.heap.size, 4, none⟩ = some (.slice o4 x.ap.length c4) := MX.out.cell 4 rfl; have m5 : wz.cell? ⟨w.heap.size, 5, none⟩ = some (.slice o5 x.be.length c5) := MX.out.cell 5 rfl; have n0 : wz.cell? ⟨w.heap.size + 1, 0, none⟩ = some (.slice q0 y.pl.length d0) := MY.out.cell 0 rfl; have n1 : wz.cell? ⟨w.heap.size + 1, 1, none⟩ = some (.slice q1 y.al.length d1) := MY.out.cell 1 rfl; have n2 : wz.cell? ⟨w.heap.size + 1, 2, none⟩ = some (.slice q2 y.tl.length d2) := MY.out.cell 2 rfl; have n3 : wz.cell? ⟨w.heap.size + 1, 3, none⟩ = some (.slice q3 y.ol.length d3) := MY.out.cell 3 rfl; have n4 : wz.cell? ⟨w.heap.size + 1, 4, none⟩ = some (.slice q4 y.ap.length d4) := MY.out.cell 4 rfl; have n5 : wz.cell? ⟨w.heap.size + 1, 5, none⟩ = some (.slice q5 y.be.length d5) := MY.out.cell 5 rfl)
      | (go_at_call 9; (first | (with_reducible refine (AW.out _ BW.out).mono ?_)); rintro e wz ⟨rfl, bz⟩; have MX := Lib.hid (MX.out.below bz); have MY := Lib.hid (MY.out.below bz); have IX := Lib.hid (IX.out.below bz); have IY := Lib.hid (IY.out.below bz); have BW := Lib.hid (over BW.out bz); have m0 : wz.cell? ⟨w.heap.size, 0, none⟩ = some (.slice o0 x.pl.length c0) := MX.out.cell 0 rfl; have m1 : wz.cell? ⟨w.heap.size, 1, none⟩ = some (.slice o1 x.al.length c1) := MX.out.cell 1 rfl; have m2 : wz.cell? ⟨w.heap.size, 2, none⟩ = some (.slice o2 x.tl.length c2) := MX.out.cell 2 rfl; have m3 : wz.cell? ⟨w.heap.size, 3, none⟩ = some (.slice o3 x.ol.length c3) := MX.out.cell 3 rfl; have m4 : wz.cell? ⟨w.heap.size, 4, none⟩ = some (.slice o4 x.ap.length c4) := MX.out.cell 4 rfl; have m5 : wz.cell? ⟨w.heap.size, 5, none⟩ = some (.slice o5 x.be.length c5) := MX.out.cell 5 rfl; have n0 : wz.cell? ⟨w.heap.size + 1, 0, none⟩ = some (.slice q0 y.pl.length d0) := MY.out.cell 0 rfl; have n1 : wz.cell? ⟨w.heap.size + 1, 1, none⟩ = some (.slice q1 y.al.length d1) := MY.out.cell 1 rfl; have n2 : wz.cell? ⟨w.heap.size + 1, 2, none⟩ = some (.slice q2 y.tl.length d2) := MY.out.cell 2 rfl; have n3 : wz.cell? ⟨w.heap.size + 1, 3, none⟩ = some (.slice q3 y.ol.length d3) := MY.out.cell 3 rfl; have n4 : wz.cell? ⟨w.heap.size + 1, 4, none⟩ = some (.slice q4 y.ap.length d4) := MY.out.cell 4 rfl; have n5 : wz.cell? ⟨w.heap.size + 1, 5, none⟩ = some (.slice q5 y.be.length d5) := MY.out.cell 5 rfl))
  all_goals
    go_wp2_with fail
    go_ret
    exact ⟨rfl, over HB.out BW.out⟩

end Go.Proofs.YtaallpebfcadjaaGreatDoor.T


