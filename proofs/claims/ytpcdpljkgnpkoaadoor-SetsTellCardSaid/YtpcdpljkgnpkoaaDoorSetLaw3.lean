/-
  DERIVED. The walk of lorrylaw05's awake.
-/
import Derived.Test.YtpcdpljkgnpkoaaDoorSetsIf
namespace Go.Proofs.YtpcdpljkgnpkoaaDoor.S
open Go.RowKit
set_option maxRecDepth 8000

def zz (i : Nat) : Int := if i = 0 then 2 else 0
theorem zz_of : ofR 0 (listZ 2 zz) = (5, 0) := by decide
theorem aw_subs : subsR 5 = [0, 1, 4, 5] := by decide +kernel
theorem aw_subsE : subsE 5 = 0 := by decide +kernel
theorem aw_size : size 5 = 2 := by decide +kernel
theorem aw_least : leastI 4 = 2 := by decide +kernel
theorem aw_arg (w : World) : SlV (w.alloc (.cells #[.int .i64 2, .int .i64 0] 3)) (.slice (some ⟨w.heap.size, 0, none⟩) 2 2) 2 (Vi zz) := by
  refine ⟨some ⟨w.heap.size, 0, none⟩, 2, rfl, fun i hi => ⟨_, rfl, by simp, ?_⟩⟩
  match i, hi with
  | 0, _ => simp [Addr.add, Vi, zz]
  | 1, _ => simp [Addr.add, Vi, zz]
theorem aw_lit (w : World) : Ar (w.alloc (.cells #[.int .i64 0, .int .i64 1, .int .i64 4, .int .i64 5] 3)) (some ⟨w.heap.size, 0, none⟩) [0, 1, 4, 5] := by
  intro i hi
  refine ⟨w.heap.size, rfl, by simp, ?_⟩
  match i, hi with
  | 0, _ => simp
  | 1, _ => simp
  | 2, _ => simp
  | 3, _ => simp
theorem Owb.ar {B : Nat} {w : World} {v : Value} {l : List Nat} (h : Owb B w v l) : ∃ A c, v = .slice A l.length c ∧ Ar w A l := by
  obtain ⟨A, c, e, _, hel⟩ := h.weak.shape
  exact ⟨A, c, e, hel⟩

theorem awake_n (w : World) (hT : Tab w) :
    Calls Tryd.prog 19 #[] w fun e w' => e = .returned (.bool true) ∧ Below w.heap.size w w' := by
  have HO := Lib.hid (fun w => setOf_n _ 2 zz 5 0 zz_of (by omega) _ (aw_arg w))
  have HS := Lib.hid (fun w => setSubsets_n 5 (by omega) w)
  have HZ := Lib.hid (fun w => setSize_n 5 (by omega) w)
  have HL := Lib.hid (fun w h => setLeast_n 4 (by omega) w h)
  rw [aw_subs, aw_subsE] at HS
  rw [aw_size] at HZ
  rw [aw_least] at HL
  go_enter Tryd.func19, Tryd.ntmps19
  go_wp2_with fail
  refine (HO.out _).mono ?_
  rintro e w1 ⟨rfl, hw1⟩
  have hb1 : Below w.heap.size w w1 := by rw [← hw1]; exact (Below.refl _ w).alloc (Nat.le_refl _) _
  have HB1 := Lib.hid hb1
  clear hb1 hw1
  go_wp2_with fail
  refine (HS.out _).mono ?_
  rintro e w2 ⟨v, rfl, hv, b2⟩
  obtain ⟨A, c, rfl, hA⟩ := hv.ar
  have HA := Lib.hid hA
  have HB2 := Lib.hid (over5 HB1.out b2)
  clear hv hA b2
  go_wp2_with fail
  have hsm := same_n A (some ⟨w2.heap.size, 0, none⟩) c 4 [0, 1, 4, 5] [0, 1, 4, 5] (by decide) _ (HA.out.below ((Below.refl _ w2).alloc (Nat.le_refl _) _)) (aw_lit w2)
  refine hsm.mono ?_
  rintro e w3 ⟨rfl, b3⟩
  have hb3 : Below w.heap.size w w3 := HB2.out.trans (((Below.refl _ w2).alloc (Nat.le_refl _) _).trans (b3.mono (by simp)) |>.mono HB2.out.size)
  have HB3 := Lib.hid hb3
  clear hb3 b3 hsm
  go_wp2_with fail
  refine (HZ.out _).mono ?_
  rintro e w4 ⟨rfl, rfl⟩
  have hT3 := hT.over HB3.out
  go_wp2_with fail
  refine (HL.out _ hT3).mono ?_
  rintro e w5 ⟨rfl, rfl⟩
  go_wp2_with fail
  go_ret
  exact ⟨rfl, HB3.out⟩

theorem Owb.mono {B C : Nat} {w : World} {v : Value} {l : List Nat} (h : Owb B w v l) (hle : C ≤ B) : Owb C w v l := World.ownsRow.mono h hle
theorem same_o {B C : Nat} (A D : Option Addr) (ca cd : Nat) (la lb : List Nat) (hm9 : lb.length ≤ 1000000) (w : World) (hA : Owb B w (.slice A la.length ca) la) (hD : Owb C w (.slice D lb.length cd) lb) :
    Calls Tryd.prog 12 #[.slice A la.length ca, .slice D lb.length cd] w fun e w' => e = .returned (.bool (decide (la = lb))) ∧ Below w.heap.size w w' := by
  obtain ⟨A2, c2, e2, h2⟩ := hA.ar
  obtain ⟨D2, d2, f2, g2⟩ := hD.ar
  injection e2 with e2 _ _
  injection f2 with f2 _ _
  subst e2 f2
  exact same_n A D ca cd la lb hm9 w h2 g2

end Go.Proofs.YtpcdpljkgnpkoaaDoor.S

