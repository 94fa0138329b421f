/-
  DERIVED. The walk of SetsRoundTrip.
-/
import Derived.Test.YtpcdpljkgnpkoaaDoorSetLaw3
namespace Go.Proofs.YtpcdpljkgnpkoaaDoor.S
open Go.RowKit
set_option maxRecDepth 8000

def zl (l : List Nat) (i : Nat) : Int := ((l.getD i 0 : Nat) : Int)
theorem listZ_zl (l : List Nat) : listZ l.length (zl l) = l.map fun (i : Nat) => (i : Int) := by
  apply List.ext_getElem?
  intro i
  rw [listZ, List.getElem?_map, List.getElem?_map]
  by_cases h : i < l.length
  · rw [List.getElem?_range h, List.getElem?_eq_getElem h]
    simp [zl, List.getD_eq_getElem?_getD, List.getElem?_eq_getElem h]
  · rw [List.getElem?_eq_none (by simpa using h), List.getElem?_eq_none (by simpa using h)]; rfl
theorem Owb.slv {B : Nat} {w : World} {v : Value} {l : List Nat} (h : Owb B w v l) : SlV w v l.length (Vi (zl l)) := by
  obtain ⟨A, c, rfl, _, hel⟩ := h.weak.shape
  refine ⟨A, c, rfl, fun i hi => ?_⟩
  obtain ⟨g, rfl, hg, hc⟩ := hel i hi
  have e : (⟨g, 0, none⟩ : Addr).add i = ⟨g, i, none⟩ := by cases i <;> simp [Addr.add]
  exact ⟨⟨g, 0, none⟩, rfl, hg, by rw [e]; exact hc⟩
set_option maxHeartbeats 2000000 in
theorem setsRoundTrip_walk (x : Int) (u : Value) (n : Nat) (z : Nat → Int) (hn9 : n ≤ maxLen) (w : World) (hT : Tab w) (hu : SlV w u n (Vi z)) :
    Calls Tryd.prog 4 #[.int .i64 x, u] w fun e w' => e = .returned (.bool true) ∧ Below w.heap.size w w' := by
  by_cases hbig : 70 < n
  · obtain ⟨oa, c, rfl, ha⟩ := hu
    clear ha
    have hn0 : n ≤ 9223372036854775807 := by simpa [maxLen] using hn9
    go_enter Tryd.func4, Tryd.ntmps4
    go_wp2_with fail
    refine (awake_n _ hT).mono ?_
    rintro e w1 ⟨rfl, b1⟩
    go_wp2_with fail
    go_ret
    exact ⟨rfl, b1⟩
  have HP := Lib.hid (plain_z x)
  have ha := plain_lt x
  generalize plainN x = a at *
  have HM := Lib.hid (setMembers_n a ha)
  have hof := ofR_mem a ha
  have hln := members_len a
  rw [← listZ_zl] at hof
  have HO := Lib.hid (fun (v : Value) (w : World) (h : SlV w v (members a).length (Vi (zl (members a)))) => setOf_n v _ _ _ _ hof (by omega) w h)
  obtain ⟨p, q, hpq⟩ : ∃ p q, ofR 0 (listZ n z) = (p, q) := ⟨_, _, rfl⟩
  have HT1 := Lib.hid (fun (w : World) (h : SlV w u n (Vi z)) => setOf_n u n z p q hpq (by omega) w h)
  have HR1 := Lib.hid (fun (w : World) (h : SlV w u n (Vi z)) => refOf_n u n z p q hpq hn9 w h)
  generalize members a = l at *
  obtain ⟨oa, c, rfl, hel⟩ := hu
  have HU : Hid (SlV w (.slice oa n c) n (Vi z)) := ⟨oa, c, rfl, hel⟩
  have hn7 : n ≤ 70 := by omega
  have haa : a < 9223372036854775808 := by simpa using ha
  clear hel hof hpq ha hbig hn9
  go_enter Tryd.func4, Tryd.ntmps4
  go_wp2_with fail
  refine (HP.out _).mono ?_
  rintro e w' ⟨rfl, rfl⟩
  go_wp2_with fail
  refine (HM.out _ hT).mono ?_
  rintro e w1 ⟨v, rfl, o1, b1⟩
  have B1 := Lib.hid b1
  have T1 := hT.over b1
  have U1 := Lib.hid (HU.out.below b1)
  have HO1 := Lib.hid (HO.out v w1 o1.slv)
  clear o1 b1 HO HM HU
  go_wp2_with fail
  refine HO1.out.mono ?_
  rintro e w' ⟨rfl, rfl⟩
  go_wp2_with fail
  refine (HT1.out _ U1.out).mono ?_
  rintro e w' ⟨rfl, rfl⟩
  go_wp2_with fail
  refine (HR1.out _ U1.out).mono ?_
  rintro e w' ⟨rfl, rfl⟩
  go_wp2_with fail
  refine (awake_n _ T1).mono ?_
  rintro e w2 ⟨rfl, b2⟩
  have B2 := Lib.hid (over5 B1.out b2)
  clear b2
  go_wp2_with fail
  go_ret
  exact ⟨rfl, B2.out⟩

end Go.Proofs.YtpcdpljkgnpkoaaDoor.S

