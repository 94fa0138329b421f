/-
  DERIVED. The walks of the specification's same and Load, and of the laws' same (same: written by gen_sameints.py).
-/
import Derived.Test.YtalfonpkefhlmaaDoorRefOrd2
import Derived.Test.YtalfonpkefhlmaaDoorRefSet2
import Derived.Test.YtalfonpkefhlmaaDoorRefLoad4
namespace Go.Proofs.YtalfonpkefhlmaaDoor.T
open Go.RowKit
set_option maxRecDepth 8000

theorem caps_eq {a b : List Int} (hl : a.length = b.length) (h : ∀ j, j < a.length → a.getD j 0 = b.getD j 0) : a = b := by
  refine List.ext_getElem hl fun i h1 h2 => ?_
  have := h i h1
  rw [List.getD_eq_getElem?_getD, List.getD_eq_getElem?_getD, List.getElem?_eq_getElem h1, List.getElem?_eq_getElem h2] at this
  exact this
set_option maxHeartbeats 1600000 in
theorem refSameI_n (u v : Value) (a b : List Int) (ha9 : a.length ≤ 9223372036854775807) (hb9 : b.length ≤ 9223372036854775807) (w : World) (hu : L.Li w u a) (hv : L.Li w v b) :
    Calls Tryd.prog 26 #[u, v] w fun e w' => e = .returned (.bool (a == b)) ∧ Below w.heap.size w w' := by
  obtain ⟨oa, ca, rfl, ha⟩ := hu
  obtain ⟨ob, cb, rfl, hb⟩ := hv
  obtain ⟨r, hr⟩ : ∃ r, (a == b) = r := ⟨_, rfl⟩
  rw [hr]
  have HE := Lib.hid hr
  clear hr
  by_cases hl : a.length = b.length
  · have HA := Lib.hid ha
    have HB := Lib.hid hb
    generalize hn : a.length = n at *
    generalize hn' : b.length = n' at *
    subst hl
    have HN := Lib.hid hn
    have HN' := Lib.hid hn'
    clear hn hn' ha hb
    have hne : ((n : Int) != (n : Int)) = false := by simp
    go_enter Tryd.func26, Tryd.ntmps26
    go_wp2_with fail
    go_loopg [5] n (fun g i wr => ∃ k : Nat, k ≤ n ∧ i = .int .i64 k ∧ n - k ≤ g ∧ Hid (∀ j, j < k → a.getD j 0 = b.getD j 0) ∧ Hid (Below w.heap.size w wr))
    case atStart => exact ⟨0, Nat.zero_le _, rfl, Nat.le_refl _, fun j hj => absurd hj (Nat.not_lt_zero _), Below.refl _ _⟩
    case round =>
      obtain ⟨k, hk, rfl, hg, HQ, HW⟩ := hrel
      by_cases hlt : k < n
      · obtain ⟨a1, rfl, hab, x0⟩ := HA.out k hlt
        obtain ⟨b1, rfl, hbb, y0⟩ := HB.out k hlt
        have x1 := (HW.out.cell (p := a1.add k) (by rw [L.add_block]; exact hab)).trans x0
        have y1 := (HW.out.cell (p := b1.add k) (by rw [L.add_block]; exact hbb)).trans y0
        clear x0 y0
        have hkI : (k : Int) < (n : Int) := by omega
        by_cases he : a.getD k 0 = b.getD k 0
        · have HQ2 : Hid (∀ j, j < k + 1 → a.getD j 0 = b.getD j 0) := fun j hj => by
            by_cases e : j = k
            · subst e; exact he
            · exact HQ.out j (by omega)
          rw [← he] at y1
          generalize a.getD k 0 = x at x1 y1
          clear he HQ
          go_wp2_with fail
          go_quiet (fail)
          go_wp2_with fail
          go_roundg (n - (k + 1))
          case measure => omega
          case rel => exact ⟨k + 1, by omega, by go_num, by omega, HQ2, below_drewN HW.out _⟩
        · have HR : Hid (false = r) := by
            show _ = _
            rw [← HE.out]
            symm
            rw [beq_eq_false_iff_ne]; intro h; exact he (by rw [h])
          have hxy := ne_neI he
          generalize a.getD k 0 = x at x1 hxy
          generalize b.getD k 0 = y at y1 hxy
          clear he HQ HE
          go_wp2_with fail
          go_quiet (fail)
          go_wp2_with fail
          go_ret
          exact ⟨ret_bool HR.out, below_drewN HW.out _⟩
      · have HR : Hid (true = r) := by
          show _ = _
          rw [← HE.out]
          symm
          rw [beq_iff_eq]
          exact caps_eq (HN.out.trans HN'.out.symm) fun j hj => HQ.out j (by have := HN.out; omega)
        have hkI : ¬ (k : Int) < (n : Int) := by omega
        clear HQ HE
        go_wp2_with fail
        go_ret
        exact ⟨ret_bool HR.out, HW.out⟩
  · have hne := ne_neN hl
    have HR : Hid (false = r) := by
      show _ = _
      rw [← HE.out]
      symm
      rw [beq_eq_false_iff_ne]; intro h; exact hl (by rw [h])
    clear HE
    generalize a.length = n at *
    generalize b.length = n' at *
    go_enter Tryd.func26, Tryd.ntmps26
    go_wp2_with fail
    go_ret
    exact ⟨ret_bool HR.out, Below.refl _ _⟩

set_option maxHeartbeats 1600000 in
theorem lawSameI_n (u v : Value) (a b : List Int) (ha9 : a.length ≤ 9223372036854775807) (hb9 : b.length ≤ 9223372036854775807) (w : World) (hu : L.Li w u a) (hv : L.Li w v b) :
    Calls Tryd.prog 14 #[u, v] w fun e w' => e = .returned (.bool (a == b)) ∧ Below w.heap.size w w' := by
  obtain ⟨oa, ca, rfl, ha⟩ := hu
  obtain ⟨ob, cb, rfl, hb⟩ := hv
  obtain ⟨r, hr⟩ : ∃ r, (a == b) = r := ⟨_, rfl⟩
  rw [hr]
  have HE := Lib.hid hr
  clear hr
  by_cases hl : a.length = b.length
  · have HA := Lib.hid ha
    have HB := Lib.hid hb
    generalize hn : a.length = n at *
    generalize hn' : b.length = n' at *
    subst hl
    have HN := Lib.hid hn
    have HN' := Lib.hid hn'
    clear hn hn' ha hb
    have hne : ((n : Int) != (n : Int)) = false := by simp
    go_enter Tryd.func14, Tryd.ntmps14
    go_wp2_with fail
    go_loopg [5] n (fun g i wr => ∃ k : Nat, k ≤ n ∧ i = .int .i64 k ∧ n - k ≤ g ∧ Hid (∀ j, j < k → a.getD j 0 = b.getD j 0) ∧ Hid (Below w.heap.size w wr))
    case atStart => exact ⟨0, Nat.zero_le _, rfl, Nat.le_refl _, fun j hj => absurd hj (Nat.not_lt_zero _), Below.refl _ _⟩
    case round =>
      obtain ⟨k, hk, rfl, hg, HQ, HW⟩ := hrel
      by_cases hlt : k < n
      · obtain ⟨a1, rfl, hab, x0⟩ := HA.out k hlt
        obtain ⟨b1, rfl, hbb, y0⟩ := HB.out k hlt
        have x1 := (HW.out.cell (p := a1.add k) (by rw [L.add_block]; exact hab)).trans x0
        have y1 := (HW.out.cell (p := b1.add k) (by rw [L.add_block]; exact hbb)).trans y0
        clear x0 y0
        have hkI : (k : Int) < (n : Int) := by omega
        by_cases he : a.getD k 0 = b.getD k 0
        · have HQ2 : Hid (∀ j, j < k + 1 → a.getD j 0 = b.getD j 0) := fun j hj => by
            by_cases e : j = k
            · subst e; exact he
            · exact HQ.out j (by omega)
          rw [← he] at y1
          generalize a.getD k 0 = x at x1 y1
          clear he HQ
          go_wp2_with fail
          go_quiet (fail)
          go_wp2_with fail
          go_roundg (n - (k + 1))
          case measure => omega
          case rel => exact ⟨k + 1, by omega, by go_num, by omega, HQ2, below_drewN HW.out _⟩
        · have HR : Hid (false = r) := by
            show _ = _
            rw [← HE.out]
            symm
            rw [beq_eq_false_iff_ne]; intro h; exact he (by rw [h])
          have hxy := ne_neI he
          generalize a.getD k 0 = x at x1 hxy
          generalize b.getD k 0 = y at y1 hxy
          clear he HQ HE
          go_wp2_with fail
          go_quiet (fail)
          go_wp2_with fail
          go_ret
          exact ⟨ret_bool HR.out, below_drewN HW.out _⟩
      · have HR : Hid (true = r) := by
          show _ = _
          rw [← HE.out]
          symm
          rw [beq_iff_eq]
          exact caps_eq (HN.out.trans HN'.out.symm) fun j hj => HQ.out j (by have := HN.out; omega)
        have hkI : ¬ (k : Int) < (n : Int) := by omega
        clear HQ HE
        go_wp2_with fail
        go_ret
        exact ⟨ret_bool HR.out, HW.out⟩
  · have hne := ne_neN hl
    have HR : Hid (false = r) := by
      show _ = _
      rw [← HE.out]
      symm
      rw [beq_eq_false_iff_ne]; intro h; exact hl (by rw [h])
    clear HE
    generalize a.length = n at *
    generalize b.length = n' at *
    go_enter Tryd.func14, Tryd.ntmps14
    go_wp2_with fail
    go_ret
    exact ⟨ret_bool HR.out, Below.refl _ _⟩


/-! ### Load -/
theorem mem_own {B : Nat} {w : World} {v : Value} {l : List Nat} (h : S.Owb B w v l) : L.Own B w v (l.map fun (x : Nat) => (x : Int)) := by
  show w.ownsRow B 3 1 v (l.map fun (x : Nat) => (x : Int)).length _
  rw [List.length_map, List.map_map]
  exact h
theorem loads_take {l : List OrT} {ms : List Nat} {k : Nat} (h : k < ms.length) : loadsOf l (ms.take (k + 1)) = loadsOf l (ms.take k) ++ [(l.getD (ms.getD k 0) or0).load] := by
  unfold loadsOf
  rw [take_more (d := 0) h, List.map_append]
  rfl
theorem loads_len (l : List OrT) (ms : List Nat) : (loadsOf l ms).length = ms.length := by unfold loadsOf; rw [List.length_map]

end Go.Proofs.YtalfonpkefhlmaaDoor.T

