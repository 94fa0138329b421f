/- NatLimits: for any two numbers of 16 bits, nat.Add and nat.Mul of so many nines each (up to 4200) answer as the document says of numbers of about as many digits as are allowed, and the program is awake: the call returns true and leaves its arguments as they were; the library's tables are as the program's text lays them. -/
import Derived.Test.YtgpjfgakhncdnaaDoorNatNines
import Derived.Test.YtgpjfgakhncdnaaDoorClose3
import Derived.Deep.CutRange
import Derived.Deep.LoopGhost
namespace Go.Proofs.YtgpjfgakhncdnaaDoor
open Go.ChangeShapes Go.WideShapes Go.ChangeAt Go.RowKit Go.WideMaps Go.WideElems
open Go.ChangeMaps (open_string shut_string)

theorem wrong_form (N M : Nat) (h : N = 0 ∨ M = 0) : wrongL (List.replicate N 57) (List.replicate M 57) = 3 := by
  rw [wrongL, if_pos]
  rcases h with h | h
  · left; subst h; rfl
  · right; subst h; rfl
theorem right_nines (N : Nat) (h : 0 < N) : rightL (List.replicate N 57) = true := by
  have := nines_num N h
  have h2 := congrArg (fun s : ByteArray => s.data.toList) this
  simp only [num_data] at h2
  rw [h2, right_num]
theorem wrong_size (N M : Nat) (hN : 0 < N) (hM : 0 < M) (h : 4096 < N ∨ 4096 < M) : wrongL (List.replicate N 57) (List.replicate M 57) = 4 := by
  rw [wrongL, right_nines N hN, right_nines M hM, if_neg (by simp), List.length_replicate, List.length_replicate, if_pos h]
theorem nines_bytes (N : Nat) : (⟨(List.replicate N 57).toArray⟩ : ByteArray).data.toList = List.replicate N 57 := rfl
theorem nines_len (N : Nat) : (⟨(List.replicate N 57).toArray⟩ : ByteArray).size = N := by rw [← len_of]; simp

set_option maxRecDepth 100000 in
set_option maxHeartbeats 8000000 in
theorem natLimits_walk (N M : Nat) (hN : N ≤ 65535) (hM : M ≤ 65535) (w : World) (hT : Tab w) :
    Calls Tryd.prog 8 #[.int .u16 (N : Int), .int .u16 (M : Int)] w fun e w' => e = .returned (.bool true) ∧ Below w.heap.size w w' := by
  by_cases hN2 : 4200 < N
  · go_enter Tryd.func8, Tryd.ntmps8
    go_wp2_with fail
    refine (awake2_any _ hT).mono ?_
    rintro e w1 ⟨rfl, b1⟩
    go_wp2_with fail
    go_ret
    exact ⟨rfl, b1⟩
  by_cases hM2 : 4200 < M
  · go_enter Tryd.func8, Tryd.ntmps8
    go_wp2_with fail
    refine (awake2_any _ hT).mono ?_
    rintro e w1 ⟨rfl, b1⟩
    go_wp2_with fail
    go_ret
    exact ⟨rfl, b1⟩
  have hmk1 := make_u16 N (by omega)
  have hmk2 := make_u16 M (by omega)
  have hsz : ∀ n, (w.alloc (.cells (madeCells #[.int .u8 0] n) 5)).heap.size = w.heap.size + 1 := fun n => by simp
  have hHA : ∀ n, Below w.heap.size w (w.alloc (.cells (madeCells #[.int .u8 0] n) 5)) := fun n => (Below.refl w.heap.size w).alloc (Nat.le_refl _) _
  have ha1 : Hid (Rb ((w.alloc (.cells (madeCells #[.int .u8 0] N) 5)).alloc (.cells (madeCells #[.int .u8 0] M) 5)).drew w.heap.size N 0) := ((Rb.new w N (by omega)).alloc _).of_block rfl
  have ha2 : Hid (Rb ((w.alloc (.cells (madeCells #[.int .u8 0] N) 5)).alloc (.cells (madeCells #[.int .u8 0] M) 5)).drew (w.heap.size + 1) M 0) := by
    have h := Rb.new (w.alloc (.cells (madeCells #[.int .u8 0] N) 5)) M (by omega)
    rw [hsz N] at h
    exact h.of_block rfl
  have hb1 : Hid (Rb ((w.alloc (.cells (madeCells #[.int .u8 0] M) 5)).alloc (.cells (madeCells #[.int .u8 0] N) 5)).drew w.heap.size M 0) := ((Rb.new w M (by omega)).alloc _).of_block rfl
  have hb2 : Hid (Rb ((w.alloc (.cells (madeCells #[.int .u8 0] M) 5)).alloc (.cells (madeCells #[.int .u8 0] N) 5)).drew (w.heap.size + 1) N 0) := by
    have h := Rb.new (w.alloc (.cells (madeCells #[.int .u8 0] M) 5)) N (by omega)
    rw [hsz M] at h
    exact h.of_block rfl
  have hB1 : Hid (Below w.heap.size w ((w.alloc (.cells (madeCells #[.int .u8 0] N) 5)).alloc (.cells (madeCells #[.int .u8 0] M) 5)).drew) := ((hHA N).alloc (by rw [hsz]; omega) _).drew
  have hB2 : Hid (Below w.heap.size w ((w.alloc (.cells (madeCells #[.int .u8 0] M) 5)).alloc (.cells (madeCells #[.int .u8 0] N) 5)).drew) := ((hHA M).alloc (by rw [hsz]; omega) _).drew
  clear hsz hHA
  go_enter Tryd.func8, Tryd.ntmps8
  go_upto_region 3 with fail
  go_cut [5, 6] from 25 to 28 (fun x y wx => ∃ ga gb : Nat, x = .slice (some ⟨ga, 0, none⟩) N N ∧ y = .slice (some ⟨gb, 0, none⟩) M M ∧ ga ≠ gb ∧ w.heap.size ≤ ga ∧ w.heap.size ≤ gb ∧ Hid (Rb wx ga N 0) ∧ Hid (Rb wx gb M 0) ∧ Hid (Below w.heap.size w wx))
  case first =>
    go_region
    all_goals
      go_wp2_with fail
      go_meet
      first
        | exact ⟨w.heap.size, w.heap.size + 1, rfl, rfl, by omega, by omega, by omega, ha1, ha2, hB1⟩
        | exact ⟨w.heap.size + 1, w.heap.size, rfl, rfl, by omega, by omega, by omega, hb2, hb1, hB2⟩
  obtain ⟨ga, gb, rfl, rfl, hne, hga, hgb, HA, HB, HW⟩ := hcut
  clear ha1 ha2 hb1 hb2 hB1 hB2 hmk1 hmk2
  go_wp2_with fail
  go_loopg [31] N (fun k i wr => ∃ j : Nat, j + k = N ∧ i = .int .i64 (j : Int) ∧ Hid (Rb wr ga N j) ∧ Hid (Rb wr gb M 0) ∧ Hid (Below w.heap.size w wr))
  case atStart => exact ⟨0, by omega, rfl, HA, HB, HW⟩
  case round =>
    clear HA HB HW
    obtain ⟨j, hj, rfl, HA, HB, HW⟩ := hrel
    by_cases hlt : j < N
    · have hc := HA.out.cell hlt
      have hf := HA.out.frozen j
      have HA2 := Lib.hid (HA.out.store hlt)
      have HB2 := Lib.hid (HB.out.far (p := ⟨ga, j, none⟩) (Ne.symm hne) (.int .u8 57))
      have HW2 := Lib.hid (HW.out.setCell (p := ⟨ga, j, none⟩) hga (.int .u8 57))
      go_wp2_with fail
      go_roundg (gk - 1)
      case measure => omega
      case rel => exact ⟨j + 1, by omega, by go_num, HA2, HB2, HW2⟩
    have hjN : j = N := by omega
    subst hjN
    clear hlt hj
    go_wp2_with fail
    go_loopg [40] M (fun k i wr => ∃ j' : Nat, j' + k = M ∧ i = .int .i64 (j' : Int) ∧ Hid (Rb wr ga j j) ∧ Hid (Rb wr gb M j') ∧ Hid (Below w.heap.size w wr))
    case atStart => exact ⟨0, by omega, rfl, HA, HB, HW⟩
    case round =>
      clear HA HB HW
      obtain ⟨i, hi, rfl, HA, HB, HW⟩ := hrel
      by_cases hlt : i < M
      · have hc := HB.out.cell hlt
        have hf := HB.out.frozen i
        have HB2 := Lib.hid (HB.out.store hlt)
        have HA2 := Lib.hid (HA.out.far (p := ⟨gb, i, none⟩) hne (.int .u8 57))
        have HW2 := Lib.hid (HW.out.setCell (p := ⟨gb, i, none⟩) hgb (.int .u8 57))
        go_wp2_with fail
        go_roundg (gk - 1)
        case measure => omega
        case rel => exact ⟨i + 1, by omega, by go_num, HA2, HB2, HW2⟩
      have hiM : i = M := by omega
      subst hiM
      clear hlt hi
      have hcA : ∀ nn, (convert 33 9 (.slice (some ⟨ga, 0, none⟩) j j)).run Tryd.prog (wr.drewN nn) = .ok (.string ⟨(List.replicate j 57).toArray⟩) (wr.drewN nn) := fun nn => Rb.str (w := wr.drewN nn) (HA.out.of_block rfl)
      have hcB : ∀ nn, (convert 33 9 (.slice (some ⟨gb, 0, none⟩) i i)).run Tryd.prog (wr.drewN nn) = .ok (.string ⟨(List.replicate i 57).toArray⟩) (wr.drewN nn) := fun nn => Rb.str (w := wr.drewN nn) (HB.out.of_block rfl)
      have hlA := nines_len j
      have hlB := nines_len i
      have HWF := Lib.hid (wrong_form j i)
      have HWS := Lib.hid (wrong_size j i)
      have HNA := Lib.hid (nines_num j)
      have HNB := Lib.hid (nines_num i)
      obtain ⟨sa, hsa⟩ : ∃ sa : ByteArray, (⟨(List.replicate j 57).toArray⟩ : ByteArray) = sa := ⟨_, rfl⟩
      obtain ⟨sb, hsb⟩ : ∃ sb : ByteArray, (⟨(List.replicate i 57).toArray⟩ : ByteArray) = sb := ⟨_, rfl⟩
      rw [← nines_bytes j, ← nines_bytes i, hsa, hsb] at HWF HWS
      rw [hsa] at hcA hlA HNA
      rw [hsb] at hcB hlB HNB
      clear hsa hsb HA HB
      have HT := Lib.hid (hT.below (Nat.le_refl _) HW.out)
      go_wp2_with fail
      go_quiet (fail)
      have BB0 : Below w.heap.size w (wr.drewN nq) := below_drewN HW.out nq
      have TT0 : Tab (wr.drewN nq) := HT.out.below (Nat.le_refl _) (below_drewN (Below.refl _ _) nq)
      clear HT HW hcA hcB
      have hcase : (j = 0) ∨ (0 < j ∧ i = 0) ∨ (4096 < j ∧ 0 < i) ∨ (0 < j ∧ j ≤ 4096 ∧ 4096 < i) ∨ (4096 ≤ j ∧ j ≤ 4096 ∧ 0 < i ∧ i ≤ 4096) ∨ (1 < j ∧ j < 4096 ∧ 4096 ≤ i ∧ i ≤ 4096) ∨ (0 < j ∧ j ≤ 1 ∧ 4096 ≤ i ∧ i ≤ 4096) ∨ (0 < j ∧ j < 4096 ∧ 0 < i ∧ i < 4096 ∧ 4096 < j + i) ∨ (0 < j ∧ j < 4096 ∧ 0 < i ∧ i < 4096 ∧ j + i ≤ 4096) := by omega
      rcases hcase with c1 | ⟨c1, c2⟩ | ⟨c1, c2⟩ | ⟨c1, c2, c3⟩ | ⟨c1, c2, c3, c4⟩ | ⟨c1, c2, c3, c4⟩ | ⟨c1, c2, c3, c4⟩ | ⟨c1, c2, c3, c4, c5⟩ | ⟨c1, c2, c3, c4, c5⟩
      · have HX := Lib.hid (HWF.out (.inl c1))
        subst c1
        clear HWF HWS HNA HNB
        go_wp2_with fail
        all_goals (try (exfalso; omega))
        all_goals
          refine (natAdd_bad sa sb 3 HX rfl _ (by omega) (by omega)).mono ?_
          rintro e w5 ⟨rfl, b1⟩
          have BB1 := BB0.trans (b1.mono BB0.size)
          have TT1 := TT0.below (Nat.le_refl _) b1
          clear BB0 b1 TT0
          go_wp2_with fail
          refine (natMul_bad sa sb 3 HX rfl _ (by omega) (by omega)).mono ?_
          rintro e w6 ⟨rfl, b2⟩
          have BB2 := BB1.trans (b2.mono BB1.size)
          have TT2 := TT1.below (Nat.le_refl _) b2
          clear BB1 b2 TT1
          go_wp2_with fail
          refine (awake2_any _ TT2).mono ?_
          rintro e w7 ⟨rfl, b3⟩
          have BB3 := BB2.trans (b3.mono BB2.size)
          have TT3 := TT2.below (Nat.le_refl _) b3
          clear BB2 b3 TT2
          go_wp2_with fail
          go_ret
          exact ⟨rfl, BB3⟩
      · have HX := Lib.hid (HWF.out (.inr c2))
        subst c2
        clear HWF HWS HNA HNB
        go_wp2_with fail
        all_goals (try (exfalso; omega))
        all_goals
          refine (natAdd_bad sa sb 3 HX rfl _ (by omega) (by omega)).mono ?_
          rintro e w5 ⟨rfl, b1⟩
          have BB1 := BB0.trans (b1.mono BB0.size)
          have TT1 := TT0.below (Nat.le_refl _) b1
          clear BB0 b1 TT0
          go_wp2_with fail
          refine (natMul_bad sa sb 3 HX rfl _ (by omega) (by omega)).mono ?_
          rintro e w6 ⟨rfl, b2⟩
          have BB2 := BB1.trans (b2.mono BB1.size)
          have TT2 := TT1.below (Nat.le_refl _) b2
          clear BB1 b2 TT1
          go_wp2_with fail
          refine (awake2_any _ TT2).mono ?_
          rintro e w7 ⟨rfl, b3⟩
          have BB3 := BB2.trans (b3.mono BB2.size)
          have TT3 := TT2.below (Nat.le_refl _) b3
          clear BB2 b3 TT2
          go_wp2_with fail
          go_ret
          exact ⟨rfl, BB3⟩
      · have HX := Lib.hid (HWS.out (by omega) c2 (.inl c1))
        have k1 : ((j : Int) == 0) = false := by simp; omega
        have k2 : ((i : Int) == 0) = false := by simp; omega
        clear HWF HWS HNA HNB
        go_wp2_with fail
        all_goals (try (exfalso; omega))
        all_goals
          refine (natAdd_bad sa sb 4 HX rfl _ (by omega) (by omega)).mono ?_
          rintro e w5 ⟨rfl, b1⟩
          have BB1 := BB0.trans (b1.mono BB0.size)
          have TT1 := TT0.below (Nat.le_refl _) b1
          clear BB0 b1 TT0
          go_wp2_with fail
          refine (natMul_bad sa sb 4 HX rfl _ (by omega) (by omega)).mono ?_
          rintro e w6 ⟨rfl, b2⟩
          have BB2 := BB1.trans (b2.mono BB1.size)
          have TT2 := TT1.below (Nat.le_refl _) b2
          clear BB1 b2 TT1
          go_wp2_with fail
          refine (awake2_any _ TT2).mono ?_
          rintro e w7 ⟨rfl, b3⟩
          have BB3 := BB2.trans (b3.mono BB2.size)
          have TT3 := TT2.below (Nat.le_refl _) b3
          clear BB2 b3 TT2
          go_wp2_with fail
          go_ret
          exact ⟨rfl, BB3⟩
      · have HX := Lib.hid (HWS.out c1 (by omega) (.inr c3))
        have k1 : ((j : Int) == 0) = false := by simp; omega
        have k2 : ((i : Int) == 0) = false := by simp; omega
        clear HWF HWS HNA HNB
        go_wp2_with fail
        all_goals (try (exfalso; omega))
        all_goals
          refine (natAdd_bad sa sb 4 HX rfl _ (by omega) (by omega)).mono ?_
          rintro e w5 ⟨rfl, b1⟩
          have BB1 := BB0.trans (b1.mono BB0.size)
          have TT1 := TT0.below (Nat.le_refl _) b1
          clear BB0 b1 TT0
          go_wp2_with fail
          refine (natMul_bad sa sb 4 HX rfl _ (by omega) (by omega)).mono ?_
          rintro e w6 ⟨rfl, b2⟩
          have BB2 := BB1.trans (b2.mono BB1.size)
          have TT2 := TT1.below (Nat.le_refl _) b2
          clear BB1 b2 TT1
          go_wp2_with fail
          refine (awake2_any _ TT2).mono ?_
          rintro e w7 ⟨rfl, b3⟩
          have BB3 := BB2.trans (b3.mono BB2.size)
          have TT3 := TT2.below (Nat.le_refl _) b3
          clear BB2 b3 TT2
          go_wp2_with fail
          go_ret
          exact ⟨rfl, BB3⟩
      · have hj0 : 0 < j := by omega
        have hi0 : 0 < i := by omega
        have ea := HNA.out hj0
        have eb := HNB.out hi0
        have hsu := nines_size j hj0
        have hsv := nines_size i hi0
        have hsA := nd_add_nines j i hj0 hi0
        have hsM := nd_mul_nines j i hj0 hi0
        generalize 10 ^ j - 1 = u at *
        generalize 10 ^ i - 1 = v at *
        subst ea
        subst eb
        rw [← numS] at hsA hsM
        have hszI : (((num (u * v)).size : Int) == (j : Int) + (i : Int)) = true := by rw [hsM]; simp
        clear hlA hlB
        have k1 : ((j : Int) == 0) = false := by simp; omega
        have k2 : ((i : Int) == 0) = false := by simp; omega
        clear HWF HWS HNA HNB
        go_wp2_with fail
        all_goals (try (exfalso; omega))
        all_goals
          refine (natAdd_over u v _ (by omega) (by omega) (by omega) TT0).mono ?_
          rintro e w5 ⟨rfl, b1⟩
          have BB1 := BB0.trans (b1.mono BB0.size)
          have TT1 := TT0.below (Nat.le_refl _) b1
          clear BB0 b1 TT0
          go_wp2_with fail
          refine (natMul_over u v _ (by omega) (by omega) (by omega) TT1).mono ?_
          rintro e w6 ⟨rfl, b2⟩
          have BB2 := BB1.trans (b2.mono BB1.size)
          have TT2 := TT1.below (Nat.le_refl _) b2
          clear BB1 b2 TT1
          go_wp2_with fail
          refine (awake2_any _ TT2).mono ?_
          rintro e w7 ⟨rfl, b3⟩
          have BB3 := BB2.trans (b3.mono BB2.size)
          have TT3 := TT2.below (Nat.le_refl _) b3
          clear BB2 b3 TT2
          go_wp2_with fail
          go_ret
          exact ⟨rfl, BB3⟩
      · have hj0 : 0 < j := by omega
        have hi0 : 0 < i := by omega
        have ea := HNA.out hj0
        have eb := HNB.out hi0
        have hsu := nines_size j hj0
        have hsv := nines_size i hi0
        have hsA := nd_add_nines j i hj0 hi0
        have hsM := nd_mul_nines j i hj0 hi0
        generalize 10 ^ j - 1 = u at *
        generalize 10 ^ i - 1 = v at *
        subst ea
        subst eb
        rw [← numS] at hsA hsM
        have hszI : (((num (u * v)).size : Int) == (j : Int) + (i : Int)) = true := by rw [hsM]; simp
        clear hlA hlB
        have k1 : ((j : Int) == 0) = false := by simp; omega
        have k2 : ((i : Int) == 0) = false := by simp; omega
        clear HWF HWS HNA HNB
        go_wp2_with fail
        all_goals (try (exfalso; omega))
        all_goals
          refine (natAdd_over u v _ (by omega) (by omega) (by omega) TT0).mono ?_
          rintro e w5 ⟨rfl, b1⟩
          have BB1 := BB0.trans (b1.mono BB0.size)
          have TT1 := TT0.below (Nat.le_refl _) b1
          clear BB0 b1 TT0
          go_wp2_with fail
          refine (natMul_over u v _ (by omega) (by omega) (by omega) TT1).mono ?_
          rintro e w6 ⟨rfl, b2⟩
          have BB2 := BB1.trans (b2.mono BB1.size)
          have TT2 := TT1.below (Nat.le_refl _) b2
          clear BB1 b2 TT1
          go_wp2_with fail
          refine (awake2_any _ TT2).mono ?_
          rintro e w7 ⟨rfl, b3⟩
          have BB3 := BB2.trans (b3.mono BB2.size)
          have TT3 := TT2.below (Nat.le_refl _) b3
          clear BB2 b3 TT2
          go_wp2_with fail
          go_ret
          exact ⟨rfl, BB3⟩
      · have hj0 : 0 < j := by omega
        have hi0 : 0 < i := by omega
        have ea := HNA.out hj0
        have eb := HNB.out hi0
        have hsu := nines_size j hj0
        have hsv := nines_size i hi0
        have hsA := nd_add_nines j i hj0 hi0
        have hsM := nd_mul_nines j i hj0 hi0
        generalize 10 ^ j - 1 = u at *
        generalize 10 ^ i - 1 = v at *
        subst ea
        subst eb
        rw [← numS] at hsA hsM
        have hszI : (((num (u * v)).size : Int) == (j : Int) + (i : Int)) = true := by rw [hsM]; simp
        clear hlA hlB
        have k1 : ((j : Int) == 0) = false := by simp; omega
        have k2 : ((i : Int) == 0) = false := by simp; omega
        clear HWF HWS HNA HNB
        go_wp2_with fail
        all_goals (try (exfalso; omega))
        all_goals
          refine (natAdd_over u v _ (by omega) (by omega) (by omega) TT0).mono ?_
          rintro e w5 ⟨rfl, b1⟩
          have BB1 := BB0.trans (b1.mono BB0.size)
          have TT1 := TT0.below (Nat.le_refl _) b1
          clear BB0 b1 TT0
          go_wp2_with fail
          refine (natMul_over u v _ (by omega) (by omega) (by omega) TT1).mono ?_
          rintro e w6 ⟨rfl, b2⟩
          have BB2 := BB1.trans (b2.mono BB1.size)
          have TT2 := TT1.below (Nat.le_refl _) b2
          clear BB1 b2 TT1
          go_wp2_with fail
          refine (awake2_any _ TT2).mono ?_
          rintro e w7 ⟨rfl, b3⟩
          have BB3 := BB2.trans (b3.mono BB2.size)
          have TT3 := TT2.below (Nat.le_refl _) b3
          clear BB2 b3 TT2
          go_wp2_with fail
          go_ret
          exact ⟨rfl, BB3⟩
      · have hj0 : 0 < j := by omega
        have hi0 : 0 < i := by omega
        have ea := HNA.out hj0
        have eb := HNB.out hi0
        have hsu := nines_size j hj0
        have hsv := nines_size i hi0
        have hsA := nd_add_nines j i hj0 hi0
        have hsM := nd_mul_nines j i hj0 hi0
        generalize 10 ^ j - 1 = u at *
        generalize 10 ^ i - 1 = v at *
        subst ea
        subst eb
        rw [← numS] at hsA hsM
        have hszI : (((num (u * v)).size : Int) == (j : Int) + (i : Int)) = true := by rw [hsM]; simp
        clear hlA hlB
        have k1 : ((j : Int) == 0) = false := by simp; omega
        have k2 : ((i : Int) == 0) = false := by simp; omega
        clear HWF HWS HNA HNB
        go_wp2_with fail
        all_goals (try (exfalso; omega))
        all_goals
          refine (natAdd_num u v _ (by omega) (by omega) (by omega) TT0).mono ?_
          rintro e w5 ⟨rfl, b1⟩
          have BB1 := BB0.trans (b1.mono BB0.size)
          have TT1 := TT0.below (Nat.le_refl _) b1
          clear BB0 b1 TT0
          go_wp2_with fail
          refine (natMul_over u v _ (by omega) (by omega) (by omega) TT1).mono ?_
          rintro e w6 ⟨rfl, b2⟩
          have BB2 := BB1.trans (b2.mono BB1.size)
          have TT2 := TT1.below (Nat.le_refl _) b2
          clear BB1 b2 TT1
          go_wp2_with fail
          refine (awake2_any _ TT2).mono ?_
          rintro e w7 ⟨rfl, b3⟩
          have BB3 := BB2.trans (b3.mono BB2.size)
          have TT3 := TT2.below (Nat.le_refl _) b3
          clear BB2 b3 TT2
          go_wp2_with fail
          go_ret
          exact ⟨rfl, BB3⟩
      · have hj0 : 0 < j := by omega
        have hi0 : 0 < i := by omega
        have ea := HNA.out hj0
        have eb := HNB.out hi0
        have hsu := nines_size j hj0
        have hsv := nines_size i hi0
        have hsA := nd_add_nines j i hj0 hi0
        have hsM := nd_mul_nines j i hj0 hi0
        generalize 10 ^ j - 1 = u at *
        generalize 10 ^ i - 1 = v at *
        subst ea
        subst eb
        rw [← numS] at hsA hsM
        have hszI : (((num (u * v)).size : Int) == (j : Int) + (i : Int)) = true := by rw [hsM]; simp
        clear hlA hlB
        have k1 : ((j : Int) == 0) = false := by simp; omega
        have k2 : ((i : Int) == 0) = false := by simp; omega
        clear HWF HWS HNA HNB
        go_wp2_with fail
        all_goals (try (exfalso; omega))
        all_goals
          refine (natAdd_num u v _ (by omega) (by omega) (by omega) TT0).mono ?_
          rintro e w5 ⟨rfl, b1⟩
          have BB1 := BB0.trans (b1.mono BB0.size)
          have TT1 := TT0.below (Nat.le_refl _) b1
          clear BB0 b1 TT0
          go_wp2_with fail
          refine (natMul_num u v _ (by omega) (by omega) (by omega) TT1).mono ?_
          rintro e w6 ⟨rfl, b2⟩
          have BB2 := BB1.trans (b2.mono BB1.size)
          have TT2 := TT1.below (Nat.le_refl _) b2
          clear BB1 b2 TT1
          go_wp2_with fail
          refine (awake2_any _ TT2).mono ?_
          rintro e w7 ⟨rfl, b3⟩
          have BB3 := BB2.trans (b3.mono BB2.size)
          have TT3 := TT2.below (Nat.le_refl _) b3
          clear BB2 b3 TT2
          go_wp2_with fail
          go_ret
          exact ⟨rfl, BB3⟩

set_option maxRecDepth 100000 in
theorem natLimits_lifted (os : Os) (started : os.Started) (H : Type) (enc : TypeId × Value → H) :
    ReturnsInHanded {} Tryd.checked os 8 .any (fun w args => (Rows.natLimitsSpec.pre enc Tryd.prog Tryd.f8 [] false w args ∧ laidMetH Tryd.prog laid5 w) ∧ sizedMet enc Tryd.prog Tryd.f8 (OpenSpec.ofChange Rows.natLimitsSpec) false w args)
      (Rows.natLimitsSpec.post enc Tryd.prog Tryd.f8 false true false false) := by
  refine returnsInHanded_of_change_and (C := Tryd.checked) (X := fun w _ => laidMetH Tryd.prog laid5 w) (fun _ _ _ hh h => h.of_heap hh) own started (by kernel_rfl) Tryd.func8
    (ChangeSpec.witness_shaped (enc := enc) (C := Tryd.checked) (os := os) (X := fun w _ => laidMetH Tryd.prog laid5 w) false (World.doorLaid Tryd.prog 65 os) #[.int .u16 0, .int .u16 0] 8 rfl (World.shaped_of_RefB (by kernel_rfl) (by kernel_rfl)) (by kernel_rfl) (by kernel_rfl) (by kernel_rfl) (door_met os _)) ?_
  intro W base args ds gs before hval0 hW _ _ hL _
  have hval : ∀ (j : Nat) t v, Tryd.f8.params[j]? = some t → args[j]? = some v → Value.okWide Tryd.prog W .any base t v := hval0
  have hW' := hW
  obtain ⟨p, q, hA0, hV, rfl, hfz, hnd⟩ := hW
  have hA : DataW.TrodAll enc Tryd.prog W 0 (fun _ => true) true Tryd.f8.params.toList args.toList ds p := hA0
  rw [Tryd.params8] at hA hval
  obtain ⟨v0, v1, d0, d1, p0, p1, rfl, rfl, rfl, k0, k1⟩ := trodAll_two hA
  obtain ⟨rfl, rfl⟩ := trodVars_none hV
  obtain ⟨x0, rfl, rfl, rfl, h0⟩ := open_int Tryd.underlying32 (hval 0 32 v0 rfl rfl) k0
  obtain ⟨x1, rfl, rfl, rfl, h1⟩ := open_int Tryd.underlying32 (hval 1 32 v1 rfl rfl) k1
  have q0 := bounds_u16 h0
  obtain ⟨n0, rfl⟩ := Int.eq_ofNat_of_zero_le q0.1
  have q1 := bounds_u16 h1
  obtain ⟨n1, rfl⟩ := Int.eq_ofNat_of_zero_le q1.1
  have hT := tab_of hL
  clear hA0 hval0
  simp only [List.append_nil] at hW'
  refine (natLimits_walk n0 n1 (by omega) (by omega) W hT).mono fun e W' ⟨he, hb⟩ => ?_
  subst he
  exact ⟨_, rfl, post_kept (pa := []) (pv := []) hW' (fun _ _ _ => trodAll_mk1 (shut_bool Tryd.underlying4 _)) (fun _ _ => trodAll_mk2 (shut_int Tryd.underlying32 h0) (shut_int Tryd.underlying32 h1)) (fun _ _ => rfl) rfl hb⟩

theorem natLimits_said : Rows.NatLimitsSaid :=
  OpenClaim.holds_of_wide 8 Tryd.f8 rfl rfl rfl rfl rfl rfl rfl ⟨rfl, rfl, rfl, rfl, rfl⟩ rfl rfl rfl rfl rfl (by kernel_rfl) Tryd.func8 (by kernel_rfl)
    (of_decide_eq_true (by kernel_rfl)) (by unfold Func.isWrapper; first | (rw [if_pos (by decide +kernel)]; kernel_rfl) | (rw [if_neg (by decide +kernel)]; exact ⟨rfl, rfl⟩))
    (fun os started H enc _ => natLimits_lifted os started H enc)

/-- the card -/
theorem natLimits_holds : Rows.NatLimitsCardSaid :=
  Claim7.holds_tied_plain_at .later [] _ _ _ _ natLimits_said (fun _ h => by cases h) (by kernel_rfl) (fun _ h => by cases h) natLimits_row_tie rfl ⟨rfl, rfl⟩ (by kernel_rfl) rfl
    (plain_of (k := 8) (g := Tryd.f8) (by kernel_rfl) (ts := [32, 32]) Tryd.func8 (by kernel_rfl) (by kernel_rfl)) (by kernel_rfl)

end Go.Proofs.YtgpjfgakhncdnaaDoor
