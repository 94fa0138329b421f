/- NatCompares: for any two strings of at most 5000 bytes, nat.Right and nat.Compare answer as the specification's Right and Compare do, the other order's answer is the negation, and the program is awake: the call returns true and leaves its arguments as they were, with no condition. -/
import Derived.Test.YtgpjfgakhncdnaaDoorNatLaw
import Derived.Test.YtgpjfgakhncdnaaDoorClose3
namespace Go.Proofs.YtgpjfgakhncdnaaDoor
open Go.ChangeShapes Go.WideShapes Go.ChangeAt Go.RowKit Go.WideMaps Go.WideElems
open Go.ChangeMaps (open_string shut_string)

set_option maxRecDepth 100000 in
set_option maxHeartbeats 400000 in
theorem natCompares_walk (a b : ByteArray) (w : World) (hT : Tab w) :
    Calls Tryd.prog 3 #[.string a, .string b] w fun e w' => e = .returned (.bool true) ∧ Below w.heap.size w w' := by
  by_cases ha : 5000 < a.size
  · go_enter Tryd.func3, Tryd.ntmps3
    have B0 : Below w.heap.size w w := Below.refl _ _
    have T0 := hT
    go_wp2_with fail
    refine (awake2_any _ T0).mono ?_
    rintro e w1 ⟨rfl, b1⟩
    have B1 := B0.trans (b1.mono B0.size)
    have T1 := T0.below (Nat.le_refl _) b1
    clear B0 b1 T0
    go_wp2_with fail
    go_ret
    exact ⟨rfl, B1⟩
  by_cases hb : 5000 < b.size
  · go_enter Tryd.func3, Tryd.ntmps3
    have B0 : Below w.heap.size w w := Below.refl _ _
    have T0 := hT
    go_wp2_with fail
    refine (awake2_any _ T0).mono ?_
    rintro e w1 ⟨rfl, b1⟩
    have B1 := B0.trans (b1.mono B0.size)
    have T1 := T0.below (Nat.le_refl _) b1
    clear B0 b1 T0
    go_wp2_with fail
    go_ret
    exact ⟨rfl, B1⟩
  by_cases hr : rightL a.data.toList = true ∧ rightL b.data.toList = true
  · obtain ⟨u, rfl⟩ := right_str a hr.1
    obtain ⟨v, rfl⟩ := right_str b hr.2
    clear hr
    rcases Nat.lt_trichotomy u v with h | h | h
    · have H1 : Hid (cmpN u v = -1) := by show _ = _; simp only [cmpN]; split <;> (try split) <;> omega
      have H2 : Hid (cmpN v u = 1) := by show _ = _; simp only [cmpN]; split <;> (try split) <;> omega
      clear h
      go_enter Tryd.func3, Tryd.ntmps3
      have B0 : Below w.heap.size w w := Below.refl _ _
      have T0 := hT
      go_wp2_with fail
      refine (natRight_num u _ (by omega)).mono ?_
      rintro e w1 ⟨rfl, b1⟩
      have B1 := B0.trans (b1.mono B0.size)
      have T1 := T0.below (Nat.le_refl _) b1
      clear B0 b1 T0
      go_wp2_with fail
      refine (refRight_num u _ (by omega)).mono ?_
      rintro e w' ⟨rfl, rfl⟩
      go_wp2_with fail
      refine (natCompare_c u v _ H1 _ (by omega) (by omega)).mono ?_
      rintro e w2 ⟨rfl, b2⟩
      have B2 := B1.trans (b2.mono B1.size)
      have T2 := T1.below (Nat.le_refl _) b2
      clear B1 b2 T1
      go_wp2_with fail
      refine (refCompare_c u v _ H1 _ (by omega) (by omega)).mono ?_
      rintro e w' ⟨rfl, rfl⟩
      go_wp2_with fail
      refine (natCompare_c v u _ H2 _ (by omega) (by omega)).mono ?_
      rintro e w3 ⟨rfl, b3⟩
      have B3 := B2.trans (b3.mono B2.size)
      have T3 := T2.below (Nat.le_refl _) b3
      clear B2 b3 T2
      go_wp2_with fail
      refine (natCompare_c u v _ H1 _ (by omega) (by omega)).mono ?_
      rintro e w4 ⟨rfl, b4⟩
      have B4 := B3.trans (b4.mono B3.size)
      have T4 := T3.below (Nat.le_refl _) b4
      clear B3 b4 T3
      go_wp2_with fail
      refine (awake2_any _ T4).mono ?_
      rintro e w5 ⟨rfl, b5⟩
      have B5 := B4.trans (b5.mono B4.size)
      have T5 := T4.below (Nat.le_refl _) b5
      clear B4 b5 T4
      go_wp2_with fail
      go_ret
      exact ⟨rfl, B5⟩
    · have H1 : Hid (cmpN u v = 0) := by show _ = _; simp only [cmpN]; split <;> (try split) <;> omega
      have H2 : Hid (cmpN v u = 0) := by show _ = _; simp only [cmpN]; split <;> (try split) <;> omega
      clear h
      go_enter Tryd.func3, Tryd.ntmps3
      have B0 : Below w.heap.size w w := Below.refl _ _
      have T0 := hT
      go_wp2_with fail
      refine (natRight_num u _ (by omega)).mono ?_
      rintro e w1 ⟨rfl, b1⟩
      have B1 := B0.trans (b1.mono B0.size)
      have T1 := T0.below (Nat.le_refl _) b1
      clear B0 b1 T0
      go_wp2_with fail
      refine (refRight_num u _ (by omega)).mono ?_
      rintro e w' ⟨rfl, rfl⟩
      go_wp2_with fail
      refine (natCompare_c u v _ H1 _ (by omega) (by omega)).mono ?_
      rintro e w2 ⟨rfl, b2⟩
      have B2 := B1.trans (b2.mono B1.size)
      have T2 := T1.below (Nat.le_refl _) b2
      clear B1 b2 T1
      go_wp2_with fail
      refine (refCompare_c u v _ H1 _ (by omega) (by omega)).mono ?_
      rintro e w' ⟨rfl, rfl⟩
      go_wp2_with fail
      refine (natCompare_c v u _ H2 _ (by omega) (by omega)).mono ?_
      rintro e w3 ⟨rfl, b3⟩
      have B3 := B2.trans (b3.mono B2.size)
      have T3 := T2.below (Nat.le_refl _) b3
      clear B2 b3 T2
      go_wp2_with fail
      refine (natCompare_c u v _ H1 _ (by omega) (by omega)).mono ?_
      rintro e w4 ⟨rfl, b4⟩
      have B4 := B3.trans (b4.mono B3.size)
      have T4 := T3.below (Nat.le_refl _) b4
      clear B3 b4 T3
      go_wp2_with fail
      refine (awake2_any _ T4).mono ?_
      rintro e w5 ⟨rfl, b5⟩
      have B5 := B4.trans (b5.mono B4.size)
      have T5 := T4.below (Nat.le_refl _) b5
      clear B4 b5 T4
      go_wp2_with fail
      go_ret
      exact ⟨rfl, B5⟩
    · have H1 : Hid (cmpN u v = 1) := by show _ = _; simp only [cmpN]; split <;> (try split) <;> omega
      have H2 : Hid (cmpN v u = -1) := by show _ = _; simp only [cmpN]; split <;> (try split) <;> omega
      clear h
      go_enter Tryd.func3, Tryd.ntmps3
      have B0 : Below w.heap.size w w := Below.refl _ _
      have T0 := hT
      go_wp2_with fail
      refine (natRight_num u _ (by omega)).mono ?_
      rintro e w1 ⟨rfl, b1⟩
      have B1 := B0.trans (b1.mono B0.size)
      have T1 := T0.below (Nat.le_refl _) b1
      clear B0 b1 T0
      go_wp2_with fail
      refine (refRight_num u _ (by omega)).mono ?_
      rintro e w' ⟨rfl, rfl⟩
      go_wp2_with fail
      refine (natCompare_c u v _ H1 _ (by omega) (by omega)).mono ?_
      rintro e w2 ⟨rfl, b2⟩
      have B2 := B1.trans (b2.mono B1.size)
      have T2 := T1.below (Nat.le_refl _) b2
      clear B1 b2 T1
      go_wp2_with fail
      refine (refCompare_c u v _ H1 _ (by omega) (by omega)).mono ?_
      rintro e w' ⟨rfl, rfl⟩
      go_wp2_with fail
      refine (natCompare_c v u _ H2 _ (by omega) (by omega)).mono ?_
      rintro e w3 ⟨rfl, b3⟩
      have B3 := B2.trans (b3.mono B2.size)
      have T3 := T2.below (Nat.le_refl _) b3
      clear B2 b3 T2
      go_wp2_with fail
      refine (natCompare_c u v _ H1 _ (by omega) (by omega)).mono ?_
      rintro e w4 ⟨rfl, b4⟩
      have B4 := B3.trans (b4.mono B3.size)
      have T4 := T3.below (Nat.le_refl _) b4
      clear B3 b4 T3
      go_wp2_with fail
      refine (awake2_any _ T4).mono ?_
      rintro e w5 ⟨rfl, b5⟩
      have B5 := B4.trans (b5.mono B4.size)
      have T5 := T4.below (Nat.le_refl _) b5
      clear B4 b5 T4
      go_wp2_with fail
      go_ret
      exact ⟨rfl, B5⟩
  · have HB : Hid (rightL a.data.toList = false ∨ rightL b.data.toList = false) := by
      show _ ∨ _
      cases h1 : rightL a.data.toList
      · exact Or.inl rfl
      · cases h2 : rightL b.data.toList
        · exact Or.inr rfl
        · exact absurd ⟨h1, h2⟩ hr
    clear hr
    go_enter Tryd.func3, Tryd.ntmps3
    have B0 : Below w.heap.size w w := Below.refl _ _
    have T0 := hT
    go_wp2_with fail
    refine (natRight_any a _ (by omega)).mono ?_
    rintro e w1 ⟨rfl, b1⟩
    have B1 := B0.trans (b1.mono B0.size)
    have T1 := T0.below (Nat.le_refl _) b1
    clear B0 b1 T0
    go_wp2_with fail
    refine (refRight_any a _ (by omega)).mono ?_
    rintro e w' ⟨rfl, rfl⟩
    go_wp2_with fail
    refine (natCompare_bad a b _ (by omega) (by omega) HB.out).mono ?_
    rintro e w2 ⟨rfl, b2⟩
    have B2 := B1.trans (b2.mono B1.size)
    have T2 := T1.below (Nat.le_refl _) b2
    clear B1 b2 T1
    go_wp2_with fail
    refine (refCompare_bad a b _ (by omega) (by omega) HB.out).mono ?_
    rintro e w' ⟨rfl, rfl⟩
    go_wp2_with fail
    refine (natCompare_bad b a _ (by omega) (by omega) HB.out.symm).mono ?_
    rintro e w3 ⟨rfl, b3⟩
    have B3 := B2.trans (b3.mono B2.size)
    have T3 := T2.below (Nat.le_refl _) b3
    clear B2 b3 T2
    go_wp2_with fail
    refine (natCompare_bad a b _ (by omega) (by omega) HB.out).mono ?_
    rintro e w4 ⟨rfl, b4⟩
    have B4 := B3.trans (b4.mono B3.size)
    have T4 := T3.below (Nat.le_refl _) b4
    clear B3 b4 T3
    go_wp2_with fail
    refine (awake2_any _ T4).mono ?_
    rintro e w5 ⟨rfl, b5⟩
    have B5 := B4.trans (b5.mono B4.size)
    have T5 := T4.below (Nat.le_refl _) b5
    clear B4 b5 T4
    go_wp2_with fail
    go_ret
    exact ⟨rfl, B5⟩

set_option maxRecDepth 100000 in
theorem natCompares_lifted (os : Os) (started : os.Started) (H : Type) (enc : TypeId × Value → H) :
    ReturnsInHanded {} Tryd.checked os 3 .any (fun w args => (Rows.natComparesSpec.pre enc Tryd.prog Tryd.f3 [] false w args ∧ laidMetH Tryd.prog laid5 w) ∧ sizedMet enc Tryd.prog Tryd.f3 (OpenSpec.ofChange Rows.natComparesSpec) false w args)
      (Rows.natComparesSpec.post enc Tryd.prog Tryd.f3 false true false false) := by
  refine returnsInHanded_of_change_and (C := Tryd.checked) (X := fun w _ => laidMetH Tryd.prog laid5 w) (fun _ _ _ hh h => h.of_heap hh) own started (by kernel_rfl) Tryd.func3
    (ChangeSpec.witness_shaped (enc := enc) (C := Tryd.checked) (os := os) (X := fun w _ => laidMetH Tryd.prog laid5 w) false (World.doorLaid Tryd.prog 65 os) #[.string ⟨#[]⟩, .string ⟨#[]⟩] 8 rfl (World.shaped_of_RefB (by kernel_rfl) (by kernel_rfl)) (by kernel_rfl) (by kernel_rfl) (by kernel_rfl) (door_met os _)) ?_
  intro W base args ds gs before hval0 hW _ _ hL _
  have hval : ∀ (j : Nat) t v, Tryd.f3.params[j]? = some t → args[j]? = some v → Value.okWide Tryd.prog W .any base t v := hval0
  have hW' := hW
  obtain ⟨p, q, hA0, hV, rfl, hfz, hnd⟩ := hW
  have hA : DataW.TrodAll enc Tryd.prog W 0 (fun _ => true) true Tryd.f3.params.toList args.toList ds p := hA0
  rw [Tryd.params3] at hA hval
  obtain ⟨v0, v1, d0, d1, p0, p1, rfl, rfl, rfl, k0, k1⟩ := trodAll_two hA
  obtain ⟨rfl, rfl⟩ := trodVars_none hV
  obtain ⟨x0, rfl, rfl, rfl, h0⟩ := open_string Tryd.underlying9 (hval 0 9 v0 rfl rfl) k0
  obtain ⟨x1, rfl, rfl, rfl, h1⟩ := open_string Tryd.underlying9 (hval 1 9 v1 rfl rfl) k1
  have hT := tab_of hL
  clear hA0 hval0
  simp only [List.append_nil] at hW'
  refine (natCompares_walk x0 x1 W hT).mono fun e W' ⟨he, hb⟩ => ?_
  subst he
  exact ⟨_, rfl, post_kept (pa := []) (pv := []) hW' (fun _ _ _ => trodAll_mk1 (shut_bool Tryd.underlying4 _)) (fun _ _ => trodAll_mk2 (shut_string Tryd.underlying9 h0) (shut_string Tryd.underlying9 h1)) (fun _ _ => rfl) rfl hb⟩

theorem natCompares_said : Rows.NatComparesSaid :=
  OpenClaim.holds_of_wide 3 Tryd.f3 rfl rfl rfl rfl rfl rfl rfl ⟨rfl, rfl, rfl, rfl, rfl⟩ rfl rfl rfl rfl rfl (by kernel_rfl) Tryd.func3 (by kernel_rfl)
    (of_decide_eq_true (by kernel_rfl)) (by unfold Func.isWrapper; first | (rw [if_pos (by decide +kernel)]; kernel_rfl) | (rw [if_neg (by decide +kernel)]; exact ⟨rfl, rfl⟩))
    (fun os started H enc _ => natCompares_lifted os started H enc)

/-- the card -/
theorem natCompares_holds : Rows.NatComparesCardSaid :=
  Claim7.holds_tied_plain_at .later [] _ _ _ _ natCompares_said (fun _ h => by cases h) (by kernel_rfl) (fun _ h => by cases h) natCompares_row_tie rfl ⟨rfl, rfl⟩ (by kernel_rfl) rfl
    (plain_of (k := 3) (g := Tryd.f3) (by kernel_rfl) (ts := [9, 9]) Tryd.func3 (by kernel_rfl) (by kernel_rfl)) (by kernel_rfl)

end Go.Proofs.YtgpjfgakhncdnaaDoor
