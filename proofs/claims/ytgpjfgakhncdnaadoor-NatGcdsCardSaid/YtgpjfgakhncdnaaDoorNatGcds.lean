/- NatGcds: for any three strings of at most 30 bytes, nat.Gcd answers as the specification's Gcd does, its answer divides both numbers and grows with a common factor, and the program is awake: the call returns true and leaves its arguments as they were, with no condition. -/
import Derived.Test.YtgpjfgakhncdnaaDoorNatLaw
import Derived.Test.YtgpjfgakhncdnaaDoorClose3
namespace Go.Proofs.YtgpjfgakhncdnaaDoor
open Go.ChangeShapes Go.WideShapes Go.ChangeAt Go.RowKit Go.WideMaps Go.WideElems
open Go.ChangeMaps (open_string shut_string)

set_option maxRecDepth 100000 in
set_option maxHeartbeats 1000000 in
theorem natGcds_walk (a b c : ByteArray) (w : World) (hT : Tab w) :
    Calls Tryd.prog 7 #[.string a, .string b, .string c] w fun e w' => e = .returned (.bool true) ∧ Below w.heap.size w w' := by
  by_cases ha : 30 < a.size
  · go_enter Tryd.func7, Tryd.ntmps7
    have B0 : Below w.heap.size w w := Below.refl _ _
    have T0 := hT
    go_wp2_with fail
    refine (awake2_any _ T0).mono ?_
    rintro e w1 ⟨rfl, b1⟩
    have B1 := B0.trans (b1.mono B0.size)
    have T1 := T0.below (Nat.le_refl _) b1
    clear B0 b1 T0
    go_wp2_with fail
    go_ret
    exact ⟨rfl, B1⟩
  by_cases hb : 30 < b.size
  · go_enter Tryd.func7, Tryd.ntmps7
    have B0 : Below w.heap.size w w := Below.refl _ _
    have T0 := hT
    go_wp2_with fail
    refine (awake2_any _ T0).mono ?_
    rintro e w1 ⟨rfl, b1⟩
    have B1 := B0.trans (b1.mono B0.size)
    have T1 := T0.below (Nat.le_refl _) b1
    clear B0 b1 T0
    go_wp2_with fail
    go_ret
    exact ⟨rfl, B1⟩
  by_cases hc : 30 < c.size
  · go_enter Tryd.func7, Tryd.ntmps7
    have B0 : Below w.heap.size w w := Below.refl _ _
    have T0 := hT
    go_wp2_with fail
    refine (awake2_any _ T0).mono ?_
    rintro e w1 ⟨rfl, b1⟩
    have B1 := B0.trans (b1.mono B0.size)
    have T1 := T0.below (Nat.le_refl _) b1
    clear B0 b1 T0
    go_wp2_with fail
    go_ret
    exact ⟨rfl, B1⟩
  obtain ⟨x, hx⟩ : ∃ x, wrongL a.data.toList b.data.toList = x := ⟨_, rfl⟩
  by_cases hx0 : x = 0
  · obtain ⟨u, v, rfl, rfl⟩ := wrong_zero hx hx0
    clear hx hx0
    have hz := gcd_size u v 30 (by omega) (by omega)
    by_cases hr : rightL c.data.toList = true
    · obtain ⟨t, rfl⟩ := right_str c hr
      clear hr
      by_cases hg : Nat.gcd u v = 0
      · have HZ := Lib.hid hg
        clear hg
        go_enter Tryd.func7, Tryd.ntmps7
        have B0 : Below w.heap.size w w := Below.refl _ _
        have T0 := hT
        go_wp2_with fail
        refine (natGcd_z u v HZ _ (by omega) (by omega) T0).mono ?_
        rintro e w1 ⟨rfl, b1⟩
        have B1 := B0.trans (b1.mono B0.size)
        have T1 := T0.below (Nat.le_refl _) b1
        clear B0 b1 T0
        go_wp2_with fail
        refine (refGcd_z u v HZ _ (by omega) (by omega)).mono ?_
        rintro e w' ⟨rfl, rfl⟩
        go_wp2_with fail
        refine (refRight_num t _ (by omega)).mono ?_
        rintro e w' ⟨rfl, rfl⟩
        go_wp2_with fail
        refine (awake2_any _ T1).mono ?_
        rintro e w2 ⟨rfl, b2⟩
        have B2 := B1.trans (b2.mono B1.size)
        have T2 := T1.below (Nat.le_refl _) b2
        clear B1 b2 T1
        go_wp2_with fail
        go_ret
        exact ⟨rfl, B2⟩
      · obtain ⟨G, hG⟩ : ∃ G, Nat.gcd u v = G := ⟨_, rfl⟩
        have hg0 : 0 < G := by omega
        have hze := zero_eq G
        rw [decide_eq_false (by omega)] at hze
        rw [hG] at hz
        have D1 : Hid (G ∣ u) := by show _ ∣ _; rw [← hG]; exact Nat.gcd_dvd_left u v
        have D2 : Hid (G ∣ v) := by show _ ∣ _; rw [← hG]; exact Nat.gcd_dvd_right u v
        have HG := Lib.hid hG
        have hz1 := mul_size u t 30 (by omega) (by omega)
        have hz2 := mul_size v t 30 (by omega) (by omega)
        have hz3 := mul_size G t 30 (by omega) (by omega)
        clear hG hg
        go_enter Tryd.func7, Tryd.ntmps7
        have B0 : Below w.heap.size w w := Below.refl _ _
        have T0 := hT
        go_wp2_with fail
        refine (natGcd_g u v G HG _ (by omega) (by omega) T0).mono ?_
        rintro e w1 ⟨rfl, b1⟩
        have B1 := B0.trans (b1.mono B0.size)
        have T1 := T0.below (Nat.le_refl _) b1
        clear B0 b1 T0
        go_wp2_with fail
        refine (refGcd_g u v G HG _ (by omega) (by omega)).mono ?_
        rintro e w' ⟨rfl, rfl⟩
        go_wp2_with fail
        refine (refRight_num t _ (by omega)).mono ?_
        rintro e w' ⟨rfl, rfl⟩
        go_wp2_with fail
        refine (refDiv_exact u G D1 hg0 _ (by omega) (by omega)).mono ?_
        rintro e w' ⟨rfl, rfl⟩
        go_wp2_with fail
        refine (refDiv_exact v G D2 hg0 _ (by omega) (by omega)).mono ?_
        rintro e w' ⟨rfl, rfl⟩
        go_wp2_with fail
        refine (refMul_num u t _ (by omega) (by omega) (by omega)).mono ?_
        rintro e w' ⟨rfl, rfl⟩
        go_wp2_with fail
        refine (refMul_num v t _ (by omega) (by omega) (by omega)).mono ?_
        rintro e w' ⟨rfl, rfl⟩
        go_wp2_with fail
        refine (refMul_num G t _ (by omega) (by omega) (by omega)).mono ?_
        rintro e w' ⟨rfl, rfl⟩
        go_wp2_with fail
        refine (natGcd_mul u v t G HG _ (by omega) (by omega) T1).mono ?_
        rintro e w2 ⟨rfl, b2⟩
        have B2 := B1.trans (b2.mono B1.size)
        have T2 := T1.below (Nat.le_refl _) b2
        clear B1 b2 T1
        go_wp2_with fail
        refine (awake2_any _ T2).mono ?_
        rintro e w3 ⟨rfl, b3⟩
        have B3 := B2.trans (b3.mono B2.size)
        have T3 := T2.below (Nat.le_refl _) b3
        clear B2 b3 T2
        go_wp2_with fail
        go_ret
        exact ⟨rfl, B3⟩
    · have HR : Hid (rightL c.data.toList = false) := by show _ = _; simpa using hr
      clear hr
      go_enter Tryd.func7, Tryd.ntmps7
      have B0 : Below w.heap.size w w := Below.refl _ _
      have T0 := hT
      go_wp2_with fail
      refine (natGcd_num u v _ (by omega) (by omega) T0).mono ?_
      rintro e w1 ⟨rfl, b1⟩
      have B1 := B0.trans (b1.mono B0.size)
      have T1 := T0.below (Nat.le_refl _) b1
      clear B0 b1 T0
      go_wp2_with fail
      refine (refGcd_num u v _ (by omega) (by omega)).mono ?_
      rintro e w' ⟨rfl, rfl⟩
      go_wp2_with fail
      refine (refRight_no c HR _ (by omega)).mono ?_
      rintro e w' ⟨rfl, rfl⟩
      go_wp2_with fail
      refine (awake2_any _ T1).mono ?_
      rintro e w2 ⟨rfl, b2⟩
      have B2 := B1.trans (b2.mono B1.size)
      have T2 := T1.below (Nat.le_refl _) b2
      clear B1 b2 T1
      go_wp2_with fail
      go_ret
      exact ⟨rfl, B2⟩
  · have HX := Lib.hid hx
    have hxb : (x != 0) = true := by simpa using hx0
    clear hx hx0
    go_enter Tryd.func7, Tryd.ntmps7
    have B0 : Below w.heap.size w w := Below.refl _ _
    have T0 := hT
    go_wp2_with fail
    refine (natGcd_bad a b x HX hxb _ (by omega) (by omega)).mono ?_
    rintro e w1 ⟨rfl, b1⟩
    have B1 := B0.trans (b1.mono B0.size)
    have T1 := T0.below (Nat.le_refl _) b1
    clear B0 b1 T0
    go_wp2_with fail
    refine (refGcd_bad a b x HX hxb _ (by omega) (by omega)).mono ?_
    rintro e w' ⟨rfl, rfl⟩
    go_wp2_with fail
    refine (awake2_any _ T1).mono ?_
    rintro e w2 ⟨rfl, b2⟩
    have B2 := B1.trans (b2.mono B1.size)
    have T2 := T1.below (Nat.le_refl _) b2
    clear B1 b2 T1
    go_wp2_with fail
    go_ret
    exact ⟨rfl, B2⟩

set_option maxRecDepth 100000 in
theorem natGcds_lifted (os : Os) (started : os.Started) (H : Type) (enc : TypeId × Value → H) :
    ReturnsInHanded {} Tryd.checked os 7 .any (fun w args => (Rows.natGcdsSpec.pre enc Tryd.prog Tryd.f7 [] false w args ∧ laidMetH Tryd.prog laid5 w) ∧ sizedMet enc Tryd.prog Tryd.f7 (OpenSpec.ofChange Rows.natGcdsSpec) false w args)
      (Rows.natGcdsSpec.post enc Tryd.prog Tryd.f7 false true false false) := by
  refine returnsInHanded_of_change_and (C := Tryd.checked) (X := fun w _ => laidMetH Tryd.prog laid5 w) (fun _ _ _ hh h => h.of_heap hh) own started (by kernel_rfl) Tryd.func7
    (ChangeSpec.witness_shaped (enc := enc) (C := Tryd.checked) (os := os) (X := fun w _ => laidMetH Tryd.prog laid5 w) false (World.doorLaid Tryd.prog 65 os) #[.string ⟨#[]⟩, .string ⟨#[]⟩, .string ⟨#[]⟩] 8 rfl (World.shaped_of_RefB (by kernel_rfl) (by kernel_rfl)) (by kernel_rfl) (by kernel_rfl) (by kernel_rfl) (door_met os _)) ?_
  intro W base args ds gs before hval0 hW _ _ hL _
  have hval : ∀ (j : Nat) t v, Tryd.f7.params[j]? = some t → args[j]? = some v → Value.okWide Tryd.prog W .any base t v := hval0
  have hW' := hW
  obtain ⟨p, q, hA0, hV, rfl, hfz, hnd⟩ := hW
  have hA : DataW.TrodAll enc Tryd.prog W 0 (fun _ => true) true Tryd.f7.params.toList args.toList ds p := hA0
  rw [Tryd.params7] at hA hval
  obtain ⟨v0, v1, v2, d0, d1, d2, p0, p1, p2, rfl, rfl, rfl, k0, k1, k2⟩ := trodAll_three hA
  obtain ⟨rfl, rfl⟩ := trodVars_none hV
  obtain ⟨x0, rfl, rfl, rfl, h0⟩ := open_string Tryd.underlying9 (hval 0 9 v0 rfl rfl) k0
  obtain ⟨x1, rfl, rfl, rfl, h1⟩ := open_string Tryd.underlying9 (hval 1 9 v1 rfl rfl) k1
  obtain ⟨x2, rfl, rfl, rfl, h2⟩ := open_string Tryd.underlying9 (hval 2 9 v2 rfl rfl) k2
  have hT := tab_of hL
  clear hA0 hval0
  simp only [List.append_nil] at hW'
  refine (natGcds_walk x0 x1 x2 W hT).mono fun e W' ⟨he, hb⟩ => ?_
  subst he
  exact ⟨_, rfl, post_kept (pa := []) (pv := []) hW' (fun _ _ _ => trodAll_mk1 (shut_bool Tryd.underlying4 _)) (fun _ _ => trodAll_mk3 (shut_string Tryd.underlying9 h0) (shut_string Tryd.underlying9 h1) (shut_string Tryd.underlying9 h2)) (fun _ _ => rfl) rfl hb⟩

theorem natGcds_said : Rows.NatGcdsSaid :=
  OpenClaim.holds_of_wide 7 Tryd.f7 rfl rfl rfl rfl rfl rfl rfl ⟨rfl, rfl, rfl, rfl, rfl⟩ rfl rfl rfl rfl rfl (by kernel_rfl) Tryd.func7 (by kernel_rfl)
    (of_decide_eq_true (by kernel_rfl)) (by unfold Func.isWrapper; first | (rw [if_pos (by decide +kernel)]; kernel_rfl) | (rw [if_neg (by decide +kernel)]; exact ⟨rfl, rfl⟩))
    (fun os started H enc _ => natGcds_lifted os started H enc)

/-- the card -/
theorem natGcds_holds : Rows.NatGcdsCardSaid :=
  Claim7.holds_tied_plain_at .later [] _ _ _ _ natGcds_said (fun _ h => by cases h) (by kernel_rfl) (fun _ h => by cases h) natGcds_row_tie rfl ⟨rfl, rfl⟩ (by kernel_rfl) rfl
    (plain_of (k := 7) (g := Tryd.f7) (by kernel_rfl) (ts := [9, 9, 9]) Tryd.func7 (by kernel_rfl) (by kernel_rfl)) (by kernel_rfl)

end Go.Proofs.YtgpjfgakhncdnaaDoor
