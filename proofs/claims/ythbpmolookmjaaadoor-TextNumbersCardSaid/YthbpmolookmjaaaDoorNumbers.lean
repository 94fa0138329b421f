/- TextNumbers: for every int and every string, where the string has at most 300 bytes, text.Number and text.Decimal answer as the specification's Number and Decimal do, and each reads back what the other wrote, and the program is awake: the call returns true and leaves its arguments as they were; the condition is that the library's listed variables hold what the program's text lays. -/
import Derived.Test.YthbpmolookmjaaaDoorClose
import Derived.Test.YthbpmolookmjaaaDoorRefNum
namespace Go.Proofs.YthbpmolookmjaaaDoor
open Go.ChangeShapes Go.WideShapes Go.ChangeAt Go.RowKit Go.WideMaps Go.WideElems
open Go.ChangeMaps (open_string shut_string)

theorem numL_bd (l : List UInt8) : -9223372036854775808 ≤ (numL l).1 ∧ (numL l).1 ≤ 9223372036854775807 := by
  unfold numL
  split
  · exact ⟨by decide, by decide⟩
  · split
    · split
      · dsimp only; omega
      · exact ⟨by decide, by decide⟩
    · split
      · dsimp only; omega
      · exact ⟨by decide, by decide⟩
theorem numL_code (l : List UInt8) : (numL l).2 = 0 ∨ (numL l).2 = 3 ∨ (numL l).2 = 4 := by
  unfold numL
  split
  · simp
  · split <;> split <;> simp

/-- Number of what Decimal wrote -/
theorem number_back (n : Int) (h0 : -9223372036854775808 ≤ n) (h1 : n ≤ 9223372036854775807) (w : World) (hE : Env w) :
    Calls Tryd.prog 11 #[.string ⟨(Lib.itoa n).toArray⟩] w fun e w' => e = .returned (.tuple #[.int .i64 n, .int .i64 0]) ∧ Below w.heap.size w w' := by
  obtain ⟨tp, p, hv⟩ := hE.err
  have hl : (⟨(Lib.itoa n).toArray⟩ : ByteArray).size ≤ 1000000000 := by
    show (Lib.itoa n).toArray.size ≤ _
    rw [List.size_toArray, Lib.itoa]
    split
    · have := dec_len 19 n.natAbs (by omega); rw [List.length_cons]; omega
    · have := dec_len 19 n.toNat (by omega); omega
  refine (number_any _ w hl tp p hv).mono ?_
  rintro e w' ⟨rfl, hb⟩
  have := numL_itoa n h0 h1
  exact ⟨by rw [show (⟨(Lib.itoa n).toArray⟩ : ByteArray).data.toList = Lib.itoa n from rfl, this], hb⟩
/-- Decimal of what Number read -/
theorem decimal_back (s : ByteArray) (k : Int) (hk : numL s.data.toList = (k, 0)) (w : World) (hE : Env w) :
    Calls Tryd.prog 13 #[.int .i64 k] w fun e w' => e = .returned (.string s) ∧ Below w.heap.size w w' := by
  have hb := numL_bd s.data.toList
  rw [hk] at hb
  refine (decimal_any k hb.1 hb.2 w hE.tab).mono ?_
  rintro e w' ⟨rfl, hb⟩
  exact ⟨by rw [itoa_numL _ _ hk, Lib.mk_data], hb⟩

set_option maxRecDepth 100000 in
set_option maxHeartbeats 1000000 in
theorem textNumbers_walk (n : Int) (hn0 : -9223372036854775808 ≤ n) (hn1 : n ≤ 9223372036854775807) (s : ByteArray) (w : World) (hE : Env w) :
    Calls Tryd.prog 4 #[.int .i64 n, .string s] w fun e w' => e = .returned (.bool true) ∧ Below w.heap.size w w' := by
  by_cases h : s.size ≤ 300
  · obtain ⟨k, c, hk⟩ : ∃ k c, numL s.data.toList = (k, c) := ⟨_, _, rfl⟩
    have hcode := numL_code s.data.toList
    have hbd := numL_bd s.data.toList
    rw [hk] at hcode hbd
    have k0 := hbd.1
    have k1 := hbd.2
    have hk1 : (numL s.data.toList).1 = k := by rw [hk]
    have hk2 : (numL s.data.toList).2 = c := by rw [hk]
    have HK := Lib.hid hk
    clear hk hbd
    obtain ⟨tp, p, hv⟩ := hE.err
    by_cases hc : c = 0
    · subst hc
      clear hcode
      go_enter Tryd.func4, Tryd.ntmps4
      go_wp2_with fail
      refine (number_any s _ (by omega) tp p hv).mono ?_
      rintro e w1 ⟨rfl, b1⟩
      have hE1 := hE.below b1
      go_wp2_with fail
      refine (refNumber_any s _ (by omega)).mono ?_
      rintro e w1' ⟨rfl, rfl⟩
      go_wp2_with fail
      refine (decimal_any n hn0 hn1 _ hE1.tab).mono ?_
      rintro e w2 ⟨rfl, b2⟩
      have hE2 := hE1.below b2
      have b2' := b1.trans (b2.mono b1.size)
      go_wp2_with fail
      refine (number_back n hn0 hn1 _ hE2).mono ?_
      rintro e w3 ⟨rfl, b3⟩
      have hE3 := hE2.below b3
      have b3' := b2'.trans (b3.mono b2'.size)
      go_wp2_with fail
      refine (decimal_back s k HK.out _ hE3).mono ?_
      rintro e w4 ⟨rfl, b4⟩
      have hE4 := hE3.below b4
      have b4' := b3'.trans (b4.mono b3'.size)
      clear b1 b2 b2' b3 b3' b4 hE1 hE2 hE3
      go_wp2_with fail
      refine (decimal_any n hn0 hn1 _ hE4.tab).mono ?_
      rintro e w5 ⟨rfl, b5⟩
      have hE5 := hE4.below b5
      have b5' := b4'.trans (b5.mono b4'.size)
      go_wp2_with fail
      refine (refDecimal_any n hn0 hn1 _).mono ?_
      rintro e w6 ⟨rfl, b6⟩
      have hE6 := hE5.below b6
      have b6' := b5'.trans (b6.mono b5'.size)
      clear b4' b5 b5' b6 hE4 hE5
      go_wp2_with fail
      refine (awake_any _ hE6).mono ?_
      rintro e w7 ⟨rfl, b7⟩
      have b7' := b6'.trans (b7.mono b6'.size)
      go_wp2
      go_ret
      exact ⟨rfl, b7'⟩
    · have hc' : (c == 0) = false := by simpa using hc
      clear hcode hc
      go_enter Tryd.func4, Tryd.ntmps4
      go_wp2_with fail
      refine (number_any s _ (by omega) tp p hv).mono ?_
      rintro e w1 ⟨rfl, b1⟩
      have hE1 := hE.below b1
      go_wp2_with fail
      refine (refNumber_any s _ (by omega)).mono ?_
      rintro e w1' ⟨rfl, rfl⟩
      go_wp2_with fail
      refine (decimal_any n hn0 hn1 _ hE1.tab).mono ?_
      rintro e w2 ⟨rfl, b2⟩
      have hE2 := hE1.below b2
      have b2' := b1.trans (b2.mono b1.size)
      go_wp2_with fail
      refine (number_back n hn0 hn1 _ hE2).mono ?_
      rintro e w3 ⟨rfl, b3⟩
      have hE3 := hE2.below b3
      have b3' := b2'.trans (b3.mono b2'.size)
      clear b1 b2 b2' b3 hE1 hE2
      go_wp2_with fail
      refine (decimal_any n hn0 hn1 _ hE3.tab).mono ?_
      rintro e w5 ⟨rfl, b5⟩
      have hE5 := hE3.below b5
      have b5' := b3'.trans (b5.mono b3'.size)
      go_wp2_with fail
      refine (refDecimal_any n hn0 hn1 _).mono ?_
      rintro e w6 ⟨rfl, b6⟩
      have hE6 := hE5.below b6
      have b6' := b5'.trans (b6.mono b5'.size)
      clear b3' b5 b5' b6 hE3 hE5
      go_wp2_with fail
      refine (awake_any _ hE6).mono ?_
      rintro e w7 ⟨rfl, b7⟩
      have b7' := b6'.trans (b7.mono b6'.size)
      go_wp2
      go_ret
      exact ⟨rfl, b7'⟩
  · go_enter Tryd.func4, Tryd.ntmps4
    go_wp2_with fail
    refine (awake_any _ hE).mono ?_
    rintro e w1 ⟨rfl, b1⟩
    go_wp2
    go_ret
    exact ⟨rfl, b1⟩

set_option maxRecDepth 100000 in
theorem textNumbers_lifted (os : Os) (started : os.Started) (H : Type) (enc : TypeId × Value → H) :
    ReturnsInHanded {} Tryd.checked os 4 .any (fun w args => (Rows.textNumbersSpec.pre enc Tryd.prog Tryd.f4 [] false w args ∧ laidMetH Tryd.prog laid5 w) ∧ sizedMet enc Tryd.prog Tryd.f4 (OpenSpec.ofChange Rows.textNumbersSpec) false w args)
      (Rows.textNumbersSpec.post enc Tryd.prog Tryd.f4 false true false false) := by
  refine returnsInHanded_of_change_and (C := Tryd.checked) (X := fun w _ => laidMetH Tryd.prog laid5 w) (fun _ _ _ hh h => h.of_heap hh) own started (by kernel_rfl) Tryd.func4
    (ChangeSpec.witness_shaped (enc := enc) (C := Tryd.checked) (os := os) (X := fun w _ => laidMetH Tryd.prog laid5 w) false (World.doorLaid Tryd.prog 62 os) #[.int .i64 0, .string ⟨#[]⟩] 8 rfl (World.shaped_of_RefB (by kernel_rfl) (by kernel_rfl)) (by kernel_rfl) (by kernel_rfl) (by kernel_rfl) (door_met os _)) ?_
  intro W base args ds gs before hval0 hW _ _ hL _
  have hval : ∀ (j : Nat) t v, Tryd.f4.params[j]? = some t → args[j]? = some v → Value.okWide Tryd.prog W .any base t v := hval0
  have hW' := hW
  obtain ⟨p, q, hA0, hV, rfl, hfz, hnd⟩ := hW
  have hA : DataW.TrodAll enc Tryd.prog W 0 (fun _ => true) true Tryd.f4.params.toList args.toList ds p := hA0
  rw [Tryd.params4] at hA hval
  obtain ⟨v0, v1, d0, d1, p0, p1, rfl, rfl, rfl, h0, h1⟩ := trodAll_two hA
  obtain ⟨rfl, rfl⟩ := trodVars_none hV
  obtain ⟨n, rfl, rfl, rfl, hn⟩ := open_int Tryd.underlying3 (hval 0 3 v0 rfl rfl) h0
  obtain ⟨s, rfl, rfl, rfl, hs⟩ := open_string Tryd.underlying9 (hval 1 9 v1 rfl rfl) h1
  have hbd := bounds_i64 hn
  have hE := env_of hL
  clear hA0 hval0
  simp only [List.append_nil] at hW'
  refine (textNumbers_walk n hbd.1 hbd.2 s W hE).mono fun e W' ⟨he, hb⟩ => ?_
  subst he
  exact ⟨_, rfl, post_kept (pa := []) (pv := []) hW' (fun _ _ _ => trodAll_mk1 (shut_bool Tryd.underlying4 _)) (fun _ _ => trodAll_mk2 (shut_int Tryd.underlying3 hn) (shut_string Tryd.underlying9 hs)) (fun _ _ => rfl) rfl hb⟩

theorem textNumbers_said : Rows.TextNumbersSaid :=
  OpenClaim.holds_of_wide 4 Tryd.f4 rfl rfl rfl rfl rfl rfl rfl ⟨rfl, rfl, rfl, rfl, rfl⟩ rfl rfl rfl rfl rfl (by kernel_rfl) Tryd.func4 (by kernel_rfl)
    (of_decide_eq_true (by kernel_rfl)) (by unfold Func.isWrapper; first | (rw [if_pos (by decide +kernel)]; kernel_rfl) | (rw [if_neg (by decide +kernel)]; exact ⟨rfl, rfl⟩))
    (fun os started H enc _ => textNumbers_lifted os started H enc)

/-- the card -/
theorem textNumbers_holds : Rows.TextNumbersCardSaid :=
  Claim7.holds_tied_plain_at .later [] _ _ _ _ textNumbers_said (fun _ h => by cases h) (by kernel_rfl) (fun _ h => by cases h) textNumbers_row_tie rfl ⟨rfl, rfl⟩ (by kernel_rfl) rfl
    (plain_of (k := 4) (g := Tryd.f4) (by kernel_rfl) (ts := [3, 9]) Tryd.func4 (by kernel_rfl) (by kernel_rfl)) (by kernel_rfl)

end Go.Proofs.YthbpmolookmjaaaDoor
