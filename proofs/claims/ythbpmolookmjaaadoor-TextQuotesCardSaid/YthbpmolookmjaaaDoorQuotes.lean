/- TextQuotes: for every string, where it has at most 300 bytes, text.Quote and text.Unquote answer as the specification's Quote and Unquote do, and each reads back what the other wrote, and the program is awake: the call returns true and leaves its argument as it was; the condition is that the library's listed variables hold what the program's text lays. -/
import Derived.Test.YthbpmolookmjaaaDoorClose
import Derived.Test.YthbpmolookmjaaaDoorRefU
namespace Go.Proofs.YthbpmolookmjaaaDoor
open Go.ChangeShapes Go.WideShapes Go.ChangeAt Go.RowKit Go.WideMaps Go.WideElems
open Go.ChangeMaps (open_string shut_string)

theorem quoteL_le (m : List UInt8) : (quoteL m).length ≤ 4 * m.length + 2 := by
  rw [quoteL_len]; have := flat_le m; omega
theorem unquote_back (s : ByteArray) (w : World) (hs : s.size ≤ 1000) :
    Calls Tryd.prog 16 #[.string ⟨(quoteL s.data.toList).toArray⟩] w fun e w' => e = .returned (.tuple #[.string s, .int .i64 0]) ∧ Below w.heap.size w w' := by
  have hl := quoteL_le s.data.toList
  rw [len_of] at hl
  have := unquote_ok ⟨(quoteL s.data.toList).toArray⟩ s.data.toList w (by show (quoteL s.data.toList).toArray.size ≤ _; rw [List.size_toArray]; omega) rfl
  rw [Lib.mk_data] at this
  exact this
theorem quote_back (s : ByteArray) (m : List UInt8) (h : s.data.toList = quoteL m) (w : World) (hs : s.size ≤ 1000) :
    Calls Tryd.prog 15 #[.string ⟨m.toArray⟩] w fun e w' => e = .returned (.string s) ∧ Below w.heap.size w w' := by
  have hl : s.size = (flat m).length + 2 := by rw [← len_of, h, quoteL_len]
  have hm := flat_ge m
  have := quote_any ⟨m.toArray⟩ w (by show m.toArray.size ≤ _; rw [List.size_toArray]; omega)
  rw [show (⟨m.toArray⟩ : ByteArray).data.toList = m from rfl, ← h, Lib.mk_data] at this
  exact this

set_option maxRecDepth 100000 in
set_option maxHeartbeats 1000000 in
theorem textQuotes_walk (s : ByteArray) (w : World) (hE : Env w) :
    Calls Tryd.prog 5 #[.string s] w fun e w' => e = .returned (.bool true) ∧ Below w.heap.size w w' := by
  by_cases h : s.size ≤ 300
  · by_cases hx : ∃ m, s.data.toList = quoteL m
    · obtain ⟨m, hm⟩ := hx
      have HM := Lib.hid hm
      clear hm
      go_enter Tryd.func5, Tryd.ntmps5
      go_wp2_with fail
      refine (quote_any s _ (by omega)).mono ?_
      rintro e w1 ⟨rfl, b1⟩
      have hE1 := hE.below b1
      go_wp2_with fail
      refine (unquote_back s _ (by omega)).mono ?_
      rintro e w2 ⟨rfl, b2⟩
      have hE2 := hE1.below b2
      have b2' := b1.trans (b2.mono b1.size)
      clear b1 b2 hE1
      go_wp2_with fail
      refine (unquote_ok s m _ (by omega) HM.out).mono ?_
      rintro e w3 ⟨rfl, b3⟩
      have hE3 := hE2.below b3
      have b3' := b2'.trans (b3.mono b2'.size)
      clear b2' b3 hE2
      go_wp2_with fail
      refine (refUnquote_ok s m _ (by omega) HM.out).mono ?_
      rintro e w4 ⟨rfl, b4⟩
      have hE4 := hE3.below b4
      have b4' := b3'.trans (b4.mono b3'.size)
      clear b3' b4 hE3
      go_wp2_with fail
      refine (quote_back s m HM.out _ (by omega)).mono ?_
      rintro e w5 ⟨rfl, b5⟩
      have hE5 := hE4.below b5
      have b5' := b4'.trans (b5.mono b4'.size)
      clear b4' b5 hE4
      go_wp2_with fail
      refine (refQuote_any s _ (by omega)).mono ?_
      rintro e w6 ⟨rfl, b6⟩
      have hE6 := hE5.below b6
      have b6' := b5'.trans (b6.mono b5'.size)
      clear b5' b6 hE5
      go_wp2_with fail
      refine (awake_any _ hE6).mono ?_
      rintro e w7 ⟨rfl, b7⟩
      have b7' := b6'.trans (b7.mono b6'.size)
      go_wp2
      go_ret
      exact ⟨rfl, b7'⟩
    · have HM : Hid (∀ m, s.data.toList ≠ quoteL m) := fun m e => hx ⟨m, e⟩
      clear hx
      go_enter Tryd.func5, Tryd.ntmps5
      go_wp2_with fail
      refine (quote_any s _ (by omega)).mono ?_
      rintro e w1 ⟨rfl, b1⟩
      have hE1 := hE.below b1
      go_wp2_with fail
      refine (unquote_back s _ (by omega)).mono ?_
      rintro e w2 ⟨rfl, b2⟩
      have hE2 := hE1.below b2
      have b2' := b1.trans (b2.mono b1.size)
      clear b1 b2 hE1
      go_wp2_with fail
      refine (unquote_bad s _ (by omega) HM.out).mono ?_
      rintro e w3 ⟨rfl, b3⟩
      have hE3 := hE2.below b3
      have b3' := b2'.trans (b3.mono b2'.size)
      clear b2' b3 hE2
      go_wp2_with fail
      refine (refUnquote_bad s _ (by omega) HM.out).mono ?_
      rintro e w4 ⟨rfl, b4⟩
      have hE4 := hE3.below b4
      have b4' := b3'.trans (b4.mono b3'.size)
      clear b3' b4 hE3
      go_wp2_with fail
      refine (refQuote_any s _ (by omega)).mono ?_
      rintro e w6 ⟨rfl, b6⟩
      have hE6 := hE4.below b6
      have b6' := b4'.trans (b6.mono b4'.size)
      clear b4' b6 hE4
      go_wp2_with fail
      refine (awake_any _ hE6).mono ?_
      rintro e w7 ⟨rfl, b7⟩
      have b7' := b6'.trans (b7.mono b6'.size)
      go_wp2
      go_ret
      exact ⟨rfl, b7'⟩
  · go_enter Tryd.func5, Tryd.ntmps5
    go_wp2_with fail
    refine (awake_any _ hE).mono ?_
    rintro e w1 ⟨rfl, b1⟩
    go_wp2
    go_ret
    exact ⟨rfl, b1⟩

set_option maxRecDepth 100000 in
theorem textQuotes_lifted (os : Os) (started : os.Started) (H : Type) (enc : TypeId × Value → H) :
    ReturnsInHanded {} Tryd.checked os 5 .any (fun w args => (Rows.textQuotesSpec.pre enc Tryd.prog Tryd.f5 [] false w args ∧ laidMetH Tryd.prog laid5 w) ∧ sizedMet enc Tryd.prog Tryd.f5 (OpenSpec.ofChange Rows.textQuotesSpec) false w args)
      (Rows.textQuotesSpec.post enc Tryd.prog Tryd.f5 false true false false) := by
  refine returnsInHanded_of_change_and (C := Tryd.checked) (X := fun w _ => laidMetH Tryd.prog laid5 w) (fun _ _ _ hh h => h.of_heap hh) own started (by kernel_rfl) Tryd.func5
    (ChangeSpec.witness_shaped (enc := enc) (C := Tryd.checked) (os := os) (X := fun w _ => laidMetH Tryd.prog laid5 w) false (World.doorLaid Tryd.prog 62 os) #[.string ⟨#[]⟩] 8 rfl (World.shaped_of_RefB (by kernel_rfl) (by kernel_rfl)) (by kernel_rfl) (by kernel_rfl) (by kernel_rfl) (door_met os _)) ?_
  intro W base args ds gs before hval0 hW _ _ hL _
  have hval : ∀ (j : Nat) t v, Tryd.f5.params[j]? = some t → args[j]? = some v → Value.okWide Tryd.prog W .any base t v := hval0
  have hW' := hW
  obtain ⟨p, q, hA0, hV, rfl, hfz, hnd⟩ := hW
  have hA : DataW.TrodAll enc Tryd.prog W 0 (fun _ => true) true Tryd.f5.params.toList args.toList ds p := hA0
  rw [Tryd.params5] at hA hval
  obtain ⟨v0, d0, rfl, rfl, h0⟩ := trodAll_one hA
  obtain ⟨rfl, rfl⟩ := trodVars_none hV
  obtain ⟨s, rfl, rfl, rfl, hs⟩ := open_string Tryd.underlying9 (hval 0 9 v0 rfl rfl) h0
  have hE := env_of hL
  clear hA0 hval0
  simp only [List.append_nil] at hW'
  refine (textQuotes_walk s W hE).mono fun e W' ⟨he, hb⟩ => ?_
  subst he
  exact ⟨_, rfl, post_kept (pa := []) (pv := []) hW' (fun _ _ _ => trodAll_mk1 (shut_bool Tryd.underlying4 _)) (fun _ _ => trodAll_mk1 (shut_string Tryd.underlying9 hs)) (fun _ _ => rfl) rfl hb⟩

theorem textQuotes_said : Rows.TextQuotesSaid :=
  OpenClaim.holds_of_wide 5 Tryd.f5 rfl rfl rfl rfl rfl rfl rfl ⟨rfl, rfl, rfl, rfl, rfl⟩ rfl rfl rfl rfl rfl (by kernel_rfl) Tryd.func5 (by kernel_rfl)
    (of_decide_eq_true (by kernel_rfl)) (by unfold Func.isWrapper; first | (rw [if_pos (by decide +kernel)]; kernel_rfl) | (rw [if_neg (by decide +kernel)]; exact ⟨rfl, rfl⟩))
    (fun os started H enc _ => textQuotes_lifted os started H enc)

/-- the card -/
theorem textQuotes_holds : Rows.TextQuotesCardSaid :=
  Claim7.holds_tied_plain_at .later [] _ _ _ _ textQuotes_said (fun _ h => by cases h) (by kernel_rfl) (fun _ h => by cases h) textQuotes_row_tie rfl ⟨rfl, rfl⟩ (by kernel_rfl) rfl
    (plain_of (k := 5) (g := Tryd.f5) (by kernel_rfl) (ts := [9]) Tryd.func5 (by kernel_rfl) (by kernel_rfl)) (by kernel_rfl)

end Go.Proofs.YthbpmolookmjaaaDoor
