/- TextWords: for every string, where it has at most 300 bytes, text.Words answers as the specification's Words does, and text.Join of the parts is the line, and the program is awake: the call returns true and leaves its argument as it was; the condition is that the library's listed variables hold what the program's text lays. -/
import Derived.Test.YthbpmolookmjaaaDoorClose
import Derived.Test.YthbpmolookmjaaaDoorRefWords
namespace Go.Proofs.YthbpmolookmjaaaDoor
open Go.ChangeShapes Go.WideShapes Go.ChangeAt Go.RowKit Go.WideMaps Go.WideElems
open Go.ChangeMaps (open_string shut_string)

/-- the cells of a row of texts -/
theorem rows_of {W : World} {B n : Nat} {v : Value} {ps : List (List UInt8)} (h : W.ownsRow B 9 1 v n (ps.map strV)) (hn : n ≠ 0) :
    ∃ g c, v = .slice (some ⟨g, 0, none⟩) n c ∧ n ≤ c ∧ g < W.heap.size ∧ n = ps.length ∧ ∀ j p, ps[j]? = some p → W.cell? ⟨g, j, none⟩ = some (.string ⟨p.toArray⟩) := by
  have hl := h.1
  rw [List.length_map] at hl
  have hcell := fun g hg => h.cells (g := g) hg
  rcases h.2 with ⟨_, h0⟩ | ⟨g, cap, cur, rfl, _, hg, hnc, _⟩
  · exact absurd h0 hn
  · refine ⟨g, cap, rfl, hnc, (Array.getElem?_eq_some_iff.1 hg).1, by omega, fun j p hp => ?_⟩
    have := hcell g rfl j (strV p) (by rw [List.getElem?_map, hp]; rfl)
    have e : ((⟨g, 0, none⟩ : Addr).add j) = ⟨g, j, none⟩ := by cases j <;> simp [Addr.add]
    rw [e] at this
    exact this
theorem nil_of {W : World} {B : Nat} {v : Value} {xs : List Value} (h : W.ownsRow B 9 1 v 0 xs) : ∃ a c, v = .slice a 0 c := by
  rcases h.2 with ⟨h, _⟩ | ⟨g, cap, cur, h, _⟩
  · exact ⟨_, _, h⟩
  · exact ⟨_, _, h⟩
theorem cells_mk {W : World} {g : Nat} {ps : List (List UInt8)} (h : ∀ j p, ps[j]? = some p → W.cell? ⟨g, j, none⟩ = some (.string ⟨p.toArray⟩)) (j : Nat) (x : ByteArray) (hx : (ps.map fun p => (⟨p.toArray⟩ : ByteArray))[j]? = some x) : W.cell? ⟨g, j, none⟩ = some (.string x) := by
  rw [List.getElem?_map] at hx
  cases hp : ps[j]? with
  | none => rw [hp] at hx; cases hx
  | some p => rw [hp] at hx; rw [h j p hp]; exact congrArg _ (congrArg _ (Option.some.inj hx))

theorem joinP (g n c : Nat) (ps : List (List UInt8)) (w : World) (hn : n = ps.length) (hn1 : n ≤ 1000000) (hc : n ≤ c) (hg : g < w.heap.size)
    (h : ∀ j p, ps[j]? = some p → w.cell? ⟨g, j, none⟩ = some (.string ⟨p.toArray⟩)) (hl : (Lib.join ps [32]).length ≤ 1000000) :
    Calls Tryd.prog 21 #[.slice (some ⟨g, 0, none⟩) n c] w fun e w' => e = .returned (.string ⟨(Lib.join ps [32]).toArray⟩) ∧ Below w.heap.size w w' := by
  have hm : (ps.map fun p => (⟨p.toArray⟩ : ByteArray)).map (·.data.toList) = ps := by
    rw [List.map_map]
    have : ((fun x : ByteArray => x.data.toList) ∘ fun p : List UInt8 => (⟨p.toArray⟩ : ByteArray)) = id := by funext p; rfl
    rw [this, List.map_id]
  have := join_any g 0 c (ps.map fun p => (⟨p.toArray⟩ : ByteArray)) w (fun j x hx => by rw [Nat.zero_add]; exact cells_mk h j x hx) hg (by rw [List.length_map]; omega) (by rw [List.length_map]; omega) (by rw [hm]; omega)
  rw [hm, List.length_map, ← hn] at this
  exact this
theorem sameP (g g' n c d : Nat) (ps : List (List UInt8)) (w : World) (hn : n = ps.length) (hn1 : n ≤ 1000000)
    (h1 : ∀ j p, ps[j]? = some p → w.cell? ⟨g, j, none⟩ = some (.string ⟨p.toArray⟩)) (h2 : ∀ j p, ps[j]? = some p → w.cell? ⟨g', j, none⟩ = some (.string ⟨p.toArray⟩)) (hg : g < w.heap.size) (hg' : g' < w.heap.size) :
    Calls Tryd.prog 22 #[.slice (some ⟨g, 0, none⟩) n c, .slice (some ⟨g', 0, none⟩) n d] w fun e w' => e = .returned (.bool true) ∧ Below w.heap.size w w' :=
  same_rows g g' n c d (ps.map fun p => (⟨p.toArray⟩ : ByteArray)) w (by rw [List.length_map]; exact hn) hn1 (cells_mk h1) (cells_mk h2) hg hg'
theorem cells_later {W W' : World} {g : Nat} {ps : List (List UInt8)} (h : ∀ j p, ps[j]? = some p → W.cell? ⟨g, j, none⟩ = some (.string ⟨p.toArray⟩)) (hb : Below W.heap.size W W') (hg : g < W.heap.size) : ∀ j p, ps[j]? = some p → W'.cell? ⟨g, j, none⟩ = some (.string ⟨p.toArray⟩) :=
  fun j p hp => (hb.cell (p := ⟨g, j, none⟩) hg).trans (h j p hp)

theorem wgo_len : ∀ (f : Nat) (l : List UInt8) (ps : List (List UInt8)), wgo f l = some ps → ps.length ≤ f
  | 0, _, _, h => by cases h
  | f + 1, l, ps, h => by
    unfold wgo at h
    split at h
    · cases h
    · split at h
      · have := Option.some.inj h; subst this; simp
      · split at h
        · cases h
        · cases hr : wgo f (l.drop (plen l + 1)) with
          | none => rw [hr] at h; cases h
          | some qs =>
            rw [hr] at h
            have := Option.some.inj h
            subst this
            have := wgo_len f _ qs hr
            simp; omega
theorem words_len (l : List UInt8) (ps : List (List UInt8)) (h : wordsL l = some ps) : ps.length ≤ l.length + 1 := by
  unfold wordsL at h
  split at h
  · have := Option.some.inj h; subst this; simp
  · exact wgo_len _ _ _ h
theorem words_ne (l : List UInt8) (ps : List (List UInt8)) (h : wordsL l = some ps) (h0 : l.length ≠ 0) : ps.length ≠ 0 := by
  rw [wordsL, if_neg h0] at h
  have := (wgo_inv _ _ _ h).1
  simpa using this

set_option maxRecDepth 100000 in
set_option maxHeartbeats 1000000 in
theorem textWords_walk (s : ByteArray) (w : World) (hE : Env w) :
    Calls Tryd.prog 6 #[.string s] w fun e w' => e = .returned (.bool true) ∧ Below w.heap.size w w' := by
  by_cases h : s.size ≤ 300
  · cases hw : wordsL s.data.toList with
    | none =>
      have HW := Lib.hid hw
      clear hw
      go_enter Tryd.func6, Tryd.ntmps6
      go_wp2_with fail
      refine (words_any s _ (by omega)).mono ?_
      rintro e w1 ⟨b1, he⟩
      rw [HW.out] at he
      subst he
      have hE1 := hE.below b1
      go_wp2_with fail
      refine (refWords_any s _ (by omega)).mono ?_
      rintro e w2 ⟨b2, he⟩
      rw [HW.out] at he
      subst he
      have hE2 := hE1.below b2
      have b2' := b1.trans (b2.mono b1.size)
      clear b1 b2 hE1
      go_wp2_with fail
      refine (same_none none none 0 0 _).mono ?_
      rintro e w3 ⟨rfl, b3⟩
      have hE3 := hE2.below b3
      have b3' := b2'.trans (b3.mono b2'.size)
      clear b2' b3 hE2
      go_wp2_with fail
      refine (awake_any _ hE3).mono ?_
      rintro e w7 ⟨rfl, b7⟩
      have b7' := b3'.trans (b7.mono b3'.size)
      go_wp2
      go_ret
      exact ⟨rfl, b7'⟩
    | some ps =>
      have HW := Lib.hid hw
      have hpl := words_len _ _ hw
      rw [len_of] at hpl
      by_cases hz : s.size = 0
      · have hp0 : ps = [] := by rw [empty_of s hz] at hw; exact (Option.some.inj hw).symm
        have hs := empty_of s hz
        subst hp0
        clear hw hpl hz
        subst hs
        go_enter Tryd.func6, Tryd.ntmps6
        go_wp2_with fail
        refine (words_any _ _ (by omega)).mono ?_
        rintro e w1 ⟨b1, he⟩
        rw [HW.out] at he
        obtain ⟨v1, he, ho1⟩ := he
        obtain ⟨a1, c1, hv1⟩ := nil_of ho1
        rw [hv1] at he
        subst he
        clear ho1
        have hE1 := hE.below b1
        go_wp2_with fail
        refine (refWords_any _ _ (by omega)).mono ?_
        rintro e w2 ⟨b2, he⟩
        rw [HW.out] at he
        obtain ⟨v2, he, ho2⟩ := he
        obtain ⟨a2, c2, hv2⟩ := nil_of ho2
        rw [hv2] at he
        subst he
        clear ho2
        have hE2 := hE1.below b2
        have b2' := b1.trans (b2.mono b1.size)
        clear b1 b2 hE1 hv1 hv2
        go_wp2_with fail
        refine (join_nil a1 c1 _).mono ?_
        rintro e w3 ⟨rfl, b3⟩
        have hE3 := hE2.below b3
        have b3' := b2'.trans (b3.mono b2'.size)
        clear b2' b3 hE2
        go_wp2_with fail
        refine (same_none a1 a2 c1 c2 _).mono ?_
        rintro e w4 ⟨rfl, b4⟩
        have hE4 := hE3.below b4
        have b4' := b3'.trans (b4.mono b3'.size)
        clear b3' b4 hE3
        go_wp2_with fail
        refine (awake_any _ hE4).mono ?_
        rintro e w7 ⟨rfl, b7⟩
        have b7' := b4'.trans (b7.mono b4'.size)
        go_wp2
        go_ret
        exact ⟨rfl, b7'⟩
      · have hne : ps.length ≠ 0 := words_ne _ _ hw (by rw [len_of]; exact hz)
        have hj := words_inv _ _ hw
        have HJ : Hid ((⟨(Lib.join ps [32]).toArray⟩ : ByteArray) = s) := by show _ = _; rw [hj, Lib.mk_data]
        have HJL : Hid ((Lib.join ps [32]).length ≤ 1000000) := by show _ ≤ _; rw [hj, len_of]; omega
        clear hw hz hj
        go_enter Tryd.func6, Tryd.ntmps6
        go_wp2_with fail
        refine (words_any s _ (by omega)).mono ?_
        rintro e w1 ⟨b1, he⟩
        rw [HW.out] at he
        obtain ⟨v1, he, ho1⟩ := he
        obtain ⟨g1, c1, hv1, hc1, hg1, hn1, d1⟩ := rows_of ho1 hne
        rw [hv1] at he
        subst he
        clear ho1 hv1 hn1
        have hE1 := hE.below b1
        have D1 := Lib.hid d1
        clear d1
        go_wp2_with fail
        refine (refWords_any s _ (by omega)).mono ?_
        rintro e w2 ⟨b2, he⟩
        rw [HW.out] at he
        obtain ⟨v2, he, ho2⟩ := he
        obtain ⟨g2, c2, hv2, hc2, hg2, hn2, d2⟩ := rows_of ho2 hne
        rw [hv2] at he
        subst he
        clear ho2 hv2 hn2
        have D1 := Lib.hid (cells_later D1.out b2 hg1)
        have hg1 := Nat.lt_of_lt_of_le hg1 b2.size
        have D2 := Lib.hid d2
        clear d2
        have hE2 := hE1.below b2
        have b2' := b1.trans (b2.mono b1.size)
        clear b1 b2 hE1
        go_wp2_with fail
        refine (joinP g1 _ c1 ps _ rfl (by omega) hc1 hg1 D1.out HJL.out).mono ?_
        rintro e w3 ⟨rfl, b3⟩
        rw [HJ.out]
        have D1 := Lib.hid (cells_later D1.out b3 hg1)
        have D2 := Lib.hid (cells_later D2.out b3 hg2)
        have hg1 := Nat.lt_of_lt_of_le hg1 b3.size
        have hg2 := Nat.lt_of_lt_of_le hg2 b3.size
        have hE3 := hE2.below b3
        have b3' := b2'.trans (b3.mono b2'.size)
        clear b2' b3 hE2
        go_wp2_with fail
        refine (sameP g1 g2 _ c1 c2 ps _ rfl (by omega) D1.out D2.out hg1 hg2).mono ?_
        rintro e w4 ⟨rfl, b4⟩
        have hE4 := hE3.below b4
        have b4' := b3'.trans (b4.mono b3'.size)
        clear b3' b4 hE3
        go_wp2_with fail
        refine (awake_any _ hE4).mono ?_
        rintro e w7 ⟨rfl, b7⟩
        have b7' := b4'.trans (b7.mono b4'.size)
        go_wp2
        go_ret
        exact ⟨rfl, b7'⟩
  · go_enter Tryd.func6, Tryd.ntmps6
    go_wp2_with fail
    refine (awake_any _ hE).mono ?_
    rintro e w1 ⟨rfl, b1⟩
    go_wp2
    go_ret
    exact ⟨rfl, b1⟩

set_option maxRecDepth 100000 in
theorem textWords_lifted (os : Os) (started : os.Started) (H : Type) (enc : TypeId × Value → H) :
    ReturnsInHanded {} Tryd.checked os 6 .any (fun w args => (Rows.textWordsSpec.pre enc Tryd.prog Tryd.f6 [] false w args ∧ laidMetH Tryd.prog laid5 w) ∧ sizedMet enc Tryd.prog Tryd.f6 (OpenSpec.ofChange Rows.textWordsSpec) false w args)
      (Rows.textWordsSpec.post enc Tryd.prog Tryd.f6 false true false false) := by
  refine returnsInHanded_of_change_and (C := Tryd.checked) (X := fun w _ => laidMetH Tryd.prog laid5 w) (fun _ _ _ hh h => h.of_heap hh) own started (by kernel_rfl) Tryd.func6
    (ChangeSpec.witness_shaped (enc := enc) (C := Tryd.checked) (os := os) (X := fun w _ => laidMetH Tryd.prog laid5 w) false (World.doorLaid Tryd.prog 62 os) #[.string ⟨#[]⟩] 8 rfl (World.shaped_of_RefB (by kernel_rfl) (by kernel_rfl)) (by kernel_rfl) (by kernel_rfl) (by kernel_rfl) (door_met os _)) ?_
  intro W base args ds gs before hval0 hW _ _ hL _
  have hval : ∀ (j : Nat) t v, Tryd.f6.params[j]? = some t → args[j]? = some v → Value.okWide Tryd.prog W .any base t v := hval0
  have hW' := hW
  obtain ⟨p, q, hA0, hV, rfl, hfz, hnd⟩ := hW
  have hA : DataW.TrodAll enc Tryd.prog W 0 (fun _ => true) true Tryd.f6.params.toList args.toList ds p := hA0
  rw [Tryd.params6] at hA hval
  obtain ⟨v0, d0, rfl, rfl, h0⟩ := trodAll_one hA
  obtain ⟨rfl, rfl⟩ := trodVars_none hV
  obtain ⟨s, rfl, rfl, rfl, hs⟩ := open_string Tryd.underlying9 (hval 0 9 v0 rfl rfl) h0
  have hE := env_of hL
  clear hA0 hval0
  simp only [List.append_nil] at hW'
  refine (textWords_walk s W hE).mono fun e W' ⟨he, hb⟩ => ?_
  subst he
  exact ⟨_, rfl, post_kept (pa := []) (pv := []) hW' (fun _ _ _ => trodAll_mk1 (shut_bool Tryd.underlying4 _)) (fun _ _ => trodAll_mk1 (shut_string Tryd.underlying9 hs)) (fun _ _ => rfl) rfl hb⟩

theorem textWords_said : Rows.TextWordsSaid :=
  OpenClaim.holds_of_wide 6 Tryd.f6 rfl rfl rfl rfl rfl rfl rfl ⟨rfl, rfl, rfl, rfl, rfl⟩ rfl rfl rfl rfl rfl (by kernel_rfl) Tryd.func6 (by kernel_rfl)
    (of_decide_eq_true (by kernel_rfl)) (by unfold Func.isWrapper; first | (rw [if_pos (by decide +kernel)]; kernel_rfl) | (rw [if_neg (by decide +kernel)]; exact ⟨rfl, rfl⟩))
    (fun os started H enc _ => textWords_lifted os started H enc)

/-- the card -/
theorem textWords_holds : Rows.TextWordsCardSaid :=
  Claim7.holds_tied_plain_at .later [] _ _ _ _ textWords_said (fun _ h => by cases h) (by kernel_rfl) (fun _ h => by cases h) textWords_row_tie rfl ⟨rfl, rfl⟩ (by kernel_rfl) rfl
    (plain_of (k := 6) (g := Tryd.f6) (by kernel_rfl) (ts := [9]) Tryd.func6 (by kernel_rfl) (by kernel_rfl)) (by kernel_rfl)

end Go.Proofs.YthbpmolookmjaaaDoor
