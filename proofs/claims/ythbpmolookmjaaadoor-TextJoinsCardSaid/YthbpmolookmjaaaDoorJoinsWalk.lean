/-
  DERIVED. The walk of TextJoins.
-/
import Derived.Test.YthbpmolookmjaaaDoorWordsL
namespace Go.Proofs.YthbpmolookmjaaaDoor
open Go.ChangeShapes Go.WideShapes Go.ChangeAt Go.RowKit Go.WideMaps Go.WideElems

theorem quoteLe (m : List UInt8) : (quoteL m).length ≤ 4 * m.length + 2 := by
  rw [quoteL_len]; have := flat_le m; omega
theorem name_part (l : List UInt8) (h : nameB l = true) : IsPart l := by
  right
  unfold nameB at h
  simp only [Bool.and_eq_true, Bool.not_eq_true', decide_eq_true_eq] at h
  refine ⟨by intro e; rw [e] at h; simp at h, fun c hc => ?_⟩
  have := List.all_eq_true.1 h.2 c hc
  have h2 : let1 c.toNat = true ∨ dig c.toNat = true ∨ c.toNat = 95 := by
    have h3 : nam c.toNat = true := this
    simp only [nam, Bool.or_eq_true, beq_iff_eq] at h3
    rcases h3 with (h3 | h3) | h3
    · exact Or.inl h3
    · exact Or.inr (Or.inl h3)
    · exact Or.inr (Or.inr h3)
  apply wrd_bd.2
  rcases h2 with h2 | h2 | h2
  · simp [let1] at h2; omega
  · have := dig_bd h2; omega
  · omega
theorem join_bd (M : Nat) : ∀ (ps : List (List UInt8)), (∀ p ∈ ps, p.length ≤ M) → (Lib.join ps [32]).length ≤ ps.length * (M + 1)
  | [], _ => by simp [Lib.join_nil]
  | [x], h => by rw [Lib.join_one]; have := h x (by simp); simp; omega
  | x :: y :: r, h => by
    rw [join_more, List.length_append, List.length_cons]
    have h1 := h x (by simp)
    have h2 := join_bd M (y :: r) (fun p hp => h p (by simp [hp]))
    rw [List.length_cons (a := x), Nat.add_mul]
    omega

/-- the end of the law, where no part has been taken -/
theorem words_empty (w : World) : Calls Tryd.prog 19 #[.string ⟨#[]⟩] w fun e w' => (∃ a c, e = .returned (.tuple #[.slice a 0 c, .int .i64 0])) ∧ Below w.heap.size w w' := by
  refine (words_any ⟨#[]⟩ w (by decide)).mono ?_
  rintro e w' ⟨hb, he⟩
  rw [show wordsL (⟨#[]⟩ : ByteArray).data.toList = some [] from rfl] at he
  obtain ⟨v, he, ho⟩ := he
  obtain ⟨a, c, hv⟩ := nil_of ho
  exact ⟨⟨a, c, by rw [he, hv]⟩, hb⟩
theorem words_parts (ps : List (List UInt8)) (h : ∀ p ∈ ps, IsPart p) (h0 : ps.length ≠ 0) (hl : (Lib.join ps [32]).length ≤ 1000000) (w : World) :
    Calls Tryd.prog 19 #[.string ⟨(Lib.join ps [32]).toArray⟩] w fun e w' => (∃ g c, e = .returned (.tuple #[.slice (some ⟨g, 0, none⟩) ps.length c, .int .i64 0]) ∧ g < w'.heap.size ∧ Hid (∀ j p, ps[j]? = some p → w'.cell? ⟨g, j, none⟩ = some (.string ⟨p.toArray⟩))) ∧ Below w.heap.size w w' := by
  refine (words_any ⟨(Lib.join ps [32]).toArray⟩ w (by show (Lib.join ps [32]).toArray.size ≤ _; rw [List.size_toArray]; exact hl)).mono ?_
  rintro e w' ⟨hb, he⟩
  rw [show (⟨(Lib.join ps [32]).toArray⟩ : ByteArray).data.toList = Lib.join ps [32] from rfl, words_join ps h] at he
  obtain ⟨v, he, ho⟩ := he
  obtain ⟨g, c, hv, _, hg, _, hc⟩ := rows_of ho h0
  exact ⟨⟨g, c, by rw [he, hv], hg, hc⟩, hb⟩

set_option maxRecDepth 100000 in
set_option maxHeartbeats 1000000 in
theorem textJoins_zero (a : Option Addr) (c : Nat) (w : World) (hE : Env w) :
    Calls Tryd.prog 7 #[.slice a 0 c] w fun e w' => e = .returned (.bool true) ∧ Below w.heap.size w w' := by
  go_enter Tryd.func7, Tryd.ntmps7
  go_wp2_with fail
  go_loop [3, 4] (fun v i => i = .int .i64 0 ∧ v = .slice none 0 0) (fun _ _ => 0)
  case atStart => exact ⟨rfl, rfl⟩
  case round =>
    obtain ⟨rfl, rfl⟩ := hrel
    go_wp2_with fail
    refine (join_nil none 0 _).mono ?_
    rintro e w1 ⟨rfl, b1⟩
    have hE1 := hE.below b1
    go_wp2_with fail
    refine (words_empty _).mono ?_
    rintro e w2 ⟨⟨a2, c2, rfl⟩, b2⟩
    have hE2 := hE1.below b2
    have b2' := b1.trans (b2.mono b1.size)
    clear b1 b2 hE1
    go_wp2_with fail
    refine (same_none a2 none c2 0 _).mono ?_
    rintro e w3 ⟨rfl, b3⟩
    have hE3 := hE2.below b3
    have b3' := b2'.trans (b3.mono b2'.size)
    clear b2' b3 hE2
    go_wp2_with fail
    refine (join_nil none 0 _).mono ?_
    rintro e w4 ⟨rfl, b4⟩
    have hE4 := hE3.below b4
    have b4' := b3'.trans (b4.mono b3'.size)
    clear b3' b4 hE3
    go_wp2_with fail
    refine (refJoin_none none 0 _).mono ?_
    rintro e w5 ⟨rfl, rfl⟩
    go_wp2_with fail
    refine (awake_any _ hE4).mono ?_
    rintro e w7 ⟨rfl, b7⟩
    have b7' := b4'.trans (b7.mono b4'.size)
    go_wp2
    go_ret
    exact ⟨rfl, b7'⟩

set_option maxRecDepth 100000 in
set_option maxHeartbeats 2000000 in
theorem textJoins_some (b off n c : Nat) (ss : List ByteArray) (w : World) (hE : Env w) (hn : 0 < n) (hn1 : n ≤ 9223372036854775807) (hbw : b < w.heap.size)
    (hcell : ∀ j, j < n → w.cell? ⟨b, off + j, none⟩ = some (.string (ss.getD j ByteArray.empty))) :
    Calls Tryd.prog 7 #[.slice (some ⟨b, off, none⟩) n c] w fun e w' => e = .returned (.bool true) ∧ Below w.heap.size w w' := by
  obtain ⟨i0, hi, hz0, hz1, hz2⟩ := info_parts info9
  have HC := Lib.hid hcell
  clear hcell
  go_enter Tryd.func7, Tryd.ntmps7
  go_wp2_with fail
  go_loopw [3, 4] (fun v i wr => ∃ (k : Nat) (pp : List (List UInt8)), i = .int .i64 k ∧ k ≤ n ∧ k ≤ 20 ∧ Hid (pp.length = k) ∧ Hid (∀ p ∈ pp, IsPart p ∧ p.length ≤ 402) ∧ wr.ownsRow w.heap.size 9 1 v k (pp.map strV) ∧ Below w.heap.size w wr) (fun _ i _ => n - (intOf i).toNat)
  case atStart => exact ⟨0, [], rfl, by omega, by omega, rfl, fun p hp => (by cases hp), World.ownsRow_nil _ _ _ _, Below.refl _ _⟩
  case round =>
    obtain ⟨k, pp, rfl, hk, hk20, HL, HP, hown, hb⟩ := hrel
    have hsz := hb.size
    by_cases hlt : k < n ∧ k < 20
    · obtain ⟨hlt, hlt20⟩ := hlt
      obtain ⟨x, hx⟩ : ∃ x, x = ss.getD k ByteArray.empty := ⟨_, rfl⟩
      have hc0 : wr.cell? ⟨b, off + k, none⟩ = some (.string x) := by rw [hx]; exact (hb.cell (p := ⟨b, off + k, none⟩) hbw).trans (HC.out k hlt)
      clear hx
      by_cases hxs : x.size ≤ 100
      · have hql := quoteLe x.data.toList
        rw [len_of] at hql
        have HQP : Hid (IsPart (quoteL x.data.toList) ∧ (quoteL x.data.toList).length ≤ 402) := ⟨Or.inl ⟨_, rfl⟩, by omega⟩
        clear hql
        go_wp2_with fail
        refine (quote_any x _ (by omega)).mono ?_
        rintro e w1 ⟨rfl, b1⟩
        have ho1 := own_frame hown b1
        have hc1 : w1.cell? ⟨b, off + k, none⟩ = some (.string x) := (b1.cell (p := ⟨b, off + k, none⟩) (by show b < wr.heap.size; omega)).trans hc0
        have hb1 := hb.trans (b1.mono hsz)
        have hs1 := hb1.size
        clear hown b1 hb hsz hc0
        cases hnm : nameB x.data.toList
        · go_wp2_with (first | (go_at_call 8; refine (name_any _ _).mono ?_; rintro e w' ⟨rfl, rfl⟩) | (at_builtin; refine wpList_append_own _ rfl _ _ 32 rfl w.heap.size 9 i0 (.string ByteArray.empty) 1 16 Tryd.underlying32 hi hz0 hz1 hz2 rfl (by decide) _ _ _ rfl (ho1.alloc _) ⟨w1.heap.size, 0, none⟩ 1 1 [.string ⟨(quoteL x.data.toList).toArray⟩] rfl rfl ?c1 ?c2 ?c3 ?c4 ?c5 ?_))
          case c1 =>
            intro i u hj
            match i, hj with
            | 0, hj => simp at hj; subst hj; simp [Addr.add]
          case c2 => intro u hu; simp at hu; subst hu; rfl
          case c3 => unfold maxLen; omega
          case c4 => omega
          case c5 => simp; omega
          intro v' w2 hown' hgrow _
          have hb2 := (hb1.alloc hs1 (.cells #[.string ⟨(quoteL x.data.toList).toArray⟩] 9)).grown hgrow (by simp; omega) (fun k hk => (ho1.lt k hk).1)
          have HO2 : Hid (w2.ownsRow w.heap.size 9 1 v' (k + 1) ((pp ++ [quoteL x.data.toList]).map strV)) := by
            show World.ownsRow _ _ _ _ _ _ _
            rw [List.map_append, List.map_cons, List.map_nil]
            have e : strV (quoteL x.data.toList) = .string ⟨(quoteL x.data.toList).toArray⟩ := rfl
            rw [e]; exact hown'
          have HB2 := Lib.hid hb2
          have HL2 : Hid ((pp ++ [quoteL x.data.toList]).length = k + 1) := by show _ = _; rw [List.length_append, HL.out]; rfl
          have HP2 : Hid (∀ p ∈ pp ++ [quoteL x.data.toList], IsPart p ∧ p.length ≤ 402) := fun p hp => by
            rcases List.mem_append.1 hp with hp | hp
            · exact HP.out p hp
            · rw [List.mem_singleton.1 hp]; exact HQP.out
          clear hown' hgrow ho1 hb1 hb2
          go_wp2
          go_roundw
          case rel => exact ⟨k + 1, pp ++ [quoteL x.data.toList], by go_num, by omega, by omega, HL2, HP2, HO2.out, HB2.out⟩
          case measure => simp [intOf]; omega
        · have HNP : Hid (IsPart x.data.toList ∧ x.data.toList.length ≤ 402) := ⟨name_part _ hnm, by rw [len_of]; omega⟩
          go_wp2_with (first | (go_at_call 8; refine (name_any _ _).mono ?_; rintro e w' ⟨rfl, rfl⟩) | (at_builtin; refine wpList_append_own _ rfl _ _ 32 rfl w.heap.size 9 i0 (.string ByteArray.empty) 1 16 Tryd.underlying32 hi hz0 hz1 hz2 rfl (by decide) _ _ _ rfl (ho1.alloc _) ⟨w1.heap.size, 0, none⟩ 1 1 [.string x] rfl rfl ?d1 ?d2 ?d3 ?d4 ?d5 ?_))
          case d1 =>
            intro i u hj
            match i, hj with
            | 0, hj => simp at hj; subst hj; simp [Addr.add]
          case d2 => intro u hu; simp at hu; subst hu; rfl
          case d3 => unfold maxLen; omega
          case d4 => omega
          case d5 => simp; omega
          intro v' w2 hown' hgrow _
          have hb2 := (hb1.alloc hs1 (.cells #[.string x] 9)).grown hgrow (by simp; omega) (fun k hk => (ho1.lt k hk).1)
          have HO2 : Hid (w2.ownsRow w.heap.size 9 1 v' (k + 1) ((pp ++ [x.data.toList]).map strV)) := by
            show World.ownsRow _ _ _ _ _ _ _
            rw [List.map_append, List.map_cons, List.map_nil]
            have e : strV (x.data.toList) = .string x := congrArg Value.string (Lib.mk_data x)
            rw [e]; exact hown'
          have HB2 := Lib.hid hb2
          have HL2 : Hid ((pp ++ [x.data.toList]).length = k + 1) := by show _ = _; rw [List.length_append, HL.out]; rfl
          have HP2 : Hid (∀ p ∈ pp ++ [x.data.toList], IsPart p ∧ p.length ≤ 402) := fun p hp => by
            rcases List.mem_append.1 hp with hp | hp
            · exact HP.out p hp
            · rw [List.mem_singleton.1 hp]; exact HNP.out
          clear hown' hgrow ho1 hb1 hb2
          go_wp2
          go_roundw
          case rel => exact ⟨k + 1, pp ++ [x.data.toList], by go_num, by omega, by omega, HL2, HP2, HO2.out, HB2.out⟩
          case measure => simp [intOf]; omega
      · have hE1 := hE.below hb
        go_wp2_with fail
        refine (awake_any _ hE1).mono ?_
        rintro e w7 ⟨rfl, b7⟩
        have b7' := hb.trans (b7.mono hsz)
        go_wp2
        go_ret
        exact ⟨rfl, b7'⟩
    · have hk0 : k ≠ 0 := by omega
      obtain ⟨g, c2, hv, hc2, hg, hkl, hd⟩ := rows_of hown hk0
      have hE1 := hE.below hb
      have HPP : Hid (∀ p ∈ pp, IsPart p) := fun p hp => (HP.out p hp).1
      have hjl := join_bd 402 pp (fun p hp => (HP.out p hp).2)
      have HJL : Hid ((Lib.join pp [32]).length ≤ 1000000) := by show _ ≤ _; omega
      have HKL := Lib.hid hkl
      have D := Lib.hid hd
      have hstop : n ≤ k ∨ (k < n ∧ 20 ≤ k) := by omega
      subst hv
      clear hown HP HL hkl hd hjl hlt
      rcases hstop with hst | ⟨hst, hst2⟩
      all_goals
        go_wp2_with fail
        refine (joinP g k c2 pp _ HKL.out (by omega) hc2 hg D.out HJL.out).mono ?_
        rintro e w1 ⟨rfl, b1⟩
        have D1 := Lib.hid (cells_later D.out b1 hg)
        have hg1 := Nat.lt_of_lt_of_le hg b1.size
        have hE2 := hE1.below b1
        have b1' := hb.trans (b1.mono hsz)
        clear b1 hE1
        go_wp2_with fail
        refine (words_parts pp HPP.out (by have := HKL.out; omega) HJL.out _).mono ?_
        rintro e w2 ⟨⟨g2, c3, rfl, hg2, D2⟩, b2⟩
        have hkk : pp.length = k := HKL.out.symm
        rw [hkk]
        clear hkk
        have D1 := Lib.hid (cells_later D1.out b2 hg1)
        have hg1 := Nat.lt_of_lt_of_le hg1 b2.size
        have hE3 := hE2.below b2
        have b2' := b1'.trans (b2.mono b1'.size)
        clear b1' b2 hE2
        go_wp2_with fail
        refine (sameP g2 g k c3 c2 pp _ HKL.out (by omega) D2.out D1.out hg2 hg1).mono ?_
        rintro e w3 ⟨rfl, b3⟩
        have D1 := Lib.hid (cells_later D1.out b3 hg1)
        have hg1 := Nat.lt_of_lt_of_le hg1 b3.size
        have hE4 := hE3.below b3
        have b3' := b2'.trans (b3.mono b2'.size)
        clear b2' b3 hE3
        go_wp2_with fail
        refine (joinP g k c2 pp _ HKL.out (by omega) hc2 hg1 D1.out HJL.out).mono ?_
        rintro e w4 ⟨rfl, b4⟩
        have D1 := Lib.hid (cells_later D1.out b4 hg1)
        have hE5 := hE4.below b4
        have b4' := b3'.trans (b4.mono b3'.size)
        clear b3' b4 hE4
        go_wp2_with fail
        refine (refJoin_any g k c2 pp _ HKL.out (by omega) D1.out HJL.out).mono ?_
        rintro e w5 ⟨rfl, rfl⟩
        go_wp2_with fail
        refine (awake_any _ hE5).mono ?_
        rintro e w7 ⟨rfl, b7⟩
        have b7' := b4'.trans (b7.mono b4'.size)
        go_wp2
        go_ret
        exact ⟨rfl, b7'⟩

end Go.Proofs.YthbpmolookmjaaaDoor
