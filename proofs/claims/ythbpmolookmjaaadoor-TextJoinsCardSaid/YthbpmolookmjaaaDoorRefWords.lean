/-
  DERIVED. The walk of the specification's Words.
-/
import Derived.Test.YthbpmolookmjaaaDoorRefW
namespace Go.Proofs.YthbpmolookmjaaaDoor
open Go.RowKit

/-- where the specification's Words stands: more parts are to come, or the line is through -/
def St (l : List UInt8) (j : Nat) (acc : List (List UInt8)) : Prop :=
  (∃ f, l.length - j < f ∧ wordsL l = (wgo f (l.drop j)).map (acc ++ ·) ∧ (j < l.length ∨ (acc ≠ [] ∧ j = l.length ∧ (l.getD (j - 1) 0).toNat = 32))) ∨
  (j = l.length ∧ wordsL l = some acc ∧ (acc = [] ∨ (l.getD (j - 1) 0).toNat ≠ 32))
theorem st_start (l : List UInt8) : St l 0 [] := by
  cases l with
  | nil => right; exact ⟨rfl, rfl, Or.inl rfl⟩
  | cons c r =>
    left
    refine ⟨(c :: r).length + 1, by omega, ?_, Or.inl (by simp)⟩
    rw [wordsL, if_neg (by simp), List.drop_zero]
    cases wgo ((c :: r).length + 1) (c :: r) <;> simp
theorem getD_dropN (l : List UInt8) (j i : Nat) : (l.drop j).getD i 0 = l.getD (j + i) 0 := by
  rw [List.getD_eq_getElem?_getD, List.getD_eq_getElem?_getD, List.getElem?_drop]
/-- what follows a part -/
structure Nx (l : List UInt8) (j n : Nat) (acc : List (List UInt8)) : Prop where
  last : j + n = l.length → St l (j + n) (acc ++ [(l.drop j).take n])
  next : j + n < l.length → (l.getD (j + n) 0).toNat = 32 → St l (j + n + 1) (acc ++ [(l.drop j).take n])
  bad : j + n < l.length → (l.getD (j + n) 0).toNat ≠ 32 → wordsL l = none
theorem nx_of (l : List UInt8) (j : Nat) (acc : List (List UInt8)) (f : Nat) (hf : l.length - j < f) (hw : wordsL l = (wgo f (l.drop j)).map (acc ++ ·)) (h0 : plen (l.drop j) ≠ 0) : Nx l j (plen (l.drop j)) acc := by
  obtain ⟨g, rfl⟩ : ∃ g, f = g + 1 := ⟨f - 1, by omega⟩
  have hd : (l.drop j).length = l.length - j := List.length_drop
  have hle := plen_le (l.drop j)
  refine ⟨fun h => ?_, fun h h32 => ?_, fun h h32 => ?_⟩
  · right
    refine ⟨h, ?_, Or.inr ?_⟩
    · rw [hw, wgo_last _ g h0 (by omega)]; rfl
    · have := part_last (l.drop j) h0
      rw [getD_dropN, show j + (plen (l.drop j) - 1) = j + plen (l.drop j) - 1 by omega] at this
      exact this
  · left
    refine ⟨g, by omega, ?_, ?_⟩
    · rw [hw, wgo_next _ g h0 (by omega) (by rw [getD_dropN]; exact h32), Option.map_map, List.drop_drop]
      congr 1
      funext x
      simp
    · rcases Nat.lt_or_ge (j + plen (l.drop j) + 1) l.length with h1 | h1
      · exact Or.inl h1
      · refine Or.inr ⟨by simp, by omega, ?_⟩
        exact h32
  · rw [hw, wgo_bad _ g h0 (by omega) (by rw [getD_dropN]; exact h32)]; rfl
theorem st_none (l : List UInt8) (j : Nat) (acc : List (List UInt8)) (f : Nat) (hf : l.length - j < f) (hw : wordsL l = (wgo f (l.drop j)).map (acc ++ ·)) (h0 : plen (l.drop j) = 0) : wordsL l = none := by
  obtain ⟨g, rfl⟩ : ∃ g, f = g + 1 := ⟨f - 1, by omega⟩
  rw [hw, wgo_none _ g h0]; rfl
theorem ext_take (s : ByteArray) (j n : Nat) : strV ((s.data.toList.drop j).take n) = .string (s.extract j (j + n)) := by
  rw [strV, Lib.extract_eq, show j + n - j = n by omega]

theorem quoted_yes (s : ByteArray) (j n : Nat) (w : World) (hs : s.size ≤ 1000000) (hq : qlen (s.data.toList.drop j) = n) (hn : n ≠ 0) :
    Calls Tryd.prog 36 #[.string s, .int .i64 j] w fun e w' => (∃ x, e = .returned (.tuple #[.string x, .int .i64 (j + n), .bool true])) ∧ Below w.heap.size w w' := by
  obtain ⟨m, t, hm⟩ := qlen_inv _ (by omega : qlen (s.data.toList.drop j) ≠ 0)
  have hl := qlen_quoteL m t
  rw [← hm, hq] at hl
  refine (quoted_ok s j m t w hs hm).mono ?_
  rintro e w' ⟨rfl, hb⟩
  exact ⟨⟨_, by rw [← hl]; exact congrArg (fun z => Ending.returned (.tuple #[.string ⟨m.toArray⟩, .int .i64 z, .bool true])) (by omega)⟩, hb⟩
theorem quoted_no (s : ByteArray) (j : Nat) (hj : j ≤ s.size) (w : World) (hs : s.size ≤ 1000000) (hq : qlen (s.data.toList.drop j) = 0) :
    Calls Tryd.prog 36 #[.string s, .int .i64 j] w fun e w' => (∃ i : Int, e = .returned (.tuple #[.string ⟨#[]⟩, .int .i64 i, .bool false])) ∧ Below w.heap.size w w' := by
  refine quoted_bad s j hj w hs (fun m t e => ?_)
  have hl := qlen_quoteL m t
  rw [← e, hq, quoteL] at hl
  simp at hl

set_option maxRecDepth 100000 in
set_option maxHeartbeats 4000000 in
theorem refWords_any (s : ByteArray) (w : World) (hs : s.size ≤ 1000000) :
    Calls Tryd.prog 20 #[.string s] w (WordsPost s.data.toList w.heap.size w) := by
  obtain ⟨i0, hi, hz0, hz1, hz2⟩ := info_parts info9
  go_enter Tryd.func20, Tryd.ntmps20
  go_wp2_with fail
  go_loopw [4, 5] (fun v a wr => ∃ (j : Nat) (acc : List (List UInt8)), a = .int .i64 j ∧ j ≤ s.size ∧ wr.ownsRow w.heap.size 9 1 v acc.length (acc.map strV) ∧ acc.length ≤ j ∧ Below w.heap.size w wr ∧ Hid (St s.data.toList j acc)) (fun _ a _ => s.size - (intOf a).toNat)
  case atStart => exact ⟨0, [], rfl, by omega, World.ownsRow_nil _ _ _ _, by simp, Below.refl _ _, st_start _⟩
  case round =>
    obtain ⟨j, acc, rfl, hj, hown, hac, hb, HS⟩ := hrel
    have hsz := hb.size
    rcases HS.out with ⟨f, hf, hw, hp⟩ | ⟨hd, hw, hl⟩
    · rw [len_of] at hf
      by_cases hlt : j < s.size
      · have HNX : Hid (plen (s.data.toList.drop j) ≠ 0 → Nx s.data.toList j (plen (s.data.toList.drop j)) acc) := nx_of _ _ _ f (by rw [len_of]; exact hf) hw
        have HNO : Hid (plen (s.data.toList.drop j) = 0 → wordsL s.data.toList = none) := st_none _ _ _ f (by rw [len_of]; exact hf) hw
        have hple := plen_le (s.data.toList.drop j)
        rw [List.length_drop, len_of] at hple
        clear HS hw hp hf
        by_cases hwl : wl (s.data.toList.drop j) = 0
        · have hpq := plen_quote _ hwl
          by_cases hq : qlen (s.data.toList.drop j) = 0
          · have HK : Hid (wordsL s.data.toList = none) := HNO.out (by rw [hpq]; exact hq)
            have HQ := Lib.hid hq
            clear HNX HNO hpq hq hple
            go_wp2_with (go_at_call 39; refine (word_any s j hj _ hs).mono ?_; rintro e w' ⟨rfl, rfl⟩)
            refine (quoted_no s j hj _ hs HQ.out).mono ?_
            rintro e w1 ⟨⟨i, rfl⟩, b1⟩
            have hb1 := hb.trans (b1.mono hsz)
            clear hown hb b1
            go_wp2
            go_ret2
            exact words_none HK.out hb1
          · obtain ⟨n, hN⟩ : ∃ n, qlen (s.data.toList.drop j) = n := ⟨_, rfl⟩
            have HX : Hid (Nx s.data.toList j n acc) := by
              have := HNX.out (by omega)
              rw [hpq, hN] at this; exact this
            rw [hpq, hN] at hple
            have hn1 : 1 ≤ n := by omega
            have HQ := Lib.hid hN
            have HST := Lib.hid (ext_take s j n)
            have hjn : j + n ≤ s.size := by omega
            clear HNX HNO hpq hq hple hN
            go_wp2_with (go_at_call 39; refine (word_any s j hj _ hs).mono ?_; rintro e w' ⟨rfl, rfl⟩)
            refine (quoted_yes s j n _ hs HQ.out (by omega)).mono ?_
            rintro e w1 ⟨⟨x, rfl⟩, b1⟩
            have ho1 := own_frame hown b1
            have hb1 := hb.trans (b1.mono hsz)
            have hs1 := hb1.size
            clear hown hb b1 hsz
            have haj : acc.length ≤ 1000000 := by omega
            go_wp2_with (at_builtin; refine wpList_append_own _ rfl _ _ 32 rfl w.heap.size 9 i0 (.string ByteArray.empty) 1 16 Tryd.underlying32 hi hz0 hz1 hz2 rfl (by decide) _ _ _ rfl (ho1.alloc _) ⟨w1.heap.size, 0, none⟩ 1 1 [.string (s.extract j (j + n))] rfl rfl ?q1 ?q2 ?q3 ?q4 ?q5 ?_)
            case q1 =>
              intro i u hj
              match i, hj with
              | 0, hj => simp at hj; subst hj; simp [Addr.add]
            case q2 => intro u hu; simp at hu; subst hu; rfl
            case q3 => unfold maxLen; omega
            case q4 => omega
            case q5 => simp; omega
            intro v' w2 hown' hgrow _
            have hb2 := (hb1.alloc hs1 (.cells #[.string (s.extract j (j + n))] 9)).grown hgrow (by simp; omega) (fun k hk => (ho1.lt k hk).1)
            have HO2 : Hid (w2.ownsRow w.heap.size 9 1 v' (acc ++ [(s.data.toList.drop j).take n]).length ((acc ++ [(s.data.toList.drop j).take n]).map strV)) := by
              show World.ownsRow _ _ _ _ _ _ _
              rw [List.map_append, List.length_append, List.map_cons, List.map_nil, HST.out]; exact hown'
            have HB2 := Lib.hid hb2
            clear hown' hgrow ho1 hb1 hb2
            by_cases hend : j + n < s.size
            · have hg := getD_of s (j + n) hend
              by_cases h32 : s[j + n].toNat = 32
              · have HS2 : Hid (St s.data.toList (j + n + 1) (acc ++ [(s.data.toList.drop j).take n])) := HX.out.next (by rw [len_of]; exact hend) (by rw [hg]; exact h32)
                have h32' : ((s[j + n].toNat : Int) != 32) = false := by simp; omega
                clear hg h32
                go_wp2
                go_roundw
                case rel => exact ⟨j + n + 1, acc ++ [(s.data.toList.drop j).take n], by go_num, by omega, HO2.out, by simp; omega, HB2.out, HS2⟩
                case measure => simp [intOf]; omega
              · have HK : Hid (wordsL s.data.toList = none) := HX.out.bad (by rw [len_of]; exact hend) (by rw [hg]; exact h32)
                have h32' : ((s[j + n].toNat : Int) != 32) = true := by simp; omega
                clear hg h32
                go_wp2
                go_ret2
                exact words_none HK.out HB2.out
            · have HS2 : Hid (St s.data.toList (j + n) (acc ++ [(s.data.toList.drop j).take n])) := HX.out.last (by rw [len_of]; omega)
              go_wp2
              go_roundw
              case rel => exact ⟨j + n, acc ++ [(s.data.toList.drop j).take n], by go_num, by omega, HO2.out, by simp; omega, HB2.out, HS2⟩
              case measure => simp [intOf]; omega
        · obtain ⟨n, hN⟩ : ∃ n, wl (s.data.toList.drop j) = n := ⟨_, rfl⟩
          have hpw := plen_word _ hwl
          have HX : Hid (Nx s.data.toList j n acc) := by
            have := HNX.out (by omega)
            rw [hpw, hN] at this; exact this
          rw [hpw, hN] at hple
          have hn1 : 1 ≤ n := by omega
          have HST := Lib.hid (ext_take s j n)
          have hjn : j + n ≤ s.size := by omega
          have hww : Hid (∀ W, Calls Tryd.prog 39 #[.string s, .int .i64 j] W fun e w' => e = .returned (.int .i64 (j + n)) ∧ W = w') := fun W => by
            have := word_any s j hj W hs
            rw [hN] at this
            rw [show ((j : Int) + n) = ((j + n : Nat) : Int) by omega]
            exact this
          have hne : (((j : Int) + n) == (j : Int)) = false := by rw [beq_eq_false_iff_ne]; omega
          have ho1 := hown
          have hb1 := hb
          have hs1 := hsz
          clear HNX HNO hpw hwl hple hN hown hb hsz
          go_wp2_with fail
          refine (hww.out _).mono ?_
          rintro e w1 ⟨rfl, rfl⟩
          have haj : acc.length ≤ 1000000 := by omega
          go_wp2_with (at_builtin; refine wpList_append_own _ rfl _ _ 32 rfl w.heap.size 9 i0 (.string ByteArray.empty) 1 16 Tryd.underlying32 hi hz0 hz1 hz2 rfl (by decide) _ _ _ rfl (ho1.alloc _) ⟨wr.heap.size, 0, none⟩ 1 1 [.string (s.extract j (j + n))] rfl rfl ?p1 ?p2 ?p3 ?p4 ?p5 ?_)
          case p1 =>
            intro i u hj
            match i, hj with
            | 0, hj => simp at hj; subst hj; simp [Addr.add]
          case p2 => intro u hu; simp at hu; subst hu; rfl
          case p3 => unfold maxLen; omega
          case p4 => omega
          case p5 => simp; omega
          intro v' w2 hown' hgrow _
          have hb2 := (hb1.alloc hs1 (.cells #[.string (s.extract j (j + n))] 9)).grown hgrow (by simp; omega) (fun k hk => (ho1.lt k hk).1)
          have HO2 : Hid (w2.ownsRow w.heap.size 9 1 v' (acc ++ [(s.data.toList.drop j).take n]).length ((acc ++ [(s.data.toList.drop j).take n]).map strV)) := by
            show World.ownsRow _ _ _ _ _ _ _
            rw [List.map_append, List.length_append, List.map_cons, List.map_nil, HST.out]; exact hown'
          have HB2 := Lib.hid hb2
          clear hown' hgrow ho1 hb1 hb2
          by_cases hend : j + n < s.size
          · have hg := getD_of s (j + n) hend
            by_cases h32 : s[j + n].toNat = 32
            · have HS2 : Hid (St s.data.toList (j + n + 1) (acc ++ [(s.data.toList.drop j).take n])) := HX.out.next (by rw [len_of]; exact hend) (by rw [hg]; exact h32)
              have h32' : ((s[j + n].toNat : Int) != 32) = false := by simp; omega
              clear hg h32
              go_wp2
              go_roundw
              case rel => exact ⟨j + n + 1, acc ++ [(s.data.toList.drop j).take n], by go_num, by omega, HO2.out, by simp; omega, HB2.out, HS2⟩
              case measure => simp [intOf]; omega
            · have HK : Hid (wordsL s.data.toList = none) := HX.out.bad (by rw [len_of]; exact hend) (by rw [hg]; exact h32)
              have h32' : ((s[j + n].toNat : Int) != 32) = true := by simp; omega
              clear hg h32
              go_wp2
              go_ret2
              exact words_none HK.out HB2.out
          · have HS2 : Hid (St s.data.toList (j + n) (acc ++ [(s.data.toList.drop j).take n])) := HX.out.last (by rw [len_of]; omega)
            go_wp2
            go_roundw
            case rel => exact ⟨j + n, acc ++ [(s.data.toList.drop j).take n], by go_num, by omega, HO2.out, by simp; omega, HB2.out, HS2⟩
            case measure => simp [intOf]; omega
      · rcases hp with hp | ⟨ha, hjl, h32⟩
        · rw [len_of] at hp; omega
        · rw [len_of] at hjl
          have hal : acc.length ≠ 0 := by simpa using ha
          have hj1 : 1 ≤ j := by omega
          have hlt1 : j - 1 < s.size := by omega
          rw [getD_of s (j - 1) hlt1] at h32
          have h32' : ((s[j - 1].toNat : Int) == 32) = true := by simp; omega
          have hd0 : s.data.toList.drop j = [] := List.drop_of_length_le (by simp; omega)
          have HK : Hid (wordsL s.data.toList = none) := st_none _ _ _ f (by rw [len_of]; exact hf) hw (by rw [hd0]; rfl)
          have HQ : Hid (qlen (s.data.toList.drop j) = 0) := by show _ = _; rw [hd0]; rfl
          have hww : Hid (∀ W, Calls Tryd.prog 39 #[.string s, .int .i64 j] W fun e w' => e = .returned (.int .i64 j) ∧ W = w') := fun W => by
            have := word_any s j hj W hs
            rw [hd0] at this
            exact this
          obtain ⟨v4, hv4⟩ : ∃ v4, v4 = acc.length := ⟨_, rfl⟩
          have heq : ((j : Int) == (s.size : Int)) = true := by simp; omega
          have hal1 : 0 < acc.length := by omega
          obtain ⟨ao, cc, hv⟩ : ∃ ao cc, u4 = .slice ao acc.length cc := by
            rcases hown.2 with ⟨hv, h0⟩ | ⟨g, cap, cur, hv, _⟩
            · exact absurd h0 hal
            · exact ⟨_, _, hv⟩
          subst hv
          clear HS hw hf hjl h32 hd0 ha hal hown hv4
          go_wp2_with fail
          refine (hww.out _).mono ?_
          rintro e w1 ⟨rfl, rfl⟩
          go_wp2_with fail
          refine (quoted_no s j hj _ hs HQ.out).mono ?_
          rintro e w1 ⟨⟨i, rfl⟩, b1⟩
          have hb1 := hb.trans (b1.mono hsz)
          clear hb b1
          go_wp2
          go_ret2
          exact words_none HK.out hb1
    · rw [len_of] at hd
      have HK := Lib.hid hw
      have HB := Lib.hid hb
      have HO := Lib.hid hown
      have hlt : ¬ (j : Int) < (s.size : Int) := by omega
      rcases hl with hl | hl
      · subst hl
        have hv : ∃ ao cc, u4 = .slice ao 0 cc := by
          rcases hown.2 with ⟨hv, h0⟩ | ⟨g, cap, cur, hv, _⟩
          · exact ⟨_, _, hv⟩
          · exact ⟨_, _, hv⟩
        obtain ⟨ao, cc, hv⟩ := hv
        subst hv
        clear HS hw hd hown hb
        go_wp2_with fail
        go_ret2
        exact words_some HK.out HB.out HO.out
      · by_cases ha : acc = []
        · subst ha
          have hv : ∃ ao cc, u4 = .slice ao 0 cc := by
            rcases hown.2 with ⟨hv, h0⟩ | ⟨g, cap, cur, hv, _⟩
            · exact ⟨_, _, hv⟩
            · exact ⟨_, _, hv⟩
          obtain ⟨ao, cc, hv⟩ := hv
          subst hv
          clear HS hw hd hown hb hl
          go_wp2_with fail
          go_ret2
          exact words_some HK.out HB.out HO.out
        · have hal : acc.length ≠ 0 := by simpa using ha
          have hj1 : 1 ≤ j := by omega
          have hlt1 : j - 1 < s.size := by omega
          rw [getD_of s (j - 1) hlt1] at hl
          have h32' : ((s[j - 1].toNat : Int) == 32) = false := by simp; omega
          have heq : ((j : Int) == (s.size : Int)) = true := by simp; omega
          have hal1 : 0 < acc.length := by omega
          obtain ⟨ao, cc, hv⟩ : ∃ ao cc, u4 = .slice ao acc.length cc := by
            rcases hown.2 with ⟨hv, h0⟩ | ⟨g, cap, cur, hv, _⟩
            · exact absurd h0 hal
            · exact ⟨_, _, hv⟩
          subst hv
          clear HS hw hd hown hb hl ha hal
          go_wp2_with fail
          go_ret2
          exact words_some HK.out HB.out HO.out

end Go.Proofs.YthbpmolookmjaaaDoor
