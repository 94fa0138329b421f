/-
  DERIVED. The walks of the specification's Quote and starts.
-/
import Derived.Test.YthbpmolookmjaaaDoorRef1
import Derived.Test.YthbpmolookmjaaaDoorQuoteB
import Derived.Lib.AppendStr
namespace Go.Proofs.YthbpmolookmjaaaDoor
open Go.RowKit

theorem own_bytes {W : World} {B : Nat} {v : Value} {n : Nat} {l : List UInt8} (h : W.ownsRow B 5 1 v n (Lib.byteCells l)) :
    (convert 43 9 v).run Tryd.prog W = .ok (.string ⟨l.toArray⟩) W := own_string (l := l) h

set_option maxRecDepth 100000 in
set_option maxHeartbeats 1000000 in
theorem refQuote_any (s : ByteArray) (w : World) (hs : s.size ≤ 1000000) :
    Calls Tryd.prog 18 #[.string s] w fun e w' => e = .returned (.string ⟨(quoteL s.data.toList).toArray⟩) ∧ Below w.heap.size w w' := by
  obtain ⟨i0, hi, hz0, hz1, hz2⟩ := info_parts info5
  go_enter Tryd.func18, Tryd.ntmps18
  go_wp2_with fail
  go_loopw [3, 4] (fun v i wr => ∃ k : Nat, k ≤ s.size ∧ i = .int .i64 k ∧ wr.ownsRow w.heap.size 5 1 v (34 :: flat (s.data.toList.take k)).length (Lib.byteCells (34 :: flat (s.data.toList.take k))) ∧ Below w.heap.size w wr) (fun _ i _ => s.size - (intOf i).toNat)
  case atStart =>
    refine ⟨0, Nat.zero_le _, rfl, ?_, (Below.refl _ w).alloc (Nat.le_refl _) _⟩
    rw [List.take_zero]
    exact ⟨by simp [Lib.byteCells, flat], .inr ⟨w.heap.size, 1, _, rfl, Nat.le_refl _, heap_alloc_new w _, Nat.le_refl _, by decide, rfl, rfl⟩⟩
  case round =>
    obtain ⟨k, hk, rfl, hown, hb⟩ := hrel
    have hle := flat_le (s.data.toList.take k)
    have hle2 : (s.data.toList.take k).length ≤ k := List.length_take_le _ _
    have hsz := hb.size
    have hlen : (34 :: flat (s.data.toList.take k)).length ≤ 5000000 := by rw [List.length_cons]; omega
    by_cases hlt : k < s.size
    · have HF := Lib.hid (flat_step s k hlt)
      have hfl := formL_le s[k].toNat
      have HO := Lib.hid hown
      clear hown hle hle2
      go_wp2_with fail
      refine (form_any s[k] _).mono ?_
      rintro e w1 ⟨rfl, b1⟩
      have ho1 := own_frame HO.out b1
      have hb1 := hb.trans (b1.mono hb.size)
      have hs1 := hb1.size
      clear HO hb b1
      generalize hL : 34 :: flat (s.data.toList.take k) = L at *
      have HL := Lib.hid hL
      clear hL
      go_wp2_with (at_builtin; refine Lib.wpList_append_own_string _ rfl _ _ 43 9 rfl w.heap.size 5 i0 Tryd.underlying43 Tryd.underlying9 hi hz0 hz1 hz2 _ _ _ rfl ho1 ⟨(formL s[k].toNat).toArray⟩ rfl ?c3 ?c4 ?c5 ?_)
      case c3 => show L.length + (formL s[k].toNat).length ≤ maxLen; unfold maxLen; omega
      case c4 => show L.length + (formL s[k].toNat).length ≤ 140737488355328; omega
      case c5 => omega
      intro v' w2 hown' hgrow _
      have hb2 := hb1.grown hgrow hs1 (fun k hk => (ho1.lt k hk).1)
      have HO2 : Hid (w2.ownsRow w.heap.size 5 1 v' (34 :: flat (s.data.toList.take (k + 1))).length (Lib.byteCells (34 :: flat (s.data.toList.take (k + 1))))) := by
        show World.ownsRow _ _ _ _ _ _ _
        rw [HF.out, ← List.cons_append, HL.out, Lib.byteCells_append, List.length_append]; exact hown'
      have HB2 := Lib.hid hb2
      clear hown' hgrow ho1 hb1 hb2
      go_wp2
      go_roundw
      case rel => exact ⟨k + 1, by omega, by go_num, HO2.out, HB2.out⟩
      case measure => simp [intOf]; omega
    · have hk' : k = s.size := by omega
      subst hk'
      have HT := Lib.hid (show s.data.toList.take s.size = s.data.toList from List.take_of_length_le (by simp))
      clear hle hle2
      go_wp2_with (at_builtin; refine wpList_append_own _ rfl _ _ 43 rfl w.heap.size 5 i0 (.int .u8 0) 1 1 Tryd.underlying43 hi hz0 hz1 hz2 rfl (by decide) _ _ _ rfl (hown.alloc _) ⟨wr.heap.size, 0, none⟩ 1 1 [.int .u8 34] rfl rfl ?d1 ?d2 ?d3 ?d4 ?d5 ?_)
      case d1 =>
        intro j u hj
        match j, hj with
        | 0, hj => simp at hj; subst hj; simp [Addr.add]
      case d2 => intro u hu; simp at hu; subst hu; rfl
      case d3 => unfold maxLen; omega
      case d4 => omega
      case d5 => simp; omega
      intro v' w2 hown' hgrow _
      have hb2 := (hb.alloc hsz (.cells #[.int .u8 34] 5)).grown hgrow (by simp; omega) (fun k hk => (hown.lt k hk).1)
      have hcv := own_bytes (l := 34 :: flat (s.data.toList.take s.size) ++ [34]) (by rw [Lib.byteCells_append]; exact hown')
      have HB2 := Lib.hid hb2
      clear hown' hgrow hown hb hb2
      go_wp2
      go_ret
      exact ⟨ret_str (by rw [HT.out]; rfl), HB2.out⟩

theorem formN_any (c : Nat) (hc : c < 256) (w : World) :
    Calls Tryd.prog 37 #[.int .u8 c] w fun e w' => e = .returned (.string ⟨(formL c).toArray⟩) ∧ Below w.heap.size w w' := by
  have := form_any (UInt8.ofNat c) w
  rwa [UInt8.toNat_ofNat_of_lt' (by simpa using hc)] at this

/-- no form of a byte below n stands at the head of l -/
def NoForm (l : List UInt8) (n : Nat) : Prop := ∀ c : UInt8, c.toNat < n → ¬ ∃ t, l = formL c.toNat ++ t

theorem rhex_zero (c d : Nat) (h : (rhex c d).2 = 0) : rhex c d = (0, 0) := by
  unfold rhex at h ⊢
  split
  · rfl
  · rename_i h1
    rw [if_neg h1] at h
    split
    · rfl
    · rename_i h2; rw [if_neg h2] at h; simp at h
theorem resc_zero (l : List UInt8) (h : (resc l).2 = 0) : resc l = (0, 0) := by
  unfold resc at h ⊢
  split
  · rfl
  rename_i h1; rw [if_neg h1] at h
  split
  · rename_i h2; rw [if_pos h2] at h; simp at h
  rename_i h2; rw [if_neg h2] at h
  split
  · rename_i h3; rw [if_pos h3] at h; simp at h
  rename_i h3; rw [if_neg h3] at h
  split
  · rename_i h4; rw [if_pos h4] at h
    unfold rhexL at h ⊢
    split
    · rfl
    · rename_i h5; rw [if_neg h5] at h; exact rhex_zero _ _ h
  · rfl
theorem rfm_zero (l : List UInt8) (h : (rfm l).2 = 0) : rfm l = (0, 0) := by
  unfold rfm at h ⊢
  split
  · rfl
  rename_i h1; rw [if_neg h1] at h
  split
  · rfl
  rename_i h2; rw [if_neg h2] at h
  split
  · rename_i h3; rw [if_pos h3] at h; exact resc_zero _ h
  · rename_i h3; rw [if_neg h3] at h; simp at h
theorem st_end (l : List UInt8) (h : NoForm l 256) : rfm l = (0, 0) := by
  apply rfm_zero
  apply Decidable.byContradiction
  intro h0
  obtain ⟨c, _, _, t, ht⟩ := rfm_inv l h0
  exact h c c.toNat_lt ⟨t, ht⟩
theorem st_hit (s : ByteArray) (k c : Nat) (hc : c < 256) (h : ((s.extract k (k + (formL c).length)).toList == formL c) = true) : rfm (s.data.toList.drop k) = (c, (formL c).length) := by
  have h := eq_of_beq h
  rw [Lib.extract_toList, show k + (formL c).length - k = (formL c).length by omega] at h
  have e : s.data.toList.drop k = formL c ++ (s.data.toList.drop k).drop (formL c).length := by
    have h2 := List.take_append_drop (formL c).length (s.data.toList.drop k)
    rw [h] at h2; exact h2.symm
  have hr := rfm_form (UInt8.ofNat c) ((s.data.toList.drop k).drop (formL c).length)
  rw [UInt8.toNat_ofNat_of_lt' (by simpa using hc)] at hr
  rw [e]; exact hr
theorem st_next (s : ByteArray) (k c : Nat) (hN : NoForm (s.data.toList.drop k) c) (h : ((s.extract k (k + (formL c).length)).toList == formL c) = false ∨ ¬ ((formL c).length : Int) ≤ (s.size : Int) - (k : Int)) : NoForm (s.data.toList.drop k) (c + 1) := by
  intro d hd
  rcases Nat.lt_or_ge d.toNat c with h1 | h1
  · exact hN d h1
  · have : d.toNat = c := by omega
    rintro ⟨t, ht⟩
    rw [this] at ht
    rcases h with h | h
    · rw [Lib.extract_toList, show k + (formL c).length - k = (formL c).length by omega, ht, List.take_left] at h
      simp at h
    · have hl := congrArg List.length ht
      rw [List.length_drop, List.length_append, len_of] at hl
      have := formL_pos c
      omega
theorem ret_st {a b : Int} {g : Bool} {k : Nat} {p : Nat × Nat} (h1 : a = p.1) (h2 : b = k + p.2) (h3 : g = (p.2 != 0)) : Ending.returned (.tuple #[.int .u8 a, .int .i64 b, .bool g]) = .returned (.tuple #[.int .u8 p.1, .int .i64 (k + p.2), .bool (p.2 != 0)]) := by rw [h1, h2, h3]

set_option maxRecDepth 100000 in
set_option maxHeartbeats 1000000 in
theorem starts_any (s : ByteArray) (k : Nat) (hk : k ≤ s.size) (w : World) (hs : s.size ≤ 1000000) :
    Calls Tryd.prog 49 #[.string s, .int .i64 k] w fun e w' =>
      e = .returned (.tuple #[.int .u8 (rfm (s.data.toList.drop k)).1, .int .i64 (k + (rfm (s.data.toList.drop k)).2), .bool ((rfm (s.data.toList.drop k)).2 != 0)]) ∧ Below w.heap.size w w' := by
  go_enter Tryd.func49, Tryd.ntmps49
  go_wp2_with fail
  go_loopw [7] (fun i wr => ∃ c : Nat, c ≤ 256 ∧ i = .int .i64 c ∧ Below w.heap.size w wr ∧ NoForm (s.data.toList.drop k) c) (fun i _ => 256 - (intOf i).toNat)
  case atStart => exact ⟨0, by omega, rfl, Below.refl _ _, fun c h => by omega⟩
  case round =>
    obtain ⟨c, hc, rfl, hb, HN⟩ := hrel
    by_cases hlt : c < 256
    · have hfp := formL_pos c
      go_wp2_with fail
      refine (formN_any c hlt _).mono ?_
      rintro e w1 ⟨rfl, b1⟩
      have hb1 := hb.trans (b1.mono hb.size)
      clear hb b1
      cases hh : ((s.extract k (k + (formL c).length)).toList == formL c)
      · have HN2 := st_next s k c HN (Or.inl hh)
        go_wp2_with fail
        all_goals
          go_roundw
          case rel => exact ⟨c + 1, by omega, by go_num, hb1, HN2⟩
          case measure => simp [intOf]; omega
      · have hr := st_hit s k c hlt hh
        have hlen : ((formL c).length : Int) ≤ (s.size : Int) - (k : Int) := by
          have h1 := congrArg List.length (eq_of_beq hh)
          rw [Lib.extract_toList] at h1
          simp at h1
          omega
        have HR := Lib.hid hr
        clear hr
        go_wp2_with fail
        go_ret3
        exact ⟨ret_st (by rw [HR.out]) (by rw [HR.out]) (by rw [HR.out]; exact (bne_iff_ne.2 (show (formL c).length ≠ 0 by omega)).symm), hb1⟩
    · have hc' : c = 256 := by omega
      subst hc'
      have hr := Lib.hid (st_end _ HN)
      go_wp2_with fail
      go_ret3
      exact ⟨ret_st (by rw [hr.out]; rfl) (by rw [hr.out]; simp) (by rw [hr.out]; rfl), hb⟩

end Go.Proofs.YthbpmolookmjaaaDoor
