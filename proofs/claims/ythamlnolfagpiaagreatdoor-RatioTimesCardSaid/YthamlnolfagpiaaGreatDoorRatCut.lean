/-
  DERIVED. The walks of strings.Cut at a slash.
-/
import Derived.Test.YthamlnolfagpiaaGreatDoorRatBase
import Derived.IntWalk
namespace Go.Proofs.YthamlnolfagpiaaGreatDoor.D
open Go.RowKit
set_option maxRecDepth 8000

theorem cut_cases (l : List UInt8) : noSl l = true ∨ ∃ p q, noSl p = true ∧ l = p ++ 47 :: q := by
  induction l with
  | nil => exact .inl rfl
  | cons c t ih =>
    by_cases hc : c = 47
    · subst hc; exact .inr ⟨[], t, rfl, rfl⟩
    · have h2 : (!(c.toNat == 47)) = true := by
        have : c.toNat ≠ 47 := fun e => hc (UInt8.toNat_inj.1 e)
        simp [this]
      rcases ih with h | ⟨p, q, h, rfl⟩
      · exact .inl (by rw [noSl, List.all_cons, h2]; exact h)
      · exact .inr ⟨c :: p, q, by rw [noSl, List.all_cons, h2]; exact h, rfl⟩
theorem noSl_cons {c : UInt8} {t : List UInt8} (h : noSl (c :: t) = true) : (c == 47) = false ∧ noSl t = true := by
  rw [noSl, List.all_cons, Bool.and_eq_true] at h
  refine ⟨?_, h.2⟩
  rw [beq_eq_false_iff_ne]
  rintro rfl
  exact absurd h.1 (by decide)
theorem idx_none (l : List UInt8) (h : noSl l = true) : Lib.indexByte l 47 = -1 := by
  induction l with
  | nil => rfl
  | cons c t ih =>
    obtain ⟨h1, h2⟩ := noSl_cons h
    rw [Lib.indexByte, h1, ih h2]; rfl
theorem idx_some (p q : List UInt8) (h : noSl p = true) : Lib.indexByte (p ++ 47 :: q) 47 = (p.length : Int) := by
  induction p with
  | nil => rfl
  | cons c t ih =>
    obtain ⟨h1, h2⟩ := noSl_cons h
    rw [List.cons_append, Lib.indexByte, h1, ih h2]
    have : ((t.length : Int) == -1) = false := beq_eq_false_iff_ne.2 (by omega)
    rw [this]; simp

theorem liteCut_none (s : ByteArray) (h : noSl s.data.toList = true) (w : World) :
    Calls Tryz.prog 105 #[.string s, .string ⟨#[47]⟩] w fun e w' => e = .returned (.tuple #[.string s, .string ⟨#[]⟩, .bool false]) ∧ w = w' := by
  have HI := Lib.hid (idx_none _ h)
  clear h
  go_enter Tryz.func105, Tryz.ntmps105
  go_wp2_with fail
  refine (Tryz.stringslite_Index_one s 47 _).mono ?_
  rintro e w2 ⟨rfl, hw⟩
  subst hw
  rw [HI.out]
  go_wp2_with fail
  go_ret3
  exact ⟨rfl, rfl⟩
theorem cutS_none (s : ByteArray) (h : noSl s.data.toList = true) (w : World) :
    Calls Tryz.prog 74 #[.string s, .string ⟨#[47]⟩] w fun e w' => e = .returned (.tuple #[.string s, .string ⟨#[]⟩, .bool false]) ∧ w = w' := by
  go_enter Tryz.func74, Tryz.ntmps74
  go_wp2_with fail
  refine (liteCut_none s h _).mono ?_
  rintro e w2 ⟨rfl, rfl⟩
  go_wp2_with fail
  go_ret3
  exact ⟨rfl, rfl⟩
set_option maxHeartbeats 1000000 in
theorem liteCut_some (s p q : ByteArray) (hp : noSl p.data.toList = true) (h : s.data.toList = p.data.toList ++ 47 :: q.data.toList) (hs : s.size ≤ 1000000000) (w : World) :
    Calls Tryz.prog 105 #[.string s, .string ⟨#[47]⟩] w fun e w' => e = .returned (.tuple #[.string p, .string q, .bool true]) ∧ Below w.heap.size w w' := by
  have hsz : p.size + 1 ≤ s.size := by rw [half_size s p q h]; omega
  have HP := Lib.hid (ext_pre s p q h)
  have HQ := Lib.hid (ext_post s p q h)
  have HI : Hid (Lib.indexByte s.data.toList 47 = (p.size : Int)) := by
    show _ = _
    rw [h, idx_some _ _ hp, len_of]
  generalize hn : p.size = n at *
  clear h hp hn
  go_enter Tryz.func105, Tryz.ntmps105
  go_wp2_with fail
  refine (Tryz.stringslite_Index_one s 47 _).mono ?_
  rintro e w2 ⟨rfl, hw⟩
  subst hw
  rw [HI.out]
  have hw1 : IntKind.i64.wrap ((n : Int) + 1) = (n : Int) + 1 := IntWalk.i64_in _ (by omega)
  have hn0 : 0 ≤ (n : Int) := Int.natCast_nonneg _
  have hn1 : 0 ≤ (n : Int) + 1 := by omega
  have hn2 : ((n : Int) + 1).toNat = n + 1 := by omega
  have hn3 : (n : Int) ≤ (s.size : Int) := by omega
  have hn4 : (n : Int) + 1 ≤ (s.size : Int) := by omega
  go_wp2_with fail
  go_quiet (fail)
  clear hw1 hn2
  go_wp2_with fail
  go_ret3
  exact ⟨by first | rfl | (rw [HP.out, HQ.out]; rfl), below_drewN (Below.refl _ _) _⟩
theorem cutS_some (s p q : ByteArray) (hp : noSl p.data.toList = true) (h : s.data.toList = p.data.toList ++ 47 :: q.data.toList) (hs : s.size ≤ 1000000000) (w : World) :
    Calls Tryz.prog 74 #[.string s, .string ⟨#[47]⟩] w fun e w' => e = .returned (.tuple #[.string p, .string q, .bool true]) ∧ Below w.heap.size w w' := by
  have T := Lib.hid (fun w => liteCut_some s p q hp h hs w)
  clear h
  go_enter Tryz.func74, Tryz.ntmps74
  go_wp2_with fail
  refine (T.out _).mono ?_
  rintro e w2 ⟨rfl, b⟩
  go_wp2_with fail
  go_ret3
  exact ⟨rfl, b⟩

end Go.Proofs.YthamlnolfagpiaaGreatDoor.D

