/-
  DERIVED. The walk of RatioTimes.
-/
import Derived.Test.YthamlnolfagpiaaGreatDoorRatioLaw
import Derived.Test.YthamlnolfagpiaaGreatDoorRatTimes2
namespace Go.Proofs.YthamlnolfagpiaaGreatDoor.D
open Go.RowKit
set_option maxRecDepth 8000

theorem SlV.congr {w : World} {v : Value} {n : Nat} {V U : Nat → Value} (h : SlV w v n V) (he : ∀ i, i < n → V i = U i) : SlV w v n U := by
  obtain ⟨oa, c, hv, h⟩ := h
  refine ⟨oa, c, hv, fun i hi => ?_⟩
  obtain ⟨a, h1, h2, h3⟩ := h i hi
  exact ⟨a, h1, h2, by rw [h3, he i hi]⟩
theorem all_or (S : Nat → ByteArray) (p : ByteArray → Bool) : ∀ n, (∃ i, i < n ∧ p (S i) = false) ∨ ∀ i, i < n → p (S i) = true
  | 0 => .inr fun i hi => by omega
  | n + 1 => by
    rcases all_or S p n with ⟨i, hi, h⟩ | h
    · exact .inl ⟨i, by omega, h⟩
    · cases hn : p (S n)
      · exact .inl ⟨n, by omega, hn⟩
      · exact .inr fun i hi => by
          by_cases e : i = n
          · rw [e]; exact hn
          · exact h i (by omega)
theorem two_times (m n : Nat) (z : Nat → Int) (S : Nat → ByteArray) (hm : m ≤ 12) (hn : n ≤ 12) (hz : ∀ i, i < m → -9223372036854775808 ≤ z i ∧ z i ≤ 9223372036854775807) (hS : ∀ i, i < n → (S i).size ≤ 100) :
    ∃ s e, (∀ (u v : Value) (w : World), Tab w → SlV w u m (Vi z) → SlV w v n (Vs S) → Calls Tryz.prog 36 #[u, v] w fun en w' => en = .returned (.tuple #[.string s, .int .i64 e]) ∧ Below w.heap.size w w') ∧
      (∀ (u v : Value) (w : World), SlV w u m (Vi z) → SlV w v n (Vs S) → Calls Tryz.prog 37 #[u, v] w fun en w' => en = .returned (.tuple #[.string s, .int .i64 e]) ∧ Below w.heap.size w w') := by
  by_cases hmn : m = n
  · subst hmn
    rcases all_or S (fun a => rightR a.data.toList) m with ⟨i, hi, h⟩ | h
    · exact ⟨_, _, fun u v w ht hu hv => rTimes_bad u v m i hi hm z S hS h w ht hu hv, fun u v w hu hv => times4_bad u v m i hi (by omega) S _ (fun i hi => Nat.le_trans (hS i hi) (by omega)) h w hu hv⟩
    · have hex : ∀ i, ∃ r : Rat, i < m → S i = rtx r ∧ Sz 100 r := by
        intro i
        by_cases hi : i < m
        · obtain ⟨r, _, hr⟩ := rightR_str (S i) (h i hi)
          exact ⟨r, fun _ => ⟨hr, sz_of (by rw [← hr]; exact hS i hi)⟩⟩
        · exact ⟨0, fun hc => absurd hc hi⟩
      obtain ⟨ρ, hρ⟩ : ∃ ρ : Nat → Rat, ∀ i, i < m → S i = rtx (ρ i) ∧ Sz 100 (ρ i) := ⟨fun i => Classical.choose (hex i), fun i => Classical.choose_spec (hex i)⟩
      have hc : ∀ i, i < m → Vs S i = Vs (fun i => rtx (ρ i)) i := fun i hi => by show Value.string _ = Value.string _; rw [(hρ i hi).1]
      exact ⟨_, _, fun u v w ht hu hv => rTimes_ok u v m hm z ρ hz (fun i hi => (hρ i hi).2) w ht hu (hv.congr hc), fun u v w hu hv => times4_ok u v m hm z ρ hz (fun i hi => (hρ i hi).2) w hu (hv.congr hc)⟩
  · exact ⟨_, _, fun u v w ht hu hv => rTimes_len u v m n z S hmn hm hn w ht hu hv, fun u v w hu hv => times4_len u v m n _ _ hmn (by omega) (by omega) w hu hv⟩

set_option maxHeartbeats 2000000 in
theorem ratioTimes_walk (u v : Value) (m n : Nat) (z : Nat → Int) (S : Nat → ByteArray) (hz : ∀ i, i < m → -9223372036854775808 ≤ z i ∧ z i ≤ 9223372036854775807) (hm9 : m ≤ maxLen) (hn9 : n ≤ maxLen) (w : World) (hT : Tab w) (hu : SlV w u m (Vi z)) (hv : SlV w v n (Vs S)) :
    Calls Tryz.prog 8 #[u, v] w fun e w' => e = .returned (.bool true) ∧ Below w.heap.size w w' := by
  have HU := Lib.hid hu
  have HV := Lib.hid hv
  have HZ := Lib.hid hz
  obtain ⟨oa, c, rfl, _⟩ := hu
  obtain ⟨ob, d, rfl, hb⟩ := hv
  have HB := Lib.hid hb
  clear hb hz
  unfold maxLen at hm9 hn9
  by_cases hm : 12 < m
  · go_enter Tryz.func8, Tryz.ntmps8
    have B0 : Below w.heap.size w w := Below.refl _ _
    have T0 := hT
    go_wp2_with fail
    refine (awake_any _ T0).mono ?_
    rintro e w1 ⟨rfl, b1⟩
    have B1 := over4 B0 b1
    have T1 := T0.below (Nat.le_refl _) b1
    clear B0 b1 T0
    go_wp2_with fail
    go_ret
    exact ⟨rfl, B1⟩
  by_cases hn : 12 < n
  · go_enter Tryz.func8, Tryz.ntmps8
    have B0 : Below w.heap.size w w := Below.refl _ _
    have T0 := hT
    go_wp2_with fail
    refine (awake_any _ T0).mono ?_
    rintro e w1 ⟨rfl, b1⟩
    have B1 := over4 B0 b1
    have T1 := T0.below (Nat.le_refl _) b1
    clear B0 b1 T0
    go_wp2_with fail
    go_ret
    exact ⟨rfl, B1⟩
  go_enter Tryz.func8, Tryz.ntmps8
  go_wp2_with fail
  go_loopw [5] (fun i wr => ∃ k : Nat, k ≤ n ∧ i = .int .i64 k ∧ Hid (∀ j, j < k → (S j).size ≤ 100) ∧ wr = w) (fun i _ => n - (intOf i).toNat)
  case atStart => exact ⟨0, Nat.zero_le _, rfl, fun j hj => by omega, rfl⟩
  case round =>
    obtain ⟨k, hk, rfl, HS, rfl⟩ := hrel
    have B0 : Below wr.heap.size wr wr := Below.refl _ _
    have T0 := hT
    by_cases hlt : k < n
    · obtain ⟨b, rfl, hbb, hcb⟩ := HB.out k hlt
      unfold Vs at hcb
      by_cases h100 : 100 < (S k).size
      · go_wp2_with fail
        refine (awake_any _ T0).mono ?_
        rintro e w1 ⟨rfl, b1⟩
        have B1 := over4 B0 b1
        have T1 := T0.below (Nat.le_refl _) b1
        clear B0 b1 T0
        go_wp2_with fail
        go_ret
        exact ⟨rfl, B1⟩
      · have HS2 : Hid (∀ j, j < k + 1 → (S j).size ≤ 100) := fun j hj => by
          by_cases e : j = k
          · rw [e]; omega
          · exact HS.out j (by omega)
        go_wp2_with fail
        go_round
        case rel => exact ⟨k + 1, by omega, by go_num, HS2, trivial⟩
        case measure => simp [intOf]; omega
    · have hk' : k = n := by omega
      subst hk'
      obtain ⟨s, e1, h1, h2⟩ := two_times m k z S (by omega) (by omega) HZ.out HS.out
      have H1 := Lib.hid h1
      have H2 := Lib.hid h2
      clear h1 h2
      go_wp2_with fail
      refine (H1.out _ _ _ T0 HU.out HV.out).mono ?_
      rintro e w1 ⟨rfl, b1⟩
      have B1 := over4 B0 b1
      have T1 := T0.below (Nat.le_refl _) b1
      clear B0 b1 T0
      go_wp2_with fail
      refine (H2.out _ _ _ (SlV.below HU.out B1) (SlV.below HV.out B1)).mono ?_
      rintro e w2 ⟨rfl, b2⟩
      have B2 := over4 B1 b2
      have T2 := T1.below (Nat.le_refl _) b2
      clear B1 b2 T1
      go_wp2_with fail
      refine (awake_any _ T2).mono ?_
      rintro e w3 ⟨rfl, b3⟩
      have B3 := over4 B2 b3
      have T3 := T2.below (Nat.le_refl _) b3
      clear B2 b3 T2
      go_wp2_with fail
      go_ret
      exact ⟨rfl, B3⟩

end Go.Proofs.YthamlnolfagpiaaGreatDoor.D

