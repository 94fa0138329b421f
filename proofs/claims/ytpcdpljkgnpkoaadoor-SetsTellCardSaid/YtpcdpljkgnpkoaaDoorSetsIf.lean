/-
  DERIVED. The contracts of the landed sets: Subsets, Sized (the others: SetTop1, SetTop2).
-/
import Derived.Test.YtpcdpljkgnpkoaaDoorSetTop6
namespace Go.Proofs.YtpcdpljkgnpkoaaDoor.S
open Go.RowKit Go.Shelf
set_option maxRecDepth 8000

theorem setSize_n (n : Nat) (hn : n < 2 ^ 63) (w : World) :
    Calls Tryd.prog 10 #[.int .i64 n] w fun e w' => e = .returned (.int .i64 (size n)) ∧ w = w' := size_e n (size n) (by simpa using hn) rfl w
set_option maxHeartbeats 1000000 in
theorem setSubsets_n (n : Nat) (hn : n < 2 ^ 63) (w : World) :
    Calls Tryd.prog 22 #[.int .i64 n] w fun e w' => ∃ v, e = .returned (.tuple #[v, .int .i64 (subsE n)]) ∧ Owb w.heap.size w' v (subsR n) ∧ Below w.heap.size w w' := by
  have HSZ := Lib.hid (setSize_n n hn)
  have HLC := Lib.hid len_c
  have hsl : size n ≤ 63 := cnt_le 63 n
  by_cases h13 : 13 < size n
  · have HR : Hid (subsR n = []) := if_pos h13
    have HE : Hid (subsE n = 4) := if_pos h13
    generalize subsR n = R at *
    generalize subsE n = E at *
    generalize size n = z at *
    clear hn
    go_enter Tryd.func22, Tryd.ntmps22
    go_wp2_with fail
    refine (HSZ.out _).mono ?_
    rintro e w' ⟨rfl, rfl⟩
    go_wp2_with fail
    refine (HLC.out _).mono ?_
    rintro e w' ⟨rfl, rfl⟩
    go_wp2_with fail
    go_ret2
    exact ⟨.slice none 0 0, by rw [HE.out]; rfl, by rw [HR.out]; exact Owb.nil _ _, Below.refl _ _⟩
  have HR : Hid (subsR n = subsN n) := (if_neg h13).trans (subsets_pd n)
  have HE : Hid (subsE n = 0) := if_neg h13
  have hpw : 2 ^ size n ≤ 8192 := Nat.le_trans (Nat.pow_le_pow_right (by omega) (show size n ≤ 13 by omega)) (by decide)
  have HSB := Lib.hid (fun w => subsets_w n w)
  have HCO := Lib.hid (fun (w : World) (h : w.cell? ⟨w.heap.size - 1, 0, none⟩ = some (.int .i64 (n : Int))) (h0 : 0 < w.heap.size) => collect_in 44 #[.pointer (some ⟨w.heap.size - 1, 0, none⟩)] (enters_of Tryd.func44 (by kernel_rfl) rfl)
    (fun ys => ys = subsN n) (fun pre => pre <+: subsN n) (2 ^ size n) (2 ^ size n) (by omega) (by omega) w (sub_stops (w.heap.size - 1) w.heap.size n (by simpa using hn) w (by omega) (by omega) h))
  have hsh : wrap64 (2 ^ size n) = ((2 ^ size n : Nat) : Int) := by
    have := w64 (q := 2 ^ size n) (by omega)
    rwa [show ((2 ^ size n : Nat) : Int) = 2 ^ size n by simp] at this ⊢
  generalize subsR n = R at *
  generalize subsE n = E at *
  generalize subsN n = P at *
  obtain ⟨p, hp⟩ : ∃ p, 2 ^ size n = p := ⟨_, rfl⟩
  rw [hp] at HCO hpw
  rw [show ((2 ^ size n : Nat) : Int) = (p : Int) by rw [hp]] at hsh
  obtain ⟨z, hz⟩ : ∃ z, size n = z := ⟨_, rfl⟩
  rw [hz] at HSZ hsl h13 hsh
  have h13 : z ≤ 13 := by omega
  clear hn hp hz
  go_enter Tryd.func22, Tryd.ntmps22
  go_wp2_with fail
  refine (HSZ.out _).mono ?_
  rintro e w' ⟨rfl, rfl⟩
  go_wp2_with fail
  refine (HLC.out _).mono ?_
  rintro e w' ⟨rfl, rfl⟩
  go_wp2_with fail
  refine (HSB.out _).mono ?_
  rintro e w1 ⟨rfl, hw1⟩
  have hs1 : w1.heap.size = w.heap.size + 1 := by rw [hw1]; simp
  have hb1 : Below w.heap.size w w1 := by rw [hw1]; exact (Below.refl _ w).alloc (Nat.le_refl _) _
  have hc1 : w1.cell? ⟨w1.heap.size - 1, 0, none⟩ = some (.int .i64 (n : Int)) := by rw [hs1, hw1]; simp
  have HC1 := Lib.hid (HCO.out w1 hc1 (by omega))
  rw [show w1.heap.size - 1 = w.heap.size by omega] at HC1
  have HB1 := Lib.hid hb1
  have HS1 := Lib.hid hs1
  clear hw1 hc1 HCO hb1 hs1
  go_wp2_with fail
  refine (HSZ.out _).mono ?_
  rintro e w' ⟨rfl, rfl⟩
  go_wp2_with fail
  refine HC1.out.mono ?_
  rintro e w2 ⟨v, xs, rfl, rfl, hv, b2⟩
  have HV : Hid (Owb w.heap.size w2 v xs) := World.ownsRow.mono hv (by have := HS1.out; omega)
  have HB2 := Lib.hid (over5 HB1.out b2)
  clear hv b2
  go_wp2_with fail
  go_ret2
  exact ⟨v, by rw [HE.out]; rfl, by rw [HR.out]; exact HV.out, HB2.out⟩

theorem szR_pd (n k : Nat) (h : bin (size n) k ≤ 8192) : szR n (k : Int) = sizN n k := by
  rw [szR, if_neg (by rw [Int.toNat_natCast]; omega), Int.toNat_natCast]
  exact szL_pd n (size n) k (Nat.le_refl _)
set_option maxHeartbeats 1000000 in
theorem setSized_n (n : Nat) (z : Int) (hn : n < 2 ^ 63) (w : World) :
    Calls Tryd.prog 24 #[.int .i64 n, .int .i64 z] w fun e w' => ∃ v, e = .returned (.tuple #[v, .int .i64 (szE n z)]) ∧ Owb w.heap.size w' v (szR n z) ∧ Below w.heap.size w w' := by
  have HSZ := Lib.hid (setSize_n n hn)
  have hsl : size n ≤ 63 := cnt_le 63 n
  by_cases hz0 : z < 0
  · have HR : Hid (szR n z = []) := if_pos (.inl hz0)
    have HE : Hid (szE n z = 0) := if_pos (.inl hz0)
    generalize szR n z = R at *
    generalize szE n z = E at *
    clear hn HSZ hsl
    go_enter Tryd.func24, Tryd.ntmps24
    go_wp2_with fail
    go_ret2
    exact ⟨.slice none 0 0, by rw [HE.out]; rfl, by rw [HR.out]; exact Owb.nil _ _, Below.refl _ _⟩
  obtain ⟨k, rfl⟩ := Int.eq_ofNat_of_zero_le (show 0 ≤ z by omega)
  by_cases hbig : size n < k
  · have hb0 : bin (size n) k = 0 := bin_big hbig
    have HR : Hid (szR n (k : Int) = []) := by
      show _ = _
      rw [szR_pd n k (by omega)]
      exact List.eq_nil_of_length_eq_zero (by rw [sizN, List.length_map, gz_len, hb0])
    have HE : Hid (szE n (k : Int) = 0) := by show _ = _; rw [szE, if_pos (by rw [Int.toNat_natCast]; omega)]
    generalize szR n (k : Int) = R at *
    generalize szE n (k : Int) = E at *
    generalize size n = c at *
    have hkz : ¬ (k : Int) < 0 := by omega
    have hck : (c : Int) < (k : Int) := by omega
    clear hn hb0
    go_enter Tryd.func24, Tryd.ntmps24
    go_wp2_with fail
    refine (HSZ.out _).mono ?_
    rintro e w' ⟨rfl, rfl⟩
    go_wp2_with fail
    go_ret2
    exact ⟨.slice none 0 0, by rw [HE.out]; rfl, by rw [HR.out]; exact Owb.nil _ _, Below.refl _ _⟩
  have hkn : k ≤ size n := by omega
  have HCH := Lib.hid (fun w => choices_n (size n) k hsl hkn w)
  by_cases hb : 8192 < bin (size n) k
  · have HR : Hid (szR n (k : Int) = []) := by show _ = _; rw [szR, if_pos (by rw [Int.toNat_natCast]; exact .inr hb)]
    have HE : Hid (szE n (k : Int) = 4) := by show _ = _; rw [szE, if_neg (by rw [Int.toNat_natCast]; omega)]
    generalize szR n (k : Int) = R at *
    generalize szE n (k : Int) = E at *
    have HB := Lib.hid hb
    generalize size n = c at *
    have hkz : ¬ (k : Int) < 0 := by omega
    have hck : ¬ (c : Int) < (k : Int) := by omega
    clear hn hb
    go_enter Tryd.func24, Tryd.ntmps24
    go_wp2_with fail
    refine (HSZ.out _).mono ?_
    rintro e w' ⟨rfl, rfl⟩
    go_wp2_with fail
    refine (HSZ.out _).mono ?_
    rintro e w' ⟨rfl, rfl⟩
    go_wp2_with fail
    refine (HCH.out _).mono ?_
    rintro e w' ⟨⟨v, rfl, d, rfl, hd9, _, hd2⟩, rfl⟩
    have hd : 8192 < d := hd2 HB.out
    clear hd2
    go_wp2_with fail
    go_ret2
    exact ⟨.slice none 0 0, by rw [HE.out]; rfl, by rw [HR.out]; exact Owb.nil _ _, Below.refl _ _⟩
  have HR : Hid (szR n (k : Int) = sizN n k) := szR_pd n k (by omega)
  have HE : Hid (szE n (k : Int) = 0) := by show _ = _; rw [szE, if_pos (by rw [Int.toNat_natCast]; omega)]
  have HSB := Lib.hid (fun w => sized_w n k w)
  have HCO := Lib.hid (fun (w : World) (b : Nat) (h : w.cell? ⟨b, 0, none⟩ = some (.int .i64 (n : Int))) (h2 : w.cell? ⟨b + 1, 0, none⟩ = some (.int .i64 (k : Int))) (h0 : b + 1 < w.heap.size) => collect_in 45 #[.pointer (some ⟨b, 0, none⟩), .pointer (some ⟨b + 1, 0, none⟩)] (enters_of Tryd.func45 (by kernel_rfl) rfl)
    (fun ys => ys = sizN n k) (fun pre => pre <+: sizN n k) (bin (size n) k) (bin (size n) k) (by omega) (by omega) w (siz_stops b (b + 1) w.heap.size n k (by simpa using hn) hkn w (by omega) (by omega) (by omega) h h2))
  generalize szR n (k : Int) = R at *
  generalize szE n (k : Int) = E at *
  generalize sizN n k = P at *
  have hp : bin (size n) k ≤ 8192 := by omega
  have HCH2 : Hid (∀ w, Calls Tryd.prog 34 #[.int .i64 (size n : Nat), .int .i64 k] w fun e w' => e = .returned (.int .i64 (bin (size n) k : Nat)) ∧ w = w') := fun w => (HCH.out w).mono fun e w' h => by
    obtain ⟨⟨v, rfl, d, rfl, _, hd1, _⟩, h2⟩ := h
    exact ⟨by rw [hd1 hp], h2⟩
  clear HCH
  generalize bin (size n) k = p at *
  generalize size n = c at *
  have hkz : ¬ (k : Int) < 0 := by omega
  have hck : ¬ (c : Int) < (k : Int) := by omega
  clear hn
  go_enter Tryd.func24, Tryd.ntmps24
  go_wp2_with fail
  refine (HSZ.out _).mono ?_
  rintro e w' ⟨rfl, rfl⟩
  go_wp2_with fail
  refine (HSZ.out _).mono ?_
  rintro e w' ⟨rfl, rfl⟩
  go_wp2_with fail
  refine (HCH2.out _).mono ?_
  rintro e w' ⟨rfl, rfl⟩
  go_wp2_with fail
  refine (HSB.out _).mono ?_
  rintro e w1 ⟨rfl, hw1⟩
  have hs1 : w1.heap.size = w.heap.size + 2 := by rw [hw1]; simp
  have hb1 : Below w.heap.size w w1 := by rw [hw1]; exact ((Below.refl _ w).alloc (Nat.le_refl _) _).alloc (by simp) _
  have hc1 : w1.cell? ⟨w.heap.size, 0, none⟩ = some (.int .i64 (n : Int)) := by rw [hw1]; simp
  have hc2 : w1.cell? ⟨w.heap.size + 1, 0, none⟩ = some (.int .i64 (k : Int)) := by rw [hw1]; simp
  have HC1 := Lib.hid (HCO.out w1 w.heap.size hc1 hc2 (by omega))
  have HB1 := Lib.hid hb1
  have HS1 := Lib.hid hs1
  clear hw1 hc1 hc2 HCO hb1 hs1
  go_wp2_with fail
  refine HC1.out.mono ?_
  rintro e w2 ⟨v, xs, rfl, rfl, hv, b2⟩
  have HV : Hid (Owb w.heap.size w2 v xs) := World.ownsRow.mono hv (by have := HS1.out; omega)
  have HB2 := Lib.hid (over5 HB1.out b2)
  clear hv b2
  go_wp2_with fail
  go_ret2
  exact ⟨v, by rw [HE.out]; rfl, by rw [HR.out]; exact HV.out, HB2.out⟩

end Go.Proofs.YtpcdpljkgnpkoaaDoor.S

