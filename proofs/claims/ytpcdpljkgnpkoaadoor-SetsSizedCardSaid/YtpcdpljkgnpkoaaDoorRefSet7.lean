/-
  DERIVED. lorryref05's sized by induction; the walk of Sized.
-/
import Derived.Test.YtpcdpljkgnpkoaaDoorRefSet6
namespace Go.Proofs.YtpcdpljkgnpkoaaDoor.S
open Go.RowKit
set_option maxRecDepth 8000

theorem refsized (A : Option Addr) (c m : Nat) (l : List Nat) (hm : l.length = m) (hm63 : m ≤ 63) (h62 : ∀ i ∈ l, i ≤ 62) (hsum : sumP l < 9223372036854775808) :
    ∀ (n k : Nat), n ≤ m → bin n k ≤ 8192 → ∀ w, Ar w A l → Calls Tryd.prog 37 #[.slice A m c, .int .i64 n, .int .i64 k] w fun e w' => ∃ v, e = .returned v ∧ Owb w.heap.size w' v (szL l n k) ∧ Below w.heap.size w w'
  | n, 0, _, _, w, _ => sized_zero A c m n l w
  | 0, k + 1, _, _, w, _ => sized_none A c m 0 (k + 1) l (by omega) (by omega) w
  | n + 1, k + 1, hn, hb, w, hA => by
    by_cases hk : n + 1 < k + 1
    · exact sized_none A c m (n + 1) (k + 1) l (by omega) hk w
    · have h1 : bin n (k + 1) ≤ 8192 := Nat.le_trans (bin_le_n n (k + 1)) hb
      have h2 : bin n k ≤ 8192 := Nat.le_trans (bin_le_nk n k) hb
      exact sized_step A c m (n + 1) (k + 1) n k l rfl rfl (by omega) hm (by omega) hm63 h62 hsum hb w hA
        (fun w hA => refsized A c m l hm hm63 h62 hsum n (k + 1) (by omega) h1 w hA)
        (fun w hA => refsized A c m l hm hm63 h62 hsum n k (by omega) h2 w hA)

def szR (n : Nat) (z : Int) : List Nat := if z < 0 ∨ 8192 < bin (size n) z.toNat then [] else szL (members n) (size n) z.toNat
def szE (n : Nat) (z : Int) : Int := if z < 0 ∨ bin (size n) z.toNat ≤ 8192 then 0 else 4

theorem refSized_n (n : Nat) (z : Int) (hn : n < 2 ^ 63) (w : World) :
    Calls Tryd.prog 25 #[.int .i64 n, .int .i64 z] w fun e w' => ∃ v, e = .returned (.tuple #[v, .int .i64 (szE n z)]) ∧ Owb w.heap.size w' v (szR n z) ∧ Below w.heap.size w w' := by
  have HSZ := Lib.hid (refSize_n n hn)
  have hsl : size n ≤ 63 := cnt_le 63 n
  have HCH := Lib.hid (fun w => refChoose_n (size n) z hsl w)
  by_cases hbig : ¬ z < 0 ∧ 8192 < bin (size n) z.toNat
  · have HR : Hid (szR n z = []) := if_pos (.inr hbig.2)
    have HE : Hid (szE n z = 4) := if_neg (by omega)
    have hch : 8192 < cho (size n) z := by rw [cho, if_neg hbig.1]; omega
    generalize szR n z = R at *
    generalize szE n z = E at *
    generalize cho (size n) z = ch at *
    generalize size n = s at *
    clear hn hbig
    go_enter Tryd.func25, Tryd.ntmps25
    go_wp2_with fail
    refine (HSZ.out _).mono ?_
    rintro e w' ⟨rfl, rfl⟩
    go_wp2_with fail
    refine (HCH.out _).mono ?_
    rintro e w' ⟨rfl, rfl⟩
    go_wp2_with fail
    go_ret2
    exact ⟨.slice none 0 0, by rw [HE.out]; rfl, by rw [HR.out]; exact Owb.nil _ _, Below.refl _ _⟩
  have hE0 : szE n z = 0 := if_pos (by omega)
  by_cases hz : z < 0 ∨ bin (size n) z.toNat = 0
  · have HR : Hid (szR n z = []) := by
      show _ = _
      rw [szR]
      split
      · rfl
      · have h : ¬ z < 0 := by omega
        exact List.eq_nil_of_length_eq_zero (by rw [szL_len]; omega)
    have HE := Lib.hid hE0
    have hch : cho (size n) z = 0 := by rw [cho]; split <;> omega
    rw [hch] at HCH
    generalize szR n z = R at *
    generalize szE n z = E at *
    generalize size n = s at *
    clear hn hbig hz hch hE0
    go_enter Tryd.func25, Tryd.ntmps25
    go_wp2_with fail
    refine (HSZ.out _).mono ?_
    rintro e w' ⟨rfl, rfl⟩
    go_wp2_with fail
    refine (HCH.out _).mono ?_
    rintro e w' ⟨rfl, rfl⟩
    go_wp2_with fail
    go_ret2
    exact ⟨.slice none 0 0, by rw [HE.out]; rfl, by rw [HR.out]; exact Owb.nil _ _, Below.refl _ _⟩
  obtain ⟨k, rfl⟩ := Int.eq_ofNat_of_zero_le (show 0 ≤ z by omega)
  have hb : bin (size n) k ≤ 8192 := by rw [Int.toNat_natCast] at hbig; omega
  have hb0 : bin (size n) k ≠ 0 := by rw [Int.toNat_natCast] at hz; omega
  have hR : szR n (k : Int) = szL (members n) (size n) k := by rw [szR, Int.toNat_natCast, if_neg (by omega)]
  have hch : cho (size n) (k : Int) = bin (size n) k := by rw [cho_nat]; omega
  rw [hch] at HCH
  have hls := members_size hn
  have HM := Lib.hid (refMembers_n n hn)
  have HZD := Lib.hid (fun (A : Option Addr) (c : Nat) (w : World) (hA : Ar w A (members n)) => refsized A c (size n) (members n) hls hsl (fun i hi => mem_lt62 hi) (by rw [sumP_members hn]; simpa using hn) (size n) k (Nat.le_refl _) hb w hA)
  have HR := Lib.hid hR
  have HE := Lib.hid hE0
  have hbe : ((bin (size n) k : Int) == 0) = false := eq0I hb0
  generalize szR n (k : Int) = R at *
  generalize szE n (k : Int) = E at *
  generalize szL (members n) (size n) k = R2 at *
  generalize bin (size n) k = ch at *
  generalize members n = l at *
  generalize size n = s at *
  have HLS := Lib.hid hls
  clear hn hbig hz hch hE0 hls hR
  go_enter Tryd.func25, Tryd.ntmps25
  go_wp2_with fail
  refine (HSZ.out _).mono ?_
  rintro e w' ⟨rfl, rfl⟩
  go_wp2_with fail
  refine (HCH.out _).mono ?_
  rintro e w' ⟨rfl, rfl⟩
  go_wp2_with fail
  refine (HM.out _).mono ?_
  rintro e w1 ⟨v, rfl, hv, b1⟩
  obtain ⟨A, c, rfl, hc, hel⟩ := hv.weak.shape
  have HAR : Hid (Ar w1 A l) := hel
  rw [HLS.out] at hc
  rw [HLS.out]
  have HB1 := Lib.hid b1
  clear hel hv b1
  go_wp2_with fail
  refine (HSZ.out _).mono ?_
  rintro e w' ⟨rfl, rfl⟩
  go_wp2_with fail
  refine (HZD.out _ _ _ HAR.out).mono ?_
  rintro e w2 ⟨v, rfl, hv, b2⟩
  have HV := Lib.hid hv
  have HB2 := Lib.hid (over5 HB1.out b2)
  have hs1 := HB1.out.size
  have HV2 : Hid (Owb w.heap.size w2 v R) := by show Owb _ _ _ _; rw [HR.out]; exact World.ownsRow.mono HV.out hs1
  clear hv b2 hs1
  go_wp2_with fail
  go_ret2
  exact ⟨v, by rw [HE.out]; rfl, HV2.out, HB2.out⟩

end Go.Proofs.YtpcdpljkgnpkoaaDoor.S

