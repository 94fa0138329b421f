/-
  DERIVED. KPW: a part of the base of layer 13 (made by pack.py).
-/
import Derived.WalkKit
import Derived.Test.YtaallpebfcadjaaGreatDoorKPR
import Derived.BigRegion
import Derived.Laws.BitsLemmas
import Derived.Laws.Bits64b
import Derived.Laws.Bits128
import Derived.Lib.LaidTab
import Derived.Test.YtaallpebfcadjaaGreatDoorKPC
/-! Plain Lean: subsets of sets (out of layer 5's texts: tools/mkrusets.py). -/
namespace Go.Proofs.YtaallpebfcadjaaGreatDoor.S
open Go.RowKit
set_option maxRecDepth 8000

theorem and_bit (x y a b : Nat) (ha : a < 2) (hb : b < 2) : (2 * x + a) &&& (2 * y + b) = 2 * (x &&& y) + (a &&& b) := by
  have h1 : ((2 * x + a) &&& (2 * y + b)) / 2 = x &&& y := by rw [Nat.and_div_two, show (2 * x + a) / 2 = x by omega, show (2 * y + b) / 2 = y by omega]
  have h2 : ((2 * x + a) &&& (2 * y + b)) % 2 = a &&& b := by
    have := Nat.and_mod_two_pow (a := 2 * x + a) (b := 2 * y + b) (n := 1)
    rw [Nat.pow_one, show (2 * x + a) % 2 = a by omega, show (2 * y + b) % 2 = b by omega] at this
    exact this
  omega
theorem or_bit (x y a b : Nat) (ha : a < 2) (hb : b < 2) : (2 * x + a) ||| (2 * y + b) = 2 * (x ||| y) + (a ||| b) := by
  have h1 : ((2 * x + a) ||| (2 * y + b)) / 2 = x ||| y := by rw [Nat.or_div_two, show (2 * x + a) / 2 = x by omega, show (2 * y + b) / 2 = y by omega]
  have h2 : ((2 * x + a) ||| (2 * y + b)) % 2 = a ||| b := by
    have := Nat.or_mod_two_pow (a := 2 * x + a) (b := 2 * y + b) (n := 1)
    rw [Nat.pow_one, show (2 * x + a) % 2 = a by omega, show (2 * y + b) % 2 = b by omega] at this
    exact this
  omega
theorem and_ee (x y : Nat) : (2 * x) &&& (2 * y) = 2 * (x &&& y) := and_bit x y 0 0 (by omega) (by omega)
theorem and_eo (x y : Nat) : (2 * x) &&& (2 * y + 1) = 2 * (x &&& y) := and_bit x y 0 1 (by omega) (by omega)
theorem and_oe (x y : Nat) : (2 * x + 1) &&& (2 * y) = 2 * (x &&& y) := and_bit x y 1 0 (by omega) (by omega)
theorem and_oo (x y : Nat) : (2 * x + 1) &&& (2 * y + 1) = 2 * (x &&& y) + 1 := and_bit x y 1 1 (by omega) (by omega)
theorem or_ee (x y : Nat) : (2 * x) ||| (2 * y) = 2 * (x ||| y) := or_bit x y 0 0 (by omega) (by omega)
theorem or_eo (x y : Nat) : (2 * x) ||| (2 * y + 1) = 2 * (x ||| y) + 1 := or_bit x y 0 1 (by omega) (by omega)
theorem or_oe (x y : Nat) : (2 * x + 1) ||| (2 * y) = 2 * (x ||| y) + 1 := or_bit x y 1 0 (by omega) (by omega)
theorem halves (n : Nat) : ∃ t, n = 2 * t ∨ n = 2 * t + 1 := ⟨n / 2, by omega⟩

theorem pow_p (c : Nat) : 0 < 2 ^ c := Nat.pow_pos (by omega)
/-- the lowest bit -/
def lb : Nat → Nat → Nat
  | 0, _ => 0
  | k + 1, m => if m % 2 = 1 then 1 else 2 * lb k (m / 2)
theorem lb_e (k m : Nat) : lb (k + 1) (2 * m) = 2 * lb k m := by rw [lb, if_neg (by omega), show 2 * m / 2 = m by omega]
theorem lb_o (k m : Nat) : lb (k + 1) (2 * m + 1) = 1 := by rw [lb, if_pos (by omega)]
theorem lb_and : ∀ k K m, k ≤ K → 0 < m → m < 2 ^ k → m &&& (2 ^ K - m) = lb k m
  | 0, K, m, _, h0, h => by simp at h; omega
  | k + 1, 0, m, hk, _, _ => by omega
  | k + 1, K + 1, m, hk, h0, h => by
    have hKK : 2 ^ k ≤ 2 ^ K := Nat.pow_le_pow_right (by omega) (by omega)
    rw [Nat.pow_succ] at h ⊢
    obtain ⟨t, rfl | rfl⟩ := halves m
    · rw [lb_e, show 2 ^ K * 2 - 2 * t = 2 * (2 ^ K - t) by omega, and_ee, lb_and k K t (by omega) (by omega) (by omega)]
    · rw [lb_o, show 2 ^ K * 2 - (2 * t + 1) = 2 * (2 ^ K - 1 - t) + 1 by omega, and_oo]
      have := Nat.and_comm t (2 ^ K - 1 - t)
      have h2 : t &&& (2 ^ K - 1 - t) = 0 := by
        apply Nat.eq_of_testBit_eq
        intro i
        rw [Nat.testBit_and, show 2 ^ K - 1 - t = 2 ^ K - (t + 1) by omega, Nat.testBit_two_pow_sub_succ (by omega), Nat.zero_testBit]
        cases t.testBit i <;> simp
      rw [h2]
theorem has_e0 (t : Nat) : has (2 * t) 0 = false := by rw [has_div, Nat.pow_zero, Nat.div_one, show 2 * t % 2 = 0 by omega]; rfl
theorem has_o0 (t : Nat) : has (2 * t + 1) 0 = true := by rw [has_div, Nat.pow_zero, Nat.div_one, show (2 * t + 1) % 2 = 1 by omega]; rfl
theorem has_es (t i : Nat) : has (2 * t) (i + 1) = has t i := by rw [has_div, has_div, Nat.pow_succ, Nat.mul_comm (2 ^ i) 2, ← Nat.div_div_eq_div_mul, show 2 * t / 2 = t by omega]
theorem has_os (t i : Nat) : has (2 * t + 1) (i + 1) = has t i := by rw [has_div, has_div, Nat.pow_succ, Nat.mul_comm (2 ^ i) 2, ← Nat.div_div_eq_div_mul, show (2 * t + 1) / 2 = t by omega]
theorem mem_e (t k : Nat) : mem (2 * t) (k + 1) = (mem t k).map (· + 1) := by
  rw [mem, List.range_succ_eq_map, List.filter_cons_of_neg (by rw [has_e0]; simp), List.filter_map, mem]
  congr 1
  apply List.filter_congr
  intro i _
  exact has_es t i
theorem mem_o (t k : Nat) : mem (2 * t + 1) (k + 1) = 0 :: (mem t k).map (· + 1) := by
  rw [mem, List.range_succ_eq_map, List.filter_cons_of_pos (has_o0 t), List.filter_map, mem]
  congr 2
  apply List.filter_congr
  intro i _
  exact has_os t i
theorem mem_head : ∀ k n i r, mem n k = i :: r → ∃ q, n = 2 ^ i * (2 * q + 1)
  | 0, n, i, r, h => by simp [mem] at h
  | k + 1, n, i, r, h => by
    obtain ⟨t, rfl | rfl⟩ := halves n
    · rw [mem_e] at h
      cases hm : mem t k with
      | nil => rw [hm] at h; simp at h
      | cons j s =>
        rw [hm] at h
        simp at h
        obtain ⟨q, hq⟩ := mem_head k t j s hm
        refine ⟨q, ?_⟩
        rw [← h.1, Nat.pow_succ, hq]; grind
    · rw [mem_o] at h
      simp at h
      exact ⟨t, by rw [← h.1]; simp⟩
theorem mem_nil : ∀ k n, n < 2 ^ k → mem n k = [] → n = 0
  | 0, n, h, _ => by simpa using h
  | k + 1, n, h, hm => by
    rw [Nat.pow_succ] at h
    obtain ⟨t, rfl | rfl⟩ := halves n
    · rw [mem_e] at hm
      have := mem_nil k t (by omega) (by simpa using hm); omega
    · rw [mem_o] at hm; simp at hm
theorem mem_zero (k : Nat) : mem 0 k = [] := by
  induction k with
  | zero => rfl
  | succ k ih => have := mem_e 0 k; rw [ih] at this; exact this
/-- taking the least number away -/
theorem mem_tail : ∀ k n i r, n < 2 ^ k → mem n k = i :: r → 2 ^ i ≤ n ∧ n &&& (n - 1) = n - 2 ^ i ∧ mem (n - 2 ^ i) k = r
  | 0, n, i, r, _, h => by simp [mem] at h
  | k + 1, n, i, r, hn, h => by
    rw [Nat.pow_succ] at hn
    obtain ⟨t, rfl | rfl⟩ := halves n
    · rw [mem_e] at h
      cases hm : mem t k with
      | nil => rw [hm] at h; simp at h
      | cons j s =>
        rw [hm] at h
        simp at h
        obtain ⟨h1, h2, h3⟩ := mem_tail k t j s (by omega) hm
        have hp := pow_p j
        rw [← h.1, Nat.pow_succ]
        refine ⟨by omega, ?_, ?_⟩
        · rw [show 2 * t - 1 = 2 * (t - 1) + 1 by omega, and_eo, h2]; omega
        · rw [show 2 * t - 2 ^ j * 2 = 2 * (t - 2 ^ j) by omega, mem_e, h3, ← h.2]
    · rw [mem_o] at h
      simp at h
      rw [← h.1, Nat.pow_zero, show 2 * t + 1 - 1 = 2 * t by omega, and_oe, Nat.and_self, mem_e]
      exact ⟨by omega, rfl, h.2⟩
/-- the lowest bit of a number -/
theorem low_and : ∀ i q K, 2 ^ i * (2 * q + 1) < 2 ^ K → (2 ^ i * (2 * q + 1)) &&& (2 ^ K - 2 ^ i * (2 * q + 1)) = 2 ^ i
  | _, _, 0, h => by
    rename_i i q
    have := pow_p i
    have := Nat.mul_le_mul_left (2 ^ i) (show 1 ≤ 2 * q + 1 by omega)
    rw [Nat.pow_zero] at h; omega
  | 0, q, K + 1, h => by
    rw [Nat.pow_zero, Nat.one_mul] at h ⊢
    have := lb_and (K + 1) (K + 1) (2 * q + 1) (Nat.le_refl _) (by omega) h
    rw [lb_o] at this
    exact this
  | i + 1, q, K + 1, h => by
    have e : 2 ^ (i + 1) * (2 * q + 1) = 2 * (2 ^ i * (2 * q + 1)) := by rw [Nat.pow_succ]; grind
    rw [e] at h ⊢
    rw [Nat.pow_succ] at h
    rw [Nat.pow_succ 2 K, show 2 ^ K * 2 - 2 * (2 ^ i * (2 * q + 1)) = 2 * (2 ^ K - 2 ^ i * (2 * q + 1)) by omega, and_ee, low_and i q K (by omega), Nat.pow_succ, Nat.mul_comm]
end Go.Proofs.YtaallpebfcadjaaGreatDoor.S


/-! Rows of ints; bits of machine integers (out of layer 5's texts: tools/mkrusets.py). -/
namespace Go.Proofs.YtaallpebfcadjaaGreatDoor.S
open Go.RowKit
set_option maxRecDepth 8000

theorem eq0I {a : Nat} (h : a ≠ 0) : (((a : Int) == 0) = false) := by
  rw [beq_eq_false_iff_ne]; omega

theorem Owb.frame {B : Nat} {w w' : World} {v : Value} {l : List Nat} (h : Owb B w v l) (hb : Below w.heap.size w w') : Owb B w' v l := by
  refine ⟨h.1, ?_⟩
  rcases h.2 with hn | ⟨g, cap, cur, e, hbg, hgg, rest⟩
  · exact .inl hn
  · refine .inr ⟨g, cap, cur, e, hbg, ?_, rest⟩
    rw [hb.block g (Array.getElem?_eq_some_iff.1 hgg).1]; exact hgg

theorem Owb.lit (w : World) (B : Nat) (hB : B ≤ w.heap.size) : Owb B (w.alloc (.cells #[.int .i64 0] 3)) (.slice (some ⟨w.heap.size, 0, none⟩) 1 1) [0] :=
  World.ownsRow_lit (base := B) (size := 1) (e := 3) w #[.int .i64 0] 1 hB (by decide) rfl
theorem i64_and (a b : Nat) (ha : a < 9223372036854775808) (hb : b < 9223372036854775808) : bits .and .i64 (a : Int) (b : Int) = ((a &&& b : Nat) : Int) := by
  have hx : a &&& b < 2 ^ 63 := Nat.and_lt_two_pow _ (by omega)
  have h1 : (BitVec.ofInt 64 (a : Int)).toNat = a := by
    rw [BitVec.ofInt_natCast, BitVec.toNat_ofNat]; exact Nat.mod_eq_of_lt (by omega)
  have h2 : (BitVec.ofInt 64 (b : Int)).toNat = b := by
    rw [BitVec.ofInt_natCast, BitVec.toNat_ofNat]; exact Nat.mod_eq_of_lt (by omega)
  show IntKind.i64.wrap ((BitVec.ofInt 64 (a : Int) &&& BitVec.ofInt 64 (b : Int)).toNat : Int) = _
  rw [BitVec.toNat_and, h1, h2, IntKind.wrap_i64]
  omega
theorem u_and (x y : Int) : bits .and .u64 x y = (((x % 18446744073709551616).toNat &&& (y % 18446744073709551616).toNat : Nat) : Int) := by
  show IntKind.u64.wrap ((BitVec.ofInt 64 x &&& BitVec.ofInt 64 y).toNat : Int) = _
  rw [BitVec.toNat_and, BitVec.toNat_ofInt, BitVec.toNat_ofInt, IntKind.wrap_u64]
  have h : (x % 18446744073709551616).toNat &&& (y % 18446744073709551616).toNat < 2 ^ 64 := Nat.and_lt_two_pow _ (by omega)
  show (((x % 18446744073709551616).toNat &&& (y % 18446744073709551616).toNat : Nat) : Int) % 18446744073709551616 = _
  omega
theorem u_and_n (a b : Nat) (ha : a < 18446744073709551616) (hb : b < 18446744073709551616) : bits .and .u64 (a : Int) (b : Int) = ((a &&& b : Nat) : Int) := by
  rw [u_and, show ((a : Int) % 18446744073709551616).toNat = a by omega, show ((b : Int) % 18446744073709551616).toNat = b by omega]
theorem i_has (n k : Nat) (hn : n < 9223372036854775808) : (bits .and .i64 ((n / 2 ^ k : Nat) : Int) 1 == 1) = has n k := by
  have hq : n / 2 ^ k ≤ n := Nat.div_le_self _ _
  have h1 := i64_and (n / 2 ^ k) 1 (by omega) (by omega)
  rw [show ((1 : Nat) : Int) = 1 from rfl, Nat.and_one_is_mod] at h1
  rw [h1, has_div, Bool.eq_iff_iff, beq_iff_eq, beq_iff_eq]; omega
theorem split_and (a q b r : Nat) (ha : a < 256) (hb : b < 256) : (a + 256 * q) &&& (b + 256 * r) = (a &&& b) + 256 * (q &&& r) := by
  have h1 := Nat.and_div_two_pow (a := a + 256 * q) (b := b + 256 * r) (n := 8)
  have h2 := Nat.and_mod_two_pow (a := a + 256 * q) (b := b + 256 * r) (n := 8)
  rw [show (2 : Nat) ^ 8 = 256 by decide] at h1 h2
  rw [show (a + 256 * q) / 256 = q by omega, show (b + 256 * r) / 256 = r by omega] at h1
  rw [show (a + 256 * q) % 256 = a by omega, show (b + 256 * r) % 256 = b by omega] at h2
  omega
def m1 : Nat → Nat
  | 0 => 0
  | j + 1 => 85 + 256 * m1 j
def m2 : Nat → Nat
  | 0 => 0
  | j + 1 => 51 + 256 * m2 j
def m3 : Nat → Nat
  | 0 => 0
  | j + 1 => 15 + 256 * m3 j
/-- the bits of each byte -/
def bs : Nat → Nat → Nat
  | 0, _ => 0
  | j + 1, n => cnt 8 (n % 256) + 256 * bs j (n / 256)
def s1 (j n : Nat) : Nat := (n / 2 &&& m1 j) + (n &&& m1 j)
def s2 (j y : Nat) : Nat := (y / 4 &&& m2 j) + (y &&& m2 j)
def s3 (j y : Nat) : Nat := (y / 16 + y) &&& m3 j
theorem byte1 : ∀ a, a < 256 → ∀ c, c < 2 → ((a / 2 + 128 * c) &&& 85) + (a &&& 85) = s1 1 a ∧ s1 1 a < 256 := by decide
theorem byte2 : ∀ a, a < 256 → ∀ c, c < 4 → ((a / 4 + 64 * c) &&& 51) + (a &&& 51) = s2 1 a := by decide
theorem byte3 : ∀ a, a < 256 → s2 1 (s1 1 a) < 256 ∧ s2 1 (s1 1 a) % 16 ≤ 4 ∧ s2 1 (s1 1 a) / 16 ≤ 4 ∧ (s2 1 (s1 1 a) / 16 + s2 1 (s1 1 a)) % 16 = cnt 8 a := by decide
theorem s1_step (j n : Nat) : s1 (j + 1) n = s1 1 (n % 256) + 256 * s1 j (n / 256) := by
  have hn : n = n % 256 + 256 * (n / 256) := by omega
  obtain ⟨a, ha⟩ : ∃ a, n % 256 = a := ⟨_, rfl⟩
  obtain ⟨q, hq⟩ : ∃ q, n / 256 = q := ⟨_, rfl⟩
  have ha2 : a < 256 := by omega
  rw [ha, hq] at hn ⊢
  subst hn
  rw [s1, m1, split_and a q 85 _ ha2 (by omega), show (a + 256 * q) / 2 = (a / 2 + 128 * (q % 2)) + 256 * (q / 2) by omega, split_and _ _ 85 _ (by omega) (by omega)]
  have := (byte1 a ha2 (q % 2) (by omega)).1
  show _ = s1 1 a + 256 * ((q / 2 &&& m1 j) + (q &&& m1 j))
  omega
theorem s2_step (j y q : Nat) (a : Nat) (ha : a < 256) (hy : y = a + 256 * q) : s2 (j + 1) y = s2 1 a + 256 * s2 j q := by
  subst hy
  rw [s2, m2, split_and a q 51 _ ha (by omega), show (a + 256 * q) / 4 = (a / 4 + 64 * (q % 4)) + 256 * (q / 4) by omega, split_and _ _ 51 _ (by omega) (by omega)]
  have := byte2 a ha (q % 4) (by omega)
  show _ = s2 1 a + 256 * ((q / 4 &&& m2 j) + (q &&& m2 j))
  omega
theorem s1_lt : ∀ j n, s1 j n < 256 ^ j
  | 0, n => by simp [s1, m1]
  | j + 1, n => by
    have h1 := (byte1 (n % 256) (by omega) 0 (by omega)).2
    have h2 := s1_lt j (n / 256)
    rw [s1_step, Nat.pow_succ]; omega
theorem s2_low (j n : Nat) : s2 j (s1 j n) % 16 ≤ 4 := by
  cases j with
  | zero => simp [s1, s2, m1, m2]
  | succ j =>
    have h1 := byte1 (n % 256) (by omega) 0 (by omega)
    have h3 := byte3 (n % 256) (by omega)
    rw [s1_step, s2_step j _ _ _ h1.2 rfl]; omega
theorem s3_all : ∀ j n, s3 j (s2 j (s1 j n)) = bs j n
  | 0, n => by simp [s3, m3, bs]
  | j + 1, n => by
    have h1 := byte1 (n % 256) (by omega) 0 (by omega)
    have h3 := byte3 (n % 256) (by omega)
    have hlow := s2_low j (n / 256)
    have ih := s3_all j (n / 256)
    rw [s1_step, s2_step j _ _ _ h1.2 rfl]
    obtain ⟨a, ha⟩ : ∃ a, s2 1 (s1 1 (n % 256)) = a := ⟨_, rfl⟩
    obtain ⟨q, hq⟩ : ∃ q, s2 j (s1 j (n / 256)) = q := ⟨_, rfl⟩
    rw [ha] at h3 ⊢
    rw [hq] at hlow ih ⊢
    rw [s3, m3, show (a + 256 * q) / 16 + (a + 256 * q) = (a / 16 + a + 16 * (q % 16)) + 256 * (q / 16 + q) by omega, split_and _ _ 15 _ (by omega) (by omega), bs, ← ih, s3, ← h3.2.2.2]
    congr 1
    have := Nat.and_two_pow_sub_one_eq_mod (a / 16 + a + 16 * (q % 16)) 4
    rw [show (2 : Nat) ^ 4 - 1 = 15 by decide, show (2 : Nat) ^ 4 = 16 by decide] at this
    rw [this]; omega
theorem cnt_split : ∀ i k n, cnt (i + k) n = cnt i (n % 2 ^ i) + cnt k (n / 2 ^ i)
  | 0, k, n => by rw [Nat.pow_zero, Nat.div_one, Nat.zero_add]; show _ = 0 + _; omega
  | i + 1, k, n => by
    rw [show i + 1 + k = (i + k) + 1 by omega, cnt_succ, cnt_split i k, cnt_succ i]
    have h1 : n % 2 ^ (i + 1) % 2 = n % 2 := Nat.mod_mod_of_dvd n (Nat.dvd_of_pow_dvd (show 1 ≤ i + 1 by omega) (Nat.dvd_refl _))
    have h2 : n % 2 ^ (i + 1) / 2 = n / 2 % 2 ^ i := by rw [Nat.pow_succ, Nat.mul_comm, Nat.mod_mul_right_div_self]
    have h3 : n / 2 / 2 ^ i = n / 2 ^ (i + 1) := by rw [Nat.div_div_eq_div_mul, Nat.pow_succ, Nat.mul_comm]
    rw [h1, h2, h3]; omega
theorem cnt_byte (k n : Nat) : cnt (8 + k) n = cnt 8 (n % 256) + cnt k (n / 256) := cnt_split 8 k n
theorem cnt_last (y : Nat) : cnt 8 y = cnt 8 (y % 256) := by
  have h := cnt_byte 0 y
  rw [show cnt 0 (y / 256) = 0 from rfl, Nat.add_zero, Nat.add_zero] at h
  exact h
theorem bs_all (n : Nat) : ∃ p0 p1 p2 p3 p4 p5 p6 p7 : Nat, bs 8 n = p0 + 256 * (p1 + 256 * (p2 + 256 * (p3 + 256 * (p4 + 256 * (p5 + 256 * (p6 + 256 * p7)))))) ∧ cnt 64 n = p0 + (p1 + (p2 + (p3 + (p4 + (p5 + (p6 + p7)))))) ∧
    p0 ≤ 8 ∧ p1 ≤ 8 ∧ p2 ≤ 8 ∧ p3 ≤ 8 ∧ p4 ≤ 8 ∧ p5 ≤ 8 ∧ p6 ≤ 8 ∧ p7 ≤ 8 := by
  refine ⟨cnt 8 (n % 256), cnt 8 (n / 256 % 256), cnt 8 (n / 256 / 256 % 256), cnt 8 (n / 256 / 256 / 256 % 256), cnt 8 (n / 256 / 256 / 256 / 256 % 256), cnt 8 (n / 256 / 256 / 256 / 256 / 256 % 256), cnt 8 (n / 256 / 256 / 256 / 256 / 256 / 256 % 256), cnt 8 (n / 256 / 256 / 256 / 256 / 256 / 256 / 256 % 256), ?_, ?_, cnt_le 8 _, cnt_le 8 _, cnt_le 8 _, cnt_le 8 _, cnt_le 8 _, cnt_le 8 _, cnt_le 8 _, cnt_le 8 _⟩
  · simp only [bs, Nat.mul_zero, Nat.add_zero]
  · rw [show (64 : Nat) = 8 + 56 from rfl, cnt_byte, show (56 : Nat) = 8 + 48 from rfl, cnt_byte, show (48 : Nat) = 8 + 40 from rfl, cnt_byte, show (40 : Nat) = 8 + 32 from rfl, cnt_byte, show (32 : Nat) = 8 + 24 from rfl, cnt_byte, show (24 : Nat) = 8 + 16 from rfl, cnt_byte, show (16 : Nat) = 8 + 8 from rfl, cnt_byte, cnt_last (n / 256 / 256 / 256 / 256 / 256 / 256 / 256)]
theorem div_of (r z d : Nat) (h : r < d) : (r + d * z) / d = z := by
  rw [Nat.add_mul_div_left _ _ (by omega), Nat.div_eq_of_lt h, Nat.zero_add]
theorem mod_of (r z d : Nat) (h : r < d) : (r + d * z) % d = r := by
  rw [Nat.add_mul_mod_self_left, Nat.mod_eq_of_lt h]
theorem sum_all (x p0 p1 p2 p3 p4 p5 p6 p7 : Nat) (hx : x = p0 + 256 * (p1 + 256 * (p2 + 256 * (p3 + 256 * (p4 + 256 * (p5 + 256 * (p6 + 256 * p7)))))))
    (l0 : p0 ≤ 8) (l1 : p1 ≤ 8) (l2 : p2 ≤ 8) (l3 : p3 ≤ 8) (l4 : p4 ≤ 8) (l5 : p5 ≤ 8) (l6 : p6 ≤ 8) (l7 : p7 ≤ 8) :
    ∃ y4 y5 y6 : Nat, x + x / 256 = y4 ∧ y4 + y4 / 65536 = y5 ∧ y5 + y5 / 4294967296 = y6 ∧ y6 < 9223372036854775808 ∧ y6 % 128 = p0 + (p1 + (p2 + (p3 + (p4 + (p5 + (p6 + p7)))))) := by
  have d1 : x / 256 = p1 + 256 * (p2 + 256 * (p3 + 256 * (p4 + 256 * (p5 + 256 * (p6 + 256 * p7))))) := by rw [hx]; exact div_of _ _ _ (by omega)
  obtain ⟨q1, hq1⟩ : ∃ q, p1 + 256 * (p2 + 256 * (p3 + 256 * (p4 + 256 * (p5 + 256 * (p6 + 256 * p7))))) = q := ⟨_, rfl⟩
  rw [hq1] at d1
  refine ⟨x + x / 256, x + x / 256 + (x + x / 256) / 65536, _, rfl, rfl, rfl, ?_⟩
  have e4 : x + q1 = (p0 + p1 + 256 * (p1 + p2)) + 65536 * (p2 + p3 + 256 * (p3 + p4) + 65536 * (p4 + p5 + 256 * (p5 + p6)) + 4294967296 * (p6 + p7 + 256 * p7)) := by rw [hx, ← hq1]; grind
  have d2 : (x + q1) / 65536 = p2 + p3 + 256 * (p3 + p4) + 65536 * (p4 + p5 + 256 * (p5 + p6)) + 4294967296 * (p6 + p7 + 256 * p7) := by rw [e4]; exact div_of _ _ _ (by omega)
  have e5 : x + q1 + (x + q1) / 65536 = (p0 + p1 + p2 + p3 + 256 * (p1 + p2 + p3 + p4) + 65536 * (p2 + p3 + p4 + p5) + 16777216 * (p3 + p4 + p5 + p6)) + 4294967296 * (p4 + p5 + p6 + p7 + 256 * (p5 + p6 + p7) + 65536 * (p6 + p7) + 16777216 * p7) := by rw [d2, e4]; grind
  have d3 : (x + q1 + (x + q1) / 65536) / 4294967296 = p4 + p5 + p6 + p7 + 256 * (p5 + p6 + p7) + 65536 * (p6 + p7) + 16777216 * p7 := by rw [e5]; exact div_of _ _ _ (by omega)
  rw [d1]
  have e6 : x + q1 + (x + q1) / 65536 + (x + q1 + (x + q1) / 65536) / 4294967296 = (p0 + (p1 + (p2 + (p3 + (p4 + (p5 + (p6 + p7))))))) + 128 * (2 * (p1 + p2 + p3 + p4 + p5 + p6 + p7) + 512 * (p2 + p3 + p4 + p5 + p6 + p7) + 131072 * (p3 + p4 + p5 + p6 + p7) + 33554432 * (p4 + p5 + p6 + p7 + 256 * (p5 + p6 + p7) + 65536 * (p6 + p7) + 16777216 * p7)) := by rw [d3, e5]; grind
  rw [e6]
  clear e6 d3 e5 d2 e4 d1 hq1 hx
  exact ⟨by omega, mod_of _ _ _ (by omega)⟩
set_option maxHeartbeats 1000000 in
theorem ones_steps (n : Nat) (hn : n < 18446744073709551616) : ∃ a1 b1 y1 a2 b2 y2 s3 y3 y4 y5 y6 : Nat,
    bits .and .u64 ((n : Int) / 2) 6148914691236517205 = (a1 : Int) ∧ bits .and .u64 (n : Int) 6148914691236517205 = (b1 : Int) ∧ IntKind.u64.wrap ((a1 : Int) + (b1 : Int)) = (y1 : Int) ∧
    bits .and .u64 ((y1 : Int) / 4) 3689348814741910323 = (a2 : Int) ∧ bits .and .u64 (y1 : Int) 3689348814741910323 = (b2 : Int) ∧ IntKind.u64.wrap ((a2 : Int) + (b2 : Int)) = (y2 : Int) ∧
    IntKind.u64.wrap ((y2 : Int) / 16 + (y2 : Int)) = (s3 : Int) ∧ bits .and .u64 (s3 : Int) 1085102592571150095 = (y3 : Int) ∧
    IntKind.u64.wrap ((y3 : Int) + (y3 : Int) / 256) = (y4 : Int) ∧ IntKind.u64.wrap ((y4 : Int) + (y4 : Int) / 65536) = (y5 : Int) ∧ IntKind.u64.wrap ((y5 : Int) + (y5 : Int) / 4294967296) = (y6 : Int) ∧
    y6 < 9223372036854775808 ∧ bits .and .i64 (y6 : Int) 127 = (cnt 64 n : Nat) := by
  have e1 : m1 8 = 6148914691236517205 := by decide
  have e2 : m2 8 = 3689348814741910323 := by decide
  have e3 : m3 8 = 1085102592571150095 := by decide
  have hall := s3_all 8 n
  have hlt1 : s1 8 n < 18446744073709551616 := by have := s1_lt 8 n; rw [show (256 : Nat) ^ 8 = 18446744073709551616 by decide] at this; exact this
  have hy2 : s2 8 (s1 8 n) < 2 * 3689348814741910324 := by
    have h1 : s1 8 n / 4 &&& m2 8 ≤ m2 8 := Nat.and_le_right
    have h2 : s1 8 n &&& m2 8 ≤ m2 8 := Nat.and_le_right
    rw [s2]; omega
  obtain ⟨p0, p1, p2, p3, p4, p5, p6, p7, hb, hcn, l0, l1, l2, l3, l4, l5, l6, l7⟩ := bs_all n
  obtain ⟨y4, y5, y6, h4, h5, h6, h7, h8⟩ := sum_all (bs 8 n) p0 p1 p2 p3 p4 p5 p6 p7 hb l0 l1 l2 l3 l4 l5 l6 l7
  have hbl : bs 8 n < 9223372036854775808 := by omega
  obtain ⟨x1, hx1⟩ : ∃ x, s1 8 n = x := ⟨_, rfl⟩
  obtain ⟨x2, hx2⟩ : ∃ x, s2 8 x1 = x := ⟨_, rfl⟩
  have hsum1 : (n / 2 &&& m1 8) + (n &&& m1 8) = x1 := hx1
  have hsum2 : (x1 / 4 &&& m2 8) + (x1 &&& m2 8) = x2 := hx2
  have hu5 : (x2 / 16 + x2) &&& m3 8 = bs 8 n := by rw [← hx2, ← hx1]; exact hall
  rw [hx1] at hlt1 hy2
  rw [hx2] at hy2
  have u1 := u_and_n (n / 2) (m1 8) (by omega) (by omega)
  have u2 := u_and_n n (m1 8) hn (by omega)
  have u3 := u_and_n (x1 / 4) (m2 8) (by omega) (by omega)
  have u4 := u_and_n x1 (m2 8) hlt1 (by omega)
  have u5 := u_and_n (x2 / 16 + x2) (m3 8) (by omega) (by omega)
  rw [hu5] at u5
  rw [e1] at u1 u2 hsum1
  rw [e2] at u3 u4 hsum2
  rw [e3] at u5
  generalize bs 8 n = x3 at *
  clear hall hx1 hx2 hu5 e1 e2 e3 hb l0 l1 l2 l3 l4 l5 l6 l7
  have hm := i64_and y6 127 h7 (by omega)
  have hmod := Nat.and_two_pow_sub_one_eq_mod y6 7
  rw [show (2 : Nat) ^ 7 - 1 = 127 by decide, show (2 : Nat) ^ 7 = 128 by decide] at hmod
  rw [hmod, h8, ← hcn] at hm
  generalize n / 2 &&& 6148914691236517205 = a1 at *
  generalize n &&& 6148914691236517205 = b1 at *
  generalize x1 / 4 &&& 3689348814741910323 = a2 at *
  generalize x1 &&& 3689348814741910323 = b2 at *
  have w1 : IntKind.u64.wrap ((a1 : Int) + (b1 : Int)) = (x1 : Int) := by rw [IntKind.wrap_u64]; omega
  have w2 : IntKind.u64.wrap ((a2 : Int) + (b2 : Int)) = (x2 : Int) := by rw [IntKind.wrap_u64]; omega
  have w3 : IntKind.u64.wrap ((x2 : Int) / 16 + (x2 : Int)) = ((x2 / 16 + x2 : Nat) : Int) := by rw [IntKind.wrap_u64]; omega
  have w4 : IntKind.u64.wrap ((x3 : Int) + (x3 : Int) / 256) = (y4 : Int) := by rw [IntKind.wrap_u64]; omega
  have w5 : IntKind.u64.wrap ((y4 : Int) + (y4 : Int) / 65536) = (y5 : Int) := by rw [IntKind.wrap_u64]; omega
  have w6 : IntKind.u64.wrap ((y5 : Int) + (y5 : Int) / 4294967296) = (y6 : Int) := by rw [IntKind.wrap_u64]; omega
  exact ⟨a1, b1, x1, a2, b2, x2, x2 / 16 + x2, x3, y4, y5, y6, u1, u2, w1, u3, u4, w2, w3, u5, w4, w5, w6, h7, hm⟩
theorem cnt64 (n : Nat) (hn : n < 9223372036854775808) : cnt 64 n = size n := cnt_more 63 n (by simpa using hn)

/-! ### the lowest bit's place, by a table -/
def dbTab : List Nat := [0, 1, 56, 2, 57, 49, 28, 3, 61, 58, 42, 50, 38, 29, 17, 4, 62, 47, 59, 36, 45, 43, 51, 22, 53, 39, 33, 30, 24, 18, 12, 5, 63, 55, 48, 27, 60, 41, 37, 16, 46, 35, 44, 21, 52, 32, 23, 11, 54, 26, 40, 15, 34, 20, 31, 10, 25, 14, 19, 9, 13, 8, 7, 6]
theorem dbTab_at : ∀ k, k < 64 → dbTab.getD (2 ^ k * 285870213051353865 % 18446744073709551616 / 288230376151711744) 0 = k := by decide
theorem u_low (i q n : Nat) (hq : n = 2 ^ i * (2 * q + 1)) (hn : n < 9223372036854775808) : bits .and .u64 (n : Int) (IntKind.u64.wrap (-(n : Int))) = (2 ^ i : Nat) := by
  have h := low_and i q 64 (by rw [← hq]; exact Nat.lt_of_lt_of_le hn (by decide))
  have hp := pow_p i
  have hn0 : 0 < n := by rw [hq]; exact Nat.mul_pos hp (by omega)
  rw [← hq, show (2 : Nat) ^ 64 = 18446744073709551616 by decide] at h
  rw [IntKind.wrap_u64, u_and, show ((n : Int) % 18446744073709551616).toNat = n by omega, show (-(n : Int) % 18446744073709551616 % 18446744073709551616).toNat = 18446744073709551616 - n by omega, h]

end Go.Proofs.YtaallpebfcadjaaGreatDoor.S


/-! The walks of sets: Has, Within, Size, Least, Members (out of layer 5's texts: tools/mkrusets.py). -/
namespace Go.Proofs.YtaallpebfcadjaaGreatDoor.S
open Go.RowKit
set_option maxRecDepth 8000

theorem isNumber_no (i : Int) (h : ¬ (0 ≤ i ∧ i ≤ 62)) (w : World) :
    Calls Tryz.prog 120 #[.int .i64 i] w fun e w' => e = .returned (.bool false) ∧ w = w' := by
  by_cases h0 : i < 0
  · go_enter Tryz.func120, Tryz.ntmps120
    go_wp2_with fail
    go_ret
    exact ⟨rfl, rfl⟩
  have h1 : 62 < i := by omega
  have h2 : decide (i ≤ 62) = false := decide_eq_false (by omega)
  go_enter Tryz.func120, Tryz.ntmps120
  go_wp2_with fail
  go_ret
  first
    | exact ⟨rfl, rfl⟩
    | exact ⟨ret_bool h2, rfl⟩
theorem isNumber_yes (i : Int) (h0 : 0 ≤ i) (h1 : i ≤ 62) (w : World) :
    Calls Tryz.prog 120 #[.int .i64 i] w fun e w' => e = .returned (.bool true) ∧ w = w' := by
  go_enter Tryz.func120, Tryz.ntmps120
  go_wp2_with fail
  go_ret
  exact ⟨rfl, rfl⟩
theorem tHas_n (n k : Nat) (hn : n < 9223372036854775808) (hk : k ≤ 62) (b : Bool) (hb : Hid (has n k = b)) (w : World) :
    Calls Tryz.prog 87 #[.int .i64 n, .int .i64 k] w fun e w' => e = .returned (.bool b) ∧ w = w' := by
  have HN := Lib.hid (isNumber_yes (k : Int) (by omega) (by omega))
  have h1 := i_has n k hn
  rw [hb.out, show ((n / 2 ^ k : Nat) : Int) = (n : Int) / 2 ^ k by simp] at h1
  have H1 := Lib.hid h1
  clear h1
  go_enter Tryz.func87, Tryz.ntmps87
  go_wp2_with fail
  refine (HN.out _).mono ?_
  rintro e w' ⟨rfl, rfl⟩
  go_wp2_with fail
  go_ret
  exact ⟨ret_bool H1.out, rfl⟩
theorem setHas_i (n : Nat) (i : Int) (hn : n < 2 ^ 63) (w : World) :
    Calls Tryz.prog 87 #[.int .i64 n, .int .i64 i] w fun e w' => e = .returned (.bool (hasI n i)) ∧ w = w' := by
  by_cases h : 0 ≤ i ∧ i ≤ 62
  · obtain ⟨k, rfl⟩ := Int.eq_ofNat_of_zero_le h.1
    rw [hasI_nat (by omega)]
    exact tHas_n n k (by simpa using hn) (by omega) _ rfl w
  · have HK : Hid (hasI n i = false) := by
      show _ = _
      by_cases h0 : i < 0
      · exact hasI_neg h0
      · exact hasI_big (by omega)
    have HN := Lib.hid (isNumber_no i h)
    clear h
    go_enter Tryz.func87, Tryz.ntmps87
    go_wp2_with fail
    refine (HN.out _).mono ?_
    rintro e w' ⟨rfl, rfl⟩
    go_wp2_with fail
    go_ret
    exact ⟨ret_bool HK.out.symm, rfl⟩
theorem without_e (n m : Nat) (h0 : 0 < n) (hn : n < 9223372036854775808) (hm : n &&& (n - 1) = m) (w : World) :
    Calls Tryz.prog 82 #[.int .i64 n] w fun e w' => e = .returned (.int .i64 m) ∧ w = w' := by
  have h1 := i64_and n (n - 1) hn (by omega)
  rw [hm, show ((n - 1 : Nat) : Int) = (n : Int) - 1 by omega] at h1
  have H1 := Lib.hid h1
  clear h1 hm
  go_enter Tryz.func82, Tryz.ntmps82
  go_wp2_with fail
  go_ret
  exact ⟨ret_int H1.out, rfl⟩
set_option maxHeartbeats 1000000 in
theorem ones64 (n c : Nat) (hn : n < 9223372036854775808) (hc : size n = c) (w : World) :
    Calls Tryz.prog 136 #[.int .u64 n] w fun e w' => e = .returned (.int .i64 c) ∧ w = w' := by
  obtain ⟨a1, b1, y1, a2, b2, y2, s3, y3, y4, y5, y6, h1, h2, h3, h4, h5, h6, h7, h8, h9, h10, h11, h12, h13⟩ := ones_steps n (by omega)
  rw [cnt64 n hn, hc] at h13
  have H13 := Lib.hid h13
  clear h13 hc
  go_enter Tryz.func136, Tryz.ntmps136
  go_wp2_with fail
  go_ret
  exact ⟨ret_int H13.out, rfl⟩
theorem ones_n (n c : Nat) (hn : n < 9223372036854775808) (hc : size n = c) (w : World) :
    Calls Tryz.prog 117 #[.int .u64 n] w fun e w' => e = .returned (.int .i64 c) ∧ w = w' := by
  have H := Lib.hid (ones64 n c hn hc)
  clear hc
  go_enter Tryz.func117, Tryz.ntmps117
  go_wp2_with fail
  refine (H.out _).mono ?_
  rintro e w' ⟨rfl, rfl⟩
  go_wp2_with fail
  go_ret
  exact ⟨rfl, rfl⟩
theorem size_e (n c : Nat) (hn : n < 9223372036854775808) (hc : size n = c) (w : World) :
    Calls Tryz.prog 81 #[.int .i64 n] w fun e w' => e = .returned (.int .i64 c) ∧ w = w' := by
  have H := Lib.hid (ones_n n c hn hc)
  clear hc
  go_enter Tryz.func81, Tryz.ntmps81
  go_wp2_with fail
  refine (H.out _).mono ?_
  rintro e w' ⟨rfl, rfl⟩
  go_wp2_with fail
  go_ret
  exact ⟨rfl, rfl⟩

def dbI : List Int := dbTab.map fun (x : Nat) => (x : Int)
def Tab (w : World) : Prop := Lib.TabIs Tryz.prog w "math/bits.deBruijn64tab" .u8 dbI
theorem gTab : Tryz.prog.globalNamed "math/bits.deBruijn64tab" = some 1 := by kernel_rfl
theorem Tab.lt {w : World} (h : Tab w) : 1 < w.heap.size :=
  World.block_lt_of_cell? _ _ (Lib.TabIs.cell h gTab 0 (by decide))
theorem Tab.below {B : Nat} {w w' : World} (h : Tab w) (hB : w.heap.size ≤ B) (hb : Below B w w') : Tab w' := var?_below hb gTab (Nat.lt_of_lt_of_le h.lt hB) h
theorem Tab.over {w W : World} (h : Tab w) (b : Below w.heap.size w W) : Tab W := h.below (Nat.le_refl _) b
theorem dbI_at (k : Nat) (hk : k < 64) (j : Nat) (hj : 2 ^ k * 285870213051353865 % 18446744073709551616 / 288230376151711744 = j) : j < 64 ∧ dbI[j]? = some (k : Int) := by
  have h := dbTab_at k hk
  rw [hj] at h
  have hl : j < 64 := by
    rw [← hj]; omega
  refine ⟨hl, ?_⟩
  rw [dbI, List.getElem?_map]
  rw [List.getD_eq_getElem?_getD, List.getElem?_eq_getElem (show j < dbTab.length from hl)] at h
  rw [List.getElem?_eq_getElem (show j < dbTab.length from hl)]
  simp only [Option.getD_some] at h
  rw [h]; rfl
theorem trail64 (i q n : Nat) (hq : n = 2 ^ i * (2 * q + 1)) (hn : n < 9223372036854775808) (hi : i < 64) (w : World) (hT : Tab w) :
    Calls Tryz.prog 138 #[.int .u64 n] w fun e w' => e = .returned (.int .i64 i) ∧ w = w' := by
  have h0 : 0 < n := by rw [hq]; exact Nat.mul_pos (pow_p i) (by omega)
  have h1 := u_low i q n hq hn
  obtain ⟨j, hj⟩ : ∃ j, 2 ^ i * 285870213051353865 % 18446744073709551616 / 288230376151711744 = j := ⟨_, rfl⟩
  obtain ⟨hj64, hd⟩ := dbI_at i hi j hj
  have hc := Lib.TabIs.cell hT gTab j hj64
  obtain ⟨p, hp⟩ : ∃ p, 2 ^ i = p := ⟨_, rfl⟩
  rw [hp] at h1 hj
  obtain ⟨m, hm⟩ : ∃ m, p * 285870213051353865 % 18446744073709551616 = m := ⟨_, rfl⟩
  rw [hm] at hj
  have h2 : IntKind.u64.wrap ((p : Int) * 285870213051353865) = (m : Int) := by rw [IntKind.wrap_u64]; omega
  have h3 : (m : Int) / 288230376151711744 = (j : Int) := by omega
  have hne : ((n : Int) == 0) = false := eq0I (by omega)
  rw [show dbI.getD j 0 = (i : Int) by rw [List.getD_eq_getElem?_getD, hd]; rfl] at hc
  clear hq hp hm hj hT hd
  go_enter Tryz.func138, Tryz.ntmps138
  go_wp2_with fail
  go_ret
  exact ⟨rfl, rfl⟩
theorem trail_n (i q n : Nat) (hq : n = 2 ^ i * (2 * q + 1)) (hn : n < 9223372036854775808) (hi : i < 64) (w : World) (hT : Tab w) :
    Calls Tryz.prog 118 #[.int .u64 n] w fun e w' => e = .returned (.int .i64 i) ∧ w = w' := by
  have H := Lib.hid (fun w => trail64 i q n hq hn hi w)
  clear hq
  go_enter Tryz.func118, Tryz.ntmps118
  go_wp2_with fail
  refine (H.out _ hT).mono ?_
  rintro e w' ⟨rfl, rfl⟩
  go_wp2_with fail
  go_ret
  exact ⟨rfl, rfl⟩
theorem least_cons (n i : Nat) (r : List Nat) (hn : n < 9223372036854775808) (hm : members n = i :: r) (w : World) (hT : Tab w) :
    Calls Tryz.prog 83 #[.int .i64 n] w fun e w' => e = .returned (.int .i64 i) ∧ w = w' := by
  obtain ⟨q, hq⟩ := mem_head 63 n i r hm
  have hi : i ≤ 62 := mem_lt62 (n := n) (by rw [hm]; simp)
  have h0 : 0 < n := by rw [hq]; exact Nat.mul_pos (pow_p i) (by omega)
  have H := Lib.hid (fun w => trail_n i q n hq hn (by omega) w)
  have hne : ((n : Int) == 0) = false := eq0I (by omega)
  clear hq hm
  go_enter Tryz.func83, Tryz.ntmps83
  go_wp2_with fail
  refine (H.out _ hT).mono ?_
  rintro e w' ⟨rfl, rfl⟩
  go_wp2_with fail
  go_ret
  exact ⟨rfl, rfl⟩
/-- the members that are left once j of the least are taken -/
theorem members_lt : ∀ m i r, members m = i :: r → m < 9223372036854775808 → m &&& (m - 1) = m - 2 ^ i ∧ members (m - 2 ^ i) = r ∧ m - 2 ^ i < m ∧ 0 < m := by
  intro m i r h hm
  have h1 := mem_tail 63 m i r (by simpa using hm) h
  have := pow_p i
  exact ⟨h1.2.1, h1.2.2, by omega, by omega⟩
theorem one_drop {l : List Nat} {k i : Nat} {r : List Nat} (h : l.drop k = i :: r) : l.take (k + 1) = l.take k ++ [i] ∧ l.drop (k + 1) = r ∧ k < l.length := by
  have hk : k < l.length := by
    by_cases hk : k < l.length
    · exact hk
    · rw [List.drop_of_length_le (by omega)] at h; cases h
  rw [List.drop_eq_getElem_cons hk] at h
  injection h with h1 h2
  exact ⟨by rw [List.take_succ_eq_append_getElem hk, h1], h2, hk⟩
set_option maxHeartbeats 1000000 in
theorem setMembers_n (n : Nat) (hn : n < 2 ^ 63) (w : World) (hT : Tab w) :
    Calls Tryz.prog 52 #[.int .i64 n] w fun e w' => ∃ v, e = .returned v ∧ Owb w.heap.size w' v (members n) ∧ Below w.heap.size w w' := by
  obtain ⟨i0, hi, hz0, hz1, hz2⟩ := info3'
  have hn9 : n < 9223372036854775808 := by simpa using hn
  have HSZ := Lib.hid (fun w => size_e n (size n) hn9 rfl w)
  have hlen : (members n).length ≤ 63 := mem_len n 63
  have HLEN := Lib.hid hlen
  have hsz : size n ≤ 63 := cnt_le 63 n
  have HMN := Lib.hid hn
  generalize hl : members n = l at *
  generalize size n = c at *
  have HL := Lib.hid hl
  clear hl hlen hn
  go_enter Tryz.func52, Tryz.ntmps52
  go_wp2_with fail
  refine (HSZ.out _).mono ?_
  rintro e w' ⟨rfl, rfl⟩
  go_wp2_with (at_make; refine wpList_make_own _ rfl _ _ 40 rfl w.heap.size 3 i0 (.int .i64 0) 1 Tryz.underlying40 hi hz0 hz1 _ _ _ c rfl rfl ?e1 ?e3 ?e4 (Nat.le_refl _) ?_)
  case e1 => rfl
  case e3 => rw [hz2]; omega
  case e4 => unfold maxLen; omega
  intro w1 hown hgrow
  have HO1 : Hid (Owb w.heap.size w1 (.slice (some ⟨w.heap.size, 0, none⟩) 0 c) []) := hown
  have HB1 : Hid (Below w.heap.size w w1) := (Below.refl _ w).grown hgrow (Nat.le_refl _) (fun k h => by cases h)
  clear hown hgrow
  go_wp2
  go_loopw [3, 4] (fun v x wr => ∃ k m : Nat, x = .int .i64 m ∧ m < 9223372036854775808 ∧ Hid (members m = l.drop k) ∧ Hid (Owb w.heap.size wr v (l.take k)) ∧ Hid (Below w.heap.size w wr)) (fun _ x _ => (intOf x).toNat)
  case atStart => exact ⟨0, n, rfl, hn9, HL, HO1, HB1⟩
  case round =>
    clear HO1 HB1
    obtain ⟨k, m, rfl, hm, HM, HO, HB⟩ := hrel
    by_cases hm0 : m = 0
    · subst hm0
      have HK : Hid (l.take k = l) := by
        show _ = _
        have h := HM.out
        rw [show members 0 = [] from mem_zero 63] at h
        have h2 := List.take_append_drop k l
        rw [← h, List.append_nil] at h2
        exact h2
      go_wp2_with fail
      go_ret
      exact ⟨_, rfl, by rw [← HK.out]; exact HO.out, HB.out⟩
    · cases hd : members m with
      | nil => exact absurd (mem_nil 63 m (by simpa using hm) hd) hm0
      | cons i r =>
        have h2 := members_lt m i r hd hm
        have h3 := one_drop (HM.out.symm.trans hd)
        obtain ⟨q, hq⟩ : ∃ q, m - 2 ^ i = q := ⟨_, rfl⟩
        rw [hq] at h2
        have HLe := Lib.hid (fun w => least_cons m i r hm hd w)
        have HWe := Lib.hid (fun w => without_e m q h2.2.2.2 hm h2.1 w)
        have HM2 : Hid (members q = l.drop (k + 1)) := h2.2.1.trans h3.2.1.symm
        have HT2 : Hid (l.take (k + 1) = l.take k ++ [i]) := h3.1
        have hkl : (l.take k).length ≤ 63 := by have h4 := HLEN.out; rw [List.length_take]; omega
        have hql : q < m := h2.2.2.1
        have hTW : Tab wr := hT.below (Nat.le_refl _) HB.out
        have hne : ((m : Int) == 0) = false := eq0I hm0
        generalize hlk : l.take k = lk at *
        have hl9 : lk.length ≤ 1000000 := by omega
        have hmx : lk.length + 1 ≤ maxLen := by unfold maxLen; omega
        have hby : (lk.length + 1) * 8 ≤ 140737488355328 := by omega
        have HOW2 := Lib.hid (HO.out.alloc (.cells #[.int .i64 (i : Int)] 3))
        have hsz := HB.out.size
        have hszA : w.heap.size ≤ (wr.alloc (.cells #[.int .i64 (i : Int)] 3)).heap.size := by simp; omega
        clear hd h2 h3 hq hlk
        go_wp2_with fail
        refine (HLe.out _ hTW).mono ?_
        rintro e w' ⟨rfl, rfl⟩
        go_wp2_with (at_builtin; refine wpList_append_own _ rfl _ _ 40 rfl w.heap.size 3 i0 (.int .i64 0) 1 8 Tryz.underlying40 hi hz0 hz1 hz2 rfl (by decide) _ _ _ rfl HOW2.out ⟨wr.heap.size, 0, none⟩ 1 1 [.int .i64 (i : Int)] rfl rfl (one_new wr (i : Int)) (one_cell (i : Int)) hmx hby hszA ?_)
        intro v2 w2 hown2 hgrow2 _
        have HO3 := Lib.hid (Owb.of_own (x := i) rfl rfl hown2)
        have HB3 := Lib.hid ((HB.out.alloc hsz (.cells #[.int .i64 (i : Int)] 3)).grown hgrow2 (by simp; omega) HO.out.blk)
        clear hown2 hgrow2 HOW2
        go_wp2_with fail
        refine (HWe.out _).mono ?_
        rintro e w' ⟨rfl, rfl⟩
        go_wp2_with fail
        go_roundw
        case rel => exact ⟨k + 1, q, rfl, by omega, HM2, by show Owb _ _ _ _; rw [HT2.out]; exact HO3.out, HB3⟩
        case measure => simp [intOf]; omega

end Go.Proofs.YtaallpebfcadjaaGreatDoor.S


