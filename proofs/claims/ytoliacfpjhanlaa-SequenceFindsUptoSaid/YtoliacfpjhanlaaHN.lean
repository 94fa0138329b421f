/-
  DERIVED. HN: a part of the base of layer 13 (made by pack.py).
-/
import Derived.Test.YtoliacfpjhanlaaHM
import Derived.Test.YtoliacfpjhanlaaHB
import Derived.Test.YtoliacfpjhanlaaHD
import Derived.Deep.RegionHeld3
import Derived.Test.YtoliacfpjhanlaaHJ
import Derived.Test.YtoliacfpjhanlaaHL
/-! Plain Lean: the fixed points that the landed rules find, and lists of pairs in ascending order. -/
namespace Go.Proofs.Ytoliacfpjhanlaa.U

theorem sub_le {a b : Nat} (h : ∀ i, S.has a i = true → S.has b i = true) : a ≤ b := by
  rw [← and_sub h]; exact Nat.and_le_right
theorem has_or (a b i : Nat) : S.has (a ||| b) i = (S.has a i || S.has b i) := by
  rw [has_bit, has_bit, has_bit, Nat.testBit_or]
theorem has_pow (j i : Nat) : S.has (2 ^ j) i = decide (i = j) := by
  rw [has_bit, Nat.testBit_two_pow, decide_eq_decide]; exact eq_comm
/-- a set without another -/
def minus (s t : Nat) : Nat := s &&& (18446744073709551616 - 1 - t)
theorem has_minus {s t : Nat} (hs : s < 9223372036854775808) (ht : t < 9223372036854775808) (i : Nat) : S.has (minus s t) i = (S.has s i && !S.has t i) := by
  unfold minus
  rw [has_bit, has_bit, has_bit, Nat.testBit_and]
  have h1 := Nat.testBit_two_pow_sub_succ (n := 64) (x := t) (by omega) i
  rw [show (2 : Nat) ^ 64 - (t + 1) = 18446744073709551616 - 1 - t by omega] at h1
  rw [h1]
  by_cases hi : i < 64
  · rw [decide_eq_true hi, Bool.true_and]
  · have : s.testBit i = false := Nat.testBit_lt_two_pow (Nat.lt_of_lt_of_le hs (Nat.le_trans (by decide : 9223372036854775808 ≤ 2 ^ 64) (Nat.pow_le_pow_right (by omega) (by omega))))
    rw [this]; rfl
theorem minus_le (s t : Nat) : minus s t ≤ s := Nat.and_le_left
theorem pow_le {n : Nat} (h : n ≤ 10) : 2 ^ n ≤ 1024 := Nat.le_trans (Nat.pow_le_pow_right (by omega) h) (by decide)

/-! ### what comes ahead of a set -/
def ahdK (l : List (Int × Int)) (s : Nat) : Nat → Nat
  | 0 => 0
  | k + 1 => if S.has s (pb (l.getD k (0, 0))) then ahdK l s k ||| 2 ^ pa (l.getD k (0, 0)) else ahdK l s k
theorem ex_more {l : List (Int × Int)} {k : Nat} (P : Int × Int → Prop) : (∃ j, j < k + 1 ∧ P (l.getD j (0, 0))) ↔ (∃ j, j < k ∧ P (l.getD j (0, 0))) ∨ P (l.getD k (0, 0)) := by
  constructor
  · rintro ⟨j, hj, h⟩
    by_cases e : j = k
    · exact .inr (e ▸ h)
    · exact .inl ⟨j, by omega, h⟩
  · rintro (⟨j, hj, h⟩ | h)
    · exact ⟨j, by omega, h⟩
    · exact ⟨k, by omega, h⟩
theorem ex_mem {l : List (Int × Int)} (P : Int × Int → Prop) : (∃ j, j < l.length ∧ P (l.getD j (0, 0))) ↔ ∃ p ∈ l, P p := by
  constructor
  · rintro ⟨j, hj, h⟩
    refine ⟨_, ?_, h⟩
    rw [List.getD_eq_getElem?_getD, List.getElem?_eq_getElem hj]; exact List.getElem_mem hj
  · rintro ⟨p, hp, h⟩
    obtain ⟨j, hj, rfl⟩ := List.mem_iff_getElem.1 hp
    refine ⟨j, hj, ?_⟩
    rw [List.getD_eq_getElem?_getD, List.getElem?_eq_getElem hj]; exact h
theorem has_ahdK (l : List (Int × Int)) (s i : Nat) : ∀ k, S.has (ahdK l s k) i = true ↔ ∃ j, j < k ∧ (S.has s (pb (l.getD j (0, 0))) = true ∧ i = pa (l.getD j (0, 0)))
  | 0 => by
    rw [ahdK, has_zero]
    constructor
    · intro h; cases h
    · rintro ⟨j, hj, -⟩; omega
  | k + 1 => by
    rw [ex_more (fun p => S.has s (pb p) = true ∧ i = pa p), ← has_ahdK l s i k, ahdK]
    cases h : S.has s (pb (l.getD k (0, 0)))
    · rw [if_neg (by simp)]; simp
    · rw [if_pos rfl, has_or, has_pow, Bool.or_eq_true, decide_eq_true_iff]; simp
def ahd (l : List (Int × Int)) (s : Nat) : Nat := ahdK l s l.length
theorem has_ahd (l : List (Int × Int)) (s i : Nat) : S.has (ahd l s) i = true ↔ ∃ p ∈ l, S.has s (pb p) = true ∧ i = pa p := by
  unfold ahd
  rw [has_ahdK, ex_mem (fun p => S.has s (pb p) = true ∧ i = pa p)]
theorem getD_rt {n : Nat} {l : List (Int × Int)} (hr : Rt n l) {k : Nat} (hk : k < l.length) : pa (l.getD k (0, 0)) < n ∧ pb (l.getD k (0, 0)) < n ∧ l.getD k (0, 0) = ((pa (l.getD k (0, 0)) : Int), (pb (l.getD k (0, 0)) : Int)) := by
  have := hr.a (p := l.getD k (0, 0)) (by rw [List.getD_eq_getElem?_getD, List.getElem?_eq_getElem hk]; exact List.getElem_mem hk)
  exact ⟨this.1, this.2.1, this.2.2.2⟩
/-- what Needs has found so far -/
structure NdI (l : List (Int × Int)) (o a : Nat) : Prop where
  own : S.has a o = true
  ch : ∀ i, S.has a i = true → i = o ∨ Ch l i o
theorem NdI.lt {n : Nat} {l : List (Int × Int)} (hr : Rt n l) {o a : Nat} (ho : o < n) (h : NdI l o a) : a < 2 ^ n := has_lt fun i hi => by
  rcases h.ch i hi with rfl | hc
  · exact ho
  · exact (hc.lt hr).1
theorem NdI.fix {n : Nat} {l : List (Int × Int)} (hr : Rt n l) {o a : Nat} (ho : o < n) (h : NdI l o a) (hf : a ||| ahd l a = a) : a = needN n l o := has_ext fun i => by
  rw [Bool.eq_iff_iff, has_need hr]
  constructor
  · intro hi
    exact ⟨lt_has (h.lt hr ho) hi, h.ch i hi⟩
  · rintro ⟨-, rfl | hc⟩
    · exact h.own
    · refine hc.back (fun p hp hb => ?_) h.own
      rw [← hf, has_or, Bool.or_eq_true]
      exact .inr ((has_ahd l a _).2 ⟨p, hp, hb, rfl⟩)
def wtgK (l : List (Int × Int)) (s d : Nat) : Nat → Nat
  | 0 => 0
  | k + 1 => if S.has s (pb (l.getD k (0, 0))) && !S.has d (pa (l.getD k (0, 0))) then wtgK l s d k ||| 2 ^ pb (l.getD k (0, 0)) else wtgK l s d k
theorem has_wtgK (l : List (Int × Int)) (s d i : Nat) : ∀ k, S.has (wtgK l s d k) i = true ↔ ∃ j, j < k ∧ ((S.has s (pb (l.getD j (0, 0))) && !S.has d (pa (l.getD j (0, 0)))) = true ∧ i = pb (l.getD j (0, 0)))
  | 0 => by
    rw [wtgK, has_zero]
    constructor
    · intro h; cases h
    · rintro ⟨j, hj, -⟩; omega
  | k + 1 => by
    rw [ex_more (fun p => (S.has s (pb p) && !S.has d (pa p)) = true ∧ i = pb p), ← has_wtgK l s d i k, wtgK]
    cases h : S.has s (pb (l.getD k (0, 0))) && !S.has d (pa (l.getD k (0, 0)))
    · rw [if_neg (by simp)]; simp
    · rw [if_pos rfl, has_or, has_pow, Bool.or_eq_true, decide_eq_true_iff]; simp
def wtg (l : List (Int × Int)) (s d : Nat) : Nat := wtgK l s d l.length
theorem has_wtg (l : List (Int × Int)) (s d i : Nat) : S.has (wtg l s d) i = true ↔ ∃ p ∈ l, (S.has s (pb p) && !S.has d (pa p)) = true ∧ i = pb p := by
  unfold wtg
  rw [has_wtgK, ex_mem (fun p => (S.has s (pb p) && !S.has d (pa p)) = true ∧ i = pb p)]
theorem wtgK_lt {n : Nat} {l : List (Int × Int)} (hr : Rt n l) (s d : Nat) {k : Nat} (hk : k ≤ l.length) : wtgK l s d k < 2 ^ n := has_lt fun i hi => by
  obtain ⟨j, hj, -, rfl⟩ := (has_wtgK l s d i k).1 hi
  exact (getD_rt hr (by omega)).2.1
/-- the next of canFollow's sets -/
def fol (l : List (Int × Int)) (s d : Nat) : Nat := minus s (wtg l s d)
theorem has_fol {n : Nat} {l : List (Int × Int)} (hr : Rt n l) (hn : n ≤ 10) {s d : Nat} (hs : s < 2 ^ n) (i : Nat) : S.has (fol l s d) i = true ↔ S.has s i = true ∧ ∀ p ∈ l, i = pb p → S.has d (pa p) = true := by
  have h1 := pow_le hn
  have h2 : wtg l s d < 2 ^ n := wtgK_lt hr s d (Nat.le_refl _)
  unfold fol
  rw [has_minus (by omega) (by omega), Bool.and_eq_true, Bool.not_eq_true']
  constructor
  · rintro ⟨h3, h4⟩
    refine ⟨h3, fun p hp e => ?_⟩
    cases h5 : S.has d (pa p)
    · have : S.has (wtg l s d) i = true := (has_wtg l s d i).2 ⟨p, hp, by rw [← e, h3, h5]; rfl, e⟩
      rw [h4] at this; cases this
    · rfl
  · rintro ⟨h3, h4⟩
    refine ⟨h3, ?_⟩
    cases h5 : S.has (wtg l s d) i
    · rfl
    · obtain ⟨p, hp, h6, e⟩ := (has_wtg l s d i).1 h5
      rw [h4 p hp e] at h6
      simp at h6
/-- the orders that canFollow has done -/
structure CfI (l : List (Int × Int)) (s d : Nat) : Prop where
  sub : ∀ i, S.has d i = true → S.has s i = true
  cl : ∀ p ∈ l, S.has d (pb p) = true → S.has d (pa p) = true
  ci : ∀ i, S.has d i = true → ¬ Ch l i i
theorem CfI.start (l : List (Int × Int)) (s : Nat) : CfI l s 0 := ⟨fun i h => (by rw [has_zero] at h; cases h), fun p _ h => (by rw [has_zero] at h; cases h), fun i h => (by rw [has_zero] at h; cases h)⟩
theorem CfI.lt {n : Nat} {l : List (Int × Int)} {s d : Nat} (hs : s < 2 ^ n) (h : CfI l s d) : d < 2 ^ n := has_lt fun i hi => lt_has hs (h.sub i hi)
def canF (n : Nat) (l : List (Int × Int)) (s : Nat) : Bool := !beforeE l s && !circleE n l s
section
variable {n : Nat} {l : List (Int × Int)} (hr : Rt n l) (hn : n ≤ 10) {s d : Nat} (hs : s < 2 ^ n)
include hr hn hs
theorem CfI.sup (h : CfI l s d) : ∀ i, S.has d i = true → S.has (fol l s d) i = true := fun i hi => (has_fol hr hn hs i).2 ⟨h.sub i hi, fun p hp e => h.cl p hp (e ▸ hi)⟩
theorem CfI.step (h : CfI l s d) : CfI l s (fol l s d) := by
  refine ⟨fun i hi => ((has_fol hr hn hs i).1 hi).1, fun p hp hb => ?_, fun i hi hc => ?_⟩
  · exact h.sup hr hn hs _ (((has_fol hr hn hs _).1 hb).2 p hp rfl)
  · have h1 := ((has_fol hr hn hs i).1 hi).2
    cases hc with
    | one hp e =>
      have h2 := h1 _ hp rfl
      rw [e] at h2
      exact h.ci _ h2 (by have := Ch.one hp e; exact this)
    | more h2 hp => exact h.ci _ (h1 _ hp rfl) ((Ch.one hp rfl).trans h2)
theorem CfI.grow (h : CfI l s d) : d ≤ fol l s d := sub_le (h.sup hr hn hs)
theorem CfI.fix (h : CfI l s d) (hf : fol l s d = d) : (d == s) = canF n l s := by
  unfold canF
  rw [Bool.eq_iff_iff, beq_iff_eq, Bool.and_eq_true, Bool.not_eq_true', Bool.not_eq_true']
  constructor
  · rintro rfl
    refine ⟨List.any_eq_false.2 fun p hp => ?_, List.any_eq_false.2 fun i _ => ?_⟩
    · cases h1 : S.has d (pb p)
      · simp
      · rw [h.cl p hp h1]; simp
    · cases h1 : S.has d i
      · simp
      · cases h2 : S.has (reach n l i) i
        · simp
        · exact absurd ((reach_iff hr i i).1 h2) (h.ci i h1)
  · rintro ⟨hb, hc⟩
    have hall : ∀ m i, ofB (fun j => S.has (reach n l j) i) n ≤ m → S.has s i = true → S.has d i = true := by
      intro m
      induction m with
      | zero =>
        intro i hm hi
        rw [← hf]
        refine (has_fol hr hn hs i).2 ⟨hi, fun p hp e => ?_⟩
        have h1 : S.has (ofB (fun j => S.has (reach n l j) i) n) (pa p) = true := by
          rw [has_ofB, decide_eq_true (hr.a hp).1, Bool.true_and]
          exact (reach_iff hr _ _).2 (e ▸ Ch.one hp rfl)
        rw [show ofB (fun j => S.has (reach n l j) i) n = 0 by omega, has_zero] at h1
        cases h1
      | succ m ih =>
        intro i hm hi
        rw [← hf]
        refine (has_fol hr hn hs i).2 ⟨hi, fun p hp e => ?_⟩
        have h0 := List.any_eq_false.1 hb p hp
        have hsa : S.has s (pa p) = true := by
          rw [← e, hi] at h0
          cases h1 : S.has s (pa p)
          · rw [h1] at h0; simp at h0
          · rfl
        have hno : S.has (reach n l (pa p)) (pa p) = false := by
          have := List.any_eq_false.1 hc (pa p) (List.mem_range.2 (hr.a hp).1)
          rw [hsa] at this
          cases h1 : S.has (reach n l (pa p)) (pa p)
          · rfl
          · rw [h1] at this; simp at this
        refine ih (pa p) ?_ hsa
        have hle : ofB (fun j => S.has (reach n l j) (pa p)) n ≤ ofB (fun j => S.has (reach n l j) i) n := sub_le fun j hj => by
          rw [has_ofB, Bool.and_eq_true, decide_eq_true_iff] at hj ⊢
          exact ⟨hj.1, (reach_iff hr _ _).2 (e ▸ ((reach_iff hr _ _).1 hj.2).more hp)⟩
        have hne : ofB (fun j => S.has (reach n l j) (pa p)) n ≠ ofB (fun j => S.has (reach n l j) i) n := fun e2 => by
          have h1 : S.has (ofB (fun j => S.has (reach n l j) i) n) (pa p) = true := by
            rw [has_ofB, decide_eq_true (hr.a hp).1, Bool.true_and]
            exact (reach_iff hr _ _).2 (e ▸ Ch.one hp rfl)
          rw [← e2, has_ofB, hno, Bool.and_false] at h1
          cases h1
        omega
    exact has_ext fun i => by
      rw [Bool.eq_iff_iff]
      exact ⟨h.sub i, hall _ i (Nat.le_refl _)⟩
end
theorem allow_can (n : Nat) (off : Nat → Bool) (ap be : List (Int × Int)) (s : Nat) : allowN n off ap be s = if offE n off s then 9 else if apartE ap s then 20 else if canF n be s then 0 else 21 := by
  unfold allowN canF
  cases offE n off s <;> cases apartE ap s <;> cases beforeE be s <;> cases circleE n be s <;> rfl

/-! ### pairs in ascending order -/
end Go.Proofs.Ytoliacfpjhanlaa.U



/-! The walks of lorryref12's has, bit, decimal. -/
namespace Go.Proofs.Ytoliacfpjhanlaa.T
open Go.RowKit
set_option maxRecDepth 8000

theorem dec12_round {x z d : Nat} (hx : 10 ≤ x) (hd : d = x % 10) (hz : z = x / 10) {s N : List UInt8} (h : Lib.decDigits x ++ s = N) : Lib.decDigits z ++ (UInt8.ofNat (48 + d) :: s) = N := by
  rw [dec_big (by omega), List.append_assoc, ← hd, ← hz] at h
  exact h
theorem one_string (wr : World) (d : Nat) (hd : d < 10) :
    (convert 129 9 (.slice (some ⟨wr.heap.size, 0, none⟩) 1 1)).run Try.prog (wr.alloc (.cells #[.int .u8 (48 + (d : Int))] 5)) = .ok (.string ⟨#[UInt8.ofNat (48 + d)]⟩) (wr.alloc (.cells #[.int .u8 (48 + (d : Int))] 5)) := by
  have e : (48 + (d : Int)) = ((UInt8.ofNat (48 + d)).toNat : Int) := by rw [toNat_digit d hd]; omega
  rw [e]
  exact own_string (B := wr.heap.size) (v := .slice (some ⟨wr.heap.size, 0, none⟩) 1 1) (n := 1) (l := [UInt8.ofNat (48 + d)]) ⟨by simp [bc], .inr ⟨wr.heap.size, 1, _, rfl, Nat.le_refl _, heap_alloc_new wr _, Nat.le_refl _, by decide, rfl, rfl⟩⟩
set_option maxHeartbeats 400000 in
theorem decimal12_n (n : Nat) (hn : n ≤ 1000000000) (w : World) :
    Calls Try.prog 95 #[.int .i64 n] w fun e w' => e = .returned (.string (dec n)) ∧ Below w.heap.size w w' := by
  have HN : Hid (dec n = ⟨(Lib.decDigits n).toArray⟩) := rfl
  have hlen := dec_len 9 n (by omega)
  generalize dec n = r at *
  generalize hN : Lib.decDigits n = N at *
  go_enter Try.func95, Try.ntmps95
  go_wp2_with fail
  go_loopw [0, 3] (fun a b wr => ∃ (s : List UInt8) (x : Nat), b = .string ⟨s.toArray⟩ ∧ a = .int .i64 x ∧ x ≤ 1000000000 ∧ Hid (Below w.heap.size w wr) ∧ Hid (Lib.decDigits x ++ s = N)) (fun a _ _ => (intOf a).toNat)
  case atStart => exact ⟨[], n, rfl, rfl, hn, Below.refl _ _, by show _ = _; rw [List.append_nil]; exact hN⟩
  case round =>
    clear hN
    obtain ⟨s, x, rfl, rfl, hx, HB, HS⟩ := hrel
    have hsl : s.length ≤ 10 := by
      have h2 := congrArg List.length HS.out
      rw [List.length_append] at h2
      omega
    by_cases h10 : 10 ≤ x
    · obtain ⟨d, hd⟩ : ∃ d, d = x % 10 := ⟨_, rfl⟩
      obtain ⟨z, hz⟩ : ∃ z, z = x / 10 := ⟨_, rfl⟩
      have HR := Lib.hid (dec12_round h10 hd hz HS.out)
      have hd9 : d < 10 := by omega
      have hz9 : z < x := by omega
      have e1 : ((x : Int).tmod 10) = (d : Int) := by rw [Int.tmod_eq_emod_of_nonneg (by omega)]; omega
      have e2 : ((x : Int).tdiv 10) = (z : Int) := by rw [Int.tdiv_eq_ediv_of_nonneg (by omega)]; omega
      have hcv := one_string wr d hd9
      have HB2 := Lib.hid (over HB.out (below_alloc wr (.cells #[.int .u8 (48 + (d : Int))] 5)))
      clear hd hz HS
      go_wp2_with fail
      go_roundw
      case rel => exact ⟨_, z, cat1 _ _, rfl, by omega, HB2, by simpa using HR⟩
      case measure => simp [intOf]; omega
    · have hcv := one_string wr x (by omega)
      have HR : Hid (N = UInt8.ofNat (48 + x) :: s) := by show _ = _; rw [← HS.out, dec_small (by omega)]; rfl
      have HB2 := Lib.hid (over HB.out (below_alloc wr (.cells #[.int .u8 (48 + (x : Int))] 5)))
      clear HS
      go_wp2_with fail
      go_ret
      exact ⟨by rw [HN.out, HR.out]; exact congrArg Ending.returned (by simpa using cat1 (UInt8.ofNat (48 + x)) s), HB2.out⟩

end Go.Proofs.Ytoliacfpjhanlaa.T



/-! The walk of lorryref12's faults. -/
namespace Go.Proofs.Ytoliacfpjhanlaa.T
open Go.RowKit
set_option maxRecDepth 8000

/-! ### the faults of pairs -/
def badP (n : Int) (p : Int × Int) : Bool := decide (p.1 < 0) || decide (n ≤ p.1) || decide (p.2 < 0) || decide (n ≤ p.2) || p.1 == p.2
def eqP (turned : Bool) (q p : Int × Int) : Bool := (q.1 == p.1 && q.2 == p.2) || (turned && (q.1 == p.2 && q.2 == p.1))
def twiceP (turned : Bool) (l : List (Int × Int)) (i k : Nat) : Bool := (l.take k).any fun q => eqP turned q (l.getD i (0, 0))
def pairE (n : Int) (turned : Bool) (l : List (Int × Int)) (i : Nat) : List Int := if badP n (l.getD i (0, 0)) then [2] else if twiceP turned l i i then [6] else []
def atW (word : ByteArray) (i : Nat) : ByteArray := word ++ ⟨#[32]⟩ ++ dec i
def pfF (n : Int) (l : List (Int × Int)) (word : ByteArray) (turned : Bool) : Nat → List (Int × ByteArray)
  | 0 => if 16 < l.length then [(4, word)] else []
  | k + 1 => pfF n l word turned k ++ (pairE n turned l k).map fun e => (e, atW word k)
def pairF (n : Int) (l : List (Int × Int)) (word : ByteArray) (turned : Bool) : List (Int × ByteArray) := pfF n l word turned l.length
theorem pfF_len (n : Int) (l : List (Int × Int)) (word : ByteArray) (turned : Bool) : ∀ k, (pfF n l word turned k).length ≤ k + 1
  | 0 => by unfold pfF; split <;> simp
  | k + 1 => by
    unfold pfF
    rw [List.length_append, List.length_map]
    have h1 := pfF_len n l word turned k
    have h2 : (pairE n turned l k).length ≤ 1 := by
      unfold pairE
      split
      · simp
      · split <;> simp
    omega
theorem twice_step_R {turned : Bool} {l : List (Int × Int)} {i k : Nat} (h : k < l.length) : twiceP turned l i (k + 1) = (twiceP turned l i k || eqP turned (l.getD k (0, 0)) (l.getD i (0, 0))) := by
  unfold twiceP
  rw [take_more (d := (0, 0)) h, List.any_append]
  simp
theorem ps_at {w : World} {oa : Option Addr} {c : Nat} {l : List (Int × Int)} (h : Ps w (.slice oa l.length c) l) {k : Nat} (hk : k < l.length) :
    ∃ b o, oa = some ⟨b, o, none⟩ ∧ b < w.heap.size ∧ w.cell? ⟨b, o + k * 2, none⟩ = some (.int .i64 (l.getD k (0, 0)).1) ∧ w.cell? ⟨b, o + k * 2 + 1, none⟩ = some (.int .i64 (l.getD k (0, 0)).2) := by
  obtain ⟨oa', c', hv, h⟩ := h
  simp only [Value.slice.injEq] at hv
  obtain ⟨rfl, -, rfl⟩ := hv
  obtain ⟨b, o, ha, hl, h0, h1⟩ := h k hk
  exact ⟨b, o, ha, hl, h0, h1⟩
set_option maxHeartbeats 6400000 in
theorem faults12_n (n : Int) (v : Value) (l : List (Int × Int)) (word : ByteArray) (turned : Bool) (hl : l.length ≤ 2000000) (hw : word.size ≤ 100) (w : World) (hv : Ps w v l) :
    Calls Try.prog 80 #[.int .i64 n, v, .string word, .bool turned] w (ChkP (pairF n l word turned) w) := by
  have HV := Lib.hid hv
  obtain ⟨oa, c, rfl, -⟩ := hv
  have HE : Hid (pfF n l word turned l.length = pairF n l word turned) := rfl
  have H0 : Hid (pfF n l word turned 0 = if 16 < l.length then [(4, word)] else []) := rfl
  have HS : Hid (∀ k, pfF n l word turned (k + 1) = pfF n l word turned k ++ (pairE n turned l k).map fun e => (e, atW word k)) := fun _ => rfl
  have HPE : Hid (∀ k, pairE n turned l k = if badP n (l.getD k (0, 0)) then [2] else if twiceP turned l k k then [6] else []) := fun _ => rfl
  have HT := Lib.hid (fun i k (hk : k < l.length) => twice_step_R (turned := turned) (i := i) hk)
  have HT0 : Hid (∀ i, twiceP turned l i 0 = false) := fun _ => rfl
  have HL := Lib.hid (pfF_len n l word turned)
  generalize pairF n l word turned = r at *
  generalize hn : l.length = m at *
  have HM := Lib.hid hn
  clear hn
  go_enter Try.func80, Try.ntmps80
  go_upto_if 18 with fail
  go_cut [9] from 9 to 23 (fun v wx => Hid (Gl w.heap.size wx v (pfF n l word turned 0)) ∧ Hid (Below w.heap.size w wx))
  case first =>
    by_cases hb : 16 < m
    · have hbI : (16 : Int) < (m : Int) := by omega
      have HF : Hid (pfF n l word turned 0 = [] ++ [(4, word)]) := by show _ = _; rw [H0.out, if_pos hb]; rfl
      clear hb
      go_wp2_with (at_builtin; refine wpList_append_run rfl _ _ 54 rfl rfl rfl (ap_f1 _ 4 word (Gl.nil _ w) (Nat.le_refl _) (by simp)) ?_)
      intro v3 w3 hg3 hb3
      go_wp2_with fail
      go_meet
      case rel => exact ⟨HF.out ▸ hg3, hb3⟩
    · have hbI : ¬ (16 : Int) < (m : Int) := by omega
      have HF : Hid (pfF n l word turned 0 = []) := by show _ = _; rw [H0.out, if_neg hb]
      clear hb
      go_wp2_with fail
      go_meet
      case rel => exact ⟨HF.out ▸ Gl.nil _ _, Below.refl _ _⟩
  obtain ⟨HG, HB⟩ := hcut
  go_wp2_with fail
  go_loopg [9, 10] m (fun g v j wr => ∃ k : Nat, k ≤ m ∧ j = .int .i64 k ∧ m - k ≤ g ∧ Hid (Gl w.heap.size wr v (pfF n l word turned k)) ∧ Hid (Below w.heap.size w wr))
  case atStart => exact ⟨0, Nat.zero_le _, rfl, Nat.le_refl _, HG, HB⟩
  case round =>
    clear HG HB H0
    obtain ⟨k, hkm, rfl, hg, HG, HB⟩ := hrel
    by_cases hlt : k < m
    · obtain ⟨b, o, rfl, hab, x0, x1⟩ := ps_at (by have := HV.out; rw [← HM.out] at this; exact this) (show k < l.length by rw [HM.out]; exact hlt)
      have y0 := (HB.out.cell (p := ⟨b, _, none⟩) hab).trans x0
      have y1 := (HB.out.cell (p := ⟨b, _, none⟩) hab).trans x1
      have hkI : (k : Int) < (m : Int) := by omega
      have hk9 : k ≤ 1000000000 := by omega
      have HSk := Lib.hid (HS.out k)
      have HPk := Lib.hid (HPE.out k)
      have KD := Lib.hid (fun w => decimal12_n k hk9 w)
      have hds := dec_size hk9
      obtain ⟨p, hp⟩ : ∃ p, l.getD k (0, 0) = p := ⟨_, rfl⟩
      rw [hp] at y0 y1 HPk
      have HPp := Lib.hid hp
      have HAt : Hid (atW word k = word ++ ⟨#[32]⟩ ++ dec k) := rfl
      generalize atW word k = at' at *
      generalize dec k = dk at *
      clear x0 x1 hp
      go_wp2_with fail
      refine (KD.out _).mono ?_
      rintro e w1 ⟨rfl, b1⟩
      have HG1 := Lib.hid (HG.out.frame b1)
      have HB1 := Lib.hid (over HB.out b1)
      have z0 := (HB1.out.cell (p := ⟨b, _, none⟩) hab).trans ((HB.out.cell (p := ⟨b, _, none⟩) hab).symm.trans y0)
      clear b1 HG HB KD y0 y1
      go_upto_region 10 with fail
      clear z0
      go_cut [65] from 45 to 65 (fun t wx => t = .bool (badP n p) ∧ w1 = wx)
      case first =>
        have HBd : Hid (badP n p = (decide (p.1 < 0) || decide (n ≤ p.1) || decide (p.2 < 0) || decide (n ≤ p.2) || p.1 == p.2)) := rfl
        generalize badP n p = bd at *
        generalize p.1 = x at *
        generalize p.2 = y at *
        by_cases h1 : x < 0
        · have HR : Hid (bd = true) := by show _ = _; rw [HBd.out, decide_eq_true h1]; rfl
          go_wp2_with fail
          go_meet
          case rel => exact ⟨by rw [HR.out], rfl⟩
        by_cases h2 : n ≤ x
        · have HR : Hid (bd = true) := by show _ = _; rw [HBd.out, decide_eq_true h2]; simp
          go_wp2_with fail
          go_meet
          case rel => exact ⟨by rw [HR.out], rfl⟩
        by_cases h3 : y < 0
        · have HR : Hid (bd = true) := by show _ = _; rw [HBd.out, decide_eq_true h3]; simp
          go_wp2_with fail
          go_meet
          case rel => exact ⟨by rw [HR.out], rfl⟩
        by_cases h4 : n ≤ y
        · have HR : Hid (bd = true) := by show _ = _; rw [HBd.out, decide_eq_true h4]; simp
          go_wp2_with fail
          go_meet
          case rel => exact ⟨by rw [HR.out], rfl⟩
        have HR : Hid (bd = (x == y)) := by show _ = _; rw [HBd.out, decide_eq_false h1, decide_eq_false h2, decide_eq_false h3, decide_eq_false h4]; rfl
        go_wp2_with fail
        go_meet
        case rel => exact ⟨by rw [HR.out], rfl⟩
      obtain ⟨rfl, rfl⟩ := hcut
      cases hbd : badP n p
      · rw [hbd] at HPk
        have HPk : Hid (pairE n turned l k = if twiceP turned l k k then [6] else []) := by show _ = _; rw [HPk.out]; simp
        clear hbd
        have HT0k := Lib.hid (HT0.out k)
        have HTk := Lib.hid (fun i (hi : i < m) => HT.out k i hi)
        clear HT0 HT HPE HS
        go_wp2_with fail
        go_loopg [14, 15] k (fun g2 t j wr2 => ∃ i : Nat, i ≤ k ∧ j = .int .i64 i ∧ k - i ≤ g2 ∧ t = .bool (twiceP turned l k i) ∧ w1 = wr2)
        case atStart => exact ⟨0, Nat.zero_le _, rfl, Nat.le_refl _, by rw [HT0k.out], rfl⟩
        case round =>
          obtain ⟨i, hik, rfl, hg2, rfl, rfl⟩ := hrel
          by_cases hi : i < k
          · have hil : i < l.length := by rw [HM.out]; omega
            obtain ⟨b', o', hbo, hab', x0, x1⟩ := ps_at (by have := HV.out; rw [← HM.out] at this; exact this) hil
            simp only [Option.some.injEq, Addr.mk.injEq, and_true] at hbo
            obtain ⟨rfl, rfl⟩ := hbo
            have q0 := (HB1.out.cell (p := ⟨b, _, none⟩) hab).trans x0
            have q1 := (HB1.out.cell (p := ⟨b, _, none⟩) hab).trans x1
            have hiI : (i : Int) < (k : Int) := by omega
            have himI : (i : Int) < (m : Int) := by omega
            have HTi := Lib.hid (HTk.out i (by omega))
            rw [HPp.out] at HTi
            clear x0 x1
            generalize l.getD i (0, 0) = q at *
            generalize twiceP turned l k i = tw at *
            have HEq : Hid (eqP turned q p = ((q.1 == p.1 && q.2 == p.2) || (turned && (q.1 == p.2 && q.2 == p.1)))) := rfl
            generalize eqP turned q p = eq at *
            generalize q.1 = x at *
            generalize q.2 = y at *
            generalize p.1 = x' at *
            generalize p.2 = y' at *
            cases tw
            · by_cases h1 : x = x'
              · by_cases h2 : y = y'
                · have HR : Hid (eq = true) := by show _ = _; rw [HEq.out, h1, h2]; simp
                  subst h1 h2
                  go_wp2_with fail
                  go_roundg (k - (i + 1))
                  case measure => omega
                  case rel => exact ⟨i + 1, by omega, by go_num, by omega, by rw [HTi.out, HR.out]; rfl, rfl⟩
                · cases turned
                  · have HR : Hid (eq = false) := by show _ = _; rw [HEq.out, ne_eqI h2]; simp
                    have h2' := ne_eqI h2
                    subst h1
                    go_wp2_with fail
                    go_roundg (k - (i + 1))
                    case measure => omega
                    case rel => exact ⟨i + 1, by omega, by go_num, by omega, by rw [HTi.out, HR.out]; rfl, rfl⟩
                  · have HR : Hid (eq = (x == y' && y == x')) := by show _ = _; rw [HEq.out, ne_eqI h2]; simp
                    have h2' := ne_eqI h2
                    subst h1
                    by_cases h3 : x = y'
                    · subst h3
                      have HR2 : Hid (eq = false) := by show _ = _; rw [HR.out, ne_eqI h2]; simp
                      go_wp2_with fail
                      go_roundg (k - (i + 1))
                      case measure => omega
                      case rel => exact ⟨i + 1, by omega, by go_num, by omega, by rw [HTi.out, HR2.out]; rfl, rfl⟩
                    · have h3' := ne_eqI h3
                      have HR2 : Hid (eq = false) := by show _ = _; rw [HR.out, h3']; rfl
                      go_wp2_with fail
                      go_roundg (k - (i + 1))
                      case measure => omega
                      case rel => exact ⟨i + 1, by omega, by go_num, by omega, by rw [HTi.out, HR2.out]; rfl, rfl⟩
              · have h1' := ne_eqI h1
                cases turned
                · have HR : Hid (eq = false) := by show _ = _; rw [HEq.out, h1']; simp
                  go_wp2_with fail
                  go_roundg (k - (i + 1))
                  case measure => omega
                  case rel => exact ⟨i + 1, by omega, by go_num, by omega, by rw [HTi.out, HR.out]; rfl, rfl⟩
                · have HR : Hid (eq = (x == y' && y == x')) := by show _ = _; rw [HEq.out, h1']; simp
                  by_cases h3 : x = y'
                  · subst h3
                    by_cases h4 : y = x'
                    · subst h4
                      have HR2 : Hid (eq = true) := by show _ = _; rw [HR.out]; simp
                      go_wp2_with fail
                      go_roundg (k - (i + 1))
                      case measure => omega
                      case rel => exact ⟨i + 1, by omega, by go_num, by omega, by rw [HTi.out, HR2.out]; rfl, rfl⟩
                    · have h4' := ne_eqI h4
                      have HR2 : Hid (eq = false) := by show _ = _; rw [HR.out, h4']; simp
                      go_wp2_with fail
                      go_roundg (k - (i + 1))
                      case measure => omega
                      case rel => exact ⟨i + 1, by omega, by go_num, by omega, by rw [HTi.out, HR2.out]; rfl, rfl⟩
                  · have h3' := ne_eqI h3
                    have HR2 : Hid (eq = false) := by show _ = _; rw [HR.out, h3']; rfl
                    go_wp2_with fail
                    go_roundg (k - (i + 1))
                    case measure => omega
                    case rel => exact ⟨i + 1, by omega, by go_num, by omega, by rw [HTi.out, HR2.out]; rfl, rfl⟩
            · go_wp2_with fail
              go_roundg (k - (i + 1))
              case measure => omega
              case rel => exact ⟨i + 1, by omega, by go_num, by omega, by rw [HTi.out]; simp, rfl⟩
          · have hii : i = k := by omega
            subst hii
            cases htw : twiceP turned l i i
            · have HX : Hid (pfF n l word turned (i + 1) = pfF n l word turned i) := by show _ = _; rw [HSk.out, HPk.out, htw]; simp
              have HG3 : Hid (Gl w.heap.size w1 u9 (pfF n l word turned (i + 1))) := by show Gl _ _ _ _; rw [HX.out]; exact HG1.out
              clear htw HPk HSk HX
              go_wp2_with fail
              go_roundg (m - (i + 1))
              case measure => omega
              case rel => exact ⟨i + 1, by omega, by go_num, by omega, HG3, HB1⟩
            · have HX : Hid (pfF n l word turned (i + 1) = pfF n l word turned i ++ [(6, at')]) := by show _ = _; rw [HSk.out, HPk.out, htw]; rfl
              have hll := HL.out i
              have hsz := HB1.out.size
              clear htw HPk HSk
              go_wp2_with (at_builtin; refine wpList_append_run rfl _ _ 54 rfl rfl rfl (ap_f1 _ 6 (word ++ ⟨#[32]⟩ ++ dk) HG1.out hsz (by omega)) ?_)
              intro v3 w3 hg3 hb3
              have HG3 : Hid (Gl w.heap.size w3 v3 (pfF n l word turned (i + 1))) := by show Gl _ _ _ _; rw [HX.out, HAt.out]; exact hg3
              have HB3 := Lib.hid (HB1.out.trans hb3)
              clear hg3 hb3
              go_wp2_with fail
              go_roundg (m - (i + 1))
              case measure => omega
              case rel => exact ⟨i + 1, by omega, by go_num, by omega, HG3, HB3⟩
      · rw [hbd] at HPk
        have HX : Hid (pfF n l word turned (k + 1) = pfF n l word turned k ++ [(2, at')]) := by show _ = _; rw [HSk.out, HPk.out]; rfl
        have hll := HL.out k
        have hsz := HB1.out.size
        clear hbd HPk HSk
        go_wp2_with (at_builtin; refine wpList_append_run rfl _ _ 54 rfl rfl rfl (ap_f1 _ 2 (word ++ ⟨#[32]⟩ ++ dk) HG1.out hsz (by omega)) ?_)
        intro v3 w3 hg3 hb3
        have HG3 : Hid (Gl w.heap.size w3 v3 (pfF n l word turned (k + 1))) := by show Gl _ _ _ _; rw [HX.out, HAt.out]; exact hg3
        have HB3 := Lib.hid (HB1.out.trans hb3)
        clear hg3 hb3
        go_wp2_with fail
        go_roundg (m - (k + 1))
        case measure => omega
        case rel => exact ⟨k + 1, by omega, by go_num, by omega, HG3, HB3⟩
    · have hkk : k = m := by omega
      subst hkk
      have HR := Lib.hid HE.out
      go_wp2_with fail
      go_ret
      exact chkP (HR.out ▸ HG.out) HB.out (Nat.le_refl _)

end Go.Proofs.Ytoliacfpjhanlaa.T



/-! The walks of lorryref12's Check and Right. -/
namespace Go.Proofs.Ytoliacfpjhanlaa.T
open Go.RowKit
set_option maxRecDepth 8000

def apartW : ByteArray := ⟨#[97, 112, 97, 114, 116]⟩
def beforeW : ByteArray := ⟨#[98, 101, 102, 111, 114, 101]⟩
/-- the faults of the pairs of an instance -/
def checkF (n : Int) (ap be : List (Int × Int)) : List (Int × ByteArray) := pairF n ap apartW true ++ pairF n be beforeW false
theorem pairF_len (n : Int) (l : List (Int × Int)) (word : ByteArray) (turned : Bool) : (pairF n l word turned).length ≤ l.length + 1 := pfF_len n l word turned l.length
set_option maxHeartbeats 3200000 in
theorem check12_n (n : Int) (v u : Value) (ap be : List (Int × Int)) (ha : ap.length ≤ 2000000) (hb : be.length ≤ 2000000) (w : World) (hv : Ps w v ap) (hu : Ps w u be) :
    Calls Try.prog 57 #[.int .i64 n, v, u] w (ChkP (checkF n ap be) w) := by
  have K1 := Lib.hid (fun w hv => faults12_n n v ap apartW true ha (by decide) w hv)
  have K2 := Lib.hid (fun w hv => faults12_n n u be beforeW false hb (by decide) w hv)
  have HV := Lib.hid hv
  have HU := Lib.hid hu
  have h1 := pairF_len n ap apartW true
  have h2 := pairF_len n be beforeW false
  have HR : Hid (pairF n ap apartW true ++ pairF n be beforeW false = checkF n ap be) := rfl
  generalize checkF n ap be = r at *
  generalize pairF n ap apartW true = r1 at *
  generalize pairF n be beforeW false = r2 at *
  unfold apartW at K1
  unfold beforeW at K2
  clear hv hu
  go_enter Try.func57, Try.ntmps57
  go_wp2_with fail
  refine (K1.out _ HV.out).mono ?_
  intro e w1 h
  obtain ⟨v1, rfl, -, hg1, b1⟩ := Lf.of_chk h
  have HG1 := Lib.hid hg1
  have B1 := Lib.hid b1
  have HU1 := Lib.hid (HU.out.below b1)
  clear hg1 b1 h HU K1
  go_wp2_with fail
  refine (K2.out _ HU1.out).mono ?_
  intro e w2 h
  obtain ⟨v2, rfl, hl2, -, b2⟩ := Lf.of_chk h
  have HG2 := Lib.hid (HG1.out.frame b2)
  have HL2 := Lib.hid hl2
  have B2 := Lib.hid (over B1.out b2)
  have hsz := B2.out.size
  clear hl2 b2 h HG1 B1 HU1 K2
  go_wp2_with (at_builtin; refine wpList_append_run rfl _ _ 54 rfl rfl rfl (ap_f _ HG2.out HL2.out hsz (by omega)) ?_)
  intro v3 w3 hg3 hb3 _ _
  have HG3 := Lib.hid hg3
  have B3 := Lib.hid (B2.out.trans hb3)
  clear hg3 hb3
  go_wp2_with fail
  go_ret
  exact chkP (HR.out ▸ HG3.out) B3.out (Nat.le_refl _)

/-- block q holds an instance -/
def Ib (w : World) (q : Nat) (x0 x1 x2 x3 x4 x5 : Value) : Prop := w.heap[q]? = some (.cells #[x0, x1, x2, x3, x4, x5] 30)
section
variable {w w' : World} {q : Nat} {x0 x1 x2 x3 x4 x5 : Value}
theorem Ib.c0 (h : Ib w q x0 x1 x2 x3 x4 x5) : w.cell? ⟨q, 0, none⟩ = some x0 := by unfold Ib at h; simp [World.cell?, h]
theorem Ib.c1 (h : Ib w q x0 x1 x2 x3 x4 x5) : w.cell? ⟨q, 1, none⟩ = some x1 := by unfold Ib at h; simp [World.cell?, h]
theorem Ib.c2 (h : Ib w q x0 x1 x2 x3 x4 x5) : w.cell? ⟨q, 2, none⟩ = some x2 := by unfold Ib at h; simp [World.cell?, h]
theorem Ib.c3 (h : Ib w q x0 x1 x2 x3 x4 x5) : w.cell? ⟨q, 3, none⟩ = some x3 := by unfold Ib at h; simp [World.cell?, h]
theorem Ib.c4 (h : Ib w q x0 x1 x2 x3 x4 x5) : w.cell? ⟨q, 4, none⟩ = some x4 := by unfold Ib at h; simp [World.cell?, h]
theorem Ib.c5 (h : Ib w q x0 x1 x2 x3 x4 x5) : w.cell? ⟨q, 5, none⟩ = some x5 := by unfold Ib at h; simp [World.cell?, h]
theorem Ib.lt (h : Ib w q x0 x1 x2 x3 x4 x5) : q < w.heap.size := by
  apply Decidable.byContradiction
  intro hc
  unfold Ib at h
  rw [Array.getElem?_eq_none (by omega)] at h; cases h
theorem Ib.below (h : Ib w q x0 x1 x2 x3 x4 x5) (hb : Below w.heap.size w w') : Ib w' q x0 x1 x2 x3 x4 x5 := (hb.block q h.lt).trans h
theorem Ib.made (w : World) (x0 x1 x2 x3 x4 x5 : Value) : Ib (w.alloc (.cells #[x0, x1, x2, x3, x4, x5] 30)) w.heap.size x0 x1 x2 x3 x4 x5 := by
  show (w.heap.push _)[w.heap.size]? = _
  simp
end
/-- an instance by value -/
def inV (x0 x1 x2 x3 x4 x5 : Value) : Value := .agg #[x0, x1, x2, x3, x4, x5]
end Go.Proofs.Ytoliacfpjhanlaa.T



/-! The walk of lorryref12's Allowed (written by gen_refru7.py). -/
namespace Go.Proofs.Ytoliacfpjhanlaa.T
open Go.RowKit
set_option maxRecDepth 8000

/-- which of n orders are cancelled -/
def Ofs (w : World) (oa : Option Addr) (n : Nat) (off : Nat → Bool) : Prop := ∀ i, i < n → ∃ b o, oa = some ⟨b, o, none⟩ ∧ b < w.heap.size ∧ w.cell? ⟨b, o + i * 16 + 15, none⟩ = some (.bool (off i))
theorem Ofs.below {w w' : World} {oa : Option Addr} {n : Nat} {off : Nat → Bool} (h : Ofs w oa n off) (hb : Below w.heap.size w w') : Ofs w' oa n off := fun i hi => by
  obtain ⟨b, o, ha, hl, hc⟩ := h i hi
  exact ⟨b, o, ha, Nat.lt_of_lt_of_le hl hb.size, (hb.cell (p := ⟨b, _, none⟩) hl).trans hc⟩
theorem any_yes {p : Nat → Bool} {n i : Nat} (hi : i < n) (h : p i = true) : (List.range n).any p = true := List.any_eq_true.2 ⟨i, List.mem_range.2 hi, h⟩
theorem any_no {p : Nat → Bool} {n : Nat} (h : ∀ i, i < n → p i = false) : (List.range n).any p = false := List.any_eq_false.2 fun i hi => by rw [h i (List.mem_range.1 hi)]; simp
theorem anyl_yes {p : Int × Int → Bool} {l : List (Int × Int)} {i : Nat} (hi : i < l.length) (h : p (l.getD i (0, 0)) = true) : l.any p = true := List.any_eq_true.2 ⟨_, getD_mem hi, h⟩
theorem anyl_no {p : Int × Int → Bool} {l : List (Int × Int)} (h : ∀ i, i < l.length → p (l.getD i (0, 0)) = false) : l.any p = false := List.any_eq_false.2 fun x hx => by
  obtain ⟨i, hi, rfl⟩ := List.getElem_of_mem hx
  have := h i hi
  rw [List.getD_eq_getElem?_getD, List.getElem?_eq_getElem hi] at this
  have h2 : p l[i] = false := this
  rw [h2]; simp
theorem less_more {P : Nat → Prop} {k : Nat} (h : ∀ i, i < k → P i) (hk : P k) : ∀ i, i < k + 1 → P i := fun i hi => by
  by_cases e : i = k
  · subst e; exact hk
  · exact h i (by omega)

end Go.Proofs.Ytoliacfpjhanlaa.T



/-! Orders (of layer 11's text), and which of them are cancelled. -/
namespace Go.Proofs.Ytoliacfpjhanlaa.T
open Go.RowKit
set_option maxRecDepth 8000

/-- which orders are cancelled -/
def offF (l : List OrT) (i : Nat) : Bool := (l.getD i or0).off
theorem Os.ofs {w : World} {oa : Option Addr} {c : Nat} {l : List OrT} (h : Os w (.slice oa l.length c) l) : Ofs w oa l.length (offF l) := fun i hi => by
  obtain ⟨oa', c', hv, h⟩ := h
  simp only [Value.slice.injEq] at hv
  obtain ⟨rfl, -, rfl⟩ := hv
  obtain ⟨b, o, vc, ha, hl, hc, -⟩ := h i hi
  obtain ⟨-, -, -, -, -, -, -, -, -, -, -, -, -, -, -, h15⟩ := hc
  exact ⟨b, o, ha, hl, h15⟩

/-! ### what an int holds -/
def In64 (p : Int × Int) : Prop := I64 p.1 ∧ I64 p.2

end Go.Proofs.Ytoliacfpjhanlaa.T



/-! Slices of pairs, and an instance by value, as arguments (written by gen_ruargs.py). -/
namespace Go.Proofs.Ytoliacfpjhanlaa.T
open Go.Joins Go.ChangeShapes Go.WideShapes Go.ChangeAt Go.RowKit Go.Deep
set_option maxRecDepth 8000

section
variable {H : Type} {enc : TypeId × Value → H}
/-! ### how much is read -/
theorem sum_ge {c n : Nat} {f : Nat → Nat} (h : ∀ i, i < n → c ≤ f i) : c * n ≤ ((List.range n).map f).sum := by
  induction n with
  | zero => simp
  | succ n ih =>
    rw [List.range_succ, List.map_append, List.sum_append]
    have h1 := ih (fun i hi => h i (by omega))
    have h2 := h n (by omega)
    simp only [List.map_cons, List.map_nil, List.sum_cons, List.sum_nil, Nat.add_zero]
    rw [Nat.mul_succ]
    omega
theorem pair_of {W : World} {base : Nat} {cs : List Value} {x : DataW H × List MemPlace} {n : Nat}
    (hf : DataW.trod enc Try.prog W base (fun _ => true) true n 96 cs = some x) : ∃ a b : Int, cs = [.int .i64 a, .int .i64 b] ∧ In64 (a, b) ∧ 3 ≤ Rows.uptoBulk x.1 := by
  have hC : Try.prog.cellsOf 96 = 2 := by kernel_rfl
  have hu : Try.prog.underlying 96 = some (.array 2 3) := Try.underlying96
  obtain ⟨xs, m, _, hx, hlen, hxl, hg⟩ := DataW.trod_array hu hf
  rw [hC] at hlen
  match cs, hlen with
  | [v0, v1], _ =>
    match xs, hxl with
    | [y0, y1], _ =>
      have k0 := hg 0 (by omega)
      have k1 := hg 1 (by omega)
      have o1 : Try.prog.cellsOf 3 = 1 := by kernel_rfl
      simp [o1] at k0 k1
      obtain ⟨q0, e0, _, w0⟩ := DataW.trod_int Try.underlying3 k0
      obtain ⟨q1, e1, _, w1⟩ := DataW.trod_int Try.underlying3 k1
      simp only [List.cons.injEq, and_true] at e0 e1
      subst e0 e1
      subst hx
      have h0 := bulk_pos y0.1
      have h1 := bulk_pos y1.1
      exact ⟨_, _, rfl, ⟨wf_i64 w0, wf_i64 w1⟩, by simp only [List.map_cons, List.map_nil, Rows.uptoBulk, Rows.uptoBulkAll]; omega⟩
theorem pairs_of {W : World} {base : Nat} {v : Value} {y : DataW H × List MemPlace} {n : Nat}
    (hf : DataW.trod enc Try.prog W base (fun _ => true) true n 28 [v] = some y) (hlt : ∀ x ∈ y.2, x.block < W.heap.size) :
    ∃ (oa : Option Addr) (c : Nat) (l : List (Int × Int)), v = .slice oa l.length c ∧ Ps W (.slice oa l.length c) l ∧ (3 * l.length + 1 ≤ Rows.uptoBulk y.1 ∧ ∀ p ∈ l, In64 p) := by
  obtain ⟨y1, y2⟩ := y
  simp only at hlt ⊢
  have hC : Try.prog.cellsOf 96 = 2 := by kernel_rfl
  rcases open_slice Try.underlying28 hf with ⟨hcs, hx⟩ | ⟨a, len, cap, m, n, D, Pl, hcs, _, hl, hm, hmm, hx, hall⟩
  · simp only [List.cons.injEq, and_true] at hcs
    simp only [Prod.mk.injEq] at hx
    obtain ⟨rfl, rfl⟩ := hx
    subst hcs
    exact ⟨none, 0, [], rfl, Sl.nil W, by simp [Rows.uptoBulk], fun _ h => by cases h⟩
  · simp only [List.cons.injEq, and_true] at hcs
    subst hcs
    simp only [if_true] at hmm
    simp only [Prod.mk.injEq] at hx
    rw [hC] at hx hall
    have key : ∀ i, i < len → ∃ q : Int × Int, (W.cell? ((a.add (i * 2)).add 0) = some (pT q) ∧ W.cell? ((a.add (i * 2)).add 1) = some (pA q)) ∧ (In64 q ∧ 3 ≤ Rows.uptoBulk (D i)) := fun i hi => by
      obtain ⟨cs', hc, ht⟩ := hall i (by omega)
      obtain ⟨_, _, hat⟩ := World.cells?_some hc
      obtain ⟨x, y, rfl, h6, h3⟩ := pair_of ht
      exact ⟨(x, y), ⟨by rw [hat 0 (by omega)]; rfl, by rw [hat 1 (by omega)]; rfl⟩, h6, h3⟩
    obtain ⟨q, hq⟩ := choose_lt key
    have hbk : 3 * len + 1 ≤ Rows.uptoBulk y1 := by
      rw [hx.1]
      refine Nat.le_trans ?_ (bulk_slice _ _)
      rw [bulk_sum, List.map_map]
      exact Nat.succ_le_succ (sum_ge fun i hi => (hq i hi).2.2)
    have hln : ((List.range len).map q).length = len := by simp
    refine ⟨some a, cap, (List.range len).map q, by rw [hln], ⟨some a, cap, by rw [hln], fun i hi => ?_⟩, by rw [hln]; exact hbk, fun p hp => by
      rw [List.mem_map] at hp
      obtain ⟨i, hi, rfl⟩ := hp
      exact (hq i (List.mem_range.1 hi)).2.1⟩
    rw [hln] at hi
    obtain ⟨⟨h0, h1⟩, _⟩ := hq i hi
    have eg : ((List.range len).map q).getD i (0, 0) = q i := by
      rw [List.getD_eq_getElem?_getD, List.getElem?_map, List.getElem?_range hi]; rfl
    rw [eg]
    have hb := row_lt (n := i) hx.2 hlt (show i < m * 2 by omega)
    obtain ⟨b, o, spot⟩ := a
    have hspot : spot = none := by
      obtain ⟨⟨z0, _⟩, _⟩ := hq 0 (by omega)
      simpa [Addr.add] using World.cell?_spot z0
    subst hspot
    rw [add_pl, add_pl] at h0 h1
    exact ⟨b, o, rfl, hb, h0, h1⟩
theorem slice_is {W : World} {base : Nat} {t e : TypeId} {v : Value} {y : DataW H × List MemPlace} {n : Nat} (ht : Try.prog.underlying t = some (.slice e))
    (hf : DataW.trod enc Try.prog W base (fun _ => true) true n t [v] = some y) : ∃ (oa : Option Addr) (k c : Nat), v = .slice oa k c := by
  rcases open_slice ht hf with ⟨hcs, _⟩ | ⟨a, len, cap, m, n, D, Pl, hcs, _⟩
  · simp only [List.cons.injEq, and_true] at hcs
    exact ⟨_, _, _, hcs⟩
  · simp only [List.cons.injEq, and_true] at hcs
    exact ⟨_, _, _, hcs⟩
end

end Go.Proofs.Ytoliacfpjhanlaa.T



