/-
  DERIVED. Travel functions in plain lists of pairs: what each function answers.
-/
import Derived.Test.YtmoilpkgoabopaaDoorTRow
import Derived.Lib.ItoaNum
namespace Go.Proofs.YtmoilpkgoabopaaDoor.T

def tickB (t : Int) : Bool := decide (0 ≤ t) && decide (t ≤ 4096)
def longB (p : Int × Int) : Bool := decide (p.1 + 4096 < p.2)
def pointB (p : Int × Int) : Bool := tickB p.1 && (decide (p.1 ≤ p.2) && !longB p)
def beforeB (p q : Int × Int) : Bool := decide (p.1 < q.1) && decide (p.2 ≤ q.2)
def dec (i : Nat) : ByteArray := ⟨(Lib.decDigits i).toArray⟩
def fl0 (n : Nat) : List (Int × ByteArray) := if 1 ≤ n ∧ n ≤ 16 then [] else [(4, ⟨#[]⟩)]
def fl1 (p : Int × Int) (i : Nat) : List (Int × ByteArray) := if pointB p then [] else [(2, dec i)]
def fl2 (p q : Int × Int) (i : Nat) : List (Int × ByteArray) := if beforeB p q then [] else [(13, dec i)]
def fl3 (l : List (Int × Int)) (i : Nat) : List (Int × ByteArray) := if 0 < i then fl2 (l.getD (i - 1) (0, 0)) (l.getD i (0, 0)) i else []
/-- the faults of the first k points -/
def flt (l : List (Int × Int)) : Nat → List (Int × ByteArray)
  | 0 => fl0 l.length
  | k + 1 => flt l k ++ fl1 (l.getD k (0, 0)) k ++ fl3 l k
def faults (l : List (Int × Int)) : List (Int × ByteArray) := flt l l.length
theorem flt_succ (l : List (Int × Int)) (k : Nat) : flt l (k + 1) = flt l k ++ fl1 (l.getD k (0, 0)) k ++ fl3 l k := rfl
theorem fl1_len (p : Int × Int) (i : Nat) : (fl1 p i).length ≤ 1 := by unfold fl1; split <;> simp
theorem fl2_len (p q : Int × Int) (i : Nat) : (fl2 p q i).length ≤ 1 := by unfold fl2; split <;> simp
theorem fl3_len (l : List (Int × Int)) (i : Nat) : (fl3 l i).length ≤ 1 := by
  unfold fl3; split
  · exact fl2_len _ _ _
  · simp
theorem flt_len (l : List (Int × Int)) : ∀ k, (flt l k).length ≤ 2 * k + 1
  | 0 => by unfold flt fl0; split <;> simp
  | k + 1 => by
    rw [flt_succ, List.length_append, List.length_append]
    have := flt_len l k
    have := fl1_len (l.getD k (0, 0)) k
    have := fl3_len l k
    omega

/-- a travel function -/
structure Ok (l : List (Int × Int)) : Prop where
  least : 1 ≤ l.length
  most : l.length ≤ 16
  each : ∀ i, i < l.length → pointB (l.getD i (0, 0)) = true
  next : ∀ i, i + 1 < l.length → beforeB (l.getD i (0, 0)) (l.getD (i + 1) (0, 0)) = true
theorem fl0_nil (n : Nat) : fl0 n = [] ↔ 1 ≤ n ∧ n ≤ 16 := by unfold fl0; split <;> simp [*]
theorem fl1_nil (p : Int × Int) (i : Nat) : fl1 p i = [] ↔ pointB p = true := by unfold fl1; split <;> simp [*]
theorem fl2_nil (p q : Int × Int) (i : Nat) : fl2 p q i = [] ↔ beforeB p q = true := by unfold fl2; split <;> simp [*]
theorem flt_nil (l : List (Int × Int)) : ∀ k, flt l k = [] ↔ (1 ≤ l.length ∧ l.length ≤ 16) ∧ (∀ i, i < k → pointB (l.getD i (0, 0)) = true) ∧ (∀ i, i + 1 < k → beforeB (l.getD i (0, 0)) (l.getD (i + 1) (0, 0)) = true)
  | 0 => by
    show fl0 _ = [] ↔ _
    rw [fl0_nil]
    exact ⟨fun h => ⟨h, fun i hi => absurd hi (Nat.not_lt_zero _), fun i hi => absurd hi (by omega)⟩, fun h => h.1⟩
  | k + 1 => by
    rw [flt_succ, List.append_eq_nil_iff, List.append_eq_nil_iff, flt_nil l k, fl1_nil]
    have h3 : fl3 l k = [] ↔ (0 < k → beforeB (l.getD (k - 1) (0, 0)) (l.getD k (0, 0)) = true) := by
      unfold fl3
      by_cases h : 0 < k
      · rw [if_pos h, fl2_nil]; exact ⟨fun a _ => a, fun a => a h⟩
      · rw [if_neg h]; exact ⟨fun _ a => absurd a h, fun _ => rfl⟩
    rw [h3]
    constructor
    · rintro ⟨⟨⟨h0, h1, h2⟩, hp⟩, hb⟩
      refine ⟨h0, fun i hi => ?_, fun i hi => ?_⟩
      · by_cases e : i = k
        · rw [e]; exact hp
        · exact h1 i (by omega)
      · by_cases e : i + 1 = k
        · have := hb (by omega)
          rw [← e] at this
          exact this
        · exact h2 i (by omega)
    · rintro ⟨h0, h1, h2⟩
      refine ⟨⟨⟨h0, fun i hi => h1 i (by omega), fun i hi => h2 i (by omega)⟩, h1 k (by omega)⟩, fun hk => ?_⟩
      have := h2 (k - 1) (by omega)
      rwa [show k - 1 + 1 = k by omega] at this
theorem faults_nil (l : List (Int × Int)) : faults l = [] ↔ Ok l := by
  unfold faults
  rw [flt_nil]
  exact ⟨fun ⟨h0, h1, h2⟩ => ⟨h0.1, h0.2, h1, h2⟩, fun h => ⟨⟨h.least, h.most⟩, h.each, h.next⟩⟩
def okB (l : List (Int × Int)) : Bool := decide ((faults l).length = 0)
theorem okB_iff (l : List (Int × Int)) : okB l = true ↔ Ok l := by
  unfold okB
  rw [decide_eq_true_iff, List.length_eq_zero_iff, faults_nil]
theorem okB_false {l : List (Int × Int)} (h : ¬ Ok l) : okB l = false := by
  cases e : okB l
  · rfl
  · exact absurd ((okB_iff l).1 e) h
theorem okB_len (l : List (Int × Int)) : (decide (l.length ≤ 16) && decide ((faults l).length = 0)) = okB l := by
  show (decide (l.length ≤ 16) && okB l) = okB l
  cases e : okB l
  · rw [Bool.and_false]
  · rw [decide_eq_true ((okB_iff l).1 e).most]; rfl
theorem pointB_iff (p : Int × Int) : pointB p = true ↔ 0 ≤ p.1 ∧ p.1 ≤ 4096 ∧ p.1 ≤ p.2 ∧ p.2 ≤ p.1 + 4096 := by
  unfold pointB tickB longB
  simp [Bool.and_eq_true]
  omega
theorem beforeB_iff (p q : Int × Int) : beforeB p q = true ↔ p.1 < q.1 ∧ p.2 ≤ q.2 := by
  unfold beforeB
  simp [Bool.and_eq_true]
theorem Ok.at {l : List (Int × Int)} (h : Ok l) {i : Nat} (hi : i < l.length) : 0 ≤ (l.getD i (0, 0)).1 ∧ (l.getD i (0, 0)).1 ≤ 4096 ∧ (l.getD i (0, 0)).1 ≤ (l.getD i (0, 0)).2 ∧ (l.getD i (0, 0)).2 ≤ (l.getD i (0, 0)).1 + 4096 := (pointB_iff _).1 (h.each i hi)
theorem Ok.lt {l : List (Int × Int)} (h : Ok l) {i : Nat} (hi : i + 1 < l.length) : (l.getD i (0, 0)).1 < (l.getD (i + 1) (0, 0)).1 ∧ (l.getD i (0, 0)).2 ≤ (l.getD (i + 1) (0, 0)).2 := (beforeB_iff _ _).1 (h.next i hi)

/-! ### arrivals -/
def quo (p q : Int × Int) (t : Int) : Int := p.2 + ((t - p.1) * (q.2 - p.2) + (q.1 - p.1) - 1) / (q.1 - p.1)
def arrT : Int × Int → List (Int × Int) → Int → Int
  | p, [], t => t + (p.2 - p.1)
  | p, q :: r, t => if t < q.1 then quo p q t else arrT q r t
def arr : List (Int × Int) → Int → Int
  | [], _ => 0
  | p :: r, t => if t < p.1 then t + (p.2 - p.1) else arrT p r t
theorem arr_cons (p : Int × Int) (r : List (Int × Int)) (t : Int) : arr (p :: r) t = if t < p.1 then t + (p.2 - p.1) else arrT p r t := rfl
theorem arrT_nil (p : Int × Int) (t : Int) : arrT p [] t = t + (p.2 - p.1) := rfl
theorem arrT_cons (p q : Int × Int) (r : List (Int × Int)) (t : Int) : arrT p (q :: r) t = if t < q.1 then quo p q t else arrT q r t := rfl
/-- the arrival, once the first k points are known to be at t or before -/
def arrX (l : List (Int × Int)) (t : Int) : Nat → Int
  | 0 => arr l t
  | k + 1 => arrT (l.getD k (0, 0)) (l.drop (k + 1)) t
theorem arrX_zero (l : List (Int × Int)) (t : Int) : arrX l t 0 = arr l t := rfl
theorem arrX_step {l : List (Int × Int)} {t : Int} {k : Nat} (hk : k < l.length) (ht : (l.getD k (0, 0)).1 ≤ t) : arrX l t k = arrX l t (k + 1) := by
  cases k with
  | zero =>
    cases l with
    | nil => simp at hk
    | cons p r =>
      have hp : p.1 ≤ t := ht
      show (if t < p.1 then _ else arrT p r t) = arrT p r t
      rw [if_neg (by omega)]
  | succ k =>
    show arrT _ (l.drop (k + 1)) t = arrT _ _ t
    rw [drop_more (d := (0, 0)) hk]
    generalize l.getD (k + 1) (0, 0) = q at *
    show (if t < q.1 then _ else _) = _
    rw [if_neg (by omega)]
theorem arr_first {l : List (Int × Int)} {t : Int} (hk : 0 < l.length) (ht : t < (l.getD 0 (0, 0)).1) : arr l t = t + ((l.getD 0 (0, 0)).2 - (l.getD 0 (0, 0)).1) := by
  cases l with
  | nil => simp at hk
  | cons p r => exact if_pos ht
theorem arrX_end {l : List (Int × Int)} {t : Int} {k : Nat} (hk : k + 1 = l.length) : arrX l t (k + 1) = t + ((l.getD k (0, 0)).2 - (l.getD k (0, 0)).1) := by
  show arrT _ _ _ = _
  rw [List.drop_of_length_le (by omega)]; rfl
theorem arrX_mid {l : List (Int × Int)} {t : Int} {k : Nat} (hk : k + 1 < l.length) (ht : t < (l.getD (k + 1) (0, 0)).1) : arrX l t (k + 1) = quo (l.getD k (0, 0)) (l.getD (k + 1) (0, 0)) t := by
  show arrT _ _ _ = _
  rw [drop_more (d := (0, 0)) hk]
  exact if_pos ht

/-! ### order of arrivals -/
/-- a ceiling -/
theorem up_le {x y z : Int} (hy : 0 < y) (h : x ≤ z * y) : (x + y - 1) / y ≤ z := by
  have : (x + y - 1) / y < z + 1 := Int.ediv_lt_of_lt_mul hy (by rw [Int.add_mul, Int.one_mul]; omega)
  omega
theorem le_up {x y z : Int} (hy : 0 < y) (h : z * y ≤ x) : z ≤ (x + y - 1) / y := Int.le_ediv_of_mul_le hy (by omega)
theorem up_mono {x x' y : Int} (hy : 0 < y) (h : x ≤ x') : (x + y - 1) / y ≤ (x' + y - 1) / y := Int.ediv_le_ediv hy (by omega)
theorem quo_le {p q : Int × Int} {t : Int} (_h1 : p.1 ≤ t) (h2 : t ≤ q.1) (hpq : p.1 < q.1) (ha : p.2 ≤ q.2) : quo p q t ≤ q.2 := by
  unfold quo
  have hm : (t - p.1) * (q.2 - p.2) ≤ (q.2 - p.2) * (q.1 - p.1) := by
    rw [Int.mul_comm (q.2 - p.2)]
    exact Int.mul_le_mul_of_nonneg_right (by omega) (by omega)
  have := up_le (y := q.1 - p.1) (by omega) hm
  omega
theorem quo_ge {p q : Int × Int} {t : Int} (_h1 : p.1 ≤ t) (hpq : p.1 < q.1) (ha : p.2 ≤ q.2) : p.2 ≤ quo p q t := by
  unfold quo
  have hm : 0 * (q.1 - p.1) ≤ (t - p.1) * (q.2 - p.2) := by
    rw [Int.zero_mul]
    exact Int.mul_nonneg (by omega) (by omega)
  have := le_up (y := q.1 - p.1) (by omega) hm
  omega
theorem quo_mono {p q : Int × Int} {t : Int} (hpq : p.1 < q.1) (ha : p.2 ≤ q.2) : quo p q t ≤ quo p q (t + 1) := by
  unfold quo
  have hm : (t - p.1) * (q.2 - p.2) ≤ (t + 1 - p.1) * (q.2 - p.2) := Int.mul_le_mul_of_nonneg_right (by omega) (by omega)
  have := up_mono (y := q.1 - p.1) (by omega) hm
  omega
theorem quo_far {p q : Int × Int} {t : Int} (h1 : p.1 ≤ t) (h2 : t ≤ q.1) (hpq : p.1 < q.1) (hp : p.1 ≤ p.2) (hq : q.1 ≤ q.2) : t ≤ quo p q t := by
  unfold quo
  have hm : (t - p.2) * (q.1 - p.1) ≤ (t - p.1) * (q.2 - p.2) := by
    have a1 : (t - p.1) * (q.1 - p.2) ≤ (t - p.1) * (q.2 - p.2) := Int.mul_le_mul_of_nonneg_left (by omega) (by omega)
    have a2 : (p.1 - p.2) * (q.1 - p.1) ≤ (p.1 - p.2) * (t - p.1) := by
      have := Int.mul_le_mul_of_nonneg_left (c := p.2 - p.1) (show t - p.1 ≤ q.1 - p.1 by omega) (by omega)
      have e1 : (p.1 - p.2) * (q.1 - p.1) = -((p.2 - p.1) * (q.1 - p.1)) := by rw [← Int.neg_mul]; congr 1; omega
      have e2 : (p.1 - p.2) * (t - p.1) = -((p.2 - p.1) * (t - p.1)) := by rw [← Int.neg_mul]; congr 1; omega
      omega
    grind
  have := le_up (y := q.1 - p.1) (by omega) hm
  omega
theorem quo_at {p q : Int × Int} (hpq : p.1 < q.1) : quo p q p.1 = p.2 := by
  unfold quo
  rw [Int.sub_self, Int.zero_mul, Int.zero_add, Int.ediv_eq_zero_of_lt (by omega) (by omega)]
  omega

def good (p : Int × Int) : Prop := 0 ≤ p.1 ∧ p.1 ≤ 4096 ∧ p.1 ≤ p.2 ∧ p.2 ≤ p.1 + 4096
def chn : Int × Int → List (Int × Int) → Prop
  | p, [] => good p
  | p, q :: r => good p ∧ p.1 < q.1 ∧ p.2 ≤ q.2 ∧ chn q r
theorem chn_good : ∀ {p : Int × Int} {r : List (Int × Int)}, chn p r → good p
  | _, [], h => h
  | _, _ :: _, h => h.1
theorem ok_chn : ∀ (r : List (Int × Int)) (p : Int × Int), (∀ i, i < (p :: r).length → pointB ((p :: r).getD i (0, 0)) = true) → (∀ i, i + 1 < (p :: r).length → beforeB ((p :: r).getD i (0, 0)) ((p :: r).getD (i + 1) (0, 0)) = true) → chn p r
  | [], p, h1, _ => (pointB_iff _).1 (h1 0 (by simp))
  | q :: r, p, h1, h2 => by
    have h3 := (beforeB_iff _ _).1 (h2 0 (by simp))
    exact ⟨(pointB_iff _).1 (h1 0 (by simp)), h3.1, h3.2, ok_chn r q (fun i hi => h1 (i + 1) (by simpa using hi)) (fun i hi => h2 (i + 1) (by simpa using hi))⟩
theorem Ok.chn {l : List (Int × Int)} (h : Ok l) : ∃ p r, l = p :: r ∧ chn p r := by
  cases l with
  | nil => exact absurd h.least (by simp)
  | cons p r => exact ⟨p, r, rfl, ok_chn r p h.each h.next⟩
theorem arrT_ge : ∀ (r : List (Int × Int)) (p : Int × Int) (t : Int), chn p r → p.1 ≤ t → p.2 ≤ arrT p r t ∧ t ≤ arrT p r t ∧ arrT p r t ≤ t + 8192
  | [], p, t, h, ht => by
    have := chn_good h
    unfold good at this
    rw [arrT_nil]
    omega
  | q :: r, p, t, ⟨hp, h1, h2, hc⟩, ht => by
    rw [arrT_cons]
    have hq := chn_good hc
    unfold good at hp hq
    by_cases hlt : t < q.1
    · rw [if_pos hlt]
      have a1 := quo_ge ht h1 h2
      have a2 := quo_far ht (by omega) h1 hp.2.2.1 hq.2.2.1
      have a3 := quo_le ht (by omega) h1 h2
      omega
    · rw [if_neg hlt]
      have := arrT_ge r q t hc (by omega)
      omega
theorem arrT_at : ∀ (r : List (Int × Int)) (p : Int × Int), chn p r → arrT p r p.1 = p.2
  | [], p, _ => by rw [arrT_nil]; omega
  | q :: r, p, ⟨_, h1, _, _⟩ => by
    rw [arrT_cons]
    rw [if_pos h1]
    exact quo_at h1
theorem arrT_mono : ∀ (r : List (Int × Int)) (p : Int × Int) (t : Int), chn p r → p.1 ≤ t → arrT p r t ≤ arrT p r (t + 1)
  | [], p, t, _, _ => by rw [arrT_nil, arrT_nil]; omega
  | q :: r, p, t, ⟨_, h1, h2, hc⟩, ht => by
    rw [arrT_cons, arrT_cons]
    by_cases a : t < q.1
    · rw [if_pos a]
      by_cases b : t + 1 < q.1
      · rw [if_pos b]; exact quo_mono h1 h2
      · rw [if_neg b]
        have := quo_le (p := p) (q := q) ht (by omega) h1 h2
        have := (arrT_ge r q (t + 1) hc (by omega)).1
        omega
    · rw [if_neg a, if_neg (by omega)]
      exact arrT_mono r q t hc (by omega)
section
variable {l : List (Int × Int)} (h : Ok l)
include h
theorem arr_ge {t : Int} (_ht : 0 ≤ t) : t ≤ arr l t ∧ arr l t ≤ t + 8192 := by
  obtain ⟨p, r, rfl, hc⟩ := h.chn
  have hp := chn_good hc
  unfold good at hp
  rw [arr_cons]
  by_cases a : t < p.1
  · rw [if_pos a]; omega
  · rw [if_neg a]
    exact (arrT_ge r p t hc (by omega)).2
theorem arr_mono {t : Int} : arr l t ≤ arr l (t + 1) := by
  obtain ⟨p, r, rfl, hc⟩ := h.chn
  rw [arr_cons, arr_cons]
  by_cases a : t < p.1
  · rw [if_pos a]
    by_cases b : t + 1 < p.1
    · rw [if_pos b]; omega
    · rw [if_neg b]
      have := (arrT_ge r p (t + 1) hc (by omega)).1
      omega
  · rw [if_neg a, if_neg (by omega)]
    exact arrT_mono r p t hc (by omega)
theorem arr_le {s t : Int} (hst : s ≤ t) : arr l s ≤ arr l t := by
  obtain ⟨n, rfl⟩ : ∃ n : Nat, t = s + n := ⟨(t - s).toNat, by omega⟩
  clear hst
  induction n with
  | zero => simp
  | succ n ih =>
    have := arr_mono h (t := s + n)
    have e : s + (n : Int) + 1 = s + ((n + 1 : Nat) : Int) := by omega
    rw [e] at this
    omega
end
theorem arrT_mem : ∀ (r : List (Int × Int)) (p : Int × Int), chn p r → ∀ x ∈ p :: r, p.1 ≤ x.1 ∧ arrT p r x.1 = x.2
  | [], p, h, x, hx => by
    obtain rfl : x = p := by simpa using hx
    exact ⟨Int.le_refl _, arrT_at [] _ h⟩
  | q :: r, p, h, x, hx => by
    rcases List.mem_cons.1 hx with rfl | hx
    · exact ⟨Int.le_refl _, arrT_at (q :: r) _ h⟩
    · have h1 := arrT_mem r q h.2.2.2 x hx
      refine ⟨by have := h.2.1; omega, ?_⟩
      rw [arrT_cons]
      rw [if_neg (by omega)]
      exact h1.2
theorem arr_mem {l : List (Int × Int)} (h : Ok l) {x : Int × Int} (hx : x ∈ l) : arr l x.1 = x.2 := by
  obtain ⟨p, r, rfl, hc⟩ := h.chn
  have h1 := arrT_mem r p hc x hx
  rw [arr_cons]
  rw [if_neg (by omega)]
  exact h1.2
theorem chn_asc : ∀ (r : List (Int × Int)) (p : Int × Int), chn p r → (p :: r).Pairwise (fun a b => a.1 < b.1)
  | [], p, _ => by simp
  | q :: r, p, h => by
    have h1 := chn_asc r q h.2.2.2
    refine List.Pairwise.cons (fun x hx => ?_) h1
    have := (arrT_mem r q h.2.2.2 x hx).1
    have := h.2.1
    omega
theorem Ok.asc {l : List (Int × Int)} (h : Ok l) : l.Pairwise (fun a b => a.1 < b.1) := by
  obtain ⟨p, r, rfl, hc⟩ := h.chn
  exact chn_asc r p hc
theorem Ok.good {l : List (Int × Int)} (h : Ok l) {x : Int × Int} (hx : x ∈ l) : good x := by
  obtain ⟨i, hi, he⟩ := List.getElem_of_mem hx
  have := h.at hi
  rw [List.getD_eq_getElem?_getD, List.getElem?_eq_getElem hi, he] at this
  exact this

end Go.Proofs.YtmoilpkgoabopaaDoor.T

