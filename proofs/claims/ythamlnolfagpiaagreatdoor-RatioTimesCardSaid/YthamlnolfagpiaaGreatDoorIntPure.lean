/-
  DERIVED. Merged by mkbase.py.
-/
import Derived.Test.YthamlnolfagpiaaGreatDoorBasePure
namespace Go.Proofs.YthamlnolfagpiaaGreatDoor.D

/-- the powers of the base -/
def bp (k : Nat) : Nat := 10 ^ k
theorem bp_zero : bp 0 = 1 := rfl
theorem bp_succ (k : Nat) : bp (k + 1) = 10 * bp k := by unfold bp; rw [Nat.pow_succ, Nat.mul_comm]
theorem bp_pos (k : Nat) : 0 < bp k := Nat.pow_pos (by omega)
theorem bp_add (j k : Nat) : bp (j + k) = bp j * bp k := by unfold bp; rw [Nat.pow_add]
theorem bp_mono {j k : Nat} (h : j ≤ k) : bp j ≤ bp k := Nat.pow_le_pow_right (by omega) h

def val : List Nat → Nat
  | [] => 0
  | a :: l => a + 10 * val l
theorem val_nil : val [] = 0 := rfl
theorem val_cons (a : Nat) (l : List Nat) : val (a :: l) = a + 10 * val l := rfl
/-- each limb is below the base -/
def lo (l : List Nat) : Prop := ∀ a ∈ l, a < 10
theorem lo_nil : lo [] := by intro a h; cases h
theorem lo_cons {a : Nat} {l : List Nat} : lo (a :: l) ↔ a < 10 ∧ lo l := by
  unfold lo; simp
theorem lo_append {l m : List Nat} : lo (l ++ m) ↔ lo l ∧ lo m := by
  unfold lo; simp only [List.mem_append]
  exact ⟨fun h => ⟨fun a ha => h a (.inl ha), fun a ha => h a (.inr ha)⟩, fun h a ha => ha.elim (h.1 a) (h.2 a)⟩
theorem lo_take {l : List Nat} (h : lo l) (k : Nat) : lo (l.take k) := fun a ha => h a (List.mem_of_mem_take ha)
theorem lo_drop {l : List Nat} (h : lo l) (k : Nat) : lo (l.drop k) := fun a ha => h a (List.mem_of_mem_drop ha)
theorem lo_getD {l : List Nat} (h : lo l) (i : Nat) : l.getD i 0 < 10 := by
  rw [List.getD_eq_getElem?_getD]
  cases hx : l[i]? with
  | none => simp
  | some a => simpa using h a (List.mem_of_getElem? hx)
theorem lo_set {l : List Nat} (h : lo l) (i c : Nat) (hc : c < 10) : lo (l.set i c) := by
  intro a ha
  rcases List.mem_or_eq_of_mem_set ha with ha | rfl
  · exact h a ha
  · exact hc
theorem val_append (l m : List Nat) : val (l ++ m) = val l + bp l.length * val m := by
  induction l with
  | nil => simp [val_nil, bp_zero]
  | cons a l ih => rw [List.cons_append, val_cons, val_cons, ih, List.length_cons, bp_succ, Nat.mul_add, Nat.mul_assoc]; omega
theorem val_lt {l : List Nat} (h : lo l) : val l < bp l.length := by
  induction l with
  | nil => simp [val_nil, bp_zero]
  | cons a l ih =>
    have h1 := ih (lo_cons.1 h).2
    have h2 := (lo_cons.1 h).1
    rw [val_cons, List.length_cons, bp_succ]; omega
theorem val_zero (n : Nat) : val (List.replicate n 0) = 0 := by
  induction n with
  | zero => rfl
  | succ n ih => rw [List.replicate_succ, val_cons, ih]
theorem lo_zero (n : Nat) : lo (List.replicate n 0) := by
  intro a ha
  have := List.eq_of_mem_replicate ha
  omega
theorem val_set (l : List Nat) (i c : Nat) (h : i < l.length) : val (l.set i c) + bp i * l.getD i 0 = val l + bp i * c := by
  induction l generalizing i with
  | nil => simp at h
  | cons a l ih =>
    cases i with
    | zero => simp [val_cons, bp_zero]; omega
    | succ i =>
      have := ih i (by simpa using h)
      rw [List.set_cons_succ, val_cons, val_cons, List.getD_cons_succ, bp_succ, Nat.mul_assoc, Nat.mul_assoc]
      omega
theorem val_take_succ (l : List Nat) (i : Nat) (h : i < l.length) : val (l.take (i + 1)) = val (l.take i) + bp i * l.getD i 0 := by
  have e : l.take (i + 1) = l.take i ++ [l.getD i 0] := by
    rw [List.take_add_one, List.getElem?_eq_getElem h]
    simp [List.getD_eq_getElem?_getD, List.getElem?_eq_getElem h]
  rw [e, val_append, val_cons, val_nil, List.length_take, Nat.min_eq_left (by omega)]
  simp
theorem val_take_all (l : List Nat) (i : Nat) (h : l.length ≤ i) : val (l.take i) = val l := by rw [List.take_of_length_le h]
theorem val_split (l : List Nat) (i : Nat) (h : i ≤ l.length) : val l = val (l.take i) + bp i * val (l.drop i) := by
  have := val_append (l.take i) (l.drop i)
  rw [List.take_append_drop, List.length_take, Nat.min_eq_left h] at this
  exact this
theorem val_drop (l : List Nat) (i : Nat) (h : i < l.length) : val (l.drop i) = l.getD i 0 + 10 * val (l.drop (i + 1)) := by
  rw [List.drop_eq_getElem_cons h, val_cons]
  simp [List.getD_eq_getElem?_getD, List.getElem?_eq_getElem h]
theorem set_take (l : List Nat) (i j c : Nat) (h : i ≤ j) : (l.set j c).take i = l.take i := by
  rw [List.take_set_of_le h]
theorem set_getD (l : List Nat) (i c : Nat) (h : i < l.length) : (l.set i c).getD i 0 = c := by
  simp [List.getD_eq_getElem?_getD, h]
theorem set_getD_ne (l : List Nat) (i j c : Nat) (h : i ≠ j) : (l.set i c).getD j 0 = l.getD j 0 := by
  simp [List.getD_eq_getElem?_getD, List.getElem?_set_ne h]

/-- the canonical row of a number -/
def limbs (n : Nat) : List Nat := if h : n = 0 then [] else n % 10 :: limbs (n / 10)
termination_by n
decreasing_by omega
theorem limbs_zero : limbs 0 = [] := by rw [limbs]; simp
theorem limbs_pos {n : Nat} (h : n ≠ 0) : limbs n = n % 10 :: limbs (n / 10) := by rw [limbs]; simp [h]
theorem limbs_val (n : Nat) : val (limbs n) = n := by
  induction n using Nat.strongRecOn with
  | _ n ih =>
    by_cases h : n = 0
    · subst h; rw [limbs_zero, val_nil]
    · rw [limbs_pos h, val_cons, ih (n / 10) (by omega)]; omega
theorem limbs_lo (n : Nat) : lo (limbs n) := by
  induction n using Nat.strongRecOn with
  | _ n ih =>
    by_cases h : n = 0
    · subst h; rw [limbs_zero]; exact lo_nil
    · rw [limbs_pos h]; exact lo_cons.2 ⟨by omega, ih _ (by omega)⟩
theorem limbs_of (l : List Nat) (h : lo l) (hl : l = [] ∨ l.getD (l.length - 1) 0 ≠ 0) : limbs (val l) = l := by
  induction l with
  | nil => rw [val_nil, limbs_zero]
  | cons a l ih =>
    have ha := (lo_cons.1 h).1
    have hl' : (a :: l).getD l.length 0 ≠ 0 := by simpa using hl
    cases l with
    | nil =>
      have ha0 : a ≠ 0 := by simpa using hl'
      have e : val [a] = a := by simp [val_cons, val_nil]
      have e2 : a / 10 = 0 := by omega
      rw [e, limbs_pos ha0, e2, limbs_zero, Nat.mod_eq_of_lt ha]
    | cons b m =>
      have h2 : (b :: m).getD ((b :: m).length - 1) 0 ≠ 0 := by simpa using hl'
      have hi := ih (lo_cons.1 h).2 (.inr h2)
      have hv : val (b :: m) ≠ 0 := by
        intro e
        rw [e, limbs_zero] at hi
        cases hi
      generalize hX : b :: m = X at *
      have e1 : (a + 10 * val X) % 10 = a := by omega
      have e2 : (a + 10 * val X) / 10 = val X := by omega
      rw [val_cons, limbs_pos (by omega), e1, e2, hi]
theorem limbs_top (n : Nat) : limbs n = [] ∨ (limbs n).getD ((limbs n).length - 1) 0 ≠ 0 := by
  induction n using Nat.strongRecOn with
  | _ n ih =>
    by_cases h : n = 0
    · subst h; exact .inl limbs_zero
    · right
      rw [limbs_pos h]
      rcases ih (n / 10) (by omega) with e | e
      · rw [e]
        have h0 : n / 10 = 0 := by have := limbs_val (n / 10); rw [e, val_nil] at this; omega
        simp; omega
      · cases hx : limbs (n / 10) with
        | nil => rw [hx] at e; simp at e
        | cons b m => rw [hx] at e; simpa using e
theorem limbs_ge {n : Nat} (h : 0 < (limbs n).length) : bp ((limbs n).length - 1) ≤ n := by
  have ht : (limbs n).getD ((limbs n).length - 1) 0 ≠ 0 := by
    rcases limbs_top n with e | e
    · rw [e] at h; simp at h
    · exact e
  have h1 := val_take_succ (limbs n) ((limbs n).length - 1) (by omega)
  rw [show (limbs n).length - 1 + 1 = (limbs n).length by omega, List.take_length, limbs_val] at h1
  have : bp ((limbs n).length - 1) * 1 ≤ bp ((limbs n).length - 1) * (limbs n).getD ((limbs n).length - 1) 0 := Nat.mul_le_mul_left _ (by omega)
  omega
theorem limbs_lt (n : Nat) : n < bp (limbs n).length := by have := val_lt (limbs_lo n); rwa [limbs_val] at this
theorem limbs_len0 {n : Nat} : (limbs n).length = 0 ↔ n = 0 := by
  constructor
  · intro h; have := limbs_lt n; rw [h, bp_zero] at this; omega
  · intro h; rw [h, limbs_zero]; rfl
theorem limbs_le {n k : Nat} (h : n < bp k) : (limbs n).length ≤ k := by
  by_cases h0 : 0 < (limbs n).length
  · have h1 := limbs_ge h0
    rcases Nat.lt_or_ge k (limbs n).length with h2 | h2
    · have := bp_mono (show k ≤ (limbs n).length - 1 by omega); omega
    · exact h2
  · omega
theorem limbs_less {u v : Nat} (h : (limbs u).length < (limbs v).length) : u < v := by
  have h1 := limbs_lt u
  have h2 := limbs_ge (n := v) (by omega)
  have h3 := bp_mono (show (limbs u).length ≤ (limbs v).length - 1 by omega)
  omega

/-! ### one column -/
theorem col_sum {Z c P X Y z c' x y : Nat} (h : Z + P * c = X + Y) (hz : z + 10 * c' = c + x + y) :
    (Z + P * z) + 10 * P * c' = (X + P * x) + (Y + P * y) := by
  have h1 : P * (z + 10 * c') = P * (c + x + y) := by rw [hz]
  rw [Nat.mul_add, Nat.mul_add, Nat.mul_add] at h1
  have h2 : P * (10 * c') = 10 * P * c' := by ac_rfl
  omega
theorem col_dif {Z Y X b P z y x b' : Nat} (h : Z + Y = X + P * b) (hz : z + (b + y) = x + 10 * b') :
    (Z + P * z) + (Y + P * y) = (X + P * x) + 10 * P * b' := by
  have h1 : P * (z + (b + y)) = P * (x + 10 * b') := by rw [hz]
  rw [Nat.mul_add, Nat.mul_add, Nat.mul_add] at h1
  have h2 : P * (10 * b') = 10 * P * b' := by ac_rfl
  omega

theorem sum_round (lz : List Nat) (k cn x y X Y X' Y' n : Nat) (hlen : lz.length = n + 1) (hk : k < n) (h0 : lz.getD k 0 = 0) (hv : val lz + bp k * cn = X + Y) (hX : X' = X + bp k * x) (hY : Y' = Y + bp k * y) :
    val (lz.set k ((cn + x + y) % 10)) + bp (k + 1) * ((cn + x + y) / 10) = X' + Y' := by
  have h1 := val_set lz k ((cn + x + y) % 10) (by omega)
  rw [h0, Nat.mul_zero, Nat.add_zero] at h1
  rw [h1, bp_succ, hX, hY]
  exact col_sum hv (by omega)
theorem zero_after (lz : List Nat) (k c : Nat) (h : ∀ j, k ≤ j → lz.getD j 0 = 0) : ∀ j, k + 1 ≤ j → (lz.set k c).getD j 0 = 0 := by
  intro j hj
  rw [set_getD_ne _ _ _ _ (by omega)]
  exact h j (by omega)
theorem sum_last (lz : List Nat) (c Z n : Nat) (hlen : lz.length = n + 1) (h0 : lz.getD n 0 = 0) (hv : val lz + bp n * c = Z) : val (lz.set n c) = Z := by
  have h1 := val_set lz n c (by omega)
  rw [h0, Nat.mul_zero, Nat.add_zero] at h1
  rw [h1, hv]

theorem dif_round (lz : List Nat) (k b x y c b' X Y X' Y' : Nat) (hk : k < lz.length) (h0 : lz.getD k 0 = 0) (hv : val lz + Y = X + bp k * b) (hX : X' = X + bp k * x) (hY : Y' = Y + bp k * y) (hc : c + (b + y) = x + 10 * b') :
    val (lz.set k c) + Y' = X' + bp (k + 1) * b' := by
  have h1 := val_set lz k c hk
  rw [h0, Nat.mul_zero, Nat.add_zero] at h1
  rw [h1, bp_succ, hX, hY]
  exact col_dif hv hc
theorem dif_end (lz : List Nat) (u v b n : Nat) (hlo : lo lz) (hn : lz.length = n) (hv : val lz + v = u + bp n * b) (h : v ≤ u) : val lz = u - v := by
  have h1 := val_lt hlo
  rw [hn] at h1
  rcases Nat.eq_zero_or_pos b with rfl | hb
  · omega
  · have : bp n * 1 ≤ bp n * b := Nat.mul_le_mul_left _ hb
    omega
theorem mul_round (lz : List Nat) (i j c z x y A Y Y' s : Nat) (hk : i + j < lz.length) (h0 : lz.getD (i + j) 0 = z) (hv : val lz + bp (i + j) * c = A + bp i * (x * Y)) (hY : Y' = Y + bp j * y) (hs : s = c + (z + x * y)) :
    val (lz.set (i + j) (s % 10)) + bp (i + j + 1) * (s / 10) = A + bp i * (x * Y') := by
  have h1 := val_set lz (i + j) (s % 10) hk
  rw [h0] at h1
  have h2 : bp (i + j + 1) * (s / 10) = bp (i + j) * (10 * (s / 10)) := by rw [bp_succ]; ac_rfl
  have h3 : bp (i + j) * (s % 10) + bp (i + j) * (10 * (s / 10)) = bp (i + j) * s := by
    rw [← Nat.mul_add, Nat.mod_add_div]
  have h4 : bp (i + j) * s = bp (i + j) * c + bp (i + j) * z + bp (i + j) * (x * y) := by rw [hs, Nat.mul_add, Nat.mul_add]; omega
  have h5 : bp i * (x * Y') = bp i * (x * Y) + bp (i + j) * (x * y) := by
    rw [hY, Nat.mul_add, Nat.mul_add, bp_add]
    congr 1
    ac_rfl
  omega
theorem mul_last (lz : List Nat) (i m c x X Y X' : Nat) (hk : i + m < lz.length) (h0 : lz.getD (i + m) 0 = 0) (hv : val lz + bp (i + m) * c = X * Y + bp i * (x * Y)) (hX : X' = X + bp i * x) : val (lz.set (i + m) c) = X' * Y := by
  have h1 := val_set lz (i + m) c hk
  rw [h0, Nat.mul_zero, Nat.add_zero] at h1
  rw [h1, hv, hX, Nat.add_mul, Nat.mul_assoc]

end Go.Proofs.YthamlnolfagpiaaGreatDoor.D

namespace Go.Proofs.YthamlnolfagpiaaGreatDoor.D

/-- an integer's text -/
def inumL (z : Int) : List UInt8 := if z < 0 then 45 :: Lib.decDigits z.natAbs else Lib.decDigits z.natAbs
def inum (z : Int) : ByteArray := ⟨(inumL z).toArray⟩
/-- a number with a sign -/
def sgn (neg : Bool) (n : Nat) : Int := if neg then -(n : Int) else (n : Int)
theorem inum_data (z : Int) : (inum z).data.toList = inumL z := rfl
theorem inumL_neg {z : Int} (h : z < 0) : inumL z = 45 :: Lib.decDigits z.natAbs := by rw [inumL, if_pos h]
theorem inumL_pos {z : Int} (h : 0 ≤ z) : inumL z = Lib.decDigits z.natAbs := by rw [inumL, if_neg (by omega)]
theorem inum_nat (n : Nat) : inum (n : Int) = num n := by rw [inum, inumL_pos (by omega), num]; rfl
theorem sgn_zero (b : Bool) : sgn b 0 = 0 := by cases b <;> rfl
theorem sgn_abs (b : Bool) (n : Nat) : (sgn b n).natAbs = n := by cases b <;> simp [sgn]
theorem sgn_self (z : Int) : sgn (decide (z < 0)) z.natAbs = z := by
  unfold sgn
  by_cases h : z < 0
  · rw [decide_eq_true h, if_pos rfl]; omega
  · rw [decide_eq_false h, if_neg (by simp)]; omega
theorem sgn_lt (b : Bool) (n : Nat) (h : 0 < n) : sgn b n < 0 ↔ b = true := by cases b <;> simp [sgn] <;> omega
theorem digs_dec (n : Nat) : digs (Lib.decDigits n) = true := dec_digs n
theorem dec_head (n : Nat) : ∃ c t, Lib.decDigits n = c :: t ∧ 48 ≤ c.toNat ∧ c.toNat ≤ 57 := by
  cases h : Lib.decDigits n with
  | nil => have := nd_pos n; unfold nd at this; rw [h] at this; simp at this
  | cons c t =>
    have := dec_digs n
    rw [h, digs_cons] at this
    have hb := dig_bd this.1
    exact ⟨c, t, rfl, hb.1, hb.2⟩
theorem inumL_inj {x y : Int} (h : inumL x = inumL y) : x = y := by
  obtain ⟨c, t, hc, h1, h2⟩ := dec_head x.natAbs
  obtain ⟨d, s, hd, h3, h4⟩ := dec_head y.natAbs
  by_cases hx : x < 0
  · by_cases hy : y < 0
    · rw [inumL_neg hx, inumL_neg hy] at h
      have := dec_inj (List.cons.inj h).2
      omega
    · rw [inumL_neg hx, inumL_pos (by omega), hd] at h
      have := (List.cons.inj h).1
      rw [← this] at h3
      simp at h3
  · by_cases hy : y < 0
    · rw [inumL_pos (by omega), inumL_neg hy, hc] at h
      have := (List.cons.inj h).1
      rw [this] at h1
      simp at h1
    · rw [inumL_pos (by omega), inumL_pos (by omega)] at h
      have := dec_inj h
      omega
theorem inum_inj {x y : Int} (h : inum x = inum y) : x = y := inumL_inj (by rw [← inum_data, h, inum_data])
/-- which texts are integers -/
def rightI (l : List UInt8) : Bool := match l with
  | c :: t => if c.toNat = 45 then rightL t && !(t == [48]) else rightL (c :: t)
  | [] => false
theorem rightI_inum (z : Int) : rightI (inumL z) = true := by
  obtain ⟨c, t, hc, h1, h2⟩ := dec_head z.natAbs
  by_cases h : z < 0
  · rw [inumL_neg h, rightI, if_pos (by decide), right_num]
    have hne : Lib.decDigits z.natAbs ≠ [48] := by
      intro e
      have h0 : Lib.decDigits 0 = [48] := by rw [Lib.decDigits_one (by omega)]; rfl
      rw [← h0] at e
      have := dec_inj e
      omega
    simp [hne]
  · rw [inumL_pos (by omega), hc, rightI, if_neg (by omega), ← hc, right_num]
theorem rightI_of (l : List UInt8) (h : rightI l = true) : ∃ z, l = inumL z := by
  match l, h with
  | c :: t, h =>
    unfold rightI at h
    by_cases hc : c.toNat = 45
    · simp only [hc, if_true, Bool.and_eq_true] at h
      obtain ⟨u, hu⟩ := (right_iff t).1 h.1
      have h0 : u ≠ 0 := by
        intro e
        subst e
        rw [Lib.decDigits_one (by omega)] at hu
        rw [hu] at h
        simp at h
      refine ⟨-(u : Int), ?_⟩
      rw [inumL_neg (by omega), show (-(u : Int)).natAbs = u by omega, ← hu]
      congr 1
      apply UInt8.toNat_inj.1
      rw [hc]; rfl
    · simp only [hc, if_false] at h
      obtain ⟨u, hu⟩ := (right_iff (c :: t)).1 h
      exact ⟨(u : Int), by rw [inumL_pos (by omega), hu]; rfl⟩
theorem rightI_str (s : ByteArray) (h : rightI s.data.toList = true) : ∃ z, s = inum z := by
  obtain ⟨z, hz⟩ := rightI_of _ h
  exact ⟨z, by rw [inum, ← hz, Lib.mk_data]⟩
/-- the number of digits, the sign apart -/
def dg (s : ByteArray) : Nat := match s.data.toList with | c :: _ => if c.toNat = 45 then s.size - 1 else s.size | [] => 0
theorem dg_inum (z : Int) : dg (inum z) = nd z.natAbs := by
  obtain ⟨c, t, hc, h1, h2⟩ := dec_head z.natAbs
  have hs : (inum z).size = (inumL z).length := by rw [← len_of, inum_data]
  unfold dg
  rw [inum_data, hs]
  by_cases h : z < 0
  · rw [inumL_neg h]; simp [nd]
  · rw [inumL_pos (by omega)]
    unfold nd
    rw [hc]
    simp only []
    rw [if_neg (by omega)]

/-! ### digits -/
theorem dig_list (n : Nat) : (limbs n).reverse.map (fun d => dchr d) = if n = 0 then [] else Lib.decDigits n := by
  induction n using Nat.strongRecOn with
  | _ n ih =>
    by_cases h : n = 0
    · subst h; rw [limbs_zero]; rfl
    · rw [if_neg h, limbs_pos h, List.reverse_cons, List.map_append, ih (n / 10) (by omega)]
      by_cases h2 : n / 10 = 0
      · rw [if_pos h2, Lib.decDigits_one (show n < 10 by omega)]
        simp [dchr, Nat.mod_eq_of_lt (show n < 10 by omega)]
      · rw [if_neg h2]
        have := dec_snoc (n / 10) (n % 10) (by omega) (by omega)
        rw [show 10 * (n / 10) + n % 10 = n by omega] at this
        rw [this]
        rfl

end Go.Proofs.YthamlnolfagpiaaGreatDoor.D

namespace Go.Proofs.YthamlnolfagpiaaGreatDoor.D

def off (z : Int) : Nat := if z < 0 then 1 else 0
theorem off_neg {z : Int} (h : z < 0) : off z = 1 := by rw [off, if_pos h]
theorem off_pos {z : Int} (h : 0 ≤ z) : off z = 0 := by rw [off, if_neg (by omega)]
theorem inum_size (z : Int) : (inum z).size = nd z.natAbs + off z := by
  rw [← len_of, inum_data]
  by_cases h : z < 0
  · rw [inumL_neg h, off_neg h]; rfl
  · rw [inumL_pos (by omega), off_pos (by omega)]; rfl
theorem inum_getD (z : Int) (i : Nat) (h : i < (inum z).size) : (inum z)[i] = (inumL z).getD i 0 := by
  rw [List.getD_eq_getElem?_getD, List.getElem?_eq_getElem (by rw [← inum_data, len_of]; exact h)]
  rfl
theorem inum_byte (z : Int) (i : Nat) (h : i < (inum z).size) (ho : off z ≤ i) : (inum z)[i].toNat = 48 + z.natAbs / 10 ^ ((inum z).size - 1 - i) % 10 := by
  have hs := inum_size z
  rw [inum_getD]
  by_cases hz : z < 0
  · rw [off_neg hz] at hs ho
    rw [inumL_neg hz, hs]
    obtain ⟨j, rfl⟩ : ∃ j, i = j + 1 := ⟨i - 1, by omega⟩
    rw [List.getD_cons_succ]
    have := dig_fwd z.natAbs j (by omega)
    rw [this, show nd z.natAbs + 1 - 1 - (j + 1) = nd z.natAbs - 1 - j by omega]
  · rw [off_pos (by omega)] at hs
    rw [inumL_pos (by omega), hs]
    exact dig_fwd z.natAbs i (by omega)
theorem inum_head (z : Int) (hz : z < 0) (h : 0 < (inum z).size) : (inum z)[0].toNat = 45 := by
  rw [inum_getD, inumL_neg hz]; rfl
theorem part_step (u k : Nat) (lst : List Nat) (d : Nat) (hn : lst.length = k) (hv : val lst = u % bp k) (hd : u / 10 ^ k % 10 = d) : val (lst ++ [d]) = u % bp (k + 1) := by
  rw [val_append, hn, hv, val_cons, val_nil, Nat.mul_zero, Nat.add_zero, bp_succ, Nat.mul_comm 10, Nat.mod_mul, ← hd]
  rfl
/-- the text of the digits from k on -/
def tx (m : List Nat) (k : Nat) : List UInt8 := if m.length ≤ k then [] else Lib.decDigits (val (m.drop k))
theorem tx_top (m : List Nat) : tx m m.length = [] := by rw [tx, if_pos (Nat.le_refl _)]
theorem tx_zero (n : Nat) (h : 0 < n) : tx (limbs n) 0 = Lib.decDigits n := by
  rw [tx, if_neg, List.drop_zero, limbs_val]
  have := (limbs_len0 (n := n)).1
  omega
theorem drop_pos (n k : Nat) (h : k < (limbs n).length) : 0 < val ((limbs n).drop k) := by
  rcases Nat.eq_zero_or_pos (val ((limbs n).drop k)) with e | e
  · have h1 := val_split (limbs n) k (by omega)
    rw [e, limbs_val, Nat.mul_zero, Nat.add_zero] at h1
    have h2 := val_lt (lo_take (limbs_lo n) k)
    rw [List.length_take, Nat.min_eq_left (by omega), ← h1] at h2
    have h3 := limbs_ge (n := n) (by omega)
    have h4 := bp_mono (show k ≤ (limbs n).length - 1 by omega)
    omega
  · exact e
theorem tx_step (n j : Nat) (h : j < (limbs n).length) : tx (limbs n) j = tx (limbs n) (j + 1) ++ [dchr ((limbs n).getD j 0)] := by
  have hd := val_drop (limbs n) j h
  have hlt := lo_getD (limbs_lo n) j
  unfold tx
  rw [if_neg (by omega), hd]
  by_cases h2 : (limbs n).length ≤ j + 1
  · rw [if_pos h2, List.drop_of_length_le (by omega), val_nil, Nat.mul_zero, Nat.add_zero, Lib.decDigits_one hlt]; rfl
  · rw [if_neg h2, Nat.add_comm, dec_snoc _ _ (drop_pos n (j + 1) (by omega)) hlt]
theorem tx_len (n k : Nat) : (tx (limbs n) k).length ≤ nd n := by
  unfold tx
  split
  · exact Nat.zero_le _
  · have : val ((limbs n).drop k) ≤ n := by
      have h1 := val_split (limbs n) k (by omega)
      rw [limbs_val] at h1
      have := Nat.le_mul_of_pos_left (val ((limbs n).drop k)) (bp_pos k)
      omega
    exact nd_mono this
theorem text_nat (b : Bool) (n : Nat) (h : 0 < n) : inumL (sgn b n) = (if b then [45] else []) ++ Lib.decDigits n := by
  cases b
  · rw [inumL_pos (by simp [sgn]), sgn_abs]; rfl
  · rw [inumL_neg (by simp [sgn]; omega), sgn_abs]; rfl

end Go.Proofs.YthamlnolfagpiaaGreatDoor.D

namespace Go.Proofs.YthamlnolfagpiaaGreatDoor.D

theorem val_takeD (l : List Nat) (k : Nat) : val (l.take (k + 1)) = val (l.take k) + bp k * l.getD k 0 := by
  by_cases h : k < l.length
  · exact val_take_succ l k h
  · rw [val_take_all l (k + 1) (by omega), val_take_all l k (by omega), List.getD_eq_getElem?_getD, List.getElem?_eq_none (by omega)]
    simp
theorem plus_round (lst : List Nat) (k cn x y X Y X' Y' : Nat) (hl : lst.length = k) (hv : val lst + bp k * cn = X + Y) (hX : X' = X + bp k * x) (hY : Y' = Y + bp k * y) :
    val (lst ++ [(x + y + cn) % 10]) + bp (k + 1) * ((x + y + cn) / 10) = X' + Y' := by
  rw [val_append, hl, val_cons, val_nil, Nat.mul_zero, Nat.add_zero, bp_succ, hX, hY]
  exact col_sum hv (by omega)
theorem minus_round (lst : List Nat) (k b x y c b' X Y X' Y' : Nat) (hl : lst.length = k) (hv : val lst + Y = X + bp k * b) (hX : X' = X + bp k * x) (hY : Y' = Y + bp k * y) (hc : c + (b + y) = x + 10 * b') :
    val (lst ++ [c]) + Y' = X' + bp (k + 1) * b' := by
  rw [val_append, hl, val_cons, val_nil, Nat.mul_zero, Nat.add_zero, bp_succ, hX, hY]
  exact col_dif hv hc

end Go.Proofs.YthamlnolfagpiaaGreatDoor.D

namespace Go.Proofs.YthamlnolfagpiaaGreatDoor.D

theorem lit_num (l : List UInt8) (u : Nat) (h : rightL l = true) (h2 : valA 0 l = u) : (⟨l.toArray⟩ : ByteArray) = num u := by
  rw [num, ← h2, num_right l h]
theorem lit_pos (l : List UInt8) (u : Nat) (h : rightL l = true) (h2 : valA 0 l = u) : (⟨l.toArray⟩ : ByteArray) = inum (u : Int) := by
  rw [inum_nat]; exact lit_num l u h h2
theorem lit_neg (l : List UInt8) (u : Nat) (h0 : 0 < u) (h : rightL l = true) (h2 : valA 0 l = u) : (⟨(45 :: l).toArray⟩ : ByteArray) = inum (-(u : Int)) := by
  have := congrArg (fun s : ByteArray => s.data.toList) (lit_num l u h h2)
  simp only [num_data] at this
  rw [inum, inumL_neg (by omega), show (-(u : Int)).natAbs = u by omega, ← this]

/-! ### sizes -/
theorem nd_sz {x : Int} {k : Nat} (h : (inum x).size ≤ k) : nd x.natAbs ≤ k := by rw [inum_size] at h; omega
theorem sz_nd {x : Int} {k : Nat} (h : nd x.natAbs ≤ k) : (inum x).size ≤ k + 1 := by
  rw [inum_size]
  have : off x ≤ 1 := by unfold off; split <;> omega
  omega
theorem nda_add {x y z : Int} {k : Nat} (hz : x + y = z) (hx : nd x.natAbs ≤ k) (hy : nd y.natAbs ≤ k) : nd z.natAbs ≤ k + 1 :=
  Nat.le_trans (nd_mono (show z.natAbs ≤ x.natAbs + y.natAbs by omega)) (nd_add _ _ k hx hy)
theorem nda_sub {x y z : Int} {k : Nat} (hz : x - y = z) (hx : nd x.natAbs ≤ k) (hy : nd y.natAbs ≤ k) : nd z.natAbs ≤ k + 1 :=
  Nat.le_trans (nd_mono (show z.natAbs ≤ x.natAbs + y.natAbs by omega)) (nd_add _ _ k hx hy)
theorem nda_mul {x y z : Int} {j k : Nat} (hz : x * y = z) (hx : nd x.natAbs ≤ j) (hy : nd y.natAbs ≤ k) : nd z.natAbs ≤ j + k := by
  rw [← hz, Int.natAbs_mul]; exact nd_mul _ _ j k hx hy

/-! ### the quotient -/
/-- whether the quotient is lowered by one -/
def low (x y : Int) : Bool := (decide (x < 0) != decide (y < 0)) && decide (0 < x.natAbs % y.natAbs)
/-- the quotient, rounded down -/
def fdv (x y : Int) : Int := sgn (decide (x < 0) != decide (y < 0)) (x.natAbs / y.natAbs + if low x y then 1 else 0)
/-- the remainder -/
def fmd (x y : Int) : Int := sgn (decide (y < 0)) (if low x y then y.natAbs - x.natAbs % y.natAbs else x.natAbs % y.natAbs)

theorem fmd_lt (x y : Int) (hy : y ≠ 0) : (fmd x y).natAbs < y.natAbs := by
  have h := Nat.mod_lt x.natAbs (show 0 < y.natAbs by omega)
  unfold fmd
  rw [sgn_abs]
  cases hl : low x y
  · simpa using h
  · have : 0 < x.natAbs % y.natAbs := by
      unfold low at hl
      rw [Bool.and_eq_true, decide_eq_true_iff] at hl
      exact hl.2
    simp; omega
theorem fmd_sgn (x y : Int) (hr : fmd x y ≠ 0) : (fmd x y < 0 ↔ y < 0) := by
  unfold fmd at *
  generalize (if low x y = true then y.natAbs - x.natAbs % y.natAbs else x.natAbs % y.natAbs) = n at *
  have hn : 0 < n := by
    rcases Nat.eq_zero_or_pos n with h | h
    · subst h; rw [sgn_zero] at hr; exact absurd rfl hr
    · exact h
  rw [sgn_lt _ _ hn, decide_eq_true_iff]
theorem fdv_mul (x y : Int) (hy : y ≠ 0) : fdv x y * y + fmd x y = x := by
  have h1 := sgn_self x
  have h2 := sgn_self y
  unfold fdv fmd low
  have hb : 0 < y.natAbs := by omega
  have hlt := Nat.mod_lt x.natAbs hb
  have hdm := Nat.div_add_mod x.natAbs y.natAbs
  generalize decide (x < 0) = m at *
  generalize decide (y < 0) = n at *
  generalize x.natAbs = u at *
  generalize y.natAbs = v at *
  generalize u / v = q at *
  generalize u % v = r at *
  rw [← h1, ← h2]
  have e : (u : Int) = v * q + r := by rw [← hdm]; simp
  rcases Nat.eq_zero_or_pos r with hr | hr
  · subst hr
    have e0 : (u : Int) = v * q := by simpa using e
    cases m <;> cases n <;> simp only [sgn, if_true, if_false, Bool.false_eq_true, bne_self_eq_false, decide_false, Nat.lt_irrefl, Bool.and_false, Nat.add_zero, Bool.true_bne, Bool.false_bne, Bool.not_false, Int.neg_mul, Int.mul_neg, Int.neg_neg, Int.mul_comm (q : Int) (v : Int), Int.neg_zero, Int.add_zero, Int.cast_ofNat_Int] <;> omega
  · have e2 : ((v - r : Nat) : Int) = v - r := by omega
    cases m <;> cases n <;> simp [sgn, hr] <;> (try rw [e2]) <;> simp only [Int.neg_mul, Int.mul_neg, Int.neg_neg, Int.add_mul, Int.one_mul, Int.mul_comm (q : Int) (v : Int)] <;> omega

end Go.Proofs.YthamlnolfagpiaaGreatDoor.D

