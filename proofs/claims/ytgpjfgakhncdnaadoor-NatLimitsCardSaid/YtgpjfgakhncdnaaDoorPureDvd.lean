/-
  DERIVED. Plain Lean: the invariants of the schoolbook division.
-/
import Derived.Test.YtgpjfgakhncdnaaDoorPureGuess
namespace Go.Proofs.YtgpjfgakhncdnaaDoor

theorem OnlyIn.trans {o m : Nat} {l l' l'' : List Nat} (h : OnlyIn o m l l') (k : OnlyIn o m l' l'') : OnlyIn o m l l'' :=
  ⟨k.1.trans h.1, fun i hi => (k.2 i hi).trans (h.2 i hi)⟩
theorem OnlyIn.at {o m : Nat} {l l' : List Nat} (h : OnlyIn o m l l') (i : Nat) (hi : i < o ∨ m ≤ i) : l'[i]? = l[i]? := by
  have h1 := h.2 i hi
  have h2 := h.1
  rw [List.getD_eq_getElem?_getD, List.getD_eq_getElem?_getD] at h1
  by_cases hlt : i < l.length
  · rw [List.getElem?_eq_getElem hlt, List.getElem?_eq_getElem (by omega)] at *
    simpa using h1
  · rw [List.getElem?_eq_none (by omega), List.getElem?_eq_none (by omega)]
theorem OnlyIn.takes {o m : Nat} {l l' : List Nat} (h : OnlyIn o m l l') : l'.take o = l.take o := by
  apply List.ext_getElem?
  intro i
  rw [List.getElem?_take, List.getElem?_take]
  by_cases hi : i < o
  · rw [if_pos hi, if_pos hi, h.at i (.inl hi)]
  · rw [if_neg hi, if_neg hi]
theorem OnlyIn.drops {o m : Nat} {l l' : List Nat} (h : OnlyIn o m l l') : l'.drop m = l.drop m := by
  apply List.ext_getElem?
  intro i
  rw [List.getElem?_drop, List.getElem?_drop, h.at (m + i) (.inr (by omega))]
theorem dv_part (lr : List Nat) (i n Y : Nat) (hlo : lo lr) (hl : i + n + 1 ≤ lr.length) (hY : Y < bp n) (h : val (lr.drop (i + 1)) < Y) :
    pv lr i (n + 1) = val (lr.drop i) ∧ val (lr.drop (i + n + 1)) = 0 ∧ val (lr.drop i) < 1000000000 * Y := by
  have h1 := val_drop lr i (by omega)
  have h2 := lo_getD hlo i
  have h3 : val (lr.drop i) < 1000000000 * Y := by omega
  have h4 := val_split (lr.drop i) (n + 1) (by rw [List.length_drop]; omega)
  rw [List.drop_drop, ← Nat.add_assoc] at h4
  have h5 : val (lr.drop (i + n + 1)) = 0 := by
    rcases Nat.eq_zero_or_pos (val (lr.drop (i + n + 1))) with e | e
    · exact e
    · have h6 : bp (n + 1) * 1 ≤ bp (n + 1) * val (lr.drop (i + n + 1)) := Nat.mul_le_mul_left _ e
      rw [bp_succ] at h6 h4
      omega
  refine ⟨?_, h5, h3⟩
  rw [h5] at h4
  unfold pv
  omega
theorem dv_above (lr l' : List Nat) (i n : Nat) (hlo : lo l') (hl : i + n + 1 ≤ lr.length) (hO : OnlyIn i (i + n + 1) lr l') (h0 : val (lr.drop (i + n + 1)) = 0) : val (l'.drop i) < bp (n + 1) := by
  have h4 := val_split (l'.drop i) (n + 1) (by rw [List.length_drop, hO.1]; omega)
  rw [List.drop_drop, ← Nat.add_assoc, hO.drops, h0, Nat.mul_zero, Nat.add_zero] at h4
  rw [h4]
  exact pv_lt l' i (n + 1) hlo
theorem dv_split (lr l' : List Nat) (i n : Nat) (hl : i + n + 1 ≤ lr.length) (hO : OnlyIn i (i + n + 1) lr l') : val l' = val (lr.take i) + bp i * val (l'.drop i) := by
  rw [← hO.takes]
  exact val_split l' i (by rw [hO.1]; omega)
theorem dv_cancel (lr l1 l2 : List Nat) (i n Q b : Nat) (hl : i + n + 1 ≤ lr.length) (h1 : OnlyIn i (i + n + 1) lr l1) (h2 : OnlyIn i (i + n + 1) lr l2) (h : val l2 + bp i * Q = val l1 + bp (i + n + 1) * b) :
    val (l2.drop i) + Q = val (l1.drop i) + bp (n + 1) * b := by
  rw [dv_split lr l1 i n hl h1, dv_split lr l2 i n hl h2, Nat.add_assoc i n 1, bp_add, Nat.mul_assoc] at h
  have h3 : bp i * (val (l2.drop i) + Q) = bp i * (val (l1.drop i) + bp (n + 1) * b) := by
    rw [Nat.mul_add, Nat.mul_add]; omega
  exact Nat.eq_of_mul_eq_mul_left (bp_pos i) h3
theorem dv_back (lr l1 l2 : List Nat) (i n Q b : Nat) (hl : i + n + 1 ≤ lr.length) (h1 : OnlyIn i (i + n + 1) lr l1) (h2 : OnlyIn i (i + n + 1) lr l2) (h : val l2 + bp (i + n + 1) * b = val l1 + bp i * Q) :
    val (l2.drop i) + bp (n + 1) * b = val (l1.drop i) + Q :=
  (dv_cancel lr l2 l1 i n Q b hl h2 h1 h.symm).symm
theorem dv_done (lr lf lq : List Nat) (i n q Y u : Nat) (hl : i + n + 1 ≤ lr.length) (hO : OnlyIn i (i + n + 1) lr lf) (hq : i < lq.length) (h0 : lq.getD i 0 = 0) (hu : val lr + Y * val lq = u) (h : val (lf.drop i) + q * Y = val (lr.drop i)) :
    val lf + Y * val (lq.set i q) = u := by
  have h1 := val_set lq i q hq
  rw [h0, Nat.mul_zero, Nat.add_zero] at h1
  have h2 := dv_split lr lr i n hl ⟨rfl, fun _ _ => rfl⟩
  have h3 := dv_split lr lf i n hl hO
  have h4 : bp i * (val (lf.drop i) + q * Y) = bp i * val (lr.drop i) := by rw [h]
  rw [Nat.mul_add] at h4
  have h5 : Y * (val lq + bp i * q) = Y * val lq + bp i * (q * Y) := by
    rw [Nat.mul_add]
    congr 1
    ac_rfl
  rw [h1, h5]
  omega
theorem dv_small {X q Y P : Nat} (hY : 0 < Y) (h : X + q * Y = P) (hq : P / Y ≤ q) : X < Y := by
  have h1 : P < Y * (P / Y + 1) := by
    have := Nat.div_add_mod P Y
    have := Nat.mod_lt P hY
    rw [Nat.mul_add]; omega
  have h2 : Y * (P / Y + 1) ≤ Y * (q + 1) := Nat.mul_le_mul_left _ (by omega)
  rw [Nat.mul_add Y q 1, Nat.mul_comm Y q] at h2
  omega
theorem dv_pos {X q Y P T : Nat} (h : X + q * Y = P + T) (hX : X < T) : 0 < q := by
  rcases Nat.eq_zero_or_pos q with e | e
  · subst e; omega
  · exact e
theorem dv_less {X X' q Y P T b : Nat} (h : X + q * Y = P + T) (hq : 0 < q) (h2 : X' + T * b = X + Y) : X' + T * b + (q - 1) * Y = P + T := by
  have : q * Y = (q - 1) * Y + Y := by
    rw [← Nat.succ_mul]
    congr 1
    omega
  omega
theorem dv_start (lx ly : List Nat) (hlx : lo lx) (n : Nat) (hn : ly.length = n) (hn1 : 1 ≤ n) (hle : n ≤ lx.length) (htop : 0 < ly.getD (n - 1) 0) : val ((lx ++ [0]).drop (lx.length - n + 1)) < val ly := by
  have h1 : val ((lx ++ [0]).drop (lx.length - n + 1)) < bp (n - 1) := by
    rw [List.drop_append_of_le_length (by omega), val_append, val_cons, val_nil]
    have h2 := val_lt (lo_drop hlx (lx.length - n + 1))
    rw [List.length_drop, show lx.length - (lx.length - n + 1) = n - 1 by omega] at h2
    simpa using h2
  have h3 := val_take_succ ly (n - 1) (by omega)
  rw [show n - 1 + 1 = ly.length by omega, List.take_length] at h3
  have h4 : bp (n - 1) * 1 ≤ bp (n - 1) * ly.getD (n - 1) 0 := Nat.mul_le_mul_left _ htop
  omega
theorem dv_end {r q Y u : Nat} (h : r + Y * q = u) (hr : r < Y) : q = u / Y ∧ r = u % Y := by
  subst h
  rw [Nat.add_mul_div_left _ _ (by omega), Nat.add_mul_mod_self_left, Nat.div_eq_of_lt hr, Nat.mod_eq_of_lt hr]
  simp

end Go.Proofs.YtgpjfgakhncdnaaDoor
