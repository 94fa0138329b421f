/-
  DERIVED. Plain Lean: the lists of all subsets, and of those of one size, step by step.
-/
import Derived.Test.YtalfonpkefhlmaaDoorSetPure4
namespace Go.Proofs.YtalfonpkefhlmaaDoor.S

theorem mem_length : ∀ k n, (mem n k).length = cnt k n
  | 0, _ => rfl
  | k + 1, n => by
    obtain ⟨t, rfl | rfl⟩ := halves n
    · rw [mem_e, cnt_e, List.length_map, mem_length k t]
    · rw [mem_o, cnt_o, List.length_cons, List.length_map, mem_length k t]; omega
theorem members_cnt (n : Nat) : (members n).length = size n := mem_length 63 n

/-! ### all subsets -/
theorem range_double (p : Nat) : List.range (p + p) = List.range p ++ (List.range p).map (· + p) := by
  rw [List.range_add]; congr 1; apply List.map_congr_left; intro i _; omega
theorem subsL_pd (n : Nat) : ∀ j, j ≤ size n → subsL [0] ((members n).take j) = (List.range (2 ^ j)).map (pd 63 n)
  | 0, _ => by rw [List.take_zero, Nat.pow_zero]; show [0] = [pd 63 n 0]; rw [pd_zero]
  | j + 1, h => by
    have hl : j < (members n).length := by rw [members_cnt]; omega
    rw [List.take_succ_eq_append_getElem hl, subsL_snoc, subsL_pd n j (by omega), Nat.pow_succ, Nat.mul_two, range_double, List.map_append, List.map_map, List.map_map]
    congr 1
    apply List.map_congr_left
    intro m hm
    rw [List.mem_range] at hm
    show pd 63 n m + 2 ^ (members n)[j] = pd 63 n (m + 2 ^ j)
    rw [pd_add 63 n m j hm h]
    congr 2
    rw [List.getD_eq_getElem?_getD]
    show _ = ((members n)[j]?).getD 0
    rw [List.getElem?_eq_getElem hl]; rfl
theorem subsets_pd (n : Nat) : subsL [0] (members n) = (List.range (2 ^ size n)).map (pd 63 n) := by
  have := subsL_pd n (size n) (Nat.le_refl _)
  rwa [List.take_of_length_le (by rw [members_cnt]; exact Nat.le_refl _)] at this

/-! ### subsets of one size -/
/-- the numbers of n bits with k of them set, ascending -/
def gz : Nat → Nat → List Nat
  | _, 0 => [0]
  | 0, _ + 1 => []
  | n + 1, k + 1 => gz n (k + 1) ++ (gz n k).map (· + 2 ^ n)
theorem gz_zero (n : Nat) : gz n 0 = [0] := by cases n <;> rfl
theorem gz_step (n k : Nat) : gz (n + 1) (k + 1) = gz n (k + 1) ++ (gz n k).map (· + 2 ^ n) := rfl
theorem gz_len : ∀ n k, (gz n k).length = bin n k
  | n, 0 => by rw [gz_zero, bin_zero]; rfl
  | 0, _ + 1 => rfl
  | n + 1, k + 1 => by rw [gz_step, bin_step, List.length_append, List.length_map, gz_len n, gz_len n]; omega
theorem gz_lt : ∀ n k, ∀ x ∈ gz n k, x < 2 ^ n
  | n, 0, x, hx => by rw [gz_zero] at hx; simp at hx; subst hx; exact pow_p n
  | 0, _ + 1, x, hx => by simp [gz] at hx
  | n + 1, k + 1, x, hx => by
    rw [gz_step, List.mem_append, List.mem_map] at hx
    rw [Nat.pow_succ]
    rcases hx with hx | ⟨y, hy, rfl⟩
    · have := gz_lt n (k + 1) x hx; omega
    · have := gz_lt n k y hy; omega
theorem cnt_top : ∀ k n x, x < 2 ^ n → n < k → cnt k (x + 2 ^ n) = cnt k x + 1
  | 0, n, x, _, h => by omega
  | k + 1, 0, x, hx, _ => by
    have : x = 0 := by simpa using hx
    subst this
    rw [show 0 + 2 ^ 0 = 2 * 0 + 1 from rfl, cnt_o, cnt_zero, cnt_zero]
  | k + 1, n + 1, x, hx, h => by
    rw [Nat.pow_succ] at hx ⊢
    obtain ⟨t, rfl | rfl⟩ := halves x
    · rw [show 2 * t + 2 ^ n * 2 = 2 * (t + 2 ^ n) by omega, cnt_e, cnt_e, cnt_top k n t (by omega) (by omega)]
    · rw [show 2 * t + 1 + 2 ^ n * 2 = 2 * (t + 2 ^ n) + 1 by omega, cnt_o, cnt_o, cnt_top k n t (by omega) (by omega)]; omega
theorem gz_cnt : ∀ n k, n ≤ 63 → ∀ x ∈ gz n k, cnt 63 x = k
  | n, 0, _, x, hx => by rw [gz_zero] at hx; simp at hx; subst hx; exact cnt_zero 63
  | 0, _ + 1, _, x, hx => by simp [gz] at hx
  | n + 1, k + 1, h, x, hx => by
    rw [gz_step, List.mem_append, List.mem_map] at hx
    rcases hx with hx | ⟨y, hy, rfl⟩
    · exact gz_cnt n (k + 1) (by omega) x hx
    · rw [cnt_top 63 n y (gz_lt n k y hy) (by omega), gz_cnt n k (by omega) y hy]
theorem szL_pd (n : Nat) : ∀ j k, j ≤ size n → szL (members n) j k = (gz j k).map (pd 63 n)
  | j, 0, _ => by rw [szL_zero, gz_zero]; show [0] = [pd 63 n 0]; rw [pd_zero]
  | 0, k + 1, _ => rfl
  | j + 1, k + 1, h => by
    rw [szL_step, gz_step, List.map_append, szL_pd n j (k + 1) (by omega), szL_pd n j k (by omega), List.map_map, List.map_map]
    congr 1
    apply List.map_congr_left
    intro m hm
    show pd 63 n m + _ = pd 63 n (m + 2 ^ j)
    rw [pd_add 63 n m j (gz_lt j k m hm) h]; rfl

/-- the number behind a in its list -/
def nxt (a : Nat) : Nat := (a + lb 63 a) ||| (2 ^ (cnt 63 a - cnt 63 (a + lb 63 a)) - 1)
/-- b stands right behind a -/
def Nx (n a b : Nat) : Prop := 0 < a ∧ a + lb 63 a < 2 ^ n ∧ nxt a = b ∧ a < b
/-- each of a list stands right behind the one before it -/
def Seq (R : Nat → Nat → Prop) : List Nat → Prop
  | [] => True
  | [_] => True
  | a :: b :: l => R a b ∧ Seq R (b :: l)
theorem Seq.tail {R : Nat → Nat → Prop} {a : Nat} {l : List Nat} (h : Seq R (a :: l)) : Seq R l := by
  cases l with
  | nil => trivial
  | cons b l => exact h.2
theorem Seq.app {R : Nat → Nat → Prop} : ∀ {l m : List Nat}, Seq R l → Seq R m → (∀ a b, l.getLast? = some a → m.head? = some b → R a b) → Seq R (l ++ m)
  | [], m, _, hm, _ => hm
  | [a], [], _, _, _ => trivial
  | [a], b :: m, _, hm, h => ⟨h a b rfl rfl, hm⟩
  | a :: c :: l, m, hl, hm, h => ⟨hl.1, Seq.app hl.2 hm (fun x y hx hy => h x y (by rw [List.getLast?_cons_cons]; exact hx) hy)⟩
theorem Seq.map {R S : Nat → Nat → Prop} {f : Nat → Nat} : ∀ {l : List Nat}, (∀ a ∈ l, ∀ b ∈ l, R a b → S (f a) (f b)) → Seq R l → Seq S (l.map f)
  | [], _, _ => trivial
  | [_], _, _ => trivial
  | a :: b :: l, h, hl => ⟨h a (by simp) b (by simp) hl.1, Seq.map (l := b :: l) (fun x hx y hy => h x (by simp at hx ⊢; right; exact hx) y (by simp at hy ⊢; right; exact hy)) hl.2⟩
theorem Seq.mono {R S : Nat → Nat → Prop} : ∀ {l : List Nat}, (∀ a b, R a b → S a b) → Seq R l → Seq S l
  | [], _, _ => trivial
  | [_], _, _ => trivial
  | _ :: b :: l, h, hl => ⟨h _ _ hl.1, Seq.mono (l := b :: l) h hl.2⟩
theorem Seq.at {R : Nat → Nat → Prop} : ∀ {l : List Nat} {i : Nat}, Seq R l → i + 1 < l.length → R (l.getD i 0) (l.getD (i + 1) 0)
  | [], _, _, h => by simp at h
  | [_], _, _, h => by simp at h
  | a :: b :: l, 0, hl, _ => hl.1
  | a :: b :: l, i + 1, hl, h => Seq.at (l := b :: l) hl.2 (by simpa using h)
theorem lb_top : ∀ k n a, a < 2 ^ n → 0 < a → lb k (a + 2 ^ n) = lb k a
  | 0, _, _, _, _ => rfl
  | k + 1, 0, a, h, h0 => by have : a = 0 := by simpa using h
                             omega
  | k + 1, n + 1, a, h, h0 => by
    rw [Nat.pow_succ] at h ⊢
    obtain ⟨t, rfl | rfl⟩ := halves a
    · rw [show 2 * t + 2 ^ n * 2 = 2 * (t + 2 ^ n) by omega, lb_e, lb_e, lb_top k n t (by omega) (by omega)]
    · rw [show 2 * t + 1 + 2 ^ n * 2 = 2 * (t + 2 ^ n) + 1 by omega, lb_o, lb_o]
theorem or_top (n x c : Nat) (hx : x < 2 ^ n) (hc : c < 2 ^ n) : (x + 2 ^ n) ||| c = (x ||| c) + 2 ^ n := by
  have h1 := Nat.two_pow_add_eq_or_of_lt hx 1
  have hxc : x ||| c < 2 ^ n := Nat.or_lt_two_pow hx hc
  have h2 := Nat.two_pow_add_eq_or_of_lt hxc 1
  rw [Nat.mul_one] at h1 h2
  rw [Nat.add_comm x, h1, Nat.or_assoc, ← h2, Nat.add_comm]
theorem Nx.top {n a b : Nat} (hn : n < 63) (ha : a < 2 ^ n) (h : Nx n a b) : Nx (n + 1) (a + 2 ^ n) (b + 2 ^ n) := by
  obtain ⟨h0, h1, h2, h3⟩ := h
  have hl := lb_top 63 n a ha h0
  have hp := pow_p n
  refine ⟨by omega, by rw [hl, Nat.pow_succ]; omega, ?_, by omega⟩
  rw [nxt, hl, show a + 2 ^ n + lb 63 a = a + lb 63 a + 2 ^ n by omega, cnt_top 63 n a ha hn, cnt_top 63 n _ h1 hn]
  rw [nxt] at h2
  have hc : cnt 63 a + 1 - (cnt 63 (a + lb 63 a) + 1) = cnt 63 a - cnt 63 (a + lb 63 a) := by omega
  have hcn : ∀ m a, a < 2 ^ m → cnt 63 a ≤ m := by
    have : ∀ k m a, a < 2 ^ m → cnt k a ≤ m := by
      intro k
      induction k with
      | zero => intro m a _; exact Nat.zero_le _
      | succ k ih =>
        intro m a hm
        cases m with
        | zero => have : a = 0 := by simpa using hm
                  subst this; rw [cnt_zero]; exact Nat.le_refl _
        | succ m =>
          rw [Nat.pow_succ] at hm
          obtain ⟨t, rfl | rfl⟩ := halves a
          · rw [cnt_e]; have := ih m t (by omega); omega
          · rw [cnt_o]; have := ih m t (by omega); omega
    exact this 63
  have hm := hcn n a ha
  have hcl : 2 ^ (cnt 63 a - cnt 63 (a + lb 63 a)) ≤ 2 ^ n := Nat.pow_le_pow_right (by omega) (by omega)
  rw [hc, or_top n _ _ h1 (by have := pow_p (cnt 63 a - cnt 63 (a + lb 63 a)); omega), h2]
/-- the last of a list -/
def lst (n k : Nat) : Nat := (2 ^ k - 1) * 2 ^ (n - k)
theorem gz_head : ∀ n k, k ≤ n → (gz n k).head? = some (2 ^ k - 1)
  | n, 0, _ => by rw [gz_zero]; rfl
  | 0, k + 1, h => by omega
  | n + 1, k + 1, h => by
    rw [gz_step]
    by_cases e : k = n
    · subst e
      have : gz k (k + 1) = [] := List.eq_nil_of_length_eq_zero (by rw [gz_len, bin_big (Nat.lt_succ_self k)])
      rw [this, List.nil_append, List.head?_map, gz_head k k (Nat.le_refl _)]
      show some (2 ^ k - 1 + 2 ^ k) = _
      rw [Nat.pow_succ]; have := pow_p k; congr 1; omega
    · have h1 := gz_head n (k + 1) (by omega)
      cases hg : gz n (k + 1) with
      | nil => rw [hg] at h1; simp at h1
      | cons a l => rw [hg] at h1; rw [List.cons_append]; exact h1
theorem gz_last : ∀ n k, k ≤ n → (gz n k).getLast? = some (lst n k)
  | n, 0, _ => by rw [gz_zero, lst]; simp
  | 0, k + 1, h => by omega
  | n + 1, k + 1, h => by
    have h1 := gz_last n k (by omega)
    rw [gz_step, List.getLast?_append, List.getLast?_map, h1]
    show some (lst n k + 2 ^ n) = _
    rw [lst, lst, show n + 1 - (k + 1) = n - k by omega, Nat.pow_succ]
    obtain ⟨d, hd⟩ : ∃ d, n = k + d := ⟨n - k, by omega⟩
    subst hd
    rw [show k + d - k = d by omega, Nat.pow_add]
    have := pow_p k
    congr 1
    obtain ⟨q, hq⟩ : ∃ q, 2 ^ k = q + 1 := ⟨2 ^ k - 1, by omega⟩
    rw [hq, show q + 1 - 1 = q by omega, show (q + 1) * 2 - 1 = q + (q + 1) by omega]; grind
theorem lb_pow : ∀ k d q, d < k → lb k ((2 * q + 1) * 2 ^ d) = 2 ^ d
  | 0, _, _, h => by omega
  | k + 1, 0, q, _ => by rw [Nat.pow_zero, Nat.mul_one, lb_o]
  | k + 1, d + 1, q, h => by
    rw [Nat.pow_succ, show (2 * q + 1) * (2 ^ d * 2) = 2 * ((2 * q + 1) * 2 ^ d) by rw [← Nat.mul_assoc, Nat.mul_comm]; , lb_e, lb_pow k d q (by omega), Nat.mul_comm]
theorem cnt_shift : ∀ k d a, cnt (k + d) (a * 2 ^ d) = cnt k a
  | k, 0, a => by rw [Nat.pow_zero, Nat.mul_one]; rfl
  | k, d + 1, a => by
    rw [Nat.pow_succ, show a * (2 ^ d * 2) = 2 * (a * 2 ^ d) by rw [← Nat.mul_assoc, Nat.mul_comm], ← Nat.add_assoc, cnt_e, cnt_shift k d a]
theorem cnt_ones : ∀ k c, c ≤ k → cnt k (2 ^ c - 1) = c
  | k, 0, _ => cnt_zero k
  | 0, c + 1, h => by omega
  | k + 1, c + 1, h => by
    have := pow_p c
    rw [Nat.pow_succ, show 2 ^ c * 2 - 1 = 2 * (2 ^ c - 1) + 1 by omega, cnt_o, cnt_ones k c (by omega)]; omega
theorem gz_midc (k d a : Nat) (h : k + d < 62) (ha : a = (2 * (2 ^ k - 1) + 1) * 2 ^ d) : cnt 63 a = k + 1 := by
  have h1 := cnt_shift (63 - d) d (2 ^ (k + 1) - 1)
  have hpk := pow_p k
  have h2 : (2 ^ (k + 1) - 1) * 2 ^ d = a := by rw [ha, Nat.pow_succ, show 2 ^ k * 2 - 1 = 2 * (2 ^ k - 1) + 1 by omega]
  rw [show 63 - d + d = 63 by omega, h2, cnt_ones (63 - d) (k + 1) (by omega)] at h1
  exact h1
theorem gz_mids (n : Nat) (h : n < 63) : cnt 63 (2 ^ n) = 1 := by
  have h1 := cnt_top 63 n 0 (pow_p n) h
  rw [Nat.zero_add] at h1
  rw [h1, cnt_zero 63]
theorem gz_mid (k d a b : Nat) (h : k + 1 + d + 1 ≤ 63) (hla : lst (k + 1 + d) (k + 1) = a) (hhb : 2 ^ k - 1 + 2 ^ (k + 1 + d) = b) : Nx (k + 1 + d + 1) a b := by
  have hpk := pow_p k
  have hpd := pow_p d
  have ha : a = (2 * (2 ^ k - 1) + 1) * 2 ^ d := by
    rw [← hla, lst, show k + 1 + d - (k + 1) = d by omega, Nat.pow_succ, show 2 ^ k * 2 - 1 = 2 * (2 ^ k - 1) + 1 by omega]
  have hlb : lb 63 a = 2 ^ d := by rw [ha, lb_pow 63 d _ (by omega)]
  have hsum : a + 2 ^ d = 2 ^ (k + 1 + d) := by
    rw [ha, Nat.pow_add, Nat.pow_succ]
    obtain ⟨q, hq⟩ : ∃ q, 2 ^ k = q + 1 := ⟨2 ^ k - 1, by omega⟩
    rw [hq, show q + 1 - 1 = q by omega]; grind
  have hca := gz_midc k d a (by omega) ha
  have hcs := gz_mids (k + 1 + d) (by omega)
  have ha0 : 0 < a := by rw [ha]; exact Nat.mul_pos (by omega) hpd
  have hkd : 2 ^ k ≤ 2 ^ (k + 1 + d) := Nat.pow_le_pow_right (by omega) (by omega)
  have hps := pow_p (k + 1 + d)
  have hor := or_top (k + 1 + d) 0 (2 ^ k - 1) hps (by omega)
  rw [Nat.zero_add, Nat.zero_or] at hor
  refine ⟨ha0, by rw [hlb, hsum, Nat.pow_succ]; omega, ?_, ?_⟩
  · rw [nxt, hlb, hsum, hca, hcs, show k + 1 - 1 = k by omega, ← hhb]; exact hor
  · rw [← hhb]; omega
theorem gz_seq : ∀ n k, n ≤ 63 → Seq (Nx n) (gz n k)
  | n, 0, _ => by rw [gz_zero]; trivial
  | 0, _ + 1, _ => trivial
  | n + 1, k + 1, h => by
    rw [gz_step]
    refine Seq.app ?_ ?_ ?_
    · refine Seq.mono ?_ (gz_seq n (k + 1) (by omega))
      rintro a b ⟨h0, h1, h2, h3⟩
      exact ⟨h0, by rw [Nat.pow_succ]; omega, h2, h3⟩
    · refine Seq.map ?_ (gz_seq n k (by omega))
      intro a ha b hb hr
      exact Nx.top (by omega) (gz_lt n k a ha) hr
    · intro a b hla hhb
      have hkn : k + 1 ≤ n := by
        by_cases hk : k + 1 ≤ n
        · exact hk
        · have : gz n (k + 1) = [] := List.eq_nil_of_length_eq_zero (by rw [gz_len, bin_big (by omega)])
          rw [this] at hla; simp at hla
      rw [gz_last n (k + 1) hkn] at hla
      rw [List.head?_map, gz_head n k (by omega)] at hhb
      have hla : lst n (k + 1) = a := by simpa using hla
      have hhb : 2 ^ k - 1 + 2 ^ n = b := by simpa using hhb
      obtain ⟨d, rfl⟩ : ∃ d, n = k + 1 + d := ⟨n - (k + 1), by omega⟩
      exact gz_mid k d a b (by omega) hla hhb
theorem cnt_inc : ∀ k m, cnt k (m + 1) ≤ cnt k m + 1
  | 0, _ => Nat.zero_le _
  | k + 1, m => by
    obtain ⟨t, rfl | rfl⟩ := halves m
    · rw [cnt_o, cnt_e]; omega
    · rw [show 2 * t + 1 + 1 = 2 * (t + 1) by omega, cnt_e, cnt_o]; have := cnt_inc k t; omega
theorem cnt_car : ∀ k m, cnt k (m + lb k m) ≤ cnt k m
  | 0, _ => Nat.zero_le _
  | k + 1, m => by
    obtain ⟨t, rfl | rfl⟩ := halves m
    · rw [lb_e, show 2 * t + 2 * lb k t = 2 * (t + lb k t) by omega, cnt_e, cnt_e]; exact cnt_car k t
    · rw [lb_o, show 2 * t + 1 + 1 = 2 * (t + 1) by omega, cnt_e, cnt_o]; have := cnt_inc k t; omega

end Go.Proofs.YtalfonpkefhlmaaDoor.S

