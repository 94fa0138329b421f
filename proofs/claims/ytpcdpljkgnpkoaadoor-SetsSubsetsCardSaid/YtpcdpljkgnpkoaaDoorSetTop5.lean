/-
  DERIVED. The iterators of sets: all subsets; those of one size.
-/
import Derived.Test.YtpcdpljkgnpkoaaDoorSetTop4
namespace Go.Proofs.YtpcdpljkgnpkoaaDoor.S
open Go.RowKit Go.Shelf
set_option maxRecDepth 8000
attribute [local go_sem] Oper.semAt_some

/-- all subsets of n, ascending -/
def subsN (n : Nat) : List Nat := (List.range (2 ^ size n)).map (pd 63 n)
theorem subsN_more (n k : Nat) : (List.range k).map (pd 63 n) ++ [pd 63 n k] = (List.range (k + 1)).map (pd 63 n) := by rw [List.range_succ, List.map_append]; rfl
theorem subsN_take (n k : Nat) (h : k + 1 ≤ 2 ^ size n) : (List.range k).map (pd 63 n) ++ [pd 63 n k] <+: subsN n := by
  rw [subsN_more, subsN]
  obtain ⟨d, hd⟩ : ∃ d, 2 ^ size n = (k + 1) + d := ⟨2 ^ size n - (k + 1), by omega⟩
  rw [hd, show List.range (k + 1 + d) = List.range (k + 1) ++ (List.range d).map (k + 1 + ·) from List.range_add, List.map_append]
  exact List.prefix_append _ _
set_option maxHeartbeats 2000000 in
theorem sub1_in (l Bn n₀ n : Nat) (hn : n < 9223372036854775808) (hB : Bn < n₀) (J Jx : List Nat → World → Prop)
    (hY : ∀ pre x W, J pre W → pre.length < 2 ^ size n → YieldAt Fence.wide 3 Tryd.prog l (encN x) W fun e W' =>
      (e = .returned (.bool true) ∧ J (pre ++ [x]) W' ∧ Below n₀ W W') ∨ (e = .returned (.bool false) ∧ Jx (pre ++ [x]) W'))
    (W : World) (hc : W.cell? ⟨Bn, 0, none⟩ = some (.int .i64 (n : Int))) (h0 : J [] W) :
    CallsIn Fence.wide 4 Tryd.prog 44 #[.func (.yield l) #[] #[], .pointer (some ⟨Bn, 0, none⟩)] W fun e W' => (∃ v, e = .returned v) ∧
      ((∃ ys, ys = subsN n ∧ J ys W') ∨ (∃ pre, pre <+: subsN n ∧ Jx pre W')) := by
  have HN : Hid (n < 2 ^ 63) := by show _ < _; simpa using hn
  refine callsIn_of_wp Tryd.func44 rfl trivial ?_ rfl
  simp only [Tryd.ntmps44, List.size_toArray, List.length_cons, List.length_nil, Nat.reduceAdd, Nat.reduceSub, Array.replicate_succ, Array.replicate_zero, List.push_toArray, List.append_toArray, List.nil_append, List.cons_append]
  gi_wp2
  gi_loopw [3] (fun p wr => ∃ k s : Nat, p = .int .i64 s ∧ s ≤ n ∧ Hid (k + 1 ≤ 2 ^ size n) ∧ Hid (pd 63 n k = s) ∧ J ((List.range k).map (pd 63 n)) wr ∧ wr.cell? ⟨Bn, 0, none⟩ = some (.int .i64 (n : Int)))
    (fun p _ => n - (intOf p).toNat)
  case atStart => exact ⟨0, 0, rfl, Nat.zero_le _, pow_p _, pd_zero 63 n, h0, hc⟩
  case round =>
    obtain ⟨k, s, rfl, hs, HK, HS, hJs, hcs⟩ := hrel
    obtain ⟨fn, tmps, assign, body, hy, hR⟩ := hY _ s wr hJs (by rw [List.length_map, List.length_range]; exact HK.out)
    simp only [encN] at hy
    by_cases hlast : k + 1 < 2 ^ size n
    · have hsn : s < n := by rw [← HS.out]; exact pd_lt 63 n k HN.out hlast
      have hne : ((s : Int) == (n : Int)) = false := ne_eqI (by omega)
      have hne2 : ((s : Int) != (n : Int)) = true := by simp; omega
      have hinc := i_inc n k s hn HS.out hlast
      obtain ⟨t, ht⟩ : ∃ t, pd 63 n (k + 1) = t := ⟨_, rfl⟩
      have htn : t ≤ n := by rw [← ht]; exact pd_le _ _ _
      have hst : s < t := by rw [← ht, ← HS.out]; exact pd_mono 63 n k (k + 1) (by omega) hlast
      rw [ht] at hinc
      have HT : Hid (pd 63 n (k + 1) = t) := ht
      have HK2 : Hid (k + 1 + 1 ≤ 2 ^ size n) := hlast
      have HP : Hid ((List.range k).map (pd 63 n) ++ [s] <+: subsN n) := by show _ <+: _; rw [← HS.out]; exact subsN_take n k (by omega)
      have HE : Hid ((List.range k).map (pd 63 n) ++ [s] = (List.range (k + 1)).map (pd 63 n)) := by show _ = _; rw [← HS.out, List.range_succ, List.map_append]; rfl
      clear hlast ht
      gi_wp2
      refine hR.mono ?_
      rintro e W3 (⟨rfl, hJ3, hk3⟩ | ⟨rfl, hJx3⟩)
      · have hc3 : W3.cell? ⟨Bn, 0, none⟩ = some (.int .i64 (n : Int)) := (hk3.cell (p := ⟨Bn, 0, none⟩) hB).trans hcs
        gi_wp2
        go_roundw
        case rel => exact ⟨k + 1, t, rfl, htn, HK2, HT, by rw [← HE.out]; exact hJ3, hc3⟩
        case measure => simp [intOf]; omega
      · gi_wp2
        go_end0
        exact ⟨⟨_, rfl⟩, .inr ⟨_, HP.out, hJx3⟩⟩
    · have hkz : k + 1 = 2 ^ size n := by have := HK.out; omega
      have hsn : s = n := by
        rw [← HS.out, show k = 2 ^ size n - 1 by omega]
        exact pd_full 63 n HN.out
      have HE : Hid ((List.range k).map (pd 63 n) ++ [s] = subsN n) := by show _ = _; rw [← HS.out, subsN_more, hkz]; rfl
      clear hlast hkz
      subst hsn
      gi_wp2
      refine hR.mono ?_
      rintro e W3 (⟨rfl, hJ3, hk3⟩ | ⟨rfl, hJx3⟩)
      · have hc3 : W3.cell? ⟨Bn, 0, none⟩ = some (.int .i64 (s : Int)) := (hk3.cell (p := ⟨Bn, 0, none⟩) hB).trans hcs
        gi_wp2
        go_end0
        exact ⟨⟨_, rfl⟩, .inl ⟨_, HE.out, hJ3⟩⟩
      · gi_wp2
        go_end0
        exact ⟨⟨_, rfl⟩, .inr ⟨_, by rw [HE.out]; exact List.prefix_rfl, hJx3⟩⟩
theorem sub_stops (Bn n₀ n : Nat) (hn : n < 9223372036854775808) (w : World) (hBn : Bn < w.heap.size) (hB : Bn < n₀) (hc : w.cell? ⟨Bn, 0, none⟩ = some (.int .i64 (n : Int))) :
    SeqStopsK Fence.wide 4 Tryd.prog 44 #[.pointer (some ⟨Bn, 0, none⟩)] encN (Below n₀) (fun ys => ys = subsN n) (fun pre => pre <+: subsN n) (2 ^ size n) w := fun l J Jx W hW _ _ hY h0 =>
  sub1_in l Bn n₀ n hn hB J Jx hY W ((hW.cell (p := ⟨Bn, 0, none⟩) hBn).trans hc) h0
theorem subsets_w (n : Nat) (w : World) :
    Calls Tryd.prog 33 #[.int .i64 n] w fun e w' => e = .returned (.func (.func 44) #[] #[.pointer (some ⟨w.heap.size, 0, none⟩)]) ∧ w' = w.alloc (.cells #[.int .i64 (n : Int)] 3) := by
  go_enter Tryd.func33, Tryd.ntmps33
  go_wp2_with fail
  go_ret
  exact ⟨rfl, rfl⟩

/-- subsets of one size, ascending -/
def sizN (n k : Nat) : List Nat := (gz (size n) k).map (pd 63 n)
theorem seq_take {l : List Nat} {i : Nat} (f : Nat → Nat) (h : i < l.length) : (l.take i).map f ++ [f (l.getD i 0)] = (l.take (i + 1)).map f := by
  rw [take_more h, List.map_append]; rfl
theorem take_pre (l : List Nat) (i : Nat) (f : Nat → Nat) : (l.take i).map f <+: l.map f := by
  rw [List.map_take]; exact List.take_prefix _ _
theorem gz_first (n k : Nat) (h : k ≤ n) : (gz n k).getD 0 0 = 2 ^ k - 1 ∧ 0 < (gz n k).length := by
  have h1 := gz_head n k h
  cases hg : gz n k with
  | nil => rw [hg] at h1; cases h1
  | cons a l => rw [hg] at h1; simp at h1; exact ⟨by simpa using h1, by simp⟩
theorem gz_end (n k i : Nat) (h : k ≤ n) (hi : i + 1 = (gz n k).length) : (gz n k).getD i 0 = lst n k := by
  have h1 := gz_last n k h
  rw [List.getLast?_eq_getElem?, ← hi] at h1
  rw [List.getD_eq_getElem?_getD]
  simp only [Nat.add_sub_cancel] at h1
  rw [h1]; rfl
theorem gz_rise (n k : Nat) (hn : n ≤ 63) (i : Nat) : ∀ d, i + d + 1 < (gz n k).length → (gz n k).getD i 0 < (gz n k).getD (i + d + 1) 0
  | 0, h => (Seq.at (gz_seq n k hn) h).2.2.2
  | d + 1, h => Nat.lt_trans (gz_rise n k hn i d (by omega)) (Seq.at (i := i + d + 1) (gz_seq n k hn) h).2.2.2
theorem lst_neg (n k : Nat) (h : k ≤ n) : lst n k = 2 ^ n - 1 - (2 ^ (n - k) - 1) := by
  obtain ⟨d, rfl⟩ : ∃ d, n = k + d := ⟨n - k, by omega⟩
  rw [lst, show k + d - k = d by omega, Nat.pow_add]
  have h1 := pow_p k
  have h2 := pow_p d
  obtain ⟨q, hq⟩ : ∃ q, 2 ^ k = q + 1 := ⟨2 ^ k - 1, by omega⟩
  rw [hq, show q + 1 - 1 = q by omega, Nat.add_mul]
  omega
/-- the last subset of a size -/
theorem last_pd (n k : Nat) (hn : n < 2 ^ 63) (h : k ≤ size n) : n - pd 63 n (2 ^ (size n - k) - 1) = pd 63 n (lst (size n) k) := by
  have h1 : 2 ^ (size n - k) ≤ 2 ^ size n := Nat.pow_le_pow_right (by omega) (by omega)
  have h2 := pow_p (size n - k)
  have h3 := pd_neg 63 n (2 ^ (size n - k) - 1) hn (by show _ < 2 ^ size n; omega)
  rw [lst_neg (size n) k h]
  have h4 : pd 63 n (2 ^ size n - 1 - (2 ^ (size n - k) - 1)) + pd 63 n (2 ^ (size n - k) - 1) = n := h3
  omega
theorem i_last (n k : Nat) (hn : n < 9223372036854775808) (h : k ≤ size n) : bits .andNot .i64 (n : Int) (pd 63 n (2 ^ (size n - k) - 1) : Nat) = (pd 63 n (lst (size n) k) : Nat) := by
  have h1 := last_pd n k (by simpa using hn) h
  have h2 := i_andNot n (lst (size n) k) hn
  have h3 := pd_le 63 n (2 ^ (size n - k) - 1)
  rw [← h1, show n - (n - pd 63 n (2 ^ (size n - k) - 1)) = pd 63 n (2 ^ (size n - k) - 1) by omega] at h2
  rw [h2, h1]

end Go.Proofs.YtpcdpljkgnpkoaaDoor.S

