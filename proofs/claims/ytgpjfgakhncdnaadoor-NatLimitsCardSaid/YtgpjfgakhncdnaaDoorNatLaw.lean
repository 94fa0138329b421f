/-
  DERIVED. Contracts of nat and of the specification in the forms that the laws of layer 2 want.
-/
import Derived.Test.YtgpjfgakhncdnaaDoorNatAwake
namespace Go.Proofs.YtgpjfgakhncdnaaDoor
open Go.RowKit

theorem wrong_zero {a b : ByteArray} {x : Int} (h : wrongL a.data.toList b.data.toList = x) (h0 : x = 0) : ∃ u v, a = num u ∧ b = num v := by
  rw [h0, wrongL] at h
  cases h1 : rightL a.data.toList
  · rw [if_pos (Or.inl h1)] at h; omega
  cases h2 : rightL b.data.toList
  · rw [if_pos (Or.inr h2)] at h; omega
  obtain ⟨u, rfl⟩ := right_str a h1
  obtain ⟨v, rfl⟩ := right_str b h2
  exact ⟨u, v, rfl, rfl⟩
theorem add_size (u v k : Nat) (hu : (num u).size ≤ k) (hv : (num v).size ≤ k) : (num (u + v)).size ≤ k + 1 := by
  rw [numS] at *; exact nd_add u v k hu hv
theorem mul_size (u v k : Nat) (hu : (num u).size ≤ k) (hv : (num v).size ≤ k) : (num (u * v)).size ≤ k + k := by
  rw [numS] at *; exact nd_mul u v k k hu hv
theorem sub_size {u v k : Nat} (h : u ≤ v) (hv : (num v).size ≤ k) : (num u).size ≤ k := by
  rw [numS] at *; exact Nat.le_trans (nd_mono h) hv
theorem gcd_size (u v k : Nat) (hu : (num u).size ≤ k) (hv : (num v).size ≤ k) : (num (Nat.gcd u v)).size ≤ k := by
  rcases Nat.eq_zero_or_pos u with h | h
  · subst h; rw [Nat.gcd_zero_left]; exact hv
  · exact sub_size (Nat.gcd_le_left v h) hu

theorem natRight_num (u : Nat) (w : World) (hs : (num u).size ≤ 1000000000) :
    Calls Tryd.prog 10 #[.string (num u)] w fun e w' => e = .returned (.bool true) ∧ Below w.heap.size w w' := by
  have := natRight_any (num u) w hs
  rwa [num_data, right_num] at this
theorem refRight_no (s : ByteArray) (h : Hid (rightL s.data.toList = false)) (w : World) (hs : s.size ≤ 1000000000) :
    Calls Tryd.prog 11 #[.string s] w fun e w' => e = .returned (.bool false) ∧ w = w' := by
  have := refRight_any s w hs
  rwa [h.out] at this
theorem natCompare_c (u v : Nat) (c : Int) (hc : Hid (cmpN u v = c)) (w : World) (ha : (num u).size ≤ 1000000000) (hb : (num v).size ≤ 1000000000) :
    Calls Tryd.prog 12 #[.string (num u), .string (num v)] w fun e w' => e = .returned (.int .i64 c) ∧ Below w.heap.size w w' := by
  have := natCompare_num u v w ha hb
  rwa [hc.out] at this
theorem natSub_back (u v : Nat) (w : World) (hu : (num (u + v)).size ≤ 4096) (hv : (num v).size ≤ 4096) (ht : Tab w) :
    Calls Tryd.prog 16 #[.string (num (u + v)), .string (num v)] w fun e w' => e = .returned (.tuple #[.string (num u), .int .i64 0]) ∧ Below w.heap.size w w' := by
  have := natSub_num (u + v) v (by omega) w hu hv ht
  rwa [Nat.add_sub_cancel] at this
theorem natMul_comm (u v : Nat) (w : World) (hu : (num u).size ≤ 4096) (hv : (num v).size ≤ 4096) (h : (num (u * v)).size ≤ 4096) (ht : Tab w) :
    Calls Tryd.prog 18 #[.string (num v), .string (num u)] w fun e w' => e = .returned (.tuple #[.string (num (u * v)), .int .i64 0]) ∧ Below w.heap.size w w' := by
  have := natMul_num v u w hv hu (by rw [Nat.mul_comm]; exact h) ht
  rwa [Nat.mul_comm v u] at this
theorem natMul_dist (u v t : Nat) (w : World) (hu : (num u).size ≤ 4096) (hv : (num (v + t)).size ≤ 4096) (h : (num (u * v + u * t)).size ≤ 4096) (ht : Tab w) :
    Calls Tryd.prog 18 #[.string (num u), .string (num (v + t))] w fun e w' => e = .returned (.tuple #[.string (num (u * v + u * t)), .int .i64 0]) ∧ Below w.heap.size w w' := by
  have := natMul_num u (v + t) w hu hv (by rw [Nat.mul_add]; exact h) ht
  rwa [Nat.mul_add] at this
theorem refAdd_div (u v : Nat) (w : World) (h1 : (num (u / v * v)).size ≤ 4096) (h2 : (num (u % v)).size ≤ 4096) (h : (num u).size ≤ 4096) :
    Calls Tryd.prog 15 #[.string (num (u / v * v)), .string (num (u % v))] w fun e w' => e = .returned (.tuple #[.string (num u), .int .i64 0]) ∧ w = w' := by
  have e : u / v * v + u % v = u := by rw [Nat.mul_comm]; exact Nat.div_add_mod u v
  have := refAdd_num (u / v * v) (u % v) w h1 h2 (by rw [e]; exact h)
  rwa [e] at this
theorem refDiv_exact (u g : Nat) (hd : Hid (g ∣ u)) (hg : 0 < g) (w : World) (hu : (num u).size ≤ 4096) (hv : (num g).size ≤ 4096) :
    Calls Tryd.prog 21 #[.string (num u), .string (num g)] w fun e w' => e = .returned (.tuple #[.string (num (u / g)), .string ⟨#[48]⟩, .int .i64 0]) ∧ w = w' := by
  have := refDiv_num u g hg w hu hv
  rwa [Nat.mod_eq_zero_of_dvd hd.out, ← num_zero] at this
theorem natGcd_g (u v g : Nat) (hg : Hid (Nat.gcd u v = g)) (w : World) (hu : (num u).size ≤ 4096) (hv : (num v).size ≤ 4096) (ht : Tab w) :
    Calls Tryd.prog 22 #[.string (num u), .string (num v)] w fun e w' => e = .returned (.tuple #[.string (num g), .int .i64 0]) ∧ Below w.heap.size w w' := by
  have := natGcd_num u v w hu hv ht
  rwa [hg.out] at this
theorem refGcd_g (u v g : Nat) (hg : Hid (Nat.gcd u v = g)) (w : World) (hu : (num u).size ≤ 4096) (hv : (num v).size ≤ 4096) :
    Calls Tryd.prog 23 #[.string (num u), .string (num v)] w fun e w' => e = .returned (.tuple #[.string (num g), .int .i64 0]) ∧ w = w' := by
  have := refGcd_num u v w hu hv
  rwa [hg.out] at this
theorem natGcd_z (u v : Nat) (hg : Hid (Nat.gcd u v = 0)) (w : World) (hu : (num u).size ≤ 4096) (hv : (num v).size ≤ 4096) (ht : Tab w) :
    Calls Tryd.prog 22 #[.string (num u), .string (num v)] w fun e w' => e = .returned (.tuple #[.string ⟨#[48]⟩, .int .i64 0]) ∧ Below w.heap.size w w' := by
  rw [num_zero]; exact natGcd_g u v 0 hg w hu hv ht
theorem refGcd_z (u v : Nat) (hg : Hid (Nat.gcd u v = 0)) (w : World) (hu : (num u).size ≤ 4096) (hv : (num v).size ≤ 4096) :
    Calls Tryd.prog 23 #[.string (num u), .string (num v)] w fun e w' => e = .returned (.tuple #[.string ⟨#[48]⟩, .int .i64 0]) ∧ w = w' := by
  rw [num_zero]; exact refGcd_g u v 0 hg w hu hv
theorem natGcd_mul (u v t g : Nat) (hg : Hid (Nat.gcd u v = g)) (w : World) (hu : (num (u * t)).size ≤ 4096) (hv : (num (v * t)).size ≤ 4096) (ht : Tab w) :
    Calls Tryd.prog 22 #[.string (num (u * t)), .string (num (v * t))] w fun e w' => e = .returned (.tuple #[.string (num (g * t)), .int .i64 0]) ∧ Below w.heap.size w w' :=
  natGcd_g _ _ _ (by show _ = _; rw [Nat.gcd_mul_right, hg.out]) w hu hv ht

end Go.Proofs.YtgpjfgakhncdnaaDoor
