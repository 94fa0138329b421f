/-
  DERIVED. What the laws want of nat's functions: Right, Compare, Add, Sub, Mul.
-/
import Derived.Test.YtgpjfgakhncdnaaDoorNatTop
import Derived.Test.YtgpjfgakhncdnaaDoorNatSum
import Derived.Test.YtgpjfgakhncdnaaDoorNatDif
import Derived.Test.YtgpjfgakhncdnaaDoorNatMul
import Derived.Test.YtgpjfgakhncdnaaDoorNatParse
import Derived.Test.YtgpjfgakhncdnaaDoorNatFmt2
namespace Go.Proofs.YtgpjfgakhncdnaaDoor
open Go.RowKit

theorem keep_of {P : Program} {f : FuncId} {args : Array Value} {w : World} {v : Ending} (h : Calls P f args w fun e w' => e = v ∧ w = w') : Calls P f args w fun e w' => e = v ∧ Below w.heap.size w w' :=
  h.mono fun _ _ ⟨he, hw⟩ => ⟨he, by subst hw; exact Below.refl _ _⟩
theorem limbs_len (u K : Nat) (h : (num u).size ≤ K) : (limbs u).length ≤ K := by
  apply limbs_le
  rw [bp_ten]
  have h1 := lt_nd u
  rw [num_size] at h
  exact Nat.lt_of_lt_of_le h1 (Nat.pow_le_pow_right (by omega) (by show (Lib.decDigits u).length ≤ 9 * K; omega))
theorem parse_num (u : Nat) (w : World) (hL : (num u).size ≤ 100000) :
    Calls Tryd.prog 30 #[.string (num u)] w fun e w' => ∃ g cap, e = .returned (.slice (some ⟨g, 0, none⟩) (limbs u).length cap) ∧ Rw w' g cap (limbs u) ∧ w.heap.size ≤ g ∧ Below w.heap.size w w' := parse_str u _ rfl w hL
theorem format_any (n g cap : Nat) (w : World) (h : Rw w g cap (limbs n)) (ht : Tab w) (hl : (limbs n).length ≤ 1000000) :
    Calls Tryd.prog 28 #[.slice (some ⟨g, 0, none⟩) (limbs n).length cap] w fun e w' => e = .returned (.string (num n)) ∧ Below w.heap.size w w' := by
  rcases Nat.eq_zero_or_pos n with e | hp
  · subst e
    rw [limbs_zero]
    exact keep_of (format_zero _ _ _)
  · exact format_pos n hp g cap w h ht hl
theorem sum_num (u v gx cx gy cy : Nat) (w : World) (hx : Rw w gx cx (limbs u)) (hy : Rw w gy cy (limbs v)) (hu : (limbs u).length ≤ 1000000) (hv : (limbs v).length ≤ 1000000) :
    Calls Tryd.prog 29 #[.slice (some ⟨gx, 0, none⟩) (limbs u).length cx, .slice (some ⟨gy, 0, none⟩) (limbs v).length cy] w fun e w' => ∃ g cap, e = .returned (.slice (some ⟨g, 0, none⟩) (limbs (u + v)).length cap) ∧ Rw w' g cap (limbs (u + v)) ∧ w.heap.size ≤ g ∧ Below w.heap.size w w' := by
  have := sum_any gx cx gy cy _ _ (limbs_lo u) (limbs_lo v) w hx hy hu hv
  rwa [limbs_val, limbs_val] at this
theorem mul_num (u v gx cx gy cy : Nat) (w : World) (hx : Rw w gx cx (limbs u)) (hy : Rw w gy cy (limbs v)) (hu : (limbs u).length ≤ 1000000) (hv : (limbs v).length ≤ 1000000) :
    Calls Tryd.prog 36 #[.slice (some ⟨gx, 0, none⟩) (limbs u).length cx, .slice (some ⟨gy, 0, none⟩) (limbs v).length cy] w fun e w' => ∃ g cap, e = .returned (.slice (some ⟨g, 0, none⟩) (limbs (u * v)).length cap) ∧ Rw w' g cap (limbs (u * v)) ∧ w.heap.size ≤ g ∧ Below w.heap.size w w' := by
  have := mul_any gx cx gy cy _ _ (limbs_lo u) (limbs_lo v) w hx hy hu hv
  rwa [limbs_val, limbs_val] at this
theorem dif_num (u v gx cx gy cy : Nat) (w : World) (hx : Rw w gx cx (limbs u)) (hy : Rw w gy cy (limbs v)) (hu : (limbs u).length ≤ 1000000) (h : v ≤ u) :
    Calls Tryd.prog 34 #[.slice (some ⟨gx, 0, none⟩) (limbs u).length cx, .slice (some ⟨gy, 0, none⟩) (limbs v).length cy] w fun e w' => ∃ g cap, e = .returned (.slice (some ⟨g, 0, none⟩) (limbs (u - v)).length cap) ∧ Rw w' g cap (limbs (u - v)) ∧ w.heap.size ≤ g ∧ Below w.heap.size w w' := by
  have := dif_any gx cx gy cy _ _ (limbs_lo u) (limbs_lo v) w hx hy hu (limbs_le (Nat.lt_of_le_of_lt h (limbs_lt u))) (by rw [limbs_val, limbs_val]; exact h)
  rwa [limbs_val, limbs_val] at this

theorem natRight_any (s : ByteArray) (w : World) (hs : s.size ≤ 1000000000) :
    Calls Tryd.prog 10 #[.string s] w fun e w' => e = .returned (.bool (rightL s.data.toList)) ∧ Below w.heap.size w w' := keep_of (natRight_eq s w hs)
theorem natCompare_bad (a b : ByteArray) (w : World) (ha : a.size ≤ 1000000000) (hb : b.size ≤ 1000000000) (h : rightL a.data.toList = false ∨ rightL b.data.toList = false) :
    Calls Tryd.prog 12 #[.string a, .string b] w fun e w' => e = .returned (.int .i64 0) ∧ Below w.heap.size w w' := keep_of (cmp_bad a b w ha hb h)
theorem natCompare_num (u v : Nat) (w : World) (ha : (num u).size ≤ 1000000000) (hb : (num v).size ≤ 1000000000) :
    Calls Tryd.prog 12 #[.string (num u), .string (num v)] w fun e w' => e = .returned (.int .i64 (cmpN u v)) ∧ Below w.heap.size w w' := keep_of (cmp_num u v w ha hb)

theorem natAdd_bad (a b : ByteArray) (x : Int) (hx : Hid (wrongL a.data.toList b.data.toList = x)) (hx0 : (x != 0) = true) (w : World) (ha : a.size ≤ 1000000000) (hb : b.size ≤ 1000000000) :
    Calls Tryd.prog 14 #[.string a, .string b] w fun e w' => e = .returned (.tuple #[.string ⟨#[]⟩, .int .i64 x]) ∧ Below w.heap.size w w' := by
  go_enter Tryd.func14, Tryd.ntmps14
  go_wp2_with fail
  refine (check_hid a b x hx _ ha hb).mono ?_
  rintro e w' ⟨rfl, rfl⟩
  go_wp2_with fail
  go_ret2
  exact ⟨rfl, Below.refl _ _⟩
set_option maxHeartbeats 400000 in
theorem natAdd_num (u v : Nat) (w : World) (hu : (num u).size ≤ 4096) (hv : (num v).size ≤ 4096) (h : (num (u + v)).size ≤ 4096) (ht : Tab w) :
    Calls Tryd.prog 14 #[.string (num u), .string (num v)] w fun e w' => e = .returned (.tuple #[.string (num (u + v)), .int .i64 0]) ∧ Below w.heap.size w w' := by
  have hlu := Nat.le_trans (limbs_len u 4096 hu) (show 4096 ≤ 1000000 by omega)
  have hlv := Nat.le_trans (limbs_len v 4096 hv) (show 4096 ≤ 1000000 by omega)
  have hlen : (limbs (u + v)).length ≤ 1000000 := Nat.le_trans (limbs_len _ 4097 (by rw [num_size] at *; exact nd_add u v 4096 hu hv)) (by omega)
  go_enter Tryd.func14, Tryd.ntmps14
  go_wp2_with fail
  refine (check_num u v _ hu hv).mono ?_
  rintro e w' ⟨rfl, rfl⟩
  go_wp2_with fail
  refine (parse_num u _ (by omega)).mono ?_
  rintro e w1 ⟨gx, cx, rfl, hx, hgx, b1⟩
  have t1 := ht.below (Nat.le_refl _) b1
  go_wp2_with fail
  refine (parse_num v _ (by omega)).mono ?_
  rintro e w2 ⟨gy, cy, rfl, hy, hgy, b2⟩
  have t2 := t1.below (Nat.le_refl _) b2
  have hx2 := hx.below b2 hx.lt
  have B2 := b1.trans (b2.mono b1.size)
  clear b1 b2 t1 hx
  go_wp2_with fail
  refine (sum_num u v gx cx gy cy _ hx2 hy hlu hlv).mono ?_
  rintro e w3 ⟨gz, cz, rfl, hz, hgz, b3⟩
  have t3 := t2.below (Nat.le_refl _) b3
  have B3 := B2.trans (b3.mono B2.size)
  clear B2 b3 t2 hx2 hy
  go_wp2_with fail
  refine (format_any (u + v) gz cz _ hz t3 hlen).mono ?_
  rintro e w4 ⟨rfl, b4⟩
  have B4 := B3.trans (b4.mono B3.size)
  clear B3 b4 t3 hz
  go_wp2_with fail
  refine (sized_ok _ _ h).mono ?_
  rintro e w' ⟨rfl, rfl⟩
  go_wp2_with fail
  go_ret2
  exact ⟨rfl, B4⟩
set_option maxHeartbeats 400000 in
theorem natAdd_over (u v : Nat) (w : World) (hu : (num u).size ≤ 4096) (hv : (num v).size ≤ 4096) (h : 4096 < (num (u + v)).size) (ht : Tab w) :
    Calls Tryd.prog 14 #[.string (num u), .string (num v)] w fun e w' => e = .returned (.tuple #[.string ⟨#[]⟩, .int .i64 4]) ∧ Below w.heap.size w w' := by
  have hlu := Nat.le_trans (limbs_len u 4096 hu) (show 4096 ≤ 1000000 by omega)
  have hlv := Nat.le_trans (limbs_len v 4096 hv) (show 4096 ≤ 1000000 by omega)
  have hlen : (limbs (u + v)).length ≤ 1000000 := Nat.le_trans (limbs_len _ 4097 (by rw [num_size] at *; exact nd_add u v 4096 hu hv)) (by omega)
  go_enter Tryd.func14, Tryd.ntmps14
  go_wp2_with fail
  refine (check_num u v _ hu hv).mono ?_
  rintro e w' ⟨rfl, rfl⟩
  go_wp2_with fail
  refine (parse_num u _ (by omega)).mono ?_
  rintro e w1 ⟨gx, cx, rfl, hx, hgx, b1⟩
  have t1 := ht.below (Nat.le_refl _) b1
  go_wp2_with fail
  refine (parse_num v _ (by omega)).mono ?_
  rintro e w2 ⟨gy, cy, rfl, hy, hgy, b2⟩
  have t2 := t1.below (Nat.le_refl _) b2
  have hx2 := hx.below b2 hx.lt
  have B2 := b1.trans (b2.mono b1.size)
  clear b1 b2 t1 hx
  go_wp2_with fail
  refine (sum_num u v gx cx gy cy _ hx2 hy hlu hlv).mono ?_
  rintro e w3 ⟨gz, cz, rfl, hz, hgz, b3⟩
  have t3 := t2.below (Nat.le_refl _) b3
  have B3 := B2.trans (b3.mono B2.size)
  clear B2 b3 t2 hx2 hy
  go_wp2_with fail
  refine (format_any (u + v) gz cz _ hz t3 hlen).mono ?_
  rintro e w4 ⟨rfl, b4⟩
  have B4 := B3.trans (b4.mono B3.size)
  clear B3 b4 t3 hz
  go_wp2_with fail
  refine (sized_over _ _ h).mono ?_
  rintro e w' ⟨rfl, rfl⟩
  go_wp2_with fail
  go_ret2
  exact ⟨rfl, B4⟩
theorem cmp_c (u v : Nat) (c : Int) (hc : Hid (cmpN u v = c)) (w : World) (ha : (num u).size ≤ 1000000000) (hb : (num v).size ≤ 1000000000) :
    Calls Tryd.prog 12 #[.string (num u), .string (num v)] w fun e w' => e = .returned (.int .i64 c) ∧ w = w' := by
  have := cmp_num u v w ha hb
  rwa [hc.out] at this
theorem natSub_bad (a b : ByteArray) (x : Int) (hx : Hid (wrongL a.data.toList b.data.toList = x)) (hx0 : (x != 0) = true) (w : World) (ha : a.size ≤ 1000000000) (hb : b.size ≤ 1000000000) :
    Calls Tryd.prog 16 #[.string a, .string b] w fun e w' => e = .returned (.tuple #[.string ⟨#[]⟩, .int .i64 x]) ∧ Below w.heap.size w w' := by
  go_enter Tryd.func16, Tryd.ntmps16
  go_wp2_with fail
  refine (check_hid a b x hx _ ha hb).mono ?_
  rintro e w' ⟨rfl, rfl⟩
  go_wp2_with fail
  go_ret2
  exact ⟨rfl, Below.refl _ _⟩
set_option maxHeartbeats 400000 in
theorem natSub_num (u v : Nat) (huv : v ≤ u) (w : World) (hu : (num u).size ≤ 4096) (hv : (num v).size ≤ 4096) (ht : Tab w) :
    Calls Tryd.prog 16 #[.string (num u), .string (num v)] w fun e w' => e = .returned (.tuple #[.string (num (u - v)), .int .i64 0]) ∧ Below w.heap.size w w' := by
  have h : (num (u - v)).size ≤ 4096 := Nat.le_trans (by rw [num_size, num_size]; exact nd_mono (Nat.sub_le u v)) hu
  have hc0 : 0 ≤ cmpN u v := by unfold cmpN; split; (omega); split <;> omega
  obtain ⟨c, hc⟩ : ∃ c, cmpN u v = c := ⟨_, rfl⟩
  rw [hc] at hc0
  have HC := Lib.hid hc
  clear hc
  have hlu := Nat.le_trans (limbs_len u 4096 hu) (show 4096 ≤ 1000000 by omega)
  have hlv := Nat.le_trans (limbs_len v 4096 hv) (show 4096 ≤ 1000000 by omega)
  have hlen : (limbs (u - v)).length ≤ 1000000 := Nat.le_trans (limbs_len _ 4096 h) (by omega)
  go_enter Tryd.func16, Tryd.ntmps16
  go_wp2_with fail
  refine (check_num u v _ hu hv).mono ?_
  rintro e w' ⟨rfl, rfl⟩
  go_wp2_with fail
  refine (cmp_c u v c HC _ (by omega) (by omega)).mono ?_
  rintro e w' ⟨rfl, rfl⟩
  go_wp2_with fail
  refine (parse_num u _ (by omega)).mono ?_
  rintro e w1 ⟨gx, cx, rfl, hx, hgx, b1⟩
  have t1 := ht.below (Nat.le_refl _) b1
  go_wp2_with fail
  refine (parse_num v _ (by omega)).mono ?_
  rintro e w2 ⟨gy, cy, rfl, hy, hgy, b2⟩
  have t2 := t1.below (Nat.le_refl _) b2
  have hx2 := hx.below b2 hx.lt
  have B2 := b1.trans (b2.mono b1.size)
  clear b1 b2 t1 hx
  go_wp2_with fail
  refine (dif_num u v gx cx gy cy _ hx2 hy hlu huv).mono ?_
  rintro e w3 ⟨gz, cz, rfl, hz, hgz, b3⟩
  have t3 := t2.below (Nat.le_refl _) b3
  have B3 := B2.trans (b3.mono B2.size)
  clear B2 b3 t2 hx2 hy
  go_wp2_with fail
  refine (format_any (u - v) gz cz _ hz t3 hlen).mono ?_
  rintro e w4 ⟨rfl, b4⟩
  have B4 := B3.trans (b4.mono B3.size)
  clear B3 b4 t3 hz
  go_wp2_with fail
  refine (sized_ok _ _ h).mono ?_
  rintro e w' ⟨rfl, rfl⟩
  go_wp2_with fail
  go_ret2
  exact ⟨rfl, B4⟩
theorem natSub_less (u v : Nat) (huv : u < v) (w : World) (hu : (num u).size ≤ 4096) (hv : (num v).size ≤ 4096) :
    Calls Tryd.prog 16 #[.string (num u), .string (num v)] w fun e w' => e = .returned (.tuple #[.string ⟨#[]⟩, .int .i64 2]) ∧ Below w.heap.size w w' := by
  have HC : Hid (cmpN u v = -1) := by show _ = _; rw [cmpN, if_pos huv]
  go_enter Tryd.func16, Tryd.ntmps16
  go_wp2_with fail
  refine (check_num u v _ hu hv).mono ?_
  rintro e w' ⟨rfl, rfl⟩
  go_wp2_with fail
  refine (cmp_c u v (-1) HC _ (by omega) (by omega)).mono ?_
  rintro e w' ⟨rfl, rfl⟩
  go_wp2_with fail
  go_ret2
  exact ⟨rfl, Below.refl _ _⟩
theorem natMul_bad (a b : ByteArray) (x : Int) (hx : Hid (wrongL a.data.toList b.data.toList = x)) (hx0 : (x != 0) = true) (w : World) (ha : a.size ≤ 1000000000) (hb : b.size ≤ 1000000000) :
    Calls Tryd.prog 18 #[.string a, .string b] w fun e w' => e = .returned (.tuple #[.string ⟨#[]⟩, .int .i64 x]) ∧ Below w.heap.size w w' := by
  go_enter Tryd.func18, Tryd.ntmps18
  go_wp2_with fail
  refine (check_hid a b x hx _ ha hb).mono ?_
  rintro e w' ⟨rfl, rfl⟩
  go_wp2_with fail
  go_ret2
  exact ⟨rfl, Below.refl _ _⟩
set_option maxHeartbeats 400000 in
theorem natMul_num (u v : Nat) (w : World) (hu : (num u).size ≤ 4096) (hv : (num v).size ≤ 4096) (h : (num (u * v)).size ≤ 4096) (ht : Tab w) :
    Calls Tryd.prog 18 #[.string (num u), .string (num v)] w fun e w' => e = .returned (.tuple #[.string (num (u * v)), .int .i64 0]) ∧ Below w.heap.size w w' := by
  have hlu := Nat.le_trans (limbs_len u 4096 hu) (show 4096 ≤ 1000000 by omega)
  have hlv := Nat.le_trans (limbs_len v 4096 hv) (show 4096 ≤ 1000000 by omega)
  have hlen : (limbs (u * v)).length ≤ 1000000 := Nat.le_trans (limbs_len _ 8192 (by rw [num_size] at *; exact nd_mul u v 4096 4096 hu hv)) (by omega)
  go_enter Tryd.func18, Tryd.ntmps18
  go_wp2_with fail
  refine (check_num u v _ hu hv).mono ?_
  rintro e w' ⟨rfl, rfl⟩
  go_wp2_with fail
  refine (parse_num u _ (by omega)).mono ?_
  rintro e w1 ⟨gx, cx, rfl, hx, hgx, b1⟩
  have t1 := ht.below (Nat.le_refl _) b1
  go_wp2_with fail
  refine (parse_num v _ (by omega)).mono ?_
  rintro e w2 ⟨gy, cy, rfl, hy, hgy, b2⟩
  have t2 := t1.below (Nat.le_refl _) b2
  have hx2 := hx.below b2 hx.lt
  have B2 := b1.trans (b2.mono b1.size)
  clear b1 b2 t1 hx
  go_wp2_with fail
  refine (mul_num u v gx cx gy cy _ hx2 hy hlu hlv).mono ?_
  rintro e w3 ⟨gz, cz, rfl, hz, hgz, b3⟩
  have t3 := t2.below (Nat.le_refl _) b3
  have B3 := B2.trans (b3.mono B2.size)
  clear B2 b3 t2 hx2 hy
  go_wp2_with fail
  refine (format_any (u * v) gz cz _ hz t3 hlen).mono ?_
  rintro e w4 ⟨rfl, b4⟩
  have B4 := B3.trans (b4.mono B3.size)
  clear B3 b4 t3 hz
  go_wp2_with fail
  refine (sized_ok _ _ h).mono ?_
  rintro e w' ⟨rfl, rfl⟩
  go_wp2_with fail
  go_ret2
  exact ⟨rfl, B4⟩
set_option maxHeartbeats 400000 in
theorem natMul_over (u v : Nat) (w : World) (hu : (num u).size ≤ 4096) (hv : (num v).size ≤ 4096) (h : 4096 < (num (u * v)).size) (ht : Tab w) :
    Calls Tryd.prog 18 #[.string (num u), .string (num v)] w fun e w' => e = .returned (.tuple #[.string ⟨#[]⟩, .int .i64 4]) ∧ Below w.heap.size w w' := by
  have hlu := Nat.le_trans (limbs_len u 4096 hu) (show 4096 ≤ 1000000 by omega)
  have hlv := Nat.le_trans (limbs_len v 4096 hv) (show 4096 ≤ 1000000 by omega)
  have hlen : (limbs (u * v)).length ≤ 1000000 := Nat.le_trans (limbs_len _ 8192 (by rw [num_size] at *; exact nd_mul u v 4096 4096 hu hv)) (by omega)
  go_enter Tryd.func18, Tryd.ntmps18
  go_wp2_with fail
  refine (check_num u v _ hu hv).mono ?_
  rintro e w' ⟨rfl, rfl⟩
  go_wp2_with fail
  refine (parse_num u _ (by omega)).mono ?_
  rintro e w1 ⟨gx, cx, rfl, hx, hgx, b1⟩
  have t1 := ht.below (Nat.le_refl _) b1
  go_wp2_with fail
  refine (parse_num v _ (by omega)).mono ?_
  rintro e w2 ⟨gy, cy, rfl, hy, hgy, b2⟩
  have t2 := t1.below (Nat.le_refl _) b2
  have hx2 := hx.below b2 hx.lt
  have B2 := b1.trans (b2.mono b1.size)
  clear b1 b2 t1 hx
  go_wp2_with fail
  refine (mul_num u v gx cx gy cy _ hx2 hy hlu hlv).mono ?_
  rintro e w3 ⟨gz, cz, rfl, hz, hgz, b3⟩
  have t3 := t2.below (Nat.le_refl _) b3
  have B3 := B2.trans (b3.mono B2.size)
  clear B2 b3 t2 hx2 hy
  go_wp2_with fail
  refine (format_any (u * v) gz cz _ hz t3 hlen).mono ?_
  rintro e w4 ⟨rfl, b4⟩
  have B4 := B3.trans (b4.mono B3.size)
  clear B3 b4 t3 hz
  go_wp2_with fail
  refine (sized_over _ _ h).mono ?_
  rintro e w' ⟨rfl, rfl⟩
  go_wp2_with fail
  go_ret2
  exact ⟨rfl, B4⟩

end Go.Proofs.YtgpjfgakhncdnaaDoor
