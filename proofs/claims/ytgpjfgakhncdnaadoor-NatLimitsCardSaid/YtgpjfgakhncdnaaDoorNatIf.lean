/-
  DERIVED. What the laws want of nat's functions: Div and Gcd.
-/
import Derived.Test.YtgpjfgakhncdnaaDoorNatIf1
import Derived.Test.YtgpjfgakhncdnaaDoorNatGcd
namespace Go.Proofs.YtgpjfgakhncdnaaDoor
open Go.RowKit

theorem natDiv_bad (a b : ByteArray) (x : Int) (hx : Hid (wrongL a.data.toList b.data.toList = x)) (hx0 : (x != 0) = true) (w : World) (ha : a.size ≤ 1000000000) (hb : b.size ≤ 1000000000) :
    Calls Tryd.prog 20 #[.string a, .string b] w fun e w' => e = .returned (.tuple #[.string ⟨#[]⟩, .string ⟨#[]⟩, .int .i64 x]) ∧ Below w.heap.size w w' := by
  go_enter Tryd.func20, Tryd.ntmps20
  go_wp2_with fail
  refine (check_hid a b x hx _ ha hb).mono ?_
  rintro e w' ⟨rfl, rfl⟩
  go_wp2_with fail
  go_ret3
  exact ⟨rfl, Below.refl _ _⟩
theorem natDiv_zero (u : Nat) (w : World) (hu : (num u).size ≤ 4096) :
    Calls Tryd.prog 20 #[.string (num u), .string (num 0)] w fun e w' => e = .returned (.tuple #[.string ⟨#[]⟩, .string ⟨#[]⟩, .int .i64 10]) ∧ Below w.heap.size w w' := by
  have h0 : (num 0).size ≤ 4096 := by rw [← num_zero]; decide
  have hz := zero_eq 0
  rw [decide_eq_true rfl] at hz
  go_enter Tryd.func20, Tryd.ntmps20
  go_wp2_with fail
  refine (check_num u 0 _ hu h0).mono ?_
  rintro e w' ⟨rfl, rfl⟩
  go_wp2_with fail
  go_ret3
  exact ⟨rfl, Below.refl _ _⟩
theorem format_nil (w : World) :
    Calls Tryd.prog 28 #[.slice none 0 0] w fun e w' => e = .returned (.string (num 0)) ∧ w = w' := format_zero none 0 w

set_option maxHeartbeats 1000000 in
theorem natDiv_num (u v : Nat) (hv0 : 0 < v) (w : World) (hu : (num u).size ≤ 4096) (hv : (num v).size ≤ 4096) (ht : Tab w) :
    Calls Tryd.prog 20 #[.string (num u), .string (num v)] w fun e w' => e = .returned (.tuple #[.string (num (u / v)), .string (num (u % v)), .int .i64 0]) ∧ Below w.heap.size w w' := by
  have hlu := Nat.le_trans (limbs_len u 4096 hu) (show 4096 ≤ 1000000 by omega)
  have hlv := Nat.le_trans (limbs_len v 4096 hv) (show 4096 ≤ 1000000 by omega)
  have hlq : (limbs (u / v)).length ≤ 1000000 := Nat.le_trans (limbs_le (Nat.lt_of_le_of_lt (Nat.div_le_self u v) (limbs_lt u))) hlu
  have hlr : (limbs (u % v)).length ≤ 1000000 := Nat.le_trans (limbs_le (Nat.lt_of_le_of_lt (Nat.mod_le u v) (limbs_lt u))) hlu
  have hze := zero_eq v
  rw [decide_eq_false (by omega)] at hze
  go_enter Tryd.func20, Tryd.ntmps20
  go_wp2_with fail
  refine (check_num u v _ hu hv).mono ?_
  rintro e w' ⟨rfl, rfl⟩
  go_wp2_with fail
  refine (parse_num u _ (by omega)).mono ?_
  rintro e w1 ⟨gx, cx, rfl, hx, hgx, b1⟩
  have t1 := ht.below (Nat.le_refl _) b1
  have hs1 := b1.size
  have hxl := hx.lt
  go_wp2_with fail
  refine (parse_num v _ (by omega)).mono ?_
  rintro e w2 ⟨gy, cy, rfl, hy, hgy, b2⟩
  have t2 := t1.below (Nat.le_refl _) b2
  have hx2 := hx.below b2 hx.lt
  have hs2 := b2.size
  have B2 := b1.trans (b2.mono b1.size)
  have hne : gy ≠ gx := by omega
  clear b1 b2 t1 hx
  by_cases hsh : (limbs u).length < (limbs v).length
  · have hlt := limbs_less hsh
    have HQ : Hid (u / v = 0) := Nat.div_eq_of_lt hlt
    have HR : Hid (u % v = u) := Nat.mod_eq_of_lt hlt
    clear hlt
    go_wp2_with fail
    refine (div_short _ _ cx gy cy _ hsh _).mono ?_
    rintro e w' ⟨rfl, rfl⟩
    go_wp2_with fail
    refine (format_nil _).mono ?_
    rintro e w' ⟨rfl, rfl⟩
    go_wp2_with fail
    refine (format_any u gx cx _ hx2 t2 hlu).mono ?_
    rintro e w4 ⟨rfl, b4⟩
    have B4 := B2.trans (b4.mono B2.size)
    go_wp2_with fail
    go_ret3
    exact ⟨by rw [HQ.out, HR.out]; rfl, B4⟩
  · go_wp2_with fail
    refine (div_num u v gx cx gy cy _ _ _ hx2 hy hne rfl rfl hv0 (by omega) hlu).mono ?_
    rintro e w3 ⟨gq, cq, gr, cr, rfl, hq, hr, hgr, hgq, hf⟩
    have B3 := B2.trans (only_below hf (Nat.le_trans hs1 hs2) hgx)
    have t3 := ht.below (Nat.le_refl _) B3
    have hql := hq.lt
    clear hf hx2 hy
    go_wp2_with fail
    refine (format_any (u / v) gq cq _ hq t3 hlq).mono ?_
    rintro e w4 ⟨rfl, b4⟩
    have t4 := t3.below (Nat.le_refl _) b4
    have hr4 := hr.below b4 hr.lt
    have B4 := B3.trans (b4.mono B3.size)
    clear B3 b4 t3 hq hr
    go_wp2_with fail
    refine (format_any (u % v) gr cr _ hr4 t4 hlr).mono ?_
    rintro e w5 ⟨rfl, b5⟩
    have B5 := B4.trans (b5.mono B4.size)
    go_wp2_with fail
    go_ret3
    exact ⟨rfl, B5⟩

theorem natGcd_bad (a b : ByteArray) (x : Int) (hx : Hid (wrongL a.data.toList b.data.toList = x)) (hx0 : (x != 0) = true) (w : World) (ha : a.size ≤ 1000000000) (hb : b.size ≤ 1000000000) :
    Calls Tryd.prog 22 #[.string a, .string b] w fun e w' => e = .returned (.tuple #[.string ⟨#[]⟩, .int .i64 x]) ∧ Below w.heap.size w w' := by
  go_enter Tryd.func22, Tryd.ntmps22
  go_wp2_with fail
  refine (check_hid a b x hx _ ha hb).mono ?_
  rintro e w' ⟨rfl, rfl⟩
  go_wp2_with fail
  go_ret2
  exact ⟨rfl, Below.refl _ _⟩
set_option maxHeartbeats 1000000 in
theorem natGcd_num (u v : Nat) (w : World) (hu : (num u).size ≤ 4096) (hv : (num v).size ≤ 4096) (ht : Tab w) :
    Calls Tryd.prog 22 #[.string (num u), .string (num v)] w fun e w' => e = .returned (.tuple #[.string (num (Nat.gcd u v)), .int .i64 0]) ∧ Below w.heap.size w w' := by
  have hlu := Nat.le_trans (limbs_len u 4096 hu) (show 4096 ≤ 1000000 by omega)
  have hlv := Nat.le_trans (limbs_len v 4096 hv) (show 4096 ≤ 1000000 by omega)
  obtain ⟨G, hG⟩ : ∃ G, Nat.gcd u v = G := ⟨_, rfl⟩
  have hlg : (limbs G).length ≤ 1000000 := by
    rcases Nat.eq_zero_or_pos u with h | h
    · subst h; rw [Nat.gcd_zero_left] at hG; rw [← hG]; exact hlv
    · exact Nat.le_trans (limbs_le (Nat.lt_of_le_of_lt (by rw [← hG]; exact Nat.gcd_le_left v h) (limbs_lt u))) hlu
  rw [hG]
  go_enter Tryd.func22, Tryd.ntmps22
  go_wp2_with fail
  refine (check_num u v _ hu hv).mono ?_
  rintro e w' ⟨rfl, rfl⟩
  go_wp2_with fail
  refine (parse_num u _ (by omega)).mono ?_
  rintro e w1 ⟨gx, cx, rfl, hx, hgx, b1⟩
  have t1 := ht.below (Nat.le_refl _) b1
  have hs1 := b1.size
  have hxl := hx.lt
  go_wp2_with fail
  refine (parse_num v _ (by omega)).mono ?_
  rintro e w2 ⟨gy, cy, rfl, hy, hgy, b2⟩
  have t2 := t1.below (Nat.le_refl _) b2
  have hx2 := hx.below b2 hx.lt
  have hs2 := b2.size
  have B2 := b1.trans (b2.mono b1.size)
  have hne : gy ≠ gx := by omega
  clear b1 b2 t1 hx
  go_wp2_with fail
  refine (cd_any u v gx cx gy cy w.heap.size G _ hx2 hy hne hlu hlv hG hgx (by omega) (by omega)).mono ?_
  rintro e w3 ⟨g, cap, rfl, hr, b3⟩
  have t3 := ht.below (Nat.le_refl _) (B2.trans b3)
  have B3 := B2.trans b3
  clear b3
  go_wp2_with fail
  refine (format_any G g cap _ hr t3 hlg).mono ?_
  rintro e w4 ⟨rfl, b4⟩
  have B4 := B3.trans (b4.mono B3.size)
  go_wp2_with fail
  go_ret2
  exact ⟨rfl, B4⟩

end Go.Proofs.YtgpjfgakhncdnaaDoor
