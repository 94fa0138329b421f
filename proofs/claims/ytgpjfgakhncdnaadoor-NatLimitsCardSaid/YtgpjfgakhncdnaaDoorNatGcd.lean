/-
  DERIVED. The walk of commonDivisor.
-/
import Derived.Test.YtgpjfgakhncdnaaDoorNatSmall
import Derived.Test.YtgpjfgakhncdnaaDoorNatDvd
import Derived.Test.YtgpjfgakhncdnaaDoorNatRef5
namespace Go.Proofs.YtgpjfgakhncdnaaDoor
open Go.RowKit

theorem small_lt (u : Nat) (h : (limbs u).length ≤ 2) : u < 1000000000000000000 := by
  have h1 := limbs_lt u
  have h2 := bp_mono h
  have h3 : bp 2 = 1000000000000000000 := by decide
  omega
theorem word_num (g cap u n : Nat) (w : World) (h : Rw w g cap (limbs u)) (hn : (limbs u).length = n) (h2 : n ≤ 2) :
    Calls Tryd.prog 53 #[.slice (some ⟨g, 0, none⟩) n cap] w fun e w' => e = .returned (.int .u64 (u : Int)) ∧ w = w' :=
  word_any g cap n u _ (limbs_lo u) w h hn h2 (limbs_val u)
theorem div_num (u v gx cx gy cy N n : Nat) (w : World) (hx : Rw w gx cx (limbs u)) (hy : Rw w gy cy (limbs v)) (hne : gy ≠ gx) (hN : (limbs u).length = N) (hn : (limbs v).length = n) (hv : 0 < v) (hle : n ≤ N) (hN9 : N ≤ 1000000) :
    Calls Tryd.prog 39 #[.slice (some ⟨gx, 0, none⟩) N cx, .slice (some ⟨gy, 0, none⟩) n cy] w fun e w' => DdPost gx u v w e w' := by
  have hn1 : 1 ≤ n := by
    rcases Nat.eq_zero_or_pos n with e | e
    · rw [e] at hn; rw [limbs_len0] at hn; omega
    · exact e
  have := div_long gx cx gy cy n N _ _ (limbs_lo u) (limbs_lo v) w hx hy hne hn hN hn1 hle hN9 (limbs_topj v (n - 1) (by omega))
  rwa [limbs_val, limbs_val] at this

/-- what commonDivisor leaves -/
def CdPost (B G : Nat) (w : World) (e : Ending) (w' : World) : Prop := ∃ g cap, e = .returned (.slice (some ⟨g, 0, none⟩) (limbs G).length cap) ∧ Rw w' g cap (limbs G) ∧ Below B w w'

set_option maxHeartbeats 4000000 in
set_option maxRecDepth 100000 in
theorem cd_any (u v gx cx gy cy B G : Nat) (w : World) (hx : Rw w gx cx (limbs u)) (hy : Rw w gy cy (limbs v)) (hne : gy ≠ gx) (hu : (limbs u).length ≤ 1000000) (hv : (limbs v).length ≤ 1000000) (hG : Nat.gcd u v = G) (hBx : B ≤ gx) (hBy : B ≤ gy) (hBw : B ≤ w.heap.size) :
    Calls Tryd.prog 41 #[.slice (some ⟨gx, 0, none⟩) (limbs u).length cx, .slice (some ⟨gy, 0, none⟩) (limbs v).length cy] w fun e w' => CdPost B G w e w' := by
  have HX := Lib.hid hx
  have HY := Lib.hid hy
  have HG := Lib.hid hG
  clear hx hy hG
  go_enter Tryd.func41, Tryd.ntmps41
  go_wp2_with fail
  go_loopg [0, 1] v (fun k x y wr => ∃ a gx cx gy cy nx ny : Nat, x = .slice (some ⟨gx, 0, none⟩) nx cx ∧ y = .slice (some ⟨gy, 0, none⟩) ny cy ∧ Hid ((limbs a).length = nx) ∧ Hid ((limbs k).length = ny) ∧ nx ≤ 1000000 ∧ ny ≤ 1000000 ∧ Hid (Rw wr gx cx (limbs a)) ∧ Hid (Rw wr gy cy (limbs k)) ∧ gy ≠ gx ∧ B ≤ gx ∧ B ≤ gy ∧ B ≤ wr.heap.size ∧ Hid (Nat.gcd a k = G) ∧ Hid (Below B w wr))
  case atStart => exact ⟨u, gx, cx, gy, cy, _, _, rfl, rfl, rfl, rfl, hu, hv, HX, HY, hne, hBx, hBy, hBw, HG, Below.refl _ _⟩
  case round =>
    clear HX HY HG hne hu hv hBx hBy hBw
    clear gx cx gy cy
    obtain ⟨a, gx, cx, gy, cy, nx, ny, rfl, rfl, HNX, HNY, hx9, hy9, HX, HY, hne, hBx, hBy, hBw, HG, HB⟩ := hrel
    rcases Nat.eq_zero_or_pos gk with h0 | h0
    · subst h0
      have hny : ny = 0 := by rw [← HNY.out, limbs_zero]; rfl
      subst hny
      have HA : Hid (a = G) := by have := HG.out; rw [Nat.gcd_zero_right] at this; exact this
      go_wp2
      go_ret
      exact ⟨gx, cx, ret_sl (by rw [← HNX.out, HA.out]), by rw [← HA.out]; exact HX.out, HB.out⟩
    · have hny : 0 < ny := by
        rcases Nat.eq_zero_or_pos ny with e | e
        · have := HNY.out; rw [e, limbs_len0] at this; omega
        · exact e
      by_cases hs : nx ≤ 2 ∧ ny ≤ 2
      · obtain ⟨hs1, hs2⟩ := hs
        have ha := small_lt a (by rw [HNX.out]; exact hs1)
        have hk := small_lt gk (by rw [HNY.out]; exact hs2)
        have hGl : G < 1000000000000000000 := by rw [← HG.out]; exact Nat.lt_of_le_of_lt (Nat.gcd_le_right a h0) hk
        go_wp2_with fail
        refine (word_num gx cx a nx _ HX.out HNX.out hs1).mono ?_
        rintro e w' ⟨rfl, rfl⟩
        go_wp2_with fail
        refine (word_num gy cy gk ny _ HY.out HNY.out hs2).mono ?_
        rintro e w' ⟨rfl, rfl⟩
        go_wp2_with fail
        refine (smallDivisor_any a gk G (by omega) (by omega) HG.out _).mono ?_
        rintro e w' ⟨nd, rfl, rfl⟩
        go_wp2_with fail
        refine (small_any G hGl _).mono ?_
        rintro e w' ⟨g, cap, rfl, hr, hg, hb⟩
        have HR := Lib.hid hr
        have HB2 : Hid (Below B w w') := HB.out.trans ((below_drewN (Below.refl B _) nd).trans (hb.mono (by simpa using hBw)))
        clear hr hb
        go_wp2_with fail
        go_ret
        exact ⟨g, cap, rfl, HR.out, HB2.out⟩
      · have hlt := Nat.mod_lt a h0
        have HG2 : Hid (Nat.gcd gk (a % gk) = G) := by show _ = _; rw [Nat.gcd_comm, ← Nat.gcd_rec, Nat.gcd_comm]; exact HG.out
        have hcase : (nx ≤ 2 ∧ 2 < ny) ∨ 2 < nx := by omega
        by_cases hsh : nx < ny
        · have HM : Hid (a % gk = a) := Nat.mod_eq_of_lt (limbs_less (by rw [HNX.out, HNY.out]; exact hsh))
          rcases hcase with ⟨hc1, hc2⟩ | hc1
          all_goals
            go_wp2_with (go_at_call 39; refine (div_short _ nx cx gy cy ny hsh _).mono ?_; rintro e w' ⟨rfl, rfl⟩)
            go_roundg (a % gk)
            case measure => exact hlt
            case rel => exact ⟨gk, gy, cy, gx, cx, ny, nx, rfl, rfl, HNY, by show _ = _; rw [HM.out]; exact HNX.out, hy9, hx9, HY, by show Rw _ _ _ _; rw [HM.out]; exact HX.out, hne.symm, hBy, hBx, hBw, HG2, HB⟩
        · have hle : ny ≤ nx := by omega
          have hml : (limbs (a % gk)).length ≤ 1000000 := Nat.le_trans (limbs_le (Nat.lt_of_le_of_lt (Nat.mod_le a gk) (limbs_lt a))) (by rw [HNX.out]; exact hx9)
          rcases hcase with ⟨hc1, hc2⟩ | hc1
          · omega
          · go_wp2_with (go_at_call 39; refine (div_num a gk gx cx gy cy nx ny _ HX.out HY.out hne HNX.out HNY.out h0 hle hx9).mono ?_; rintro e w' ⟨gq, cq, gr, cr, rfl, hq, hr, hgr, hgq, hf⟩)
            have HR := Lib.hid hr
            have HY2 : Hid (Rw w' gy cy (limbs gk)) := HY.out.only hf (by simpa using hne)
            have hgy := HY.out.lt
            have hB2 : Below B w w' := HB.out.trans (only_below hf hBw hBx)
            have HB2 := Lib.hid hB2
            have hs2 := hf.size
            go_roundg (a % gk)
            case measure => exact hlt
            case rel => exact ⟨gk, gy, cy, gr, cr, ny, _, rfl, rfl, HNY, rfl, hy9, hml, HY2, HR, by omega, hBy, by omega, by omega, HG2, HB2⟩

end Go.Proofs.YtgpjfgakhncdnaaDoor
