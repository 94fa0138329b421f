/-
  DERIVED. The walk of product.
-/
import Derived.Test.YtgpjfgakhncdnaaDoorNatTrim
namespace Go.Proofs.YtgpjfgakhncdnaaDoor
open Go.RowKit

theorem mul_le9 {x y : Nat} (hx : x < 1000000000) (hy : y < 1000000000) : x * y ≤ 999999998000000001 := by
  have := Nat.mul_le_mul (show x ≤ 999999999 by omega) (show y ≤ 999999999 by omega)
  omega

set_option maxHeartbeats 1000000 in
theorem mul_any (gx cx gy cy : Nat) (lx ly : List Nat) (hlx : lo lx) (hly : lo ly) (w : World) (hx : Rw w gx cx lx) (hy : Rw w gy cy ly) (hxn : lx.length ≤ 1000000) (hyn : ly.length ≤ 1000000) :
    Calls Tryd.prog 36 #[.slice (some ⟨gx, 0, none⟩) lx.length cx, .slice (some ⟨gy, 0, none⟩) ly.length cy] w fun e w' => ∃ g cap, e = .returned (.slice (some ⟨g, 0, none⟩) (limbs (val lx * val ly)).length cap) ∧ Rw w' g cap (limbs (val lx * val ly)) ∧ w.heap.size ≤ g ∧ Below w.heap.size w w' := by
  obtain ⟨i0, hi, hz0, hz1, hz2⟩ := info51'
  have hgx := hx.lt
  have hgy := hy.lt
  have HX := Lib.hid hx
  have HY := Lib.hid hy
  have HLX := Lib.hid hlx
  have HLY := Lib.hid hly
  have HXE : Hid (∀ k, lx.length ≤ k → val (lx.take k) = val lx) := fun k h => val_take_all lx k h
  have HYE : Hid (∀ k, ly.length ≤ k → val (ly.take k) = val ly) := fun k h => val_take_all ly k h
  clear hx hy hlx hly
  generalize hn : lx.length = n at *
  generalize hm : ly.length = m at *
  have HN := Lib.hid hn
  have HM := Lib.hid hm
  clear hn hm
  go_enter Tryd.func36, Tryd.ntmps36
  go_wp2_with (at_make; refine wpList_make_full _ rfl _ _ 40 rfl 0 51 i0 (.int .u64 0) 1 Tryd.underlying40 hi hz0 hz1 _ _ _ _ (n + m) rfl rfl ?e1 ?e2 ?e3 ?e4 (Nat.zero_le _) ?_)
  case e1 => omega
  case e2 => omega
  case e3 => rw [hz2]; omega
  case e4 => unfold maxLen; omega
  intro w1 hown hgrow
  have hb1 : Below w.heap.size w w1 := (Below.refl _ w).grown hgrow (Nat.le_refl _) (fun k hk => by cases hk)
  have hz := Rw.made hown
  clear hown hgrow
  go_wp2
  go_loopw [18] (fun i wr => ∃ (k : Nat) (lz : List Nat), k ≤ n ∧ i = .int .i64 k ∧ Hid (lz.length = n + m) ∧ Hid (Rw wr w.heap.size (n + m) lz) ∧ Hid (lo lz) ∧ Hid (∀ j, k + m ≤ j → lz.getD j 0 = 0) ∧ Hid (val lz = val (lx.take k) * val ly) ∧ Below w.heap.size w wr) (fun i _ => n - (intOf i).toNat)
  case atStart => exact ⟨0, List.replicate (n + m) 0, Nat.zero_le _, rfl, List.length_replicate, hz, lo_zero _, fun j _ => by simp [List.getD_eq_getElem?_getD, List.getElem?_replicate]; split <;> rfl, by show _ = _; rw [val_zero]; simp [val_nil], hb1⟩
  case round =>
    clear hz hb1
    obtain ⟨k, lz, hk, rfl, HLZ, HZ, HLO, H0, HV, hb⟩ := hrel
    by_cases hlt : k < n
    · have hcx := (HX.out.below hb hgx).cell k (by rw [HN.out]; exact hlt)
      have hx9 := lo_getD HLX.out k
      have HTX : Hid (val (lx.take (k + 1)) = val (lx.take k) + bp k * lx.getD k 0) := val_take_succ lx k (by rw [HN.out]; exact hlt)
      generalize lx.getD k 0 = x at *
      go_wp2
      go_loopw [8, 25] (fun c i wr => ∃ (j cn : Nat) (lz : List Nat), j ≤ m ∧ i = .int .i64 j ∧ c = .int .u64 cn ∧ cn < 1000000000 ∧ Hid (lz.length = n + m) ∧ Hid (Rw wr w.heap.size (n + m) lz) ∧ Hid (lo lz) ∧ Hid (∀ j, k + m ≤ j → lz.getD j 0 = 0) ∧ Hid (val lz + bp (k + j) * cn = val (lx.take k) * val ly + bp k * (x * val (ly.take j))) ∧ Below w.heap.size w wr) (fun _ i _ => m - (intOf i).toNat)
      case atStart => exact ⟨0, 0, lz, Nat.zero_le _, rfl, rfl, by omega, HLZ, HZ, HLO, H0, by show _ = _; rw [HV.out]; simp [val_nil], hb⟩
      case round =>
        clear HLZ HZ HLO H0 HV hb hcx
        clear lz
        obtain ⟨j, cn, lz, hj, rfl, rfl, hcn, HLZ, HZ, HLO, H0, HV, hb⟩ := hrel
        by_cases hltj : j < m
        · have hcy := (HY.out.below hb hgy).cell j (by rw [HM.out]; exact hltj)
          have hy9 := lo_getD HLY.out j
          have HTY : Hid (val (ly.take (j + 1)) = val (ly.take j) + bp j * ly.getD j 0) := val_take_succ ly j (by rw [HM.out]; exact hltj)
          generalize ly.getD j 0 = y at *
          have hcz := HZ.out.cell (k + j) (by rw [HLZ.out]; omega)
          have hfz := HZ.out.frozen (k + j)
          have hz9 := lo_getD HLO.out (k + j)
          have HZK := Lib.hid (rfl : lz.getD (k + j) 0 = lz.getD (k + j) 0)
          generalize hzz : lz.getD (k + j) 0 = z at *
          have HZZ := Lib.hid hzz
          clear hzz HZK
          have hxy := mul_le9 hx9 hy9
          have HS := Lib.hid (mul_round lz k j cn z x y _ _ _ _ (by rw [HLZ.out]; omega) HZZ.out HV.out HTY.out rfl)
          go_wp2_with fail
          go_quiet (fail)
          go_wp2
          go_roundw
          case rel => exact ⟨j + 1, (cn + (z + x * y)) / 1000000000, lz.set (k + j) ((cn + (z + x * y)) % 1000000000), by omega, by go_num, by go_num, by omega, by show _ = _; rw [List.length_set]; exact HLZ.out, (HZ.out.drewN _).storeI (k + j) _ (by omega), lo_set HLO.out _ _ (by omega), fun i hi => by rw [set_getD_ne _ _ _ _ (by omega)]; exact H0.out i hi, HS.out, (below_drewN hb _).setCell (Nat.le_refl _) _⟩
          case measure => simp [intOf]; omega
        · have hj' : j = m := by omega
          subst hj'
          have hcz := HZ.out.cell (k + j) (by rw [HLZ.out]; omega)
          have hfz := HZ.out.frozen (k + j)
          rw [H0.out (k + j) (Nat.le_refl _)] at hcz
          have HS := Lib.hid (mul_last lz k j cn x _ _ _ (by rw [HLZ.out]; omega) (H0.out (k + j) (Nat.le_refl _)) (by have h := HV.out; rw [HYE.out j (by omega)] at h; exact h) HTX.out)
          go_wp2
          go_roundw
          case rel => exact ⟨k + 1, lz.set (k + j) cn, by omega, by go_num, by show _ = _; rw [List.length_set]; exact HLZ.out, HZ.out.storeI (k + j) _ (by omega), lo_set HLO.out _ _ (by omega), fun i hi => by rw [set_getD_ne _ _ _ _ (by omega)]; exact H0.out i (by omega), HS.out, hb.setCell (Nat.le_refl _) _⟩
          case measure => simp [intOf]; omega
    · have hk' : k = n := by omega
      subst hk'
      have HS : Hid (val lz = val lx * val ly) := by have h := HV.out; rw [HXE.out k (by omega)] at h; exact h
      have HB := Lib.hid hb
      clear HV H0 hb
      go_wp2_with (go_at_call 46; refine (trim_to w.heap.size (k + m) (k + m) _ lz HLZ.out HLO.out HS.out _ HZ.out (by omega)).mono ?_; rintro e w' ⟨rfl, rfl, hr⟩)
      go_ret
      exact ⟨_, _, rfl, hr, Nat.le_refl _, HB.out⟩

end Go.Proofs.YtgpjfgakhncdnaaDoor
