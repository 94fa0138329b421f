/-
  DERIVED. The walk of sum.
-/
import Derived.Test.YtgpjfgakhncdnaaDoorNatTrim
namespace Go.Proofs.YtgpjfgakhncdnaaDoor
open Go.RowKit

set_option maxHeartbeats 1000000 in
theorem sum_ge (gx cx gy cy : Nat) (lx ly : List Nat) (hlx : lo lx) (hly : lo ly) (w : World) (hx : Rw w gx cx lx) (hy : Rw w gy cy ly) (hxn : lx.length ≤ 1000000) (hle : ly.length ≤ lx.length) :
    Calls Tryd.prog 29 #[.slice (some ⟨gx, 0, none⟩) lx.length cx, .slice (some ⟨gy, 0, none⟩) ly.length cy] w fun e w' => ∃ g cap, e = .returned (.slice (some ⟨g, 0, none⟩) (limbs (val lx + val ly)).length cap) ∧ Rw w' g cap (limbs (val lx + val ly)) ∧ w.heap.size ≤ g ∧ Below w.heap.size w w' := by
  obtain ⟨i0, hi, hz0, hz1, hz2⟩ := info51'
  have hgx := hx.lt
  have hgy := hy.lt
  have HX := Lib.hid hx
  have HY := Lib.hid hy
  have HLX := Lib.hid hlx
  have HLY := Lib.hid hly
  have HXE : Hid (∀ k, lx.length ≤ k → val (lx.take k) = val lx) := fun k h => val_take_all lx k h
  have HYE : Hid (∀ k, ly.length ≤ k → val (ly.take k) = val ly) := fun k h => val_take_all ly k h
  clear hx hy hlx hly
  generalize hn : lx.length = n at *
  generalize hm : ly.length = m at *
  have HN := Lib.hid hn
  have HM := Lib.hid hm
  clear hn hm
  go_enter Tryd.func29, Tryd.ntmps29
  go_wp2_with (at_make; refine wpList_make_full _ rfl _ _ 40 rfl 0 51 i0 (.int .u64 0) 1 Tryd.underlying40 hi hz0 hz1 _ _ _ _ (n + 1) rfl rfl ?e1 ?e2 ?e3 ?e4 (Nat.zero_le _) ?_)
  case e1 => omega
  case e2 => omega
  case e3 => rw [hz2]; omega
  case e4 => unfold maxLen; omega
  intro w1 hown hgrow
  have hb1 : Below w.heap.size w w1 := (Below.refl _ w).grown hgrow (Nat.le_refl _) (fun k hk => by cases hk)
  have hz := Rw.made hown
  clear hown hgrow
  go_wp2
  go_loopw [6, 21] (fun c i wr => ∃ (k cn : Nat) (lz : List Nat), k ≤ n ∧ i = .int .i64 k ∧ c = .int .u64 cn ∧ cn ≤ 1 ∧ Hid (lz.length = n + 1) ∧ Hid (Rw wr w.heap.size (n + 1) lz) ∧ Hid (lo lz) ∧ Hid (∀ j, k ≤ j → lz.getD j 0 = 0) ∧ Hid (val lz + bp k * cn = val (lx.take k) + val (ly.take k)) ∧ Below w.heap.size w wr) (fun _ i _ => n - (intOf i).toNat)
  case atStart => exact ⟨0, 0, List.replicate (n + 1) 0, Nat.zero_le _, rfl, rfl, by omega, List.length_replicate, hz, lo_zero _, fun j _ => by simp [List.getD_eq_getElem?_getD, List.getElem?_replicate]; split <;> rfl, by show _ = _; rw [val_zero]; simp [val_nil], hb1⟩
  case round =>
    clear hz hb1
    obtain ⟨k, cn, lz, hk, rfl, rfl, hcn, HLZ, HZ, HLO, H0, HV, hb⟩ := hrel
    have hcz := HZ.out.cell k (by rw [HLZ.out]; omega)
    have hfz := HZ.out.frozen k
    rw [H0.out k (Nat.le_refl _)] at hcz
    by_cases hlt : k < n
    · have hcx := (HX.out.below hb hgx).cell k (by rw [HN.out]; exact hlt)
      have hx9 := lo_getD HLX.out k
      have HTX : Hid (val (lx.take (k + 1)) = val (lx.take k) + bp k * lx.getD k 0) := val_take_succ lx k (by rw [HN.out]; exact hlt)
      generalize lx.getD k 0 = x at *
      by_cases hlty : k < m
      · have hcy := (HY.out.below hb hgy).cell k (by rw [HM.out]; exact hlty)
        have hy9 := lo_getD HLY.out k
        have HTY : Hid (val (ly.take (k + 1)) = val (ly.take k) + bp k * ly.getD k 0) := val_take_succ ly k (by rw [HM.out]; exact hlty)
        generalize ly.getD k 0 = y at *
        have HS := Lib.hid (sum_round lz k cn x y _ _ _ _ n HLZ.out hlt (H0.out k (Nat.le_refl _)) HV.out HTX.out HTY.out)
        go_wp2
        go_roundw
        case rel => exact ⟨k + 1, (cn + x + y) / 1000000000, lz.set k ((cn + x + y) % 1000000000), by omega, by go_num, by go_num, by omega, by show _ = _; rw [List.length_set]; exact HLZ.out, HZ.out.storeI k _ (by omega), lo_set HLO.out _ _ (by omega), zero_after lz k _ H0.out, HS.out, hb.setCell (Nat.le_refl _) _⟩
        case measure => simp [intOf]; omega
      · have HS := Lib.hid (sum_round lz k cn x 0 _ _ _ _ n HLZ.out hlt (H0.out k (Nat.le_refl _)) HV.out HTX.out (show val (ly.take (k + 1)) = val (ly.take k) + bp k * 0 by rw [HYE.out (k + 1) (by omega), HYE.out k (by omega)]; omega))
        go_wp2
        go_roundw
        case rel => exact ⟨k + 1, (cn + x + 0) / 1000000000, lz.set k ((cn + x + 0) % 1000000000), by omega, by go_num, by go_num, by omega, by show _ = _; rw [List.length_set]; exact HLZ.out, HZ.out.storeI k _ (by omega), lo_set HLO.out _ _ (by omega), zero_after lz k _ H0.out, HS.out, hb.setCell (Nat.le_refl _) _⟩
        case measure => simp [intOf]; omega
    · have hk' : k = n := by omega
      subst hk'
      have HS : Hid (val (lz.set k cn) = val lx + val ly) := sum_last lz cn _ k HLZ.out (H0.out k (Nat.le_refl _)) (by have h := HV.out; rw [HXE.out k (by omega), HYE.out k (by omega)] at h; omega)
      have HW := Lib.hid (HZ.out.store k cn)
      have HB := Lib.hid (hb.setCell (p := ⟨w.heap.size, k, none⟩) (Nat.le_refl _) (.int .u64 (cn : Int)))
      have HLO2 := Lib.hid (lo_set HLO.out k cn (by omega))
      clear HV H0 hb
      go_wp2_with (go_at_call 46; refine (trim_to w.heap.size (k + 1) (k + 1) _ (lz.set k cn) (by rw [List.length_set]; exact HLZ.out) HLO2.out HS.out _ HW.out (by omega)).mono ?_; rintro e w' ⟨rfl, rfl, hr⟩)
      go_ret
      exact ⟨_, _, rfl, hr, Nat.le_refl _, HB.out⟩

set_option maxHeartbeats 1000000 in
theorem sum_lt (gx cx gy cy : Nat) (lx ly : List Nat) (hlx : lo lx) (hly : lo ly) (w : World) (hx : Rw w gx cx lx) (hy : Rw w gy cy ly) (hxn : ly.length ≤ 1000000) (hle : lx.length < ly.length) :
    Calls Tryd.prog 29 #[.slice (some ⟨gx, 0, none⟩) lx.length cx, .slice (some ⟨gy, 0, none⟩) ly.length cy] w fun e w' => ∃ g cap, e = .returned (.slice (some ⟨g, 0, none⟩) (limbs (val lx + val ly)).length cap) ∧ Rw w' g cap (limbs (val lx + val ly)) ∧ w.heap.size ≤ g ∧ Below w.heap.size w w' := by
  obtain ⟨i0, hi, hz0, hz1, hz2⟩ := info51'
  have hgx := hx.lt
  have hgy := hy.lt
  have HX := Lib.hid hy
  have HY := Lib.hid hx
  have HLX := Lib.hid hly
  have HLY := Lib.hid hlx
  have HXE : Hid (∀ k, ly.length ≤ k → val (ly.take k) = val ly) := fun k h => val_take_all ly k h
  have HYE : Hid (∀ k, lx.length ≤ k → val (lx.take k) = val lx) := fun k h => val_take_all lx k h
  clear hx hy hlx hly
  generalize hn : ly.length = n at *
  generalize hm : lx.length = m at *
  have HN := Lib.hid hn
  have HM := Lib.hid hm
  clear hn hm
  go_enter Tryd.func29, Tryd.ntmps29
  go_wp2_with (at_make; refine wpList_make_full _ rfl _ _ 40 rfl 0 51 i0 (.int .u64 0) 1 Tryd.underlying40 hi hz0 hz1 _ _ _ _ (n + 1) rfl rfl ?e1 ?e2 ?e3 ?e4 (Nat.zero_le _) ?_)
  case e1 => omega
  case e2 => omega
  case e3 => rw [hz2]; omega
  case e4 => unfold maxLen; omega
  intro w1 hown hgrow
  have hb1 : Below w.heap.size w w1 := (Below.refl _ w).grown hgrow (Nat.le_refl _) (fun k hk => by cases hk)
  have hz := Rw.made hown
  clear hown hgrow
  go_wp2
  go_loopw [6, 21] (fun c i wr => ∃ (k cn : Nat) (lz : List Nat), k ≤ n ∧ i = .int .i64 k ∧ c = .int .u64 cn ∧ cn ≤ 1 ∧ Hid (lz.length = n + 1) ∧ Hid (Rw wr w.heap.size (n + 1) lz) ∧ Hid (lo lz) ∧ Hid (∀ j, k ≤ j → lz.getD j 0 = 0) ∧ Hid (val lz + bp k * cn = val (ly.take k) + val (lx.take k)) ∧ Below w.heap.size w wr) (fun _ i _ => n - (intOf i).toNat)
  case atStart => exact ⟨0, 0, List.replicate (n + 1) 0, Nat.zero_le _, rfl, rfl, by omega, List.length_replicate, hz, lo_zero _, fun j _ => by simp [List.getD_eq_getElem?_getD, List.getElem?_replicate]; split <;> rfl, by show _ = _; rw [val_zero]; simp [val_nil], hb1⟩
  case round =>
    clear hz hb1
    obtain ⟨k, cn, lz, hk, rfl, rfl, hcn, HLZ, HZ, HLO, H0, HV, hb⟩ := hrel
    have hcz := HZ.out.cell k (by rw [HLZ.out]; omega)
    have hfz := HZ.out.frozen k
    rw [H0.out k (Nat.le_refl _)] at hcz
    by_cases hlt : k < n
    · have hcx := (HX.out.below hb hgy).cell k (by rw [HN.out]; exact hlt)
      have hx9 := lo_getD HLX.out k
      have HTX : Hid (val (ly.take (k + 1)) = val (ly.take k) + bp k * ly.getD k 0) := val_take_succ ly k (by rw [HN.out]; exact hlt)
      generalize ly.getD k 0 = x at *
      by_cases hlty : k < m
      · have hcy := (HY.out.below hb hgx).cell k (by rw [HM.out]; exact hlty)
        have hy9 := lo_getD HLY.out k
        have HTY : Hid (val (lx.take (k + 1)) = val (lx.take k) + bp k * lx.getD k 0) := val_take_succ lx k (by rw [HM.out]; exact hlty)
        generalize lx.getD k 0 = y at *
        have HS := Lib.hid (sum_round lz k cn x y _ _ _ _ n HLZ.out hlt (H0.out k (Nat.le_refl _)) HV.out HTX.out HTY.out)
        go_wp2
        go_roundw
        case rel => exact ⟨k + 1, (cn + x + y) / 1000000000, lz.set k ((cn + x + y) % 1000000000), by omega, by go_num, by go_num, by omega, by show _ = _; rw [List.length_set]; exact HLZ.out, HZ.out.storeI k _ (by omega), lo_set HLO.out _ _ (by omega), zero_after lz k _ H0.out, HS.out, hb.setCell (Nat.le_refl _) _⟩
        case measure => simp [intOf]; omega
      · have HS := Lib.hid (sum_round lz k cn x 0 _ _ _ _ n HLZ.out hlt (H0.out k (Nat.le_refl _)) HV.out HTX.out (show val (lx.take (k + 1)) = val (lx.take k) + bp k * 0 by rw [HYE.out (k + 1) (by omega), HYE.out k (by omega)]; omega))
        go_wp2
        go_roundw
        case rel => exact ⟨k + 1, (cn + x + 0) / 1000000000, lz.set k ((cn + x + 0) % 1000000000), by omega, by go_num, by go_num, by omega, by show _ = _; rw [List.length_set]; exact HLZ.out, HZ.out.storeI k _ (by omega), lo_set HLO.out _ _ (by omega), zero_after lz k _ H0.out, HS.out, hb.setCell (Nat.le_refl _) _⟩
        case measure => simp [intOf]; omega
    · have hk' : k = n := by omega
      subst hk'
      have HS : Hid (val (lz.set k cn) = val lx + val ly) := sum_last lz cn _ k HLZ.out (H0.out k (Nat.le_refl _)) (by have h := HV.out; rw [HXE.out k (by omega), HYE.out k (by omega)] at h; omega)
      have HW := Lib.hid (HZ.out.store k cn)
      have HB := Lib.hid (hb.setCell (p := ⟨w.heap.size, k, none⟩) (Nat.le_refl _) (.int .u64 (cn : Int)))
      have HLO2 := Lib.hid (lo_set HLO.out k cn (by omega))
      clear HV H0 hb
      go_wp2_with (go_at_call 46; refine (trim_to w.heap.size (k + 1) (k + 1) _ (lz.set k cn) (by rw [List.length_set]; exact HLZ.out) HLO2.out HS.out _ HW.out (by omega)).mono ?_; rintro e w' ⟨rfl, rfl, hr⟩)
      go_ret
      exact ⟨_, _, rfl, hr, Nat.le_refl _, HB.out⟩

theorem sum_any (gx cx gy cy : Nat) (lx ly : List Nat) (hlx : lo lx) (hly : lo ly) (w : World) (hx : Rw w gx cx lx) (hy : Rw w gy cy ly) (hxn : lx.length ≤ 1000000) (hyn : ly.length ≤ 1000000) :
    Calls Tryd.prog 29 #[.slice (some ⟨gx, 0, none⟩) lx.length cx, .slice (some ⟨gy, 0, none⟩) ly.length cy] w fun e w' => ∃ g cap, e = .returned (.slice (some ⟨g, 0, none⟩) (limbs (val lx + val ly)).length cap) ∧ Rw w' g cap (limbs (val lx + val ly)) ∧ w.heap.size ≤ g ∧ Below w.heap.size w w' := by
  rcases Nat.lt_or_ge lx.length ly.length with h | h
  · exact sum_lt gx cx gy cy lx ly hlx hly w hx hy hyn h
  · exact sum_ge gx cx gy cy lx ly hlx hly w hx hy hxn h

end Go.Proofs.YtgpjfgakhncdnaaDoor
