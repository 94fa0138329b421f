/-
  DERIVED. Merged by mkbase.py.
-/
import Derived.Test.YthamlnolfagpiaaGreatDoorNatRow
import Derived.Test.YthamlnolfagpiaaGreatDoorBasePure
import Derived.Test.YthamlnolfagpiaaGreatDoorShelf
import Derived.WalkSmall
import Derived.Deep.RegionWith
import Derived.BigRegion
import Derived.Laws.MakeOwn
import Derived.Deep.CutRange
import Derived.Test.YthamlnolfagpiaaGreatDoorNatGen
import Derived.Below
namespace Go.Proofs.YthamlnolfagpiaaGreatDoor
open Go.RowKit
set_option maxRecDepth 8000

set_option maxHeartbeats 1000000 in
theorem sum_ge (gx cx gy cy : Nat) (lx ly : List Nat) (hlx : lo lx) (hly : lo ly) (w : World) (hx : Rw w gx cx lx) (hy : Rw w gy cy ly) (hxn : lx.length ≤ 1000000) (hle : ly.length ≤ lx.length) :
    Calls Tryz.prog 185 #[.slice (some ⟨gx, 0, none⟩) lx.length cx, .slice (some ⟨gy, 0, none⟩) ly.length cy] w fun e w' => ∃ g cap, e = .returned (.slice (some ⟨g, 0, none⟩) (limbs (val lx + val ly)).length cap) ∧ Rw w' g cap (limbs (val lx + val ly)) ∧ w.heap.size ≤ g ∧ Below w.heap.size w w' := by
  obtain ⟨i0, hi, hz0, hz1, hz2⟩ := info51'
  have hgx := hx.lt
  have hgy := hy.lt
  have HX := Lib.hid hx
  have HY := Lib.hid hy
  have HLX := Lib.hid hlx
  have HLY := Lib.hid hly
  have HXE : Hid (∀ k, lx.length ≤ k → val (lx.take k) = val lx) := fun k h => val_take_all lx k h
  have HYE : Hid (∀ k, ly.length ≤ k → val (ly.take k) = val ly) := fun k h => val_take_all ly k h
  clear hx hy hlx hly
  generalize hn : lx.length = n at *
  generalize hm : ly.length = m at *
  have HN := Lib.hid hn
  have HM := Lib.hid hm
  clear hn hm
  go_enter Tryz.func185, Tryz.ntmps185
  go_wp2_with (at_make; refine wpList_make_full _ rfl _ _ 127 rfl 0 146 i0 (.int .u64 0) 1 Tryz.underlying127 hi hz0 hz1 _ _ _ _ (n + 1) rfl rfl ?e1 ?e2 ?e3 ?e4 (Nat.zero_le _) ?_)
  case e1 => omega
  case e2 => omega
  case e3 => rw [hz2]; omega
  case e4 => unfold maxLen; omega
  intro w1 hown hgrow
  have hb1 : Below w.heap.size w w1 := (Below.refl _ w).grown hgrow (Nat.le_refl _) (fun k hk => by cases hk)
  have hz := Rw.made hown
  clear hown hgrow
  go_wp2
  go_loopw [6, 21] (fun c i wr => ∃ (k cn : Nat) (lz : List Nat), k ≤ n ∧ i = .int .i64 k ∧ c = .int .u64 cn ∧ cn ≤ 1 ∧ Hid (lz.length = n + 1) ∧ Hid (Rw wr w.heap.size (n + 1) lz) ∧ Hid (lo lz) ∧ Hid (∀ j, k ≤ j → lz.getD j 0 = 0) ∧ Hid (val lz + bp k * cn = val (lx.take k) + val (ly.take k)) ∧ Below w.heap.size w wr) (fun _ i _ => n - (intOf i).toNat)
  case atStart => exact ⟨0, 0, List.replicate (n + 1) 0, Nat.zero_le _, rfl, rfl, by omega, List.length_replicate, hz, lo_zero _, fun j _ => by simp [List.getD_eq_getElem?_getD, List.getElem?_replicate]; split <;> rfl, by show _ = _; rw [val_zero]; simp [val_nil], hb1⟩
  case round =>
    clear hz hb1
    obtain ⟨k, cn, lz, hk, rfl, rfl, hcn, HLZ, HZ, HLO, H0, HV, hb⟩ := hrel
    have hcz := HZ.out.cell k (by rw [HLZ.out]; omega)
    have hfz := HZ.out.frozen k
    rw [H0.out k (Nat.le_refl _)] at hcz
    by_cases hlt : k < n
    · have hcx := (HX.out.below hb hgx).cell k (by rw [HN.out]; exact hlt)
      have hx9 := lo_getD HLX.out k
      have HTX : Hid (val (lx.take (k + 1)) = val (lx.take k) + bp k * lx.getD k 0) := val_take_succ lx k (by rw [HN.out]; exact hlt)
      generalize lx.getD k 0 = x at *
      by_cases hlty : k < m
      · have hcy := (HY.out.below hb hgy).cell k (by rw [HM.out]; exact hlty)
        have hy9 := lo_getD HLY.out k
        have HTY : Hid (val (ly.take (k + 1)) = val (ly.take k) + bp k * ly.getD k 0) := val_take_succ ly k (by rw [HM.out]; exact hlty)
        generalize ly.getD k 0 = y at *
        have HS := Lib.hid (sum_round lz k cn x y _ _ _ _ n HLZ.out hlt (H0.out k (Nat.le_refl _)) HV.out HTX.out HTY.out)
        go_wp2
        go_roundw
        case rel => exact ⟨k + 1, (cn + x + y) / 1000000000, lz.set k ((cn + x + y) % 1000000000), by omega, by go_num, by go_num, by omega, by show _ = _; rw [List.length_set]; exact HLZ.out, HZ.out.storeI k _ (by omega), lo_set HLO.out _ _ (by omega), zero_after lz k _ H0.out, HS.out, hb.setCell (Nat.le_refl _) _⟩
        case measure => simp [intOf]; omega
      · have HS := Lib.hid (sum_round lz k cn x 0 _ _ _ _ n HLZ.out hlt (H0.out k (Nat.le_refl _)) HV.out HTX.out (show val (ly.take (k + 1)) = val (ly.take k) + bp k * 0 by rw [HYE.out (k + 1) (by omega), HYE.out k (by omega)]; omega))
        go_wp2
        go_roundw
        case rel => exact ⟨k + 1, (cn + x + 0) / 1000000000, lz.set k ((cn + x + 0) % 1000000000), by omega, by go_num, by go_num, by omega, by show _ = _; rw [List.length_set]; exact HLZ.out, HZ.out.storeI k _ (by omega), lo_set HLO.out _ _ (by omega), zero_after lz k _ H0.out, HS.out, hb.setCell (Nat.le_refl _) _⟩
        case measure => simp [intOf]; omega
    · have hk' : k = n := by omega
      subst hk'
      have HS : Hid (val (lz.set k cn) = val lx + val ly) := sum_last lz cn _ k HLZ.out (H0.out k (Nat.le_refl _)) (by have h := HV.out; rw [HXE.out k (by omega), HYE.out k (by omega)] at h; omega)
      have HW := Lib.hid (HZ.out.store k cn)
      have HB := Lib.hid (hb.setCell (p := ⟨w.heap.size, k, none⟩) (Nat.le_refl _) (.int .u64 (cn : Int)))
      have HLO2 := Lib.hid (lo_set HLO.out k cn (by omega))
      clear HV H0 hb
      go_wp2_with (go_at_call 164; refine (trim_to w.heap.size (k + 1) (k + 1) _ (lz.set k cn) (by rw [List.length_set]; exact HLZ.out) HLO2.out HS.out _ HW.out (by omega)).mono ?_; rintro e w' ⟨rfl, rfl, hr⟩)
      go_ret
      exact ⟨_, _, rfl, hr, Nat.le_refl _, HB.out⟩

set_option maxHeartbeats 1000000 in
theorem sum_lt (gx cx gy cy : Nat) (lx ly : List Nat) (hlx : lo lx) (hly : lo ly) (w : World) (hx : Rw w gx cx lx) (hy : Rw w gy cy ly) (hxn : ly.length ≤ 1000000) (hle : lx.length < ly.length) :
    Calls Tryz.prog 185 #[.slice (some ⟨gx, 0, none⟩) lx.length cx, .slice (some ⟨gy, 0, none⟩) ly.length cy] w fun e w' => ∃ g cap, e = .returned (.slice (some ⟨g, 0, none⟩) (limbs (val lx + val ly)).length cap) ∧ Rw w' g cap (limbs (val lx + val ly)) ∧ w.heap.size ≤ g ∧ Below w.heap.size w w' := by
  obtain ⟨i0, hi, hz0, hz1, hz2⟩ := info51'
  have hgx := hx.lt
  have hgy := hy.lt
  have HX := Lib.hid hy
  have HY := Lib.hid hx
  have HLX := Lib.hid hly
  have HLY := Lib.hid hlx
  have HXE : Hid (∀ k, ly.length ≤ k → val (ly.take k) = val ly) := fun k h => val_take_all ly k h
  have HYE : Hid (∀ k, lx.length ≤ k → val (lx.take k) = val lx) := fun k h => val_take_all lx k h
  clear hx hy hlx hly
  generalize hn : ly.length = n at *
  generalize hm : lx.length = m at *
  have HN := Lib.hid hn
  have HM := Lib.hid hm
  clear hn hm
  go_enter Tryz.func185, Tryz.ntmps185
  go_wp2_with (at_make; refine wpList_make_full _ rfl _ _ 127 rfl 0 146 i0 (.int .u64 0) 1 Tryz.underlying127 hi hz0 hz1 _ _ _ _ (n + 1) rfl rfl ?e1 ?e2 ?e3 ?e4 (Nat.zero_le _) ?_)
  case e1 => omega
  case e2 => omega
  case e3 => rw [hz2]; omega
  case e4 => unfold maxLen; omega
  intro w1 hown hgrow
  have hb1 : Below w.heap.size w w1 := (Below.refl _ w).grown hgrow (Nat.le_refl _) (fun k hk => by cases hk)
  have hz := Rw.made hown
  clear hown hgrow
  go_wp2
  go_loopw [6, 21] (fun c i wr => ∃ (k cn : Nat) (lz : List Nat), k ≤ n ∧ i = .int .i64 k ∧ c = .int .u64 cn ∧ cn ≤ 1 ∧ Hid (lz.length = n + 1) ∧ Hid (Rw wr w.heap.size (n + 1) lz) ∧ Hid (lo lz) ∧ Hid (∀ j, k ≤ j → lz.getD j 0 = 0) ∧ Hid (val lz + bp k * cn = val (ly.take k) + val (lx.take k)) ∧ Below w.heap.size w wr) (fun _ i _ => n - (intOf i).toNat)
  case atStart => exact ⟨0, 0, List.replicate (n + 1) 0, Nat.zero_le _, rfl, rfl, by omega, List.length_replicate, hz, lo_zero _, fun j _ => by simp [List.getD_eq_getElem?_getD, List.getElem?_replicate]; split <;> rfl, by show _ = _; rw [val_zero]; simp [val_nil], hb1⟩
  case round =>
    clear hz hb1
    obtain ⟨k, cn, lz, hk, rfl, rfl, hcn, HLZ, HZ, HLO, H0, HV, hb⟩ := hrel
    have hcz := HZ.out.cell k (by rw [HLZ.out]; omega)
    have hfz := HZ.out.frozen k
    rw [H0.out k (Nat.le_refl _)] at hcz
    by_cases hlt : k < n
    · have hcx := (HX.out.below hb hgy).cell k (by rw [HN.out]; exact hlt)
      have hx9 := lo_getD HLX.out k
      have HTX : Hid (val (ly.take (k + 1)) = val (ly.take k) + bp k * ly.getD k 0) := val_take_succ ly k (by rw [HN.out]; exact hlt)
      generalize ly.getD k 0 = x at *
      by_cases hlty : k < m
      · have hcy := (HY.out.below hb hgx).cell k (by rw [HM.out]; exact hlty)
        have hy9 := lo_getD HLY.out k
        have HTY : Hid (val (lx.take (k + 1)) = val (lx.take k) + bp k * lx.getD k 0) := val_take_succ lx k (by rw [HM.out]; exact hlty)
        generalize lx.getD k 0 = y at *
        have HS := Lib.hid (sum_round lz k cn x y _ _ _ _ n HLZ.out hlt (H0.out k (Nat.le_refl _)) HV.out HTX.out HTY.out)
        go_wp2
        go_roundw
        case rel => exact ⟨k + 1, (cn + x + y) / 1000000000, lz.set k ((cn + x + y) % 1000000000), by omega, by go_num, by go_num, by omega, by show _ = _; rw [List.length_set]; exact HLZ.out, HZ.out.storeI k _ (by omega), lo_set HLO.out _ _ (by omega), zero_after lz k _ H0.out, HS.out, hb.setCell (Nat.le_refl _) _⟩
        case measure => simp [intOf]; omega
      · have HS := Lib.hid (sum_round lz k cn x 0 _ _ _ _ n HLZ.out hlt (H0.out k (Nat.le_refl _)) HV.out HTX.out (show val (lx.take (k + 1)) = val (lx.take k) + bp k * 0 by rw [HYE.out (k + 1) (by omega), HYE.out k (by omega)]; omega))
        go_wp2
        go_roundw
        case rel => exact ⟨k + 1, (cn + x + 0) / 1000000000, lz.set k ((cn + x + 0) % 1000000000), by omega, by go_num, by go_num, by omega, by show _ = _; rw [List.length_set]; exact HLZ.out, HZ.out.storeI k _ (by omega), lo_set HLO.out _ _ (by omega), zero_after lz k _ H0.out, HS.out, hb.setCell (Nat.le_refl _) _⟩
        case measure => simp [intOf]; omega
    · have hk' : k = n := by omega
      subst hk'
      have HS : Hid (val (lz.set k cn) = val lx + val ly) := sum_last lz cn _ k HLZ.out (H0.out k (Nat.le_refl _)) (by have h := HV.out; rw [HXE.out k (by omega), HYE.out k (by omega)] at h; omega)
      have HW := Lib.hid (HZ.out.store k cn)
      have HB := Lib.hid (hb.setCell (p := ⟨w.heap.size, k, none⟩) (Nat.le_refl _) (.int .u64 (cn : Int)))
      have HLO2 := Lib.hid (lo_set HLO.out k cn (by omega))
      clear HV H0 hb
      go_wp2_with (go_at_call 164; refine (trim_to w.heap.size (k + 1) (k + 1) _ (lz.set k cn) (by rw [List.length_set]; exact HLZ.out) HLO2.out HS.out _ HW.out (by omega)).mono ?_; rintro e w' ⟨rfl, rfl, hr⟩)
      go_ret
      exact ⟨_, _, rfl, hr, Nat.le_refl _, HB.out⟩

theorem sum_any (gx cx gy cy : Nat) (lx ly : List Nat) (hlx : lo lx) (hly : lo ly) (w : World) (hx : Rw w gx cx lx) (hy : Rw w gy cy ly) (hxn : lx.length ≤ 1000000) (hyn : ly.length ≤ 1000000) :
    Calls Tryz.prog 185 #[.slice (some ⟨gx, 0, none⟩) lx.length cx, .slice (some ⟨gy, 0, none⟩) ly.length cy] w fun e w' => ∃ g cap, e = .returned (.slice (some ⟨g, 0, none⟩) (limbs (val lx + val ly)).length cap) ∧ Rw w' g cap (limbs (val lx + val ly)) ∧ w.heap.size ≤ g ∧ Below w.heap.size w w' := by
  rcases Nat.lt_or_ge lx.length ly.length with h | h
  · exact sum_lt gx cx gy cy lx ly hlx hly w hx hy hyn h
  · exact sum_ge gx cx gy cy lx ly hlx hly w hx hy hxn h

end Go.Proofs.YthamlnolfagpiaaGreatDoor

namespace Go.Proofs.YthamlnolfagpiaaGreatDoor
open Go.RowKit

set_option maxHeartbeats 1000000 in
theorem dif_any (gx cx gy cy : Nat) (lx ly : List Nat) (hlx : lo lx) (hly : lo ly) (w : World) (hx : Rw w gx cx lx) (hy : Rw w gy cy ly) (hxn : lx.length ≤ 1000000) (hle : ly.length ≤ lx.length) (hvl : val ly ≤ val lx) :
    Calls Tryz.prog 186 #[.slice (some ⟨gx, 0, none⟩) lx.length cx, .slice (some ⟨gy, 0, none⟩) ly.length cy] w fun e w' => ∃ g cap, e = .returned (.slice (some ⟨g, 0, none⟩) (limbs (val lx - val ly)).length cap) ∧ Rw w' g cap (limbs (val lx - val ly)) ∧ w.heap.size ≤ g ∧ Below w.heap.size w w' := by
  obtain ⟨i0, hi, hz0, hz1, hz2⟩ := info51'
  have hgx := hx.lt
  have hgy := hy.lt
  have HX := Lib.hid hx
  have HY := Lib.hid hy
  have HLX := Lib.hid hlx
  have HLY := Lib.hid hly
  have HVL := Lib.hid hvl
  have HXE : Hid (∀ k, lx.length ≤ k → val (lx.take k) = val lx) := fun k h => val_take_all lx k h
  have HYE : Hid (∀ k, ly.length ≤ k → val (ly.take k) = val ly) := fun k h => val_take_all ly k h
  clear hx hy hlx hly hvl
  generalize hn : lx.length = n at *
  generalize hm : ly.length = m at *
  have HN := Lib.hid hn
  have HM := Lib.hid hm
  clear hn hm
  go_enter Tryz.func186, Tryz.ntmps186
  go_wp2_with (at_make; refine wpList_make_full _ rfl _ _ 127 rfl 0 146 i0 (.int .u64 0) 1 Tryz.underlying127 hi hz0 hz1 _ _ _ _ n rfl rfl ?e1 ?e2 ?e3 ?e4 (Nat.zero_le _) ?_)
  case e1 => omega
  case e2 => omega
  case e3 => rw [hz2]; omega
  case e4 => unfold maxLen; omega
  intro w1 hown hgrow
  have hb1 : Below w.heap.size w w1 := (Below.refl _ w).grown hgrow (Nat.le_refl _) (fun k hk => by cases hk)
  have hz := Rw.made hown
  clear hown hgrow
  go_wp2
  go_loopw [6, 14] (fun c i wr => ∃ (k cn : Nat) (lz : List Nat), k ≤ n ∧ i = .int .i64 k ∧ c = .int .u64 cn ∧ cn ≤ 1 ∧ Hid (lz.length = n) ∧ Hid (Rw wr w.heap.size n lz) ∧ Hid (lo lz) ∧ Hid (∀ j, k ≤ j → lz.getD j 0 = 0) ∧ Hid (val lz + val (ly.take k) = val (lx.take k) + bp k * cn) ∧ Below w.heap.size w wr) (fun _ i _ => n - (intOf i).toNat)
  case atStart => exact ⟨0, 0, List.replicate n 0, Nat.zero_le _, rfl, rfl, by omega, List.length_replicate, hz, lo_zero _, fun j _ => by simp [List.getD_eq_getElem?_getD, List.getElem?_replicate]; split <;> rfl, by show _ = _; rw [val_zero]; simp [val_nil], hb1⟩
  case round =>
    clear hz hb1
    obtain ⟨k, cn, lz, hk, rfl, rfl, hcn, HLZ, HZ, HLO, H0, HV, hb⟩ := hrel
    by_cases hlt : k < n
    · have hcz := HZ.out.cell k (by rw [HLZ.out]; omega)
      have hfz := HZ.out.frozen k
      rw [H0.out k (Nat.le_refl _)] at hcz
      have hcx := (HX.out.below hb hgx).cell k (by rw [HN.out]; exact hlt)
      have hx9 := lo_getD HLX.out k
      have HTX : Hid (val (lx.take (k + 1)) = val (lx.take k) + bp k * lx.getD k 0) := val_take_succ lx k (by rw [HN.out]; exact hlt)
      generalize lx.getD k 0 = x at *
      by_cases hlty : k < m
      · have hcy := (HY.out.below hb hgy).cell k (by rw [HM.out]; exact hlty)
        have hy9 := lo_getD HLY.out k
        have HTY : Hid (val (ly.take (k + 1)) = val (ly.take k) + bp k * ly.getD k 0) := val_take_succ ly k (by rw [HM.out]; exact hlty)
        generalize ly.getD k 0 = y at *
        by_cases ht : (x : Int) < (cn : Int) + (y : Int)
        · have HS := Lib.hid (dif_round lz k cn x y (x + 1000000000 - (cn + y)) 1 _ _ _ _ (by rw [HLZ.out]; exact hlt) (H0.out k (Nat.le_refl _)) HV.out HTX.out HTY.out (by omega))
          go_wp2
          go_roundw
          case rel => exact ⟨k + 1, 1, lz.set k (x + 1000000000 - (cn + y)), by omega, by go_num, by go_num, by omega, by show _ = _; rw [List.length_set]; exact HLZ.out, HZ.out.storeI k _ (by omega), lo_set HLO.out _ _ (by omega), zero_after lz k _ H0.out, HS.out, hb.setCell (Nat.le_refl _) _⟩
          case measure => simp [intOf]; omega
        · have HS := Lib.hid (dif_round lz k cn x y (x - (cn + y)) 0 _ _ _ _ (by rw [HLZ.out]; exact hlt) (H0.out k (Nat.le_refl _)) HV.out HTX.out HTY.out (by omega))
          go_wp2
          go_roundw
          case rel => exact ⟨k + 1, 0, lz.set k (x - (cn + y)), by omega, by go_num, by go_num, by omega, by show _ = _; rw [List.length_set]; exact HLZ.out, HZ.out.storeI k _ (by omega), lo_set HLO.out _ _ (by omega), zero_after lz k _ H0.out, HS.out, hb.setCell (Nat.le_refl _) _⟩
          case measure => simp [intOf]; omega
      · have HTY : Hid (val (ly.take (k + 1)) = val (ly.take k) + bp k * 0) := by show _ = _; rw [HYE.out (k + 1) (by omega), HYE.out k (by omega)]; omega
        by_cases ht : (x : Int) < (cn : Int)
        · have HS := Lib.hid (dif_round lz k cn x 0 (x + 1000000000 - cn) 1 _ _ _ _ (by rw [HLZ.out]; exact hlt) (H0.out k (Nat.le_refl _)) HV.out HTX.out HTY.out (by omega))
          go_wp2
          go_roundw
          case rel => exact ⟨k + 1, 1, lz.set k (x + 1000000000 - cn), by omega, by go_num, by go_num, by omega, by show _ = _; rw [List.length_set]; exact HLZ.out, HZ.out.storeI k _ (by omega), lo_set HLO.out _ _ (by omega), zero_after lz k _ H0.out, HS.out, hb.setCell (Nat.le_refl _) _⟩
          case measure => simp [intOf]; omega
        · have HS := Lib.hid (dif_round lz k cn x 0 (x - cn) 0 _ _ _ _ (by rw [HLZ.out]; exact hlt) (H0.out k (Nat.le_refl _)) HV.out HTX.out HTY.out (by omega))
          go_wp2
          go_roundw
          case rel => exact ⟨k + 1, 0, lz.set k (x - cn), by omega, by go_num, by go_num, by omega, by show _ = _; rw [List.length_set]; exact HLZ.out, HZ.out.storeI k _ (by omega), lo_set HLO.out _ _ (by omega), zero_after lz k _ H0.out, HS.out, hb.setCell (Nat.le_refl _) _⟩
          case measure => simp [intOf]; omega
    · have hk' : k = n := by omega
      subst hk'
      have HS : Hid (val lz = val lx - val ly) := dif_end lz _ _ cn k HLO.out HLZ.out (by have h := HV.out; rw [HXE.out k (by omega), HYE.out k (by omega)] at h; exact h) HVL.out
      have HB := Lib.hid hb
      clear HV H0 hb
      go_wp2_with (go_at_call 164; refine (trim_to w.heap.size k k _ lz HLZ.out HLO.out HS.out _ HZ.out (by omega)).mono ?_; rintro e w' ⟨rfl, rfl, hr⟩)
      go_ret
      exact ⟨_, _, rfl, hr, Nat.le_refl _, HB.out⟩

end Go.Proofs.YthamlnolfagpiaaGreatDoor

namespace Go.Proofs.YthamlnolfagpiaaGreatDoor
open Go.RowKit

theorem mul_le9 {x y : Nat} (hx : x < 1000000000) (hy : y < 1000000000) : x * y ≤ 999999998000000001 := by
  have := Nat.mul_le_mul (show x ≤ 999999999 by omega) (show y ≤ 999999999 by omega)
  omega

set_option maxHeartbeats 1000000 in
theorem mul_any (gx cx gy cy : Nat) (lx ly : List Nat) (hlx : lo lx) (hly : lo ly) (w : World) (hx : Rw w gx cx lx) (hy : Rw w gy cy ly) (hxn : lx.length ≤ 1000000) (hyn : ly.length ≤ 1000000) :
    Calls Tryz.prog 168 #[.slice (some ⟨gx, 0, none⟩) lx.length cx, .slice (some ⟨gy, 0, none⟩) ly.length cy] w fun e w' => ∃ g cap, e = .returned (.slice (some ⟨g, 0, none⟩) (limbs (val lx * val ly)).length cap) ∧ Rw w' g cap (limbs (val lx * val ly)) ∧ w.heap.size ≤ g ∧ Below w.heap.size w w' := by
  obtain ⟨i0, hi, hz0, hz1, hz2⟩ := info51'
  have hgx := hx.lt
  have hgy := hy.lt
  have HX := Lib.hid hx
  have HY := Lib.hid hy
  have HLX := Lib.hid hlx
  have HLY := Lib.hid hly
  have HXE : Hid (∀ k, lx.length ≤ k → val (lx.take k) = val lx) := fun k h => val_take_all lx k h
  have HYE : Hid (∀ k, ly.length ≤ k → val (ly.take k) = val ly) := fun k h => val_take_all ly k h
  clear hx hy hlx hly
  generalize hn : lx.length = n at *
  generalize hm : ly.length = m at *
  have HN := Lib.hid hn
  have HM := Lib.hid hm
  clear hn hm
  go_enter Tryz.func168, Tryz.ntmps168
  go_wp2_with (at_make; refine wpList_make_full _ rfl _ _ 127 rfl 0 146 i0 (.int .u64 0) 1 Tryz.underlying127 hi hz0 hz1 _ _ _ _ (n + m) rfl rfl ?e1 ?e2 ?e3 ?e4 (Nat.zero_le _) ?_)
  case e1 => omega
  case e2 => omega
  case e3 => rw [hz2]; omega
  case e4 => unfold maxLen; omega
  intro w1 hown hgrow
  have hb1 : Below w.heap.size w w1 := (Below.refl _ w).grown hgrow (Nat.le_refl _) (fun k hk => by cases hk)
  have hz := Rw.made hown
  clear hown hgrow
  go_wp2
  go_loopw [18] (fun i wr => ∃ (k : Nat) (lz : List Nat), k ≤ n ∧ i = .int .i64 k ∧ Hid (lz.length = n + m) ∧ Hid (Rw wr w.heap.size (n + m) lz) ∧ Hid (lo lz) ∧ Hid (∀ j, k + m ≤ j → lz.getD j 0 = 0) ∧ Hid (val lz = val (lx.take k) * val ly) ∧ Below w.heap.size w wr) (fun i _ => n - (intOf i).toNat)
  case atStart => exact ⟨0, List.replicate (n + m) 0, Nat.zero_le _, rfl, List.length_replicate, hz, lo_zero _, fun j _ => by simp [List.getD_eq_getElem?_getD, List.getElem?_replicate]; split <;> rfl, by show _ = _; rw [val_zero]; simp [val_nil], hb1⟩
  case round =>
    clear hz hb1
    obtain ⟨k, lz, hk, rfl, HLZ, HZ, HLO, H0, HV, hb⟩ := hrel
    by_cases hlt : k < n
    · have hcx := (HX.out.below hb hgx).cell k (by rw [HN.out]; exact hlt)
      have hx9 := lo_getD HLX.out k
      have HTX : Hid (val (lx.take (k + 1)) = val (lx.take k) + bp k * lx.getD k 0) := val_take_succ lx k (by rw [HN.out]; exact hlt)
      generalize lx.getD k 0 = x at *
      go_wp2
      go_loopw [8, 25] (fun c i wr => ∃ (j cn : Nat) (lz : List Nat), j ≤ m ∧ i = .int .i64 j ∧ c = .int .u64 cn ∧ cn < 1000000000 ∧ Hid (lz.length = n + m) ∧ Hid (Rw wr w.heap.size (n + m) lz) ∧ Hid (lo lz) ∧ Hid (∀ j, k + m ≤ j → lz.getD j 0 = 0) ∧ Hid (val lz + bp (k + j) * cn = val (lx.take k) * val ly + bp k * (x * val (ly.take j))) ∧ Below w.heap.size w wr) (fun _ i _ => m - (intOf i).toNat)
      case atStart => exact ⟨0, 0, lz, Nat.zero_le _, rfl, rfl, by omega, HLZ, HZ, HLO, H0, by show _ = _; rw [HV.out]; simp [val_nil], hb⟩
      case round =>
        clear HLZ HZ HLO H0 HV hb hcx
        clear lz
        obtain ⟨j, cn, lz, hj, rfl, rfl, hcn, HLZ, HZ, HLO, H0, HV, hb⟩ := hrel
        by_cases hltj : j < m
        · have hcy := (HY.out.below hb hgy).cell j (by rw [HM.out]; exact hltj)
          have hy9 := lo_getD HLY.out j
          have HTY : Hid (val (ly.take (j + 1)) = val (ly.take j) + bp j * ly.getD j 0) := val_take_succ ly j (by rw [HM.out]; exact hltj)
          generalize ly.getD j 0 = y at *
          have hcz := HZ.out.cell (k + j) (by rw [HLZ.out]; omega)
          have hfz := HZ.out.frozen (k + j)
          have hz9 := lo_getD HLO.out (k + j)
          have HZK := Lib.hid (rfl : lz.getD (k + j) 0 = lz.getD (k + j) 0)
          generalize hzz : lz.getD (k + j) 0 = z at *
          have HZZ := Lib.hid hzz
          clear hzz HZK
          have hxy := mul_le9 hx9 hy9
          have HS := Lib.hid (mul_round lz k j cn z x y _ _ _ _ (by rw [HLZ.out]; omega) HZZ.out HV.out HTY.out rfl)
          go_wp2_with fail
          go_quiet (fail)
          go_wp2
          go_roundw
          case rel => exact ⟨j + 1, (cn + (z + x * y)) / 1000000000, lz.set (k + j) ((cn + (z + x * y)) % 1000000000), by omega, by go_num, by go_num, by omega, by show _ = _; rw [List.length_set]; exact HLZ.out, (HZ.out.drewN _).storeI (k + j) _ (by omega), lo_set HLO.out _ _ (by omega), fun i hi => by rw [set_getD_ne _ _ _ _ (by omega)]; exact H0.out i hi, HS.out, (below_drewN hb _).setCell (Nat.le_refl _) _⟩
          case measure => simp [intOf]; omega
        · have hj' : j = m := by omega
          subst hj'
          have hcz := HZ.out.cell (k + j) (by rw [HLZ.out]; omega)
          have hfz := HZ.out.frozen (k + j)
          rw [H0.out (k + j) (Nat.le_refl _)] at hcz
          have HS := Lib.hid (mul_last lz k j cn x _ _ _ (by rw [HLZ.out]; omega) (H0.out (k + j) (Nat.le_refl _)) (by have h := HV.out; rw [HYE.out j (by omega)] at h; exact h) HTX.out)
          go_wp2
          go_roundw
          case rel => exact ⟨k + 1, lz.set (k + j) cn, by omega, by go_num, by show _ = _; rw [List.length_set]; exact HLZ.out, HZ.out.storeI (k + j) _ (by omega), lo_set HLO.out _ _ (by omega), fun i hi => by rw [set_getD_ne _ _ _ _ (by omega)]; exact H0.out i (by omega), HS.out, hb.setCell (Nat.le_refl _) _⟩
          case measure => simp [intOf]; omega
    · have hk' : k = n := by omega
      subst hk'
      have HS : Hid (val lz = val lx * val ly) := by have h := HV.out; rw [HXE.out k (by omega)] at h; exact h
      have HB := Lib.hid hb
      clear HV H0 hb
      go_wp2_with (go_at_call 164; refine (trim_to w.heap.size (k + m) (k + m) _ lz HLZ.out HLO.out HS.out _ HZ.out (by omega)).mono ?_; rintro e w' ⟨rfl, rfl, hr⟩)
      go_ret
      exact ⟨_, _, rfl, hr, Nat.le_refl _, HB.out⟩

end Go.Proofs.YthamlnolfagpiaaGreatDoor

namespace Go.Proofs.YthamlnolfagpiaaGreatDoor
open Go.RowKit
set_option maxRecDepth 8000

theorem Rw.own {w : World} {g cap n : Nat} {l : List Nat} (h : Rw w g cap l) (hn : l.length = n) : w.ownsRow 0 146 1 (.slice (some ⟨g, 0, none⟩) n cap) n (l.map u64) := by subst hn; exact h
theorem Rw.of_own {w : World} {g cap n x : Nat} {l : List Nat} (hn : l.length = n) (h : w.ownsRow 0 146 1 (.slice (some ⟨g, 0, none⟩) (n + 1) cap) (n + 1) (l.map u64 ++ [.int .u64 (x : Int)])) : Rw w g cap (l ++ [x]) := by
  subst hn
  unfold Rw
  rw [List.map_append, List.length_append]
  exact h

theorem one_new (w : World) (x : Nat) : ∀ (j : Nat) (v : Value), [Value.int .u64 (x : Int)][j]? = some v → (w.alloc (.cells #[.int .u64 (x : Int)] 146)).cell? ((⟨w.heap.size, 0, none⟩ : Addr).add j) = some v := by
  intro j v hv
  match j, hv with
  | 0, hv => simp at hv; subst hv; simp [Addr.add]
theorem one_cell (x : Nat) : ∀ v ∈ [Value.int .u64 (x : Int)], v.oneCell' = true := by
  intro v hv; simp at hv; subst hv; rfl

set_option maxHeartbeats 2000000 in
theorem parse_str (u : Nat) (s : ByteArray) (hs : s = num u) (w : World) (hL : s.size ≤ 100000) :
    Calls Tryz.prog 136 #[.string s] w fun e w' => ∃ g cap, e = .returned (.slice (some ⟨g, 0, none⟩) (limbs u).length cap) ∧ Rw w' g cap (limbs u) ∧ w.heap.size ≤ g ∧ Below w.heap.size w w' := by
  obtain ⟨i0, hi, hz0, hz1, hz2⟩ := info51'
  have HB : Hid (∀ i (h : i < s.size), s[i].toNat = 48 + u / 10 ^ (s.size - 1 - i) % 10) := by subst hs; exact num_byte u
  have HU : Hid (u < 10 ^ s.size) := by subst hs; rw [num_size]; exact lt_nd u
  clear hs
  go_enter Tryz.func136, Tryz.ntmps136
  go_wp2_with (at_make; refine wpList_make_own _ rfl _ _ 127 rfl 0 146 i0 (.int .u64 0) 1 Tryz.underlying127 hi hz0 hz1 _ _ _ (s.size / 9 + 1) rfl rfl ?e1 ?e3 ?e4 (Nat.zero_le _) ?_)
  case e1 => omega
  case e3 => rw [hz2]; omega
  case e4 => unfold maxLen; omega
  intro w1 hown hgrow
  have hb1 : Below w.heap.size w w1 := (Below.refl _ w).grown hgrow (Nat.le_refl _) (fun k hk => by cases hk)
  have hz : Rw w1 w.heap.size (s.size / 9 + 1) [] := hown
  have hs1 := hgrow.size
  clear hown hgrow
  go_wp2
  go_loopw [3, 4] (fun v e wr => ∃ (k : Nat) (x : Int) (lz : List Nat), v = .slice (some ⟨w.heap.size, 0, none⟩) k (s.size / 9 + 1) ∧ e = .int .i64 x ∧ x + 9 * (k : Int) = (s.size : Int) ∧ -9 < x ∧ Hid (lz.length = k) ∧ Hid (Rw wr w.heap.size (s.size / 9 + 1) lz) ∧ Hid (lo lz) ∧ Hid (val lz = u % bp k) ∧ Below w.heap.size w wr) (fun _ e _ => (intOf e).toNat)
  case atStart => exact ⟨0, s.size, [], rfl, rfl, by omega, by omega, rfl, hz, lo_nil, by show _ = _; rw [bp_zero, Nat.mod_one]; rfl, hb1⟩
  case round =>
    clear hz hb1 hs1
    obtain ⟨k, x, lz, rfl, rfl, hxk, hx9, HLZ, HZ, HLO, HV, hb⟩ := hrel
    by_cases hx0 : 0 < x
    · obtain ⟨E, rfl⟩ : ∃ E : Nat, x = (E : Int) := ⟨x.toNat, by omega⟩
      have HE := Lib.hid (show E + 9 * k = s.size by omega)
      have hES : E ≤ s.size := by omega
      have hE0 : 0 < E := by omega
      have hk9 : k + 1 ≤ s.size / 9 + 1 := by omega
      clear hx9 hxk hx0
      obtain ⟨a, ha⟩ : ∃ a, a = E - 9 := ⟨_, rfl⟩
      have HA := Lib.hid ha
      have haE : a ≤ E := by omega
      clear ha
      go_wp2
      all_goals
        go_loop [5, 6] (fun g i => ∃ j gr : Nat, g = .int .u64 gr ∧ i = .int .i64 j ∧ a ≤ j ∧ j ≤ E ∧ gr < 1000000000 ∧ Hid (gr = u / 10 ^ (s.size - j) % 10 ^ (j - a))) (fun _ i => E - (intOf i).toNat)
        case atStart =>
          have ha := HA.out
          exact ⟨a, 0, rfl, congrArg (Value.int .i64) (by omega), Nat.le_refl _, haE, by omega, by show _ = _; rw [Nat.sub_self, Nat.pow_zero, Nat.mod_one]⟩
        case round =>
          obtain ⟨j, gr, rfl, rfl, haj, hjE, hgr, HG⟩ := hrel
          by_cases hlt : j < E
          · have hjs : j < s.size := by omega
            have hsi := HB.out j hjs
            have HST := Lib.hid (grp_step u s.size j a hjs haj)
            have h9 : Hid (j + 1 - a ≤ 9) := by have ha := HA.out; show _ ≤ _; omega
            have hd9 : u / 10 ^ (s.size - 1 - j) % 10 < 10 := Nat.mod_lt _ (by omega)
            generalize u / 10 ^ (s.size - 1 - j) % 10 = d at *
            have HG' : Hid (gr * 10 + d = u / 10 ^ (s.size - (j + 1)) % 10 ^ (j + 1 - a)) := by show _ = _; rw [HST.out, ← HG.out]
            have hg9 : gr * 10 + d < 1000000000 := by rw [HG'.out]; exact grp_lt _ _ _ h9.out
            clear HST HG
            go_wp2
            go_round
            case rel => exact ⟨j + 1, gr * 10 + d, by go_num, by go_num, by omega, by omega, hg9, HG'⟩
            case measure => simp [intOf]; omega
          · have hjE' : j = E := by omega
            subst hjE'
            have HV' : Hid (val (lz ++ [gr]) = u % bp (k + 1)) := by
              refine grp_end u k j lz gr HLZ.out HV.out ?_ ?_
              · have h := HU.out; rw [← HE.out, Nat.add_comm] at h; exact h
              · have h := HG.out
                rw [← HA.out, h, show s.size - j = 9 * k by have := HE.out; omega]
            have hsz := hb.size
            have HOW := Lib.hid ((HZ.out.alloc (.cells #[.int .u64 (gr : Int)] 146)).own HLZ.out)
            go_wp2_with (at_builtin; refine wpList_append_own_spare _ rfl _ _ 127 rfl 0 146 i0 1 Tryz.underlying127 hi hz1 w.heap.size k (s.size / 9 + 1) _ rfl HOW.out ⟨wr.heap.size, 0, none⟩ 1 1 [.int .u64 (gr : Int)] rfl rfl (one_new wr gr) (one_cell gr) hk9 ?_)
            intro w2 hown2 hgrow2
            have hz2 := Rw.of_own HLZ.out hown2
            have hb2 := (hb.alloc hsz (.cells #[.int .u64 (gr : Int)] 146)).grown hgrow2 (by simp; omega) (fun k hk => by cases hk; exact Nat.le_refl _)
            clear hown2 hgrow2 HOW
            have HZ2 := Lib.hid hz2
            have HB2 := Lib.hid hb2
            clear hz2 hb2 hb
            have HL2 : Hid (lo (lz ++ [gr])) := lo_append.2 ⟨HLO.out, lo_cons.2 ⟨hgr, lo_nil⟩⟩
            have HN2 : Hid ((lz ++ [gr]).length = k + 1) := by show _ = _; rw [List.length_append, HLZ.out]; rfl
            go_wp2
            go_roundw
            case rel =>
              have hE := HE.out
              exact ⟨k + 1, (j : Int) - 9, lz ++ [gr], rfl, rfl, by omega, by omega, HN2, HZ2, HL2, HV', HB2.out⟩
            case measure => simp [intOf]; omega
    · have HS : Hid (val lz = u) := by show _ = _; rw [HV.out]; exact grp_all u k s.size HU.out (by omega)
      have hkb : k ≤ 1000000000 := by omega
      have HBB := Lib.hid hb
      clear HV hb
      go_wp2_with (go_at_call 164; refine (trim_to w.heap.size (s.size / 9 + 1) k u lz HLZ.out HLO.out HS.out _ HZ.out hkb).mono ?_; rintro e w' ⟨rfl, rfl, hr⟩)
      go_ret
      exact ⟨_, _, rfl, hr, Nat.le_refl _, HBB.out⟩

end Go.Proofs.YthamlnolfagpiaaGreatDoor

namespace Go.Proofs.YthamlnolfagpiaaGreatDoor
open Go.RowKit

def Tab (w : World) : Prop := Lib.TabIs Tryz.prog w "internal/strconv.uint64pow10" .u64 Lib.pow10Tab
theorem gTab : Tryz.prog.globalNamed "internal/strconv.uint64pow10" = some 3 := by kernel_rfl
theorem Tab.lt {w : World} (h : Tab w) : 3 < w.heap.size :=
  World.block_lt_of_cell? _ _ (Lib.TabIs.cell h gTab 0 (by decide))
theorem Tab.below {B : Nat} {w w' : World} (h : Tab w) (hB : w.heap.size ≤ B) (hb : Below B w w') : Tab w' := var?_below hb gTab (Nat.lt_of_lt_of_le h.lt hB) h

theorem own_string {W : World} {B : Nat} {v : Value} {n : Nat} {l : List UInt8} (h : W.ownsRow B 5 1 v n (Lib.byteCells l)) :
    (convert 43 9 v).run Tryz.prog W = .ok (.string ⟨l.toArray⟩) W := by
  have hl : l.length = n := by have := h.1; rw [Lib.byteCells_length] at this; omega
  subst hl
  have hcell := fun g hg => h.cells (g := g) hg
  rcases h.2 with ⟨rfl, h0⟩ | ⟨g, cap, cur, rfl, _, _, hnc, _⟩
  · have : l = [] := List.eq_nil_of_length_eq_zero h0
    subst this
    exact run_convert_bytes_nil W 43 5 Tryz.underlying43 Tryz.underlying5 0 0 _ Tryz.underlying9
  · refine run_convert_bytes_back W _ _ 5 _ cap l Tryz.underlying43 Tryz.underlying5 Tryz.underlying9 ?_
    intro j hj
    exact hcell g rfl j _ (by simp [Lib.byteCells, hj])
theorem own_frame {W W' : World} {B e size n : Nat} {v : Value} {xs : List Value} (h : W.ownsRow B e size v n xs) (hb : Below W.heap.size W W') : W'.ownsRow B e size v n xs := by
  refine ⟨h.1, ?_⟩
  rcases h.2 with hn | ⟨g, cap, cur, rfl, hbg, hgg, rest⟩
  · exact .inl hn
  · refine .inr ⟨g, cap, cur, rfl, hbg, ?_, rest⟩
    rw [hb.block g (Array.getElem?_eq_some_iff.1 hgg).1]; exact hgg

theorem appendUint_any (B n u : Nat) (hu : u < 18446744073709551616) (sv : Value) (xs : List Value) (w : World) (hown : w.ownsRow B 5 1 sv n xs) (hBw : B ≤ w.heap.size) (hlim : n ≤ 1000000000) (ht : Tab w) :
    Calls Tryz.prog 158 #[sv, .int .u64 u, .int .i64 10] w fun e w' => ∃ v', e = .returned v' ∧ w'.ownsRow B 5 1 v' (n + (Lib.decDigits u).length) (xs ++ Lib.byteCells (Lib.decDigits u)) ∧ Below B w w' := by
  rcases Nat.lt_or_ge u 100 with h | h
  · go_enter Tryz.func158, Tryz.ntmps158
    go_wp2_with (go_at_call 181; refine (Tryz.internal_strconv_AppendUint_10_small B n u h sv xs _ hown hBw (by omega)).mono ?_; rintro e w' ⟨v', rfl, h1, h2, _⟩)
    go_ret
    exact ⟨_, rfl, h1, h2⟩
  · go_enter Tryz.func158, Tryz.ntmps158
    go_wp2_with (go_at_call 181; refine (Tryz.internal_strconv_AppendUint_10_big B n u h hu sv xs _ hown hBw (by omega) ht).mono ?_; rintro e w' ⟨v', rfl, h1, h2, _⟩)
    go_ret
    exact ⟨_, rfl, h1, h2⟩

theorem info5a : (Tryz.prog.info? 5).map (fun i => (i.zero, i.size, i.bytes)) = some (some (.int .u8 0), 1, 1) := by kernel_rfl
theorem info5' : ∃ i, Tryz.prog.info? 5 = some i ∧ i.zero = some (.int .u8 0) ∧ i.size = 1 ∧ i.bytes = 1 := by
  have h := info5a
  cases hi : Tryz.prog.info? 5 with
  | none => rw [hi] at h; cases h
  | some i => rw [hi] at h; simp at h; exact ⟨i, rfl, h.1, h.2.1, h.2.2⟩
theorem bone_new (w : World) (x : Nat) : ∀ (j : Nat) (v : Value), [Value.int .u8 (48 + (x : Int))][j]? = some v → (w.alloc (.cells #[.int .u8 (48 + (x : Int))] 5)).cell? ((⟨w.heap.size, 0, none⟩ : Addr).add j) = some v := by
  intro j v hv
  match j, hv with
  | 0, hv => simp at hv; subst hv; simp [Addr.add]
theorem bone_cell (x : Nat) : ∀ v ∈ [Value.int .u8 (48 + (x : Int))], v.oneCell' = true := by
  intro v hv; simp at hv; subst hv; rfl
theorem bc_snoc (X : List UInt8) (d : Nat) (hd : d < 10) : Lib.byteCells (X ++ [dchr d]) = Lib.byteCells X ++ [.int .u8 (48 + (d : Int))] := by
  rw [Lib.byteCells_append]
  simp only [Lib.byteCells, List.map_cons, List.map_nil, dchr]
  rw [UInt8.toNat_ofNat_of_lt' (by simp [UInt8.size]; omega)]
  simp

set_option maxHeartbeats 1000000 in
theorem appendGroup_any (B n g : Nat) (hg : g < 1000000000) (sv : Value) (xs : List Value) (w : World) (hown : w.ownsRow B 5 1 sv n xs) (hBw : B ≤ w.heap.size) (hlim : n ≤ 1000000000) :
    Calls Tryz.prog 159 #[sv, .int .u64 g] w fun e w' => ∃ v', e = .returned v' ∧ w'.ownsRow B 5 1 v' (n + 9) (xs ++ Lib.byteCells (padL 9 g)) ∧ Below B w w' := by
  obtain ⟨i0, hi, hz0, hz1, hz2⟩ := info5'
  have HO := Lib.hid hown
  clear hown
  go_enter Tryz.func159, Tryz.ntmps159
  go_wp2
  go_loopw [0, 5] (fun v p wr => ∃ (m pw k : Nat) (X : List UInt8), p = .int .u64 pw ∧ m + k = 9 ∧ Hid (pw = 10 ^ m / 10) ∧ Hid (X.length = k) ∧ wr.ownsRow B 5 1 v (n + k) (xs ++ Lib.byteCells X) ∧ Hid (X ++ padL m g = padL 9 g) ∧ Below B w wr) (fun _ p _ => (intOf p).toNat)
  case atStart => exact ⟨9, 100000000, 0, [], rfl, rfl, by show _ = _; decide, rfl, by rw [show Lib.byteCells [] = [] from rfl, List.append_nil]; exact HO.out, rfl, Below.refl _ _⟩
  case round =>
    clear HO
    obtain ⟨m, pw, k, X, rfl, hmk, HP, HK, hown, HX, hb⟩ := hrel
    have hsz : B ≤ wr.heap.size := Nat.le_trans hBw hb.size
    match m, hmk, HP, HX with
    | 0, hmk, HP, HX =>
      have hp : pw = 0 := HP.out
      subst hp
      have hk : k = 9 := by omega
      subst hk
      have HXE : Hid (X = padL 9 g) := by have h := HX.out; rw [show padL 0 g = [] from rfl, List.append_nil] at h; exact h
      go_wp2
      go_ret
      exact ⟨_, rfl, by rw [← HXE.out]; exact hown, hb⟩
    | j + 1, hmk, HP, HX =>
      have hpe : pw = 10 ^ j := by rw [HP.out, Nat.pow_succ]; omega
      have hp0 : 0 < pw := by rw [hpe]; exact ten_pos j
      have hpI : (0 : Int) < (pw : Int) := by omega
      have hp9 : pw ≤ 1000000000 := by rw [hpe]; exact Nat.pow_le_pow_right (by omega) (show j ≤ 9 by omega)
      obtain ⟨d, hd⟩ : ∃ d, g / 10 ^ j % 10 = d := ⟨_, rfl⟩
      have hd9 : d < 10 := by omega
      obtain ⟨q, hq⟩ : ∃ q, g / pw = q := ⟨_, rfl⟩
      have hqd : q % 10 = d := by rw [← hq, hpe]; exact hd
      have hqg : q ≤ g := by rw [← hq]; exact Nat.div_le_self _ _
      have hw1 : IntKind.u64.wrap ((g : Int) / (pw : Int)) = (q : Int) := by
        rw [show ((g : Int) / (pw : Int)) = (q : Int) by rw [← hq]; rfl]
        exact IntWalk.u64_in _ (by omega)
      have hw2 : (q : Int).tmod 10 = (d : Int) := by rw [← hqd]; rfl
      have hw3 : IntKind.u64.wrap (48 + (d : Int)) = 48 + (d : Int) := IntWalk.u64_in _ (by omega)
      have hw4 : (48 + (d : Int)) % 256 = 48 + (d : Int) := by omega
      clear hq hqd hqg
      have HX2 : Hid ((X ++ [dchr d]) ++ padL j g = padL 9 g) := by show _ = _; rw [List.append_assoc, List.singleton_append, padL_cons j g d hd]; exact HX.out
      have HP2 : Hid (pw / 10 = 10 ^ j / 10) := by show _ = _; rw [hpe]
      have hpd : pw / 10 < pw := by omega
      clear hpe hd HP HX
      have HOW := Lib.hid (hown.alloc (.cells #[.int .u8 (48 + (d : Int))] 5))
      have hmax : n + k + 1 ≤ maxLen := by unfold maxLen; omega
      go_wp2_with (at_builtin; refine wpList_append_own _ rfl _ _ 43 rfl B 5 i0 (.int .u8 0) 1 1 Tryz.underlying43 hi hz0 hz1 hz2 rfl (by decide) _ _ _ rfl HOW.out ⟨wr.heap.size, 0, none⟩ 1 1 [.int .u8 (48 + (d : Int))] rfl rfl (bone_new wr d) (bone_cell d) hmax ?d4 ?d5 ?_)
      case d4 => omega
      case d5 => simp; omega
      intro v2 w2 hown2 hgrow2 _
      have HB2 := Lib.hid ((hb.alloc hsz (.cells #[.int .u8 (48 + (d : Int))] 5)).grown hgrow2 (by simp; omega) (fun k hk => (hown.lt k hk).1))
      have HO2 : Hid (w2.ownsRow B 5 1 v2 (n + (k + 1)) (xs ++ Lib.byteCells (X ++ [dchr d]))) := by
        show World.ownsRow _ _ _ _ _ _ _
        rw [bc_snoc X d hd9]; exact hown2
      have HK2 : Hid ((X ++ [dchr d]).length = k + 1) := by show _ = _; rw [List.length_append, HK.out]; rfl
      clear hown2 hgrow2 HOW hown hb
      go_wp2
      go_roundw
      case rel => exact ⟨j, pw / 10, k + 1, X ++ [dchr d], by go_num, by omega, HP2, HK2, HO2.out, HX2, HB2.out⟩
      case measure => simp [intOf]; omega

end Go.Proofs.YthamlnolfagpiaaGreatDoor

namespace Go.Proofs.YthamlnolfagpiaaGreatDoor
open Go.RowKit

theorem make_bytes (n : Nat) (hn : n ≤ 1000000) (W : World) :
    (Instr.makeSlice 43 (.int .i64 0) (.int .i64 ((n : Int) * 9))).run Tryz.prog W = .ok (.slice (some ⟨W.heap.size, 0, none⟩) 0 (n * 9)) (W.alloc (.cells (madeCells #[.int .u8 0] (n * 9)) 5)) := by
  obtain ⟨i0, hi, hz0, hz1, hz2⟩ := info5'
  have hr := run_make (P := Tryz.prog) W 43 5 i0 (.int .u8 0) Tryz.underlying43 hi hz0 .i64 .i64 0 ((n : Int) * 9) (by omega) (by omega) (by rw [hz2]; omega) (by omega)
  rw [hr, hz1, show ((n : Int) * 9).toNat = n * 9 by omega, Nat.mul_one]
  rfl

theorem format_zero (a : Option Addr) (cap : Nat) (w : World) :
    Calls Tryz.prog 134 #[.slice a 0 cap] w fun e w' => e = .returned (.string (num 0)) ∧ w = w' := by
  have h0 : num 0 = ⟨#[48]⟩ := by rw [num, Lib.decDigits_one (by omega)]; rfl
  have H0 := Lib.hid h0
  clear h0
  go_enter Tryz.func134, Tryz.ntmps134
  go_wp2
  go_ret
  exact ⟨congrArg (fun s => Ending.returned (.string s)) H0.out.symm, rfl⟩

set_option maxHeartbeats 2000000 in
theorem format_pos (u : Nat) (hu : 0 < u) (g cap : Nat) (w : World) (h : Rw w g cap (limbs u)) (ht : Tab w) (hl : (limbs u).length ≤ 1000000) :
    Calls Tryz.prog 134 #[.slice (some ⟨g, 0, none⟩) (limbs u).length cap] w fun e w' => e = .returned (.string (num u)) ∧ Below w.heap.size w w' := by
  have hlo := limbs_lo u
  have hval := limbs_val u
  have htop := limbs_topj u
  have h0 : 0 < (limbs u).length := by
    rcases Nat.eq_zero_or_pos (limbs u).length with e | e
    · rw [limbs_len0] at e; omega
    · exact e
  generalize limbs u = l at *
  have hg := h.lt
  have HR := Lib.hid h
  have HT := Lib.hid ht
  have HLO := Lib.hid hlo
  have HV := Lib.hid hval
  clear h ht hlo hval
  obtain ⟨t, hn⟩ : ∃ t, l.length = t + 1 := ⟨l.length - 1, by omega⟩
  have hc := HR.out.cell t (by omega)
  have hx9 := lo_getD HLO.out t
  have hx0 := htop t hn
  have HD : Hid (val (l.drop t) = l.getD t 0) := top_drop l t hn
  clear htop h0
  generalize l.getD t 0 = x at *
  rw [hn] at hl
  have HN := Lib.hid hn
  clear hn
  have hmk := make_bytes (t + 1) (by omega)
  have e1 : ((t + 1 : Nat) : Int) = (t : Int) + 1 := by omega
  rw [e1] at hmk
  have hw1 : IntKind.i64.wrap (((t : Int) + 1) * 9) = ((t : Int) + 1) * 9 := IntWalk.i64_in _ (by omega)
  have hrow : (w.alloc (.cells (madeCells #[.int .u8 0] ((t + 1) * 9)) 5)).ownsRow w.heap.size 5 1 (.slice (some ⟨w.heap.size, 0, none⟩) 0 ((t + 1) * 9)) 0 [] :=
    World.ownsRow_made w _ _ (Nat.le_refl _) (by unfold maxLen; omega) (by rw [size_madeCells, Nat.mul_one])
  have hbe : Below w.heap.size w (w.alloc (.cells (madeCells #[.int .u8 0] ((t + 1) * 9)) 5)).drew := ((Below.refl _ w).alloc (Nat.le_refl _) _).drew
  have HROW := Lib.hid (hrow.drew)
  have HTAB := Lib.hid (HT.out.below (Nat.le_refl _) hbe)
  have HBE := Lib.hid hbe
  have hsz0 := hbe.size
  clear hrow hbe
  have hx64 : x < 18446744073709551616 := by omega
  rw [HN.out]
  go_enter Tryz.func134, Tryz.ntmps134
  go_upto_region 4 with fail
  go_cut [4] from 12 to 20 (fun v wx => wx.ownsRow w.heap.size 5 1 v (Lib.decDigits x).length (Lib.byteCells (Lib.decDigits x)) ∧ Below w.heap.size w wx)
  case first =>
    go_region_with (go_at_call 158; refine (appendUint_any w.heap.size 0 x hx64 _ [] _ HROW.out hsz0 (Nat.zero_le _) HTAB.out).mono ?_; rintro e w1 ⟨v1, rfl, ho1, b1⟩)
    all_goals
      rw [Nat.zero_add, List.nil_append] at ho1
      go_wp2_with fail
      go_meet
      exact ⟨ho1, HBE.out.trans b1⟩
  obtain ⟨ho1, hb1⟩ := hcut
  have HB1 := Lib.hid hb1
  have hl9 : (Lib.decDigits x).length ≤ 9 := dec_len9 x hx9
  clear hmk hb1
  go_wp2_with fail
  go_loopw [4, 5] (fun v i wr => ∃ (k nb : Nat), i = .int .i64 ((k : Int) - 1) ∧ k ≤ t ∧ nb + 9 * k ≤ 9 * (t + 1) ∧ Hid ((Lib.decDigits (val (l.drop k))).length = nb) ∧ wr.ownsRow w.heap.size 5 1 v nb (Lib.byteCells (Lib.decDigits (val (l.drop k)))) ∧ 0 < val (l.drop k) ∧ Below w.heap.size w wr) (fun _ i _ => (intOf i + 1).toNat)
  case atStart => exact ⟨t, (Lib.decDigits x).length, rfl, Nat.le_refl _, by omega, by show _ = _; rw [HD.out], by rw [HD.out]; exact ho1, by rw [HD.out]; exact hx0, HB1.out⟩
  case round =>
    clear ho1
    obtain ⟨k, nb, rfl, hk, hnb, HNB, hown, hpos, hb⟩ := hrel
    match k, hk, hnb, HNB, hown, hpos with
    | 0, hk, hnb, HNB, hown, hpos =>
      have hcv := own_string hown
      have HE : Hid ((⟨(Lib.decDigits (val (l.drop 0))).toArray⟩ : ByteArray) = num u) := by show _ = _; rw [List.drop_zero, HV.out]; rfl
      generalize (⟨(Lib.decDigits (val (l.drop 0))).toArray⟩ : ByteArray) = res at *
      clear hown hpos HNB
      go_wp2
      go_ret
      exact ⟨ret_str HE.out, hb⟩
    | j + 1, hk, hnb, HNB, hown, hpos =>
      have hcj := (HR.out.below hb hg).cell j (by rw [HN.out]; omega)
      have hy9 := lo_getD HLO.out j
      have HF := Lib.hid (fmt_step l j HLO.out (by rw [HN.out]; omega) hpos)
      have hpos2 := drop_pos l j (by rw [HN.out]; omega) hpos
      generalize l.getD j 0 = y at *
      have hBw : w.heap.size ≤ wr.heap.size := hb.size
      have HOW := Lib.hid hown
      have HP := Lib.hid hpos
      clear hown hpos
      go_wp2_with (go_at_call 159; refine (appendGroup_any w.heap.size nb y hy9 _ _ _ HOW.out hBw (by omega)).mono ?_; rintro e w2 ⟨v2, rfl, ho2, b2⟩)
      have HB2 := Lib.hid (hb.trans b2)
      have HO2 : Hid (w2.ownsRow w.heap.size 5 1 v2 (nb + 9) (Lib.byteCells (Lib.decDigits (val (l.drop j))))) := by
        show World.ownsRow _ _ _ _ _ _ _
        rw [HF.out, Lib.byteCells_append]; exact ho2
      have HN2 : Hid ((Lib.decDigits (val (l.drop j))).length = nb + 9) := by show _ = _; rw [HF.out, List.length_append, HNB.out, padL_len]
      clear ho2 b2 hb
      go_wp2
      go_roundw
      case rel => (repeat apply Exists.intro); exact ⟨⟨j, nb + 9, by go_num, by omega, by omega, HN2, HO2.out, hpos2, HB2.out⟩, rfl⟩
      case measure => simp [intOf]

end Go.Proofs.YthamlnolfagpiaaGreatDoor

namespace Go.Proofs.YthamlnolfagpiaaGreatDoor
open Go.RowKit

set_option maxHeartbeats 400000 in
theorem natRight_eq (s : ByteArray) (w : World) (hs : s.size ≤ 1000000000) :
    Calls Tryz.prog 76 #[.string s] w fun e w' => e = .returned (.bool (rightL s.data.toList)) ∧ w = w' := by
  by_cases hz : s.size = 0
  · have hs := empty_of s hz
    subst hs
    go_enter Tryz.func76, Tryz.ntmps76
    go_wp2
    go_ret
    exact ⟨rfl, rfl⟩
  have h0 : 0 < s.size := by omega
  have hE := isE s h0
  have hE' := notE s h0
  by_cases hb : 1 < s.size ∧ s[0].toNat = 48
  · obtain ⟨h1, h2⟩ := hb
    have HK : Hid (rightL s.data.toList = false) := right_zero _ (by rw [len_of]; exact h1) (by rw [head_of s h0]; exact h2)
    have h2' : ((s[0].toNat : Int) == 48) = true := beqI h2
    clear h2 hz
    go_enter Tryz.func76, Tryz.ntmps76
    go_wp2_with fail
    go_ret
    exact ⟨ret_bool HK.out.symm, rfl⟩
  have HR : Hid (rightL s.data.toList = digs s.data.toList) := right_len _ (by rw [len_of]; exact hz) (by
    rw [len_of, head_of s h0]
    by_cases h1 : s.size ≤ 1
    · exact Or.inl h1
    · exact Or.inr (fun e => hb ⟨by omega, e⟩))
  have hcase : (((s[0].toNat : Int) == 48) = false) ∨ (((s[0].toNat : Int) == 48) = true ∧ s.size ≤ 1) := by
    by_cases h1 : s[0].toNat = 48
    · exact Or.inr ⟨beqI h1, by
        apply Decidable.byContradiction
        intro h; exact hb ⟨by omega, h1⟩⟩
    · exact Or.inl (bneI h1)
  clear hb hz
  rcases hcase with h1 | ⟨h1, h2⟩
  all_goals
    go_enter Tryz.func76, Tryz.ntmps76
    go_wp2_with fail
    go_loop [3] (fun i => ∃ k : Nat, k ≤ s.size ∧ i = .int .i64 k ∧ Hid ((s.data.toList.take k).all (fun c => dig c.toNat) = true)) (fun i => s.size - (intOf i).toNat)
    case atStart => exact ⟨0, Nat.zero_le _, rfl, by rw [List.take_zero]; rfl⟩
    case round =>
      obtain ⟨k, hk, rfl, HA⟩ := hrel
      clear h1
      by_cases hlt : k < s.size
      · cases hw : dig s[k].toNat
        · have HK : Hid (rightL s.data.toList = false) := by show _ = _; rw [HR.out]; exact all_stop s _ k hlt hw
          have hn : s[k].toNat < 48 ∨ (48 ≤ s[k].toNat ∧ 57 < s[k].toNat) := by
            apply Decidable.byContradiction
            intro h
            rw [show dig s[k].toNat = true by simp [dig]; omega] at hw; cases hw
          clear hw
          rcases hn with hn | ⟨hn, hn2⟩
          · go_wp2_with fail
            go_ret
            exact ⟨ret_bool HK.out.symm, rfl⟩
          · go_wp2_with fail
            go_ret
            exact ⟨ret_bool HK.out.symm, rfl⟩
        · have HA' := Lib.hid (all_step s (fun c => dig c.toNat) k hlt HA.out hw)
          have hd := dig_bd hw
          have hd1 := hd.1
          have hd2 := hd.2
          clear hw hd
          go_wp2_with fail
          go_round
          case rel => exact ⟨k + 1, by omega, by go_num, HA'⟩
          case measure => simp [intOf]; omega
      · have hk' : k = s.size := by omega
        subst hk'
        have HK : Hid (rightL s.data.toList = true) := by show _ = _; rw [HR.out]; exact all_end s _ HA.out
        go_wp2_with fail
        go_ret
        exact ⟨ret_bool HK.out.symm, rfl⟩
theorem natRight_yes (u : Nat) (w : World) (hs : (num u).size ≤ 1000000000) :
    Calls Tryz.prog 76 #[.string (num u)] w fun e w' => e = .returned (.bool true) ∧ w = w' := by
  have := natRight_eq (num u) w hs
  rwa [num_data, right_num] at this

theorem cmpInt_any (x y : Int) (w : World) :
    Calls Tryz.prog 91 #[.int .i64 x, .int .i64 y] w fun e w' => e = .returned (.int .i64 (if x < y then -1 else if y < x then 1 else 0)) ∧ w = w' := by
  go_enter Tryz.func91, Tryz.ntmps91
  go_wp2
  all_goals
    go_ret
    refine ⟨?_, rfl⟩
    repeat' split
    all_goals first | rfl | (exfalso; omega)

theorem cmpB_eq : ∀ (a b : List UInt8), Lib.compareBytes a b = if Op.bytesLess a b = true then -1 else if a = b then 0 else 1
  | [], [] => by simp [Lib.compareBytes, Op.bytesLess]
  | [], _ :: _ => by simp [Lib.compareBytes, Op.bytesLess]
  | _ :: _, [] => by simp [Lib.compareBytes, Op.bytesLess]
  | a :: x, b :: y => by
    rw [Lib.compareBytes, Op.bytesLess]
    by_cases h1 : a < b
    · simp [h1]
    · by_cases h2 : b < a
      · have h3 : a ≠ b := by rintro rfl; exact h1 h2
        simp [h1, h2, h3]
      · have h3 : a = b := by
          apply UInt8.toNat_inj.1
          rw [UInt8.lt_iff_toNat_lt] at h1 h2
          omega
        subst h3
        rw [cmpB_eq x y]
        simp [h1]
theorem cmpB_num (u v : Nat) (h : nd u = nd v) : Lib.compareBytes (num u).data.toList (num v).data.toList = cmpN u v := by
  have h1 := bl_num u v h
  have h2 := eq_num u v
  rw [ByteArray.toList_eq, ByteArray.toList_eq] at h1 h2
  rw [cmpB_eq, h1, cmpN]
  by_cases h3 : u < v
  · simp [h3]
  · by_cases h4 : u = v
    · rw [decide_eq_true h4] at h2
      have := eq_of_beq h2
      simp [h4]
    · rw [decide_eq_false h4] at h2
      have := ne_of_beq_false h2
      simp [h3, h4, this]

theorem strCmp_num (u v : Nat) (h : nd u = nd v) (w : World) :
    Calls Tryz.prog 141 #[.string (num u), .string (num v)] w fun e w' => e = .returned (.int .i64 (cmpN u v)) ∧ w = w' := by
  have H := Tryz.strings_Compare (num u) (num v) w
  rw [cmpB_num u v h] at H
  exact H.mono fun _ _ ⟨he, hw⟩ => ⟨he, hw.symm⟩

set_option maxHeartbeats 400000 in
theorem cmp_bad (a b : ByteArray) (w : World) (ha : a.size ≤ 1000000000) (hb : b.size ≤ 1000000000) (h : rightL a.data.toList = false ∨ rightL b.data.toList = false) :
    Calls Tryz.prog 123 #[.string a, .string b] w fun e w' => e = .returned (.int .i64 0) ∧ w = w' := by
  cases h1 : rightL a.data.toList
  · clear h
    go_enter Tryz.func123, Tryz.ntmps123
    go_wp2_with (go_at_call 76; refine (natRight_eq _ _ (by omega)).mono ?_; rintro e w' ⟨rfl, rfl⟩)
    go_ret
    exact ⟨rfl, rfl⟩
  · have h2 : rightL b.data.toList = false := by rcases h with h | h; (rw [h] at h1; cases h1); exact h
    clear h
    go_enter Tryz.func123, Tryz.ntmps123
    go_wp2_with (go_at_call 76; refine (natRight_eq _ _ (by omega)).mono ?_; rintro e w' ⟨rfl, rfl⟩)
    go_ret
    exact ⟨rfl, rfl⟩

theorem cmpInt_ne (x y z : Int) (hz : Hid (z = if x < y then -1 else if y < x then 1 else 0)) (w : World) :
    Calls Tryz.prog 91 #[.int .i64 x, .int .i64 y] w fun e w' => e = .returned (.int .i64 z) ∧ w = w' := by
  have := hz.out
  subst this
  exact cmpInt_any x y w

set_option maxHeartbeats 400000 in
theorem cmp_num (u v : Nat) (w : World) (ha : (num u).size ≤ 1000000000) (hb : (num v).size ≤ 1000000000) :
    Calls Tryz.prog 123 #[.string (num u), .string (num v)] w fun e w' => e = .returned (.int .i64 (cmpN u v)) ∧ w = w' := by
  have hsu : (num u).size = nd u := num_size u
  have hsv : (num v).size = nd v := num_size v
  rcases Nat.lt_trichotomy (nd u) (nd v) with h | h | h
  · have hlt := nd_lt h
    have HK : Hid (cmpN u v = -1) := by show _ = _; rw [cmpN, if_pos hlt]
    have HZ : Hid ((-1 : Int) = if ((num u).size : Int) < ((num v).size : Int) then -1 else if ((num v).size : Int) < ((num u).size : Int) then 1 else 0) := by show _ = _; rw [if_pos (by omega)]
    clear hsu hsv h hlt
    go_enter Tryz.func123, Tryz.ntmps123
    go_wp2_with (first
      | (go_at_call 76; refine (natRight_yes _ _ (by omega)).mono ?_; rintro e w' ⟨rfl, rfl⟩)
      | (go_at_call 91; refine (cmpInt_ne _ _ (-1) HZ _).mono ?_; rintro e w' ⟨rfl, rfl⟩))
    go_ret
    exact ⟨ret_int HK.out.symm, rfl⟩
  · have HZ : Hid ((0 : Int) = if ((num u).size : Int) < ((num v).size : Int) then -1 else if ((num v).size : Int) < ((num u).size : Int) then 1 else 0) := by show _ = _; rw [if_neg (by omega), if_neg (by omega)]
    have HH := Lib.hid h
    clear hsu hsv h
    go_enter Tryz.func123, Tryz.ntmps123
    go_wp2_with (first
      | (go_at_call 76; refine (natRight_yes _ _ (by omega)).mono ?_; rintro e w' ⟨rfl, rfl⟩)
      | (go_at_call 91; refine (cmpInt_ne _ _ 0 HZ _).mono ?_; rintro e w' ⟨rfl, rfl⟩)
      | (go_at_call 141; refine (strCmp_num u v HH.out _).mono ?_; rintro e w' ⟨rfl, rfl⟩))
    go_ret
    exact ⟨rfl, rfl⟩
  · have hlt := nd_lt h
    have HK : Hid (cmpN u v = 1) := by show _ = _; rw [cmpN, if_neg (by omega), if_neg (by omega)]
    have HZ : Hid ((1 : Int) = if ((num u).size : Int) < ((num v).size : Int) then -1 else if ((num v).size : Int) < ((num u).size : Int) then 1 else 0) := by show _ = _; rw [if_neg (by omega), if_pos (by omega)]
    clear hsu hsv h hlt
    go_enter Tryz.func123, Tryz.ntmps123
    go_wp2_with (first
      | (go_at_call 76; refine (natRight_yes _ _ (by omega)).mono ?_; rintro e w' ⟨rfl, rfl⟩)
      | (go_at_call 91; refine (cmpInt_ne _ _ 1 HZ _).mono ?_; rintro e w' ⟨rfl, rfl⟩))
    go_ret
    exact ⟨ret_int HK.out.symm, rfl⟩

set_option maxHeartbeats 400000 in
theorem check_any (a b : ByteArray) (w : World) (ha : a.size ≤ 1000000000) (hb : b.size ≤ 1000000000) :
    Calls Tryz.prog 133 #[.string a, .string b] w fun e w' => e = .returned (.int .i64 (wrongL a.data.toList b.data.toList)) ∧ w = w' := by
  have HW : Hid (wrongL a.data.toList b.data.toList = if rightL a.data.toList = false ∨ rightL b.data.toList = false then 3 else if 4096 < a.size ∨ 4096 < b.size then 4 else 0) := by
    show _ = _; rw [wrongL, len_of, len_of]
  cases h1 : rightL a.data.toList
  · rw [h1] at HW
    go_enter Tryz.func133, Tryz.ntmps133
    go_wp2_with (go_at_call 76; refine (natRight_eq _ _ (by omega)).mono ?_; rintro e w' ⟨rfl, rfl⟩)
    go_ret
    exact ⟨ret_int (by rw [HW.out]; simp), rfl⟩
  cases h2 : rightL b.data.toList
  · rw [h2] at HW
    go_enter Tryz.func133, Tryz.ntmps133
    go_wp2_with (go_at_call 76; refine (natRight_eq _ _ (by omega)).mono ?_; rintro e w' ⟨rfl, rfl⟩)
    go_ret
    exact ⟨ret_int (by rw [HW.out]; simp), rfl⟩
  rw [h1, h2] at HW
  by_cases h3 : 4096 < a.size
  · go_enter Tryz.func133, Tryz.ntmps133
    go_wp2_with (go_at_call 76; refine (natRight_eq _ _ (by omega)).mono ?_; rintro e w' ⟨rfl, rfl⟩)
    go_ret
    exact ⟨ret_int (by rw [HW.out]; simp [h3]), rfl⟩
  by_cases h4 : 4096 < b.size
  · go_enter Tryz.func133, Tryz.ntmps133
    go_wp2_with (go_at_call 76; refine (natRight_eq _ _ (by omega)).mono ?_; rintro e w' ⟨rfl, rfl⟩)
    go_ret
    exact ⟨ret_int (by rw [HW.out]; simp [h4]), rfl⟩
  · go_enter Tryz.func133, Tryz.ntmps133
    go_wp2_with (go_at_call 76; refine (natRight_eq _ _ (by omega)).mono ?_; rintro e w' ⟨rfl, rfl⟩)
    go_ret
    exact ⟨ret_int (by rw [HW.out]; simp [h3, h4]), rfl⟩
theorem check_hid (a b : ByteArray) (x : Int) (hx : Hid (wrongL a.data.toList b.data.toList = x)) (w : World) (ha : a.size ≤ 1000000000) (hb : b.size ≤ 1000000000) :
    Calls Tryz.prog 133 #[.string a, .string b] w fun e w' => e = .returned (.int .i64 x) ∧ w = w' := by
  have := check_any a b w ha hb
  rwa [hx.out] at this
theorem check_num (u v : Nat) (w : World) (hu : (num u).size ≤ 4096) (hv : (num v).size ≤ 4096) :
    Calls Tryz.prog 133 #[.string (num u), .string (num v)] w fun e w' => e = .returned (.int .i64 0) ∧ w = w' := by
  refine check_hid _ _ 0 ?_ w (by omega) (by omega)
  show wrongL _ _ = _
  rw [wrongL, num_data, num_data, right_num, right_num, ← num_data, ← num_data, len_of, len_of, if_neg (by simp), if_neg (by omega)]

theorem sized_ok (s : ByteArray) (w : World) (hs : s.size ≤ 4096) :
    Calls Tryz.prog 167 #[.string s] w fun e w' => e = .returned (.tuple #[.string s, .int .i64 0]) ∧ w = w' := by
  go_enter Tryz.func167, Tryz.ntmps167
  go_wp2_with fail
  go_ret2
  exact ⟨rfl, rfl⟩
theorem sized_over (s : ByteArray) (w : World) (hs : 4096 < s.size) :
    Calls Tryz.prog 167 #[.string s] w fun e w' => e = .returned (.tuple #[.string ⟨#[]⟩, .int .i64 4]) ∧ w = w' := by
  go_enter Tryz.func167, Tryz.ntmps167
  go_wp2_with fail
  go_ret2
  exact ⟨rfl, rfl⟩

end Go.Proofs.YthamlnolfagpiaaGreatDoor

namespace Go.Proofs.YthamlnolfagpiaaGreatDoor
open Go.RowKit

theorem keep_of {P : Program} {f : FuncId} {args : Array Value} {w : World} {v : Ending} (h : Calls P f args w fun e w' => e = v ∧ w = w') : Calls P f args w fun e w' => e = v ∧ Below w.heap.size w w' :=
  h.mono fun _ _ ⟨he, hw⟩ => ⟨he, by subst hw; exact Below.refl _ _⟩
theorem limbs_len (u K : Nat) (h : (num u).size ≤ K) : (limbs u).length ≤ K := by
  apply limbs_le
  rw [bp_ten]
  have h1 := lt_nd u
  rw [num_size] at h
  exact Nat.lt_of_lt_of_le h1 (Nat.pow_le_pow_right (by omega) (by show (Lib.decDigits u).length ≤ 9 * K; omega))
theorem parse_num (u : Nat) (w : World) (hL : (num u).size ≤ 100000) :
    Calls Tryz.prog 136 #[.string (num u)] w fun e w' => ∃ g cap, e = .returned (.slice (some ⟨g, 0, none⟩) (limbs u).length cap) ∧ Rw w' g cap (limbs u) ∧ w.heap.size ≤ g ∧ Below w.heap.size w w' := parse_str u _ rfl w hL
theorem format_any (n g cap : Nat) (w : World) (h : Rw w g cap (limbs n)) (ht : Tab w) (hl : (limbs n).length ≤ 1000000) :
    Calls Tryz.prog 134 #[.slice (some ⟨g, 0, none⟩) (limbs n).length cap] w fun e w' => e = .returned (.string (num n)) ∧ Below w.heap.size w w' := by
  rcases Nat.eq_zero_or_pos n with e | hp
  · subst e
    rw [limbs_zero]
    exact keep_of (format_zero _ _ _)
  · exact format_pos n hp g cap w h ht hl
theorem sum_num (u v gx cx gy cy : Nat) (w : World) (hx : Rw w gx cx (limbs u)) (hy : Rw w gy cy (limbs v)) (hu : (limbs u).length ≤ 1000000) (hv : (limbs v).length ≤ 1000000) :
    Calls Tryz.prog 185 #[.slice (some ⟨gx, 0, none⟩) (limbs u).length cx, .slice (some ⟨gy, 0, none⟩) (limbs v).length cy] w fun e w' => ∃ g cap, e = .returned (.slice (some ⟨g, 0, none⟩) (limbs (u + v)).length cap) ∧ Rw w' g cap (limbs (u + v)) ∧ w.heap.size ≤ g ∧ Below w.heap.size w w' := by
  have := sum_any gx cx gy cy _ _ (limbs_lo u) (limbs_lo v) w hx hy hu hv
  rwa [limbs_val, limbs_val] at this
theorem mul_num (u v gx cx gy cy : Nat) (w : World) (hx : Rw w gx cx (limbs u)) (hy : Rw w gy cy (limbs v)) (hu : (limbs u).length ≤ 1000000) (hv : (limbs v).length ≤ 1000000) :
    Calls Tryz.prog 168 #[.slice (some ⟨gx, 0, none⟩) (limbs u).length cx, .slice (some ⟨gy, 0, none⟩) (limbs v).length cy] w fun e w' => ∃ g cap, e = .returned (.slice (some ⟨g, 0, none⟩) (limbs (u * v)).length cap) ∧ Rw w' g cap (limbs (u * v)) ∧ w.heap.size ≤ g ∧ Below w.heap.size w w' := by
  have := mul_any gx cx gy cy _ _ (limbs_lo u) (limbs_lo v) w hx hy hu hv
  rwa [limbs_val, limbs_val] at this
theorem dif_num (u v gx cx gy cy : Nat) (w : World) (hx : Rw w gx cx (limbs u)) (hy : Rw w gy cy (limbs v)) (hu : (limbs u).length ≤ 1000000) (h : v ≤ u) :
    Calls Tryz.prog 186 #[.slice (some ⟨gx, 0, none⟩) (limbs u).length cx, .slice (some ⟨gy, 0, none⟩) (limbs v).length cy] w fun e w' => ∃ g cap, e = .returned (.slice (some ⟨g, 0, none⟩) (limbs (u - v)).length cap) ∧ Rw w' g cap (limbs (u - v)) ∧ w.heap.size ≤ g ∧ Below w.heap.size w w' := by
  have := dif_any gx cx gy cy _ _ (limbs_lo u) (limbs_lo v) w hx hy hu (limbs_le (Nat.lt_of_le_of_lt h (limbs_lt u))) (by rw [limbs_val, limbs_val]; exact h)
  rwa [limbs_val, limbs_val] at this

theorem natRight_any (s : ByteArray) (w : World) (hs : s.size ≤ 1000000000) :
    Calls Tryz.prog 76 #[.string s] w fun e w' => e = .returned (.bool (rightL s.data.toList)) ∧ Below w.heap.size w w' := keep_of (natRight_eq s w hs)
theorem natCompare_bad (a b : ByteArray) (w : World) (ha : a.size ≤ 1000000000) (hb : b.size ≤ 1000000000) (h : rightL a.data.toList = false ∨ rightL b.data.toList = false) :
    Calls Tryz.prog 123 #[.string a, .string b] w fun e w' => e = .returned (.int .i64 0) ∧ Below w.heap.size w w' := keep_of (cmp_bad a b w ha hb h)
theorem natCompare_num (u v : Nat) (w : World) (ha : (num u).size ≤ 1000000000) (hb : (num v).size ≤ 1000000000) :
    Calls Tryz.prog 123 #[.string (num u), .string (num v)] w fun e w' => e = .returned (.int .i64 (cmpN u v)) ∧ Below w.heap.size w w' := keep_of (cmp_num u v w ha hb)

theorem natAdd_bad (a b : ByteArray) (x : Int) (hx : Hid (wrongL a.data.toList b.data.toList = x)) (hx0 : (x != 0) = true) (w : World) (ha : a.size ≤ 1000000000) (hb : b.size ≤ 1000000000) :
    Calls Tryz.prog 165 #[.string a, .string b] w fun e w' => e = .returned (.tuple #[.string ⟨#[]⟩, .int .i64 x]) ∧ Below w.heap.size w w' := by
  go_enter Tryz.func165, Tryz.ntmps165
  go_wp2_with fail
  refine (check_hid a b x hx _ ha hb).mono ?_
  rintro e w' ⟨rfl, rfl⟩
  go_wp2_with fail
  go_ret2
  exact ⟨rfl, Below.refl _ _⟩
set_option maxHeartbeats 400000 in
theorem natAdd_num (u v : Nat) (w : World) (hu : (num u).size ≤ 4096) (hv : (num v).size ≤ 4096) (h : (num (u + v)).size ≤ 4096) (ht : Tab w) :
    Calls Tryz.prog 165 #[.string (num u), .string (num v)] w fun e w' => e = .returned (.tuple #[.string (num (u + v)), .int .i64 0]) ∧ Below w.heap.size w w' := by
  have hlu := Nat.le_trans (limbs_len u 4096 hu) (show 4096 ≤ 1000000 by omega)
  have hlv := Nat.le_trans (limbs_len v 4096 hv) (show 4096 ≤ 1000000 by omega)
  have hlen : (limbs (u + v)).length ≤ 1000000 := Nat.le_trans (limbs_len _ 4097 (by rw [num_size] at *; exact nd_add u v 4096 hu hv)) (by omega)
  go_enter Tryz.func165, Tryz.ntmps165
  go_wp2_with fail
  refine (check_num u v _ hu hv).mono ?_
  rintro e w' ⟨rfl, rfl⟩
  go_wp2_with fail
  refine (parse_num u _ (by omega)).mono ?_
  rintro e w1 ⟨gx, cx, rfl, hx, hgx, b1⟩
  have t1 := ht.below (Nat.le_refl _) b1
  go_wp2_with fail
  refine (parse_num v _ (by omega)).mono ?_
  rintro e w2 ⟨gy, cy, rfl, hy, hgy, b2⟩
  have t2 := t1.below (Nat.le_refl _) b2
  have hx2 := hx.below b2 hx.lt
  have B2 := b1.trans (b2.mono b1.size)
  clear b1 b2 t1 hx
  go_wp2_with fail
  refine (sum_num u v gx cx gy cy _ hx2 hy hlu hlv).mono ?_
  rintro e w3 ⟨gz, cz, rfl, hz, hgz, b3⟩
  have t3 := t2.below (Nat.le_refl _) b3
  have B3 := B2.trans (b3.mono B2.size)
  clear B2 b3 t2 hx2 hy
  go_wp2_with fail
  refine (format_any (u + v) gz cz _ hz t3 hlen).mono ?_
  rintro e w4 ⟨rfl, b4⟩
  have B4 := B3.trans (b4.mono B3.size)
  clear B3 b4 t3 hz
  go_wp2_with fail
  refine (sized_ok _ _ h).mono ?_
  rintro e w' ⟨rfl, rfl⟩
  go_wp2_with fail
  go_ret2
  exact ⟨rfl, B4⟩
set_option maxHeartbeats 400000 in
theorem natAdd_over (u v : Nat) (w : World) (hu : (num u).size ≤ 4096) (hv : (num v).size ≤ 4096) (h : 4096 < (num (u + v)).size) (ht : Tab w) :
    Calls Tryz.prog 165 #[.string (num u), .string (num v)] w fun e w' => e = .returned (.tuple #[.string ⟨#[]⟩, .int .i64 4]) ∧ Below w.heap.size w w' := by
  have hlu := Nat.le_trans (limbs_len u 4096 hu) (show 4096 ≤ 1000000 by omega)
  have hlv := Nat.le_trans (limbs_len v 4096 hv) (show 4096 ≤ 1000000 by omega)
  have hlen : (limbs (u + v)).length ≤ 1000000 := Nat.le_trans (limbs_len _ 4097 (by rw [num_size] at *; exact nd_add u v 4096 hu hv)) (by omega)
  go_enter Tryz.func165, Tryz.ntmps165
  go_wp2_with fail
  refine (check_num u v _ hu hv).mono ?_
  rintro e w' ⟨rfl, rfl⟩
  go_wp2_with fail
  refine (parse_num u _ (by omega)).mono ?_
  rintro e w1 ⟨gx, cx, rfl, hx, hgx, b1⟩
  have t1 := ht.below (Nat.le_refl _) b1
  go_wp2_with fail
  refine (parse_num v _ (by omega)).mono ?_
  rintro e w2 ⟨gy, cy, rfl, hy, hgy, b2⟩
  have t2 := t1.below (Nat.le_refl _) b2
  have hx2 := hx.below b2 hx.lt
  have B2 := b1.trans (b2.mono b1.size)
  clear b1 b2 t1 hx
  go_wp2_with fail
  refine (sum_num u v gx cx gy cy _ hx2 hy hlu hlv).mono ?_
  rintro e w3 ⟨gz, cz, rfl, hz, hgz, b3⟩
  have t3 := t2.below (Nat.le_refl _) b3
  have B3 := B2.trans (b3.mono B2.size)
  clear B2 b3 t2 hx2 hy
  go_wp2_with fail
  refine (format_any (u + v) gz cz _ hz t3 hlen).mono ?_
  rintro e w4 ⟨rfl, b4⟩
  have B4 := B3.trans (b4.mono B3.size)
  clear B3 b4 t3 hz
  go_wp2_with fail
  refine (sized_over _ _ h).mono ?_
  rintro e w' ⟨rfl, rfl⟩
  go_wp2_with fail
  go_ret2
  exact ⟨rfl, B4⟩
theorem cmp_c (u v : Nat) (c : Int) (hc : Hid (cmpN u v = c)) (w : World) (ha : (num u).size ≤ 1000000000) (hb : (num v).size ≤ 1000000000) :
    Calls Tryz.prog 123 #[.string (num u), .string (num v)] w fun e w' => e = .returned (.int .i64 c) ∧ w = w' := by
  have := cmp_num u v w ha hb
  rwa [hc.out] at this
theorem natSub_bad (a b : ByteArray) (x : Int) (hx : Hid (wrongL a.data.toList b.data.toList = x)) (hx0 : (x != 0) = true) (w : World) (ha : a.size ≤ 1000000000) (hb : b.size ≤ 1000000000) :
    Calls Tryz.prog 166 #[.string a, .string b] w fun e w' => e = .returned (.tuple #[.string ⟨#[]⟩, .int .i64 x]) ∧ Below w.heap.size w w' := by
  go_enter Tryz.func166, Tryz.ntmps166
  go_wp2_with fail
  refine (check_hid a b x hx _ ha hb).mono ?_
  rintro e w' ⟨rfl, rfl⟩
  go_wp2_with fail
  go_ret2
  exact ⟨rfl, Below.refl _ _⟩
set_option maxHeartbeats 400000 in
theorem natSub_num (u v : Nat) (huv : v ≤ u) (w : World) (hu : (num u).size ≤ 4096) (hv : (num v).size ≤ 4096) (ht : Tab w) :
    Calls Tryz.prog 166 #[.string (num u), .string (num v)] w fun e w' => e = .returned (.tuple #[.string (num (u - v)), .int .i64 0]) ∧ Below w.heap.size w w' := by
  have h : (num (u - v)).size ≤ 4096 := Nat.le_trans (by rw [num_size, num_size]; exact nd_mono (Nat.sub_le u v)) hu
  have hc0 : 0 ≤ cmpN u v := by unfold cmpN; split; (omega); split <;> omega
  obtain ⟨c, hc⟩ : ∃ c, cmpN u v = c := ⟨_, rfl⟩
  rw [hc] at hc0
  have HC := Lib.hid hc
  clear hc
  have hlu := Nat.le_trans (limbs_len u 4096 hu) (show 4096 ≤ 1000000 by omega)
  have hlv := Nat.le_trans (limbs_len v 4096 hv) (show 4096 ≤ 1000000 by omega)
  have hlen : (limbs (u - v)).length ≤ 1000000 := Nat.le_trans (limbs_len _ 4096 h) (by omega)
  go_enter Tryz.func166, Tryz.ntmps166
  go_wp2_with fail
  refine (check_num u v _ hu hv).mono ?_
  rintro e w' ⟨rfl, rfl⟩
  go_wp2_with fail
  refine (cmp_c u v c HC _ (by omega) (by omega)).mono ?_
  rintro e w' ⟨rfl, rfl⟩
  go_wp2_with fail
  refine (parse_num u _ (by omega)).mono ?_
  rintro e w1 ⟨gx, cx, rfl, hx, hgx, b1⟩
  have t1 := ht.below (Nat.le_refl _) b1
  go_wp2_with fail
  refine (parse_num v _ (by omega)).mono ?_
  rintro e w2 ⟨gy, cy, rfl, hy, hgy, b2⟩
  have t2 := t1.below (Nat.le_refl _) b2
  have hx2 := hx.below b2 hx.lt
  have B2 := b1.trans (b2.mono b1.size)
  clear b1 b2 t1 hx
  go_wp2_with fail
  refine (dif_num u v gx cx gy cy _ hx2 hy hlu huv).mono ?_
  rintro e w3 ⟨gz, cz, rfl, hz, hgz, b3⟩
  have t3 := t2.below (Nat.le_refl _) b3
  have B3 := B2.trans (b3.mono B2.size)
  clear B2 b3 t2 hx2 hy
  go_wp2_with fail
  refine (format_any (u - v) gz cz _ hz t3 hlen).mono ?_
  rintro e w4 ⟨rfl, b4⟩
  have B4 := B3.trans (b4.mono B3.size)
  clear B3 b4 t3 hz
  go_wp2_with fail
  refine (sized_ok _ _ h).mono ?_
  rintro e w' ⟨rfl, rfl⟩
  go_wp2_with fail
  go_ret2
  exact ⟨rfl, B4⟩
theorem natSub_less (u v : Nat) (huv : u < v) (w : World) (hu : (num u).size ≤ 4096) (hv : (num v).size ≤ 4096) :
    Calls Tryz.prog 166 #[.string (num u), .string (num v)] w fun e w' => e = .returned (.tuple #[.string ⟨#[]⟩, .int .i64 2]) ∧ Below w.heap.size w w' := by
  have HC : Hid (cmpN u v = -1) := by show _ = _; rw [cmpN, if_pos huv]
  go_enter Tryz.func166, Tryz.ntmps166
  go_wp2_with fail
  refine (check_num u v _ hu hv).mono ?_
  rintro e w' ⟨rfl, rfl⟩
  go_wp2_with fail
  refine (cmp_c u v (-1) HC _ (by omega) (by omega)).mono ?_
  rintro e w' ⟨rfl, rfl⟩
  go_wp2_with fail
  go_ret2
  exact ⟨rfl, Below.refl _ _⟩
theorem natMul_bad (a b : ByteArray) (x : Int) (hx : Hid (wrongL a.data.toList b.data.toList = x)) (hx0 : (x != 0) = true) (w : World) (ha : a.size ≤ 1000000000) (hb : b.size ≤ 1000000000) :
    Calls Tryz.prog 140 #[.string a, .string b] w fun e w' => e = .returned (.tuple #[.string ⟨#[]⟩, .int .i64 x]) ∧ Below w.heap.size w w' := by
  go_enter Tryz.func140, Tryz.ntmps140
  go_wp2_with fail
  refine (check_hid a b x hx _ ha hb).mono ?_
  rintro e w' ⟨rfl, rfl⟩
  go_wp2_with fail
  go_ret2
  exact ⟨rfl, Below.refl _ _⟩
set_option maxHeartbeats 400000 in
theorem natMul_num (u v : Nat) (w : World) (hu : (num u).size ≤ 4096) (hv : (num v).size ≤ 4096) (h : (num (u * v)).size ≤ 4096) (ht : Tab w) :
    Calls Tryz.prog 140 #[.string (num u), .string (num v)] w fun e w' => e = .returned (.tuple #[.string (num (u * v)), .int .i64 0]) ∧ Below w.heap.size w w' := by
  have hlu := Nat.le_trans (limbs_len u 4096 hu) (show 4096 ≤ 1000000 by omega)
  have hlv := Nat.le_trans (limbs_len v 4096 hv) (show 4096 ≤ 1000000 by omega)
  have hlen : (limbs (u * v)).length ≤ 1000000 := Nat.le_trans (limbs_len _ 8192 (by rw [num_size] at *; exact nd_mul u v 4096 4096 hu hv)) (by omega)
  go_enter Tryz.func140, Tryz.ntmps140
  go_wp2_with fail
  refine (check_num u v _ hu hv).mono ?_
  rintro e w' ⟨rfl, rfl⟩
  go_wp2_with fail
  refine (parse_num u _ (by omega)).mono ?_
  rintro e w1 ⟨gx, cx, rfl, hx, hgx, b1⟩
  have t1 := ht.below (Nat.le_refl _) b1
  go_wp2_with fail
  refine (parse_num v _ (by omega)).mono ?_
  rintro e w2 ⟨gy, cy, rfl, hy, hgy, b2⟩
  have t2 := t1.below (Nat.le_refl _) b2
  have hx2 := hx.below b2 hx.lt
  have B2 := b1.trans (b2.mono b1.size)
  clear b1 b2 t1 hx
  go_wp2_with fail
  refine (mul_num u v gx cx gy cy _ hx2 hy hlu hlv).mono ?_
  rintro e w3 ⟨gz, cz, rfl, hz, hgz, b3⟩
  have t3 := t2.below (Nat.le_refl _) b3
  have B3 := B2.trans (b3.mono B2.size)
  clear B2 b3 t2 hx2 hy
  go_wp2_with fail
  refine (format_any (u * v) gz cz _ hz t3 hlen).mono ?_
  rintro e w4 ⟨rfl, b4⟩
  have B4 := B3.trans (b4.mono B3.size)
  clear B3 b4 t3 hz
  go_wp2_with fail
  refine (sized_ok _ _ h).mono ?_
  rintro e w' ⟨rfl, rfl⟩
  go_wp2_with fail
  go_ret2
  exact ⟨rfl, B4⟩
set_option maxHeartbeats 400000 in
theorem natMul_over (u v : Nat) (w : World) (hu : (num u).size ≤ 4096) (hv : (num v).size ≤ 4096) (h : 4096 < (num (u * v)).size) (ht : Tab w) :
    Calls Tryz.prog 140 #[.string (num u), .string (num v)] w fun e w' => e = .returned (.tuple #[.string ⟨#[]⟩, .int .i64 4]) ∧ Below w.heap.size w w' := by
  have hlu := Nat.le_trans (limbs_len u 4096 hu) (show 4096 ≤ 1000000 by omega)
  have hlv := Nat.le_trans (limbs_len v 4096 hv) (show 4096 ≤ 1000000 by omega)
  have hlen : (limbs (u * v)).length ≤ 1000000 := Nat.le_trans (limbs_len _ 8192 (by rw [num_size] at *; exact nd_mul u v 4096 4096 hu hv)) (by omega)
  go_enter Tryz.func140, Tryz.ntmps140
  go_wp2_with fail
  refine (check_num u v _ hu hv).mono ?_
  rintro e w' ⟨rfl, rfl⟩
  go_wp2_with fail
  refine (parse_num u _ (by omega)).mono ?_
  rintro e w1 ⟨gx, cx, rfl, hx, hgx, b1⟩
  have t1 := ht.below (Nat.le_refl _) b1
  go_wp2_with fail
  refine (parse_num v _ (by omega)).mono ?_
  rintro e w2 ⟨gy, cy, rfl, hy, hgy, b2⟩
  have t2 := t1.below (Nat.le_refl _) b2
  have hx2 := hx.below b2 hx.lt
  have B2 := b1.trans (b2.mono b1.size)
  clear b1 b2 t1 hx
  go_wp2_with fail
  refine (mul_num u v gx cx gy cy _ hx2 hy hlu hlv).mono ?_
  rintro e w3 ⟨gz, cz, rfl, hz, hgz, b3⟩
  have t3 := t2.below (Nat.le_refl _) b3
  have B3 := B2.trans (b3.mono B2.size)
  clear B2 b3 t2 hx2 hy
  go_wp2_with fail
  refine (format_any (u * v) gz cz _ hz t3 hlen).mono ?_
  rintro e w4 ⟨rfl, b4⟩
  have B4 := B3.trans (b4.mono B3.size)
  clear B3 b4 t3 hz
  go_wp2_with fail
  refine (sized_over _ _ h).mono ?_
  rintro e w' ⟨rfl, rfl⟩
  go_wp2_with fail
  go_ret2
  exact ⟨rfl, B4⟩

end Go.Proofs.YthamlnolfagpiaaGreatDoor

