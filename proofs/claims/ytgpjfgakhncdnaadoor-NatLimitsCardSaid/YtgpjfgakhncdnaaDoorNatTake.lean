/-
  DERIVED. The walks of takeTimes and putBack.
-/
import Derived.Test.YtgpjfgakhncdnaaDoorNatMul
import Derived.Test.YtgpjfgakhncdnaaDoorPureDiv
namespace Go.Proofs.YtgpjfgakhncdnaaDoor
open Go.RowKit

/-- what takeTimes leaves: Q times the power bp o is taken from l; 'false': a power of the base is left over -/
def TkPost (g cap o n : Nat) (l : List Nat) (Q : Nat) (w : World) (e : Ending) (w' : World) : Prop :=
  ∃ (ok : Bool) (l' : List Nat), e = .returned (.bool ok) ∧ Rw w' g cap l' ∧ lo l' ∧ OnlyIn o (o + n + 1) l l' ∧ val l' + bp o * Q = val l + bp (o + n + 1) * (if ok then 0 else 1) ∧ w.grownBy w' (some g)
/-- what putBack leaves: Y times the power bp o is added to l; 'true': the power of the base that was left over has gone -/
def PbPost (g cap o n : Nat) (l : List Nat) (Y : Nat) (w : World) (e : Ending) (w' : World) : Prop :=
  ∃ (ok : Bool) (l' : List Nat), e = .returned (.bool ok) ∧ Rw w' g cap l' ∧ lo l' ∧ OnlyIn o (o + n + 1) l l' ∧ val l' + bp (o + n + 1) * (if ok then 1 else 0) = val l + bp o * Y ∧ w.grownBy w' (some g)

set_option maxHeartbeats 2000000 in
theorem takeTimes_any (g cap o c0 gy cy n q : Nat) (l ly : List Nat) (hlo : lo l) (hly : lo ly) (w : World) (hx : Rw w g cap l) (hy : Rw w gy cy ly) (hne : gy ≠ g) (hq : q < 1000000000) (hn : ly.length = n) (hl : o + n + 1 ≤ l.length) (hn9 : n ≤ 1000000) (hc0 : n + 1 ≤ c0) :
    Calls Tryd.prog 49 #[.slice (some ⟨g, o, none⟩) (n + 1) c0, .slice (some ⟨gy, 0, none⟩) n cy, .int .u64 q] w fun e w' => TkPost g cap o n l (q * val ly) w e w' := by
  have HX := Lib.hid hx
  have HY := Lib.hid hy
  have HLX := Lib.hid hlo
  have HLY := Lib.hid hly
  have HN := Lib.hid hn
  have HL := Lib.hid hl
  clear hx hy hlo hly hn hl
  go_enter Tryd.func49, Tryd.ntmps49
  go_wp2
  go_loopw [7, 13] (fun c i wr => ∃ (j cn : Nat) (lz : List Nat), j ≤ n ∧ i = .int .i64 j ∧ c = .int .u64 cn ∧ cn ≤ 1000000000 ∧ Hid (Rw wr g cap lz) ∧ Hid (lo lz) ∧ Hid (OnlyIn o (o + j) l lz) ∧ Hid (val lz + bp o * (q * val (ly.take j)) = val l + bp (o + j) * cn) ∧ Hid (w.grownBy wr (some g))) (fun _ i _ => n - (intOf i).toNat)
  case atStart => exact ⟨0, 0, l, Nat.zero_le _, rfl, rfl, by omega, HX, HLX, OnlyIn.refl o l, by show _ = _; simp [val_nil], only_refl w _⟩
  case round =>
    obtain ⟨j, cn, lz, hj, rfl, rfl, hcn, HZ, HLO, HO, HV, hb⟩ := hrel
    have HLN : Hid (lz.length = l.length) := HO.out.1
    by_cases hlt : j < n
    · have hcy := (HY.out.only hb.out (by simpa using hne)).cell j (by rw [HN.out]; exact hlt)
      have hy9 := lo_getD HLY.out j
      have HTY : Hid (val (ly.take (j + 1)) = val (ly.take j) + bp j * ly.getD j 0) := val_take_succ ly j (by rw [HN.out]; exact hlt)
      generalize ly.getD j 0 = y at *
      have hk : Hid (o + j < lz.length) := by show _ < _; rw [HLN.out]; have := HL.out; omega
      have hcz := HZ.out.cell (o + j) hk.out
      have hfz := HZ.out.frozen (o + j)
      have hz9 := lo_getD HLO.out (o + j)
      have HZZ := Lib.hid (Eq.refl (lz.getD (o + j) 0))
      generalize hzz : lz.getD (o + j) 0 = x at *
      have HZZ := Lib.hid hzz
      clear hzz
      have hqy := mul_le9 hq hy9
      obtain ⟨p, hp⟩ : ∃ p, p = q * y := ⟨_, rfl⟩
      obtain ⟨r, hr⟩ : ∃ r, r = (cn + p) % 1000000000 := ⟨_, rfl⟩
      obtain ⟨d, hd⟩ : ∃ d, d = (cn + p) / 1000000000 := ⟨_, rfl⟩
      rw [← hp] at hqy
      have hr9 : r < 1000000000 := by omega
      have hd9 : d < 1000000000 := by omega
      have hw1 : IntKind.u64.wrap ((q : Int) * (y : Int)) = (p : Int) := by
        rw [show (q : Int) * (y : Int) = ((q * y : Nat) : Int) by push_cast; rfl, ← hp]
        exact IntWalk.u64_in _ (by omega)
      have hw2 : IntKind.u64.wrap ((cn : Int) + (p : Int)) = (cn : Int) + (p : Int) := IntWalk.u64_in _ (by omega)
      have hw3 : ((cn : Int) + (p : Int)).tmod 1000000000 = (r : Int) := by
        rw [show (cn : Int) + (p : Int) = ((cn + p : Nat) : Int) by push_cast; rfl, hr]; rfl
      have hw4 : IntKind.u64.wrap (((cn : Int) + (p : Int)).tdiv 1000000000) = (d : Int) := by
        rw [show ((cn : Int) + (p : Int)).tdiv 1000000000 = (d : Int) by rw [show (cn : Int) + (p : Int) = ((cn + p : Nat) : Int) by push_cast; rfl, hd]; rfl]
        exact IntWalk.u64_in _ (by omega)
      have HS : Hid (r + 1000000000 * d = cn + q * y) := by show _ = _; rw [← hp]; omega
      clear hp hr hd hqy hy9
      by_cases ht : (x : Int) < (r : Int)
      · have HV2 := Lib.hid (tk_round lz o j q y cn x r d 1 (x + 1000000000 - r) _ _ hk.out HZZ.out HS.out (by omega) HV.out)
        have hcz2 : (wr.setCell ⟨g, o + j, none⟩ (.int .u64 ((x : Int) + 1000000000))).cell? ⟨g, o + j, none⟩ = some (.int .u64 ((x : Int) + 1000000000)) := by
          have h := (HZ.out.storeI (o + j) (x + 1000000000) (z := (x : Int) + 1000000000) (by omega)).cell (o + j) (by rw [List.length_set]; exact hk.out)
          rw [h, set_getD _ _ _ hk.out]; rfl
        have hfz2 := (HZ.out.storeI (o + j) (x + 1000000000) (z := (x : Int) + 1000000000) (by omega)).frozen (o + j)
        go_wp2
        go_roundw
        case rel => exact ⟨j + 1, d + 1, lz.set (o + j) (x + 1000000000 - r), by omega, by go_num, by go_num, by omega, ((HZ.out.storeI (o + j) (x + 1000000000) (by omega)).storeI (o + j) (x + 1000000000 - r) (by omega)).ext (by rw [List.set_set]), lo_set HLO.out _ _ (by omega), HO.out.set (by omega) _, by show _ = _; rw [HTY.out]; exact HV2.out, only_set (only_set hb.out _ _) _ _⟩
        case measure => simp [intOf]; omega
      · have HV2 := Lib.hid (tk_round lz o j q y cn x r d 0 (x - r) _ _ hk.out HZZ.out HS.out (by omega) HV.out)
        go_wp2
        go_roundw
        case rel => exact ⟨j + 1, d, lz.set (o + j) (x - r), by omega, by go_num, rfl, by omega, HZ.out.storeI (o + j) _ (by omega), lo_set HLO.out _ _ (by omega), HO.out.set (by omega) _, by show _ = _; rw [HTY.out]; exact HV2.out, only_set hb.out _ _⟩
        case measure => simp [intOf]; omega
    · have hj' : j = n := by omega
      subst hj'
      have hk : Hid (o + j < lz.length) := by show _ < _; rw [HLN.out]; have := HL.out; omega
      have hcz := HZ.out.cell (o + j) hk.out
      have hfz := HZ.out.frozen (o + j)
      have hz9 := lo_getD HLO.out (o + j)
      generalize hzz : lz.getD (o + j) 0 = x at *
      have HZZ := Lib.hid hzz
      clear hzz
      have HVY : Hid (val lz + bp o * (q * val ly) = val l + bp (o + j) * cn) := by
        have h := HV.out; rw [val_take_all ly j (by rw [HN.out]; exact Nat.le_refl _)] at h; exact h
      by_cases ht : (x : Int) < (cn : Int)
      · have HV2 := Lib.hid (tk_top lz o j cn x 1 (x + (1000000000 - cn)) _ _ hk.out HZZ.out (by omega) HVY.out)
        go_wp2
        go_ret
        exact ⟨false, _, rfl, HZ.out.storeI (o + j) (x + (1000000000 - cn)) (by omega), lo_set HLO.out _ _ (by omega), HO.out.set (by omega) _, HV2.out, only_set hb.out _ _⟩
      · have HV2 := Lib.hid (tk_top lz o j cn x 0 (x - cn) _ _ hk.out HZZ.out (by omega) HVY.out)
        go_wp2
        go_ret
        exact ⟨true, _, rfl, HZ.out.storeI (o + j) (x - cn) (by omega), lo_set HLO.out _ _ (by omega), HO.out.set (by omega) _, HV2.out, only_set hb.out _ _⟩

set_option maxHeartbeats 2000000 in
theorem putBack_any (g cap o c0 gy cy n : Nat) (l ly : List Nat) (hlo : lo l) (hly : lo ly) (w : World) (hx : Rw w g cap l) (hy : Rw w gy cy ly) (hne : gy ≠ g) (hn : ly.length = n) (hl : o + n + 1 ≤ l.length) (hn9 : n ≤ 1000000) (hc0 : n + 1 ≤ c0) :
    Calls Tryd.prog 50 #[.slice (some ⟨g, o, none⟩) (n + 1) c0, .slice (some ⟨gy, 0, none⟩) n cy] w fun e w' => PbPost g cap o n l (val ly) w e w' := by
  have HX := Lib.hid hx
  have HY := Lib.hid hy
  have HLX := Lib.hid hlo
  have HLY := Lib.hid hly
  have HN := Lib.hid hn
  have HL := Lib.hid hl
  clear hx hy hlo hly hn hl
  go_enter Tryd.func50, Tryd.ntmps50
  go_wp2
  go_loopw [5, 10] (fun c i wr => ∃ (j cn : Nat) (lz : List Nat), j ≤ n ∧ i = .int .i64 j ∧ c = .int .u64 cn ∧ cn ≤ 1 ∧ Hid (Rw wr g cap lz) ∧ Hid (lo lz) ∧ Hid (OnlyIn o (o + j) l lz) ∧ Hid (val lz + bp (o + j) * cn = val l + bp o * val (ly.take j)) ∧ Hid (w.grownBy wr (some g))) (fun _ i _ => n - (intOf i).toNat)
  case atStart => exact ⟨0, 0, l, Nat.zero_le _, rfl, rfl, by omega, HX, HLX, OnlyIn.refl o l, by show _ = _; simp [val_nil], only_refl w _⟩
  case round =>
    obtain ⟨j, cn, lz, hj, rfl, rfl, hcn, HZ, HLO, HO, HV, hb⟩ := hrel
    have HLN : Hid (lz.length = l.length) := HO.out.1
    have hk : Hid (o + j < lz.length) := by show _ < _; rw [HLN.out]; have := HL.out; omega
    have hcz := HZ.out.cell (o + j) hk.out
    have hfz := HZ.out.frozen (o + j)
    have hz9 := lo_getD HLO.out (o + j)
    generalize hzz : lz.getD (o + j) 0 = x at *
    have HZZ := Lib.hid hzz
    clear hzz
    by_cases hlt : j < n
    · have hcy := (HY.out.only hb.out (by simpa using hne)).cell j (by rw [HN.out]; exact hlt)
      have hy9 := lo_getD HLY.out j
      have HTY : Hid (val (ly.take (j + 1)) = val (ly.take j) + bp j * ly.getD j 0) := val_take_succ ly j (by rw [HN.out]; exact hlt)
      generalize ly.getD j 0 = y at *
      have HV2 := Lib.hid (pb_round lz o j y cn x (cn + (x + y)) _ _ hk.out HZZ.out rfl HV.out)
      go_wp2_with fail
      go_quiet (fail)
      go_wp2
      go_roundw
      case rel => exact ⟨j + 1, (cn + (x + y)) / 1000000000, lz.set (o + j) ((cn + (x + y)) % 1000000000), by omega, by go_num, by go_num, by omega, (HZ.out.drewN _).storeI (o + j) _ (by omega), lo_set HLO.out _ _ (by omega), HO.out.set (by omega) _, by show _ = _; rw [HTY.out]; exact HV2.out, only_set (only_drewN hb.out _) _ _⟩
      case measure => simp [intOf]; omega
    · have hj' : j = n := by omega
      subst hj'
      have HVY : Hid (val lz + bp (o + j) * cn = val l + bp o * val ly) := by
        have h := HV.out; rw [val_take_all ly j (by rw [HN.out]; exact Nat.le_refl _)] at h; exact h
      have HV2 := Lib.hid (pb_top lz o j cn x (cn + x) _ _ hk.out HZZ.out rfl HVY.out)
      by_cases ht : (1000000000 : Int) ≤ (cn : Int) + (x : Int)
      · have HD : Hid ((cn + x) / 1000000000 = 1) := by show _ = _; omega
        go_wp2
        go_ret
        refine ⟨true, _, ?_, HZ.out.storeI (o + j) ((cn + x) % 1000000000) (by omega), lo_set HLO.out _ _ (by omega), HO.out.set (by omega) _, ?_, only_set hb.out _ _⟩
        · exact ret_bool (by simp <;> omega)
        · have h := HV2.out; rw [HD.out] at h; exact h
      · have HD : Hid ((cn + x) / 1000000000 = 0) := by show _ = _; omega
        go_wp2
        go_ret
        refine ⟨false, _, ?_, HZ.out.storeI (o + j) ((cn + x) % 1000000000) (by omega), lo_set HLO.out _ _ (by omega), HO.out.set (by omega) _, ?_, only_set hb.out _ _⟩
        · exact ret_bool (by simp <;> omega)
        · have h := HV2.out; rw [HD.out] at h; exact h

end Go.Proofs.YtgpjfgakhncdnaaDoor
