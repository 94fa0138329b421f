/-
  DERIVED. The walk of lorryref04's Times.
-/
import Derived.Test.YthamlnolfagpiaaGreatDoorRatPure2
import Derived.Deep.LoopGhost
import Derived.BigRegion
import Derived.Deep.RegionWith
namespace Go.Proofs.YthamlnolfagpiaaGreatDoor.D
open Go.RowKit
set_option maxRecDepth 8000

/-- a slice of n one-cell elements V -/
def SlV (w : World) (v : Value) (n : Nat) (V : Nat → Value) : Prop :=
  ∃ (oa : Option Addr) (c : Nat), v = .slice oa n c ∧ ∀ i, i < n → ∃ a : Addr, oa = some a ∧ a.block < w.heap.size ∧ w.cell? (a.add i) = some (V i)
theorem add_block (a : Addr) (i : Nat) : (a.add i).block = a.block := by unfold Addr.add; split <;> rfl
theorem SlV.below {w w' : World} {v : Value} {n : Nat} {V : Nat → Value} (h : SlV w v n V) (hb : Below w.heap.size w w') : SlV w' v n V := by
  obtain ⟨oa, c, hv, h⟩ := h
  refine ⟨oa, c, hv, fun i hi => ?_⟩
  obtain ⟨a, ha, hl, hc⟩ := h i hi
  exact ⟨a, ha, Nat.lt_of_lt_of_le hl hb.size, (hb.cell (by rw [add_block]; exact hl)).trans hc⟩
def Vs (S : Nat → ByteArray) (i : Nat) : Value := .string (S i)
def Vi (z : Nat → Int) (i : Nat) : Value := .int .i64 (z i)
/-- the sum of the first k products -/
def sumR (z : Nat → Int) (ρ : Nat → Rat) : Nat → Rat
  | 0 => 0
  | k + 1 => sumR z ρ k + (z k : Rat) * ρ k
theorem sz_sumR (z : Nat → Int) (ρ : Nat → Rat) (n : Nat) (hz : ∀ i, i < n → -9223372036854775808 ≤ z i ∧ z i ≤ 9223372036854775807) (hρ : ∀ i, i < n → Sz 100 (ρ i)) : ∀ k, k ≤ n → Sz (1 + 121 * k) (sumR z ρ k)
  | 0, _ => sz_zero (by omega)
  | k + 1, hk => by
    have h1 := sz_sumR z ρ n hz hρ k (by omega)
    have h2 := hz k (by omega)
    have h3 : Sz 20 ((z k : Int) : Rat) := sz_int (Nat.le_trans (nd_le _ 18 (by omega)) (by omega)) (by omega)
    exact sz_mono (sz_add h1 (sz_mul h3 (hρ k (by omega)))) (by omega)
theorem sz_term {z : Int} {r : Rat} (hz : -9223372036854775808 ≤ z ∧ z ≤ 9223372036854775807) (hr : Sz 100 r) : Sz 20 ((z : Int) : Rat) ∧ Sz 120 ((z : Rat) * r) := by
  have h3 : Sz 20 ((z : Int) : Rat) := sz_int (Nat.le_trans (nd_le _ 18 (by omega)) (by omega)) (by omega)
  exact ⟨h3, sz_mul h3 hr⟩

theorem times4_len (u v : Value) (m n : Nat) (V U : Nat → Value) (hmn : m ≠ n) (_hm : m ≤ 1000) (_hn : n ≤ 1000) (w : World) (hu : SlV w u m U) (hv : SlV w v n V) :
    Calls Tryz.prog 37 #[u, v] w fun e w' => e = .returned (.tuple #[.string ⟨#[]⟩, .int .i64 2]) ∧ Below w.heap.size w w' := by
  have h1 : (((m : Int) == (n : Int)) = false) := bneI hmn
  obtain ⟨oa, c, rfl, _⟩ := hu
  obtain ⟨ob, d, rfl, _⟩ := hv
  go_enter Tryz.func37, Tryz.ntmps37
  go_wp2_with fail
  go_ret2
  exact ⟨rfl, Below.refl _ _⟩

set_option maxHeartbeats 800000 in
theorem times4_bad (u v : Value) (n i0 : Nat) (hi0 : i0 < n) (hn : n ≤ 1000) (S : Nat → ByteArray) (U : Nat → Value) (hS : ∀ i, i < n → (S i).size ≤ 4000) (h : rightR (S i0).data.toList = false) (w : World) (hu : SlV w u n U) (hv : SlV w v n (Vs S)) :
    Calls Tryz.prog 37 #[u, v] w fun e w' => e = .returned (.tuple #[.string ⟨#[]⟩, .int .i64 3]) ∧ Below w.heap.size w w' := by
  obtain ⟨oa, c, rfl, _⟩ := hu
  obtain ⟨ob, d, rfl, hb⟩ := hv
  have HB := Lib.hid hb
  have HS := Lib.hid hS
  have HI := Lib.hid h
  clear hb hS h
  go_enter Tryz.func37, Tryz.ntmps37
  go_wp2_with fail
  go_loopw [6] (fun i wr => ∃ k : Nat, k ≤ n ∧ i = .int .i64 k ∧ Hid (∀ j, j < k → rightR (S j).data.toList = true) ∧ Below w.heap.size w wr) (fun i _ => n - (intOf i).toNat)
  case atStart => exact ⟨0, Nat.zero_le _, rfl, fun j hj => by omega, Below.refl _ _⟩
  case round =>
    obtain ⟨k, hk, rfl, HR, hbl⟩ := hrel
    have hbs := hbl.size
    by_cases hlt : k < n
    · obtain ⟨b, rfl, hbb, hcb⟩ := HB.out k hlt
      have hc := (hbl.cell (p := b.add k) (by rw [add_block]; exact hbb)).trans hcb
      unfold Vs at hc
      have hsk := HS.out k hlt
      cases hr : rightR (S k).data.toList
      · have HQ := Lib.hid hr
        clear hr hcb
        go_wp2_with fail
        refine (right4_e _ false HQ hsk _).mono ?_
        rintro e w1 ⟨rfl, b1⟩
        have B1 := over4 hbl b1
        go_wp2_with fail
        go_ret2
        exact ⟨rfl, B1⟩
      · have HQ := Lib.hid hr
        have HR2 : Hid (∀ j, j < k + 1 → rightR (S j).data.toList = true) := fun j hj => by
          by_cases e : j = k
          · rw [e]; exact hr
          · exact HR.out j (by omega)
        clear hr hcb
        go_wp2_with fail
        refine (right4_e _ true HQ hsk _).mono ?_
        rintro e w1 ⟨rfl, b1⟩
        have B1 := over4 hbl b1
        go_wp2_with fail
        go_round
        case rel => exact ⟨k + 1, by omega, by go_num, HR2, B1⟩
        case measure => simp [intOf]; omega
    · exfalso
      have := HR.out i0 (by omega)
      rw [HI.out] at this
      cases this

set_option maxHeartbeats 2000000 in
theorem times4_ok (u v : Value) (n : Nat) (hn : n ≤ 12) (z : Nat → Int) (ρ : Nat → Rat) (hz : ∀ i, i < n → -9223372036854775808 ≤ z i ∧ z i ≤ 9223372036854775807) (hρ : ∀ i, i < n → Sz 100 (ρ i)) (w : World) (hu : SlV w u n (Vi z)) (hv : SlV w v n (Vs fun i => rtx (ρ i))) :
    Calls Tryz.prog 37 #[u, v] w fun e w' => e = .returned (.tuple #[.string (rtx (sumR z ρ n)), .int .i64 0]) ∧ Below w.heap.size w w' := by
  obtain ⟨oa, c, rfl, ha⟩ := hu
  obtain ⟨ob, d, rfl, hb⟩ := hv
  have HA := Lib.hid ha
  have HB := Lib.hid hb
  have HZ := Lib.hid hz
  have HP := Lib.hid hρ
  have HSZ := Lib.hid (sz_sumR z ρ n hz hρ)
  clear ha hb hz hρ
  go_enter Tryz.func37, Tryz.ntmps37
  go_wp2_with fail
  go_loopw [6] (fun i wr => ∃ k : Nat, k ≤ n ∧ i = .int .i64 k ∧ Below w.heap.size w wr) (fun i _ => n - (intOf i).toNat)
  case atStart => exact ⟨0, Nat.zero_le _, rfl, Below.refl _ _⟩
  case round =>
    obtain ⟨k, hk, rfl, hbl⟩ := hrel
    have hbs := hbl.size
    by_cases hlt : k < n
    · obtain ⟨b, rfl, hbb, hcb⟩ := HB.out k hlt
      have hc := (hbl.cell (p := b.add k) (by rw [add_block]; exact hbb)).trans hcb
      unfold Vs at hc
      have hp := HP.out k hlt
      have hsk : (rtx (ρ k)).size ≤ 4000 := sz_text (sz_mono hp (by omega))
      have HQ : Hid (rightR (rtx (ρ k)).data.toList = true) := sz_fit (sz_mono hp (by omega))
      clear hcb hp
      go_wp2_with fail
      refine (right4_e _ true HQ hsk _).mono ?_
      rintro e w1 ⟨rfl, b1⟩
      have B1 := over4 hbl b1
      go_wp2_with fail
      go_round
      case rel => exact ⟨k + 1, by omega, by go_num, B1⟩
      case measure => simp [intOf]; omega
    · have hk' : k = n := by omega
      subst hk'
      go_wp2_with fail
      have e0 : (⟨#[48]⟩ : ByteArray) = rtx (sumR z ρ 0) := rtx_zero.symm
      go_loopw [7, 8] (fun sv i wr => ∃ j : Nat, j ≤ k ∧ i = .int .i64 j ∧ sv = .string (rtx (sumR z ρ j)) ∧ Below w.heap.size w wr) (fun _ i _ => k - (intOf i).toNat)
      case atStart => exact ⟨0, Nat.zero_le _, rfl, by rw [e0], hbl⟩
      case round =>
        clear e0 hbl hbs
        obtain ⟨j, hj, rfl, rfl, hbl⟩ := hrel
        have hbs := hbl.size
        by_cases hlt2 : j < k
        · obtain ⟨a, rfl, hab, hca0⟩ := HA.out j hlt2
          obtain ⟨b, rfl, hbb, hcb0⟩ := HB.out j hlt2
          have hca := (hbl.cell (p := a.add j) (by rw [add_block]; exact hab)).trans hca0
          have hcb := (hbl.cell (p := b.add j) (by rw [add_block]; exact hbb)).trans hcb0
          have hbl2 : (b.add j).block < wr.drew.heap.size := Nat.lt_of_lt_of_le (by rw [add_block]; exact hbb) hbs
          unfold Vs at hcb
          unfold Vi at hca
          have hcd : wr.drew.cell? (b.add j) = some (.string (rtx (ρ j))) := hcb
          have hzj := HZ.out j hlt2
          obtain ⟨t1, t2⟩ := sz_term hzj (HP.out j hlt2)
          have HO := Lib.hid (fun w => of4 (z j) hzj.1 hzj.2 w)
          have HM := Lib.hid (fun w => mul4_r ((z j : Int) : Rat) (ρ j) (sz_mono t1 (by omega)) (sz_mono (HP.out j hlt2) (by omega)) w)
          have HAD := Lib.hid (fun w => add4_r (sumR z ρ j) ((z j : Rat) * ρ j) (sz_mono (HSZ.out j (by omega)) (by omega)) (sz_mono t2 (by omega)) w)
          have HE : Hid (sumR z ρ j + (z j : Rat) * ρ j = sumR z ρ (j + 1)) := rfl
          have HI : Hid (rtx ((z j : Int) : Rat) = inum (z j)) := rtx_int _
          clear t1 t2 hca0 hcb0 hzj
          go_upto_region 12 with fail
          go_region_with (first
            | (go_at_call 35; with_reducible refine (HO.out _).mono ?_; rintro e wo ⟨rfl, bo⟩; have hco := (bo.cell (p := b.add j) hbl2).trans hcd)
            | (go_at_call 29; rw [← HI.out]; with_reducible refine (HM.out _).mono ?_; rintro e wm ⟨rfl, bm⟩))
          all_goals
            have Bm := over4 (over4 hbl.drew bo) bm
            go_wp2_with fail
            refine (HAD.out _).mono ?_
            rintro e wa ⟨rfl, ba⟩
            have Ba := over4 Bm ba
            rw [HE.out]
            go_wp2_with fail
            go_round
            case rel => exact ⟨j + 1, by omega, by go_num, rfl, Ba⟩
            case measure => simp [intOf]; omega
        · have hj' : j = k := by omega
          subst hj'
          go_wp2_with fail
          go_ret2
          exact ⟨rfl, hbl⟩

end Go.Proofs.YthamlnolfagpiaaGreatDoor.D

