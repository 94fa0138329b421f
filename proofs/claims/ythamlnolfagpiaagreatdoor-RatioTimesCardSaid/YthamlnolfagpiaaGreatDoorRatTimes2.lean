/-
  DERIVED. The walk of ratio's Times.
-/
import Derived.Test.YthamlnolfagpiaaGreatDoorRatTimes
namespace Go.Proofs.YthamlnolfagpiaaGreatDoor.D
open Go.RowKit
set_option maxRecDepth 8000

theorem Fw.put0 {w : World} {P m : Nat} {ρ : Nat → Rat} (h : Fw w P m 0 ρ) (q0 q1 q2 q3 : Nat) (a b c d : Value) :
    Fw ((((w.setCell ⟨P, q0, none⟩ a).setCell ⟨P, q1, none⟩ b).setCell ⟨P, q2, none⟩ c).setCell ⟨P, q3, none⟩ d) P m 0 ρ := by
  obtain ⟨cs, h1, h2, _⟩ := h
  exact ⟨_, (((h1.set q0 a).set q1 b).set q2 c).set q3 d, by simp [h2], fun j hj => by omega⟩
theorem Fw.alloc {w : World} {P m k : Nat} {ρ : Nat → Rat} (h : Fw w P m k ρ) (o : Obj) : Fw (w.alloc o) P m k ρ := h.under ((Below.refl _ w).alloc (Nat.le_refl _) o)

theorem rTimes_len (u v : Value) (m n : Nat) (z : Nat → Int) (S : Nat → ByteArray) (hmn : m ≠ n) (_hm : m ≤ 12) (_hn : n ≤ 12) (w : World) (_ht : Tab w) (hu : SlV w u m (Vi z)) (hv : SlV w v n (Vs S)) :
    Calls Tryz.prog 36 #[u, v] w fun e w' => e = .returned (.tuple #[.string ⟨#[]⟩, .int .i64 2]) ∧ Below w.heap.size w w' := by
  have h1 : (((m : Int) == (n : Int)) = false) := bneI hmn
  obtain ⟨oa, c, rfl, _⟩ := hu
  obtain ⟨ob, d, rfl, _⟩ := hv
  go_enter Tryz.func36, Tryz.ntmps36
  go_wp2_with fail
  go_ret2
  exact ⟨rfl, Below.refl _ _⟩

set_option maxHeartbeats 4000000 in
theorem rTimes_bad (u v : Value) (n i0 : Nat) (hi0 : i0 < n) (hn : n ≤ 12) (z : Nat → Int) (S : Nat → ByteArray) (hS : ∀ i, i < n → (S i).size ≤ 100) (h : rightR (S i0).data.toList = false) (w : World) (ht : Tab w) (hu : SlV w u n (Vi z)) (hv : SlV w v n (Vs S)) :
    Calls Tryz.prog 36 #[u, v] w fun e w' => e = .returned (.tuple #[.string ⟨#[]⟩, .int .i64 3]) ∧ Below w.heap.size w w' := by
  obtain ⟨oa, c, rfl, _⟩ := hu
  obtain ⟨ob, d, rfl, hb⟩ := hv
  have HB := Lib.hid hb
  have HS := Lib.hid hS
  have HI := Lib.hid h
  obtain ⟨i1, hi, hz0, hz1, hz2⟩ := infoF'
  clear hb hS h
  go_enter Tryz.func36, Tryz.ntmps36
  go_wp2_with (at_make; refine wpList_make_full _ rfl _ _ 83 rfl 0 48 i1 (.agg #[.int .i64 0, .string ⟨#[]⟩, .int .i64 0, .string ⟨#[]⟩]) 4 Tryz.underlying83 hi hz0 hz1 _ _ _ _ n rfl rfl ?e1 ?e2 ?e3 ?e4 (Nat.zero_le _) ?_)
  case e1 => omega
  case e2 => omega
  case e3 => rw [hz2]; omega
  case e4 => unfold maxLen; omega
  intro w1 hown hgrow
  have b1 : Below w.heap.size w w1 := (Below.refl _ _).grown hgrow (Nat.le_refl _) (fun k hk => by cases hk)
  obtain ⟨cs, hbk, hcs⟩ := owns_bk hown
  have FW : Hid (Fw w1 w.heap.size n 0 (fun _ => 0)) := ⟨cs, hbk, hcs, fun j hj => by omega⟩
  clear hown hgrow hbk hcs hi hz0 hz1 hz2
  go_wp2_with fail
  go_loopw [20] (fun i wr => ∃ k : Nat, k ≤ n ∧ i = .int .i64 k ∧ Hid (∀ j, j < k → rightR (S j).data.toList = true) ∧ Hid (Fw wr w.heap.size n 0 (fun _ => 0)) ∧ Below w.heap.size w wr) (fun i _ => n - (intOf i).toNat)
  case atStart => exact ⟨0, Nat.zero_le _, rfl, fun j hj => by omega, FW, b1⟩
  case round =>
    clear FW b1
    obtain ⟨k, hk, rfl, HR, FW, hbl⟩ := hrel
    have hbs := hbl.size
    by_cases hlt : k < n
    · obtain ⟨b, rfl, hbb, hcb⟩ := HB.out k hlt
      have hc := (hbl.cell (p := b.add k) (by rw [add_block]; exact hbb)).trans hcb
      unfold Vs at hc
      have hsk := HS.out k hlt
      cases hr : rightR (S k).data.toList
      · have TP := Lib.hid (fun w ht => parse_bad (S k) hr (by omega) w ht)
        clear hr hcb
        go_wp2_with fail
        refine (TP.out _ (ht.over hbl)).mono ?_
        rintro e w2 ⟨rfl, b2⟩
        have B2 := Below.over hbl b2
        have k2 := B2.size
        go_wp2_with fail
        go_ret2
        exact ⟨rfl, by go_grown⟩
      · have HR2 : Hid (∀ j, j < k + 1 → rightR (S j).data.toList = true) := fun j hj => by
          by_cases e : j = k
          · rw [e]; exact hr
          · exact HR.out j (by omega)
        obtain ⟨r, hr9, hsr⟩ := rightR_str (S k) hr
        have TP := Lib.hid (fun w ht => parse_r r hr9 w ht)
        rw [hsr] at hc
        clear hr hcb hsr hsk
        go_wp2_with fail
        refine (TP.out _ (ht.over hbl)).mono ?_
        rintro e w2 ⟨s8, l8, s9, l9, rfl, _, _, b2⟩
        have B2 := Below.over hbl b2
        have k2 := B2.size
        have kf := (FW.out.under b2).lt
        have fw0 := FW.out.under b2
        obtain ⟨⟨u0, hu0⟩, f0⟩ := fw0.cell (k * 4) (by omega)
        obtain ⟨⟨u1, hu1⟩, f1⟩ := fw0.cell (k * 4 + 1) (by omega)
        obtain ⟨⟨u2, hu2⟩, f2⟩ := fw0.cell (k * 4 + 2) (by omega)
        obtain ⟨⟨u3, hu3⟩, f3⟩ := fw0.cell (k * 4 + 3) (by omega)
        have FWx := Lib.hid fw0
        clear fw0 FW b2
        go_wp2_with fail
        go_round
        case rel => exact ⟨k + 1, by omega, by go_num, HR2, Lib.hid (Fw.alloc (FWx.out.put0 _ _ _ _ _ _ _ _) _), by go_grown⟩
        case measure => simp [intOf]; omega
    · exfalso
      have := HR.out i0 (by omega)
      rw [HI.out] at this
      cases this

set_option maxHeartbeats 4000000 in
theorem rTimes_ok (u v : Value) (n : Nat) (hn : n ≤ 12) (z : Nat → Int) (ρ : Nat → Rat) (hz : ∀ i, i < n → -9223372036854775808 ≤ z i ∧ z i ≤ 9223372036854775807) (hρ : ∀ i, i < n → Sz 100 (ρ i)) (w : World) (ht : Tab w) (hu : SlV w u n (Vi z)) (hv : SlV w v n (Vs fun i => rtx (ρ i))) :
    Calls Tryz.prog 36 #[u, v] w fun e w' => e = .returned (.tuple #[.string (rtx (sumR z ρ n)), .int .i64 0]) ∧ Below w.heap.size w w' := by
  have HU := Lib.hid hu
  obtain ⟨oa, c, rfl, _⟩ := hu
  obtain ⟨ob, d, rfl, hb⟩ := hv
  have HB := Lib.hid hb
  have HZ := Lib.hid hz
  have HP := Lib.hid hρ
  obtain ⟨i1, hi, hz0, hz1, hz2⟩ := infoF'
  clear hb hz hρ
  go_enter Tryz.func36, Tryz.ntmps36
  go_wp2_with (at_make; refine wpList_make_full _ rfl _ _ 83 rfl 0 48 i1 (.agg #[.int .i64 0, .string ⟨#[]⟩, .int .i64 0, .string ⟨#[]⟩]) 4 Tryz.underlying83 hi hz0 hz1 _ _ _ _ n rfl rfl ?e1 ?e2 ?e3 ?e4 (Nat.zero_le _) ?_)
  case e1 => omega
  case e2 => omega
  case e3 => rw [hz2]; omega
  case e4 => unfold maxLen; omega
  intro w1 hown hgrow
  have b1 : Below w.heap.size w w1 := (Below.refl _ _).grown hgrow (Nat.le_refl _) (fun k hk => by cases hk)
  obtain ⟨cs, hbk, hcs⟩ := owns_bk hown
  have FW : Hid (Fw w1 w.heap.size n 0 ρ) := ⟨cs, hbk, hcs, fun j hj => by omega⟩
  clear hown hgrow hbk hcs hi hz0 hz1 hz2
  go_wp2_with fail
  go_loopw [20] (fun i wr => ∃ k : Nat, k ≤ n ∧ i = .int .i64 k ∧ Hid (Fw wr w.heap.size n k ρ) ∧ Below w.heap.size w wr) (fun i _ => n - (intOf i).toNat)
  case atStart => exact ⟨0, Nat.zero_le _, rfl, FW, b1⟩
  case round =>
    clear FW b1
    obtain ⟨k, hk, rfl, FW, hbl⟩ := hrel
    have hbs := hbl.size
    by_cases hlt : k < n
    · obtain ⟨b, rfl, hbb, hcb⟩ := HB.out k hlt
      have hc := (hbl.cell (p := b.add k) (by rw [add_block]; exact hbb)).trans hcb
      unfold Vs at hc
      have TP := Lib.hid (fun w ht => parse_r (ρ k) (sz_mono (HP.out k hlt) (by omega)) w ht)
      clear hcb
      go_wp2_with fail
      refine (TP.out _ (ht.over hbl)).mono ?_
      rintro e w2 ⟨s8, l8, s9, l9, rfl, j1, j2, b2⟩
      have B2 := Below.over hbl b2
      have k2 := B2.size
      have kf := (FW.out.under b2).lt
      have fw0 := FW.out.under b2
      obtain ⟨⟨u0, hu0⟩, f0⟩ := fw0.cell (k * 4) (by omega)
      obtain ⟨⟨u1, hu1⟩, f1⟩ := fw0.cell (k * 4 + 1) (by omega)
      obtain ⟨⟨u2, hu2⟩, f2⟩ := fw0.cell (k * 4 + 2) (by omega)
      obtain ⟨⟨u3, hu3⟩, f3⟩ := fw0.cell (k * 4 + 3) (by omega)
      have FWx := Lib.hid fw0
      have HJ : Hid (RpF (ρ k) s8 l8 s9 l9) := ⟨j1, j2⟩
      clear fw0 FW b2 j1 j2
      go_wp2_with fail
      go_round
      case rel => exact ⟨k + 1, by omega, by go_num, Lib.hid (Fw.alloc (FWx.out.step hlt HJ.out) _), by go_grown⟩
      case measure => simp [intOf]; omega
    · have hk' : k = n := by omega
      subst hk'
      have TS := Lib.hid (sp_z _ w.heap.size k k z ρ hn HZ.out HP.out _ (ht.over hbl) (SlV.below HU.out hbl) FW.out)
      go_wp2_with fail
      refine TS.out.mono ?_
      rintro e w2 ⟨t1, k1, t2, k2, rfl, ⟨j1, j2⟩, b2⟩
      have B2 := Below.over hbl b2
      clear TS
      go_wp2_with fail
      refine (result_z t1 t2 k1 k2 _ j1 j2 _ (ht.over B2)).mono ?_
      rintro e w3 ⟨rfl, b3⟩
      go_wp2_with fail
      go_ret2
      exact ⟨rfl, Below.over B2 b3⟩

end Go.Proofs.YthamlnolfagpiaaGreatDoor.D

