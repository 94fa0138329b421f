/-
  DERIVED. The walk of format.
-/
import Derived.Test.YtgpjfgakhncdnaaDoorNatFmt
import Derived.Laws.MakeOwn
import Derived.Deep.CutRange
namespace Go.Proofs.YtgpjfgakhncdnaaDoor
open Go.RowKit

theorem make_bytes (n : Nat) (hn : n ≤ 1000000) (W : World) :
    (Instr.makeSlice 33 (.int .i64 0) (.int .i64 ((n : Int) * 9))).run Tryd.prog W = .ok (.slice (some ⟨W.heap.size, 0, none⟩) 0 (n * 9)) (W.alloc (.cells (madeCells #[.int .u8 0] (n * 9)) 5)) := by
  obtain ⟨i0, hi, hz0, hz1, hz2⟩ := info5'
  have hr := run_make (P := Tryd.prog) W 33 5 i0 (.int .u8 0) Tryd.underlying33 hi hz0 .i64 .i64 0 ((n : Int) * 9) (by omega) (by omega) (by rw [hz2]; omega) (by omega)
  rw [hr, hz1, show ((n : Int) * 9).toNat = n * 9 by omega, Nat.mul_one]
  rfl

theorem format_zero (a : Option Addr) (cap : Nat) (w : World) :
    Calls Tryd.prog 28 #[.slice a 0 cap] w fun e w' => e = .returned (.string (num 0)) ∧ w = w' := by
  have h0 : num 0 = ⟨#[48]⟩ := by rw [num, Lib.decDigits_one (by omega)]; rfl
  have H0 := Lib.hid h0
  clear h0
  go_enter Tryd.func28, Tryd.ntmps28
  go_wp2
  go_ret
  exact ⟨congrArg (fun s => Ending.returned (.string s)) H0.out.symm, rfl⟩

set_option maxHeartbeats 2000000 in
theorem format_pos (u : Nat) (hu : 0 < u) (g cap : Nat) (w : World) (h : Rw w g cap (limbs u)) (ht : Tab w) (hl : (limbs u).length ≤ 1000000) :
    Calls Tryd.prog 28 #[.slice (some ⟨g, 0, none⟩) (limbs u).length cap] w fun e w' => e = .returned (.string (num u)) ∧ Below w.heap.size w w' := by
  have hlo := limbs_lo u
  have hval := limbs_val u
  have htop := limbs_topj u
  have h0 : 0 < (limbs u).length := by
    rcases Nat.eq_zero_or_pos (limbs u).length with e | e
    · rw [limbs_len0] at e; omega
    · exact e
  generalize limbs u = l at *
  have hg := h.lt
  have HR := Lib.hid h
  have HT := Lib.hid ht
  have HLO := Lib.hid hlo
  have HV := Lib.hid hval
  clear h ht hlo hval
  obtain ⟨t, hn⟩ : ∃ t, l.length = t + 1 := ⟨l.length - 1, by omega⟩
  have hc := HR.out.cell t (by omega)
  have hx9 := lo_getD HLO.out t
  have hx0 := htop t hn
  have HD : Hid (val (l.drop t) = l.getD t 0) := top_drop l t hn
  clear htop h0
  generalize l.getD t 0 = x at *
  rw [hn] at hl
  have HN := Lib.hid hn
  clear hn
  have hmk := make_bytes (t + 1) (by omega)
  have e1 : ((t + 1 : Nat) : Int) = (t : Int) + 1 := by omega
  rw [e1] at hmk
  have hw1 : IntKind.i64.wrap (((t : Int) + 1) * 9) = ((t : Int) + 1) * 9 := IntWalk.i64_in _ (by omega)
  have hrow : (w.alloc (.cells (madeCells #[.int .u8 0] ((t + 1) * 9)) 5)).ownsRow w.heap.size 5 1 (.slice (some ⟨w.heap.size, 0, none⟩) 0 ((t + 1) * 9)) 0 [] :=
    World.ownsRow_made w _ _ (Nat.le_refl _) (by unfold maxLen; omega) (by rw [size_madeCells, Nat.mul_one])
  have hbe : Below w.heap.size w (w.alloc (.cells (madeCells #[.int .u8 0] ((t + 1) * 9)) 5)).drew := ((Below.refl _ w).alloc (Nat.le_refl _) _).drew
  have HROW := Lib.hid (hrow.drew)
  have HTAB := Lib.hid (HT.out.below (Nat.le_refl _) hbe)
  have HBE := Lib.hid hbe
  have hsz0 := hbe.size
  clear hrow hbe
  have hx64 : x < 18446744073709551616 := by omega
  rw [HN.out]
  go_enter Tryd.func28, Tryd.ntmps28
  go_upto_region 4 with fail
  go_cut [4] from 12 to 20 (fun v wx => wx.ownsRow w.heap.size 5 1 v (Lib.decDigits x).length (Lib.byteCells (Lib.decDigits x)) ∧ Below w.heap.size w wx)
  case first =>
    go_region_with (go_at_call 44; refine (appendUint_any w.heap.size 0 x hx64 _ [] _ HROW.out hsz0 (Nat.zero_le _) HTAB.out).mono ?_; rintro e w1 ⟨v1, rfl, ho1, b1⟩)
    all_goals
      rw [Nat.zero_add, List.nil_append] at ho1
      go_wp2_with fail
      go_meet
      exact ⟨ho1, HBE.out.trans b1⟩
  obtain ⟨ho1, hb1⟩ := hcut
  have HB1 := Lib.hid hb1
  have hl9 : (Lib.decDigits x).length ≤ 9 := dec_len9 x hx9
  clear hmk hb1
  go_wp2_with fail
  go_loopw [4, 5] (fun v i wr => ∃ (k nb : Nat), i = .int .i64 ((k : Int) - 1) ∧ k ≤ t ∧ nb + 9 * k ≤ 9 * (t + 1) ∧ Hid ((Lib.decDigits (val (l.drop k))).length = nb) ∧ wr.ownsRow w.heap.size 5 1 v nb (Lib.byteCells (Lib.decDigits (val (l.drop k)))) ∧ 0 < val (l.drop k) ∧ Below w.heap.size w wr) (fun _ i _ => (intOf i + 1).toNat)
  case atStart => exact ⟨t, (Lib.decDigits x).length, rfl, Nat.le_refl _, by omega, by show _ = _; rw [HD.out], by rw [HD.out]; exact ho1, by rw [HD.out]; exact hx0, HB1.out⟩
  case round =>
    clear ho1
    obtain ⟨k, nb, rfl, hk, hnb, HNB, hown, hpos, hb⟩ := hrel
    match k, hk, hnb, HNB, hown, hpos with
    | 0, hk, hnb, HNB, hown, hpos =>
      have hcv := own_string hown
      have HE : Hid ((⟨(Lib.decDigits (val (l.drop 0))).toArray⟩ : ByteArray) = num u) := by show _ = _; rw [List.drop_zero, HV.out]; rfl
      generalize (⟨(Lib.decDigits (val (l.drop 0))).toArray⟩ : ByteArray) = res at *
      clear hown hpos HNB
      go_wp2
      go_ret
      exact ⟨ret_str HE.out, hb⟩
    | j + 1, hk, hnb, HNB, hown, hpos =>
      have hcj := (HR.out.below hb hg).cell j (by rw [HN.out]; omega)
      have hy9 := lo_getD HLO.out j
      have HF := Lib.hid (fmt_step l j HLO.out (by rw [HN.out]; omega) hpos)
      have hpos2 := drop_pos l j (by rw [HN.out]; omega) hpos
      generalize l.getD j 0 = y at *
      have hBw : w.heap.size ≤ wr.heap.size := hb.size
      have HOW := Lib.hid hown
      have HP := Lib.hid hpos
      clear hown hpos
      go_wp2_with (go_at_call 45; refine (appendGroup_any w.heap.size nb y hy9 _ _ _ HOW.out hBw (by omega)).mono ?_; rintro e w2 ⟨v2, rfl, ho2, b2⟩)
      have HB2 := Lib.hid (hb.trans b2)
      have HO2 : Hid (w2.ownsRow w.heap.size 5 1 v2 (nb + 9) (Lib.byteCells (Lib.decDigits (val (l.drop j))))) := by
        show World.ownsRow _ _ _ _ _ _ _
        rw [HF.out, Lib.byteCells_append]; exact ho2
      have HN2 : Hid ((Lib.decDigits (val (l.drop j))).length = nb + 9) := by show _ = _; rw [HF.out, List.length_append, HNB.out, padL_len]
      clear ho2 b2 hb
      go_wp2
      go_roundw
      case rel => (repeat apply Exists.intro); exact ⟨⟨j, nb + 9, by go_num, by omega, by omega, HN2, HO2.out, hpos2, HB2.out⟩, rfl⟩
      case measure => simp [intOf]

end Go.Proofs.YtgpjfgakhncdnaaDoor
