/-
  DERIVED. KPC: a part of the base of layer 13 (made by pack.py).
-/
import Derived.Test.YtaallpebfcadjaaGreatDoorKPB
import Derived.Maps.AppendAt
import Derived.Laws.AppendOwnNone
import Derived.Deep.DeepCutAuto
import Derived.Deep.Cut
import Derived.Deep.CutRange
import Derived.Test.YtaallpebfcadjaaGreatDoorShelf
/-! The walks of the small tests on bytes, and of both functions Name. -/
namespace Go.Proofs.YtaallpebfcadjaaGreatDoor
open Go.RowKit

theorem ret_bool {a b : Bool} (h : a = b) : Ending.returned (.bool a) = .returned (.bool b) := by rw [h]

set_option maxHeartbeats 400000 in
theorem isDigit_any (c : Nat) (w : World) :
    Calls Tryz.prog 125 #[.int .u8 c] w fun e w' => e = .returned (.bool (dig c)) ∧ w = w' := by
  go_enter Tryz.func125, Tryz.ntmps125
  go_wp2
  all_goals
    go_ret
    exact ⟨ret_bool (by rw [Bool.eq_iff_iff]; simp [dig]; omega), rfl⟩

set_option maxHeartbeats 400000 in
theorem isLetter_any (c : Nat) (w : World) :
    Calls Tryz.prog 126 #[.int .u8 c] w fun e w' => e = .returned (.bool (let1 c)) ∧ w = w' := by
  go_enter Tryz.func126, Tryz.ntmps126
  go_wp2
  all_goals
    go_ret
    exact ⟨ret_bool (by rw [Bool.eq_iff_iff]; simp [let1]; omega), rfl⟩

/-- what the walk asks of a string that is not empty -/
theorem isE (s : ByteArray) (h : 0 < s.size) : s.toList.isEmpty = false := by
  rw [ByteArray.toList_eq]; simpa using ne_of s h
theorem notE (s : ByteArray) (h : 0 < s.size) : ¬ s.toList = [] := by
  rw [ByteArray.toList_eq]; exact ne_of s h
set_option maxHeartbeats 400000 in
theorem name_any (s : ByteArray) (w : World) :
    Calls Tryz.prog 95 #[.string s] w fun e w' => e = .returned (.bool (nameB s.data.toList)) ∧ w = w' := by
  by_cases h0 : s.size = 0
  · rw [nameB_no _ (Or.inl (by rw [empty_of s h0]))]
    have hs := empty_of s h0
    subst hs
    go_enter Tryz.func95, Tryz.ntmps95
    go_wp2
    go_ret
    exact ⟨rfl, rfl⟩
  have hpos : 0 < s.size := by omega
  have hE := isE s hpos
  have hE' := notE s hpos
  by_cases h16 : s.size ≤ 16
  · by_cases hd : dig (s[0].toNat) = true
    · have HN : Hid (nameB s.data.toList = false) := nameB_no _ (Or.inr (Or.inr (by rw [head_of s hpos]; exact hd)))
      go_enter Tryz.func95, Tryz.ntmps95
      go_wp2_with (go_at_call 125; refine (isDigit_any _ _).mono ?_; rintro e w' ⟨rfl, rfl⟩)
      go_ret
      exact ⟨ret_bool HN.out.symm, rfl⟩
    have hd : dig (s[0].toNat) = false := by simpa using hd
    have HN : Hid (nameB s.data.toList = s.data.toList.all fun c => nam c.toNat) := nameB_all _ (ne_of s hpos) (by simpa using h16) (by rw [head_of s hpos]; exact hd)
    go_enter Tryz.func95, Tryz.ntmps95
    go_wp2_with (go_at_call 125; refine (isDigit_any _ _).mono ?_; rintro e w' ⟨rfl, rfl⟩)
    go_loop [3] (fun i => ∃ k : Nat, k ≤ s.size ∧ i = .int .i64 k ∧ Hid ((s.data.toList.take k).all (fun c => nam c.toNat) = true)) (fun i => s.size - (intOf i).toNat)
    case atStart => exact ⟨0, Nat.zero_le _, rfl, by rw [List.take_zero]; rfl⟩
    case round =>
      obtain ⟨k, hk, rfl, HA⟩ := hrel
      by_cases hlt : k < s.size
      · go_wp2_with (first | (go_at_call 125; refine (isDigit_any _ _).mono ?_; rintro e w' ⟨rfl, rfl⟩) | (go_at_call 126; refine (isLetter_any _ _).mono ?_; rintro e w' ⟨rfl, rfl⟩))
        all_goals first
          | (have hb := nam4 (c := s[k].toNat) (by assumption) (by assumption) (by assumption)
             go_ret
             exact ⟨ret_bool (by rw [HN.out, all_stop s _ k hlt hb]), rfl⟩)
          | (go_round
             case rel => exact ⟨k + 1, by omega, by go_num, all_step s _ k hlt HA.out (by first | exact nam1 (by assumption) | exact nam2 (by assumption) | exact nam3 (by assumption))⟩
             case measure => simp [intOf]; omega)
      · have hk' : k = s.size := by omega
        subst hk'
        go_wp2
        go_ret
        exact ⟨ret_bool (by rw [HN.out, all_end s _ HA.out]), rfl⟩
  · have HN : Hid (nameB s.data.toList = false) := nameB_no _ (Or.inr (Or.inl (by simp; omega)))
    go_enter Tryz.func95, Tryz.ntmps95
    go_wp2
    go_ret
    exact ⟨ret_bool HN.out.symm, rfl⟩

end Go.Proofs.YtaallpebfcadjaaGreatDoor


/-! The walks of travel: isTick, isTooLong, isPoint, isBefore. -/
namespace Go.Proofs.YtaallpebfcadjaaGreatDoor.T
open Go.RowKit
set_option maxRecDepth 8000

theorem isTick_n (t : Int) (w : World) : Calls Tryz.prog 146 #[.int .i64 t] w fun e w' => e = .returned (.bool (tickB t)) ∧ w = w' := by
  by_cases h1 : 0 ≤ t
  · have HR : Hid (decide (t ≤ 4096) = tickB t) := by show _ = _; unfold tickB; rw [decide_eq_true h1, Bool.true_and]
    generalize tickB t = r at *
    go_enter Tryz.func146, Tryz.ntmps146
    go_wp2_with fail
    go_ret
    exact ⟨ret_bool HR.out, rfl⟩
  · have HR : Hid (false = tickB t) := by show _ = _; unfold tickB; rw [decide_eq_false h1, Bool.false_and]
    have h2 : t < 0 := by omega
    generalize tickB t = r at *
    go_enter Tryz.func146, Tryz.ntmps146
    go_wp2_with fail
    go_ret
    exact ⟨ret_bool HR.out, rfl⟩
theorem isTooLong_n (x y : Int) (h0 : 0 ≤ x) (h1 : x ≤ 4096) (w : World) : Calls Tryz.prog 147 #[.agg #[.int .i64 x, .int .i64 y]] w fun e w' => e = .returned (.bool (longB (x, y))) ∧ Below w.heap.size w w' := by
  have HR : Hid (decide (x + 4096 < y) = longB (x, y)) := rfl
  generalize longB (x, y) = r at *
  go_enter Tryz.func147, Tryz.ntmps147
  go_wp2_with fail
  go_ret
  exact ⟨ret_bool HR.out, by go_grown⟩
theorem isPoint_n (x y : Int) (w : World) : Calls Tryz.prog 140 #[.agg #[.int .i64 x, .int .i64 y]] w fun e w' => e = .returned (.bool (pointB (x, y))) ∧ Below w.heap.size w w' := by
  have K := Lib.hid (fun w => isTick_n x w)
  cases ht : tickB x
  · have HR : Hid (false = pointB (x, y)) := by show _ = _; unfold pointB; rw [show tickB (x, y).1 = false from ht]; rfl
    rw [ht] at K
    generalize pointB (x, y) = r at *
    clear ht
    go_enter Tryz.func140, Tryz.ntmps140
    go_wp2_with fail
    refine (K.out _).mono ?_
    rintro e w1 ⟨rfl, rfl⟩
    go_wp2_with fail
    go_ret
    exact ⟨ret_bool HR.out, by go_grown⟩
  · have hb : 0 ≤ x ∧ x ≤ 4096 := by unfold tickB at ht; simpa using ht
    obtain ⟨hb0, hb1⟩ := hb
    rw [ht] at K
    by_cases h : x ≤ y
    · have HR : Hid ((!longB (x, y)) = pointB (x, y)) := by show _ = _; unfold pointB; rw [show tickB (x, y).1 = true from ht, decide_eq_true h]; rfl
      have L := Lib.hid (fun w => isTooLong_n x y hb0 hb1 w)
      generalize pointB (x, y) = r at *
      generalize longB (x, y) = q at *
      clear ht
      go_enter Tryz.func140, Tryz.ntmps140
      go_wp2_with fail
      refine (K.out _).mono ?_
      rintro e w1 ⟨rfl, rfl⟩
      go_wp2_with fail
      refine (L.out _).mono ?_
      rintro e w1 ⟨rfl, b1⟩
      have B1 := Lib.hid (over (w := w) (by go_grown) b1)
      clear b1
      go_wp2_with fail
      go_ret
      exact ⟨ret_bool HR.out, B1.out⟩
    · have HR : Hid (false = pointB (x, y)) := by show _ = _; unfold pointB; rw [decide_eq_false h, Bool.false_and, Bool.and_false]
      have h2 : y < x := by omega
      generalize pointB (x, y) = r at *
      clear ht
      go_enter Tryz.func140, Tryz.ntmps140
      go_wp2_with fail
      refine (K.out _).mono ?_
      rintro e w1 ⟨rfl, rfl⟩
      go_wp2_with fail
      go_ret
      exact ⟨ret_bool HR.out, by go_grown⟩
theorem isBefore_n (x y x' y' : Int) (w : World) : Calls Tryz.prog 141 #[.agg #[.int .i64 x, .int .i64 y], .agg #[.int .i64 x', .int .i64 y']] w fun e w' => e = .returned (.bool (beforeB (x, y) (x', y'))) ∧ Below w.heap.size w w' := by
  by_cases h : x < x'
  · have HR : Hid (decide (y ≤ y') = beforeB (x, y) (x', y')) := by show _ = _; unfold beforeB; rw [show decide ((x, y).1 < (x', y').1) = true from decide_eq_true h, Bool.true_and]
    generalize beforeB (x, y) (x', y') = r at *
    go_enter Tryz.func141, Tryz.ntmps141
    go_wp2_with fail
    go_ret
    exact ⟨ret_bool HR.out, by go_grown⟩
  · have HR : Hid (false = beforeB (x, y) (x', y')) := by show _ = _; unfold beforeB; rw [show decide ((x, y).1 < (x', y').1) = false from decide_eq_false h, Bool.false_and]
    have h2 : x' ≤ x := by omega
    generalize beforeB (x, y) (x', y') = r at *
    go_enter Tryz.func141, Tryz.ntmps141
    go_wp2_with fail
    go_ret
    exact ⟨ret_bool HR.out, by go_grown⟩

end Go.Proofs.YtaallpebfcadjaaGreatDoor.T


/-! The walks of travel: Check, isTravel. -/
namespace Go.Proofs.YtaallpebfcadjaaGreatDoor.T
open Go.RowKit
set_option maxRecDepth 8000

theorem fl0_yes {n : Nat} (h1 : 1 ≤ n) (h2 : n ≤ 16) : fl0 n = [] := (fl0_nil n).2 ⟨h1, h2⟩
theorem fl0_no {n : Nat} (h : n = 0 ∨ 16 < n) : fl0 n = [(4, ⟨#[]⟩)] := by unfold fl0; rw [if_neg (by omega)]
theorem fl1_yes {p : Int × Int} {i : Nat} (h : pointB p = true) : fl1 p i = [] := (fl1_nil p i).2 h
theorem fl1_no {p : Int × Int} {i : Nat} (h : pointB p = false) : fl1 p i = [(2, dec i)] := by unfold fl1; rw [h]; rfl
theorem fl3_zero (l : List (Int × Int)) : fl3 l 0 = [] := rfl
theorem fl3_yes {l : List (Int × Int)} {j : Nat} (h : beforeB (l.getD j (0, 0)) (l.getD (j + 1) (0, 0)) = true) : fl3 l (j + 1) = [] := (fl2_nil _ _ _).2 h
theorem fl3_no {l : List (Int × Int)} {j : Nat} (h : beforeB (l.getD j (0, 0)) (l.getD (j + 1) (0, 0)) = false) : fl3 l (j + 1) = [(13, dec (j + 1))] := by
  show fl2 _ _ _ = _
  show fl2 (l.getD j (0, 0)) (l.getD (j + 1) (0, 0)) (j + 1) = _
  unfold fl2; rw [h]; rfl

theorem cell_alloc_t {W : World} {a : Addr} {v : Value} (o : Obj) (h : W.cell? a = some v) : (W.alloc o).cell? a = some v := by
  have hb := World.block_lt_of_cell? _ _ h
  exact (below_alloc W o).cell hb ▸ h
def sizeB (n : Nat) : Bool := decide (1 ≤ n) && decide (n ≤ 16)
theorem sizeB_no {n : Nat} (h : sizeB n = false) : fl0 n = [] ++ [(4, ⟨#[]⟩)] := by
  unfold sizeB at h
  refine fl0_no ?_
  by_cases h1 : 1 ≤ n
  · rw [decide_eq_true h1, Bool.true_and, decide_eq_false_iff_not] at h; omega
  · omega
theorem sizeB_yes {n : Nat} (h : sizeB n = true) : fl0 n = [] := by
  unfold sizeB at h
  rw [Bool.and_eq_true, decide_eq_true_iff, decide_eq_true_iff] at h
  exact fl0_yes h.1 h.2

set_option maxHeartbeats 1600000 in
theorem check_n (u : Value) (l : List (Int × Int)) (hl : l.length ≤ 1000000) (w : World) (hu : Ps w u l) (ht : Tab w) :
    Calls Tryz.prog 123 #[u] w (ChkP (faults l) w) := by
  obtain ⟨oa, c, rfl, ha⟩ := hu
  have HT := Lib.hid ht
  clear ht
  have HA := Lib.hid ha
  have HS := Lib.hid (flt_succ l)
  have HL := Lib.hid (flt_len l)
  have HE : Hid (faults l = flt l l.length) := rfl
  have H0 : Hid (flt l 0 = fl0 l.length) := rfl
  obtain ⟨i0, hi, hz0, hz1, hz2⟩ := infoF
  generalize faults l = r at *
  generalize hn : l.length = n at *
  clear ha hn
  go_enter Tryz.func123, Tryz.ntmps123
  go_upto_region 2 with fail
  go_cut [13] from 6 (fun v wx => v = .bool (!sizeB n) ∧ w = wx)
  case first =>
    by_cases h : n = 0
    · subst h
      go_wp2_with fail
      go_meet
      case rel => exact ⟨rfl, rfl⟩
    · have h0 : ((n : Int) == 0) = false := ne_eqN h
      by_cases h2 : n ≤ 16
      · have HT : Hid (false = (!sizeB n)) := by show _ = _; unfold sizeB; rw [decide_eq_true (show 1 ≤ n by omega), decide_eq_true h2]; rfl
        have h3 : ¬ ((16 : Int) < (n : Int)) := by omega
        go_wp2_with fail
        go_meet
        case rel => exact ⟨by rw [HT.out], rfl⟩
      · have HT : Hid (true = (!sizeB n)) := by show _ = _; unfold sizeB; rw [decide_eq_false h2, Bool.and_false]; rfl
        have h3 : (16 : Int) < (n : Int) := by omega
        go_wp2_with fail
        go_meet
        case rel => exact ⟨by rw [HT.out], rfl⟩
  obtain ⟨rfl, rfl⟩ := hcut
  go_upto_if 13 with fail
  go_cut [3] from 6 (fun v wx => Hid (Gl w.heap.size wx v (fl0 n)) ∧ Hid (Below w.heap.size w wx))
  case first =>
    have HG0 : Hid (Gl w.heap.size w (.slice none 0 0) []) := Gl.nil _ _
    cases hs : sizeB n
    · have HF : Hid (fl0 n = [] ++ [(4, ⟨#[]⟩)]) := sizeB_no hs
      clear hs
      go_wp2_with (at_builtin; refine wpList_append_own _ rfl _ _ 33 rfl w.heap.size 37 i0 (.agg #[.int .i64 0, .string ⟨#[]⟩]) 2 24 Tryz.underlying33 hi hz0 hz1 hz2 rfl (by decide) _ _ _ rfl (World.ownsRow.alloc HG0.out.own _) ⟨w.heap.size, 0, none⟩ 1 1 [.int .i64 4, .string ⟨#[]⟩] rfl rfl ?q1 ?q2 ?q3 ?q4 ?q5 ?_)
      case q1 => exact two_new _ _ _ _
      case q2 => exact fcells _ _
      case q3 => decide
      case q4 => decide
      case q5 => simp
      intro v3 w3 hown hgrow _
      go_wp2_with fail
      go_meet
      case rel => exact ⟨HF.out ▸ Gl.more hown, ((Below.refl _ w).alloc (Nat.le_refl _) _).grown hgrow (by simp) (fun k hk => by cases hk)⟩
    · have HF : Hid (fl0 n = []) := sizeB_yes hs
      clear hs
      go_wp2_with fail
      go_meet
      case rel => exact ⟨HF.out ▸ HG0.out, Below.refl _ _⟩
  obtain ⟨HG, HB⟩ := hcut
  rw [← H0.out] at HG
  go_wp2_with fail
  go_loopg [3, 20] n (fun g v i wr => ∃ k : Nat, k ≤ n ∧ i = .int .i64 k ∧ n - k ≤ g ∧ Hid (Gl w.heap.size wr v (flt l k)) ∧ Hid (Below w.heap.size w wr))
  case atStart => exact ⟨0, Nat.zero_le _, rfl, Nat.le_refl _, HG, HB⟩
  case round =>
    clear HG HB
    obtain ⟨k, hk, rfl, hg, HG, HW⟩ := hrel
    by_cases hlt : k < n
    · obtain ⟨b, o, rfl, hab, hc0, hc1⟩ := HA.out k hlt
      have d0 := (HW.out.cell (p := ⟨b, o + k * 2, none⟩) hab).trans hc0
      have d1 := (HW.out.cell (p := ⟨b, o + k * 2 + 1, none⟩) hab).trans hc1
      unfold pT at d0
      unfold pA at d1
      have HL2 := HL.out k
      have HS2 : Hid (flt l (k + 1) = flt l k ++ fl1 (l.getD k (0, 0)) k ++ fl3 l k) := HS.out k
      have HF3 : Hid (∀ j, k = j + 1 → beforeB (l.getD j (0, 0)) (l.getD k (0, 0)) = true → fl3 l k = []) := fun j e h => by subst e; exact fl3_yes h
      have HF4 : Hid (∀ j, k = j + 1 → beforeB (l.getD j (0, 0)) (l.getD k (0, 0)) = false → fl3 l k = [(13, dec k)]) := fun j e h => by subst e; exact fl3_no h
      generalize l.getD k (0, 0) = q at *
      obtain ⟨x, y⟩ := q
      simp only at d0 d1
      have KP := Lib.hid (fun w => isPoint_n x y w)
      have KI := Lib.hid (fun w ht => itoa_n k (by omega) w ht)
      have hsz := HW.out.size
      clear hc0 hc1
      go_upto_if 27 with (go_at_call 140; refine (KP.out _).mono ?_; rintro e w1 ⟨rfl, b1⟩)
      have HB1 : Hid (Below w.heap.size w w1) := (HW.out.alloc hsz (.cells #[.int .i64 x, .int .i64 y] 105)).trans (b1.mono (by simp; omega))
      have hne : some wr.heap.size ≠ u3.ownBlock := fun h => absurd (World.ownsRow.lt HG.out.own _ h.symm).2 (Nat.lt_irrefl _)
      have HG1 : Hid (Gl w.heap.size w1 u3 (flt l k)) := (HG.out.frame (below_alloc wr _)).frame b1
      have c0 : w1.cell? ⟨wr.heap.size, 0, none⟩ = some (.int .i64 x) := (b1.cell (p := ⟨wr.heap.size, 0, none⟩) (by simp)).trans (by simp)
      have c1 : w1.cell? ⟨wr.heap.size, 1, none⟩ = some (.int .i64 y) := (b1.cell (p := ⟨wr.heap.size, 1, none⟩) (by simp)).trans (by simp)
      have hsz1 := HB1.out.size
      have hpl : wr.heap.size < w1.heap.size := Nat.lt_of_lt_of_le (by simp) b1.size
      clear b1 d0 d1
      go_cut [3, 20] (fun v i wx => i = .int .i64 k ∧ Hid (Gl w.heap.size wx v (flt l k ++ fl1 (x, y) k)) ∧ Hid (Below w.heap.size w wx) ∧ wx.cell? ⟨wr.heap.size, 0, none⟩ = some (.int .i64 x) ∧ wx.cell? ⟨wr.heap.size, 1, none⟩ = some (.int .i64 y))
      case first =>
        cases hp : pointB (x, y)
        · have HF : Hid (fl1 (x, y) k = [(2, dec k)]) := fl1_no hp
          clear hp
          go_wp2_with fail
          refine (KI.out _ (HT.out.over HB1.out)).mono ?_
          rintro e w2 ⟨rfl, b2⟩
          have HB2 := Lib.hid (over HB1.out b2)
          have HG2 := Lib.hid (HG1.out.frame b2)
          have c0 := (b2.cell (World.block_lt_of_cell? _ _ c0)).trans c0
          have c1 := (b2.cell (World.block_lt_of_cell? _ _ c1)).trans c1
          have hsz2 := HB2.out.size
          clear b2
          go_wp2_with (at_builtin; refine wpList_append_own _ rfl _ _ 33 rfl w.heap.size 37 i0 (.agg #[.int .i64 0, .string ⟨#[]⟩]) 2 24 Tryz.underlying33 hi hz0 hz1 hz2 rfl (by decide) _ _ _ rfl (World.ownsRow.alloc HG2.out.own _) ⟨w2.heap.size, 0, none⟩ 1 1 [.int .i64 2, .string (dec k)] rfl rfl ?q1 ?q2 ?q3 ?q4 ?q5 ?_)
          case q1 => exact two_new _ _ _ _
          case q2 => exact fcells _ _
          case q3 => unfold maxLen; omega
          case q4 => omega
          case q5 => simp; omega
          intro v3 w3 hown hgrow _
          have HG3 : Hid (Gl w.heap.size w3 v3 (flt l k ++ fl1 (x, y) k)) := by show Gl _ _ _ _; rw [HF.out]; exact Gl.more hown
          have HB3 : Hid (Below w.heap.size w w3) := (HB2.out.alloc (by omega) _).grown hgrow (by simp; omega) (HG2.out.blk)
          have c0 := hgrow.cell (cell_alloc_t _ c0) hne
          have c1 := hgrow.cell (cell_alloc_t _ c1) hne
          go_wp2_with fail
          go_meet
          case rel => exact ⟨rfl, HG3, HB3, c0, c1⟩
        · have HF : Hid (fl1 (x, y) k = []) := fl1_yes hp
          have HG3 : Hid (Gl w.heap.size w1 u3 (flt l k ++ fl1 (x, y) k)) := by show Gl _ _ _ _; rw [HF.out, List.append_nil]; exact HG1.out
          clear hp
          go_wp2_with fail
          go_meet
          case rel => exact ⟨rfl, HG3, HB1, c0, c1⟩
      clear c0 c1 HB1 HG1 hsz1 hpl HG HW hsz hne KP
      obtain ⟨rfl, HG, HB, c0, c1⟩ := hcut
      have hsz := HB.out.size
      have hl1 := fl1_len (x, y) k
      have hfl : (flt l k ++ fl1 (x, y) k).length ≤ 2 * k + 2 := by rw [List.length_append]; omega
      generalize flt l k ++ fl1 (x, y) k = F at hfl HG HS2
      cases k with
      | zero =>
        have HG2 : Hid (Gl w.heap.size wc u3 (flt l (0 + 1))) := by show Gl _ _ _ _; rw [HS2.out, fl3_zero, List.append_nil]; exact HG.out
        go_wp2_with fail
        go_quiet (fail)
        go_wp2_with fail
        go_roundg (n - 1)
        case measure => omega
        case rel => exact ⟨1, by omega, by go_num, by omega, HG2.out.frame (below_drewN (Below.refl _ _) _), below_drewN HB.out _⟩
      | succ j =>
        obtain ⟨b', o', hbo, -, hc0, hc1⟩ := HA.out j (by omega)
        obtain ⟨rfl, rfl⟩ : b = b' ∧ o = o' := by simpa using hbo
        have d0 := (HB.out.cell (p := ⟨b, o + j * 2, none⟩) hab).trans hc0
        have d1 := (HB.out.cell (p := ⟨b, o + j * 2 + 1, none⟩) hab).trans hc1
        unfold pT at d0
        unfold pA at d1
        clear hc0 hc1 hbo
        have HF5 := Lib.hid (HF3.out j rfl)
        have HF6 := Lib.hid (HF4.out j rfl)
        generalize l.getD j (0, 0) = q at *
        obtain ⟨x0, y0⟩ := q
        simp only at d0 d1
        have KB := Lib.hid (fun w => isBefore_n x0 y0 x y w)
        have hj0 : (0 : Int) ≤ (j : Int) := by omega
        have hj1 : (j : Int) < (n : Int) := by omega
        have hj2 : (0 : Int) < (j : Int) + 1 := by omega
        have hwj : IntKind.i64.wrap (j : Int) = (j : Int) := IntWalk.i64_in _ (by omega)
        go_wp2_with fail
        go_region_with (go_at_call 141; with_reducible refine (KB.out _).mono ?_; rintro e wm ⟨rfl, bm⟩)
        all_goals
          have HBm := Lib.hid (over (below_drew HB.out) bm)
          have HGm := Lib.hid (HG.out.drew.frame bm)
          have hszm := HBm.out.size
          clear bm d0 d1 c0 c1
          cases hb : beforeB (x0, y0) (x, y)
          · have HF : Hid (fl3 l (j + 1) = [(13, dec (j + 1))]) := HF6.out hb
            clear hb
            go_wp2_with fail
            refine (KI.out _ (HT.out.over HBm.out)).mono ?_
            rintro e w2 ⟨rfl, b2⟩
            have HB2 := Lib.hid (over HBm.out b2)
            have HG2 := Lib.hid (HGm.out.frame b2)
            have hsz2 := HB2.out.size
            clear b2
            go_wp2_with (at_builtin; refine wpList_append_own _ rfl _ _ 33 rfl w.heap.size 37 i0 (.agg #[.int .i64 0, .string ⟨#[]⟩]) 2 24 Tryz.underlying33 hi hz0 hz1 hz2 rfl (by decide) _ _ _ rfl (World.ownsRow.alloc HG2.out.own _) ⟨w2.heap.size, 0, none⟩ 1 1 [.int .i64 13, .string (dec (j + 1))] rfl rfl ?q1 ?q2 ?q3 ?q4 ?q5 ?_)
            case q1 => exact two_new _ _ _ _
            case q2 => exact fcells _ _
            case q3 => unfold maxLen; omega
            case q4 => omega
            case q5 => simp; omega
            intro v3 w3 hown hgrow _
            have HG3 : Hid (Gl w.heap.size w3 v3 (flt l (j + 1 + 1))) := by show Gl _ _ _ _; rw [HS2.out, HF.out]; exact Gl.more hown
            have HB3 : Hid (Below w.heap.size w w3) := (HB2.out.alloc (by omega) _).grown hgrow (by simp; omega) (HG2.out.blk)
            clear hown hgrow
            go_wp2_with fail
            go_roundg (n - (j + 2))
            case measure => omega
            case rel => exact ⟨j + 1 + 1, by omega, by go_num, by omega, HG3, HB3⟩
          · have HF : Hid (fl3 l (j + 1) = []) := HF5.out hb
            have HG3 : Hid (Gl w.heap.size wm u3 (flt l (j + 1 + 1))) := by show Gl _ _ _ _; rw [HS2.out, HF.out, List.append_nil]; exact HGm.out
            clear hb
            go_wp2_with fail
            go_roundg (n - (j + 2))
            case measure => omega
            case rel => exact ⟨j + 1 + 1, by omega, by go_num, by omega, HG3, HBm⟩
    · have hk' : k = n := by omega
      subst hk'
      have HR : Hid (flt l k = r) := HE.out.symm
      go_wp2_with fail
      go_ret
      exact chkP (HR.out ▸ HG.out) HW.out (Nat.le_refl _)

end Go.Proofs.YtaallpebfcadjaaGreatDoor.T


/-! How many points a list of arcs has. -/
namespace Go.Proofs.YtaallpebfcadjaaGreatDoor.T

/-- how many points the arcs have -/
def wtA (l : List ArcT) : Nat := (l.map fun a => a.tr.length + a.sl.length).sum
theorem wt_le {l : List ArcT} {i : Nat} (h : i < l.length) : (l.getD i arc0).tr.length + (l.getD i arc0).sl.length ≤ wtA l := by
  unfold wtA
  induction l generalizing i with
  | nil => cases h
  | cons a l ih =>
    rw [List.map_cons, List.sum_cons]
    cases i with
    | zero => simp
    | succ i =>
      have := ih (i := i) (by simpa using h)
      simp only [List.getD_cons_succ]
      omega
theorem wt_take {l : List ArcT} {k : Nat} (h : k < l.length) : wtA (l.take (k + 1)) = wtA (l.take k) + ((l.getD k arc0).tr.length + (l.getD k arc0).sl.length) := by
  unfold wtA
  rw [take_more (d := arc0) h, List.map_append, List.sum_append]
  simp
theorem wt_take_le (l : List ArcT) (k : Nat) : wtA (l.take k) ≤ wtA l := by
  unfold wtA
  conv => rhs; rw [← List.take_append_drop k l]
  rw [List.map_append, List.sum_append]
  omega

end Go.Proofs.YtaallpebfcadjaaGreatDoor.T


/-! The walks of the specification's Find and Go. -/
namespace Go.Proofs.YtaallpebfcadjaaGreatDoor.T
open Go.RowKit
set_option maxRecDepth 8000

/-- block n holds an arc's six cells -/
def Ab (w : World) (n : Nat) (x0 x1 x2 x3 x4 x5 : Value) : Prop := w.heap[n]? = some (.cells #[x0, x1, x2, x3, x4, x5] 54)
section
variable {w w' : World} {n : Nat} {x0 x1 x2 x3 x4 x5 : Value}
theorem Ab.c0 (h : Ab w n x0 x1 x2 x3 x4 x5) : w.cell? ⟨n, 0, none⟩ = some x0 := by unfold Ab at h; simp [World.cell?, h]
theorem Ab.c1 (h : Ab w n x0 x1 x2 x3 x4 x5) : w.cell? ⟨n, 1, none⟩ = some x1 := by unfold Ab at h; simp [World.cell?, h]
theorem Ab.c2 (h : Ab w n x0 x1 x2 x3 x4 x5) : w.cell? ⟨n, 2, none⟩ = some x2 := by unfold Ab at h; simp [World.cell?, h]
theorem Ab.c3 (h : Ab w n x0 x1 x2 x3 x4 x5) : w.cell? ⟨n, 3, none⟩ = some x3 := by unfold Ab at h; simp [World.cell?, h]
theorem Ab.c4 (h : Ab w n x0 x1 x2 x3 x4 x5) : w.cell? ⟨n, 4, none⟩ = some x4 := by unfold Ab at h; simp [World.cell?, h]
theorem Ab.c5 (h : Ab w n x0 x1 x2 x3 x4 x5) : w.cell? ⟨n, 5, none⟩ = some x5 := by unfold Ab at h; simp [World.cell?, h]
theorem Ab.f (h : Ab w n x0 x1 x2 x3 x4 x5) (k : Nat) : w.frozen? ⟨n, k, none⟩ = false := by unfold Ab at h; simp [World.frozen?, h]
theorem Ab.lt (h : Ab w n x0 x1 x2 x3 x4 x5) : n < w.heap.size := by
  apply Decidable.byContradiction
  intro hc
  unfold Ab at h
  rw [Array.getElem?_eq_none (by omega)] at h; cases h
theorem Ab.below (h : Ab w n x0 x1 x2 x3 x4 x5) (hb : Below w.heap.size w w') : Ab w' n x0 x1 x2 x3 x4 x5 := (hb.block n h.lt).trans h
theorem Ab.alloc (h : Ab w n x0 x1 x2 x3 x4 x5) (o : Obj) : Ab (w.alloc o) n x0 x1 x2 x3 x4 x5 := (Below.heap_alloc w o n h.lt).trans h
theorem Ab.made (w : World) (x0 x1 x2 x3 x4 x5 : Value) : Ab (w.alloc (.cells #[x0, x1, x2, x3, x4, x5] 54)) w.heap.size x0 x1 x2 x3 x4 x5 := by
  show (w.heap.push _)[w.heap.size]? = _
  simp
theorem Ab.put (h : Ab w n x0 x1 x2 x3 x4 x5) (y0 y1 y2 y3 y4 y5 : Value) :
    Ab ((((((w.setCell ⟨n, 0, none⟩ y0).setCell ⟨n, 1, none⟩ y1).setCell ⟨n, 2, none⟩ y2).setCell ⟨n, 3, none⟩ y3).setCell ⟨n, 4, none⟩ y4).setCell ⟨n, 5, none⟩ y5) n y0 y1 y2 y3 y4 y5 := by
  unfold Ab at *; simp [World.setCell, Array.getElem?_modify, h]
end
def hitB (pr f t : Int) (a : ArcT) : Bool := decide (a.fr = f) && decide (a.to = t) && decide (a.prof = pr)
def findA (l : List ArcT) (pr f t : Int) : Option ArcT := l.find? (hitB pr f t)
theorem hit_yes {pr f t : Int} {a : ArcT} (h1 : a.fr = f) (h2 : a.to = t) (h3 : a.prof = pr) : hitB pr f t a = true := by unfold hitB; rw [decide_eq_true h1, decide_eq_true h2, decide_eq_true h3]; rfl
theorem hit_no {pr f t : Int} {a : ArcT} (h : a.fr ≠ f ∨ a.to ≠ t ∨ a.prof ≠ pr) : hitB pr f t a = false := by
  cases e : hitB pr f t a
  · rfl
  · unfold hitB at e
    simp only [Bool.and_eq_true, decide_eq_true_iff] at e
    obtain ⟨⟨h1, h2⟩, h3⟩ := e
    rcases h with h | h | h
    · exact absurd h1 h
    · exact absurd h2 h
    · exact absurd h3 h
def v0 : Value := .int .i64 0
end Go.Proofs.YtaallpebfcadjaaGreatDoor.T


/-! The walk of the specification's checkPlaces. -/
namespace Go.Proofs.YtaallpebfcadjaaGreatDoor.T
open Go.RowKit
set_option maxRecDepth 8000

theorem plf_len (l : List ByteArray) (i : Nat) : (plf l i).length ≤ 1 := by unfold plf; split <;> (try split) <;> simp
theorem plF_len (l : List ByteArray) : ∀ k, (plF l k).length ≤ k + 1
  | 0 => by unfold plF plf0; split <;> simp
  | k + 1 => by
    show (plF l k ++ plf l k).length ≤ _
    rw [List.length_append]
    have := plF_len l k
    have := plf_len l k
    omega
theorem seen_step {l : List ByteArray} {s : ByteArray} {k : Nat} (hk : k < l.length) : seen l s (k + 1) = (seen l s k || ((l.getD k ⟨#[]⟩).toList == s.toList)) := by
  unfold seen
  rw [take_more (d := ⟨#[]⟩) hk, List.any_append]
  simp
end Go.Proofs.YtaallpebfcadjaaGreatDoor.T


/-! Slices of arcs that a call makes itself. -/
namespace Go.Proofs.YtaallpebfcadjaaGreatDoor.T
open Go.RowKit
set_option maxRecDepth 8000

/-- an arc with its two slices -/
abbrev ArcV := ArcT × Value × Value
def c6 (x : ArcV) : List Value := [.int .i64 x.1.fr, .int .i64 x.1.to, .int .i64 x.1.prof, .int .i64 x.1.miles, x.2.1, x.2.2]
section
variable {B : Nat} {w w' : World} {v : Value} {xs : List ArcV}
/-- a slice lies beside a row -/
def Bes (u : Value) (row : Option Nat) : Prop := ∀ b o k c, u = .slice (some ⟨b, o, none⟩) k c → 0 < k → some b ≠ row
theorem Ps.grown {u : Value} {l : List (Int × Int)} {row : Option Nat} (h : Ps w u l) (hg : w.grownBy w' row) (hb : Bes u row) : Ps w' u l := by
  obtain ⟨oa, c, hv, h⟩ := h
  refine ⟨oa, c, hv, fun i hi => ?_⟩
  obtain ⟨b, o, ha, hl, h0, h1⟩ := h i hi
  have hne := hb b o l.length c (by rw [hv, ha]) (by omega)
  exact ⟨b, o, ha, Nat.lt_of_lt_of_le hl hg.size, hg.cell (a := ⟨b, _, none⟩) h0 hne, hg.cell (a := ⟨b, _, none⟩) h1 hne⟩
end
end Go.Proofs.YtaallpebfcadjaaGreatDoor.T


/-! The walk of the specification's checkArc. -/
namespace Go.Proofs.YtaallpebfcadjaaGreatDoor.T
open Go.RowKit
set_option maxRecDepth 8000

theorem af1_len (np : Nat) (a : ArcT) (i : Nat) : (af1 np a i).length ≤ 1 := by unfold af1; split <;> simp
theorem af2_len (a : ArcT) (i : Nat) : (af2 a i).length ≤ 1 := by unfold af2; split <;> simp
theorem af3_len (l : List ArcT) (a : ArcT) (i : Nat) : (af3 l a i).length ≤ 1 := by unfold af3; split <;> simp
theorem af5_len (a : ArcT) (i : Nat) : (af5 a i).length ≤ 1 := by unfold af5; split <;> simp
theorem slF_len (l : List (Int × Int)) (i : Nat) : ∀ k, (slF l i k).length ≤ k
  | 0 => Nat.le_refl _
  | k + 1 => by
    show (slF l i k ++ af6 l i k).length ≤ _
    rw [List.length_append]
    have := slF_len l i k
    have : (af6 l i k).length ≤ 1 := by unfold af6; split <;> simp
    omega

end Go.Proofs.YtaallpebfcadjaaGreatDoor.T


/-! The walks of the specification's Check and of the laws' right. -/
namespace Go.Proofs.YtaallpebfcadjaaGreatDoor.T
open Go.RowKit
set_option maxRecDepth 8000

theorem arF_len (np : Nat) (l : List ArcT) (i : Nat) : (arF np l i).length ≤ 5 + 2 * ((l.getD i arc0).tr.length + (l.getD i arc0).sl.length) := by
  unfold arF
  simp only [List.length_append]
  have := af1_len np (l.getD i arc0) i
  have := af2_len (l.getD i arc0) i
  have := af3_len l (l.getD i arc0) i
  have := af5_len (l.getD i arc0) i
  have := slF_len (l.getD i arc0).sl i (l.getD i arc0).sl.length
  have h4 : (af4 (faults (l.getD i arc0).tr) i).length ≤ 2 * (l.getD i arc0).tr.length + 1 := by unfold af4; rw [List.length_map]; exact flt_len _ _
  omega
theorem ntF_len (pl : List ByteArray) (l : List ArcT) : ∀ k, k ≤ l.length → (ntF pl l k).length ≤ pl.length + 2 + 5 * k + 2 * wtA (l.take k)
  | 0, _ => by
    show (nf0 pl l.length).length ≤ _
    unfold nf0
    rw [List.length_append]
    have := plF_len pl pl.length
    have : (if 1024 < l.length then [((4 : Int), sArcs)] else []).length ≤ 1 := by split <;> simp
    omega
  | k + 1, h => by
    show (ntF pl l k ++ arF pl.length l k).length ≤ _
    rw [List.length_append, wt_take (by omega)]
    have := ntF_len pl l k (by omega)
    have := arF_len pl.length l k
    omega
end Go.Proofs.YtaallpebfcadjaaGreatDoor.T


