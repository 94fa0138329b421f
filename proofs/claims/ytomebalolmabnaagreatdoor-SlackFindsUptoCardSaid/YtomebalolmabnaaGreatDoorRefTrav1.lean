/-
  DERIVED. RefTrav1: a part of the base of layer 13 (made by pack.py).
-/
import Derived.Test.YtomebalolmabnaaGreatDoorHC
/-! The walks of lorryref07's Check. -/
namespace Go.Proofs.YtomebalolmabnaaGreatDoor.T
open Go.RowKit
set_option maxRecDepth 8000

theorem pointB_no {p : Int × Int} (h : ¬ (0 ≤ p.1 ∧ p.1 ≤ 4096 ∧ p.1 ≤ p.2 ∧ p.2 ≤ p.1 + 4096)) : pointB p = false := by
 cases e : pointB p
 ·rfl
 ·exact absurd ((pointB_iff p).1 e) h
theorem Gl.toDrew {B : Nat} {w wx : World} {v : Value} {l : List (Int × ByteArray)} {m : Nat} (h : Gl B w v l) (hm : wx = w.drewN m) : Gl B wx v l := by subst hm; exact h
theorem beforeB_no {p q : Int × Int} (h : ¬ (p.1 < q.1 ∧ p.2 ≤ q.2)) : beforeB p q = false := by
 cases e : beforeB p q
 ·rfl
 ·exact absurd ((beforeB_iff p q).1 e) h

set_option maxHeartbeats 1600000 in
theorem refCheck_n (u : Value) (l : List (Int × Int)) (hl : l.length ≤ 1000000) (w : World) (hu : Ps w u l) :
  Calls Tryz.prog 61 #[u] w (ChkP (faults l) w) := by
 obtain ⟨oa, c, rfl, ha⟩ := hu
 have HA := Lib.hid ha
 have HS := Lib.hid (flt_succ l)
 have HL := Lib.hid (flt_len l)
 have HE : Hid (faults l = flt l l.length) := rfl
 have H0 : Hid (flt l 0 = fl0 l.length) := rfl
 obtain ⟨i0, hi, hz0, hz1, hz2⟩ := infoF
 generalize faults l = r at *
 generalize hn : l.length = n at *
 clear ha hn
 go_enter Tryz.func61, Tryz.ntmps61
 go_upto_region 2 with fail
 go_cut [13] from 6 (fun v wx => v = .bool (!sizeB n) ∧ w = wx)
 case first =>
  by_cases h : n = 0
  ·subst h
   go_wp2_with fail
   go_meet
   case rel => exact ⟨rfl, rfl⟩
  ·have h0 : ¬ (n : Int) < 1 := by omega
   by_cases h2 : n ≤ 16
   ·have HT : Hid (false = (!sizeB n)) := by show _ = _; unfold sizeB; rw [decide_eq_true (show 1 ≤ n by omega), decide_eq_true h2]; rfl
    have h3 : ¬ ((16 : Int) < (n : Int)) := by omega
    go_wp2_with fail
    go_meet
    case rel => exact ⟨by rw [HT.out], rfl⟩
   ·have HT : Hid (true = (!sizeB n)) := by show _ = _; unfold sizeB; rw [decide_eq_false h2, Bool.and_false]; rfl
    have h3 : (16 : Int) < (n : Int) := by omega
    go_wp2_with fail
    go_meet
    case rel => exact ⟨by rw [HT.out], rfl⟩
 obtain ⟨rfl, rfl⟩ := hcut
 go_upto_if 13 with fail
 go_cut [3] from 6 (fun v wx => Hid (Gl w.heap.size wx v (fl0 n)) ∧ Hid (Below w.heap.size w wx))
 case first =>
  have HG0 : Hid (Gl w.heap.size w (.slice none 0 0) []) := Gl.nil _ _
  cases hs : sizeB n
  ·have HF : Hid (fl0 n = [] ++ [(4, ⟨#[]⟩)]) := sizeB_no hs
   clear hs
   go_wp2_with (at_builtin; refine wpList_append_own _ rfl _ _ 51 rfl w.heap.size 101 i0 (.agg #[.int .i64 0, .string ⟨#[]⟩]) 2 24 Tryz.underlying51 hi hz0 hz1 hz2 rfl (by decide) _ _ _ rfl (World.ownsRow.alloc HG0.out.own _) ⟨w.heap.size, 0, none⟩ 1 1 [.int .i64 4, .string ⟨#[]⟩] rfl rfl ?q1 ?q2 ?q3 ?q4 ?q5 ?_)
   case q1 => exact two_new _ _ _ _
   case q2 => exact fcells _ _
   case q3 => decide
   case q4 => decide
   case q5 => simp
   intro v3 w3 hown hgrow _
   go_wp2_with fail
   go_meet
   case rel => exact ⟨HF.out ▸ Gl.more hown, ((Below.refl _ w).alloc (Nat.le_refl _) _).grown hgrow (by simp) (fun k hk => by cases hk)⟩
  ·have HF : Hid (fl0 n = []) := sizeB_yes hs
   clear hs
   go_wp2_with fail
   go_meet
   case rel => exact ⟨HF.out ▸ HG0.out, Below.refl _ _⟩
 obtain ⟨HG, HB⟩ := hcut
 rw [← H0.out] at HG
 go_wp2_with fail
 go_loopg [3, 4] n (fun g v i wr => ∃ k : Nat, k ≤ n ∧ i = .int .i64 k ∧ n - k ≤ g ∧ Hid (Gl w.heap.size wr v (flt l k)) ∧ Hid (Below w.heap.size w wr))
 case atStart => exact ⟨0, Nat.zero_le _, rfl, Nat.le_refl _, HG, HB⟩
 case round =>
  clear HG HB
  obtain ⟨k, hk, rfl, hg, HG, HW⟩ := hrel
  by_cases hlt : k < n
  ·obtain ⟨b, o, rfl, hab, hc0, hc1⟩ := HA.out k hlt
   have d0 := (HW.out.cell (p := ⟨b, o + k * 2, none⟩) hab).trans hc0
   have d1 := (HW.out.cell (p := ⟨b, o + k * 2 + 1, none⟩) hab).trans hc1
   unfold pT at d0
   unfold pA at d1
   have HL2 := HL.out k
   have HS2 : Hid (flt l (k + 1) = flt l k ++ fl1 (l.getD k (0, 0)) k ++ fl3 l k) := HS.out k
   have HF3 : Hid (∀ j, k = j + 1 → beforeB (l.getD j (0, 0)) (l.getD k (0, 0)) = true → fl3 l k = []) := fun j e h => by subst e; exact fl3_yes h
   have HF4 : Hid (∀ j, k = j + 1 → beforeB (l.getD j (0, 0)) (l.getD k (0, 0)) = false → fl3 l k = [(13, dec k)]) := fun j e h => by subst e; exact fl3_no h
   generalize l.getD k (0, 0) = q at *
   obtain ⟨x, y⟩ := q
   simp only at d0 d1
   have KI := Lib.hid (fun w => decimal_n k (by omega) w)
   have hsz := HW.out.size
   clear hc0 hc1
   obtain ⟨w1, hw1⟩ : ∃ w1, wr.alloc (.cells #[.int .i64 x, .int .i64 y] 71) = w1 := ⟨_, rfl⟩
   have HB1 : Hid (Below w.heap.size w w1) := by show Below _ _ _; rw [← hw1]; exact HW.out.alloc hsz _
   have hne : some wr.heap.size ≠ u3.ownBlock := fun h => absurd (World.ownsRow.lt HG.out.own _ h.symm).2 (Nat.lt_irrefl _)
   have HG1 : Hid (Gl w.heap.size w1 u3 (flt l k)) := by show Gl _ _ _ _; rw [← hw1]; exact HG.out.frame (below_alloc wr _)
   have c0 : w1.cell? ⟨wr.heap.size, 0, none⟩ = some (.int .i64 x) := by rw [← hw1]; simp
   have c1 : w1.cell? ⟨wr.heap.size, 1, none⟩ = some (.int .i64 y) := by rw [← hw1]; simp
   have hsz1 := HB1.out.size
   go_upto_region 8 with fail
   clear hw1 d0 d1
   go_cut [50] from 18 to 86 (fun v wx => v = .bool (!pointB (x, y)) ∧ w1 = wx)
   case first =>
    by_cases p1 : 0 ≤ x
    ·by_cases p2 : x ≤ 4096
     ·by_cases p3 : x ≤ y
      ·by_cases p4 : y ≤ x + 4096
       ·have hp : Hid (pointB (x, y) = true) := (pointB_iff _).2 ⟨p1, p2, p3, p4⟩
        go_wp2_with fail
        go_meet
        case rel => exact ⟨congrArg Value.bool (by rw [hp.out]; first | rfl | (simp; done) | (simp; omega)), rfl⟩
       ·have hp : Hid (pointB (x, y) = false) := pointB_no (fun h => p4 h.2.2.2)
        have p5 : x + 4096 < y := by omega
        go_wp2_with fail
        go_meet
        case rel => exact ⟨congrArg Value.bool (by rw [hp.out]; first | rfl | (simp; done) | (simp; omega)), rfl⟩
      ·have hp : Hid (pointB (x, y) = false) := pointB_no (fun h => p3 h.2.2.1)
       have p5 : y < x := by omega
       go_wp2_with fail
       go_meet
       case rel => exact ⟨congrArg Value.bool (by rw [hp.out]; first | rfl | (simp; done) | (simp; omega)), rfl⟩
     ·have hp : Hid (pointB (x, y) = false) := pointB_no (fun h => p2 h.2.1)
      have p5 : 4096 < x := by omega
      go_wp2_with fail
      go_meet
      case rel => exact ⟨congrArg Value.bool (by rw [hp.out]; first | rfl | (simp; done) | (simp; omega)), rfl⟩
    ·have hp : Hid (pointB (x, y) = false) := pointB_no (fun h => p1 h.1)
     have p5 : x < 0 := by omega
     go_wp2_with fail
     go_meet
     case rel => exact ⟨congrArg Value.bool (by rw [hp.out]; first | rfl | (simp; done) | (simp; omega)), rfl⟩
   obtain ⟨rfl, rfl⟩ := hcut
   go_upto_if 50 with fail
   go_cut [3, 4] from 18 to 86 (fun v i wx => i = .int .i64 k ∧ Hid (Gl w.heap.size wx v (flt l k ++ fl1 (x, y) k)) ∧ Hid (Below w.heap.size w wx) ∧ wx.cell? ⟨wr.heap.size, 0, none⟩ = some (.int .i64 x) ∧ wx.cell? ⟨wr.heap.size, 1, none⟩ = some (.int .i64 y))
   case first =>
    cases hp : pointB (x, y)
    ·have HF : Hid (fl1 (x, y) k = [(2, dec k)]) := fl1_no hp
     clear hp
     go_wp2_with fail
     refine (KI.out _).mono ?_
     rintro e w2 ⟨rfl, b2⟩
     have HB2 := Lib.hid (over HB1.out b2)
     have HG2 := Lib.hid (HG1.out.frame b2)
     have c0 := (b2.cell (World.block_lt_of_cell? _ _ c0)).trans c0
     have c1 := (b2.cell (World.block_lt_of_cell? _ _ c1)).trans c1
     have hsz2 := HB2.out.size
     clear b2
     go_wp2_with (at_builtin; refine wpList_append_own _ rfl _ _ 51 rfl w.heap.size 101 i0 (.agg #[.int .i64 0, .string ⟨#[]⟩]) 2 24 Tryz.underlying51 hi hz0 hz1 hz2 rfl (by decide) _ _ _ rfl (World.ownsRow.alloc HG2.out.own _) ⟨w2.heap.size, 0, none⟩ 1 1 [.int .i64 2, .string (dec k)] rfl rfl ?q1 ?q2 ?q3 ?q4 ?q5 ?_)
     case q1 => exact two_new _ _ _ _
     case q2 => exact fcells _ _
     case q3 => unfold maxLen; omega
     case q4 => omega
     case q5 => simp; omega
     intro v3 w3 hown hgrow _
     have HG3 : Hid (Gl w.heap.size w3 v3 (flt l k ++ fl1 (x, y) k)) := by show Gl _ _ _ _; rw [HF.out]; exact Gl.more hown
     have HB3 : Hid (Below w.heap.size w w3) := (HB2.out.alloc (by omega) _).grown hgrow (by simp; omega) (HG2.out.blk)
     have c0 := hgrow.cell (cell_alloc_t _ c0) hne
     have c1 := hgrow.cell (cell_alloc_t _ c1) hne
     go_wp2_with fail
     go_meet
     case rel => exact ⟨rfl, HG3, HB3, c0, c1⟩
    ·have HF : Hid (fl1 (x, y) k = []) := fl1_yes hp
     have HG3 : Hid (Gl w.heap.size w1 u3 (flt l k ++ fl1 (x, y) k)) := by show Gl _ _ _ _; rw [HF.out, List.append_nil]; exact HG1.out
     clear hp
     go_wp2_with fail
     go_meet
     case rel => exact ⟨rfl, HG3, HB1, c0, c1⟩
   clear c0 c1 HB1 HG1 hsz1 HG HW hsz hne
   obtain ⟨rfl, HG, HB, c0, c1⟩ := hcut
   have hsz := HB.out.size
   have hl1 := fl1_len (x, y) k
   have hfl : (flt l k ++ fl1 (x, y) k).length ≤ 2 * k + 2 := by rw [List.length_append]; omega
   generalize flt l k ++ fl1 (x, y) k = F at hfl HG HS2
   cases k with
   | zero =>
    have HG2 : Hid (Gl w.heap.size wc u3 (flt l (0 + 1))) := by show Gl _ _ _ _; rw [HS2.out, fl3_zero, List.append_nil]; exact HG.out
    go_wp2_with fail
    go_quiet (fail)
    go_wp2_with fail
    go_roundg (n - 1)
    case measure => omega
    case rel => exact ⟨1, by omega, by go_num, by omega, HG2.out.frame (below_drewN (Below.refl _ _) _), below_drewN HB.out _⟩
   | succ j =>
    obtain ⟨b', o', hbo, -, hc0, hc1⟩ := HA.out j (by omega)
    obtain ⟨rfl, rfl⟩ : b = b' ∧ o = o' := by simpa using hbo
    have d0 := (HB.out.cell (p := ⟨b, o + j * 2, none⟩) hab).trans hc0
    have d1 := (HB.out.cell (p := ⟨b, o + j * 2 + 1, none⟩) hab).trans hc1
    unfold pT at d0
    unfold pA at d1
    clear hc0 hc1 hbo
    have HF5 := Lib.hid (HF3.out j rfl)
    have HF6 := Lib.hid (HF4.out j rfl)
    generalize l.getD j (0, 0) = q at *
    obtain ⟨x0, y0⟩ := q
    simp only at d0 d1
    have hj0 : (0 : Int) ≤ (j : Int) := by omega
    have hj1 : (j : Int) < (n : Int) := by omega
    have hj2 : (0 : Int) < (j : Int) + 1 := by omega
    have hwj : IntKind.i64.wrap (j : Int) = (j : Int) := IntWalk.i64_in _ (by omega)
    have HGW : ∃ wz, wc = wz := ⟨_, rfl⟩
    obtain ⟨wz, rfl⟩ := HGW
    go_upto_region 10 with fail
    go_cut [80, 3, 4] from 18 to 86 (fun t v i wx => t = .bool (!beforeB (x0, y0) (x, y)) ∧ v = u3 ∧ i = .int .i64 (j + 1 : Nat) ∧ ∃ m, wx = wc.drewN m)
    case first =>
     by_cases p1 : x0 < x
     ·have p3 : ¬ x ≤ x0 := by omega
      have q3 : decide (x ≤ x0) = false := decide_eq_false p3
      by_cases p2 : y0 ≤ y
      ·have hp : Hid (beforeB (x0, y0) (x, y) = true) := (beforeB_iff _ _).2 ⟨p1, p2⟩
       have q4 : decide (y < y0) = false := decide_eq_false (by omega)
       go_quiet (fail)
       go_wp2_with fail
       go_meet
       case rel => exact ⟨congrArg Value.bool (by rw [hp.out]; first | rfl | (simp; done) | (simp; omega)), rfl, by go_num, _, rfl⟩
      ·have hp : Hid (beforeB (x0, y0) (x, y) = false) := beforeB_no (fun h => p2 h.2)
       have q4 : decide (y < y0) = true := decide_eq_true (by omega)
       go_quiet (fail)
       go_wp2_with fail
       go_meet
       case rel => exact ⟨congrArg Value.bool (by rw [hp.out]; first | rfl | (simp; done) | (simp; omega)), rfl, by go_num, _, rfl⟩
     ·have hp : Hid (beforeB (x0, y0) (x, y) = false) := beforeB_no (fun h => p1 h.1)
      have q3 : decide (x ≤ x0) = true := decide_eq_true (by omega)
      go_quiet (fail)
      go_wp2_with fail
      go_meet
      case rel => exact ⟨congrArg Value.bool (by rw [hp.out]; first | rfl | (simp; done) | (simp; omega)), rfl, by go_num, _, rfl⟩
    obtain ⟨rfl, rfl, rfl, mm, hwm⟩ := hcut
    rename World => wd
    have HBm : Hid (Below w.heap.size w wd) := by show Below _ _ _; rw [hwm]; exact below_drewN HB.out _
    have HGm := Lib.hid (HG.out.toDrew hwm)
    have hszm := HBm.out.size
    clear hwm d0 d1 c0 c1 HG HB hsz
    cases hb : beforeB (x0, y0) (x, y)
    ·have HF : Hid (fl3 l (j + 1) = [(13, dec (j + 1))]) := HF6.out hb
     clear hb
     go_wp2_with fail
     refine (KI.out _).mono ?_
     rintro e w2 ⟨rfl, b2⟩
     have HB2 := Lib.hid (over HBm.out b2)
     have HG2 := Lib.hid (HGm.out.frame b2)
     have hsz2 := HB2.out.size
     clear b2
     go_wp2_with (at_builtin; refine wpList_append_own _ rfl _ _ 51 rfl w.heap.size 101 i0 (.agg #[.int .i64 0, .string ⟨#[]⟩]) 2 24 Tryz.underlying51 hi hz0 hz1 hz2 rfl (by decide) _ _ _ rfl (World.ownsRow.alloc HG2.out.own _) ⟨w2.heap.size, 0, none⟩ 1 1 [.int .i64 13, .string (dec (j + 1))] rfl rfl ?q1 ?q2 ?q3 ?q4 ?q5 ?_)
     case q1 => exact two_new _ _ _ _
     case q2 => exact fcells _ _
     case q3 => unfold maxLen; omega
     case q4 => omega
     case q5 => simp; omega
     intro v3 w3 hown hgrow _
     have HG3 : Hid (Gl w.heap.size w3 v3 (flt l (j + 1 + 1))) := by show Gl _ _ _ _; rw [HS2.out, HF.out]; exact Gl.more hown
     have HB3 : Hid (Below w.heap.size w w3) := (HB2.out.alloc (by omega) _).grown hgrow (by simp; omega) (HG2.out.blk)
     clear hown hgrow
     go_wp2_with fail
     go_roundg (n - (j + 2))
     case measure => omega
     case rel => exact ⟨j + 1 + 1, by omega, by go_num, by omega, HG3, HB3⟩
    ·have HF : Hid (fl3 l (j + 1) = []) := HF5.out hb
     have HG3 := Lib.hid (HGm.out.ext (show F = flt l (j + 1 + 1) by rw [HS2.out, HF.out, List.append_nil]))
     clear hb
     go_wp2_with fail
     go_roundg (n - (j + 2))
     case measure => omega
     case rel => exact ⟨j + 1 + 1, by omega, by go_num, by omega, HG3, HBm⟩
  ·have hk' : k = n := by omega
   subst hk'
   have HR : Hid (flt l k = r) := HE.out.symm
   go_wp2_with fail
   go_ret
   exact chkP (HR.out ▸ HG.out) HW.out (Nat.le_refl _)


end Go.Proofs.YtomebalolmabnaaGreatDoor.T




