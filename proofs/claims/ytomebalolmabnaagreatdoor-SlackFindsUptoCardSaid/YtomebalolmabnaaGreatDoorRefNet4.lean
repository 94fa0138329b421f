/-
  DERIVED. RefNet4: a part of the base of layer 13 (made by pack.py).
-/
import Derived.Test.YtomebalolmabnaaGreatDoorHE
import Derived.Test.YtomebalolmabnaaGreatDoorNetOwn
/-! The walk of the specification's checkArc. -/
namespace Go.Proofs.YtomebalolmabnaaGreatDoor.T
open Go.RowKit
set_option maxRecDepth 8000

theorem twice_step {l : List ArcT} {a : ArcT} {k : Nat} (hk : k < l.length) : twiceB l a (k + 1) = (twiceB l a k || likeB a (l.getD k arc0)) := by
 unfold twiceB
 rw [take_more (d := arc0) hk, List.any_append]
 simp
theorem like_yes {a b : ArcT} (h1 : a.fr = b.fr) (h2 : a.to = b.to) (h3 : a.prof = b.prof) : likeB a b = true := by unfold likeB; rw [decide_eq_true h1, decide_eq_true h2, decide_eq_true h3]; rfl
theorem like_no {a b : ArcT} (h : a.fr ≠ b.fr ∨ a.to ≠ b.to ∨ a.prof ≠ b.prof) : likeB a b = false := by
 cases e : likeB a b
 ·rfl
 ·unfold likeB at e
  simp only [Bool.and_eq_true, decide_eq_true_iff] at e
  obtain ⟨⟨h1, h2⟩, h3⟩ := e
  rcases h with h | h | h
  ·exact absurd h1 h
  ·exact absurd h2 h
  ·exact absurd h3 h
theorem af4_step {l : List (Int × ByteArray)} {i m : Nat} (hm : m < l.length) : af4 (l.take (m + 1)) i = af4 (l.take m) i ++ [((l.getD m (0, ⟨#[]⟩)).1, arcS i)] := by
 unfold af4
 rw [take_more (d := (0, ⟨#[]⟩)) hm, List.map_append]
 rfl
theorem af4_len {l : List (Int × ByteArray)} {i m : Nat} (hm : m ≤ l.length) : (af4 (l.take m) i).length = m := by
 unfold af4
 rw [List.length_map, List.length_take]; omega
theorem fs_ext {w : World} {oa : Option Addr} {c m : Nat} {l : List (Int × ByteArray)} (hm : l.length = m) (h : Fs w (.slice oa l.length c) l) : Fs w (.slice oa m c) l := hm ▸ h
theorem fs_ext2 {w : World} {oa : Option Addr} {c m : Nat} {l : List (Int × ByteArray)} (hm : l.length = m) (h : Fs w (.slice oa m c) l) : Fs w (.slice oa l.length c) l := by rw [hm]; exact h
theorem af1_len (np : Nat) (a : ArcT) (i : Nat) : (af1 np a i).length ≤ 1 := by unfold af1; split <;> simp
theorem af2_len (a : ArcT) (i : Nat) : (af2 a i).length ≤ 1 := by unfold af2; split <;> simp
theorem af3_len (l : List ArcT) (a : ArcT) (i : Nat) : (af3 l a i).length ≤ 1 := by unfold af3; split <;> simp
theorem af5_len (a : ArcT) (i : Nat) : (af5 a i).length ≤ 1 := by unfold af5; split <;> simp
theorem slF_len (l : List (Int × Int)) (i : Nat) : ∀ k, (slF l i k).length ≤ k
 | 0 => Nat.le_refl _
 | k + 1 => by
  show (slF l i k ++ af6 l i k).length ≤ _
  rw [List.length_append]
  have := slF_len l i k
  have : (af6 l i k).length ≤ 1 := by unfold af6; split <;> simp
  omega

set_option maxHeartbeats 40000000 in
theorem refArc_n (vp va : Value) (pl : List ByteArray) (l : List ArcT) (i : Nat) (hil : i < l.length) (hl : l.length ≤ 1000000) (ht9 : (l.getD i arc0).tr.length ≤ 1000000) (hs9 : (l.getD i arc0).sl.length ≤ 1000000) (w : World) (hpl : Ss w vp pl) (ha : As w va l) :
  Calls Tryz.prog 41 #[.agg #[vp, va], .int .i64 i] w (ChkP (arF pl.length l i) w) := by
 obtain ⟨op, cp, rfl, -⟩ := hpl
 obtain ⟨oa, c, rfl, ha⟩ := ha
 have HA := Lib.hid ha
 have HL1 := Lib.hid (af1_len pl.length (l.getD i arc0) i)
 have HL2 := Lib.hid (af2_len (l.getD i arc0) i)
 have HL3 := Lib.hid (af3_len l (l.getD i arc0) i)
 have HL5 := Lib.hid (af5_len (l.getD i arc0) i)
 have HF1f : Hid ((inB pl.length (l.getD i arc0).fr && inB pl.length (l.getD i arc0).to) = false → af1 pl.length (l.getD i arc0) i = [(11, arcS i)]) := fun h => by unfold af1; rw [h]; rfl
 have HF1t : Hid ((inB pl.length (l.getD i arc0).fr && inB pl.length (l.getD i arc0).to) = true → af1 pl.length (l.getD i arc0) i = []) := fun h => by unfold af1; rw [h]; rfl
 have HF2f : Hid (valB (l.getD i arc0) = false → af2 (l.getD i arc0) i = [(2, arcS i)]) := fun h => by unfold af2; rw [h]; rfl
 have HF2t : Hid (valB (l.getD i arc0) = true → af2 (l.getD i arc0) i = []) := fun h => by unfold af2; rw [h]; rfl
 have HF3f : Hid (twiceB l (l.getD i arc0) i = true → af3 l (l.getD i arc0) i = [(6, arcS i)]) := fun h => by unfold af3; rw [h]; rfl
 have HF3t : Hid (twiceB l (l.getD i arc0) i = false → af3 l (l.getD i arc0) i = []) := fun h => by unfold af3; rw [h]; rfl
 have HF5f : Hid (16 < (l.getD i arc0).sl.length → af5 (l.getD i arc0) i = [(4, arcS i)]) := fun h => if_pos h
 have HF5t : Hid (¬ 16 < (l.getD i arc0).sl.length → af5 (l.getD i arc0) i = []) := fun h => if_neg h
 have HTW := Lib.hid (fun a k (hk : k < l.length) => twice_step (l := l) (a := a) hk)
 have HE : Hid (af1 pl.length (l.getD i arc0) i ++ af2 (l.getD i arc0) i ++ af3 l (l.getD i arc0) i ++ af4 (faults (l.getD i arc0).tr) i ++ af5 (l.getD i arc0) i ++ slF (l.getD i arc0).sl i (l.getD i arc0).sl.length = arF pl.length l i) := rfl
 obtain ⟨i0, hi, hz0, hz1, hz2⟩ := infoF
 obtain ⟨b, o, vt, vs, hoa, hab, ⟨h0, h1, h2, h3, h4, h5⟩, hpt, hps⟩ := ha i hil
 subst hoa
 obtain ⟨ot, ct, hvt, -⟩ := id hpt
 obtain ⟨os, cs, hvs, -⟩ := id hps
 subst hvt
 subst hvs
 have PT := Lib.hid hpt
 have PS := Lib.hid hps
 clear ha hpt hps
 generalize arF pl.length l i = r at *
 generalize af1 pl.length (l.getD i arc0) i = F1 at *
 generalize af2 (l.getD i arc0) i = F2 at *
 generalize af3 l (l.getD i arc0) i = F3 at *
 generalize af5 (l.getD i arc0) i = F5 at *
 have HV1 : Hid ((inB pl.length (l.getD i arc0).fr && inB pl.length (l.getD i arc0).to) = (inB pl.length (l.getD i arc0).fr && inB pl.length (l.getD i arc0).to)) := rfl
 have HO1 : Hid ((decide (0 ≤ (l.getD i arc0).fr) && decide ((l.getD i arc0).fr < pl.length) && (decide (0 ≤ (l.getD i arc0).to) && decide ((l.getD i arc0).to < pl.length))) = (inB pl.length (l.getD i arc0).fr && inB pl.length (l.getD i arc0).to)) := rfl
 have HO2 : Hid ((decide (0 ≤ (l.getD i arc0).prof) && decide ((l.getD i arc0).prof ≤ 7) && decide (0 ≤ (l.getD i arc0).miles) && decide ((l.getD i arc0).miles ≤ 10000) && !decide ((l.getD i arc0).fr = (l.getD i arc0).to)) = valB (l.getD i arc0)) := rfl
 clear HV1
 generalize (inB pl.length (l.getD i arc0).fr && inB pl.length (l.getD i arc0).to) = bo1 at *
 generalize valB (l.getD i arc0) = bo2 at *
 generalize l.getD i arc0 = a at *
 generalize hnn : l.length = n at *
 generalize pl.length = np at *
 have HTW2 := Lib.hid (fun k hk => HTW.out a k hk)
 have HT0 : Hid (twiceB l a 0 = false) := rfl
 obtain ⟨fr, dt, prof, miles, tr, sl⟩ := a
 simp only at h0 h1 h2 h3 h4 h5 PT PS HO1 HO2 HF5f HF5t HE ht9 hs9 HF3f HF3t HF1f HF1t HF2f HF2t
 have KD := Lib.hid (fun w => decimal_n i (by omega) w)
 have hds := dec_size (k := i) (by omega)
 have KC := Lib.hid (fun w hu => refCheck_n (.slice ot tr.length ct) tr ht9 w hu)
 have N0 := Lib.hid (Nb.made w (.slice op np cp) (.slice (some ⟨b, o, none⟩) n c))
 have hiI : (i : Int) < (n : Int) := by omega
 go_enter Tryz.func41, Tryz.ntmps41
 go_wp2_with fail
 refine (KD.out _).mono ?_
 rintro e w2 ⟨rfl, b2⟩
 have B2 := Lib.hid (over (w := w) (by go_grown) b2)
 have N2 := Lib.hid (N0.out.below b2)
 have g0 := N2.out.c0
 have g1 := N2.out.c1
 have d0 := (B2.out.cell (p := ⟨b, _, none⟩) hab).trans h0
 have d1 := (B2.out.cell (p := ⟨b, _, none⟩) hab).trans h1
 have d2 := (B2.out.cell (p := ⟨b, _, none⟩) hab).trans h2
 have d3 := (B2.out.cell (p := ⟨b, _, none⟩) hab).trans h3
 have d4 := (B2.out.cell (p := ⟨b, _, none⟩) hab).trans h4
 have d5 := (B2.out.cell (p := ⟨b, _, none⟩) hab).trans h5
 clear b2 h0 h1 h2 h3 h4 h5 N0
 obtain ⟨W1, hW1⟩ : ∃ W1, w2.alloc (.cells #[.int .i64 fr, .int .i64 dt, .int .i64 prof, .int .i64 miles, .slice ot tr.length ct, .slice os sl.length cs] 74) = W1 := ⟨_, rfl⟩
 obtain ⟨q, hq⟩ : ∃ q, w2.heap.size = q := ⟨_, rfl⟩
 have A1 := Lib.hid (Ab.made w2 (.int .i64 fr) (.int .i64 dt) (.int .i64 prof) (.int .i64 miles) (.slice ot tr.length ct) (.slice os sl.length cs))
 have N1 := Lib.hid (N2.out.below (below_alloc w2 (.cells #[.int .i64 fr, .int .i64 dt, .int .i64 prof, .int .i64 miles, .slice ot tr.length ct, .slice os sl.length cs] 74)))
 have B1 := Lib.hid (over B2.out (below_alloc w2 (.cells #[.int .i64 fr, .int .i64 dt, .int .i64 prof, .int .i64 miles, .slice ot tr.length ct, .slice os sl.length cs] 74)))
 have hsz0 : w.heap.size < W1.heap.size := by rw [← hW1]; have := N2.out.lt; simp; omega
 rw [hW1] at A1 N1 B1
 rw [hq] at A1
 clear N2 B2
 go_upto_region 4 with fail
 clear hW1 hq d0 d1 d2 d3 d4 d5 g0 g1
 have g0 := N1.out.c0
 have g1 := N1.out.c1
 have a0 := A1.out.c0
 have a1 := A1.out.c1
 have a2 := A1.out.c2
 have a3 := A1.out.c3
 have a4 := A1.out.c4
 have a5 := A1.out.c5
 go_cut [46] from 8 (fun v wx => v = .bool (!bo1) ∧ W1 = wx)
 case first => as_aux_lemma =>
  by_cases p1 : 0 ≤ fr
  ·by_cases p2 : fr < np
   ·have p2n : ¬ (np : Int) ≤ fr := by omega
    by_cases p3 : 0 ≤ dt
    ·by_cases p4 : dt < np
     ·have p4n : ¬ (np : Int) ≤ dt := by omega
      have hp : Hid ((!bo1) = false) := by show _ = _; rw [← HO1.out, decide_eq_true p1, decide_eq_true p2, decide_eq_true p3, decide_eq_true p4]; rfl
      go_wp2_with fail
      go_meet
      case rel => exact ⟨congrArg Value.bool (by rw [hp.out] <;> first | rfl | (simp; done) | (simp; omega)), rfl⟩
     ·have p4n : (np : Int) ≤ dt := by omega
      have hp : Hid ((!bo1) = true) := by show _ = _; rw [← HO1.out, decide_eq_false p4] <;> simp
      go_wp2_with fail
      go_meet
      case rel => exact ⟨congrArg Value.bool (by rw [hp.out] <;> first | rfl | (simp; done) | (simp; omega)), rfl⟩
    ·have p3n : dt < 0 := by omega
     have hp : Hid ((!bo1) = true) := by show _ = _; rw [← HO1.out, decide_eq_false p3] <;> simp
     go_wp2_with fail
     go_meet
     case rel => exact ⟨congrArg Value.bool (by rw [hp.out] <;> first | rfl | (simp; done) | (simp; omega)), rfl⟩
   ·have p2n : (np : Int) ≤ fr := by omega
    have hp : Hid ((!bo1) = true) := by show _ = _; rw [← HO1.out, decide_eq_false p2] <;> simp
    go_wp2_with fail
    go_meet
    case rel => exact ⟨congrArg Value.bool (by rw [hp.out] <;> first | rfl | (simp; done) | (simp; omega)), rfl⟩
  ·have p1n : fr < 0 := by omega
   have hp : Hid ((!bo1) = true) := by show _ = _; rw [← HO1.out, decide_eq_false p1] <;> simp
   go_wp2_with fail
   go_meet
   case rel => exact ⟨congrArg Value.bool (by rw [hp.out] <;> first | rfl | (simp; done) | (simp; omega)), rfl⟩
 obtain ⟨rfl, rfl⟩ := hcut
 have HG : Hid (Gl W1.heap.size W1 (.slice none 0 0) []) := Gl.nil _ _
 have HB : Hid (Below W1.heap.size W1 W1) := Below.refl _ _
 have hfl : ([] : List (Int × ByteArray)).length ≤ 0 := Nat.le_refl _
 go_upto_if 46 with fail
 go_cut [5] from 8 (fun v wx => Hid (Gl W1.heap.size wx v (F1)) ∧ Hid (Below W1.heap.size W1 wx))
 case first => as_aux_lemma =>
  cases hb : bo1
  ·have HF := Lib.hid (HF1f.out hb)
   clear hb
   go_wp2_with (at_builtin; refine wpList_append_own _ rfl _ _ 51 rfl W1.heap.size 101 i0 (.agg #[.int .i64 0, .string ⟨#[]⟩]) 2 24 Tryz.underlying51 hi hz0 hz1 hz2 rfl (by decide) _ _ _ rfl (World.ownsRow.alloc HG.out.own _) ⟨W1.heap.size, 0, none⟩ 1 1 [.int .i64 11, .string (⟨#[97, 114, 99, 32]⟩ ++ dec i)] rfl rfl ?q1 ?q2 ?q3 ?q4 ?q5 ?_)
   case q1 => exact two_new _ _ _ _
   case q2 => exact fcells _ _
   case q3 => unfold maxLen; omega
   case q4 => omega
   case q5 => simp <;> omega
   intro v3 w3 hown hgrow _
   have HG3 : Hid (Gl W1.heap.size w3 v3 (F1)) := by show Gl _ _ _ _; rw [HF.out]; exact Gl.more hown
   have HB3 : Hid (Below W1.heap.size W1 w3) := (HB.out.alloc (by omega) _).grown hgrow (by simp <;> omega) (HG.out.blk)
   go_wp2_with fail
   go_meet
   case rel => exact ⟨HG3, HB3⟩
  ·have HF := Lib.hid (HF1t.out hb)
   have HG3 := Lib.hid (HG.out.ext (show [] = F1 by rw [HF.out] <;> simp))
   clear hb
   go_wp2_with fail
   go_meet
   case rel => exact ⟨HG3, HB⟩
 clear HG HB g0 g1 a0 a1 a2 a3 a4 a5
 obtain ⟨HG, HB⟩ := hcut
 have g0 := (N1.out.below HB.out).c0
 have g1 := (N1.out.below HB.out).c1
 have a0 := (A1.out.below HB.out).c0
 have a1 := (A1.out.below HB.out).c1
 have a2 := (A1.out.below HB.out).c2
 have a3 := (A1.out.below HB.out).c3
 have a4 := (A1.out.below HB.out).c4
 have a5 := (A1.out.below HB.out).c5
 have hsz := HB.out.size
 have hfl := HL1.out
 go_upto_region 6 with fail
 go_cut [76] from 8 (fun v wx => v = .bool (!bo2) ∧ wc = wx)
 case first => as_aux_lemma =>
  by_cases p1 : 0 ≤ prof
  ·by_cases p2 : prof ≤ 7
   ·have p2n : ¬ (7 : Int) < prof := by omega
    by_cases p3 : 0 ≤ miles
    ·by_cases p4 : miles ≤ 10000
     ·have p4n : ¬ (10000 : Int) < miles := by omega
      by_cases p5 : fr = dt
      ·have hp : Hid ((!bo2) = true) := by show _ = _; rw [← HO2.out, decide_eq_true p5] <;> simp
       subst p5
       go_wp2_with fail
       go_meet
       case rel => exact ⟨congrArg Value.bool (by rw [hp.out] <;> first | rfl | (simp; done) | (simp; omega)), rfl⟩
      ·have hp : Hid ((!bo2) = false) := by show _ = _; rw [← HO2.out, decide_eq_true p1, decide_eq_true p2, decide_eq_true p3, decide_eq_true p4, decide_eq_false p5]; rfl
       have p5n := ne_eqI p5
       go_wp2_with fail
       go_meet
       case rel => exact ⟨congrArg Value.bool (by rw [hp.out] <;> first | rfl | (simp; done) | (simp; omega)), rfl⟩
     ·have p4n : (10000 : Int) < miles := by omega
      have hp : Hid ((!bo2) = true) := by show _ = _; rw [← HO2.out, decide_eq_false p4] <;> simp
      go_wp2_with fail
      go_meet
      case rel => exact ⟨congrArg Value.bool (by rw [hp.out] <;> first | rfl | (simp; done) | (simp; omega)), rfl⟩
    ·have p3n : miles < 0 := by omega
     have hp : Hid ((!bo2) = true) := by show _ = _; rw [← HO2.out, decide_eq_false p3] <;> simp
     go_wp2_with fail
     go_meet
     case rel => exact ⟨congrArg Value.bool (by rw [hp.out] <;> first | rfl | (simp; done) | (simp; omega)), rfl⟩
   ·have p2n : (7 : Int) < prof := by omega
    have hp : Hid ((!bo2) = true) := by show _ = _; rw [← HO2.out, decide_eq_false p2] <;> simp
    go_wp2_with fail
    go_meet
    case rel => exact ⟨congrArg Value.bool (by rw [hp.out] <;> first | rfl | (simp; done) | (simp; omega)), rfl⟩
  ·have p1n : prof < 0 := by omega
   have hp : Hid ((!bo2) = true) := by show _ = _; rw [← HO2.out, decide_eq_false p1] <;> simp
   go_wp2_with fail
   go_meet
   case rel => exact ⟨congrArg Value.bool (by rw [hp.out] <;> first | rfl | (simp; done) | (simp; omega)), rfl⟩
 obtain ⟨rfl, rfl⟩ := hcut
 go_upto_if 76 with fail
 go_cut [5] from 8 (fun v wx => Hid (Gl W1.heap.size wx v (F1 ++ F2)) ∧ Hid (Below W1.heap.size W1 wx))
 case first => as_aux_lemma =>
  cases hb : bo2
  ·have HF := Lib.hid (HF2f.out hb)
   clear hb
   go_wp2_with (at_builtin; refine wpList_append_own _ rfl _ _ 51 rfl W1.heap.size 101 i0 (.agg #[.int .i64 0, .string ⟨#[]⟩]) 2 24 Tryz.underlying51 hi hz0 hz1 hz2 rfl (by decide) _ _ _ rfl (World.ownsRow.alloc HG.out.own _) ⟨wc.heap.size, 0, none⟩ 1 1 [.int .i64 2, .string (⟨#[97, 114, 99, 32]⟩ ++ dec i)] rfl rfl ?q1 ?q2 ?q3 ?q4 ?q5 ?_)
   case q1 => exact two_new _ _ _ _
   case q2 => exact fcells _ _
   case q3 => unfold maxLen; omega
   case q4 => omega
   case q5 => simp <;> omega
   intro v3 w3 hown hgrow _
   have HG3 : Hid (Gl W1.heap.size w3 v3 (F1 ++ F2)) := by show Gl _ _ _ _; rw [HF.out]; exact Gl.more hown
   have HB3 : Hid (Below W1.heap.size W1 w3) := (HB.out.alloc (by omega) _).grown hgrow (by simp <;> omega) (HG.out.blk)
   go_wp2_with fail
   go_meet
   case rel => exact ⟨HG3, HB3⟩
  ·have HF := Lib.hid (HF2t.out hb)
   have HG3 := Lib.hid (HG.out.ext (show F1 = F1 ++ F2 by rw [HF.out] <;> simp))
   clear hb
   go_wp2_with fail
   go_meet
   case rel => exact ⟨HG3, HB⟩
 clear HG HB g0 g1 a0 a1 a2 a3 a4 a5
 obtain ⟨HG, HB⟩ := hcut
 have g0 := (N1.out.below HB.out).c0
 have g1 := (N1.out.below HB.out).c1
 have a0 := (A1.out.below HB.out).c0
 have a1 := (A1.out.below HB.out).c1
 have a2 := (A1.out.below HB.out).c2
 have a3 := (A1.out.below HB.out).c3
 have a4 := (A1.out.below HB.out).c4
 have a5 := (A1.out.below HB.out).c5
 have hsz := HB.out.size
 have hfl : (F1 ++ F2).length ≤ 2 := by rw [List.length_append]; have := HL2.out; omega
 obtain ⟨P2, hP2⟩ : ∃ P2, F1 ++ F2 = P2 := ⟨_, rfl⟩
 rw [hP2] at HG hfl HE
 clear hP2
 go_wp2_with fail
 go_loopw [8, 9] (fun t j wx => ∃ k : Nat, k ≤ i ∧ j = .int .i64 k ∧ t = .bool (twiceB l ⟨fr, dt, prof, miles, tr, sl⟩ k) ∧ Hid (Below wc.heap.size wc wx)) (fun _ j _ => i - (intOf j).toNat)
 case atStart => exact ⟨0, Nat.zero_le _, rfl, rfl, Below.refl _ _⟩
 case round =>
  clear g0 g1 a0 a1 a2 a3 a4 a5
  obtain ⟨k, hk, rfl, rfl, HV⟩ := hrel
  have HBj := Lib.hid (over HB.out HV.out)
  by_cases hki : k < i
  ·obtain ⟨b', o', vt', vs', hoa', hab', ⟨h0, h1, h2, h3, h4, h5⟩, hpt', hps'⟩ := HA.out k (by omega)
   simp only [Option.some.injEq, Addr.mk.injEq, and_true] at hoa'
   obtain ⟨rfl, rfl⟩ := hoa'
   obtain ⟨ot', ct', rfl, -⟩ := hpt'
   obtain ⟨os', cs', rfl, -⟩ := hps'
   have HQ2 := Lib.hid (HTW2.out k (by omega))
   have hbw := over B1.out HBj.out
   have g0 := (N1.out.below HBj.out).c0
   have g1 := (N1.out.below HBj.out).c1
   have d0 := (hbw.cell (p := ⟨b, _, none⟩) hab).trans h0
   have d1 := (hbw.cell (p := ⟨b, _, none⟩) hab).trans h1
   have d2 := (hbw.cell (p := ⟨b, _, none⟩) hab).trans h2
   have d3 := (hbw.cell (p := ⟨b, _, none⟩) hab).trans h3
   have d4 := (hbw.cell (p := ⟨b, _, none⟩) hab).trans h4
   have d5 := (hbw.cell (p := ⟨b, _, none⟩) hab).trans h5
   clear h0 h1 h2 h3 h4 h5 hbw
   generalize l.getD k arc0 = a' at *
   obtain ⟨fr', dt', prof', miles', tr', sl'⟩ := a'
   simp only at d0 d1 d2 d3 d4 d5
   obtain ⟨W2, hW2⟩ : ∃ W2, wr.alloc (.cells #[.int .i64 fr', .int .i64 dt', .int .i64 prof', .int .i64 miles', .slice ot' tr'.length ct', .slice os' sl'.length cs'] 74) = W2 := ⟨_, rfl⟩
   obtain ⟨q2, hq2⟩ : ∃ q2, wr.heap.size = q2 := ⟨_, rfl⟩
   have e := Ab.made wr (.int .i64 fr') (.int .i64 dt') (.int .i64 prof') (.int .i64 miles') (.slice ot' tr'.length ct') (.slice os' sl'.length cs')
   have hbe := below_alloc wr (.cells #[.int .i64 fr', .int .i64 dt', .int .i64 prof', .int .i64 miles', .slice ot' tr'.length ct', .slice os' sl'.length cs'] 74)
   rw [hW2] at e hbe
   rw [hq2] at e
   have HV2 := Lib.hid (over HV.out hbe)
   have e0 := e.c0
   have e1 := e.c1
   have e2 := e.c2
   have a0 := (A1.out.below (over HBj.out hbe)).c0
   have a1 := (A1.out.below (over HBj.out hbe)).c1
   have a2 := (A1.out.below (over HBj.out hbe)).c2
   clear hbe e HV HBj
   have hkI : (k : Int) < (i : Int) := by omega
   have hkn : (k : Int) < (n : Int) := by omega
   cases hse : twiceB l ⟨fr, dt, prof, miles, tr, sl⟩ k
   ·rw [hse] at HQ2
    by_cases x1 : fr = fr'
    ·by_cases x2 : dt = dt'
     ·by_cases x3 : prof = prof'
      ·have hlk : likeB ⟨fr, dt, prof, miles, tr, sl⟩ ⟨fr', dt', prof', miles', tr', sl'⟩ = true := like_yes x1 x2 x3
       subst x1
       subst x2
       subst x3
       go_wp2_with fail
       go_roundw
       case rel => exact ⟨k + 1, by omega, by go_num, by rw [HQ2.out, hlk] <;> rfl, HV2⟩
       case measure => simp [intOf] <;> omega
      ·have hlk : likeB ⟨fr, dt, prof, miles, tr, sl⟩ ⟨fr', dt', prof', miles', tr', sl'⟩ = false := like_no (.inr (.inr x3))
       have x3n := ne_eqI x3
       subst x1
       subst x2
       go_wp2_with fail
       go_roundw
       case rel => exact ⟨k + 1, by omega, by go_num, by rw [HQ2.out, hlk] <;> rfl, HV2⟩
       case measure => simp [intOf] <;> omega
     ·have hlk : likeB ⟨fr, dt, prof, miles, tr, sl⟩ ⟨fr', dt', prof', miles', tr', sl'⟩ = false := like_no (.inr (.inl x2))
      have x2n := ne_eqI x2
      subst x1
      go_wp2_with fail
      go_roundw
      case rel => exact ⟨k + 1, by omega, by go_num, by rw [HQ2.out, hlk] <;> rfl, HV2⟩
      case measure => simp [intOf] <;> omega
    ·have hlk : likeB ⟨fr, dt, prof, miles, tr, sl⟩ ⟨fr', dt', prof', miles', tr', sl'⟩ = false := like_no (.inl x1)
     have x1n := ne_eqI x1
     go_wp2_with fail
     go_roundw
     case rel => exact ⟨k + 1, by omega, by go_num, by rw [HQ2.out, hlk] <;> rfl, HV2⟩
     case measure => simp [intOf] <;> omega
   ·rw [hse] at HQ2
    go_wp2_with fail
    go_roundw
    case rel => exact ⟨k + 1, by omega, by go_num, by rw [HQ2.out] <;> rfl, HV2⟩
    case measure => simp [intOf] <;> omega
  ·have hki' : k = i := by omega
   subst hki'
   have HG9 := Lib.hid (HG.out.frame HV.out)
   clear HG HB HV
   have HG := HG9
   have HB := HBj
   clear HG9 HBj
   have hsz := HB.out.size
   have g0 := (N1.out.below HB.out).c0
   have g1 := (N1.out.below HB.out).c1
   have a0 := (A1.out.below HB.out).c0
   have a1 := (A1.out.below HB.out).c1
   have a2 := (A1.out.below HB.out).c2
   have a3 := (A1.out.below HB.out).c3
   have a4 := (A1.out.below HB.out).c4
   have a5 := (A1.out.below HB.out).c5
   go_upto_if 114 with fail
   go_cut [5] from 8 (fun v wx => Hid (Gl W1.heap.size wx v (P2 ++ F3)) ∧ Hid (Below W1.heap.size W1 wx))
   case first => as_aux_lemma =>
    cases hb : twiceB l ⟨fr, dt, prof, miles, tr, sl⟩ k
    ·have HF := Lib.hid (HF3t.out hb)
     have HG3 := Lib.hid (HG.out.ext (show P2 = P2 ++ F3 by rw [HF.out] <;> simp))
     clear hb
     go_wp2_with fail
     go_meet
     case rel => exact ⟨HG3, HB⟩
    ·have HF := Lib.hid (HF3f.out hb)
     clear hb
     go_wp2_with (at_builtin; refine wpList_append_own _ rfl _ _ 51 rfl W1.heap.size 101 i0 (.agg #[.int .i64 0, .string ⟨#[]⟩]) 2 24 Tryz.underlying51 hi hz0 hz1 hz2 rfl (by decide) _ _ _ rfl (World.ownsRow.alloc HG.out.own _) ⟨wr.heap.size, 0, none⟩ 1 1 [.int .i64 6, .string (⟨#[97, 114, 99, 32]⟩ ++ dec k)] rfl rfl ?q1 ?q2 ?q3 ?q4 ?q5 ?_)
     case q1 => exact two_new _ _ _ _
     case q2 => exact fcells _ _
     case q3 => unfold maxLen; omega
     case q4 => omega
     case q5 => simp <;> omega
     intro v3 w3 hown hgrow _
     have HG3 : Hid (Gl W1.heap.size w3 v3 (P2 ++ F3)) := by show Gl _ _ _ _; rw [HF.out]; exact Gl.more hown
     have HB3 : Hid (Below W1.heap.size W1 w3) := (HB.out.alloc (by omega) _).grown hgrow (by simp <;> omega) (HG.out.blk)
     go_wp2_with fail
     go_meet
     case rel => exact ⟨HG3, HB3⟩
   clear HG HB g0 g1 a0 a1 a2 a3 a4 a5
   obtain ⟨HG, HB⟩ := hcut
   have g0 := (N1.out.below HB.out).c0
   have g1 := (N1.out.below HB.out).c1
   have a0 := (A1.out.below HB.out).c0
   have a1 := (A1.out.below HB.out).c1
   have a2 := (A1.out.below HB.out).c2
   have a3 := (A1.out.below HB.out).c3
   have a4 := (A1.out.below HB.out).c4
   have a5 := (A1.out.below HB.out).c5
   have hsz := HB.out.size
   have hfl : (P2 ++ F3).length ≤ 3 := by rw [List.length_append]; have := HL3.out; omega
   obtain ⟨P3, hP3⟩ : ∃ P3, P2 ++ F3 = P3 := ⟨_, rfl⟩
   rw [hP3] at HG hfl HE
   clear hP3
   have PT1 := Lib.hid (PT.out.below (over B1.out HB.out))
   go_wp2_with fail
   refine (KC.out _ PT1.out).mono ?_
   rintro e w5 ⟨oL, cL, rfl, ⟨hFs, hGl, -⟩, b5⟩
   have hfr := fun k (hk : (Value.slice oL (faults tr).length cL).ownBlock = some k) => hGl.blk k hk
   have hlt5 := fun kb (h : u5.ownBlock = some kb) => (World.ownsRow.lt HG.out.own _ h).2
   have hsp : Hid (∀ bb oo, oL = some ⟨bb, oo, none⟩ → some bb ≠ u5.ownBlock) := fun bb oo h1 h2 => by
    subst h1
    have := hfr bb rfl
    have := hlt5 bb h2.symm
    omega
   have HF0 := Lib.hid hFs
   have HG5 := Lib.hid (HG.out.frame b5)
   have HB5 := Lib.hid (over HB.out b5)
   have hfl4 : Hid ((faults tr).length ≤ 2000001) := by show _ ≤ _; have := flt_len tr tr.length; unfold faults; omega
   have HA4 := Lib.hid (fun m (hm : m < (faults tr).length) => af4_step (l := faults tr) (i := k) hm)
   have HA0 : Hid (P3 ++ af4 ((faults tr).take 0) k = P3) := List.append_nil _
   have HAn : Hid (af4 ((faults tr).take (faults tr).length) k = af4 (faults tr) k) := by show _ = _; rw [List.take_length]
   have HAl := Lib.hid (fun m (hm : m ≤ (faults tr).length) => af4_len (l := faults tr) (i := k) hm)
   clear b5 hFs hfr hGl hlt5 PT1 HG HB g0 g1 a0 a1 a2 a3 a4 a5 KC hsz
   generalize faults tr = FL at *
   generalize hnf : FL.length = nf at *
   go_wp2_with fail
   go_loopw [5, 12] (fun v j wx => ∃ m : Nat, m ≤ nf ∧ j = .int .i64 m ∧ Hid (Gl W1.heap.size wx v (P3 ++ af4 (FL.take m) k)) ∧ Hid (Below W1.heap.size W1 wx) ∧ Hid (Fs wx (.slice oL nf cL) FL) ∧ Hid (∀ bb oo, oL = some ⟨bb, oo, none⟩ → some bb ≠ v.ownBlock)) (fun _ j _ => nf - (intOf j).toNat)
   case atStart => exact ⟨0, Nat.zero_le _, rfl, HG5.out.ext HA0.out.symm, HB5, HF0, hsp⟩
   case round =>
    clear HG5 HB5 HF0 hsp
    obtain ⟨m, hm, rfl, HG, HB, HFs, HSp⟩ := hrel
    have hsz := HB.out.size
    by_cases hmn : m < nf
    ·obtain ⟨oL2, cL2, hvL, hL⟩ := id HFs.out
     simp only [Value.slice.injEq] at hvL
     obtain ⟨rfl, -, rfl⟩ := hvL
     obtain ⟨bL, oo, hoL, hbl, k0, k1⟩ := hL m (by omega)
     subst hoL
     have HA5 := Lib.hid (HA4.out m hmn)
     have hal := HAl.out m hm
     have hal2 : (P3 ++ af4 (FL.take m) k).length ≤ 3 + m := by rw [List.length_append]; omega
     have hnf9 := hfl4.out
     clear hL k1
     unfold fE at k0
     generalize FL.getD m (0, ⟨#[]⟩) = y at *
     obtain ⟨yc, ys⟩ := y
     simp only at k0
     have HX : Hid (P3 ++ af4 (FL.take (m + 1)) k = P3 ++ af4 (FL.take m) k ++ [(yc, arcS k)]) := by show _ = _; rw [HA5.out, List.append_assoc]
     generalize P3 ++ af4 (FL.take m) k = Q at *
     have hmI : (m : Int) < (nf : Int) := by omega
     go_wp2_with (at_builtin; refine wpList_append_own_at _ rfl _ _ 51 rfl W1.heap.size 101 i0 (.agg #[.int .i64 0, .string ⟨#[]⟩]) 2 24 Tryz.underlying51 hi hz0 hz1 hz2 rfl (by decide) _ _ _ rfl (World.ownsRow.alloc HG.out.own _) ⟨wr.heap.size, 0, none⟩ 1 1 [.int .i64 yc, .string (⟨#[97, 114, 99, 32]⟩ ++ dec k)] rfl rfl (two_new _ _ _ _) (fcells _ _) (by unfold maxLen; omega) (by omega) (by simp <;> omega) ?_)
     intro v3 w3 hown hgrow _ hat
     have HG3 : Hid (Gl W1.heap.size w3 v3 (P3 ++ af4 (FL.take (m + 1)) k)) := by show Gl _ _ _ _; rw [HX.out]; exact Gl.more hown
     have HB3 : Hid (Below W1.heap.size W1 w3) := (HB.out.alloc (by omega) _).grown hgrow (by simp <;> omega) (HG.out.blk)
     have HF3 := Lib.hid (fs_ext hnf ((fs_ext2 hnf (HFs.out.below (below_alloc wr (.cells #[.int .i64 yc, .string (⟨#[97, 114, 99, 32]⟩ ++ dec k)] 101)))).grown hgrow HSp.out))
     have HS3 : Hid (∀ bb oo', some (⟨bL, oo, none⟩ : Addr) = some ⟨bb, oo', none⟩ → some bb ≠ v3.ownBlock) := fun bb oo' h1 h2 => by
      rcases hat with h | h
      ·exact HSp.out bb oo' h1 (h2.trans h)
      ·rw [h] at h2
       simp only [Option.some.injEq, Addr.mk.injEq] at h1 h2
       have := h1.1
       first | omega | (simp at h2; omega)
     clear hown hgrow hat
     go_wp2_with fail
     go_roundw
     case rel => exact ⟨m + 1, by omega, by go_num, HG3, HB3, HF3, HS3⟩
     case measure => simp [intOf] <;> omega
    ·have hmn' : m = nf := by omega
     subst hmn'
     have HGx := Lib.hid (HG.out.ext (show P3 ++ af4 (FL.take m) k = P3 ++ af4 FL k by rw [HAn.out]))
     have hal := HAl.out m (Nat.le_refl _)
     have hal9 := hfl4.out
     have hfl : (P3 ++ af4 FL k).length ≤ 2000010 := by rw [List.length_append, ← HAn.out]; omega
     obtain ⟨P4, hP4⟩ : ∃ P4, P3 ++ af4 FL k = P4 := ⟨_, rfl⟩
     rw [hP4] at HGx hfl HE
     clear hP4 HG HFs HSp HA4 HAn HAl HA0 hfl4 hal hal9
     have HG := HGx
     clear HGx
     have g0 := (N1.out.below HB.out).c0
     have g1 := (N1.out.below HB.out).c1
     have a0 := (A1.out.below HB.out).c0
     have a1 := (A1.out.below HB.out).c1
     have a2 := (A1.out.below HB.out).c2
     have a3 := (A1.out.below HB.out).c3
     have a4 := (A1.out.below HB.out).c4
     have a5 := (A1.out.below HB.out).c5
     go_upto_if 142 with fail
     go_cut [5] from 8 (fun v wx => Hid (Gl W1.heap.size wx v (P4 ++ F5)) ∧ Hid (Below W1.heap.size W1 wx))
     case first => as_aux_lemma =>
      by_cases hb : 16 < sl.length
      ·have hbI : (16 : Int) < (sl.length : Int) := by omega
       have HF := Lib.hid (HF5f.out hb)
       clear hb
       go_wp2_with (at_builtin; refine wpList_append_own _ rfl _ _ 51 rfl W1.heap.size 101 i0 (.agg #[.int .i64 0, .string ⟨#[]⟩]) 2 24 Tryz.underlying51 hi hz0 hz1 hz2 rfl (by decide) _ _ _ rfl (World.ownsRow.alloc HG.out.own _) ⟨wr.heap.size, 0, none⟩ 1 1 [.int .i64 4, .string (⟨#[97, 114, 99, 32]⟩ ++ dec k)] rfl rfl ?q1 ?q2 ?q3 ?q4 ?q5 ?_)
       case q1 => exact two_new _ _ _ _
       case q2 => exact fcells _ _
       case q3 => unfold maxLen; omega
       case q4 => omega
       case q5 => simp <;> omega
       intro v3 w3 hown hgrow _
       have HG3 : Hid (Gl W1.heap.size w3 v3 (P4 ++ F5)) := by show Gl _ _ _ _; rw [HF.out]; exact Gl.more hown
       have HB3 : Hid (Below W1.heap.size W1 w3) := (HB.out.alloc (by omega) _).grown hgrow (by simp <;> omega) (HG.out.blk)
       go_wp2_with fail
       go_meet
       case rel => exact ⟨HG3, HB3⟩
      ·have hbI : ¬ (16 : Int) < (sl.length : Int) := by omega
       have HF := Lib.hid (HF5t.out hb)
       have HG3 := Lib.hid (HG.out.ext (show P4 = P4 ++ F5 by rw [HF.out] <;> simp))
       clear hb
       go_wp2_with fail
       go_meet
       case rel => exact ⟨HG3, HB⟩
     clear HG HB g0 g1 a0 a1 a2 a3 a4 a5
     obtain ⟨HG, HB⟩ := hcut
     have g0 := (N1.out.below HB.out).c0
     have g1 := (N1.out.below HB.out).c1
     have a0 := (A1.out.below HB.out).c0
     have a1 := (A1.out.below HB.out).c1
     have a2 := (A1.out.below HB.out).c2
     have a3 := (A1.out.below HB.out).c3
     have a4 := (A1.out.below HB.out).c4
     have a5 := (A1.out.below HB.out).c5
     have hsz := HB.out.size
     have hfl : (P4 ++ F5).length ≤ 2000011 := by rw [List.length_append]; have := HL5.out; omega
     obtain ⟨P5, hP5⟩ : ∃ P5, P4 ++ F5 = P5 := ⟨_, rfl⟩
     rw [hP5] at HG hfl HE
     clear hP5
     have HZ0 : Hid (P5 ++ slF sl k 0 = P5) := List.append_nil _
     have HZS : Hid (∀ m, slF sl k (m + 1) = slF sl k m ++ af6 sl k m) := fun _ => rfl
     have HZl := Lib.hid (slF_len sl k)
     have HZt : Hid (∀ m, slowB sl m = true → af6 sl k m = []) := fun m h => by unfold af6; rw [h]; rfl
     have HZf : Hid (∀ m, slowB sl m = false → af6 sl k m = [(2, arcS k)]) := fun m h => by unfold af6; rw [h]; rfl
     have hflx := Lib.hid hfl
     obtain ⟨oS, cS, hvS, hS⟩ := id PS.out
     simp only [Value.slice.injEq] at hvS
     obtain ⟨rfl, -, rfl⟩ := hvS
     have HSl := Lib.hid hS
     clear hS
     obtain ⟨ns, hns⟩ : ∃ ns, sl.length = ns := ⟨_, rfl⟩
     go_wp2_with fail
     go_loopg [5, 13] sl.length (fun g v j wx => ∃ m : Nat, m ≤ sl.length ∧ j = .int .i64 m ∧ sl.length - m ≤ g ∧ Hid (Gl W1.heap.size wx v (P5 ++ slF sl k m)) ∧ Hid (Below W1.heap.size W1 wx))
     case atStart => exact ⟨0, Nat.zero_le _, rfl, Nat.le_refl _, HG.out.ext HZ0.out.symm, HB⟩
     case round =>
      clear HG HB g0 g1 a0 a1 a2 a3 a4 a5 HZ0
      obtain ⟨m, hm, rfl, hg, HG, HB⟩ := hrel
      have hsz := HB.out.size
      have a5 := (A1.out.below HB.out).c5
      by_cases hmn : m < sl.length
      ·obtain ⟨b3, o3, hos3, hb3, k0, k1⟩ := HSl.out m hmn
       subst hos3
       have hbw := over B1.out HB.out
       unfold pT at k0
       unfold pA at k1
       obtain ⟨x, y, hxy⟩ : ∃ x y, sl.getD m (0, 0) = (x, y) := ⟨_, _, rfl⟩
       rw [hxy] at k0 k1
       simp only at k0 k1
       have d0 := (hbw.cell (p := ⟨b3, _, none⟩) hb3).trans k0
       have d1 := (hbw.cell (p := ⟨b3, _, none⟩) hb3).trans k1
       obtain ⟨W3, hW3⟩ : ∃ W3, wr.alloc (.cells #[.int .i64 x, .int .i64 y] 71) = W3 := ⟨_, rfl⟩
       obtain ⟨q3, hq3⟩ : ∃ q3, wr.heap.size = q3 := ⟨_, rfl⟩
       have hbe := below_alloc wr (.cells #[.int .i64 x, .int .i64 y] 71)
       have p0 : W3.cell? ⟨q3, 0, none⟩ = some (.int .i64 x) := by rw [← hW3, ← hq3]; simp
       have p1 : W3.cell? ⟨q3, 1, none⟩ = some (.int .i64 y) := by rw [← hW3, ← hq3]; simp
       rw [hW3] at hbe
       have HB3 := Lib.hid (over HB.out hbe)
       have HG3 := Lib.hid (HG.out.frame hbe)
       have a5' := (A1.out.below HB3.out).c5
       have HPrev : Hid (∀ z, m = z + 1 → ∃ x0, (sl.getD z (0, 0)).1 = x0 ∧ W3.cell? ⟨b3, o3 + z * 2, none⟩ = some (.int .i64 x0)) := fun z hz => by
        obtain ⟨b4, o4, hos4, hb4, k2, -⟩ := HSl.out z (by omega)
        simp only [Option.some.injEq, Addr.mk.injEq, and_true] at hos4
        obtain ⟨rfl, rfl⟩ := hos4
        exact ⟨_, rfl, ((over B1.out HB3.out).cell (p := ⟨b3, _, none⟩) hb4).trans k2⟩
       have KT1 := Lib.hid (fun w => refTick_n x w)
       have KT2 := Lib.hid (fun w => refTick_n y w)
       have HS2 := Lib.hid (HZS.out m)
       have hzl := HZl.out m
       have hzl2 : (P5 ++ slF sl k m).length ≤ 2000011 + m := by rw [List.length_append]; have := hflx.out; omega
       have hns9 := hs9
       have hmI : (m : Int) < (sl.length : Int) := by omega
       clear k0 k1 hbe hbw HB HG
       go_wp2_with fail
       clear hW3 d0 d1 a5
       go_cut [185, 5, 13] from 148 to 190 (fun t v j wx => t = .bool (!slowB sl m) ∧ v = u5 ∧ j = .int .i64 m ∧ ∃ z, wx = W3.drewN z)
       case first => as_aux_lemma =>
        cases t1 : tickB x
        ·rw [t1] at KT1
         have hp : Hid ((!slowB sl m) = true) := by show _ = _; unfold slowB; rw [hxy, t1]; rfl
         clear hxy t1 HPrev
         go_quiet (first | (go_at_call 62; exact quiet_eq (KT1.out _)) | (go_at_call 62; exact quiet_eq (KT2.out _)))
         go_wp2_with fail
         go_meet
         case rel => exact ⟨congrArg Value.bool (by rw [hp.out] <;> first | rfl | (simp; done) | (simp; omega)), rfl, rfl, _, rfl⟩
        ·rw [t1] at KT1
         cases t2 : tickB y
         ·rw [t2] at KT2
          have hp : Hid ((!slowB sl m) = true) := by show _ = _; unfold slowB; rw [hxy, t1, t2]; rfl
          clear hxy t1 t2 HPrev
          go_quiet (first | (go_at_call 62; exact quiet_eq (KT1.out _)) | (go_at_call 62; exact quiet_eq (KT2.out _)))
          go_wp2_with fail
          go_meet
          case rel => exact ⟨congrArg Value.bool (by rw [hp.out] <;> first | rfl | (simp; done) | (simp; omega)), rfl, rfl, _, rfl⟩
         ·rw [t2] at KT2
          cases m with
          | zero =>
           have hp : Hid ((!slowB sl 0) = false) := by show _ = _; unfold slowB; rw [hxy, t1, t2]; rfl
           clear hxy t1 t2 HPrev
           go_quiet (first | (go_at_call 62; exact quiet_eq (KT1.out _)) | (go_at_call 62; exact quiet_eq (KT2.out _)))
           go_wp2_with fail
           go_meet
           case rel => exact ⟨congrArg Value.bool (by rw [hp.out] <;> first | rfl | (simp; done) | (simp; omega)), rfl, rfl, _, rfl⟩
          | succ z =>
           obtain ⟨x0, hx0, d2⟩ := HPrev.out z rfl
           have hz1 : (0 : Int) < (z : Int) + 1 := by omega
           have hz2 : (0 : Int) ≤ (z : Int) := by omega
           have hz3 : (z : Int) < (sl.length : Int) := by omega
           have hwz : IntKind.i64.wrap (z : Int) = (z : Int) := IntWalk.i64_in _ (by omega)
           by_cases hxx : x ≤ x0
           ·have hp : Hid ((!slowB sl (z + 1)) = true) := by show _ = _; unfold slowB; rw [hxy, t1, t2, show z + 1 - 1 = z from rfl, hx0]; simp [hxx]
            have hxd : decide (x ≤ x0) = true := decide_eq_true hxx
            clear hxy t1 t2 hx0 HPrev
            go_quiet (first | (go_at_call 62; exact quiet_eq (KT1.out _)) | (go_at_call 62; exact quiet_eq (KT2.out _)))
            go_wp2_with fail
            go_meet
            case rel => exact ⟨congrArg Value.bool (by rw [hp.out] <;> first | rfl | (simp; done) | (simp; omega)), rfl, rfl, _, rfl⟩
           ·have hp : Hid ((!slowB sl (z + 1)) = false) := by show _ = _; unfold slowB; rw [hxy, t1, t2, show z + 1 - 1 = z from rfl, hx0]; simp [hxx]
            have hxd : decide (x ≤ x0) = false := decide_eq_false hxx
            clear hxy t1 t2 hx0 HPrev
            go_quiet (first | (go_at_call 62; exact quiet_eq (KT1.out _)) | (go_at_call 62; exact quiet_eq (KT2.out _)))
            go_wp2_with fail
            go_meet
            case rel => exact ⟨congrArg Value.bool (by rw [hp.out] <;> first | rfl | (simp; done) | (simp; omega)), rfl, rfl, _, rfl⟩
       obtain ⟨rfl, rfl, rfl, z, hwz⟩ := hcut
       have HBc : Hid (Below W1.heap.size W1 wc) := by show Below _ _ _; rw [hwz]; exact below_drewN HB3.out _
       have HGc : Hid (Gl W1.heap.size wc u5 (P5 ++ slF sl k m)) := Gl.toDrew HG3.out hwz
       have hszc := HBc.out.size
       clear hwz HB3 HG3 a5' p0 p1 KT1 KT2 HPrev hq3 hsz
       cases hsb : slowB sl m
       ·have HX : Hid (P5 ++ slF sl k (m + 1) = P5 ++ slF sl k m ++ [(2, arcS k)]) := by show _ = _; rw [HS2.out, HZf.out m hsb, List.append_assoc]
        clear hsb
        generalize P5 ++ slF sl k m = Q at *
        go_wp2_with (at_builtin; refine wpList_append_own _ rfl _ _ 51 rfl W1.heap.size 101 i0 (.agg #[.int .i64 0, .string ⟨#[]⟩]) 2 24 Tryz.underlying51 hi hz0 hz1 hz2 rfl (by decide) _ _ _ rfl (World.ownsRow.alloc HGc.out.own _) ⟨wc.heap.size, 0, none⟩ 1 1 [.int .i64 2, .string (⟨#[97, 114, 99, 32]⟩ ++ dec k)] rfl rfl ?q1 ?q2 ?q3 ?q4 ?q5 ?_)
        case q1 => exact two_new _ _ _ _
        case q2 => exact fcells _ _
        case q3 => unfold maxLen; omega
        case q4 => omega
        case q5 => simp <;> omega
        intro v3 w3 hown hgrow _
        have HG3 : Hid (Gl W1.heap.size w3 v3 (P5 ++ slF sl k (m + 1))) := by show Gl _ _ _ _; rw [HX.out]; exact Gl.more hown
        have HB3 : Hid (Below W1.heap.size W1 w3) := (HBc.out.alloc (by omega) _).grown hgrow (by simp <;> omega) (HGc.out.blk)
        clear hown hgrow
        go_wp2_with fail
        go_roundg (sl.length - (m + 1))
        case measure => omega
        case rel => exact ⟨m + 1, by omega, by go_num, by omega, HG3, HB3⟩
       ·have HX := Lib.hid (HGc.out.ext (show P5 ++ slF sl k m = P5 ++ slF sl k (m + 1) by rw [HS2.out, HZt.out m hsb, List.append_nil]))
        clear hsb
        go_wp2_with fail
        go_roundg (sl.length - (m + 1))
        case measure => omega
        case rel => exact ⟨m + 1, by omega, by go_num, by omega, HX, HBc⟩
      ·have hmn' : m = sl.length := by omega
       have HR : Hid (P5 ++ slF sl k m = r) := by show _ = _; rw [hmn']; exact HE.out
       go_wp2_with fail
       go_ret
       exact chkP (HR.out ▸ HG.out) (over B1.out HB.out) (Nat.le_of_lt hsz0)

end Go.Proofs.YtomebalolmabnaaGreatDoor.T




