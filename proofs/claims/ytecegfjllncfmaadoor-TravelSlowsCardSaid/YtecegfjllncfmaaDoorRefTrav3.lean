/-
  DERIVED. The walk of lorryref07's Slower; of the laws' points.
-/
import Derived.Test.YtecegfjllncfmaaDoorRefTrav2
namespace Go.Proofs.YtecegfjllncfmaaDoor.T
open Go.RowKit
set_option maxRecDepth 8000

theorem refSlower_arg (u : Value) (l : List (Int × Int)) (f n : Int) (hl : l.length ≤ 100) (h : ¬ (okB l = true ∧ tickB f = true ∧ tickB n = true)) (w : World) (hu : Ps w u l) :
    Calls Tryd.prog 17 #[u, .int .i64 f, .int .i64 n] w (SlP (slowL l f n) (slowE l f n) w) := by
  have HE := Lib.hid (slowE_arg h)
  have HL := Lib.hid (slowL_no HE.out (by decide))
  generalize slowL l f n = rl at *
  generalize slowE l f n = re at *
  cases h1 : okB l
  · have K := Lib.hid (refCheck_no u l hl h1 w hu)
    clear h hu h1
    go_enter Tryd.func17, Tryd.ntmps17
    go_wp2_with fail
    refine K.out.mono ?_
    rintro e w1 ⟨oa, m, c, rfl, b1⟩
    have hm : (0 : Int) < ((m + 1 : Nat) : Int) := by omega
    go_wp2_with fail
    go_ret2
    exact slP_none HL.out HE.out b1
  · have K := Lib.hid (refCheck_yes u l hl h1 w hu)
    have hfn : ¬ (tickB f = true ∧ tickB n = true) := fun hh => h ⟨h1, hh.1, hh.2⟩
    rw [tickB_iff, tickB_iff] at hfn
    clear h hu h1
    by_cases f0 : f < 0
    · go_enter Tryd.func17, Tryd.ntmps17
      go_wp2_with fail
      refine K.out.mono ?_
      rintro e w1 ⟨oa, c, rfl, b1⟩
      go_wp2_with fail
      go_ret2
      exact slP_none HL.out HE.out b1
    · by_cases f1 : 4096 < f
      · go_enter Tryd.func17, Tryd.ntmps17
        go_wp2_with fail
        refine K.out.mono ?_
        rintro e w1 ⟨oa, c, rfl, b1⟩
        go_wp2_with fail
        go_ret2
        exact slP_none HL.out HE.out b1
      · by_cases n0 : n < 0
        · go_enter Tryd.func17, Tryd.ntmps17
          go_wp2_with fail
          refine K.out.mono ?_
          rintro e w1 ⟨oa, c, rfl, b1⟩
          go_wp2_with fail
          go_ret2
          exact slP_none HL.out HE.out b1
        · have n1 : 4096 < n := by omega
          go_enter Tryd.func17, Tryd.ntmps17
          go_wp2_with fail
          refine K.out.mono ?_
          rintro e w1 ⟨oa, c, rfl, b1⟩
          go_wp2_with fail
          go_ret2
          exact slP_none HL.out HE.out b1

set_option maxHeartbeats 1600000 in
theorem refSlower_yes (u : Value) (l : List (Int × Int)) (f n : Int) (hl : l.length ≤ 100) (hok : okB l = true) (hf0 : 0 ≤ f) (hf1 : f ≤ 4096) (hn0 : 0 ≤ n) (hn1 : n ≤ 4096) (w : World) (hu : Ps w u l) :
    Calls Tryd.prog 17 #[u, .int .i64 f, .int .i64 n] w (SlP (slowL l f n) (slowE l f n) w) := by
  have h := (okB_iff l).1 hok
  have K := Lib.hid (refCheck_yes u l hl hok w hu)
  have HU := Lib.hid hu
  have hall : okB l = true ∧ tickB f = true ∧ tickB n = true := ⟨hok, (tickB_iff f).2 ⟨hf0, hf1⟩, (tickB_iff n).2 ⟨hn0, hn1⟩⟩
  have E1 := Lib.hid (fun h2 => slowE_size hall h2)
  have E2 := Lib.hid (fun h2 h3 => slowE_long hall h2 h3)
  have E3 := Lib.hid (fun h2 h3 => slowE_ok hall h2 h3)
  have L1 := Lib.hid (fun x h hx => slowL_no (l := l) (f := f) (n := n) (x := x) h hx)
  have L2 := Lib.hid (fun h => slowL_ok (l := l) (f := f) (n := n) h)
  have SO := Lib.hid (fun hlen => slow_okB h hf0 hf1 hn0 hlen)
  have hS9 := slow_len l f n
  clear hall hok
  obtain ⟨oa, c, rfl, ha⟩ := hu
  have HA := Lib.hid ha
  have HG0 := Lib.hid (fun i (hi : i < l.length) => h.at hi)
  have hm := h.most
  have SB1 := Lib.hid (fun k (hk : k < l.length) h => sBef_yes (f := f) hk h)
  have SB2 := Lib.hid (fun k (hk : k < l.length) h => sBef_no (f := f) hk h)
  have SA1 := Lib.hid (fun k (hk : k < l.length) h => sAft_yes (f := f) (n := n) hk h)
  have SA2 := Lib.hid (fun k (hk : k < l.length) h => sAft_no (f := f) (n := n) hk h)
  have LB := Lib.hid (sBef_len l f)
  have LA := Lib.hid (sAft_len l f n)
  have LM := Lib.hid (sMid_len l f n)
  have HM : Hid (sBef l f l.length ++ sOne l f ++ [(f, arr l f + n)] = sMid l f n) := rfl
  have HR : Hid (sMid l f n ++ sAft l f n l.length = slow l f n) := rfl
  have KA := Lib.hid (fun w hu => refArrive_n (.slice oa l.length c) l f hl w hu)
  rw [arrF_yes h hf0 (by omega)] at KA
  have KB : Hid (0 < f → ∀ w, Ps w (.slice oa l.length c) l → Calls Tryd.prog 15 #[.slice oa l.length c, .int .i64 (f - 1)] w fun e w' => e = .returned (.int .i64 (arr l (f - 1))) ∧ Below w.heap.size w w') := by
    intro h0 w hu
    have := refArrive_n (.slice oa l.length c) l (f - 1) hl w hu
    rw [arrF_yes h (t := f - 1) (by omega) (by omega)] at this
    exact this
  have HO1 : Hid (0 < f → sOne l f = [(f - 1, arr l (f - 1))]) := fun h => if_pos h
  have HO2 : Hid (¬ 0 < f → sOne l f = []) := fun h => if_neg h
  have hqa := arr_ge h hf0
  have BZ : Hid (sBef l f 0 = []) := rfl
  have AZ : Hid (sAft l f n 0 = []) := rfl
  generalize slowL l f n = rl at *
  generalize slowE l f n = re at *
  generalize slow l f n = r at *
  generalize arr l f = q1 at *
  generalize arr l (f - 1) = q0 at *
  obtain ⟨i0, hi, hz0, hz1, hz2⟩ := infoP
  generalize hn : l.length = N at *
  clear ha hn h
  go_enter Tryd.func17, Tryd.ntmps17
  go_wp2_with fail
  refine K.out.mono ?_
  rintro e w1 ⟨oa1, c1, rfl, b1⟩
  have B1 := Lib.hid b1
  have G0 : Hid (Gq w.heap.size w1 (.slice none 0 0) (sBef l f 0)) := BZ.out ▸ Gq.nil _ _
  clear b1 K
  go_wp2_with fail
  go_loopw [8, 9] (fun v i wr => ∃ k : Nat, k ≤ N ∧ i = .int .i64 k ∧ Hid (Gq w.heap.size wr v (sBef l f k)) ∧ Hid (Below w.heap.size w wr)) (fun _ i _ => N - (intOf i).toNat)
  case atStart => exact ⟨0, Nat.zero_le _, rfl, G0, B1⟩
  case round =>
    clear G0 B1
    obtain ⟨k, hk, rfl, HG, HW⟩ := hrel
    by_cases hlt : k < N
    · obtain ⟨b, o, rfl, hab, hc0, hc1⟩ := HA.out k hlt
      have d0 := (HW.out.cell (p := ⟨b, o + k * 2, none⟩) hab).trans hc0
      have d1 := (HW.out.cell (p := ⟨b, o + k * 2 + 1, none⟩) hab).trans hc1
      unfold pT at d0
      unfold pA at d1
      have hlb := LB.out k
      have SB3 := Lib.hid (SB1.out k hlt)
      have SB4 := Lib.hid (SB2.out k hlt)
      have hsz := HW.out.size
      generalize l.getD k (0, 0) = q at *
      obtain ⟨x, y⟩ := q
      simp only at d0 d1 SB3 SB4
      clear hc0 hc1
      have HGA := HG
      have HWA := HW
      by_cases hx : x < f - 1
      · have HS := Lib.hid (SB3.out hx)
        go_wp2_with (at_builtin; refine wpList_append_own _ rfl _ _ 22 rfl w.heap.size 38 i0 (.agg #[.int .i64 0, .int .i64 0]) 2 16 Tryd.underlying22 hi hz0 hz1 hz2 rfl (by decide) _ _ _ rfl (World.ownsRow.alloc HGA.out.own _) ⟨wr.heap.size, 0, none⟩ 1 1 [.int .i64 x, .int .i64 y] rfl rfl ?q1 ?q2 ?q3 ?q4 ?q5 ?_)
        case q1 => exact two_new _ _ _ _
        case q2 => exact pcells _ _
        case q3 => unfold maxLen; omega
        case q4 => omega
        case q5 => simp; omega
        intro v3 w3 hown hgrow _
        have HG3 : Hid (Gq w.heap.size w3 v3 (sBef l f (k + 1))) := by show Gq _ _ _ _; rw [HS.out]; exact Gq.more hown
        have HB3 : Hid (Below w.heap.size w w3) := (HWA.out.alloc hsz _).grown hgrow (by simp; omega) (HG.out.blk)
        clear hown hgrow
        go_wp2_with fail
        go_roundw
        case rel => exact ⟨k + 1, by omega, by go_num, HG3, HB3⟩
        case measure => simp [intOf]; omega
      · have HS := Lib.hid (SB4.out (by omega))
        have HG3 : Hid (Gq w.heap.size wr u8 (sBef l f (k + 1))) := by show Gq _ _ _ _; rw [HS.out]; exact HGA.out
        go_wp2_with fail
        go_roundw
        case rel => exact ⟨k + 1, by omega, by go_num, HG3, HWA⟩
        case measure => simp [intOf]; omega
    · have hk' : k = N := by omega
      subst hk'
      have hlb := LB.out k
      have HU1 := Lib.hid (HU.out.below HW.out)
      have hsz := HW.out.size
      go_upto_if 53 with fail
      go_cut [8] from 52 (fun v wx => Hid (Gq w.heap.size wx v (sBef l f k ++ sOne l f)) ∧ Hid (Below w.heap.size w wx))
      case first =>
        by_cases hp : 0 < f
        · have HS := Lib.hid (HO1.out hp)
          have KB2 := Lib.hid (KB.out hp)
          go_wp2_with fail
          refine (KB2.out _ HU1.out).mono ?_
          rintro e w1 ⟨rfl, b1⟩
          have HG1 := Lib.hid (HG.out.frame b1)
          have HB1 := Lib.hid (HW.out.trans (b1.mono hsz))
          have hsz1 := HB1.out.size
          clear b1
          go_wp2_with (at_builtin; refine wpList_append_own _ rfl _ _ 22 rfl w.heap.size 38 i0 (.agg #[.int .i64 0, .int .i64 0]) 2 16 Tryd.underlying22 hi hz0 hz1 hz2 rfl (by decide) _ _ _ rfl (World.ownsRow.alloc HG1.out.own _) ⟨w1.heap.size, 0, none⟩ 1 1 [.int .i64 (f - 1), .int .i64 q0] rfl rfl ?q1 ?q2 ?q3 ?q4 ?q5 ?_)
          case q1 => exact two_new _ _ _ _
          case q2 => exact pcells _ _
          case q3 => unfold maxLen; omega
          case q4 => omega
          case q5 => simp; omega
          intro v3 w3 hown hgrow _
          have HG3 : Hid (Gq w.heap.size w3 v3 (sBef l f k ++ sOne l f)) := by show Gq _ _ _ _; rw [HS.out]; exact Gq.more hown
          have HB3 : Hid (Below w.heap.size w w3) := (HB1.out.alloc (by omega) _).grown hgrow (by simp; omega) (HG1.out.blk)
          clear hown hgrow
          go_wp2_with fail
          go_meet
          case rel => exact ⟨HG3, HB3⟩
        · have HS := Lib.hid (HO2.out (by omega))
          have HG3 : Hid (Gq w.heap.size wr u8 (sBef l f k ++ sOne l f)) := by show Gq _ _ _ _; rw [HS.out, List.append_nil]; exact HG.out
          go_wp2_with fail
          go_meet
          case rel => exact ⟨HG3, HW⟩
      clear HG HW HU1 hsz
      obtain ⟨HG, HW⟩ := hcut
      have hlm := LM.out
      have hlb2 : (sBef l f k ++ sOne l f).length ≤ 17 := by
        have := congrArg List.length HM.out
        rw [List.length_append] at this
        simp only [List.length_cons, List.length_nil] at this
        omega
      have HU1 := Lib.hid (HU.out.below HW.out)
      have hsz := HW.out.size
      generalize sBef l f k ++ sOne l f = S1 at HG HM hlb2
      go_wp2_with fail
      refine (KA.out _ HU1.out).mono ?_
      rintro e w1 ⟨rfl, b1⟩
      have HG1 := Lib.hid (HG.out.frame b1)
      have HB1 := Lib.hid (HW.out.trans (b1.mono hsz))
      have hsz1 := HB1.out.size
      clear b1 HG HW HU1
      go_wp2_with (at_builtin; refine wpList_append_own _ rfl _ _ 22 rfl w.heap.size 38 i0 (.agg #[.int .i64 0, .int .i64 0]) 2 16 Tryd.underlying22 hi hz0 hz1 hz2 rfl (by decide) _ _ _ rfl (World.ownsRow.alloc HG1.out.own _) ⟨w1.heap.size, 0, none⟩ 1 1 [.int .i64 f, .int .i64 (q1 + n)] rfl rfl ?q1 ?q2 ?q3 ?q4 ?q5 ?_)
      case q1 => exact two_new _ _ _ _
      case q2 => exact pcells _ _
      case q3 => unfold maxLen; omega
      case q4 => omega
      case q5 => simp; omega
      intro v3 w3 hown hgrow _
      have HG3 : Hid (Gq w.heap.size w3 v3 (sMid l f n ++ sAft l f n 0)) := by show Gq _ _ _ _; rw [← HM.out, AZ.out, List.append_nil]; exact Gq.more hown
      have HB3 : Hid (Below w.heap.size w w3) := (HB1.out.alloc (by omega) _).grown hgrow (by simp; omega) (HG1.out.blk)
      clear hown hgrow HG1 HB1 hsz hsz1
      generalize sMid l f n = S2 at *
      go_wp2_with fail
      go_loopw [8, 10] (fun v i wr => ∃ j : Nat, j ≤ k ∧ i = .int .i64 j ∧ Hid (Gq w.heap.size wr v (S2 ++ sAft l f n j)) ∧ Hid (Below w.heap.size w wr)) (fun _ i _ => k - (intOf i).toNat)
      case atStart => exact ⟨0, Nat.zero_le _, rfl, HG3, HB3⟩
      case round =>
        clear HG3 HB3
        obtain ⟨j, hj, rfl, HG, HW⟩ := hrel
        by_cases hlt : j < k
        · obtain ⟨b, o, rfl, hab, hc0, hc1⟩ := HA.out j hlt
          have d0 := (HW.out.cell (p := ⟨b, o + j * 2, none⟩) hab).trans hc0
          have d1 := (HW.out.cell (p := ⟨b, o + j * 2 + 1, none⟩) hab).trans hc1
          unfold pT at d0
          unfold pA at d1
          have hla := LA.out j
          have hll : (S2 ++ sAft l f n j).length ≤ 40 := by rw [List.length_append]; omega
          have SA3 := Lib.hid (SA1.out j hlt)
          have SA4 := Lib.hid (SA2.out j hlt)
          have hxy := HG0.out j hlt
          have hsz := HW.out.size
          generalize l.getD j (0, 0) = q at *
          obtain ⟨x, y⟩ := q
          unfold addN at SA3
          simp only at d0 d1 SA3 SA4 hxy
          clear hc0 hc1
          have HGA := HG
          have HWA := HW
          have hwn : IntKind.i64.wrap (y + n) = y + n := IntWalk.i64_in _ (by omega)
          have hmx : (S2 ++ sAft l f n j).length + 1 ≤ maxLen := by unfold maxLen; omega
          have hby : ((S2 ++ sAft l f n j).length + 1) * 16 ≤ 140737488355328 := by omega
          have hszA : w.heap.size ≤ (wr.alloc (.cells #[.int .i64 x, .int .i64 (y + n)] 38)).drew.heap.size := by simp; omega
          have e0 : wr.drew.cell? ⟨b, o + j * 2, none⟩ = some (.int .i64 x) := d0
          have e1 : wr.drew.cell? ⟨b, o + j * 2 + 1, none⟩ = some (.int .i64 y) := d1
          have hjI : (j : Int) < (k : Int) := by omega
          have hj0 : (0 : Int) ≤ (j : Int) := by omega
          have hwk : IntKind.i64.wrap (j : Int) = (j : Int) := IntWalk.i64_in _ (by omega)
          have HG5 := Lib.hid (World.ownsRow.drew (World.ownsRow.alloc HG.out.own (.cells #[.int .i64 x, .int .i64 (y + n)] 38)))
          have HBA := Lib.hid ((HW.out.alloc hsz (.cells #[.int .i64 x, .int .i64 (y + n)] 38)).drew)
          have HOB : Hid (∀ j, Value.ownBlock u8 = some j → w.heap.size ≤ j) := HG.out.blk
          by_cases hx : f < x
          · have HS := Lib.hid (SA3.out hx)
            go_wp2_with fail
            go_region_law (refine step_append_lies _ (by rfl) _ _ _ (by rfl) w.heap.size 38 i0 (.agg #[.int .i64 0, .int .i64 0]) 2 16 Tryd.underlying22 hi hz0 hz1 hz2 rfl (by decide) _ _ _ (by rfl) HG5.out ⟨wr.heap.size, 0, none⟩ 1 1 [.int .i64 x, .int .i64 (y + n)] (by rfl) (by rfl) (two_new wr _ _ _) (pcells _ _) (by decide) hmx hby hszA _ rfl ?_; intro g3 cp3 w3 hown hgrow hat hlt3)
            all_goals
              have HG3 : Hid (Gq w.heap.size w3 (.slice (some ⟨g3, 0, none⟩) (S2.length + (sAft l f n j).length + 1) cp3) (S2 ++ sAft l f n (j + 1))) := by show Gq _ _ _ _; rw [HS.out, ← List.append_assoc, ← List.length_append]; exact Gq.more hown
              have HB3 := Lib.hid (HBA.out.grown hgrow (by simp; omega) HOB.out)
              clear hown hgrow hat
              go_wp2
              go_roundw
              case rel => exact ⟨j + 1, by omega, by go_num, HG3, HB3⟩
              case measure => simp [intOf]; omega
          · have HS := Lib.hid (SA4.out (by omega))
            have HG3 : Hid (Gq w.heap.size wr u8 (S2 ++ sAft l f n (j + 1))) := by show Gq _ _ _ _; rw [HS.out]; exact HGA.out
            go_wp2_with fail
            go_roundw
            case rel => exact ⟨j + 1, by omega, by go_num, HG3, HWA⟩
            case measure => simp [intOf]; omega
        · have hj' : j = k := by omega
          subst hj'
          have HG4 : Hid (Gq w.heap.size wr u8 r) := by show Gq _ _ _ _; rw [← HR.out]; exact HG.out
          obtain ⟨ob, cb, rfl⟩ := Gn.form HG4.out
          have HP4 : Hid (Ps wr (.slice ob r.length cb) r) := Gn.sl HG4.out
          have HRL : Hid (r.length = r.length) := rfl
          clear HG HG4
          by_cases h16 : 16 < r.length
          · have HE := Lib.hid (E1.out h16)
            have HL := Lib.hid (L1.out 4 HE.out (by decide))
            have h16I : (16 : Int) < (r.length : Int) := by omega
            generalize r.length = m at *
            go_wp2_with fail
            go_ret2
            exact slP_none HL.out HE.out HW.out
          · have h16I : ¬ (16 : Int) < (r.length : Int) := by omega
            have h16J : (r.length : Int) ≤ 16 := by omega
            cases hany : r.any longB
            · have HE := Lib.hid (E3.out h16 hany)
              have HL := Lib.hid (L2.out HE.out)
              have KC := Lib.hid (refCheck_yes _ r (by omega) (by rw [SO.out (by omega), hany]; rfl) wr HP4.out)
              clear hany
              go_wp2_with fail
              refine KC.out.mono ?_
              rintro e w3 ⟨oa3, c3, rfl, b3⟩
              have B3 := Lib.hid (over HW.out b3)
              have HS3 := Lib.hid (HP4.out.below b3)
              clear b3
              go_wp2_with fail
              go_ret2
              exact slP_some HL.out HE.out HS3.out B3.out
            · have HE := Lib.hid (E2.out h16 hany)
              have HL := Lib.hid (L1.out 2 HE.out (by decide))
              have KC := Lib.hid (refCheck_no _ r (by omega) (by rw [SO.out (by omega), hany]; rfl) wr HP4.out)
              clear hany
              go_wp2_with fail
              refine KC.out.mono ?_
              rintro e w3 ⟨oa3, m3, c3, rfl, b3⟩
              have hm3 : (0 : Int) < ((m3 + 1 : Nat) : Int) := by omega
              have B3 := Lib.hid (over HW.out b3)
              clear b3
              go_wp2_with fail
              go_ret2
              exact slP_none HL.out HE.out B3.out

theorem refSlower_n (u : Value) (l : List (Int × Int)) (f n : Int) (hl : l.length ≤ 100) (w : World) (hu : Ps w u l) :
    Calls Tryd.prog 17 #[u, .int .i64 f, .int .i64 n] w (SlP (slowL l f n) (slowE l f n) w) := by
  by_cases h : okB l = true ∧ tickB f = true ∧ tickB n = true
  · have hf := (tickB_iff f).1 h.2.1
    have hn := (tickB_iff n).1 h.2.2
    exact refSlower_yes u l f n hl h.1 hf.1 hf.2 hn.1 hn.2 w hu
  · exact refSlower_arg u l f n hl h w hu

theorem eq_drop {α : Type} [DecidableEq α] {a b : List α} {k : Nat} {d : α} (hk : k < a.length) (h : a.length = b.length) : decide (a.drop k = b.drop k) = (decide (a.getD k d = b.getD k d) && decide (a.drop (k + 1) = b.drop (k + 1))) := by
  rw [drop_more (d := d) hk, drop_more (d := d) (show k < b.length by omega), Bool.eq_iff_iff, Bool.and_eq_true, decide_eq_true_iff, decide_eq_true_iff, decide_eq_true_iff, List.cons.injEq]
/-- the laws' points: equal lists -/
theorem points_n (u v : Value) (a b : List (Int × Int)) (hl : a.length ≤ 1000000) (w : World) (hu : Ps w u a) (hv : Ps w v b) :
    Calls Tryd.prog 18 #[u, v] w fun e w' => e = .returned (.bool (decide (a = b))) ∧ Below w.heap.size w w' := by
  obtain ⟨oa, ca, rfl, ha⟩ := hu
  obtain ⟨ob, cb, rfl, hb⟩ := hv
  by_cases h : a.length = b.length
  · have HR : Hid (decide (a.drop 0 = b.drop 0) = decide (a = b)) := rfl
    generalize decide (a = b) = r at *
    have HS := Lib.hid (fun k (hk : k < a.length) => eq_drop (d := (0, 0)) (k := k) hk h)
    have HE : Hid (decide (a.drop a.length = b.drop a.length) = true) := by show _ = _; rw [List.drop_length, h, List.drop_length]; rfl
    have HA := Lib.hid ha
    rw [← h] at hb ⊢
    have HB := Lib.hid hb
    generalize hn : a.length = n at *
    have hne : ((n : Int) != (n : Int)) = false := by simp
    clear ha hb hn h
    go_enter Tryd.func18, Tryd.ntmps18
    go_wp2_with fail
    go_loopw [5] (fun i wr => ∃ k : Nat, k ≤ n ∧ i = .int .i64 k ∧ Hid (decide (a.drop k = b.drop k) = r) ∧ Hid (Below w.heap.size w wr)) (fun i _ => n - (intOf i).toNat)
    case atStart => exact ⟨0, Nat.zero_le _, rfl, HR, Below.refl _ _⟩
    case round =>
      clear HR
      obtain ⟨k, hk, rfl, HR, HW⟩ := hrel
      by_cases hlt : k < n
      · obtain ⟨b1, o1, rfl, hab, hc0, hc1⟩ := HA.out k hlt
        obtain ⟨b2, o2, rfl, hbb, he0, he1⟩ := HB.out k hlt
        have d0 := (HW.out.cell (p := ⟨b1, o1 + k * 2, none⟩) hab).trans hc0
        have d1 := (HW.out.cell (p := ⟨b1, o1 + k * 2 + 1, none⟩) hab).trans hc1
        have d2 := (HW.out.cell (p := ⟨b2, o2 + k * 2, none⟩) hbb).trans he0
        have d3 := (HW.out.cell (p := ⟨b2, o2 + k * 2 + 1, none⟩) hbb).trans he1
        unfold pT at d0 d2
        unfold pA at d1 d3
        clear hc0 hc1 he0 he1
        have HS2 := Lib.hid (HS.out k hlt)
        have hkI : (k : Int) < (n : Int) := by omega
        generalize a.getD k (0, 0) = p at *
        generalize b.getD k (0, 0) = q at *
        obtain ⟨x, y⟩ := p
        obtain ⟨x', y'⟩ := q
        simp only at d0 d1 d2 d3
        by_cases hx : x = x'
        · by_cases hy : y = y'
          · subst hx; subst hy
            have hf : Hid (decide (a.drop (k + 1) = b.drop (k + 1)) = r) := by show _ = _; rw [← HR.out, HS2.out]; simp
            go_wp2_with fail
            go_quiet (fail)
            go_wp2_with fail
            go_roundw
            case rel => exact ⟨k + 1, by omega, by go_num, hf, below_drewN HW.out _⟩
            case measure => simp [intOf]; omega
          · have hf : Hid (false = r) := by show _ = _; rw [← HR.out, HS2.out]; simp [hy]
            have hy2 := ne_neI hy
            have hy3 := ne_eqI hy
            subst hx
            clear hy
            go_wp2_with fail
            go_quiet (fail)
            go_wp2_with fail
            go_ret
            exact ⟨ret_bool hf.out, below_drewN HW.out _⟩
        · have hf : Hid (false = r) := by show _ = _; rw [← HR.out, HS2.out]; simp [hx]
          have hx2 := ne_neI hx
          have hx3 := ne_eqI hx
          clear hx
          go_wp2_with fail
          go_quiet (fail)
          go_wp2_with fail
          go_ret
          exact ⟨ret_bool hf.out, below_drewN HW.out _⟩
      · have hk' : k = n := by omega
        subst hk'
        have hf : Hid (true = r) := by show _ = _; rw [← HR.out, HE.out]
        go_wp2_with fail
        go_ret
        exact ⟨ret_bool hf.out, HW.out⟩
  · have HR : Hid (false = decide (a = b)) := by show _ = _; rw [decide_eq_false]; intro e; exact h (by rw [e])
    have hne := ne_neN h
    generalize decide (a = b) = r at *
    generalize a.length = n at *
    generalize b.length = m at *
    go_enter Tryd.func18, Tryd.ntmps18
    go_wp2_with fail
    go_ret
    exact ⟨ret_bool HR.out, Below.refl _ _⟩

end Go.Proofs.YtecegfjllncfmaaDoor.T
