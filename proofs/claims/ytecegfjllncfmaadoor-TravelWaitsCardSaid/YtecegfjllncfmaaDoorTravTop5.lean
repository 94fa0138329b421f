/-
  DERIVED. The walks of travel: delayed, Slower; slices.IndexFunc, slices.ContainsFunc.
-/
import Derived.Test.YtecegfjllncfmaaDoorTravTop4
namespace Go.Proofs.YtecegfjllncfmaaDoor.T
open Go.RowKit
set_option maxRecDepth 8000

/-! ### the call's own slice of points -/
def Gq (B : Nat) (w : World) (v : Value) (l : List (Int × Int)) : Prop := Gp B w v l.length l
theorem Gq.nil (B : Nat) (w : World) : Gq B w (.slice none 0 0) [] := Gn.nil _ _ _ _ _
theorem Gq.frame {B : Nat} {w w' : World} {v : Value} {l : List (Int × Int)} (h : Gq B w v l) (hb : Below w.heap.size w w') : Gq B w' v l := Gn.frame h hb
theorem Gq.drew {B : Nat} {w : World} {v : Value} {l : List (Int × Int)} (h : Gq B w v l) : Gq B w.drew v l := h
theorem Gq.more {B : Nat} {w : World} {v : Value} {l : List (Int × Int)} {x y : Int} (h : w.ownsRow B 38 2 v (l.length + 1) (flat pT pA l ++ [.int .i64 x, .int .i64 y])) : Gq B w v (l ++ [(x, y)]) := by
  unfold Gq
  rw [List.length_append]
  exact Gn.more (E0 := pT) (E1 := pA) (x, y) h
theorem Gq.more' {B : Nat} {w : World} {v : Value} {l : List (Int × Int)} {x y : Int} {m : Nat} (hm : l.length = m) (h : w.ownsRow B 38 2 v (m + 1) (flat pT pA l ++ [.int .i64 x, .int .i64 y])) : Gq B w v (l ++ [(x, y)]) := Gq.more (hm ▸ h)
theorem Gq.own {B : Nat} {w : World} {v : Value} {l : List (Int × Int)} (h : Gq B w v l) : w.ownsRow B 38 2 v l.length (flat pT pA l) := h
theorem Gq.blk {B : Nat} {w : World} {v : Value} {l : List (Int × Int)} (h : Gq B w v l) : ∀ k, v.ownBlock = some k → B ≤ k := Gn.blk h
theorem Gq.ext {B : Nat} {w : World} {v : Value} {l m : List (Int × Int)} (h : Gq B w v l) (e : l = m) : Gq B w v m := e ▸ h
theorem two_at (W : World) (H : Nat) (hH : W.heap.size = H) (x y : Value) (e : TypeId) : ∀ (j : Nat) (v : Value), [x, y][j]? = some v → (W.alloc (.cells #[x, y] e)).cell? ((⟨H, 0, none⟩ : Addr).add j) = some v := by
  subst hH; exact two_new W x y e
/-- a result: a list of points -/
def PtP (l : List (Int × Int)) (w : World) (e : Ending) (w' : World) : Prop := ∃ oa c, e = .returned (.slice oa l.length c) ∧ Ps w' (.slice oa l.length c) l ∧ Below w.heap.size w w'
theorem ptP {B : Nat} {l : List (Int × Int)} {w w' : World} {v : Value} (h : Gq B w' v l) (hb : Below w.heap.size w w') : PtP l w (.returned v) w' := by
  obtain ⟨oa, c, rfl⟩ := Gn.form h
  exact ⟨oa, c, rfl, Gn.sl h, hb⟩

set_option maxHeartbeats 1600000 in
theorem delayed_n (u : Value) (l : List (Int × Int)) (f n : Int) (h : Ok l) (hf0 : 0 ≤ f) (hf1 : f ≤ 4096) (hn0 : 0 ≤ n) (hn1 : n ≤ 4096) (w : World) (hu : Ps w u l) :
    Calls Tryd.prog 30 #[u, .int .i64 f, .int .i64 n] w (PtP (slow l f n) w) := by
  have HU := Lib.hid hu
  obtain ⟨oa, c, rfl, ha⟩ := hu
  have HA := Lib.hid ha
  have HG0 := Lib.hid (fun i (hi : i < l.length) => h.at hi)
  have hm := h.most
  have SB1 := Lib.hid (fun k (hk : k < l.length) h => sBef_yes (f := f) hk h)
  have SB2 := Lib.hid (fun k (hk : k < l.length) h => sBef_no (f := f) hk h)
  have SA1 := Lib.hid (fun k (hk : k < l.length) h => sAft_yes (f := f) (n := n) hk h)
  have SA2 := Lib.hid (fun k (hk : k < l.length) h => sAft_no (f := f) (n := n) hk h)
  have LB := Lib.hid (sBef_len l f)
  have LA := Lib.hid (sAft_len l f n)
  have LM := Lib.hid (sMid_len l f n)
  have HM : Hid (sBef l f l.length ++ sOne l f ++ [(f, arr l f + n)] = sMid l f n) := rfl
  have HR : Hid (sMid l f n ++ sAft l f n l.length = slow l f n) := rfl
  have KA := Lib.hid (fun w hu => arrival_n (.slice oa l.length c) l f h hf0 (by omega) w hu)
  have KB := Lib.hid (fun (h0 : 0 < f) w hu => arrival_n (.slice oa l.length c) l (f - 1) h (by omega) (by omega) w hu)
  have HO1 : Hid (0 < f → sOne l f = [(f - 1, arr l (f - 1))]) := fun h => if_pos h
  have HO2 : Hid (¬ 0 < f → sOne l f = []) := fun h => if_neg h
  have hqa := arr_ge h hf0
  have BZ : Hid (sBef l f 0 = []) := rfl
  have AZ : Hid (sAft l f n 0 = []) := rfl
  generalize slow l f n = r at *
  generalize arr l f = q1 at *
  generalize arr l (f - 1) = q0 at *
  obtain ⟨i0, hi, hz0, hz1, hz2⟩ := infoP
  generalize hn : l.length = N at *
  clear ha hn h
  have G0 : Hid (Gq w.heap.size w (.slice none 0 0) (sBef l f 0)) := BZ.out ▸ Gq.nil _ _
  go_enter Tryd.func30, Tryd.ntmps30
  go_wp2_with fail
  go_loopw [7, 14] (fun v i wr => ∃ k : Nat, k ≤ N ∧ i = .int .i64 k ∧ Hid (Gq w.heap.size wr v (sBef l f k)) ∧ Hid (Below w.heap.size w wr)) (fun _ i _ => N - (intOf i).toNat)
  case atStart => exact ⟨0, Nat.zero_le _, rfl, G0, Below.refl _ _⟩
  case round =>
    clear G0
    obtain ⟨k, hk, rfl, HG, HW⟩ := hrel
    by_cases hlt : k < N
    · obtain ⟨b, o, rfl, hab, hc0, hc1⟩ := HA.out k hlt
      have d0 := (HW.out.cell (p := ⟨b, o + k * 2, none⟩) hab).trans hc0
      have d1 := (HW.out.cell (p := ⟨b, o + k * 2 + 1, none⟩) hab).trans hc1
      unfold pT at d0
      unfold pA at d1
      have hlb := LB.out k
      have SB3 := Lib.hid (SB1.out k hlt)
      have SB4 := Lib.hid (SB2.out k hlt)
      have hsz := HW.out.size
      generalize l.getD k (0, 0) = q at *
      obtain ⟨x, y⟩ := q
      simp only at d0 d1 SB3 SB4
      clear hc0 hc1
      have HGA := Lib.hid (HG.out.frame (below_alloc wr (.cells #[.int .i64 x, .int .i64 y] 38)))
      have HWA := Lib.hid (HW.out.alloc hsz (.cells #[.int .i64 x, .int .i64 y] 38))
      by_cases hx : x < f - 1
      · have HS := Lib.hid (SB3.out hx)
        go_wp2_with (at_builtin; refine wpList_append_own _ rfl _ _ 22 rfl w.heap.size 38 i0 (.agg #[.int .i64 0, .int .i64 0]) 2 16 Tryd.underlying22 hi hz0 hz1 hz2 rfl (by decide) _ _ _ rfl (World.ownsRow.alloc HGA.out.own _) ⟨wr.heap.size + 1, 0, none⟩ 1 1 [.int .i64 x, .int .i64 y] rfl rfl ?q1 ?q2 ?q3 ?q4 ?q5 ?_)
        case q1 => exact two_at _ _ (by simp) _ _ _
        case q2 => exact pcells _ _
        case q3 => unfold maxLen; omega
        case q4 => omega
        case q5 => simp; omega
        intro v3 w3 hown hgrow _
        have HG3 : Hid (Gq w.heap.size w3 v3 (sBef l f (k + 1))) := by show Gq _ _ _ _; rw [HS.out]; exact Gq.more hown
        have HB3 : Hid (Below w.heap.size w w3) := (HWA.out.alloc (by simp; omega) _).grown hgrow (by simp; omega) (HG.out.blk)
        clear hown hgrow
        go_wp2_with fail
        go_roundw
        case rel => exact ⟨k + 1, by omega, by go_num, HG3, HB3⟩
        case measure => simp [intOf]; omega
      · have HS := Lib.hid (SB4.out (by omega))
        have HG3 : Hid (Gq w.heap.size (wr.alloc (.cells #[.int .i64 x, .int .i64 y] 38)) u7 (sBef l f (k + 1))) := by show Gq _ _ _ _; rw [HS.out]; exact HGA.out
        go_wp2_with fail
        go_roundw
        case rel => exact ⟨k + 1, by omega, by go_num, HG3, HWA⟩
        case measure => simp [intOf]; omega
    · have hk' : k = N := by omega
      subst hk'
      have hlb := LB.out k
      have HU1 := Lib.hid (HU.out.below HW.out)
      have hsz := HW.out.size
      go_upto_if 29 with fail
      go_cut [7] from 28 (fun v wx => Hid (Gq w.heap.size wx v (sBef l f k ++ sOne l f)) ∧ Hid (Below w.heap.size w wx))
      case first =>
        by_cases hp : 0 < f
        · have HS := Lib.hid (HO1.out hp)
          have KB2 := Lib.hid (KB.out hp)
          go_wp2_with fail
          refine (KB2.out _ HU1.out).mono ?_
          rintro e w1 ⟨rfl, b1⟩
          have HG1 := Lib.hid (HG.out.frame b1)
          have HB1 := Lib.hid (HW.out.trans (b1.mono hsz))
          have hsz1 := HB1.out.size
          clear b1
          go_wp2_with (at_builtin; refine wpList_append_own _ rfl _ _ 22 rfl w.heap.size 38 i0 (.agg #[.int .i64 0, .int .i64 0]) 2 16 Tryd.underlying22 hi hz0 hz1 hz2 rfl (by decide) _ _ _ rfl (World.ownsRow.alloc HG1.out.own _) ⟨w1.heap.size, 0, none⟩ 1 1 [.int .i64 (f - 1), .int .i64 q0] rfl rfl ?q1 ?q2 ?q3 ?q4 ?q5 ?_)
          case q1 => exact two_new _ _ _ _
          case q2 => exact pcells _ _
          case q3 => unfold maxLen; omega
          case q4 => omega
          case q5 => simp; omega
          intro v3 w3 hown hgrow _
          have HG3 : Hid (Gq w.heap.size w3 v3 (sBef l f k ++ sOne l f)) := by show Gq _ _ _ _; rw [HS.out]; exact Gq.more hown
          have HB3 : Hid (Below w.heap.size w w3) := (HB1.out.alloc (by omega) _).grown hgrow (by simp; omega) (HG1.out.blk)
          clear hown hgrow
          go_wp2_with fail
          go_meet
          case rel => exact ⟨HG3, HB3⟩
        · have HS := Lib.hid (HO2.out (by omega))
          have HG3 : Hid (Gq w.heap.size wr u7 (sBef l f k ++ sOne l f)) := by show Gq _ _ _ _; rw [HS.out, List.append_nil]; exact HG.out
          go_wp2_with fail
          go_meet
          case rel => exact ⟨HG3, HW⟩
      clear HG HW HU1 hsz
      obtain ⟨HG, HW⟩ := hcut
      have hlm := LM.out
      have hlb2 : (sBef l f k ++ sOne l f).length ≤ 17 := by
        have := congrArg List.length HM.out
        rw [List.length_append] at this
        simp only [List.length_cons, List.length_nil] at this
        omega
      have HU1 := Lib.hid (HU.out.below HW.out)
      have hsz := HW.out.size
      generalize sBef l f k ++ sOne l f = S1 at HG HM hlb2
      go_wp2_with fail
      refine (KA.out _ HU1.out).mono ?_
      rintro e w1 ⟨rfl, b1⟩
      have HG1 := Lib.hid (HG.out.frame b1)
      have HB1 := Lib.hid (HW.out.trans (b1.mono hsz))
      have hsz1 := HB1.out.size
      clear b1 HG HW HU1
      go_wp2_with (at_builtin; refine wpList_append_own _ rfl _ _ 22 rfl w.heap.size 38 i0 (.agg #[.int .i64 0, .int .i64 0]) 2 16 Tryd.underlying22 hi hz0 hz1 hz2 rfl (by decide) _ _ _ rfl (World.ownsRow.alloc HG1.out.own _) ⟨w1.heap.size, 0, none⟩ 1 1 [.int .i64 f, .int .i64 (q1 + n)] rfl rfl ?q1 ?q2 ?q3 ?q4 ?q5 ?_)
      case q1 => exact two_new _ _ _ _
      case q2 => exact pcells _ _
      case q3 => unfold maxLen; omega
      case q4 => omega
      case q5 => simp; omega
      intro v3 w3 hown hgrow _
      have HG3 : Hid (Gq w.heap.size w3 v3 (sMid l f n ++ sAft l f n 0)) := by show Gq _ _ _ _; rw [← HM.out, AZ.out, List.append_nil]; exact Gq.more hown
      have HB3 : Hid (Below w.heap.size w w3) := (HB1.out.alloc (by omega) _).grown hgrow (by simp; omega) (HG1.out.blk)
      clear hown hgrow HG1 HB1 hsz hsz1
      generalize sMid l f n = S2 at *
      go_wp2_with fail
      go_loopw [7, 52] (fun v i wr => ∃ j : Nat, j ≤ k ∧ i = .int .i64 j ∧ Hid (Gq w.heap.size wr v (S2 ++ sAft l f n j)) ∧ Hid (Below w.heap.size w wr)) (fun _ i _ => k - (intOf i).toNat)
      case atStart => exact ⟨0, Nat.zero_le _, rfl, HG3, HB3⟩
      case round =>
        clear HG3 HB3
        obtain ⟨j, hj, rfl, HG, HW⟩ := hrel
        by_cases hlt : j < k
        · obtain ⟨b, o, rfl, hab, hc0, hc1⟩ := HA.out j hlt
          have d0 := (HW.out.cell (p := ⟨b, o + j * 2, none⟩) hab).trans hc0
          have d1 := (HW.out.cell (p := ⟨b, o + j * 2 + 1, none⟩) hab).trans hc1
          unfold pT at d0
          unfold pA at d1
          have hla := LA.out j
          have hll : (S2 ++ sAft l f n j).length ≤ 40 := by rw [List.length_append]; omega
          have SA3 := Lib.hid (SA1.out j hlt)
          have SA4 := Lib.hid (SA2.out j hlt)
          have hxy := HG0.out j hlt
          have hsz := HW.out.size
          generalize l.getD j (0, 0) = q at *
          obtain ⟨x, y⟩ := q
          unfold addN at SA3
          simp only at d0 d1 SA3 SA4 hxy
          clear hc0 hc1
          have HGA := Lib.hid (HG.out.frame (below_alloc wr (.cells #[.int .i64 x, .int .i64 y] 38)))
          have HWA := Lib.hid (HW.out.alloc hsz (.cells #[.int .i64 x, .int .i64 y] 38))
          by_cases hx : f < x
          · have HS := Lib.hid (SA3.out hx)
            go_wp2_with (at_builtin; refine wpList_append_own _ rfl _ _ 22 rfl w.heap.size 38 i0 (.agg #[.int .i64 0, .int .i64 0]) 2 16 Tryd.underlying22 hi hz0 hz1 hz2 rfl (by decide) _ _ _ rfl (World.ownsRow.alloc HGA.out.own _) ⟨wr.heap.size + 1, 0, none⟩ 1 1 [.int .i64 x, .int .i64 (y + n)] rfl rfl ?q1 ?q2 ?q3 ?q4 ?q5 ?_)
            case q1 => exact two_at _ _ (by simp) _ _ _
            case q2 => exact pcells _ _
            case q3 => unfold maxLen; omega
            case q4 => omega
            case q5 => simp; omega
            intro v3 w3 hown hgrow _
            have HG3 : Hid (Gq w.heap.size w3 v3 (S2 ++ sAft l f n (j + 1))) := by show Gq _ _ _ _; rw [HS.out, ← List.append_assoc]; exact Gq.more' (by rw [List.length_append]) hown
            have HB3 : Hid (Below w.heap.size w w3) := (HWA.out.alloc (by simp; omega) _).grown hgrow (by simp; omega) (HG.out.blk)
            clear hown hgrow
            go_wp2_with fail
            go_roundw
            case rel => exact ⟨j + 1, by omega, by go_num, HG3, HB3⟩
            case measure => simp [intOf]; omega
          · have HS := Lib.hid (SA4.out (by omega))
            have HG3 : Hid (Gq w.heap.size (wr.alloc (.cells #[.int .i64 x, .int .i64 y] 38)) u7 (S2 ++ sAft l f n (j + 1))) := by show Gq _ _ _ _; rw [HS.out]; exact HGA.out
            go_wp2_with fail
            go_roundw
            case rel => exact ⟨j + 1, by omega, by go_num, HG3, HWA⟩
            case measure => simp [intOf]; omega
        · have hj' : j = k := by omega
          subst hj'
          have HG4 : Hid (Gq w.heap.size wr u7 r) := by show Gq _ _ _ _; rw [← HR.out]; exact HG.out
          go_wp2_with fail
          go_ret
          exact ptP HG4.out HW.out

/-! ### slices.ContainsFunc over points -/
theorem any_drop {α : Type} {l : List α} {p : α → Bool} {k : Nat} {d : α} (h : k < l.length) : (l.drop k).any p = (p (l.getD k d) || (l.drop (k + 1)).any p) := by
  rw [drop_more (d := d) h, List.any_cons]
/-- where the first point lies for which a predicate holds, or -1 -/
def IdxP (b : Bool) (w : World) (e : Ending) (w' : World) : Prop := ∃ r : Int, e = .returned (.int .i64 r) ∧ -1 ≤ r ∧ decide (0 ≤ r) = b ∧ Below w.heap.size w w'
theorem indexFunc_n (u : Value) (l : List (Int × Int)) (gf : FuncId) (eg : ∀ args w, (callFunc gf args).run Tryd.prog w = .ok (.enter gf args) w) (p : Int × Int → Bool) (hl9 : l.length ≤ 1000000000000000)
    (hp : ∀ k, k < l.length → ∀ w, Calls Tryd.prog gf #[.agg #[.int .i64 (l.getD k (0, 0)).1, .int .i64 (l.getD k (0, 0)).2]] w fun e w' => e = .returned (.bool (p (l.getD k (0, 0)))) ∧ Below w.heap.size w w') (w : World) (hu : Ps w u l) :
    Calls Tryd.prog 35 #[u, .func (.func gf) #[] #[]] w (IdxP (l.any p) w) := by
  obtain ⟨oa, c, rfl, ha⟩ := hu
  have HR : Hid ((l.drop 0).any p = l.any p) := rfl
  generalize l.any p = r at *
  have HS := Lib.hid (fun k (hk : k < l.length) => any_drop (p := p) (d := (0, 0)) hk)
  have HE : Hid ((l.drop l.length).any p = false) := by show _ = _; rw [List.drop_length]; rfl
  have HA := Lib.hid ha
  have HP := Lib.hid hp
  generalize hn : l.length = n at *
  clear ha hn hp
  go_enter Tryd.func35, Tryd.ntmps35
  go_wp2_with fail
  go_loopw [8] (fun i wr => ∃ k : Nat, k ≤ n ∧ i = .int .i64 k ∧ Hid ((l.drop k).any p = r) ∧ Hid (Below w.heap.size w wr)) (fun i _ => n - (intOf i).toNat)
  case atStart => exact ⟨0, Nat.zero_le _, rfl, HR, Below.refl _ _⟩
  case round =>
    clear HR
    obtain ⟨k, hk, rfl, HR, HW⟩ := hrel
    by_cases hlt : k < n
    · obtain ⟨b, o, rfl, hab, hc0, hc1⟩ := HA.out k hlt
      have d0 := (HW.out.cell (p := ⟨b, o + k * 2, none⟩) hab).trans hc0
      have d1 := (HW.out.cell (p := ⟨b, o + k * 2 + 1, none⟩) hab).trans hc1
      unfold pT at d0
      unfold pA at d1
      clear hc0 hc1
      have HS2 := Lib.hid (HS.out k hlt)
      have HP2 := Lib.hid (HP.out k hlt)
      generalize l.getD k (0, 0) = q at *
      cases h1 : p q
      · have hf : Hid ((l.drop (k + 1)).any p = r) := by show _ = _; rw [← HR.out, HS2.out, h1]; rfl
        rw [h1] at HP2
        clear h1
        obtain ⟨x, y⟩ := q
        simp only at d0 d1 HP2
        go_wp2_with fail
        refine (HP2.out _).mono ?_
        rintro e w1 ⟨rfl, b1⟩
        have HB1 := Lib.hid (over HW.out b1)
        clear b1
        go_wp2_with fail
        go_roundw
        case rel => exact ⟨k + 1, by omega, by go_num, hf, HB1⟩
        case measure => simp [intOf]; omega
      · have hf : Hid (true = r) := by show _ = _; rw [← HR.out, HS2.out, h1]; rfl
        rw [h1] at HP2
        clear h1
        obtain ⟨x, y⟩ := q
        simp only at d0 d1 HP2
        go_wp2_with fail
        refine (HP2.out _).mono ?_
        rintro e w1 ⟨rfl, b1⟩
        have HB1 := Lib.hid (over HW.out b1)
        clear b1
        go_wp2_with fail
        go_ret
        exact ⟨(k : Int), rfl, by omega, by rw [← hf.out]; simp, HB1.out⟩
    · have hk' : k = n := by omega
      subst hk'
      have hf : Hid (false = r) := by show _ = _; rw [← HR.out, HE.out]
      go_wp2_with fail
      go_ret
      exact ⟨-1, rfl, by omega, by rw [← hf.out]; rfl, HW.out⟩
theorem containsFunc_n (u : Value) (l : List (Int × Int)) (gf : FuncId) (eg : ∀ args w, (callFunc gf args).run Tryd.prog w = .ok (.enter gf args) w) (p : Int × Int → Bool) (hl9 : l.length ≤ 1000000000000000)
    (hp : ∀ k, k < l.length → ∀ w, Calls Tryd.prog gf #[.agg #[.int .i64 (l.getD k (0, 0)).1, .int .i64 (l.getD k (0, 0)).2]] w fun e w' => e = .returned (.bool (p (l.getD k (0, 0)))) ∧ Below w.heap.size w w') (w : World) (hu : Ps w u l) :
    Calls Tryd.prog 31 #[u, .func (.func gf) #[] #[]] w fun e w' => e = .returned (.bool (l.any p)) ∧ Below w.heap.size w w' := by
  have HI := Lib.hid (indexFunc_n u l gf eg p hl9 hp w hu)
  generalize l.any p = r at *
  clear hp hu
  go_enter Tryd.func31, Tryd.ntmps31
  go_wp2_with fail
  refine HI.out.mono ?_
  rintro e w1 ⟨q, rfl, hq1, hq2, b1⟩
  have HQ := Lib.hid hq2
  clear hq2
  go_wp2_with fail
  go_ret
  exact ⟨ret_bool HQ.out, b1⟩

/-! ### Slower -/
/-- a result: a list of points and an error -/
def SlP (l : List (Int × Int)) (x : Int) (w : World) (e : Ending) (w' : World) : Prop := ∃ oa c, e = .returned (.tuple #[.slice oa l.length c, .int .i64 x]) ∧ Ps w' (.slice oa l.length c) l ∧ Below w.heap.size w w'
theorem slP_none {l : List (Int × Int)} {x x' : Int} {w w' : World} (hl : l = []) (hx : x = x') (hb : Below w.heap.size w w') : SlP l x w (.returned (.tuple #[.slice none 0 0, .int .i64 x'])) w' := by
  subst hl; subst hx
  exact ⟨none, 0, rfl, Sl.nil _, hb⟩
theorem slP_some {l m : List (Int × Int)} {x : Int} {w w' : World} {oa : Option Addr} {c : Nat} (hl : l = m) (hx : x = 0) (hu : Ps w' (.slice oa m.length c) m) (hb : Below w.heap.size w w') : SlP l x w (.returned (.tuple #[.slice oa m.length c, .int .i64 0])) w' := by
  subst hl; subst hx
  exact ⟨oa, c, rfl, hu, hb⟩
theorem slow_len (l : List (Int × Int)) (f n : Int) : (slow l f n).length ≤ 2 * l.length + 2 := by
  unfold slow
  rw [List.length_append]
  have := sMid_len l f n
  have := sAft_len l f n l.length
  omega
set_option maxHeartbeats 800000 in
theorem slower_n (u : Value) (l : List (Int × Int)) (f n : Int) (w : World) (hu : Ps w u l) (hl9 : l.length ≤ 1000000000000000) :
    Calls Tryd.prog 16 #[u, .int .i64 f, .int .i64 n] w (SlP (slowL l f n) (slowE l f n) w) := by
  have K := Lib.hid (fun w hu => isTravel_n u l w hu hl9)
  have KF := Lib.hid (fun w => isTick_n f w)
  have KN := Lib.hid (fun w => isTick_n n w)
  have HU := Lib.hid hu
  by_cases hok : okB l = true ∧ tickB f = true ∧ tickB n = true
  · rw [hok.1] at K
    rw [hok.2.1] at KF
    rw [hok.2.2] at KN
    have hO := (okB_iff l).1 hok.1
    have hf := (tickB_iff f).1 hok.2.1
    have hn := (tickB_iff n).1 hok.2.2
    have KD := Lib.hid (fun w hu => delayed_n u l f n hO hf.1 hf.2 hn.1 hn.2 w hu)
    have KC := Lib.hid (fun v w hv => containsFunc_n v (slow l f n) 32 (enters_of Tryd.func32 (by kernel_rfl) rfl) longB (by have := slow_len l f n; have := hO.most; omega)
      (fun k hk w => by have := slow_mem hO hf.1 hf.2 (n := n) _ (getD_mem (d := (0, 0)) hk); exact isTooLong_n _ _ this.1 this.2.1 w) w hv)
    have E1 := Lib.hid (fun h2 => slowE_size hok h2)
    have E2 := Lib.hid (fun h2 h3 => slowE_long hok h2 h3)
    have E3 := Lib.hid (fun h2 h3 => slowE_ok hok h2 h3)
    have L1 := Lib.hid (fun x h hx => slowL_no (l := l) (f := f) (n := n) (x := x) h hx)
    have L2 := Lib.hid (fun h => slowL_ok (l := l) (f := f) (n := n) h)
    generalize slowL l f n = rl at *
    generalize slowE l f n = re at *
    generalize slow l f n = S at *
    clear hok hu hO hf hn
    go_enter Tryd.func16, Tryd.ntmps16
    go_wp2_with fail
    refine (K.out _ HU.out).mono ?_
    rintro e w1 ⟨rfl, b1⟩
    have B1 := Lib.hid b1
    have HU1 := Lib.hid (HU.out.below b1)
    clear b1
    go_wp2_with fail
    refine (KF.out _).mono ?_
    rintro e w2 ⟨rfl, rfl⟩
    go_wp2_with fail
    refine (KN.out _).mono ?_
    rintro e w2 ⟨rfl, rfl⟩
    go_wp2_with fail
    refine (KD.out _ HU1.out).mono ?_
    rintro e w2 ⟨oa, c, rfl, hs, b2⟩
    have B2 := Lib.hid (over B1.out b2)
    have HS := Lib.hid hs
    clear b2 hs
    by_cases h16 : 16 < S.length
    · have HE := Lib.hid (E1.out h16)
      have HL := Lib.hid (L1.out 4 HE.out (by decide))
      have h16I : (16 : Int) < (S.length : Int) := by omega
      generalize S.length = m at *
      go_wp2_with fail
      go_ret2
      exact slP_none HL.out HE.out B2.out
    · have h16I : ¬ (16 : Int) < (S.length : Int) := by omega
      have h16J : (S.length : Int) ≤ 16 := by omega
      have KC2 := Lib.hid (KC.out _ _ HS.out)
      cases hany : S.any longB
      · have HE := Lib.hid (E3.out h16 hany)
        have HL := Lib.hid (L2.out HE.out)
        rw [hany] at KC2
        clear hany
        go_wp2_with fail
        refine KC2.out.mono ?_
        rintro e w3 ⟨rfl, b3⟩
        have B3 := Lib.hid (over B2.out b3)
        have HS3 := Lib.hid (HS.out.below b3)
        clear b3
        go_wp2_with fail
        go_ret2
        exact slP_some HL.out HE.out HS3.out B3.out
      · have HE := Lib.hid (E2.out h16 hany)
        have HL := Lib.hid (L1.out 2 HE.out (by decide))
        rw [hany] at KC2
        clear hany
        go_wp2_with fail
        refine KC2.out.mono ?_
        rintro e w3 ⟨rfl, b3⟩
        have B3 := Lib.hid (over B2.out b3)
        clear b3
        go_wp2_with fail
        go_ret2
        exact slP_none HL.out HE.out B3.out
  · have HE := Lib.hid (slowE_arg hok)
    have HL := Lib.hid (slowL_no HE.out (by decide))
    generalize slowL l f n = rl at *
    generalize slowE l f n = re at *
    cases h1 : okB l
    · rw [h1] at K
      clear hok hu h1
      go_enter Tryd.func16, Tryd.ntmps16
      go_wp2_with fail
      refine (K.out _ HU.out).mono ?_
      rintro e w1 ⟨rfl, b1⟩
      go_wp2_with fail
      go_ret2
      exact slP_none HL.out HE.out b1
    · rw [h1] at K
      cases h2 : tickB f
      · rw [h2] at KF
        clear hok hu h1 h2
        go_enter Tryd.func16, Tryd.ntmps16
        go_wp2_with fail
        refine (K.out _ HU.out).mono ?_
        rintro e w1 ⟨rfl, b1⟩
        go_wp2_with fail
        refine (KF.out _).mono ?_
        rintro e w2 ⟨rfl, rfl⟩
        go_wp2_with fail
        go_ret2
        exact slP_none HL.out HE.out b1
      · rw [h2] at KF
        cases h3 : tickB n
        · rw [h3] at KN
          clear hok hu h1 h2 h3
          go_enter Tryd.func16, Tryd.ntmps16
          go_wp2_with fail
          refine (K.out _ HU.out).mono ?_
          rintro e w1 ⟨rfl, b1⟩
          go_wp2_with fail
          refine (KF.out _).mono ?_
          rintro e w2 ⟨rfl, rfl⟩
          go_wp2_with fail
          refine (KN.out _).mono ?_
          rintro e w2 ⟨rfl, rfl⟩
          go_wp2_with fail
          go_ret2
          exact slP_none HL.out HE.out b1
        · exact absurd ⟨h1, h2, h3⟩ hok

end Go.Proofs.YtecegfjllncfmaaDoor.T
