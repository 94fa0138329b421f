/-
  DERIVED. The walks of travel: Check, isTravel.
-/
import Derived.Test.YtegpebnkogjadaaDoorTravTop2
import Derived.Deep.DeepCutAuto
import Derived.Deep.Cut
import Derived.Deep.CutRange
namespace Go.Proofs.YtegpebnkogjadaaDoor.T
open Go.RowKit
set_option maxRecDepth 8000

/-- the call's own slice of faults -/
def Gl (B : Nat) (w : World) (v : Value) (l : List (Int × ByteArray)) : Prop := Gf B w v l.length l
theorem Gl.nil (B : Nat) (w : World) : Gl B w (.slice none 0 0) [] := Gn.nil _ _ _ _ _
theorem Gl.frame {B : Nat} {w w' : World} {v : Value} {l : List (Int × ByteArray)} (h : Gl B w v l) (hb : Below w.heap.size w w') : Gl B w' v l := Gn.frame h hb
theorem Gl.drew {B : Nat} {w : World} {v : Value} {l : List (Int × ByteArray)} (h : Gl B w v l) : Gl B w.drew v l := h
theorem Gl.more {B : Nat} {w : World} {v : Value} {l : List (Int × ByteArray)} {x : Int} {s : ByteArray} (h : w.ownsRow B 31 2 v (l.length + 1) (flat fE fA l ++ [.int .i64 x, .string s])) : Gl B w v (l ++ [(x, s)]) := by
  unfold Gl
  rw [List.length_append]
  exact Gn.more (E0 := fE) (E1 := fA) (x, s) h
theorem Gl.ext {B : Nat} {w : World} {v : Value} {l m : List (Int × ByteArray)} (h : Gl B w v l) (e : l = m) : Gl B w v m := e ▸ h
theorem Gl.own {B : Nat} {w : World} {v : Value} {l : List (Int × ByteArray)} (h : Gl B w v l) : w.ownsRow B 31 2 v l.length (flat fE fA l) := h
theorem Gl.blk {B : Nat} {w : World} {v : Value} {l : List (Int × ByteArray)} (h : Gl B w v l) : ∀ k, v.ownBlock = some k → B ≤ k := Gn.blk h
/-- a result: a list of faults -/
def ChkP (l : List (Int × ByteArray)) (w : World) (e : Ending) (w' : World) : Prop :=
  ∃ oa c, e = .returned (.slice oa l.length c) ∧ (Fs w' (.slice oa l.length c) l ∧ Gl w.heap.size w' (.slice oa l.length c) l ∧ (oa = none → c = 0)) ∧ Below w.heap.size w w'
theorem chkP {B : Nat} {l : List (Int × ByteArray)} {w w' : World} {v : Value} (h : Gl B w' v l) (hb : Below w.heap.size w w') (hB : w.heap.size ≤ B) : ChkP l w (.returned v) w' := by
  have hs : Fs w' v l := Gn.sl h
  have hg : Gl w.heap.size w' v l := Gn.mono h hB
  rcases h.2 with ⟨hv, h0⟩ | ⟨g, cap, cur, hv, _⟩
  · subst hv
    have hn : l = [] := List.eq_nil_of_length_eq_zero h0
    subst hn
    exact ⟨none, 0, rfl, ⟨hs, hg, fun _ => rfl⟩, hb⟩
  · subst hv
    exact ⟨_, _, rfl, ⟨hs, hg, fun h => (by cases h)⟩, hb⟩
theorem fl0_yes {n : Nat} (h1 : 1 ≤ n) (h2 : n ≤ 16) : fl0 n = [] := (fl0_nil n).2 ⟨h1, h2⟩
theorem fl0_no {n : Nat} (h : n = 0 ∨ 16 < n) : fl0 n = [(4, ⟨#[]⟩)] := by unfold fl0; rw [if_neg (by omega)]
theorem fl1_yes {p : Int × Int} {i : Nat} (h : pointB p = true) : fl1 p i = [] := (fl1_nil p i).2 h
theorem fl1_no {p : Int × Int} {i : Nat} (h : pointB p = false) : fl1 p i = [(2, dec i)] := by unfold fl1; rw [h]; rfl
theorem fl3_zero (l : List (Int × Int)) : fl3 l 0 = [] := rfl
theorem fl3_yes {l : List (Int × Int)} {j : Nat} (h : beforeB (l.getD j (0, 0)) (l.getD (j + 1) (0, 0)) = true) : fl3 l (j + 1) = [] := (fl2_nil _ _ _).2 h
theorem fl3_no {l : List (Int × Int)} {j : Nat} (h : beforeB (l.getD j (0, 0)) (l.getD (j + 1) (0, 0)) = false) : fl3 l (j + 1) = [(13, dec (j + 1))] := by
  show fl2 _ _ _ = _
  show fl2 (l.getD j (0, 0)) (l.getD (j + 1) (0, 0)) (j + 1) = _
  unfold fl2; rw [h]; rfl

theorem below_alloc (w : World) (o : Obj) : Below w.heap.size w (w.alloc o) := (Below.refl _ w).alloc (Nat.le_refl _) o
theorem cell_alloc_t {W : World} {a : Addr} {v : Value} (o : Obj) (h : W.cell? a = some v) : (W.alloc o).cell? a = some v := by
  have hb := World.block_lt_of_cell? _ _ h
  exact (below_alloc W o).cell hb ▸ h
def sizeB (n : Nat) : Bool := decide (1 ≤ n) && decide (n ≤ 16)
theorem sizeB_no {n : Nat} (h : sizeB n = false) : fl0 n = [] ++ [(4, ⟨#[]⟩)] := by
  unfold sizeB at h
  refine fl0_no ?_
  by_cases h1 : 1 ≤ n
  · rw [decide_eq_true h1, Bool.true_and, decide_eq_false_iff_not] at h; omega
  · omega
theorem sizeB_yes {n : Nat} (h : sizeB n = true) : fl0 n = [] := by
  unfold sizeB at h
  rw [Bool.and_eq_true, decide_eq_true_iff, decide_eq_true_iff] at h
  exact fl0_yes h.1 h.2

set_option maxHeartbeats 1600000 in
theorem check_n (u : Value) (l : List (Int × Int)) (hl : l.length ≤ 1000000) (w : World) (hu : Ps w u l) (ht : Tab w) :
    Calls Tryd.prog 59 #[u] w (ChkP (faults l) w) := by
  obtain ⟨oa, c, rfl, ha⟩ := hu
  have HT := Lib.hid ht
  clear ht
  have HA := Lib.hid ha
  have HS := Lib.hid (flt_succ l)
  have HL := Lib.hid (flt_len l)
  have HE : Hid (faults l = flt l l.length) := rfl
  have H0 : Hid (flt l 0 = fl0 l.length) := rfl
  obtain ⟨i0, hi, hz0, hz1, hz2⟩ := infoF
  generalize faults l = r at *
  generalize hn : l.length = n at *
  clear ha hn
  go_enter Tryd.func59, Tryd.ntmps59
  go_upto_region 2 with fail
  go_cut [13] from 6 (fun v wx => v = .bool (!sizeB n) ∧ w = wx)
  case first =>
    by_cases h : n = 0
    · subst h
      go_wp2_with fail
      go_meet
      case rel => exact ⟨rfl, rfl⟩
    · have h0 : ((n : Int) == 0) = false := ne_eqN h
      by_cases h2 : n ≤ 16
      · have HT : Hid (false = (!sizeB n)) := by show _ = _; unfold sizeB; rw [decide_eq_true (show 1 ≤ n by omega), decide_eq_true h2]; rfl
        have h3 : ¬ ((16 : Int) < (n : Int)) := by omega
        go_wp2_with fail
        go_meet
        case rel => exact ⟨by rw [HT.out], rfl⟩
      · have HT : Hid (true = (!sizeB n)) := by show _ = _; unfold sizeB; rw [decide_eq_false h2, Bool.and_false]; rfl
        have h3 : (16 : Int) < (n : Int) := by omega
        go_wp2_with fail
        go_meet
        case rel => exact ⟨by rw [HT.out], rfl⟩
  obtain ⟨rfl, rfl⟩ := hcut
  go_upto_if 13 with fail
  go_cut [3] from 6 (fun v wx => Hid (Gl w.heap.size wx v (fl0 n)) ∧ Hid (Below w.heap.size w wx))
  case first =>
    have HG0 : Hid (Gl w.heap.size w (.slice none 0 0) []) := Gl.nil _ _
    cases hs : sizeB n
    · have HF : Hid (fl0 n = [] ++ [(4, ⟨#[]⟩)]) := sizeB_no hs
      clear hs
      go_wp2_with (at_builtin; refine wpList_append_own _ rfl _ _ 27 rfl w.heap.size 31 i0 (.agg #[.int .i64 0, .string ⟨#[]⟩]) 2 24 Tryd.underlying27 hi hz0 hz1 hz2 rfl (by decide) _ _ _ rfl (World.ownsRow.alloc HG0.out.own _) ⟨w.heap.size, 0, none⟩ 1 1 [.int .i64 4, .string ⟨#[]⟩] rfl rfl ?q1 ?q2 ?q3 ?q4 ?q5 ?_)
      case q1 => exact two_new _ _ _ _
      case q2 => exact fcells _ _
      case q3 => decide
      case q4 => decide
      case q5 => simp
      intro v3 w3 hown hgrow _
      go_wp2_with fail
      go_meet
      case rel => exact ⟨HF.out ▸ Gl.more hown, ((Below.refl _ w).alloc (Nat.le_refl _) _).grown hgrow (by simp) (fun k hk => by cases hk)⟩
    · have HF : Hid (fl0 n = []) := sizeB_yes hs
      clear hs
      go_wp2_with fail
      go_meet
      case rel => exact ⟨HF.out ▸ HG0.out, Below.refl _ _⟩
  obtain ⟨HG, HB⟩ := hcut
  rw [← H0.out] at HG
  go_wp2_with fail
  go_loopg [3, 20] n (fun g v i wr => ∃ k : Nat, k ≤ n ∧ i = .int .i64 k ∧ n - k ≤ g ∧ Hid (Gl w.heap.size wr v (flt l k)) ∧ Hid (Below w.heap.size w wr))
  case atStart => exact ⟨0, Nat.zero_le _, rfl, Nat.le_refl _, HG, HB⟩
  case round =>
    clear HG HB
    obtain ⟨k, hk, rfl, hg, HG, HW⟩ := hrel
    by_cases hlt : k < n
    · obtain ⟨b, o, rfl, hab, hc0, hc1⟩ := HA.out k hlt
      have d0 := (HW.out.cell (p := ⟨b, o + k * 2, none⟩) hab).trans hc0
      have d1 := (HW.out.cell (p := ⟨b, o + k * 2 + 1, none⟩) hab).trans hc1
      unfold pT at d0
      unfold pA at d1
      have HL2 := HL.out k
      have HS2 : Hid (flt l (k + 1) = flt l k ++ fl1 (l.getD k (0, 0)) k ++ fl3 l k) := HS.out k
      have HF3 : Hid (∀ j, k = j + 1 → beforeB (l.getD j (0, 0)) (l.getD k (0, 0)) = true → fl3 l k = []) := fun j e h => by subst e; exact fl3_yes h
      have HF4 : Hid (∀ j, k = j + 1 → beforeB (l.getD j (0, 0)) (l.getD k (0, 0)) = false → fl3 l k = [(13, dec k)]) := fun j e h => by subst e; exact fl3_no h
      generalize l.getD k (0, 0) = q at *
      obtain ⟨x, y⟩ := q
      simp only at d0 d1
      have KP := Lib.hid (fun w => isPoint_n x y w)
      have KI := Lib.hid (fun w ht => itoa_n k (by omega) w ht)
      have hsz := HW.out.size
      clear hc0 hc1
      go_upto_if 27 with (go_at_call 71; refine (KP.out _).mono ?_; rintro e w1 ⟨rfl, b1⟩)
      have HB1 : Hid (Below w.heap.size w w1) := (HW.out.alloc hsz (.cells #[.int .i64 x, .int .i64 y] 75)).trans (b1.mono (by simp; omega))
      have hne : some wr.heap.size ≠ u3.ownBlock := fun h => absurd (World.ownsRow.lt HG.out.own _ h.symm).2 (Nat.lt_irrefl _)
      have HG1 : Hid (Gl w.heap.size w1 u3 (flt l k)) := (HG.out.frame (below_alloc wr _)).frame b1
      have c0 : w1.cell? ⟨wr.heap.size, 0, none⟩ = some (.int .i64 x) := (b1.cell (p := ⟨wr.heap.size, 0, none⟩) (by simp)).trans (by simp)
      have c1 : w1.cell? ⟨wr.heap.size, 1, none⟩ = some (.int .i64 y) := (b1.cell (p := ⟨wr.heap.size, 1, none⟩) (by simp)).trans (by simp)
      have hsz1 := HB1.out.size
      have hpl : wr.heap.size < w1.heap.size := Nat.lt_of_lt_of_le (by simp) b1.size
      clear b1 d0 d1
      go_cut [3, 20] (fun v i wx => i = .int .i64 k ∧ Hid (Gl w.heap.size wx v (flt l k ++ fl1 (x, y) k)) ∧ Hid (Below w.heap.size w wx) ∧ wx.cell? ⟨wr.heap.size, 0, none⟩ = some (.int .i64 x) ∧ wx.cell? ⟨wr.heap.size, 1, none⟩ = some (.int .i64 y))
      case first =>
        cases hp : pointB (x, y)
        · have HF : Hid (fl1 (x, y) k = [(2, dec k)]) := fl1_no hp
          clear hp
          go_wp2_with fail
          refine (KI.out _ (HT.out.over HB1.out)).mono ?_
          rintro e w2 ⟨rfl, b2⟩
          have HB2 := Lib.hid (over HB1.out b2)
          have HG2 := Lib.hid (HG1.out.frame b2)
          have c0 := (b2.cell (World.block_lt_of_cell? _ _ c0)).trans c0
          have c1 := (b2.cell (World.block_lt_of_cell? _ _ c1)).trans c1
          have hsz2 := HB2.out.size
          clear b2
          go_wp2_with (at_builtin; refine wpList_append_own _ rfl _ _ 27 rfl w.heap.size 31 i0 (.agg #[.int .i64 0, .string ⟨#[]⟩]) 2 24 Tryd.underlying27 hi hz0 hz1 hz2 rfl (by decide) _ _ _ rfl (World.ownsRow.alloc HG2.out.own _) ⟨w2.heap.size, 0, none⟩ 1 1 [.int .i64 2, .string (dec k)] rfl rfl ?q1 ?q2 ?q3 ?q4 ?q5 ?_)
          case q1 => exact two_new _ _ _ _
          case q2 => exact fcells _ _
          case q3 => unfold maxLen; omega
          case q4 => omega
          case q5 => simp; omega
          intro v3 w3 hown hgrow _
          have HG3 : Hid (Gl w.heap.size w3 v3 (flt l k ++ fl1 (x, y) k)) := by show Gl _ _ _ _; rw [HF.out]; exact Gl.more hown
          have HB3 : Hid (Below w.heap.size w w3) := (HB2.out.alloc (by omega) _).grown hgrow (by simp; omega) (HG2.out.blk)
          have c0 := hgrow.cell (cell_alloc_t _ c0) hne
          have c1 := hgrow.cell (cell_alloc_t _ c1) hne
          go_wp2_with fail
          go_meet
          case rel => exact ⟨rfl, HG3, HB3, c0, c1⟩
        · have HF : Hid (fl1 (x, y) k = []) := fl1_yes hp
          have HG3 : Hid (Gl w.heap.size w1 u3 (flt l k ++ fl1 (x, y) k)) := by show Gl _ _ _ _; rw [HF.out, List.append_nil]; exact HG1.out
          clear hp
          go_wp2_with fail
          go_meet
          case rel => exact ⟨rfl, HG3, HB1, c0, c1⟩
      clear c0 c1 HB1 HG1 hsz1 hpl HG HW hsz hne KP
      obtain ⟨rfl, HG, HB, c0, c1⟩ := hcut
      have hsz := HB.out.size
      have hl1 := fl1_len (x, y) k
      have hfl : (flt l k ++ fl1 (x, y) k).length ≤ 2 * k + 2 := by rw [List.length_append]; omega
      generalize flt l k ++ fl1 (x, y) k = F at hfl HG HS2
      cases k with
      | zero =>
        have HG2 : Hid (Gl w.heap.size wc u3 (flt l (0 + 1))) := by show Gl _ _ _ _; rw [HS2.out, fl3_zero, List.append_nil]; exact HG.out
        go_wp2_with fail
        go_quiet (fail)
        go_wp2_with fail
        go_roundg (n - 1)
        case measure => omega
        case rel => exact ⟨1, by omega, by go_num, by omega, HG2.out.frame (below_drewN (Below.refl _ _) _), below_drewN HB.out _⟩
      | succ j =>
        obtain ⟨b', o', hbo, -, hc0, hc1⟩ := HA.out j (by omega)
        obtain ⟨rfl, rfl⟩ : b = b' ∧ o = o' := by simpa using hbo
        have d0 := (HB.out.cell (p := ⟨b, o + j * 2, none⟩) hab).trans hc0
        have d1 := (HB.out.cell (p := ⟨b, o + j * 2 + 1, none⟩) hab).trans hc1
        unfold pT at d0
        unfold pA at d1
        clear hc0 hc1 hbo
        have HF5 := Lib.hid (HF3.out j rfl)
        have HF6 := Lib.hid (HF4.out j rfl)
        generalize l.getD j (0, 0) = q at *
        obtain ⟨x0, y0⟩ := q
        simp only at d0 d1
        have KB := Lib.hid (fun w => isBefore_n x0 y0 x y w)
        have hj0 : (0 : Int) ≤ (j : Int) := by omega
        have hj1 : (j : Int) < (n : Int) := by omega
        have hj2 : (0 : Int) < (j : Int) + 1 := by omega
        have hwj : IntKind.i64.wrap (j : Int) = (j : Int) := IntWalk.i64_in _ (by omega)
        go_wp2_with fail
        go_region_with (go_at_call 72; with_reducible refine (KB.out _).mono ?_; rintro e wm ⟨rfl, bm⟩)
        all_goals
          have HBm := Lib.hid (over (below_drew HB.out) bm)
          have HGm := Lib.hid (HG.out.drew.frame bm)
          have hszm := HBm.out.size
          clear bm d0 d1 c0 c1
          cases hb : beforeB (x0, y0) (x, y)
          · have HF : Hid (fl3 l (j + 1) = [(13, dec (j + 1))]) := HF6.out hb
            clear hb
            go_wp2_with fail
            refine (KI.out _ (HT.out.over HBm.out)).mono ?_
            rintro e w2 ⟨rfl, b2⟩
            have HB2 := Lib.hid (over HBm.out b2)
            have HG2 := Lib.hid (HGm.out.frame b2)
            have hsz2 := HB2.out.size
            clear b2
            go_wp2_with (at_builtin; refine wpList_append_own _ rfl _ _ 27 rfl w.heap.size 31 i0 (.agg #[.int .i64 0, .string ⟨#[]⟩]) 2 24 Tryd.underlying27 hi hz0 hz1 hz2 rfl (by decide) _ _ _ rfl (World.ownsRow.alloc HG2.out.own _) ⟨w2.heap.size, 0, none⟩ 1 1 [.int .i64 13, .string (dec (j + 1))] rfl rfl ?q1 ?q2 ?q3 ?q4 ?q5 ?_)
            case q1 => exact two_new _ _ _ _
            case q2 => exact fcells _ _
            case q3 => unfold maxLen; omega
            case q4 => omega
            case q5 => simp; omega
            intro v3 w3 hown hgrow _
            have HG3 : Hid (Gl w.heap.size w3 v3 (flt l (j + 1 + 1))) := by show Gl _ _ _ _; rw [HS2.out, HF.out]; exact Gl.more hown
            have HB3 : Hid (Below w.heap.size w w3) := (HB2.out.alloc (by omega) _).grown hgrow (by simp; omega) (HG2.out.blk)
            clear hown hgrow
            go_wp2_with fail
            go_roundg (n - (j + 2))
            case measure => omega
            case rel => exact ⟨j + 1 + 1, by omega, by go_num, by omega, HG3, HB3⟩
          · have HF : Hid (fl3 l (j + 1) = []) := HF5.out hb
            have HG3 : Hid (Gl w.heap.size wm u3 (flt l (j + 1 + 1))) := by show Gl _ _ _ _; rw [HS2.out, HF.out, List.append_nil]; exact HGm.out
            clear hb
            go_wp2_with fail
            go_roundg (n - (j + 2))
            case measure => omega
            case rel => exact ⟨j + 1 + 1, by omega, by go_num, by omega, HG3, HBm⟩
    · have hk' : k = n := by omega
      subst hk'
      have HR : Hid (flt l k = r) := HE.out.symm
      go_wp2_with fail
      go_ret
      exact chkP (HR.out ▸ HG.out) HW.out (Nat.le_refl _)

theorem isTravel_n (u : Value) (l : List (Int × Int)) (w : World) (hu : Ps w u l) (ht : Tab w) (hl9 : l.length ≤ 1000000000000000) :
    Calls Tryd.prog 64 #[u] w fun e w' => e = .returned (.bool (okB l)) ∧ Below w.heap.size w w' := by
  have hok := okB_len l
  by_cases h : l.length ≤ 16
  · have K := Lib.hid (fun w hu ht => check_n u l (by omega) w hu ht)
    have HT := Lib.hid ht
    clear ht
    have HF : Hid (decide (((faults l).length : Int) = 0) = okB l) := by
      show _ = _
      rw [← hok, decide_eq_true h, Bool.true_and]
      rw [Bool.eq_iff_iff]; simp
    have HU := Lib.hid hu
    obtain ⟨oa, c, rfl, -⟩ := hu
    have h1 : (l.length : Int) ≤ 16 := by omega
    generalize okB l = r at *
    generalize l.length = n at *
    generalize (faults l) = fl at *
    clear hok
    go_enter Tryd.func64, Tryd.ntmps64
    go_wp2_with fail
    refine (K.out _ HU.out HT.out).mono ?_
    rintro e w1 ⟨oa1, c1, rfl, -, b1⟩
    go_wp2_with fail
    go_ret
    exact ⟨ret_bool HF.out, b1⟩
  · have HF : Hid (false = okB l) := by show _ = _; rw [← hok, decide_eq_false h]; rfl
    obtain ⟨oa, c, rfl, -⟩ := hu
    have h1 : ¬ (l.length : Int) ≤ 16 := by omega
    have h2 : (16 : Int) < (l.length : Int) := by omega
    generalize okB l = r at *
    generalize l.length = n at *
    clear hok
    go_enter Tryd.func64, Tryd.ntmps64
    go_wp2_with fail
    go_ret
    exact ⟨ret_bool HF.out, Below.refl _ _⟩

end Go.Proofs.YtegpebnkogjadaaDoor.T

