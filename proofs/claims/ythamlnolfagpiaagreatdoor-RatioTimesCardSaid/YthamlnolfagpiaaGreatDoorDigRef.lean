/-
  DERIVED. Merged by mkbase.py.
-/
import Derived.Test.YthamlnolfagpiaaGreatDoorIntPure
import Derived.Test.YthamlnolfagpiaaGreatDoorNatGen
import Derived.Below
import Derived.OwnWalk
import Derived.Laws.OwnMore
import Derived.Deep.AppendLies
import Derived.Deep.Draws
import Derived.Deep.QuietTactic
import Derived.BigQuiet
import Derived.Lib.Hide
import Derived.WalkSmall
import Derived.Deep.Onto
import Derived.Lib.OwnBridge
import Derived.IntWalk
import Derived.Deep.LoopGhost
import Derived.Laws.AppendOwnNone
import Derived.OneCell
namespace Go.Proofs.YthamlnolfagpiaaGreatDoor.D
open Go.RowKit
set_option maxRecDepth 8000

def iv (n : Nat) : Value := .int .i64 (n : Int)
/-- the slice v holds the digits l -/
def Ow (w : World) (v : Value) (l : List Nat) : Prop := w.ownsRow 0 3 1 v l.length (l.map iv)

theorem Ow.frame {w w' : World} {v : Value} {l : List Nat} (h : Ow w v l) (hb : Below w.heap.size w w') : Ow w' v l := by
  refine ⟨h.1, ?_⟩
  rcases h.2 with hn | ⟨g, cap, cur, rfl, hbg, hgg, rest⟩
  · exact .inl hn
  · refine .inr ⟨g, cap, cur, rfl, hbg, ?_, rest⟩
    rw [hb.block g (Array.getElem?_eq_some_iff.1 hgg).1]; exact hgg
theorem Ow.alloc {w : World} {v : Value} {l : List Nat} (h : Ow w v l) (o : Obj) : Ow (w.alloc o) v l := h.frame ((Below.refl _ w).alloc (Nat.le_refl _) o)
theorem Ow.drewN {w : World} {v : Value} {l : List Nat} (h : Ow w v l) (n : Nat) : Ow (w.drewN n) v l := h
theorem Ow.shape {w : World} {v : Value} {l : List Nat} (h : Ow w v l) : ∃ A c, v = .slice A l.length c ∧ l.length ≤ c ∧ ∀ i, i < l.length → ∃ g, A = some ⟨g, 0, none⟩ ∧ g < w.heap.size ∧ w.cell? ⟨g, i, none⟩ = some (.int .i64 ((l.getD i 0 : Nat) : Int)) := by
  rcases h.2 with ⟨hn, h0⟩ | ⟨g, cap, cur, rfl, hbg, hgg, hnc, rest⟩
  · exact ⟨none, 0, by rw [hn, h0], by omega, fun i hi => by omega⟩
  · refine ⟨some ⟨g, 0, none⟩, cap, rfl, hnc, fun i hi => ⟨g, rfl, (Array.getElem?_eq_some_iff.1 hgg).1, ?_⟩⟩
    have := World.ownsRow.cellAt (g := g) (cap := cap) (n := l.length) (xs := l.map iv) (w := w) (base := 0) (e := 3) (size := 1) ⟨h.1, .inr ⟨g, cap, cur, rfl, hbg, hgg, hnc, rest⟩⟩ i (by omega)
    rw [this, List.getElem?_map, List.getD_eq_getElem?_getD, List.getElem?_eq_getElem hi]
    rfl
theorem Ow.ext {w : World} {v : Value} {l m : List Nat} (h : Ow w v l) (e : m = l) : Ow w v m := e ▸ h
theorem Ow.nil (w : World) : Ow w (.slice none 0 0) [] := World.ownsRow_nil w 0 _ _
theorem Ow.cut {w : World} {A : Option Addr} {c n : Nat} {l : List Nat} (h : Ow w (.slice A n c) l) (k : Nat) (hk : k ≤ l.length) : Ow w (.slice A k c) (l.take k) := by
  rcases h.2 with ⟨hn, h0⟩ | ⟨g, cap, cur, hv, hbg, hg, hnc, hcm, hcs, ht⟩
  · have hl : l = [] := List.eq_nil_of_length_eq_zero h0
    subst hl
    have : k = 0 := by simpa using hk
    subst this
    cases hn
    exact Ow.nil w
  · cases hv
    refine ⟨by simp, .inr ⟨g, c, cur, ?_, hbg, hg, ?_, hcm, hcs, ?_⟩⟩
    · rw [List.length_take, Nat.min_eq_left hk]
    · rw [List.length_take]; omega
    · rw [List.map_take, ← ht, List.take_take, List.length_take]
      simp only [Nat.mul_one]
theorem info3a : (Tryz.prog.info? 3).map (fun i => (i.zero, i.size, i.bytes)) = some (some (.int .i64 0), 1, 8) := by kernel_rfl
theorem info3' : ∃ i, Tryz.prog.info? 3 = some i ∧ i.zero = some (.int .i64 0) ∧ i.size = 1 ∧ i.bytes = 8 := by
  have h := info3a
  cases hi : Tryz.prog.info? 3 with
  | none => rw [hi] at h; cases h
  | some i => rw [hi] at h; simp at h; exact ⟨i, rfl, h.1, h.2.1, h.2.2⟩
theorem one_new (w : World) (x : Int) : ∀ (j : Nat) (v : Value), [Value.int .i64 x][j]? = some v → (w.alloc (.cells #[.int .i64 x] 3)).cell? ((⟨w.heap.size, 0, none⟩ : Addr).add j) = some v := by
  intro j v hv
  match j, hv with
  | 0, hv => simp at hv; subst hv; simp [Addr.add]
theorem one_cell (x : Int) : ∀ v ∈ [Value.int .i64 x], v.oneCell' = true := by
  intro v hv; simp at hv; subst hv; rfl
theorem Ow.of_own {w : World} {v : Value} {n x : Nat} {l : List Nat} {z : Int} (hz : z = (x : Int)) (hn : l.length = n) (h : w.ownsRow 0 3 1 v (n + 1) (l.map iv ++ [.int .i64 z])) : Ow w v (l ++ [x]) := by
  subst hn
  subst hz
  unfold Ow
  rw [List.map_append, List.length_append]
  exact h
/-- the call's own slice v, made since block B, holds the digits l -/
def Owb (B : Nat) (w : World) (v : Value) (l : List Nat) : Prop := w.ownsRow B 3 1 v l.length (l.map iv)
theorem Owb.weak {B : Nat} {w : World} {v : Value} {l : List Nat} (h : Owb B w v l) : Ow w v l := World.ownsRow.mono h (Nat.zero_le _)
theorem Owb.alloc {B : Nat} {w : World} {v : Value} {l : List Nat} (h : Owb B w v l) (o : Obj) : Owb B (w.alloc o) v l := World.ownsRow.alloc h o
theorem Owb.nil (B : Nat) (w : World) : Owb B w (.slice none 0 0) [] := World.ownsRow_nil w B _ _
theorem Owb.blk {B : Nat} {w : World} {v : Value} {l : List Nat} (h : Owb B w v l) : ∀ k, v.ownBlock = some k → B ≤ k := fun k hk => (World.ownsRow.lt h k hk).1
theorem Owb.of_own {B : Nat} {w : World} {v : Value} {n x : Nat} {l : List Nat} {z : Int} (hz : z = (x : Int)) (hn : l.length = n) (h : w.ownsRow B 3 1 v (n + 1) (l.map iv ++ [.int .i64 z])) : Owb B w v (l ++ [x]) := by
  subst hn
  subst hz
  unfold Owb
  rw [List.map_append, List.length_append]
  exact h
theorem ret_sl {a : Option Addr} {n m cap : Nat} (h : n = m) : Ending.returned (.slice a n cap) = .returned (.slice a m cap) := by rw [h]
def slLen : Value → Nat | .slice _ n _ => n | _ => 0
theorem trim_end (l : List Nat) (hlo : lo l) (k : Nat) (hk : k ≤ l.length) (hv : val (l.take k) = val l) (ht : k = 0 ∨ l.getD (k - 1) 0 ≠ 0) : limbs (val l) = l.take k := by
  rw [← hv]
  apply limbs_of _ (lo_take hlo k)
  rcases ht with rfl | ht
  · left; simp
  · by_cases h0 : k = 0
    · left; subst h0; simp
    right
    rw [List.length_take, Nat.min_eq_left hk, List.getD_eq_getElem?_getD, List.getElem?_take, if_pos (by omega), ← List.getD_eq_getElem?_getD]
    exact ht

end Go.Proofs.YthamlnolfagpiaaGreatDoor.D

namespace Go.Proofs.YthamlnolfagpiaaGreatDoor.D
open Go.RowKit
set_option maxRecDepth 8000

theorem Ow.empty {w : World} {v : Value} {l : List Nat} (h : Ow w v l) (h0 : l.length = 0) : ∃ A c, v = .slice A 0 c := by
  obtain ⟨A, c, hv, _, _⟩ := h.shape
  exact ⟨A, c, by rw [hv, h0]⟩
theorem Ow.form {w : World} {v : Value} {l : List Nat} (h : Ow w v l) (h0 : 0 < l.length) : ∃ g c, v = .slice (some ⟨g, 0, none⟩) l.length c ∧ l.length ≤ c ∧ g < w.heap.size ∧ ∀ i, i < l.length → w.cell? ⟨g, i, none⟩ = some (.int .i64 ((l.getD i 0 : Nat) : Int)) := by
  obtain ⟨A, c, hv, hc, hcell⟩ := h.shape
  obtain ⟨g, rfl, hg, _⟩ := hcell 0 h0
  refine ⟨g, c, hv, hc, hg, fun i hi => ?_⟩
  obtain ⟨g', hg', _, hc'⟩ := hcell i hi
  cases hg'
  exact hc'
theorem val_empty {l : List Nat} (h : l.length = 0) : val l = 0 := by rw [List.eq_nil_of_length_eq_zero h]; rfl
theorem getD_over {l : List Nat} {i : Nat} (h : l.length ≤ i) : l.getD i 0 = 0 := by
  rw [List.getD_eq_getElem?_getD, List.getElem?_eq_none h]; rfl

set_option maxHeartbeats 400000 in
theorem refTrim3 (v : Value) (l : List Nat) (hlo : lo l) (w : World) (h : Ow w v l) (hl : l.length ≤ 1000000000) :
    Calls Tryz.prog 109 #[v] w fun e w' => ∃ v', e = .returned v' ∧ w = w' ∧ Ow w v' (limbs (val l)) := by
  by_cases h0 : l.length = 0
  · obtain ⟨A, c, rfl⟩ := h.empty h0
    have HR : Hid (Ow w (.slice A 0 c) (limbs (val l))) := by
      show Ow _ _ _
      rw [val_empty h0, limbs_zero]
      rw [List.eq_nil_of_length_eq_zero h0] at h
      exact h
    clear h
    go_enter Tryz.func109, Tryz.ntmps109
    go_wp2
    go_loop [3] (fun v => v = .int .i64 0) (fun _ => 0)
    case atStart => rfl
    case round =>
      subst hrel
      go_wp2
      go_ret
      exact ⟨_, rfl, rfl, HR.out⟩
  obtain ⟨g, c, hv, hc, hg, hcell⟩ := h.form (by omega)
  rw [hv] at h ⊢
  clear hv
  have HE := Lib.hid (trim_end l hlo)
  have HR := Lib.hid h
  generalize hn : l.length = n at *
  have HN := Lib.hid hn
  clear h hn
  go_enter Tryz.func109, Tryz.ntmps109
  go_wp2
  go_loop [3] (fun v => ∃ k : Nat, k ≤ n ∧ v = .int .i64 k ∧ Hid (val (l.take k) = val l)) (fun v => (intOf v).toNat)
  case atStart => exact ⟨n, Nat.le_refl _, rfl, by rw [← HN.out, List.take_length]; rfl⟩
  case round =>
    obtain ⟨k, hk, rfl, HV⟩ := hrel
    match k, hk, HV with
    | 0, hk, HV =>
      have HL := Lib.hid (HE.out 0 (Nat.zero_le _) HV.out (.inl rfl))
      clear hcell
      go_wp2
      go_ret
      exact ⟨_, rfl, rfl, (HR.out.cut 0 (Nat.zero_le _)).ext HL.out⟩
    | j + 1, hk, HV =>
      have hc := hcell j (by omega)
      have HX : Hid (val (l.take (j + 1)) = val (l.take j) + bp j * l.getD j 0) := val_take_succ l j (by rw [HN.out]; omega)
      have HT := Lib.hid (HE.out (j + 1) hk HV.out)
      clear hcell
      generalize hx : l.getD j 0 = x at *
      by_cases hx0 : x = 0
      · subst hx0
        clear hx HT
        have HV' : Hid (val (l.take j) = val l) := by have a := HX.out; have b := HV.out; show _ = _; omega
        clear HX HV
        go_wp2
        go_round
        case rel => exact ⟨j, by omega, by go_num, HV'⟩
        case measure => simp [intOf]
      · have hx' : ((x : Int) == 0) = false := by simp; omega
        have HL := Lib.hid (HT.out (.inr (by rw [Nat.add_sub_cancel, hx]; exact hx0)))
        have HC := Lib.hid ((HR.out.cut (j + 1) (by rw [HN.out]; exact hk)).ext HL.out)
        clear HT HX HV hx HL
        go_wp2
        go_ret
        exact ⟨_, rfl, rfl, HC.out⟩

theorem refDigit3 (v : Value) (l : List Nat) (i : Nat) (w : World) (h : Ow w v l) (hi : i ≤ 1000000000) (hl : l.length ≤ 1000000000) :
    Calls Tryz.prog 118 #[v, .int .i64 (i : Int)] w fun e w' => e = .returned (.int .i64 ((l.getD i 0 : Nat) : Int)) ∧ w = w' := by
  by_cases h0 : i < l.length
  · obtain ⟨g, c, rfl, hc, hg, hcell⟩ := h.form (by omega)
    have hx := hcell i h0
    clear h hcell
    generalize l.getD i 0 = x at *
    generalize l.length = n at *
    go_enter Tryz.func118, Tryz.ntmps118
    go_wp2
    go_ret
    exact ⟨rfl, rfl⟩
  · obtain ⟨A, c, rfl, hc, _⟩ := h.shape
    rw [getD_over (by omega)]
    clear h
    generalize l.length = n at *
    go_enter Tryz.func118, Tryz.ntmps118
    go_wp2
    go_ret
    exact ⟨rfl, rfl⟩

theorem val_dropD (l : List Nat) (k : Nat) : val (l.drop k) = l.getD k 0 + 10 * val (l.drop (k + 1)) := by
  by_cases h : k < l.length
  · exact val_drop l k h
  · rw [getD_over (by omega), List.drop_of_length_le (by omega), List.drop_of_length_le (by omega), val_nil]
theorem cmp_less (l m : List Nat) (k : Nat) (hlo : lo l) (h : val (l.drop k) < val (m.drop k)) : val l < val m := by
  have hk : k ≤ m.length := by
    apply Decidable.byContradiction
    intro hh
    have e : m.drop k = [] := List.drop_of_length_le (by omega)
    rw [e, val_nil] at h
    omega
  have h2 := val_split m k hk
  have h3 : val l < bp k * (val (l.drop k) + 1) := by
    by_cases hl : k ≤ l.length
    · have h4 := val_split l k hl
      have h5 := val_lt (lo_take hlo k)
      rw [List.length_take, Nat.min_eq_left hl] at h5
      rw [Nat.mul_add]; omega
    · have h4 := val_lt hlo
      have h5 := bp_mono (show l.length ≤ k by omega)
      rw [Nat.mul_add]; omega
  have h6 := Nat.mul_le_mul_left (bp k) (show val (l.drop k) + 1 ≤ val (m.drop k) by omega)
  omega
theorem cmp_c1 {u v : Nat} (h : u < v) : cmpN u v = -1 := by rw [cmpN, if_pos h]
theorem cmp_c2 {u v : Nat} (h : v < u) : cmpN u v = 1 := by rw [cmpN, if_neg (by omega), if_neg (by omega)]
theorem cmp_c3 {u v : Nat} (h : u = v) : cmpN u v = 0 := by rw [cmpN, if_neg (by omega), if_pos h]

set_option maxHeartbeats 1000000 in
theorem refCmp3 (a b : Value) (l m : List Nat) (hl : lo l) (hm : lo m) (w : World) (ha : Ow w a l) (hb : Ow w b m) (hl9 : l.length ≤ 1000001) (hm9 : m.length ≤ 1000001) :
    Calls Tryz.prog 117 #[a, b] w fun e w' => e = .returned (.int .i64 (cmpN (val l) (val m))) ∧ w = w' := by
  obtain ⟨A, c, rfl, _, _⟩ := ha.shape
  obtain ⟨B, d, rfl, _, _⟩ := hb.shape
  have HA := Lib.hid ha
  have HB := Lib.hid hb
  have HL := Lib.hid hl
  have HM := Lib.hid hm
  have HL1 : Hid (l.drop (max l.length m.length) = []) := List.drop_of_length_le (by omega)
  have HM1 : Hid (m.drop (max l.length m.length) = []) := List.drop_of_length_le (by omega)
  clear ha hb hl hm
  obtain ⟨t, ht⟩ : ∃ t, max l.length m.length = t := ⟨_, rfl⟩
  rw [ht] at HL1 HM1
  have ht9 : t ≤ 1000001 := by omega
  generalize hnl : l.length = nl at *
  generalize hnm : m.length = nm at *
  have HNL := Lib.hid hnl
  have HNM := Lib.hid hnm
  clear hnl hnm
  go_enter Tryz.func117, Tryz.ntmps117
  go_wp2
  all_goals
    go_loop [5] (fun i => ∃ k : Nat, i = .int .i64 ((k : Int) - 1) ∧ k ≤ t ∧ Hid (val (l.drop k) = val (m.drop k))) (fun i => (intOf i + 1).toNat)
    case atStart => exact ⟨t, congrArg (Value.int .i64) (by omega), Nat.le_refl _, by show _ = _; rw [HL1.out, HM1.out]⟩
    case round =>
      clear HL1 HM1
      obtain ⟨k, rfl, hk, HV⟩ := hrel
      match k, hk, HV with
      | 0, hk, HV =>
        have HC := Lib.hid (cmp_c3 (show val l = val m from HV.out))
        go_wp2
        go_ret
        exact ⟨ret_int (by rw [HC.out]), rfl⟩
      | j + 1, hk, HV =>
        have d1 := val_dropD l j
        have d2 := val_dropD m j
        have hx : Hid (∀ W, W = w → Calls Tryz.prog 118 #[.slice A nl c, .int .i64 (j : Int)] W fun e w' => e = .returned (.int .i64 ((l.getD j 0 : Nat) : Int)) ∧ W = w') := fun W hW => by
          subst hW
          have h := refDigit3 _ l j W HA.out (by omega) (by rw [HNL.out]; omega)
          exact h
        have hy : Hid (∀ W, W = w → Calls Tryz.prog 118 #[.slice B nm d, .int .i64 (j : Int)] W fun e w' => e = .returned (.int .i64 ((m.getD j 0 : Nat) : Int)) ∧ W = w') := fun W hW => by
          subst hW
          have h := refDigit3 _ m j W HB.out (by omega) (by rw [HNM.out]; omega)
          exact h
        have hl9 := lo_getD HL.out j
        have hm9 := lo_getD HM.out j
        generalize l.getD j 0 = x at *
        generalize m.getD j 0 = y at *
        have HC1 : Hid (x < y → cmpN (val l) (val m) = -1) := fun h => cmp_c1 (cmp_less l m j HL.out (by rw [d1, d2, HV.out]; omega))
        have HC2 : Hid (y < x → cmpN (val l) (val m) = 1) := fun h => cmp_c2 (cmp_less m l j HM.out (by rw [d1, d2, HV.out]; omega))
        have HC3 : Hid (x = y → val (l.drop j) = val (m.drop j)) := fun h => by rw [d1, d2, HV.out, h]
        clear d1 d2
        rcases Nat.lt_trichotomy x y with h | h | h
        · have HC := Lib.hid (HC1.out h)
          go_wp2_with fail
          refine (hx.out _ rfl).mono ?_
          rintro e w' ⟨rfl, rfl⟩
          go_wp2_with fail
          refine (hy.out _ rfl).mono ?_
          rintro e w' ⟨rfl, rfl⟩
          go_wp2_with fail
          go_ret
          exact ⟨ret_int (by rw [HC.out]), rfl⟩
        · have HC := Lib.hid (HC3.out h)
          subst h
          go_wp2_with fail
          refine (hx.out _ rfl).mono ?_
          rintro e w' ⟨rfl, rfl⟩
          go_wp2_with fail
          refine (hy.out _ rfl).mono ?_
          rintro e w' ⟨rfl, rfl⟩
          go_wp2_with fail
          refine (hx.out _ rfl).mono ?_
          rintro e w' ⟨rfl, rfl⟩
          go_wp2_with fail
          refine (hy.out _ rfl).mono ?_
          rintro e w' ⟨rfl, rfl⟩
          go_wp2_with fail
          go_round
          case rel => exact ⟨j, by go_num, by omega, HC⟩
          case measure => simp [intOf]
        · have HC := Lib.hid (HC2.out h)
          go_wp2_with fail
          refine (hx.out _ rfl).mono ?_
          rintro e w' ⟨rfl, rfl⟩
          go_wp2_with fail
          refine (hy.out _ rfl).mono ?_
          rintro e w' ⟨rfl, rfl⟩
          go_wp2_with fail
          refine (hx.out _ rfl).mono ?_
          rintro e w' ⟨rfl, rfl⟩
          go_wp2_with fail
          refine (hy.out _ rfl).mono ?_
          rintro e w' ⟨rfl, rfl⟩
          go_wp2_with fail
          go_ret
          exact ⟨ret_int (by rw [HC.out]), rfl⟩

end Go.Proofs.YthamlnolfagpiaaGreatDoor.D

namespace Go.Proofs.YthamlnolfagpiaaGreatDoor.D
open Go.RowKit
set_option maxRecDepth 8000

theorem own_string {W : World} {B : Nat} {v : Value} {n : Nat} {l : List UInt8} (h : W.ownsRow B 5 1 v n (Lib.byteCells l)) :
    (convert 43 9 v).run Tryz.prog W = .ok (.string ⟨l.toArray⟩) W := by
  have hl : l.length = n := by have := h.1; rw [Lib.byteCells_length] at this; omega
  subst hl
  have hcell := fun g hg => h.cells (g := g) hg
  rcases h.2 with ⟨rfl, h0⟩ | ⟨g, cap, cur, rfl, _, _, hnc, _⟩
  · have : l = [] := List.eq_nil_of_length_eq_zero h0
    subst this
    exact run_convert_bytes_nil W 43 5 Tryz.underlying43 Tryz.underlying5 0 0 _ Tryz.underlying9
  · refine run_convert_bytes_back W _ _ 5 _ cap l Tryz.underlying43 Tryz.underlying5 Tryz.underlying9 ?_
    intro j hj
    exact hcell g rfl j _ (by simp [Lib.byteCells, hj])
theorem info5a : (Tryz.prog.info? 5).map (fun i => (i.zero, i.size, i.bytes)) = some (some (.int .u8 0), 1, 1) := by kernel_rfl
theorem info5' : ∃ i, Tryz.prog.info? 5 = some i ∧ i.zero = some (.int .u8 0) ∧ i.size = 1 ∧ i.bytes = 1 := by
  have h := info5a
  cases hi : Tryz.prog.info? 5 with
  | none => rw [hi] at h; cases h
  | some i => rw [hi] at h; simp at h; exact ⟨i, rfl, h.1, h.2.1, h.2.2⟩
theorem bone_new (w : World) (x : Int) : ∀ (j : Nat) (v : Value), [Value.int .u8 x][j]? = some v → (w.alloc (.cells #[.int .u8 x] 5)).cell? ((⟨w.heap.size, 0, none⟩ : Addr).add j) = some v := by
  intro j v hv
  match j, hv with
  | 0, hv => simp at hv; subst hv; simp [Addr.add]
theorem bone_cell (x : Int) : ∀ v ∈ [Value.int .u8 x], v.oneCell' = true := by
  intro v hv; simp at hv; subst hv; rfl
theorem bc_snoc (X : List UInt8) (d : Nat) (hd : d < 10) : Lib.byteCells (X ++ [dchr d]) = Lib.byteCells X ++ [.int .u8 (48 + (d : Int))] := by
  rw [Lib.byteCells_append]
  simp only [Lib.byteCells, List.map_cons, List.map_nil, dchr]
  rw [UInt8.toNat_ofNat_of_lt' (by simp [UInt8.size]; omega)]
  simp

set_option maxHeartbeats 1000000 in
theorem refParts3 (z : Int) (w : World) (hL : (inum z).size ≤ 1000000) :
    Calls Tryz.prog 79 #[.string (inum z)] w fun e w' => ∃ v, e = .returned (.tuple #[.bool (decide (z < 0)), v]) ∧ Ow w' v (limbs z.natAbs) ∧ Below w.heap.size w w' := by
  obtain ⟨i0, hi, hz0, hz1, hz2⟩ := info3'
  have hs := inum_size z
  have HB : Hid (∀ i (h : i < (inum z).size), off z ≤ i → (inum z)[i].toNat = 48 + z.natAbs / 10 ^ ((inum z).size - 1 - i) % 10) := inum_byte z
  have HH : Hid (∀ (h : 0 < (inum z).size), z < 0 → (inum z)[0].toNat = 45) := fun h hz => inum_head z hz h
  have hnd := nd_pos z.natAbs
  have HU : Hid (z.natAbs < 10 ^ nd z.natAbs) := lt_nd z.natAbs
  obtain ⟨o, ho⟩ : ∃ o, off z = o := ⟨_, rfl⟩
  have hoz : (z < 0 ∧ o = 1) ∨ (0 ≤ z ∧ o = 0) := by
    by_cases h : z < 0
    · exact .inl ⟨h, by rw [← ho, off_neg h]⟩
    · exact .inr ⟨by omega, by rw [← ho, off_pos (by omega)]⟩
  rw [ho] at hs HB
  generalize nd z.natAbs = D at *
  generalize inum z = s at *
  have h0 : 0 < s.size := by omega
  have HN : Hid (((s[0].toNat : Int) == 45) = decide (z < 0)) := by
    show _ = _
    rcases hoz with ⟨h1, h2⟩ | ⟨h1, h2⟩
    · rw [HH.out h0 h1, decide_eq_true h1]; rfl
    · rw [decide_eq_false (by omega), HB.out 0 h0 (by omega)]; simp; omega
  have hsl : s.size ≤ D + o := by omega
  have hsg : D + o ≤ s.size := by omega
  clear ho hs
  have hb0 := HN.out
  go_enter Tryz.func79, Tryz.ntmps79
  go_wp2
  go_loopw [4, 6] (fun v i wr => ∃ (k : Nat) (lst : List Nat), i = .int .i64 ((k : Int) - 1) ∧ k ≤ s.size ∧ Hid (lst.length = s.size - max k o) ∧ Hid (lo lst) ∧ Hid (val lst = z.natAbs % bp lst.length) ∧ Hid (Owb w.heap.size wr v lst) ∧ Hid (Below w.heap.size w wr)) (fun _ i _ => (intOf i + 1).toNat)
  case atStart => exact ⟨s.size, [], rfl, Nat.le_refl _, by show _ = _; rw [Nat.max_eq_left (by omega)]; simp, lo_nil, by show _ = _; rw [val_nil, show ([] : List Nat).length = 0 from rfl, bp_zero, Nat.mod_one], Owb.nil _ w, Below.refl _ _⟩
  case round =>
    obtain ⟨k, lst, rfl, hk, HL, HLO, HV, HOW, hb⟩ := hrel
    match k, hk, HL with
    | 0, hk, HL =>
      have HT : Hid (val lst = z.natAbs) := by
        show _ = _
        rw [HV.out, HL.out, Nat.zero_max, show s.size - o = D by omega]
        exact Nat.mod_eq_of_lt HU.out
      have hl9 : lst.length ≤ 1000000 := by rw [HL.out]; omega
      go_wp2_with fail
      refine (refTrim3 _ lst HLO.out _ HOW.out.weak (by omega)).mono ?_
      rintro e w' ⟨v', rfl, rfl, hv'⟩
      rw [HT.out] at hv'
      have HW := Lib.hid hv'
      clear hv'
      go_wp2_with fail
      go_ret2
      exact ⟨v', rfl, HW.out, hb.out⟩
    | j + 1, hk, HL =>
      have hjs : j < s.size := by omega
      by_cases hjo : o ≤ j
      · have hsj := HB.out j hjs hjo
        have HLj : Hid (lst.length = s.size - 1 - j) := by show _ = _; rw [HL.out]; omega
        obtain ⟨d, hd⟩ : ∃ d, z.natAbs / 10 ^ (s.size - 1 - j) % 10 = d := ⟨_, rfl⟩
        have hd9 : d < 10 := by omega
        rw [hd] at hsj
        have HV2 : Hid (val (lst ++ [d]) = z.natAbs % bp (lst ++ [d]).length) := by
          show _ = _
          rw [List.length_append, show [d].length = 1 from rfl]
          exact part_step z.natAbs lst.length lst d rfl HV.out (by rw [HLj.out]; exact hd)
        have HL2 : Hid ((lst ++ [d]).length = s.size - max j o) := by show _ = _; rw [List.length_append, HLj.out, show [d].length = 1 from rfl]; omega
        have HLO2 : Hid (lo (lst ++ [d])) := lo_append.2 ⟨HLO.out, lo_cons.2 ⟨hd9, lo_nil⟩⟩
        have hl9 : lst.length ≤ 1000000 := by rw [HLj.out]; omega
        have hmx : lst.length + 1 ≤ maxLen := by unfold maxLen; omega
        have hby : (lst.length + 1) * 8 ≤ 140737488355328 := by omega
        have HOW2 := Lib.hid (HOW.out.alloc (.cells #[.int .i64 (48 + (d : Int) - 48)] 3))
        have hsz := hb.out.size
        have hszA : w.heap.size ≤ (wr.alloc (.cells #[.int .i64 (48 + (d : Int) - 48)] 3)).heap.size := by simp; omega
        clear hd HV
        go_wp2_with (at_builtin; refine wpList_append_own _ rfl _ _ 39 rfl w.heap.size 3 i0 (.int .i64 0) 1 8 Tryz.underlying39 hi hz0 hz1 hz2 rfl (by decide) _ _ _ rfl HOW2.out ⟨wr.heap.size, 0, none⟩ 1 1 [.int .i64 (48 + (d : Int) - 48)] rfl rfl (one_new wr (48 + (d : Int) - 48)) (one_cell (48 + (d : Int) - 48)) hmx hby hszA ?_)
        intro v2 w2 hown2 hgrow2 _
        have HO3 := Lib.hid (Owb.of_own (x := d) (by omega) rfl hown2)
        have HB3 := Lib.hid ((hb.out.alloc hsz (.cells #[.int .i64 (48 + (d : Int) - 48)] 3)).grown hgrow2 (by simp; omega) HOW.out.blk)
        clear hown2 hgrow2 HOW2
        go_wp2
        go_roundw
        case rel => exact ⟨j, lst ++ [d], by go_num, by omega, HL2, HLO2, HV2, HO3, HB3⟩
        case measure => simp [intOf]
      · have hj0 : j = 0 := by omega
        subst hj0
        have hz1 : z < 0 := by omega
        have hsj := HH.out h0 hz1
        have HL2 : Hid (lst.length = s.size - max 0 o) := by show _ = _; rw [HL.out]; omega
        have hb45 : ((s[0].toNat : Int) != 45) = false := by rw [hsj]; rfl
        go_wp2
        go_roundw
        case rel => exact ⟨0, lst, by go_num, by omega, HL2, HLO, HV, HOW, hb⟩
        case measure => simp [intOf]

end Go.Proofs.YthamlnolfagpiaaGreatDoor.D

namespace Go.Proofs.YthamlnolfagpiaaGreatDoor.D
open Go.RowKit
set_option maxRecDepth 8000

theorem nd_bp (n k : Nat) (h : n < bp (k + 1)) : nd n ≤ k + 1 := nd_le n k h
theorem nd_limbs (n : Nat) (h : (limbs n).length ≤ 1000000) : nd n ≤ 1000001 := nd_bp n 1000000 (Nat.lt_of_lt_of_le (limbs_lt n) (bp_mono (by omega)))

set_option maxHeartbeats 1000000 in
theorem refText3_pos (v : Value) (l : List Nat) (hlo : lo l) (w : World) (h : Ow w v l) (hl : l.length ≤ 1000000) :
    Calls Tryz.prog 80 #[.bool false, v] w fun e w' => e = .returned (.string (inum (sgn false (val l)))) ∧ Below w.heap.size w w' := by
  obtain ⟨i5, hj, hy0, hy1, hy2⟩ := info5'
  have htr := refTrim3 v l hlo w h (by omega)
  have hlim : (limbs (val l)).length ≤ 1000000 := Nat.le_trans (limbs_le (val_lt hlo)) hl
  generalize val l = N at *
  have HTR := Lib.hid htr
  clear htr
  go_enter Tryz.func80, Tryz.ntmps80
  go_wp2_with fail
  refine HTR.out.mono ?_
  rintro e w' ⟨v', rfl, rfl, hv'⟩
  clear HTR h
  by_cases h00 : (limbs N).length = 0
  · obtain ⟨A, c, rfl⟩ := hv'.empty h00
    have HZ : Hid (inum (sgn false N) = ⟨#[48]⟩) := by
      show _ = _
      rw [limbs_len0.1 h00, sgn_zero, show (0 : Int) = ((0 : Nat) : Int) from rfl, inum_nat, num, Lib.decDigits_one (by omega)]; rfl
    clear hv' h00
    go_wp2
    go_ret
    exact ⟨by rw [HZ.out]; rfl, Below.refl _ _⟩
  obtain ⟨g, c, rfl, hnc, hg, hcell0⟩ := hv'.form (by omega)
  have hN0 : 0 < N := by
    rcases Nat.eq_zero_or_pos N with e | e
    · exact absurd (limbs_len0.2 e) h00
    · exact e
  generalize hn : (limbs N).length = n at *
  have hcell := Lib.hid hcell0
  have HN := Lib.hid hn
  have hnd := nd_limbs N (by omega)
  have hnb0 : ((n : Int) == 0) = false := by simp; omega
  clear hcell0 hn hv'
  have HB1 : Hid (Below w.heap.size w w) := Below.refl _ _
  go_wp2
  go_loopw [5, 6] (fun v i wr => ∃ (k nb : Nat), i = .int .i64 ((k : Int) - 1) ∧ k ≤ n ∧ Hid ((([] : List UInt8) ++ tx (limbs N) k).length = nb) ∧ wr.ownsRow w.heap.size 5 1 v nb (Lib.byteCells (([] : List UInt8) ++ tx (limbs N) k)) ∧ Hid (Below w.heap.size w wr)) (fun _ i _ => (intOf i + 1).toNat)
  case atStart => exact ⟨n, 0, rfl, Nat.le_refl _, by show _ = _; rw [← HN.out, tx_top]; rfl, by rw [← HN.out, tx_top, List.append_nil]; exact World.ownsRow_nil w _ _ _, HB1.out⟩
  case round =>
    obtain ⟨k, nb, rfl, hk, HNB, hown, HB⟩ := hrel
    match k, hk, HNB, hown with
    | 0, hk, HNB, hown =>
      have hcv := own_string hown
      have HE : Hid ((⟨(([] : List UInt8) ++ tx (limbs N) 0).toArray⟩ : ByteArray) = inum (sgn false N)) := by show _ = _; rw [tx_zero N hN0, inum, text_nat _ _ hN0]; rfl
      generalize (⟨(([] : List UInt8) ++ tx (limbs N) 0).toArray⟩ : ByteArray) = res at *
      clear hown HNB
      go_wp2
      go_ret
      exact ⟨by rw [← HE.out]; rfl, HB.out⟩
    | j + 1, hk, HNB, hown =>
      have hcj := (hcell.out j (by omega))
      have hcj2 := (HB.out.cell (p := ⟨g, j, none⟩) hg).trans hcj
      have HST := Lib.hid (tx_step N j (by rw [HN.out]; omega))
      have hd9 := lo_getD (limbs_lo N) j
      generalize (limbs N).getD j 0 = d at *
      have hnb : nb ≤ 1000001 + 1 := by
        rw [← HNB.out, List.length_append]
        have := tx_len N (j + 1)
        have h2 : (([] : List UInt8) : List UInt8).length ≤ 1 := by decide
        omega
      have hsz := HB.out.size
      have hmx : nb + 1 ≤ maxLen := by unfold maxLen; omega
      have hby : (nb + 1) * 1 ≤ 140737488355328 := by omega
      have hszA : w.heap.size ≤ (wr.alloc (.cells #[.int .u8 (48 + (d : Int))] 5)).heap.size := by simp; omega
      have HO := Lib.hid (World.ownsRow.alloc hown (.cells #[.int .u8 (48 + (d : Int))] 5))
      have hblk : ∀ g, _ → w.heap.size ≤ g := fun g hg => (World.ownsRow.lt hown g hg).1
      clear hcj
      go_wp2_with (at_builtin; refine wpList_append_own _ rfl _ _ 43 rfl w.heap.size 5 i5 (.int .u8 0) 1 1 Tryz.underlying43 hj hy0 hy1 hy2 rfl (by decide) _ _ _ rfl HO.out ⟨wr.heap.size, 0, none⟩ 1 1 [.int .u8 (48 + (d : Int))] rfl rfl (bone_new wr (48 + (d : Int))) (bone_cell (48 + (d : Int))) hmx hby hszA ?_)
      intro v2 w2 hown2 hgrow2 _
      have HO2 : Hid (w2.ownsRow w.heap.size 5 1 v2 (nb + 1) (Lib.byteCells (([] : List UInt8) ++ tx (limbs N) j))) := by
        show World.ownsRow _ _ _ _ _ _ _
        rw [HST.out, ← List.append_assoc, bc_snoc _ d hd9]; exact hown2
      have HNB2 : Hid ((([] : List UInt8) ++ tx (limbs N) j).length = nb + 1) := by show _ = _; rw [HST.out, ← List.append_assoc, List.length_append, HNB.out]; rfl
      have HB2 := Lib.hid ((HB.out.alloc hsz (.cells #[.int .u8 (48 + (d : Int))] 5)).grown hgrow2 (by simp; omega) hblk)
      clear hown2 hgrow2 HO hown HB
      go_wp2
      go_roundw
      case rel => first | exact ⟨j, nb + 1, by go_num, by omega, HNB2, HO2.out, HB2⟩ | ((repeat apply Exists.intro); exact ⟨⟨j, nb + 1, by go_num, by omega, HNB2, HO2.out, HB2⟩, rfl⟩)
      case measure => simp [intOf]

set_option maxHeartbeats 1000000 in
theorem refText3_neg (v : Value) (l : List Nat) (hlo : lo l) (w : World) (h : Ow w v l) (hl : l.length ≤ 1000000) :
    Calls Tryz.prog 80 #[.bool true, v] w fun e w' => e = .returned (.string (inum (sgn true (val l)))) ∧ Below w.heap.size w w' := by
  obtain ⟨i5, hj, hy0, hy1, hy2⟩ := info5'
  have htr := refTrim3 v l hlo w h (by omega)
  have hlim : (limbs (val l)).length ≤ 1000000 := Nat.le_trans (limbs_le (val_lt hlo)) hl
  generalize val l = N at *
  have HTR := Lib.hid htr
  clear htr
  go_enter Tryz.func80, Tryz.ntmps80
  go_wp2_with fail
  refine HTR.out.mono ?_
  rintro e w' ⟨v', rfl, rfl, hv'⟩
  clear HTR h
  by_cases h00 : (limbs N).length = 0
  · obtain ⟨A, c, rfl⟩ := hv'.empty h00
    have HZ : Hid (inum (sgn true N) = ⟨#[48]⟩) := by
      show _ = _
      rw [limbs_len0.1 h00, sgn_zero, show (0 : Int) = ((0 : Nat) : Int) from rfl, inum_nat, num, Lib.decDigits_one (by omega)]; rfl
    clear hv' h00
    go_wp2
    go_ret
    exact ⟨by rw [HZ.out]; rfl, Below.refl _ _⟩
  obtain ⟨g, c, rfl, hnc, hg, hcell0⟩ := hv'.form (by omega)
  have hN0 : 0 < N := by
    rcases Nat.eq_zero_or_pos N with e | e
    · exact absurd (limbs_len0.2 e) h00
    · exact e
  generalize hn : (limbs N).length = n at *
  have hcell := Lib.hid hcell0
  have HN := Lib.hid hn
  have hnd := nd_limbs N (by omega)
  have hnb0 : ((n : Int) == 0) = false := by simp; omega
  clear hcell0 hn hv'
  have HO0 := Lib.hid (World.ownsRow.alloc (World.ownsRow_nil w w.heap.size 5 1) (.cells #[.int .u8 45] 5))
  have hmx0 : 0 + 1 ≤ maxLen := by unfold maxLen; omega
  have hsz0 : w.heap.size ≤ (w.alloc (.cells #[.int .u8 45] 5)).heap.size := by simp
  go_wp2_with (at_builtin; refine wpList_append_own _ rfl _ _ 43 rfl w.heap.size 5 i5 (.int .u8 0) 1 1 Tryz.underlying43 hj hy0 hy1 hy2 rfl (by decide) _ _ _ rfl HO0.out ⟨w.heap.size, 0, none⟩ 1 1 [.int .u8 45] rfl rfl (bone_new w 45) (bone_cell 45) hmx0 (by decide) hsz0 ?_)
  intro v1 w1 hown1 hgrow1 _
  have HB1 : Hid (Below w.heap.size w w1) := ((Below.refl _ w).alloc (Nat.le_refl _) (.cells #[.int .u8 45] 5)).grown hgrow1 hsz0 (by intro k hk; cases hk)
  have HO1 : Hid (w1.ownsRow w.heap.size 5 1 v1 1 (Lib.byteCells [45])) := hown1
  clear hown1 hgrow1 HO0
  go_wp2
  go_loopw [5, 6] (fun v i wr => ∃ (k nb : Nat), i = .int .i64 ((k : Int) - 1) ∧ k ≤ n ∧ Hid ((([45] : List UInt8) ++ tx (limbs N) k).length = nb) ∧ wr.ownsRow w.heap.size 5 1 v nb (Lib.byteCells (([45] : List UInt8) ++ tx (limbs N) k)) ∧ Hid (Below w.heap.size w wr)) (fun _ i _ => (intOf i + 1).toNat)
  case atStart => exact ⟨n, 1, rfl, Nat.le_refl _, by show _ = _; rw [← HN.out, tx_top]; rfl, by rw [← HN.out, tx_top, List.append_nil]; exact HO1.out, HB1.out⟩
  case round =>
    obtain ⟨k, nb, rfl, hk, HNB, hown, HB⟩ := hrel
    match k, hk, HNB, hown with
    | 0, hk, HNB, hown =>
      have hcv := own_string hown
      have HE : Hid ((⟨(([45] : List UInt8) ++ tx (limbs N) 0).toArray⟩ : ByteArray) = inum (sgn true N)) := by show _ = _; rw [tx_zero N hN0, inum, text_nat _ _ hN0]; rfl
      generalize (⟨(([45] : List UInt8) ++ tx (limbs N) 0).toArray⟩ : ByteArray) = res at *
      clear hown HNB
      go_wp2
      go_ret
      exact ⟨by rw [← HE.out]; rfl, HB.out⟩
    | j + 1, hk, HNB, hown =>
      have hcj := (hcell.out j (by omega))
      have hcj2 := (HB.out.cell (p := ⟨g, j, none⟩) hg).trans hcj
      have HST := Lib.hid (tx_step N j (by rw [HN.out]; omega))
      have hd9 := lo_getD (limbs_lo N) j
      generalize (limbs N).getD j 0 = d at *
      have hnb : nb ≤ 1000001 + 1 := by
        rw [← HNB.out, List.length_append]
        have := tx_len N (j + 1)
        have h2 : (([45] : List UInt8) : List UInt8).length ≤ 1 := by decide
        omega
      have hsz := HB.out.size
      have hmx : nb + 1 ≤ maxLen := by unfold maxLen; omega
      have hby : (nb + 1) * 1 ≤ 140737488355328 := by omega
      have hszA : w.heap.size ≤ (wr.alloc (.cells #[.int .u8 (48 + (d : Int))] 5)).heap.size := by simp; omega
      have HO := Lib.hid (World.ownsRow.alloc hown (.cells #[.int .u8 (48 + (d : Int))] 5))
      have hblk : ∀ g, _ → w.heap.size ≤ g := fun g hg => (World.ownsRow.lt hown g hg).1
      clear hcj
      go_wp2_with (at_builtin; refine wpList_append_own _ rfl _ _ 43 rfl w.heap.size 5 i5 (.int .u8 0) 1 1 Tryz.underlying43 hj hy0 hy1 hy2 rfl (by decide) _ _ _ rfl HO.out ⟨wr.heap.size, 0, none⟩ 1 1 [.int .u8 (48 + (d : Int))] rfl rfl (bone_new wr (48 + (d : Int))) (bone_cell (48 + (d : Int))) hmx hby hszA ?_)
      intro v2 w2 hown2 hgrow2 _
      have HO2 : Hid (w2.ownsRow w.heap.size 5 1 v2 (nb + 1) (Lib.byteCells (([45] : List UInt8) ++ tx (limbs N) j))) := by
        show World.ownsRow _ _ _ _ _ _ _
        rw [HST.out, ← List.append_assoc, bc_snoc _ d hd9]; exact hown2
      have HNB2 : Hid ((([45] : List UInt8) ++ tx (limbs N) j).length = nb + 1) := by show _ = _; rw [HST.out, ← List.append_assoc, List.length_append, HNB.out]; rfl
      have HB2 := Lib.hid ((HB.out.alloc hsz (.cells #[.int .u8 (48 + (d : Int))] 5)).grown hgrow2 (by simp; omega) hblk)
      clear hown2 hgrow2 HO hown HB
      go_wp2
      go_roundw
      case rel => first | exact ⟨j, nb + 1, by go_num, by omega, HNB2, HO2.out, HB2⟩ | ((repeat apply Exists.intro); exact ⟨⟨j, nb + 1, by go_num, by omega, HNB2, HO2.out, HB2⟩, rfl⟩)
      case measure => simp [intOf]

theorem refText3 (neg : Bool) (v : Value) (l : List Nat) (hlo : lo l) (w : World) (h : Ow w v l) (hl : l.length ≤ 1000000) :
    Calls Tryz.prog 80 #[.bool neg, v] w fun e w' => e = .returned (.string (inum (sgn neg (val l)))) ∧ Below w.heap.size w w' := by
  cases neg
  · exact refText3_pos v l hlo w h hl
  · exact refText3_neg v l hlo w h hl

end Go.Proofs.YthamlnolfagpiaaGreatDoor.D

namespace Go.Proofs.YthamlnolfagpiaaGreatDoor.D
open Go.RowKit
set_option maxRecDepth 8000

theorem Owb.cut {B : Nat} {w : World} {A : Option Addr} {c n : Nat} {l : List Nat} (h : Owb B w (.slice A n c) l) (k : Nat) (hk : k ≤ l.length) : Owb B w (.slice A k c) (l.take k) := by
  rcases h.2 with ⟨hn, h0⟩ | ⟨g, cap, cur, hv, hbg, hg, hnc, hcm, hcs, ht⟩
  · have hl : l = [] := List.eq_nil_of_length_eq_zero h0
    subst hl
    have : k = 0 := by simpa using hk
    subst this
    cases hn
    exact Owb.nil B w
  · cases hv
    refine ⟨by simp, .inr ⟨g, c, cur, ?_, hbg, hg, ?_, hcm, hcs, ?_⟩⟩
    · rw [List.length_take, Nat.min_eq_left hk]
    · rw [List.length_take]; omega
    · rw [List.map_take, ← ht, List.take_take, List.length_take]
      simp only [Nat.mul_one]
theorem Owb.ext {B : Nat} {w : World} {v : Value} {l m : List Nat} (h : Owb B w v l) (e : m = l) : Owb B w v m := e ▸ h
theorem Owb.frame {B : Nat} {w w' : World} {v : Value} {l : List Nat} (h : Owb B w v l) (hb : Below w.heap.size w w') : Owb B w' v l := by
  refine ⟨h.1, ?_⟩
  rcases h.2 with hn | ⟨g, cap, cur, rfl, hbg, hgg, rest⟩
  · exact .inl hn
  · refine .inr ⟨g, cap, cur, rfl, hbg, ?_, rest⟩
    rw [hb.block g (Array.getElem?_eq_some_iff.1 hgg).1]; exact hgg
theorem Owb.mono {B B' : Nat} {w : World} {v : Value} {l : List Nat} (h : Owb B w v l) (hb : B' ≤ B) : Owb B' w v l := World.ownsRow.mono h hb
theorem Owb.far {B : Nat} {w : World} {v : Value} {l : List Nat} (h : Owb B w v l) {p : Addr} (hp : p.block < B) (u : Value) : Owb B (w.setCell p u) v l := ownsRow_setCell_below h hp u

set_option maxHeartbeats 400000 in
theorem refTrim3b (B : Nat) (v : Value) (l : List Nat) (hlo : lo l) (w : World) (h : Owb B w v l) (hl : l.length ≤ 1000000000) :
    Calls Tryz.prog 109 #[v] w fun e w' => ∃ v', e = .returned v' ∧ w = w' ∧ Owb B w v' (limbs (val l)) := by
  by_cases h0 : l.length = 0
  · obtain ⟨A, c, rfl⟩ := h.weak.empty h0
    have HR : Hid (Owb B w (.slice A 0 c) (limbs (val l))) := by
      show Owb _ _ _ _
      rw [val_empty h0, limbs_zero]
      rw [List.eq_nil_of_length_eq_zero h0] at h
      exact h
    clear h
    go_enter Tryz.func109, Tryz.ntmps109
    go_wp2
    go_loop [3] (fun v => v = .int .i64 0) (fun _ => 0)
    case atStart => rfl
    case round =>
      subst hrel
      go_wp2
      go_ret
      exact ⟨_, rfl, rfl, HR.out⟩
  obtain ⟨g, c, hv, hc, hg, hcell⟩ := h.weak.form (by omega)
  rw [hv] at h ⊢
  clear hv
  have HE := Lib.hid (trim_end l hlo)
  have HR := Lib.hid h
  generalize hn : l.length = n at *
  have HN := Lib.hid hn
  clear h hn
  go_enter Tryz.func109, Tryz.ntmps109
  go_wp2
  go_loop [3] (fun v => ∃ k : Nat, k ≤ n ∧ v = .int .i64 k ∧ Hid (val (l.take k) = val l)) (fun v => (intOf v).toNat)
  case atStart => exact ⟨n, Nat.le_refl _, rfl, by rw [← HN.out, List.take_length]; rfl⟩
  case round =>
    obtain ⟨k, hk, rfl, HV⟩ := hrel
    match k, hk, HV with
    | 0, hk, HV =>
      have HL := Lib.hid (HE.out 0 (Nat.zero_le _) HV.out (.inl rfl))
      clear hcell
      go_wp2
      go_ret
      exact ⟨_, rfl, rfl, (HR.out.cut 0 (Nat.zero_le _)).ext HL.out⟩
    | j + 1, hk, HV =>
      have hc := hcell j (by omega)
      have HX : Hid (val (l.take (j + 1)) = val (l.take j) + bp j * l.getD j 0) := val_take_succ l j (by rw [HN.out]; omega)
      have HT := Lib.hid (HE.out (j + 1) hk HV.out)
      clear hcell
      generalize hx : l.getD j 0 = x at *
      by_cases hx0 : x = 0
      · subst hx0
        clear hx HT
        have HV' : Hid (val (l.take j) = val l) := by have a := HX.out; have b := HV.out; show _ = _; omega
        clear HX HV
        go_wp2
        go_round
        case rel => exact ⟨j, by omega, by go_num, HV'⟩
        case measure => simp [intOf]
      · have hx' : ((x : Int) == 0) = false := by simp; omega
        have HL := Lib.hid (HT.out (.inr (by rw [Nat.add_sub_cancel, hx]; exact hx0)))
        have HC := Lib.hid ((HR.out.cut (j + 1) (by rw [HN.out]; exact hk)).ext HL.out)
        clear HT HX HV hx HL
        go_wp2
        go_ret
        exact ⟨_, rfl, rfl, HC.out⟩


end Go.Proofs.YthamlnolfagpiaaGreatDoor.D

namespace Go.Proofs.YthamlnolfagpiaaGreatDoor.D
open Go.RowKit
set_option maxRecDepth 8000

set_option maxHeartbeats 2000000 in
theorem refPlus3 (a b : Value) (l m : List Nat) (hl : lo l) (hm : lo m) (w : World) (ha : Ow w a l) (hb : Ow w b m) (hl9 : l.length ≤ 1000000) (hm9 : m.length ≤ 1000000) :
    Calls Tryz.prog 85 #[a, b] w fun e w' => ∃ v, e = .returned v ∧ Ow w' v (limbs (val l + val m)) ∧ Below w.heap.size w w' := by
  obtain ⟨i0, hi, hz0, hz1, hz2⟩ := info3'
  obtain ⟨A, c, rfl, _, _⟩ := ha.shape
  obtain ⟨B, d, rfl, _, _⟩ := hb.shape
  have HL := Lib.hid hl
  have HM := Lib.hid hm
  have hln : l.length ≤ 1000000000 := by omega
  have hmn : m.length ≤ 1000000000 := by omega
  have HXE : Hid (∀ k, l.length ≤ k → val (l.take k) = val l) := fun k h => val_take_all l k h
  have HYE : Hid (∀ k, m.length ≤ k → val (m.take k) = val m) := fun k h => val_take_all m k h
  have HXO : Hid (∀ k, l.length ≤ k → l.getD k 0 = 0) := fun k h => getD_over h
  have HYO : Hid (∀ k, m.length ≤ k → m.getD k 0 = 0) := fun k h => getD_over h
  have HCX : Hid (∀ k W, Below w.heap.size w W → k ≤ 2000001 → Calls Tryz.prog 118 #[.slice A l.length c, .int .i64 ((k : Nat) : Int)] W fun e w' => e = .returned (.int .i64 ((l.getD k 0 : Nat) : Int)) ∧ W = w') := fun k W hW hk => refDigit3 _ l k W (ha.frame hW) (by omega) hln
  have HCY : Hid (∀ k W, Below w.heap.size w W → k ≤ 2000001 → Calls Tryz.prog 118 #[.slice B m.length d, .int .i64 ((k : Nat) : Int)] W fun e w' => e = .returned (.int .i64 ((m.getD k 0 : Nat) : Int)) ∧ W = w') := fun k W hW hk => refDigit3 _ m k W (hb.frame hW) (by omega) hmn
  clear ha hb hl hm
  generalize l.length = nl at *
  generalize m.length = nm at *
  go_enter Tryz.func85, Tryz.ntmps85
  go_wp2
  go_loopw [5, 6, 7] (fun v cv i wr => ∃ (k cn : Nat) (lst : List Nat), i = .int .i64 (k : Int) ∧ cv = .int .i64 (cn : Int) ∧ cn ≤ 1 ∧ k ≤ max nl nm + 1 ∧ (k ≤ max nl nm ∨ cn = 0) ∧ Hid (lst.length = k) ∧ Hid (lo lst) ∧ Hid (val lst + bp k * cn = val (l.take k) + val (m.take k)) ∧ Hid (Owb w.heap.size wr v lst) ∧ Hid (Below w.heap.size w wr)) (fun _ _ i _ => max nl nm + 1 - (intOf i).toNat)
  case atStart => exact ⟨0, 0, [], rfl, rfl, by omega, by omega, by omega, rfl, lo_nil, by show _ = _; simp [val_nil], Owb.nil _ w, Below.refl _ _⟩
  case round =>
    obtain ⟨k, cn, lst, rfl, rfl, hcn, hk, hkc, HLN, HLO, HV, HOW, HB⟩ := hrel
    have hcase : (k < nl) ∨ (nl ≤ k ∧ k < nm) ∨ (nl ≤ k ∧ nm ≤ k ∧ 0 < cn) ∨ (nl ≤ k ∧ nm ≤ k ∧ cn ≤ 0) := by omega
    have hx9 := lo_getD HL.out k
    have hy9 := lo_getD HM.out k
    have cx := HCX.out k wr HB.out (by omega)
    have cy := HCY.out k wr HB.out (by omega)
    have HXZ := Lib.hid (HXO.out k)
    have HYZ := Lib.hid (HYO.out k)
    have HTX := Lib.hid (val_takeD l k)
    have HTY := Lib.hid (val_takeD m k)
    generalize l.getD k 0 = x at *
    generalize m.getD k 0 = y at *
    have CX := Lib.hid cx
    have CY := Lib.hid cy
    have HS := Lib.hid (plus_round lst k cn x y _ _ _ _ HLN.out HV.out HTX.out HTY.out)
    have hl9' : lst.length ≤ 2000001 := by rw [HLN.out]; omega
    have hmx : lst.length + 1 ≤ maxLen := by unfold maxLen; omega
    have hby : (lst.length + 1) * 8 ≤ 140737488355328 := by omega
    have hsz := HB.out.size
    have HLN2 : Hid ((lst ++ [(x + y + cn) % 10]).length = k + 1) := by show _ = _; rw [List.length_append, HLN.out]; rfl
    have HLO2 : Hid (lo (lst ++ [(x + y + cn) % 10])) := lo_append.2 ⟨HLO.out, lo_cons.2 ⟨by omega, lo_nil⟩⟩
    have hcz : nl ≤ k → nm ≤ k → (x + y + cn) / 10 = 0 := fun h1 h2 => by
      have := HXZ.out h1
      have := HYZ.out h2
      omega
    have HCZ := Lib.hid hcz
    clear hcz cx cy
    rcases hcase with h | ⟨h, h2⟩ | ⟨h, h2, h3⟩ | ⟨h, h2, h3⟩
    · go_wp2_with fail
      refine CX.out.mono ?_
      rintro e w' ⟨rfl, rfl⟩
      go_wp2_with fail
      refine CY.out.mono ?_
      rintro e w' ⟨rfl, rfl⟩
      have hszA : w.heap.size ≤ (wr.alloc (.cells #[.int .i64 (((x : Int) + (y : Int) + (cn : Int)) % 10)] 3)).heap.size := by simp; omega
      have HOW2 := Lib.hid (HOW.out.alloc (.cells #[.int .i64 (((x : Int) + (y : Int) + (cn : Int)) % 10)] 3))
      go_wp2_with (at_builtin; refine wpList_append_own _ rfl _ _ 39 rfl w.heap.size 3 i0 (.int .i64 0) 1 8 Tryz.underlying39 hi hz0 hz1 hz2 rfl (by decide) _ _ _ rfl HOW2.out ⟨wr.heap.size, 0, none⟩ 1 1 [.int .i64 (((x : Int) + (y : Int) + (cn : Int)) % 10)] rfl rfl (one_new wr (((x : Int) + (y : Int) + (cn : Int)) % 10)) (one_cell (((x : Int) + (y : Int) + (cn : Int)) % 10)) hmx hby hszA ?_)
      intro v2 w2 hown2 hgrow2 _
      have HO3 := Lib.hid (Owb.of_own (x := (x + y + cn) % 10) (by omega) rfl hown2)
      have HB3 := Lib.hid ((HB.out.alloc hsz (.cells #[.int .i64 (((x : Int) + (y : Int) + (cn : Int)) % 10)] 3)).grown hgrow2 (by simp; omega) HOW.out.blk)
      clear hown2 hgrow2 HOW2
      go_wp2
      go_roundw
      case rel => exact ⟨k + 1, (x + y + cn) / 10, lst ++ [(x + y + cn) % 10], by go_num, by go_num, by omega, by omega, by omega, HLN2, HLO2, HS, HO3, HB3⟩
      case measure => simp [intOf]; omega
    · go_wp2_with fail
      refine CX.out.mono ?_
      rintro e w' ⟨rfl, rfl⟩
      go_wp2_with fail
      refine CY.out.mono ?_
      rintro e w' ⟨rfl, rfl⟩
      have hszA : w.heap.size ≤ (wr.alloc (.cells #[.int .i64 (((x : Int) + (y : Int) + (cn : Int)) % 10)] 3)).heap.size := by simp; omega
      have HOW2 := Lib.hid (HOW.out.alloc (.cells #[.int .i64 (((x : Int) + (y : Int) + (cn : Int)) % 10)] 3))
      go_wp2_with (at_builtin; refine wpList_append_own _ rfl _ _ 39 rfl w.heap.size 3 i0 (.int .i64 0) 1 8 Tryz.underlying39 hi hz0 hz1 hz2 rfl (by decide) _ _ _ rfl HOW2.out ⟨wr.heap.size, 0, none⟩ 1 1 [.int .i64 (((x : Int) + (y : Int) + (cn : Int)) % 10)] rfl rfl (one_new wr (((x : Int) + (y : Int) + (cn : Int)) % 10)) (one_cell (((x : Int) + (y : Int) + (cn : Int)) % 10)) hmx hby hszA ?_)
      intro v2 w2 hown2 hgrow2 _
      have HO3 := Lib.hid (Owb.of_own (x := (x + y + cn) % 10) (by omega) rfl hown2)
      have HB3 := Lib.hid ((HB.out.alloc hsz (.cells #[.int .i64 (((x : Int) + (y : Int) + (cn : Int)) % 10)] 3)).grown hgrow2 (by simp; omega) HOW.out.blk)
      clear hown2 hgrow2 HOW2
      go_wp2
      go_roundw
      case rel => exact ⟨k + 1, (x + y + cn) / 10, lst ++ [(x + y + cn) % 10], by go_num, by go_num, by omega, by omega, by omega, HLN2, HLO2, HS, HO3, HB3⟩
      case measure => simp [intOf]; omega
    · go_wp2_with fail
      refine CX.out.mono ?_
      rintro e w' ⟨rfl, rfl⟩
      go_wp2_with fail
      refine CY.out.mono ?_
      rintro e w' ⟨rfl, rfl⟩
      have hszA : w.heap.size ≤ (wr.alloc (.cells #[.int .i64 (((x : Int) + (y : Int) + (cn : Int)) % 10)] 3)).heap.size := by simp; omega
      have HOW2 := Lib.hid (HOW.out.alloc (.cells #[.int .i64 (((x : Int) + (y : Int) + (cn : Int)) % 10)] 3))
      go_wp2_with (at_builtin; refine wpList_append_own _ rfl _ _ 39 rfl w.heap.size 3 i0 (.int .i64 0) 1 8 Tryz.underlying39 hi hz0 hz1 hz2 rfl (by decide) _ _ _ rfl HOW2.out ⟨wr.heap.size, 0, none⟩ 1 1 [.int .i64 (((x : Int) + (y : Int) + (cn : Int)) % 10)] rfl rfl (one_new wr (((x : Int) + (y : Int) + (cn : Int)) % 10)) (one_cell (((x : Int) + (y : Int) + (cn : Int)) % 10)) hmx hby hszA ?_)
      intro v2 w2 hown2 hgrow2 _
      have HO3 := Lib.hid (Owb.of_own (x := (x + y + cn) % 10) (by omega) rfl hown2)
      have HB3 := Lib.hid ((HB.out.alloc hsz (.cells #[.int .i64 (((x : Int) + (y : Int) + (cn : Int)) % 10)] 3)).grown hgrow2 (by simp; omega) HOW.out.blk)
      clear hown2 hgrow2 HOW2
      go_wp2
      go_roundw
      case rel => exact ⟨k + 1, (x + y + cn) / 10, lst ++ [(x + y + cn) % 10], by go_num, by go_num, by omega, by omega, .inr (HCZ.out (by omega) (by omega)), HLN2, HLO2, HS, HO3, HB3⟩
      case measure => simp [intOf]; omega
    · have hc0 : cn = 0 := by omega
      subst hc0
      have HVE : Hid (val lst = val l + val m) := by have h4 := HV.out; rw [HXE.out k h, HYE.out k h2] at h4; show _ = _; omega
      go_wp2_with fail
      refine (refTrim3 _ lst HLO.out _ HOW.out.weak (by omega)).mono ?_
      rintro e w' ⟨v', rfl, rfl, hv'⟩
      rw [HVE.out] at hv'
      have HW := Lib.hid hv'
      clear hv'
      go_wp2_with fail
      go_ret
      exact ⟨v', rfl, HW.out, HB.out⟩

end Go.Proofs.YthamlnolfagpiaaGreatDoor.D

namespace Go.Proofs.YthamlnolfagpiaaGreatDoor.D
open Go.RowKit
set_option maxRecDepth 8000

theorem quiet_left0 {P : Program} {f : FuncId} {args : Array Value} {w : World} {n : Nat} {v : Value} (h : Calls P f args (w.drewN n) fun e w' => e = .returned v ∧ w.drewN n = w') :
    Calls P f args (w.drewN n) fun e w'' => e = .returned v ∧ ∃ m, w'' = w.drewN m := h.mono fun _ _ ⟨he, hm⟩ => ⟨he, n, hm.symm⟩

set_option maxHeartbeats 2000000 in
theorem refMinus3 (a b : Value) (u v : Nat) (w : World) (ha : Ow w a (limbs u)) (hb : Ow w b (limbs v)) (huv : v ≤ u) (hl9 : (limbs u).length ≤ 1000001) :
    Calls Tryz.prog 86 #[a, b] w fun e w' => ∃ r, e = .returned r ∧ Owb w.heap.size w' r (limbs (u - v)) ∧ Below w.heap.size w w' := by
  obtain ⟨i0, hi, hz0, hz1, hz2⟩ := info3'
  have hml : (limbs v).length ≤ (limbs u).length := limbs_le (Nat.lt_of_le_of_lt huv (limbs_lt u))
  obtain ⟨A, c, rfl, hc9, hcell⟩ := ha.shape
  obtain ⟨B, d, rfl, _, _⟩ := hb.shape
  have HCELL := Lib.hid hcell
  have HUV := Lib.hid huv
  have hL := limbs_lo u
  have hM := limbs_lo v
  have HVL := Lib.hid (limbs_val u)
  have HVM := Lib.hid (limbs_val v)
  clear hcell huv
  generalize limbs u = l at *
  generalize limbs v = m at *
  have HL := Lib.hid hL
  have HM := Lib.hid hM
  have HXE : Hid (∀ k, l.length ≤ k → val (l.take k) = val l) := fun k h => val_take_all l k h
  have HYE : Hid (∀ k, m.length ≤ k → val (m.take k) = val m) := fun k h => val_take_all m k h
  have HCY : Hid (∀ k W, Below w.heap.size w W → k ≤ 2000001 → Calls Tryz.prog 118 #[.slice B m.length d, .int .i64 ((k : Nat) : Int)] W fun e w' => e = .returned (.int .i64 ((m.getD k 0 : Nat) : Int)) ∧ W = w') := fun k W hW hk => refDigit3 _ m k W (hb.frame hW) (by omega) (by omega)
  clear ha hb hL hM
  generalize l.length = nl at *
  generalize m.length = nm at *
  go_enter Tryz.func86, Tryz.ntmps86
  go_wp2
  go_loopw [5, 6, 7] (fun v cv i wr => ∃ (k cn : Nat) (lst : List Nat), i = .int .i64 (k : Int) ∧ cv = .int .i64 (cn : Int) ∧ cn ≤ 1 ∧ k ≤ nl ∧ Hid (lst.length = k) ∧ Hid (lo lst) ∧ Hid (val lst + val (m.take k) = val (l.take k) + bp k * cn) ∧ Hid (Owb w.heap.size wr v lst) ∧ Hid (Below w.heap.size w wr)) (fun _ _ i _ => nl - (intOf i).toNat)
  case atStart => exact ⟨0, 0, [], rfl, rfl, by omega, by omega, rfl, lo_nil, by show _ = _; simp [val_nil], Owb.nil _ w, Below.refl _ _⟩
  case round =>
    obtain ⟨k, cn, lst, rfl, rfl, hcn, hk, HLN, HLO, HV, HOW, HB⟩ := hrel
    have hl9' : lst.length ≤ 2000001 := by rw [HLN.out]; omega
    by_cases hlt : k < nl
    · have hx9 := lo_getD HL.out k
      have hy9 := lo_getD HM.out k
      obtain ⟨g, hA, hg, hcx0⟩ := HCELL.out k hlt
      have hcx := (HB.out.cell (p := ⟨g, k, none⟩) hg).trans hcx0
      have CY : Hid (∀ n, Calls Tryz.prog 118 #[.slice B nm d, .int .i64 (k : Int)] (wr.drewN n) fun e w' => e = .returned (.int .i64 ((m.getD k 0 : Nat) : Int)) ∧ wr.drewN n = w') := fun n => HCY.out k _ (below_drewN HB.out n) (by omega)
      have HTX := Lib.hid (val_takeD l k)
      have HTY := Lib.hid (val_takeD m k)
      generalize l.getD k 0 = x at *
      generalize m.getD k 0 = y at *
      have hmx : lst.length + 1 ≤ maxLen := by unfold maxLen; omega
      have hby : (lst.length + 1) * 8 ≤ 140737488355328 := by omega
      have hsz := HB.out.size
      have e1 : IntKind.i64.wrap ((x : Int) - (y : Int)) = (x : Int) - (y : Int) := IntWalk.i64_in _ (by omega)
      have e2 : IntKind.i64.wrap ((x : Int) - (y : Int) - (cn : Int)) = (x : Int) - (y : Int) - (cn : Int) := IntWalk.i64_in _ (by omega)
      clear hcx0
      subst hA
      by_cases hneg : (x : Int) - (y : Int) - (cn : Int) < 0
      · have HS := Lib.hid (minus_round lst k cn x y (x + 10 - (cn + y)) 1 _ _ _ _ HLN.out HV.out HTX.out HTY.out (by omega))
        have HLN2 : Hid ((lst ++ [x + 10 - (cn + y)]).length = k + 1) := by show _ = _; rw [List.length_append, HLN.out]; rfl
        have HLO2 : Hid (lo (lst ++ [x + 10 - (cn + y)])) := lo_append.2 ⟨HLO.out, lo_cons.2 ⟨by omega, lo_nil⟩⟩
        go_wp2_with fail
        go_quiet ((go_at_call 118; exact quiet_left0 (CY.out _)))
        have hszA : w.heap.size ≤ ((wr.drewN nq).alloc (.cells #[.int .i64 ((x : Int) - (y : Int) - (cn : Int) + 10)] 3)).heap.size := by simp; omega
        have HOW2 := Lib.hid ((show Owb w.heap.size (wr.drewN nq) _ lst from HOW.out).alloc (.cells #[.int .i64 ((x : Int) - (y : Int) - (cn : Int) + 10)] 3))
        go_wp2_with (at_builtin; refine wpList_append_own _ rfl _ _ 39 rfl w.heap.size 3 i0 (.int .i64 0) 1 8 Tryz.underlying39 hi hz0 hz1 hz2 rfl (by decide) _ _ _ rfl HOW2.out ⟨(wr.drewN nq).heap.size, 0, none⟩ 1 1 [.int .i64 ((x : Int) - (y : Int) - (cn : Int) + 10)] rfl rfl (one_new (wr.drewN nq) ((x : Int) - (y : Int) - (cn : Int) + 10)) (one_cell ((x : Int) - (y : Int) - (cn : Int) + 10)) hmx hby hszA ?_)
        intro v2 w2 hown2 hgrow2 _
        have HO3 := Lib.hid (Owb.of_own (x := x + 10 - (cn + y)) (by omega) rfl hown2)
        have HB3 := Lib.hid (((below_drewN HB.out nq).alloc hsz (.cells #[.int .i64 ((x : Int) - (y : Int) - (cn : Int) + 10)] 3)).grown hgrow2 (by simp; omega) HOW.out.blk)
        clear hown2 hgrow2 HOW2
        go_wp2
        go_roundw
        case rel => first | exact ⟨k + 1, 1, lst ++ [x + 10 - (cn + y)], by go_num, by go_num, by omega, by omega, HLN2, HLO2, HS, HO3, HB3⟩ | ((repeat apply Exists.intro); exact ⟨⟨k + 1, 1, lst ++ [x + 10 - (cn + y)], by go_num, by go_num, by omega, by omega, HLN2, HLO2, HS, HO3, HB3⟩, rfl⟩)
        case measure => simp [intOf]; omega
      · have HS := Lib.hid (minus_round lst k cn x y (x - (cn + y)) 0 _ _ _ _ HLN.out HV.out HTX.out HTY.out (by omega))
        have HLN2 : Hid ((lst ++ [x - (cn + y)]).length = k + 1) := by show _ = _; rw [List.length_append, HLN.out]; rfl
        have HLO2 : Hid (lo (lst ++ [x - (cn + y)])) := lo_append.2 ⟨HLO.out, lo_cons.2 ⟨by omega, lo_nil⟩⟩
        go_wp2_with fail
        go_quiet ((go_at_call 118; exact quiet_left0 (CY.out _)))
        have hszA : w.heap.size ≤ ((wr.drewN nq).alloc (.cells #[.int .i64 ((x : Int) - (y : Int) - (cn : Int))] 3)).heap.size := by simp; omega
        have HOW2 := Lib.hid ((show Owb w.heap.size (wr.drewN nq) _ lst from HOW.out).alloc (.cells #[.int .i64 ((x : Int) - (y : Int) - (cn : Int))] 3))
        go_wp2_with (at_builtin; refine wpList_append_own _ rfl _ _ 39 rfl w.heap.size 3 i0 (.int .i64 0) 1 8 Tryz.underlying39 hi hz0 hz1 hz2 rfl (by decide) _ _ _ rfl HOW2.out ⟨(wr.drewN nq).heap.size, 0, none⟩ 1 1 [.int .i64 ((x : Int) - (y : Int) - (cn : Int))] rfl rfl (one_new (wr.drewN nq) ((x : Int) - (y : Int) - (cn : Int))) (one_cell ((x : Int) - (y : Int) - (cn : Int))) hmx hby hszA ?_)
        intro v2 w2 hown2 hgrow2 _
        have HO3 := Lib.hid (Owb.of_own (x := x - (cn + y)) (by omega) rfl hown2)
        have HB3 := Lib.hid (((below_drewN HB.out nq).alloc hsz (.cells #[.int .i64 ((x : Int) - (y : Int) - (cn : Int))] 3)).grown hgrow2 (by simp; omega) HOW.out.blk)
        clear hown2 hgrow2 HOW2
        go_wp2
        go_roundw
        case rel => first | exact ⟨k + 1, 0, lst ++ [x - (cn + y)], by go_num, by go_num, by omega, by omega, HLN2, HLO2, HS, HO3, HB3⟩ | ((repeat apply Exists.intro); exact ⟨⟨k + 1, 0, lst ++ [x - (cn + y)], by go_num, by go_num, by omega, by omega, HLN2, HLO2, HS, HO3, HB3⟩, rfl⟩)
        case measure => simp [intOf]; omega
    · have hkn : k = nl := by omega
      have HVE : Hid (val lst = u - v) := by
        have h4 := HV.out
        rw [HXE.out k (by omega), HYE.out k (by omega), HVL.out, HVM.out] at h4
        exact dif_end lst u v cn k HLO.out HLN.out h4 HUV.out
      go_wp2_with fail
      refine (refTrim3b w.heap.size _ lst HLO.out _ HOW.out (by omega)).mono ?_
      rintro e w' ⟨v', rfl, rfl, hv'⟩
      rw [HVE.out] at hv'
      have HW := Lib.hid hv'
      clear hv'
      go_wp2_with fail
      go_ret
      exact ⟨v', rfl, HW.out, HB.out⟩

end Go.Proofs.YthamlnolfagpiaaGreatDoor.D

namespace Go.Proofs.YthamlnolfagpiaaGreatDoor.D
open Go.RowKit
set_option maxRecDepth 8000

/-- block g's first cells hold the digits l; it has room for cap -/
def Rd (w : World) (g cap : Nat) (l : List Nat) : Prop := w.ownsRow 0 3 1 (.slice (some ⟨g, 0, none⟩) l.length cap) l.length (l.map iv)

section
variable {w w' : World} {g cap : Nat} {l : List Nat}
theorem Rd.cell (h : Rd w g cap l) (k : Nat) (hk : k < l.length) : w.cell? ⟨g, k, none⟩ = some (.int .i64 ((l.getD k 0 : Nat) : Int)) := by
  have := World.ownsRow.cellAt h k (by omega)
  rw [this, List.getElem?_map, List.getD_eq_getElem?_getD, List.getElem?_eq_getElem hk]
  rfl
theorem Rd.frozen (h : Rd w g cap l) (k : Nat) : w.frozen? ⟨g, k, none⟩ = false := World.ownsRow.frozenAt h k
theorem Rd.store (h : Rd w g cap l) (k c : Nat) : Rd (w.setCell ⟨g, k, none⟩ (.int .i64 (c : Int))) g cap (l.set k c) := by
  have := (World.ownsRow.stored h k (iv c)).1
  unfold Rd
  rw [List.length_set, List.map_set]
  exact this
theorem Rd.storeI (h : Rd w g cap l) (k c : Nat) {z : Int} (hz : z = (c : Int)) : Rd (w.setCell ⟨g, k, none⟩ (.int .i64 z)) g cap (l.set k c) := hz ▸ h.store k c
theorem Rd.lt (h : Rd w g cap l) : g < w.heap.size := (World.ownsRow.lt h g rfl).2
theorem Rd.le (h : Rd w g cap l) : l.length ≤ cap := by
  rcases h.2 with ⟨h', _⟩ | ⟨g', cap', cur, h', _, _, hnc, _⟩
  · cases h'
  · cases h'; exact hnc
theorem Rd.of_block (h : Rd w g cap l) (hb : w'.heap[g]? = w.heap[g]?) : Rd w' g cap l := by
  refine ⟨h.1, ?_⟩
  rcases h.2 with ⟨h', _⟩ | ⟨g', cap', cur, h', hbg, hg, rest⟩
  · cases h'
  · cases h'; exact .inr ⟨g, cap, cur, rfl, hbg, hb.trans hg, rest⟩
theorem Rd.far (h : Rd w g cap l) {p : Addr} (hp : g ≠ p.block) (u : Value) : Rd (w.setCell p u) g cap l := h.of_block (Below.heap_setCell w p u g hp)
theorem Rd.below {B : Nat} (h : Rd w g cap l) (hb : Below B w w') (hg : g < B) : Rd w' g cap l := h.of_block (hb.block g hg)
theorem Rd.only {row : Option Nat} (h : Rd w g cap l) (hb : w.grownBy w' row) (hg : some g ≠ row) : Rd w' g cap l := h.of_block (hb.block g h.lt hg)
theorem Rd.drewN (h : Rd w g cap l) (n : Nat) : Rd (w.drewN n) g cap l := h
theorem Rd.alloc (h : Rd w g cap l) (o : Obj) : Rd (w.alloc o) g cap l := h.of_block (Below.heap_alloc w o g h.lt)
theorem Rd.cut (h : Rd w g cap l) (k : Nat) : Rd w g cap (l.take k) := by
  rcases h.2 with ⟨h', _⟩ | ⟨g', cap', cur, h', hbg, hg, hnc, hcm, hcs, ht⟩
  · cases h'
  · cases h'
    refine ⟨by simp, .inr ⟨g, cap, cur, rfl, hbg, hg, ?_, hcm, hcs, ?_⟩⟩
    · rw [List.length_take]; omega
    · rw [List.map_take, ← ht, List.take_take, List.length_take]
      simp only [Nat.mul_one]
theorem Rd.ext (h : Rd w g cap l) {m : List Nat} (e : m = l) : Rd w g cap m := e ▸ h
end

theorem Rd.ow {w : World} {g cap : Nat} {l : List Nat} (h : Rd w g cap l) : Ow w (.slice (some ⟨g, 0, none⟩) l.length cap) l := h
theorem Rd.own {w : World} {g cap n : Nat} {l : List Nat} (h : Rd w g cap l) (hn : l.length = n) : Ow w (.slice (some ⟨g, 0, none⟩) n cap) l := by subst hn; exact h
theorem Rd.made {w' : World} {n cap : Nat} {g : Nat} (h : w'.ownsRow 0 3 1 (.slice (some ⟨g, 0, none⟩) n cap) n (madeCells #[Value.int .i64 0] n).toList) : Rd w' g cap (List.replicate n 0) := by
  unfold Rd
  have e : (madeCells #[Value.int .i64 0] n).toList = (List.replicate n 0).map iv := by
    rw [toList_madeCells_one, List.map_replicate]; rfl
  rw [List.length_replicate, ← e]
  exact h


end Go.Proofs.YthamlnolfagpiaaGreatDoor.D

namespace Go.Proofs.YthamlnolfagpiaaGreatDoor.D
open Go.RowKit
set_option maxRecDepth 8000

theorem mul81 {x y : Nat} (hx : x < 10) (hy : y < 10) : x * y ≤ 81 := by
  have := Nat.mul_le_mul (show x ≤ 9 by omega) (show y ≤ 9 by omega)
  omega

set_option maxHeartbeats 4000000 in
theorem refTimes3 (a b : Value) (l m : List Nat) (hl : lo l) (hm : lo m) (w : World) (ha : Ow w a l) (hb : Ow w b m) (hl9 : l.length ≤ 1000000) (hm9 : m.length ≤ 1000000) :
    Calls Tryz.prog 98 #[a, b] w fun e w' => ∃ v, e = .returned v ∧ Ow w' v (limbs (val l * val m)) ∧ Below w.heap.size w w' := by
  obtain ⟨i0, hi, hz0, hz1, hz2⟩ := info3'
  obtain ⟨A, c, rfl, _, hcell⟩ := ha.shape
  obtain ⟨B, d, rfl, _, _⟩ := hb.shape
  have HCELL := Lib.hid hcell
  have HL := Lib.hid hl
  have HM := Lib.hid hm
  have HXE : Hid (∀ k, l.length ≤ k → val (l.take k) = val l) := fun k h => val_take_all l k h
  have HYE : Hid (∀ k, m.length ≤ k → val (m.take k) = val m) := fun k h => val_take_all m k h
  have HYO : Hid (∀ k, m.length ≤ k → m.getD k 0 = 0) := fun k h => getD_over h
  have HCY : Hid (∀ k W, Below w.heap.size w W → k ≤ 2000001 → Calls Tryz.prog 118 #[.slice B m.length d, .int .i64 ((k : Nat) : Int)] W fun e w' => e = .returned (.int .i64 ((m.getD k 0 : Nat) : Int)) ∧ W = w') := fun k W hW hk => refDigit3 _ m k W (hb.frame hW) (by omega) (by omega)
  have HLN : Hid (l.length = l.length) := rfl
  clear ha hb hl hm hcell
  generalize hnl : l.length = nl at *
  generalize m.length = nm at *
  have HNL := Lib.hid hnl
  clear hnl HLN
  go_enter Tryz.func98, Tryz.ntmps98
  go_wp2_with (at_make; refine wpList_make_full _ rfl _ _ 39 rfl 0 3 i0 (.int .i64 0) 1 Tryz.underlying39 hi hz0 hz1 _ _ _ _ (nl + nm) rfl rfl ?e1 ?e2 ?e3 ?e4 (Nat.zero_le _) ?_)
  case e1 => omega
  case e2 => omega
  case e3 => rw [hz2]; omega
  case e4 => unfold maxLen; omega
  intro w1 hown hgrow
  have HB1 : Hid (Below w.heap.size w w1) := (Below.refl _ w).grown hgrow (Nat.le_refl _) (fun k hk => by cases hk)
  have HZ1 := Lib.hid (Rd.made hown)
  clear hown hgrow
  go_wp2
  go_loopg [6] nl (fun g6 i wr => ∃ (k : Nat) (lz : List Nat), k + g6 = nl ∧ i = .int .i64 (k : Int) ∧ Hid (lz.length = nl + nm) ∧ Hid (Rd wr w.heap.size (nl + nm) lz) ∧ Hid (lo lz) ∧ Hid (∀ j, k + nm ≤ j → lz.getD j 0 = 0) ∧ Hid (val lz = val (l.take k) * val m) ∧ Hid (Below w.heap.size w wr))
  case atStart => exact ⟨0, List.replicate (nl + nm) 0, by omega, rfl, List.length_replicate, HZ1, lo_zero _, fun j _ => by simp [List.getD_eq_getElem?_getD, List.getElem?_replicate]; split <;> rfl, by show _ = _; rw [val_zero]; simp [val_nil], HB1⟩
  case round =>
    clear HZ1 HB1
    obtain ⟨k, lz, hkg, rfl, HLZ, HZ, HLO, H0, HV, HB⟩ := hrel
    by_cases hlt : k < nl
    · obtain ⟨G, hgk⟩ : ∃ G, gk = G + 1 := ⟨gk - 1, by omega⟩
      subst hgk
      obtain ⟨g, hA, hg, hcx0⟩ := HCELL.out k hlt
      subst hA
      have HCX := Lib.hid hcx0
      have hx9 := lo_getD HL.out k
      have HTX := Lib.hid (val_takeD l k)
      clear hcx0
      generalize l.getD k 0 = x at *
      go_wp2_with fail
      go_loopg [7, 8] (nm + 1) (fun g7 cv i wr => ∃ (j cn : Nat) (lz : List Nat), j + g7 = nm + 1 ∧ (j ≤ nm ∨ cn = 0) ∧ i = .int .i64 (j : Int) ∧ cv = .int .i64 (cn : Int) ∧ cn < 10 ∧ Hid (lz.length = nl + nm) ∧ Hid (Rd wr w.heap.size (nl + nm) lz) ∧ Hid (lo lz) ∧ Hid (∀ i, k + nm ≤ i → k + j ≤ i → lz.getD i 0 = 0) ∧ Hid (val lz + bp (k + j) * cn = val (l.take k) * val m + bp k * (x * val (m.take j))) ∧ Hid (Below w.heap.size w wr))
      case atStart => exact ⟨0, 0, lz, by omega, by omega, rfl, rfl, by omega, HLZ, HZ, HLO, fun i h _ => H0.out i h, by show _ = _; rw [HV.out]; simp [val_nil], HB⟩
      case round =>
        clear HLZ HZ HLO H0 HV HB
        clear lz
        obtain ⟨j, cn, lz, hjg, hjc, rfl, rfl, hcn, HLZ, HZ, HLO, H0, HV, HB⟩ := hrel
        by_cases hgo : j < nm ∨ 0 < cn
        · obtain ⟨G2, hgk⟩ : ∃ G2, gk = G2 + 1 := ⟨gk - 1, by omega⟩
          subst hgk
          have hjm : j ≤ nm := by omega
          have hidx : Hid (k + j < lz.length) := by show _ < _; rw [HLZ.out]; omega
          have hcx := (HB.out.cell (p := ⟨g, k, none⟩) hg).trans HCX.out
          have CY : Hid (∀ n, Calls Tryz.prog 118 #[.slice B nm d, .int .i64 (j : Int)] (wr.drewN n) fun e w' => e = .returned (.int .i64 ((m.getD j 0 : Nat) : Int)) ∧ wr.drewN n = w') := fun n => HCY.out j _ (below_drewN HB.out n) (by omega)
          have hy9 := lo_getD HM.out j
          have HYZ := Lib.hid (HYO.out j)
          have HTY := Lib.hid (val_takeD m j)
          have hcz := HZ.out.cell (k + j) hidx.out
          have hfz := HZ.out.frozen (k + j)
          have hz9 := lo_getD HLO.out (k + j)
          have HZ0 := Lib.hid (H0.out (k + j))
          generalize hzz : lz.getD (k + j) 0 = z at *
          have HZZ := Lib.hid hzz
          clear hzz
          generalize m.getD j 0 = y at *
          obtain ⟨p, hp⟩ : ∃ p, x * y = p := ⟨_, rfl⟩
          have hp81 : p ≤ 81 := by rw [← hp]; exact mul81 hx9 hy9
          have hpI : IntKind.i64.wrap ((x : Int) * (y : Int)) = (p : Int) := by
            rw [← Int.natCast_mul, hp]; exact IntWalk.i64_in _ (by omega)
          have e2 : IntKind.i64.wrap ((z : Int) + (p : Int)) = (z : Int) + (p : Int) := IntWalk.i64_in _ (by omega)
          have e3 : IntKind.i64.wrap ((z : Int) + (p : Int) + (cn : Int)) = (z : Int) + (p : Int) + (cn : Int) := IntWalk.i64_in _ (by omega)
          have HS := Lib.hid (mul_round lz k j cn z x y _ _ _ (cn + (z + p)) hidx.out HZZ.out HV.out HTY.out (by rw [hp]))
          have hend : Hid (nm ≤ j → (cn + (z + p)) / 10 = 0) := fun h => by
            have h1 := HYZ.out h
            have h2 := HZ0.out (by omega) (Nat.le_refl _)
            rw [h1, Nat.mul_zero] at hp
            omega
          clear hp
          rcases (by omega : (j < nm) ∨ (nm ≤ j ∧ 0 < cn)) with hcs | ⟨hcs, hcs2⟩
          all_goals
            go_wp2_with fail
            go_quiet ((go_at_call 118; exact quiet_left0 (CY.out _)))
            go_wp2_with fail
            go_roundg G2
            case measure => omega
            case rel => exact ⟨j + 1, (cn + (z + p)) / 10, lz.set (k + j) ((cn + (z + p)) % 10), by omega, (by first | (left; omega) | (right; exact hend.out (by omega))), by go_num, by go_num, by omega, by show _ = _; rw [List.length_set]; exact HLZ.out, ((show Rd (wr.drewN _) w.heap.size (nl + nm) lz from HZ.out).storeI (k + j) _ (by omega)), lo_set HLO.out _ _ (by omega), fun i h1 h2 => by rw [set_getD_ne _ _ _ _ (by omega)]; exact H0.out i h1 (by omega), HS.out, (below_drewN HB.out _).setCell (Nat.le_refl _) _⟩
        · have hc0 : cn = 0 := by omega
          subst hc0
          have hjm : nm ≤ j := by omega
          have HVE : Hid (val lz = val (l.take (k + 1)) * val m) := by
            have h4 := HV.out
            rw [HYE.out j hjm] at h4
            show _ = _
            rw [HTX.out, Nat.add_mul, Nat.mul_assoc]; omega
          go_wp2_with fail
          go_roundg G
          case measure => omega
          case rel => exact ⟨k + 1, lz, by omega, by go_num, HLZ, HZ, HLO, fun i h => by
            rcases (by omega : j ≤ nm ∨ nm < j) with h5 | h5
            · exact H0.out i (by omega) (by omega)
            · exact H0.out i (by omega) (by omega), HVE, HB⟩
    · have hkn : k = nl := by omega
      have HVE : Hid (val lz = val l * val m) := by have h4 := HV.out; rw [HXE.out k (by omega)] at h4; exact h4
      go_wp2_with fail
      refine (refTrim3 _ lz HLO.out _ (HZ.out.own HLZ.out) (by rw [HLZ.out]; omega)).mono ?_
      rintro e w' ⟨v', rfl, rfl, hv'⟩
      rw [HVE.out] at hv'
      have HW := Lib.hid hv'
      clear hv'
      go_wp2_with fail
      go_ret
      exact ⟨v', rfl, HW.out, HB.out⟩

end Go.Proofs.YthamlnolfagpiaaGreatDoor.D

namespace Go.Proofs.YthamlnolfagpiaaGreatDoor.D
open Go.RowKit
set_option maxRecDepth 8000

theorem dvd_round {L1 Q1 Y r d q r' : Nat} (h : L1 = r + Y * Q1) (h2 : r' + q * Y = d + 10 * r) : d + 10 * L1 = r' + Y * (q + 10 * Q1) := by
  have e : Y * (q + 10 * Q1) = q * Y + 10 * (Y * Q1) := by
    rw [Nat.mul_add, Nat.mul_comm Y q]
    congr 1
    ac_rfl
  rw [e, h]
  omega
theorem dvd_end {L Q Y r : Nat} (h : L = r + Y * Q) (hr : r < Y) : Q = L / Y ∧ r = L % Y := by
  subst h
  rw [Nat.add_mul_div_left _ _ (by omega), Nat.add_mul_mod_self_left, Nat.div_eq_of_lt hr, Nat.mod_eq_of_lt hr]
  simp
theorem val_set_drop (lq : List Nat) (i q : Nat) (hi : i < lq.length) : val ((lq.set i q).drop i) = q + 10 * val (lq.drop (i + 1)) := by
  rw [val_drop _ i (by rw [List.length_set]; exact hi), set_getD _ _ _ hi]
  congr 2
  rw [List.drop_set]
  simp
theorem dig_mul {q r' Y x r : Nat} (h : r' + q * Y = x + 10 * r) (hr : r < Y) (hx : x < 10) : q < 10 := by
  apply Decidable.byContradiction
  intro hq
  have := Nat.mul_le_mul_right Y (show 10 ≤ q by omega)
  omega
theorem app_val (x r : Nat) : val ([x] ++ limbs r) = x + 10 * r := by
  rw [List.singleton_append, val_cons, limbs_val]

theorem ow_far {w : World} {b : Value} {m : List Nat} {g : Nat} (h : Ow w b m) (hne : b.ownBlock ≠ some g) (i : Nat) (u : Value) : Ow (w.setCell ⟨g, i, none⟩ u) b m := ownsRow_setCell_other h hne u
theorem set_same (l : List Nat) (i : Nat) (h : l.getD i 0 = 0) : l.set i 0 = l := by
  apply List.ext_getElem?
  intro j
  by_cases hj : i = j
  · subst hj
    by_cases hi : i < l.length
    · rw [List.getElem?_set_self hi]
      rw [List.getD_eq_getElem?_getD, List.getElem?_eq_getElem hi] at h
      rw [List.getElem?_eq_getElem hi]
      simp at h
      rw [h]
    · rw [List.getElem?_eq_none (by simpa using hi), List.getElem?_eq_none (by omega)]
  · rw [List.getElem?_set_ne hj]
theorem refCmp3_c (a b : Value) (u v : Nat) (c : Int) (hc : Hid (cmpN u v = c)) (w : World) (ha : Ow w a (limbs u)) (hb : Ow w b (limbs v)) (hl9 : (limbs u).length ≤ 1000001) (hm9 : (limbs v).length ≤ 1000000) :
    Calls Tryz.prog 117 #[a, b] w fun e w' => e = .returned (.int .i64 c) ∧ w = w' := by
  have := refCmp3 a b _ _ (limbs_lo u) (limbs_lo v) w ha hb (by omega) (by omega)
  rwa [limbs_val, limbs_val, hc.out] at this

set_option maxHeartbeats 4000000 in
theorem refDivide3 (a b : Value) (l : List Nat) (Y : Nat) (hl : lo l) (w : World) (ha : Ow w a l) (hb : Ow w b (limbs Y)) (hl9 : l.length ≤ 1000000) (hm9 : (limbs Y).length ≤ 1000000) (hY : 0 < Y) :
    Calls Tryz.prog 84 #[a, b] w fun e w' => ∃ q r, e = .returned (.tuple #[q, r]) ∧ Ow w' q (limbs (val l / Y)) ∧ Ow w' r (limbs (val l % Y)) ∧ Below w.heap.size w w' := by
  obtain ⟨i0, hi, hz0, hz1, hz2⟩ := info3'
  obtain ⟨A, c, rfl, _, hcell⟩ := ha.shape
  have HCELL := Lib.hid hcell
  have HL := Lib.hid hl
  have HBY := Lib.hid hb
  have HBNE : Hid (b.ownBlock ≠ some w.heap.size) := fun h => by have := (World.ownsRow.lt hb _ h).2; omega
  have HX0 : Hid (val (l.drop l.length) = 0) := by show _ = _; rw [List.drop_length]; rfl
  have HLD : Hid (∀ i, val (l.drop i) = l.getD i 0 + 10 * val (l.drop (i + 1))) := fun i => val_dropD l i
  clear ha hb hl hcell
  generalize hnl : l.length = nl at *
  have HNL := Lib.hid hnl
  clear hnl
  obtain ⟨nm, hnm⟩ : ∃ nm, (limbs Y).length = nm := ⟨_, rfl⟩
  rw [hnm] at hm9
  have HNM : Hid (Y < bp nm) := by show _ < _; rw [← hnm]; exact limbs_lt Y
  clear hnm
  go_enter Tryz.func84, Tryz.ntmps84
  go_wp2_with (at_make; refine wpList_make_full _ rfl _ _ 39 rfl 0 3 i0 (.int .i64 0) 1 Tryz.underlying39 hi hz0 hz1 _ _ _ _ nl rfl rfl ?e1 ?e2 ?e3 ?e4 (Nat.zero_le _) ?_)
  case e1 => omega
  case e2 => omega
  case e3 => rw [hz2]; omega
  case e4 => unfold maxLen; omega
  intro w1 hown hgrow
  have HB1 : Hid (Below w.heap.size w w1) := (Below.refl _ w).grown hgrow (Nat.le_refl _) (fun k hk => by cases hk)
  have HZ1 := Lib.hid (Rd.made hown)
  have hgq1 := HZ1.out.lt
  clear hown hgrow
  obtain ⟨gq, hgq⟩ : ∃ gq, w.heap.size = gq := ⟨_, rfl⟩
  rw [hgq] at HZ1 hgq1 ⊢
  have HBNE : Hid (b.ownBlock ≠ some gq) := hgq ▸ HBNE.out
  go_wp2
  go_loopg [7, 8] nl (fun g6 v i wr => ∃ (r : Nat) (lq : List Nat), i = .int .i64 ((g6 : Int) - 1) ∧ g6 ≤ nl ∧ r < Y ∧ Hid (lq.length = nl) ∧ Hid (Rd wr gq nl lq) ∧ Hid (lo lq) ∧ Hid (∀ j, j < g6 → lq.getD j 0 = 0) ∧ Hid (val (l.drop g6) = r + Y * val (lq.drop g6)) ∧ Hid (Owb (gq + 1) wr v (limbs r)) ∧ Hid (Ow wr b (limbs Y)) ∧ Hid (Below w.heap.size w wr) ∧ gq + 1 ≤ wr.heap.size)
  case atStart =>
    refine ⟨0, List.replicate nl 0, rfl, Nat.le_refl _, hY, List.length_replicate, HZ1, lo_zero _, fun j _ => by simp [List.getD_eq_getElem?_getD, List.getElem?_replicate]; split <;> rfl, ?_, ?_, HBY.out.frame (hgq ▸ HB1.out), HB1, by omega⟩
    · show _ = _; rw [HX0.out, List.drop_of_length_le (by simp), val_nil]; omega
    · show Owb _ _ _ _; rw [limbs_zero]; exact Owb.nil _ _
  case round =>
    clear HZ1 HB1 HX0 hgq1
    obtain ⟨r, lq, rfl, hk, hr, HLQ, HQ, HLOQ, HZ, HV, HR, HBX, HB, hsz⟩ := hrel
    match gk, hk, HZ, HV with
    | 0, hk, HZ, HV =>
      obtain ⟨hq, hrr⟩ := dvd_end (show val l = r + Y * val lq from HV.out) hr
      have HQV := Lib.hid hq
      have HRV := Lib.hid hrr
      clear hq hrr HV
      go_wp2_with fail
      refine (refTrim3 _ lq HLOQ.out _ (HQ.out.own HLQ.out) (by rw [HLQ.out]; omega)).mono ?_
      rintro e w' ⟨v', rfl, rfl, hv'⟩
      rw [HQV.out] at hv'
      have HW := Lib.hid hv'
      have HW2 := Lib.hid HR.out.weak
      clear hv'
      go_wp2_with fail
      go_ret2
      exact ⟨v', _, rfl, HW.out, by rw [← HRV.out]; exact HW2.out, HB.out⟩
    | i + 1, hk, HZ, HV =>
      have hin : i < nl := by omega
      obtain ⟨g, hA, hg, hcx0⟩ := HCELL.out i hin
      subst hA
      have hcx := (HB.out.cell (p := ⟨g, i, none⟩) hg).trans hcx0
      have hx9 := lo_getD HL.out i
      have HD := Lib.hid (HLD.out i)
      clear hcx0
      generalize l.getD i 0 = x at *
      have hlrl : (limbs r).length ≤ 1000000 := Nat.le_trans (limbs_le (Nat.lt_trans hr HNM.out)) hm9
      have hm9' : (limbs Y).length ≤ 1000000 := limbs_le (Nat.lt_of_lt_of_le HNM.out (bp_mono hm9))
      have HN1 : Hid (Owb (gq + 1) (wr.alloc (.cells #[.int .i64 (x : Int)] 3)) (.slice (some ⟨wr.heap.size, 0, none⟩) 1 1) [x]) := World.ownsRow_lit wr #[.int .i64 (x : Int)] 1 hsz (by decide) rfl
      have hszA : gq + 1 ≤ (wr.alloc (.cells #[.int .i64 (x : Int)] 3)).heap.size := by simp; omega
      have HBA : Hid (Below wr.heap.size wr (wr.alloc (.cells #[.int .i64 (x : Int)] 3))) := (Below.refl _ wr).alloc (Nat.le_refl _) _
      have HLX : Hid (lo ([x] ++ limbs r)) := lo_cons.2 ⟨hx9, limbs_lo r⟩
      have hqset : Hid (lq.set i 0 = lq) := set_same lq i (HZ.out i (by omega))
      rcases HR.out.2 with ⟨hv, h0⟩ | ⟨gr, cr, cur, hv, hgr, hhr, hnc, _⟩
      · subst hv
        have hr0 : r = 0 := limbs_len0.1 h0
        have HBW := Lib.hid (HB.out.trans (HBA.out.mono HB.out.size))
        have HQ0 : Hid (Rd (wr.alloc (.cells #[.int .i64 (x : Int)] 3)) gq nl (lq.set i 0)) := (HQ.out.below HBA.out (by omega)).ext hqset.out
        have HBX := Lib.hid (HBX.out.frame HBA.out)
        have hszW := hszA
        have HNX := HN1
        go_wp2_with (at_builtin; refine wpList_append_own_none rfl _ _ 39 rfl (gq + 1) 3 i0 1 Tryz.underlying39 hi (.slice (some ⟨wr.heap.size, 0, none⟩) 1 1) 1 [.int .i64 (x : Int)] rfl HN1.out rfl ?_)
        go_wp2_with fail
        refine (refTrim3b (gq + 1) _ [x] (lo_cons.2 ⟨hx9, lo_nil⟩) _ HNX.out (by simp)).mono ?_
        rintro e w' ⟨rv, rfl, rfl, hrv⟩
        rw [show val [x] = x + 10 * r by rw [hr0]; simp [val_cons, val_nil]] at hrv
        have HRV := Lib.hid hrv
        clear hrv HNX
        go_wp2_with fail
        go_loopg [7] (x + 10 * r) (fun gg v wx => ∃ q : Nat, gg + q * Y = x + 10 * r ∧ q < 10 ∧ Hid (Owb (gq + 1) wx v (limbs gg)) ∧ Hid (Rd wx gq nl (lq.set i q)) ∧ Hid (Ow wx b (limbs Y)) ∧ Hid (Below w.heap.size w wx) ∧ gq + 1 ≤ wx.heap.size)
        case atStart => exact ⟨0, by omega, by omega, HRV, HQ0, HBX, HBW, hszW⟩
        case round =>
          clear HRV HQ0 HBX HBW hszW
          obtain ⟨q, hq, hq9, HRV, HQ, HBX, HB, hsz⟩ := hrel
          have hgl : (limbs gk).length ≤ 1000001 := by
            have h1 : gk < bp (nm + 1) := by rw [bp_succ]; have := HNM.out; omega
            have := limbs_le h1
            omega
          by_cases hge : Y ≤ gk
          · obtain ⟨cc, hcc⟩ : ∃ cc, cmpN gk Y = cc := ⟨_, rfl⟩
            have hc0 : 0 ≤ cc := by rw [← hcc]; unfold cmpN; split; (omega); split <;> omega
            have HCC := Lib.hid hcc
            have hq1 : q + 1 < 10 := dig_mul (q := q + 1) (r' := gk - Y) (Y := Y) (x := x) (r := r) (by rw [Nat.add_mul]; omega) hr hx9
            have hlq2 : Hid (i < (lq.set i q).length) := by show _ < _; rw [List.length_set, HLQ.out]; exact hin
            clear hcc
            go_wp2_with fail
            refine (refCmp3_c _ _ _ _ cc HCC _ HRV.out.weak HBX.out (by omega) hm9').mono ?_
            rintro e w' ⟨rfl, rfl⟩
            go_wp2_with fail
            refine (refMinus3 _ _ gk Y _ HRV.out.weak HBX.out hge (by omega)).mono ?_
            rintro e w5 ⟨rn, rfl, hrn, hb5⟩
            have HQ5 : Hid (Rd w5 gq nl (lq.set i q)) := HQ.out.below hb5 (by omega)
            have HRN : Hid (Owb (gq + 1) w5 rn (limbs (gk - Y))) := hrn.mono hsz
            have HB5 := Lib.hid (HB.out.trans (hb5.mono HB.out.size))
            have HBX5 := Lib.hid (HBX.out.frame hb5)
            have hsz5 : gq + 1 ≤ w5.heap.size := Nat.le_trans hsz hb5.size
            have hcq := HQ5.out.cell i hlq2.out
            rw [set_getD _ _ _ (by rw [HLQ.out]; exact hin)] at hcq
            have hfq := HQ5.out.frozen i
            clear hrn hb5
            go_wp2_with fail
            go_roundg (gk - Y)
            case measure => omega
            case rel => exact ⟨q + 1, by rw [Nat.add_mul]; omega, hq1, HRN.out.far (p := ⟨gq, i, none⟩) (Nat.lt_succ_self _) _, (HQ5.out.storeI i (q + 1) (by omega)).ext (by rw [List.set_set]), ow_far HBX5.out HBNE.out _ _, HB5.out.setCell (p := ⟨gq, i, none⟩) (Nat.le_of_eq hgq) _, by simpa [World.setCell] using hsz5⟩
          · have HCC : Hid (cmpN gk Y = -1) := by show _ = _; rw [cmpN, if_pos (by omega)]
            have HVD : Hid (val (l.drop i) = gk + Y * val ((lq.set i q).drop i)) := by
              show _ = _
              rw [val_set_drop _ _ _ (by rw [HLQ.out]; exact hin), HD.out]
              exact dvd_round HV.out hq
            go_wp2_with fail
            refine (refCmp3_c _ _ _ _ (-1) HCC _ HRV.out.weak HBX.out (by omega) hm9').mono ?_
            rintro e w' ⟨rfl, rfl⟩
            go_wp2_with fail
            go_roundg i
            case measure => omega
            case rel => exact ⟨gk, lq.set i q, by go_num, by omega, by omega, by show _ = _; rw [List.length_set]; exact HLQ.out, HQ, lo_set HLOQ.out _ _ hq9, fun j hj => by rw [set_getD_ne _ _ _ _ (by omega)]; exact HZ.out j (by omega), HVD, HRV, HBX, HB, hsz⟩
      · subst hv
        have hlen : ((limbs r).map iv).length = (limbs r).length * 1 := by simp
        have hnews : ∀ j u, ((limbs r).map iv)[j]? = some u → (wr.alloc (.cells #[.int .i64 (x : Int)] 3)).cell? ((⟨gr, 0, none⟩ : Addr).add j) = some u := (HR.out.alloc _).cells rfl
        have hone : ∀ u ∈ (limbs r).map iv, u.oneCell' = true := by
          intro u hu
          obtain ⟨a, _, rfl⟩ := List.mem_map.1 hu
          rfl
        have hmx : 1 + (limbs r).length ≤ maxLen := by unfold maxLen; omega
        have hby : (1 + (limbs r).length) * 8 ≤ 140737488355328 := by omega
        have HNEWS := Lib.hid hnews
        have HONE := Lib.hid hone
        clear hnews hone
        go_wp2_with (at_builtin; refine wpList_append_own _ rfl _ _ 39 rfl (gq + 1) 3 i0 (.int .i64 0) 1 8 Tryz.underlying39 hi hz0 hz1 hz2 rfl (by decide) (.slice (some ⟨wr.heap.size, 0, none⟩) 1 1) 1 [.int .i64 (x : Int)] rfl HN1.out ⟨gr, 0, none⟩ (limbs r).length cr ((limbs r).map iv) rfl hlen HNEWS.out HONE.out hmx hby hszA ?_)
        intro v2 w2 hown2 hgrow2 _
        have hB2 : Below wr.heap.size wr w2 := HBA.out.grown hgrow2 (by simp) (fun k hk => by cases hk; exact Nat.le_refl _)
        have HBW := Lib.hid (HB.out.trans (hB2.mono HB.out.size))
        have HQ0 : Hid (Rd w2 gq nl (lq.set i 0)) := (HQ.out.below hB2 (by omega)).ext hqset.out
        have HBX := Lib.hid (HBX.out.frame hB2)
        have hszW : gq + 1 ≤ w2.heap.size := Nat.le_trans hsz hB2.size
        have HNX : Hid (Owb (gq + 1) w2 v2 ([x] ++ limbs r)) := by
          show World.ownsRow _ _ _ _ _ _ _
          rw [List.map_append, List.length_append]
          exact hown2
        clear hown2 hgrow2 hB2
        go_wp2_with fail
        refine (refTrim3b (gq + 1) _ ([x] ++ limbs r) HLX.out _ HNX.out (by rw [List.length_append]; simp; omega)).mono ?_
        rintro e w' ⟨rv, rfl, rfl, hrv⟩
        rw [app_val x r] at hrv
        have HRV := Lib.hid hrv
        clear hrv HNX
        go_wp2_with fail
        go_loopg [7] (x + 10 * r) (fun gg v wx => ∃ q : Nat, gg + q * Y = x + 10 * r ∧ q < 10 ∧ Hid (Owb (gq + 1) wx v (limbs gg)) ∧ Hid (Rd wx gq nl (lq.set i q)) ∧ Hid (Ow wx b (limbs Y)) ∧ Hid (Below w.heap.size w wx) ∧ gq + 1 ≤ wx.heap.size)
        case atStart => exact ⟨0, by omega, by omega, HRV, HQ0, HBX, HBW, hszW⟩
        case round =>
          clear HRV HQ0 HBX HBW hszW
          obtain ⟨q, hq, hq9, HRV, HQ, HBX, HB, hsz⟩ := hrel
          have hgl : (limbs gk).length ≤ 1000001 := by
            have h1 : gk < bp (nm + 1) := by rw [bp_succ]; have := HNM.out; omega
            have := limbs_le h1
            omega
          by_cases hge : Y ≤ gk
          · obtain ⟨cc, hcc⟩ : ∃ cc, cmpN gk Y = cc := ⟨_, rfl⟩
            have hc0 : 0 ≤ cc := by rw [← hcc]; unfold cmpN; split; (omega); split <;> omega
            have HCC := Lib.hid hcc
            have hq1 : q + 1 < 10 := dig_mul (q := q + 1) (r' := gk - Y) (Y := Y) (x := x) (r := r) (by rw [Nat.add_mul]; omega) hr hx9
            have hlq2 : Hid (i < (lq.set i q).length) := by show _ < _; rw [List.length_set, HLQ.out]; exact hin
            clear hcc
            go_wp2_with fail
            refine (refCmp3_c _ _ _ _ cc HCC _ HRV.out.weak HBX.out (by omega) hm9').mono ?_
            rintro e w' ⟨rfl, rfl⟩
            go_wp2_with fail
            refine (refMinus3 _ _ gk Y _ HRV.out.weak HBX.out hge (by omega)).mono ?_
            rintro e w5 ⟨rn, rfl, hrn, hb5⟩
            have HQ5 : Hid (Rd w5 gq nl (lq.set i q)) := HQ.out.below hb5 (by omega)
            have HRN : Hid (Owb (gq + 1) w5 rn (limbs (gk - Y))) := hrn.mono hsz
            have HB5 := Lib.hid (HB.out.trans (hb5.mono HB.out.size))
            have HBX5 := Lib.hid (HBX.out.frame hb5)
            have hsz5 : gq + 1 ≤ w5.heap.size := Nat.le_trans hsz hb5.size
            have hcq := HQ5.out.cell i hlq2.out
            rw [set_getD _ _ _ (by rw [HLQ.out]; exact hin)] at hcq
            have hfq := HQ5.out.frozen i
            clear hrn hb5
            go_wp2_with fail
            go_roundg (gk - Y)
            case measure => omega
            case rel => exact ⟨q + 1, by rw [Nat.add_mul]; omega, hq1, HRN.out.far (p := ⟨gq, i, none⟩) (Nat.lt_succ_self _) _, (HQ5.out.storeI i (q + 1) (by omega)).ext (by rw [List.set_set]), ow_far HBX5.out HBNE.out _ _, HB5.out.setCell (p := ⟨gq, i, none⟩) (Nat.le_of_eq hgq) _, by simpa [World.setCell] using hsz5⟩
          · have HCC : Hid (cmpN gk Y = -1) := by show _ = _; rw [cmpN, if_pos (by omega)]
            have HVD : Hid (val (l.drop i) = gk + Y * val ((lq.set i q).drop i)) := by
              show _ = _
              rw [val_set_drop _ _ _ (by rw [HLQ.out]; exact hin), HD.out]
              exact dvd_round HV.out hq
            go_wp2_with fail
            refine (refCmp3_c _ _ _ _ (-1) HCC _ HRV.out.weak HBX.out (by omega) hm9').mono ?_
            rintro e w' ⟨rfl, rfl⟩
            go_wp2_with fail
            go_roundg i
            case measure => omega
            case rel => exact ⟨gk, lq.set i q, by go_num, by omega, by omega, by show _ = _; rw [List.length_set]; exact HLQ.out, HQ, lo_set HLOQ.out _ _ hq9, fun j hj => by rw [set_getD_ne _ _ _ _ (by omega)]; exact HZ.out j (by omega), HVD, HRV, HBX, HB, hsz⟩

end Go.Proofs.YthamlnolfagpiaaGreatDoor.D

