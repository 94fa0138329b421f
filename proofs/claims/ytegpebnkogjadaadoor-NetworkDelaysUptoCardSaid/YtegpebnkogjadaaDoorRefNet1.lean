/-
  DERIVED. The walks of the specification's tick, Place, Arrive; the laws' tick.
-/
import Derived.Test.YtegpebnkogjadaaDoorNetRow
import Derived.Test.YtegpebnkogjadaaDoorRefTrav2
namespace Go.Proofs.YtegpebnkogjadaaDoor.T
open Go.RowKit
set_option maxRecDepth 8000

theorem refTick_n (t : Int) (w : World) : Calls Tryd.prog 43 #[.int .i64 t] w fun e w' => e = .returned (.bool (tickB t)) ∧ w = w' := by
  by_cases h1 : 0 ≤ t
  · have HR : Hid (decide (t ≤ 4096) = tickB t) := by show _ = _; unfold tickB; rw [decide_eq_true h1, Bool.true_and]
    generalize tickB t = r at *
    go_enter Tryd.func43, Tryd.ntmps43
    go_wp2_with fail
    go_ret
    exact ⟨ret_bool HR.out, rfl⟩
  · have HR : Hid (false = tickB t) := by show _ = _; unfold tickB; rw [decide_eq_false h1, Bool.false_and]
    have h2 : t < 0 := by omega
    generalize tickB t = r at *
    go_enter Tryd.func43, Tryd.ntmps43
    go_wp2_with fail
    go_ret
    exact ⟨ret_bool HR.out, rfl⟩
/-- a departure of which the laws speak -/
def depB (t : Int) : Bool := decide (0 ≤ t) && decide (t ≤ 1048576)
theorem lawTick_n (t : Int) (w : World) : Calls Tryd.prog 12 #[.int .i64 t] w fun e w' => e = .returned (.bool (depB t)) ∧ w = w' := by
  by_cases h1 : 0 ≤ t
  · have HR : Hid (decide (t ≤ 1048576) = depB t) := by show _ = _; unfold depB; rw [decide_eq_true h1, Bool.true_and]
    generalize depB t = r at *
    go_enter Tryd.func12, Tryd.ntmps12
    go_wp2_with fail
    go_ret
    exact ⟨ret_bool HR.out, rfl⟩
  · have HR : Hid (false = depB t) := by show _ = _; unfold depB; rw [decide_eq_false h1, Bool.false_and]
    have h2 : t < 0 := by omega
    generalize depB t = r at *
    go_enter Tryd.func12, Tryd.ntmps12
    go_wp2_with fail
    go_ret
    exact ⟨ret_bool HR.out, rfl⟩
theorem refPlace_n (op : Option Addr) (n c : Nat) (va : Value) (x : Int) (w : World) :
    Calls Tryd.prog 34 #[.agg #[.slice op n c, va], .int .i64 x] w fun e w' => e = .returned (.bool (inB n x)) ∧ Below w.heap.size w w' := by
  by_cases h1 : 0 ≤ x
  · have HR : Hid (decide (x < n) = inB n x) := by show _ = _; unfold inB; rw [decide_eq_true h1, Bool.true_and]
    generalize inB n x = r at *
    go_enter Tryd.func34, Tryd.ntmps34
    go_wp2_with fail
    go_ret
    exact ⟨ret_bool HR.out, by go_grown⟩
  · have HR : Hid (false = inB n x) := by show _ = _; unfold inB; rw [decide_eq_false h1, Bool.false_and]
    have h2 : x < 0 := by omega
    generalize inB n x = r at *
    go_enter Tryd.func34, Tryd.ntmps34
    go_wp2_with fail
    go_ret
    exact ⟨ret_bool HR.out, by go_grown⟩

/-! ### Arrive -/
theorem slowB_tick {l : List (Int × Int)} {k : Nat} (h : slowB l k = true) : (0 ≤ (l.getD k (0, 0)).1 ∧ (l.getD k (0, 0)).1 ≤ 4096) ∧ 0 ≤ (l.getD k (0, 0)).2 ∧ (l.getD k (0, 0)).2 ≤ 4096 := by
  unfold slowB at h
  rw [Bool.and_eq_true, Bool.and_eq_true] at h
  obtain ⟨⟨h1, h2⟩, -⟩ := h
  unfold tickB at h1 h2
  simp only [Bool.and_eq_true, decide_eq_true_iff] at h1 h2
  exact ⟨h1, h2⟩
theorem slowS_step {l : List (Int × Int)} {t : Int} {k : Nat} (hk : k < l.length) : slowS (l.drop k) t = (if (l.getD k (0, 0)).1 ≤ t then (l.getD k (0, 0)).2 else 0) + slowS (l.drop (k + 1)) t := by
  rw [drop_more (d := (0, 0)) hk]; rfl
theorem slowS_le (t : Int) : ∀ (l : List (Int × Int)), (∀ k, k < l.length → 0 ≤ (l.getD k (0, 0)).2 ∧ (l.getD k (0, 0)).2 ≤ 4096) → 0 ≤ slowS l t ∧ slowS l t ≤ 4096 * l.length
  | [], _ => by simp [slowS]
  | p :: l, h => by
    have h0 := h 0 (by simp)
    have h1 := slowS_le t l (fun k hk => by have := h (k + 1) (by simpa using hk); simpa using this)
    simp only [List.getD_cons_zero] at h0
    show 0 ≤ (if p.1 ≤ t then p.2 else 0) + slowS l t ∧ (if p.1 ≤ t then p.2 else 0) + slowS l t ≤ _
    rw [List.length_cons]
    split <;> omega
set_option maxHeartbeats 800000 in
theorem refArrive9_n (np : Nat) (a : ArcT) (vt vs : Value) (t : Int) (ha : ArcOk np a) (ht0 : 0 ≤ t) (ht1 : t ≤ 1073741824) (w : World) (ht : Ps w vt a.tr) (hs : Ps w vs a.sl) :
    Calls Tryd.prog 35 #[.agg #[.int .i64 a.fr, .int .i64 a.to, .int .i64 a.prof, .int .i64 a.miles, vt, vs], .int .i64 t] w fun e w' => e = .returned (.int .i64 (arrA a t)) ∧ Below w.heap.size w w' := by
  have KA := Lib.hid (fun w hu => refArrive_n vt a.tr t (by have := ha.tr.most; omega) w hu)
  rw [arrF_yes ha.tr ht0 ht1] at KA
  have hb := arr_ge ha.tr ht0
  have HE : Hid (arr a.tr t + slowS (a.sl.drop 0) t = arrA a t) := rfl
  have HQ := Lib.hid (fun k (hk : k < a.sl.length) => slowB_tick (ha.slow k hk))
  have hlen := ha.len
  have HT := Lib.hid ht
  have HS := Lib.hid hs
  have HST := Lib.hid (fun k (hk : k < a.sl.length) => slowS_step (t := t) hk)
  have HZ : Hid (slowS (a.sl.drop a.sl.length) t = 0) := by show _ = _; rw [List.drop_length]; rfl
  obtain ⟨fr, dt, prof, miles, tr, sl⟩ := a
  simp only at KA HE HQ hlen HT HS HST HZ hb ⊢
  clear ha ht hs
  obtain ⟨ob, c, hvs, -⟩ := HS.out
  subst hvs
  generalize arrA _ t = r at *
  generalize arr tr t = x0 at *
  obtain ⟨W0, hW0⟩ : ∃ W0, w.alloc (.cells #[.int .i64 fr, .int .i64 dt, .int .i64 prof, .int .i64 miles, vt, .slice ob sl.length c] 36) = W0 := ⟨_, rfl⟩
  have B0 : Hid (Below w.heap.size w W0) := by show Below _ _ _; rw [← hW0]; exact below_alloc _ _
  have a4 : W0.cell? ⟨w.heap.size, 4, none⟩ = some vt := by rw [← hW0]; simp
  have a5 : W0.cell? ⟨w.heap.size, 5, none⟩ = some (.slice ob sl.length c) := by rw [← hW0]; simp
  have hsz : w.heap.size < W0.heap.size := by rw [← hW0]; simp
  generalize hn : sl.length = n at *
  go_enter Tryd.func35, Tryd.ntmps35
  go_wp2_with fail
  clear hW0
  refine (KA.out _ (HT.out.below B0.out)).mono ?_
  rintro e w1 ⟨rfl, b1⟩
  have B1 := Lib.hid (over B0.out b1)
  have c5 := (b1.cell (p := ⟨w.heap.size, 5, none⟩) hsz).trans a5
  have hsz1 : w.heap.size < w1.heap.size := Nat.lt_of_lt_of_le hsz b1.size
  have S1 := Lib.hid (HS.out.below B1.out)
  clear b1 B0 a4 a5 hsz HT HS KA
  obtain ⟨oa3, c3, h3, ha3⟩ := S1.out
  simp only [Value.slice.injEq] at h3
  obtain ⟨rfl, -, rfl⟩ := h3
  rw [hn] at ha3
  have A1 := Lib.hid ha3
  clear ha3 S1
  go_wp2_with fail
  go_loopw [5, 6] (fun x i wr => ∃ (k : Nat) (z : Int), k ≤ n ∧ x = .int .i64 z ∧ i = .int .i64 k ∧ 0 ≤ z ∧ z ≤ t + 8192 + 4096 * k ∧ Hid (z + slowS (sl.drop k) t = r) ∧ w1 = wr) (fun _ i _ => n - (intOf i).toNat)
  case atStart => exact ⟨0, x0, Nat.zero_le _, rfl, rfl, by omega, by omega, HE, rfl⟩
  case round =>
    clear HE
    obtain ⟨k, z, hk, rfl, rfl, hz0, hz1, HI, rfl⟩ := hrel
    by_cases hlt : k < n
    · obtain ⟨b, o, rfl, hab, d0, d1⟩ := A1.out k hlt
      obtain ⟨⟨q0, q1⟩, q2, q3⟩ := HQ.out k hlt
      have hst := HST.out k hlt
      unfold pT at d0
      unfold pA at d1
      generalize sl.getD k (0, 0) = p at *
      obtain ⟨x, y⟩ := p
      simp only at d0 d1 q0 q1 q2 q3 hst
      by_cases hx : x ≤ t
      · have HI2 : Hid (z + y + slowS (sl.drop (k + 1)) t = r) := by show _ = _; rw [← HI.out, hst, if_pos hx]; omega
        clear hst HI
        go_wp2_with fail
        go_roundw
        case rel => exact ⟨k + 1, z + y, by omega, rfl, by go_num, by omega, by omega, HI2, by first | rfl | trivial⟩
        case measure => simp [intOf]; omega
      · have HI2 : Hid (z + slowS (sl.drop (k + 1)) t = r) := by show _ = _; rw [← HI.out, hst, if_neg hx]; omega
        clear hst HI
        go_wp2_with fail
        go_roundw
        case rel => exact ⟨k + 1, z, by omega, rfl, by go_num, by omega, by omega, HI2, by first | rfl | trivial⟩
        case measure => simp [intOf]; omega
    · have hk' : k = n := by omega
      subst hk'
      have HR : Hid (z = r) := by show _ = _; rw [← HI.out, HZ.out]; omega
      go_wp2_with fail
      go_ret
      exact ⟨ret_int HR.out, B1.out⟩

end Go.Proofs.YtegpebnkogjadaaDoor.T

