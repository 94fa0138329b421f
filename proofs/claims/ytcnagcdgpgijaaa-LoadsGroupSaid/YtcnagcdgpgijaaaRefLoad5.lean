/-
  DERIVED. The walk of lorryref06's Trips.
-/
import Derived.Test.YtcnagcdgpgijaaaRefLoad4
namespace Go.Proofs.Ytcnagcdgpgijaaa.L
open Go.RowKit
set_option maxRecDepth 8000

theorem tripsF_skip {m x y : Int} {a c : List Int} (h : x ≤ 0) : tripsF m (x :: a) (y :: c) = tripsF m a c := by
  rw [tripsF, if_pos h]
theorem tripsF_inf {m x : Int} {a c : List Int} (h : 0 < x) : tripsF m (x :: a) (0 :: c) = (0, 24) := by
  rw [tripsF, if_neg (by omega), if_pos rfl]
theorem tripsF_take {m x y : Int} {a c : List Int} (h : 0 < x) (h2 : 0 < y) : tripsF m (x :: a) (y :: c) = tripsF (max m (quoUp x y)) a c := by
  rw [tripsF, if_neg (by omega), if_neg (by omega)]
theorem quo_ref {x y : Int} (h2 : 0 < y) : (x + y - 1) / y = quoUp x y := by
  unfold quoUp
  rw [show x + y - 1 = (x - 1) + 1 * y by omega, Int.add_mul_ediv_right _ _ (by omega)]
theorem quoUp_le {x y : Int} (h : 0 < x) (h2 : 0 < y) : 1 ≤ quoUp x y ∧ quoUp x y ≤ x := by
  unfold quoUp
  have h3 : 0 ≤ (x - 1) / y := Int.ediv_nonneg (by omega) (by omega)
  have h4 : (x - 1) / y ≤ x - 1 := Int.ediv_le_self _ (by omega)
  omega
theorem any_drop {l : List Int} {p : Int → Bool} {k : Nat} (h : k < l.length) : (l.drop k).any p = (p (l.getD k 0) || (l.drop (k + 1)).any p) := by
  rw [drop_more (d := 0) h, List.any_cons]
theorem any_none {l : List Int} (h : l.any negB = false) {k : Nat} (hk : k < l.length) : 0 ≤ l.getD k 0 := by
  have := List.any_eq_false.1 h _ (getD_mem (d := 0) hk)
  unfold negB at this
  simpa using this

theorem refTrips_len (a b : List Int) (oa ob : Option Addr) (ca cb : Nat) (rn re : Int) (hr : tripsR a b = (rn, re)) (h : a.length ≠ b.length) (w : World) :
    Calls Try.prog 26 #[.slice oa a.length ca, .slice ob b.length cb] w fun e w' => e = .returned (.tuple #[.int .i64 rn, .int .i64 re]) ∧ w = w' := by
  have HR : Hid (((0 : Int), (2 : Int)) = (rn, re)) := by show _ = _; rw [← hr]; unfold tripsR; rw [if_neg (fun e => h e.1)]
  have hne := ne_neN h
  generalize a.length = n at *
  generalize b.length = m at *
  clear hr
  go_enter Try.func26, Try.ntmps26
  go_wp2_with fail
  go_ret2
  exact ⟨ret_pair HR.out, rfl⟩
set_option maxHeartbeats 800000 in
theorem refTrips_neg (a b : List Int) (oa ob : Option Addr) (ca cb : Nat) (rn re : Int) (hr : tripsR a b = (rn, re)) (h : a.length = b.length) (hg : b.any negB = true) (hl9 : a.length ≤ 1000000000000000) (w : World)
    (hb : ∀ i, i < b.length → ∃ a : Addr, ob = some a ∧ a.block < w.heap.size ∧ w.cell? (a.add i) = some (.int .i64 (b.getD i 0))) :
    Calls Try.prog 26 #[.slice oa a.length ca, .slice ob b.length cb] w fun e w' => e = .returned (.tuple #[.int .i64 rn, .int .i64 re]) ∧ w = w' := by
  have HR : Hid (((0 : Int), (2 : Int)) = (rn, re)) := by show _ = _; rw [← hr]; unfold tripsR; rw [if_neg (fun e => by rw [hg] at e; cases e.2)]
  have HG : Hid ((b.drop 0).any negB = true) := hg
  have HS := Lib.hid (fun k (hk : k < b.length) => any_drop (p := negB) hk)
  have HE : Hid ((b.drop b.length).any negB = false) := by show _ = _; rw [List.drop_length]; rfl
  have HB := Lib.hid hb
  rw [h]
  have hl9' : b.length ≤ 1000000000000000 := by omega
  clear hr hg h hl9 hb
  generalize hn : b.length = n at *
  have hne : ((n : Int) != (n : Int)) = false := by simp
  clear hn
  go_enter Try.func26, Try.ntmps26
  go_wp2_with fail
  go_loop [6] (fun i => ∃ k : Nat, k ≤ n ∧ i = .int .i64 k ∧ Hid ((b.drop k).any negB = true)) (fun i => n - (intOf i).toNat)
  case atStart => exact ⟨0, Nat.zero_le _, rfl, HG⟩
  case round =>
    clear HG
    obtain ⟨k, hk, rfl, HG⟩ := hrel
    by_cases hlt : k < n
    · obtain ⟨bd, rfl, hbb, hd⟩ := HB.out k hlt
      have HS2 := Lib.hid (HS.out k hlt)
      generalize b.getD k 0 = y at *
      by_cases h1 : y < 0
      · go_wp2_with fail
        go_ret2
        exact ⟨ret_pair HR.out, rfl⟩
      · have hf : Hid ((b.drop (k + 1)).any negB = true) := by
          show _ = _
          have := HS2.out
          rw [HG.out] at this
          unfold negB at this ⊢
          rw [decide_eq_false h1, Bool.false_or] at this
          exact this.symm
        go_wp2_with fail
        go_round
        case rel => exact ⟨k + 1, by omega, by go_num, hf⟩
        case measure => simp [intOf]; omega
    · have hk' : k = n := by omega
      subst hk'
      exact absurd (HG.out.symm.trans HE.out) (by simp)
set_option maxHeartbeats 1600000 in
theorem refTrips_pos (a b : List Int) (oa ob : Option Addr) (ca cb : Nat) (rn re : Int) (hr : tripsR a b = (rn, re)) (h : a.length = b.length) (hg : b.any negB = false) (hl9 : a.length ≤ 1000000000000000)
    (ha30 : withinB 1073741824 a = true) (hb30 : withinB 1073741824 b = true) (w : World)
    (ha : ∀ i, i < a.length → ∃ d : Addr, oa = some d ∧ d.block < w.heap.size ∧ w.cell? (d.add i) = some (.int .i64 (a.getD i 0)))
    (hb : ∀ i, i < b.length → ∃ d : Addr, ob = some d ∧ d.block < w.heap.size ∧ w.cell? (d.add i) = some (.int .i64 (b.getD i 0))) :
    Calls Try.prog 26 #[.slice oa a.length ca, .slice ob b.length cb] w fun e w' => e = .returned (.tuple #[.int .i64 rn, .int .i64 re]) ∧ Below w.heap.size w w' := by
  have HR : Hid (tripsF 0 (a.drop 0) (b.drop 0) = (rn, re)) := by show _ = _; rw [← hr]; unfold tripsR; rw [if_pos ⟨h, hg⟩]; rfl
  have HE : Hid (∀ m, tripsF m (a.drop a.length) (b.drop a.length) = (m, 0)) := by intro m; rw [List.drop_length]; rfl
  have HDA := Lib.hid (fun k (hk : k < a.length) => drop_more (d := 0) hk)
  have HDB := Lib.hid (fun k (hk : k < b.length) => drop_more (d := 0) hk)
  have HNN := Lib.hid (fun k (hk : k < b.length) => any_none hg hk)
  have HWA := Lib.hid (fun k (hk : k < a.length) => within_getD ha30 hk)
  have HWB := Lib.hid (fun k (hk : k < b.length) => within_getD hb30 hk)
  have HA := Lib.hid ha
  have HB := Lib.hid hb
  clear hr hg ha hb ha30 hb30
  generalize hn : a.length = n at *
  rw [← h] at HDB HNN HWB HB ⊢
  have hne : ((n : Int) != (n : Int)) = false := by simp
  clear hn h
  go_enter Try.func26, Try.ntmps26
  go_wp2_with fail
  go_loop [6] (fun i => ∃ k : Nat, k ≤ n ∧ i = .int .i64 k) (fun i => n - (intOf i).toNat)
  case atStart => exact ⟨0, Nat.zero_le _, rfl⟩
  case round =>
    obtain ⟨k, hk, rfl⟩ := hrel
    by_cases hlt : k < n
    · obtain ⟨bd, rfl, hbb, hd⟩ := HB.out k hlt
      have hy := HNN.out k hlt
      generalize b.getD k 0 = y at *
      go_wp2_with fail
      go_round
      case rel => exact ⟨k + 1, by omega, by go_num⟩
      case measure => simp [intOf]; omega
    · have hk' : k = n := by omega
      subst hk'
      go_wp2_with fail
      go_loopw [7, 8] (fun v i wr => ∃ (q : Nat) (m : Int), q ≤ k ∧ i = .int .i64 q ∧ v = .int .i64 m ∧ Hid (tripsF m (a.drop q) (b.drop q) = (rn, re)) ∧ Hid (Below w.heap.size w wr)) (fun _ i _ => k - (intOf i).toNat)
      case atStart => exact ⟨0, 0, Nat.zero_le _, rfl, rfl, HR, Below.refl _ _⟩
      case round =>
        clear HR
        obtain ⟨q, m, hq, rfl, rfl, HR, HW⟩ := hrel
        by_cases hqn : q < k
        · obtain ⟨ad, rfl, hab, hc⟩ := HA.out q hqn
          obtain ⟨bd, rfl, hbb, hd⟩ := HB.out q hqn
          have hc2 := (HW.out.cell (p := ad.add q) (by rw [add_block]; exact hab)).trans hc
          have hd2 := (HW.out.cell (p := bd.add q) (by rw [add_block]; exact hbb)).trans hd
          clear hc hd
          have HDA2 := Lib.hid (HDA.out q hqn)
          have HDB2 := Lib.hid (HDB.out q hqn)
          have hy := HNN.out q hqn
          have hxb := HWA.out q hqn
          have hyb := HWB.out q hqn
          generalize a.getD q 0 = x at *
          generalize b.getD q 0 = y at *
          by_cases hx : x ≤ 0
          · have hf : Hid (tripsF m (a.drop (q + 1)) (b.drop (q + 1)) = (rn, re)) := by
              show _ = _; rw [← HR.out, HDA2.out, HDB2.out, tripsF_skip hx]
            have hgx : ¬ 0 < x := by omega
            go_wp2_with fail
            go_roundw
            case rel => exact ⟨q + 1, m, by omega, by go_num, rfl, hf, HW⟩
            case measure => simp [intOf]; omega
          · have hgx : 0 < x := by omega
            by_cases hy0 : y = 0
            · subst hy0
              have hf : Hid (((0 : Int), (24 : Int)) = (rn, re)) := by
                show _ = _; rw [← HR.out, HDA2.out, HDB2.out, tripsF_inf hgx]
              go_wp2_with fail
              go_ret2
              exact ⟨ret_pair hf.out, HW.out⟩
            · have hyp : 0 < y := by omega
              have hye := ne_eqI hy0
              have hqq := quoUp_le hgx hyp
              have HQ := Lib.hid (quo_ref (x := x) hyp)
              have hf : Hid (tripsF (maxF m (quoUp x y)) (a.drop (q + 1)) (b.drop (q + 1)) = (rn, re)) := by
                show _ = _; rw [← HR.out, HDA2.out, HDB2.out, tripsF_take hgx hyp]; rfl
              rw [maxF_e] at hf
              have hkI : (q : Int) < (k : Int) := by omega
              have hk0 : (0 : Int) ≤ (q : Int) := by omega
              have hwr : IntKind.i64.wrap (x + y) = x + y := IntWalk.i64_in _ (by omega)
              have hwr2 : IntKind.i64.wrap (x + y - 1) = x + y - 1 := IntWalk.i64_in _ (by omega)
              have hnn : 0 ≤ x + y - 1 := by omega
              have hqe : (x + y - 1) / y = quoUp x y := HQ.out
              generalize quoUp x y = z at *
              clear hy0
              go_wp2_with fail
              go_quiet (fail)
              go_wp2_with fail
              go_roundw
              case rel => exact ⟨q + 1, _, by omega, by go_num, rfl, hf, below_drewN HW.out _⟩
              case measure => simp [intOf]; omega
        · have hq' : q = k := by omega
          subst hq'
          have hf : Hid ((m, (0 : Int)) = (rn, re)) := by show _ = _; rw [← HR.out, HE.out]
          go_wp2_with fail
          go_ret2
          exact ⟨ret_pair hf.out, HW.out⟩
theorem refTrips_n (u v : Value) (a b : List Int) (rn re : Int) (hr : tripsR a b = (rn, re)) (hl9 : a.length ≤ 1000000000000000) (ha30 : withinB 1073741824 a = true) (hb30 : withinB 1073741824 b = true) (w : World) (hu : Li w u a) (hv : Li w v b) :
    Calls Try.prog 26 #[u, v] w fun e w' => e = .returned (.tuple #[.int .i64 rn, .int .i64 re]) ∧ Below w.heap.size w w' := by
  obtain ⟨oa, ca, rfl, ha⟩ := hu
  obtain ⟨ob, cb, rfl, hb⟩ := hv
  by_cases h : a.length = b.length
  · cases hg : b.any negB
    · exact refTrips_pos a b oa ob ca cb rn re hr h hg hl9 ha30 hb30 w ha hb
    · exact (refTrips_neg a b oa ob ca cb rn re hr h hg hl9 w hb).mono fun e w' ⟨he, hw⟩ => ⟨he, hw ▸ Below.refl _ _⟩
  · exact (refTrips_len a b oa ob ca cb rn re hr h w).mono fun e w' ⟨he, hw⟩ => ⟨he, hw ▸ Below.refl _ _⟩

end Go.Proofs.Ytcnagcdgpgijaaa.L
