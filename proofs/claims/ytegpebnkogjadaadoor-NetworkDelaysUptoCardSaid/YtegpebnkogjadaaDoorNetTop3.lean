/-
  DERIVED. The walks of network's arrival and nextPlace.
-/
import Derived.Test.YtegpebnkogjadaaDoorNetTop2
namespace Go.Proofs.YtegpebnkogjadaaDoor.T
open Go.RowKit
set_option maxRecDepth 8000

set_option maxHeartbeats 1600000 in
theorem arrival9_n (np : Nat) (a : ArcT) (vt vs : Value) (t : Int) (ha : ArcOk np a) (ht0 : 0 ≤ t) (ht1 : t ≤ 1073741824) (w : World) (ht : Ps w vt a.tr) (hs : Ps w vs a.sl) (hT : Tab w) :
    Calls Tryd.prog 33 #[.agg #[.int .i64 a.fr, .int .i64 a.to, .int .i64 a.prof, .int .i64 a.miles, vt, vs], .int .i64 t] w fun e w' => e = .returned (.int .i64 (arrA a t)) ∧ Below w.heap.size w w' := by
  have KA := Lib.hid (fun w hu hT => arrive_n vt a.tr t w hu hT (by have := ha.tr.most; omega))
  rw [arrF_yes ha.tr ht0 ht1] at KA
  have hb := arr_ge ha.tr ht0
  have HE : Hid (arr a.tr t + slowS (a.sl.drop 0) t = arrA a t) := rfl
  have HQ := Lib.hid (fun k (hk : k < a.sl.length) => slowB_tick (ha.slow k hk))
  have hlen := ha.len
  have HT := Lib.hid ht
  have HS := Lib.hid hs
  have HTB := Lib.hid hT
  have HST := Lib.hid (fun k (hk : k < a.sl.length) => slowS_step (t := t) hk)
  have HZ : Hid (slowS (a.sl.drop a.sl.length) t = 0) := by show _ = _; rw [List.drop_length]; rfl
  obtain ⟨fr, dt, prof, miles, tr, sl⟩ := a
  simp only at KA HE HQ hlen HT HS HST HZ hb ⊢
  clear ha ht hs hT
  obtain ⟨ob, c, hvs, -⟩ := HS.out
  subst hvs
  generalize arrA _ t = r at *
  generalize arr tr t = x0 at *
  obtain ⟨W0, hW0⟩ : ∃ W0, w.alloc (.cells #[.int .i64 fr, .int .i64 dt, .int .i64 prof, .int .i64 miles, vt, .slice ob sl.length c] 36) = W0 := ⟨_, rfl⟩
  have B0 : Hid (Below w.heap.size w W0) := by show Below _ _ _; rw [← hW0]; exact below_alloc _ _
  have a4 : W0.cell? ⟨w.heap.size, 4, none⟩ = some vt := by rw [← hW0]; simp
  have a5 : W0.cell? ⟨w.heap.size, 5, none⟩ = some (.slice ob sl.length c) := by rw [← hW0]; simp
  have hsz : w.heap.size < W0.heap.size := by rw [← hW0]; simp
  generalize hn : sl.length = n at *
  go_enter Tryd.func33, Tryd.ntmps33
  go_wp2_with fail
  clear hW0
  refine (KA.out _ (HT.out.below B0.out) (HTB.out.over B0.out)).mono ?_
  rintro e w1 ⟨rfl, b1⟩
  have B1 := Lib.hid (over B0.out b1)
  have c5 := (b1.cell (p := ⟨w.heap.size, 5, none⟩) hsz).trans a5
  have hsz1 : w.heap.size < w1.heap.size := Nat.lt_of_lt_of_le hsz b1.size
  have S1 := Lib.hid (HS.out.below B1.out)
  clear b1 B0 a4 a5 hsz HT HS KA
  obtain ⟨oa3, c3, h3, ha3⟩ := S1.out
  simp only [Value.slice.injEq] at h3
  obtain ⟨rfl, -, rfl⟩ := h3
  rw [hn] at ha3
  have A1 := Lib.hid ha3
  clear ha3 S1
  go_wp2_with fail
  go_loopw [5, 15] (fun x i wr => ∃ (k : Nat) (z : Int), k ≤ n ∧ x = .int .i64 z ∧ i = .int .i64 k ∧ 0 ≤ z ∧ z ≤ t + 8192 + 4096 * k ∧ Hid (z + slowS (sl.drop k) t = r) ∧ Hid (Below w1.heap.size w1 wr)) (fun _ i _ => n - (intOf i).toNat)
  case atStart => exact ⟨0, x0, Nat.zero_le _, rfl, rfl, by omega, by omega, HE, Below.refl _ _⟩
  case round =>
    clear HE
    obtain ⟨k, z, hk, rfl, rfl, hz0, hz1, HI, HW⟩ := hrel
    by_cases hlt : k < n
    · obtain ⟨b, o, rfl, hab, d0, d1⟩ := A1.out k hlt
      obtain ⟨⟨q0, q1⟩, q2, q3⟩ := HQ.out k hlt
      have hst := HST.out k hlt
      unfold pT at d0
      unfold pA at d1
      replace d0 := (HW.out.cell (p := ⟨b, _, none⟩) hab).trans d0
      replace d1 := (HW.out.cell (p := ⟨b, _, none⟩) hab).trans d1
      generalize sl.getD k (0, 0) = p at *
      obtain ⟨x, y⟩ := p
      simp only at d0 d1 q0 q1 q2 q3 hst
      have HW2 := Lib.hid (HW.out.alloc HW.out.size (.cells #[.int .i64 x, .int .i64 y] 75))
      by_cases hx : x ≤ t
      · have HI2 : Hid (z + y + slowS (sl.drop (k + 1)) t = r) := by show _ = _; rw [← HI.out, hst, if_pos hx]; omega
        clear hst HI
        go_wp2_with fail
        go_roundw
        case rel => exact ⟨k + 1, z + y, by omega, rfl, by go_num, by omega, by omega, HI2, HW2⟩
        case measure => simp [intOf]; omega
      · have HI2 : Hid (z + slowS (sl.drop (k + 1)) t = r) := by show _ = _; rw [← HI.out, hst, if_neg hx]; omega
        clear hst HI
        go_wp2_with fail
        go_roundw
        case rel => exact ⟨k + 1, z, by omega, rfl, by go_num, by omega, by omega, HI2, HW2⟩
        case measure => simp [intOf]; omega
    · have hk' : k = n := by omega
      subst hk'
      have HR : Hid (z = r) := by show _ = _; rw [← HI.out, HZ.out]; omega
      go_wp2_with fail
      go_ret
      exact ⟨ret_int HR.out, over B1.out HW.out⟩

/-! ### slices of bools -/
def Lb (w : World) (v : Value) (l : List Bool) : Prop :=
  ∃ (oa : Option Addr) (c : Nat), v = .slice oa l.length c ∧ ∀ i, i < l.length → ∃ a : Addr, oa = some a ∧ a.block < w.heap.size ∧ w.cell? (a.add i) = some (.bool (l.getD i false))
def nxP (x : Nat × Bool) (w : World) (e : Ending) (w' : World) : Prop := e = .returned (.tuple #[.int .i64 (x.1 : Nat), .bool x.2]) ∧ w = w'
theorem nxt_step (d : List Int) (lf : List Bool) (k : Nat) : nxt d lf (k + 1) = if d.getD k 0 ≠ -1 ∧ lf.getD k false = false ∧ ((nxt d lf k).2 = false ∨ d.getD k 0 < d.getD (nxt d lf k).1 0) then (k, true) else nxt d lf k := rfl
theorem ret_nx {a : Nat} {b : Bool} {x : Nat × Bool} (h : (a, b) = x) : Ending.returned (.tuple #[.int .i64 (a : Nat), .bool b]) = .returned (.tuple #[.int .i64 (x.1 : Nat), .bool x.2]) := by rw [← h]

set_option maxHeartbeats 3200000 in
theorem nextPlace_n (u v : Value) (d : List Int) (lf : List Bool) (hl : d.length ≤ 1000000) (hll : lf.length = d.length) (w : World) (hu : L.Li w u d) (hv : Lb w v lf) :
    Calls Tryd.prog 38 #[u, v] w (nxP (nxt d lf d.length) w) := by
  have HS := Lib.hid (nxt_step d lf)
  have HL := Lib.hid (nxt_lt d lf)
  have HE : Hid (nxt d lf d.length = nxt d lf d.length) := rfl
  generalize hr : nxt d lf d.length = r at HE ⊢
  clear HE
  have HE := Lib.hid hr
  clear hr
  obtain ⟨oa, ca, rfl, ha⟩ := hu
  obtain ⟨ob, cb, rfl, hb⟩ := hv
  rw [hll] at hb ⊢
  have HA := Lib.hid ha
  have HB := Lib.hid hb
  have H0 : Hid (nxt d lf 0 = (0, false)) := rfl
  clear ha hb hll
  generalize hn : d.length = n at *
  clear hn
  go_enter Tryd.func38, Tryd.ntmps38
  go_wp2_with fail
  go_loopw [6, 7, 12] (fun x y i wr => ∃ (k z : Nat) (b : Bool), k ≤ n ∧ x = .int .i64 z ∧ y = .bool b ∧ i = .int .i64 k ∧ Hid (nxt d lf k = (z, b)) ∧ w = wr) (fun _ _ i _ => n - (intOf i).toNat)
  case atStart => exact ⟨0, 0, false, Nat.zero_le _, rfl, rfl, rfl, H0, rfl⟩
  case round =>
    obtain ⟨k, z, b, hk, rfl, rfl, rfl, HI, rfl⟩ := hrel
    by_cases hlt : k < n
    · obtain ⟨a1, rfl, hab, d0⟩ := HA.out k hlt
      obtain ⟨a2, rfl, hbb, e0⟩ := HB.out k hlt
      have hst := HS.out k
      rw [HI.out] at hst
      simp only at hst
      obtain ⟨x, hx⟩ : ∃ x, d.getD k 0 = x := ⟨_, rfl⟩
      obtain ⟨y, hy⟩ : ∃ y, lf.getD k false = y := ⟨_, rfl⟩
      rw [hx] at d0 hst
      rw [hy] at e0 hst
      have HST := Lib.hid hst
      clear hst hx hy
      have hzn : z < n := by
        rcases Nat.eq_zero_or_pos k with e | e
        · subst e
          have := H0.out.symm.trans HI.out
          injection this with h1 h2
          omega
        · have := HL.out k e
          rw [HI.out] at this
          simp only at this; omega
      obtain ⟨a1', ha1', hab', c0⟩ := HA.out z hzn
      injection ha1' with ha1'
      subst ha1'
      obtain ⟨q, hq⟩ : ∃ q, d.getD z 0 = q := ⟨_, rfl⟩
      rw [hq] at c0 HST
      clear hq
      have hkI : (k : Int) < (n : Int) := by omega
      have hzI : (z : Int) < (n : Int) := by omega
      by_cases h1 : x = -1
      · have HI2 : Hid (nxt d lf (k + 1) = (z, b)) := by show _ = _; rw [HST.out, if_neg (fun h => h.1 h1)]
        subst h1
        clear HST HI
        go_wp2_with fail
        go_roundw
        case rel => exact ⟨k + 1, z, b, by omega, rfl, rfl, by go_num, HI2, by first | rfl | trivial⟩
        case measure => simp [intOf]; omega
      · have h1' := ne_neI h1
        cases y
        · cases b
          · have HI2 : Hid (nxt d lf (k + 1) = (k, true)) := by show _ = _; rw [HST.out, if_pos ⟨h1, rfl, .inl rfl⟩]
            clear HST HI h1
            go_wp2_with fail
            go_roundw
            case rel => exact ⟨k + 1, k, true, by omega, rfl, rfl, by go_num, HI2, by first | rfl | trivial⟩
            case measure => simp [intOf]; omega
          · by_cases h2 : x < q
            · have HI2 : Hid (nxt d lf (k + 1) = (k, true)) := by show _ = _; rw [HST.out, if_pos ⟨h1, rfl, .inr h2⟩]
              clear HST HI h1
              go_wp2_with fail
              go_roundw
              case rel => exact ⟨k + 1, k, true, by omega, rfl, rfl, by go_num, HI2, by first | rfl | trivial⟩
              case measure => simp [intOf]; omega
            · have HI2 : Hid (nxt d lf (k + 1) = (z, true)) := by
                show _ = _
                rw [HST.out, if_neg]
                rintro ⟨-, -, h | h⟩
                · cases h
                · exact h2 h
              clear HST HI h1
              go_wp2_with fail
              go_roundw
              case rel => exact ⟨k + 1, z, true, by omega, rfl, rfl, by go_num, HI2, by first | rfl | trivial⟩
              case measure => simp [intOf]; omega
        · have HI2 : Hid (nxt d lf (k + 1) = (z, b)) := by show _ = _; rw [HST.out, if_neg (fun h => by cases h.2.1)]
          clear HST HI h1
          go_wp2_with fail
          go_roundw
          case rel => exact ⟨k + 1, z, b, by omega, rfl, rfl, by go_num, HI2, by first | rfl | trivial⟩
          case measure => simp [intOf]; omega
    · have hk' : k = n := by omega
      subst hk'
      have HX : Hid ((z, b) = r) := by show _ = _; rw [← HE.out, HI.out]
      go_wp2_with fail
      go_ret2
      exact ⟨ret_nx HX.out, rfl⟩

end Go.Proofs.YtegpebnkogjadaaDoor.T

