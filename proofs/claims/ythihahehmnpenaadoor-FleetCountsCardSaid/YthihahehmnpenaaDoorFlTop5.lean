/-
  DERIVED. The walks of fleet's faultsAt and Check.
-/
import Derived.Test.YthihahehmnpenaaDoorFlTop4
import Derived.Test.YthihahehmnpenaaDoorFlMap
namespace Go.Proofs.YthihahehmnpenaaDoor.T
open Go.RowKit
set_option maxRecDepth 8000

theorem flDecimal_n (i : Nat) (hi : i ≤ 1000000000) (w : World) (ht : Tab w) :
    Calls Tryd.prog 30 #[.int .i64 (i : Int)] w fun e w' => e = .returned (.string (dec i)) ∧ Below w.heap.size w w' := by
  have K := Lib.hid (fun w ht => itoa_n i hi w ht)
  have HT := Lib.hid ht
  clear ht
  go_enter Tryd.func30, Tryd.ntmps30
  go_wp2_with fail
  refine (K.out _ HT.out).mono ?_
  rintro e w1 ⟨rfl, b1⟩
  go_wp2_with fail
  go_ret
  exact ⟨rfl, b1⟩

theorem brk_step {l : List (Bool × Int)} {k : Nat} (h : k < l.length) : brk (l.take (k + 1)) = brk (l.take k) ++ (if (l.getD k (false, 0)).1 then [(l.getD k (false, 0)).2] else []) := by
  rw [take_more (d := (false, 0)) h]
  unfold brk
  rw [List.filter_append, List.map_append]
  congr 1
  generalize l.getD k (false, 0) = x
  obtain ⟨b, e⟩ := x
  cases b <;> rfl
theorem brk_len (l : List (Bool × Int)) (k : Nat) : (brk (l.take k)).length ≤ k := by
  unfold brk
  rw [List.length_map]
  refine Nat.le_trans (List.length_filter_le _ _) ?_
  rw [List.length_take]
  omega
theorem at_app (i : Nat) (l m : List Int) : atT i (l ++ m) = atT i l ++ atT i m := by unfold atT; rw [List.map_append]
theorem at_len (i : Nat) (l : List Int) : (atT i l).length = l.length := by unfold atT; rw [List.length_map]

set_option maxHeartbeats 6400000 in
theorem faultsAt_n (i : Nat) (hi : i ≤ 1000000000) (u : Value) (l : List (Bool × Int)) (hl : l.length ≤ 1000000) (w : World) (hu : Sl rE rA (false, 0) w u l) (hT : Tab w) :
    Calls Tryd.prog 21 #[.int .i64 (i : Int), u] w (ChkP (atT i (brk l)) w) := by
  have HU := Lib.hid hu
  obtain ⟨oa, c, rfl, ha⟩ := hu
  have HA := Lib.hid ha
  have HT := Lib.hid hT
  have KD := Lib.hid (fun w ht => flDecimal_n i hi w ht)
  have HS := Lib.hid (fun k (hk : k < l.length) => brk_step hk)
  have HL := Lib.hid (fun k => brk_len l k)
  have HE : Hid (atT i (brk (l.take l.length)) = atT i (brk l)) := by show _ = _; rw [List.take_length]
  generalize atT i (brk l) = r at *
  generalize hn : l.length = n at *
  clear ha hT hn
  go_enter Tryd.func21, Tryd.ntmps21
  go_wp2_with fail
  go_loopg [5, 10] n (fun g v j wx => ∃ k : Nat, k ≤ n ∧ j = .int .i64 k ∧ n - k ≤ g ∧ Hid (Gl w.heap.size wx v (atT i (brk (l.take k)))) ∧ Hid (Below w.heap.size w wx))
  case atStart => exact ⟨0, Nat.zero_le _, rfl, Nat.le_refl _, Gl.nil _ _, Below.refl _ _⟩
  case round =>
    obtain ⟨k, hkn, rfl, hg, HG, HB⟩ := hrel
    by_cases hlt : k < n
    · obtain ⟨b, o, rfl, hab, h0, h1⟩ := HA.out k hlt
      have hkI : (k : Int) < (n : Int) := by omega
      have HSk := Lib.hid (HS.out k hlt)
      have hlk := HL.out k
      unfold rE at h0
      unfold rA at h1
      have d0 := (HB.out.cell (p := ⟨b, _, none⟩) hab).trans h0
      have d1 := (HB.out.cell (p := ⟨b, _, none⟩) hab).trans h1
      clear h0 h1
      obtain ⟨t, x, htx⟩ : ∃ t x, l.getD k (false, 0) = (t, x) := ⟨_, _, rfl⟩
      rw [htx] at d0 d1 HSk
      simp only at d0 d1 HSk
      have HBl := below_alloc wr (.cells #[.bool t, .int .i64 x] 58)
      obtain ⟨q3, hq3⟩ : ∃ q3, wr.heap.size = q3 := ⟨_, rfl⟩
      obtain ⟨W3, hW3⟩ : ∃ W3, wr.alloc (.cells #[.bool t, .int .i64 x] 58) = W3 := ⟨_, rfl⟩
      have p0 : W3.cell? ⟨q3, 0, none⟩ = some (.bool t) := by rw [← hW3, ← hq3]; simp
      have p1 : W3.cell? ⟨q3, 1, none⟩ = some (.int .i64 x) := by rw [← hW3, ← hq3]; simp
      have hq4 : q3 < W3.heap.size := by rw [← hW3, ← hq3]; simp
      rw [hW3] at HBl
      have HB3 := Lib.hid (over HB.out HBl)
      have HG3 := Lib.hid (HG.out.frame HBl)
      clear HBl htx HB HG
      cases t
      · have HX : Hid (atT i (brk (l.take (k + 1))) = atT i (brk (l.take k))) := by show _ = _; rw [HSk.out]; simp
        have HG4 := Lib.hid (HG3.out.ext HX.out.symm)
        go_wp2_with fail
        go_roundg (n - (k + 1))
        case measure => omega
        case rel => exact ⟨k + 1, by omega, by go_num, by omega, HG4, HB3⟩
      · have HX : Hid (atT i (brk (l.take (k + 1))) = atT i (brk (l.take k)) ++ [(x, dec i)]) := by show _ = _; rw [HSk.out, at_app]; rfl
        have hlen : (atT i (brk (l.take k))).length ≤ 90000000 := by rw [at_len]; omega
        generalize atT i (brk (l.take k)) = F at *
        have HTd : Hid (Tab W3.drew) := HT.out.over (below_drew HB3.out)
        have HHG : Hid (Gl w.heap.size W3.drew u5 F) := HG3.out
        have HBd : Below w.heap.size w W3.drew := below_drew HB3.out
        clear HG3 HSk hlk
        go_wp2_with fail
        clear hW3 hq3
        go_region_law (first
          | (refine step_append_run (by rfl) _ _ 29 (by rfl) (by rfl) (by rfl) (ap_f1 _ x (dec i) HGz.out hsz hlen) ?_; rintro v3 w3 ⟨hg3, hb3⟩)
          | (go_simp; go_at_call 30; (with_reducible refine (KD.out _ HTd.out).mono ?_); rintro e wz ⟨rfl, bz⟩; have HGz := Lib.hid (HHG.out.frame bz); have HBz := HBd.trans (bz.mono HBd.size); have hsz := HBz.size; have p1 := (bz.cell (p := ⟨q3, 1, none⟩) hq4).trans p1))
        all_goals
          have HG3 : Hid (Gl w.heap.size w3 v3 (atT i (brk (l.take (k + 1))))) := by show Gl _ _ _ _; rw [HX.out]; exact hg3
          have HB4 := Lib.hid (HBz.trans hb3)
          clear hg3 hb3 HBz HBd p1
          go_wp2_with fail
          go_roundg (n - (k + 1))
          case measure => omega
          case rel => exact ⟨k + 1, by omega, by go_num, by omega, HG3, HB4⟩
    · have hk' : k = n := by omega
      subst hk'
      have HR := Lib.hid HE.out
      go_wp2_with fail
      go_ret
      exact chkP (HR.out ▸ HG.out) HB.out (Nat.le_refl _)

end Go.Proofs.YthihahehmnpenaaDoor.T

