/-
  DERIVED. The walk of FleetChecks (written by gen_flchecks.py).
-/
import Derived.Test.YthihahehmnpenaaDoorFlAwake
namespace Go.Proofs.YthihahehmnpenaaDoor.T
open Go.RowKit
set_option maxRecDepth 8000

theorem fs_of {w : World} {v : Value} {l : List (Int × ByteArray)} (h : Lf w v l) : Fs w v l := by
  obtain ⟨oa, c, rfl, h, -⟩ := h
  exact h
theorem fs_below {w w' : World} {v : Value} {l : List (Int × ByteArray)} (h : Fs w v l) (hb : Below w.heap.size w w') : Fs w' v l := Sl.below h hb
set_option maxHeartbeats 12800000 in
theorem fleetChecks_walk (op : Option Addr) (np cp : Nat) (on : Option Addr) (na ca : Nat) (v : Value) (l : List TyT) (hnp : np ≤ 9223372036854775807) (hl : l.length ≤ 9223372036854775807) (hz : ∀ i, i < l.length → (l.getD i ty0).cap.length ≤ 9223372036854775807 ∧ (l.getD i ty0).name.size ≤ 9223372036854775807) (w : World) (hv : Ts w v l) (hT : Tab w) :
    Calls Tryd.prog 3 #[.agg #[.slice op np cp, .slice on na ca], v] w fun e w' => e = .returned (.bool true) ∧ Below w.heap.size w w' := by
  have BW := below_alloc w (.cells #[.slice op np cp, .slice on na ca] 25)
  have HV := hv.below BW
  have N0 := Nb.made w (.slice op np cp) (.slice on na ca)
  have HT0 := hT.over BW
  obtain ⟨W0, hW0⟩ : ∃ W0, w.alloc (.cells #[.slice op np cp, .slice on na ca] 25) = W0 := ⟨_, rfl⟩
  rw [hW0] at BW HV N0 HT0
  have HF : Hid (Calls Tryd.prog 8 #[v] W0.drew fun e w' => e = .returned (.bool (fewB l)) ∧ W0.drew = w') := few_n v l hl hz W0.drew (show Ts W0.drew v l from HV)
  have HTd : Hid (Tab W0.drew) := HT0
  have HBd : Hid (Below w.heap.size w W0.drew) := below_drew BW
  have HVd : Hid (Ts W0.drew v l) := HV
  have HNd : Hid (Nb W0.drew w.heap.size (.slice op np cp) (.slice on na ca)) := N0
  clear hv hT BW HV N0 HT0
  cases hb : fewB l
  · rw [hb] at HF
    obtain ⟨oa, c, rfl, -⟩ := HVd.out
    clear hz hb HVd HNd hl hnp
    go_enter Tryd.func3, Tryd.ntmps3
    go_upto_region 1 with fail
    clear hW0
    refine wp_region_noPanic ?_
    refine wp_region_held_drew (S := fun _ => True) (by kernel_rfl) trivial (fun _ => ?_)
    refine wpAnyH_take (i := 0) (oi := { dst := some 5, op := Op.move (Operand.tmp 1), type := 26, pos := "law.go:49", after := #[], guard := none }) (v := .slice oa l.length c) rfl (by kernel_rfl) (by kernel_rfl) (by kernel_rfl) (fun _ _ _ h => h) (Or.inl ⟨by rfl, by intro w0 hSw; go_simp⟩) trivial ?_
    simp only [Act.put, List.setIfInBounds_toArray, List.set_cons_zero, List.set_cons_succ]
    refine wpAnyH_ready (rs := [1]) (by kernel_rfl) (by simp) ?_
    refine AllReadyH.cons (o := { dst := some 6, op := Op.call { callee := Callee.value (Operand.func 8), args := #[Operand.tmp 5], argTypes := #[26] }, type := 4, pos := "law.go:49", after := #[{ on := 0, ground := Ground.data }], guard := none }) rfl (fun K hK => ?_) AllReadyH.nil
    go_simp
    go_at_call 8
    refine (HF.out).mono ?_
    rintro e1 w2 ⟨rfl, rfl⟩
    go_wp2_with fail
    refine hK.out _ _ trivial (fun _ => ?_)
    clear hK K
    refine wpAnyH_take (i := 2) (oi := { dst := some 7, op := Op.unOp UnOp.not 4 (Operand.tmp 6), type := 4, pos := "law.go:49", after := #[{ on := 1, ground := Ground.data }], guard := none }) (v := .bool true) rfl (by kernel_rfl) (by kernel_rfl) (by kernel_rfl) (fun _ _ _ h => h) (Or.inl ⟨by rfl, by intro w0 hSw; go_simp⟩) trivial ?_
    simp only [Act.put, List.setIfInBounds_toArray, List.set_cons_zero, List.set_cons_succ]
    refine wpAnyH_take (i := 3) (oi := { dst := some 8, op := Op.move (Operand.tmp 7), type := 4, pos := "law.go:49", after := #[{ on := 2, ground := Ground.data }, { on := 1, ground := Ground.chain }], guard := none }) (v := .bool true) rfl (by kernel_rfl) (by kernel_rfl) (by kernel_rfl) (fun _ _ _ h => h) (Or.inl ⟨by rfl, by intro w0 hSw; go_simp⟩) trivial ?_
    simp only [Act.put, List.setIfInBounds_toArray, List.set_cons_zero, List.set_cons_succ]
    refine wpAnyH_take (i := 4) (oi := { dst := some 9, op := Op.load 25 (Operand.tmp 2), type := 25, pos := "law.go:49", after := #[{ on := 3, ground := Ground.guard }], guard := some (3, false) }) (v := undef) rfl (by kernel_rfl) (by kernel_rfl) (by kernel_rfl) (fun _ _ _ h => h) (Or.inr ⟨by rfl, by rfl⟩) trivial ?_
    simp only [Act.put, List.setIfInBounds_toArray, List.set_cons_zero, List.set_cons_succ]
    refine wpAnyH_take (i := 5) (oi := { dst := some 10, op := Op.move (Operand.tmp 1), type := 26, pos := "law.go:49", after := #[{ on := 3, ground := Ground.guard }], guard := some (3, false) }) (v := undef) rfl (by kernel_rfl) (by kernel_rfl) (by kernel_rfl) (fun _ _ _ h => h) (Or.inr ⟨by rfl, by rfl⟩) trivial ?_
    simp only [Act.put, List.setIfInBounds_toArray, List.set_cons_zero, List.set_cons_succ]
    refine wpAnyH_take (i := 6) (oi := { dst := some 11, op := Op.call { callee := Callee.value (Operand.func 10), args := #[Operand.tmp 9, Operand.tmp 10], argTypes := #[25, 26] }, type := 29, pos := "law.go:49", after := #[{ on := 4, ground := Ground.data }, { on := 5, ground := Ground.data }, { on := 3, ground := Ground.chain }, { on := 3, ground := Ground.guard }], guard := some (3, false) }) (v := undef) rfl (by kernel_rfl) (by kernel_rfl) (by kernel_rfl) (fun _ _ _ h => h) (Or.inr ⟨by rfl, by rfl⟩) trivial ?_
    simp only [Act.put, List.setIfInBounds_toArray, List.set_cons_zero, List.set_cons_succ]
    refine wpAnyH_take (i := 7) (oi := { dst := some 12, op := Op.load 25 (Operand.tmp 2), type := 25, pos := "law.go:49", after := #[{ on := 3, ground := Ground.guard }], guard := some (3, false) }) (v := undef) rfl (by kernel_rfl) (by kernel_rfl) (by kernel_rfl) (fun _ _ _ h => h) (Or.inr ⟨by rfl, by rfl⟩) trivial ?_
    simp only [Act.put, List.setIfInBounds_toArray, List.set_cons_zero, List.set_cons_succ]
    refine wpAnyH_take (i := 8) (oi := { dst := some 13, op := Op.move (Operand.tmp 1), type := 26, pos := "law.go:49", after := #[{ on := 3, ground := Ground.guard }], guard := some (3, false) }) (v := undef) rfl (by kernel_rfl) (by kernel_rfl) (by kernel_rfl) (fun _ _ _ h => h) (Or.inr ⟨by rfl, by rfl⟩) trivial ?_
    simp only [Act.put, List.setIfInBounds_toArray, List.set_cons_zero, List.set_cons_succ]
    refine wpAnyH_take (i := 9) (oi := { dst := some 14, op := Op.call { callee := Callee.value (Operand.func 11), args := #[Operand.tmp 12, Operand.tmp 13], argTypes := #[25, 26] }, type := 29, pos := "law.go:49", after := #[{ on := 7, ground := Ground.data }, { on := 8, ground := Ground.data }, { on := 6, ground := Ground.chain }, { on := 3, ground := Ground.guard }], guard := some (3, false) }) (v := undef) rfl (by kernel_rfl) (by kernel_rfl) (by kernel_rfl) (fun _ _ _ h => h) (Or.inr ⟨by rfl, by rfl⟩) trivial ?_
    simp only [Act.put, List.setIfInBounds_toArray, List.set_cons_zero, List.set_cons_succ]
    refine wpAnyH_take (i := 10) (oi := { dst := some 15, op := Op.call { callee := Callee.value (Operand.func 9), args := #[Operand.tmp 11, Operand.tmp 14], argTypes := #[29, 29] }, type := 4, pos := "law.go:49", after := #[{ on := 6, ground := Ground.data }, { on := 9, ground := Ground.data }, { on := 9, ground := Ground.chain }, { on := 3, ground := Ground.guard }], guard := some (3, false) }) (v := undef) rfl (by kernel_rfl) (by kernel_rfl) (by kernel_rfl) (fun _ _ _ h => h) (Or.inr ⟨by rfl, by rfl⟩) trivial ?_
    simp only [Act.put, List.setIfInBounds_toArray, List.set_cons_zero, List.set_cons_succ]
    refine wpAnyH_take (i := 11) (oi := { dst := some 16, op := Op.pick (Operand.tmp 8) (Operand.const (Value.bool true)) (Operand.tmp 15), type := 4, pos := "law.go:49", after := #[{ on := 3, ground := Ground.data }, { on := 10, ground := Ground.data }], guard := none }) (v := .bool true) rfl (by kernel_rfl) (by kernel_rfl) (by kernel_rfl) (fun _ _ _ h => h) (Or.inl ⟨by rfl, by intro w0 hSw; go_simp⟩) trivial ?_
    simp only [Act.put, List.setIfInBounds_toArray, List.set_cons_zero, List.set_cons_succ]
    refine wpAnyH_take (i := 12) (oi := { dst := some 17, op := Op.move (Operand.tmp 16), type := 4, pos := "law.go:49", after := #[{ on := 11, ground := Ground.data }, { on := 10, ground := Ground.chain }], guard := none }) (v := .bool true) rfl (by kernel_rfl) (by kernel_rfl) (by kernel_rfl) (fun _ _ _ h => h) (Or.inl ⟨by rfl, by intro w0 hSw; go_simp⟩) trivial ?_
    simp only [Act.put, List.setIfInBounds_toArray, List.set_cons_zero, List.set_cons_succ]
    refine wpAnyH_ready (rs := [13]) (by kernel_rfl) (by simp) ?_
    refine AllReadyH.cons (o := { dst := some 18, op := Op.call { callee := Callee.value (Operand.func 12), args := #[], argTypes := #[] }, type := 4, pos := "law.go:49", after := #[{ on := 12, ground := Ground.chain }, { on := 12, ground := Ground.guard }], guard := some (12, true) }) rfl (fun K hK => ?_) AllReadyH.nil
    go_simp
    go_at_call 12
    refine (awake_n _ HTd.out).mono ?_
    rintro e1 w2 ⟨rfl, b2⟩
    go_wp2_with fail
    refine hK.out _ _ trivial (fun _ => ?_)
    clear hK K
    refine wpAnyH_take (i := 14) (oi := { dst := some 19, op := Op.pick (Operand.tmp 17) (Operand.tmp 18) (Operand.const (Value.bool false)), type := 4, pos := "law.go:49", after := #[{ on := 12, ground := Ground.data }, { on := 13, ground := Ground.data }], guard := none }) (v := .bool true) rfl (by kernel_rfl) (by kernel_rfl) (by kernel_rfl) (fun _ _ _ h => h) (Or.inl ⟨by rfl, by intro w0 hSw; go_simp⟩) trivial ?_
    simp only [Act.put, List.setIfInBounds_toArray, List.set_cons_zero, List.set_cons_succ]
    refine wpAnyH_take (i := 15) (oi := { dst := some 4, op := Op.assign (Operand.tmp 19), type := 4, pos := "law.go:49", after := #[{ on := 14, ground := Ground.data }, { on := 13, ground := Ground.chain }, { on := 0, ground := Ground.phase }, { on := 1, ground := Ground.phase }, { on := 2, ground := Ground.phase }, { on := 3, ground := Ground.phase }, { on := 4, ground := Ground.phase }, { on := 5, ground := Ground.phase }, { on := 6, ground := Ground.phase }, { on := 7, ground := Ground.phase }, { on := 8, ground := Ground.phase }, { on := 9, ground := Ground.phase }, { on := 10, ground := Ground.phase }, { on := 11, ground := Ground.phase }, { on := 12, ground := Ground.phase }, { on := 13, ground := Ground.phase }, { on := 14, ground := Ground.phase }], guard := none }) (v := .bool true) rfl (by kernel_rfl) (by kernel_rfl) (by kernel_rfl) (fun _ _ _ h => h) (Or.inl ⟨by rfl, by intro w0 hSw; go_simp⟩) trivial ?_
    simp only [Act.put, List.setIfInBounds_toArray, List.set_cons_zero, List.set_cons_succ]
    refine wpAnyH_done (by kernel_rfl) ?_ _
    refine NoPanic.normal ?_
    go_wp2_with fail
    go_ret
    exact ⟨rfl, over HBd.out b2⟩
  · obtain ⟨h10, hcs⟩ := few_spec hb
    rw [hb] at HF
    have KC := Lib.hid (fun w hv hT => flCheck_n op np cp on na ca v l (by omega) hnp (fun i hi => ⟨by have := (hcs i hi).1; omega, by have := (hcs i hi).2; unfold maxLen; omega⟩) w hv hT)
    have KR := Lib.hid (fun w hv => refFleet_n op np cp on na ca v l (by omega) hnp (fun i hi => by have := (hcs i hi).1; omega) w hv)
    have hfl : (fleetF np l).length ≤ 1000000000 := by
      have := flF_len np l l.length
      unfold fleetF
      omega
    have KF := Lib.hid (fun u v w hu hv => faults_n u v (fleetF np l) hfl w hu hv)
    generalize fleetF np l = R at *
    obtain ⟨oa, c, rfl, -⟩ := HVd.out
    have g0 := HNd.out.c0
    have g1 := HNd.out.c1
    have hnl := HNd.out.lt
    clear hz hb hcs hl hnp hfl h10 HNd
    go_enter Tryd.func3, Tryd.ntmps3
    go_upto_region 1 with fail
    clear hW0
    go_region_held3 (fun w' => w'.cell? ⟨w.heap.size, 0, none⟩ = some (.slice op np cp) ∧ w'.cell? ⟨w.heap.size, 1, none⟩ = some (.slice on na ca))
      (first | exact ⟨g0, g1⟩)
      (first
        | (go_at_call 8; (with_reducible refine HF.out.mono ?_); rintro e wz ⟨rfl, rfl⟩)
        | (go_at_call 10; (with_reducible refine (KC.out _ HVd.out HTd.out).mono ?_); intro e wz hz1; obtain ⟨v1, rfl, hf1, -, bz⟩ := Lf.of_chk hz1; have HF1 := Lib.hid (fs_of hf1); have HBd := Lib.hid (over HBd.out bz); have HTd := Lib.hid (HTd.out.over bz); have HVd := Lib.hid (HVd.out.below bz); have g0 := (bz.cell (p := ⟨w.heap.size, 0, none⟩) hnl).trans g0; have g1 := (bz.cell (p := ⟨w.heap.size, 1, none⟩) hnl).trans g1; have hnl := Nat.lt_of_lt_of_le hnl bz.size)
        | (go_at_call 11; (with_reducible refine (KR.out _ HVd.out).mono ?_); intro e wz hz1; obtain ⟨v2, rfl, hf2, -, bz⟩ := Lf.of_chk hz1; have HF1 := Lib.hid (fs_below HF1.out bz); have HF2 := Lib.hid (fs_of hf2); have HBd := Lib.hid (over HBd.out bz); have HTd := Lib.hid (HTd.out.over bz); have HVd := Lib.hid (HVd.out.below bz); have g0 := (bz.cell (p := ⟨w.heap.size, 0, none⟩) hnl).trans g0; have g1 := (bz.cell (p := ⟨w.heap.size, 1, none⟩) hnl).trans g1; have hnl := Nat.lt_of_lt_of_le hnl bz.size)
        | (go_at_call 9; (with_reducible refine (KF.out _ _ _ HF1.out HF2.out).mono ?_); rintro e wz ⟨rfl, bz⟩; have HBd := Lib.hid (over HBd.out bz); have HTd := Lib.hid (HTd.out.over bz); have HVd := Lib.hid (HVd.out.below bz); have g0 := (bz.cell (p := ⟨w.heap.size, 0, none⟩) hnl).trans g0; have g1 := (bz.cell (p := ⟨w.heap.size, 1, none⟩) hnl).trans g1; have hnl := Nat.lt_of_lt_of_le hnl bz.size)
        | (go_at_call 12; (with_reducible refine (awake_n _ HTd.out).mono ?_); rintro e wz ⟨rfl, bz⟩; have HBd := Lib.hid (over HBd.out bz); have HTd := Lib.hid (HTd.out.over bz); have HVd := Lib.hid (HVd.out.below bz); have g0 := (bz.cell (p := ⟨w.heap.size, 0, none⟩) hnl).trans g0; have g1 := (bz.cell (p := ⟨w.heap.size, 1, none⟩) hnl).trans g1; have hnl := Nat.lt_of_lt_of_le hnl bz.size))
    all_goals
      go_wp2_with fail
      go_ret
      exact ⟨rfl, HBd.out⟩

end Go.Proofs.YthihahehmnpenaaDoor.T

