/-
  DERIVED. The walk of SetsSubsets.
-/
import Derived.Test.YtpcdpljkgnpkoaaDoorSetLaw3
import Derived.Deep.RegionHeld3
import Derived.IntWalk
namespace Go.Proofs.YtpcdpljkgnpkoaaDoor.S
open Go.RowKit
set_option maxRecDepth 8000

theorem Below.keepc {w w' : World} (hb : Below w.heap.size w w') {p : Addr} {v : Value} (h : w.cell? p = some v) : w'.cell? p = some v := (hb.cell (World.block_lt_of_cell? _ _ h)).trans h
theorem Below.undrew {w w' : World} (h : Below w.drew.heap.size w.drew w') : Below w.heap.size w w' := ⟨h.os, h.tape, h.output, h.size, h.block⟩
/-- what is known of the list of subsets -/
structure SubP (a E : Nat) (R : List Nat) : Prop where
  in9 : ∀ i, i < R.length → R.getD i 0 < 9223372036854775808 ∧ withinB (R.getD i 0) a = true
  up : ∀ i, i + 1 < R.length → R.getD i 0 < R.getD (i + 1) 0
  len : R.length ≤ 8192
  err : E = 0 ∧ size a ≤ 13 ∨ E = 4 ∧ 13 < size a
theorem range_getD {n i : Nat} (h : i < n) (f : Nat → Nat) : ((List.range n).map f).getD i 0 = f i := by
  rw [List.getD_eq_getElem?_getD, List.getElem?_map, List.getElem?_range h]; rfl
theorem pd_within (n m : Nat) : withinB (pd 63 n m) n = true := by
  have h := pd_and 63 n m
  have h2 := within_and n (pd 63 n m)
  rwa [Nat.and_comm, h] at h2
theorem subP_of (a : Nat) (ha : a < 2 ^ 63) : SubP a (subsE a).toNat (subsR a) := by
  by_cases h13 : 13 < size a
  · have h1 : subsR a = [] := if_pos h13
    have h2 : subsE a = 4 := if_pos h13
    rw [h1, h2]
    exact ⟨fun i hi => by simp at hi, fun i hi => by simp at hi, by simp, .inr ⟨rfl, h13⟩⟩
  · have h1 : subsR a = subsN a := (if_neg h13).trans (subsets_pd a)
    have h2 : subsE a = 0 := if_neg h13
    have hl : (subsN a).length = 2 ^ size a := by rw [subsN, List.length_map, List.length_range]
    rw [h1, h2]
    refine ⟨fun i hi => ?_, fun i hi => ?_, ?_, .inl ⟨rfl, by omega⟩⟩
    · rw [hl] at hi
      rw [subsN, range_getD hi]
      exact ⟨Nat.lt_of_le_of_lt (pd_le _ _ _) (by simpa using ha), pd_within a i⟩
    · rw [hl] at hi
      rw [subsN, range_getD (show i < 2 ^ size a by omega), range_getD hi]
      exact pd_mono 63 a i (i + 1) (by omega) hi
    · rw [hl]; exact Nat.le_trans (Nat.pow_le_pow_right (by omega) (show size a ≤ 13 by omega)) (by decide)

set_option maxHeartbeats 4000000 in
theorem setsSubsets_walk (x : Int) (w : World) (hT : Tab w) :
    Calls Tryd.prog 5 #[.int .i64 x] w fun e w' => e = .returned (.bool true) ∧ Below w.heap.size w w' := by
  have HP := Lib.hid (plain_z x)
  have ha := plain_lt x
  generalize plainN x = a at *
  have HS := Lib.hid (setSubsets_n a ha)
  have HR := Lib.hid (refSubsets_n a ha)
  have HZ := Lib.hid (refSize_n a ha)
  have HW := Lib.hid (fun (b : Nat) (hb : b < 9223372036854775808) (w : World) => refWithin_n b a (by simpa using hb) ha w)
  have hsp := subP_of a ha
  have hE : ∃ E : Nat, subsE a = (E : Int) ∧ (subsE a).toNat = E := by
    refine ⟨(subsE a).toNat, ?_, rfl⟩
    rw [subsE]; split <;> rfl
  obtain ⟨E, hE1, hE2⟩ := hE
  rw [hE2] at hsp
  rw [hE1] at HS HR
  have hs63 : size a ≤ 63 := cnt_le 63 a
  have herr := hsp.err
  have hlen := hsp.len
  have HSP := Lib.hid hsp
  generalize subsR a = R at *
  generalize size a = s at *
  obtain ⟨m, hm⟩ : ∃ m, R.length = m := ⟨_, rfl⟩
  rw [hm] at hlen
  have HM := Lib.hid hm
  have hE4 : E ≤ 4 := by omega
  have HERR := Lib.hid herr
  have ha9 : a < 9223372036854775808 := by simpa using ha
  clear hsp hE1 hE2 ha herr hm
  go_enter Tryd.func5, Tryd.ntmps5
  go_wp2_with fail
  refine (HP.out _).mono ?_
  rintro e w' ⟨rfl, rfl⟩
  go_wp2_with fail
  refine (HS.out _).mono ?_
  rintro e w1 ⟨v1, rfl, o1, b1⟩
  have B1 := Lib.hid b1
  have T1 := hT.over b1
  clear b1
  go_wp2_with fail
  refine (HR.out _).mono ?_
  rintro e w2 ⟨v2, rfl, o2, b2⟩
  have O1 := Lib.hid ((o1.weak.frame b2))
  have B2 := Lib.hid (over5 B1.out b2)
  have T2 := T1.over b2
  clear b2 o1 T1 B1 HS HR
  obtain ⟨A1, c1, rfl, hc1, e1⟩ := O1.out.shape
  obtain ⟨A2, c2, rfl, _, e2⟩ := o2.weak.shape
  have HSM := Lib.hid (same_n A1 A2 c1 c2 R R (by rw [HM.out]; omega) w2 e1 e2)
  have HE1 := Lib.hid e1
  rw [HM.out] at HSM hc1
  rw [HM.out]
  clear e1 e2 o2 O1
  go_wp2_with fail
  refine HSM.out.mono ?_
  rintro e w3 ⟨rfl, b3⟩
  have B3 := Lib.hid (over5 B2.out b3)
  have T3 := Lib.hid (T2.over b3)
  have HE3 : Hid (∀ i, i < R.length → ∃ g, A1 = some ⟨g, 0, none⟩ ∧ g < w3.heap.size ∧ w3.cell? ⟨g, i, none⟩ = some (.int .i64 ((R.getD i 0 : Nat) : Int))) := fun i hi => by
    obtain ⟨g, h1, h2, h3⟩ := HE1.out i hi
    exact ⟨g, h1, Nat.lt_of_lt_of_le h2 b3.size, (b3.cell (p := ⟨g, i, none⟩) h2).trans h3⟩
  clear b3 T2 B2 HSM HE1
  go_wp2_with fail
  go_loopw [7] (fun i wr => ∃ k : Nat, k ≤ m ∧ i = .int .i64 k ∧ Hid (Below w3.heap.size w3 wr)) (fun i _ => m - (intOf i).toNat)
  case atStart => exact ⟨0, Nat.zero_le _, rfl, Below.refl _ _⟩
  case round =>
    obtain ⟨k, hk, rfl, HB⟩ := hrel
    by_cases hlt : k < m
    · have hkl : k < R.length := by rw [HM.out]; exact hlt
      obtain ⟨g, rfl, hg, hcx⟩ := HE3.out k hkl
      obtain ⟨hx9, hxw⟩ := HSP.out.in9 k hkl
      have hcx2 := (HB.out.cell (p := ⟨g, k, none⟩) hg).trans hcx
      obtain ⟨y, hy⟩ : ∃ y, R.getD k 0 = y := ⟨_, rfl⟩
      rw [hy] at hcx2 hx9 hxw
      have HWY := Lib.hid (HW.out y hx9)
      rw [hxw] at HWY
      have hcD : wr.drew.cell? ⟨g, k, none⟩ = some (.int .i64 (y : Int)) := hcx2
      have hk9 : k ≤ 8192 := by omega
      by_cases hk0 : k = 0
      · subst hk0
        clear hcx hcx2 hxw hy hkl
        go_wp2_with fail
        refine wp_region_noPanic ?_
        refine wp_region_held_drew (S := fun w' => w'.cell? ⟨g, 0, none⟩ = some (.int .i64 (y : Int))) (by kernel_rfl) hcD (fun hHeld => ?_)
        refine wpAnyH_take (i := 0) (oi := { dst := some 35, op := Op.move (Operand.tmp 3), type := 25, pos := "law.go:60", after := #[], guard := none }) (v := ?_) rfl (by kernel_rfl) (by kernel_rfl) (by kernel_rfl) (fun _ _ _ h => h) (Or.inl ⟨by rfl, ?_⟩) hHeld ?_
        rotate_left
        · intro w0 hSw
          try dsimp only at hSw
          first
            | (go_simp; done)
            | (go_simp; with_reducible rfl)
        simp only [Act.put, List.setIfInBounds_toArray, List.set_cons_zero, List.set_cons_succ]
        refine wpAnyH_take (i := 1) (oi := { dst := some 36, op := Op.move (Operand.tmp 7), type := 3, pos := "law.go:60", after := #[], guard := none }) (v := ?_) rfl (by kernel_rfl) (by kernel_rfl) (by kernel_rfl) (fun _ _ _ h => h) (Or.inl ⟨by rfl, ?_⟩) hHeld ?_
        rotate_left
        · intro w0 hSw
          try dsimp only at hSw
          first
            | (go_simp; done)
            | (go_simp; with_reducible rfl)
        simp only [Act.put, List.setIfInBounds_toArray, List.set_cons_zero, List.set_cons_succ]
        refine wpAnyH_take (i := 2) (oi := { dst := some 37, op := Op.indexAddr 25 (Operand.tmp 35) (Operand.tmp 36), type := 0, pos := "law.go:60", after := #[{ on := 0, ground := Ground.data }, { on := 1, ground := Ground.data }], guard := none }) (v := ?_) rfl (by kernel_rfl) (by kernel_rfl) (by kernel_rfl) (fun _ _ _ h => h) (Or.inl ⟨by rfl, ?_⟩) hHeld ?_
        rotate_left
        · intro w0 hSw
          try dsimp only at hSw
          first
            | (go_simp; done)
            | (go_simp; with_reducible rfl)
        simp only [Act.put, List.setIfInBounds_toArray, List.set_cons_zero, List.set_cons_succ]
        refine wpAnyH_take (i := 3) (oi := { dst := some 38, op := Op.load 3 (Operand.tmp 37), type := 3, pos := "law.go:60", after := #[{ on := 2, ground := Ground.data }], guard := none }) (v := ?_) rfl (by kernel_rfl) (by kernel_rfl) (by kernel_rfl) (fun _ _ _ h => h) (Or.inl ⟨by rfl, ?_⟩) hHeld ?_
        rotate_left
        · intro w0 hSw
          try dsimp only at hSw
          first
            | (go_simp; done)
            | (go_simp; with_reducible rfl)
        simp only [Act.put, List.setIfInBounds_toArray, List.set_cons_zero, List.set_cons_succ]
        refine wpAnyH_take (i := 4) (oi := { dst := some 39, op := Op.move (Operand.tmp 0), type := 3, pos := "law.go:60", after := #[], guard := none }) (v := ?_) rfl (by kernel_rfl) (by kernel_rfl) (by kernel_rfl) (fun _ _ _ h => h) (Or.inl ⟨by rfl, ?_⟩) hHeld ?_
        rotate_left
        · intro w0 hSw
          try dsimp only at hSw
          first
            | (go_simp; done)
            | (go_simp; with_reducible rfl)
        simp only [Act.put, List.setIfInBounds_toArray, List.set_cons_zero, List.set_cons_succ]
        refine wpAnyH_ready (rs := [5]) (by kernel_rfl) (by simp) ?_
        refine AllReadyH.cons (o := { dst := some 40, op := Op.call { callee := Callee.value (Operand.func 18), args := #[Operand.tmp 38, Operand.tmp 39], argTypes := #[3, 3] }, type := 4, pos := "law.go:60", after := #[{ on := 3, ground := Ground.data }, { on := 4, ground := Ground.data }], guard := none }) rfl (fun K hK => ?_) AllReadyH.nil
        go_simp
        go_at_call 18
        refine (HWY.out _).mono ?_
        rintro e w4 ⟨rfl, b4⟩
        go_wp2_with fail
        refine hK.out _ _ (Below.keepc b4 hcD) (fun hHeld4 => ?_)
        clear hK K
        refine wpAnyH_take (i := 6) (oi := { dst := some 41, op := Op.unOp UnOp.not 4 (Operand.tmp 40), type := 4, pos := "law.go:60", after := #[{ on := 5, ground := Ground.data }], guard := none }) (v := ?_) rfl (by kernel_rfl) (by kernel_rfl) (by kernel_rfl) (fun _ _ _ h => h) (Or.inl ⟨by rfl, ?_⟩) hHeld4 ?_
        rotate_left
        · intro w0 hSw
          try dsimp only at hSw
          first
            | (go_simp; done)
            | (go_simp; with_reducible rfl)
        simp only [Act.put, List.setIfInBounds_toArray, List.set_cons_zero, List.set_cons_succ]
        refine wpAnyH_take (i := 7) (oi := { dst := some 42, op := Op.move (Operand.tmp 41), type := 4, pos := "law.go:60", after := #[{ on := 6, ground := Ground.data }, { on := 5, ground := Ground.chain }], guard := none }) (v := ?_) rfl (by kernel_rfl) (by kernel_rfl) (by kernel_rfl) (fun _ _ _ h => h) (Or.inl ⟨by rfl, ?_⟩) hHeld4 ?_
        rotate_left
        · intro w0 hSw
          try dsimp only at hSw
          first
            | (go_simp; done)
            | (go_simp; with_reducible rfl)
        simp only [Act.put, List.setIfInBounds_toArray, List.set_cons_zero, List.set_cons_succ]
        refine wpAnyH_take (i := 8) (oi := { dst := some 43, op := Op.move (Operand.tmp 7), type := 3, pos := "law.go:60", after := #[{ on := 7, ground := Ground.guard }], guard := some (7, false) }) (v := ?_) rfl (by kernel_rfl) (by kernel_rfl) (by kernel_rfl) (fun _ _ _ h => h) (Or.inl ⟨by rfl, ?_⟩) hHeld4 ?_
        rotate_left
        · intro w0 hSw
          try dsimp only at hSw
          first
            | (go_simp; done)
            | (go_simp; with_reducible rfl)
        simp only [Act.put, List.setIfInBounds_toArray, List.set_cons_zero, List.set_cons_succ]
        refine wpAnyH_take (i := 9) (oi := { dst := some 44, op := Op.binOp BinOp.gtr 3 (Operand.tmp 43) (Operand.const (Value.int IntKind.i64 0)) 3, type := 4, pos := "law.go:60", after := #[{ on := 8, ground := Ground.data }, { on := 7, ground := Ground.guard }], guard := some (7, false) }) (v := ?_) rfl (by kernel_rfl) (by kernel_rfl) (by kernel_rfl) (fun _ _ _ h => h) (Or.inl ⟨by rfl, ?_⟩) hHeld4 ?_
        rotate_left
        · intro w0 hSw
          try dsimp only at hSw
          first
            | (go_simp; done)
            | (go_simp; with_reducible rfl)
        simp only [Act.put, List.setIfInBounds_toArray, List.set_cons_zero, List.set_cons_succ]
        refine wpAnyH_take (i := 10) (oi := { dst := some 45, op := Op.move (Operand.tmp 44), type := 4, pos := "law.go:60", after := #[{ on := 9, ground := Ground.data }, { on := 7, ground := Ground.chain }, { on := 7, ground := Ground.guard }], guard := some (7, false) }) (v := ?_) rfl (by kernel_rfl) (by kernel_rfl) (by kernel_rfl) (fun _ _ _ h => h) (Or.inl ⟨by rfl, ?_⟩) hHeld4 ?_
        rotate_left
        · intro w0 hSw
          try dsimp only at hSw
          first
            | (go_simp; done)
            | (go_simp; with_reducible rfl)
        simp only [Act.put, List.setIfInBounds_toArray, List.set_cons_zero, List.set_cons_succ]
        refine wpAnyH_take (i := 11) (oi := { dst := some 46, op := Op.move (Operand.tmp 3), type := 25, pos := "law.go:60", after := #[{ on := 10, ground := Ground.guard }], guard := some (10, true) }) (v := undef) rfl (by kernel_rfl) (by kernel_rfl) (by kernel_rfl) (fun _ _ _ h => h) (Or.inr ⟨by rfl, rfl⟩) hHeld4 ?_
        simp only [Act.put, List.setIfInBounds_toArray, List.set_cons_zero, List.set_cons_succ]
        refine wpAnyH_take (i := 12) (oi := { dst := some 47, op := Op.move (Operand.tmp 7), type := 3, pos := "law.go:60", after := #[{ on := 10, ground := Ground.guard }], guard := some (10, true) }) (v := undef) rfl (by kernel_rfl) (by kernel_rfl) (by kernel_rfl) (fun _ _ _ h => h) (Or.inr ⟨by rfl, rfl⟩) hHeld4 ?_
        simp only [Act.put, List.setIfInBounds_toArray, List.set_cons_zero, List.set_cons_succ]
        refine wpAnyH_take (i := 13) (oi := { dst := some 48, op := Op.indexAddr 25 (Operand.tmp 46) (Operand.tmp 47), type := 0, pos := "law.go:60", after := #[{ on := 11, ground := Ground.data }, { on := 12, ground := Ground.data }, { on := 10, ground := Ground.guard }], guard := some (10, true) }) (v := undef) rfl (by kernel_rfl) (by kernel_rfl) (by kernel_rfl) (fun _ _ _ h => h) (Or.inr ⟨by rfl, rfl⟩) hHeld4 ?_
        simp only [Act.put, List.setIfInBounds_toArray, List.set_cons_zero, List.set_cons_succ]
        refine wpAnyH_take (i := 14) (oi := { dst := some 49, op := Op.load 3 (Operand.tmp 48), type := 3, pos := "law.go:60", after := #[{ on := 13, ground := Ground.data }, { on := 10, ground := Ground.guard }], guard := some (10, true) }) (v := undef) rfl (by kernel_rfl) (by kernel_rfl) (by kernel_rfl) (fun _ _ _ h => h) (Or.inr ⟨by rfl, rfl⟩) hHeld4 ?_
        simp only [Act.put, List.setIfInBounds_toArray, List.set_cons_zero, List.set_cons_succ]
        refine wpAnyH_take (i := 15) (oi := { dst := some 50, op := Op.move (Operand.tmp 3), type := 25, pos := "law.go:60", after := #[{ on := 10, ground := Ground.guard }], guard := some (10, true) }) (v := undef) rfl (by kernel_rfl) (by kernel_rfl) (by kernel_rfl) (fun _ _ _ h => h) (Or.inr ⟨by rfl, rfl⟩) hHeld4 ?_
        simp only [Act.put, List.setIfInBounds_toArray, List.set_cons_zero, List.set_cons_succ]
        refine wpAnyH_take (i := 16) (oi := { dst := some 51, op := Op.move (Operand.tmp 7), type := 3, pos := "law.go:60", after := #[{ on := 10, ground := Ground.guard }], guard := some (10, true) }) (v := undef) rfl (by kernel_rfl) (by kernel_rfl) (by kernel_rfl) (fun _ _ _ h => h) (Or.inr ⟨by rfl, rfl⟩) hHeld4 ?_
        simp only [Act.put, List.setIfInBounds_toArray, List.set_cons_zero, List.set_cons_succ]
        refine wpAnyH_take (i := 17) (oi := { dst := some 52, op := Op.binOp BinOp.sub 3 (Operand.tmp 51) (Operand.const (Value.int IntKind.i64 1)) 3, type := 3, pos := "law.go:60", after := #[{ on := 16, ground := Ground.data }, { on := 10, ground := Ground.guard }], guard := some (10, true) }) (v := undef) rfl (by kernel_rfl) (by kernel_rfl) (by kernel_rfl) (fun _ _ _ h => h) (Or.inr ⟨by rfl, rfl⟩) hHeld4 ?_
        simp only [Act.put, List.setIfInBounds_toArray, List.set_cons_zero, List.set_cons_succ]
        refine wpAnyH_take (i := 18) (oi := { dst := some 53, op := Op.indexAddr 25 (Operand.tmp 50) (Operand.tmp 52), type := 0, pos := "law.go:60", after := #[{ on := 15, ground := Ground.data }, { on := 17, ground := Ground.data }, { on := 10, ground := Ground.guard }], guard := some (10, true) }) (v := undef) rfl (by kernel_rfl) (by kernel_rfl) (by kernel_rfl) (fun _ _ _ h => h) (Or.inr ⟨by rfl, rfl⟩) hHeld4 ?_
        simp only [Act.put, List.setIfInBounds_toArray, List.set_cons_zero, List.set_cons_succ]
        refine wpAnyH_take (i := 19) (oi := { dst := some 54, op := Op.load 3 (Operand.tmp 53), type := 3, pos := "law.go:60", after := #[{ on := 18, ground := Ground.data }, { on := 10, ground := Ground.guard }], guard := some (10, true) }) (v := undef) rfl (by kernel_rfl) (by kernel_rfl) (by kernel_rfl) (fun _ _ _ h => h) (Or.inr ⟨by rfl, rfl⟩) hHeld4 ?_
        simp only [Act.put, List.setIfInBounds_toArray, List.set_cons_zero, List.set_cons_succ]
        refine wpAnyH_take (i := 20) (oi := { dst := some 55, op := Op.binOp BinOp.leq 3 (Operand.tmp 49) (Operand.tmp 54) 3, type := 4, pos := "law.go:60", after := #[{ on := 14, ground := Ground.data }, { on := 19, ground := Ground.data }, { on := 10, ground := Ground.guard }], guard := some (10, true) }) (v := undef) rfl (by kernel_rfl) (by kernel_rfl) (by kernel_rfl) (fun _ _ _ h => h) (Or.inr ⟨by rfl, rfl⟩) hHeld4 ?_
        simp only [Act.put, List.setIfInBounds_toArray, List.set_cons_zero, List.set_cons_succ]
        refine wpAnyH_take (i := 21) (oi := { dst := some 56, op := Op.pick (Operand.tmp 45) (Operand.tmp 55) (Operand.const (Value.bool false)), type := 4, pos := "law.go:60", after := #[{ on := 10, ground := Ground.data }, { on := 20, ground := Ground.data }, { on := 7, ground := Ground.guard }], guard := some (7, false) }) (v := ?_) rfl (by kernel_rfl) (by kernel_rfl) (by kernel_rfl) (fun _ _ _ h => h) (Or.inl ⟨by rfl, ?_⟩) hHeld4 ?_
        rotate_left
        · intro w0 hSw
          try dsimp only at hSw
          first
            | (go_simp; done)
            | (go_simp; with_reducible rfl)
        simp only [Act.put, List.setIfInBounds_toArray, List.set_cons_zero, List.set_cons_succ]
        refine wpAnyH_take (i := 22) (oi := { dst := some 57, op := Op.pick (Operand.tmp 42) (Operand.const (Value.bool true)) (Operand.tmp 56), type := 4, pos := "law.go:60", after := #[{ on := 7, ground := Ground.data }, { on := 21, ground := Ground.data }], guard := none }) (v := ?_) rfl (by kernel_rfl) (by kernel_rfl) (by kernel_rfl) (fun _ _ _ h => h) (Or.inl ⟨by rfl, ?_⟩) hHeld4 ?_
        rotate_left
        · intro w0 hSw
          try dsimp only at hSw
          first
            | (go_simp; done)
            | (go_simp; with_reducible rfl)
        simp only [Act.put, List.setIfInBounds_toArray, List.set_cons_zero, List.set_cons_succ]
        refine wpAnyH_done (by kernel_rfl) ?_ _
        refine NoPanic.normal ?_
        have B4 := Lib.hid (over5 (below_drewN HB.out 1) b4)
        clear b4
        go_wp2_with fail
        go_roundw
        case rel => exact ⟨1, by omega, by go_num, B4⟩
        case measure => simp [intOf]; omega
      · obtain ⟨j, hj⟩ : ∃ j, k = j + 1 := ⟨k - 1, by omega⟩
        have hjl : j < R.length := by omega
        obtain ⟨g', hgg, _, hcz⟩ := HE3.out j hjl
        have hgg : g' = g := by injection hgg with e; injection e with e _ _; exact e.symm
        subst hgg
        have hup := HSP.out.up j (by omega)
        obtain ⟨z, hz⟩ : ∃ z, R.getD j 0 = z := ⟨_, rfl⟩
        rw [← hj, hy, hz] at hup
        have hcz2 := (HB.out.cell (p := ⟨g', j, none⟩) hg).trans hcz
        rw [hz] at hcz2
        have hzD : wr.drew.cell? ⟨g', j, none⟩ = some (.int .i64 (z : Int)) := hcz2
        have hsb2 : (k : Int) - 1 = (j : Int) := by omega
        have hsb : IntKind.i64.wrap ((k : Int) - 1) = (j : Int) := by rw [hsb2]; exact IntWalk.i64_in _ (by omega)
        have hsb3 : IntKind.i64.wrap (j : Int) = (j : Int) := IntWalk.i64_in _ (by omega)
        have i1 : (0 : Int) ≤ (k : Int) := by omega
        have i2 : (k : Int) < (m : Int) := by omega
        have i3 : (0 : Int) ≤ (j : Int) := by omega
        have i4 : (j : Int) < (m : Int) := by omega
        have i5 : (0 : Int) < (k : Int) := by omega
        have i6 : decide ((0 : Int) < (k : Int)) = true := decide_eq_true i5
        have i8 : decide (0 < k) = true := decide_eq_true (by omega)
        have i9 : decide (y ≤ z) = false := decide_eq_false (by omega)
        have i7 : decide ((y : Int) ≤ (z : Int)) = false := decide_eq_false (by omega)
        clear hcx hcx2 hxw hy hkl hjl hcz hcz2 hz hj
        go_wp2_with fail
        go_region_held3 (fun w' => w'.cell? ⟨g', k, none⟩ = some (.int .i64 (y : Int)) ∧ w'.cell? ⟨g', j, none⟩ = some (.int .i64 (z : Int)))
          (first
            | (go_split_ands; refine ⟨?_, ?_⟩ <;> ((with_reducible refine Below.keepc b4 ?_); assumption))
            | go_keep)
          (first
            | (go_at_call 18; (with_reducible refine (HWY.out _).mono ?_); rintro e w4 ⟨rfl, b4⟩))
        all_goals
          have B4 := Lib.hid (over5 (below_drewN HB.out 1) b4)
          clear b4 i1 i2 i3 i4 i5 i6 i7 i8 i9 hsb hsb2 hsb3 hup
          go_wp2_with fail
          go_roundw
          case rel => exact ⟨k + 1, by omega, by go_num, B4⟩
          case measure => simp [intOf]; omega
    · have hk' : k = m := by omega
      subst hk'
      have T4 := T3.out.over HB.out
      have HAW := Lib.hid (awake_n _ T4)
      rcases HERR.out with ⟨rfl, hs⟩ | ⟨rfl, hs⟩
      · go_wp2_with fail
        refine (HZ.out _).mono ?_
        rintro e w' ⟨rfl, rfl⟩
        go_wp2_with fail
        refine HAW.out.mono ?_
        rintro e w5 ⟨rfl, b5⟩
        have B5 := over5 (over5 B3.out HB.out) b5
        go_wp2_with fail
        go_ret
        exact ⟨rfl, B5⟩
      · go_wp2_with fail
        refine (HZ.out _).mono ?_
        rintro e w' ⟨rfl, rfl⟩
        go_wp2_with fail
        refine HAW.out.mono ?_
        rintro e w5 ⟨rfl, b5⟩
        have B5 := over5 (over5 B3.out HB.out) b5
        go_wp2_with fail
        go_ret
        exact ⟨ret_bool (by simp; omega), B5⟩

end Go.Proofs.YtpcdpljkgnpkoaaDoor.S

