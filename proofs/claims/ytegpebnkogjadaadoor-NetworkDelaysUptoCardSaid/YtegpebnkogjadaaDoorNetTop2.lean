/-
  DERIVED. The walks of network's firstArc, arrival, nextPlace.
-/
import Derived.Test.YtegpebnkogjadaaDoorNetFirst2
import Derived.Test.YtegpebnkogjadaaDoorTravTop4
namespace Go.Proofs.YtegpebnkogjadaaDoor.T
open Go.RowKit
set_option maxRecDepth 8000

def ixI : Option Nat → Int
  | some i => i
  | none => -1
theorem ix_next {l : List ArcT} {k : Nat} (hk : k < l.length) (p f t : Int) : ixA l k p f t = if hitB p f t (l.getD k arc0) then some k else ixA l (k + 1) p f t := by
  unfold ixA
  rw [show l.drop k = l.getD k arc0 :: l.drop (k + 1) from drop_more (d := arc0) hk]
  rfl
/-- block n holds a way -/
def Wb (w : World) (n : Nat) (p f t : Int) : Prop := w.heap[n]? = some (.cells #[.int .i64 p, .int .i64 f, .int .i64 t] 59)
section
variable {w w' : World} {n : Nat} {p f t : Int}
theorem Wb.c0 (h : Wb w n p f t) : w.cell? ⟨n, 0, none⟩ = some (.int .i64 p) := by unfold Wb at h; simp [World.cell?, h]
theorem Wb.c1 (h : Wb w n p f t) : w.cell? ⟨n, 1, none⟩ = some (.int .i64 f) := by unfold Wb at h; simp [World.cell?, h]
theorem Wb.c2 (h : Wb w n p f t) : w.cell? ⟨n, 2, none⟩ = some (.int .i64 t) := by unfold Wb at h; simp [World.cell?, h]
theorem Wb.lt (h : Wb w n p f t) : n < w.heap.size := by
  apply Decidable.byContradiction
  intro hc
  unfold Wb at h
  rw [Array.getElem?_eq_none (by omega)] at h; cases h
theorem Wb.below (h : Wb w n p f t) (hb : Below w.heap.size w w') : Wb w' n p f t := (hb.block n h.lt).trans h
theorem Wb.made (w : World) (p f t : Int) : Wb (w.alloc (.cells #[.int .i64 p, .int .i64 f, .int .i64 t] 59)) w.heap.size p f t := by
  show (w.heap.push _)[w.heap.size]? = _
  simp
end

set_option maxHeartbeats 3200000 in
theorem firstArc_n (va : Value) (l : List ArcT) (p f t : Int) (hl : l.length ≤ 1000000000) (w : World) (ha : As w va l) :
    Calls Tryd.prog 32 #[va, .agg #[.int .i64 p, .int .i64 f, .int .i64 t]] w fun e w' => e = .returned (.int .i64 (ixI (ixA l 0 p f t))) ∧ Below w.heap.size w w' := by
  have HST := Lib.hid (fun k (hk : k < l.length) => ix_next hk p f t)
  have HZ := Lib.hid (ixA_end l p f t)
  have HE : Hid (ixA l 0 p f t = ixA l 0 p f t) := rfl
  generalize hr : ixA l 0 p f t = r at HE ⊢
  clear HE
  have HE := Lib.hid hr
  clear hr
  obtain ⟨oa, c, rfl, ha⟩ := ha
  have HA := Lib.hid ha
  clear ha
  generalize hn : l.length = n at *
  obtain ⟨W0, hW0⟩ : ∃ W0, w.alloc (.cells #[.int .i64 p, .int .i64 f, .int .i64 t] 59) = W0 := ⟨_, rfl⟩
  have B0 := Lib.hid (below_alloc w (.cells #[.int .i64 p, .int .i64 f, .int .i64 t] 59))
  have V0 := Lib.hid (Wb.made w p f t)
  rw [hW0] at B0 V0
  go_enter Tryd.func32, Tryd.ntmps32
  go_wp2_with fail
  clear hW0
  go_loopw [8] (fun i wr => ∃ k : Nat, k ≤ n ∧ i = .int .i64 k ∧ Hid (ixA l k p f t = r) ∧ Hid (Wb wr w.heap.size p f t) ∧ Hid (Below w.heap.size w wr)) (fun i _ => n - (intOf i).toNat)
  case atStart => exact ⟨0, Nat.zero_le _, rfl, HE, V0, B0⟩
  case round =>
    clear HE V0 B0
    obtain ⟨k, hk, rfl, HI, HV, HW⟩ := hrel
    by_cases hlt : k < n
    · obtain ⟨b, o, vt, vs, rfl, hab, ⟨h0, h1, h2, h3, h4, h5⟩, hpt, hps⟩ := HA.out k hlt
      have hst := HST.out k hlt
      have d0 := (HW.out.cell (p := ⟨b, _, none⟩) hab).trans h0
      have d1 := (HW.out.cell (p := ⟨b, _, none⟩) hab).trans h1
      have d2 := (HW.out.cell (p := ⟨b, _, none⟩) hab).trans h2
      have d3 := (HW.out.cell (p := ⟨b, _, none⟩) hab).trans h3
      have d4 := (HW.out.cell (p := ⟨b, _, none⟩) hab).trans h4
      have d5 := (HW.out.cell (p := ⟨b, _, none⟩) hab).trans h5
      clear h0 h1 h2 h3 h4 h5
      obtain ⟨ot, ct, hvt, -⟩ := hpt
      obtain ⟨os, cs, hvs, -⟩ := hps
      subst hvt
      subst hvs
      generalize l.getD k arc0 = a at *
      obtain ⟨fr, dt, prof, miles, tr, sl⟩ := a
      simp only at d0 d1 d2 d3 d4 d5 hst
      have g0 := HV.out.c0
      have g1 := HV.out.c1
      have g2 := HV.out.c2
      have hkI : (k : Int) < (n : Int) := by omega
      have hk0 : (0 : Int) ≤ (k : Int) := by omega
      have HVd : Hid (Wb wr.drew w.heap.size p f t) := HV.out
      have HWd := Lib.hid (below_drew HW.out)
      by_cases hh : fr = f ∧ dt = t ∧ prof = p
      · obtain ⟨rfl, rfl, rfl⟩ := hh
        have HX : Hid (some k = r) := by show _ = _; rw [← HI.out, hst, (hit_yes rfl rfl rfl : hitB prof fr dt ⟨fr, dt, prof, miles, tr, sl⟩ = true)]; rfl
        clear hst HI
        go_wp2_with fail
        go_region_with (go_at_call 47; refine (wayOf_n _ _ _ _ _ _ _).mono ?_; rintro e w5 ⟨rfl, b5⟩; have V5 := HVd.out.below b5; have e0 := V5.c0; have e1 := V5.c1; have e2 := V5.c2; have B5 := over HWd.out b5)
        all_goals
          go_wp2_with fail
          go_ret
          exact ⟨by rw [← HX.out]; rfl, by first | exact B5 | exact below_drew B5⟩
      · have hno : hitB p f t ⟨fr, dt, prof, miles, tr, sl⟩ = false := hit_no (by
          by_cases e1 : fr = f
          · by_cases e2 : dt = t
            · exact .inr (.inr fun e3 => hh ⟨e1, e2, e3⟩)
            · exact .inr (.inl e2)
          · exact .inl e1)
        rw [hno] at hst
        have HI2 : Hid (ixA l (k + 1) p f t = r) := by show _ = _; rw [← HI.out, hst]; rfl
        clear hst HI hno
        have key : (prof == p && (fr == f && dt == t)) = false := by
          cases hc : (prof == p && (fr == f && dt == t))
          · rfl
          · simp only [Bool.and_eq_true, beq_iff_eq] at hc
            exact absurd ⟨hc.2.1, hc.2.2, hc.1⟩ hh
        have key2 : ¬ (prof = p ∧ fr = f ∧ dt = t) := fun h => hh ⟨h.2.1, h.2.2, h.1⟩
        by_cases e1 : prof = p
        · subst e1
          by_cases e2 : fr = f
          · subst e2
            have e3 := ne_eqI (fun e3 => hh ⟨rfl, e3, rfl⟩ : dt ≠ t)
            clear hh key key2
            go_wp2_with fail
            go_region_with (go_at_call 47; refine (wayOf_n _ _ _ _ _ _ _).mono ?_; rintro e w5 ⟨rfl, b5⟩; have V5 := HVd.out.below b5; have e0 := V5.c0; have e1 := V5.c1; have e2 := V5.c2; have B5 := over HWd.out b5)
            all_goals
              have HV5 := Lib.hid V5
              have HB5 := Lib.hid B5
              clear V5 B5
              go_wp2_with fail
              go_roundw
              case rel => exact ⟨k + 1, by omega, by go_num, HI2, by first | exact HV5 | exact HV5.out, by first | exact HB5 | exact below_drew HB5.out⟩
              case measure => simp [intOf]; omega
          · have e3 := ne_eqI e2
            clear hh key key2 e2
            go_wp2_with fail
            go_region_with (go_at_call 47; refine (wayOf_n _ _ _ _ _ _ _).mono ?_; rintro e w5 ⟨rfl, b5⟩; have V5 := HVd.out.below b5; have e0 := V5.c0; have e1 := V5.c1; have e2 := V5.c2; have B5 := over HWd.out b5)
            all_goals
              have HV5 := Lib.hid V5
              have HB5 := Lib.hid B5
              clear V5 B5
              go_wp2_with fail
              go_roundw
              case rel => exact ⟨k + 1, by omega, by go_num, HI2, by first | exact HV5 | exact HV5.out, by first | exact HB5 | exact below_drew HB5.out⟩
              case measure => simp [intOf]; omega
        · have e3 := ne_eqI e1
          clear hh key key2 e1
          go_wp2_with fail
          go_region_with (go_at_call 47; refine (wayOf_n _ _ _ _ _ _ _).mono ?_; rintro e w5 ⟨rfl, b5⟩; have V5 := HVd.out.below b5; have e0 := V5.c0; have e1 := V5.c1; have e2 := V5.c2; have B5 := over HWd.out b5)
          all_goals
            have HV5 := Lib.hid V5
            have HB5 := Lib.hid B5
            clear V5 B5
            go_wp2_with fail
            go_roundw
            case rel => exact ⟨k + 1, by omega, by go_num, HI2, by first | exact HV5 | exact HV5.out, by first | exact HB5 | exact below_drew HB5.out⟩
            case measure => simp [intOf]; omega
    · have hk' : k = n := by omega
      subst hk'
      have HX : Hid (none = r) := by show _ = _; rw [← HI.out, HZ.out]
      go_wp2_with fail
      go_ret
      exact ⟨by rw [← HX.out]; rfl, HW.out⟩

end Go.Proofs.YtegpebnkogjadaaDoor.T

