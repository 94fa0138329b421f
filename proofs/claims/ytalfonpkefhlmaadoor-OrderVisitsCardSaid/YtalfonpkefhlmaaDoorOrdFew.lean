/-
  DERIVED. The walk of the laws' Few.
-/
import Derived.Test.YtalfonpkefhlmaaDoorRefOrd4
namespace Go.Proofs.YtalfonpkefhlmaaDoor.T
open Go.RowKit
set_option maxRecDepth 8000

def inM (x : Int) : Bool := decide (-1048576 ≤ x) && decide (x ≤ 1048576)
def okO (o : OrT) : Bool := decide (o.load.length ≤ 6) && decide (o.name.size ≤ 40) && o.load.all inM
def fewO (l : List OrT) : Bool := decide (l.length ≤ 14) && l.all okO
theorem few_spec {l : List OrT} (h : fewO l = true) : l.length ≤ 14 ∧ ∀ i, i < l.length → (l.getD i or0).load.length ≤ 6 ∧ (l.getD i or0).name.size ≤ 40 ∧ ∀ x ∈ (l.getD i or0).load, -1048576 ≤ x ∧ x ≤ 1048576 := by
  unfold fewO at h
  rw [Bool.and_eq_true, decide_eq_true_iff] at h
  refine ⟨h.1, fun i hi => ?_⟩
  have := List.all_eq_true.1 h.2 _ (getD_mem (d := or0) hi)
  unfold okO at this
  rw [Bool.and_eq_true, Bool.and_eq_true, decide_eq_true_iff, decide_eq_true_iff] at this
  refine ⟨this.1.1, this.1.2, fun x hx => ?_⟩
  have h2 := List.all_eq_true.1 this.2 x hx
  unfold inM at h2
  rw [Bool.and_eq_true, decide_eq_true_iff, decide_eq_true_iff] at h2
  exact h2
theorem alln_step {l : List OrT} {k : Nat} (h : k < l.length) : (l.take (k + 1)).all okO = ((l.take k).all okO && okO (l.getD k or0)) := by
  rw [take_more (d := or0) h, List.all_append]
  simp
theorem alln_no {l : List OrT} {k : Nat} (h : k < l.length) (hp : okO (l.getD k or0) = false) : l.all okO = false := by
  rw [List.all_eq_false]
  exact ⟨l.getD k or0, getD_mem h, by rw [hp]; simp⟩
theorem alli_step {l : List Int} {k : Nat} (h : k < l.length) : (l.take (k + 1)).all inM = ((l.take k).all inM && inM (l.getD k 0)) := by
  rw [take_more (d := 0) h, List.all_append]
  simp
theorem alli_no {l : List Int} {k : Nat} (h : k < l.length) (hp : inM (l.getD k 0) = false) : l.all inM = false := by
  rw [List.all_eq_false]
  exact ⟨l.getD k 0, getD_mem h, by rw [hp]; simp⟩

set_option maxHeartbeats 6400000 in
theorem fewO_n (v : Value) (l : List OrT) (hl : l.length ≤ 9223372036854775807) (hz : ∀ i, i < l.length → (l.getD i or0).load.length ≤ 9223372036854775807 ∧ (l.getD i or0).name.size ≤ 9223372036854775807) (w : World) (hv : Os w v l) :
    Calls Tryd.prog 6 #[v] w fun e w' => e = .returned (.bool (fewO l)) ∧ w = w' := by
  obtain ⟨oa, c, rfl, ha⟩ := hv
  by_cases h14 : l.length ≤ 14
  · have HA := Lib.hid ha
    have HZ := Lib.hid hz
    have HF : Hid (l.all okO = fewO l) := by show _ = _; unfold fewO; rw [decide_eq_true h14, Bool.true_and]
    have HS := Lib.hid (fun k (h : k < l.length) => alln_step h)
    have HNo := Lib.hid (fun k (h : k < l.length) (hp : okO (l.getD k or0) = false) => alln_no h hp)
    have HEn : Hid ((l.take l.length).all okO = l.all okO) := by show _ = _; rw [List.take_length]
    have HZ0 : Hid ((l.take 0).all okO = true) := rfl
    have h14I : ¬ (14 : Int) < (l.length : Int) := by omega
    generalize fewO l = r at *
    generalize hn : l.length = n at *
    clear ha hn hz
    go_enter Tryd.func6, Tryd.ntmps6
    go_wp2_with fail
    go_loopw [3] (fun j wr => ∃ k : Nat, k ≤ n ∧ j = .int .i64 k ∧ Hid ((l.take k).all okO = true) ∧ w = wr) (fun j _ => n - (intOf j).toNat)
    case atStart => exact ⟨0, Nat.zero_le _, rfl, HZ0, rfl⟩
    case round =>
      obtain ⟨k, hk, rfl, HK, rfl⟩ := hrel
      by_cases hlt : k < n
      · have hkI : (k : Int) < (n : Int) := by omega
        obtain ⟨b, o, vc, rfl, hab, ⟨h0, h1, -⟩, hcp⟩ := HA.out k hlt
        obtain ⟨oc, cc, rfl, hcl⟩ := hcp
        obtain ⟨z1, z2⟩ := HZ.out k hlt
        have HSk := Lib.hid (HS.out k hlt)
        have HNk := Lib.hid (HNo.out k hlt)
        have HO : Hid ((decide ((l.getD k or0).load.length ≤ 6) && decide ((l.getD k or0).name.size ≤ 40) && (l.getD k or0).load.all inM) = okO (l.getD k or0)) := rfl
        have HCL := Lib.hid hcl
        generalize okO (l.getD k or0) = f at *
        generalize (l.getD k or0).name = nm at *
        generalize (l.getD k or0).load = ld at *
        clear hcl
        by_cases h6 : ld.length ≤ 6
        · have h6I : ¬ (6 : Int) < (ld.length : Int) := by omega
          by_cases h40 : nm.size ≤ 40
          · have h40I : ¬ (40 : Int) < (nm.size : Int) := by omega
            have HO2 : Hid (ld.all inM = f) := by show _ = _; rw [← HO.out, decide_eq_true h6, decide_eq_true h40]; rfl
            have HIS := Lib.hid (fun j (h : j < ld.length) => alli_step h)
            have HIN := Lib.hid (fun j (h : j < ld.length) (hp : inM (ld.getD j 0) = false) => alli_no h hp)
            have HIE : Hid ((ld.take ld.length).all inM = ld.all inM) := by show _ = _; rw [List.take_length]
            have HI0 : Hid ((ld.take 0).all inM = true) := rfl
            generalize hq : ld.length = q at *
            clear HO hq
            go_wp2_with fail
            go_loopg [4] q (fun g j wr => ∃ m : Nat, m ≤ q ∧ j = .int .i64 m ∧ q - m ≤ g ∧ Hid ((ld.take m).all inM = true) ∧ w = wr)
            case atStart => exact ⟨0, Nat.zero_le _, rfl, Nat.le_refl _, HI0, rfl⟩
            case round =>
              obtain ⟨m, hm, rfl, hg, HM, rfl⟩ := hrel
              by_cases hmq : m < q
              · have hmI : (m : Int) < (q : Int) := by omega
                obtain ⟨a1, rfl, -, x1⟩ := HCL.out m hmq
                have HIm := Lib.hid (HIS.out m hmq)
                have HNm := Lib.hid (HIN.out m hmq)
                have HIX : Hid ((decide (-1048576 ≤ ld.getD m 0) && decide (ld.getD m 0 ≤ 1048576)) = inM (ld.getD m 0)) := rfl
                generalize inM (ld.getD m 0) = p at *
                generalize ld.getD m 0 = x at *
                by_cases p1 : x < -1048576
                · have HR : Hid (false = r) := by show _ = _; rw [← HF.out, HNk.out (by rw [← HO2.out, HNm.out (by rw [← HIX.out, decide_eq_false (by omega)]; rfl)])]
                  clear HIX HIm HNm
                  go_wp2_with fail
                  go_ret
                  exact ⟨ret_bool HR.out, rfl⟩
                · by_cases p2 : 1048576 < x
                  · have HR : Hid (false = r) := by show _ = _; rw [← HF.out, HNk.out (by rw [← HO2.out, HNm.out (by rw [← HIX.out, decide_eq_false (show ¬ x ≤ 1048576 by omega), Bool.and_false])])]
                    clear HIX HIm HNm
                    go_wp2_with fail
                    go_ret
                    exact ⟨ret_bool HR.out, rfl⟩
                  · have HM2 : Hid ((ld.take (m + 1)).all inM = true) := by show _ = _; rw [HIm.out, HM.out, ← HIX.out, decide_eq_true (by omega), decide_eq_true (by omega)]; rfl
                    clear HIX HIm HNm
                    go_wp2_with fail
                    go_roundg (q - (m + 1))
                    case measure => omega
                    case rel => exact ⟨m + 1, by omega, by go_num, by omega, HM2, by first | trivial | rfl⟩
              · have hme : m = q := by omega
                subst hme
                have HX : Hid ((l.take (k + 1)).all okO = true) := by show _ = _; rw [HSk.out, HK.out, ← HO2.out, ← HIE.out, HM.out]; rfl
                have hmI : ¬ (m : Int) < (m : Int) := by omega
                go_wp2_with fail
                go_roundw
                case rel => exact ⟨k + 1, by omega, by go_num, HX, by first | trivial | rfl⟩
                case measure => simp [intOf] <;> omega
          · have h40I : (40 : Int) < (nm.size : Int) := by omega
            have HR : Hid (false = r) := by show _ = _; rw [← HF.out, HNk.out (by rw [← HO.out, decide_eq_false h40, Bool.and_false, Bool.false_and])]
            generalize ld.length = q at *
            clear HO
            go_wp2_with fail
            go_ret
            exact ⟨ret_bool HR.out, rfl⟩
        · have h6I : (6 : Int) < (ld.length : Int) := by omega
          have HR : Hid (false = r) := by show _ = _; rw [← HF.out, HNk.out (by rw [← HO.out, decide_eq_false h6, Bool.false_and, Bool.false_and])]
          generalize ld.length = q at *
          clear HO
          go_wp2_with fail
          go_ret
          exact ⟨ret_bool HR.out, rfl⟩
      · have hk' : k = n := by omega
        subst hk'
        have HR : Hid (true = r) := by show _ = _; rw [← HF.out, ← HEn.out, HK.out]
        have hkI : ¬ (k : Int) < (k : Int) := by omega
        go_wp2_with fail
        go_ret
        exact ⟨ret_bool HR.out, rfl⟩
  · have h14I : (14 : Int) < (l.length : Int) := by omega
    have HR : Hid (false = fewO l) := by show _ = _; unfold fewO; rw [decide_eq_false h14, Bool.false_and]
    generalize fewO l = r at *
    generalize l.length = n at *
    clear ha hz
    go_enter Tryd.func6, Tryd.ntmps6
    go_wp2_with fail
    go_ret
    exact ⟨ret_bool HR.out, rfl⟩

end Go.Proofs.YtalfonpkefhlmaaDoor.T

