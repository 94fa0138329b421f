/-
  DERIVED. The walks of the laws' few, faults and van.
-/
import Derived.Test.YthihahehmnpenaaDoorFlTop6
import Derived.Test.YthihahehmnpenaaDoorRefFl5
namespace Go.Proofs.YthihahehmnpenaaDoor.T
open Go.RowKit
set_option maxRecDepth 8000

/-! ### few -/
def fwB (t : TyT) : Bool := decide (t.cap.length ≤ 6) && decide (t.name.size ≤ 40)
def fewB (l : List TyT) : Bool := (l.take 11).all fwB && decide (l.length ≤ 10)
theorem few_step {l : List TyT} {k : Nat} (h : k < l.length) : (l.take (k + 1)).all fwB = ((l.take k).all fwB && fwB (l.getD k ty0)) := by
  rw [take_more (d := ty0) h, List.all_append]
  simp
theorem few_no {l : List TyT} {k : Nat} (h : k < l.length) (h11 : k < 11) (hp : fwB (l.getD k ty0) = false) : fewB l = false := by
  unfold fewB
  rw [Bool.and_eq_false_iff]
  left
  rw [List.all_eq_false]
  refine ⟨l.getD k ty0, ?_, by rw [hp]; simp⟩
  rw [List.getD_eq_getElem?_getD, List.getElem?_eq_getElem h]
  exact List.mem_take_iff_getElem.2 ⟨k, by omega, rfl⟩
theorem few_end {l : List TyT} {k : Nat} (hk : k ≤ l.length) (h : ¬ (k < l.length ∧ k < 11)) (hp : (l.take k).all fwB = true) (h11 : k ≤ 11) : fewB l = decide (l.length ≤ 10) := by
  unfold fewB
  have : l.take 11 = l.take k := by
    by_cases e : k = 11
    · rw [e]
    · have : k = l.length := by omega
      rw [this, List.take_length, List.take_of_length_le (by omega)]
  rw [this, hp, Bool.true_and]
theorem few_spec {l : List TyT} (h : fewB l = true) : l.length ≤ 10 ∧ ∀ i, i < l.length → (l.getD i ty0).cap.length ≤ 6 ∧ (l.getD i ty0).name.size ≤ 40 := by
  unfold fewB at h
  rw [Bool.and_eq_true, decide_eq_true_iff] at h
  refine ⟨h.2, fun i hi => ?_⟩
  have h1 := h.1
  rw [List.take_of_length_le (by omega)] at h1
  have := List.all_eq_true.1 h1 _ (getD_mem (d := ty0) hi)
  unfold fwB at this
  rw [Bool.and_eq_true, decide_eq_true_iff, decide_eq_true_iff] at this
  exact this

set_option maxHeartbeats 3200000 in
theorem few_n (v : Value) (l : List TyT) (hl : l.length ≤ 9223372036854775807) (hz : ∀ i, i < l.length → (l.getD i ty0).cap.length ≤ 9223372036854775807 ∧ (l.getD i ty0).name.size ≤ 9223372036854775807) (w : World) (hv : Ts w v l) :
    Calls Tryd.prog 8 #[v] w fun e w' => e = .returned (.bool (fewB l)) ∧ w = w' := by
  obtain ⟨oa, c, rfl, ha⟩ := hv
  have HA := Lib.hid ha
  have HZ := Lib.hid hz
  have HS := Lib.hid (fun k (h : k < l.length) => few_step h)
  have HNo := Lib.hid (fun k (h : k < l.length) (h11 : k < 11) (hp : fwB (l.getD k ty0) = false) => few_no h h11 hp)
  have HEn := Lib.hid (fun k (hk : k ≤ l.length) (h : ¬ (k < l.length ∧ k < 11)) (hp : (l.take k).all fwB = true) (h11 : k ≤ 11) => few_end hk h hp h11)
  have HZ0 : Hid ((l.take 0).all fwB = true) := rfl
  generalize fewB l = r at *
  generalize hn : l.length = n at *
  clear ha hn hz
  go_enter Tryd.func8, Tryd.ntmps8
  go_wp2_with fail
  go_loopw [3] (fun j wr => ∃ k : Nat, k ≤ n ∧ k ≤ 11 ∧ j = .int .i64 k ∧ Hid ((l.take k).all fwB = true) ∧ w = wr) (fun j _ => 11 - (intOf j).toNat)
  case atStart => exact ⟨0, Nat.zero_le _, Nat.zero_le _, rfl, HZ0, rfl⟩
  case round =>
    obtain ⟨k, hk, hk11, rfl, HK, rfl⟩ := hrel
    by_cases hlt : k < n
    · have hkI : (k : Int) < (n : Int) := by omega
      by_cases h11 : k < 11
      · have hkJ : (k : Int) < 11 := by omega
        obtain ⟨b, o, vc, rfl, hab, ⟨h0, -, -, -, h4, -⟩, hcp⟩ := HA.out k hlt
        obtain ⟨oc, cc, rfl, -⟩ := hcp
        obtain ⟨z1, z2⟩ := HZ.out k hlt
        have HSk := Lib.hid (HS.out k hlt)
        have HNk := Lib.hid (HNo.out k hlt h11)
        have HF : Hid ((decide ((l.getD k ty0).cap.length ≤ 6) && decide ((l.getD k ty0).name.size ≤ 40)) = fwB (l.getD k ty0)) := rfl
        generalize fwB (l.getD k ty0) = f at *
        generalize (l.getD k ty0).cap.length = q at *
        generalize (l.getD k ty0).name = nm at *
        by_cases h6 : q ≤ 6
        · have h6I : ¬ (6 : Int) < (q : Int) := by omega
          by_cases h40 : nm.size ≤ 40
          · have h40I : ¬ (40 : Int) < (nm.size : Int) := by omega
            have HX : Hid ((l.take (k + 1)).all fwB = true) := by show _ = _; rw [HSk.out, HK.out, ← HF.out, decide_eq_true h6, decide_eq_true h40]; rfl
            clear HSk HNk HF
            go_wp2_with fail
            go_roundw
            case rel => exact ⟨k + 1, by omega, by omega, by go_num, HX, by first | trivial | rfl⟩
            case measure => simp [intOf] <;> omega
          · have h40I : (40 : Int) < (nm.size : Int) := by omega
            have HR : Hid (false = r) := by show _ = _; rw [HNk.out (by rw [← HF.out, decide_eq_false h40, Bool.and_false])]
            clear HSk HNk HF
            go_wp2_with fail
            go_ret
            exact ⟨ret_bool HR.out, rfl⟩
        · have h6I : (6 : Int) < (q : Int) := by omega
          have HR : Hid (false = r) := by show _ = _; rw [HNk.out (by rw [← HF.out, decide_eq_false h6, Bool.false_and])]
          clear HSk HNk HF
          go_wp2_with fail
          go_ret
          exact ⟨ret_bool HR.out, rfl⟩
      · have hkJ : ¬ (k : Int) < 11 := by omega
        have HR := Lib.hid (HEn.out k hk (fun h => h11 h.2) HK.out hk11)
        have hn10 : ¬ n ≤ 10 := by omega
        have hnI : ¬ (n : Int) ≤ 10 := by omega
        go_wp2_with fail
        go_ret
        exact ⟨ret_bool (by rw [HR.out, decide_eq_false hn10]), rfl⟩
    · have hkI : ¬ (k : Int) < (n : Int) := by omega
      have HR := Lib.hid (HEn.out k hk (fun h => hlt h.1) HK.out hk11)
      by_cases hn10 : n ≤ 10
      · have hnI : (n : Int) ≤ 10 := by omega
        go_wp2_with fail
        go_ret
        exact ⟨ret_bool (by rw [HR.out, decide_eq_true hn10]), rfl⟩
      · have hnI : ¬ (n : Int) ≤ 10 := by omega
        go_wp2_with fail
        go_ret
        exact ⟨ret_bool (by rw [HR.out, decide_eq_false hn10]), rfl⟩

/-! ### faults, where both sides are equal -/
theorem faults_n (u v : Value) (a : List (Int × ByteArray)) (hl : a.length ≤ 1000000000) (w : World) (hu : Fs w u a) (hv : Fs w v a) :
    Calls Tryd.prog 9 #[u, v] w fun e w' => e = .returned (.bool true) ∧ Below w.heap.size w w' := by
  obtain ⟨oa, ca, rfl, ha⟩ := hu
  obtain ⟨ob, cb, rfl, hb⟩ := hv
  have HA := Lib.hid ha
  have HB := Lib.hid hb
  generalize a.length = n at *
  have hne : ((n : Int) != (n : Int)) = false := by simp
  clear ha hb
  go_enter Tryd.func9, Tryd.ntmps9
  go_wp2_with fail
  go_loopw [5] (fun i wr => ∃ k : Nat, k ≤ n ∧ i = .int .i64 k ∧ Hid (Below w.heap.size w wr)) (fun i _ => n - (intOf i).toNat)
  case atStart => exact ⟨0, Nat.zero_le _, rfl, Below.refl _ _⟩
  case round =>
    obtain ⟨k, hk, rfl, HW⟩ := hrel
    by_cases hlt : k < n
    · obtain ⟨b1, o1, rfl, hab, hc0, hc1⟩ := HA.out k hlt
      obtain ⟨b2, o2, rfl, hbb, he0, he1⟩ := HB.out k hlt
      have d0 := (HW.out.cell (p := ⟨b1, o1 + k * 2, none⟩) hab).trans hc0
      have d1 := (HW.out.cell (p := ⟨b1, o1 + k * 2 + 1, none⟩) hab).trans hc1
      have d2 := (HW.out.cell (p := ⟨b2, o2 + k * 2, none⟩) hbb).trans he0
      have d3 := (HW.out.cell (p := ⟨b2, o2 + k * 2 + 1, none⟩) hbb).trans he1
      unfold fE at d0 d2
      unfold fA at d1 d3
      clear hc0 hc1 he0 he1
      have hkI : (k : Int) < (n : Int) := by omega
      generalize a.getD k (0, ⟨#[]⟩) = p at *
      obtain ⟨x, y⟩ := p
      simp only at d0 d1 d2 d3
      go_wp2_with fail
      go_quiet (fail)
      go_wp2_with fail
      go_roundw
      case rel => exact ⟨k + 1, by omega, by go_num, below_drewN HW.out _⟩
      case measure => simp [intOf]; omega
    · have hk' : k = n := by omega
      subst hk'
      go_wp2_with fail
      go_ret
      exact ⟨rfl, HW.out⟩

/-! ### van -/
def vanT : TyT := ⟨⟨#[118, 97, 110]⟩, 0, 0, 0, [5], 5, 0, 0, 100, 50, 0, 0, 0, 0⟩
def VanP (w : World) (e : Ending) (w' : World) : Prop := ∃ g, e = .returned (.agg #[.string ⟨#[118, 97, 110]⟩, .int .i64 0, .int .i64 0, .int .i64 0, .slice (some ⟨g, 0, none⟩) 1 1, .int .i64 5, .int .i64 0, .int .i64 0, .int .i64 100, .int .i64 50, .int .i64 0, .int .i64 0, .int .i64 0, .int .i64 0]) ∧ L.Li w' (.slice (some ⟨g, 0, none⟩) 1 1) [5] ∧ Below w.heap.size w w'
theorem van_n (w : World) : Calls Tryd.prog 26 #[] w (VanP w) := by
  go_enter Tryd.func26, Tryd.ntmps26
  go_wp2_with fail
  exact bodyPost_ret (v := .agg #[.string ⟨#[118, 97, 110]⟩, .int .i64 0, .int .i64 0, .int .i64 0, .slice (some ⟨w.heap.size + 1, 0, none⟩) 1 1, .int .i64 5, .int .i64 0, .int .i64 0, .int .i64 100, .int .i64 50, .int .i64 0, .int .i64 0, .int .i64 0, .int .i64 0]) (by simp [results, Tryd.results26, go_sem]) rfl
    ⟨_, rfl, ⟨some ⟨w.heap.size + 1, 0, none⟩, 1, rfl, fun i hi => ⟨_, rfl, by simp, by
      have h1 : i < 1 := hi
      match i, h1 with
      | 0, _ => simp [Addr.add]⟩⟩, by go_grown⟩

end Go.Proofs.YthihahehmnpenaaDoor.T

