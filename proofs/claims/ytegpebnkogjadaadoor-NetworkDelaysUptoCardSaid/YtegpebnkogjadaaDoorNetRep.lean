/-
  DERIVED. The walk of slices.Repeat at one int.
-/
import Derived.Test.YtegpebnkogjadaaDoorNetTop1
import Derived.Laws.CopyOwn
namespace Go.Proofs.YtegpebnkogjadaaDoor.T
open Go.RowKit
set_option maxRecDepth 8000

/-- block g is just the numbers l -/
def Who (w : World) (g : Nat) (l : List Int) : Prop := w.heap[g]? = some (.cells (l.map L.vi).toArray 3 (0, 0))
theorem who_own {w : World} {B g n : Nat} {l : List Int} (hn : l.length = n) (hB : B ≤ g) (h9 : n ≤ 1000000) (h : Who w g l) : L.Own B w (.slice (some ⟨g, 0, none⟩) n n) l := by
  subst hn
  refine ⟨by simp, .inr ⟨g, l.length, (l.map L.vi).toArray, rfl, hB, h, Nat.le_refl _, by unfold maxLen; omega, by simp, by rw [Nat.mul_one]; simp [List.take_of_length_le]⟩⟩
theorem own_who {w : World} {B g n : Nat} {xs : List Value} (h : w.ownsRow B 3 1 (.slice (some ⟨g, 0, none⟩) n n) n xs) : w.heap[g]? = some (.cells xs.toArray 3 (0, 0)) := by
  rcases h.2 with ⟨h', _⟩ | ⟨g', cap', cur, h', hbg, hg, hnc, hm, hsz, hcur⟩
  · cases h'
  · simp only [Value.slice.injEq, Option.some.injEq, Addr.mk.injEq] at h'
    obtain ⟨⟨rfl, -⟩, -, rfl⟩ := h'
    rw [hg]
    have : cur = xs.toArray := by
      apply Array.toList_inj.1
      rw [← hcur, List.take_of_length_le (by simp [hsz])]
    rw [this]
/-- k times x, then noughts -/
def fil (x : Int) (n k : Nat) : List Int := List.replicate k x ++ List.replicate (n - k) 0
theorem fil_len (x : Int) {n k : Nat} (h : k ≤ n) : (fil x n k).length = n := by unfold fil; simp; omega
theorem fil_all (x : Int) (n : Nat) : fil x n n = List.replicate n x := by unfold fil; simp
theorem fil_splice (x : Int) {n k m : Nat} : splice ((fil x n k).map L.vi) k (List.replicate m (L.vi x)) = (fil x n (k + m)).map L.vi := by
  unfold splice fil
  rw [List.length_replicate, List.map_append, List.take_left' (by simp)]
  rw [← List.drop_drop, List.drop_left' (by simp)]
  simp only [List.map_replicate, List.map_append, List.drop_replicate]
  rw [← List.append_assoc, List.replicate_append_replicate, show n - k - m = n - (k + m) by omega]
theorem fil_at (x : Int) {n k j : Nat} (h : j < k) : ((fil x n k).map L.vi)[j]? = some (L.vi x) := by
  unfold fil
  rw [List.map_append, List.getElem?_append_left (by simpa using h)]
  simp [h]
theorem who_cell {w : World} {g j : Nat} {l : List Int} {u : Value} (h : Who w g l) (hu : (l.map L.vi)[j]? = some u) : w.cell? ((⟨g, 0, none⟩ : Addr).add j) = some u := by
  rw [L.add_zero_off]
  unfold Who at h
  simp only [World.cell?, h]
  simpa using hu
theorem sizeInt : (Tryd.prog.info? 3).map (·.size) = some 1 := by kernel_rfl
theorem rep_cells (x : Int) (m : Nat) : ∀ v ∈ List.replicate m (L.vi x), v.oneCell' = true := by
  intro v hv
  rw [(List.mem_replicate.1 hv).2]
  rfl

set_option maxHeartbeats 1600000 in
theorem repeat_n (b : Nat) (x : Int) (n : Nat) (hn : n ≤ 1000000) (w : World) (hb : b < w.heap.size) (hc : w.cell? ⟨b, 0, none⟩ = some (.int .i64 x)) :
    Calls Tryd.prog 37 #[.slice (some ⟨b, 0, none⟩) 1 1, .int .i64 (n : Int)] w fun e w' => ∃ g, e = .returned (.slice (some ⟨g, 0, none⟩) n n) ∧ w.heap.size ≤ g ∧ g < w'.heap.size ∧ Who w' g (List.replicate n x) ∧ Below w.heap.size w w' := by
  obtain ⟨i0, hi, hz0, hz1, hz2⟩ := L.infoInt
  have KM := Lib.hid (fun w => Tryd.bits_Mul 1 n (by omega) (by omega) w)
  have e1 : 1 * n / 18446744073709551616 = 0 := by rw [Nat.one_mul]; exact Nat.div_eq_of_lt (by omega)
  have e2 : 1 * n % 18446744073709551616 = n := by rw [Nat.one_mul]; exact Nat.mod_eq_of_lt (by omega)
  rw [e1, e2] at KM
  clear e1 e2
  have hnI : (n : Int) ≤ 1000000 := by omega
  have hn0 : ¬ (n : Int) < 0 := by omega
  have hbig : ¬ (9223372036854775807 : Int) < (n : Int) := by omega
  have HC := Lib.hid hc
  clear hc
  go_enter Tryd.func37, Tryd.ntmps37
  go_wp2_with fail
  refine (KM.out _).mono ?_
  rintro e w' ⟨rfl, rfl⟩
  go_wp2_with (at_make; refine wpList_make_full _ rfl _ _ 44 rfl w'.heap.size 3 i0 (.int .i64 0) 1 Tryd.underlying44 hi hz0 hz1 _ _ _ _ n rfl rfl ?e1 ?e2 ?e3 ?e4 (Nat.le_refl _) ?_)
  case e1 => rfl
  case e2 => rfl
  case e3 => rw [hz2]; omega
  case e4 => unfold maxLen; omega
  intro w1 hown hgrow
  have hw0 := own_who hown
  have HB1 : Hid (Below w'.heap.size w' w1) := (Below.refl _ w').grown hgrow (Nat.le_refl _) (fun k h => by cases h)
  have HW : Hid (Who w1 w'.heap.size (fil x n 0)) := by
    show Who _ _ _
    unfold Who fil
    rw [hw0]
    simp only [toList_madeCells_one, Nat.sub_zero, List.replicate_zero, List.nil_append, List.map_replicate]
    rfl
  have hgl : w'.heap.size < w1.heap.size := (Array.getElem?_eq_some_iff.1 hw0).1
  have HX := Lib.hid ((HB1.out.cell (p := ⟨b, 0, none⟩) hb).trans HC.out)
  clear hown hgrow hw0
  obtain ⟨m, hm⟩ : ∃ m, Nat.min 1 n = m := ⟨_, rfl⟩
  have hmn : m ≤ n ∧ m ≤ 1 ∧ (0 < n → 0 < m) := by
    have h1 : Nat.min 1 n ≤ n := Nat.min_le_right _ _
    have h2 : Nat.min 1 n ≤ 1 := Nat.min_le_left _ _
    refine ⟨by omega, by omega, fun h => ?_⟩
    have : Nat.min 1 n = 1 := Nat.min_eq_left h
    omega
  have hS := Lib.hid (fil_splice x (n := n) (k := 0) (m := m))
  go_wp2_with (refine wpList_copy_splice rfl (.tmp 31) (.tmp 32) 44 44 rfl 3 Tryd.underlying44 sizeInt _ _ _ _ _ _ rfl rfl w'.heap.size 0 ((fil x n 0).map L.vi) 3 HW.out (List.replicate m (L.vi x)) ?k1 ?k2 ?k3 ?k4 w'.heap.size w' HB1.out (Nat.le_refl _) ?_)
  case k1 => rw [List.length_replicate]; exact hm.symm
  case k2 =>
    intro _
    have key : ∀ (j : Nat) (v : Value), (List.replicate m (L.vi x))[j]? = some v → w1.cell? ⟨b, j, none⟩ = some v := fun j v hj => by
      have hj2 := (List.getElem?_eq_some_iff.1 hj).1
      rw [List.length_replicate] at hj2
      obtain rfl : j = 0 := by omega
      have : v = .int .i64 x := by
        rw [List.getElem?_replicate, if_pos hj2] at hj
        simpa [L.vi] using hj.symm
      rw [this]; exact HX.out
    exact key
  case k3 => rw [List.length_replicate, List.length_map, fil_len x (Nat.zero_le _)]; omega
  case k4 => exact rep_cells x m
  intro w2 hg2 hb2
  rw [hS.out, Nat.zero_add] at hg2
  have HW2 : Hid (Who w2 w'.heap.size (fil x n m)) := hg2
  have HB2 := Lib.hid hb2
  have HSP := Lib.hid (fun k m => fil_splice x (n := n) (k := k) (m := m))
  clear hS HX HW HB1 hg2 hb2
  clear HC KM
  obtain ⟨G, hG⟩ : ∃ G, w'.heap.size = G := ⟨_, rfl⟩
  rw [hG] at HW2 HB2 hgl hb ⊢
  have HG := Lib.hid hG
  clear hG
  go_wp2_with fail
  go_loopw [8] (fun i wr => ∃ k : Nat, k ≤ n ∧ Hid (0 < n → 0 < k) ∧ i = .int .i64 k ∧ Hid (Who wr G (fil x n k)) ∧ Hid (Below G w' wr)) (fun i _ => n - (intOf i).toNat)
  case atStart => exact ⟨m, hmn.1, hmn.2.2, rfl, HW2, HB2⟩
  case round =>
    clear HW2 HB2 hm hmn
    obtain ⟨k, hk, HP, rfl, HW, HB⟩ := hrel
    by_cases hlt : k < n
    · have hk1 : (k : Int) < (n : Int) := by omega
      have hk2 : (k : Int) ≤ (n : Int) := by omega
      have hk0 : (0 : Int) ≤ (k : Int) := by omega
      have hne : ¬ n = k := by omega
      have hkp : 0 < k := HP.out (by omega)
      obtain ⟨q, hq⟩ : ∃ q, Nat.min k (n - k) = q := ⟨_, rfl⟩
      have hq1 : q ≤ k := by rw [← hq]; exact Nat.min_le_left _ _
      have hq2 : k + q ≤ n := by have : Nat.min k (n - k) ≤ n - k := Nat.min_le_right _ _; omega
      have hq3 : 0 < q := by rw [← hq]; exact Nat.lt_min.2 ⟨hkp, by omega⟩
      have HS := Lib.hid (HSP.out k q)
      have HWd : Hid (Who wr.drew G (fil x n k)) := HW.out
      have HBd := Lib.hid (below_drew HB.out)
      have HQ := Lib.hid hq
      have HCE : Hid (∀ (j : Nat) (v : Value), (List.replicate q (L.vi x))[j]? = some v → wr.drew.cell? ((⟨G, 0, none⟩ : Addr).add j) = some v) := fun j v hj => by
        have hj2 := (List.getElem?_eq_some_iff.1 hj).1
        rw [List.length_replicate] at hj2
        refine who_cell HWd.out ?_
        rw [fil_at x (by omega)]
        rw [List.getElem?_replicate, if_pos hj2] at hj
        exact hj
      clear hq
      obtain ⟨w4, hrun, hg4, hb4⟩ : ∃ w4, (Builtin.copy_ #[44, 44] 3 #[.slice (some ⟨G, k, none⟩) (n - k) (n - k), .slice (some ⟨G, 0, none⟩) k n]).run Tryd.prog wr.drew = .ok (.int .i64 (q : Int)) w4 ∧ Hid (Who w4 G (fil x n (k + q))) ∧ Hid (Below G w' w4) := by
        have hr := run_copy_row (P := Tryd.prog) wr.drew 44 44 3 3 G k (n - k) (n - k) ⟨G, 0, none⟩ k n ((fil x n k).map L.vi).toArray 3 (List.replicate q (L.vi x)) Tryd.underlying44 sizeInt HWd.out (by rw [List.length_replicate]; exact HQ.out.symm) HCE.out (by rw [List.length_replicate, List.size_toArray, List.length_map, fil_len x hk]; exact hq2) (rep_cells x q)
        rw [List.length_replicate] at hr
        refine ⟨_, hr, ?_, below_setRow HBd.out (Nat.le_refl _) _⟩
        show Who _ _ _
        have h2 := setRow_heap wr.drew G ((fil x n k).map L.vi).toArray (((fil x n k).map L.vi).take k ++ List.replicate q (L.vi x) ++ ((fil x n k).map L.vi).drop (k + q)).toArray 3 (0, 0) HWd.out
        unfold Who
        rw [← HS.out]
        unfold splice
        rw [List.length_replicate, ← List.append_assoc]
        exact h2
      have hkq : (k : Int) + (q : Int) ≤ 1000000 := by omega
      go_wp2_with fail
      go_region
      all_goals
        go_wp2_with fail
        go_roundw
        case rel => exact ⟨k + q, hq2, fun _ => by omega, by go_num, hg4, hb4⟩
        case measure => simp [intOf]; omega
    · have hk' : k = n := by omega
      subst hk'
      go_wp2_with fail
      go_ret
      have h1 := HW.out
      rw [fil_all] at h1
      exact ⟨G, rfl, Nat.le_of_eq HG.out, (Array.getElem?_eq_some_iff.1 h1).1, h1, HG.out ▸ HB.out⟩

end Go.Proofs.YtegpebnkogjadaaDoor.T

