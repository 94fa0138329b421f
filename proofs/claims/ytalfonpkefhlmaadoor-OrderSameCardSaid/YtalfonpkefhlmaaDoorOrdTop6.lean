/-
  DERIVED. The walk of order's Check for the laws' own order (written by gen_ordtop6.py).
-/
import Derived.Test.YtalfonpkefhlmaaDoorOrdTop5
import Derived.Test.YtalfonpkefhlmaaDoorOrdMap
namespace Go.Proofs.YtalfonpkefhlmaaDoor.T
open Go.RowKit
set_option maxRecDepth 8000

/-- block n holds the laws' limits -/
def Lm (w : World) (n : Nat) : Prop := w.heap[n]? = some (.cells #[.int .i64 2, .int .i64 1, .int .i64 1] 60)
theorem Lm.c0 {w : World} {n : Nat} (h : Lm w n) : w.cell? ⟨n, 0, none⟩ = some (.int .i64 2) := by unfold Lm at h; simp [World.cell?, h]
theorem Lm.c1 {w : World} {n : Nat} (h : Lm w n) : w.cell? ⟨n, 1, none⟩ = some (.int .i64 1) := by unfold Lm at h; simp [World.cell?, h]
theorem Lm.c2 {w : World} {n : Nat} (h : Lm w n) : w.cell? ⟨n, 2, none⟩ = some (.int .i64 1) := by unfold Lm at h; simp [World.cell?, h]
theorem Lm.lt {w : World} {n : Nat} (h : Lm w n) : n < w.heap.size := by
  apply Decidable.byContradiction
  intro hc
  unfold Lm at h
  rw [Array.getElem?_eq_none (by omega)] at h; cases h
theorem Lm.below {w w' : World} {n : Nat} (h : Lm w n) (hb : Below w.heap.size w w') : Lm w' n := (hb.block n h.lt).trans h
theorem Lm.made (w : World) : Lm (w.alloc (.cells #[.int .i64 2, .int .i64 1, .int .i64 1] 60)) w.heap.size := by
  show (w.heap.push _)[w.heap.size]? = _
  simp
theorem Lm.made1 (w : World) (o : Obj) : Lm ((w.alloc o).alloc (.cells #[.int .i64 2, .int .i64 1, .int .i64 1] 60)) (w.heap.size + 1) := by
  have := Lm.made (w.alloc o)
  rwa [show (w.alloc o).heap.size = w.heap.size + 1 by simp] at this

set_option maxHeartbeats 6400000 in
theorem checkA_n (h b g : Nat) (w : World) (hb : Ob w b (.string ⟨#[97]⟩) (.slice (some ⟨g, 0, none⟩) 1 1) (.int .i64 (-1)) (.int .i64 0) (.int .i64 0) (.int .i64 0) (.int .i64 1) (.int .i64 0) (.int .i64 9) (.int .i64 0) (.int .i64 0) (.int .i64 (-1)) (.int .i64 1) (.int .i64 (-1)) (.int .i64 (-1)) (.bool false)) (hg : L.Li w (.slice (some ⟨g, 0, none⟩) 1 1) [3]) :
    Calls Tryd.prog 17 #[.agg #[.slice (some ⟨h, 0, none⟩) 2 2, .slice none 0 0], .int .i64 1, .int .i64 1, .slice (some ⟨b, 0, none⟩) 1 1] w fun e w' => e = .returned (.slice none 0 0) ∧ Below w.heap.size w w' := by
  have B1 := below_alloc w (.cells #[.slice (some ⟨h, 0, none⟩) 2 2, .slice none 0 0] 49)
  have B2 := over B1 (below_alloc _ (.cells #[.int .i64 2, .int .i64 1, .int .i64 1] 60))
  have B3 := over B2 (below_alloc _ (.map #[] 0))
  have HL := (Lm.made1 w (.cells #[.slice (some ⟨h, 0, none⟩) 2 2, .slice none 0 0] 49)).below (below_alloc _ (.map #[] 0))
  have HM := Sm.made ((w.alloc (.cells #[.slice (some ⟨h, 0, none⟩) 2 2, .slice none 0 0] 49)).alloc (.cells #[.int .i64 2, .int .i64 1, .int .i64 1] 60))
  rw [show ((w.alloc (.cells #[.slice (some ⟨h, 0, none⟩) 2 2, .slice none 0 0] 49)).alloc (.cells #[.int .i64 2, .int .i64 1, .int .i64 1] 60)).heap.size = w.heap.size + 1 + 1 by simp] at HM
  have HO := Lib.hid hb
  have HG := Lib.hid hg
  have hmm := makeMap_n (P := Tryd.prog) 61 9 4 .i64 1 Tryd.underlying61
  clear hb hg B1 B2
  have hn1 : (⟨#[97]⟩ : ByteArray).size ≤ maxLen := by show 1 ≤ maxLen; unfold maxLen; omega
  go_enter Tryd.func17, Tryd.ntmps17
  go_wp2_with fail
  clear hmm
  obtain ⟨W2, hW2⟩ : ∃ W2, (((w.alloc (.cells #[.slice (some ⟨h, 0, none⟩) 2 2, .slice none 0 0] 49)).alloc (.cells #[.int .i64 2, .int .i64 1, .int .i64 1] 60)).alloc (.map #[] 0)) = W2 := ⟨_, rfl⟩
  rw [hW2] at HL HM B3 ⊢
  clear hW2
  have HL := Lib.hid HL
  have HM := Lib.hid HM
  have HB := Lib.hid B3
  clear B3
  generalize hbm : w.heap.size + 1 + 1 = bm at *
  have hbl : w.heap.size ≤ bm := by omega
  clear hbm
  generalize hqn : w.heap.size + 1 = q at *
  have hql : w.heap.size ≤ q := by omega
  clear hqn
  go_loopg [9, 32] 1 (fun g v j wr => ∃ k : Nat, k ≤ 1 ∧ v = .slice none 0 0 ∧ j = .int .i64 k ∧ 1 - k ≤ g ∧ Hid (Below w.heap.size w wr) ∧ (k = 0 → wr = W2))
  case atStart => exact ⟨0, by omega, rfl, rfl, by omega, HB, fun _ => rfl⟩
  case round =>
    clear HB
    obtain ⟨k, hk, rfl, rfl, hgm, HB, hW⟩ := hrel
    by_cases hlt : k < 1
    · have hk0 : k = 0 := by omega
      subst hk0
      have hw0 := hW rfl
      subst hw0
      clear hW
      have HO2 := HO.out.below HB.out
      have c0 := HO2.c0
      have c1 := HO2.c1
      have c2 := HO2.c2
      have c3 := HO2.c3
      have c4 := HO2.c4
      have c5 := HO2.c5
      have c6 := HO2.c6
      have c7 := HO2.c7
      have c8 := HO2.c8
      have c9 := HO2.c9
      have c10 := HO2.c10
      have c11 := HO2.c11
      have c12 := HO2.c12
      have c13 := HO2.c13
      have c14 := HO2.c14
      have c15 := HO2.c15
      have l0 := (HL.out.below (below_alloc wr (.cells #[.string ⟨#[97]⟩, .slice (some ⟨g, 0, none⟩) 1 1, .int .i64 (-1), .int .i64 0, .int .i64 0, .int .i64 0, .int .i64 1, .int .i64 0, .int .i64 9, .int .i64 0, .int .i64 0, .int .i64 (-1), .int .i64 1, .int .i64 (-1), .int .i64 (-1), .bool false] 42))).c0
      have l1 := (HL.out.below (below_alloc wr (.cells #[.string ⟨#[97]⟩, .slice (some ⟨g, 0, none⟩) 1 1, .int .i64 (-1), .int .i64 0, .int .i64 0, .int .i64 0, .int .i64 1, .int .i64 0, .int .i64 9, .int .i64 0, .int .i64 0, .int .i64 (-1), .int .i64 1, .int .i64 (-1), .int .i64 (-1), .bool false] 42))).c1
      have l2 := (HL.out.below (below_alloc wr (.cells #[.string ⟨#[97]⟩, .slice (some ⟨g, 0, none⟩) 1 1, .int .i64 (-1), .int .i64 0, .int .i64 0, .int .i64 0, .int .i64 1, .int .i64 0, .int .i64 9, .int .i64 0, .int .i64 0, .int .i64 (-1), .int .i64 1, .int .i64 (-1), .int .i64 (-1), .bool false] 42))).c2
      have hlk := (HM.out.below (below_alloc wr (.cells #[.string ⟨#[97]⟩, .slice (some ⟨g, 0, none⟩) 1 1, .int .i64 (-1), .int .i64 0, .int .i64 0, .int .i64 0, .int .i64 1, .int .i64 0, .int .i64 9, .int .i64 0, .int .i64 0, .int .i64 (-1), .int .i64 1, .int .i64 (-1), .int .i64 (-1), .bool false] 42))).look1 hn1
      have TB := Ob.made wr (.string ⟨#[97]⟩) (.slice (some ⟨g, 0, none⟩) 1 1) (.int .i64 (-1)) (.int .i64 0) (.int .i64 0) (.int .i64 0) (.int .i64 1) (.int .i64 0) (.int .i64 9) (.int .i64 0) (.int .i64 0) (.int .i64 (-1)) (.int .i64 1) (.int .i64 (-1)) (.int .i64 (-1)) (.bool false)
      have e0 := TB.c0
      have e1 := TB.c1
      have e2 := TB.c2
      have e3 := TB.c3
      have e4 := TB.c4
      have e5 := TB.c5
      have e6 := TB.c6
      have e7 := TB.c7
      have e8 := TB.c8
      have e9 := TB.c9
      have e10 := TB.c10
      have e11 := TB.c11
      have e12 := TB.c12
      have e13 := TB.c13
      have e14 := TB.c14
      have e15 := TB.c15
      have TB := Lib.hid TB
      have KA := Lib.hid (appendFaults_a g (wr.alloc (.cells #[.string ⟨#[97]⟩, .slice (some ⟨g, 0, none⟩) 1 1, .int .i64 (-1), .int .i64 0, .int .i64 0, .int .i64 0, .int .i64 1, .int .i64 0, .int .i64 9, .int .i64 0, .int .i64 0, .int .i64 (-1), .int .i64 1, .int .i64 (-1), .int .i64 (-1), .bool false] 42)) (HG.out.below (over HB.out (below_alloc _ _))))
      have HMa := Lib.hid (HM.out.below (below_alloc wr (.cells #[.string ⟨#[97]⟩, .slice (some ⟨g, 0, none⟩) 1 1, .int .i64 (-1), .int .i64 0, .int .i64 0, .int .i64 0, .int .i64 1, .int .i64 0, .int .i64 9, .int .i64 0, .int .i64 0, .int .i64 (-1), .int .i64 1, .int .i64 (-1), .int .i64 (-1), .bool false] 42)))
      have HBa := Lib.hid (over HB.out (below_alloc wr (.cells #[.string ⟨#[97]⟩, .slice (some ⟨g, 0, none⟩) 1 1, .int .i64 (-1), .int .i64 0, .int .i64 0, .int .i64 0, .int .i64 1, .int .i64 0, .int .i64 9, .int .i64 0, .int .i64 0, .int .i64 (-1), .int .i64 1, .int .i64 (-1), .int .i64 (-1), .bool false] 42)))
      obtain ⟨W3, hW3⟩ : ∃ W3, wr.alloc (.cells #[.string ⟨#[97]⟩, .slice (some ⟨g, 0, none⟩) 1 1, .int .i64 (-1), .int .i64 0, .int .i64 0, .int .i64 0, .int .i64 1, .int .i64 0, .int .i64 9, .int .i64 0, .int .i64 0, .int .i64 (-1), .int .i64 1, .int .i64 (-1), .int .i64 (-1), .bool false] 42) = W3 := ⟨_, rfl⟩
      have hq3 : wr.heap.size < (wr.alloc (.cells #[.string ⟨#[97]⟩, .slice (some ⟨g, 0, none⟩) 1 1, .int .i64 (-1), .int .i64 0, .int .i64 0, .int .i64 0, .int .i64 1, .int .i64 0, .int .i64 9, .int .i64 0, .int .i64 0, .int .i64 (-1), .int .i64 1, .int .i64 (-1), .int .i64 (-1), .bool false] 42)).heap.size := by simp
      rw [hW3] at KA HMa HBa hq3
      have HW3 := Lib.hid hW3
      clear hW3
      go_wp2_with fail
      rw [HW3.out]
      clear c0 c1 c2 c3 c4 c5 c6 c7 c8 c9 c10 c11 c12 c13 c14 c15
      refine KA.out.mono ?_
      rintro e w4 ⟨rfl, b4⟩
      obtain ⟨w8, hrun, -, hgr8⟩ := (HMa.out.below b4).put (by unfold maxLen; omega) hn1
      rw [HW3.out] at e0
      have f0 := (b4.cell (p := ⟨wr.heap.size, 0, none⟩) hq3).trans e0
      have HB4 := Lib.hid (over HBa.out b4)
      have HB8 : Hid (Below w.heap.size w w8) := HB4.out.grown hgr8 HB4.out.size (fun x e => by simp only [Option.some.injEq] at e; omega)
      clear hlk l0 l1 l2 e0 e1 e2 e3 e4 e5 e6 e7 e8 e9 e10 e11 e12 e13 e14 e15 b4 hgr8 HW3
      go_wp2_with fail
      go_roundg 0
      case measure => omega
      case rel => exact ⟨1, by omega, rfl, by go_num, by omega, HB8, fun h => by cases h⟩
    · have hk1 : k = 1 := by omega
      subst hk1
      go_wp2_with fail
      go_ret
      exact ⟨rfl, HB.out⟩

end Go.Proofs.YtalfonpkefhlmaaDoor.T

