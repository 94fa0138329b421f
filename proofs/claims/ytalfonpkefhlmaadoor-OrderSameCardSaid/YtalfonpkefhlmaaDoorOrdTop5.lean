/-
  DERIVED. The walk of order's appendFaults for the laws' own order (written by gen_ordtop5.py).
-/
import Derived.Test.YtalfonpkefhlmaaDoorOrdTop4
namespace Go.Proofs.YtalfonpkefhlmaaDoor.T
open Go.RowKit
set_option maxRecDepth 8000

theorem cell_al {w : World} {o : Obj} {p : Addr} {v : Value} (h : w.cell? p = some v) : (w.alloc o).cell? p = some v := by
  rw [World.cell?_alloc_some _ _ _ (by rw [h]; rfl)]; exact h
/-- the rules of the laws' order, none broken -/
def Ru (w : World) (n : Nat) : Prop := w.heap[n]? = some (.cells #[.bool true, .int .i64 5, .bool true, .int .i64 6, .bool true, .int .i64 17, .bool true, .int .i64 11, .bool true, .int .i64 19, .bool true, .int .i64 14, .bool true, .int .i64 18, .bool true, .int .i64 2] 69)
theorem Ru.at (w : World) (n : Nat) (h : Ru w n) (k : Nat) (hk : k < 8) : w.cell? ⟨n, k * 2, none⟩ = some (.bool true) ∧ ∃ x, w.cell? ⟨n, k * 2 + 1, none⟩ = some (.int .i64 x) := by
  unfold Ru at h
  match k, hk with
  | 0, _ => exact ⟨by simp [World.cell?, h], 5, by simp [World.cell?, h]⟩
  | 1, _ => exact ⟨by simp [World.cell?, h], 6, by simp [World.cell?, h]⟩
  | 2, _ => exact ⟨by simp [World.cell?, h], 17, by simp [World.cell?, h]⟩
  | 3, _ => exact ⟨by simp [World.cell?, h], 11, by simp [World.cell?, h]⟩
  | 4, _ => exact ⟨by simp [World.cell?, h], 19, by simp [World.cell?, h]⟩
  | 5, _ => exact ⟨by simp [World.cell?, h], 14, by simp [World.cell?, h]⟩
  | 6, _ => exact ⟨by simp [World.cell?, h], 18, by simp [World.cell?, h]⟩
  | 7, _ => exact ⟨by simp [World.cell?, h], 2, by simp [World.cell?, h]⟩
theorem Ru.lt {w : World} {n : Nat} (h : Ru w n) : n < w.heap.size := by
  apply Decidable.byContradiction
  intro hc
  unfold Ru at h
  rw [Array.getElem?_eq_none (by omega)] at h; cases h
theorem Ru.below {w w' : World} {n : Nat} (h : Ru w n) (hb : Below w.heap.size w w') : Ru w' n := (hb.block n h.lt).trans h
theorem Ru.made (w : World) : Ru (w.alloc (.cells #[.bool true, .int .i64 5, .bool true, .int .i64 6, .bool true, .int .i64 17, .bool true, .int .i64 11, .bool true, .int .i64 19, .bool true, .int .i64 14, .bool true, .int .i64 18, .bool true, .int .i64 2] 69)) w.heap.size := by
  show (w.heap.push _)[w.heap.size]? = _
  simp

set_option maxHeartbeats 12800000 in
theorem appendFaults_a (g : Nat) (w : World) (hg : L.Li w (.slice (some ⟨g, 0, none⟩) 1 1) [3]) :
    Calls Tryd.prog 27 #[.agg #[.int .i64 2, .int .i64 1, .int .i64 1], .slice none 0 0, .int .i64 0, .agg #[.string ⟨#[97]⟩, .slice (some ⟨g, 0, none⟩) 1 1, .int .i64 (-1), .int .i64 0, .int .i64 0, .int .i64 0, .int .i64 1, .int .i64 0, .int .i64 9, .int .i64 0, .int .i64 0, .int .i64 (-1), .int .i64 1, .int .i64 (-1), .int .i64 (-1), .bool false], .bool false] w fun e w' => e = .returned (.slice none 0 0) ∧ Below w.heap.size w w' := by
  have BL := below_alloc w (.cells #[.int .i64 2, .int .i64 1, .int .i64 1] 60)
  have BB := over BL (below_alloc (w.alloc (.cells #[.int .i64 2, .int .i64 1, .int .i64 1] 60)) (.cells #[.string ⟨#[97]⟩, .slice (some ⟨g, 0, none⟩) 1 1, .int .i64 (-1), .int .i64 0, .int .i64 0, .int .i64 0, .int .i64 1, .int .i64 0, .int .i64 9, .int .i64 0, .int .i64 0, .int .i64 (-1), .int .i64 1, .int .i64 (-1), .int .i64 (-1), .bool false] 42))
  have TA := Ob.made (w.alloc (.cells #[.int .i64 2, .int .i64 1, .int .i64 1] 60)) (.string ⟨#[97]⟩) (.slice (some ⟨g, 0, none⟩) 1 1) (.int .i64 (-1)) (.int .i64 0) (.int .i64 0) (.int .i64 0) (.int .i64 1) (.int .i64 0) (.int .i64 9) (.int .i64 0) (.int .i64 0) (.int .i64 (-1)) (.int .i64 1) (.int .i64 (-1)) (.int .i64 (-1)) (.bool false)
  rw [show (w.alloc (.cells #[.int .i64 2, .int .i64 1, .int .i64 1] 60)).heap.size = w.heap.size + 1 by simp] at TA
  have l0 : ((w.alloc (.cells #[.int .i64 2, .int .i64 1, .int .i64 1] 60)).alloc (.cells #[.string ⟨#[97]⟩, .slice (some ⟨g, 0, none⟩) 1 1, .int .i64 (-1), .int .i64 0, .int .i64 0, .int .i64 0, .int .i64 1, .int .i64 0, .int .i64 9, .int .i64 0, .int .i64 0, .int .i64 (-1), .int .i64 1, .int .i64 (-1), .int .i64 (-1), .bool false] 42)).cell? ⟨w.heap.size, 0, none⟩ = some (.int .i64 2) := cell_al (by simp)
  have l1 : ((w.alloc (.cells #[.int .i64 2, .int .i64 1, .int .i64 1] 60)).alloc (.cells #[.string ⟨#[97]⟩, .slice (some ⟨g, 0, none⟩) 1 1, .int .i64 (-1), .int .i64 0, .int .i64 0, .int .i64 0, .int .i64 1, .int .i64 0, .int .i64 9, .int .i64 0, .int .i64 0, .int .i64 (-1), .int .i64 1, .int .i64 (-1), .int .i64 (-1), .bool false] 42)).cell? ⟨w.heap.size, 1, none⟩ = some (.int .i64 1) := cell_al (by simp)
  have l2 : ((w.alloc (.cells #[.int .i64 2, .int .i64 1, .int .i64 1] 60)).alloc (.cells #[.string ⟨#[97]⟩, .slice (some ⟨g, 0, none⟩) 1 1, .int .i64 (-1), .int .i64 0, .int .i64 0, .int .i64 0, .int .i64 1, .int .i64 0, .int .i64 9, .int .i64 0, .int .i64 0, .int .i64 (-1), .int .i64 1, .int .i64 (-1), .int .i64 (-1), .bool false] 42)).cell? ⟨w.heap.size, 2, none⟩ = some (.int .i64 1) := cell_al (by simp)
  have HL := Lib.hid (hg.below BB)
  have hl : w.heap.size < ((w.alloc (.cells #[.int .i64 2, .int .i64 1, .int .i64 1] 60)).alloc (.cells #[.string ⟨#[97]⟩, .slice (some ⟨g, 0, none⟩) 1 1, .int .i64 (-1), .int .i64 0, .int .i64 0, .int .i64 0, .int .i64 1, .int .i64 0, .int .i64 9, .int .i64 0, .int .i64 0, .int .i64 (-1), .int .i64 1, .int .i64 (-1), .int .i64 (-1), .bool false] 42)).heap.size := by simp; omega
  obtain ⟨W0, hW0⟩ : ∃ W0, (w.alloc (.cells #[.int .i64 2, .int .i64 1, .int .i64 1] 60)).alloc (.cells #[.string ⟨#[97]⟩, .slice (some ⟨g, 0, none⟩) 1 1, .int .i64 (-1), .int .i64 0, .int .i64 0, .int .i64 0, .int .i64 1, .int .i64 0, .int .i64 9, .int .i64 0, .int .i64 0, .int .i64 (-1), .int .i64 1, .int .i64 (-1), .int .i64 (-1), .bool false] 42) = W0 := ⟨_, rfl⟩
  rw [hW0] at TA BB HL l0 l1 l2 hl
  have hlt := TA.lt
  have c0 := TA.c0
  have c1 := TA.c1
  have c2 := TA.c2
  have c3 := TA.c3
  have c4 := TA.c4
  have c5 := TA.c5
  have c6 := TA.c6
  have c7 := TA.c7
  have c8 := TA.c8
  have c9 := TA.c9
  have c10 := TA.c10
  have c11 := TA.c11
  have c12 := TA.c12
  have c13 := TA.c13
  have c14 := TA.c14
  have c15 := TA.c15
  have HB := Lib.hid (below_drew BB)
  clear hg TA BL BB
  go_enter Tryd.func27, Tryd.ntmps27
  go_wp2_with fail
  clear hW0
  go_cut [83, 84, 85] from 13 to 85 (fun t n i wx => ∃ q, t = .slice (some ⟨q, 0, none⟩) 8 8 ∧ n = .int .i64 8 ∧ i = .int .i64 0 ∧ Hid (Ru wx q) ∧ Hid (Below w.heap.size w wx))
  case first =>
    have l0 : W0.drew.cell? ⟨w.heap.size, 0, none⟩ = some (.int .i64 2) := l0
    have l1 : W0.drew.cell? ⟨w.heap.size, 1, none⟩ = some (.int .i64 1) := l1
    have l2 : W0.drew.cell? ⟨w.heap.size, 2, none⟩ = some (.int .i64 1) := l2
    have c0 : W0.drew.cell? ⟨w.heap.size + 1, 0, none⟩ = some (.string ⟨#[97]⟩) := c0
    have c1 : W0.drew.cell? ⟨w.heap.size + 1, 1, none⟩ = some (.slice (some ⟨g, 0, none⟩) 1 1) := c1
    have c2 : W0.drew.cell? ⟨w.heap.size + 1, 2, none⟩ = some (.int .i64 (-1)) := c2
    have c3 : W0.drew.cell? ⟨w.heap.size + 1, 3, none⟩ = some (.int .i64 0) := c3
    have c4 : W0.drew.cell? ⟨w.heap.size + 1, 4, none⟩ = some (.int .i64 0) := c4
    have c5 : W0.drew.cell? ⟨w.heap.size + 1, 5, none⟩ = some (.int .i64 0) := c5
    have c6 : W0.drew.cell? ⟨w.heap.size + 1, 6, none⟩ = some (.int .i64 1) := c6
    have c7 : W0.drew.cell? ⟨w.heap.size + 1, 7, none⟩ = some (.int .i64 0) := c7
    have c8 : W0.drew.cell? ⟨w.heap.size + 1, 8, none⟩ = some (.int .i64 9) := c8
    have c9 : W0.drew.cell? ⟨w.heap.size + 1, 9, none⟩ = some (.int .i64 0) := c9
    have c10 : W0.drew.cell? ⟨w.heap.size + 1, 10, none⟩ = some (.int .i64 0) := c10
    have c11 : W0.drew.cell? ⟨w.heap.size + 1, 11, none⟩ = some (.int .i64 (-1)) := c11
    have c12 : W0.drew.cell? ⟨w.heap.size + 1, 12, none⟩ = some (.int .i64 1) := c12
    have c13 : W0.drew.cell? ⟨w.heap.size + 1, 13, none⟩ = some (.int .i64 (-1)) := c13
    have c14 : W0.drew.cell? ⟨w.heap.size + 1, 14, none⟩ = some (.int .i64 (-1)) := c14
    have c15 : W0.drew.cell? ⟨w.heap.size + 1, 15, none⟩ = some (.bool false) := c15
    have HL : Hid (L.Li W0.drew (.slice (some ⟨g, 0, none⟩) 1 1) [3]) := HL
    have hl : w.heap.size < W0.drew.heap.size := hl
    have hlt : w.heap.size + 1 < W0.drew.heap.size := hlt
    simp only [List.append_eq, List.cons_append, List.nil_append]
    go_region_held3 (fun w' => w'.cell? ⟨w.heap.size, 0, none⟩ = some (.int .i64 2) ∧ w'.cell? ⟨w.heap.size, 1, none⟩ = some (.int .i64 1) ∧ w'.cell? ⟨w.heap.size, 2, none⟩ = some (.int .i64 1) ∧ w'.cell? ⟨w.heap.size + 1, 0, none⟩ = some (.string ⟨#[97]⟩) ∧ w'.cell? ⟨w.heap.size + 1, 1, none⟩ = some (.slice (some ⟨g, 0, none⟩) 1 1) ∧ w'.cell? ⟨w.heap.size + 1, 2, none⟩ = some (.int .i64 (-1)) ∧ w'.cell? ⟨w.heap.size + 1, 3, none⟩ = some (.int .i64 0) ∧ w'.cell? ⟨w.heap.size + 1, 4, none⟩ = some (.int .i64 0) ∧ w'.cell? ⟨w.heap.size + 1, 5, none⟩ = some (.int .i64 0) ∧ w'.cell? ⟨w.heap.size + 1, 6, none⟩ = some (.int .i64 1) ∧ w'.cell? ⟨w.heap.size + 1, 7, none⟩ = some (.int .i64 0) ∧ w'.cell? ⟨w.heap.size + 1, 8, none⟩ = some (.int .i64 9) ∧ w'.cell? ⟨w.heap.size + 1, 9, none⟩ = some (.int .i64 0) ∧ w'.cell? ⟨w.heap.size + 1, 10, none⟩ = some (.int .i64 0) ∧ w'.cell? ⟨w.heap.size + 1, 11, none⟩ = some (.int .i64 (-1)) ∧ w'.cell? ⟨w.heap.size + 1, 12, none⟩ = some (.int .i64 1) ∧ w'.cell? ⟨w.heap.size + 1, 13, none⟩ = some (.int .i64 (-1)) ∧ w'.cell? ⟨w.heap.size + 1, 14, none⟩ = some (.int .i64 (-1)) ∧ w'.cell? ⟨w.heap.size + 1, 15, none⟩ = some (.bool false))
      (first
        | exact ⟨l0, l1, l2, c0, c1, c2, c3, c4, c5, c6, c7, c8, c9, c10, c11, c12, c13, c14, c15⟩
        | exact ⟨cell_al l0, cell_al l1, cell_al l2, cell_al c0, cell_al c1, cell_al c2, cell_al c3, cell_al c4, cell_al c5, cell_al c6, cell_al c7, cell_al c8, cell_al c9, cell_al c10, cell_al c11, cell_al c12, cell_al c13, cell_al c14, cell_al c15⟩)
      (first
        | (go_at_call 35; (first | (with_reducible refine (name_a _).mono ?_)); rintro e wz ⟨rfl, bz⟩; have l0 := (bz.cell (p := ⟨w.heap.size, 0, none⟩) hl).trans l0; have l1 := (bz.cell (p := ⟨w.heap.size, 1, none⟩) hl).trans l1; have l2 := (bz.cell (p := ⟨w.heap.size, 2, none⟩) hl).trans l2; have c0 := (bz.cell (p := ⟨w.heap.size + 1, 0, none⟩) hlt).trans c0; have c1 := (bz.cell (p := ⟨w.heap.size + 1, 1, none⟩) hlt).trans c1; have c2 := (bz.cell (p := ⟨w.heap.size + 1, 2, none⟩) hlt).trans c2; have c3 := (bz.cell (p := ⟨w.heap.size + 1, 3, none⟩) hlt).trans c3; have c4 := (bz.cell (p := ⟨w.heap.size + 1, 4, none⟩) hlt).trans c4; have c5 := (bz.cell (p := ⟨w.heap.size + 1, 5, none⟩) hlt).trans c5; have c6 := (bz.cell (p := ⟨w.heap.size + 1, 6, none⟩) hlt).trans c6; have c7 := (bz.cell (p := ⟨w.heap.size + 1, 7, none⟩) hlt).trans c7; have c8 := (bz.cell (p := ⟨w.heap.size + 1, 8, none⟩) hlt).trans c8; have c9 := (bz.cell (p := ⟨w.heap.size + 1, 9, none⟩) hlt).trans c9; have c10 := (bz.cell (p := ⟨w.heap.size + 1, 10, none⟩) hlt).trans c10; have c11 := (bz.cell (p := ⟨w.heap.size + 1, 11, none⟩) hlt).trans c11; have c12 := (bz.cell (p := ⟨w.heap.size + 1, 12, none⟩) hlt).trans c12; have c13 := (bz.cell (p := ⟨w.heap.size + 1, 13, none⟩) hlt).trans c13; have c14 := (bz.cell (p := ⟨w.heap.size + 1, 14, none⟩) hlt).trans c14; have c15 := (bz.cell (p := ⟨w.heap.size + 1, 15, none⟩) hlt).trans c15; have HB := Lib.hid (over HB.out bz); have HL := Lib.hid (HL.out.below bz); have hl := Nat.lt_of_lt_of_le hl bz.size; have hlt := Nat.lt_of_lt_of_le hlt bz.size)
        | (go_at_call 36; (first | (with_reducible refine (right_a _ _ HL.out).mono ?_)); rintro e wz ⟨rfl, bz⟩; have l0 := (bz.cell (p := ⟨w.heap.size, 0, none⟩) hl).trans l0; have l1 := (bz.cell (p := ⟨w.heap.size, 1, none⟩) hl).trans l1; have l2 := (bz.cell (p := ⟨w.heap.size, 2, none⟩) hl).trans l2; have c0 := (bz.cell (p := ⟨w.heap.size + 1, 0, none⟩) hlt).trans c0; have c1 := (bz.cell (p := ⟨w.heap.size + 1, 1, none⟩) hlt).trans c1; have c2 := (bz.cell (p := ⟨w.heap.size + 1, 2, none⟩) hlt).trans c2; have c3 := (bz.cell (p := ⟨w.heap.size + 1, 3, none⟩) hlt).trans c3; have c4 := (bz.cell (p := ⟨w.heap.size + 1, 4, none⟩) hlt).trans c4; have c5 := (bz.cell (p := ⟨w.heap.size + 1, 5, none⟩) hlt).trans c5; have c6 := (bz.cell (p := ⟨w.heap.size + 1, 6, none⟩) hlt).trans c6; have c7 := (bz.cell (p := ⟨w.heap.size + 1, 7, none⟩) hlt).trans c7; have c8 := (bz.cell (p := ⟨w.heap.size + 1, 8, none⟩) hlt).trans c8; have c9 := (bz.cell (p := ⟨w.heap.size + 1, 9, none⟩) hlt).trans c9; have c10 := (bz.cell (p := ⟨w.heap.size + 1, 10, none⟩) hlt).trans c10; have c11 := (bz.cell (p := ⟨w.heap.size + 1, 11, none⟩) hlt).trans c11; have c12 := (bz.cell (p := ⟨w.heap.size + 1, 12, none⟩) hlt).trans c12; have c13 := (bz.cell (p := ⟨w.heap.size + 1, 13, none⟩) hlt).trans c13; have c14 := (bz.cell (p := ⟨w.heap.size + 1, 14, none⟩) hlt).trans c14; have c15 := (bz.cell (p := ⟨w.heap.size + 1, 15, none⟩) hlt).trans c15; have HB := Lib.hid (over HB.out bz); have HL := Lib.hid (HL.out.below bz); have hl := Nat.lt_of_lt_of_le hl bz.size; have hlt := Nat.lt_of_lt_of_le hlt bz.size)
        | (go_at_call 37; (first | (with_reducible refine (place_a _).mono ?_) | (with_reducible refine (place_b _).mono ?_)); rintro e wz ⟨rfl, bz⟩; have l0 := (bz.cell (p := ⟨w.heap.size, 0, none⟩) hl).trans l0; have l1 := (bz.cell (p := ⟨w.heap.size, 1, none⟩) hl).trans l1; have l2 := (bz.cell (p := ⟨w.heap.size, 2, none⟩) hl).trans l2; have c0 := (bz.cell (p := ⟨w.heap.size + 1, 0, none⟩) hlt).trans c0; have c1 := (bz.cell (p := ⟨w.heap.size + 1, 1, none⟩) hlt).trans c1; have c2 := (bz.cell (p := ⟨w.heap.size + 1, 2, none⟩) hlt).trans c2; have c3 := (bz.cell (p := ⟨w.heap.size + 1, 3, none⟩) hlt).trans c3; have c4 := (bz.cell (p := ⟨w.heap.size + 1, 4, none⟩) hlt).trans c4; have c5 := (bz.cell (p := ⟨w.heap.size + 1, 5, none⟩) hlt).trans c5; have c6 := (bz.cell (p := ⟨w.heap.size + 1, 6, none⟩) hlt).trans c6; have c7 := (bz.cell (p := ⟨w.heap.size + 1, 7, none⟩) hlt).trans c7; have c8 := (bz.cell (p := ⟨w.heap.size + 1, 8, none⟩) hlt).trans c8; have c9 := (bz.cell (p := ⟨w.heap.size + 1, 9, none⟩) hlt).trans c9; have c10 := (bz.cell (p := ⟨w.heap.size + 1, 10, none⟩) hlt).trans c10; have c11 := (bz.cell (p := ⟨w.heap.size + 1, 11, none⟩) hlt).trans c11; have c12 := (bz.cell (p := ⟨w.heap.size + 1, 12, none⟩) hlt).trans c12; have c13 := (bz.cell (p := ⟨w.heap.size + 1, 13, none⟩) hlt).trans c13; have c14 := (bz.cell (p := ⟨w.heap.size + 1, 14, none⟩) hlt).trans c14; have c15 := (bz.cell (p := ⟨w.heap.size + 1, 15, none⟩) hlt).trans c15; have HB := Lib.hid (over HB.out bz); have HL := Lib.hid (HL.out.below bz); have hl := Nat.lt_of_lt_of_le hl bz.size; have hlt := Nat.lt_of_lt_of_le hlt bz.size)
        | (go_at_call 38; (first | (with_reducible refine (win_a _).mono ?_) | (with_reducible refine (win_b _).mono ?_)); rintro e wz ⟨rfl, bz⟩; have l0 := (bz.cell (p := ⟨w.heap.size, 0, none⟩) hl).trans l0; have l1 := (bz.cell (p := ⟨w.heap.size, 1, none⟩) hl).trans l1; have l2 := (bz.cell (p := ⟨w.heap.size, 2, none⟩) hl).trans l2; have c0 := (bz.cell (p := ⟨w.heap.size + 1, 0, none⟩) hlt).trans c0; have c1 := (bz.cell (p := ⟨w.heap.size + 1, 1, none⟩) hlt).trans c1; have c2 := (bz.cell (p := ⟨w.heap.size + 1, 2, none⟩) hlt).trans c2; have c3 := (bz.cell (p := ⟨w.heap.size + 1, 3, none⟩) hlt).trans c3; have c4 := (bz.cell (p := ⟨w.heap.size + 1, 4, none⟩) hlt).trans c4; have c5 := (bz.cell (p := ⟨w.heap.size + 1, 5, none⟩) hlt).trans c5; have c6 := (bz.cell (p := ⟨w.heap.size + 1, 6, none⟩) hlt).trans c6; have c7 := (bz.cell (p := ⟨w.heap.size + 1, 7, none⟩) hlt).trans c7; have c8 := (bz.cell (p := ⟨w.heap.size + 1, 8, none⟩) hlt).trans c8; have c9 := (bz.cell (p := ⟨w.heap.size + 1, 9, none⟩) hlt).trans c9; have c10 := (bz.cell (p := ⟨w.heap.size + 1, 10, none⟩) hlt).trans c10; have c11 := (bz.cell (p := ⟨w.heap.size + 1, 11, none⟩) hlt).trans c11; have c12 := (bz.cell (p := ⟨w.heap.size + 1, 12, none⟩) hlt).trans c12; have c13 := (bz.cell (p := ⟨w.heap.size + 1, 13, none⟩) hlt).trans c13; have c14 := (bz.cell (p := ⟨w.heap.size + 1, 14, none⟩) hlt).trans c14; have c15 := (bz.cell (p := ⟨w.heap.size + 1, 15, none⟩) hlt).trans c15; have HB := Lib.hid (over HB.out bz); have HL := Lib.hid (HL.out.below bz); have hl := Nat.lt_of_lt_of_le hl bz.size; have hlt := Nat.lt_of_lt_of_le hlt bz.size)
        | (go_at_call 39; (first | (with_reducible refine (from_a _).mono ?_) | (with_reducible refine (from_b _).mono ?_)); rintro e wz ⟨rfl, bz⟩; have l0 := (bz.cell (p := ⟨w.heap.size, 0, none⟩) hl).trans l0; have l1 := (bz.cell (p := ⟨w.heap.size, 1, none⟩) hl).trans l1; have l2 := (bz.cell (p := ⟨w.heap.size, 2, none⟩) hl).trans l2; have c0 := (bz.cell (p := ⟨w.heap.size + 1, 0, none⟩) hlt).trans c0; have c1 := (bz.cell (p := ⟨w.heap.size + 1, 1, none⟩) hlt).trans c1; have c2 := (bz.cell (p := ⟨w.heap.size + 1, 2, none⟩) hlt).trans c2; have c3 := (bz.cell (p := ⟨w.heap.size + 1, 3, none⟩) hlt).trans c3; have c4 := (bz.cell (p := ⟨w.heap.size + 1, 4, none⟩) hlt).trans c4; have c5 := (bz.cell (p := ⟨w.heap.size + 1, 5, none⟩) hlt).trans c5; have c6 := (bz.cell (p := ⟨w.heap.size + 1, 6, none⟩) hlt).trans c6; have c7 := (bz.cell (p := ⟨w.heap.size + 1, 7, none⟩) hlt).trans c7; have c8 := (bz.cell (p := ⟨w.heap.size + 1, 8, none⟩) hlt).trans c8; have c9 := (bz.cell (p := ⟨w.heap.size + 1, 9, none⟩) hlt).trans c9; have c10 := (bz.cell (p := ⟨w.heap.size + 1, 10, none⟩) hlt).trans c10; have c11 := (bz.cell (p := ⟨w.heap.size + 1, 11, none⟩) hlt).trans c11; have c12 := (bz.cell (p := ⟨w.heap.size + 1, 12, none⟩) hlt).trans c12; have c13 := (bz.cell (p := ⟨w.heap.size + 1, 13, none⟩) hlt).trans c13; have c14 := (bz.cell (p := ⟨w.heap.size + 1, 14, none⟩) hlt).trans c14; have c15 := (bz.cell (p := ⟨w.heap.size + 1, 15, none⟩) hlt).trans c15; have HB := Lib.hid (over HB.out bz); have HL := Lib.hid (HL.out.below bz); have hl := Nat.lt_of_lt_of_le hl bz.size; have hlt := Nat.lt_of_lt_of_le hlt bz.size)
        | (go_at_call 40; (first | (with_reducible refine (split_a g _).mono ?_)); rintro e wz ⟨rfl, bz⟩; have l0 := (bz.cell (p := ⟨w.heap.size, 0, none⟩) hl).trans l0; have l1 := (bz.cell (p := ⟨w.heap.size, 1, none⟩) hl).trans l1; have l2 := (bz.cell (p := ⟨w.heap.size, 2, none⟩) hl).trans l2; have c0 := (bz.cell (p := ⟨w.heap.size + 1, 0, none⟩) hlt).trans c0; have c1 := (bz.cell (p := ⟨w.heap.size + 1, 1, none⟩) hlt).trans c1; have c2 := (bz.cell (p := ⟨w.heap.size + 1, 2, none⟩) hlt).trans c2; have c3 := (bz.cell (p := ⟨w.heap.size + 1, 3, none⟩) hlt).trans c3; have c4 := (bz.cell (p := ⟨w.heap.size + 1, 4, none⟩) hlt).trans c4; have c5 := (bz.cell (p := ⟨w.heap.size + 1, 5, none⟩) hlt).trans c5; have c6 := (bz.cell (p := ⟨w.heap.size + 1, 6, none⟩) hlt).trans c6; have c7 := (bz.cell (p := ⟨w.heap.size + 1, 7, none⟩) hlt).trans c7; have c8 := (bz.cell (p := ⟨w.heap.size + 1, 8, none⟩) hlt).trans c8; have c9 := (bz.cell (p := ⟨w.heap.size + 1, 9, none⟩) hlt).trans c9; have c10 := (bz.cell (p := ⟨w.heap.size + 1, 10, none⟩) hlt).trans c10; have c11 := (bz.cell (p := ⟨w.heap.size + 1, 11, none⟩) hlt).trans c11; have c12 := (bz.cell (p := ⟨w.heap.size + 1, 12, none⟩) hlt).trans c12; have c13 := (bz.cell (p := ⟨w.heap.size + 1, 13, none⟩) hlt).trans c13; have c14 := (bz.cell (p := ⟨w.heap.size + 1, 14, none⟩) hlt).trans c14; have c15 := (bz.cell (p := ⟨w.heap.size + 1, 15, none⟩) hlt).trans c15; have HB := Lib.hid (over HB.out bz); have HL := Lib.hid (HL.out.below bz); have hl := Nat.lt_of_lt_of_le hl bz.size; have hlt := Nat.lt_of_lt_of_le hlt bz.size)
        | (go_at_call 41; (first | (with_reducible refine (type_a _).mono ?_)); rintro e wz ⟨rfl, bz⟩; have l0 := (bz.cell (p := ⟨w.heap.size, 0, none⟩) hl).trans l0; have l1 := (bz.cell (p := ⟨w.heap.size, 1, none⟩) hl).trans l1; have l2 := (bz.cell (p := ⟨w.heap.size, 2, none⟩) hl).trans l2; have c0 := (bz.cell (p := ⟨w.heap.size + 1, 0, none⟩) hlt).trans c0; have c1 := (bz.cell (p := ⟨w.heap.size + 1, 1, none⟩) hlt).trans c1; have c2 := (bz.cell (p := ⟨w.heap.size + 1, 2, none⟩) hlt).trans c2; have c3 := (bz.cell (p := ⟨w.heap.size + 1, 3, none⟩) hlt).trans c3; have c4 := (bz.cell (p := ⟨w.heap.size + 1, 4, none⟩) hlt).trans c4; have c5 := (bz.cell (p := ⟨w.heap.size + 1, 5, none⟩) hlt).trans c5; have c6 := (bz.cell (p := ⟨w.heap.size + 1, 6, none⟩) hlt).trans c6; have c7 := (bz.cell (p := ⟨w.heap.size + 1, 7, none⟩) hlt).trans c7; have c8 := (bz.cell (p := ⟨w.heap.size + 1, 8, none⟩) hlt).trans c8; have c9 := (bz.cell (p := ⟨w.heap.size + 1, 9, none⟩) hlt).trans c9; have c10 := (bz.cell (p := ⟨w.heap.size + 1, 10, none⟩) hlt).trans c10; have c11 := (bz.cell (p := ⟨w.heap.size + 1, 11, none⟩) hlt).trans c11; have c12 := (bz.cell (p := ⟨w.heap.size + 1, 12, none⟩) hlt).trans c12; have c13 := (bz.cell (p := ⟨w.heap.size + 1, 13, none⟩) hlt).trans c13; have c14 := (bz.cell (p := ⟨w.heap.size + 1, 14, none⟩) hlt).trans c14; have c15 := (bz.cell (p := ⟨w.heap.size + 1, 15, none⟩) hlt).trans c15; have HB := Lib.hid (over HB.out bz); have HL := Lib.hid (HL.out.below bz); have hl := Nat.lt_of_lt_of_le hl bz.size; have hlt := Nat.lt_of_lt_of_le hlt bz.size)
      )
    all_goals
      go_wp2_with fail
      go_meet
      case rel => exact ⟨_, rfl, rfl, rfl, Ru.made wz, over HB.out (below_alloc wz (.cells #[.bool true, .int .i64 5, .bool true, .int .i64 6, .bool true, .int .i64 17, .bool true, .int .i64 11, .bool true, .int .i64 19, .bool true, .int .i64 14, .bool true, .int .i64 18, .bool true, .int .i64 2] 69))⟩
  obtain ⟨q, rfl, rfl, rfl, HR, HB⟩ := hcut
  go_wp2
  go_loopg [1, 85] 8 (fun g v j wr => ∃ k : Nat, k ≤ 8 ∧ v = .slice none 0 0 ∧ j = .int .i64 k ∧ 8 - k ≤ g ∧ Hid (Ru wr q) ∧ Hid (Below w.heap.size w wr))
  case atStart => exact ⟨0, by omega, rfl, rfl, by omega, HR, HB⟩
  case round =>
    clear HR HB
    obtain ⟨k, hk, rfl, rfl, hg, HR, HB⟩ := hrel
    by_cases hlt : k < 8
    · have hkI : (k : Int) < 8 := by omega
      obtain ⟨x0, x, x1⟩ := HR.out.at _ _ k hlt
      have hq := HR.out.lt
      have HR2 := Lib.hid (HR.out.below (below_alloc wr (.cells #[.bool true, .int .i64 x] 69)))
      have HB2 := Lib.hid (over HB.out (below_alloc wr (.cells #[.bool true, .int .i64 x] 69)))
      go_wp2_with fail
      go_roundg (8 - (k + 1))
      case measure => omega
      case rel => exact ⟨k + 1, by omega, rfl, by go_num, by omega, HR2, HB2⟩
    · have hk8 : k = 8 := by omega
      subst hk8
      go_wp2_with fail
      go_ret
      exact ⟨rfl, HB.out⟩

end Go.Proofs.YtalfonpkefhlmaaDoor.T

