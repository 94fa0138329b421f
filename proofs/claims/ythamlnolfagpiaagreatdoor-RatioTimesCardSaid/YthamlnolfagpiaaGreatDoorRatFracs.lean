/-
  DERIVED. Merged by mkrat.py: RatFrac3, RatFrac4.
-/
import Derived.Test.YthamlnolfagpiaaGreatDoorRatFrac1
namespace Go.Proofs.YthamlnolfagpiaaGreatDoor.D
open Go.RowKit
set_option maxRecDepth 8000

theorem fromInteger_z (s : Int) (l : ByteArray) (w : World) :
    Calls Tryz.prog 75 #[.agg #[.int .i64 s, .string l]] w fun e w' => e = .returned (.agg #[.int .i64 s, .string l, .int .i64 1, .string ⟨#[]⟩]) ∧ Below w.heap.size w w' := by
  go_enter Tryz.func75, Tryz.ntmps75
  go_wp2_with fail
  refine bodyPost_ret (v := .agg #[.int .i64 s, .string l, .int .i64 1, .string ⟨#[]⟩]) (by simp [results, Tryz.results75, go_sem]) rfl ⟨rfl, by go_grown⟩
theorem one_rp : Rp 1 ⟨#[]⟩ ((1 : Nat) : Int) := Rp.short (by decide) (by decide)

/-- what negative leaves -/
def NgPost (z s' : Int) (l' : ByteArray) (w : World) (e : Ending) (w' : World) : Prop :=
  ∃ (s : Int) (l : ByteArray), e = .returned (.agg #[.int .i64 s, .string l, .int .i64 s', .string l']) ∧ Rp s l z ∧ Below w.heap.size w w'
theorem bff {w w1 : World} {s s' a c : Int} {l l' b d : ByteArray} (h : Below ((w.alloc (cFr s l s' l')).alloc (cFr a b c d)).heap.size ((w.alloc (cFr s l s' l')).alloc (cFr a b c d)) w1) : Bf w1 w.heap.size s l s' l' ∧ Bf w1 (w.heap.size + 1) a b c d :=
  ⟨((Bf.made w _ rfl s l s' l').alloc _).under h, (Bf.made (w.alloc (cFr s l s' l')) _ (by simp) a b c d).under h⟩
theorem Bf.cells {w : World} {n : Nat} {s s' : Int} {l l' : ByteArray} (h : Bf w n s l s' l') : w.cell? ⟨n, 0, none⟩ = some (.int .i64 s) ∧ w.cell? ⟨n, 1, none⟩ = some (.string l) ∧ w.cell? ⟨n, 2, none⟩ = some (.int .i64 s') ∧ w.cell? ⟨n, 3, none⟩ = some (.string l') ∧ w.frozen? ⟨n, 0, none⟩ = false ∧ w.frozen? ⟨n, 1, none⟩ = false ∧ w.frozen? ⟨n, 2, none⟩ = false ∧ w.frozen? ⟨n, 3, none⟩ = false := ⟨h.c0, h.c1, h.c2, h.c3, h.f 0, h.f 1, h.f 2, h.f 3⟩
theorem cell_dr' {w : World} {p : Addr} {v : Value} (h : w.cell? p = some v) : w.drew.cell? p = some v := h

set_option maxHeartbeats 1000000 in
theorem negative_z (s z z' s' : Int) (l l' : ByteArray) (hz : Hid (-z = z')) (h : Rp s l z) (w : World) (ht : Tab w) :
    Calls Tryz.prog 62 #[.agg #[.int .i64 s, .string l, .int .i64 s', .string l']] w fun e w' => NgPost z' s' l' w e w' := by
  have TO := Lib.hid (fun w ht => opposite_i s z z' l hz h w ht)
  clear h hz
  go_enter Tryz.func62, Tryz.ntmps62
  go_wp2_with fail
  go_region_held3 (fun w' => w'.cell? ⟨w.heap.size, 0, none⟩ = some (.int .i64 s) ∧ w'.cell? ⟨w.heap.size, 1, none⟩ = some (.string l) ∧ w'.cell? ⟨w.heap.size, 2, none⟩ = some (.int .i64 s') ∧ w'.cell? ⟨w.heap.size, 3, none⟩ = some (.string l'))
    (first
      | (go_split_ands
         refine ⟨?_, ?_, ?_, ?_⟩ <;> first
           | ((with_reducible refine Below.keepc b1 ?_); (with_reducible assumption))
           | ((repeat' (first
               | with_reducible assumption
               | (with_reducible refine cell_dr' ?_)
               | (with_reducible refine cell_far ?_ ?_)
               | (dsimp only; omega))); done))
      | go_keep)
    (first
      | (go_at_call 48; (with_reducible refine (TO.out _ ?_).mono ?_); (exact ht.over (by go_grown)); rintro e w1 ⟨s1, l1, rfl, h1, b1⟩; obtain ⟨_, x2⟩ := bff (w := w) (Below.undrew b1); obtain ⟨c0, c1, c2, c3, f0, f1, f2, f3⟩ := x2.cells; have B1 := Below.over (w := w) (by go_grown) b1))
  all_goals
    have hs1 := B1.size
    clear TO b1
    go_wp2_with fail
    have hF := x2.put s1 l1 s' l'
    have g0 := hF.c0
    have g1 := hF.c1
    have g2 := hF.c2
    have g3 := hF.c3
    refine bodyPost_ret (v := .agg #[.int .i64 s1, .string l1, .int .i64 s', .string l']) (by simp [results, Tryz.results62, go_sem, g0, g1, g2, g3]) rfl ⟨_, _, rfl, h1, by go_grown⟩

/-- what inverse leaves -/
def IvPost (P : Int) (Q : Nat) (w : World) (e : Ending) (w' : World) : Prop :=
  ∃ (s : Int) (l : ByteArray) (s' : Int) (l' : ByteArray), e = .returned (.agg #[.int .i64 s, .string l, .int .i64 s', .string l']) ∧ Rp s l P ∧ Rp s' l' (Q : Int) ∧ Below w.heap.size w w'
theorem inverse_pos (s z s' y : Int) (l l' : ByteArray) (hz : 0 < z) (h : Rp s l z) (h2 : Rp s' l' y) (w : World) (ht : Tab w) :
    Calls Tryz.prog 66 #[.agg #[.int .i64 s, .string l, .int .i64 s', .string l']] w fun e w' => IvPost y z.natAbs w e w' := by
  have HS : Hid (sgnI z = 1) := by show _ = _; rw [sgnI, if_neg (by omega), if_neg (by omega)]
  have TS := Lib.hid (fun w ht => sign_z s z l 1 HS h w ht)
  have HR : Rp s l ((z.natAbs : Nat) : Int) := by rw [show ((z.natAbs : Nat) : Int) = z by omega]; exact h
  clear h hz HS
  go_enter Tryz.func66, Tryz.ntmps66
  go_wp2_with fail
  refine (TS.out _ (ht.over (by go_grown))).mono ?_
  rintro e w1 ⟨rfl, b1⟩
  obtain ⟨x1, x2⟩ := bff (w := w) b1
  have B1 := Below.over (w := w) (by go_grown) b1
  obtain ⟨d0, d1, d2, d3⟩ := (show _ ∧ _ ∧ _ ∧ _ from ⟨x1.c0, x1.c1, x1.c2, x1.c3⟩)
  obtain ⟨c0, c1, c2, c3, f0, f1, f2, f3⟩ := x2.cells
  have hs1 := B1.size
  clear TS b1
  go_wp2_with fail
  have hF := x2.put s' l' s l
  have g0 := hF.c0
  have g1 := hF.c1
  have g2 := hF.c2
  have g3 := hF.c3
  refine bodyPost_ret (v := .agg #[.int .i64 s', .string l', .int .i64 s, .string l]) (by simp [results, Tryz.results66, go_sem, g0, g1, g2, g3]) rfl ⟨_, _, _, _, rfl, h2, HR, by go_grown⟩
set_option maxHeartbeats 1000000 in
theorem inverse_neg (s z s' y y' : Int) (l l' : ByteArray) (hz : z < 0) (hy : Hid (-y = y')) (h : Rp s l z) (h2 : Rp s' l' y) (w : World) (ht : Tab w) :
    Calls Tryz.prog 66 #[.agg #[.int .i64 s, .string l, .int .i64 s', .string l']] w fun e w' => IvPost y' z.natAbs w e w' := by
  have HS : Hid (sgnI z = -1) := by show _ = _; rw [sgnI, if_pos hz]
  have TS := Lib.hid (fun w ht => sign_z s z l (-1) HS h w ht)
  have T1 := Lib.hid (fun w ht => opposite_i s' y y' l' hy h2 w ht)
  have T2 := Lib.hid (fun w ht => opposite_i s z ((z.natAbs : Nat) : Int) l (Lib.hid (by omega)) h w ht)
  clear h h2 hz HS hy
  go_enter Tryz.func66, Tryz.ntmps66
  go_wp2_with fail
  refine (TS.out _ (ht.over (by go_grown))).mono ?_
  rintro e w1 ⟨rfl, b1⟩
  obtain ⟨x1, x2⟩ := bff (w := w) b1
  have B1 := Below.over (w := w) (by go_grown) b1
  obtain ⟨d0, d1, d2, d3⟩ := (show _ ∧ _ ∧ _ ∧ _ from ⟨x1.c0, x1.c1, x1.c2, x1.c3⟩)
  have hs1 := B1.size
  clear TS b1
  go_wp2_with fail
  go_region_held3 (fun w' => w'.cell? ⟨w.heap.size, 0, none⟩ = some (.int .i64 s) ∧ w'.cell? ⟨w.heap.size, 1, none⟩ = some (.string l) ∧ w'.cell? ⟨w.heap.size, 2, none⟩ = some (.int .i64 s') ∧ w'.cell? ⟨w.heap.size, 3, none⟩ = some (.string l'))
    (first
      | (go_split_ands
         refine ⟨?_, ?_, ?_, ?_⟩ <;> first
           | ((with_reducible refine Below.keepc b3 ?_); (with_reducible assumption))
           | ((with_reducible refine Below.keepc b2 ?_); (with_reducible assumption))
           | ((repeat' (first
               | with_reducible assumption
               | (with_reducible refine cell_dr' ?_)
               | (with_reducible refine cell_far ?_ ?_)
               | (dsimp only; omega))); done))
      | go_keep)
    (first
      | (go_at_call 48; (with_reducible refine (T1.out _ ?_).mono ?_); (exact ht.over (by go_grown)); rintro e w2 ⟨s2, l2, rfl, h2, b2⟩; have B2 := Below.over (w := w) (by go_grown) b2; have x2 := x2.under (Below.undrew b2))
      | (go_at_call 48; (with_reducible refine (T2.out _ ?_).mono ?_); (exact ht.over (by go_grown)); rintro e w3 ⟨s3, l3, rfl, h3, b3⟩; have B3 := Below.over (w := w) (by go_grown) b3; have x2 := x2.under b3; obtain ⟨c0, c1, c2, c3, f0, f1, f2, f3⟩ := x2.cells))
  all_goals
    have hs3 := B3.size
    clear T1 T2 b2 b3 B2
    go_wp2_with fail
    have hF := x2.put s2 l2 s3 l3
    have g0 := hF.c0
    have g1 := hF.c1
    have g2 := hF.c2
    have g3 := hF.c3
    refine bodyPost_ret (v := .agg #[.int .i64 s2, .string l2, .int .i64 s3, .string l3]) (by simp [results, Tryz.results66, go_sem, g0, g1, g2, g3]) rfl ⟨_, _, _, _, rfl, h2, h3, by go_grown⟩

/-! ### isLong -/
theorem isLong_b (s : ByteArray) (b : Bool) (hb : Hid (decide (4096 < dz s) = b)) (w : World) :
    Calls Tryz.prog 68 #[.string s] w fun e w' => e = .returned (.bool b) ∧ w = w' := by
  obtain ⟨t, ht⟩ : ∃ t : ByteArray, (⟨(Lib.trimPrefix s.data.toList [45]).toArray⟩ : ByteArray) = t := ⟨_, rfl⟩
  have HT := Lib.hid ht
  have hd : dz s = t.size := by rw [dz, ← ht]; simp [ByteArray.size]
  rw [hd] at hb
  by_cases h : 4096 < t.size
  · have HB : Hid (b = true) := by show _ = _; rw [← hb.out]; exact decide_eq_true h
    clear ht hd hb
    go_enter Tryz.func68, Tryz.ntmps68
    go_wp2_with fail
    refine (Tryz.strings_TrimPrefix _ _ _).mono ?_
    rintro e w2 ⟨rfl, hw⟩
    subst hw
    rw [HT.out]
    go_wp2_with fail
    go_ret
    exact ⟨ret_bool (by rw [HB.out]; exact decide_eq_true (by omega)), rfl⟩
  · have HB : Hid (b = false) := by show _ = _; rw [← hb.out]; exact decide_eq_false h
    have h' : t.size ≤ 4096 := by omega
    clear ht hd hb h
    go_enter Tryz.func68, Tryz.ntmps68
    go_wp2_with fail
    refine (Tryz.strings_TrimPrefix _ _ _).mono ?_
    rintro e w2 ⟨rfl, hw⟩
    subst hw
    rw [HT.out]
    go_wp2_with fail
    go_ret
    exact ⟨ret_bool (by rw [HB.out]; exact decide_eq_false (by omega)), rfl⟩

end Go.Proofs.YthamlnolfagpiaaGreatDoor.D

namespace Go.Proofs.YthamlnolfagpiaaGreatDoor.D
open Go.RowKit
set_option maxRecDepth 8000

theorem rtx_cat {r : Rat} (h : r.den ≠ 1) : (inum r.num ++ (⟨#[47]⟩ : ByteArray)) ++ inum (r.den : Int) = rtx r := by
  rw [inum_nat]
  show ((⟨(inumL r.num).toArray⟩ : ByteArray) ++ ⟨[47].toArray⟩) ++ ⟨(Lib.decDigits r.den).toArray⟩ = _
  rw [cat_str, cat_str, rtx, rtxL_two h, List.append_assoc]; rfl
theorem rtx_whole {r : Rat} (h : r.den = 1) : inum r.num = rtx r := by rw [rtx, rtxL_one h]; rfl

theorem resultR_over (w : World) :
    Calls Tryz.prog 57 #[.agg #[.int .i64 0, .string ⟨#[]⟩, .int .i64 0, .string ⟨#[]⟩], .int .i64 4] w fun e w' => e = .returned (.tuple #[.string ⟨#[]⟩, .int .i64 4]) ∧ Below w.heap.size w w' := by
  go_enter Tryz.func57, Tryz.ntmps57
  go_wp2_with fail
  go_ret2
  exact ⟨rfl, by go_grown⟩

theorem bf1 {w w1 : World} {s s' : Int} {l l' : ByteArray} (h : Below (w.alloc (cFr s l s' l')).heap.size (w.alloc (cFr s l s' l')) w1) : Bf w1 w.heap.size s l s' l' := (Bf.made w _ rfl s l s' l').under h
set_option maxHeartbeats 1000000 in
theorem result_z (s s' : Int) (l l' : ByteArray) (r : Rat) (h1 : Rp s l r.num) (h2 : Rp s' l' (r.den : Int)) (w : World) (ht : Tab w) :
    Calls Tryz.prog 57 #[.agg #[.int .i64 s, .string l, .int .i64 s', .string l'], .int .i64 0] w fun e w' => e = .returned (.tuple #[.string (rtx r), .int .i64 0]) ∧ Below w.heap.size w w' := by
  have T1 := Lib.hid (fun w ht => text_z s r.num l h1 w ht)
  by_cases h : r.den = 1
  · have TI := Lib.hid (fun w => is_z s' (r.den : Int) l' 1 true (by decide) (by rw [h]; exact rfl) h2 w)
    have HX : Hid (inum r.num = rtx r) := rtx_whole h
    clear h1 h2 h
    go_enter Tryz.func57, Tryz.ntmps57
    go_wp2_with fail
    refine (TI.out _).mono ?_
    rintro e w1 ⟨rfl, b1⟩
    have x := bf1 (w := w) b1
    have B1 := Below.over (w := w) (by go_grown) b1
    obtain ⟨c0, c1, c2, c3⟩ := (show _ ∧ _ ∧ _ ∧ _ from ⟨x.c0, x.c1, x.c2, x.c3⟩)
    clear b1 TI
    go_wp2_with fail
    refine (T1.out _ (ht.over B1)).mono ?_
    rintro e w2 ⟨rfl, b2⟩
    have B2 := Below.over B1 b2
    go_wp2_with fail
    go_ret2
    exact ⟨by rw [HX.out]; rfl, B2⟩
  · have TI := Lib.hid (fun w => is_z s' (r.den : Int) l' 1 false (by decide) (Lib.hid (decide_eq_false (by omega))) h2 w)
    have T2 := Lib.hid (fun w ht => text_z s' (r.den : Int) l' h2 w ht)
    have HX : Hid ((inum r.num ++ (⟨#[47]⟩ : ByteArray)) ++ inum (r.den : Int) = rtx r) := rtx_cat h
    have z1 : (inum r.num).size ≤ 100000 := by have := sz_nd h1.nd; omega
    have z2 : (inum (r.den : Int)).size ≤ 100000 := by have := sz_nd h2.nd; omega
    have z3 : (inum r.num ++ (⟨#[47]⟩ : ByteArray)).size ≤ 100001 := by rw [ByteArray.size_append]; have : (⟨#[47]⟩ : ByteArray).size = 1 := rfl; omega
    obtain ⟨a, ha⟩ : ∃ a, inum r.num = a := ⟨_, rfl⟩
    obtain ⟨b, hb⟩ : ∃ b, inum (r.den : Int) = b := ⟨_, rfl⟩
    rw [ha] at T1 HX z1 z3
    rw [hb] at T2 HX z2
    clear h1 h2 h ha hb
    go_enter Tryz.func57, Tryz.ntmps57
    go_wp2_with fail
    refine (TI.out _).mono ?_
    rintro e w1 ⟨rfl, b1⟩
    have x := bf1 (w := w) b1
    have B1 := Below.over (w := w) (by go_grown) b1
    obtain ⟨c0, c1, c2, c3⟩ := (show _ ∧ _ ∧ _ ∧ _ from ⟨x.c0, x.c1, x.c2, x.c3⟩)
    clear b1 TI
    go_wp2_with fail
    go_region_with (first
      | (go_at_call 39; (with_reducible refine (T1.out _ ?_).mono ?_); (exact ht.over (by go_grown)); rintro e w2 ⟨rfl, b2⟩; have B2 := Below.over (w := w) (by go_grown) b2; have x2 := x.under (Below.undrew b2); have x22 := x2.c2; have x23 := x2.c3)
      | (go_at_call 39; (with_reducible refine (T2.out _ ?_).mono ?_); (exact ht.over (by go_grown)); rintro e w3 ⟨rfl, b3⟩; have B3 := Below.over (w := w) (by go_grown) b3))
    all_goals
      go_wp2_with fail
      go_ret2
      exact ⟨by rw [HX.out]; rfl, B3⟩

end Go.Proofs.YthamlnolfagpiaaGreatDoor.D

