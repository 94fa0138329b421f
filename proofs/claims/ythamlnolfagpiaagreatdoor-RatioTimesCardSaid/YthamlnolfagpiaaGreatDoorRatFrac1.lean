/-
  DERIVED. The walks of ratio's fractions: quotient in all, reduce.
-/
import Derived.Test.YthamlnolfagpiaaGreatDoorRatInt4
import Derived.Test.YthamlnolfagpiaaGreatDoorRatInt5
import Derived.Test.YthamlnolfagpiaaGreatDoorRatInt6
import Derived.Test.YthamlnolfagpiaaGreatDoorRatBase
namespace Go.Proofs.YthamlnolfagpiaaGreatDoor.D
open Go.RowKit
set_option maxRecDepth 8000

theorem quo_z (s s' x y Q : Int) (l l' : ByteArray) (hy : 0 < y) (hQ : Hid (x / y = Q)) (h1 : Rp s l x) (h2 : Rp s' l' y) (w : World) (ht : Tab w) :
    Calls Tryz.prog 46 #[.agg #[.int .i64 s, .string l], .agg #[.int .i64 s', .string l']] w fun e w' => RpPost Q w e w' := by
  have hk : nd Q.natAbs ≤ 4096 := by rw [← hQ.out]; exact nd_ediv h1.nd
  have hQ2 : Hid (fdv x y = Q) := by show _ = _; rw [(fdv_ediv x y hy).1]; exact hQ.out
  rcases h1 with ⟨rfl, rfl, a1, a2⟩ | ⟨rfl, rfl, a1, a2⟩
  · rcases h2 with ⟨rfl, rfl, c1, c2⟩ | ⟨rfl, rfl, c1, c2⟩
    · by_cases h : s.tmod s' < 0
      · exact quo_short_neg s s' Q a1 a2 hy c2 h hQ w
      · exact quo_short_pos s s' Q a1 a2 hy c2 (by omega) hQ w
    · exact quo_r s y Q _ (by omega) hQ2 (Lib.hid rfl) hk a1 a2 c1 c2 w ht
  · exact quo_l s' x y l' Q _ (by omega) hQ2 (Lib.hid rfl) hk a1 a2 h2 w ht

/-- what keeps a number -/
def FrPost (r : Rat) (w : World) (e : Ending) (w' : World) : Prop :=
  ∃ (s : Int) (l : ByteArray) (s' : Int) (l' : ByteArray), e = .returned (.agg #[.int .i64 s, .string l, .int .i64 s', .string l']) ∧ Rp s l r.num ∧ Rp s' l' (r.den : Int) ∧ Below w.heap.size w w'

theorem one_abs {a : Int} {n : Nat} (hn : 0 < n) {r : Rat} (hr : mkRat a n = r) (h : Nat.gcd a.natAbs n = 1) : a = r.num ∧ n = r.den := by
  obtain ⟨h1, h2⟩ := num_quot a n hn
  rw [hr, h] at h1 h2
  exact ⟨by rw [h1]; simp, by rw [h2]; simp⟩
theorem red_abs {a : Int} {n G : Nat} (hn : 0 < n) {r : Rat} (hr : mkRat a n = r) (h : Nat.gcd a.natAbs n = G) : a / (G : Int) = r.num ∧ (n : Int) / (G : Int) = (r.den : Int) := by
  obtain ⟨h1, h2⟩ := num_quot a n hn
  rw [hr, h] at h1 h2
  exact ⟨h1.symm, by rw [h2, Int.natCast_ediv]⟩

theorem bif3 {w w1 : World} {s s' a c : Int} {l l' b d : ByteArray} (h : Below (((w.alloc (cInt s l)).alloc (cInt s' l')).alloc (cFr a b c d)).heap.size (((w.alloc (cInt s l)).alloc (cInt s' l')).alloc (cFr a b c d)) w1) : Bi w1 w.heap.size s l ∧ Bi w1 (w.heap.size + 1) s' l' ∧ Bf w1 (w.heap.size + 2) a b c d :=
  ⟨(((Bi.made w _ rfl s l).alloc _).alloc _).under h, ((Bi.made (w.alloc (cInt s l)) _ (by simp) s' l').alloc _).under h, (Bf.made ((w.alloc (cInt s l)).alloc (cInt s' l')) _ (by simp) a b c d).under h⟩

set_option maxHeartbeats 1000000 in
theorem reduce_z (s s' a : Int) (l l' : ByteArray) (n : Nat) (r : Rat) (hn : 0 < n) (hr : mkRat a n = r) (h1 : Rp s l a) (h2 : Rp s' l' (n : Int)) (w : World) (ht : Tab w) :
    Calls Tryz.prog 70 #[.agg #[.int .i64 s, .string l], .agg #[.int .i64 s', .string l']] w fun e w' => FrPost r w e w' := by
  obtain ⟨G, hG⟩ : ∃ G, Nat.gcd a.natAbs n = G := ⟨_, rfl⟩
  have hG0 : 0 < G := by rw [← hG]; exact Nat.gcd_pos_of_pos_right _ hn
  have TG := Lib.hid (fun w ht => gcd_z s s' a (n : Int) l l' G (Lib.hid (by rw [Int.natAbs_natCast]; exact hG)) h1 h2 w ht)
  by_cases h : G = 1
  · obtain ⟨e1, e2⟩ := one_abs hn hr (by rw [hG, h])
    have HR1 : Rp s l r.num := e1 ▸ h1
    have HR2 : Rp s' l' (r.den : Int) := e2 ▸ h2
    have HD : Hid (decide ((G : Int) = 1) = true) := by show _ = _; rw [h]; rfl
    clear h1 h2 hr hG e1 e2 h hG0 hn
    go_enter Tryz.func70, Tryz.ntmps70
    go_wp2_with fail
    refine (TG.out _ (ht.over (by go_grown))).mono ?_
    rintro e w1 ⟨s1, l1, rfl, h1, b1⟩
    obtain ⟨x2, x3, x4⟩ := bif3 (w := w) b1
    have B1 := Below.over (w := w) (by go_grown) b1
    have hs1 := b1.size
    simp only [World.size_alloc] at hs1
    go_wp2_with fail
    refine (is_z s1 (G : Int) l1 1 true (by decide) HD h1 _).mono ?_
    rintro e w2 ⟨rfl, b2⟩
    have B2 := Below.over (w := w) ((B1.alloc (by omega) _)) b2
    have y2 := (x2.alloc (cInt s1 l1)).under b2
    have y3 := (x3.alloc (cInt s1 l1)).under b2
    have y4 := (x4.alloc (cInt s1 l1)).under b2
    have y20 := y2.c0
    have y21 := y2.c1
    have y30 := y3.c0
    have y31 := y3.c1
    have y40 := y4.c0
    have y41 := y4.c1
    have y42 := y4.c2
    have y43 := y4.c3
    have f0 := y4.f 0
    have f1 := y4.f 1
    have f2 := y4.f 2
    have f3 := y4.f 3
    have hs2 := B2.size
    clear x2 x3 x4 b1 b2 TG B1
    go_wp2_with fail
    have hF := y4.put s l s' l'
    have g0 := hF.c0
    have g1 := hF.c1
    have g2 := hF.c2
    have g3 := hF.c3
    refine bodyPost_ret (v := .agg #[.int .i64 s, .string l, .int .i64 s', .string l']) (by simp [results, Tryz.results70, go_sem, g0, g1, g2, g3]) rfl ⟨_, _, _, _, rfl, HR1, HR2, by go_grown⟩
  · obtain ⟨e1, e2⟩ := red_abs hn hr hG
    have TQ1 := Lib.hid (fun s1 l1 (hg : Rp s1 l1 (G : Int)) w ht => quo_z s s1 a (G : Int) r.num l l1 (by omega) (Lib.hid e1) h1 hg w ht)
    have TQ2 := Lib.hid (fun s1 l1 (hg : Rp s1 l1 (G : Int)) w ht => quo_z s' s1 (n : Int) (G : Int) (r.den : Int) l' l1 (by omega) (Lib.hid e2) h2 hg w ht)
    have HD : Hid (decide ((G : Int) = 1) = false) := by show _ = _; exact decide_eq_false (by omega)
    clear h1 h2 hr hG e1 e2 h hG0 hn
    go_enter Tryz.func70, Tryz.ntmps70
    go_wp2_with fail
    refine (TG.out _ (ht.over (by go_grown))).mono ?_
    rintro e w1 ⟨s1, l1, rfl, h1, b1⟩
    obtain ⟨x2, x3, x4⟩ := bif3 (w := w) b1
    have B1 := Below.over (w := w) (by go_grown) b1
    have hs1 := b1.size
    simp only [World.size_alloc] at hs1
    go_wp2_with fail
    refine (is_z s1 (G : Int) l1 1 false (by decide) HD h1 _).mono ?_
    rintro e w2 ⟨rfl, b2⟩
    have B2 := Below.over (w := w) ((B1.alloc (by omega) _)) b2
    have y2 := (x2.alloc (cInt s1 l1)).under b2
    have y3 := (x3.alloc (cInt s1 l1)).under b2
    have y4 := (x4.alloc (cInt s1 l1)).under b2
    have y5 := (Bi.made w1 _ rfl s1 l1).under b2
    have TQA := Lib.hid (fun w ht => TQ1.out s1 l1 h1 w ht)
    have TQB := Lib.hid (fun w ht => TQ2.out s1 l1 h1 w ht)
    have y20 := y2.c0
    have y21 := y2.c1
    have y30 := y3.c0
    have y31 := y3.c1
    have y50 := y5.c0
    have y51 := y5.c1
    clear x2 x3 x4 b1 b2 TG B1 TQ1 TQ2 h1
    go_wp2_with fail
    go_region_held3 (fun w' => w'.cell? ⟨w.heap.size, 0, none⟩ = some (.int .i64 s) ∧ w'.cell? ⟨w.heap.size, 1, none⟩ = some (.string l) ∧ w'.cell? ⟨w.heap.size + 1, 0, none⟩ = some (.int .i64 s') ∧ w'.cell? ⟨w.heap.size + 1, 1, none⟩ = some (.string l') ∧ w'.cell? ⟨w1.heap.size, 0, none⟩ = some (.int .i64 s1) ∧ w'.cell? ⟨w1.heap.size, 1, none⟩ = some (.string l1))
      (first
        | (go_split_ands
           refine ⟨?_, ?_, ?_, ?_, ?_, ?_⟩ <;> first
             | ((with_reducible refine Below.keepc b4 ?_); assumption)
             | ((with_reducible refine Below.keepc b3 ?_); assumption)
             | ((with_reducible refine far4 ?_ ?_); assumption; (dsimp only; omega)))
        | go_keep)
      (first
        | (go_at_call 46; (with_reducible refine (TQA.out _ ?_).mono ?_); (exact ht.over B2.drew); rintro e w3 ⟨s3, l3, rfl, h3, b3⟩; have B3 := Below.over B2.drew b3; have z4 := y4.under (Below.undrew b3))
        | (go_at_call 46; (with_reducible refine (TQB.out _ ?_).mono ?_); (exact ht.over B3); rintro e w4 ⟨s4, l4, rfl, h4, b4⟩; have B4 := Below.over B3 b4; have v4 := z4.under b4; have v40 := v4.c0; have v41 := v4.c1; have v42 := v4.c2; have v43 := v4.c3; have f0 := v4.f 0; have f1 := v4.f 1; have f2 := v4.f 2; have f3 := v4.f 3))
    all_goals
      have hs4 := B4.size
      clear b3 b4 B2 B3 TQA TQB
      go_wp2_with fail
      have hF := v4.put s3 l3 s4 l4
      have g0 := hF.c0
      have g1 := hF.c1
      have g2 := hF.c2
      have g3 := hF.c3
      refine bodyPost_ret (v := .agg #[.int .i64 s3, .string l3, .int .i64 s4, .string l4]) (by simp [results, Tryz.results70, go_sem, g0, g1, g2, g3]) rfl ⟨_, _, _, _, rfl, h3, h4, by go_grown⟩

end Go.Proofs.YthamlnolfagpiaaGreatDoor.D

