/-
  DERIVED. The walks of ratio's exported functions: Compare.
-/
import Derived.Test.YthamlnolfagpiaaGreatDoorRatTops
import Derived.Test.YthamlnolfagpiaaGreatDoorRatCmp
namespace Go.Proofs.YthamlnolfagpiaaGreatDoor.D
open Go.RowKit
set_option maxRecDepth 8000

theorem rCompare_bad (a b : ByteArray) (h : rightR a.data.toList = false ∨ rightR b.data.toList = false) (ha : a.size ≤ 100000) (hb : b.size ≤ 100000) (w : World) (ht : Tab w) :
    Calls Tryz.prog 20 #[.string a, .string b] w fun e w' => e = .returned (.int .i64 0) ∧ Below w.heap.size w w' := by
  have TP := Lib.hid (fun w ht => pair_bad a b h ha hb w ht)
  clear h
  go_enter Tryz.func20, Tryz.ntmps20
  go_wp2_with fail
  refine (TP.out _ ht).mono ?_
  rintro e w1 ⟨s, l, s', l', t, k, t', k', rfl, _, _, b1⟩
  have hs1 := b1.size
  go_wp2_with fail
  go_ret
  exact ⟨rfl, by go_grown⟩
theorem al2b {W w' : World} {s : Int} {l : ByteArray} {o : Obj} (h : Below ((W.alloc (.cells #[.int .i64 s, .string l] 46)).alloc o).heap.size ((W.alloc (.cells #[.int .i64 s, .string l] 46)).alloc o) w') : Bi w' W.heap.size s l := ((Bi.made W _ rfl s l).alloc o).under h
set_option maxHeartbeats 8000000 in
theorem rCompare_r (r s : Rat) (c : Int) (hc : cmpR r s = c) (hr : Sz 1900 r) (hs : Sz 1900 s) (w : World) (ht : Tab w) :
    Calls Tryz.prog 20 #[.string (rtx r), .string (rtx s)] w fun e w' => e = .returned (.int .i64 c) ∧ Below w.heap.size w w' := by
  have TP := Lib.hid (fun w ht => pair_r r s (sz_mono hr (by omega)) (sz_mono hs (by omega)) w ht)
  have f1 := nda_mul (x := r.num) (y := (s.den : Int)) rfl hr.1 (nd_den hs)
  have f2 := nda_mul (x := s.num) (y := (r.den : Int)) rfl hs.1 (nd_den hr)
  have hcc : cmpI (r.num * s.den) (s.num * r.den) = c := by rw [cmpI_crs]; exact hc
  clear hc
  go_enter Tryz.func20, Tryz.ntmps20
  go_wp2_with fail
  refine (TP.out _ ht).mono ?_
  rintro e w1 ⟨s1, l1, s2, l2, s3, l3, s4, l4, rfl, ⟨i1, i2⟩, ⟨i3, i4⟩, b1⟩
  have hs1 := b1.size
  have x := (Bf.made w1 _ rfl s1 l1 s2 l2).alloc (.cells #[.int .i64 s3, .string l3, .int .i64 s4, .string l4] 48)
  have y := Bf.made (w1.alloc (.cells #[.int .i64 s1, .string l1, .int .i64 s2, .string l2] 48)) (w1.heap.size + 1) (by simp) s3 l3 s4 l4
  have BX : Below w.heap.size w ((w1.alloc (.cells #[.int .i64 s1, .string l1, .int .i64 s2, .string l2] 48)).alloc (.cells #[.int .i64 s3, .string l3, .int .i64 s4, .string l4] 48)) := by go_grown
  have TA := Lib.hid (fun n w ht => mul_fit n s1 r.num s4 (s.den : Int) _ l1 l4 i1 i4 (Lib.hid rfl) (by omega) w ht)
  have TB := Lib.hid (fun n w ht => mul_fit n s3 s.num s2 (r.den : Int) _ l3 l2 i3 i2 (Lib.hid rfl) (by omega) w ht)
  generalize r.num * (s.den : Int) = z1 at *
  generalize s.num * (r.den : Int) = z2 at *
  have TC := Lib.hid (fun t1 t2 k1 k2 (h1 : Rp t1 k1 z1) (h2 : Rp t2 k2 z2) w ht => cmpq_z t1 t2 z1 z2 c k1 k2 hcc h1 h2 w ht)
  replace x := x.alloc (.cells #[.int .i64 0] 64)
  replace y := y.alloc (.cells #[.int .i64 0] 64)
  have c8 := Bc.made ((w1.alloc (.cells #[.int .i64 s1, .string l1, .int .i64 s2, .string l2] 48)).alloc (.cells #[.int .i64 s3, .string l3, .int .i64 s4, .string l4] 48)) (w1.heap.size + 2) (by simp) 0
  replace BX : Below w.heap.size w (((w1.alloc (.cells #[.int .i64 s1, .string l1, .int .i64 s2, .string l2] 48)).alloc (.cells #[.int .i64 s3, .string l3, .int .i64 s4, .string l4] 48)).alloc (.cells #[.int .i64 0] 64)) := BX.alloc BX.size _
  clear i1 i2 i3 i4 TP f1 f2 hcc
  go_upto_region 5 with fail
  generalize ((w1.alloc (.cells #[.int .i64 s1, .string l1, .int .i64 s2, .string l2] 48)).alloc (.cells #[.int .i64 s3, .string l3, .int .i64 s4, .string l4] 48)).alloc (.cells #[.int .i64 0] 64) = W1 at x y c8 BX ⊢
  have kW := BX.size
  go_cut [9, 10] (fun t9 t10 wx => ∃ (A B : Nat) (s5 s6 : Int) (l5 l6 : ByteArray), t9 = .pointer (some ⟨A, 0, none⟩) ∧ t10 = .pointer (some ⟨B, 0, none⟩) ∧ Hid (Rp s5 l5 z1) ∧ Hid (Rp s6 l6 z2) ∧ Hid (Bi wx A s5 l5) ∧ Hid (Bi wx B s6 l6) ∧ Below W1.heap.size W1 wx)
  case first =>
    obtain ⟨d1, d2, d3, d4⟩ := x.all
    obtain ⟨d5, d6, d7, d8⟩ := y.all
    have kx := x.lt
    have ky := y.lt
    have kc := c8.lt
    go_region_held3 (fun w' => w'.cell? ⟨w1.heap.size, 0, none⟩ = some (.int .i64 s1) ∧ w'.cell? ⟨w1.heap.size, 1, none⟩ = some (.string l1) ∧ w'.cell? ⟨w1.heap.size, 2, none⟩ = some (.int .i64 s2) ∧ w'.cell? ⟨w1.heap.size, 3, none⟩ = some (.string l2) ∧ w'.cell? ⟨w1.heap.size + 1, 0, none⟩ = some (.int .i64 s3) ∧ w'.cell? ⟨w1.heap.size + 1, 1, none⟩ = some (.string l3) ∧ w'.cell? ⟨w1.heap.size + 1, 2, none⟩ = some (.int .i64 s4) ∧ w'.cell? ⟨w1.heap.size + 1, 3, none⟩ = some (.string l4))
      (first
        | (go_split_ands
           refine ⟨?_, ?_, ?_, ?_, ?_, ?_, ?_, ?_⟩ <;> first
             | with_reducible assumption
             | ((with_reducible refine Below.keepc b6 ?_); (with_reducible assumption))
             | ((with_reducible refine Below.keepc b5 ?_); (with_reducible assumption))
             | ((repeat' (first
                 | with_reducible assumption
                 | (with_reducible refine cell_dr ?_)
                 | (with_reducible refine cell_al ?_)
                 | (with_reducible refine cell_far ?_ ?_)
                 | (dsimp only; omega))); done))
        | go_keep)
      (first
        | (go_at_call 51; (with_reducible refine (TA.out _ _ ?_).mono ?_); (exact ht.over (by go_grown)); rintro e w5 ⟨s5, l5, rfl, h5, b5⟩
           have B5 := Below.over (w := w) (by go_grown) b5
           have C5 : Below W1.heap.size W1 w5 := Below.over (w := W1) (by go_grown) b5
           have k5 := C5.size
           try ((with_reducible have p1 := al1b (Below.undrew b5)); try simp only [World.size_alloc] at p1)
           try ((with_reducible have p2 := al2b (Below.undrew b5)); try simp only [World.size_alloc] at p2))
        | (go_at_call 51; (with_reducible refine (TB.out _ _ ?_).mono ?_); (exact ht.over (by go_grown)); rintro e w6 ⟨s6, l6, rfl, h6, b6⟩
           have B6 := Below.over (w := w) (by go_grown) b6
           have C6 : Below W1.heap.size W1 w6 := Below.over (w := W1) (by go_grown) b6
           have k6 : w5.heap.size ≤ w6.heap.size := (by have := b6.size; (try simp at this); omega)
           have y2 := x.under C6
           have y7 := y.under C6
           obtain ⟨v1, v2, v3, v4⟩ := y2.all
           obtain ⟨v5, v6, v7, v8⟩ := y7.all
           try (first | (with_reducible have q1 := p1.under b6) | (with_reducible have q1 := (p1.alloc _).under b6) | (with_reducible have q1 := ((p1.alloc _).alloc _).under b6))
           try (first | (with_reducible have q2 := p2.under b6) | (with_reducible have q2 := (p2.alloc _).under b6) | (with_reducible have q2 := ((p2.alloc _).alloc _).under b6))
           try ((with_reducible have q3 := al1b b6); try simp only [World.size_alloc] at q3)
           try ((with_reducible have q4 := al2b b6); try simp only [World.size_alloc] at q4)
           try (have k7 := q3.lt)
           try (have k8 := q4.lt)
           try (have k9 := p1.lt)
           try (have k10 := p2.lt)
           try (have k11 := q1.lt)
           try (have k12 := q2.lt)
           try (obtain ⟨a1, a2, a3, a4⟩ := q1.all)
           try (obtain ⟨a5, a6, a7, a8⟩ := q2.all)
           try (obtain ⟨a9, a10, a11, a12⟩ := q3.all)
           try (obtain ⟨a13, a14, a15, a16⟩ := q4.all)))
    all_goals
      clear TA TB TC
      go_wp2_with fail
      go_meet
      refine ⟨_, _, s5, s6, l5, l6, rfl, rfl, h5, h6, Lib.hid ?_, Lib.hid ?_, (by go_grown)⟩
      all_goals
        (repeat' (first
            | (with_reducible assumption)
            | (with_reducible refine Bi.put (s := 0) (l := ⟨#[]⟩) ?_ _ _)
            | ((with_reducible refine Bi.made _ _ ?_ _ _); (first | rfl | omega | (simp <;> omega)))
            | (with_reducible refine Bi.alloc ?_ _)
            | (with_reducible refine Bi.far ?_ ?_ _)
            | (dsimp only; omega)))
  case rest =>
    obtain ⟨A, B, s5, s6, l5, l6, rfl, rfl, h5, h6, HA, HB, bx⟩ := hcut
    clear TA TB
    have Bx := Below.over BX bx
    replace c8 := c8.under bx
    have c80 := c8.c0
    have a0 := HA.out.c0
    have a1 := HA.out.c1
    have e0 := HB.out.c0
    have e1 := HB.out.c1
    go_wp2_with fail
    refine (TC.out s5 s6 l5 l6 h5.out h6.out _ (ht.over Bx)).mono ?_
    rintro e w7 ⟨rfl, b7⟩
    go_wp2_with fail
    go_ret
    exact ⟨rfl, Below.over Bx b7⟩
end Go.Proofs.YthamlnolfagpiaaGreatDoor.D

