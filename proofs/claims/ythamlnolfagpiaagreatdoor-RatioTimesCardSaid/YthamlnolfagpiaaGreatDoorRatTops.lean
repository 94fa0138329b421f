/-
  DERIVED. Merged by mkrat.py: RatTop1, RatTop2, RatTop3.
-/
import Derived.Test.YthamlnolfagpiaaGreatDoorRatFracs
import Derived.Test.YthamlnolfagpiaaGreatDoorRatParse
import Derived.Test.YthamlnolfagpiaaGreatDoorRatSum
import Derived.Test.YthamlnolfagpiaaGreatDoorRatFrac2
namespace Go.Proofs.YthamlnolfagpiaaGreatDoor.D
open Go.RowKit
set_option maxRecDepth 8000

theorem rRight_any (s : ByteArray) (hs : s.size ≤ 100000) (w : World) (ht : Tab w) :
    Calls Tryz.prog 14 #[.string s] w fun e w' => e = .returned (.bool (rightR s.data.toList)) ∧ Below w.heap.size w w' := by
  cases h : rightR s.data.toList
  · have TP := Lib.hid (fun w ht => parse_bad s h hs w ht)
    clear h
    go_enter Tryz.func14, Tryz.ntmps14
    go_wp2_with fail
    refine (TP.out _ ht).mono ?_
    rintro e w1 ⟨rfl, b1⟩
    have hs1 := b1.size
    go_wp2_with fail
    go_ret
    exact ⟨rfl, by go_grown⟩
  · obtain ⟨r, hr, rfl⟩ := rightR_str s h
    have TP := Lib.hid (fun w ht => parse_r r hr w ht)
    clear h
    go_enter Tryz.func14, Tryz.ntmps14
    go_wp2_with fail
    refine (TP.out _ ht).mono ?_
    rintro e w1 ⟨s, l, s', l', rfl, _, _, b1⟩
    have hs1 := b1.size
    go_wp2_with fail
    go_ret
    exact ⟨rfl, by go_grown⟩
theorem rOf_any (z : Int) (h1 : -9223372036854775808 ≤ z) (h2 : z ≤ 9223372036854775807) (w : World) (ht : Tab w) :
    Calls Tryz.prog 34 #[.int .i64 z] w fun e w' => e = .returned (.string (inum z)) ∧ Below w.heap.size w w' := by
  go_enter Tryz.func34, Tryz.ntmps34
  go_wp2_with fail
  refine (wOf_any z h1 h2 _ ht).mono ?_
  rintro e w1 ⟨rfl, b1⟩
  have hs1 := b1.size
  go_wp2_with fail
  go_ret
  exact ⟨rfl, b1⟩
theorem rParts_bad (a : ByteArray) (h : rightR a.data.toList = false) (ha : a.size ≤ 100000) (w : World) (ht : Tab w) :
    Calls Tryz.prog 12 #[.string a] w fun e w' => e = .returned (.tuple #[.string ⟨#[]⟩, .string ⟨#[]⟩, .int .i64 3]) ∧ Below w.heap.size w w' := by
  have TP := Lib.hid (fun w ht => parse_bad a h ha w ht)
  clear h
  go_enter Tryz.func12, Tryz.ntmps12
  go_wp2_with fail
  refine (TP.out _ ht).mono ?_
  rintro e w1 ⟨rfl, b1⟩
  have hs1 := b1.size
  go_wp2_with fail
  go_ret3
  exact ⟨rfl, by first | exact b1 | go_grown⟩
theorem rSign_bad (a : ByteArray) (h : rightR a.data.toList = false) (ha : a.size ≤ 100000) (w : World) (ht : Tab w) :
    Calls Tryz.prog 22 #[.string a] w fun e w' => e = .returned (.int .i64 0) ∧ Below w.heap.size w w' := by
  have TP := Lib.hid (fun w ht => parse_bad a h ha w ht)
  clear h
  go_enter Tryz.func22, Tryz.ntmps22
  go_wp2_with fail
  refine (TP.out _ ht).mono ?_
  rintro e w1 ⟨rfl, b1⟩
  have hs1 := b1.size
  go_wp2_with fail
  go_ret
  exact ⟨rfl, by first | exact b1 | go_grown⟩
theorem rFloor_bad (a : ByteArray) (h : rightR a.data.toList = false) (ha : a.size ≤ 100000) (w : World) (ht : Tab w) :
    Calls Tryz.prog 16 #[.string a] w fun e w' => e = .returned (.tuple #[.string ⟨#[]⟩, .int .i64 3]) ∧ Below w.heap.size w w' := by
  have TP := Lib.hid (fun w ht => parse_bad a h ha w ht)
  clear h
  go_enter Tryz.func16, Tryz.ntmps16
  go_wp2_with fail
  refine (TP.out _ ht).mono ?_
  rintro e w1 ⟨rfl, b1⟩
  have hs1 := b1.size
  go_wp2_with fail
  go_ret2
  exact ⟨rfl, by first | exact b1 | go_grown⟩
theorem rCeil_bad (a : ByteArray) (h : rightR a.data.toList = false) (ha : a.size ≤ 100000) (w : World) (ht : Tab w) :
    Calls Tryz.prog 18 #[.string a] w fun e w' => e = .returned (.tuple #[.string ⟨#[]⟩, .int .i64 3]) ∧ Below w.heap.size w w' := by
  have TP := Lib.hid (fun w ht => parse_bad a h ha w ht)
  clear h
  go_enter Tryz.func18, Tryz.ntmps18
  go_wp2_with fail
  refine (TP.out _ ht).mono ?_
  rintro e w1 ⟨rfl, b1⟩
  have hs1 := b1.size
  go_wp2_with fail
  go_ret2
  exact ⟨rfl, by first | exact b1 | go_grown⟩
set_option maxHeartbeats 1000000 in
theorem rParts_r (r : Rat) (hr : Sz 4096 r) (w : World) (ht : Tab w) :
    Calls Tryz.prog 12 #[.string (rtx r)] w fun e w' => e = .returned (.tuple #[.string (inum r.num), .string (num r.den), .int .i64 0]) ∧ Below w.heap.size w w' := by
  have TP := Lib.hid (fun w ht => parse_r r hr w ht)
  go_enter Tryz.func12, Tryz.ntmps12
  go_wp2_with fail
  refine (TP.out _ ht).mono ?_
  rintro e w1 ⟨s, l, s', l', rfl, h1, h2, b1⟩
  have hs1 := b1.size
  have x := Bf.made w1 _ rfl s l s' l'
  obtain ⟨c0, c1, c2, c3⟩ := (show _ ∧ _ ∧ _ ∧ _ from ⟨x.c0, x.c1, x.c2, x.c3⟩)
  have BX : Below w.heap.size w (w1.alloc (.cells #[.int .i64 s, .string l, .int .i64 s', .string l'] 48)) := b1.alloc b1.size _
  have T1 := Lib.hid (fun w ht => text_z s r.num l h1 w ht)
  have T2 := Lib.hid (fun w ht => text_z s' (r.den : Int) l' h2 w ht)
  have HX : Hid (inum (r.den : Int) = num r.den) := inum_nat _
  clear h1 h2 TP
  go_wp2_with fail
  go_region_held3 (fun w' => w'.cell? ⟨w1.heap.size, 0, none⟩ = some (.int .i64 s) ∧ w'.cell? ⟨w1.heap.size, 1, none⟩ = some (.string l) ∧ w'.cell? ⟨w1.heap.size, 2, none⟩ = some (.int .i64 s') ∧ w'.cell? ⟨w1.heap.size, 3, none⟩ = some (.string l'))
    (first
      | (go_split_ands
         refine ⟨?_, ?_, ?_, ?_⟩ <;> first
           | with_reducible assumption
           | ((with_reducible refine Below.keepc b3 ?_); (with_reducible assumption))
           | ((with_reducible refine Below.keepc b2 ?_); (with_reducible assumption))
           | ((repeat' (first
               | with_reducible assumption
               | (with_reducible refine cell_dr ?_))); done))
      | go_keep)
    (first
      | (go_at_call 39; (with_reducible refine (T1.out _ ?_).mono ?_); (exact ht.over (by go_grown)); rintro e w2 ⟨rfl, b2⟩; have B2 := Below.over (w := w) (by go_grown) b2)
      | (go_at_call 39; (with_reducible refine (T2.out _ ?_).mono ?_); (exact ht.over (by go_grown)); rintro e w3 ⟨rfl, b3⟩; have B3 := Below.over (w := w) (by go_grown) b3))
  all_goals
    go_wp2_with fail
    go_ret3
    exact ⟨by rw [HX.out]; rfl, B3⟩
set_option maxHeartbeats 1000000 in
theorem rSign_r (r : Rat) (c : Int) (hc : sgnI r.num = c) (hr : Sz 4096 r) (w : World) (ht : Tab w) :
    Calls Tryz.prog 22 #[.string (rtx r)] w fun e w' => e = .returned (.int .i64 c) ∧ Below w.heap.size w w' := by
  have TP := Lib.hid (fun w ht => parse_r r hr w ht)
  have HC := Lib.hid hc
  clear hc
  go_enter Tryz.func22, Tryz.ntmps22
  go_wp2_with fail
  refine (TP.out _ ht).mono ?_
  rintro e w1 ⟨s, l, s', l', rfl, h1, h2, b1⟩
  have hs1 := b1.size
  have x := Bf.made w1 _ rfl s l s' l'
  obtain ⟨c0, c1, c2, c3⟩ := (show _ ∧ _ ∧ _ ∧ _ from ⟨x.c0, x.c1, x.c2, x.c3⟩)
  have BX : Below w.heap.size w (w1.alloc (.cells #[.int .i64 s, .string l, .int .i64 s', .string l'] 48)) := b1.alloc b1.size _
  have T1 := Lib.hid (fun w ht => sign_z s r.num l c HC h1 w ht)
  clear h1 h2 TP
  go_wp2_with fail
  refine (T1.out _ (ht.over BX)).mono ?_
  rintro e w2 ⟨rfl, b2⟩
  go_wp2_with fail
  go_ret
  exact ⟨rfl, Below.over BX b2⟩
set_option maxHeartbeats 1000000 in
theorem rFloor_r (r : Rat) (f : Int) (hf : flo r = f) (hr : Sz 1900 r) (w : World) (ht : Tab w) :
    Calls Tryz.prog 16 #[.string (rtx r)] w fun e w' => e = .returned (.tuple #[.string (inum f), .int .i64 0]) ∧ Below w.heap.size w w' := by
  have TP := Lib.hid (fun w ht => parse_r r (sz_mono hr (by omega)) w ht)
  have HQ : Hid (r.num / (r.den : Int) = f) := hf
  have hd := den_pos' r
  clear hf
  go_enter Tryz.func16, Tryz.ntmps16
  go_wp2_with fail
  refine (TP.out _ ht).mono ?_
  rintro e w1 ⟨s, l, s', l', rfl, h1, h2, b1⟩
  have hs1 := b1.size
  have x := Bf.made w1 _ rfl s l s' l'
  obtain ⟨c0, c1, c2, c3⟩ := (show _ ∧ _ ∧ _ ∧ _ from ⟨x.c0, x.c1, x.c2, x.c3⟩)
  have BX : Below w.heap.size w (w1.alloc (.cells #[.int .i64 s, .string l, .int .i64 s', .string l'] 48)) := b1.alloc b1.size _
  have T1 := Lib.hid (fun w ht => quo_z s s' r.num (r.den : Int) f l l' hd HQ h1 h2 w ht)
  clear h1 h2 TP
  go_wp2_with fail
  refine (T1.out _ (ht.over BX)).mono ?_
  rintro e w2 ⟨s2, l2, rfl, h2, b2⟩
  have B2 := Below.over BX b2
  go_wp2_with fail
  refine (text_z s2 f l2 h2 _ (ht.over B2)).mono ?_
  rintro e w3 ⟨rfl, b3⟩
  go_wp2_with fail
  go_ret2
  exact ⟨rfl, Below.over B2 b3⟩
set_option maxHeartbeats 1000000 in
theorem rCeil_r (r : Rat) (f : Int) (hf : cei r = f) (hr : Sz 1900 r) (w : World) (ht : Tab w) :
    Calls Tryz.prog 18 #[.string (rtx r)] w fun e w' => e = .returned (.tuple #[.string (inum f), .int .i64 0]) ∧ Below w.heap.size w w' := by
  have TP := Lib.hid (fun w ht => parse_r r (sz_mono hr (by omega)) w ht)
  obtain ⟨q, hq⟩ : ∃ q, -r.num / (r.den : Int) = q := ⟨_, rfl⟩
  have HQ := Lib.hid hq
  have HN : Hid (-q = f) := by show _ = _; rw [← hq]; exact hf
  have hd := den_pos' r
  clear hf hq
  go_enter Tryz.func18, Tryz.ntmps18
  go_wp2_with fail
  refine (TP.out _ ht).mono ?_
  rintro e w1 ⟨s, l, s', l', rfl, h1, h2, b1⟩
  have hs1 := b1.size
  have x := Bf.made w1 _ rfl s l s' l'
  obtain ⟨c0, c1, c2, c3⟩ := (show _ ∧ _ ∧ _ ∧ _ from ⟨x.c0, x.c1, x.c2, x.c3⟩)
  have BX : Below w.heap.size w (w1.alloc (.cells #[.int .i64 s, .string l, .int .i64 s', .string l'] 48)) := b1.alloc b1.size _
  have T1 := Lib.hid (fun w ht => opposite_i s r.num (-r.num) l (Lib.hid rfl) h1 w ht)
  have T2 := Lib.hid (fun s2 l2 (h : Rp s2 l2 (-r.num)) w ht => quo_z s2 s' (-r.num) (r.den : Int) q l2 l' hd HQ h h2 w ht)
  have T3 := Lib.hid (fun s3 l3 (h : Rp s3 l3 q) w ht => opposite_i s3 q f l3 HN h w ht)
  have T4 := Lib.hid (fun s4 l4 (h : Rp s4 l4 f) w ht => text_z s4 f l4 h w ht)
  clear h1 h2 TP
  go_wp2_with fail
  go_region_held3 (fun w' => w'.cell? ⟨w1.heap.size, 0, none⟩ = some (.int .i64 s) ∧ w'.cell? ⟨w1.heap.size, 1, none⟩ = some (.string l) ∧ w'.cell? ⟨w1.heap.size, 2, none⟩ = some (.int .i64 s') ∧ w'.cell? ⟨w1.heap.size, 3, none⟩ = some (.string l'))
    (first
      | (go_split_ands
         refine ⟨?_, ?_, ?_, ?_⟩ <;> first
           | with_reducible assumption
           | ((with_reducible refine Below.keepc b5 ?_); (with_reducible assumption))
           | ((with_reducible refine Below.keepc b4 ?_); (with_reducible assumption))
           | ((with_reducible refine Below.keepc b3 ?_); (with_reducible assumption))
           | ((with_reducible refine Below.keepc b2 ?_); (with_reducible assumption))
           | ((repeat' (first
               | with_reducible assumption
               | (with_reducible refine cell_dr ?_))); done))
      | go_keep)
    (first
      | (go_at_call 48; (with_reducible refine (T1.out _ ?_).mono ?_); (exact ht.over (by go_grown)); rintro e w2 ⟨s2, l2, rfl, h2, b2⟩; have B2 := Below.over (w := w) (by go_grown) b2)
      | (go_at_call 46; (with_reducible refine (T2.out s2 l2 h2 _ ?_).mono ?_); (exact ht.over (by go_grown)); rintro e w3 ⟨s3, l3, rfl, h3, b3⟩; have B3 := Below.over (w := w) (by go_grown) b3)
      | (go_at_call 48; (with_reducible refine (T3.out s3 l3 h3 _ ?_).mono ?_); (exact ht.over (by go_grown)); rintro e w4 ⟨s4, l4, rfl, h4, b4⟩; have B4 := Below.over (w := w) (by go_grown) b4)
      | (go_at_call 39; (with_reducible refine (T4.out s4 l4 h4 _ ?_).mono ?_); (exact ht.over (by go_grown)); rintro e w5 ⟨rfl, b5⟩; have B5 := Below.over (w := w) (by go_grown) b5))
  all_goals
    go_wp2_with fail
    go_ret2
    exact ⟨rfl, B5⟩
end Go.Proofs.YthamlnolfagpiaaGreatDoor.D

namespace Go.Proofs.YthamlnolfagpiaaGreatDoor.D
open Go.RowKit
set_option maxRecDepth 8000

theorem rMul_bad (a b : ByteArray) (h : rightR a.data.toList = false ∨ rightR b.data.toList = false) (ha : a.size ≤ 100000) (hb : b.size ≤ 100000) (w : World) (ht : Tab w) :
    Calls Tryz.prog 28 #[.string a, .string b] w fun e w' => e = .returned (.tuple #[.string ⟨#[]⟩, .int .i64 3]) ∧ Below w.heap.size w w' := by
  have TP := Lib.hid (fun w ht => pair_bad a b h ha hb w ht)
  clear h
  go_enter Tryz.func28, Tryz.ntmps28
  go_wp2_with fail
  refine (TP.out _ ht).mono ?_
  rintro e w1 ⟨s, l, s', l', t, k, t', k', rfl, _, _, b1⟩
  have hs1 := b1.size
  go_wp2_with fail
  go_ret2
  exact ⟨rfl, by first | exact b1 | go_grown⟩
theorem rAdd_bad (a b : ByteArray) (h : rightR a.data.toList = false ∨ rightR b.data.toList = false) (ha : a.size ≤ 100000) (hb : b.size ≤ 100000) (w : World) (ht : Tab w) :
    Calls Tryz.prog 24 #[.string a, .string b] w fun e w' => e = .returned (.tuple #[.string ⟨#[]⟩, .int .i64 3]) ∧ Below w.heap.size w w' := by
  have TP := Lib.hid (fun w ht => pair_bad a b h ha hb w ht)
  clear h
  go_enter Tryz.func24, Tryz.ntmps24
  go_wp2_with fail
  refine (TP.out _ ht).mono ?_
  rintro e w1 ⟨s, l, s', l', t, k, t', k', rfl, _, _, b1⟩
  have hs1 := b1.size
  go_wp2_with fail
  go_ret2
  exact ⟨rfl, by first | exact b1 | go_grown⟩
theorem rSub_bad (a b : ByteArray) (h : rightR a.data.toList = false ∨ rightR b.data.toList = false) (ha : a.size ≤ 100000) (hb : b.size ≤ 100000) (w : World) (ht : Tab w) :
    Calls Tryz.prog 26 #[.string a, .string b] w fun e w' => e = .returned (.tuple #[.string ⟨#[]⟩, .int .i64 3]) ∧ Below w.heap.size w w' := by
  have TP := Lib.hid (fun w ht => pair_bad a b h ha hb w ht)
  clear h
  go_enter Tryz.func26, Tryz.ntmps26
  go_wp2_with fail
  refine (TP.out _ ht).mono ?_
  rintro e w1 ⟨s, l, s', l', t, k, t', k', rfl, _, _, b1⟩
  have hs1 := b1.size
  go_wp2_with fail
  go_ret2
  exact ⟨rfl, by first | exact b1 | go_grown⟩
theorem rDiv_bad (a b : ByteArray) (h : rightR a.data.toList = false ∨ rightR b.data.toList = false) (ha : a.size ≤ 100000) (hb : b.size ≤ 100000) (w : World) (ht : Tab w) :
    Calls Tryz.prog 30 #[.string a, .string b] w fun e w' => e = .returned (.tuple #[.string ⟨#[]⟩, .int .i64 3]) ∧ Below w.heap.size w w' := by
  have TP := Lib.hid (fun w ht => pair_bad a b h ha hb w ht)
  clear h
  go_enter Tryz.func30, Tryz.ntmps30
  go_wp2_with fail
  refine (TP.out _ ht).mono ?_
  rintro e w1 ⟨s, l, s', l', t, k, t', k', rfl, _, _, b1⟩
  have hs1 := b1.size
  go_wp2_with fail
  go_ret2
  exact ⟨rfl, by first | exact b1 | go_grown⟩
set_option maxHeartbeats 1000000 in
theorem rMul_r (r s t : Rat) (h : r * s = t) (hr : Sz 1900 r) (hs : Sz 1900 s) (w : World) (ht : Tab w) :
    Calls Tryz.prog 28 #[.string (rtx r), .string (rtx s)] w fun e w' => e = .returned (.tuple #[.string (rtx t), .int .i64 0]) ∧ Below w.heap.size w w' := by
  have TP := Lib.hid (fun w ht => pair_r r s (sz_mono hr (by omega)) (sz_mono hs (by omega)) w ht)
  have HFIT : Hid (nd (r.num * s.num).natAbs ≤ 4096 ∧ nd (r.den * s.den) ≤ 4096) := by
    have h1 := nda_mul (x := r.num) (y := s.num) rfl hr.1 hs.1
    have h2 := nd_mulN hr.2 hs.2
    exact ⟨by omega, by omega⟩
  have hm : 0 < r.den * s.den := Nat.mul_pos (rat_den_pos _) (rat_den_pos _)
  have hq : mkRat (r.num * s.num) (r.den * s.den) = t := by rw [mul_quot]; exact h
  clear h
  go_enter Tryz.func28, Tryz.ntmps28
  go_wp2_with fail
  refine (TP.out _ ht).mono ?_
  rintro e w1 ⟨s1, l1, s2, l2, s3, l3, s4, l4, rfl, ⟨i1, i2⟩, ⟨i3, i4⟩, b1⟩
  have hs1 := b1.size
  have x := (Bf.made w1 _ rfl s1 l1 s2 l2).alloc (.cells #[.int .i64 s3, .string l3, .int .i64 s4, .string l4] 48)
  have y := Bf.made (w1.alloc (.cells #[.int .i64 s1, .string l1, .int .i64 s2, .string l2] 48)) (w1.heap.size + 1) (by simp) s3 l3 s4 l4
  have BX : Below w.heap.size w ((w1.alloc (.cells #[.int .i64 s1, .string l1, .int .i64 s2, .string l2] 48)).alloc (.cells #[.int .i64 s3, .string l3, .int .i64 s4, .string l4] 48)) := by go_grown
  have TM := Lib.hid (fun w ht => ratProduct_z s1 s2 s3 s4 r.num s.num _ l1 l2 l3 l4 r.den s.den _ t hm hq (Lib.hid rfl) (Lib.hid (Int.natCast_mul _ _).symm) i1 i2 i3 i4 w ht)
  generalize r.num * s.num = P at *
  generalize r.den * s.den = Q at *
  clear i1 i2 i3 i4 hm hq TP
  go_wp2_with fail
  refine (TM.out _ (ht.over BX)).mono ?_
  rintro e w2 hp
  rcases hp with ⟨kx, km, t1, k1, t2, k2, rfl, j1, j2, b2⟩ | ⟨hov, _, _⟩
  · have B2 := Below.over BX b2
    clear kx km
    go_wp2_with fail
    refine (result_z t1 t2 k1 k2 t j1 j2 _ (ht.over B2)).mono ?_
    rintro e w3 ⟨rfl, b3⟩
    go_wp2_with fail
    go_ret2
    exact ⟨rfl, Below.over B2 b3⟩
  · exfalso
    obtain ⟨f1, f2⟩ := HFIT.out
    omega
set_option maxHeartbeats 1000000 in
theorem rMul_over (r s : Rat) (h : 4096 < nd (r.num * s.num).natAbs) (hr : Sz 4096 r) (hs : Sz 4096 s) (w : World) (ht : Tab w) :
    Calls Tryz.prog 28 #[.string (rtx r), .string (rtx s)] w fun e w' => e = .returned (.tuple #[.string ⟨#[]⟩, .int .i64 4]) ∧ Below w.heap.size w w' := by
  have TP := Lib.hid (fun w ht => pair_r r s (sz_mono hr (by omega)) (sz_mono hs (by omega)) w ht)
  have hm : 0 < r.den * s.den := Nat.mul_pos (rat_den_pos _) (rat_den_pos _)
  have HOV := Lib.hid h
  clear h
  go_enter Tryz.func28, Tryz.ntmps28
  go_wp2_with fail
  refine (TP.out _ ht).mono ?_
  rintro e w1 ⟨s1, l1, s2, l2, s3, l3, s4, l4, rfl, ⟨i1, i2⟩, ⟨i3, i4⟩, b1⟩
  have hs1 := b1.size
  have x := (Bf.made w1 _ rfl s1 l1 s2 l2).alloc (.cells #[.int .i64 s3, .string l3, .int .i64 s4, .string l4] 48)
  have y := Bf.made (w1.alloc (.cells #[.int .i64 s1, .string l1, .int .i64 s2, .string l2] 48)) (w1.heap.size + 1) (by simp) s3 l3 s4 l4
  have BX : Below w.heap.size w ((w1.alloc (.cells #[.int .i64 s1, .string l1, .int .i64 s2, .string l2] 48)).alloc (.cells #[.int .i64 s3, .string l3, .int .i64 s4, .string l4] 48)) := by go_grown
  have TM := Lib.hid (fun w ht => ratProduct_z s1 s2 s3 s4 r.num s.num _ l1 l2 l3 l4 r.den s.den _ _ hm rfl (Lib.hid rfl) (Lib.hid (Int.natCast_mul _ _).symm) i1 i2 i3 i4 w ht)
  clear i1 i2 i3 i4 hm TP
  go_wp2_with fail
  refine (TM.out _ (ht.over BX)).mono ?_
  rintro e w2 hp
  rcases hp with ⟨kx, _, _⟩ | ⟨_, rfl, b2⟩
  · exfalso
    have := HOV.out
    omega
  · have B2 := Below.over BX b2
    go_wp2_with fail
    refine (resultR_over _).mono ?_
    rintro e w3 ⟨rfl, b3⟩
    go_wp2_with fail
    go_ret2
    exact ⟨rfl, Below.over B2 b3⟩
theorem ratSum_one (r s t : Rat) (h : r + s = t) (hfit : Fit r s) (g cap : Nat) (s1 s2 s3 s4 : Int) (l1 l2 l3 l4 : ByteArray) (i1 : Rp s1 l1 r.num) (i2 : Rp s2 l2 (r.den : Int)) (i3 : Rp s3 l3 s.num) (i4 : Rp s4 l4 (s.den : Int)) (w : World) (ht : Tab w) (hel : El w g 0 s3 l3 s4 l4) (hg : g < w.heap.size) :
    Calls Tryz.prog 58 #[.agg #[.int .i64 s1, .string l1, .int .i64 s2, .string l2], .slice (some ⟨g, 0, none⟩) 1 cap] w fun e w' => SmPost t w e w' := by
  refine ratSum_z (fun k => if k = 0 then r else t) (fun _ => s) 1 g cap (fun _ => s3) (fun _ => s4) (fun _ => l3) (fun _ => l4) s1 s2 l1 l2 i1 i2 ?_ ?_ ?_ w ht ?_ hg (by omega)
  · intro k hk
    obtain rfl : k = 0 := by omega
    exact h
  · intro k hk
    obtain rfl : k = 0 := by omega
    exact hfit
  · intro k hk
    exact ⟨i3, i4⟩
  · intro k hk
    obtain rfl : k = 0 := by omega
    exact hel
theorem fit_of {r s : Rat} (hr : Sz 1900 r) (hs : Sz 1900 s) : Fit r s := by
  have h1 := nda_mul (x := r.num) (y := (s.den : Int)) rfl hr.1 (nd_den hs)
  have h2 := nda_mul (x := s.num) (y := (r.den : Int)) rfl hs.1 (nd_den hr)
  have h3 := nda_add (x := r.num * s.den) (y := s.num * r.den) rfl h1 h2
  have h4 := nd_mulN hr.2 hs.2
  exact ⟨by omega, by omega, by omega, by omega⟩
set_option maxHeartbeats 1000000 in
theorem add_fit_r (r s t : Rat) (h : r + s = t) (hr : Sz 4096 r) (hs : Sz 4096 s) (hfit : Fit r s) (w : World) (ht : Tab w) :
    Calls Tryz.prog 24 #[.string (rtx r), .string (rtx s)] w fun e w' => e = .returned (.tuple #[.string (rtx t), .int .i64 0]) ∧ Below w.heap.size w w' := by
  have TP := Lib.hid (fun w ht => pair_r r s hr hs w ht)
  have HT : Hid (r + s = t) := h
  have HFIT := Lib.hid hfit
  clear h hfit
  go_enter Tryz.func24, Tryz.ntmps24
  go_wp2_with fail
  refine (TP.out _ ht).mono ?_
  rintro e w1 ⟨s1, l1, s2, l2, s3, l3, s4, l4, rfl, ⟨i1, i2⟩, ⟨i3, i4⟩, b1⟩
  have hs1 := b1.size
  have x := (Bf.made w1 _ rfl s1 l1 s2 l2).alloc (.cells #[.int .i64 s3, .string l3, .int .i64 s4, .string l4] 48)
  have y := Bf.made (w1.alloc (.cells #[.int .i64 s1, .string l1, .int .i64 s2, .string l2] 48)) (w1.heap.size + 1) (by simp) s3 l3 s4 l4
  have BX : Below w.heap.size w ((w1.alloc (.cells #[.int .i64 s1, .string l1, .int .i64 s2, .string l2] 48)).alloc (.cells #[.int .i64 s3, .string l3, .int .i64 s4, .string l4] 48)) := by go_grown
  have z := Bf.made ((w1.alloc (.cells #[.int .i64 s1, .string l1, .int .i64 s2, .string l2] 48)).alloc (.cells #[.int .i64 s3, .string l3, .int .i64 s4, .string l4] 48)) (w1.heap.size + 2) (by simp) s3 l3 s4 l4
  have hz := z.lt
  have HEL : Hid (El (((w1.alloc (.cells #[.int .i64 s1, .string l1, .int .i64 s2, .string l2] 48)).alloc (.cells #[.int .i64 s3, .string l3, .int .i64 s4, .string l4] 48)).alloc (.cells #[.int .i64 s3, .string l3, .int .i64 s4, .string l4] 48)) (w1.heap.size + 2) 0 s3 l3 s4 l4) := ⟨z.c0, z.c1, z.c2, z.c3⟩
  have TS := Lib.hid (fun g cap w ht hel hg => ratSum_one r s t HT.out HFIT.out g cap s1 s2 s3 s4 l1 l2 l3 l4 i1 i2 i3 i4 w ht hel hg)
  clear i1 i2 i3 i4 TP HFIT HT
  go_wp2_with fail
  refine (TS.out _ 1 _ (ht.over (BX.alloc BX.size _)) HEL.out hz).mono ?_
  rintro e w2 ⟨t1, k1, t2, k2, rfl, ⟨j1, j2⟩, b2⟩
  have B2 := Below.over (w := w) (BX.alloc BX.size _) b2
  clear TS HEL
  go_wp2_with fail
  refine (result_z t1 t2 k1 k2 t j1 j2 _ (ht.over B2)).mono ?_
  rintro e w3 ⟨rfl, b3⟩
  go_wp2_with fail
  go_ret2
  exact ⟨rfl, Below.over B2 b3⟩
theorem rAdd_r (r s t : Rat) (h : r + s = t) (hr : Sz 1900 r) (hs : Sz 1900 s) (w : World) (ht : Tab w) :
    Calls Tryz.prog 24 #[.string (rtx r), .string (rtx s)] w fun e w' => e = .returned (.tuple #[.string (rtx t), .int .i64 0]) ∧ Below w.heap.size w w' :=
  add_fit_r r s t h (sz_mono hr (by omega)) (sz_mono hs (by omega)) (fit_of hr hs) w ht
theorem rAdd_zero (z : Int) (hz : nd z.natAbs ≤ 4096) (w : World) (ht : Tab w) :
    Calls Tryz.prog 24 #[.string (inum z), .string ⟨#[48]⟩] w fun e w' => e = .returned (.tuple #[.string (inum z), .int .i64 0]) ∧ Below w.heap.size w w' := by
  have h := add_fit_r (z : Rat) 0 (z : Rat) (Rat.add_zero _) (sz_int hz (by omega)) (sz_zero (by omega)) (by
    have h0 : nd 0 ≤ 1 := nd_le 0 0 (by decide)
    have h1 : nd 1 ≤ 1 := nd_le 1 0 (by decide)
    refine ⟨?_, ?_, ?_, ?_⟩
    · rw [Rat.num_intCast]; show nd (z * (1 : Int)).natAbs ≤ 4096; rw [Int.mul_one]; exact hz
    · rw [Rat.den_intCast]; show nd ((0 : Int) * (1 : Int)).natAbs ≤ 4096; rw [Int.zero_mul]; show nd 0 ≤ 4096; omega
    · rw [Rat.num_intCast, Rat.den_intCast]; show nd (z * (1 : Int) + (0 : Int) * (1 : Int)).natAbs ≤ 4096; rw [Int.mul_one, Int.zero_mul, Int.add_zero]; exact hz
    · rw [Rat.den_intCast]; show nd 1 ≤ 4096; omega) w ht
  rwa [rtx_int, rtx_zero] at h
end Go.Proofs.YthamlnolfagpiaaGreatDoor.D

namespace Go.Proofs.YthamlnolfagpiaaGreatDoor.D
open Go.RowKit
set_option maxRecDepth 8000

theorem neg_parts (s : Rat) : (-s).num = -s.num ∧ (-s).den = s.den := ⟨Rat.neg_num s, Rat.neg_den s⟩
set_option maxHeartbeats 1000000 in
theorem rSub_r (r s t : Rat) (h : r - s = t) (hr : Sz 1900 r) (hs : Sz 1900 s) (w : World) (ht : Tab w) :
    Calls Tryz.prog 26 #[.string (rtx r), .string (rtx s)] w fun e w' => e = .returned (.tuple #[.string (rtx t), .int .i64 0]) ∧ Below w.heap.size w w' := by
  have TP := Lib.hid (fun w ht => pair_r r s (sz_mono hr (by omega)) (sz_mono hs (by omega)) w ht)
  have HT : Hid (r + -s = t) := by show _ = _; rw [← h, Rat.sub_eq_add_neg]
  have HFIT := Lib.hid (fit_of hr (sz_neg hs))
  have e1 := (neg_parts s).1
  have e2 := (neg_parts s).2
  have HE1 := Lib.hid e1
  have HE2 := Lib.hid e2
  clear h e1 e2
  go_enter Tryz.func26, Tryz.ntmps26
  go_wp2_with fail
  refine (TP.out _ ht).mono ?_
  rintro e w1 ⟨s1, l1, s2, l2, s3, l3, s4, l4, rfl, ⟨i1, i2⟩, ⟨i3, i4⟩, b1⟩
  have hs1 := b1.size
  have x := (Bf.made w1 _ rfl s1 l1 s2 l2).alloc (.cells #[.int .i64 s3, .string l3, .int .i64 s4, .string l4] 48)
  have y := Bf.made (w1.alloc (.cells #[.int .i64 s1, .string l1, .int .i64 s2, .string l2] 48)) (w1.heap.size + 1) (by simp) s3 l3 s4 l4
  have BX : Below w.heap.size w ((w1.alloc (.cells #[.int .i64 s1, .string l1, .int .i64 s2, .string l2] 48)).alloc (.cells #[.int .i64 s3, .string l3, .int .i64 s4, .string l4] 48)) := by go_grown
  have TN := Lib.hid (fun w ht => negative_z s3 s.num (-s.num) s4 l3 l4 (Lib.hid rfl) i3 w ht)
  have TS := Lib.hid (fun s5 l5 (h5 : Rp s5 l5 (-s.num)) g w ht hel hg => ratSum_one r (-s) t HT.out HFIT.out g 1 s1 s2 s5 s4 l1 l2 l5 l4 i1 i2 (by rw [HE1.out]; exact h5) (by rw [HE2.out]; exact i4) w ht hel hg)
  have TR := Lib.hid (fun t1 t2 k1 k2 j1 j2 w ht => result_z t1 t2 k1 k2 t j1 j2 w ht)
  clear i1 i2 i3 i4 TP HFIT HT HE1 HE2
  obtain ⟨c0, c1, c2, c3⟩ := x.all
  obtain ⟨c4, c5, c6, c7⟩ := y.all
  go_wp2_with fail
  go_region_held3 (fun w' => w'.cell? ⟨w1.heap.size, 0, none⟩ = some (.int .i64 s1) ∧ w'.cell? ⟨w1.heap.size, 1, none⟩ = some (.string l1) ∧ w'.cell? ⟨w1.heap.size, 2, none⟩ = some (.int .i64 s2) ∧ w'.cell? ⟨w1.heap.size, 3, none⟩ = some (.string l2) ∧ w'.cell? ⟨w1.heap.size + 1, 0, none⟩ = some (.int .i64 s3) ∧ w'.cell? ⟨w1.heap.size + 1, 1, none⟩ = some (.string l3) ∧ w'.cell? ⟨w1.heap.size + 1, 2, none⟩ = some (.int .i64 s4) ∧ w'.cell? ⟨w1.heap.size + 1, 3, none⟩ = some (.string l4))
    (first
        | (go_split_ands
           refine ⟨?_, ?_, ?_, ?_, ?_, ?_, ?_, ?_⟩ <;> first
             | with_reducible assumption
             | ((with_reducible refine Below.keepc b4 ?_); (with_reducible assumption))
             | ((with_reducible refine Below.keepc b3 ?_); (with_reducible assumption))
             | ((with_reducible refine Below.keepc b2 ?_); (with_reducible assumption))
             | ((repeat' (first
                 | with_reducible assumption
                 | (with_reducible refine cell_dr ?_)
                 | (with_reducible refine cell_al ?_)
                 | (with_reducible refine cell_far ?_ ?_)
                 | (dsimp only; omega))); done))
        | go_keep)
    (first
      | (go_at_call 62; (with_reducible refine (TN.out _ ?_).mono ?_); (exact ht.over (by go_grown)); rintro e w2 ⟨s5, l5, rfl, h5, b2⟩
         have B2 := Below.over (w := w) (by go_grown) b2
         have C2 : w1.heap.size + 2 ≤ w2.heap.size := (by have := b2.size; (try simp at this); omega)
         have z := Bf.made w2 _ rfl s5 l5 s4 l4
         have HEL : Hid (El (w2.alloc (.cells #[.int .i64 s5, .string l5, .int .i64 s4, .string l4] 48)) w2.heap.size 0 s5 l5 s4 l4) := ⟨z.c0, z.c1, z.c2, z.c3⟩
         have x2 := x.under (Below.undrew b2)
         have y2 := y.under (Below.undrew b2)
         have hz := z.lt
         obtain ⟨a0, a1, a2, a3⟩ := x2.all
         obtain ⟨a4, a5, a6, a7⟩ := y2.all)
      | (go_at_call 58; (with_reducible refine (TS.out s5 l5 h5 _ _ ?_ ?_ ?_).mono ?_); (exact ht.over (by go_grown)); (exact HEL.out); (exact hz); rintro e w3 ⟨t1, k1, t2, k2, rfl, ⟨j1, j2⟩, b3⟩
         have B3 := Below.over (w := w) (by go_grown) b3)
      | (go_at_call 57; (with_reducible refine (TR.out t1 t2 k1 k2 j1 j2 _ ?_).mono ?_); (exact ht.over (by go_grown)); rintro e w4 ⟨rfl, b4⟩
         have B4 := Below.over (w := w) (by go_grown) b4))
  all_goals
    go_wp2_with fail
    go_ret2
    exact ⟨rfl, B4⟩
theorem pr_fit {x : Int} {m : Nat} {r : Rat} {w w' : World} {e : Ending} (hx : nd x.natAbs ≤ 4096) (hm : nd m ≤ 4096) (h : PrPost x m r w e w') : FqPost r.num r.den w e w' := by
  rcases h with ⟨_, _, h⟩ | ⟨h, _, _⟩
  · exact h
  · exfalso; omega
set_option maxHeartbeats 1000000 in
theorem div_pos (r s t : Rat) (hsg : 0 < s.num) (h : r / s = t) (hr : Sz 1900 r) (hs : Sz 1900 s) (w : World) (ht : Tab w) :
    Calls Tryz.prog 30 #[.string (rtx r), .string (rtx s)] w fun e w' => e = .returned (.tuple #[.string (rtx t), .int .i64 0]) ∧ Below w.heap.size w w' := by
  have TP := Lib.hid (fun w ht => pair_r r s (sz_mono hr (by omega)) (sz_mono hs (by omega)) w ht)
  have HZ : Hid (decide (s.num = (0 : Int)) = false) := decide_eq_false (by omega)
  have hm : 0 < r.den * s.num.natAbs := Nat.mul_pos (rat_den_pos _) (by omega)
  have hq : mkRat (r.num * ((s.den : Int))) (r.den * s.num.natAbs) = t := by
    rw [← divInt_pos, ← h, ← div_quot, Int.natCast_mul]
    congr 2; omega
    skip
  have HFIT : Hid (nd (r.num * ((s.den : Int))).natAbs ≤ 4096 ∧ nd (r.den * s.num.natAbs) ≤ 4096) := by
    have h1 := nda_mul (x := r.num) (y := ((s.den : Int))) rfl hr.1 (by exact nd_den hs)
    have h2 := nd_mulN hr.2 hs.1
    exact ⟨by omega, by omega⟩
  clear h
  go_enter Tryz.func30, Tryz.ntmps30
  go_wp2_with fail
  refine (TP.out _ ht).mono ?_
  rintro e w1 ⟨s1, l1, s2, l2, s3, l3, s4, l4, rfl, ⟨i1, i2⟩, ⟨i3, i4⟩, b1⟩
  have hs1 := b1.size
  have x := (Bf.made w1 _ rfl s1 l1 s2 l2).alloc (.cells #[.int .i64 s3, .string l3, .int .i64 s4, .string l4] 48)
  have y := Bf.made (w1.alloc (.cells #[.int .i64 s1, .string l1, .int .i64 s2, .string l2] 48)) (w1.heap.size + 1) (by simp) s3 l3 s4 l4
  have BX : Below w.heap.size w ((w1.alloc (.cells #[.int .i64 s1, .string l1, .int .i64 s2, .string l2] 48)).alloc (.cells #[.int .i64 s3, .string l3, .int .i64 s4, .string l4] 48)) := by go_grown
  have TI := Lib.hid (fun w ht => inverse_pos s3 s.num s4 (s.den : Int) l3 l4 hsg i3 i4 w ht)
  have TZ := Lib.hid (fun w => is_z s3 s.num l3 0 false (by decide) HZ i3 w)
  have TM := Lib.hid (fun s5 l5 s6 l6 (h5 : Rp s5 l5 ((s.den : Int))) (h6 : Rp s6 l6 (s.num.natAbs : Int)) w ht => ratProduct_z s1 s2 s5 s6 r.num ((s.den : Int)) _ l1 l2 l5 l6 r.den s.num.natAbs _ t hm hq (Lib.hid rfl) (Lib.hid (Int.natCast_mul _ _).symm) i1 i2 h5 h6 w ht)
  have TR := Lib.hid (fun t1 t2 k1 k2 j1 j2 w ht => result_z t1 t2 k1 k2 t j1 j2 w ht)
  generalize r.num * ((s.den : Int)) = P at *
  generalize r.den * s.num.natAbs = Q at *
  obtain ⟨q1, q2⟩ := HFIT.out
  clear i1 i2 i3 i4 TP hm hq HFIT
  obtain ⟨c0, c1, c2, c3⟩ := x.all
  obtain ⟨c4, c5, c6, c7⟩ := y.all
  go_wp2_with fail
  refine (TZ.out _).mono ?_
  rintro e w2 ⟨rfl, b2⟩
  have BX2 := Below.over BX b2
  replace x := x.under b2
  replace y := y.under b2
  clear c0 c1 c2 c3 c4 c5 c6 c7 b2 BX TZ
  obtain ⟨c0, c1, c2, c3⟩ := x.all
  obtain ⟨c4, c5, c6, c7⟩ := y.all
  go_wp2_with fail
  go_region_held3 (fun w' => w'.cell? ⟨w1.heap.size, 0, none⟩ = some (.int .i64 s1) ∧ w'.cell? ⟨w1.heap.size, 1, none⟩ = some (.string l1) ∧ w'.cell? ⟨w1.heap.size, 2, none⟩ = some (.int .i64 s2) ∧ w'.cell? ⟨w1.heap.size, 3, none⟩ = some (.string l2) ∧ w'.cell? ⟨w1.heap.size + 1, 0, none⟩ = some (.int .i64 s3) ∧ w'.cell? ⟨w1.heap.size + 1, 1, none⟩ = some (.string l3) ∧ w'.cell? ⟨w1.heap.size + 1, 2, none⟩ = some (.int .i64 s4) ∧ w'.cell? ⟨w1.heap.size + 1, 3, none⟩ = some (.string l4))
    (first
        | (go_split_ands
           refine ⟨?_, ?_, ?_, ?_, ?_, ?_, ?_, ?_⟩ <;> first
             | with_reducible assumption
             | ((with_reducible refine Below.keepc b5 ?_); (with_reducible assumption))
             | ((with_reducible refine Below.keepc b4 ?_); (with_reducible assumption))
             | ((with_reducible refine Below.keepc b3 ?_); (with_reducible assumption))
             | ((repeat' (first
                 | with_reducible assumption
                 | (with_reducible refine cell_dr ?_)
                 | (with_reducible refine cell_al ?_)
                 | (with_reducible refine cell_far ?_ ?_)
                 | (dsimp only; omega))); done))
        | go_keep)
    (first
      | (go_at_call 66; (with_reducible refine (TI.out _ ?_).mono ?_); (exact ht.over (by go_grown)); rintro e w3 ⟨s5, l5, s6, l6, rfl, h5, h6, b3⟩
         have B3 := Below.over (w := w) (by go_grown) b3)
      | (go_at_call 63; (with_reducible refine (TM.out s5 l5 s6 l6 h5 h6 _ ?_).mono ?_); (exact ht.over (by go_grown)); rintro e w4 hp
         obtain ⟨t1, k1, t2, k2, rfl, j1, j2, b4⟩ := pr_fit q1 q2 hp
         have B4 := Below.over (w := w) (by go_grown) b4)
      | (go_at_call 57; (with_reducible refine (TR.out t1 t2 k1 k2 j1 j2 _ ?_).mono ?_); (exact ht.over (by go_grown)); rintro e w5 ⟨rfl, b5⟩
         have B5 := Below.over (w := w) (by go_grown) b5))
  all_goals
    go_wp2_with fail
    go_ret2
    exact ⟨rfl, B5⟩
set_option maxHeartbeats 1000000 in
theorem div_neg (r s t : Rat) (hsg : s.num < 0) (h : r / s = t) (hr : Sz 1900 r) (hs : Sz 1900 s) (w : World) (ht : Tab w) :
    Calls Tryz.prog 30 #[.string (rtx r), .string (rtx s)] w fun e w' => e = .returned (.tuple #[.string (rtx t), .int .i64 0]) ∧ Below w.heap.size w w' := by
  have TP := Lib.hid (fun w ht => pair_r r s (sz_mono hr (by omega)) (sz_mono hs (by omega)) w ht)
  have HZ : Hid (decide (s.num = (0 : Int)) = false) := decide_eq_false (by omega)
  have hm : 0 < r.den * s.num.natAbs := Nat.mul_pos (rat_den_pos _) (by omega)
  have hq : mkRat (r.num * (-(s.den : Int))) (r.den * s.num.natAbs) = t := by
    rw [← divInt_pos, ← h, ← div_quot, Int.natCast_mul]
    rw [divInt_neg (r.num * s.den)]; congr 1; · rw [Int.mul_neg]
    · rw [← Int.mul_neg]; congr 1; omega
  have HFIT : Hid (nd (r.num * (-(s.den : Int))).natAbs ≤ 4096 ∧ nd (r.den * s.num.natAbs) ≤ 4096) := by
    have h1 := nda_mul (x := r.num) (y := (-(s.den : Int))) rfl hr.1 (by rw [Int.natAbs_neg]; exact nd_den hs)
    have h2 := nd_mulN hr.2 hs.1
    exact ⟨by omega, by omega⟩
  clear h
  go_enter Tryz.func30, Tryz.ntmps30
  go_wp2_with fail
  refine (TP.out _ ht).mono ?_
  rintro e w1 ⟨s1, l1, s2, l2, s3, l3, s4, l4, rfl, ⟨i1, i2⟩, ⟨i3, i4⟩, b1⟩
  have hs1 := b1.size
  have x := (Bf.made w1 _ rfl s1 l1 s2 l2).alloc (.cells #[.int .i64 s3, .string l3, .int .i64 s4, .string l4] 48)
  have y := Bf.made (w1.alloc (.cells #[.int .i64 s1, .string l1, .int .i64 s2, .string l2] 48)) (w1.heap.size + 1) (by simp) s3 l3 s4 l4
  have BX : Below w.heap.size w ((w1.alloc (.cells #[.int .i64 s1, .string l1, .int .i64 s2, .string l2] 48)).alloc (.cells #[.int .i64 s3, .string l3, .int .i64 s4, .string l4] 48)) := by go_grown
  have TI := Lib.hid (fun w ht => inverse_neg s3 s.num s4 (s.den : Int) (-(s.den : Int)) l3 l4 hsg (Lib.hid rfl) i3 i4 w ht)
  have TZ := Lib.hid (fun w => is_z s3 s.num l3 0 false (by decide) HZ i3 w)
  have TM := Lib.hid (fun s5 l5 s6 l6 (h5 : Rp s5 l5 (-(s.den : Int))) (h6 : Rp s6 l6 (s.num.natAbs : Int)) w ht => ratProduct_z s1 s2 s5 s6 r.num (-(s.den : Int)) _ l1 l2 l5 l6 r.den s.num.natAbs _ t hm hq (Lib.hid rfl) (Lib.hid (Int.natCast_mul _ _).symm) i1 i2 h5 h6 w ht)
  have TR := Lib.hid (fun t1 t2 k1 k2 j1 j2 w ht => result_z t1 t2 k1 k2 t j1 j2 w ht)
  generalize r.num * (-(s.den : Int)) = P at *
  generalize r.den * s.num.natAbs = Q at *
  obtain ⟨q1, q2⟩ := HFIT.out
  clear i1 i2 i3 i4 TP hm hq HFIT
  obtain ⟨c0, c1, c2, c3⟩ := x.all
  obtain ⟨c4, c5, c6, c7⟩ := y.all
  go_wp2_with fail
  refine (TZ.out _).mono ?_
  rintro e w2 ⟨rfl, b2⟩
  have BX2 := Below.over BX b2
  replace x := x.under b2
  replace y := y.under b2
  clear c0 c1 c2 c3 c4 c5 c6 c7 b2 BX TZ
  obtain ⟨c0, c1, c2, c3⟩ := x.all
  obtain ⟨c4, c5, c6, c7⟩ := y.all
  go_wp2_with fail
  go_region_held3 (fun w' => w'.cell? ⟨w1.heap.size, 0, none⟩ = some (.int .i64 s1) ∧ w'.cell? ⟨w1.heap.size, 1, none⟩ = some (.string l1) ∧ w'.cell? ⟨w1.heap.size, 2, none⟩ = some (.int .i64 s2) ∧ w'.cell? ⟨w1.heap.size, 3, none⟩ = some (.string l2) ∧ w'.cell? ⟨w1.heap.size + 1, 0, none⟩ = some (.int .i64 s3) ∧ w'.cell? ⟨w1.heap.size + 1, 1, none⟩ = some (.string l3) ∧ w'.cell? ⟨w1.heap.size + 1, 2, none⟩ = some (.int .i64 s4) ∧ w'.cell? ⟨w1.heap.size + 1, 3, none⟩ = some (.string l4))
    (first
        | (go_split_ands
           refine ⟨?_, ?_, ?_, ?_, ?_, ?_, ?_, ?_⟩ <;> first
             | with_reducible assumption
             | ((with_reducible refine Below.keepc b5 ?_); (with_reducible assumption))
             | ((with_reducible refine Below.keepc b4 ?_); (with_reducible assumption))
             | ((with_reducible refine Below.keepc b3 ?_); (with_reducible assumption))
             | ((repeat' (first
                 | with_reducible assumption
                 | (with_reducible refine cell_dr ?_)
                 | (with_reducible refine cell_al ?_)
                 | (with_reducible refine cell_far ?_ ?_)
                 | (dsimp only; omega))); done))
        | go_keep)
    (first
      | (go_at_call 66; (with_reducible refine (TI.out _ ?_).mono ?_); (exact ht.over (by go_grown)); rintro e w3 ⟨s5, l5, s6, l6, rfl, h5, h6, b3⟩
         have B3 := Below.over (w := w) (by go_grown) b3)
      | (go_at_call 63; (with_reducible refine (TM.out s5 l5 s6 l6 h5 h6 _ ?_).mono ?_); (exact ht.over (by go_grown)); rintro e w4 hp
         obtain ⟨t1, k1, t2, k2, rfl, j1, j2, b4⟩ := pr_fit q1 q2 hp
         have B4 := Below.over (w := w) (by go_grown) b4)
      | (go_at_call 57; (with_reducible refine (TR.out t1 t2 k1 k2 j1 j2 _ ?_).mono ?_); (exact ht.over (by go_grown)); rintro e w5 ⟨rfl, b5⟩
         have B5 := Below.over (w := w) (by go_grown) b5))
  all_goals
    go_wp2_with fail
    go_ret2
    exact ⟨rfl, B5⟩
theorem rDiv_r (r s t : Rat) (h0 : s ≠ 0) (h : r / s = t) (hr : Sz 1900 r) (hs : Sz 1900 s) (w : World) (ht : Tab w) :
    Calls Tryz.prog 30 #[.string (rtx r), .string (rtx s)] w fun e w' => e = .returned (.tuple #[.string (rtx t), .int .i64 0]) ∧ Below w.heap.size w w' := by
  have hn : s.num ≠ 0 := fun e => h0 (Rat.num_eq_zero.1 e)
  by_cases hs0 : s.num < 0
  · exact div_neg r s t hs0 h hr hs w ht
  · exact div_pos r s t (by omega) h hr hs w ht
set_option maxHeartbeats 1000000 in
theorem rDiv_zero (r : Rat) (hr : Sz 1900 r) (w : World) (ht : Tab w) :
    Calls Tryz.prog 30 #[.string (rtx r), .string (rtx 0)] w fun e w' => e = .returned (.tuple #[.string ⟨#[]⟩, .int .i64 10]) ∧ Below w.heap.size w w' := by
  have TP := Lib.hid (fun w ht => pair_r r 0 (sz_mono hr (by omega)) (sz_zero (by omega)) w ht)
  go_enter Tryz.func30, Tryz.ntmps30
  go_wp2_with fail
  refine (TP.out _ ht).mono ?_
  rintro e w1 ⟨s1, l1, s2, l2, s3, l3, s4, l4, rfl, ⟨i1, i2⟩, ⟨i3, i4⟩, b1⟩
  have hs1 := b1.size
  have x := (Bf.made w1 _ rfl s1 l1 s2 l2).alloc (.cells #[.int .i64 s3, .string l3, .int .i64 s4, .string l4] 48)
  have y := Bf.made (w1.alloc (.cells #[.int .i64 s1, .string l1, .int .i64 s2, .string l2] 48)) (w1.heap.size + 1) (by simp) s3 l3 s4 l4
  have BX : Below w.heap.size w ((w1.alloc (.cells #[.int .i64 s1, .string l1, .int .i64 s2, .string l2] 48)).alloc (.cells #[.int .i64 s3, .string l3, .int .i64 s4, .string l4] 48)) := by go_grown
  have TZ := Lib.hid (fun w => is_z s3 (0 : Rat).num l3 0 true (by decide) (Lib.hid rfl) i3 w)
  clear i1 i2 i3 i4 TP
  obtain ⟨c0, c1, c2, c3⟩ := x.all
  obtain ⟨c4, c5, c6, c7⟩ := y.all
  go_wp2_with fail
  refine (TZ.out _).mono ?_
  rintro e w2 ⟨rfl, b2⟩
  go_wp2_with fail
  go_ret2
  exact ⟨rfl, Below.over BX b2⟩
end Go.Proofs.YthamlnolfagpiaaGreatDoor.D

