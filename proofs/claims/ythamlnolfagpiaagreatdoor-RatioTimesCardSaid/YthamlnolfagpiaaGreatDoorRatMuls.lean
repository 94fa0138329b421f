/-
  DERIVED. Merged by mkrat.py: RatMul, RatAdd, RatMulO, RatAny.
-/
import Derived.Test.YthamlnolfagpiaaGreatDoorRatChain
import Derived.Test.YthamlnolfagpiaaGreatDoorRatChain2
import Derived.Test.YthamlnolfagpiaaGreatDoorRatChain3
import Derived.Test.YthamlnolfagpiaaGreatDoorRatBase
import Derived.Deep.DeepCutAuto
namespace Go.Proofs.YthamlnolfagpiaaGreatDoor.D
open Go.RowKit
set_option maxRecDepth 8000

set_option maxHeartbeats 1000000 in
theorem mul_fit (n : Nat) (s x s' y z : Int) (l l' : ByteArray) (h1 : Rp s l x) (h2 : Rp s' l' y) (hz : Hid (x * y = z)) (hk : nd z.natAbs ≤ 4096) (w : World) (ht : Tab w) :
    Calls Tryz.prog 51 #[.pointer (some ⟨n, 0, none⟩), .agg #[.int .i64 s, .string l], .agg #[.int .i64 s', .string l']] w fun e w' => RpPost z w e w' := by
  have HN := Lib.hid (fun w ht => next_mul_fit n s x s' y z l l' h1 h2 hz hk w ht)
  have I1 := Lib.hid (fun w => isBelow_z s x l 2147483648 (by omega) (by omega) h1 w)
  have I2 := Lib.hid (fun w => isBelow_z s' y l' 2147483648 (by omega) (by omega) h2 w)
  clear h1 h2
  go_enter Tryz.func51, Tryz.ntmps51
  go_wp2_with fail
  refine (I1.out _).mono ?_
  rintro e w1 ⟨c1, rfl, hc1, b1⟩
  obtain ⟨x4, x5, x6⟩ := bi3 (w := w) b1
  have x40 := x4.c0
  have x41 := x4.c1
  have x50 := x5.c0
  have x51 := x5.c1
  have B1 := Below.over (w := w) (by go_grown) b1
  have HT1 := Lib.hid hc1
  clear hc1
  cases c1
  · clear HT1
    go_wp2_with fail
    refine (HN.out _ (ht.over B1)).mono ?_
    rintro e w4 ⟨s4, l4, rfl, HR, b4⟩
    have B4 := Below.over B1 b4
    have z6 := x6.under b4
    have r0 := z6.c0
    have r1 := z6.c1
    have f0 := z6.f0
    have f1 := z6.f1
    have hs4 := B4.size
    clear HN
    go_wp2_with fail
    have hF := z6.put s4 l4
    have g0 := hF.c0
    have g1 := hF.c1
    refine bodyPost_ret (v := .agg #[.int .i64 s4, .string l4]) (by simp [results, Tryz.results51, go_sem, g0, g1]) rfl ⟨_, _, rfl, HR, by go_grown⟩
  · go_wp2_with fail
    refine (I2.out _).mono ?_
    rintro e w2 ⟨c2, rfl, hc2, b2⟩
    have B2 := Below.over B1 b2
    replace x4 := x4.under b2
    replace x5 := x5.under b2
    replace x6 := x6.under b2
    have HT2 := Lib.hid hc2
    clear x40 x41 x50 x51 hc2
    have x40 := x4.c0
    have x41 := x4.c1
    have x50 := x5.c0
    have x51 := x5.c1
    cases c2
    · clear HT1 HT2
      go_wp2_with fail
      refine (HN.out _ (ht.over B2)).mono ?_
      rintro e w4 ⟨s4, l4, rfl, HR, b4⟩
      have B4 := Below.over B2 b4
      have z6 := x6.under b4
      have r0 := z6.c0
      have r1 := z6.c1
      have f0 := z6.f0
      have f1 := z6.f1
      have hs4 := B4.size
      clear HN
      go_wp2_with fail
      have hF := z6.put s4 l4
      have g0 := hF.c0
      have g1 := hF.c1
      refine bodyPost_ret (v := .agg #[.int .i64 s4, .string l4]) (by simp [results, Tryz.results51, go_sem, g0, g1]) rfl ⟨_, _, rfl, HR, by go_grown⟩
    · obtain ⟨rfl, rfl, p1, p2⟩ := HT1.out (by first | trivial | rfl)
      obtain ⟨rfl, rfl, p3, p4⟩ := HT2.out (by first | trivial | rfl)
      have hb : -9223372036854775808 < z ∧ z < 9223372036854775808 := by
        have := hz.out
        have h5 := Nat.mul_lt_mul'' (show s.natAbs < 2147483648 by omega) (show s'.natAbs < 2147483648 by omega)
        rw [← Int.natAbs_mul, this] at h5
        omega
      have hw : IntKind.i64.wrap (s * s') = z := by rw [hz.out]; exact IntWalk.i64_in _ (by omega)
      have hw2 : wrap64 (s * s') = z := (IntWalk.i64_left _).symm.trans hw
      have HR : Rp z ⟨#[]⟩ z := Rp.short hb.1 hb.2
      have r0 := x6.c0
      have r1 := x6.c1
      have f0 := x6.f0
      have f1 := x6.f1
      have hs4 := B2.size
      clear HN HT1 HT2 I1 I2
      go_wp2_with fail
      have hF := x6.put z ⟨#[]⟩
      have g0 := hF.c0
      have g1 := hF.c1
      refine bodyPost_ret (v := .agg #[.int .i64 z, .string ⟨#[]⟩]) (by simp [results, Tryz.results51, go_sem, g0, g1]) rfl ⟨_, _, rfl, HR, by go_grown⟩

end Go.Proofs.YthamlnolfagpiaaGreatDoor.D

namespace Go.Proofs.YthamlnolfagpiaaGreatDoor.D
open Go.RowKit
set_option maxRecDepth 8000

set_option maxHeartbeats 1000000 in
theorem add_fit (n : Nat) (s x s' y z : Int) (l l' : ByteArray) (h1 : Rp s l x) (h2 : Rp s' l' y) (hz : Hid (x + y = z)) (hk : nd z.natAbs ≤ 4096) (w : World) (ht : Tab w) :
    Calls Tryz.prog 96 #[.pointer (some ⟨n, 0, none⟩), .agg #[.int .i64 s, .string l], .agg #[.int .i64 s', .string l']] w fun e w' => RpPost z w e w' := by
  have HN := Lib.hid (fun w ht => next_add_fit n s x s' y z l l' h1 h2 hz hk w ht)
  have I1 := Lib.hid (fun w => isBelow_z s x l 4611686018427387904 (by omega) (by omega) h1 w)
  have I2 := Lib.hid (fun w => isBelow_z s' y l' 4611686018427387904 (by omega) (by omega) h2 w)
  clear h1 h2
  go_enter Tryz.func96, Tryz.ntmps96
  go_wp2_with fail
  refine (I1.out _).mono ?_
  rintro e w1 ⟨c1, rfl, hc1, b1⟩
  obtain ⟨x4, x5, x6⟩ := bi3 (w := w) b1
  have x40 := x4.c0
  have x41 := x4.c1
  have x50 := x5.c0
  have x51 := x5.c1
  have B1 := Below.over (w := w) (by go_grown) b1
  have HT1 := Lib.hid hc1
  clear hc1
  cases c1
  · clear HT1
    go_wp2_with fail
    refine (HN.out _ (ht.over B1)).mono ?_
    rintro e w4 ⟨s4, l4, rfl, HR, b4⟩
    have B4 := Below.over B1 b4
    have z6 := x6.under b4
    have r0 := z6.c0
    have r1 := z6.c1
    have f0 := z6.f0
    have f1 := z6.f1
    have hs4 := B4.size
    clear HN
    go_wp2_with fail
    have hF := z6.put s4 l4
    have g0 := hF.c0
    have g1 := hF.c1
    refine bodyPost_ret (v := .agg #[.int .i64 s4, .string l4]) (by simp [results, Tryz.results96, go_sem, g0, g1]) rfl ⟨_, _, rfl, HR, by go_grown⟩
  · go_wp2_with fail
    refine (I2.out _).mono ?_
    rintro e w2 ⟨c2, rfl, hc2, b2⟩
    have B2 := Below.over B1 b2
    replace x4 := x4.under b2
    replace x5 := x5.under b2
    replace x6 := x6.under b2
    have HT2 := Lib.hid hc2
    clear x40 x41 x50 x51 hc2
    have x40 := x4.c0
    have x41 := x4.c1
    have x50 := x5.c0
    have x51 := x5.c1
    cases c2
    · clear HT1 HT2
      go_wp2_with fail
      refine (HN.out _ (ht.over B2)).mono ?_
      rintro e w4 ⟨s4, l4, rfl, HR, b4⟩
      have B4 := Below.over B2 b4
      have z6 := x6.under b4
      have r0 := z6.c0
      have r1 := z6.c1
      have f0 := z6.f0
      have f1 := z6.f1
      have hs4 := B4.size
      clear HN
      go_wp2_with fail
      have hF := z6.put s4 l4
      have g0 := hF.c0
      have g1 := hF.c1
      refine bodyPost_ret (v := .agg #[.int .i64 s4, .string l4]) (by simp [results, Tryz.results96, go_sem, g0, g1]) rfl ⟨_, _, rfl, HR, by go_grown⟩
    · obtain ⟨rfl, rfl, p1, p2⟩ := HT1.out (by first | trivial | rfl)
      obtain ⟨rfl, rfl, p3, p4⟩ := HT2.out (by first | trivial | rfl)
      have hb : -9223372036854775808 < z ∧ z < 9223372036854775808 := by
        have := hz.out
        skip
        skip
        omega
      have hw : IntKind.i64.wrap (s + s') = z := by rw [hz.out]; exact IntWalk.i64_in _ (by omega)
      have hw2 : wrap64 (s + s') = z := (IntWalk.i64_left _).symm.trans hw
      have HR : Rp z ⟨#[]⟩ z := Rp.short hb.1 hb.2
      have r0 := x6.c0
      have r1 := x6.c1
      have f0 := x6.f0
      have f1 := x6.f1
      have hs4 := B2.size
      clear HN HT1 HT2 I1 I2 p1 p2 p3 p4
      go_wp2_with fail
      have hF := x6.put z ⟨#[]⟩
      have g0 := hF.c0
      have g1 := hF.c1
      refine bodyPost_ret (v := .agg #[.int .i64 z, .string ⟨#[]⟩]) (by simp [results, Tryz.results96, go_sem, g0, g1]) rfl ⟨_, _, rfl, HR, by go_grown⟩

end Go.Proofs.YthamlnolfagpiaaGreatDoor.D

namespace Go.Proofs.YthamlnolfagpiaaGreatDoor.D
open Go.RowKit
set_option maxRecDepth 8000

set_option maxHeartbeats 1000000 in
theorem mul_over (n : Nat) (s x s' y z : Int) (l l' : ByteArray) (h1 : Rp s l x) (h2 : Rp s' l' y) (hz : Hid (x * y = z)) (hk : 4096 < nd z.natAbs) (e0 : Int) (w : World) (ht : Tab w) (hc : Bc w n e0) :
    Calls Tryz.prog 51 #[.pointer (some ⟨n, 0, none⟩), .agg #[.int .i64 s, .string l], .agg #[.int .i64 s', .string l']] w fun e w' => OvPost n w e w' := by
  have HN := Lib.hid (fun w ht hc => next_mul_over n s x s' y z l l' h1 h2 hz hk e0 w ht hc)
  have hn := hc.lt
  have HC : Hid (Bc (((w.alloc (cInt s l)).alloc (cInt s' l')).alloc (cInt 0 ⟨#[]⟩)) n e0) := ((hc.alloc _).alloc _).alloc _
  clear hc
  have I1 := Lib.hid (fun w => isBelow_z s x l 2147483648 (by omega) (by omega) h1 w)
  have I2 := Lib.hid (fun w => isBelow_z s' y l' 2147483648 (by omega) (by omega) h2 w)
  clear h1 h2
  go_enter Tryz.func51, Tryz.ntmps51
  go_wp2_with fail
  refine (I1.out _).mono ?_
  rintro e w1 ⟨c1, rfl, hc1, b1⟩
  obtain ⟨x4, x5, x6⟩ := bi3 (w := w) b1
  have x40 := x4.c0
  have x41 := x4.c1
  have x50 := x5.c0
  have x51 := x5.c1
  have B1 := Below.over (w := w) (by go_grown) b1
  have HT1 := Lib.hid hc1
  clear hc1
  cases c1
  · clear HT1
    go_wp2_with fail
    refine (HN.out _ (ht.over B1) (HC.out.under b1)).mono ?_
    rintro e w4 ⟨rfl, t4, hc4⟩
    have z6 := t4.bi x6 (by omega)
    have r0 := z6.c0
    have r1 := z6.c1
    have f0 := z6.f0
    have f1 := z6.f1
    have hs4 := t4.size
    clear HN HC
    go_wp2_with fail
    have hF := z6.put 0 ⟨#[]⟩
    have g0 := hF.c0
    have g1 := hF.c1
    refine bodyPost_ret (v := .agg #[.int .i64 0, .string ⟨#[]⟩]) (by simp [results, Tryz.results51, go_sem, g0, g1]) rfl ⟨rfl, ?_, ?_⟩
    · exact (((Turn.of B1).trans t4).new (by dsimp only; omega) _).new (by dsimp only; omega) _
    · exact (hc4.far (by dsimp only; omega) _).far (by dsimp only; omega) _
  · go_wp2_with fail
    refine (I2.out _).mono ?_
    rintro e w2 ⟨c2, rfl, hc2, b2⟩
    have B2 := Below.over B1 b2
    replace x4 := x4.under b2
    replace x5 := x5.under b2
    replace x6 := x6.under b2
    have HT2 := Lib.hid hc2
    clear x40 x41 x50 x51 hc2
    have x40 := x4.c0
    have x41 := x4.c1
    have x50 := x5.c0
    have x51 := x5.c1
    cases c2
    · clear HT1 HT2
      go_wp2_with fail
      refine (HN.out _ (ht.over B2) ((HC.out.under b1).under b2)).mono ?_
      rintro e w4 ⟨rfl, t4, hc4⟩
      have z6 := t4.bi x6 (by omega)
      have r0 := z6.c0
      have r1 := z6.c1
      have f0 := z6.f0
      have f1 := z6.f1
      have hs4 := t4.size
      clear HN HC
      go_wp2_with fail
      have hF := z6.put 0 ⟨#[]⟩
      have g0 := hF.c0
      have g1 := hF.c1
      refine bodyPost_ret (v := .agg #[.int .i64 0, .string ⟨#[]⟩]) (by simp [results, Tryz.results51, go_sem, g0, g1]) rfl ⟨rfl, ?_, ?_⟩
      · exact (((Turn.of B2).trans t4).new (by dsimp only; omega) _).new (by dsimp only; omega) _
      · exact (hc4.far (by dsimp only; omega) _).far (by dsimp only; omega) _
    · obtain ⟨rfl, rfl, p1, p2⟩ := HT1.out (by first | trivial | rfl)
      obtain ⟨rfl, rfl, p3, p4⟩ := HT2.out (by first | trivial | rfl)
      have hb : -9223372036854775808 < z ∧ z < 9223372036854775808 := by
        have := hz.out
        have h5 := Nat.mul_lt_mul'' (show s.natAbs < 2147483648 by omega) (show s'.natAbs < 2147483648 by omega)
        rw [← Int.natAbs_mul, this] at h5
        omega
      exfalso
      have := nd_le z.natAbs 18 (by omega)
      omega

end Go.Proofs.YthamlnolfagpiaaGreatDoor.D

namespace Go.Proofs.YthamlnolfagpiaaGreatDoor.D
open Go.RowKit
set_option maxRecDepth 8000

/-- the error that is left -/
def er (z e0 : Int) : Int := if nd z.natAbs ≤ 4096 then e0 else 4
theorem er_fit {z e0 : Int} (h : nd z.natAbs ≤ 4096) : er z e0 = e0 := if_pos h
theorem er_over {z e0 : Int} (h : 4096 < nd z.natAbs) : er z e0 = 4 := if_neg (by omega)
theorem er_four (z : Int) : er z 4 = 4 := by unfold er; split <;> rfl
def AnyPost (n : Nat) (z e0 : Int) (w : World) (e : Ending) (w' : World) : Prop :=
  ∃ (s : Int) (l : ByteArray), e = .returned (.agg #[.int .i64 s, .string l]) ∧ Hid (nd z.natAbs ≤ 4096 → Rp s l z) ∧ Turn n w w' ∧ Bc w' n (er z e0)
theorem mul_any (n : Nat) (s x s' y z : Int) (l l' : ByteArray) (h1 : Rp s l x) (h2 : Rp s' l' y) (hz : Hid (x * y = z)) (e0 : Int) (w : World) (ht : Tab w) (hc : Bc w n e0) :
    Calls Tryz.prog 51 #[.pointer (some ⟨n, 0, none⟩), .agg #[.int .i64 s, .string l], .agg #[.int .i64 s', .string l']] w fun e w' => AnyPost n z e0 w e w' := by
  by_cases hk : nd z.natAbs ≤ 4096
  · refine (mul_fit n s x s' y z l l' h1 h2 hz hk w ht).mono ?_
    rintro e w' ⟨s3, l3, he, hr, hb⟩
    exact ⟨s3, l3, he, fun _ => hr, Turn.of hb, by rw [er_fit hk]; exact hc.under hb⟩
  · refine (mul_over n s x s' y z l l' h1 h2 hz (by omega) e0 w ht hc).mono ?_
    rintro e w' ⟨he, hb, hc'⟩
    exact ⟨0, ⟨#[]⟩, he, fun h => absurd h hk, hb, by rw [er_over (by omega)]; exact hc'⟩

theorem cell_al {w : World} {o : Obj} {p : Addr} {v : Value} (h : w.cell? p = some v) : (w.alloc o).cell? p = some v :=
  (World.cell?_of_block (w := w) (Below.heap_alloc w o p.block (World.block_lt_of_cell? _ _ h))).trans h
theorem cell_dr {w : World} {p : Addr} {v : Value} (h : w.cell? p = some v) : w.drew.cell? p = some v := h
theorem Bi.all {w : World} {n : Nat} {s : Int} {l : ByteArray} (h : Bi w n s l) : w.cell? ⟨n, 0, none⟩ = some (.int .i64 s) ∧ w.cell? ⟨n, 1, none⟩ = some (.string l) ∧ w.frozen? ⟨n, 0, none⟩ = false ∧ w.frozen? ⟨n, 1, none⟩ = false := ⟨h.c0, h.c1, h.f0, h.f1⟩
theorem Turn.undrew {n : Nat} {w w' : World} (h : Turn n w.drew w') : Turn n w w' := ⟨h.os, h.tape, h.output, h.size, h.block⟩
theorem over_turn {n : Nat} {w W w1 : World} (h : Below w.heap.size w W) (t : Turn n W w1) (hn : w.heap.size ≤ n) : Below w.heap.size w w1 := h.trans (t.below h.size hn)
theorem al1 {n : Nat} {W w' : World} {s : Int} {l : ByteArray} (h : Turn n (W.alloc (.cells #[.int .i64 s, .string l] 46)) w') (hn : W.heap.size ≠ n) : Bi w' W.heap.size s l := h.bi (Bi.made W _ rfl s l) hn
theorem al2 {n : Nat} {W w' : World} {s : Int} {l : ByteArray} {o : Obj} (h : Turn n ((W.alloc (.cells #[.int .i64 s, .string l] 46)).alloc o) w') (hn : W.heap.size ≠ n) : Bi w' W.heap.size s l := h.bi ((Bi.made W _ rfl s l).alloc o) hn
theorem Bf.all {w : World} {n : Nat} {s s' : Int} {l l' : ByteArray} (h : Bf w n s l s' l') : w.cell? ⟨n, 0, none⟩ = some (.int .i64 s) ∧ w.cell? ⟨n, 1, none⟩ = some (.string l) ∧ w.cell? ⟨n, 2, none⟩ = some (.int .i64 s') ∧ w.cell? ⟨n, 3, none⟩ = some (.string l') := ⟨h.c0, h.c1, h.c2, h.c3⟩

end Go.Proofs.YthamlnolfagpiaaGreatDoor.D

