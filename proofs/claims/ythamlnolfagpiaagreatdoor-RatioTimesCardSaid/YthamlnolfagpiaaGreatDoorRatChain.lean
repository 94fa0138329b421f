/-
  DERIVED. The walks of ratio's chain: next.
-/
import Derived.Test.YthamlnolfagpiaaGreatDoorRatNum
namespace Go.Proofs.YthamlnolfagpiaaGreatDoor.D
open Go.RowKit
set_option maxRecDepth 8000

/-- what a call that is too long leaves -/
def OvPost (n : Nat) (w : World) (e : Ending) (w' : World) : Prop :=
  e = .returned (.agg #[.int .i64 0, .string ⟨#[]⟩]) ∧ Turn n w w' ∧ Bc w' n 4
theorem Turn.new {n : Nat} {w w' : World} (h : Turn n w w') {p : Addr} (hp : w.heap.size ≤ p.block) (u : Value) : Turn n w (w'.setCell p u) :=
  ⟨h.os, h.tape, h.output, Nat.le_trans h.size (by simp [World.setCell]), fun k hk hn => (Below.heap_setCell w' p u k (by omega)).trans (h.block k hk hn)⟩

set_option maxHeartbeats 1000000 in
theorem next_mul_fit (n : Nat) (s x s' y z : Int) (l l' : ByteArray) (h1 : Rp s l x) (h2 : Rp s' l' y) (hz : Hid (x * y = z)) (hk : nd z.natAbs ≤ 4096) (w : World) (ht : Tab w) :
    Calls Tryz.prog 89 #[.pointer (some ⟨n, 0, none⟩), .func (.func 90) #[] #[], .agg #[.int .i64 s, .string l], .agg #[.int .i64 s', .string l']] w fun e w' => RpPost z w e w' := by
  have T1 := Lib.hid (fun w ht => text_z s x l h1 w ht)
  have T2 := Lib.hid (fun w ht => text_z s' y l' h2 w ht)
  have TM := Lib.hid (fun w ht => wMul_num x y z hz h1.nd h2.nd hk w ht)
  clear h1 h2 hz
  go_enter Tryz.func89, Tryz.ntmps89
  go_wp2_with fail
  go_region_with (first
    | (go_at_call 39; (with_reducible refine (T1.out _ ?_).mono ?_); (exact ht.over (by go_grown)); rintro e w1 ⟨rfl, b1⟩; obtain ⟨_, x7, x8⟩ := bi3 (w := w) (Below.undrew b1); have x70 := x7.c0; have x71 := x7.c1; have B1 := Below.over (w := w) (by go_grown) b1)
    | (go_at_call 39; (with_reducible refine (T2.out _ ?_).mono ?_); (exact ht.over B1); rintro e w2 ⟨rfl, b2⟩; have B2 := Below.over B1 b2)
    | (go_at_call 90; (with_reducible refine (TM.out _ ?_).mono ?_); (exact ht.over B2); rintro e w3 ⟨rfl, b3⟩; have B3 := Below.over B2 b3))
  all_goals
    have y8 := (x8.under b2).under b3
    clear b1 b2 T1 T2 TM
    go_wp2_with fail
    refine (integerOf_z z hk _).mono ?_
    rintro e w4 ⟨s4, l4, rfl, HR, b4⟩
    have B4 := Below.over B3 b4
    have z8 := y8.under b4
    have r0 := z8.c0
    have r1 := z8.c1
    have f0 := z8.f0
    have f1 := z8.f1
    have hs4 := B4.size
    go_wp2_with fail
    have hF := z8.put s4 l4
    have g0 := hF.c0
    have g1 := hF.c1
    refine bodyPost_ret (v := .agg #[.int .i64 s4, .string l4]) (by simp [results, Tryz.results89, go_sem, g0, g1]) rfl ⟨_, _, rfl, HR, by go_grown⟩

end Go.Proofs.YthamlnolfagpiaaGreatDoor.D

