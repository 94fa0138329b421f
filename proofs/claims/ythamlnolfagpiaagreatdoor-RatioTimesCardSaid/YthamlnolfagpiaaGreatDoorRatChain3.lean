/-
  DERIVED. The walks of ratio's chain: next, a product that is too long.
-/
import Derived.Test.YthamlnolfagpiaaGreatDoorRatChain
namespace Go.Proofs.YthamlnolfagpiaaGreatDoor.D
open Go.RowKit
set_option maxRecDepth 8000

set_option maxHeartbeats 1000000 in
theorem next_mul_over (n : Nat) (s x s' y z : Int) (l l' : ByteArray) (h1 : Rp s l x) (h2 : Rp s' l' y) (hz : Hid (x * y = z)) (hk : 4096 < nd z.natAbs) (e0 : Int) (w : World) (ht : Tab w) (hc : Bc w n e0) :
    Calls Tryz.prog 89 #[.pointer (some ⟨n, 0, none⟩), .func (.func 90) #[] #[], .agg #[.int .i64 s, .string l], .agg #[.int .i64 s', .string l']] w fun e w' => OvPost n w e w' := by
  have T1 := Lib.hid (fun w ht => text_z s x l h1 w ht)
  have T2 := Lib.hid (fun w ht => text_z s' y l' h2 w ht)
  have TM := Lib.hid (fun w ht => wMul_over x y z hz h1.nd h2.nd hk w ht)
  have hn := hc.lt
  have HC : Hid (Bc (((w.alloc (cInt s l)).alloc (cInt s' l')).alloc (cInt 0 ⟨#[]⟩)) n e0) := ((hc.alloc _).alloc _).alloc _
  clear hc
  clear h1 h2 hz
  go_enter Tryz.func89, Tryz.ntmps89
  go_wp2_with fail
  go_region_with (first
    | (go_at_call 39; (with_reducible refine (T1.out _ ?_).mono ?_); (exact ht.over (by go_grown)); rintro e w1 ⟨rfl, b1⟩; obtain ⟨_, x7, x8⟩ := bi3 (w := w) (Below.undrew b1); have x70 := x7.c0; have x71 := x7.c1; have B1 := Below.over (w := w) (by go_grown) b1)
    | (go_at_call 39; (with_reducible refine (T2.out _ ?_).mono ?_); (exact ht.over B1); rintro e w2 ⟨rfl, b2⟩; have B2 := Below.over B1 b2)
    | (go_at_call 90; (with_reducible refine (TM.out _ ?_).mono ?_); (exact ht.over B2); rintro e w3 ⟨rfl, b3⟩; have B3 := Below.over B2 b3))
  all_goals
    have y8 := (x8.under b2).under b3
    have hc3 := ((HC.out.under (Below.undrew b1)).under b2).under b3
    have r0 := hc3.c0
    have f0 := hc3.f0
    have z8 := y8.far (p := ⟨n, 0, none⟩) (by simp; omega) (.int .i64 4)
    have z0 := z8.c0
    have z1 := z8.c1
    have k0 := z8.f0
    have k1 := z8.f1
    have hs3 := B3.size
    clear b1 b2 b3 T1 T2 TM HC x70 x71 x7 x8 B1 B2
    go_wp2_with fail
    have hF := z8.put 0 ⟨#[]⟩
    have g0 := hF.c0
    have g1 := hF.c1
    refine bodyPost_ret (v := .agg #[.int .i64 0, .string ⟨#[]⟩]) (by simp [results, Tryz.results89, go_sem, g0, g1]) rfl ⟨rfl, ?_, ?_⟩
    · exact (((Turn.of B3).trans (Turn.set w3 n 0 _)).new (by dsimp only; omega) _).new (by dsimp only; omega) _
    · exact ((hc3.put 4).far (by dsimp only; omega) _).far (by dsimp only; omega) _

end Go.Proofs.YthamlnolfagpiaaGreatDoor.D

