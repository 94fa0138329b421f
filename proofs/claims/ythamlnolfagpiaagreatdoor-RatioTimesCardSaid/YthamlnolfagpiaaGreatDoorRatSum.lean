/-
  DERIVED. The walk of ratio's sum.
-/
import Derived.Test.YthamlnolfagpiaaGreatDoorRatMuls
import Derived.Test.YthamlnolfagpiaaGreatDoorRatParse
import Derived.Deep.DeepCutAuto
namespace Go.Proofs.YthamlnolfagpiaaGreatDoor.D
open Go.RowKit
set_option maxRecDepth 8000

/-- what keeps a number, beside no error -/
def SmPost (r : Rat) (w : World) (e : Ending) (w' : World) : Prop :=
  ∃ (s : Int) (l : ByteArray) (s' : Int) (l' : ByteArray), e = .returned (.tuple #[.agg #[.int .i64 s, .string l, .int .i64 s', .string l'], .int .i64 0]) ∧ RpF r s l s' l' ∧ Below w.heap.size w w'
/-- no integer of a sum is too long -/
def Fit (r s : Rat) : Prop := nd (r.num * s.den).natAbs ≤ 4096 ∧ nd (s.num * r.den).natAbs ≤ 4096 ∧ nd (r.num * s.den + s.num * r.den).natAbs ≤ 4096 ∧ nd (r.den * s.den) ≤ 4096
theorem al1b {W w' : World} {s : Int} {l : ByteArray} (h : Below (W.alloc (.cells #[.int .i64 s, .string l] 46)).heap.size (W.alloc (.cells #[.int .i64 s, .string l] 46)) w') : Bi w' W.heap.size s l := (Bi.made W _ rfl s l).under h
/-- four cells of a slice's element -/
def El (w : World) (g k : Nat) (s : Int) (l : ByteArray) (s' : Int) (l' : ByteArray) : Prop :=
  w.cell? ⟨g, k * 4, none⟩ = some (.int .i64 s) ∧ w.cell? ⟨g, k * 4 + 1, none⟩ = some (.string l) ∧ w.cell? ⟨g, k * 4 + 2, none⟩ = some (.int .i64 s') ∧ w.cell? ⟨g, k * 4 + 3, none⟩ = some (.string l')

set_option maxHeartbeats 8000000 in
theorem ratSum_z (R ρ : Nat → Rat) (n g cap : Nat) (sa sb : Nat → Int) (la lb : Nat → ByteArray) (s s' : Int) (l l' : ByteArray) (h1 : Rp s l (R 0).num) (h2 : Rp s' l' ((R 0).den : Int))
    (hstep : ∀ k, k < n → R k + ρ k = R (k + 1)) (hfit : ∀ k, k < n → Fit (R k) (ρ k)) (hel : ∀ k, k < n → RpF (ρ k) (sa k) (la k) (sb k) (lb k)) (w : World) (ht : Tab w)
    (hc : ∀ k, k < n → El w g k (sa k) (la k) (sb k) (lb k)) (hg : g < w.heap.size) (hn9 : n ≤ 1000) :
    Calls Tryz.prog 58 #[.agg #[.int .i64 s, .string l, .int .i64 s', .string l'], .slice (some ⟨g, 0, none⟩) n cap] w fun e w' => SmPost (R n) w e w' := by
  have HS := Lib.hid hstep
  have HF := Lib.hid hfit
  have HE := Lib.hid hel
  have HC := Lib.hid hc
  have HR0 : Hid (RpF (R 0) s l s' l') := ⟨h1, h2⟩
  clear hstep hfit hel hc h1 h2
  go_enter Tryz.func58, Tryz.ntmps58
  go_wp2_with fail
  go_loopw [13] (fun i wr => ∃ (k : Nat) (a c : Int) (b d : ByteArray), k ≤ n ∧ i = .int .i64 k ∧ Hid (RpF (R k) a b c d) ∧ Hid (Bf wr w.heap.size a b c d) ∧ Hid (Bf wr (w.heap.size + 1) 0 ⟨#[]⟩ 0 ⟨#[]⟩) ∧ Below w.heap.size w wr) (fun i _ => n - (intOf i).toNat)
  case atStart => exact ⟨0, s, s', l, l', Nat.zero_le _, rfl, HR0, ((Bf.made w _ rfl s l s' l').alloc _), (Bf.made (w.alloc (cFr s l s' l')) _ (by simp) 0 ⟨#[]⟩ 0 ⟨#[]⟩), by go_grown⟩
  case round =>
    clear HR0
    obtain ⟨k, a, c, b, d, hk, rfl, HR, HB, HZ, hb⟩ := hrel
    have hbs := hb.size
    by_cases hlt : k < n
    · obtain ⟨d0, d1, d2, d3⟩ := HC.out k hlt
      obtain ⟨sk, hsk⟩ : ∃ x, sa k = x := ⟨_, rfl⟩
      obtain ⟨lk, hlk⟩ : ∃ x, la k = x := ⟨_, rfl⟩
      obtain ⟨tk, htk⟩ : ∃ x, sb k = x := ⟨_, rfl⟩
      obtain ⟨mk, hmk⟩ : ∃ x, lb k = x := ⟨_, rfl⟩
      have hEk := HE.out k hlt
      rw [hsk, hlk, htk, hmk] at hEk
      rw [hsk] at d0
      rw [hlk] at d1
      rw [htk] at d2
      rw [hmk] at d3
      have e0 := (hb.cell (p := ⟨g, k * 4, none⟩) hg).trans d0
      have e1 := (hb.cell (p := ⟨g, k * 4 + 1, none⟩) hg).trans d1
      have e2 := (hb.cell (p := ⟨g, k * 4 + 2, none⟩) hg).trans d2
      have e3 := (hb.cell (p := ⟨g, k * 4 + 3, none⟩) hg).trans d3
      obtain ⟨f1, f2, f3, f4⟩ := HF.out k hlt
      obtain ⟨r1, r2⟩ := HR.out
      obtain ⟨i1, i2⟩ := hEk
      have hm : 0 < (R k).den * (ρ k).den := Nat.mul_pos (rat_den_pos _) (rat_den_pos _)
      have hrr : mkRat ((R k).num * (ρ k).den + (ρ k).num * (R k).den) ((R k).den * (ρ k).den) = R (k + 1) := by rw [add_quot]; exact HS.out k hlt
      have TA := Lib.hid (fun n w ht => mul_fit n a (R k).num tk ((ρ k).den : Int) _ b mk r1 i2 (Lib.hid rfl) f1 w ht)
      have TB := Lib.hid (fun n w ht => mul_fit n sk (ρ k).num c ((R k).den : Int) _ lk d i1 r2 (Lib.hid rfl) f2 w ht)
      have TD := Lib.hid (fun n s5 l5 s6 l6 (h5 : Rp s5 l5 ((R k).num * (ρ k).den)) (h6 : Rp s6 l6 ((ρ k).num * (R k).den)) w ht => add_fit n s5 _ s6 _ _ l5 l6 h5 h6 (Lib.hid rfl) f3 w ht)
      have TE := Lib.hid (fun n w ht => mul_fit n c ((R k).den : Int) tk ((ρ k).den : Int) (((R k).den * (ρ k).den : Nat) : Int) d mk r2 i2 (Lib.hid (Int.natCast_mul _ _).symm) (by rw [Int.natAbs_natCast]; exact f4) w ht)
      have TR := Lib.hid (fun s l s' l' (h : Rp s l ((R k).num * (ρ k).den + (ρ k).num * (R k).den)) (h' : Rp s' l' (((R k).den * (ρ k).den : Nat) : Int)) w ht => reduce_z s s' _ l l' _ (R (k + 1)) hm hrr h h' w ht)
      have x2 := (HB.out.alloc (.cells #[.int .i64 sk, .string lk, .int .i64 tk, .string mk] 48)).alloc (.cells #[.int .i64 0] 64)
      have x4 := (HZ.out.alloc (.cells #[.int .i64 sk, .string lk, .int .i64 tk, .string mk] 48)).alloc (.cells #[.int .i64 0] 64)
      have x7 := (Bf.made wr _ rfl sk lk tk mk).alloc (.cells #[.int .i64 0] 64)
      have c8 := Bc.made (wr.alloc (.cells #[.int .i64 sk, .string lk, .int .i64 tk, .string mk] 48)) (wr.heap.size + 1) (by simp) 0
      have BW : Below w.heap.size w ((wr.alloc (.cells #[.int .i64 sk, .string lk, .int .i64 tk, .string mk] 48)).alloc (.cells #[.int .i64 0] 64)) := by go_grown
      have kl := HB.out.lt
      have km := HZ.out.lt
      generalize (R k).num * (ρ k).den = z1 at *
      generalize (ρ k).num * (R k).den = z2 at *
      generalize (R k).den * (ρ k).den = z3 at *
      clear d0 d1 d2 d3 hsk hlk htk hmk HR r1 r2 i1 i2 hm hrr f1 f2 f3 f4 HB HZ
      go_upto_region 5 with fail
      clear e0 e1 e2 e3
      generalize (wr.alloc (.cells #[.int .i64 sk, .string lk, .int .i64 tk, .string mk] 48)).alloc (.cells #[.int .i64 0] 64) = W1 at x2 x4 x7 c8 BW ⊢
      have kW := BW.size
      go_cut [9] (fun t9 wx => ∃ (A : Nat) (s9 : Int) (l9 : ByteArray), t9 = .pointer (some ⟨A, 0, none⟩) ∧ Hid (Rp s9 l9 (z1 + z2)) ∧ Hid (Bi wx A s9 l9) ∧ Below W1.heap.size W1 wx)
      case first =>
        obtain ⟨d1, d2, d3, d4⟩ := x2.all
        obtain ⟨d5, d6, d7, d8⟩ := x7.all
        have kx := x7.lt
        have kc := c8.lt
        go_region_held3 (fun w' => w'.cell? ⟨w.heap.size, 0, none⟩ = some (.int .i64 a) ∧ w'.cell? ⟨w.heap.size, 1, none⟩ = some (.string b) ∧ w'.cell? ⟨w.heap.size, 2, none⟩ = some (.int .i64 c) ∧ w'.cell? ⟨w.heap.size, 3, none⟩ = some (.string d) ∧ w'.cell? ⟨wr.heap.size, 0, none⟩ = some (.int .i64 sk) ∧ w'.cell? ⟨wr.heap.size, 1, none⟩ = some (.string lk) ∧ w'.cell? ⟨wr.heap.size, 2, none⟩ = some (.int .i64 tk) ∧ w'.cell? ⟨wr.heap.size, 3, none⟩ = some (.string mk))
          (first
            | (go_split_ands
               refine ⟨?_, ?_, ?_, ?_, ?_, ?_, ?_, ?_⟩ <;> first
                 | with_reducible assumption
                 | ((with_reducible refine Below.keepc b7 ?_); (with_reducible assumption))
                 | ((with_reducible refine Below.keepc b6 ?_); (with_reducible assumption))
                 | ((with_reducible refine Below.keepc b5 ?_); (with_reducible assumption))
                 | ((repeat' (first
                     | with_reducible assumption
                     | (with_reducible refine cell_dr ?_)
                     | (with_reducible refine cell_al ?_)
                     | (with_reducible refine cell_far ?_ ?_)
                     | (dsimp only; omega))); done))
            | go_keep)
          (first
            | (go_at_call 51; (with_reducible refine (TA.out _ _ ?_).mono ?_); (exact ht.over (by go_grown)); rintro e w5 ⟨s5, l5, rfl, h5, b5⟩
               have B5 := Below.over (w := w) (by go_grown) b5
               have C5 : Below W1.heap.size W1 w5 := Below.over (w := W1) (by go_grown) b5
               have y2 := x2.under C5
               have y7 := x7.under C5
               have k5 := C5.size
               try ((with_reducible have p1 := al1b (Below.undrew b5)); try simp only [World.size_alloc] at p1))
            | (go_at_call 51; (with_reducible refine (TB.out _ _ ?_).mono ?_); (exact ht.over (by go_grown)); rintro e w6 ⟨s6, l6, rfl, h6, b6⟩
               have B6 := Below.over (w := w) (by go_grown) b6
               have C6 : Below W1.heap.size W1 w6 := Below.over (w := W1) (by go_grown) b6
               have k6 : w5.heap.size ≤ w6.heap.size := (by have := b6.size; (try simp at this); omega)
               try (first | (with_reducible have q1 := p1.under b6) | (with_reducible have q1 := (p1.alloc _).under b6))
               try ((with_reducible have q3 := al1b b6); try simp only [World.size_alloc] at q3))
            | (go_at_call 96; (with_reducible refine (TD.out _ s5 l5 s6 l6 h5 h6 _ ?_).mono ?_); (exact ht.over (by go_grown)); rintro e w7 ⟨s7, l7, rfl, h7, b7⟩
               have B7 := Below.over (w := w) (by go_grown) b7
               have C7 : Below W1.heap.size W1 w7 := Below.over (w := W1) (by go_grown) b7
               have k7 : w6.heap.size ≤ w7.heap.size := (by have := b7.size; (try simp at this); omega)
               have y2 := x2.under C7
               have y7 := x7.under C7
               obtain ⟨v1, v2, v3, v4⟩ := y2.all
               obtain ⟨v5, v6, v7, v8⟩ := y7.all
               try (first | (with_reducible have u1 := q1.under b7) | (with_reducible have u1 := (q1.alloc _).under b7))
               try (first | (with_reducible have u3 := q3.under b7) | (with_reducible have u3 := (q3.alloc _).under b7))
               try ((with_reducible have u5 := al1b b7); try simp only [World.size_alloc] at u5)
               try (have k8 := u1.lt)
               try (have k9 := u3.lt)
               try (have k10 := u5.lt)
               try (obtain ⟨a1, a2, a3, a4⟩ := u1.all)
               try (obtain ⟨a5, a6, a7, a8⟩ := u3.all)
               try (obtain ⟨a9, a10, a11, a12⟩ := u5.all)))
        all_goals
          clear TA TB TD TE TR HS HF HE HC
          go_wp2_with fail
          go_meet
          refine ⟨_, s7, l7, rfl, h7, Lib.hid ?_, (by go_grown)⟩
          (repeat' (first
            | (with_reducible assumption)
            | (with_reducible refine Bi.put (s := 0) (l := ⟨#[]⟩) ?_ _ _)
            | ((with_reducible refine Bi.made _ _ ?_ _ _); (first | rfl | omega | (simp <;> omega)))
            | (with_reducible refine Bi.alloc ?_ _)
            | (with_reducible refine Bi.far ?_ ?_ _)
            | (dsimp only; omega)))
      case rest =>
        obtain ⟨A, s9, l9, rfl, H9, HA, bx⟩ := hcut
        clear TA TB TD
        have Bx := Below.over BW bx
        replace x2 := x2.under bx
        replace x4 := x4.under bx
        replace x7 := x7.under bx
        replace c8 := c8.under bx
        obtain ⟨d1, d2, d3, d4⟩ := x2.all
        obtain ⟨d5, d6, d7, d8⟩ := x7.all
        go_wp2_with fail
        refine (TE.out _ _ (ht.over Bx)).mono ?_
        rintro e w8 ⟨s8, l8, rfl, h8, b8⟩
        have B8 := Below.over Bx b8
        replace x2 := (x2.under b8).alloc (.cells #[.int .i64 s8, .string l8] 46)
        replace x4 := (x4.under b8).alloc (.cells #[.int .i64 s8, .string l8] 46)
        replace c8 := (c8.under b8).alloc (.cells #[.int .i64 s8, .string l8] 46)
        have yA := (HA.out.under b8).alloc (.cells #[.int .i64 s8, .string l8] 46)
        have c80 := c8.c0
        have yA0 := yA.c0
        have yA1 := yA.c1
        clear d1 d2 d3 d4 d5 d6 d7 d8 x7 HA b8 bx TE
        have k8 := B8.size
        go_wp2_with fail
        refine (TR.out s9 l9 s8 l8 H9.out h8 _ (ht.over (B8.alloc (by omega) _))).mono ?_
        rintro e w9 ⟨t1, k1, t2, k2, rfl, R1, R2, b9⟩
        have B9 := Below.over (w := w) (B8.alloc (by omega) (.cells #[.int .i64 s8, .string l8] 46)) b9
        replace x2 := x2.under b9
        replace x4 := x4.under b9
        obtain ⟨d1, d2, d3, d4⟩ := x2.all
        have g0 := x2.f 0
        have g1 := x2.f 1
        have g2 := x2.f 2
        have g3 := x2.f 3
        clear c80 yA0 yA1 yA c8 b9 TR
        have k9 := B9.size
        go_wp2_with fail
        go_round
        case rel => exact ⟨k + 1, t1, t2, k1, k2, by omega, by go_num, Lib.hid ⟨R1, R2⟩, Lib.hid (x2.put t1 k1 t2 k2), Lib.hid ((((x4.far (p := ⟨w.heap.size, 0, none⟩) (by dsimp only; omega) _).far (p := ⟨w.heap.size, 1, none⟩) (by dsimp only; omega) _).far (p := ⟨w.heap.size, 2, none⟩) (by dsimp only; omega) _).far (p := ⟨w.heap.size, 3, none⟩) (by dsimp only; omega) _), by go_grown⟩
        case measure => simp [intOf]; omega
    · have hk' : k = n := by omega
      subst hk'
      obtain ⟨d1, d2, d3, d4⟩ := HB.out.all
      obtain ⟨c1, c2, c3, c4⟩ := HZ.out.all
      have g0 := HZ.out.f 0
      have g1 := HZ.out.f 1
      have g2 := HZ.out.f 2
      have g3 := HZ.out.f 3
      go_wp2_with fail
      have hF := HZ.out.put a b c d
      obtain ⟨y0, y1, y2, y3⟩ := hF.all
      refine bodyPost_ret (v := .tuple #[.agg #[.int .i64 a, .string b, .int .i64 c, .string d], .int .i64 0]) (by simp [results, Tryz.results58, go_sem, y0, y1, y2, y3]) rfl ⟨_, _, _, _, rfl, HR.out, by go_grown⟩

end Go.Proofs.YthamlnolfagpiaaGreatDoor.D

