/-
  DERIVED. The walks of ratio's fractions: product.
-/
import Derived.Test.YthamlnolfagpiaaGreatDoorRatFrac1
import Derived.Test.YthamlnolfagpiaaGreatDoorRatMuls
namespace Go.Proofs.YthamlnolfagpiaaGreatDoor.D
open Go.RowKit
set_option maxRecDepth 8000

/-- what keeps a quotient -/
def FqPost (P : Int) (Q : Nat) (w : World) (e : Ending) (w' : World) : Prop :=
  ∃ (s : Int) (l : ByteArray) (s' : Int) (l' : ByteArray), e = .returned (.tuple #[.agg #[.int .i64 s, .string l, .int .i64 s', .string l'], .int .i64 0]) ∧ Rp s l P ∧ Rp s' l' (Q : Int) ∧ Below w.heap.size w w'

def PrPost (x : Int) (m : Nat) (r : Rat) (w : World) (e : Ending) (w' : World) : Prop :=
  (nd x.natAbs ≤ 4096 ∧ nd m ≤ 4096 ∧ FqPost r.num r.den w e w') ∨ ((4096 < nd x.natAbs ∨ 4096 < nd m) ∧ e = .returned (.tuple #[.agg #[.int .i64 0, .string ⟨#[]⟩, .int .i64 0, .string ⟨#[]⟩], .int .i64 4]) ∧ Below w.heap.size w w')
set_option maxHeartbeats 4000000 in
theorem ratProduct_z (s1 s2 s3 s4 a c x : Int) (l1 l2 l3 l4 : ByteArray) (b d m : Nat) (r : Rat) (hm : 0 < m) (hr : mkRat x m = r) (hx : Hid (a * c = x)) (hy : Hid ((b : Int) * (d : Int) = (m : Int)))
    (h1 : Rp s1 l1 a) (h2 : Rp s2 l2 (b : Int)) (h3 : Rp s3 l3 c) (h4 : Rp s4 l4 (d : Int)) (w : World) (ht : Tab w) :
    Calls Tryz.prog 63 #[.agg #[.int .i64 s1, .string l1, .int .i64 s2, .string l2], .agg #[.int .i64 s3, .string l3, .int .i64 s4, .string l4]] w fun e w' => PrPost x m r w e w' := by
  have TA := Lib.hid (fun n e0 w ht hc => mul_any n s1 a s3 c x l1 l3 h1 h3 hx e0 w ht hc)
  have TB := Lib.hid (fun n e0 w ht hc => mul_any n s2 (b : Int) s4 (d : Int) (m : Int) l2 l4 h2 h4 hy e0 w ht hc)
  have H2 : Hid (Bf ((((w.alloc (.cells #[.int .i64 s1, .string l1, .int .i64 s2, .string l2] 48)).alloc (.cells #[.int .i64 s3, .string l3, .int .i64 s4, .string l4] 48)).alloc (.cells #[.int .i64 0, .string ⟨#[]⟩, .int .i64 0, .string ⟨#[]⟩] 48)).alloc (.cells #[.int .i64 0] 64)) w.heap.size s1 l1 s2 l2) := (((Bf.made w _ rfl s1 l1 s2 l2).alloc _).alloc _).alloc _
  have H3 : Hid (Bf ((((w.alloc (.cells #[.int .i64 s1, .string l1, .int .i64 s2, .string l2] 48)).alloc (.cells #[.int .i64 s3, .string l3, .int .i64 s4, .string l4] 48)).alloc (.cells #[.int .i64 0, .string ⟨#[]⟩, .int .i64 0, .string ⟨#[]⟩] 48)).alloc (.cells #[.int .i64 0] 64)) (w.heap.size + 1) s3 l3 s4 l4) := ((Bf.made (w.alloc (cFr s1 l1 s2 l2)) _ (by simp) s3 l3 s4 l4).alloc _).alloc _
  have HF : Hid (Bf ((((w.alloc (.cells #[.int .i64 s1, .string l1, .int .i64 s2, .string l2] 48)).alloc (.cells #[.int .i64 s3, .string l3, .int .i64 s4, .string l4] 48)).alloc (.cells #[.int .i64 0, .string ⟨#[]⟩, .int .i64 0, .string ⟨#[]⟩] 48)).alloc (.cells #[.int .i64 0] 64)) (w.heap.size + 2) 0 ⟨#[]⟩ 0 ⟨#[]⟩) := (Bf.made ((w.alloc (cFr s1 l1 s2 l2)).alloc (cFr s3 l3 s4 l4)) _ (by simp) 0 ⟨#[]⟩ 0 ⟨#[]⟩).alloc _
  have HC : Hid (Bc ((((w.alloc (.cells #[.int .i64 s1, .string l1, .int .i64 s2, .string l2] 48)).alloc (.cells #[.int .i64 s3, .string l3, .int .i64 s4, .string l4] 48)).alloc (.cells #[.int .i64 0, .string ⟨#[]⟩, .int .i64 0, .string ⟨#[]⟩] 48)).alloc (.cells #[.int .i64 0] 64)) (w.heap.size + 3) 0) := Bc.made (((w.alloc (cFr s1 l1 s2 l2)).alloc (cFr s3 l3 s4 l4)).alloc (cFr 0 ⟨#[]⟩ 0 ⟨#[]⟩)) _ (by simp) 0
  clear h1 h2 h3 h4 hx hy
  go_enter Tryz.func63, Tryz.ntmps63
  go_upto_region 2 with fail
  go_cut [7, 8] (fun t7 t8 wx => ∃ (A B : Nat) (s5 s6 : Int) (l5 l6 : ByteArray), t7 = .pointer (some ⟨A, 0, none⟩) ∧ t8 = .pointer (some ⟨B, 0, none⟩) ∧ Hid (nd x.natAbs ≤ 4096 → Rp s5 l5 x) ∧ Hid (nd (m : Int).natAbs ≤ 4096 → Rp s6 l6 (m : Int)) ∧ Hid (Bi wx A s5 l5) ∧ Hid (Bi wx B s6 l6) ∧ Hid (Bc wx (w.heap.size + 3) (er (m : Int) (er x 0))) ∧ Hid (Bf wx (w.heap.size + 2) 0 ⟨#[]⟩ 0 ⟨#[]⟩) ∧ Below w.heap.size w wx)
  case first =>
    obtain ⟨d1, d2, d3, d4⟩ := H2.out.all
    obtain ⟨d5, d6, d7, d8⟩ := H3.out.all
    go_region_held3 (fun w' => w'.cell? ⟨w.heap.size, 0, none⟩ = some (.int .i64 s1) ∧ w'.cell? ⟨w.heap.size, 1, none⟩ = some (.string l1) ∧ w'.cell? ⟨w.heap.size, 2, none⟩ = some (.int .i64 s2) ∧ w'.cell? ⟨w.heap.size, 3, none⟩ = some (.string l2) ∧ w'.cell? ⟨w.heap.size + 1, 0, none⟩ = some (.int .i64 s3) ∧ w'.cell? ⟨w.heap.size + 1, 1, none⟩ = some (.string l3) ∧ w'.cell? ⟨w.heap.size + 1, 2, none⟩ = some (.int .i64 s4) ∧ w'.cell? ⟨w.heap.size + 1, 3, none⟩ = some (.string l4))
      (first
        | (go_split_ands
           refine ⟨?_, ?_, ?_, ?_, ?_, ?_, ?_, ?_⟩ <;> first
             | with_reducible assumption
             | ((with_reducible refine Turn.keepc b6 ?_ ?_); (with_reducible assumption); (dsimp only; omega))
             | ((with_reducible refine Turn.keepc b5 ?_ ?_); (with_reducible assumption); (dsimp only; omega))
             | ((repeat' (first
                 | with_reducible assumption
                 | (with_reducible refine cell_dr ?_)
                 | (with_reducible refine cell_al ?_)
                 | (with_reducible refine cell_far ?_ ?_)
                 | (dsimp only; omega))); done))
        | go_keep)
      (first
        | (go_at_call 51; (with_reducible refine (TA.out _ 0 _ ?_ ?_).mono ?_); (exact ht.over (by go_grown)); (first | (with_reducible exact HC.out) | (with_reducible exact HC.out.alloc _) | (with_reducible exact (HC.out.alloc _).alloc _) | exact HC.out | exact HC.out.alloc _ | exact (HC.out.alloc _).alloc _); rintro e w5 ⟨s5, l5, rfl, h5, b5, c5⟩
           have B5 := over_turn (w := w) (by go_grown) b5 (by omega)
           have k5 : w.heap.size + 4 ≤ w5.heap.size := (by have := b5.size; (try simp at this); omega)
           have y2 := b5.bf (m := w.heap.size) (by (first | (with_reducible exact H2.out) | (with_reducible exact H2.out.alloc _) | (with_reducible exact (H2.out.alloc _).alloc _) | exact H2.out | exact H2.out.alloc _ | exact (H2.out.alloc _).alloc _)) (by omega)
           have y3 := b5.bf (m := w.heap.size + 1) (by (first | (with_reducible exact H3.out) | (with_reducible exact H3.out.alloc _) | (with_reducible exact (H3.out.alloc _).alloc _) | exact H3.out | exact H3.out.alloc _ | exact (H3.out.alloc _).alloc _)) (by omega)
           have y4 := b5.bf (m := w.heap.size + 2) (by (first | (with_reducible exact HF.out) | (with_reducible exact HF.out.alloc _) | (with_reducible exact (HF.out.alloc _).alloc _) | exact HF.out | exact HF.out.alloc _ | exact (HF.out.alloc _).alloc _)) (by omega)
           try ((with_reducible have p1 := al1 (Turn.undrew b5)); have p1 := p1 (by first | omega | (simp <;> omega)); try simp only [World.size_alloc] at p1)
           try ((with_reducible have p2 := al2 (Turn.undrew b5)); have p2 := p2 (by first | omega | (simp <;> omega)); try simp only [World.size_alloc] at p2))
        | (go_at_call 51; (with_reducible refine (TB.out _ (er x 0) _ ?_ ?_).mono ?_); (exact ht.over (by go_grown)); (first | (with_reducible exact c5) | (with_reducible exact c5.alloc _) | (with_reducible exact (c5.alloc _).alloc _) | exact c5 | exact c5.alloc _ | exact (c5.alloc _).alloc _); rintro e w6 ⟨s6, l6, rfl, h6, b6, c6⟩
           have B6 := over_turn (w := w) (by go_grown) b6 (by omega)
           have k6 : w5.heap.size ≤ w6.heap.size := (by have := b6.size; (try simp at this); omega)
           have z2 := b6.bf (m := w.heap.size) (by (first | (with_reducible exact y2) | (with_reducible exact y2.alloc _) | (with_reducible exact (y2.alloc _).alloc _) | exact y2 | exact y2.alloc _ | exact (y2.alloc _).alloc _)) (by omega)
           have z3 := b6.bf (m := w.heap.size + 1) (by (first | (with_reducible exact y3) | (with_reducible exact y3.alloc _) | (with_reducible exact (y3.alloc _).alloc _) | exact y3 | exact y3.alloc _ | exact (y3.alloc _).alloc _)) (by omega)
           have z4 := b6.bf (m := w.heap.size + 2) (by (first | (with_reducible exact y4) | (with_reducible exact y4.alloc _) | (with_reducible exact (y4.alloc _).alloc _) | exact y4 | exact y4.alloc _ | exact (y4.alloc _).alloc _)) (by omega)
           obtain ⟨e1, e2, e3, e4⟩ := z2.all
           obtain ⟨e5, e6, e7, e8⟩ := z3.all
           try ((first | (with_reducible have q1 := b6.bi p1) | (with_reducible have q1 := b6.bi (p1.alloc _)) | (with_reducible have q1 := b6.bi ((p1.alloc _).alloc _))); have q1 := q1 (by omega))
           try ((first | (with_reducible have q2 := b6.bi p2) | (with_reducible have q2 := b6.bi (p2.alloc _)) | (with_reducible have q2 := b6.bi ((p2.alloc _).alloc _))); have q2 := q2 (by omega))
           try ((with_reducible have q3 := al1 b6); have q3 := q3 (by first | omega | (simp <;> omega)); try simp only [World.size_alloc] at q3)
           try ((with_reducible have q4 := al2 b6); have q4 := q4 (by first | omega | (simp <;> omega)); try simp only [World.size_alloc] at q4)
           try (have k7 := q3.lt)
           try (have k8 := q4.lt)
           try (have k9 := p1.lt)
           try (have k10 := p2.lt)
           try (have k11 := q1.lt)
           try (have k12 := q2.lt)
           try (obtain ⟨a1, a2, a3, a4⟩ := q1.all)
           try (obtain ⟨a5, a6, a7, a8⟩ := q2.all)
           try (obtain ⟨a9, a10, a11, a12⟩ := q3.all)
           try (obtain ⟨a13, a14, a15, a16⟩ := q4.all)))
    all_goals
      clear HC H2 H3 HF TA TB
      go_wp2_with fail
      go_meet
      refine ⟨_, _, s5, s6, l5, l6, rfl, rfl, h5, h6, Lib.hid ?_, Lib.hid ?_, Lib.hid ?_, Lib.hid ?_, (by go_grown)⟩
      all_goals
        (repeat' (first
            | (with_reducible exact c6)
            | (with_reducible exact z4)
            | (with_reducible assumption)
            | (with_reducible refine Bi.put (s := 0) (l := ⟨#[]⟩) ?_ _ _)
            | ((with_reducible refine Bi.made _ _ ?_ _ _); (first | rfl | omega | (simp <;> omega)))
            | (with_reducible refine Bi.alloc ?_ _)
            | (with_reducible refine Bc.alloc ?_ _)
            | (with_reducible refine Bf.alloc ?_ _)
            | (with_reducible refine Bi.far ?_ ?_ _)
            | (with_reducible refine Bc.far ?_ ?_ _)
            | (with_reducible refine Bf.far ?_ ?_ _)
            | (dsimp only; omega)))
  case rest =>
    obtain ⟨A, B, s5, s6, l5, l6, rfl, rfl, h5, h6, HA, HB, HCE, HFE, hb⟩ := hcut
    clear HC H2 H3 HF TA TB
    have r0 := HCE.out.c0
    have a0 := HA.out.c0
    have a1 := HA.out.c1
    have b0 := HB.out.c0
    have b1 := HB.out.c1
    have v0 := HFE.out.c0
    have v1 := HFE.out.c1
    have v2 := HFE.out.c2
    have v3 := HFE.out.c3
    have f0 := HFE.out.f 0
    have f1 := HFE.out.f 1
    have f2 := HFE.out.f 2
    have f3 := HFE.out.f 3
    have hs := hb.size
    by_cases hk : nd x.natAbs ≤ 4096 ∧ nd m ≤ 4096
    · obtain ⟨kx, km⟩ := hk
      have hr5 := h5.out kx
      have hr6 := h6.out (by rw [Int.natAbs_natCast]; exact km)
      rw [er_fit (z := (m : Int)) (by rw [Int.natAbs_natCast]; exact km), er_fit kx] at r0
      have TR := Lib.hid (fun w ht => reduce_z s5 s6 x l5 l6 m r hm hr hr5 hr6 w ht)
      clear hr5 hr6 h5 h6 hr hm
      go_wp2_with fail
      refine (TR.out _ (ht.over hb)).mono ?_
      rintro e w7 ⟨t1, k1, t2, k2, rfl, R1, R2, b7⟩
      have B7 := Below.over hb b7
      have z4 := HFE.out.under b7
      have u0 := z4.c0
      have u1 := z4.c1
      have u2 := z4.c2
      have u3 := z4.c3
      have g0 := z4.f 0
      have g1 := z4.f 1
      have g2 := z4.f 2
      have g3 := z4.f 3
      have hs7 := B7.size
      clear r0 a0 a1 b0 b1 v0 v1 v2 v3 f0 f1 f2 f3 HA HB HCE HFE TR
      go_wp2_with fail
      have hF := z4.put t1 k1 t2 k2
      have y0 := hF.c0
      have y1 := hF.c1
      have y2 := hF.c2
      have y3 := hF.c3
      refine bodyPost_ret (v := .tuple #[.agg #[.int .i64 t1, .string k1, .int .i64 t2, .string k2], .int .i64 0]) (by simp [results, Tryz.results63, go_sem, y0, y1, y2, y3]) rfl (.inl ⟨kx, km, _, _, _, _, rfl, R1, R2, by go_grown⟩)
    · have hov : 4096 < nd x.natAbs ∨ 4096 < nd m := by omega
      have hE : er (m : Int) (er x 0) = 4 := by
        rcases hov with h | h
        · rw [er_over h, er_four]
        · exact er_over (by rw [Int.natAbs_natCast]; exact h)
      rw [hE] at r0
      clear hE hk h5 h6 hr hm
      go_wp2_with fail
      go_region_held3 (fun w' => w'.cell? ⟨w.heap.size + 3, 0, none⟩ = some (.int .i64 4))
        (first
          | ((repeat' (first
              | with_reducible assumption
              | (with_reducible refine cell_dr ?_)
              | (with_reducible refine cell_far ?_ ?_)
              | (dsimp only; omega))); done)
          | go_keep)
        (fail)
      all_goals
        go_wp2_with fail
        have hF := HFE.out.put 0 ⟨#[]⟩ 0 ⟨#[]⟩
        have y0 := hF.c0
        have y1 := hF.c1
        have y2 := hF.c2
        have y3 := hF.c3
        refine bodyPost_ret (v := .tuple #[.agg #[.int .i64 0, .string ⟨#[]⟩, .int .i64 0, .string ⟨#[]⟩], .int .i64 4]) (by simp [results, Tryz.results63, go_sem, y0, y1, y2, y3]) rfl (.inr ⟨hov, rfl, by go_grown⟩)

end Go.Proofs.YthamlnolfagpiaaGreatDoor.D

