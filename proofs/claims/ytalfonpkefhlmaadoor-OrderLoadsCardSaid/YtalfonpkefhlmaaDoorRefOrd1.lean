/-
  DERIVED. The walks of the specification's in, Visits and Stop.
-/
import Derived.Test.YtalfonpkefhlmaaDoorOrdBase
namespace Go.Proofs.YtalfonpkefhlmaaDoor.T
open Go.RowKit
set_option maxRecDepth 8000

def rgB (lo hi x : Int) : Bool := decide (lo ≤ x) && decide (x ≤ hi)
theorem in_n (x lo hi : Int) (w : World) : Calls Tryd.prog 19 #[.int .i64 x, .int .i64 lo, .int .i64 hi] w fun e w' => e = .returned (.bool (rgB lo hi x)) ∧ w = w' := by
  by_cases h1 : lo ≤ x
  · have HR : Hid (decide (x ≤ hi) = rgB lo hi x) := by show _ = _; unfold rgB; rw [decide_eq_true h1, Bool.true_and]
    generalize rgB lo hi x = r at *
    go_enter Tryd.func19, Tryd.ntmps19
    go_wp2_with fail
    go_ret
    exact ⟨ret_bool HR.out, rfl⟩
  · have HR : Hid (false = rgB lo hi x) := by show _ = _; unfold rgB; rw [decide_eq_false h1, Bool.false_and]
    have h2 : x < lo := by omega
    generalize rgB lo hi x = r at *
    go_enter Tryd.func19, Tryd.ntmps19
    go_wp2_with fail
    go_ret
    exact ⟨ret_bool HR.out, rfl⟩
theorem rg_in (l : List OrT) (i : Int) : rgB 0 ((l.length : Int) - 1) i = inR l i := by
  unfold rgB inR
  congr 1
  rw [decide_eq_decide]
  omega

set_option maxHeartbeats 3200000 in
theorem refVisits_n (v : Value) (l : List OrT) (i : Int) (hl : l.length ≤ 1000000) (w : World) (hv : Os w v l) :
    Calls Tryd.prog 9 #[v, .int .i64 i] w (VisP (visL l i) w) := by
  obtain ⟨oa, c, rfl, ha⟩ := hv
  have KI := Lib.hid (fun w => in_n i 0 ((l.length : Int) - 1) w)
  rw [rg_in] at KI
  have hw : IntKind.i64.wrap ((l.length : Int) - 1) = (l.length : Int) - 1 := IntWalk.i64_in _ (by omega)
  cases hr : inR l i
  · have HR : Hid (visL l i = []) := by show _ = _; unfold visL; rw [hr]; rfl
    rw [hr] at KI
    generalize visL l i = r at *
    generalize l.length = n at *
    clear hr ha
    go_enter Tryd.func9, Tryd.ntmps9
    go_wp2_with fail
    refine (KI.out _).mono ?_
    rintro e w1 ⟨rfl, rfl⟩
    go_wp2_with fail
    go_ret
    exact visP (HR.out ▸ Gw.nil _ _) (Below.refl _ _) (Nat.le_refl _)
  · have HR : Hid (visL l i = visO (l.getD i.toNat or0) i) := by show _ = _; unfold visL; rw [hr, if_pos rfl]
    rw [hr] at KI
    obtain ⟨k, rfl, hk⟩ := inR_yes hr
    obtain ⟨b, o, vc, rfl, hab, ⟨h0, h1, h2, h3, h4, h5, h6, h7, h8, h9, h10, h11, h12, h13, h14, h15⟩, -⟩ := ha k hk
    rw [Int.toNat_natCast] at HR
    have hkI : (k : Int) < (l.length : Int) := by omega
    generalize visL l k = r at *
    generalize l.getD k or0 = a at *
    generalize l.length = n at *
    clear hr ha
    have HE : Hid (r = [] ++ (if 0 ≤ a.pp then [((k : Int), false)] else []) ++ (if 0 ≤ a.dp then [((k : Int), true)] else [])) := by show _ = _; rw [HR.out]; rfl
    clear HR
    go_enter Tryd.func9, Tryd.ntmps9
    go_wp2_with fail
    refine (KI.out _).mono ?_
    rintro e w1 ⟨rfl, rfl⟩
    by_cases p1 : 0 ≤ a.pp
    · have q1 : decide (0 ≤ a.pp) = true := decide_eq_true p1
      rw [if_pos p1] at HE
      go_wp2_with (at_builtin; refine wpList_append_run rfl _ _ 27 rfl rfl rfl (ap_w1 _ (k : Int) false (Gw.nil w.heap.size w) (Nat.le_refl _) (by simp)) ?_)
      intro v3 w3 hg3 hb3
      have d6 := (hb3.cell (p := ⟨b, _, none⟩) hab).trans h6
      have HG3 := Lib.hid hg3
      have HB3 := Lib.hid hb3
      have hsz := hb3.size
      clear hg3 hb3 h0 h1 h2 h3 h4 h5 h7 h8 h9 h10 h11 h12 h13 h14 h15
      by_cases p2 : 0 ≤ a.dp
      · rw [if_pos p2] at HE
        go_wp2_with (at_builtin; refine wpList_append_run rfl _ _ 27 rfl rfl rfl (ap_w1 _ (k : Int) true HG3.out hsz (by simp)) ?_)
        intro v4 w4 hg4 hb4
        have HG4 := Lib.hid hg4
        have HB4 := Lib.hid (HB3.out.trans hb4)
        clear hg4 hb4
        go_wp2_with fail
        go_ret
        exact visP (HE.out ▸ HG4.out) HB4.out (Nat.le_refl _)
      · rw [if_neg p2] at HE
        go_wp2_with fail
        go_ret
        exact visP (HE.out ▸ (HG3.out.ext (by simp))) HB3.out (Nat.le_refl _)
    · rw [if_neg p1] at HE
      by_cases p2 : 0 ≤ a.dp
      · rw [if_pos p2] at HE
        go_wp2_with (at_builtin; refine wpList_append_run rfl _ _ 27 rfl rfl rfl (ap_w1 _ (k : Int) true (Gw.nil w.heap.size w) (Nat.le_refl _) (by simp)) ?_)
        intro v4 w4 hg4 hb4
        have HG4 := Lib.hid hg4
        have HB4 := Lib.hid hb4
        clear hg4 hb4
        go_wp2_with fail
        go_ret
        exact visP (HE.out ▸ (HG4.out.ext (by simp))) HB4.out (Nat.le_refl _)
      · rw [if_neg p2] at HE
        go_wp2_with fail
        go_ret
        exact visP (HE.out ▸ ((Gw.nil w.heap.size w).ext (by simp))) (Below.refl _ _) (Nat.le_refl _)

theorem ret_stop {a b : StT} {e f : Int} (h : a = b) (h2 : e = f) : Ending.returned (.tuple #[.agg #[.int .i64 a.p, .int .i64 a.o, .int .i64 a.c, .int .i64 a.s], .int .i64 e]) = .returned (.tuple #[.agg #[.int .i64 b.p, .int .i64 b.o, .int .i64 b.c, .int .i64 b.s], .int .i64 f]) := by rw [h, h2]
/-- a result: a stop and an error -/
def StopP (s : StT) (x : Int) (w : World) (e : Ending) (w' : World) : Prop := e = .returned (.tuple #[.agg #[.int .i64 s.p, .int .i64 s.o, .int .i64 s.c, .int .i64 s.s], .int .i64 x]) ∧ Below w.heap.size w w'

end Go.Proofs.YtalfonpkefhlmaaDoor.T

