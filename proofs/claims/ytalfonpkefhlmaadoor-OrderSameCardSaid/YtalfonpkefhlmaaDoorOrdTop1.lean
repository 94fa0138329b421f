/-
  DERIVED. The walks of order: exists, Visits, Stop.
-/
import Derived.Test.YtalfonpkefhlmaaDoorRefOrd2
namespace Go.Proofs.YtalfonpkefhlmaaDoor.T
open Go.RowKit
set_option maxRecDepth 8000

theorem exists_n (oa : Option Addr) (c : Nat) (l : List OrT) (i : Int) (w : World) : Calls Tryd.prog 18 #[.slice oa l.length c, .int .i64 i] w fun e w' => e = .returned (.bool (inR l i)) ∧ w = w' := by
  by_cases h1 : 0 ≤ i
  · have HR : Hid (decide (i < (l.length : Int)) = inR l i) := by show _ = _; unfold inR; rw [decide_eq_true h1, Bool.true_and]
    generalize inR l i = r at *
    generalize l.length = n at *
    go_enter Tryd.func18, Tryd.ntmps18
    go_wp2_with fail
    go_ret
    exact ⟨ret_bool HR.out, rfl⟩
  · have HR : Hid (false = inR l i) := by show _ = _; unfold inR; rw [decide_eq_false h1, Bool.false_and]
    have h2 : i < 0 := by omega
    generalize inR l i = r at *
    generalize l.length = n at *
    go_enter Tryd.func18, Tryd.ntmps18
    go_wp2_with fail
    go_ret
    exact ⟨ret_bool HR.out, rfl⟩

set_option maxHeartbeats 3200000 in
theorem ordVisits_n (v : Value) (l : List OrT) (i : Int) (w : World) (hv : Os w v l) :
    Calls Tryd.prog 8 #[v, .int .i64 i] w (VisP (visL l i) w) := by
  obtain ⟨oa, c, rfl, ha⟩ := hv
  have KI := Lib.hid (fun w => exists_n oa c l i w)
  cases hr : inR l i
  · have HR : Hid (visL l i = []) := by show _ = _; unfold visL; rw [hr]; rfl
    rw [hr] at KI
    generalize visL l i = r at *
    generalize l.length = n at *
    clear hr ha
    go_enter Tryd.func8, Tryd.ntmps8
    go_wp2_with fail
    refine (KI.out _).mono ?_
    rintro e w1 ⟨rfl, rfl⟩
    go_wp2_with fail
    go_ret
    exact visP (HR.out ▸ Gw.nil _ _) (Below.refl _ _) (Nat.le_refl _)
  · have HR : Hid (visL l i = visO (l.getD i.toNat or0) i) := by show _ = _; unfold visL; rw [hr, if_pos rfl]
    rw [hr] at KI
    obtain ⟨k, rfl, hk⟩ := inR_yes hr
    obtain ⟨b, o, vc, rfl, hab, ⟨h0, h1, h2, h3, h4, h5, h6, h7, h8, h9, h10, h11, h12, h13, h14, h15⟩, -⟩ := ha k hk
    rw [Int.toNat_natCast] at HR
    have hkI : (k : Int) < (l.length : Int) := by omega
    generalize visL l k = r at *
    generalize l.getD k or0 = a at *
    generalize l.length = n at *
    clear hr ha
    have HE : Hid (r = [] ++ (if 0 ≤ a.pp then [((k : Int), false)] else []) ++ (if 0 ≤ a.dp then [((k : Int), true)] else [])) := by show _ = _; rw [HR.out]; rfl
    clear HR
    obtain ⟨i0, hi, hz0, hz1, hz2⟩ := infoW
    go_enter Tryd.func8, Tryd.ntmps8
    go_wp2_with fail
    refine (KI.out _).mono ?_
    rintro e w1 ⟨rfl, rfl⟩
    go_wp2_with (at_make; refine wpList_make_own _ rfl _ _ 27 rfl w.heap.size 24 i0 (.agg #[.int .i64 0, .bool false]) 2 Tryd.underlying27 hi hz0 hz1 _ _ _ 2 rfl rfl ?e1 ?e3 ?e4 (Nat.le_refl _) ?_)
    case e1 => rfl
    case e3 => rw [hz2]; omega
    case e4 => unfold maxLen; omega
    intro w1 hown hgrow
    have HG1 : Hid (Gw w.heap.size w1 (.slice (some ⟨w.heap.size, 0, none⟩) 0 2) []) := hown
    have HB1 : Hid (Below w.heap.size w w1) := (Below.refl _ w).grown hgrow (Nat.le_refl _) (fun k h => by cases h)
    have h2 := (HB1.out.cell (p := ⟨b, _, none⟩) hab).trans h2
    have h6 := (HB1.out.cell (p := ⟨b, _, none⟩) hab).trans h6
    have hsz1 := HB1.out.size
    have hab1 : b < w1.heap.size := by omega
    clear hown hgrow h0 h1 h3 h4 h5 h7 h8 h9 h10 h11 h12 h13 h14 h15
    generalize Value.slice (some ⟨w.heap.size, 0, none⟩) 0 2 = v1 at *
    by_cases p1 : 0 ≤ a.pp
    · have q1 : decide (0 ≤ a.pp) = true := decide_eq_true p1
      rw [if_pos p1] at HE
      go_wp2_with (at_builtin; refine wpList_append_run rfl _ _ 27 rfl rfl rfl (ap_w1 _ (k : Int) false HG1.out hsz1 (by simp)) ?_)
      intro v3 w3 hg3 hb3
      have HB3 := Lib.hid (HB1.out.trans hb3)
      have d6 := (HB3.out.cell (p := ⟨b, _, none⟩) hab).trans ((HB1.out.cell (p := ⟨b, _, none⟩) hab).symm.trans h6)
      have HG3 := Lib.hid hg3
      have hsz := HB3.out.size
      clear hg3 hb3 h6
      by_cases p2 : 0 ≤ a.dp
      · rw [if_pos p2] at HE
        go_wp2_with (at_builtin; refine wpList_append_run rfl _ _ 27 rfl rfl rfl (ap_w1 _ (k : Int) true HG3.out hsz (by simp)) ?_)
        intro v4 w4 hg4 hb4
        have HG4 := Lib.hid hg4
        have HB4 := Lib.hid (HB3.out.trans hb4)
        clear hg4 hb4
        go_wp2_with fail
        go_ret
        exact visP (HE.out ▸ HG4.out) HB4.out (Nat.le_refl _)
      · rw [if_neg p2] at HE
        go_wp2_with fail
        go_ret
        exact visP (HE.out ▸ (HG3.out.ext (by simp))) HB3.out (Nat.le_refl _)
    · rw [if_neg p1] at HE
      by_cases p2 : 0 ≤ a.dp
      · rw [if_pos p2] at HE
        go_wp2_with (at_builtin; refine wpList_append_run rfl _ _ 27 rfl rfl rfl (ap_w1 _ (k : Int) true HG1.out hsz1 (by simp)) ?_)
        intro v4 w4 hg4 hb4
        have HG4 := Lib.hid hg4
        have HB4 := Lib.hid (HB1.out.trans hb4)
        clear hg4 hb4
        go_wp2_with fail
        go_ret
        exact visP (HE.out ▸ (HG4.out.ext (by simp))) HB4.out (Nat.le_refl _)
      · rw [if_neg p2] at HE
        go_wp2_with fail
        go_ret
        exact visP (HE.out ▸ (HG1.out.ext (by simp))) HB1.out (Nat.le_refl _)

set_option maxHeartbeats 3200000 in
theorem ordStop_n (v : Value) (l : List OrT) (i : Int) (d : Bool) (w : World) (hv : Os w v l) :
    Calls Tryd.prog 10 #[v, .agg #[.int .i64 i, .bool d]] w (StopP (stopV l i d) (stopE l i d) w) := by
  obtain ⟨oa, c, rfl, ha⟩ := hv
  have KI := Lib.hid (fun w => exists_n oa c l i w)
  cases hr : inR l i
  · have HR : Hid (stopV l i d = st0 ∧ stopE l i d = 2) := by show _ ∧ _; unfold stopV stopE; rw [hr]; exact ⟨rfl, rfl⟩
    rw [hr] at KI
    generalize stopV l i d = r at *
    generalize stopE l i d = x at *
    generalize l.length = n at *
    clear hr ha
    go_enter Tryd.func10, Tryd.ntmps10
    go_wp2_with fail
    refine (KI.out _).mono ?_
    rintro e w1 ⟨rfl, rfl⟩
    go_wp2_with fail
    exact bodyPost_ret (v := .tuple #[.agg #[.int .i64 0, .int .i64 0, .int .i64 0, .int .i64 0], .int .i64 2]) (by simp [results, Tryd.results10, go_sem]) rfl ⟨by rw [HR.out.1, HR.out.2]; rfl, by go_grown⟩
  · have HV : Hid (stopV l i d = if (stQ (l.getD i.toNat or0) d).p < 0 then st0 else stQ (l.getD i.toNat or0) d) := by show _ = _; unfold stopV; rw [hr, if_pos rfl]
    have HX : Hid (stopE l i d = if (stQ (l.getD i.toNat or0) d).p < 0 then 19 else 0) := by show _ = _; unfold stopE; rw [hr, if_pos rfl]
    rw [hr] at KI
    obtain ⟨k, rfl, hk⟩ := inR_yes hr
    obtain ⟨b, o, vc, rfl, hab, ⟨h0, h1, h2, h3, h4, h5, h6, h7, h8, h9, h10, h11, h12, h13, h14, h15⟩, -⟩ := ha k hk
    rw [Int.toNat_natCast] at HV HX
    have hkI : (k : Int) < (l.length : Int) := by omega
    have hb1 : b < w.heap.size + 1 := by omega
    have hb2 : b < w.heap.size + 1 + 1 := by omega
    have hb3 : ¬ b = w.heap.size + 1 + 1 := by omega
    have hb4 : ¬ b = w.heap.size + 1 := by omega
    have hb5 : ¬ b = w.heap.size := by omega
    generalize stopV l k d = r at *
    generalize stopE l k d = x at *
    generalize l.getD k or0 = a at *
    generalize l.length = n at *
    clear hr ha h0 h1 h10 h11 h12 h13 h14 h15
    cases d
    · clear h6 h7 h8 h9
      by_cases p1 : a.pp < 0
      · have HR : Hid (r = st0 ∧ x = 19) := by show _ ∧ _; rw [HV.out, HX.out]; unfold stQ; exact ⟨if_pos p1, if_pos p1⟩
        clear HV HX
        go_enter Tryd.func10, Tryd.ntmps10
        go_wp2_with fail
        refine (KI.out _).mono ?_
        rintro e w1 ⟨rfl, rfl⟩
        go_wp2_with fail
        exact bodyPost_ret (v := .tuple #[.agg #[.int .i64 0, .int .i64 0, .int .i64 0, .int .i64 0], .int .i64 19]) (by simp [results, Tryd.results10, go_sem]) rfl ⟨by rw [HR.out.1, HR.out.2]; rfl, by go_grown⟩
      · have HR : Hid (r = ⟨a.pp, a.po, a.pc, a.ps⟩ ∧ x = 0) := by show _ ∧ _; rw [HV.out, HX.out]; unfold stQ; exact ⟨if_neg p1, if_neg p1⟩
        clear HV HX
        go_enter Tryd.func10, Tryd.ntmps10
        go_wp2_with fail
        refine (KI.out _).mono ?_
        rintro e w1 ⟨rfl, rfl⟩
        go_wp2_with fail
        exact bodyPost_ret (v := .tuple #[.agg #[.int .i64 a.pp, .int .i64 a.po, .int .i64 a.pc, .int .i64 a.ps], .int .i64 0]) (by simp [results, Tryd.results10, go_sem]) rfl ⟨by rw [HR.out.1, HR.out.2], by go_grown⟩
    · by_cases p1 : a.dp < 0
      · have HR : Hid (r = st0 ∧ x = 19) := by show _ ∧ _; rw [HV.out, HX.out]; unfold stQ; exact ⟨if_pos p1, if_pos p1⟩
        clear HV HX
        go_enter Tryd.func10, Tryd.ntmps10
        go_wp2_with fail
        refine (KI.out _).mono ?_
        rintro e w1 ⟨rfl, rfl⟩
        go_wp2_with fail
        exact bodyPost_ret (v := .tuple #[.agg #[.int .i64 0, .int .i64 0, .int .i64 0, .int .i64 0], .int .i64 19]) (by simp [results, Tryd.results10, go_sem]) rfl ⟨by rw [HR.out.1, HR.out.2]; rfl, by go_grown⟩
      · have HR : Hid (r = ⟨a.dp, a.dd, a.dc, a.ds⟩ ∧ x = 0) := by show _ ∧ _; rw [HV.out, HX.out]; unfold stQ; exact ⟨if_neg p1, if_neg p1⟩
        clear HV HX
        go_enter Tryd.func10, Tryd.ntmps10
        go_wp2_with fail
        refine (KI.out _).mono ?_
        rintro e w1 ⟨rfl, rfl⟩
        go_wp2_with fail
        exact bodyPost_ret (v := .tuple #[.agg #[.int .i64 a.dp, .int .i64 a.dd, .int .i64 a.dc, .int .i64 a.ds], .int .i64 0]) (by simp [results, Tryd.results10, go_sem]) rfl ⟨by rw [HR.out.1, HR.out.2], by go_grown⟩


end Go.Proofs.YtalfonpkefhlmaaDoor.T

