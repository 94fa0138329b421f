/-
  DERIVED. The walks of the specification's Stop, same (written by gen_reford2.py).
-/
import Derived.Test.YtalfonpkefhlmaaDoorRefOrd1
namespace Go.Proofs.YtalfonpkefhlmaaDoor.T
open Go.RowKit
set_option maxRecDepth 8000

set_option maxHeartbeats 3200000 in
theorem refStop_n (v : Value) (l : List OrT) (i : Int) (d : Bool) (hl : l.length ≤ 1000000) (w : World) (hv : Os w v l) :
    Calls Tryd.prog 11 #[v, .agg #[.int .i64 i, .bool d]] w (StopP (stopV l i d) (stopE l i d) w) := by
  obtain ⟨oa, c, rfl, ha⟩ := hv
  have KI := Lib.hid (fun w => in_n i 0 ((l.length : Int) - 1) w)
  rw [rg_in] at KI
  have hw : IntKind.i64.wrap ((l.length : Int) - 1) = (l.length : Int) - 1 := IntWalk.i64_in _ (by omega)
  cases hr : inR l i
  · have HR : Hid (stopV l i d = st0 ∧ stopE l i d = 2) := by show _ ∧ _; unfold stopV stopE; rw [hr]; exact ⟨rfl, rfl⟩
    rw [hr] at KI
    generalize stopV l i d = r at *
    generalize stopE l i d = x at *
    generalize l.length = n at *
    clear hr ha
    go_enter Tryd.func11, Tryd.ntmps11
    go_wp2_with fail
    refine (KI.out _).mono ?_
    rintro e w1 ⟨rfl, rfl⟩
    go_wp2_with fail
    exact bodyPost_ret (v := .tuple #[.agg #[.int .i64 0, .int .i64 0, .int .i64 0, .int .i64 0], .int .i64 2]) (by simp [results, Tryd.results11, go_sem]) rfl ⟨by rw [HR.out.1, HR.out.2]; rfl, by go_grown⟩
  · have HV : Hid (stopV l i d = if (stQ (l.getD i.toNat or0) d).p < 0 then st0 else stQ (l.getD i.toNat or0) d) := by show _ = _; unfold stopV; rw [hr, if_pos rfl]
    have HX : Hid (stopE l i d = if (stQ (l.getD i.toNat or0) d).p < 0 then 19 else 0) := by show _ = _; unfold stopE; rw [hr, if_pos rfl]
    rw [hr] at KI
    obtain ⟨k, rfl, hk⟩ := inR_yes hr
    obtain ⟨b, o, vc, rfl, hab, ⟨h0, h1, h2, h3, h4, h5, h6, h7, h8, h9, h10, h11, h12, h13, h14, h15⟩, -⟩ := ha k hk
    rw [Int.toNat_natCast] at HV HX
    have hkI : (k : Int) < (l.length : Int) := by omega
    have hb1 : b < w.heap.size + 1 := by omega
    have hb2 : b < w.heap.size + 1 + 1 := by omega
    have hb3 : ¬ b = w.heap.size + 1 + 1 := by omega
    have hb4 : ¬ b = w.heap.size + 1 := by omega
    have hb5 : ¬ b = w.heap.size := by omega
    generalize stopV l k d = r at *
    generalize stopE l k d = x at *
    generalize l.getD k or0 = a at *
    generalize l.length = n at *
    clear hr ha h0 h1 h10 h11 h12 h13 h14 h15
    cases d
    · clear h6 h7 h8 h9
      by_cases p1 : a.pp < 0
      · have HR : Hid (r = st0 ∧ x = 19) := by show _ ∧ _; rw [HV.out, HX.out]; unfold stQ; exact ⟨if_pos p1, if_pos p1⟩
        clear HV HX
        go_enter Tryd.func11, Tryd.ntmps11
        go_wp2_with fail
        refine (KI.out _).mono ?_
        rintro e w1 ⟨rfl, rfl⟩
        go_wp2_with fail
        exact bodyPost_ret (v := .tuple #[.agg #[.int .i64 0, .int .i64 0, .int .i64 0, .int .i64 0], .int .i64 19]) (by simp [results, Tryd.results11, go_sem]) rfl ⟨by rw [HR.out.1, HR.out.2]; rfl, by go_grown⟩
      · have HR : Hid (r = ⟨a.pp, a.po, a.pc, a.ps⟩ ∧ x = 0) := by show _ ∧ _; rw [HV.out, HX.out]; unfold stQ; exact ⟨if_neg p1, if_neg p1⟩
        clear HV HX
        go_enter Tryd.func11, Tryd.ntmps11
        go_wp2_with fail
        refine (KI.out _).mono ?_
        rintro e w1 ⟨rfl, rfl⟩
        go_wp2_with fail
        exact bodyPost_ret (v := .tuple #[.agg #[.int .i64 a.pp, .int .i64 a.po, .int .i64 a.pc, .int .i64 a.ps], .int .i64 0]) (by simp [results, Tryd.results11, go_sem]) rfl ⟨by rw [HR.out.1, HR.out.2], by go_grown⟩
    · by_cases p1 : a.dp < 0
      · have HR : Hid (r = st0 ∧ x = 19) := by show _ ∧ _; rw [HV.out, HX.out]; unfold stQ; exact ⟨if_pos p1, if_pos p1⟩
        clear HV HX
        go_enter Tryd.func11, Tryd.ntmps11
        go_wp2_with fail
        refine (KI.out _).mono ?_
        rintro e w1 ⟨rfl, rfl⟩
        go_wp2_with fail
        exact bodyPost_ret (v := .tuple #[.agg #[.int .i64 0, .int .i64 0, .int .i64 0, .int .i64 0], .int .i64 19]) (by simp [results, Tryd.results11, go_sem]) rfl ⟨by rw [HR.out.1, HR.out.2]; rfl, by go_grown⟩
      · have HR : Hid (r = ⟨a.dp, a.dd, a.dc, a.ds⟩ ∧ x = 0) := by show _ ∧ _; rw [HV.out, HX.out]; unfold stQ; exact ⟨if_neg p1, if_neg p1⟩
        clear HV HX
        go_enter Tryd.func11, Tryd.ntmps11
        go_wp2_with fail
        refine (KI.out _).mono ?_
        rintro e w1 ⟨rfl, rfl⟩
        go_wp2_with fail
        exact bodyPost_ret (v := .tuple #[.agg #[.int .i64 a.dp, .int .i64 a.dd, .int .i64 a.dc, .int .i64 a.ds], .int .i64 0]) (by simp [results, Tryd.results11, go_sem]) rfl ⟨by rw [HR.out.1, HR.out.2], by go_grown⟩


end Go.Proofs.YtalfonpkefhlmaaDoor.T

