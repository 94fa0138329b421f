/-
  DERIVED. The walks of fleet's Total, numbers and Same (written by gen_fltop2.py).
-/
import Derived.Test.YthihahehmnpenaaDoorFlTop1
import Derived.Test.YthihahehmnpenaaDoorFlArr
import Derived.Test.YthihahehmnpenaaDoorShelf
namespace Go.Proofs.YthihahehmnpenaaDoor.T
open Go.RowKit
set_option maxRecDepth 8000

set_option maxHeartbeats 3200000 in
theorem total_n (v : Value) (l : List TyT) (hl : l.length ≤ 1000000000) (w : World) (hv : Ts w v l) :
    Calls Tryd.prog 15 #[v] w fun e w' => e = .returned (.int .i64 (totF l)) ∧ Below w.heap.size w w' := by
  obtain ⟨oa, c, rfl, ha⟩ := hv
  have HA := Lib.hid ha
  have HE : Hid (totK l l.length = totF l) := rfl
  have HS : Hid (∀ k, totK l (k + 1) = totK l k + if rgB 0 10 (l.getD k ty0).count then (l.getD k ty0).count else 0) := fun _ => rfl
  have HB := Lib.hid (tot_bd l)
  have H0 : Hid (totK l 0 = 0) := rfl
  generalize totF l = r at *
  generalize hn : l.length = n at *
  clear ha hn
  go_enter Tryd.func15, Tryd.ntmps15
  go_wp2_with fail
  go_loopw [3, 8] (fun t i wr => ∃ k : Nat, k ≤ n ∧ i = .int .i64 k ∧ t = .int .i64 (totK l k) ∧ Hid (Below w.heap.size w wr)) (fun _ i _ => n - (intOf i).toNat)
  case atStart => exact ⟨0, Nat.zero_le _, rfl, by rw [H0.out], Below.refl _ _⟩
  case round =>
    obtain ⟨k, hk, rfl, rfl, HW⟩ := hrel
    by_cases hlt : k < n
    · obtain ⟨b, o, vc, rfl, hab, ⟨h0, h1, h2, h3, h4, h5, h6, h7, h8, h9, h10, h11, h12, h13⟩, hcp⟩ := HA.out k hlt
      obtain ⟨oc, cc, rfl, -⟩ := hcp
      have d0 := (HW.out.cell (p := ⟨b, _, none⟩) hab).trans h0
      have d1 := (HW.out.cell (p := ⟨b, _, none⟩) hab).trans h1
      have d2 := (HW.out.cell (p := ⟨b, _, none⟩) hab).trans h2
      have d3 := (HW.out.cell (p := ⟨b, _, none⟩) hab).trans h3
      have d4 := (HW.out.cell (p := ⟨b, _, none⟩) hab).trans h4
      have d5 := (HW.out.cell (p := ⟨b, _, none⟩) hab).trans h5
      have d6 := (HW.out.cell (p := ⟨b, _, none⟩) hab).trans h6
      have d7 := (HW.out.cell (p := ⟨b, _, none⟩) hab).trans h7
      have d8 := (HW.out.cell (p := ⟨b, _, none⟩) hab).trans h8
      have d9 := (HW.out.cell (p := ⟨b, _, none⟩) hab).trans h9
      have d10 := (HW.out.cell (p := ⟨b, _, none⟩) hab).trans h10
      have d11 := (HW.out.cell (p := ⟨b, _, none⟩) hab).trans h11
      have d12 := (HW.out.cell (p := ⟨b, _, none⟩) hab).trans h12
      have d13 := (HW.out.cell (p := ⟨b, _, none⟩) hab).trans h13
      have hkI : (k : Int) < (n : Int) := by omega
      have hbd := HB.out k
      have HSk := Lib.hid (HS.out k)
      clear h0 h1 h2 h3 h4 h5 h6 h7 h8 h9 h10 h11 h12 h13
      generalize l.getD k ty0 = a at *
      generalize totK l k = y at *
      have KI := Lib.hid (fun w => count_n a.count w)
      have HBl := below_alloc wr (.cells #[.string a.name, .int .i64 a.count, .int .i64 a.fr, .int .i64 a.to, (.slice oc a.cap.length cc), .int .i64 a.skills, .int .i64 a.prof, .int .i64 a.opn, .int .i64 a.cls, .int .i64 a.drv, .int .i64 a.rst, .int .i64 a.fix, .int .i64 a.pm, .int .i64 a.pt] 36)
      have TB := Tb.made wr (.string a.name) (.int .i64 a.count) (.int .i64 a.fr) (.int .i64 a.to) (.slice oc a.cap.length cc) (.int .i64 a.skills) (.int .i64 a.prof) (.int .i64 a.opn) (.int .i64 a.cls) (.int .i64 a.drv) (.int .i64 a.rst) (.int .i64 a.fix) (.int .i64 a.pm) (.int .i64 a.pt)
      obtain ⟨W3, hW3⟩ : ∃ W3, wr.alloc (.cells #[.string a.name, .int .i64 a.count, .int .i64 a.fr, .int .i64 a.to, (.slice oc a.cap.length cc), .int .i64 a.skills, .int .i64 a.prof, .int .i64 a.opn, .int .i64 a.cls, .int .i64 a.drv, .int .i64 a.rst, .int .i64 a.fix, .int .i64 a.pm, .int .i64 a.pt] 36) = W3 := ⟨_, rfl⟩
      rw [hW3] at HBl TB
      have HB3 := Lib.hid (over HW.out HBl)
      have p1 := TB.c1
      clear HBl TB HW
      cases hr : rgB 0 10 a.count
      · rw [hr] at KI
        have HX : Hid (totK l (k + 1) = y) := by show _ = _; rw [HSk.out, hr]; exact Int.add_zero _
        clear hr HSk
        go_wp2_with fail
        refine (KI.out _).mono ?_
        rintro e w1 ⟨rfl, rfl⟩
        go_wp2_with fail
        go_roundw
        case rel => exact ⟨k + 1, by omega, by go_num, by rw [HX.out], HB3⟩
        case measure => simp [intOf] <;> omega
      · rw [hr] at KI
        have HX : Hid (totK l (k + 1) = y + a.count) := by show _ = _; rw [HSk.out, hr]; rfl
        unfold rgB at hr
        rw [Bool.and_eq_true, decide_eq_true_iff, decide_eq_true_iff] at hr
        obtain ⟨x0, x1⟩ := hr
        clear HSk
        go_wp2_with fail
        refine (KI.out _).mono ?_
        rintro e w1 ⟨rfl, rfl⟩
        go_wp2_with fail
        go_roundw
        case rel => exact ⟨k + 1, by omega, by go_num, by rw [HX.out], HB3⟩
        case measure => simp [intOf] <;> omega
    · have hk' : k = n := by omega
      subst hk'
      have HR := Lib.hid HE.out
      go_wp2_with fail
      go_ret
      exact ⟨ret_int (by rw [HR.out]), HW.out⟩

set_option maxHeartbeats 3200000 in
theorem numbers_n (nm : ByteArray) (cnt fr dt sk prof opn cls drv rst fix pm pt : Int) (o : Option Addr) (n k : Nat) (w : World) :
    Calls Tryd.prog 29 #[.agg #[.string nm, .int .i64 cnt, .int .i64 fr, .int .i64 dt, .slice o n k, .int .i64 sk, .int .i64 prof, .int .i64 opn, .int .i64 cls, .int .i64 drv, .int .i64 rst, .int .i64 fix, .int .i64 pm, .int .i64 pt]] w fun e w' => e = .returned (.agg #[.int .i64 cnt, .int .i64 fr, .int .i64 dt, .int .i64 sk, .int .i64 prof, .int .i64 opn, .int .i64 cls, .int .i64 drv, .int .i64 rst, .int .i64 fix, .int .i64 pm, .int .i64 pt]) ∧ Below w.heap.size w w' := by
  go_enter Tryd.func29, Tryd.ntmps29
  go_wp2_with fail
  exact bodyPost_ret (v := .agg #[.int .i64 cnt, .int .i64 fr, .int .i64 dt, .int .i64 sk, .int .i64 prof, .int .i64 opn, .int .i64 cls, .int .i64 drv, .int .i64 rst, .int .i64 fix, .int .i64 pm, .int .i64 pt]) (by simp [results, Tryd.results29, go_sem]) rfl ⟨rfl, by go_grown⟩

end Go.Proofs.YthihahehmnpenaaDoor.T

