/-
  DERIVED. The walks of loads: plus, minus, greater, quotientUp, combine, Add, Sub, Trips.
-/
import Derived.Test.YtcnagcdgpgijaaaLoadTop1
namespace Go.Proofs.Ytcnagcdgpgijaaa.L
open Go.RowKit
set_option maxRecDepth 8000

theorem plus_n (x y : Int) (h : -4611686018427387904 ≤ addF x y ∧ addF x y ≤ 4611686018427387904) (w : World) : Calls Try.prog 30 #[.int .i64 x, .int .i64 y] w fun e w' => e = .returned (.int .i64 (addF x y)) ∧ w = w' := by
  have HR : Hid (x + y = addF x y) := rfl
  have hb : -4611686018427387904 ≤ x + y ∧ x + y ≤ 4611686018427387904 := h
  generalize addF x y = r at *
  go_enter Try.func30, Try.ntmps30
  go_wp2_with fail
  go_ret
  exact ⟨ret_int HR.out, rfl⟩
theorem minus_n (x y : Int) (h : -4611686018427387904 ≤ subF x y ∧ subF x y ≤ 4611686018427387904) (w : World) : Calls Try.prog 31 #[.int .i64 x, .int .i64 y] w fun e w' => e = .returned (.int .i64 (subF x y)) ∧ w = w' := by
  have HR : Hid (x - y = subF x y) := rfl
  have hb : -4611686018427387904 ≤ x - y ∧ x - y ≤ 4611686018427387904 := h
  generalize subF x y = r at *
  go_enter Try.func31, Try.ntmps31
  go_wp2_with fail
  go_ret
  exact ⟨ret_int HR.out, rfl⟩
theorem greater_n (x y : Int) (w : World) : Calls Try.prog 33 #[.int .i64 x, .int .i64 y] w fun e w' => e = .returned (.int .i64 (maxF x y)) ∧ w = w' := by
  by_cases h : x < y
  · have HR : Hid (y = maxF x y) := by show _ = _; rw [maxF_e, if_pos h]
    generalize maxF x y = r at *
    go_enter Try.func33, Try.ntmps33
    go_wp2_with fail
    go_ret
    exact ⟨ret_int HR.out, rfl⟩
  · have HR : Hid (x = maxF x y) := by show _ = _; rw [maxF_e, if_neg h]
    generalize maxF x y = r at *
    go_enter Try.func33, Try.ntmps33
    go_wp2_with fail
    go_ret
    exact ⟨ret_int HR.out, rfl⟩
theorem quotientUp_n (x y : Int) (hx : 0 < x) (hx2 : x ≤ 1073741824) (hy : 0 < y) (hy2 : y ≤ 1073741824) (w : World) : Calls Try.prog 37 #[.int .i64 x, .int .i64 y] w fun e w' => e = .returned (.int .i64 (quoUp x y)) ∧ w = w' := by
  have hq := quoUp_le hx hy
  have HR : Hid ((x - 1) / y + 1 = quoUp x y) := rfl
  have hye : (y == 0) = false := ne_eqI (by omega)
  have hx0 : 0 ≤ x - 1 := by omega
  have hw1 : IntKind.i64.wrap (x - 1) = x - 1 := IntWalk.i64_in _ (by omega)
  unfold quoUp at hq
  generalize quoUp x y = r at *
  obtain ⟨z, hz⟩ : ∃ z, (x - 1) / y = z := ⟨_, rfl⟩
  rw [hz] at hq HR
  have hq1 : 0 ≤ z := by omega
  have hq2 : z ≤ 1073741824 := by omega
  clear hq
  go_enter Try.func37, Try.ntmps37
  go_wp2_with fail
  go_ret
  exact ⟨ret_int HR.out, rfl⟩

theorem combine_len (a b : List Int) (oa ob : Option Addr) (ca cb : Nat) (g : Value) (f : Int → Int → Int) (h : a.length ≠ b.length) (w : World) :
    Calls Try.prog 29 #[.slice oa a.length ca, .slice ob b.length cb, g] w (LE (combL f a b) (combE a b) w) := by
  have HR : Hid (combL f a b = []) := by show _ = _; unfold combL; rw [if_neg h]
  have HE : Hid (combE a b = 2) := by show _ = _; unfold combE; rw [if_neg h]
  have hne := ne_neN h
  generalize combL f a b = r at *
  generalize combE a b = x at *
  generalize a.length = n at *
  generalize b.length = m at *
  go_enter Try.func29, Try.ntmps29
  go_wp2_with fail
  go_ret2
  exact ⟨_, ret_le HE.out.symm, HR.out ▸ Own.nil _ _, Below.refl _ _⟩
theorem rep_getD (n k : Nat) : (List.replicate n (0 : Int)).getD k 0 = 0 := by
  rw [List.getD_eq_getElem?_getD, List.getElem?_replicate]; split <;> rfl
set_option maxHeartbeats 1600000 in
theorem combine_n (u v : Value) (a b : List Int) (gf : FuncId) (eg : ∀ args w, (callFunc gf args).run Try.prog w = .ok (.enter gf args) w) (f : Int → Int → Int) (hl9 : a.length * 8 ≤ 140737488355328)
    (hP : a.length = b.length → ∀ k, k < a.length → ∀ w, Calls Try.prog gf #[.int .i64 (a.getD k 0), .int .i64 (b.getD k 0)] w fun e w' => e = .returned (.int .i64 (f (a.getD k 0) (b.getD k 0))) ∧ w = w')
    (w : World) (hu : Li w u a) (hv : Li w v b) :
    Calls Try.prog 29 #[u, v, .func (.func gf) #[] #[]] w (LE (combL f a b) (combE a b) w) := by
  obtain ⟨oa, ca, rfl, ha⟩ := hu
  obtain ⟨ob, cb, rfl, hb⟩ := hv
  by_cases h : a.length = b.length
  · have HR : Hid (combL f a b = zipL f a b) := by show _ = _; unfold combL; rw [if_pos h]
    have HE : Hid (combE a b = 0) := by show _ = _; unfold combE; rw [if_pos h]
    generalize combL f a b = r at *
    generalize combE a b = e0 at *
    have HS := Lib.hid (fun k (hk : k < a.length) => zip_getD f hk (show k < b.length by omega))
    have HZ : Hid ((zipL f a b).length = a.length) := zip_len f rfl h.symm
    have HP := Lib.hid (hP h)
    have HA := Lib.hid ha
    rw [← h] at hb ⊢
    have HB := Lib.hid hb
    obtain ⟨i0, hi, hz0, hz1, hz2⟩ := infoInt
    generalize zipL f a b = zl at *
    generalize hn : a.length = n at *
    have hne : ((n : Int) != (n : Int)) = false := by simp
    clear ha hb hn h hP
    go_enter Try.func29, Try.ntmps29
    go_wp2_with (at_make; refine wpList_make_full _ rfl _ _ 22 rfl w.heap.size 3 i0 (.int .i64 0) 1 Try.underlying22 hi hz0 hz1 _ _ _ _ n rfl rfl ?e1 ?e2 ?e3 ?e4 (Nat.le_refl _) ?_)
    case e1 => rfl
    case e2 => rfl
    case e3 => rw [hz2]; omega
    case e4 => unfold maxLen; omega
    intro w1 hown hgrow
    have HRW : Hid (Rw w.heap.size w1 w.heap.size n (mix zl (List.replicate n 0) 0)) := by
      show Rw _ _ _ _ _
      rw [mix_zero]
      exact Rw.made hown
    have HB1 : Hid (Below w.heap.size w w1) := (Below.refl _ w).grown hgrow (Nat.le_refl _) (fun k h => by cases h)
    clear hown hgrow
    go_wp2_with fail
    go_loopw [21] (fun i wr => ∃ k : Nat, k ≤ n ∧ i = .int .i64 k ∧ Hid (Rw w.heap.size wr w.heap.size n (mix zl (List.replicate n 0) k)) ∧ Hid (Below w.heap.size w wr)) (fun i _ => n - (intOf i).toNat)
    case atStart => exact ⟨0, Nat.zero_le _, rfl, HRW, HB1⟩
    case round =>
      clear HRW HB1
      obtain ⟨k, hk, rfl, HRW, HW⟩ := hrel
      by_cases hlt : k < n
      · obtain ⟨ad, rfl, hab, hc⟩ := HA.out k hlt
        obtain ⟨bd, rfl, hbb, hd⟩ := HB.out k hlt
        have hc2 := (HW.out.cell (p := ad.add k) (by rw [add_block]; exact hab)).trans hc
        have hd2 := (HW.out.cell (p := bd.add k) (by rw [add_block]; exact hbb)).trans hd
        have hrl : (mix zl (List.replicate n 0) k).length = n := by
          have h1 := HZ.out
          rw [mix_len (by rw [h1, List.length_replicate]) (by rw [List.length_replicate]; omega), List.length_replicate]
        have hce := HRW.out.cell k (by rw [hrl]; exact hlt)
        have hfz := HRW.out.frozen k
        have HST := Lib.hid (HRW.out.store k (f (a.getD k 0) (b.getD k 0)))
        have HST2 : Hid (Rw w.heap.size (wr.setCell ⟨w.heap.size, k, none⟩ (.int .i64 (f (a.getD k 0) (b.getD k 0)))) w.heap.size n (mix zl (List.replicate n 0) (k + 1))) := by
          show Rw _ _ _ _ _
          have h1 := HST.out
          rw [← HS.out k hlt, mix_set (by rw [HZ.out]; exact hlt) (by rw [List.length_replicate]; exact hlt)] at h1
          rw [← HS.out k hlt]
          exact h1
        have HP2 := Lib.hid (HP.out k hlt)
        clear hc hd hrl HST
        generalize a.getD k 0 = x at *
        generalize b.getD k 0 = y at *
        generalize f x y = z at *
        generalize (mix zl (List.replicate n 0) k).getD k 0 = old at *
        go_wp2_with fail
        refine (HP2.out _).mono ?_
        rintro e w2 ⟨rfl, rfl⟩
        go_wp2_with fail
        go_roundw
        case rel => exact ⟨k + 1, by omega, by go_num, HST2, below_set HW.out (Nat.le_refl _) _ _⟩
        case measure => simp [intOf]; omega
      · have hk' : k = n := by omega
        subst hk'
        have HG4 : Hid (Own w.heap.size wr (.slice (some ⟨w.heap.size, 0, none⟩) k k) r) := by
          show Own _ _ _ _
          have := HRW.out
          rw [mix_all HZ.out (by simp)] at this
          rw [HR.out]
          unfold Rw at this
          rw [HZ.out] at this
          exact this
        go_wp2_with fail
        go_ret2
        exact ⟨_, ret_le HE.out.symm, HG4.out, HW.out⟩
  · exact combine_len a b oa ob ca cb _ f h w

theorem loadAdd_n (u v : Value) (a b : List Int) (hl9 : a.length * 8 ≤ 140737488355328) (hf : Fit2 addF a b) (w : World) (hu : Li w u a) (hv : Li w v b) :
    Calls Try.prog 16 #[u, v] w (LE (combL addF a b) (combE a b) w) := by
  have HC := Lib.hid (combine_n u v a b 30 (enters_of Try.func30 (by kernel_rfl) rfl) addF hl9 (fun _ k hk w => plus_n _ _ (hf k hk) w) w hu hv)
  generalize combL addF a b = r at *
  generalize combE a b = x at *
  clear hu hv hf
  go_enter Try.func16, Try.ntmps16
  go_wp2_with fail
  refine HC.out.mono ?_
  rintro e w1 ⟨q, rfl, hq, b1⟩
  have HQ := Lib.hid hq
  have HB := Lib.hid b1
  clear hq b1
  go_wp2_with fail
  go_ret2
  exact ⟨_, rfl, HQ.out, HB.out⟩
theorem loadSub_n (u v : Value) (a b : List Int) (hl9 : a.length * 8 ≤ 140737488355328) (hf : Fit2 subF a b) (w : World) (hu : Li w u a) (hv : Li w v b) :
    Calls Try.prog 18 #[u, v] w (LE (combL subF a b) (combE a b) w) := by
  have HC := Lib.hid (combine_n u v a b 31 (enters_of Try.func31 (by kernel_rfl) rfl) subF hl9 (fun _ k hk w => minus_n _ _ (hf k hk) w) w hu hv)
  generalize combL subF a b = r at *
  generalize combE a b = x at *
  clear hu hv hf
  go_enter Try.func18, Try.ntmps18
  go_wp2_with fail
  refine HC.out.mono ?_
  rintro e w1 ⟨q, rfl, hq, b1⟩
  have HQ := Lib.hid hq
  have HB := Lib.hid b1
  clear hq b1
  go_wp2_with fail
  go_ret2
  exact ⟨_, rfl, HQ.out, HB.out⟩

end Go.Proofs.Ytcnagcdgpgijaaa.L
