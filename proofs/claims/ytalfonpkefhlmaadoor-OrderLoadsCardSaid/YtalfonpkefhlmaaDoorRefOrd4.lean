/-
  DERIVED. The walk of the specification's Load.
-/
import Derived.Test.YtalfonpkefhlmaaDoorRefOrd3
namespace Go.Proofs.YtalfonpkefhlmaaDoor.T
open Go.RowKit
set_option maxRecDepth 8000

theorem loads_get {l : List OrT} {ms : List Nat} {j : Nat} (hj : j < ms.length) : (loadsOf l ms).getD j [] = (l.getD (ms.getD j 0) or0).load := by
  have e : ms.getD j 0 = ms[j] := by rw [List.getD_eq_getElem?_getD, List.getElem?_eq_getElem hj]; rfl
  unfold loadsOf
  rw [e, List.getD_eq_getElem?_getD, List.getElem?_map, List.getElem?_eq_getElem hj]
  rfl
theorem ms_len (n : Nat) : (S.members n).length ≤ 63 := S.members_len n
theorem ld_no1 {l : List OrT} {s d : Int} (h : s < 0) : ldB l s d = false := by unfold ldB; rw [decide_eq_false (by omega)]; rfl
theorem ld_no2 {l : List OrT} {s d : Int} (h : rgB 0 3 d = false) : ldB l s d = false := by
  unfold ldB
  unfold rgB at h
  rw [h, Bool.and_false, Bool.false_and]
theorem ld_no3 {l : List OrT} {n : Nat} {s d : Int} {k : Nat} (hs : s.toNat = n) (hk : k < (S.members n).length) (h : l.length ≤ (S.members n).getD k 0) : ldB l s d = false := by
  unfold ldB
  rw [hs]
  have : ((S.members n).all fun i => decide (i < l.length)) = false := by
    rw [List.all_eq_false]
    exact ⟨_, getD_mem hk, by simpa using h⟩
  rw [this, Bool.and_false]
theorem ld_yes {l : List OrT} {n : Nat} {s d : Int} (hs0 : 0 ≤ s) (hs : s.toNat = n) (hd : rgB 0 3 d = true) (h : ∀ j, j < (S.members n).length → (S.members n).getD j 0 < l.length) : ldB l s d = true := by
  unfold ldB
  unfold rgB at hd
  rw [hs, hd, decide_eq_true hs0, Bool.true_and, Bool.true_and, List.all_eq_true]
  intro x hx
  obtain ⟨j, hj, rfl⟩ := List.getElem_of_mem hx
  have := h j hj
  rw [List.getD_eq_getElem?_getD, List.getElem?_eq_getElem hj] at this
  simpa using this

set_option maxHeartbeats 6400000 in
theorem refLoad_n (v : Value) (l : List OrT) (s d : Int) (hs9 : s ≤ 9223372036854775807) (hf : L.FitC L.addF (loadsOf l (S.members s.toNat))) (w : World) (hv : Os w v l) :
    Calls Tryd.prog 13 #[v, .int .i64 s, .int .i64 d] w (L.LE (ldL l s d) (ldE l s d) w) := by
  have HV := Lib.hid hv
  obtain ⟨oa, c, rfl, ha⟩ := hv
  have KI := Lib.hid (fun w => in_n d 0 3 w)
  by_cases h0 : s < 0
  · have hb : ldB l s d = false := ld_no1 h0
    have HR : Hid (ldL l s d = [] ∧ ldE l s d = 2) := by show _ ∧ _; unfold ldL ldE; rw [hb]; exact ⟨rfl, rfl⟩
    generalize ldL l s d = r at *
    generalize ldE l s d = x at *
    generalize l.length = n at *
    clear hb ha hf
    go_enter Tryd.func13, Tryd.ntmps13
    go_wp2_with fail
    go_ret2
    exact ⟨_, L.ret_le HR.out.2.symm, HR.out.1 ▸ L.Own.nil _ _, Below.refl _ _⟩
  cases hd : rgB 0 3 d
  · have hb : ldB l s d = false := ld_no2 hd
    have HR : Hid (ldL l s d = [] ∧ ldE l s d = 2) := by show _ ∧ _; unfold ldL ldE; rw [hb]; exact ⟨rfl, rfl⟩
    rw [hd] at KI
    generalize ldL l s d = r at *
    generalize ldE l s d = x at *
    generalize l.length = n at *
    clear hb ha hf hd
    go_enter Tryd.func13, Tryd.ntmps13
    go_wp2_with fail
    refine (KI.out _).mono ?_
    rintro e w1 ⟨rfl, rfl⟩
    go_wp2_with fail
    go_ret2
    exact ⟨_, L.ret_le HR.out.2.symm, HR.out.1 ▸ L.Own.nil _ _, Below.refl _ _⟩
  obtain ⟨n, rfl⟩ := Int.eq_ofNat_of_zero_le (show 0 ≤ s by omega)
  have hs : ((n : Int)).toNat = n := Int.toNat_natCast n
  rw [hs] at hf
  have KM := Lib.hid (fun w => S.refMembers_n n (by omega) w)
  have HA := Lib.hid ha
  have HNo := Lib.hid (fun k (hk : k < (S.members n).length) (h : l.length ≤ (S.members n).getD k 0) => ld_no3 (l := l) (d := d) hs hk h)
  have HYes := Lib.hid (fun (h : ∀ j, j < (S.members n).length → (S.members n).getD j 0 < l.length) => ld_yes (l := l) (d := d) (Int.natCast_nonneg n) hs hd h)
  have HR1 : Hid (ldB l n d = false → ldL l n d = [] ∧ ldE l n d = 2) := fun hb => by unfold ldL ldE; rw [hb]; exact ⟨rfl, rfl⟩
  have HR2 : Hid (ldB l n d = true → ldL l n d = L.gathL L.addF (loadsOf l (S.members n)) d ∧ ldE l n d = L.gathE (loadsOf l (S.members n)) d) := fun hb => by unfold ldL ldE; rw [hb, hs]; exact ⟨rfl, rfl⟩
  have hm9 := ms_len n
  have KS := Lib.hid (fun u w hu => L.refSum_n u (loadsOf l (S.members n)) d (by rw [loads_len]; omega) hf w hu)
  have HLL := Lib.hid (loads_len l (S.members n))
  have HLG := Lib.hid (fun j (hj : j < (S.members n).length) => loads_get (l := l) hj)
  rw [hd] at KI
  generalize ldL l n d = r at *
  generalize ldE l n d = x at *
  generalize ldB l n d = lb at *
  generalize loadsOf l (S.members n) = ls at *
  generalize S.members n = ms at *
  generalize hln : l.length = nl at *
  clear ha hf hd hln hs
  go_enter Tryd.func13, Tryd.ntmps13
  go_wp2_with fail
  refine (KI.out _).mono ?_
  rintro e w1 ⟨rfl, rfl⟩
  go_wp2_with fail
  refine (KM.out _).mono ?_
  rintro e w1 ⟨vm, rfl, hm, b1⟩
  have HM := Lib.hid (mem_own hm).li
  obtain ⟨om, cm, hvm, -⟩ := HM.out
  subst hvm
  rw [List.length_map] at HM ⊢
  have B1 := Lib.hid b1
  clear b1 hm KM KI
  generalize hmn : ms.length = nm at *
  have HMN := Lib.hid hmn
  clear hmn
  go_wp2_with fail
  go_loopg [9, 10] nm (fun g v i wr => ∃ k : Nat, k ≤ nm ∧ i = .int .i64 k ∧ nm - k ≤ g ∧ Hid (∀ j, j < k → ms.getD j 0 < nl) ∧ Hid (Below w1.heap.size w1 wr) ∧ ∃ vs : List Value, vs.length = k ∧ Hid (Gs w1.heap.size wr v vs) ∧ Hid (∀ j, j < k → L.Li w (vs.getD j (.bool true)) (l.getD (ms.getD j 0) or0).load))
  case atStart => exact ⟨0, Nat.zero_le _, rfl, Nat.le_refl _, fun j hj => absurd hj (Nat.not_lt_zero _), Below.refl _ _, [], rfl, Gs.nil _ _, fun j hj => absurd hj (Nat.not_lt_zero _)⟩
  case round =>
    obtain ⟨k, hk, rfl, hg, HQ, HB1, vs, hvs, HG, HLs⟩ := hrel
    have HB := Lib.hid (over B1.out HB1.out)
    by_cases hlt : k < nm
    · have hkI : (k : Int) < (nm : Int) := by omega
      have hkm : k < ms.length := by rw [HMN.out]; exact hlt
      obtain ⟨om', cm', hvm, hcm⟩ := HM.out
      simp only [Value.slice.injEq] at hvm
      obtain ⟨rfl, -, rfl⟩ := hvm
      obtain ⟨am, rfl, ham, xm⟩ := hcm k (by rw [List.length_map]; exact hkm)
      have eM : (ms.map fun (x : Nat) => (x : Int)).getD k 0 = ((ms.getD k 0 : Nat) : Int) := by
        rw [List.getD_eq_getElem?_getD, List.getElem?_map, List.getD_eq_getElem?_getD, List.getElem?_eq_getElem hkm]
        rfl
      rw [eM] at xm
      have ym := (HB1.out.cell (p := am.add k) (by rw [L.add_block]; exact ham)).trans xm
      clear xm eM hcm
      obtain ⟨m, hm⟩ : ∃ m, ms.getD k 0 = m := ⟨_, rfl⟩
      rw [hm] at ym
      by_cases hmn : m < nl
      · have hmI : (m : Int) < (nl : Int) := by omega
        have hmI2 : ¬ (nl : Int) ≤ (m : Int) := by omega
        obtain ⟨b, o, vc, rfl, hab, ⟨-, h1, -⟩, hcp⟩ := HA.out m hmn
        have d1 := (HB.out.cell (p := ⟨b, _, none⟩) hab).trans h1
        have HC := Lib.hid hcp
        obtain ⟨oc, cc, rfl, -⟩ := hcp
        have hsz := HB1.out.size
        have HQ2 : Hid (∀ j, j < k + 1 → ms.getD j 0 < nl) := fun j hj => by
          by_cases e : j = k
          · subst e; rw [hm]; exact hmn
          · exact HQ.out j (by omega)
        have HM2 := Lib.hid hm
        generalize hq : (l.getD m or0).load.length = q at *
        have HQQ := Lib.hid hq
        clear h1 hq hm HQ
        go_wp2_with (at_builtin; refine wpList_append_run rfl _ _ 53 rfl rfl rfl (ap_s1 _ oc q cc HG.out hsz (by omega)) ?_)
        intro v3 w3 hg3 hb3
        have HB3 := Lib.hid (HB1.out.trans hb3)
        have HG3 := Lib.hid hg3
        have HL3 : Hid (∀ j, j < k + 1 → L.Li w ((vs ++ [Value.slice oc q cc]).getD j (.bool true)) (l.getD (ms.getD j 0) or0).load) := fun j hj => by
          by_cases e : j = k
          · subst e
            rw [List.getD_eq_getElem?_getD, List.getElem?_append_right (by omega), hvs, Nat.sub_self, HM2.out]
            exact HC.out
          · have h2 := HLs.out j (by omega)
            rw [List.getD_eq_getElem?_getD] at h2
            rw [List.getD_eq_getElem?_getD, List.getElem?_append_left (by omega)]
            exact h2
        have hvs2 : (vs ++ [Value.slice oc q cc]).length = k + 1 := by rw [List.length_append, hvs]; rfl
        clear hg3 hb3 HLs HG HC
        generalize vs ++ [Value.slice oc q cc] = vs2 at *
        go_wp2_with fail
        go_roundg (nm - (k + 1))
        case measure => omega
        case rel => exact ⟨k + 1, by omega, by go_num, by omega, HQ2, HB3, vs2, hvs2, HG3, HL3⟩
      · have hmI : (nl : Int) ≤ (m : Int) := by omega
        have HF := Lib.hid (HR1.out (HNo.out k hlt (by rw [hm]; omega)))
        clear hm
        go_wp2_with fail
        go_ret2
        exact ⟨_, L.ret_le HF.out.2.symm, HF.out.1 ▸ L.Own.nil _ _, HB.out⟩
    · have hkk : k = nm := by omega
      subst hkk
      have hkI : ¬ (k : Int) < (k : Int) := by omega
      have HF := Lib.hid (HR2.out (HYes.out fun j hj => HQ.out j hj))
      have HLs2 := Lib.hid (HG.out.ls (ls := ls) (by rw [HLL.out]; exact hvs) fun j hj => by
        rw [HLL.out] at hj
        rw [HLG.out j hj]
        exact (HLs.out j hj).below HB.out)
      clear HLs HQ HG
      go_wp2_with fail
      refine (KS.out _ _ HLs2.out).mono ?_
      rintro e w4 ⟨v4, rfl, ho4, b4⟩
      have HO4 := Lib.hid (ho4.mono HB.out.size)
      have B4 := Lib.hid (over HB.out b4)
      clear ho4 b4
      go_wp2_with fail
      go_ret2
      exact ⟨_, L.ret_le HF.out.2.symm, HF.out.1 ▸ HO4.out, B4.out⟩

end Go.Proofs.YtalfonpkefhlmaaDoor.T

