/-
  DERIVED. The walk of order's Load.
-/
import Derived.Test.YtalfonpkefhlmaaDoorOrdTop1
import Derived.Test.YtalfonpkefhlmaaDoorRefOrd4
import Derived.Test.YtalfonpkefhlmaaDoorSetTop2
import Derived.Test.YtalfonpkefhlmaaDoorLoadTop3
namespace Go.Proofs.YtalfonpkefhlmaaDoor.T
open Go.RowKit
set_option maxRecDepth 8000

theorem inR_of {l : List OrT} {k : Nat} (h : k < l.length) : inR l (k : Int) = true := by
  unfold inR; rw [decide_eq_true (by omega), decide_eq_true (by omega)]; rfl
theorem inR_not {l : List OrT} {k : Nat} (h : ¬ k < l.length) : inR l (k : Int) = false := by
  unfold inR; rw [decide_eq_false (show ¬ (k : Int) < (l.length : Int) by omega), Bool.and_false]
theorem ld_all {l : List OrT} {n : Nat} {s d : Int} (hs0 : 0 ≤ s) (hs : s.toNat = n) (h : ∀ j, j < (S.members n).length → (S.members n).getD j 0 < l.length) :
    ldL l s d = L.gathL L.addF (loadsOf l (S.members n)) d ∧ ldE l s d = L.gathE (loadsOf l (S.members n)) d := by
  cases hd : rgB 0 3 d
  · have hb : ldB l s d = false := ld_no2 hd
    have he : L.evenB (loadsOf l (S.members n)) d = false := by
      cases e : L.evenB (loadsOf l (S.members n)) d
      · rfl
      · have h1 := ((L.evenB_iff _ _).1 e).1
        unfold rgB at hd
        rw [decide_eq_true h1.1, decide_eq_true h1.2] at hd
        cases hd
    unfold ldL ldE L.gathL L.gathE
    rw [hb, he]
    exact ⟨rfl, rfl⟩
  · have hb : ldB l s d = true := ld_yes hs0 hs hd h
    unfold ldL ldE
    rw [hb, hs]
    exact ⟨rfl, rfl⟩

set_option maxHeartbeats 6400000 in
theorem ordLoad_n (v : Value) (l : List OrT) (s d : Int) (hs9 : s ≤ 9223372036854775807) (hf : L.FitC L.addF (loadsOf l (S.members s.toNat))) (w : World) (hv : Os w v l) (hT : S.Tab w) :
    Calls Tryd.prog 12 #[v, .int .i64 s, .int .i64 d] w (L.LE (ldL l s d) (ldE l s d) w) := by
  have HV := Lib.hid hv
  obtain ⟨oa, c, rfl, ha⟩ := hv
  have KI := Lib.hid (fun i w => exists_n oa c l i w)
  by_cases h0 : s < 0
  · have hb : ldB l s d = false := ld_no1 h0
    have HR : Hid (ldL l s d = [] ∧ ldE l s d = 2) := by show _ ∧ _; unfold ldL ldE; rw [hb]; exact ⟨rfl, rfl⟩
    generalize ldL l s d = r at *
    generalize ldE l s d = x at *
    generalize l.length = n at *
    clear hb ha hf
    go_enter Tryd.func12, Tryd.ntmps12
    go_wp2_with fail
    go_ret2
    exact ⟨_, L.ret_le HR.out.2.symm, HR.out.1 ▸ L.Own.nil _ _, Below.refl _ _⟩
  obtain ⟨n, rfl⟩ := Int.eq_ofNat_of_zero_le (show 0 ≤ s by omega)
  have hs : ((n : Int)).toNat = n := Int.toNat_natCast n
  rw [hs] at hf
  have HT := Lib.hid hT
  clear hT
  have KM := Lib.hid (fun w hT => S.setMembers_n n (by omega) w hT)
  have HA := Lib.hid ha
  have HNo := Lib.hid (fun k (hk : k < (S.members n).length) (h : l.length ≤ (S.members n).getD k 0) => ld_no3 (l := l) (d := d) hs hk h)
  have HYes := Lib.hid (fun (h : ∀ j, j < (S.members n).length → (S.members n).getD j 0 < l.length) => ld_all (l := l) (d := d) (Int.natCast_nonneg n) hs h)
  have HR1 : Hid (ldB l n d = false → ldL l n d = [] ∧ ldE l n d = 2) := fun hb => by unfold ldL ldE; rw [hb]; exact ⟨rfl, rfl⟩
  have hm9 := ms_len n
  have KS := Lib.hid (fun u w hu => L.loadSum_n u (loadsOf l (S.members n)) d (by rw [loads_len]; omega) hf w hu)
  have HLL := Lib.hid (loads_len l (S.members n))
  have HLG := Lib.hid (fun j (hj : j < (S.members n).length) => loads_get (l := l) hj)
  generalize ldL l n d = r at *
  generalize ldE l n d = x at *
  generalize ldB l n d = lb at *
  generalize loadsOf l (S.members n) = ls at *
  generalize S.members n = ms at *
  generalize hln : l.length = nl at *
  have HLN := Lib.hid hln
  clear ha hf hln hs
  go_enter Tryd.func12, Tryd.ntmps12
  go_wp2_with fail
  refine (KM.out _ HT.out).mono ?_
  rintro e w1 ⟨vm, rfl, hm, b1⟩
  have HM := Lib.hid (mem_own hm).li
  obtain ⟨om, cm, hvm, -⟩ := HM.out
  subst hvm
  rw [List.length_map] at HM ⊢
  have B1 := Lib.hid b1
  clear b1 hm KM HT
  generalize hmn : ms.length = nm at *
  have HMN := Lib.hid hmn
  clear hmn
  obtain ⟨i0, hi0, hz0, hz1, hz2⟩ := infoL
  have hnm63 : nm ≤ 63 := by have := HMN.out; omega
  go_wp2_with (at_make; refine wpList_make_own _ rfl _ _ 53 rfl w1.heap.size 36 i0 (.slice none 0 0) 1 Tryd.underlying53 hi0 hz0 hz1 _ _ _ nm rfl rfl ?e1 ?e3 ?e4 (Nat.le_refl _) ?_)
  case e1 => rfl
  case e3 => rw [hz2]; omega
  case e4 => unfold maxLen; omega
  intro w2 hown hgrow
  have HG2 : Hid (Gs w1.heap.size w2 (.slice (some ⟨w1.heap.size, 0, none⟩) 0 nm) []) := hown
  have HB2 : Hid (Below w1.heap.size w1 w2) := (Below.refl _ w1).grown hgrow (Nat.le_refl _) (fun k h => by cases h)
  clear hown hgrow
  go_wp2
  go_loopg [9, 21] nm (fun g v i wr => ∃ k : Nat, k ≤ nm ∧ i = .int .i64 k ∧ nm - k ≤ g ∧ Hid (∀ j, j < k → ms.getD j 0 < nl) ∧ Hid (Below w1.heap.size w1 wr) ∧ ∃ vs : List Value, vs.length = k ∧ Hid (Gs w1.heap.size wr v vs) ∧ Hid (∀ j, j < k → L.Li w (vs.getD j (.bool true)) (l.getD (ms.getD j 0) or0).load))
  case atStart => exact ⟨0, Nat.zero_le _, rfl, Nat.le_refl _, fun j hj => absurd hj (Nat.not_lt_zero _), HB2, [], rfl, HG2, fun j hj => absurd hj (Nat.not_lt_zero _)⟩
  case round =>
    clear HG2 HB2
    obtain ⟨k, hk, rfl, hg, HQ, HB1, vs, hvs, HG, HLs⟩ := hrel
    have HB := Lib.hid (over B1.out HB1.out)
    by_cases hlt : k < nm
    · have hkI : (k : Int) < (nm : Int) := by omega
      have hkm : k < ms.length := by rw [HMN.out]; exact hlt
      obtain ⟨om', cm', hvm, hcm⟩ := HM.out
      simp only [Value.slice.injEq] at hvm
      obtain ⟨rfl, -, rfl⟩ := hvm
      obtain ⟨am, rfl, ham, xm⟩ := hcm k (by rw [List.length_map]; exact hkm)
      have eM : (ms.map fun (x : Nat) => (x : Int)).getD k 0 = ((ms.getD k 0 : Nat) : Int) := by
        rw [List.getD_eq_getElem?_getD, List.getElem?_map, List.getD_eq_getElem?_getD, List.getElem?_eq_getElem hkm]
        rfl
      rw [eM] at xm
      have ym := (HB1.out.cell (p := am.add k) (by rw [L.add_block]; exact ham)).trans xm
      clear xm eM hcm
      obtain ⟨m, hm⟩ : ∃ m, ms.getD k 0 = m := ⟨_, rfl⟩
      rw [hm] at ym
      by_cases hmn : m < nl
      · have hmI : (m : Int) < (nl : Int) := by omega
        have hmI2 : ¬ (nl : Int) ≤ (m : Int) := by omega
        obtain ⟨b, o, vc, rfl, hab, ⟨-, h1, -⟩, hcp⟩ := HA.out m hmn
        have d1 := (HB.out.cell (p := ⟨b, _, none⟩) hab).trans h1
        have HC := Lib.hid hcp
        obtain ⟨oc, cc, rfl, -⟩ := hcp
        have hsz := HB1.out.size
        have HQ2 : Hid (∀ j, j < k + 1 → ms.getD j 0 < nl) := fun j hj => by
          by_cases e : j = k
          · subst e; rw [hm]; exact hmn
          · exact HQ.out j (by omega)
        have HM2 := Lib.hid hm
        generalize hq : (l.getD m or0).load.length = q at *
        have HQQ := Lib.hid hq
        have HX := Lib.hid (fun w => KI.out (m : Int) w)
        rw [show inR l (m : Int) = true from inR_of (by rw [HLN.out]; exact hmn)] at HX
        clear h1 hq hm HQ
        go_wp2_with fail
        refine (HX.out _).mono ?_
        rintro e w5 ⟨rfl, rfl⟩
        go_wp2_with (at_builtin; refine wpList_append_run rfl _ _ 53 rfl rfl rfl (ap_s1 _ oc q cc HG.out hsz (by omega)) ?_)
        intro v3 w3 hg3 hb3
        have HB3 := Lib.hid (HB1.out.trans hb3)
        have HG3 := Lib.hid hg3
        have HL3 : Hid (∀ j, j < k + 1 → L.Li w ((vs ++ [Value.slice oc q cc]).getD j (.bool true)) (l.getD (ms.getD j 0) or0).load) := fun j hj => by
          by_cases e : j = k
          · subst e
            rw [List.getD_eq_getElem?_getD, List.getElem?_append_right (by omega), hvs, Nat.sub_self, HM2.out]
            exact HC.out
          · have h2 := HLs.out j (by omega)
            rw [List.getD_eq_getElem?_getD] at h2
            rw [List.getD_eq_getElem?_getD, List.getElem?_append_left (by omega)]
            exact h2
        have hvs2 : (vs ++ [Value.slice oc q cc]).length = k + 1 := by rw [List.length_append, hvs]; rfl
        clear hg3 hb3 HLs HG HC
        generalize vs ++ [Value.slice oc q cc] = vs2 at *
        go_wp2_with fail
        go_roundg (nm - (k + 1))
        case measure => omega
        case rel => exact ⟨k + 1, by omega, by go_num, by omega, HQ2, HB3, vs2, hvs2, HG3, HL3⟩
      · have hmI : (nl : Int) ≤ (m : Int) := by omega
        have HF := Lib.hid (HR1.out (HNo.out k hlt (by rw [hm]; omega)))
        have HX := Lib.hid (fun w => KI.out (m : Int) w)
        rw [show inR l (m : Int) = false from inR_not (by rw [HLN.out]; omega)] at HX
        clear hm
        go_wp2_with fail
        refine (HX.out _).mono ?_
        rintro e w5 ⟨rfl, rfl⟩
        go_wp2_with fail
        go_ret2
        exact ⟨_, L.ret_le HF.out.2.symm, HF.out.1 ▸ L.Own.nil _ _, HB.out⟩
    · have hkk : k = nm := by omega
      subst hkk
      have hkI : ¬ (k : Int) < (k : Int) := by omega
      have HF := Lib.hid (HYes.out fun j hj => HQ.out j hj)
      have HLs2 := Lib.hid (HG.out.ls (ls := ls) (by rw [HLL.out]; exact hvs) fun j hj => by
        rw [HLL.out] at hj
        rw [HLG.out j hj]
        exact (HLs.out j hj).below HB.out)
      clear HLs HQ HG
      go_wp2_with fail
      refine (KS.out _ _ HLs2.out).mono ?_
      rintro e w4 ⟨v4, rfl, ho4, b4⟩
      have HO4 := Lib.hid (ho4.mono HB.out.size)
      have B4 := Lib.hid (over HB.out b4)
      clear ho4 b4
      go_wp2_with fail
      go_ret2
      exact ⟨_, L.ret_le HF.out.2.symm, HF.out.1 ▸ HO4.out, B4.out⟩

end Go.Proofs.YtalfonpkefhlmaaDoor.T

