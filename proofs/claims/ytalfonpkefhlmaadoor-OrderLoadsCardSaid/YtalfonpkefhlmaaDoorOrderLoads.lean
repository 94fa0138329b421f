/-
  DERIVED. The walk of OrderLoads.
-/
import Derived.Test.YtalfonpkefhlmaaDoorOrdAwake
import Derived.Test.YtalfonpkefhlmaaDoorRefOrd5
import Derived.Test.YtalfonpkefhlmaaDoorOrdSum
import Derived.Test.YtalfonpkefhlmaaDoorBitPure
namespace Go.Proofs.YtalfonpkefhlmaaDoor.T
open Go.RowKit
set_option maxRecDepth 8000

/-- a number below 0 in 64 bits -/
theorem or_neg {a b : Int} (hb : b < 0) (hb9 : -9223372036854775808 ≤ b) : bits .or .i64 a b < 0 := by
  rw [S.b_or]
  have h1 : (b % 18446744073709551616).toNat ≤ (a % 18446744073709551616).toNat ||| (b % 18446744073709551616).toNat := Nat.right_le_or
  have h2 : (a % 18446744073709551616).toNat ||| (b % 18446744073709551616).toNat < 2 ^ 64 := Nat.or_lt_two_pow (by omega) (by omega)
  have h3 : (9223372036854775808 : Nat) ≤ (b % 18446744073709551616).toNat := by omega
  generalize (a % 18446744073709551616).toNat ||| (b % 18446744073709551616).toNat = n at *
  rw [IntKind.wrap_i64]
  omega
theorem ld_small (l : List OrT) (s d : Int) : (ldL l s d).length ≤ 3 := by
  by_cases h : s < 0
  · have hb : ldB l s d = false := ld_no1 h
    unfold ldL; rw [hb]; simp
  · obtain ⟨n, rfl⟩ := Int.eq_ofNat_of_zero_le (show 0 ≤ s by omega)
    show (ldL l (n : Int) d).length ≤ 3
    cases hg : gdB l n d
    · rw [ldL_eq, hg]; simp
    · have h1 := ld_len hg
      unfold gdB at hg
      rw [Bool.and_eq_true, Bool.and_eq_true, decide_eq_true_iff, decide_eq_true_iff] at hg
      omega
theorem ld_bound {l : List OrT} {n j : Nat} {d : Int} (h : gdB l n d = true) (hj : (j : Int) < d) (hf : L.FitC L.addF (loadsOf l (S.members n))) : -4611686018427387904 ≤ (ldL l n d).getD j 0 ∧ (ldL l n d).getD j 0 ≤ 4611686018427387904 := by
  rw [ld_get h hj, ← col_sum]
  have h2 := hf j (loadsOf l (S.members n)).length (Nat.le_refl _)
  rw [List.take_length] at h2
  exact h2
theorem ldE_neg {l : List OrT} {s d : Int} (h : s < 0) : ldE l s d = 2 := by
  have hb : ldB l s d = false := ld_no1 h
  unfold ldE; rw [hb]; rfl
theorem ldE_two (l : List OrT) (s d : Int) : ldE l s d = 0 ∨ ldE l s d = 2 := by
  by_cases h : s < 0
  · exact .inr (ldE_neg h)
  · obtain ⟨n, rfl⟩ := Int.eq_ofNat_of_zero_le (show 0 ≤ s by omega)
    show ldE l (n : Int) d = 0 ∨ ldE l (n : Int) d = 2
    rw [ldE_eq]
    split
    · exact .inl rfl
    · exact .inr rfl
theorem ldE_ok {l : List OrT} {n : Nat} {d : Int} : ldE l (n : Int) d = 0 ↔ gdB l n d = true := by
  rw [ldE_eq]
  constructor
  · intro h
    cases hg : gdB l n d
    · rw [hg] at h; simp at h
    · rfl
  · intro h; rw [if_pos h]
/-- what the law shows of two sets without a common order -/
theorem ld_law {l : List OrT} {a b d : Int} (hf : ∀ n, L.FitC L.addF (loadsOf l (S.members n))) (ha9 : a ≤ 9223372036854775807) (hb0 : -9223372036854775808 ≤ b) (hb9 : b ≤ 9223372036854775807) (h : ldE l a d = 0) (hab : bits .and .i64 a b = 0) :
    (ldE l b d = 0 ∧ ldE l (bits .or .i64 a b) d = 0 ∧ 0 ≤ d ∧ d ≤ 3 ∧ ((ldL l a d).length : Int) = d ∧ ((ldL l b d).length : Int) = d ∧ ((ldL l (bits .or .i64 a b) d).length : Int) = d ∧
      ∀ j : Nat, (j : Int) < d → (ldL l (bits .or .i64 a b) d).getD j 0 = (ldL l a d).getD j 0 + (ldL l b d).getD j 0 ∧ (-4611686018427387904 ≤ (ldL l (bits .or .i64 a b) d).getD j 0 ∧ (ldL l (bits .or .i64 a b) d).getD j 0 ≤ 4611686018427387904)) ∨ (ldE l b d = 2 ∧ ldE l (bits .or .i64 a b) d = 2) := by
  have ha : ¬ a < 0 := fun hc => by rw [ldE_neg hc] at h; cases h
  obtain ⟨x, rfl⟩ := Int.eq_ofNat_of_zero_le (show 0 ≤ a by omega)
  by_cases hb : b < 0
  · exact .inr ⟨ldE_neg hb, ldE_neg (or_neg hb hb0)⟩
  · obtain ⟨y, rfl⟩ := Int.eq_ofNat_of_zero_le (show 0 ≤ b by omega)
    have hx : x < 9223372036854775808 := by omega
    have hy : y < 9223372036854775808 := by omega
    rw [S.i64_and x y hx hy] at hab
    have hab : x &&& y = 0 := by exact_mod_cast hab
    have gx := ldE_ok.1 h
    rw [S.i64_or x y hx hy]
    cases gy : gdB l y d
    · refine .inr ⟨by rw [ldE_eq, gy]; rfl, ?_⟩
      rw [ldE_eq, gd_or, gx, gy]; rfl
    · have go : gdB l (x ||| y) d = true := by rw [gd_or, gx, gy]; rfl
      have hd : 0 ≤ d ∧ d ≤ 3 := by
        have := gx
        unfold gdB at this
        rw [Bool.and_eq_true, Bool.and_eq_true, decide_eq_true_iff, decide_eq_true_iff] at this
        exact this.1
      exact .inl ⟨ldE_ok.2 gy, ldE_ok.2 go, hd.1, hd.2, ld_len gx, ld_len gy, ld_len go, fun j hj => ⟨ld_add gx gy hab hj, ld_bound go hj (hf _)⟩⟩


set_option maxHeartbeats 12800000 in
theorem orderLoads_walk (v : Value) (l : List OrT) (a b d : Int) (ha9 : a ≤ 9223372036854775807) (hb0 : -9223372036854775808 ≤ b) (hb9 : b ≤ 9223372036854775807) (hl : l.length ≤ 9223372036854775807) (hz : ∀ i, i < l.length → (l.getD i or0).load.length ≤ 9223372036854775807 ∧ (l.getD i or0).name.size ≤ 9223372036854775807) (w : World) (hv : Os w v l) (hT : S.Tab w) :
    Calls Tryd.prog 4 #[v, .agg #[.int .i64 a, .int .i64 b], .int .i64 d] w fun e w' => e = .returned (.bool true) ∧ Below w.heap.size w w' := by
  have BV := below_alloc w (.cells #[.int .i64 a, .int .i64 b] 35)
  have VC0 : (w.alloc (.cells #[.int .i64 a, .int .i64 b] 35)).cell? ⟨w.heap.size, 0, none⟩ = some (.int .i64 a) := by simp
  have VC1 : (w.alloc (.cells #[.int .i64 a, .int .i64 b] 35)).cell? ⟨w.heap.size, 1, none⟩ = some (.int .i64 b) := by simp
  have HV := Lib.hid (hv.below BV)
  have HT := Lib.hid (hT.over BV)
  have HF := Lib.hid (fun w hv => fewO_n v l hl hz w hv)
  have HAw := Lib.hid (fun w hT => awake_n w hT)
  obtain ⟨oa, c, rfl, -⟩ := hv
  obtain ⟨W0, hW0⟩ : ∃ W0, w.alloc (.cells #[.int .i64 a, .int .i64 b] 35) = W0 := ⟨_, rfl⟩
  rw [hW0] at BV VC0 VC1 HV HT
  have HB := Lib.hid BV
  clear BV hT
  cases hf : fewO l
  · rw [hf] at HF
    clear hz hl ha9 hb0 hb9
    go_enter Tryd.func4, Tryd.ntmps4
    go_wp2_with fail
    clear hW0
    refine (HF.out _ HV.out).mono ?_
    rintro e w1 ⟨rfl, rfl⟩
    go_wp2_with fail
    refine (HAw.out _ HT.out).mono ?_
    rintro e w2 ⟨rfl, b2⟩
    have B2 := Lib.hid (over HB.out b2)
    clear b2
    go_wp2_with fail
    go_ret
    exact ⟨rfl, B2.out⟩
  · obtain ⟨hl14, hfs⟩ := few_spec hf
    have hfit : ∀ n, L.FitC L.addF (loadsOf l (S.members n)) := fit_few fun i hi => (hfs i hi).2.2
    rw [hf] at HF
    have hor : bits .or .i64 a b ≤ 9223372036854775807 := (bounds_i64 (wf_bits .or .i64 a b)).2
    have K1 := Lib.hid (fun w hv hT => ordLoad_n (.slice oa l.length c) l a d ha9 (hfit _) w hv hT)
    have K2 := Lib.hid (fun w hv => refLoad_n (.slice oa l.length c) l a d ha9 (hfit _) w hv)
    have K3 := Lib.hid (fun w hv hT => ordLoad_n (.slice oa l.length c) l b d hb9 (hfit _) w hv hT)
    have K4 := Lib.hid (fun w hv hT => ordLoad_n (.slice oa l.length c) l (bits .or .i64 a b) d hor (hfit _) w hv hT)
    have HL := Lib.hid (fun h hab => ld_law (l := l) (d := d) hfit ha9 hb0 hb9 h hab)
    have s1 := ld_small l a d
    have s2 := ld_small l b d
    have s3 := ld_small l (bits .or .i64 a b) d
    have e1 := ldE_two l a d
    generalize ldL l a d = ra at *
    generalize ldE l a d = ea at *
    generalize ldL l b d = rb at *
    generalize ldE l b d = eb at *
    generalize ldL l (bits .or .i64 a b) d = rc at *
    generalize ldE l (bits .or .i64 a b) d = ec at *
    have KS := Lib.hid (fun u v w hu hv => lawSameI_n u v ra ra (by omega) (by omega) w hu hv)
    rw [show (ra == ra) = true by simp] at KS
    clear hfs hfit hf hz hl hl14 ha9 hb0 hb9 hor
    go_enter Tryd.func4, Tryd.ntmps4
    go_wp2_with fail
    clear hW0
    refine (HF.out _ HV.out).mono ?_
    rintro e w1 ⟨rfl, rfl⟩
    clear HF
    go_wp2_with fail
    go_quiet (fail)
    go_wp2_with fail
    refine (K1.out _ (HV.out.below (below_drewN (Below.refl _ _) _)) (HT.out.over (below_drewN (Below.refl _ _) _))).mono ?_
    rintro e w2 ⟨v1, rfl, ho1, b2⟩
    have b2 := over (below_drewN (Below.refl _ W0) _) b2
    have HLi1 := ho1.li
    have B2 := Lib.hid (over HB.out b2)
    have HV2 := Lib.hid (HV.out.below b2)
    have HT2 := Lib.hid (HT.out.over b2)
    obtain ⟨o1, c1, rfl, -⟩ := ho1.li
    have HLi1 := Lib.hid HLi1
    clear b2 ho1 HB HV HT VC0 VC1 K1
    go_wp2_with fail
    refine (K2.out _ HV2.out).mono ?_
    rintro e w3 ⟨v2, rfl, ho2, b3⟩
    have HLi2 := ho2.li
    have B3 := Lib.hid (over B2.out b3)
    have HV3 := Lib.hid (HV2.out.below b3)
    have HT3 := Lib.hid (HT2.out.over b3)
    have HLi1 := Lib.hid (HLi1.out.below b3)
    obtain ⟨o2, c2, rfl, -⟩ := ho2.li
    have HLi2 := Lib.hid HLi2
    clear b3 ho2 B2 HV2 HT2 K2
    have hee : (ea != ea) = false := by simp
    have KS3 := Lib.hid (KS.out _ _ w3 HLi1.out HLi2.out)
    go_wp2_with fail
    refine KS3.out.mono ?_
    rintro e w4 ⟨rfl, b4⟩
    have B4 := Lib.hid (over B3.out b4)
    have HV4 := Lib.hid (HV3.out.below b4)
    have HT4 := Lib.hid (HT3.out.over b4)
    have HLi1 := Lib.hid (HLi1.out.below b4)
    clear b4 B3 HV3 HT3 KS3 KS HLi2
    rcases e1 with rfl | rfl
    · by_cases hab : bits .and .i64 a b = 0
      · have habI : (bits .and .i64 a b != 0) = false := by rw [hab]; rfl
        have HLa := Lib.hid (HL.out rfl hab)
        clear hab HL
        go_wp2_with fail
        refine (K3.out _ HV4.out HT4.out).mono ?_
        rintro e w5 ⟨v3, rfl, ho3, b5⟩
        have HLi3 := ho3.li
        have B5 := Lib.hid (over B4.out b5)
        have HV5 := Lib.hid (HV4.out.below b5)
        have HT5 := Lib.hid (HT4.out.over b5)
        have HLi1 := Lib.hid (HLi1.out.below b5)
        obtain ⟨o3, c3, rfl, -⟩ := ho3.li
        have HLi3 := Lib.hid HLi3
        clear b5 ho3 B4 HV4 HT4 K3 habI
        obtain ⟨z, hz⟩ : ∃ z, bits .or .i64 a b = z := ⟨_, rfl⟩
        rw [hz] at K4
        go_wp2_with fail
        refine (K4.out _ HV5.out HT5.out).mono ?_
        rintro e w6 ⟨v4, rfl, ho4, b6⟩
        have HLi4 := ho4.li
        have B6 := Lib.hid (over B5.out b6)
        have HT6 := Lib.hid (HT5.out.over b6)
        have HLi1 := Lib.hid (HLi1.out.below b6)
        have HLi3 := Lib.hid (HLi3.out.below b6)
        obtain ⟨o4, c4, rfl, -⟩ := ho4.li
        have HLi4 := Lib.hid HLi4
        clear b6 ho4 B5 HV5 HT5 K4 hz
        rcases HLa.out with ⟨rfl, rfl, hd0, hd3, l1, l2, l3, hsum⟩ | ⟨rfl, rfl⟩
        · have HS := Lib.hid hsum
          clear hsum HLa
          obtain ⟨D, rfl⟩ := Int.eq_ofNat_of_zero_le hd0
          have l1 : ra.length = D := Int.ofNat.inj l1
          have l2 : rb.length = D := Int.ofNat.inj l2
          have l3 : rc.length = D := Int.ofNat.inj l3
          generalize hr1 : ra.length = r1 at *
          generalize hr2 : rb.length = r2 at *
          generalize hr3 : rc.length = r3 at *
          subst l1
          subst l2
          subst l3
          have HN1 := Lib.hid hr1
          have HN2 := Lib.hid hr2
          have HN3 := Lib.hid hr3
          clear hr1 hr2 hr3 s1 s2
          have hr9 : r3 ≤ 3 := by omega
          clear s3 hd3
          have n1 : ((r3 : Int) != (r3 : Int)) = false := by simp
          go_wp2_with fail
          go_loopg [17] r3 (fun g i wr => ∃ k : Nat, k ≤ r3 ∧ i = .int .i64 k ∧ r3 - k ≤ g ∧ Hid (Below w6.heap.size w6 wr))
          case atStart => exact ⟨0, Nat.zero_le _, rfl, Nat.le_refl _, Below.refl _ _⟩
          case round =>
            obtain ⟨k, hk, rfl, hg, HW⟩ := hrel
            by_cases hlt : k < r3
            · have hkI : (k : Int) < (r3 : Int) := by omega
              have h1 := HN1.out
              have h2 := HN2.out
              have h3 := HN3.out
              have hsu := HS.out k hkI
              obtain ⟨p1', q1', hv1, hc1⟩ := HLi1.out
              simp only [Value.slice.injEq] at hv1
              obtain ⟨rfl, -, rfl⟩ := hv1
              obtain ⟨a1, rfl, hb1, x1⟩ := hc1 k (by omega)
              have x1 := (HW.out.cell (p := a1.add k) (by rw [L.add_block]; exact hb1)).trans x1
              clear hc1
              obtain ⟨p3', q3', hv3, hc3⟩ := HLi3.out
              simp only [Value.slice.injEq] at hv3
              obtain ⟨rfl, -, rfl⟩ := hv3
              obtain ⟨a3, rfl, hb3, x3⟩ := hc3 k (by omega)
              have x3 := (HW.out.cell (p := a3.add k) (by rw [L.add_block]; exact hb3)).trans x3
              clear hc3
              obtain ⟨p4', q4', hv4, hc4⟩ := HLi4.out
              simp only [Value.slice.injEq] at hv4
              obtain ⟨rfl, -, rfl⟩ := hv4
              obtain ⟨a4, rfl, hb4, x4⟩ := hc4 k (by omega)
              have x4 := (HW.out.cell (p := a4.add k) (by rw [L.add_block]; exact hb4)).trans x4
              clear hc4
              have hsuI : ((rc.getD k 0) != (ra.getD k 0) + (rb.getD k 0)) = false := by rw [hsu.1]; simp
              have hsw : IntKind.i64.wrap ((ra.getD k 0) + (rb.getD k 0)) = (ra.getD k 0) + (rb.getD k 0) := IntWalk.i64_in _ (by omega)
              have hsb := hsu.2
              rw [hsu.1] at x4 hsb
              clear h1 h2 h3 hsu hsuI
              generalize ra.getD k 0 = x at *
              generalize rb.getD k 0 = y at *
              generalize hxy : x + y = t at *
              have ht : (t != t) = false := by simp
              go_wp2_with fail
              go_quiet (fail)
              go_wp2_with fail
              go_roundg (r3 - (k + 1))
              case measure => omega
              case rel => exact ⟨k + 1, by omega, by go_num, by omega, below_drewN HW.out _⟩
            · have hkk : k = r3 := by omega
              subst hkk
              have HTr := Lib.hid (HT6.out.over HW.out)
              have HBr := Lib.hid (over B6.out HW.out)
              go_wp2_with fail
              refine (HAw.out _ HTr.out).mono ?_
              rintro e w9 ⟨rfl, b9⟩
              have B9 := Lib.hid (over HBr.out b9)
              clear b9
              go_wp2_with fail
              go_ret
              exact ⟨rfl, B9.out⟩
        · clear HLa
          go_wp2_with fail
          refine (HAw.out _ HT6.out).mono ?_
          rintro e w9 ⟨rfl, b9⟩
          have B9 := Lib.hid (over B6.out b9)
          clear b9
          go_wp2_with fail
          go_ret
          exact ⟨rfl, B9.out⟩
      · have habI : (bits .and .i64 a b != 0) = true := by rw [bne_iff_ne]; exact hab
        clear hab HL
        go_wp2_with fail
        refine (HAw.out _ HT4.out).mono ?_
        rintro e w9 ⟨rfl, b9⟩
        have B9 := Lib.hid (over B4.out b9)
        clear b9
        go_wp2_with fail
        go_ret
        exact ⟨rfl, B9.out⟩
    · clear HL
      go_wp2_with fail
      refine (HAw.out _ HT4.out).mono ?_
      rintro e w9 ⟨rfl, b9⟩
      have B9 := Lib.hid (over B4.out b9)
      clear b9
      go_wp2_with fail
      go_ret
      exact ⟨rfl, B9.out⟩

end Go.Proofs.YtalfonpkefhlmaaDoor.T

