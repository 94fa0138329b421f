/-
  DERIVED. The walk of RulesComplete (written by gen_rulaws.py).
-/
import Derived.Test.YtmoilpkgoabopaaDoorRuEx
import Derived.Deep.RegionHeld3
namespace Go.Proofs.YtmoilpkgoabopaaDoor.T
open Go.RowKit
set_option maxRecDepth 8000

theorem i64_and (a b : Nat) (ha : a < 9223372036854775808) (hb : b < 9223372036854775808) : bits .and .i64 (a : Int) (b : Int) = ((a &&& b : Nat) : Int) := by
  have hx : a &&& b < 2 ^ 63 := Nat.and_lt_two_pow _ (by omega)
  have h1 : (BitVec.ofInt 64 (a : Int)).toNat = a := by
    rw [BitVec.ofInt_natCast, BitVec.toNat_ofNat]; exact Nat.mod_eq_of_lt (by omega)
  have h2 : (BitVec.ofInt 64 (b : Int)).toNat = b := by
    rw [BitVec.ofInt_natCast, BitVec.toNat_ofNat]; exact Nat.mod_eq_of_lt (by omega)
  show IntKind.i64.wrap ((BitVec.ofInt 64 (a : Int) &&& BitVec.ofInt 64 (b : Int)).toNat : Int) = _
  rw [BitVec.toNat_and, h1, h2, IntKind.wrap_i64]
  omega
theorem i64_or (a b : Nat) (ha : a < 9223372036854775808) (hb : b < 9223372036854775808) : bits .or .i64 (a : Int) (b : Int) = ((a ||| b : Nat) : Int) := by
  have hx : a ||| b < 2 ^ 63 := Nat.or_lt_two_pow (by omega) (by omega)
  have h1 : (BitVec.ofInt 64 (a : Int)).toNat = a := by
    rw [BitVec.ofInt_natCast, BitVec.toNat_ofNat]; exact Nat.mod_eq_of_lt (by omega)
  have h2 : (BitVec.ofInt 64 (b : Int)).toNat = b := by
    rw [BitVec.ofInt_natCast, BitVec.toNat_ofNat]; exact Nat.mod_eq_of_lt (by omega)
  show IntKind.i64.wrap ((BitVec.ofInt 64 (a : Int) ||| BitVec.ofInt 64 (b : Int)).toNat : Int) = _
  rw [BitVec.toNat_or, h1, h2, IntKind.wrap_i64]
  omega
theorem Os.at {w : World} {oa : Option Addr} {n c : Nat} {l : List OrT} (h : Os w (.slice oa n c) l) (hn : l.length = n) (i : Nat) (hi : i < n) : ∃ (b o : Nat) (vc : Value), oa = some ⟨b, o, none⟩ ∧ b < w.heap.size ∧ Oc w b (o + i * 16) (l.getD i or0) vc ∧ L.Li w vc (l.getD i or0).load := by
  obtain ⟨oa', c', hv, h⟩ := h
  simp only [Value.slice.injEq] at hv
  obtain ⟨rfl, -, rfl⟩ := hv
  exact h i (by omega)
theorem L.Li.form {w : World} {v : Value} {l : List Int} (h : L.Li w v l) : ∃ oa n c, v = .slice oa n c := by
  obtain ⟨oa, c, hv, -⟩ := h
  exact ⟨oa, _, c, hv⟩
theorem bit_of (k m : Nat) (hk : k < 9223372036854775808) : bits .and .i64 ((k : Int) / (2 : Int) ^ m) 1 = if S.has k m then 1 else 0 := by
  have h1 : (k : Int) / (2 : Int) ^ m = ((k / 2 ^ m : Nat) : Int) := by
    rw [Int.natCast_ediv]; simp
  have h2 : k / 2 ^ m < 9223372036854775808 := Nat.lt_of_le_of_lt (Nat.div_le_self _ _) hk
  have h3 := i64_and (k / 2 ^ m) 1 h2 (by omega)
  rw [h1]
  refine (show bits .and .i64 ((k / 2 ^ m : Nat) : Int) 1 = _ from h3).trans ?_
  rw [Nat.and_one_is_mod]
  unfold S.has
  rcases Nat.mod_two_eq_zero_or_one (k / 2 ^ m) with h | h <;> rw [h] <;> rfl
/-! ### which orders are served -/
def srvN (n : Nat) (off : Nat → Bool) (ap be : List (Int × Int)) : Nat → Nat
  | 0 => 0
  | k + 1 => if U.allowE n off ap be (k : Int) = 0 then srvN n off ap be k ||| k else srvN n off ap be k
theorem srv_lt (n : Nat) (off : Nat → Bool) (ap be : List (Int × Int)) : ∀ k, k ≤ 2 ^ n → srvN n off ap be k < 2 ^ n
  | 0, _ => Nat.pow_pos (by omega)
  | k + 1, h => by
    unfold srvN
    split
    · exact Nat.or_lt_two_pow (srv_lt n off ap be k (by omega)) (by omega)
    · exact srv_lt n off ap be k (by omega)
theorem srv_has (n : Nat) (off : Nat → Bool) (ap be : List (Int × Int)) (i : Nat) : ∀ k, S.has (srvN n off ap be k) i = true ↔ ∃ j, j < k ∧ U.allowE n off ap be (j : Int) = 0 ∧ S.has j i = true
  | 0 => by
    unfold srvN
    rw [U.has_zero]
    exact ⟨fun h => (by cases h), fun ⟨j, hj, _⟩ => (by cases hj)⟩
  | k + 1 => by
    have ih := srv_has n off ap be i k
    unfold srvN
    by_cases h : U.allowE n off ap be (k : Int) = 0
    · rw [if_pos h, U.has_bit, Nat.testBit_or, ← U.has_bit, ← U.has_bit, Bool.or_eq_true, ih]
      constructor
      · rintro (⟨j, hj, h1, h2⟩ | h2)
        · exact ⟨j, by omega, h1, h2⟩
        · exact ⟨k, by omega, h, h2⟩
      · rintro ⟨j, hj, h1, h2⟩
        by_cases e : j = k
        · subst e; exact .inr h2
        · exact .inl ⟨j, by omega, h1, h2⟩
    · rw [if_neg h, ih]
      constructor
      · rintro ⟨j, hj, h1, h2⟩
        exact ⟨j, by omega, h1, h2⟩
      · rintro ⟨j, hj, h1, h2⟩
        by_cases e : j = k
        · subst e; exact absurd h1 h
        · exact ⟨j, by omega, h1, h2⟩
/-- an order is in Never just if it is not cancelled, and not served -/
theorem never_srv {n : Nat} {off : Nat → Bool} {ap be : List (Int × Int)} (hr : U.Rt n be) {i : Nat} (hi : i < n) :
    S.has (U.neverN n off ap be) i = (!off i && !S.has (srvN n off ap be (2 ^ n)) i) := by
  have hsr := srv_has n off ap be i (2 ^ n)
  rw [Bool.eq_iff_iff, U.never_iff hr hi, Bool.and_eq_true, Bool.not_eq_true', Bool.not_eq_true']
  constructor
  · rintro ⟨h1, h2⟩
    refine ⟨h1, ?_⟩
    cases hh : S.has (srvN n off ap be (2 ^ n)) i
    · rfl
    · obtain ⟨j, hj, h3, h4⟩ := hsr.1 hh
      exact absurd ⟨j, by rw [U.allowE_nat hj] at h3; exact (U.allow_iff hr hj).1 h3, h4⟩ h2
  · rintro ⟨h1, h2⟩
    refine ⟨h1, fun ⟨s, hs, hsi⟩ => ?_⟩
    have := hsr.2 ⟨s, hs.lt, by rw [U.allowE_nat hs.lt]; exact (U.allow_iff hr hs.lt).2 hs, hsi⟩
    rw [h2] at this
    cases this

set_option maxHeartbeats 12800000 in
theorem rulesComplete_walk (o0 o1 o2 o3 o4 o5 : Option Addr) (n0 n1 n2 c0 c1 c2 c3 c4 c5 : Nat) (l : List OrT) (ap be : List (Int × Int)) (ha : ap.length ≤ 2000000) (hb : be.length ≤ 2000000) (w : World) (hE : Env w) (ho : Os w (.slice o3 l.length c3) l) (hv : Ps w (.slice o4 ap.length c4) ap) (hu : Ps w (.slice o5 be.length c5) be) :
    Calls Tryd.prog 7 #[.agg #[.slice o0 n0 c0, .slice o1 n1 c1, .slice o2 n2 c2, .slice o3 l.length c3, .slice o4 ap.length c4, .slice o5 be.length c5]] w fun e w' => e = .returned (.bool true) ∧ Below w.heap.size w w' := by
  have BI := below_alloc w (.cells #[.slice o0 n0 c0, .slice o1 n1 c1, .slice o2 n2 c2, .slice o3 l.length c3, .slice o4 ap.length c4, .slice o5 be.length c5] 37)
  have I0 := Ib.made w (.slice o0 n0 c0) (.slice o1 n1 c1) (.slice o2 n2 c2) (.slice o3 l.length c3) (.slice o4 ap.length c4) (.slice o5 be.length c5)
  have HR := Lib.hid (fun w hv hu => right12_n o0 o1 o2 o3 o4 o5 n0 n1 n2 l.length c0 c1 c2 c3 c4 c5 ap be ha hb w hv hu)
  unfold inV at HR
  have HX := Lib.hid (fun w hE => examples_n w hE)
  have HO := Lib.hid (ho.below BI)
  have HV := Lib.hid (ps_below hv BI)
  have HU := Lib.hid (ps_below hu BI)
  have HE := Lib.hid (hE.over BI)
  obtain ⟨W0, hW0⟩ : ∃ W0, w.alloc (.cells #[.slice o0 n0 c0, .slice o1 n1 c1, .slice o2 n2 c2, .slice o3 l.length c3, .slice o4 ap.length c4, .slice o5 be.length c5] 37) = W0 := ⟨_, rfl⟩
  rw [hW0] at BI I0 HO HV HU HE
  have HB := Lib.hid BI
  have HI := Lib.hid I0
  have HW0 := Lib.hid hW0
  have i0 := I0.c0
  have i1 := I0.c1
  have i2 := I0.c2
  have i3 := I0.c3
  have i4 := I0.c4
  have i5 := I0.c5
  clear BI I0 ho hv hu hE hW0
  cases hr : rightI l.length ap be
  · skip
    rw [hr] at HR
    clear hr ha hb
    go_enter Tryd.func7, Tryd.ntmps7
    go_upto_region 1 with fail
    rw [HW0.out]
    clear HW0
    go_wp2_with fail
    refine (HR.out _ HV.out HU.out).mono ?_
    rintro e w1 ⟨rfl, b1⟩
    have HE1 := Lib.hid (HE.out.over b1)
    have HB1 := Lib.hid (over HB.out b1)
    clear b1 HE HB HR
    go_wp2_with fail
    refine (HX.out _ HE1.out).mono ?_
    rintro e w2 ⟨rfl, b2⟩
    have HB2 := Lib.hid (over HB1.out b2)
    clear b2
    go_wp2_with fail
    go_ret
    exact ⟨rfl, HB2.out⟩
  · skip
    have hr2 := hr
    unfold rightI at hr2
    rw [Bool.and_eq_true, decide_eq_true_iff, List.isEmpty_iff] at hr2
    obtain ⟨hn10, hck⟩ := hr2
    obtain ⟨ha16, hb16, hra, hrb⟩ := check_right hck
    rw [hr] at HR
    clear hr hck ha hb
    by_cases h7 : l.length ≤ 7
    · have KA := Lib.hid (fun q hq w hE ho hv hu => rulesAllowed_n o0 o1 o2 o3 o4 o5 n0 n1 n2 c0 c1 c2 c3 c4 c5 l ap be q hq hn10 hra hrb ha16 hb16 w hE ho hv hu)
      have KN := Lib.hid (fun i (hi : i < l.length) w hE ho hv hu => by
        have h := rulesNeeds_n o0 o1 o2 o3 o4 o5 n0 n1 n2 c0 c1 c2 c3 c4 c5 l ap be (i : Int) (by omega) hn10 hra hrb ha16 hb16 w hE ho hv hu
        rw [U.needsI_nat hi] at h
        exact h)
      have KV := Lib.hid (fun w hE ho hv hu => rulesNever_n o0 o1 o2 o3 o4 o5 n0 n1 n2 c0 c1 c2 c3 c4 c5 l ap be hn10 hra hrb ha16 hb16 w hE ho hv hu)
      have HOk := Lib.hid (fun (s : Nat) (hs : s < 2 ^ l.length) (h : U.allowE l.length (offF l) ap be (s : Int) = 0) o (ho : S.has s o = true) => U.and_sub (U.okay_needs hrb ((U.allow_iff hrb hs).1 (by rw [U.allowE_nat hs] at h; exact h)) ho))
      have HNv := Lib.hid (fun i (hi : i < l.length) => never_srv (off := offF l) (ap := ap) hrb hi)
      have HS0 : Hid (srvN l.length (offF l) ap be 0 = 0) := rfl
      have HSs : Hid (∀ k, srvN l.length (offF l) ap be (k + 1) = if U.allowE l.length (offF l) ap be (k : Int) = 0 then srvN l.length (offF l) ap be k ||| k else srvN l.length (offF l) ap be k) := fun _ => rfl
      have HSl := Lib.hid (fun k hk => srv_lt l.length (offF l) ap be k hk)
      have HNl := Lib.hid (fun i => U.needN_lt l.length be i)
      have HNn : Hid (U.neverN l.length (offF l) ap be < 2 ^ l.length) := U.ofB_lt _ _
      generalize U.neverN l.length (offF l) ap be = nv at *
      clear hra hrb ha16 hb16
      generalize hgn : l.length = n at *
      generalize hga : ap.length = na at *
      generalize hgb : be.length = nb at *
      go_enter Tryd.func7, Tryd.ntmps7
      go_upto_region 1 with fail
      rw [HW0.out]
      clear HW0
      go_wp2_with fail
      refine (HR.out _ HV.out HU.out).mono ?_
      rintro e w1 ⟨rfl, b1⟩
      have HE1 := Lib.hid (HE.out.over b1)
      have HB1 := Lib.hid (over HB.out b1)
      have HO1 := Lib.hid (HO.out.below b1)
      have HV1 := Lib.hid (ps_below HV.out b1)
      have HU1 := Lib.hid (ps_below HU.out b1)
      have HI1 := HI.out.below b1
      have i0 := HI1.c0
      have i1 := HI1.c1
      have i2 := HI1.c2
      have i3 := HI1.c3
      have i4 := HI1.c4
      have i5 := HI1.c5
      have hql := HI1.lt
      clear b1 HE HB HR HO HV HU HI
      have hgnn := Lib.hid hgn
      clear hgn hga hgb
      have h7I : ¬ (7 : Int) < (n : Int) := by omega
      have hd7 : decide ((7 : Int) < (n : Int)) = false := decide_eq_false (by omega)
      go_wp2_with fail
      refine (KV.out _ HE1.out HO1.out HV1.out HU1.out).mono ?_
      rintro e w2 ⟨rfl, b2⟩
      have HE2 := Lib.hid (HE1.out.over b2)
      have HB2 := Lib.hid (over HB1.out b2)
      have HO2 := Lib.hid (Os.below HO1.out b2)
      have HV2 := Lib.hid (ps_below HV1.out b2)
      have HU2 := Lib.hid (ps_below HU1.out b2)
      have i0 := (b2.cell (p := ⟨w.heap.size, 0, none⟩) hql).trans i0
      have i1 := (b2.cell (p := ⟨w.heap.size, 1, none⟩) hql).trans i1
      have i2 := (b2.cell (p := ⟨w.heap.size, 2, none⟩) hql).trans i2
      have i3 := (b2.cell (p := ⟨w.heap.size, 3, none⟩) hql).trans i3
      have i4 := (b2.cell (p := ⟨w.heap.size, 4, none⟩) hql).trans i4
      have i5 := (b2.cell (p := ⟨w.heap.size, 5, none⟩) hql).trans i5
      have hql := Nat.lt_of_lt_of_le hql b2.size
      clear b2 HE1 HB1 HO1 HV1 HU1
      obtain ⟨P, hP⟩ : ∃ P, 2 ^ n = P := ⟨_, rfl⟩
      have hPle : P ≤ 128 := by rw [← hP]; exact Nat.le_trans (Nat.pow_le_pow_right (by omega) h7) (by decide)
      have hPI : wrap64 ((2 : Int) ^ n) = (P : Int) := by
        have h1 : ((2 : Int) ^ n) = (P : Int) := by rw [← hP]; simp
        rw [h1]
        exact w64 (by omega)
      rw [hP] at HOk HSl HNl HNn HNv
      have HP := Lib.hid hP
      clear hP KV
      go_wp2_with fail
      rw [hPI]
      clear hPI
      go_loopg [5, 30] P (fun g sv i wr => ∃ k : Nat, k ≤ P ∧ i = .int .i64 k ∧ P - k ≤ g ∧ sv = .int .i64 (srvN n (offF l) ap be k : Nat) ∧ Hid (Below w2.heap.size w2 wr))
      case atStart => exact ⟨0, Nat.zero_le _, rfl, Nat.le_refl _, by rw [HS0.out]; rfl, Below.refl _ _⟩
      case round =>
        obtain ⟨k, hk, rfl, hg, rfl, HW⟩ := hrel
        have b4 := HW.out
        have HE4 := Lib.hid (HE2.out.over b4)
        have HB4 := Lib.hid (over HB2.out b4)
        have HO4 := Lib.hid (Os.below HO2.out b4)
        have HV4 := Lib.hid (ps_below HV2.out b4)
        have HU4 := Lib.hid (ps_below HU2.out b4)
        have i0 := (b4.cell (p := ⟨w.heap.size, 0, none⟩) hql).trans i0
        have i1 := (b4.cell (p := ⟨w.heap.size, 1, none⟩) hql).trans i1
        have i2 := (b4.cell (p := ⟨w.heap.size, 2, none⟩) hql).trans i2
        have i3 := (b4.cell (p := ⟨w.heap.size, 3, none⟩) hql).trans i3
        have i4 := (b4.cell (p := ⟨w.heap.size, 4, none⟩) hql).trans i4
        have i5 := (b4.cell (p := ⟨w.heap.size, 5, none⟩) hql).trans i5
        have hql := Nat.lt_of_lt_of_le hql b4.size
        clear b4 HE2 HB2 HO2 HV2 HU2
        by_cases hlt : k < P
        · have hkI : (k : Int) < (P : Int) := by omega
          have KAk := Lib.hid (fun w hE ho hv hu => KA.out (k : Int) (by omega) w hE ho hv hu)
          have hsv := HSl.out k hk
          have HSk := Lib.hid (HSs.out k)
          have HOkk := Lib.hid (fun h o ho => HOk.out k hlt h o ho)
          generalize hal : U.allowE n (offF l) ap be (k : Int) = al at *
          have HAl := Lib.hid hal
          clear hal
          generalize srvN n (offF l) ap be k = sk at *
          by_cases h0 : al = 0
          · have h0I : (al != 0) = false := by rw [h0]; rfl
            have HX2 : Hid (srvN n (offF l) ap be (k + 1) = sk ||| k) := by show _ = _; rw [HSk.out, if_pos h0]
            have HOk2 := Lib.hid (fun o ho => HOkk.out h0 o ho)
            have hor : bits .or .i64 (sk : Int) (k : Int) = ((sk ||| k : Nat) : Int) := i64_or sk k (by omega) (by omega)
            clear h0 HSk HOkk HAl
            go_wp2_with fail
            refine (KAk.out _ HE4.out HO4.out HV4.out HU4.out).mono ?_
            rintro e w5 ⟨rfl, b5⟩
            have HW5 := Lib.hid (over HW.out b5)
            have HE5 := Lib.hid (HE4.out.over b5)
            have HB5 := Lib.hid (over HB4.out b5)
            have HO5 := Lib.hid (Os.below HO4.out b5)
            have HV5 := Lib.hid (ps_below HV4.out b5)
            have HU5 := Lib.hid (ps_below HU4.out b5)
            have i0 := (b5.cell (p := ⟨w.heap.size, 0, none⟩) hql).trans i0
            have i1 := (b5.cell (p := ⟨w.heap.size, 1, none⟩) hql).trans i1
            have i2 := (b5.cell (p := ⟨w.heap.size, 2, none⟩) hql).trans i2
            have i3 := (b5.cell (p := ⟨w.heap.size, 3, none⟩) hql).trans i3
            have i4 := (b5.cell (p := ⟨w.heap.size, 4, none⟩) hql).trans i4
            have i5 := (b5.cell (p := ⟨w.heap.size, 5, none⟩) hql).trans i5
            have hql := Nat.lt_of_lt_of_le hql b5.size
            clear b5 HE4 HB4 HO4 HV4 HU4
            go_wp2_with fail
            go_loopg [41] n (fun g2 i wr2 => ∃ m : Nat, m ≤ n ∧ i = .int .i64 m ∧ n - m ≤ g2 ∧ Hid (Below w5.heap.size w5 wr2))
            case atStart => exact ⟨0, Nat.zero_le _, rfl, Nat.le_refl _, Below.refl _ _⟩
            case round =>
              obtain ⟨m, hm, rfl, hg2, HZ⟩ := hrel
              have b6 := HZ.out
              have HE6 := Lib.hid (HE5.out.over b6)
              have HB6 := Lib.hid (over HB5.out b6)
              have HO6 := Lib.hid (Os.below HO5.out b6)
              have HV6 := Lib.hid (ps_below HV5.out b6)
              have HU6 := Lib.hid (ps_below HU5.out b6)
              have i0 := (b6.cell (p := ⟨w.heap.size, 0, none⟩) hql).trans i0
              have i1 := (b6.cell (p := ⟨w.heap.size, 1, none⟩) hql).trans i1
              have i2 := (b6.cell (p := ⟨w.heap.size, 2, none⟩) hql).trans i2
              have i3 := (b6.cell (p := ⟨w.heap.size, 3, none⟩) hql).trans i3
              have i4 := (b6.cell (p := ⟨w.heap.size, 4, none⟩) hql).trans i4
              have i5 := (b6.cell (p := ⟨w.heap.size, 5, none⟩) hql).trans i5
              have hql := Nat.lt_of_lt_of_le hql b6.size
              clear b6 HE5 HB5 HO5 HV5 HU5
              by_cases hmn : m < n
              · have hmI : (m : Int) < (n : Int) := by omega
                have KNm := Lib.hid (fun w hE ho hv hu => KN.out m hmn w hE ho hv hu)
                have hnl := HNl.out m
                have HOm := Lib.hid (HOk2.out m)
                generalize U.needN n be m = nd at *
                go_wp2_with fail
                refine (KNm.out _ HE6.out HO6.out HV6.out HU6.out).mono ?_
                rintro e w7 ⟨rfl, b7⟩
                have HZ7 := Lib.hid (over HZ.out b7)
                clear b7
                have hand : bits .and .i64 (nd : Int) (k : Int) = ((nd &&& k : Nat) : Int) := i64_and nd k (by omega) (by omega)
                cases hkm : S.has k m
                · have hbit := bit_of k m (by omega)
                  rw [hkm] at hbit
                  have hbit : bits .and .i64 ((k : Int) / (2 : Int) ^ m) 1 = 0 := hbit
                  clear hkm
                  go_wp2_with fail
                  go_roundg (n - (m + 1))
                  case measure => omega
                  case rel => exact ⟨m + 1, by omega, by go_num, by omega, HZ7⟩
                · have hnk : nd &&& k = nd := HOm.out hkm
                  rw [hnk] at hand
                  have hne : ((nd : Int) != (nd : Int)) = false := by simp
                  have hbit := bit_of k m (by omega)
                  rw [hkm] at hbit
                  have hbit : bits .and .i64 ((k : Int) / (2 : Int) ^ m) 1 = 1 := hbit
                  clear hkm hnk
                  go_wp2_with fail
                  go_roundg (n - (m + 1))
                  case measure => omega
                  case rel => exact ⟨m + 1, by omega, by go_num, by omega, HZ7⟩
              · have hmm : m = n := by omega
                have hmI : ¬ (m : Int) < (n : Int) := by omega
                clear hmm
                have HWf := Lib.hid (over HW5.out HZ.out)
                go_wp2_with fail
                go_roundg (P - (k + 1))
                case measure => omega
                case rel => exact ⟨k + 1, by omega, by go_num, by omega, by rw [HX2.out], HWf⟩
          · have h0I : (al != 0) = true := by rw [bne_iff_ne]; exact h0
            have HX2 : Hid (srvN n (offF l) ap be (k + 1) = sk) := by show _ = _; rw [HSk.out, if_neg h0]
            clear h0 HSk HOkk HAl
            go_wp2_with fail
            refine (KAk.out _ HE4.out HO4.out HV4.out HU4.out).mono ?_
            rintro e w5 ⟨rfl, b5⟩
            have HW5 := Lib.hid (over HW.out b5)
            clear b5
            go_wp2_with fail
            go_roundg (P - (k + 1))
            case measure => omega
            case rel => exact ⟨k + 1, by omega, by go_num, by omega, by rw [HX2.out], HW5⟩
        · have hkk : k = P := by omega
          have hkI : ¬ (k : Int) < (P : Int) := by omega
          have hsl := HSl.out k hk
          have HNv2 : Hid (∀ i, i < n → S.has nv i = (!offF l i && !S.has (srvN n (offF l) ap be k) i)) := by rw [hkk]; exact HNv.out
          generalize srvN n (offF l) ap be k = sv at *
          clear hkk hlt hk hg HOk HS0 HSs HSl HNl KA KN HNv
          go_wp2_with fail
          go_loopg [65] n (fun g2 i wr2 => ∃ m : Nat, m ≤ n ∧ i = .int .i64 m ∧ n - m ≤ g2 ∧ Hid (Below wr.heap.size wr wr2))
          case atStart => exact ⟨0, Nat.zero_le _, rfl, Nat.le_refl _, Below.refl _ _⟩
          case round =>
            obtain ⟨m, hm, rfl, hg2, HZ⟩ := hrel
            by_cases hmn : m < n
            · have hmI : (m : Int) < (n : Int) := by omega
              obtain ⟨b, o, vc, hob, hab, ⟨h0, h1, h2, h3, h4, h5, h6, h7, h8, h9, h10, h11, h12, h13, h14, h15⟩, hcp⟩ := (Os.below HO4.out HZ.out).at hgnn.out m hmn
              have hcp := Lib.hid hcp
              have HNm := Lib.hid (HNv2.out m hmn)
              have hof : offF l m = (l.getD m or0).off := rfl
              rw [hof] at HNm
              obtain ⟨oc, lc, cc, rfl⟩ := (L.Li.form hcp.out)
              subst hob
              generalize l.getD m or0 = a at *
              obtain ⟨nm, load, pp, po, pc, ps, dp, dd, dc, ds, sk, pen, spl, las, now, off⟩ := a
              simp only at h0 h1 h2 h3 h4 h5 h6 h7 h8 h9 h10 h11 h12 h13 h14 h15 HNm
              clear hcp hof
              have HZ7 := Lib.hid (over HZ.out (below_alloc _ (.cells #[.string nm, .slice oc lc cc, .int .i64 pp, .int .i64 po, .int .i64 pc, .int .i64 ps, .int .i64 dp, .int .i64 dd, .int .i64 dc, .int .i64 ds, .int .i64 sk, .int .i64 pen, .int .i64 spl, .int .i64 las, .int .i64 now, .bool off] 52)))
              have hb1 := bit_of nv m (by have := HNn.out; omega)
              have hb2 := bit_of sv m (by omega)
              cases off
              · cases hs : S.has sv m
                · rw [hs] at HNm hb2
                  have hn : S.has nv m = true := HNm.out
                  rw [hn] at hb1
                  have hb1 : bits .and .i64 ((nv : Int) / (2 : Int) ^ m) 1 = 1 := hb1
                  have hb2 : bits .and .i64 ((sv : Int) / (2 : Int) ^ m) 1 = 0 := hb2
                  clear hn hs HNm
                  go_wp2_with fail
                  go_roundg (n - (m + 1))
                  case measure => omega
                  case rel => exact ⟨m + 1, by omega, by go_num, by omega, HZ7⟩
                · rw [hs] at HNm hb2
                  have hn : S.has nv m = false := HNm.out
                  rw [hn] at hb1
                  have hb1 : bits .and .i64 ((nv : Int) / (2 : Int) ^ m) 1 = 0 := hb1
                  have hb2 : bits .and .i64 ((sv : Int) / (2 : Int) ^ m) 1 = 1 := hb2
                  clear hn hs HNm
                  go_wp2_with fail
                  go_roundg (n - (m + 1))
                  case measure => omega
                  case rel => exact ⟨m + 1, by omega, by go_num, by omega, HZ7⟩
              · have hn : S.has nv m = false := HNm.out
                rw [hn] at hb1
                have hb1 : bits .and .i64 ((nv : Int) / (2 : Int) ^ m) 1 = 0 := hb1
                clear hn HNm hb2
                go_wp2_with fail
                go_roundg (n - (m + 1))
                case measure => omega
                case rel => exact ⟨m + 1, by omega, by go_num, by omega, HZ7⟩
            · have hmm : m = n := by omega
              have hmI : ¬ (m : Int) < (n : Int) := by omega
              clear hmm
              have HE9 := Lib.hid (HE4.out.over HZ.out)
              have HB9 := Lib.hid (over HB4.out HZ.out)
              go_wp2_with fail
              refine (HX.out _ HE9.out).mono ?_
              rintro e w9 ⟨rfl, b9⟩
              have HBx := Lib.hid (over HB9.out b9)
              clear b9
              go_wp2_with fail
              go_ret
              exact ⟨rfl, HBx.out⟩
    · have h7I : (7 : Int) < (l.length : Int) := by omega
      clear hra hrb ha16 hb16 hn10 h7
      generalize hgn : l.length = n at *
      generalize hga : ap.length = na at *
      generalize hgb : be.length = nb at *
      go_enter Tryd.func7, Tryd.ntmps7
      go_upto_region 1 with fail
      rw [HW0.out]
      clear HW0
      go_wp2_with fail
      refine (HR.out _ HV.out HU.out).mono ?_
      rintro e w1 ⟨rfl, b1⟩
      have HE1 := Lib.hid (HE.out.over b1)
      have HB1 := Lib.hid (over HB.out b1)
      have HO1 := Lib.hid (HO.out.below b1)
      have HV1 := Lib.hid (ps_below HV.out b1)
      have HU1 := Lib.hid (ps_below HU.out b1)
      have HI1 := HI.out.below b1
      have i0 := HI1.c0
      have i1 := HI1.c1
      have i2 := HI1.c2
      have i3 := HI1.c3
      have i4 := HI1.c4
      have i5 := HI1.c5
      have hql := HI1.lt
      clear b1 HE HB HR HO HV HU HI
      clear hgn hga hgb
      go_wp2_with fail
      refine (HX.out _ HE1.out).mono ?_
      rintro e w9 ⟨rfl, b9⟩
      have HB9 := Lib.hid (over HB1.out b9)
      clear b9
      go_wp2_with fail
      go_ret
      exact ⟨rfl, HB9.out⟩

end Go.Proofs.YtmoilpkgoabopaaDoor.T

