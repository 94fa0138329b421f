/-
  DERIVED. The walks of lorryref04's Sub, ordered, Compare, Sign, Floor and Ceil.
-/
import Derived.Test.YthamlnolfagpiaaGreatDoorRefRat3
import Derived.Deep.LoopGhost
namespace Go.Proofs.YthamlnolfagpiaaGreatDoor.D
open Go.RowKit
set_option maxRecDepth 8000

/-! ### Sub -/
theorem rtxL_neg {r : Rat} (h : r.num < 0) : rtxL r = 45 :: rtxL (-r) := by
  have h1 : (-r).num = -r.num := Rat.neg_num r
  have h2 : (-r).den = r.den := Rat.neg_den r
  by_cases hd : r.den = 1
  · rw [rtxL_one hd, rtxL_one (by rw [h2]; exact hd), h1, inumL_neg h, inumL_pos (by omega), Int.natAbs_neg]
  · rw [rtxL_two hd, rtxL_two (by rw [h2]; exact hd), h1, h2, inumL_neg h, inumL_pos (by omega), Int.natAbs_neg]; rfl
theorem rtx_minus {r : Rat} (h : r.num < 0) : rtx r = ⟨#[45]⟩ ++ rtx (-r) := by
  have := cat_str [45] (rtxL (-r))
  rw [rtx, rtxL_neg h]
  exact this.symm
theorem rtx_tail {r : Rat} (h : r.num < 0) : (rtx r).extract 1 (rtx r).size = rtx (-r) := by
  apply ByteArray.ext
  apply Array.toList_inj.1
  rw [drop_ext, rtx_data, rtxL_neg h]; rfl
theorem rtx_head {r : Rat} (h : 0 ≤ r.num) (h0 : 0 < (rtx r).size) : (rtx r)[0].toNat ≠ 45 := by
  have e : (rtx r)[0] = (rtxL r).headD 0 := by
    have := head_of (rtx r) h0
    rw [rtx_data] at this
    exact this.symm
  rw [e]
  obtain ⟨c, t, hc, h1, h2⟩ := dec_head r.num.natAbs
  by_cases hd : r.den = 1
  · rw [rtxL_one hd, inumL_pos h, hc]; show c.toNat ≠ 45; omega
  · rw [rtxL_two hd, inumL_pos h, hc]; show c.toNat ≠ 45; omega
theorem rtx_pos (r : Rat) : 0 < (rtx r).size := by
  have h1 := (rtx_num_le r).2
  have h2 := num_size r.den
  have h3 := nd_pos r.den
  have : (num r.den).size = nd r.den := h2
  omega
theorem rtx_head_neg {r : Rat} (h : r.num < 0) (h0 : 0 < (rtx r).size) : (rtx r)[0].toNat = 45 := by
  have := head_of (rtx r) h0
  rw [rtx_data, rtxL_neg h] at this
  rw [← this]; rfl
theorem sz_neg {r : Rat} {k : Nat} (h : Sz k r) : Sz k (-r) := by
  refine ⟨?_, ?_⟩
  · rw [Rat.neg_num, Int.natAbs_neg]; exact h.1
  · rw [Rat.neg_den]; exact h.2
theorem zero_eqR (r : Rat) : ((rtx r).toList == [48]) = decide (r.num = 0) := by
  have h := eq_rtx r 0
  have e : (rtx 0).toList = [48] := by rw [ByteArray.toList_eq, rtx_data, rtxL_one rfl]; exact inum_zeroL
  rw [e] at h
  rw [h, Bool.eq_iff_iff, decide_eq_true_iff, decide_eq_true_iff]
  exact Rat.num_eq_zero.symm
theorem sub4_bad (a b : ByteArray) (h : rightR a.data.toList = false ∨ rightR b.data.toList = false) (ha : a.size ≤ 4000) (hb : b.size ≤ 4000) (w : World) :
    Calls Tryz.prog 27 #[.string a, .string b] w fun e w' => e = .returned (.tuple #[.string ⟨#[]⟩, .int .i64 3]) ∧ Below w.heap.size w w' := by
  by_cases h1 : rightR a.data.toList = false
  · have H1 := Lib.hid h1
    clear h h1
    go_enter Tryz.func27, Tryz.ntmps27
    go_wp2_with fail
    refine (right4_e a false H1 ha _).mono ?_
    rintro e w1 ⟨rfl, b1⟩
    go_wp2_with fail
    go_ret2
    exact ⟨rfl, b1⟩
  · have H1 : Hid (rightR a.data.toList = true) := Lib.hid (by simpa using h1)
    have H2 : Hid (rightR b.data.toList = false) := h.resolve_left h1
    clear h h1
    go_enter Tryz.func27, Tryz.ntmps27
    go_wp2_with fail
    refine (right4_e a true H1 ha _).mono ?_
    rintro e w1 ⟨rfl, b1⟩
    go_wp2_with fail
    refine (right4_e b false H2 hb _).mono ?_
    rintro e w2 ⟨rfl, b2⟩
    go_wp2_with fail
    go_ret2
    exact ⟨rfl, over4 b1 b2⟩
theorem sz_fit {r : Rat} (h : Sz 1900 r) : Hid (rightR (rtx r).data.toList = true) := rightR_rtx ⟨Nat.le_trans h.1 (by omega), Nat.le_trans h.2 (by omega)⟩
set_option maxHeartbeats 800000 in
theorem sub4_r (r s : Rat) (hr : Sz 1900 r) (hs : Sz 1900 s) (w : World) :
    Calls Tryz.prog 27 #[.string (rtx r), .string (rtx s)] w fun e w' => e = .returned (.tuple #[.string (rtx (r - s)), .int .i64 0]) ∧ Below w.heap.size w w' := by
  have HR := sz_fit hr
  have HS := sz_fit hs
  have hra := sz_text hr
  have hsa := sz_text hs
  have h0 := rtx_pos s
  have hz := zero_eqR s
  have HA : Hid (∀ t : Rat, t = -s → ∀ w, Calls Tryz.prog 25 #[.string (rtx r), .string (rtx t)] w fun e w' => e = .returned (.tuple #[.string (rtx (r - s)), .int .i64 0]) ∧ Below w.heap.size w w') := by
    intro t ht w
    have := add4_r r t hr (by rw [ht]; exact sz_neg hs) w
    rwa [ht, ← Rat.sub_eq_add_neg, ← ht] at this
  rcases Int.lt_trichotomy s.num 0 with h | h | h
  · have hb : (((rtx s)[0].toNat : Int) == 45) = true := by rw [rtx_head_neg h h0]; rfl
    have HT := Lib.hid (rtx_tail h)
    rw [decide_eq_false (by omega)] at hz
    clear h
    go_enter Tryz.func27, Tryz.ntmps27
    go_wp2_with fail
    refine (right4_e _ true HR hra _).mono ?_
    rintro e w1 ⟨rfl, b1⟩
    go_wp2_with fail
    refine (right4_e _ true HS hsa _).mono ?_
    rintro e w2 ⟨rfl, b2⟩
    go_wp2_with fail
    rw [HT.out]
    refine (HA.out (-s) rfl _).mono ?_
    rintro e w3 ⟨rfl, b3⟩
    go_wp2_with fail
    go_ret2
    exact ⟨rfl, over4 (over4 b1 b2) b3⟩
  · have hsz : s = -s := by
      have : s = 0 := Rat.num_eq_zero.1 h
      rw [this]; rfl
    rw [decide_eq_true h] at hz
    have HA2 := Lib.hid (HA.out s hsz)
    clear h hsz HA
    go_enter Tryz.func27, Tryz.ntmps27
    go_wp2_with fail
    refine (right4_e _ true HR hra _).mono ?_
    rintro e w1 ⟨rfl, b1⟩
    go_wp2_with fail
    refine (right4_e _ true HS hsa _).mono ?_
    rintro e w2 ⟨rfl, b2⟩
    go_wp2_with fail
    refine (HA2.out _).mono ?_
    rintro e w3 ⟨rfl, b3⟩
    go_wp2_with fail
    go_ret2
    exact ⟨rfl, over4 (over4 b1 b2) b3⟩
  · have hb : (((rtx s)[0].toNat : Int) == 45) = false := bneI (b := 45) (rtx_head (by omega) h0)
    have HT : Hid ((⟨#[45]⟩ : ByteArray) ++ rtx s = rtx (-s)) := by
      show _ = _
      rw [rtx_minus (r := -s) (by rw [Rat.neg_num]; omega), Rat.neg_neg]
    rw [decide_eq_false (by omega)] at hz
    clear h
    go_enter Tryz.func27, Tryz.ntmps27
    go_wp2_with fail
    refine (right4_e _ true HR hra _).mono ?_
    rintro e w1 ⟨rfl, b1⟩
    go_wp2_with fail
    refine (right4_e _ true HS hsa _).mono ?_
    rintro e w2 ⟨rfl, b2⟩
    go_wp2_with fail
    rw [HT.out]
    refine (HA.out (-s) rfl _).mono ?_
    rintro e w3 ⟨rfl, b3⟩
    go_wp2_with fail
    go_ret2
    exact ⟨rfl, over4 (over4 b1 b2) b3⟩

/-! ### ordered -/
theorem ord_id (P Q R S a b x y : Int) (h1 : P = Q*a + x) (h2 : R = S*b+y) : P*S - R*Q = Q*S*(a-b) + x*S - y*Q := by grind
theorem ord_lt (P Q R S a b x y : Int) (h1 : P = Q*a + x) (h2 : R = S*b+y) (hQ : 0 < Q) (hS : 0 < S) (hx : x < Q) (hy : 0 ≤ y) (hab : a < b) : P*S < R*Q := by
  have e := ord_id P Q R S a b x y h1 h2
  have k1 : 0 ≤ Q * S * (b - a - 1) := Int.mul_nonneg (Int.mul_nonneg (by omega) (by omega)) (by omega)
  have k2 : 0 < (Q - x) * S := Int.mul_pos (by omega) hS
  have k3 : 0 ≤ y * Q := Int.mul_nonneg hy (by omega)
  grind
theorem ord_gt (P Q R S a b x y : Int) (h1 : P = Q*a + x) (h2 : R = S*b+y) (hQ : 0 < Q) (hS : 0 < S) (hy : y < S) (hx : 0 ≤ x) (hab : b < a) : R*Q < P*S := ord_lt R S P Q b a y x h2 h1 hS hQ hy hx hab
/-- which of two quotients is greater -/
def crs (P Q R S : Int) : Int := sgnI (P * S - R * Q)
theorem sgnI_mul_pos {a b : Int} (hb : 0 < b) : sgnI (a * b) = sgnI a := by
  rcases Int.lt_trichotomy a 0 with h | h | h
  · rw [sgnI_neg h, sgnI_neg (Int.mul_neg_of_neg_of_pos h hb)]
  · rw [h, Int.zero_mul]
  · rw [sgnI_pos h, sgnI_pos (Int.mul_pos h hb)]
theorem sgnI_opp (a : Int) : sgnI (-a) = -sgnI a := by
  rcases Int.lt_trichotomy a 0 with h | h | h
  · rw [sgnI_neg h, sgnI_pos (by omega)]; rfl
  · rw [h]; rfl
  · rw [sgnI_pos h, sgnI_neg (by omega)]
theorem crs_lt {P Q R S a b x y : Int} (h1 : P = Q*a + x) (h2 : R = S*b+y) (hQ : 0 < Q) (hS : 0 < S) (hx : x < Q) (hy : 0 ≤ y) (hab : a < b) : crs P Q R S = -1 := by
  have := ord_lt P Q R S a b x y h1 h2 hQ hS hx hy hab
  exact sgnI_neg (by omega)
theorem crs_gt {P Q R S a b x y : Int} (h1 : P = Q*a + x) (h2 : R = S*b+y) (hQ : 0 < Q) (hS : 0 < S) (hy : y < S) (hx : 0 ≤ x) (hab : b < a) : crs P Q R S = 1 := by
  have := ord_gt P Q R S a b x y h1 h2 hQ hS hy hx hab
  exact sgnI_pos (by omega)
theorem crs_eq {P Q R S a x y : Int} (h1 : P = Q*a + x) (h2 : R = S*a+y) : crs P Q R S = sgnI (x * S - y * Q) := by
  have := ord_id P Q R S a a x y h1 h2
  rw [crs, this]; congr 1; grind
theorem crs_next (Q S x y : Int) : sgnI (x * S - y * Q) = -crs Q x S y := by
  rw [crs, ← sgnI_opp]; congr 1; grind
theorem nd_emod {P Q : Int} {k : Nat} (hQ : 0 < Q) (h : nd Q.natAbs ≤ k) : nd (P % Q).natAbs ≤ k := by
  refine Nat.le_trans (nd_mono ?_) h
  have h1 := Int.emod_nonneg P (show Q ≠ 0 by omega)
  have h2 := Int.emod_lt_of_pos P hQ
  omega
theorem nd_ediv {P Q : Int} {k : Nat} (h : nd P.natAbs ≤ k) : nd (P / Q).natAbs ≤ k := Nat.le_trans (nd_mono (Int.natAbs_ediv_le_natAbs P Q)) h
theorem divP (x y a r : Int) (hy : 0 < y) (ha : x / y = a) (hr : x % y = r) (h1 : nd x.natAbs ≤ 3900) (h2 : nd y.natAbs ≤ 3900) (w : World) :
    Calls Tryz.prog 47 #[.string (inum x), .string (inum y)] w fun e w' => e = .returned (.tuple #[.string (inum a), .string (inum r), .int .i64 0]) ∧ Below w.heap.size w w' :=
  refDiv_e x y a r (by omega) (by show _ = _; rw [(fdv_ediv x y hy).1, ha]) (by show _ = _; rw [(fdv_ediv x y hy).2, hr]) w (sz_inum h1 (by omega)) (sz_inum h2 (by omega))
theorem cmp3_c (x y c : Int) (hc : cmpI x y = c) (h1 : nd x.natAbs ≤ 3900) (h2 : nd y.natAbs ≤ 3900) (w : World) :
    Calls Tryz.prog 94 #[.string (inum x), .string (inum y)] w fun e w' => e = .returned (.int .i64 c) ∧ Below w.heap.size w w' := by
  have := refCompare3_num x y w (sz_inum h1 (by omega)) (sz_inum h2 (by omega))
  rw [hc] at this
  exact this
set_option maxHeartbeats 2000000 in
theorem ordered4 (P Q R S T : Int) (hQ : 0 < Q) (hS : 0 < S) (hT : crs P Q R S = T) (h1 : nd P.natAbs ≤ 3900) (h2 : nd Q.natAbs ≤ 3900) (h3 : nd R.natAbs ≤ 3900) (h4 : nd S.natAbs ≤ 3900) (w : World) :
    Calls Tryz.prog 55 #[.string (inum P), .string (inum Q), .string (inum R), .string (inum S)] w fun e w' => e = .returned (.int .i64 T) ∧ Below w.heap.size w w' := by
  have HT := Lib.hid hT
  clear hT
  have H1 := Lib.hid h1
  have H2 := Lib.hid h2
  have H3 := Lib.hid h3
  have H4 := Lib.hid h4
  have HQ := Lib.hid hQ
  have HS := Lib.hid hS
  clear h1 h2 h3 h4 hQ hS
  go_enter Tryz.func55, Tryz.ntmps55
  go_wp2_with fail
  go_loopg [0, 1, 2, 3, 9] Q.natAbs (fun k p q r s i wr => ∃ (P Q R S σ : Int), p = .string (inum P) ∧ q = .string (inum Q) ∧ r = .string (inum R) ∧ s = .string (inum S) ∧ i = .int .i64 σ ∧ (σ = 1 ∨ σ = -1) ∧ Hid (0 < Q) ∧ Hid (0 < S) ∧ Hid (Q.natAbs = k) ∧ Hid (σ * crs P Q R S = T) ∧ Hid (nd P.natAbs ≤ 3900) ∧ Hid (nd Q.natAbs ≤ 3900) ∧ Hid (nd R.natAbs ≤ 3900) ∧ Hid (nd S.natAbs ≤ 3900) ∧ Below w.heap.size w wr)
  case atStart => exact ⟨P, Q, R, S, 1, rfl, rfl, rfl, rfl, rfl, .inl rfl, HQ, HS, rfl, by show _ = _; rw [Int.one_mul]; exact HT, H1, H2, H3, H4, Below.refl _ _⟩
  case round =>
    clear HT H1 H2 H3 H4 HQ HS
    obtain ⟨A, B, C, D, σ, rfl, rfl, rfl, rfl, rfl, hσ, HB, HD, HK, HT, H1, H2, H3, H4, hb⟩ := hrel
    have hbs := hb.size
    obtain ⟨a, ha⟩ : ∃ v, A / B = v := ⟨_, rfl⟩
    obtain ⟨x, hx⟩ : ∃ v, A % B = v := ⟨_, rfl⟩
    obtain ⟨b, hb'⟩ : ∃ v, C / D = v := ⟨_, rfl⟩
    obtain ⟨y, hy⟩ : ∃ v, C % D = v := ⟨_, rfl⟩
    have HA : Hid (A = B * a + x) := by show _ = _; rw [← ha, ← hx, Int.mul_ediv_add_emod]
    have HCC : Hid (C = D * b + y) := by show _ = _; rw [← hb', ← hy, Int.mul_ediv_add_emod]
    have HX : Hid (0 ≤ x ∧ x < B) := by
      have h := HB.out
      exact ⟨by rw [← hx]; exact Int.emod_nonneg A (by omega), by rw [← hx]; exact Int.emod_lt_of_pos A h⟩
    have HY : Hid (0 ≤ y ∧ y < D) := by
      have h := HD.out
      exact ⟨by rw [← hy]; exact Int.emod_nonneg C (by omega), by rw [← hy]; exact Int.emod_lt_of_pos C h⟩
    have HD1 := Lib.hid (fun w => divP A B a x HB.out ha hx H1.out H2.out w)
    have HD2 := Lib.hid (fun w => divP C D b y HD.out hb' hy H3.out H4.out w)
    have HNX : Hid (nd x.natAbs ≤ 3900) := by show _ ≤ _; rw [← hx]; exact nd_emod HB.out H2.out
    have HNY : Hid (nd y.natAbs ≤ 3900) := by show _ ≤ _; rw [← hy]; exact nd_emod HD.out H4.out
    have HNA : Hid (nd a.natAbs ≤ 3900) := by show _ ≤ _; rw [← ha]; exact nd_ediv H1.out
    have HNB : Hid (nd b.natAbs ≤ 3900) := by show _ ≤ _; rw [← hb']; exact nd_ediv H3.out
    clear ha hx hb' hy
    have ex := zero_eqI x
    have ey := zero_eqI y
    rcases Int.lt_trichotomy a b with h | h | h
    · have HC := Lib.hid (fun w => cmp3_c a b (-1) (by rw [cmpI, if_pos h]) HNA.out HNB.out w)
      have HR : Hid (crs A B C D = -1) := crs_lt HA.out HCC.out HB.out HD.out HX.out.2 HY.out.1 h
      clear h ex ey
      rcases hσ with rfl | rfl
      all_goals
        go_wp2_with fail
        refine (HD1.out _).mono ?_
        rintro e w1 ⟨rfl, b1⟩
        have B1 := hb.trans (b1.mono hbs)
        go_wp2_with fail
        refine (HD2.out _).mono ?_
        rintro e w2 ⟨rfl, b2⟩
        have B2 := B1.trans (b2.mono B1.size)
        go_wp2_with fail
        refine (HC.out _).mono ?_
        rintro e w3 ⟨rfl, b3⟩
        have B3 := B2.trans (b3.mono B2.size)
        clear b1 B1 b2 B2 b3
        go_wp2_with fail
        go_ret
        exact ⟨ret_int (by rw [← HT.out, HR.out]; rfl), B3⟩
    · subst h
      have HC := Lib.hid (fun w => cmp3_c a a 0 (by rw [cmpI, if_neg (by omega), if_pos rfl]) HNA.out HNA.out w)
      have HR : Hid (crs A B C D = sgnI (x * D - y * B)) := crs_eq HA.out HCC.out
      by_cases hx0 : x = 0
      · rw [decide_eq_true hx0] at ex
        by_cases hy0 : y = 0
        · have HZ : Hid (crs A B C D = 0) := by show _ = _; rw [HR.out, hx0, hy0, Int.zero_mul, Int.zero_mul]; rfl
          rw [decide_eq_true hy0] at ey
          clear hx0 hy0
          rcases hσ with rfl | rfl
          all_goals
            go_wp2_with fail
            refine (HD1.out _).mono ?_
            rintro e w1 ⟨rfl, b1⟩
            have B1 := hb.trans (b1.mono hbs)
            go_wp2_with fail
            refine (HD2.out _).mono ?_
            rintro e w2 ⟨rfl, b2⟩
            have B2 := B1.trans (b2.mono B1.size)
            go_wp2_with fail
            refine (HC.out _).mono ?_
            rintro e w3 ⟨rfl, b3⟩
            have B3 := B2.trans (b3.mono B2.size)
            clear b1 B1 b2 B2 b3
            go_wp2_with fail
            go_ret
            exact ⟨ret_int (by rw [← HT.out, HZ.out]; rfl), B3⟩
        · have HZ : Hid (crs A B C D = -1) := by
            show _ = _
            rw [HR.out, hx0, Int.zero_mul]
            have h1 := HY.out.1
            have := Int.mul_pos (show 0 < y by omega) HB.out
            exact sgnI_neg (by omega)
          rw [decide_eq_false hy0] at ey
          clear hx0 hy0
          rcases hσ with rfl | rfl
          all_goals
            go_wp2_with fail
            refine (HD1.out _).mono ?_
            rintro e w1 ⟨rfl, b1⟩
            have B1 := hb.trans (b1.mono hbs)
            go_wp2_with fail
            refine (HD2.out _).mono ?_
            rintro e w2 ⟨rfl, b2⟩
            have B2 := B1.trans (b2.mono B1.size)
            go_wp2_with fail
            refine (HC.out _).mono ?_
            rintro e w3 ⟨rfl, b3⟩
            have B3 := B2.trans (b3.mono B2.size)
            clear b1 B1 b2 B2 b3
            go_wp2_with fail
            go_ret
            exact ⟨ret_int (by rw [← HT.out, HZ.out]; rfl), B3⟩
      · rw [decide_eq_false hx0] at ex
        by_cases hy0 : y = 0
        · have HZ : Hid (crs A B C D = 1) := by
            show _ = _
            rw [HR.out, hy0, Int.zero_mul]
            have h1 := HX.out.1
            have := Int.mul_pos (show 0 < x by omega) HD.out
            exact sgnI_pos (by omega)
          rw [decide_eq_true hy0] at ey
          clear hx0 hy0
          rcases hσ with rfl | rfl
          all_goals
            go_wp2_with fail
            refine (HD1.out _).mono ?_
            rintro e w1 ⟨rfl, b1⟩
            have B1 := hb.trans (b1.mono hbs)
            go_wp2_with fail
            refine (HD2.out _).mono ?_
            rintro e w2 ⟨rfl, b2⟩
            have B2 := B1.trans (b2.mono B1.size)
            go_wp2_with fail
            refine (HC.out _).mono ?_
            rintro e w3 ⟨rfl, b3⟩
            have B3 := B2.trans (b3.mono B2.size)
            clear b1 B1 b2 B2 b3
            go_wp2_with fail
            go_ret
            exact ⟨ret_int (by rw [← HT.out, HZ.out]; rfl), B3⟩
        · have HXP : Hid (0 < x) := by have := HX.out.1; show 0 < x; omega
          have HYP : Hid (0 < y) := by have := HY.out.1; show 0 < y; omega
          have HM : Hid (x.natAbs < gk) := by have h1 := HX.out; have h2 := HK.out; show _ < _; omega
          have HZ : Hid (crs A B C D = -crs B x D y) := by show _ = _; rw [HR.out, crs_next]
          rw [decide_eq_false hy0] at ey
          clear hx0 hy0
          rcases hσ with rfl | rfl
          all_goals
            go_wp2_with fail
            refine (HD1.out _).mono ?_
            rintro e w1 ⟨rfl, b1⟩
            have B1 := hb.trans (b1.mono hbs)
            go_wp2_with fail
            refine (HD2.out _).mono ?_
            rintro e w2 ⟨rfl, b2⟩
            have B2 := B1.trans (b2.mono B1.size)
            go_wp2_with fail
            refine (HC.out _).mono ?_
            rintro e w3 ⟨rfl, b3⟩
            have B3 := B2.trans (b3.mono B2.size)
            clear b1 B1 b2 B2 b3
            go_wp2_with fail
            go_roundg x.natAbs
            case measure => exact HM.out
            case rel => first
              | exact ⟨B, x, D, y, -1, rfl, rfl, rfl, rfl, rfl, .inr rfl, HXP, HYP, rfl, by show _ = _; rw [← HT.out, HZ.out]; omega, H2, HNX, H4, HNY, B3⟩
              | exact ⟨B, x, D, y, 1, rfl, rfl, rfl, rfl, rfl, .inl rfl, HXP, HYP, rfl, by show _ = _; rw [← HT.out, HZ.out]; omega, H2, HNX, H4, HNY, B3⟩
    · have HC := Lib.hid (fun w => cmp3_c a b 1 (by rw [cmpI, if_neg (by omega), if_neg (by omega)]) HNA.out HNB.out w)
      have HR : Hid (crs A B C D = 1) := crs_gt HA.out HCC.out HB.out HD.out HY.out.2 HX.out.1 h
      clear h ex ey
      rcases hσ with rfl | rfl
      all_goals
        go_wp2_with fail
        refine (HD1.out _).mono ?_
        rintro e w1 ⟨rfl, b1⟩
        have B1 := hb.trans (b1.mono hbs)
        go_wp2_with fail
        refine (HD2.out _).mono ?_
        rintro e w2 ⟨rfl, b2⟩
        have B2 := B1.trans (b2.mono B1.size)
        go_wp2_with fail
        refine (HC.out _).mono ?_
        rintro e w3 ⟨rfl, b3⟩
        have B3 := B2.trans (b3.mono B2.size)
        clear b1 B1 b2 B2 b3
        go_wp2_with fail
        go_ret
        exact ⟨ret_int (by rw [← HT.out, HR.out]; rfl), B3⟩

end Go.Proofs.YthamlnolfagpiaaGreatDoor.D

