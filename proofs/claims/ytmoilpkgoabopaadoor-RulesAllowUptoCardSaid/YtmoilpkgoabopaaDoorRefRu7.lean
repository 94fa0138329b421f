/-
  DERIVED. The walk of lorryref12's Allowed (written by gen_refru7.py).
-/
import Derived.Test.YtmoilpkgoabopaaDoorRefRu6
namespace Go.Proofs.YtmoilpkgoabopaaDoor.T
open Go.RowKit
set_option maxRecDepth 8000

/-- which of n orders are cancelled -/
def Ofs (w : World) (oa : Option Addr) (n : Nat) (off : Nat → Bool) : Prop := ∀ i, i < n → ∃ b o, oa = some ⟨b, o, none⟩ ∧ b < w.heap.size ∧ w.cell? ⟨b, o + i * 16 + 15, none⟩ = some (.bool (off i))
theorem Ofs.below {w w' : World} {oa : Option Addr} {n : Nat} {off : Nat → Bool} (h : Ofs w oa n off) (hb : Below w.heap.size w w') : Ofs w' oa n off := fun i hi => by
  obtain ⟨b, o, ha, hl, hc⟩ := h i hi
  exact ⟨b, o, ha, Nat.lt_of_lt_of_le hl hb.size, (hb.cell (p := ⟨b, _, none⟩) hl).trans hc⟩
theorem any_yes {p : Nat → Bool} {n i : Nat} (hi : i < n) (h : p i = true) : (List.range n).any p = true := List.any_eq_true.2 ⟨i, List.mem_range.2 hi, h⟩
theorem any_no {p : Nat → Bool} {n : Nat} (h : ∀ i, i < n → p i = false) : (List.range n).any p = false := List.any_eq_false.2 fun i hi => by rw [h i (List.mem_range.1 hi)]; simp
theorem anyl_yes {p : Int × Int → Bool} {l : List (Int × Int)} {i : Nat} (hi : i < l.length) (h : p (l.getD i (0, 0)) = true) : l.any p = true := List.any_eq_true.2 ⟨_, getD_mem hi, h⟩
theorem anyl_no {p : Int × Int → Bool} {l : List (Int × Int)} (h : ∀ i, i < l.length → p (l.getD i (0, 0)) = false) : l.any p = false := List.any_eq_false.2 fun x hx => by
  obtain ⟨i, hi, rfl⟩ := List.getElem_of_mem hx
  have := h i hi
  rw [List.getD_eq_getElem?_getD, List.getElem?_eq_getElem hi] at this
  have h2 : p l[i] = false := this
  rw [h2]; simp
theorem allowN_off {n : Nat} {off : Nat → Bool} {ap be : List (Int × Int)} {s : Nat} (h : U.offE n off s = true) : U.allowN n off ap be s = 9 := by unfold U.allowN; rw [if_pos h]
theorem allowN_apart {n : Nat} {off : Nat → Bool} {ap be : List (Int × Int)} {s : Nat} (h : U.offE n off s = false) (h2 : U.apartE ap s = true) : U.allowN n off ap be s = 20 := by unfold U.allowN; rw [if_neg (by rw [h]; simp), if_pos h2]
theorem allowN_before {n : Nat} {off : Nat → Bool} {ap be : List (Int × Int)} {s : Nat} (h : U.offE n off s = false) (h2 : U.apartE ap s = false) (h3 : U.beforeE be s = true) : U.allowN n off ap be s = 21 := by unfold U.allowN; rw [if_neg (by rw [h]; simp), if_neg (by rw [h2]; simp), if_pos h3]
theorem allowN_circle {n : Nat} {off : Nat → Bool} {ap be : List (Int × Int)} {s : Nat} (h : U.offE n off s = false) (h2 : U.apartE ap s = false) (h3 : U.beforeE be s = false) (h4 : U.circleE n be s = true) : U.allowN n off ap be s = 21 := by unfold U.allowN; rw [if_neg (by rw [h]; simp), if_neg (by rw [h2]; simp), if_neg (by rw [h3]; simp), if_pos h4]
theorem allowN_ok {n : Nat} {off : Nat → Bool} {ap be : List (Int × Int)} {s : Nat} (h : U.offE n off s = false) (h2 : U.apartE ap s = false) (h3 : U.beforeE be s = false) (h4 : U.circleE n be s = false) : U.allowN n off ap be s = 0 := by unfold U.allowN; rw [if_neg (by rw [h]; simp), if_neg (by rw [h2]; simp), if_neg (by rw [h3]; simp), if_neg (by rw [h4]; simp)]
theorem less_more {P : Nat → Prop} {k : Nat} (h : ∀ i, i < k → P i) (hk : P k) : ∀ i, i < k + 1 → P i := fun i hi => by
  by_cases e : i = k
  · subst e; exact hk
  · exact h i (by omega)

set_option maxHeartbeats 6400000 in
theorem allowed12_n (o0 o1 o2 o3 o4 o5 : Option Addr) (n0 n1 n2 n c0 c1 c2 c3 c4 c5 : Nat) (off : Nat → Bool) (ap be : List (Int × Int)) (q : Int) (hn : n ≤ 60) (hra : U.Rt n ap) (hr : U.Rt n be) (hla : ap.length ≤ 1000000) (hl : be.length ≤ 1000000) (w : World) (ho : Ofs w o3 n off) (hv : Ps w (.slice o4 ap.length c4) ap) (hu : Ps w (.slice o5 be.length c5) be) :
    Calls Tryd.prog 19 #[inV (.slice o0 n0 c0) (.slice o1 n1 c1) (.slice o2 n2 c2) (.slice o3 n c3) (.slice o4 ap.length c4) (.slice o5 be.length c5), .int .i64 q] w fun e w' => e = .returned (.int .i64 (U.allowE n off ap be q)) ∧ Below w.heap.size w w' := by
  have BI := below_alloc w (.cells #[.slice o0 n0 c0, .slice o1 n1 c1, .slice o2 n2 c2, .slice o3 n c3, .slice o4 ap.length c4, .slice o5 be.length c5] 37)
  have I0 := Ib.made w (.slice o0 n0 c0) (.slice o1 n1 c1) (.slice o2 n2 c2) (.slice o3 n c3) (.slice o4 ap.length c4) (.slice o5 be.length c5)
  have KR := Lib.hid (fun a w hv => reach12_n n (.slice o5 be.length c5) be a (by omega) hr hl w hv)
  have HV := Lib.hid (hv.below BI)
  have HU := Lib.hid (hu.below BI)
  have HO := Lib.hid (ho.below BI)
  have HB := Lib.hid BI
  have i3 := I0.c3
  have i4 := I0.c4
  have i5 := I0.c5
  unfold inV
  obtain ⟨W0, hW0⟩ : ∃ W0, w.alloc (.cells #[.slice o0 n0 c0, .slice o1 n1 c1, .slice o2 n2 c2, .slice o3 n c3, .slice o4 ap.length c4, .slice o5 be.length c5] 37) = W0 := ⟨_, rfl⟩
  rw [hW0] at HV HU HO HB i3 i4 i5
  have HW0 := Lib.hid hW0
  clear BI I0 hu hv ho hW0
  obtain ⟨P, hP⟩ : ∃ P, 2 ^ n = P := ⟨_, rfl⟩
  have KP := Lib.hid (fun w => bit12_e n P (by omega) hP w)
  have hPle := S.pow_le62 (show n ≤ 62 by omega)
  rw [hP] at hPle
  by_cases h0 : q < 0
  · have HR : Hid (2 = U.allowE n off ap be q) := by show _ = _; unfold U.allowE; rw [if_pos (.inl h0)]
    generalize U.allowE n off ap be q = r at *
    clear KR KP hP
    go_enter Tryd.func19, Tryd.ntmps19
    go_upto_region 1 with fail
    rw [HW0.out]
    go_wp2_with fail
    go_ret
    exact ⟨ret_int HR.out, HB.out⟩
  by_cases h1 : (P : Int) ≤ q
  · have HR : Hid (2 = U.allowE n off ap be q) := by show _ = _; unfold U.allowE; rw [if_pos (.inr (by rw [hP]; exact h1))]
    generalize U.allowE n off ap be q = r at *
    clear KR hP
    go_enter Tryd.func19, Tryd.ntmps19
    go_upto_region 1 with fail
    rw [HW0.out]
    go_wp2_with fail
    refine (KP.out _).mono ?_
    rintro e w1 ⟨rfl, rfl⟩
    go_wp2_with fail
    go_ret
    exact ⟨ret_int HR.out, HB.out⟩
  obtain ⟨s, rfl⟩ := Int.eq_ofNat_of_zero_le (show 0 ≤ q by omega)
  have hs : s < 2 ^ n := by rw [hP]; omega
  have hsP : (s : Int) < (P : Int) := by omega
  have hq0 : decide ((s : Int) < 0) = false := decide_eq_false (by omega)
  have hq2 : decide (P ≤ s) = false := decide_eq_false (by omega)
  have hs9 := pow62 (show n ≤ 62 by omega) hs
  have HR : Hid (U.allowN n off ap be s = U.allowE n off ap be (s : Int)) := (U.allowE_nat hs).symm
  have KH := Lib.hid (fun k (hk : k ≤ 62) w => has12_n s k (by omega) hk w)
  have H1y := Lib.hid (fun i (hi : i < n) (h : (S.has s i && off i) = true) => allowN_off (ap := ap) (be := be) (any_yes (p := fun i => S.has s i && off i) hi h))
  have H1n := Lib.hid (fun (h : ∀ i, i < n → (S.has s i && off i) = false) => any_no (p := fun i => S.has s i && off i) h)
  have H2y := Lib.hid (fun (h1 : U.offE n off s = false) i (hi : i < ap.length) (h : (S.has s (U.pa (ap.getD i (0, 0))) && S.has s (U.pb (ap.getD i (0, 0)))) = true) => allowN_apart (be := be) h1 (anyl_yes (p := fun p => S.has s (U.pa p) && S.has s (U.pb p)) hi h))
  have H2n := Lib.hid (fun (h : ∀ i, i < ap.length → (S.has s (U.pa (ap.getD i (0, 0))) && S.has s (U.pb (ap.getD i (0, 0)))) = false) => anyl_no (p := fun p => S.has s (U.pa p) && S.has s (U.pb p)) h)
  have H3y := Lib.hid (fun (h1 : U.offE n off s = false) (h2 : U.apartE ap s = false) i (hi : i < be.length) (h : (S.has s (U.pb (be.getD i (0, 0))) && !S.has s (U.pa (be.getD i (0, 0)))) = true) => allowN_before h1 h2 (anyl_yes (p := fun p => S.has s (U.pb p) && !S.has s (U.pa p)) hi h))
  have H3n := Lib.hid (fun (h : ∀ i, i < be.length → (S.has s (U.pb (be.getD i (0, 0))) && !S.has s (U.pa (be.getD i (0, 0)))) = false) => anyl_no (p := fun p => S.has s (U.pb p) && !S.has s (U.pa p)) h)
  have H4y := Lib.hid (fun (h1 : U.offE n off s = false) (h2 : U.apartE ap s = false) (h3 : U.beforeE be s = false) i (hi : i < n) (h : (S.has s i && S.has (U.reach n be i) i) = true) => allowN_circle h1 h2 h3 (any_yes (p := fun i => S.has s i && S.has (U.reach n be i) i) hi h))
  have H4n := Lib.hid (fun (h1 : U.offE n off s = false) (h2 : U.apartE ap s = false) (h3 : U.beforeE be s = false) (h : ∀ i, i < n → (S.has s i && S.has (U.reach n be i) i) = false) => allowN_ok h1 h2 h3 (any_no (p := fun i => S.has s i && S.has (U.reach n be i) i) h))
  have HLt : Hid (∀ i, U.reach n be i < 2 ^ n) := fun i => U.reach_lt hr i (n + 1)
  have HAp := Lib.hid hra
  have HBe := Lib.hid hr
  have H1n : Hid ((∀ i, i < n → (S.has s i && off i) = false) → U.offE n off s = false) := H1n
  have H2n : Hid ((∀ i, i < ap.length → (S.has s (U.pa (ap.getD i (0, 0))) && S.has s (U.pb (ap.getD i (0, 0)))) = false) → U.apartE ap s = false) := H2n
  have H3n : Hid ((∀ i, i < be.length → (S.has s (U.pb (be.getD i (0, 0))) && !S.has s (U.pa (be.getD i (0, 0)))) = false) → U.beforeE be s = false) := H3n
  generalize U.allowE n off ap be (s : Int) = r at *
  generalize U.allowN n off ap be s = rn at *
  generalize hma : ap.length = ma at *
  generalize hmb : be.length = mb at *
  have HMA := Lib.hid hma
  have HMB := Lib.hid hmb
  clear hra hr hs hma hmb hP h0 h1
  go_enter Tryd.func19, Tryd.ntmps19
  go_upto_region 1 with fail
  rw [HW0.out]
  clear HW0
  go_wp2_with fail
  refine (KP.out _).mono ?_
  rintro e w1 ⟨rfl, rfl⟩
  go_wp2_with fail
  clear KP
  go_loopg [6] n (fun g j wr => ∃ k : Nat, k ≤ n ∧ j = .int .i64 k ∧ n - k ≤ g ∧ Hid (∀ i, i < k → (S.has s i && off i) = false) ∧ W0 = wr)
  case atStart => exact ⟨0, Nat.zero_le _, rfl, Nat.le_refl _, fun i hi => absurd hi (Nat.not_lt_zero _), rfl⟩
  case round =>
    obtain ⟨k, hk, rfl, hg, HK, rfl⟩ := hrel
    by_cases hlt : k < n
    · have hkI : (k : Int) < (n : Int) := by omega
      obtain ⟨b, o, rfl, hab, x15⟩ := HO.out k hlt
      have KHk := Lib.hid (fun w => KH.out k (by omega) w)
      have HYk := Lib.hid (fun h => H1y.out k hlt h)
      cases hb : S.has s k
      · rw [hb] at KHk
        have HX : Hid ((S.has s k && off k) = false) := by show _ = _; rw [hb]; rfl
        clear hb HYk
        go_wp2_with fail
        refine (KHk.out _).mono ?_
        rintro e w1 ⟨rfl, rfl⟩
        go_wp2_with fail
        go_roundg (n - (k + 1))
        case measure => omega
        case rel => exact ⟨k + 1, by omega, by go_num, by omega, less_more HK.out (HX.out), rfl⟩
      · rw [hb] at KHk
        cases ho : off k
        · have HX : Hid ((S.has s k && off k) = false) := by show _ = _; rw [ho, Bool.and_false]
          rw [ho] at x15
          clear hb ho HYk
          go_wp2_with fail
          refine (KHk.out _).mono ?_
          rintro e w1 ⟨rfl, rfl⟩
          go_wp2_with fail
          go_roundg (n - (k + 1))
          case measure => omega
          case rel => exact ⟨k + 1, by omega, by go_num, by omega, less_more HK.out (HX.out), rfl⟩
        · have HX : Hid (rn = 9) := HYk.out (by rw [hb, ho]; rfl)
          rw [ho] at x15
          clear hb ho HYk
          go_wp2_with fail
          refine (KHk.out _).mono ?_
          rintro e w1 ⟨rfl, rfl⟩
          go_wp2_with fail
          go_ret
          exact ⟨ret_int (by rw [← HR.out, HX.out]), HB.out⟩
    · have hkk : k = n := by omega
      rw [hkk] at HK
      have hkI : ¬ (k : Int) < (n : Int) := by omega
      clear hkk hlt
      have hO1 := Lib.hid (H1n.out HK.out)
      clear HK hg hk
      go_wp2_with fail
      go_loopg [7] ma (fun g j wr => ∃ k : Nat, k ≤ ma ∧ j = .int .i64 k ∧ ma - k ≤ g ∧ Hid (∀ i, i < k → (S.has s (U.pa (ap.getD i (0, 0))) && S.has s (U.pb (ap.getD i (0, 0)))) = false) ∧ W0 = wr)
      case atStart => exact ⟨0, Nat.zero_le _, rfl, Nat.le_refl _, fun i hi => absurd hi (Nat.not_lt_zero _), rfl⟩
      case round =>
        obtain ⟨k, hk, rfl, hg, HK, rfl⟩ := hrel
        by_cases hlt : k < ma
        · have hkI : (k : Int) < (ma : Int) := by omega
          have hkl : k < ap.length := by rw [HMA.out]; exact hlt
          obtain ⟨b, o, rfl, hab, x0, x1⟩ := ps_at (by have := HV.out; rw [← HMA.out] at this; exact this) hkl
          have hp := HAp.out.a (getD_mem (d := (0, 0)) hkl)
          have HYk := Lib.hid (fun h => H2y.out hO1.out k hlt h)
          generalize hpe : ap.getD k (0, 0) = p at *
          have HPe := Lib.hid hpe
          rw [hp.2.2.2] at x0 x1
          simp only at x0 x1
          have KA := Lib.hid (fun w => KH.out (U.pa p) (by omega) w)
          have KB := Lib.hid (fun w => KH.out (U.pb p) (by omega) w)
          clear hp hpe
          cases h1 : S.has s (U.pa p)
          · rw [h1] at KA
            have HX : Hid ((S.has s (U.pa p) && S.has s (U.pb p)) = false) := by show _ = _; rw [h1]; rfl
            generalize hx : U.pa p = x at *
            generalize hy : U.pb p = y at *
            have HXY := Lib.hid (And.intro hx hy)
            clear h1 HYk hx hy
            go_wp2_with fail
            refine (KA.out _).mono ?_
            rintro e w1 ⟨rfl, rfl⟩
            go_wp2_with fail
            go_roundg (ma - (k + 1))
            case measure => omega
            case rel => exact ⟨k + 1, by omega, by go_num, by omega, less_more HK.out (by rw [HPe.out, HXY.out.1, HXY.out.2]; exact HX.out), rfl⟩
          · cases h2 : S.has s (U.pb p)
            · rw [h1] at KA
              rw [h2] at KB
              have HX : Hid ((S.has s (U.pa p) && S.has s (U.pb p)) = false) := by show _ = _; rw [h1, h2]; rfl
              generalize hx : U.pa p = x at *
              generalize hy : U.pb p = y at *
              have HXY := Lib.hid (And.intro hx hy)
              clear h1 h2 HYk hx hy
              go_wp2_with fail
              refine (KA.out _).mono ?_
              rintro e w1 ⟨rfl, rfl⟩
              go_wp2_with fail
              refine (KB.out _).mono ?_
              rintro e w1 ⟨rfl, rfl⟩
              go_wp2_with fail
              go_roundg (ma - (k + 1))
              case measure => omega
              case rel => exact ⟨k + 1, by omega, by go_num, by omega, less_more HK.out (by rw [HPe.out, HXY.out.1, HXY.out.2]; exact HX.out), rfl⟩
            · rw [h1] at KA
              rw [h2] at KB
              have HX : Hid (rn = 20) := HYk.out (by rw [h1, h2]; rfl)
              generalize hx : U.pa p = x at *
              generalize hy : U.pb p = y at *
              have HXY := Lib.hid (And.intro hx hy)
              clear h1 h2 HYk hx hy
              go_wp2_with fail
              refine (KA.out _).mono ?_
              rintro e w1 ⟨rfl, rfl⟩
              go_wp2_with fail
              refine (KB.out _).mono ?_
              rintro e w1 ⟨rfl, rfl⟩
              go_wp2_with fail
              go_ret
              exact ⟨ret_int (by rw [← HR.out, HX.out]), HB.out⟩
        · have hkk : k = ma := by omega
          rw [hkk] at HK
          have hkI : ¬ (k : Int) < (ma : Int) := by omega
          clear hkk hlt
          have hO2 := Lib.hid (H2n.out HK.out)
          clear HK hg hk
          go_wp2_with fail
          go_loopg [8] mb (fun g j wr => ∃ k : Nat, k ≤ mb ∧ j = .int .i64 k ∧ mb - k ≤ g ∧ Hid (∀ i, i < k → (S.has s (U.pb (be.getD i (0, 0))) && !S.has s (U.pa (be.getD i (0, 0)))) = false) ∧ W0 = wr)
          case atStart => exact ⟨0, Nat.zero_le _, rfl, Nat.le_refl _, fun i hi => absurd hi (Nat.not_lt_zero _), rfl⟩
          case round =>
            obtain ⟨k, hk, rfl, hg, HK, rfl⟩ := hrel
            by_cases hlt : k < mb
            · have hkI : (k : Int) < (mb : Int) := by omega
              have hkl : k < be.length := by rw [HMB.out]; exact hlt
              obtain ⟨b, o, rfl, hab, x0, x1⟩ := ps_at (by have := HU.out; rw [← HMB.out] at this; exact this) hkl
              have hp := HBe.out.a (getD_mem (d := (0, 0)) hkl)
              have HYk := Lib.hid (fun h => H3y.out hO1.out hO2.out k hlt h)
              generalize hpe : be.getD k (0, 0) = p at *
              have HPe := Lib.hid hpe
              rw [hp.2.2.2] at x0 x1
              simp only at x0 x1
              have KA := Lib.hid (fun w => KH.out (U.pb p) (by omega) w)
              have KB := Lib.hid (fun w => KH.out (U.pa p) (by omega) w)
              clear hp hpe
              cases h1 : S.has s (U.pb p)
              · rw [h1] at KA
                have HX : Hid ((S.has s (U.pb p) && !S.has s (U.pa p)) = false) := by show _ = _; rw [h1]; rfl
                generalize hx : U.pa p = x at *
                generalize hy : U.pb p = y at *
                have HXY := Lib.hid (And.intro hx hy)
                clear h1 HYk hx hy
                go_wp2_with fail
                refine (KA.out _).mono ?_
                rintro e w1 ⟨rfl, rfl⟩
                go_wp2_with fail
                go_roundg (mb - (k + 1))
                case measure => omega
                case rel => exact ⟨k + 1, by omega, by go_num, by omega, less_more HK.out (by rw [HPe.out, HXY.out.1, HXY.out.2]; exact HX.out), rfl⟩
              · cases h2 : S.has s (U.pa p)
                · rw [h1] at KA
                  rw [h2] at KB
                  have HX : Hid (rn = 21) := HYk.out (by rw [h1, h2]; rfl)
                  generalize hx : U.pa p = x at *
                  generalize hy : U.pb p = y at *
                  have HXY := Lib.hid (And.intro hx hy)
                  clear h1 h2 HYk hx hy
                  go_wp2_with fail
                  refine (KA.out _).mono ?_
                  rintro e w1 ⟨rfl, rfl⟩
                  go_wp2_with fail
                  refine (KB.out _).mono ?_
                  rintro e w1 ⟨rfl, rfl⟩
                  go_wp2_with fail
                  go_ret
                  exact ⟨ret_int (by rw [← HR.out, HX.out]), HB.out⟩
                · rw [h1] at KA
                  rw [h2] at KB
                  have HX : Hid ((S.has s (U.pb p) && !S.has s (U.pa p)) = false) := by show _ = _; rw [h1, h2]; rfl
                  generalize hx : U.pa p = x at *
                  generalize hy : U.pb p = y at *
                  have HXY := Lib.hid (And.intro hx hy)
                  clear h1 h2 HYk hx hy
                  go_wp2_with fail
                  refine (KA.out _).mono ?_
                  rintro e w1 ⟨rfl, rfl⟩
                  go_wp2_with fail
                  refine (KB.out _).mono ?_
                  rintro e w1 ⟨rfl, rfl⟩
                  go_wp2_with fail
                  go_roundg (mb - (k + 1))
                  case measure => omega
                  case rel => exact ⟨k + 1, by omega, by go_num, by omega, less_more HK.out (by rw [HPe.out, HXY.out.1, HXY.out.2]; exact HX.out), rfl⟩
            · have hkk : k = mb := by omega
              rw [hkk] at HK
              have hkI : ¬ (k : Int) < (mb : Int) := by omega
              clear hkk hlt
              have hO3 := Lib.hid (H3n.out HK.out)
              clear HK hg hk
              go_wp2_with fail
              go_loopg [9] n (fun g j wr => ∃ k : Nat, k ≤ n ∧ j = .int .i64 k ∧ n - k ≤ g ∧ Hid (∀ i, i < k → (S.has s i && S.has (U.reach n be i) i) = false) ∧ W0 = wr)
              case atStart => exact ⟨0, Nat.zero_le _, rfl, Nat.le_refl _, fun i hi => absurd hi (Nat.not_lt_zero _), rfl⟩
              case round =>
                obtain ⟨k, hk, rfl, hg, HK, rfl⟩ := hrel
                by_cases hlt : k < n
                · have hkI : (k : Int) < (n : Int) := by omega
                  have KHk := Lib.hid (fun w => KH.out k (by omega) w)
                  have HYk := Lib.hid (fun h => H4y.out hO1.out hO2.out hO3.out k hlt h)
                  have KRk := Lib.hid (fun w hv => KR.out k w hv)
                  have hrl := pow62 (show n ≤ 62 by omega) (HLt.out k)
                  have KC := Lib.hid (fun w => has12_n (U.reach n be k) k (by omega) (by omega) w)
                  cases hb : S.has s k
                  · rw [hb] at KHk
                    have HX : Hid ((S.has s k && S.has (U.reach n be k) k) = false) := by show _ = _; rw [hb]; rfl
                    clear hb HYk
                    go_wp2_with fail
                    refine (KHk.out _).mono ?_
                    rintro e w1 ⟨rfl, rfl⟩
                    go_wp2_with fail
                    go_roundg (n - (k + 1))
                    case measure => omega
                    case rel => exact ⟨k + 1, by omega, by go_num, by omega, less_more HK.out (HX.out), rfl⟩
                  · rw [hb] at KHk
                    cases ho : S.has (U.reach n be k) k
                    · have HX : Hid ((S.has s k && S.has (U.reach n be k) k) = false) := by show _ = _; rw [ho, Bool.and_false]
                      rw [ho] at KC
                      clear hb ho HYk
                      generalize hre : U.reach n be k = rk at *
                      have HRe := Lib.hid hre
                      clear hre
                      go_wp2_with fail
                      refine (KHk.out _).mono ?_
                      rintro e w1 ⟨rfl, rfl⟩
                      go_wp2_with fail
                      refine (KRk.out _ HU.out).mono ?_
                      rintro e w1 ⟨rfl, rfl⟩
                      go_wp2_with fail
                      refine (KC.out _).mono ?_
                      rintro e w1 ⟨rfl, rfl⟩
                      go_wp2_with fail
                      go_roundg (n - (k + 1))
                      case measure => omega
                      case rel => exact ⟨k + 1, by omega, by go_num, by omega, less_more HK.out (by rw [HRe.out]; exact HX.out), rfl⟩
                    · have HX : Hid (rn = 21) := HYk.out (by rw [hb, ho]; rfl)
                      rw [ho] at KC
                      clear hb ho HYk
                      generalize U.reach n be k = rk at *
                      go_wp2_with fail
                      refine (KHk.out _).mono ?_
                      rintro e w1 ⟨rfl, rfl⟩
                      go_wp2_with fail
                      refine (KRk.out _ HU.out).mono ?_
                      rintro e w1 ⟨rfl, rfl⟩
                      go_wp2_with fail
                      refine (KC.out _).mono ?_
                      rintro e w1 ⟨rfl, rfl⟩
                      go_wp2_with fail
                      go_ret
                      exact ⟨ret_int (by rw [← HR.out, HX.out]), HB.out⟩
                · have hkk : k = n := by omega
                  rw [hkk] at HK
                  have hkI : ¬ (k : Int) < (n : Int) := by omega
                  clear hkk hlt
                  have HX : Hid (rn = 0) := H4n.out hO1.out hO2.out hO3.out HK.out
                  go_wp2_with fail
                  go_ret
                  exact ⟨ret_int (by rw [← HR.out, HX.out]), HB.out⟩

end Go.Proofs.YtmoilpkgoabopaaDoor.T

