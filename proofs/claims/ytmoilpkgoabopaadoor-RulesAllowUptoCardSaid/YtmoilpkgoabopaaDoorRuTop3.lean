/-
  DERIVED. The walk of the landed rules' Never.
-/
import Derived.Test.YtmoilpkgoabopaaDoorRuTop2
namespace Go.Proofs.YtmoilpkgoabopaaDoor.T
open Go.RowKit
set_option maxRecDepth 8000

theorem members_full : ∀ n, n ≤ 10 → S.members (2 ^ n - 1) = List.range n := by decide
theorem owb_at {B : Nat} {w : World} {v : Value} {l : List Nat} (h : S.Owb B w v l) : ∃ oa c, v = .slice oa l.length c ∧ ∀ i, i < l.length → ∃ b, oa = some ⟨b, 0, none⟩ ∧ b < w.heap.size ∧ w.cell? ⟨b, i, none⟩ = some (.int .i64 (l.getD i 0 : Nat)) := by
  rcases h.2 with ⟨hv, h0⟩ | ⟨g, cap, cur, rfl, hbg, hgg, hnc, rest⟩
  · exact ⟨none, 0, by rw [hv, h0], fun i hi => by omega⟩
  · refine ⟨some ⟨g, 0, none⟩, cap, rfl, fun i hi => ⟨g, rfl, (Array.getElem?_eq_some_iff.1 hgg).1, ?_⟩⟩
    have hc := World.ownsRow.cellAt (g := g) (cap := cap) (n := l.length) (xs := l.map S.iv) (w := w) (base := B) (e := 3) (size := 1) ⟨h.1, .inr ⟨g, cap, cur, rfl, hbg, hgg, hnc, rest⟩⟩ i (by omega)
    rw [hc, List.getElem?_map, List.getD_eq_getElem?_getD, List.getElem?_eq_getElem hi]
    rfl
set_option maxHeartbeats 6400000 in
theorem neverT_n (o0 o1 o2 o3 o4 o5 : Option Addr) (n0 n1 n2 n c0 c1 c2 c3 c4 c5 : Nat) (off : Nat → Bool) (ap be : List (Int × Int)) (hn : n ≤ 10) (hra : U.Rt n ap) (hr : U.Rt n be) (hla : ap.length ≤ 1000) (hl : be.length ≤ 1000) (w : World) (hT : S.Tab w) (ho : Ofs w o3 n off) (hv : Ps w (.slice o4 ap.length c4) ap) (hu : Ps w (.slice o5 be.length c5) be) :
    Calls Tryd.prog 20 #[.agg #[.slice o0 n0 c0, .slice o1 n1 c1, .slice o2 n2 c2, .slice o3 n c3, .slice o4 ap.length c4, .slice o5 be.length c5]] w fun e w' => e = .returned (.int .i64 (U.neverN n off ap be : Nat)) ∧ Below w.heap.size w w' := by
  have BI := below_alloc w (.cells #[.slice o0 n0 c0, .slice o1 n1 c1, .slice o2 n2 c2, .slice o3 n c3, .slice o4 ap.length c4, .slice o5 be.length c5] 37)
  have I0 := Ib.made w (.slice o0 n0 c0) (.slice o1 n1 c1) (.slice o2 n2 c2) (.slice o3 n c3) (.slice o4 ap.length c4) (.slice o5 be.length c5)
  have hp10 := U.pow_le hn
  have KE := Lib.hid (fun w => every_n o0 o1 o2 o3 o4 o5 n0 n1 n2 n ap.length be.length c0 c1 c2 c3 c4 c5 hn w)
  have KM := Lib.hid (fun w hT => S.setMembers_n (2 ^ n - 1) (by omega) w hT)
  rw [members_full n hn] at KM
  have KN := Lib.hid (fun q w hu => needsT_n o0 o1 o2 o3 o4 o5 n0 n1 n2 n ap.length c0 c1 c2 c3 c4 c5 be q hn hr hl w hu)
  have KA := Lib.hid (fun q hq w ho hv hu => allowedT_n o0 o1 o2 o3 o4 o5 n0 n1 n2 n c0 c1 c2 c3 c4 c5 off ap be q hq hn hra hr hla hl w ho hv hu)
  have HT := Lib.hid (hT.over BI)
  have HV := Lib.hid (hv.below BI)
  have HU := Lib.hid (hu.below BI)
  have HO := Lib.hid (ho.below BI)
  have HB := Lib.hid BI
  have I0 := Lib.hid I0
  obtain ⟨W0, hW0⟩ : ∃ W0, w.alloc (.cells #[.slice o0 n0 c0, .slice o1 n1 c1, .slice o2 n2 c2, .slice o3 n c3, .slice o4 ap.length c4, .slice o5 be.length c5] 37) = W0 := ⟨_, rfl⟩
  rw [hW0] at HV HU HO HB I0 HT
  have HW0 := Lib.hid hW0
  clear BI hu hv ho hT hW0
  have HE : Hid (U.ofB (U.neverP n off ap be) n = U.neverN n off ap be) := rfl
  have H0 : Hid (U.ofB (U.neverP n off ap be) 0 = 0) := rfl
  have HP : Hid (∀ i, U.neverP n off ap be i = (!off i && !(U.allowE n off ap be (U.needsI n be i) == 0))) := fun _ => rfl
  have HY := Lib.hid (fun k h => ofB_yes (p := U.neverP n off ap be) (k := k) h)
  have HNo := Lib.hid (fun k h => ofB_no (p := U.neverP n off ap be) (k := k) h)
  have HLe := Lib.hid (fun k (h : k ≤ n) => Nat.lt_of_lt_of_le (ofB_le (U.neverP n off ap be) h) hp10)
  have HFr : Hid (∀ k, S.has (U.ofB (U.neverP n off ap be) k) k = false) := fun k => by rw [U.has_ofB, decide_eq_false (by omega)]; rfl
  have HNd : Hid (∀ k : Nat, k < n → -9223372036854775808 ≤ U.needsI n be (k : Int) ∧ U.needsI n be (k : Int) ≤ 9223372036854775807) := fun k hk => by
    have := U.needN_lt n be k
    rw [U.needsI_nat hk]; omega
  generalize U.neverN n off ap be = r at *
  generalize hma : ap.length = ma at *
  generalize hmb : be.length = mb at *
  generalize 2 ^ n - 1 = qn at *
  have hnl : (List.range n).length = n := List.length_range
  have HGd : Hid (∀ i, i < n → (List.range n).getD i 0 = i) := fun i hi => by rw [List.getD_eq_getElem?_getD, List.getElem?_range hi]; rfl
  generalize List.range n = rl at *
  clear hra hr hma hmb hp10
  go_enter Tryd.func20, Tryd.ntmps20
  go_upto_region 2 with fail
  rw [HW0.out]
  have I00 := I0.out
  have i0 := I00.c0
  have i1 := I00.c1
  have i2 := I00.c2
  have i3 := I00.c3
  have i4 := I00.c4
  have i5 := I00.c5
  clear I00
  go_wp2_with fail
  refine (KE.out _).mono ?_
  rintro e w1 ⟨rfl, d1⟩
  have HB1 := Lib.hid (over HB.out d1)
  have HT1 := Lib.hid (HT.out.over d1)
  have HU1 := Lib.hid (HU.out.below d1)
  have HV1 := Lib.hid (HV.out.below d1)
  have HO1 := Lib.hid (HO.out.below d1)
  have I1 := Lib.hid (I0.out.below d1)
  clear d1 HB HT HU HV HO I0 i0 i1 i2 i3 i4 i5 HW0
  go_wp2_with fail
  refine (KM.out _ HT1.out).mono ?_
  rintro e w2 ⟨mv, rfl, hmo, d2⟩
  obtain ⟨oa, c, rfl, hma⟩ := owb_at hmo
  rw [hnl] at hma ⊢
  have HMa := Lib.hid hma
  have HB2 := Lib.hid (over HB1.out d2)
  have HU2 := Lib.hid (HU1.out.below d2)
  have HV2 := Lib.hid (HV1.out.below d2)
  have HO2 := Lib.hid (HO1.out.below d2)
  have I2 := Lib.hid (I1.out.below d2)
  clear d2 hma hmo HB1 HT1 HU1 HV1 HO1 I1 KM KE
  go_wp2_with fail
  go_loopg [3, 10] n (fun g s j wr => ∃ k : Nat, k ≤ n ∧ j = .int .i64 k ∧ n - k ≤ g ∧ s = .int .i64 (U.ofB (U.neverP n off ap be) k : Nat) ∧ Hid (Below w2.heap.size w2 wr))
  case atStart => exact ⟨0, Nat.zero_le _, rfl, Nat.le_refl _, by rw [H0.out]; rfl, Below.refl _ _⟩
  case round =>
    obtain ⟨k, hk, rfl, hg, rfl, HW⟩ := hrel
    have I1 := I2.out.below HW.out
    have i0 := I1.c0
    have i1 := I1.c1
    have i2 := I1.c2
    have i3 := I1.c3
    have i4 := I1.c4
    have i5 := I1.c5
    have hql := I1.lt
    clear I1
    by_cases hlt : k < n
    · have hkI : (k : Int) < (n : Int) := by omega
      have HO := Lib.hid (HO2.out.below HW.out)
      have HV := Lib.hid (ps_below HV2.out HW.out)
      have HU := Lib.hid (ps_below HU2.out HW.out)
      obtain ⟨b, o, rfl, hab, x15⟩ := HO.out k hlt
      obtain ⟨mb', rfl, hmb', xm⟩ := HMa.out k hlt
      rw [HGd.out k hlt] at xm
      have xm := (HW.out.cell (p := ⟨mb', k, none⟩) hmb').trans xm
      have hs9 := HLe.out k hk
      have HPk := Lib.hid (HP.out k)
      have HYk := Lib.hid (HY.out k)
      have HNk := Lib.hid (HNo.out k)
      have HFk := Lib.hid (HFr.out k)
      have HNdk := Lib.hid (HNd.out k hlt)
      have hk62 : k ≤ 62 := by omega
      generalize U.ofB (U.neverP n off ap be) k = s at *
      generalize U.neverP n off ap be k = pk at *
      cases hof : off k
      · rw [hof] at x15
        have KNk := Lib.hid (fun w hu => KN.out (k : Int) w hu)
        have KAk := Lib.hid (fun w ho hv hu => KA.out (U.needsI n be k) HNdk.out w ho hv hu)
        have HPk : Hid (pk = !(U.allowE n off ap be (U.needsI n be k) == 0)) := by show _ = _; rw [HPk.out, hof]; rfl
        clear HNdk
        generalize U.needsI n be (k : Int) = nk at *
        generalize U.allowE n off ap be nk = ak at *
        go_wp2_with fail
        go_upto_region 5 with fail
        have HB : Hid (Below w2.heap.size w2 wr.drew) := below_drew HW.out
        have HO : Hid (Ofs wr.drew (some ⟨b, o, none⟩) n off) := HO
        have HV : Hid (Ps wr.drew (.slice o4 ma c4) ap) := HV
        have HU : Hid (Ps wr.drew (.slice o5 mb c5) be) := HU
        have i0 : wr.drew.cell? ⟨w.heap.size, 0, none⟩ = some (.slice o0 n0 c0) := i0
        have i1 : wr.drew.cell? ⟨w.heap.size, 1, none⟩ = some (.slice o1 n1 c1) := i1
        have i2 : wr.drew.cell? ⟨w.heap.size, 2, none⟩ = some (.slice o2 n2 c2) := i2
        have i3 : wr.drew.cell? ⟨w.heap.size, 3, none⟩ = some (.slice (some ⟨b, o, none⟩) n c3) := i3
        have i4 : wr.drew.cell? ⟨w.heap.size, 4, none⟩ = some (.slice o4 ma c4) := i4
        have i5 : wr.drew.cell? ⟨w.heap.size, 5, none⟩ = some (.slice o5 mb c5) := i5
        have x15 : wr.drew.cell? ⟨b, o + k * 16 + 15, none⟩ = some (.bool false) := x15
        have hql : w.heap.size < wr.drew.heap.size := hql
        have hab : b < wr.drew.heap.size := hab
        go_region_held3 (fun w' => w'.cell? ⟨w.heap.size, 0, none⟩ = some (.slice o0 n0 c0) ∧ w'.cell? ⟨w.heap.size, 1, none⟩ = some (.slice o1 n1 c1) ∧ w'.cell? ⟨w.heap.size, 2, none⟩ = some (.slice o2 n2 c2) ∧ w'.cell? ⟨w.heap.size, 3, none⟩ = some (.slice (some ⟨b, o, none⟩) n c3) ∧ w'.cell? ⟨w.heap.size, 4, none⟩ = some (.slice o4 ma c4) ∧ w'.cell? ⟨w.heap.size, 5, none⟩ = some (.slice o5 mb c5) ∧ w'.cell? ⟨b, o + k * 16 + 15, none⟩ = some (.bool false))
          (first | exact ⟨i0, i1, i2, i3, i4, i5, x15⟩)
          (first
            | (go_at_call 16; (with_reducible refine (KNk.out _ HU.out).mono ?_); rintro e wz ⟨rfl, bz⟩; have i0 := (bz.cell (p := ⟨w.heap.size, 0, none⟩) hql).trans i0; have i1 := (bz.cell (p := ⟨w.heap.size, 1, none⟩) hql).trans i1; have i2 := (bz.cell (p := ⟨w.heap.size, 2, none⟩) hql).trans i2; have i3 := (bz.cell (p := ⟨w.heap.size, 3, none⟩) hql).trans i3; have i4 := (bz.cell (p := ⟨w.heap.size, 4, none⟩) hql).trans i4; have i5 := (bz.cell (p := ⟨w.heap.size, 5, none⟩) hql).trans i5; have x15 := (bz.cell (p := ⟨b, _, none⟩) hab).trans x15; have HB := Lib.hid (over HB.out bz); have HO := Lib.hid (Ofs.below HO.out bz); have HV := Lib.hid (ps_below HV.out bz); have HU := Lib.hid (ps_below HU.out bz); have hql := Nat.lt_of_lt_of_le hql bz.size; have hab := Nat.lt_of_lt_of_le hab bz.size)
            | (go_at_call 18; (with_reducible refine (KAk.out _ HO.out HV.out HU.out).mono ?_); rintro e wz ⟨rfl, bz⟩; have i0 := (bz.cell (p := ⟨w.heap.size, 0, none⟩) hql).trans i0; have i1 := (bz.cell (p := ⟨w.heap.size, 1, none⟩) hql).trans i1; have i2 := (bz.cell (p := ⟨w.heap.size, 2, none⟩) hql).trans i2; have i3 := (bz.cell (p := ⟨w.heap.size, 3, none⟩) hql).trans i3; have i4 := (bz.cell (p := ⟨w.heap.size, 4, none⟩) hql).trans i4; have i5 := (bz.cell (p := ⟨w.heap.size, 5, none⟩) hql).trans i5; have x15 := (bz.cell (p := ⟨b, _, none⟩) hab).trans x15; have HB := Lib.hid (over HB.out bz); have HO := Lib.hid (Ofs.below HO.out bz); have HV := Lib.hid (ps_below HV.out bz); have HU := Lib.hid (ps_below HU.out bz); have hql := Nat.lt_of_lt_of_le hql bz.size; have hab := Nat.lt_of_lt_of_le hab bz.size))
        all_goals
          by_cases hak : ak = 0
          · have hakI : (ak != 0) = false := by rw [hak]; rfl
            have HX : Hid (U.ofB (U.neverP n off ap be) (k + 1) = s) := HNk.out (by rw [HPk.out, hak]; rfl)
            clear hak
            go_wp2_with fail
            go_roundg (n - (k + 1))
            case measure => omega
            case rel => exact ⟨k + 1, by omega, by go_num, by omega, by rw [HX.out], HB⟩
          · have hakI : (ak != 0) = true := by rw [bne_iff_ne]; exact hak
            have HX : Hid (U.ofB (U.neverP n off ap be) (k + 1) = s + 2 ^ k) := HYk.out (by rw [HPk.out, beq_eq_false_iff_ne.2 hak]; rfl)
            have HS := S.set_bit s k (by omega) hk62 HFk.out
            obtain ⟨s2, hs2⟩ : ∃ s2, s + 2 ^ k = s2 := ⟨_, rfl⟩
            rw [hs2] at HS HX
            clear hak hs2
            go_wp2_with fail
            go_roundg (n - (k + 1))
            case measure => omega
            case rel => exact ⟨k + 1, by omega, by go_num, by omega, by rw [HX.out], HB⟩
      · rw [hof] at x15
        have HX : Hid (U.ofB (U.neverP n off ap be) (k + 1) = s) := HNk.out (by rw [HPk.out, hof]; rfl)
        clear hof
        go_upto_region 5 with fail
        go_quiet (fail)
        go_wp2_with fail
        go_roundg (n - (k + 1))
        case measure => omega
        case rel => exact ⟨k + 1, by omega, by go_num, by omega, by rw [HX.out], below_drewN HW.out _⟩
    · have hkk : k = n := by omega
      have hkI : ¬ (k : Int) < (n : Int) := by omega
      have HR : Hid (U.ofB (U.neverP n off ap be) k = r) := by show _ = _; rw [hkk]; exact HE.out
      generalize U.ofB (U.neverP n off ap be) k = s at *
      go_wp2_with fail
      go_ret
      exact ⟨ret_int (by rw [HR.out]), over HB2.out HW.out⟩

end Go.Proofs.YtmoilpkgoabopaaDoor.T

