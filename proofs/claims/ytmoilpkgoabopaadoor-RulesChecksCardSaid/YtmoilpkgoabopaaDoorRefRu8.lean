/-
  DERIVED. The walk of lorryref12's Never.
-/
import Derived.Test.YtmoilpkgoabopaaDoorRefRu7
import Derived.Deep.RegionHeld3
namespace Go.Proofs.YtmoilpkgoabopaaDoor.T
open Go.RowKit
set_option maxRecDepth 8000

theorem ps_below {w w' : World} {v : Value} {l : List (Int × Int)} (h : Ps w v l) (hb : Below w.heap.size w w') : Ps w' v l := Sl.below h hb
set_option maxHeartbeats 6400000 in
theorem never12_n (o0 o1 o2 o3 o4 o5 : Option Addr) (n0 n1 n2 n c0 c1 c2 c3 c4 c5 : Nat) (off : Nat → Bool) (ap be : List (Int × Int)) (hn : n ≤ 60) (hra : U.Rt n ap) (hr : U.Rt n be) (hla : ap.length ≤ 1000000) (hl : be.length ≤ 1000000) (w : World) (ho : Ofs w o3 n off) (hv : Ps w (.slice o4 ap.length c4) ap) (hu : Ps w (.slice o5 be.length c5) be) :
    Calls Tryd.prog 21 #[inV (.slice o0 n0 c0) (.slice o1 n1 c1) (.slice o2 n2 c2) (.slice o3 n c3) (.slice o4 ap.length c4) (.slice o5 be.length c5)] w fun e w' => e = .returned (.int .i64 (U.neverN n off ap be : Nat)) ∧ Below w.heap.size w w' := by
  have BI := below_alloc w (.cells #[.slice o0 n0 c0, .slice o1 n1 c1, .slice o2 n2 c2, .slice o3 n c3, .slice o4 ap.length c4, .slice o5 be.length c5] 37)
  have I0 := Ib.made w (.slice o0 n0 c0) (.slice o1 n1 c1) (.slice o2 n2 c2) (.slice o3 n c3) (.slice o4 ap.length c4) (.slice o5 be.length c5)
  have KN := Lib.hid (fun q w hu => needs12_n o0 o1 o2 o3 o4 o5 n0 n1 n2 n ap.length c0 c1 c2 c3 c4 c5 be q hn hr hl w hu)
  have KA := Lib.hid (fun q w ho hv hu => allowed12_n o0 o1 o2 o3 o4 o5 n0 n1 n2 n c0 c1 c2 c3 c4 c5 off ap be q hn hra hr hla hl w ho hv hu)
  have HV := Lib.hid (hv.below BI)
  have HU := Lib.hid (hu.below BI)
  have HO := Lib.hid (ho.below BI)
  have HB := Lib.hid BI
  have I0 := Lib.hid I0
  unfold inV
  obtain ⟨W0, hW0⟩ : ∃ W0, w.alloc (.cells #[.slice o0 n0 c0, .slice o1 n1 c1, .slice o2 n2 c2, .slice o3 n c3, .slice o4 ap.length c4, .slice o5 be.length c5] 37) = W0 := ⟨_, rfl⟩
  rw [hW0] at HV HU HO HB I0
  clear BI hu hv ho
  have HE : Hid (U.ofB (U.neverP n off ap be) n = U.neverN n off ap be) := rfl
  have H0 : Hid (U.ofB (U.neverP n off ap be) 0 = 0) := rfl
  have HP : Hid (∀ i, U.neverP n off ap be i = (!off i && !(U.allowE n off ap be (U.needsI n be i) == 0))) := fun _ => rfl
  have HY := Lib.hid (fun k h => ofB_yes (p := U.neverP n off ap be) (k := k) h)
  have HNo := Lib.hid (fun k h => ofB_no (p := U.neverP n off ap be) (k := k) h)
  have HLe := Lib.hid (fun k (h : k ≤ n) => ofB_le (U.neverP n off ap be) h)
  generalize U.neverN n off ap be = r at *
  generalize hma : ap.length = ma at *
  generalize hmb : be.length = mb at *
  clear hra hr hma hmb
  unfold inV at KN KA
  go_enter Tryd.func21, Tryd.ntmps21
  go_wp2_with fail
  clear hW0
  go_loopg [3, 4] n (fun g s j wr => ∃ k : Nat, k ≤ n ∧ j = .int .i64 k ∧ n - k ≤ g ∧ s = .int .i64 (U.ofB (U.neverP n off ap be) k : Nat) ∧ Hid (Below W0.heap.size W0 wr))
  case atStart => exact ⟨0, Nat.zero_le _, rfl, Nat.le_refl _, by rw [H0.out]; rfl, Below.refl _ _⟩
  case round =>
    obtain ⟨k, hk, rfl, hg, rfl, HW⟩ := hrel
    have I1 := I0.out.below HW.out
    have i0 := I1.c0
    have i1 := I1.c1
    have i2 := I1.c2
    have i3 := I1.c3
    have i4 := I1.c4
    have i5 := I1.c5
    have hql := I1.lt
    clear I1
    by_cases hlt : k < n
    · have hkI : (k : Int) < (n : Int) := by omega
      have HO := Lib.hid (HO.out.below HW.out)
      have HV := Lib.hid (ps_below HV.out HW.out)
      have HU := Lib.hid (ps_below HU.out HW.out)
      obtain ⟨b, o, rfl, hab, x15⟩ := HO.out k hlt
      have hs9 := pow62 (show n ≤ 62 by omega) (HLe.out k hk)
      have HPk := Lib.hid (HP.out k)
      have HYk := Lib.hid (HY.out k)
      have HNk := Lib.hid (HNo.out k)
      have hk62 : k ≤ 62 := by omega
      obtain ⟨P, hP⟩ : ∃ P, 2 ^ k = P := ⟨_, rfl⟩
      have KP := Lib.hid (fun w => bit12_e k P hk62 hP w)
      have hPle := S.pow_le62 hk62
      rw [hP] at HYk hPle
      generalize U.ofB (U.neverP n off ap be) k = s at *
      generalize U.neverP n off ap be k = pk at *
      clear hP
      cases hof : off k
      · rw [hof] at x15
        have KNk := Lib.hid (fun w hu => KN.out (k : Int) w hu)
        have KAk := Lib.hid (fun w ho hv hu => KA.out (U.needsI n be k) w ho hv hu)
        have HPk : Hid (pk = !(U.allowE n off ap be (U.needsI n be k) == 0)) := by show _ = _; rw [HPk.out, hof]; rfl
        generalize U.needsI n be (k : Int) = nk at *
        generalize U.allowE n off ap be nk = ak at *
        have HB : Hid (Below W0.heap.size W0 wr.drew) := below_drew HW.out
        have HO : Hid (Ofs wr.drew (some ⟨b, o, none⟩) n off) := HO
        have HV : Hid (Ps wr.drew (.slice o4 ma c4) ap) := HV
        have HU : Hid (Ps wr.drew (.slice o5 mb c5) be) := HU
        have i0 : wr.drew.cell? ⟨w.heap.size, 0, none⟩ = some (.slice o0 n0 c0) := i0
        have i1 : wr.drew.cell? ⟨w.heap.size, 1, none⟩ = some (.slice o1 n1 c1) := i1
        have i2 : wr.drew.cell? ⟨w.heap.size, 2, none⟩ = some (.slice o2 n2 c2) := i2
        have i3 : wr.drew.cell? ⟨w.heap.size, 3, none⟩ = some (.slice (some ⟨b, o, none⟩) n c3) := i3
        have i4 : wr.drew.cell? ⟨w.heap.size, 4, none⟩ = some (.slice o4 ma c4) := i4
        have i5 : wr.drew.cell? ⟨w.heap.size, 5, none⟩ = some (.slice o5 mb c5) := i5
        have x15 : wr.drew.cell? ⟨b, o + k * 16 + 15, none⟩ = some (.bool false) := x15
        have hql : w.heap.size < wr.drew.heap.size := hql
        have hab : b < wr.drew.heap.size := hab
        go_upto_region 5 with fail
        go_region_held3 (fun w' => w'.cell? ⟨w.heap.size, 0, none⟩ = some (.slice o0 n0 c0) ∧ w'.cell? ⟨w.heap.size, 1, none⟩ = some (.slice o1 n1 c1) ∧ w'.cell? ⟨w.heap.size, 2, none⟩ = some (.slice o2 n2 c2) ∧ w'.cell? ⟨w.heap.size, 3, none⟩ = some (.slice (some ⟨b, o, none⟩) n c3) ∧ w'.cell? ⟨w.heap.size, 4, none⟩ = some (.slice o4 ma c4) ∧ w'.cell? ⟨w.heap.size, 5, none⟩ = some (.slice o5 mb c5) ∧ w'.cell? ⟨b, o + k * 16 + 15, none⟩ = some (.bool false))
          (first | exact ⟨i0, i1, i2, i3, i4, i5, x15⟩)
          (first
            | (go_at_call 17; (with_reducible refine (KNk.out _ HU.out).mono ?_); rintro e wz ⟨rfl, bz⟩; have i0 := (bz.cell (p := ⟨w.heap.size, 0, none⟩) hql).trans i0; have i1 := (bz.cell (p := ⟨w.heap.size, 1, none⟩) hql).trans i1; have i2 := (bz.cell (p := ⟨w.heap.size, 2, none⟩) hql).trans i2; have i3 := (bz.cell (p := ⟨w.heap.size, 3, none⟩) hql).trans i3; have i4 := (bz.cell (p := ⟨w.heap.size, 4, none⟩) hql).trans i4; have i5 := (bz.cell (p := ⟨w.heap.size, 5, none⟩) hql).trans i5; have x15 := (bz.cell (p := ⟨b, _, none⟩) hab).trans x15; have HB := Lib.hid (over HB.out bz); have HO := Lib.hid (Ofs.below HO.out bz); have HV := Lib.hid (ps_below HV.out bz); have HU := Lib.hid (ps_below HU.out bz); have hql := Nat.lt_of_lt_of_le hql bz.size; have hab := Nat.lt_of_lt_of_le hab bz.size)
            | (go_at_call 19; (with_reducible refine (KAk.out _ HO.out HV.out HU.out).mono ?_); rintro e wz ⟨rfl, bz⟩; have i0 := (bz.cell (p := ⟨w.heap.size, 0, none⟩) hql).trans i0; have i1 := (bz.cell (p := ⟨w.heap.size, 1, none⟩) hql).trans i1; have i2 := (bz.cell (p := ⟨w.heap.size, 2, none⟩) hql).trans i2; have i3 := (bz.cell (p := ⟨w.heap.size, 3, none⟩) hql).trans i3; have i4 := (bz.cell (p := ⟨w.heap.size, 4, none⟩) hql).trans i4; have i5 := (bz.cell (p := ⟨w.heap.size, 5, none⟩) hql).trans i5; have x15 := (bz.cell (p := ⟨b, _, none⟩) hab).trans x15; have HB := Lib.hid (over HB.out bz); have HO := Lib.hid (Ofs.below HO.out bz); have HV := Lib.hid (ps_below HV.out bz); have HU := Lib.hid (ps_below HU.out bz); have hql := Nat.lt_of_lt_of_le hql bz.size; have hab := Nat.lt_of_lt_of_le hab bz.size))
        all_goals
          by_cases hak : ak = 0
          · have hakI : (ak != 0) = false := by rw [hak]; rfl
            have HX : Hid (U.ofB (U.neverP n off ap be) (k + 1) = s) := HNk.out (by rw [HPk.out, hak]; rfl)
            clear hak
            go_wp2_with fail
            go_roundg (n - (k + 1))
            case measure => omega
            case rel => exact ⟨k + 1, by omega, by go_num, by omega, by rw [HX.out], HB⟩
          · have hakI : (ak != 0) = true := by rw [bne_iff_ne]; exact hak
            have HX : Hid (U.ofB (U.neverP n off ap be) (k + 1) = s + P) := HYk.out (by rw [HPk.out, beq_eq_false_iff_ne.2 hak]; rfl)
            clear hak
            go_wp2_with fail
            refine (KP.out _).mono ?_
            rintro e w1 ⟨rfl, rfl⟩
            go_wp2_with fail
            go_roundg (n - (k + 1))
            case measure => omega
            case rel => exact ⟨k + 1, by omega, by go_num, by omega, by rw [HX.out]; rfl, HB⟩
      · rw [hof] at x15
        have HX : Hid (U.ofB (U.neverP n off ap be) (k + 1) = s) := HNk.out (by rw [HPk.out, hof]; rfl)
        clear hof
        go_upto_region 5 with fail
        go_quiet (fail)
        go_wp2_with fail
        go_roundg (n - (k + 1))
        case measure => omega
        case rel => exact ⟨k + 1, by omega, by go_num, by omega, by rw [HX.out], below_drewN HW.out _⟩
    · have hkk : k = n := by omega
      go_wp2_with fail
      go_ret
      exact ⟨ret_int (by rw [← HE.out, hkk]), over HB.out HW.out⟩

end Go.Proofs.YtmoilpkgoabopaaDoor.T

