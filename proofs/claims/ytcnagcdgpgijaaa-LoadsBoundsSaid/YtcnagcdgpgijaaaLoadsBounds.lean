/-
  DERIVED. The walk of LoadsBounds.
-/
import Derived.Test.YtcnagcdgpgijaaaLoadsAdd
namespace Go.Proofs.Ytcnagcdgpgijaaa.L
open Go.RowKit
set_option maxRecDepth 8000

theorem foldl_max_ge (d : Nat) : ∀ (ls : List (List Int)) (z : Int), z ≤ ls.foldl (fun n l => maxF n (l.getD d 0)) z ∧ ∀ l ∈ ls, l.getD d 0 ≤ ls.foldl (fun n l => maxF n (l.getD d 0)) z
  | [], z => ⟨Int.le_refl _, fun l h => by cases h⟩
  | l :: ls, z => by
    have h := foldl_max_ge d ls (maxF z (l.getD d 0))
    have h1 : z ≤ maxF z (l.getD d 0) := by show z ≤ max _ _; omega
    have h2 : l.getD d 0 ≤ maxF z (l.getD d 0) := by show _ ≤ max _ _; omega
    rw [List.foldl_cons]
    refine ⟨Int.le_trans h1 h.1, fun m hm => ?_⟩
    rcases List.mem_cons.1 hm with rfl | hm
    · exact Int.le_trans h2 h.1
    · exact h.2 m hm
theorem foldl_max_sum (d : Nat) : ∀ (ls : List (List Int)) (z y : Int), 0 ≤ y → z ≤ y → (∀ l ∈ ls, 0 ≤ l.getD d 0) → ls.foldl (fun n l => maxF n (l.getD d 0)) z ≤ ls.foldl (fun n l => addF n (l.getD d 0)) y
  | [], z, y, _, h, _ => h
  | l :: ls, z, y, hy, h, hl => by
    have h0 := hl l (by simp)
    rw [List.foldl_cons, List.foldl_cons]
    refine foldl_max_sum d ls _ _ ?_ ?_ (fun m hm => hl m (by simp [hm]))
    · show 0 ≤ _ + _; omega
    · show max _ _ ≤ _ + _; omega
theorem right_len {l : List Int} {d : Int} (h : rightB l d = true) : (l.length : Int) = d := by
  unfold rightB at h
  rw [Bool.and_eq_true, decide_eq_true_iff] at h
  exact h.1
theorem right_getD {l : List Int} {d : Int} (h : rightB l d = true) (k : Nat) : 0 ≤ l.getD k 0 ∧ l.getD k 0 ≤ 1000 := by
  unfold rightB at h
  rw [Bool.and_eq_true] at h
  by_cases hk : k < l.length
  · have h1 := List.all_eq_true.1 h.2 _ (getD_mem (d := 0) hk)
    unfold inRange at h1
    simpa using h1
  · rw [getD_far (by omega)]; omega
theorem right_within {l : List Int} {d m : Int} (hm : 1000 ≤ m) (h : rightB l d = true) : withinB m l = true := by
  unfold withinB
  refine List.all_eq_true.2 fun x hx => ?_
  unfold rightB at h
  rw [Bool.and_eq_true] at h
  have h1 := List.all_eq_true.1 h.2 x hx
  unfold inRange at h1
  simp at h1 ⊢
  omega
theorem all_even {ls : List (List Int)} {d : Nat} (hd : d ≤ 3) (h : ∀ l ∈ ls, rightB l d = true) : evenB ls d = true :=
  (evenB_iff ls d).2 ⟨by omega, fun l hl => right_len (h l hl)⟩
theorem gath_eq (f : Int → Int → Int) {ls : List (List Int)} {d : Nat} (h : evenB ls d = true) : gathL f ls d = accL f ls d := by
  unfold gathL; rw [if_pos h]; simp
theorem fits_most {ls : List (List Int)} {d : Nat} (hd : d ≤ 3) (h : ∀ l ∈ ls, rightB l d = true) : ∀ l ∈ ls, fitsB l (gathL maxF ls d) = true := by
  intro l hl
  have he := all_even hd h
  have hlen : ∀ l ∈ ls, l.length = d := fun l hl => by have := right_len (h l hl); omega
  rw [gath_eq maxF he, fitsB_iff]
  refine ⟨by rw [hlen l hl, accL_len maxF d ls hlen], fun k hk => ?_⟩
  rw [acc_getD maxF d k (by rw [← hlen l hl]; exact hk) ls hlen]
  exact (foldl_max_ge k ls 0).2 l hl
theorem fits_sum {ls : List (List Int)} {d : Nat} (hd : d ≤ 3) (h : ∀ l ∈ ls, rightB l d = true) : fitsB (gathL maxF ls d) (gathL addF ls d) = true := by
  have he := all_even hd h
  have hlen : ∀ l ∈ ls, l.length = d := fun l hl => by have := right_len (h l hl); omega
  rw [gath_eq maxF he, gath_eq addF he, fitsB_iff]
  refine ⟨by rw [accL_len maxF d ls hlen, accL_len addF d ls hlen], fun k hk => ?_⟩
  rw [accL_len maxF d ls hlen] at hk
  rw [acc_getD maxF d k hk ls hlen, acc_getD addF d k hk ls hlen]
  exact foldl_max_sum k ls 0 0 (Int.le_refl _) (Int.le_refl _) (fun l hl => (right_getD (h l hl) k).1)

set_option maxHeartbeats 1600000 in
theorem loadsBounds_ex (x : Value) (ls : List (List Int)) (n8 : Nat) (hn8 : n8 < 256) (hll : ls.length ≤ 1000000000000000) (hle : ∀ l ∈ ls, l.length ≤ 1000000000000000)
    (h : ¬ (ls.length ≤ 20 ∧ ls.all (fun l => rightB l ((n8 % 4 : Nat) : Int)) = true)) (w : World) (hx : Ls w x ls) :
    Calls Try.prog 7 #[x, .int .u8 n8] w fun e w' => e = .returned (.bool true) ∧ Below w.heap.size w w' := by
  have H6 := Lib.hid examples_n
  by_cases h20 : ls.length ≤ 20
  · obtain ⟨oa, c, rfl, ha⟩ := hx
    obtain ⟨d, hd⟩ : ∃ d, n8 % 4 = d := ⟨_, rfl⟩
    rw [hd] at h
    have hdI : (n8 : Int) % 4 = (d : Int) := by omega
    have hd4 : d < 4 := by omega
    obtain ⟨p, hp⟩ : ∃ p : List Int → Bool, (fun l => rightB l (d : Int)) = p := ⟨_, rfl⟩
    rw [hp] at h
    have HP : Hid (∀ l, p l = rightB l d) := fun l => by rw [← hp]
    have HALL : Hid ((ls.drop 0).all p = false) := by
      show _ = _
      cases e : ls.all p
      · exact e
      · exact absurd ⟨h20, e⟩ h
    have HS := Lib.hid (fun k (h : k < ls.length) => lall_drop (p := p) h)
    have HE : Hid ((ls.drop ls.length).all p = true) := by show _ = _; rw [List.drop_length]; rfl
    have HA := Lib.hid ha
    have HL := Lib.hid (fun k (h : k < ls.length) => hle _ (getD_mem (d := []) h))
    have HDI := Lib.hid hdI
    generalize hn : ls.length = n at *
    clear ha hn hp h hle hd hdI
    go_enter Try.func7, Try.ntmps7
    go_wp2_with fail
    rw [HDI.out]
    go_wp2_with fail
    go_loop [23] (fun i => ∃ k : Nat, k ≤ n ∧ i = .int .i64 k ∧ Hid ((ls.drop k).all p = false)) (fun i => n - (intOf i).toNat)
    case atStart => exact ⟨0, Nat.zero_le _, rfl, HALL⟩
    case round =>
      clear HALL
      obtain ⟨k, hk, rfl, HALL⟩ := hrel
      by_cases hlt : k < n
      · obtain ⟨ad, y, rfl, hab, hc, hy⟩ := HA.out k hlt
        have HS2 := Lib.hid (HS.out k hlt)
        have HW := Lib.hid (refRight_n y (ls.getD k []) d (HL.out k hlt) w hy)
        rw [← HP.out] at HW
        obtain ⟨ob, cb, rfl, -⟩ := hy
        generalize ls.getD k [] = l at *
        cases h1 : p l
        · rw [h1] at HW
          clear h1
          generalize l.length = ln at *
          go_wp2_with fail
          refine HW.out.mono ?_
          rintro e w1 ⟨rfl, rfl⟩
          go_wp2_with fail
          refine (H6.out _).mono ?_
          rintro e w2 ⟨rfl, b2⟩
          go_wp2_with fail
          go_ret
          exact ⟨rfl, b2⟩
        · have hf : Hid ((ls.drop (k + 1)).all p = false) := by
            show _ = _
            have := HS2.out
            rw [HALL.out, h1, Bool.true_and] at this
            exact this.symm
          rw [h1] at HW
          clear h1
          generalize l.length = ln at *
          go_wp2_with fail
          refine HW.out.mono ?_
          rintro e w1 ⟨rfl, rfl⟩
          go_wp2_with fail
          go_round
          case rel => exact ⟨k + 1, by omega, by go_num, hf⟩
          case measure => simp [intOf]; omega
      · have hk' : k = n := by omega
        subst hk'
        exact absurd (HALL.out.symm.trans HE.out) (by simp)
  · obtain ⟨oa, c, rfl, -⟩ := hx
    generalize ls.length = n at *
    clear h hle
    go_enter Try.func7, Try.ntmps7
    go_wp2_with fail
    refine (H6.out _).mono ?_
    rintro e w2 ⟨rfl, b2⟩
    go_wp2_with fail
    go_ret
    exact ⟨rfl, b2⟩

set_option maxHeartbeats 1600000 in
theorem loadsBounds_walk (x : Value) (ls : List (List Int)) (n8 : Nat) (hn8 : n8 < 256) (hll : ls.length ≤ 1000000000000000) (hle : ∀ l ∈ ls, l.length ≤ 1000000000000000) (w : World) (hx : Ls w x ls) :
    Calls Try.prog 7 #[x, .int .u8 n8] w fun e w' => e = .returned (.bool true) ∧ Below w.heap.size w w' := by
  by_cases h : ls.length ≤ 20 ∧ ls.all (fun l => rightB l ((n8 % 4 : Nat) : Int)) = true
  · obtain ⟨h20, hall⟩ := h
    obtain ⟨d, hd⟩ : ∃ d, n8 % 4 = d := ⟨_, rfl⟩
    rw [hd] at hall
    have hdI : (n8 : Int) % 4 = (d : Int) := by omega
    have hd4 : d < 4 := by omega
    have hr : ∀ l ∈ ls, rightB l (d : Int) = true := List.all_eq_true.1 hall
    have hallB : allB 1073741824 ls = true := allB_iff.2 ⟨h20, fun l hl => right_within (by decide) (hr l hl)⟩
    have HF1 := fits_most (by omega) hr
    have HF2 := fits_sum (by omega) hr
    have HE : gathE ls d = 0 := by unfold gathE; rw [if_pos (all_even (by omega) hr)]
    have K1 := Lib.hid (fun w1 (B : Below w.heap.size w w1) => loadMost_n x ls d hll w1 (hx.below B))
    have K2 := Lib.hid (fun w1 (B : Below w.heap.size w w1) => loadSum_n x ls d hll (fit_sum hallB) w1 (hx.below B))
    rw [HE] at K1 K2
    have L1 : (gathL maxF ls d).length ≤ 1000000000000000 := Nat.le_trans (gathL_len maxF ls d) (by decide)
    have HM := Lib.hid (fun k (hk : k < ls.length) => HF1 _ (getD_mem (d := []) hk))
    have HR := Lib.hid (fun k (hk : k < ls.length) => hr _ (getD_mem (d := []) hk))
    have HF := Lib.hid (fun u v w1 (V : Li w1 u (gathL maxF ls d)) (V2 : Li w1 v (gathL addF ls d)) => loadFits_n u v _ _ L1 w1 V V2)
    rw [HF2] at HF
    generalize gathL maxF ls d = r1 at *
    generalize gathL addF ls d = r2 at *
    have H6 := Lib.hid examples_n
    obtain ⟨oa, c, rfl, ha⟩ := hx
    have HA := Lib.hid ha
    have HL := Lib.hid (fun k (h : k < ls.length) => hle _ (getD_mem (d := []) h))
    have HDI := Lib.hid hdI
    generalize hn : ls.length = n at *
    clear ha hn hle hd hdI hall hr hallB HF1 HF2 HE L1
    go_enter Try.func7, Try.ntmps7
    go_wp2_with fail
    rw [HDI.out]
    go_wp2_with fail
    go_loop [23] (fun i => ∃ k : Nat, k ≤ n ∧ i = .int .i64 k) (fun i => n - (intOf i).toNat)
    case atStart => exact ⟨0, Nat.zero_le _, rfl⟩
    case round =>
      obtain ⟨k, hk, rfl⟩ := hrel
      by_cases hlt : k < n
      · obtain ⟨ad, y, rfl, hab, hc, hy⟩ := HA.out k hlt
        have HW := Lib.hid (refRight_n y (ls.getD k []) d (HL.out k hlt) w hy)
        rw [HR.out k hlt] at HW
        obtain ⟨ob, cb, rfl, -⟩ := hy
        generalize ls.getD k [] = l at *
        generalize l.length = ln at *
        go_wp2_with fail
        refine HW.out.mono ?_
        rintro e w1 ⟨rfl, rfl⟩
        go_wp2_with fail
        go_round
        case rel => exact ⟨k + 1, by omega, by go_num⟩
        case measure => simp [intOf]; omega
      · have hk' : k = n := by omega
        subst hk'
        go_wp2_with fail
        refine (K1.out _ (Below.refl _ _)).mono ?_
        rintro e w1 ⟨v1, rfl, hv1, b1⟩
        have B1 := Lib.hid b1
        have V1 := Lib.hid hv1.li
        clear hv1 b1
        go_wp2_with fail
        refine (K2.out _ B1.out).mono ?_
        rintro e w2 ⟨v2, rfl, hv2, b2⟩
        have B2 := Lib.hid (over B1.out b2)
        have V2 := Lib.hid hv2.li
        have V1 := Lib.hid (V1.out.below b2)
        clear hv2 b2 B1
        go_wp2_with fail
        go_loop [47] (fun i => ∃ q : Nat, q ≤ k ∧ i = .int .i64 q) (fun i => k - (intOf i).toNat)
        case atStart => exact ⟨0, Nat.zero_le _, rfl⟩
        case round =>
          obtain ⟨q, hq, rfl⟩ := hrel
          by_cases hqk : q < k
          · obtain ⟨ad, y, rfl, hab, hc, hy⟩ := HA.out q hqk
            have hc2 := (B2.out.cell (p := ad.add q) (by rw [add_block]; exact hab)).trans hc
            have HW := Lib.hid (loadFits_n y v1 (ls.getD q []) r1 (HL.out q hqk) w2 (hy.below B2.out) V1.out)
            rw [HM.out q hqk] at HW
            obtain ⟨ob, cb, rfl, -⟩ := hy
            clear hc
            generalize ls.getD q [] = l at *
            generalize l.length = ln at *
            go_wp2_with fail
            refine HW.out.mono ?_
            rintro e w3 ⟨rfl, rfl⟩
            go_wp2_with fail
            go_round
            case rel => exact ⟨q + 1, by omega, by go_num⟩
            case measure => simp [intOf]; omega
          · have hq' : q = k := by omega
            subst hq'
            go_wp2_with fail
            refine (HF.out _ _ _ V1.out V2.out).mono ?_
            rintro e w3 ⟨rfl, rfl⟩
            go_wp2_with fail
            refine (H6.out _).mono ?_
            rintro e w4 ⟨rfl, b4⟩
            have B4 := Lib.hid (over B2.out b4)
            clear b4
            go_wp2_with fail
            go_ret
            exact ⟨rfl, B4.out⟩
  · exact loadsBounds_ex x ls n8 hn8 hll hle h w hx

end Go.Proofs.Ytcnagcdgpgijaaa.L
