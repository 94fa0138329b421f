/-
  DERIVED. The walks of lorryref12's Closure and Needs.
-/
import Derived.Test.YtmoilpkgoabopaaDoorRefRu4
namespace Go.Proofs.YtmoilpkgoabopaaDoor.T
open Go.RowKit
set_option maxRecDepth 8000

def cloR (n : Nat) (l : List (Int × Int)) (a j : Nat) : List (Int × Int) := ((List.range j).filter fun b => S.has (U.reach n l a) b).map fun (b : Nat) => ((a : Int), (b : Int))
def cloK (n : Nat) (l : List (Int × Int)) (k : Nat) : List (Int × Int) := (List.range k).flatMap fun a => cloR n l a n
theorem clo_full (n : Nat) (l : List (Int × Int)) : cloK n l n = U.cloL n l := rfl
theorem cloK_succ (n : Nat) (l : List (Int × Int)) (k : Nat) : cloK n l (k + 1) = cloK n l k ++ cloR n l k n := by
  unfold cloK
  rw [List.range_succ, List.flatMap_append]
  simp
theorem cloR_yes {n : Nat} {l : List (Int × Int)} {a j : Nat} (h : S.has (U.reach n l a) j = true) : cloR n l a (j + 1) = cloR n l a j ++ [((a : Int), (j : Int))] := by
  unfold cloR
  rw [List.range_succ, List.filter_append, List.map_append, List.filter_cons_of_pos (by exact h)]
  rfl
theorem cloR_no {n : Nat} {l : List (Int × Int)} {a j : Nat} (h : S.has (U.reach n l a) j = false) : cloR n l a (j + 1) = cloR n l a j := by
  unfold cloR
  rw [List.range_succ, List.filter_append, List.map_append, List.filter_cons_of_neg (by rw [h]; simp)]
  simp
theorem cloR_len (n : Nat) (l : List (Int × Int)) (a j : Nat) : (cloR n l a j).length ≤ j := by
  unfold cloR
  rw [List.length_map]
  exact Nat.le_trans (List.length_filter_le _ _) (by rw [List.length_range]; exact Nat.le_refl _)
theorem cloK_len (n : Nat) (l : List (Int × Int)) : ∀ k, (cloK n l k).length ≤ k * n
  | 0 => by simp [cloK]
  | k + 1 => by
    rw [cloK_succ, List.length_append, Nat.succ_mul]
    have h1 := cloK_len n l k
    have h2 := cloR_len n l k n
    omega

set_option maxHeartbeats 3200000 in
theorem closure12_n (n : Nat) (v : Value) (l : List (Int × Int)) (hn : n ≤ 60) (hr : U.Rt n l) (hl : l.length ≤ 1000000) (w : World) (hv : Ps w v l) :
    Calls Tryd.prog 15 #[.int .i64 n, v] w (PrsP (U.cloL n l) w) := by
  have HV := Lib.hid hv
  have KR := Lib.hid (fun a w hv => reach12_n n v l a (by omega) hr hl w hv)
  have HLt := Lib.hid (fun a => U.reach_lt hr a (n + 1))
  obtain ⟨oa, c, rfl, -⟩ := hv
  have HE : Hid (cloK n l n = U.cloL n l) := rfl
  have H0 : Hid (cloK n l 0 = []) := rfl
  have HS := Lib.hid (fun k => cloK_succ n l k)
  have HR0 : Hid (∀ a, cloR n l a 0 = []) := fun _ => rfl
  have HY := Lib.hid (fun a j (h : S.has (U.reach n l a) j = true) => cloR_yes h)
  have HNo := Lib.hid (fun a j (h : S.has (U.reach n l a) j = false) => cloR_no h)
  have HL := Lib.hid (fun k => cloK_len n l k)
  have HLR := Lib.hid (fun a j => cloR_len n l a j)
  generalize U.cloL n l = r at *
  generalize hm : l.length = m at *
  clear hr hm
  go_enter Tryd.func15, Tryd.ntmps15
  go_wp2_with fail
  go_loopg [5, 6] n (fun g v j wr => ∃ k : Nat, k ≤ n ∧ j = .int .i64 k ∧ n - k ≤ g ∧ Hid (Gq w.heap.size wr v (cloK n l k)) ∧ Hid (Below w.heap.size w wr))
  case atStart => exact ⟨0, Nat.zero_le _, rfl, Nat.le_refl _, by show Gq _ _ _ _; rw [H0.out]; exact Gq.nil _ _, Below.refl _ _⟩
  case round =>
    obtain ⟨k, hk, rfl, hg, HG, HB⟩ := hrel
    by_cases hlt : k < n
    · have hkI : (k : Int) < (n : Int) := by omega
      have KRk := Lib.hid (fun w hv => KR.out k w hv)
      have HLk : Hid (U.reach n l k < 2 ^ n) := HLt.out k
      have HSk := Lib.hid (HS.out k)
      have HRk0 := Lib.hid (HR0.out k)
      have HYk := Lib.hid (fun j h => HY.out k j h)
      have HNk := Lib.hid (fun j h => HNo.out k j h)
      have hlk := HL.out k
      have hlr := HLR.out k
      have HLRk := Lib.hid (fun j => HLR.out k j)
      have hkn : k * n ≤ 3600 := Nat.le_trans (Nat.mul_le_mul (show k ≤ 60 by omega) hn) (by omega)
      have HVr := Lib.hid (HV.out.below HB.out)
      generalize U.reach n l k = s at *
      generalize cloK n l k = ck at *
      clear HS HY HNo HL HLR KR HLt hlr HR0
      go_wp2_with fail
      refine (KRk.out _ HVr.out).mono ?_
      rintro e w1 ⟨rfl, rfl⟩
      go_wp2_with fail
      go_loopg [5, 8] n (fun g2 v j wr2 => ∃ i : Nat, i ≤ n ∧ j = .int .i64 i ∧ n - i ≤ g2 ∧ Hid (Gq w.heap.size wr2 v (ck ++ cloR n l k i)) ∧ Hid (Below w.heap.size w wr2))
      case atStart => exact ⟨0, Nat.zero_le _, rfl, Nat.le_refl _, by show Gq _ _ _ _; rw [HRk0.out, List.append_nil]; exact HG.out, HB⟩
      case round =>
        clear HG HB HVr HRk0
        obtain ⟨i, hi, rfl, hg2, HG, HB⟩ := hrel
        by_cases hilt : i < n
        · have hiI : (i : Int) < (n : Int) := by omega
          have hs9 := pow62 (show n ≤ 62 by omega) HLk.out
          have KH := Lib.hid (fun w => has12_n s i (by omega) (by omega) w)
          have hli := HLRk.out i
          cases hb : S.has s i
          · have HX := Lib.hid (HNk.out i hb)
            rw [hb] at KH
            clear hb
            go_wp2_with fail
            refine (KH.out _).mono ?_
            rintro e w1 ⟨rfl, rfl⟩
            go_wp2_with fail
            go_roundg (n - (i + 1))
            case measure => omega
            case rel => exact ⟨i + 1, by omega, by go_num, by omega, by show Gq _ _ _ _; rw [HX.out]; exact HG.out, HB⟩
          · have HX := Lib.hid (HYk.out i hb)
            rw [hb] at KH
            have hsz := HB.out.size
            clear hb
            go_wp2_with fail
            refine (KH.out _).mono ?_
            rintro e w1 ⟨rfl, rfl⟩
            go_wp2_with (at_builtin; refine wpList_append_run rfl _ _ 22 rfl rfl rfl (ap_q1 _ (k : Int) (i : Int) HG.out hsz (by rw [List.length_append]; omega)) ?_)
            intro v3 w3 hg3 hb3
            have HG3 : Hid (Gq w.heap.size w3 v3 (ck ++ cloR n l k (i + 1))) := by show Gq _ _ _ _; rw [HX.out]; exact hg3
            have HB3 := Lib.hid (HB.out.trans hb3)
            clear hg3 hb3
            go_wp2_with fail
            go_roundg (n - (i + 1))
            case measure => omega
            case rel => exact ⟨i + 1, by omega, by go_num, by omega, HG3, HB3⟩
        · have hii : i = n := by omega
          subst hii
          go_wp2_with fail
          go_roundg (i - (k + 1))
          case measure => omega
          case rel => exact ⟨k + 1, by omega, by go_num, by omega, by show Gq _ _ _ _; rw [HSk.out]; exact HG.out, HB⟩
    · have hkk : k = n := by omega
      subst hkk
      go_wp2_with fail
      go_ret
      exact prsP (HE.out ▸ HG.out) HB.out (Nat.le_refl _)

end Go.Proofs.YtmoilpkgoabopaaDoor.T

