/-
  DERIVED. The walks of the specification's word and Join, and of same.
-/
import Derived.Test.YthbpmolookmjaaaDoorRefU
import Derived.Test.YthbpmolookmjaaaDoorPure4
namespace Go.Proofs.YthbpmolookmjaaaDoor
open Go.RowKit

set_option maxHeartbeats 400000 in
theorem word_any (s : ByteArray) (k : Nat) (hk : k ≤ s.size) (w : World) (hs : s.size ≤ 1000000) :
    Calls Tryd.prog 39 #[.string s, .int .i64 k] w fun e w' => e = .returned (.int .i64 (k + wl (s.data.toList.drop k) : Nat)) ∧ w = w' := by
  go_enter Tryd.func39, Tryd.ntmps39
  go_wp2_with fail
  go_loop [1] (fun i => ∃ j : Nat, j ≤ s.size ∧ i = .int .i64 j ∧ Hid (k + wl (s.data.toList.drop k) = j + wl (s.data.toList.drop j))) (fun i => s.size - (intOf i).toNat)
  case atStart => exact ⟨k, hk, rfl, rfl⟩
  case round =>
    obtain ⟨j, hj, rfl, HW⟩ := hrel
    by_cases hlt : j < s.size
    · have hd := getD_drop0' s j hlt
      cases hw : wrd s[j].toNat
      · have HK : Hid (k + wl (s.data.toList.drop k) = j) := by show _ = _; rw [HW.out, hd, wl_no _ _ hw]; rfl
        have hn : s[j].toNat < 33 ∨ 126 < s[j].toNat ∨ s[j].toNat = 34 := by
          apply Decidable.byContradiction
          intro h
          have := wrd_bd.2 (show 33 ≤ s[j].toNat ∧ s[j].toNat ≤ 126 ∧ s[j].toNat ≠ 34 by omega)
          rw [this] at hw; cases hw
        clear hd hw HW
        rcases hn with h1 | h1 | h1
        · go_wp2_with fail
          go_ret
          exact ⟨ret_int (by have := HK.out; omega), rfl⟩
        · have h2 : ¬ s[j].toNat ≤ 126 := by omega
          have h3 : 33 ≤ s[j].toNat := by omega
          go_wp2_with fail
          go_ret
          exact ⟨ret_int (by have := HK.out; omega), rfl⟩
        · have h2 : s[j].toNat ≤ 126 := by omega
          have h3 : 33 ≤ s[j].toNat := by omega
          have h4 : ((s[j].toNat : Int) != 34) = false := by simp; omega
          clear h1
          go_wp2_with fail
          go_ret
          exact ⟨ret_int (by have := HK.out; omega), rfl⟩
      · have hb := wrd_bd.1 hw
        have h2 := hb.1
        have h3 := hb.2.1
        have h4 : ((s[j].toNat : Int) != 34) = true := by simp; omega
        have HW2 : Hid (k + wl (s.data.toList.drop k) = (j + 1) + wl (s.data.toList.drop (j + 1))) := by show _ = _; rw [HW.out, hd, wl_yes _ _ hw]; omega
        clear hd hw hb HW
        go_wp2_with fail
        go_round
        case rel => exact ⟨j + 1, by omega, by go_num, HW2⟩
        case measure => simp [intOf]; omega
    · have hj' : j = s.size := by omega
      subst hj'
      have HK : Hid (k + wl (s.data.toList.drop k) = s.size) := by show _ = _; rw [HW.out, List.drop_of_length_le (by simp)]; rfl
      clear HW
      go_wp2_with fail
      go_ret
      exact ⟨ret_int (by have := HK.out; omega), rfl⟩

theorem same_none (a b : Option Addr) (c d : Nat) (w : World) :
    Calls Tryd.prog 22 #[.slice a 0 c, .slice b 0 d] w fun e w' => e = .returned (.bool true) ∧ Below w.heap.size w w' := by
  go_enter Tryd.func22, Tryd.ntmps22
  go_wp2_with fail
  go_loop [5] (fun i => i = .int .i64 0) (fun _ => 0)
  case atStart => rfl
  case round =>
    subst hrel
    go_wp2_with fail
    go_ret
    exact ⟨rfl, Below.refl _ _⟩

set_option maxHeartbeats 400000 in
theorem same_rows (g g' n c d : Nat) (xs : List ByteArray) (w : World) (hn : n = xs.length) (hn1 : n ≤ 1000000)
    (h1 : ∀ j x, xs[j]? = some x → w.cell? ⟨g, j, none⟩ = some (.string x)) (h2 : ∀ j x, xs[j]? = some x → w.cell? ⟨g', j, none⟩ = some (.string x)) (hg : g < w.heap.size) (hg' : g' < w.heap.size) :
    Calls Tryd.prog 22 #[.slice (some ⟨g, 0, none⟩) n c, .slice (some ⟨g', 0, none⟩) n d] w fun e w' => e = .returned (.bool true) ∧ Below w.heap.size w w' := by
  have HN := Lib.hid hn
  have H1 := Lib.hid h1
  have H2 := Lib.hid h2
  clear hn h1 h2
  go_enter Tryd.func22, Tryd.ntmps22
  go_wp2_with fail
  go_loopw [5] (fun i wr => ∃ k : Nat, k ≤ n ∧ i = .int .i64 k ∧ Below w.heap.size w wr) (fun i _ => n - (intOf i).toNat)
  case atStart => exact ⟨0, by omega, rfl, Below.refl _ _⟩
  case round =>
    obtain ⟨k, hk, rfl, hb⟩ := hrel
    by_cases hlt : k < n
    · obtain ⟨x, hx⟩ : ∃ x, xs[k]? = some x := ⟨_, List.getElem?_eq_getElem (by rw [← HN.out]; exact hlt)⟩
      have c1 := (hb.cell (p := ⟨g, k, none⟩) hg).trans (H1.out k x hx)
      have c2 := (hb.cell (p := ⟨g', k, none⟩) hg').trans (H2.out k x hx)
      clear hx
      go_wp2_with fail
      go_quiet (fail)
      go_wp2
      go_roundw
      case rel => exact ⟨k + 1, by omega, by go_num, below_drewN hb _⟩
      case measure => simp [intOf]; omega
    · go_wp2_with fail
      go_ret
      exact ⟨rfl, hb⟩

theorem cat_str (a b : List UInt8) : (⟨a.toArray⟩ : ByteArray) ++ ⟨b.toArray⟩ = ⟨(a ++ b).toArray⟩ := by
  apply ByteArray.ext
  simp
theorem join_snoc (xs : List (List UInt8)) (k : Nat) (y : List UInt8) (h : xs[k]? = some y) (hk : 0 < k) : Lib.join (xs.take (k + 1)) [32] = Lib.join (xs.take k) [32] ++ [32] ++ y := by
  match xs, h with
  | [], h => simp at h
  | x :: r, h =>
    obtain ⟨k, rfl⟩ : ∃ j, k = j + 1 := ⟨k - 1, by omega⟩
    rw [List.take_succ_cons, List.take_succ_cons, Lib.join_cons, Lib.join_cons, Lib.joinTail_take_succ [32] r k y (by simpa using h)]
    simp
theorem join_take_le (xs : List (List UInt8)) (k : Nat) : (Lib.join (xs.take k) [32]).length ≤ (Lib.join xs [32]).length := by
  cases xs with
  | nil => simp
  | cons x r =>
    cases k with
    | zero => simp [Lib.join_nil]
    | succ k =>
      rw [List.take_succ_cons, Lib.join_cons, Lib.join_cons, List.length_append, List.length_append]
      have := Lib.joinTail_take_le [32] r k
      omega

theorem refJoin_none (a : Option Addr) (c : Nat) (w : World) :
    Calls Tryd.prog 23 #[.slice a 0 c] w fun e w' => e = .returned (.string ⟨#[]⟩) ∧ w = w' := by
  go_enter Tryd.func23, Tryd.ntmps23
  go_wp2_with fail
  go_loop [3, 4] (fun s i => i = .int .i64 0 ∧ s = .string ⟨#[]⟩) (fun _ _ => 0)
  case atStart => exact ⟨rfl, rfl⟩
  case round =>
    obtain ⟨rfl, rfl⟩ := hrel
    go_wp2_with fail
    go_ret
    exact ⟨rfl, rfl⟩

set_option maxHeartbeats 400000 in
theorem refJoin_any (g n c : Nat) (ps : List (List UInt8)) (w : World) (hn : n = ps.length) (hn1 : n ≤ 1000000)
    (h1 : ∀ j p, ps[j]? = some p → w.cell? ⟨g, j, none⟩ = some (.string ⟨p.toArray⟩)) (hl : (Lib.join ps [32]).length ≤ 1000000) :
    Calls Tryd.prog 23 #[.slice (some ⟨g, 0, none⟩) n c] w fun e w' => e = .returned (.string ⟨(Lib.join ps [32]).toArray⟩) ∧ w = w' := by
  have HN := Lib.hid hn
  have H1 := Lib.hid h1
  clear hn h1
  go_enter Tryd.func23, Tryd.ntmps23
  go_wp2_with fail
  go_loop [3, 4] (fun s i => ∃ (k : Nat) (t : List UInt8), k ≤ n ∧ i = .int .i64 k ∧ s = .string ⟨t.toArray⟩ ∧ t.length ≤ 1000000 ∧ Hid (t = Lib.join (ps.take k) [32])) (fun _ i => n - (intOf i).toNat)
  case atStart => exact ⟨0, [], by omega, rfl, rfl, by simp, by show _ = _; rw [List.take_zero, Lib.join_nil]⟩
  case round =>
    obtain ⟨k, t, hk, rfl, rfl, htl, HT⟩ := hrel
    by_cases hlt : k < n
    · obtain ⟨p, hp⟩ : ∃ p, ps[k]? = some p := ⟨_, List.getElem?_eq_getElem (by rw [← HN.out]; exact hlt)⟩
      have c1 := H1.out k p hp
      have hL2 := join_take_le ps (k + 1)
      by_cases hk0 : k = 0
      · have ht : t = [] := by rw [HT.out, hk0, List.take_zero, Lib.join_nil]
        subst ht
        have HJ : Hid (p = Lib.join (ps.take (k + 1)) [32]) := by
          rw [hk0] at hp
          match ps, hp with
          | x :: r, hp =>
            have : x = p := by simpa using hp
            show _ = _; rw [hk0, List.take_succ_cons, List.take_zero, Lib.join_one, this]
        have hpl : p.length ≤ 1000000 := by rw [HJ.out]; omega
        have hk0' : k ≤ 0 := by omega
        clear hp hL2 hk0 HT
        go_wp2_with fail
        go_round
        case rel => exact ⟨k + 1, p, by omega, by go_num, by first | rfl | exact congrArg Value.string (cat_str [] p), hpl, HJ⟩
        case measure => simp [intOf]; omega
      · have HJ : Hid (t ++ [32] ++ p = Lib.join (ps.take (k + 1)) [32]) := by show _ = _; rw [HT.out]; exact (join_snoc ps k p hp (by omega)).symm
        have hpl : t.length + 1 + p.length ≤ 1000000 := by
          have := congrArg List.length HJ.out
          simp at this
          omega
        have hk1 : 0 < k := by omega
        clear hp hL2 hk0 HT
        go_wp2_with fail
        go_round
        case rel => exact ⟨k + 1, t ++ [32] ++ p, by omega, by go_num, by rw [← cat_str, ← cat_str], by simp; omega, HJ⟩
        case measure => simp [intOf]; omega
    · have hk' : k = n := by omega
      have HT2 : Hid (t = Lib.join ps [32]) := by show _ = _; rw [HT.out, hk', HN.out, List.take_length]
      clear HT
      go_wp2_with fail
      go_ret
      exact ⟨ret_str (by rw [HT2.out]), rfl⟩

end Go.Proofs.YthbpmolookmjaaaDoor
