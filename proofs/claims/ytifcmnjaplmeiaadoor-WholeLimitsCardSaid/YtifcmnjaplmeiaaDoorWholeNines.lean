/-
  DERIVED. The walk of nines, and its numbers.
-/
import Derived.Test.YtifcmnjaplmeiaaDoorWholeLaw
namespace Go.Proofs.YtifcmnjaplmeiaaDoor.D
open Go.RowKit
set_option maxRecDepth 8000

theorem ten_pos' (n : Nat) : 0 < 10 ^ n := Nat.pow_pos (by omega)
theorem pow_ten' (k : Nat) : 10 ^ (k + 1) = 10 * 10 ^ k := by rw [Nat.pow_succ, Nat.mul_comm]
theorem nines_dec' (n : Nat) : Lib.decDigits (10 ^ (n + 1) - 1) = List.replicate (n + 1) 57 := by
  induction n with
  | zero => rw [Lib.decDigits_one (by decide)]; rfl
  | succ n ih =>
    have h := ten_pos' n
    have e : 10 ^ (n + 1 + 1) - 1 = 10 * (10 ^ (n + 1) - 1) + 9 := by rw [pow_ten' (n + 1), pow_ten' n]; omega
    rw [e, dec_snoc _ 9 (by rw [pow_ten']; omega) (by omega), ih, List.replicate_succ' (n := n + 1)]
    rfl
theorem nines_pos (n : Nat) (hn : 1 ≤ n) : 0 < 10 ^ n - 1 := by
  obtain ⟨k, rfl⟩ : ∃ k, n = k + 1 := ⟨n - 1, by omega⟩
  have := ten_pos' k
  rw [pow_ten']; omega
theorem nines_text (neg : Bool) (n : Nat) (hn : 1 ≤ n) : (⟨((if neg then [45] else [] : List UInt8) ++ List.replicate n 57).toArray⟩ : ByteArray) = inum (sgn neg (10 ^ n - 1)) := by
  rw [inum, text_nat neg _ (nines_pos n hn)]
  obtain ⟨k, rfl⟩ : ∃ k, n = k + 1 := ⟨n - 1, by omega⟩
  rw [nines_dec']
theorem nines_step (pre : List UInt8) (k : Nat) : Lib.byteCells (pre ++ List.replicate (k + 1) 57) = Lib.byteCells (pre ++ List.replicate k 57) ++ [.int .u8 57] := by
  rw [List.replicate_succ' (n := k), ← List.append_assoc, Lib.byteCells_append]; rfl

theorem own_shape {w : World} {B : Nat} {e : TypeId} {v : Value} {n : Nat} {xs : List Value} (h : w.ownsRow B e 1 v n xs) : ∃ A c, v = .slice A n c := by
  rcases h.2 with ⟨rfl, h0⟩ | ⟨g, cap, cur, rfl, _⟩
  · subst h0; exact ⟨_, _, rfl⟩
  · exact ⟨_, _, rfl⟩

set_option maxHeartbeats 1000000 in
theorem nines_false (n : Nat) (h1 : 1 ≤ n) (hn : n ≤ 5000) (z : Int) (hz : Hid (sgn false (10 ^ n - 1) = z)) (w : World) :
    Calls Tryd.prog 34 #[.int .i64 n, .bool false] w fun e w' => e = .returned (.string (inum z)) ∧ Below w.heap.size w w' := by
  obtain ⟨i5, hj, hy0, hy1, hy2⟩ := info5'
  have HT : Hid ((⟨(([] : List UInt8) ++ List.replicate n 57).toArray⟩ : ByteArray) = inum z) := Lib.hid (by rw [← hz.out]; exact nines_text false n h1)
  go_enter Tryd.func34, Tryd.ntmps34
  have HB1 : Hid (Below w.heap.size w w) := Below.refl _ _
  go_wp2
  go_loopw [5] (fun v wr => ∃ k : Nat, k ≤ n ∧ Hid (wr.ownsRow w.heap.size 5 1 v (k + 0) (Lib.byteCells (([] : List UInt8) ++ List.replicate k 57))) ∧ Hid (Below w.heap.size w wr)) (fun v _ => n - slLen v)
  case atStart => exact ⟨0, by omega, World.ownsRow_nil w _ _ _, HB1⟩
  case round =>
    clear HB1
    obtain ⟨k, hk, HR, HB⟩ := hrel
    obtain ⟨A, c, hv⟩ := own_shape HR.out
    subst hv
    by_cases hlt : k + 0 < n
    · have hsz := HB.out.size
      have hblk : ∀ g, _ → w.heap.size ≤ g := fun g hg => (World.ownsRow.lt HR.out g hg).1
      have hmx2 : k + 0 + 1 ≤ maxLen := by unfold maxLen; omega
      have hby2 : (k + 0 + 1) * 1 ≤ 140737488355328 := by omega
      have hsz2 : w.heap.size ≤ (wr.alloc (.cells #[.int .u8 57] 5)).heap.size := by simp; omega
      have HO2 := Lib.hid (World.ownsRow.alloc HR.out (.cells #[.int .u8 57] 5))
      go_wp2_with (at_builtin; refine wpList_append_own _ rfl _ _ 66 rfl w.heap.size 5 i5 (.int .u8 0) 1 1 Tryd.underlying66 hj hy0 hy1 hy2 rfl (by decide) _ _ _ rfl HO2.out ⟨wr.heap.size, 0, none⟩ 1 1 [.int .u8 57] rfl rfl (bone_new wr 57) (bone_cell 57) hmx2 hby2 hsz2 ?_)
      intro v2 w2 hown2 hgrow2 _
      have HR2 : Hid (w2.ownsRow w.heap.size 5 1 v2 (k + 1 + 0) (Lib.byteCells (([] : List UInt8) ++ List.replicate (k + 1) 57))) := Lib.hid (by rw [nines_step]; exact (show k + 0 + 1 = k + 1 + 0 by omega) ▸ hown2)
      have HB2 := Lib.hid ((HB.out.alloc hsz (.cells #[.int .u8 57] 5)).grown hgrow2 (by simp; omega) hblk)
      obtain ⟨A2, c2, rfl⟩ : ∃ A c, v2 = .slice A (k + 1 + 0) c := own_shape HR2.out
      clear hown2 hgrow2 HO2 HR HB
      go_wp2
      go_roundw
      case rel => exact ⟨k + 1, by omega, HR2, HB2⟩
      case measure => simp [slLen]; omega
    · have hkn : k = n := by omega
      subst hkn
      have hcv := own_string HR.out
      simp only [Nat.add_zero] at hcv
      generalize (⟨(([] : List UInt8) ++ List.replicate k 57).toArray⟩ : ByteArray) = res at *
      clear HR
      go_wp2
      go_ret
      exact ⟨by rw [← HT.out]; rfl, HB.out⟩

set_option maxHeartbeats 1000000 in
theorem nines_true (n : Nat) (h1 : 1 ≤ n) (hn : n ≤ 5000) (z : Int) (hz : Hid (sgn true (10 ^ n - 1) = z)) (w : World) :
    Calls Tryd.prog 34 #[.int .i64 n, .bool true] w fun e w' => e = .returned (.string (inum z)) ∧ Below w.heap.size w w' := by
  obtain ⟨i5, hj, hy0, hy1, hy2⟩ := info5'
  have HT : Hid ((⟨(([45] : List UInt8) ++ List.replicate n 57).toArray⟩ : ByteArray) = inum z) := Lib.hid (by rw [← hz.out]; exact nines_text true n h1)
  go_enter Tryd.func34, Tryd.ntmps34
  have hmx1 : 0 + 1 ≤ maxLen := by unfold maxLen; omega
  have hby1 : (0 + 1) * 1 ≤ 140737488355328 := by omega
  have hsz1 : w.heap.size ≤ (w.alloc (.cells #[.int .u8 45] 5)).heap.size := by simp
  have HO1 := Lib.hid (World.ownsRow.alloc (World.ownsRow_nil w w.heap.size 5 1) (.cells #[.int .u8 45] 5))
  go_wp2_with (at_builtin; refine wpList_append_own _ rfl _ _ 66 rfl w.heap.size 5 i5 (.int .u8 0) 1 1 Tryd.underlying66 hj hy0 hy1 hy2 rfl (by decide) _ _ _ rfl HO1.out ⟨w.heap.size, 0, none⟩ 1 1 [.int .u8 45] rfl rfl (bone_new w 45) (bone_cell 45) hmx1 hby1 hsz1 ?_)
  intro v1 w1 hown1 hgrow1 _
  have HB1 : Hid (Below w.heap.size w w1) := ((Below.refl _ w).alloc (Nat.le_refl _) (.cells #[.int .u8 45] 5)).grown hgrow1 hsz1 (by intro k hk; cases hk)
  have HR1 : Hid (w1.ownsRow w.heap.size 5 1 v1 (0 + 1) (Lib.byteCells (([45] : List UInt8) ++ List.replicate 0 57))) := hown1
  clear hown1 hgrow1 HO1 hmx1 hby1 hsz1
  go_wp2
  go_loopw [5] (fun v wr => ∃ k : Nat, k + 1 ≤ n ∧ Hid (wr.ownsRow w.heap.size 5 1 v (k + 1) (Lib.byteCells (([45] : List UInt8) ++ List.replicate k 57))) ∧ Hid (Below w.heap.size w wr)) (fun v _ => n - slLen v)
  case atStart => exact ⟨0, by omega, HR1, HB1⟩
  case round =>
    clear HB1 HR1
    obtain ⟨k, hk, HR, HB⟩ := hrel
    obtain ⟨A, c, hv⟩ := own_shape HR.out
    subst hv
    by_cases hlt : k + 1 < n
    · have hsz := HB.out.size
      have hblk : ∀ g, _ → w.heap.size ≤ g := fun g hg => (World.ownsRow.lt HR.out g hg).1
      have hmx2 : k + 1 + 1 ≤ maxLen := by unfold maxLen; omega
      have hby2 : (k + 1 + 1) * 1 ≤ 140737488355328 := by omega
      have hsz2 : w.heap.size ≤ (wr.alloc (.cells #[.int .u8 57] 5)).heap.size := by simp; omega
      have HO2 := Lib.hid (World.ownsRow.alloc HR.out (.cells #[.int .u8 57] 5))
      go_wp2_with (at_builtin; refine wpList_append_own _ rfl _ _ 66 rfl w.heap.size 5 i5 (.int .u8 0) 1 1 Tryd.underlying66 hj hy0 hy1 hy2 rfl (by decide) _ _ _ rfl HO2.out ⟨wr.heap.size, 0, none⟩ 1 1 [.int .u8 57] rfl rfl (bone_new wr 57) (bone_cell 57) hmx2 hby2 hsz2 ?_)
      intro v2 w2 hown2 hgrow2 _
      have HR2 : Hid (w2.ownsRow w.heap.size 5 1 v2 (k + 1 + 1) (Lib.byteCells (([45] : List UInt8) ++ List.replicate (k + 1) 57))) := Lib.hid (by rw [nines_step]; exact (show k + 1 + 1 = k + 1 + 1 by omega) ▸ hown2)
      have HB2 := Lib.hid ((HB.out.alloc hsz (.cells #[.int .u8 57] 5)).grown hgrow2 (by simp; omega) hblk)
      obtain ⟨A2, c2, rfl⟩ : ∃ A c, v2 = .slice A (k + 1 + 1) c := own_shape HR2.out
      clear hown2 hgrow2 HO2 HR HB
      go_wp2
      go_roundw
      case rel => exact ⟨k + 1, by omega, HR2, HB2⟩
      case measure => simp [slLen]; omega
    · have hkn : k + 1 = n := by omega
      subst hkn
      have hsz := HB.out.size
      have hblk : ∀ g, _ → w.heap.size ≤ g := fun g hg => (World.ownsRow.lt HR.out g hg).1
      have hmx2 : k + 1 + 1 ≤ maxLen := by unfold maxLen; omega
      have hby2 : (k + 1 + 1) * 1 ≤ 140737488355328 := by omega
      have hsz2 : w.heap.size ≤ (wr.alloc (.cells #[.int .u8 57] 5)).heap.size := by simp; omega
      have HO2 := Lib.hid (World.ownsRow.alloc HR.out (.cells #[.int .u8 57] 5))
      go_wp2_with (at_builtin; refine wpList_append_own _ rfl _ _ 66 rfl w.heap.size 5 i5 (.int .u8 0) 1 1 Tryd.underlying66 hj hy0 hy1 hy2 rfl (by decide) _ _ _ rfl HO2.out ⟨wr.heap.size, 0, none⟩ 1 1 [.int .u8 57] rfl rfl (bone_new wr 57) (bone_cell 57) hmx2 hby2 hsz2 ?_)
      intro v2 w2 hown2 hgrow2 _
      have hcv := own_string (l := ([45] : List UInt8) ++ List.replicate (k + 1) 57) (by rw [nines_step]; exact hown2)
      have HB2 := Lib.hid ((HB.out.alloc hsz (.cells #[.int .u8 57] 5)).grown hgrow2 (by simp; omega) hblk)
      generalize (⟨(([45] : List UInt8) ++ List.replicate (k + 1) 57).toArray⟩ : ByteArray) = res at *
      clear hown2 hgrow2 HO2 HR HB
      go_wp2
      go_ret
      exact ⟨by rw [← HT.out]; rfl, HB2.out⟩

theorem nines_any (neg : Bool) (n : Nat) (h1 : 1 ≤ n) (hn : n ≤ 5000) (z : Int) (hz : Hid (sgn neg (10 ^ n - 1) = z)) (w : World) :
    Calls Tryd.prog 34 #[.int .i64 n, .bool neg] w fun e w' => e = .returned (.string (inum z)) ∧ Below w.heap.size w w' := by
  cases neg
  · exact nines_false n h1 hn z hz w
  · exact nines_true n h1 hn z hz w

end Go.Proofs.YtifcmnjaplmeiaaDoor.D
