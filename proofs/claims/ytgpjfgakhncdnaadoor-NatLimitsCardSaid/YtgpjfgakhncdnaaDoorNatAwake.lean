/-
  DERIVED. The walk of layer 2's awake.
-/
import Derived.Test.YtgpjfgakhncdnaaDoorNatIf
namespace Go.Proofs.YtgpjfgakhncdnaaDoor
open Go.RowKit

theorem num_lit (l : List UInt8) (u : Nat) (h : rightL l = true) (h2 : valA 0 l = u) : (⟨l.toArray⟩ : ByteArray) = num u := by
  rw [num, ← h2, num_right l h]
theorem n999 : (⟨#[57, 57, 57]⟩ : ByteArray) = num 999 := num_lit [57, 57, 57] 999 (by decide) (by decide)
theorem n1 : (⟨#[49]⟩ : ByteArray) = num 1 := num_lit [49] 1 (by decide) (by decide)
theorem n1000 : (⟨#[49, 48, 48, 48]⟩ : ByteArray) = num 1000 := num_lit [49, 48, 48, 48] 1000 (by decide) (by decide)
theorem n100 : (⟨#[49, 48, 48]⟩ : ByteArray) = num 100 := num_lit [49, 48, 48] 100 (by decide) (by decide)
theorem n7 : (⟨#[55]⟩ : ByteArray) = num 7 := num_lit [55] 7 (by decide) (by decide)
theorem n14 : (⟨#[49, 52]⟩ : ByteArray) = num 14 := num_lit [49, 52] 14 (by decide) (by decide)
theorem n2 : (⟨#[50]⟩ : ByteArray) = num 2 := num_lit [50] 2 (by decide) (by decide)
theorem n9 : (⟨#[57]⟩ : ByteArray) = num 9 := num_lit [57] 9 (by decide) (by decide)
theorem n10 : (⟨#[49, 48]⟩ : ByteArray) = num 10 := num_lit [49, 48] 10 (by decide) (by decide)

theorem aw2_add (w : World) (ht : Tab w) : Calls Tryd.prog 14 #[.string ⟨#[57, 57, 57]⟩, .string ⟨#[49]⟩] w fun e w' => e = .returned (.tuple #[.string ⟨#[49, 48, 48, 48]⟩, .int .i64 0]) ∧ Below w.heap.size w w' := by
  rw [n999, n1, n1000]
  exact natAdd_num 999 1 w (by rw [← n999]; decide) (by rw [← n1]; decide) (by rw [show 999 + 1 = 1000 by rfl, ← n1000]; decide) ht
theorem aw2_div (w : World) (ht : Tab w) : Calls Tryd.prog 20 #[.string ⟨#[49, 48, 48]⟩, .string ⟨#[55]⟩] w fun e w' => e = .returned (.tuple #[.string ⟨#[49, 52]⟩, .string ⟨#[50]⟩, .int .i64 0]) ∧ Below w.heap.size w w' := by
  rw [n100, n7, n14, n2]
  exact natDiv_num 100 7 (by omega) w (by rw [← n100]; decide) (by rw [← n7]; decide) ht
theorem aw2_cmp (w : World) : Calls Tryd.prog 12 #[.string ⟨#[57]⟩, .string ⟨#[49, 48]⟩] w fun e w' => e = .returned (.int .i64 (-1)) ∧ Below w.heap.size w w' := by
  rw [n9, n10]
  exact natCompare_num 9 10 w (by rw [← n9]; decide) (by rw [← n10]; decide)
theorem aw2_r1 (w : World) : Calls Tryd.prog 10 #[.string ⟨#[57, 48, 55]⟩] w fun e w' => e = .returned (.bool true) ∧ Below w.heap.size w w' := natRight_any _ w (by decide)
theorem aw2_r2 (w : World) : Calls Tryd.prog 10 #[.string ⟨#[48, 49]⟩] w fun e w' => e = .returned (.bool false) ∧ Below w.heap.size w w' := natRight_any _ w (by decide)

set_option maxHeartbeats 400000 in
theorem awake2_any (w : World) (ht : Tab w) :
    Calls Tryd.prog 9 #[] w fun e w' => e = .returned (.bool true) ∧ Below w.heap.size w w' := by
  go_enter Tryd.func9, Tryd.ntmps9
  go_wp2_with fail
  refine (aw2_add _ ht).mono ?_
  rintro e w1 ⟨rfl, b1⟩
  have t1 := ht.below (Nat.le_refl _) b1
  go_wp2_with fail
  refine (aw2_div _ t1).mono ?_
  rintro e w2 ⟨rfl, b2⟩
  have b2' := b1.trans (b2.mono b1.size)
  clear b1 b2
  go_wp2_with fail
  refine (aw2_cmp _).mono ?_
  rintro e w3 ⟨rfl, b3⟩
  have b3' := b2'.trans (b3.mono b2'.size)
  clear b2' b3
  go_wp2_with fail
  refine (aw2_r1 _).mono ?_
  rintro e w4 ⟨rfl, b4⟩
  have b4' := b3'.trans (b4.mono b3'.size)
  clear b3' b4
  go_wp2_with fail
  refine (aw2_r2 _).mono ?_
  rintro e w5 ⟨rfl, b5⟩
  have b5' := b4'.trans (b5.mono b4'.size)
  clear b4' b5
  go_wp2
  go_ret
  exact ⟨rfl, b5'⟩

end Go.Proofs.YtgpjfgakhncdnaaDoor
