/-
  DERIVED. Merged by mkbase.py.
-/
import Derived.Test.YthamlnolfagpiaaGreatDoorBasePure
import Derived.Test.YthamlnolfagpiaaGreatDoorRows
import Derived.WalkKit
import Derived.WalkSpells
import Derived.WalkLawsBesides
import Derived.Lib.Hide
namespace Go.Proofs.YthamlnolfagpiaaGreatDoor
open Go.RowKit

theorem ret_bool {a b : Bool} (h : a = b) : Ending.returned (.bool a) = .returned (.bool b) := by rw [h]
theorem ret_str {a b : ByteArray} (h : a = b) : Ending.returned (.string a) = .returned (.string b) := by rw [h]
theorem ret_int {k : IntKind} {a b : Int} (h : a = b) : Ending.returned (.int k a) = .returned (.int k b) := by rw [h]
theorem beqI {a : Nat} {b : Nat} (h : a = b) : ((a : Int) == (b : Int)) = true := by subst h; simp
theorem bneI {a : Nat} {b : Nat} (h : a ≠ b) : ((a : Int) == (b : Int)) = false := by simp; omega
theorem isE (s : ByteArray) (h : 0 < s.size) : s.toList.isEmpty = false := by
  rw [ByteArray.toList_eq]; simpa using ne_of s h
theorem notE (s : ByteArray) (h : 0 < s.size) : ¬ s.toList = [] := by
  rw [ByteArray.toList_eq]; exact ne_of s h
theorem cat_str (a b : List UInt8) : (⟨a.toArray⟩ : ByteArray) ++ ⟨b.toArray⟩ = ⟨(a ++ b).toArray⟩ := by
  apply ByteArray.ext
  simp
theorem getD_drop0' (s : ByteArray) (k : Nat) (h : k < s.size) : s.data.toList.drop k = s[k] :: s.data.toList.drop (k + 1) := by
  rw [List.drop_eq_getElem_cons (by simpa using h)]; rfl
theorem drop_ext (s : ByteArray) (k : Nat) : (s.extract k s.size).data.toList = s.data.toList.drop k := by rw [Lib.extract_data, List.take_of_length_le (by simp)]

end Go.Proofs.YthamlnolfagpiaaGreatDoor

namespace Go.Proofs.YthamlnolfagpiaaGreatDoor
open Go.RowKit

theorem right_len (l : List UInt8) (h0 : l.length ≠ 0) (h1 : l.length ≤ 1 ∨ (l.headD 0).toNat ≠ 48) : rightL l = digs l := by
  have hz : l.isEmpty = false := by cases l <;> simp at h0 ⊢
  rw [rightL, hz]
  rcases h1 with h1 | h1
  · rw [decide_eq_true h1]; simp
  · rw [beq_eq_false_iff_ne.2 h1]; simp
theorem right_zero (l : List UInt8) (h1 : 1 < l.length) (h2 : (l.headD 0).toNat = 48) : rightL l = false := by
  rw [rightL, decide_eq_false (by omega), h2]; simp

def wrongL (a b : List UInt8) : Int := if rightL a = false ∨ rightL b = false then 3 else if 4096 < a.length ∨ 4096 < b.length then 4 else 0
theorem wrong_num (u v : Nat) (hu : (num u).size ≤ 4096) (hv : (num v).size ≤ 4096) : wrongL (num u).data.toList (num v).data.toList = 0 := by
  rw [wrongL, num_data, num_data, right_num, right_num, if_neg (by simp), if_neg (by rw [num_size] at hu hv; omega)]
theorem num_zero : (⟨#[48]⟩ : ByteArray) = num 0 := by rw [num, dec_small (by omega)]; rfl
theorem zero_eq (v : Nat) : ((num v).toList == [48]) = decide (v = 0) := by
  rw [← eq_num v 0, ← num_zero, ByteArray.toList_eq ⟨#[48]⟩]

end Go.Proofs.YthamlnolfagpiaaGreatDoor

