/-
  DERIVED. RefNet3: a part of the base of layer 13 (made by pack.py).
-/
import Derived.Test.YtomebalolmabnaaGreatDoorHC
/-! The walk of the specification's checkPlaces. -/
namespace Go.Proofs.YtomebalolmabnaaGreatDoor.T
open Go.RowKit
set_option maxRecDepth 8000

theorem plf_len (l : List ByteArray) (i : Nat) : (plf l i).length ≤ 1 := by unfold plf; split <;> (try split) <;> simp
theorem plF_len (l : List ByteArray) : ∀ k, (plF l k).length ≤ k + 1
 | 0 => by unfold plF plf0; split <;> simp
 | k + 1 => by
  show (plF l k ++ plf l k).length ≤ _
  rw [List.length_append]
  have := plF_len l k
  have := plf_len l k
  omega
theorem seen_step {l : List ByteArray} {s : ByteArray} {k : Nat} (hk : k < l.length) : seen l s (k + 1) = (seen l s k || ((l.getD k ⟨#[]⟩).toList == s.toList)) := by
 unfold seen
 rw [take_more (d := ⟨#[]⟩) hk, List.any_append]
 simp
theorem plf_no {l : List ByteArray} {i : Nat} {s : ByteArray} (hs : l.getD i ⟨#[]⟩ = s) (h : nmB s = false) : plf l i = [(5, placeS i)] := by unfold plf; rw [hs, h]; rfl
theorem plf_seen {l : List ByteArray} {i : Nat} {s : ByteArray} (hs : l.getD i ⟨#[]⟩ = s) (h : nmB s = true) (h2 : seen l s i = true) : plf l i = [(6, placeS i)] := by unfold plf; rw [hs, h, h2]; rfl
theorem plf_new {l : List ByteArray} {i : Nat} {s : ByteArray} (hs : l.getD i ⟨#[]⟩ = s) (h : nmB s = true) (h2 : seen l s i = false) : plf l i = [] := by unfold plf; rw [hs, h, h2]; rfl
theorem refName_n (s : ByteArray) (w : World) : Calls Tryz.prog 60 #[.string s] w fun e w' => e = .returned (.bool (nmB s)) ∧ w = w' := refName_any s w

end Go.Proofs.YtomebalolmabnaaGreatDoor.T




