/-
  DERIVED. The walks of lorryref01's Decimal and of strconv.Itoa below 100.
-/
import Derived.Test.YtmoilpkgoabopaaDoorTravPure2
namespace Go.Proofs.YtmoilpkgoabopaaDoor.T
open Go.RowKit
set_option maxRecDepth 8000

def bc (l : List UInt8) : List Value := l.map fun c => .int .u8 c.toNat
theorem bc_len (l : List UInt8) : (bc l).length = l.length := by simp [bc]
theorem bc_append (l m : List UInt8) : bc (l ++ m) = bc l ++ bc m := by simp [bc]
theorem bc_one (c : UInt8) : bc [c] = [.int .u8 c.toNat] := rfl
theorem own_string {W : World} {B : Nat} {v : Value} {n : Nat} {l : List UInt8} (h : W.ownsRow B 5 1 v n (bc l)) :
    (convert 76 9 v).run Tryd.prog W = .ok (.string ⟨l.toArray⟩) W := by
  have hl : l.length = n := by have := h.1; rw [bc_len] at this; omega
  subst hl
  have hcell := fun g hg => h.cells (g := g) hg
  rcases h.2 with ⟨rfl, h0⟩ | ⟨g, cap, cur, rfl, _, _, hnc, _⟩
  · have : l = [] := List.eq_nil_of_length_eq_zero h0
    subst this
    exact run_convert_bytes_nil W 76 5 Tryd.underlying76 Tryd.underlying5 0 0 _ Tryd.underlying9
  · refine run_convert_bytes_back W _ _ 5 _ cap l Tryd.underlying76 Tryd.underlying5 Tryd.underlying9 ?_
    intro j hj
    exact hcell g rfl j _ (by simp [bc, hj])

theorem dec_small {u : Nat} (h : u < 10) : Lib.decDigits u = [UInt8.ofNat (48 + u)] := by rw [Lib.decDigits, dif_pos h]
theorem dec_big {u : Nat} (h : ¬ u < 10) : Lib.decDigits u = Lib.decDigits (u / 10) ++ [UInt8.ofNat (48 + u % 10)] := by rw [Lib.decDigits, dif_neg h]
theorem toNat_digit (d : Nat) (h : d < 10) : (UInt8.ofNat (48 + d)).toNat = 48 + d := UInt8.toNat_ofNat_of_lt' (by simp [UInt8.size]; omega)
def decM : Value → Value → Nat
  | .int _ x, .bool true => x.natAbs + 1
  | _, _ => 0

theorem dec_len : ∀ (k u : Nat), u < 10 ^ (k + 1) → (Lib.decDigits u).length ≤ k + 1
  | 0, u, h => by rw [dec_small (by simpa using h)]; simp
  | k + 1, u, h => by
    by_cases h1 : u < 10
    · rw [dec_small h1]; simp
    · rw [dec_big h1, List.length_append]
      have := dec_len k (u / 10) (by rw [Nat.pow_succ] at h; omega)
      simp; omega
theorem dec_round (x z d : Nat) (hd : d = x % 10) (hz : z = x / 10) (s N : List UInt8) (h : Lib.decDigits x ++ s = N) :
    (z ≠ 0 → Lib.decDigits z ++ ((48 + UInt8.ofNat d) :: s) = N) ∧ (z = 0 → (48 + UInt8.ofNat d) :: s = N) := by
  have hc : 48 + UInt8.ofNat d = UInt8.ofNat (48 + d) := by simp
  rw [hc]
  constructor
  · intro h0
    rw [dec_big (by omega), List.append_assoc, ← hd, ← hz] at h
    exact h
  · intro h0
    rw [dec_small (by omega)] at h
    rw [show 48 + d = 48 + x by omega]; exact h
theorem cat1 (c : UInt8) (s : List UInt8) : Value.string ((⟨#[c]⟩ : ByteArray) ++ ⟨s.toArray⟩) = .string ⟨(c :: s).toArray⟩ := by
  congr 1
theorem decM_lt (x z : Int) (h : z.natAbs = x.natAbs / 10) : decM (.int .i64 z) (.bool (z != 0)) < decM (.int .i64 x) (.bool true) := by
  by_cases h0 : z = 0
  · subst h0; simp [decM]
  · have : (z != 0) = true := by simpa using h0
    rw [this]; simp only [decM]; omega

end Go.Proofs.YtmoilpkgoabopaaDoor.T

