/-
  DERIVED. The walks of the specification's form, starts, quoted, Quote, word.
-/
import Derived.Test.YthbpmolookmjaaaDoorMem
namespace Go.Proofs.YthbpmolookmjaaaDoor
open Go.RowKit

def HEX : ByteArray := ⟨#[48, 49, 50, 51, 52, 53, 54, 55, 56, 57, 97, 98, 99, 100, 101, 102]⟩
theorem hex_one : ∀ n : Fin 16, HEX.extract n.val (n.val + 1) = ⟨#[hexd n.val]⟩ := by decide +kernel
theorem hex_form (a b : Nat) (ha : a < 16) (hb : b < 16) : (⟨#[92, 120]⟩ : ByteArray) ++ HEX.extract a (a + 1) ++ HEX.extract b (b + 1) = ⟨#[92, 120, hexd a, hexd b]⟩ := by
  rw [hex_one ⟨a, ha⟩, hex_one ⟨b, hb⟩]; rfl

set_option maxHeartbeats 400000 in
theorem form_hex (c : Nat) (h : c < 256) (_h1 : c ≠ 34) (_h2 : c ≠ 92) (_h3 : c ≠ 10) (h4 : c < 32 ∨ 126 < c) (w : World) :
    Calls Tryd.prog 37 #[.int .u8 c] w fun e w' => e = .returned (.string ⟨#[92, 120, hexd (c / 16), hexd (c % 16)]⟩) ∧ Below w.heap.size w w' := by
  have HF : Hid (_ = _) := hex_form (c / 16) (c % 16) (by omega) (by omega)
  rcases h4 with h4 | h4
  all_goals
    go_enter Tryd.func37, Tryd.ntmps37
    go_wp2_with fail
    go_quiet (fail)
    go_wp2
    go_ret
    exact ⟨ret_str HF.out, below_drewN (Below.refl _ _) _⟩

set_option maxRecDepth 100000 in
set_option maxHeartbeats 400000 in
theorem form_prn (c : UInt8) (h1 : c.toNat ≠ 34) (h2 : c.toNat ≠ 92) (h3 : c.toNat ≠ 10) (h4 : 32 ≤ c.toNat) (h5 : c.toNat ≤ 126) (w : World) :
    Calls Tryd.prog 37 #[.int .u8 c.toNat] w fun e w' => e = .returned (.string ⟨#[c]⟩) ∧ Below w.heap.size w w' := by
  have hcv : (convert 43 9 (.slice (some ⟨w.heap.size, 0, none⟩) 1 1)).run Tryd.prog (w.alloc (.cells #[.int .u8 c.toNat] 5)) = .ok (.string ⟨#[c]⟩) (w.alloc (.cells #[.int .u8 c.toNat] 5)) :=
    own_string (B := w.heap.size) (v := .slice (some ⟨w.heap.size, 0, none⟩) 1 1) (n := 1) (l := [c]) ⟨by simp [bc], .inr ⟨w.heap.size, 1, _, rfl, Nat.le_refl _, heap_alloc_new w _, Nat.le_refl _, by decide, rfl, rfl⟩⟩
  go_enter Tryd.func37, Tryd.ntmps37
  go_wp2
  go_ret
  exact ⟨rfl, (Below.refl _ _).alloc (Nat.le_refl _) _⟩

set_option maxHeartbeats 400000 in
theorem form_any (c : UInt8) (w : World) :
    Calls Tryd.prog 37 #[.int .u8 c.toNat] w fun e w' => e = .returned (.string ⟨(formL c.toNat).toArray⟩) ∧ Below w.heap.size w w' := by
  have hc := c.toNat_lt
  by_cases h1 : c.toNat = 34
  · have hf : formL c.toNat = [92, 34] := by simp [formL, h1]
    rw [hf]
    have h1' : ((c.toNat : Int) == 34) = true := by simp; omega
    clear hf h1
    go_enter Tryd.func37, Tryd.ntmps37
    go_wp2
    go_ret
    exact ⟨rfl, Below.refl _ _⟩
  by_cases h2 : c.toNat = 92
  · have hf : formL c.toNat = [92, 92] := by simp [formL, h2]
    rw [hf]
    have h1' : ((c.toNat : Int) == 34) = false := by simp; omega
    have h2' : ((c.toNat : Int) == 92) = true := by simp; omega
    clear hf h1 h2
    go_enter Tryd.func37, Tryd.ntmps37
    go_wp2
    go_ret
    exact ⟨rfl, Below.refl _ _⟩
  by_cases h3 : c.toNat = 10
  · have hf : formL c.toNat = [92, 110] := by simp [formL, h3]
    rw [hf]
    have h1' : ((c.toNat : Int) == 34) = false := by simp; omega
    have h2' : ((c.toNat : Int) == 92) = false := by simp; omega
    have h3' : ((c.toNat : Int) == 10) = true := by simp; omega
    clear hf h1 h2 h3
    go_enter Tryd.func37, Tryd.ntmps37
    go_wp2
    go_ret
    exact ⟨rfl, Below.refl _ _⟩
  by_cases h4 : 32 ≤ c.toNat ∧ c.toNat ≤ 126
  · have hp : prn c.toNat = true := by simp [prn, h4]
    have hf : formL c.toNat = [c] := by simp [formL, h1, h2, h3, hp]
    rw [hf]
    exact form_prn c h1 h2 h3 h4.1 h4.2 w
  · have hp : prn c.toNat = false := by simp [prn]; omega
    have hf : formL c.toNat = [92, 120, hexd (c.toNat / 16), hexd (c.toNat % 16)] := by simp [formL, h1, h2, h3, hp]
    rw [hf]
    exact form_hex c.toNat hc h1 h2 h3 (by omega) w

end Go.Proofs.YthbpmolookmjaaaDoor
