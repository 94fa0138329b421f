/-
  DERIVED. The walks of writeForm and Quote.
-/
import Derived.Test.YthbpmolookmjaaaDoorWords
namespace Go.Proofs.YthbpmolookmjaaaDoor
open Go.RowKit

/-- block b is a builder that holds the bytes l -/
def Bld (B b : Nat) (l : List UInt8) (w : World) : Prop := Lib.IsBuilderF 46 5 B b (Lib.byteCells l) w

theorem wByte (B b : Nat) (l : List UInt8) (c : UInt8) (w : World) (h : Bld B b l w) (hlen : l.length ≤ 100000000) (hBw : B ≤ w.heap.size) :
    Calls Tryd.prog 31 #[.pointer (some ⟨b, 0, none⟩), .int .u8 c.toNat] w fun e w' => e = .returned .nilIface ∧ Bld B b (l ++ [c]) w' ∧ Below B w w' := by
  refine (Tryd.Builder_WriteByte_k B b _ _ _ h (by rw [Lib.byteCells_length]; omega) hBw).mono ?_
  rintro e w' ⟨he, h1, h2, _⟩
  exact ⟨he, by rw [Bld, Lib.byteCells_append]; exact Or.inr h1, h2⟩
theorem wByteN (B b : Nat) (l : List UInt8) (c : Nat) (hc : c < 256) (w : World) (h : Bld B b l w) (hlen : l.length ≤ 100000000) (hBw : B ≤ w.heap.size) :
    Calls Tryd.prog 31 #[.pointer (some ⟨b, 0, none⟩), .int .u8 c] w fun e w' => e = .returned .nilIface ∧ Bld B b (l ++ [UInt8.ofNat c]) w' ∧ Below B w w' := by
  have := wByte B b l (UInt8.ofNat c) w h hlen hBw
  rwa [UInt8.toNat_ofNat_of_lt' (by simpa using hc)] at this
theorem wString (B b : Nat) (l : List UInt8) (s : ByteArray) (w : World) (h : Bld B b l w) (hlen : l.length + s.size ≤ 100000000) (hBw : B ≤ w.heap.size) :
    Calls Tryd.prog 46 #[.pointer (some ⟨b, 0, none⟩), .string s] w fun e w' => e = .returned (.tuple #[.int .i64 s.size, .nilIface]) ∧ Bld B b (l ++ s.data.toList) w' ∧ Below B w w' := by
  refine (Tryd.Builder_WriteString_k B b _ _ _ h (by rw [Lib.byteCells_length]; omega) hBw).mono ?_
  rintro e w' ⟨he, h1, h2, _⟩
  exact ⟨he, by rw [Bld, Lib.byteCells_append]; exact Or.inr h1, h2⟩

theorem and_15 : ∀ n : Fin 256, bits .and .u8 (n.val : Int) 15 = ((n.val % 16 : Nat) : Int) := by decide +kernel
theorem hex_fin : ∀ n : Fin 16, (⟨#[48, 49, 50, 51, 52, 53, 54, 55, 56, 57, 97, 98, 99, 100, 101, 102]⟩ : ByteArray)[n.val]'n.isLt = hexd n.val := by decide +kernel
theorem hex_at (n : Nat) (h : n < 16) {h' : n < (⟨#[48, 49, 50, 51, 52, 53, 54, 55, 56, 57, 97, 98, 99, 100, 101, 102]⟩ : ByteArray).size} : (⟨#[48, 49, 50, 51, 52, 53, 54, 55, 56, 57, 97, 98, 99, 100, 101, 102]⟩ : ByteArray)[n]'h' = hexd n := hex_fin ⟨n, h⟩

set_option maxHeartbeats 400000 in
theorem writeForm_any (B b : Nat) (l : List UInt8) (c : UInt8) (w : World) (h : Bld B b l w) (hlen : l.length ≤ 10000000) (hBw : B ≤ w.heap.size) :
    Calls Tryd.prog 32 #[.pointer (some ⟨b, 0, none⟩), .int .u8 c.toNat] w fun e w' => e = .returned (.tuple #[]) ∧ Bld B b (l ++ formL c.toNat) w' ∧ Below B w w' := by
  have hc := c.toNat_lt
  by_cases c1 : c.toNat = 34
  · have HF : Hid (formL c.toNat = [92] ++ [c]) := by show _ = _; simp [formL, c1]; exact UInt8.toNat_inj.1 (by simp [c1])
    have c1' : ((c.toNat : Int) == 34) = true := beqI c1
    clear c1
    go_enter Tryd.func32, Tryd.ntmps32
    go_wp2_with fail
    refine (wByteN B b l 92 (by omega) _ h (by omega) hBw).mono ?_
    rintro e w1 ⟨rfl, h1, b1⟩
    go_wp2_with fail
    refine (wByte B b _ c _ h1 (by simp; omega) (by have := b1.size; omega)).mono ?_
    rintro e w2 ⟨rfl, h2, b2⟩
    go_wp2
    go_end0
    exact ⟨rfl, by rw [HF.out, ← List.append_assoc]; exact h2, b1.trans b2⟩
  have c1' : ((c.toNat : Int) == 34) = false := bneI c1
  by_cases c2 : c.toNat = 92
  · have HF : Hid (formL c.toNat = [92] ++ [c]) := by show _ = _; simp [formL, c2]; exact UInt8.toNat_inj.1 (by simp [c2])
    have c2' : ((c.toNat : Int) == 92) = true := beqI c2
    clear c1 c2
    go_enter Tryd.func32, Tryd.ntmps32
    go_wp2_with fail
    refine (wByteN B b l 92 (by omega) _ h (by omega) hBw).mono ?_
    rintro e w1 ⟨rfl, h1, b1⟩
    go_wp2_with fail
    refine (wByte B b _ c _ h1 (by simp; omega) (by have := b1.size; omega)).mono ?_
    rintro e w2 ⟨rfl, h2, b2⟩
    go_wp2
    go_end0
    exact ⟨rfl, by rw [HF.out, ← List.append_assoc]; exact h2, b1.trans b2⟩
  have c2' : ((c.toNat : Int) == 92) = false := bneI c2
  by_cases c3 : c.toNat = 10
  · have HF : Hid (formL c.toNat = [92, 110]) := by show _ = _; simp [formL, c3]
    have c3' : ((c.toNat : Int) == 10) = true := beqI c3
    clear c1 c2 c3
    go_enter Tryd.func32, Tryd.ntmps32
    go_wp2_with fail
    refine (wString B b l ⟨#[92, 110]⟩ _ h (by show l.length + 2 ≤ 100000000; omega) hBw).mono ?_
    rintro e w1 ⟨rfl, h1, b1⟩
    go_wp2
    go_end0
    exact ⟨rfl, by rw [HF.out]; exact h1, b1⟩
  have c3' : ((c.toNat : Int) == 10) = false := bneI c3
  cases hp : prn c.toNat
  · have HF : Hid (formL c.toNat = [92, 120] ++ [hexd (c.toNat / 16)] ++ [hexd (c.toNat % 16)]) := by show _ = _; simp [formL, c1, c2, c3, hp]
    clear c1 c2 c3
    go_enter Tryd.func32, Tryd.ntmps32
    go_wp2_with (go_at_call 47; refine (isPrintable_any _ _).mono ?_; rintro e w' ⟨rfl, rfl⟩)
    refine (wString B b l ⟨#[92, 120]⟩ _ h (by show l.length + 2 ≤ 100000000; omega) hBw).mono ?_
    rintro e w1 ⟨rfl, h1, b1⟩
    have hand : bits .and .u8 (c.toNat : Int) 15 = (c.toNat : Int) % 16 := by rw [and_15 ⟨c.toNat, hc⟩]; rfl
    go_wp2_with fail
    refine (wByte B b _ _ _ h1 (by simp; omega) (by have := b1.size; omega)).mono ?_
    rintro e w2 ⟨rfl, h2, b2⟩
    go_wp2_with fail
    refine (wByte B b _ _ _ h2 (by simp; omega) (by have := b1.size; have := b2.size; omega)).mono ?_
    rintro e w3 ⟨rfl, h3, b3⟩
    go_wp2
    go_end0
    rw [hex_at _ (by omega), hex_at _ (by omega), List.append_assoc, List.append_assoc] at h3
    exact ⟨rfl, by rw [HF.out, List.append_assoc]; exact h3, (b1.trans b2).trans b3⟩
  · have HF : Hid (formL c.toNat = [c]) := by show _ = _; simp [formL, c1, c2, c3, hp]
    clear c1 c2 c3
    go_enter Tryd.func32, Tryd.ntmps32
    go_wp2_with (go_at_call 47; refine (isPrintable_any _ _).mono ?_; rintro e w' ⟨rfl, rfl⟩)
    refine (wByte B b l c _ h (by omega) hBw).mono ?_
    rintro e w1 ⟨rfl, h1, b1⟩
    go_wp2
    go_end0
    exact ⟨rfl, by rw [HF.out]; exact h1, b1⟩

end Go.Proofs.YthbpmolookmjaaaDoor
