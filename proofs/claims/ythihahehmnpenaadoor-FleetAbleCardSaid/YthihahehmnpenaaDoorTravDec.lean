/-
  DERIVED. The walks of lorryref01's Decimal and of strconv.Itoa below 100.
-/
import Derived.Test.YthihahehmnpenaaDoorTravPure2
import Derived.Test.YthihahehmnpenaaDoorShelf
namespace Go.Proofs.YthihahehmnpenaaDoor.T
open Go.RowKit
set_option maxRecDepth 8000

def bc (l : List UInt8) : List Value := l.map fun c => .int .u8 c.toNat
theorem bc_len (l : List UInt8) : (bc l).length = l.length := by simp [bc]
theorem bc_append (l m : List UInt8) : bc (l ++ m) = bc l ++ bc m := by simp [bc]
theorem bc_one (c : UInt8) : bc [c] = [.int .u8 c.toNat] := rfl
theorem own_string {W : World} {B : Nat} {v : Value} {n : Nat} {l : List UInt8} (h : W.ownsRow B 5 1 v n (bc l)) :
    (convert 64 9 v).run Tryd.prog W = .ok (.string ⟨l.toArray⟩) W := by
  have hl : l.length = n := by have := h.1; rw [bc_len] at this; omega
  subst hl
  have hcell := fun g hg => h.cells (g := g) hg
  rcases h.2 with ⟨rfl, h0⟩ | ⟨g, cap, cur, rfl, _, _, hnc, _⟩
  · have : l = [] := List.eq_nil_of_length_eq_zero h0
    subst this
    exact run_convert_bytes_nil W 64 5 Tryd.underlying64 Tryd.underlying5 0 0 _ Tryd.underlying9
  · refine run_convert_bytes_back W _ _ 5 _ cap l Tryd.underlying64 Tryd.underlying5 Tryd.underlying9 ?_
    intro j hj
    exact hcell g rfl j _ (by simp [bc, hj])

theorem dec_small {u : Nat} (h : u < 10) : Lib.decDigits u = [UInt8.ofNat (48 + u)] := by rw [Lib.decDigits, dif_pos h]
theorem dec_big {u : Nat} (h : ¬ u < 10) : Lib.decDigits u = Lib.decDigits (u / 10) ++ [UInt8.ofNat (48 + u % 10)] := by rw [Lib.decDigits, dif_neg h]
theorem toNat_digit (d : Nat) (h : d < 10) : (UInt8.ofNat (48 + d)).toNat = 48 + d := UInt8.toNat_ofNat_of_lt' (by simp [UInt8.size]; omega)
def decM : Value → Value → Nat
  | .int _ x, .bool true => x.natAbs + 1
  | _, _ => 0

theorem dec_len : ∀ (k u : Nat), u < 10 ^ (k + 1) → (Lib.decDigits u).length ≤ k + 1
  | 0, u, h => by rw [dec_small (by simpa using h)]; simp
  | k + 1, u, h => by
    by_cases h1 : u < 10
    · rw [dec_small h1]; simp
    · rw [dec_big h1, List.length_append]
      have := dec_len k (u / 10) (by rw [Nat.pow_succ] at h; omega)
      simp; omega
theorem dec_round (x z d : Nat) (hd : d = x % 10) (hz : z = x / 10) (s N : List UInt8) (h : Lib.decDigits x ++ s = N) :
    (z ≠ 0 → Lib.decDigits z ++ ((48 + UInt8.ofNat d) :: s) = N) ∧ (z = 0 → (48 + UInt8.ofNat d) :: s = N) := by
  have hc : 48 + UInt8.ofNat d = UInt8.ofNat (48 + d) := by simp
  rw [hc]
  constructor
  · intro h0
    rw [dec_big (by omega), List.append_assoc, ← hd, ← hz] at h
    exact h
  · intro h0
    rw [dec_small (by omega)] at h
    rw [show 48 + d = 48 + x by omega]; exact h
theorem cat1 (c : UInt8) (s : List UInt8) : Value.string ((⟨#[c]⟩ : ByteArray) ++ ⟨s.toArray⟩) = .string ⟨(c :: s).toArray⟩ := by
  congr 1
theorem decM_lt (x z : Int) (h : z.natAbs = x.natAbs / 10) : decM (.int .i64 z) (.bool (z != 0)) < decM (.int .i64 x) (.bool true) := by
  by_cases h0 : z = 0
  · subst h0; simp [decM]
  · have : (z != 0) = true := by simpa using h0
    rw [this]; simp only [decM]; omega

set_option maxRecDepth 100000 in
set_option maxHeartbeats 400000 in
theorem refDecimal_any (n : Int) (h0 : -9223372036854775808 ≤ n) (h1 : n ≤ 9223372036854775807) (w : World) :
    Calls Tryd.prog 25 #[.int .i64 n] w fun e w' => e = .returned (.string ⟨(Lib.itoa n).toArray⟩) ∧ Below w.heap.size w w' := by
  go_enter Tryd.func25, Tryd.ntmps25
  go_wp2_with fail
  go_loopw [3, 4, 5] (fun a b c wr => ∃ (s : List UInt8) (x : Int) (g : Bool), a = .string ⟨s.toArray⟩ ∧ b = .int .i64 x ∧ c = .bool g ∧ -9223372036854775808 ≤ x ∧ x ≤ 9223372036854775807 ∧ Below w.heap.size w wr ∧ Hid ((g = true → Lib.decDigits x.natAbs ++ s = Lib.decDigits n.natAbs) ∧ (g = false → s = Lib.decDigits n.natAbs)))
    (fun _ b c _ => decM b c)
  case atStart => exact ⟨[], n, true, rfl, rfl, rfl, h0, h1, Below.refl _ _, ⟨fun _ => by simp, fun h => by cases h⟩⟩
  case round =>
    obtain ⟨s, x, g, rfl, rfl, rfl, hx0, hx1, hb, HI⟩ := hrel
    cases g
    · have HF := Lib.hid (HI.out.2 rfl)
      have HL : Hid (s.length ≤ 20) := by show _ ≤ _; rw [HF.out]; exact dec_len 19 _ (by omega)
      clear HI
      by_cases hn : n < 0
      · have hsl : s.length ≤ 20 := HL.out
        go_wp2
        go_ret
        exact ⟨by rw [Lib.itoa, if_pos hn, ← HF.out]; exact congrArg Ending.returned (cat1 45 s), hb⟩
      · go_wp2
        go_ret
        exact ⟨by rw [Lib.itoa, if_neg (by omega), show n.toNat = n.natAbs by omega, ← HF.out]; rfl, hb⟩
    · obtain ⟨d, y, z, hd, hdu, hm, hq, hz, hy⟩ : ∃ (d : Nat) (y z : Int), d < 10 ∧ d = x.natAbs % 10 ∧ x.tmod 10 = y ∧ x.tdiv 10 = z ∧ z.natAbs = x.natAbs / 10 ∧ (y = d ∨ (y = -(d : Int) ∧ 0 < d)) := by
        rcases Int.le_total 0 x with hx | hx
        · refine ⟨x.natAbs % 10, _, _, by omega, rfl, rfl, rfl, by rw [Int.tdiv_eq_ediv_of_nonneg hx]; omega, Or.inl (by rw [Int.tmod_eq_emod_of_nonneg hx]; omega)⟩
        · obtain ⟨u, hu⟩ : ∃ u : Nat, x = -(u : Int) := ⟨x.natAbs, by omega⟩
          have hm : x.tmod 10 = -((u % 10 : Nat) : Int) := by rw [hu, Int.neg_tmod]; rfl
          have hq : x.tdiv 10 = -((u / 10 : Nat) : Int) := by rw [hu, Int.neg_tdiv]; rfl
          refine ⟨u % 10, _, _, by omega, by omega, rfl, rfl, by rw [hq]; omega, ?_⟩
          by_cases h : u % 10 = 0
          · left; rw [hm]; omega
          · right; exact ⟨hm, by omega⟩
      have hz1 : -9223372036854775808 ≤ z := by omega
      have hz2 : z ≤ 9223372036854775807 := by omega
      have hcv : (convert 64 9 (.slice (some ⟨wr.heap.size, 0, none⟩) 1 1)).run Tryd.prog (wr.alloc (.cells #[.int .u8 (48 + (d : Int))] 5)) = .ok (.string ⟨#[UInt8.ofNat (48 + d)]⟩) (wr.alloc (.cells #[.int .u8 (48 + (d : Int))] 5)) := by
        have e : (48 + (d : Int)) = ((UInt8.ofNat (48 + d)).toNat : Int) := by rw [toNat_digit d hd]; omega
        rw [e]
        exact own_string (B := wr.heap.size) (v := .slice (some ⟨wr.heap.size, 0, none⟩) 1 1) (n := 1) (l := [UInt8.ofNat (48 + d)]) ⟨by simp [bc], .inr ⟨wr.heap.size, 1, _, rfl, Nat.le_refl _, heap_alloc_new wr _, Nat.le_refl _, by decide, rfl, rfl⟩⟩
      have HZ := Lib.hid hz
      have HD := Lib.hid hdu
      have HR := Lib.hid (dec_round x.natAbs z.natAbs d hdu hz s _ (HI.out.1 rfl))
      have hsl : s.length ≤ 20 := by
        have h2 := congrArg List.length (HI.out.1 rfl)
        rw [List.length_append] at h2
        have := dec_len 19 n.natAbs (by omega)
        omega
      clear hz hdu HI
      rcases hy with hy | ⟨hy, hy2⟩
      · subst hy
        go_wp2_with fail
        go_roundw
        case rel => exact ⟨_, z, (z != 0), cat1 _ _, rfl, rfl, hz1, hz2, by exact hb.alloc hb.size _, ⟨fun h => HR.out.1 (by simpa using h), fun h => HR.out.2 (by simpa using h)⟩⟩
        case measure => exact decM_lt x z HZ.out
      · subst hy
        go_wp2_with fail
        go_roundw
        case rel => exact ⟨_, z, (z != 0), cat1 _ _, rfl, rfl, hz1, hz2, by exact hb.alloc hb.size _, ⟨fun h => HR.out.1 (by simpa using h), fun h => HR.out.2 (by simpa using h)⟩⟩
        case measure => exact decM_lt x z HZ.out


theorem decimal_n (i : Nat) (hi : i ≤ 1000000000) (w : World) :
    Calls Tryd.prog 25 #[.int .i64 i] w fun e w' => e = .returned (.string (dec i)) ∧ Below w.heap.size w w' := by
  refine (refDecimal_any i (by omega) (by omega) w).mono fun e w' ⟨he, hb⟩ => ⟨he.trans (ret_str ?_), hb⟩
  show _ = dec i
  unfold dec Lib.itoa
  rw [if_neg (by omega)]
  rfl
/-- what the library's table of powers of ten holds -/
def Tab (w : World) : Prop := Lib.TabIs Tryd.prog w "internal/strconv.uint64pow10" .u64 Lib.pow10Tab
theorem gTab : Tryd.prog.globalNamed "internal/strconv.uint64pow10" = some 0 := by kernel_rfl
theorem Tab.lt {w : World} (h : Tab w) : 0 < w.heap.size :=
  World.block_lt_of_cell? _ _ (Lib.TabIs.cell h gTab 0 (by decide))
theorem Tab.below {B : Nat} {w w' : World} (h : Tab w) (hB : w.heap.size ≤ B) (hb : Below B w w') : Tab w' := var?_below hb gTab (Nat.lt_of_lt_of_le h.lt hB) h
theorem Tab.over {w W : World} (h : Tab w) (b : Below w.heap.size w W) : Tab W := h.below (Nat.le_refl _) b
theorem Tab.alloc {w : World} (h : Tab w) (o : Obj) : Tab (w.alloc o) := h.over ((Below.refl _ w).alloc (Nat.le_refl _) o)
theorem below_grow3 {B : Nat} (w : World) (h : B ≤ w.heap.size) (os : Array Obj) : Below B w (Sort.grow w os) :=
  ⟨rfl, rfl, rfl, by simp [Sort.grow], fun k hk => by simp only [Sort.grow]; rw [Array.getElem?_append_left (by omega)]⟩
theorem itoa_n (i : Nat) (hi : i ≤ 1000000000) (w : World) (ht : Tab w) :
    Calls Tryd.prog 38 #[.int .i64 i] w fun e w' => e = .returned (.string (dec i)) ∧ Below w.heap.size w w' := by
  refine (Tryd.strconv_Itoa i (by omega) (by omega) _ ht).mono ?_
  rintro e w' ⟨rfl, k, os, hw⟩
  refine ⟨ret_str ?_, ?_⟩
  · show _ = dec i
    unfold dec Lib.itoa
    rw [if_neg (by omega)]
    rfl
  · rw [hw]
    exact (below_drewN (Below.refl _ w) k).trans (below_grow3 (w.drewN k) (Nat.le_refl _) os)

end Go.Proofs.YthihahehmnpenaaDoor.T

