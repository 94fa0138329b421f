/-
  DERIVED. Numbers of nines; rows of bytes in memory.
-/
import Derived.Test.YtgpjfgakhncdnaaDoorNatLaw
import Derived.Test.YtgpjfgakhncdnaaDoorNatFmt2
namespace Go.Proofs.YtgpjfgakhncdnaaDoor
open Go.RowKit

theorem nd_pow (u k : Nat) (h1 : 10 ^ k ≤ u) (h2 : u < 10 ^ (k + 1)) : nd u = k + 1 :=
  Nat.le_antisymm (nd_le u k h2) (le_nd u k h1)
theorem pow_ten (k : Nat) : 10 ^ (k + 1) = 10 * 10 ^ k := by rw [Nat.pow_succ, Nat.mul_comm]
theorem nines_dec (n : Nat) : Lib.decDigits (10 ^ (n + 1) - 1) = List.replicate (n + 1) 57 := by
  induction n with
  | zero => rw [Lib.decDigits_one (by decide)]; rfl
  | succ n ih =>
    have h := ten_pos n
    have e : 10 ^ (n + 1 + 1) - 1 = 10 * (10 ^ (n + 1) - 1) + 9 := by rw [pow_ten (n + 1), pow_ten n]; omega
    rw [e, dec_snoc _ 9 (by rw [pow_ten]; omega) (by omega), ih, List.replicate_succ' (n := n + 1)]
    rfl
theorem nines_num (n : Nat) (hn : 0 < n) : (⟨(List.replicate n 57).toArray⟩ : ByteArray) = num (10 ^ n - 1) := by
  obtain ⟨k, rfl⟩ : ∃ k, n = k + 1 := ⟨n - 1, by omega⟩
  rw [num, nines_dec]
theorem nines_size (n : Nat) (hn : 0 < n) : (num (10 ^ n - 1)).size = n := by
  rw [← nines_num n hn, ← len_of]; simp
theorem nd_add_nines (n m : Nat) (hn : 0 < n) (hm : 0 < m) : nd ((10 ^ n - 1) + (10 ^ m - 1)) = max n m + 1 := by
  obtain ⟨a, rfl⟩ : ∃ k, n = k + 1 := ⟨n - 1, by omega⟩
  obtain ⟨b, rfl⟩ : ∃ k, m = k + 1 := ⟨m - 1, by omega⟩
  have ha := ten_pos a
  have hb := ten_pos b
  rcases Nat.le_total a b with h | h
  · have h1 := Nat.pow_le_pow_right (show 0 < 10 by omega) h
    rw [show max (a + 1) (b + 1) = b + 1 by omega]
    apply nd_pow <;> rw [pow_ten a, pow_ten b] <;> try rw [pow_ten (b + 1), pow_ten b]
    all_goals omega
  · have h1 := Nat.pow_le_pow_right (show 0 < 10 by omega) h
    rw [show max (a + 1) (b + 1) = a + 1 by omega]
    apply nd_pow <;> rw [pow_ten a, pow_ten b] <;> try rw [pow_ten (a + 1), pow_ten a]
    all_goals omega
theorem nd_mul_nines (n m : Nat) (hn : 0 < n) (hm : 0 < m) : nd ((10 ^ n - 1) * (10 ^ m - 1)) = n + m := by
  obtain ⟨a, rfl⟩ : ∃ k, n = k + 1 := ⟨n - 1, by omega⟩
  obtain ⟨b, rfl⟩ : ∃ k, m = k + 1 := ⟨m - 1, by omega⟩
  have ha := ten_pos a
  have hb := ten_pos b
  rw [show a + 1 + (b + 1) = (a + b + 1) + 1 by omega]
  have e1 : 9 * 10 ^ a ≤ 10 ^ (a + 1) - 1 := by rw [pow_ten]; omega
  have e2 : 9 * 10 ^ b ≤ 10 ^ (b + 1) - 1 := by rw [pow_ten]; omega
  have e3 := Nat.mul_le_mul e1 e2
  have e4 : 9 * 10 ^ a * (9 * 10 ^ b) = 81 * 10 ^ (a + b) := by rw [Nat.pow_add, Nat.mul_mul_mul_comm]
  have e5 : (10 ^ (a + 1) - 1) * (10 ^ (b + 1) - 1) < 10 ^ (a + 1) * 10 ^ (b + 1) := Nat.mul_lt_mul_of_lt_of_le (by omega) (by omega) (ten_pos _)
  rw [← Nat.pow_add, show a + 1 + (b + 1) = a + b + 1 + 1 by omega] at e5
  apply nd_pow
  · rw [pow_ten]; omega
  · exact e5

/-- a row of n bytes whose first k are nines -/
def filled (n k : Nat) : List UInt8 := List.replicate k 57 ++ List.replicate (n - k) 0
theorem filled_len (n k : Nat) (h : k ≤ n) : (filled n k).length = n := by simp [filled]; omega
theorem filled_set (n k : Nat) (h : k < n) : (Lib.byteCells (filled n k)).set k (.int .u8 57) = Lib.byteCells (filled n (k + 1)) := by
  unfold filled
  obtain ⟨d, hd⟩ : ∃ d, n - k = d + 1 := ⟨n - k - 1, by omega⟩
  rw [hd, show n - (k + 1) = d by omega, List.replicate_succ, List.replicate_succ' (n := k), Lib.byteCells_append, Lib.byteCells_append, Lib.byteCells_append]
  rw [List.set_append_right _ _ (by simp [Lib.byteCells])]
  simp [Lib.byteCells]
theorem filled_all (n : Nat) : filled n n = List.replicate n 57 := by simp [filled]

/-- block g holds those bytes -/
def Rb (w : World) (g n k : Nat) : Prop := w.ownsRow 0 5 1 (.slice (some ⟨g, 0, none⟩) n n) n (Lib.byteCells (filled n k))
section
variable {w w' : World} {g n k : Nat}
theorem Rb.cell (h : Rb w g n k) (hk : k < n) : w.cell? ⟨g, k, none⟩ = some (.int .u8 0) := by
  have := World.ownsRow.cellAt h k (by omega)
  rw [this]
  unfold filled
  obtain ⟨d, hd⟩ : ∃ d, n - k = d + 1 := ⟨n - k - 1, by omega⟩
  rw [hd, List.replicate_succ]
  simp [Lib.byteCells]
theorem Rb.frozen (h : Rb w g n k) (j : Nat) : w.frozen? ⟨g, j, none⟩ = false := World.ownsRow.frozenAt h j
theorem Rb.store (h : Rb w g n k) (hk : k < n) : Rb (w.setCell ⟨g, k, none⟩ (.int .u8 57)) g n (k + 1) := by
  have := (World.ownsRow.stored h k (.int .u8 57)).1
  rw [filled_set n k hk] at this
  exact this
theorem Rb.lt (h : Rb w g n k) : g < w.heap.size := (World.ownsRow.lt h g rfl).2
theorem Rb.of_block (h : Rb w g n k) (hb : w'.heap[g]? = w.heap[g]?) : Rb w' g n k := by
  refine ⟨h.1, ?_⟩
  rcases h.2 with ⟨h', _⟩ | ⟨g', cap', cur, h', hbg, hg, rest⟩
  · cases h'
  · cases h'; exact .inr ⟨g, n, cur, rfl, hbg, hb.trans hg, rest⟩
theorem Rb.far (h : Rb w g n k) {p : Addr} (hp : g ≠ p.block) (u : Value) : Rb (w.setCell p u) g n k := h.of_block (Below.heap_setCell w p u g hp)
theorem Rb.alloc (h : Rb w g n k) (o : Obj) : Rb (w.alloc o) g n k := h.of_block (Below.heap_alloc w o g h.lt)
end
theorem Rb.new (w : World) (n : Nat) (hn : n ≤ 1000000) : Rb (w.alloc (.cells (madeCells #[.int .u8 0] n) 5)) w.heap.size n 0 := by
  have h := World.ownsRow_lit (base := 0) (size := 1) (e := 5) w (madeCells #[.int .u8 0] n) n (Nat.zero_le _) (by unfold maxLen; omega) (by rw [size_madeCells, Nat.mul_one])
  have e : (madeCells #[Value.int .u8 0] n).toList = Lib.byteCells (filled n 0) := by
    rw [toList_madeCells_one]
    simp [filled, Lib.byteCells]
  rw [e] at h
  exact h
theorem Rb.str {w : World} {g n : Nat} (h : Rb w g n n) : (convert 33 9 (.slice (some ⟨g, 0, none⟩) n n)).run Tryd.prog w = .ok (.string ⟨(List.replicate n 57).toArray⟩) w := by
  unfold Rb at h
  rw [filled_all] at h
  exact own_string h
theorem make_u16 (n : Nat) (hn : n ≤ 1000000) (W : World) :
    (Instr.makeSlice 33 (.int .u16 (n : Int)) (.int .u16 (n : Int))).run Tryd.prog W = .ok (.slice (some ⟨W.heap.size, 0, none⟩) n n) (W.alloc (.cells (madeCells #[.int .u8 0] n) 5)) := by
  obtain ⟨i0, hi, hz0, hz1, hz2⟩ := info5'
  have hr := run_make (P := Tryd.prog) W 33 5 i0 (.int .u8 0) Tryd.underlying33 hi hz0 .u16 .u16 (n : Int) (n : Int) (by omega) (by omega) (by rw [hz2]; omega) (by omega)
  rw [hr, hz1, Int.toNat_natCast, Nat.mul_one]
  rfl

end Go.Proofs.YtgpjfgakhncdnaaDoor
