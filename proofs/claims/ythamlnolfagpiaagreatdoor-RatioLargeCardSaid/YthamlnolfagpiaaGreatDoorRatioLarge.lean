/-
  DERIVED. The walk of RatioLarge.
-/
import Derived.Test.YthamlnolfagpiaaGreatDoorRatioLaw
import Derived.Laws.MakeOwn
import Derived.Deep.LoopGhost
namespace Go.Proofs.YthamlnolfagpiaaGreatDoor.D
open Go.RowKit
set_option maxRecDepth 8000

/-! ### sevens -/
/-- the number of n sevens -/
def sv : Nat → Nat
  | 0 => 0
  | n + 1 => 10 * sv n + 7
theorem sv_pos (n : Nat) (h : 0 < n) : 0 < sv n := by cases n with
  | zero => omega
  | succ n => show 0 < 10 * sv n + 7; omega
theorem sv_dec (n : Nat) : Lib.decDigits (sv (n + 1)) = List.replicate (n + 1) 55 := by
  induction n with
  | zero => show Lib.decDigits 7 = _; rw [Lib.decDigits_one (by omega)]; rfl
  | succ n ih =>
    show Lib.decDigits (10 * sv (n + 1) + 7) = _
    rw [dec_snoc _ 7 (sv_pos _ (by omega)) (by omega), ih, List.replicate_succ' (n := n + 1)]
    rfl
theorem sv_num (n : Nat) (h : 0 < n) : (⟨(List.replicate n 55).toArray⟩ : ByteArray) = num (sv n) := by
  obtain ⟨k, rfl⟩ : ∃ k, n = k + 1 := ⟨n - 1, by omega⟩
  rw [num, sv_dec]
theorem sv_nd (n : Nat) (h : 0 < n) : nd (sv n) = n := by
  obtain ⟨k, rfl⟩ : ∃ k, n = k + 1 := ⟨n - 1, by omega⟩
  show (Lib.decDigits _).length = _
  rw [sv_dec]; simp
theorem sv_ge (n : Nat) : 10 ^ n ≤ sv (n + 1) := by
  induction n with
  | zero => decide
  | succ n ih => show 10 ^ (n + 1) ≤ 10 * sv (n + 1) + 7; rw [Nat.pow_succ]; omega
theorem sv_big (n : Nat) (h : 4094 ≤ n) : 4096 < nd (sv n * 1000) := by
  obtain ⟨k, rfl⟩ : ∃ k, n = k + 1 := ⟨n - 1, by omega⟩
  have h1 := Nat.mul_le_mul_right 1000 (sv_ge k)
  have h2 : 10 ^ (k + 3) ≤ sv (k + 1) * 1000 := by
    rw [Nat.pow_add]; exact h1
  have := le_nd _ _ h2
  omega
theorem sevens_len (N : Nat) : (⟨(List.replicate N 55).toArray⟩ : ByteArray).size = N := by rw [← len_of]; simp
theorem sv_wrong (n : Nat) (h : 4096 < n) : rightR (⟨(List.replicate n 55).toArray⟩ : ByteArray).data.toList = false := by
  refine rightR_no fun r hr he => ?_
  rw [sv_num n (by omega), num_data] at he
  have h1 := cut_rtx r
  rw [← he, cutS_all _ (noSl_digs _ (dec_digs _))] at h1
  have h2 := congrArg Prod.fst h1
  simp only at h2
  have e : Lib.decDigits (sv n) = inumL ((sv n : Nat) : Int) := by rw [inumL_pos (by omega)]; rfl
  rw [e] at h2
  have h3 := inumL_inj h2
  have h4 := hr.1
  rw [← h3, Int.natAbs_natCast, sv_nd n (by omega)] at h4
  omega

/-! ### bytes in memory -/
/-- a row of n bytes whose first k are sevens -/
def filled (n k : Nat) : List UInt8 := List.replicate k 55 ++ List.replicate (n - k) 0
theorem filled_len (n k : Nat) (h : k ≤ n) : (filled n k).length = n := by simp [filled]; omega
theorem filled_set (n k : Nat) (h : k < n) : (Lib.byteCells (filled n k)).set k (.int .u8 55) = Lib.byteCells (filled n (k + 1)) := by
  unfold filled
  obtain ⟨d, hd⟩ : ∃ d, n - k = d + 1 := ⟨n - k - 1, by omega⟩
  rw [hd, show n - (k + 1) = d by omega, List.replicate_succ, List.replicate_succ' (n := k), Lib.byteCells_append, Lib.byteCells_append, Lib.byteCells_append]
  rw [List.set_append_right _ _ (by simp [Lib.byteCells])]
  simp [Lib.byteCells]
theorem filled_all (n : Nat) : filled n n = List.replicate n 55 := by simp [filled]

/-- block g holds those bytes -/
def Rb (w : World) (g n k : Nat) : Prop := w.ownsRow 0 5 1 (.slice (some ⟨g, 0, none⟩) n n) n (Lib.byteCells (filled n k))
section
variable {w w' : World} {g n k : Nat}
theorem Rb.cell (h : Rb w g n k) (hk : k < n) : w.cell? ⟨g, k, none⟩ = some (.int .u8 0) := by
  have := World.ownsRow.cellAt h k (by omega)
  rw [this]
  unfold filled
  obtain ⟨d, hd⟩ : ∃ d, n - k = d + 1 := ⟨n - k - 1, by omega⟩
  rw [hd, List.replicate_succ]
  simp [Lib.byteCells]
theorem Rb.frozen (h : Rb w g n k) (j : Nat) : w.frozen? ⟨g, j, none⟩ = false := World.ownsRow.frozenAt h j
theorem Rb.store (h : Rb w g n k) (hk : k < n) : Rb (w.setCell ⟨g, k, none⟩ (.int .u8 55)) g n (k + 1) := by
  have := (World.ownsRow.stored h k (.int .u8 55)).1
  rw [filled_set n k hk] at this
  exact this
theorem Rb.lt (h : Rb w g n k) : g < w.heap.size := (World.ownsRow.lt h g rfl).2
theorem Rb.of_block (h : Rb w g n k) (hb : w'.heap[g]? = w.heap[g]?) : Rb w' g n k := by
  refine ⟨h.1, ?_⟩
  rcases h.2 with ⟨h', _⟩ | ⟨g', cap', cur, h', hbg, hg, rest⟩
  · cases h'
  · cases h'; exact .inr ⟨g, n, cur, rfl, hbg, hb.trans hg, rest⟩
theorem Rb.far (h : Rb w g n k) {p : Addr} (hp : g ≠ p.block) (u : Value) : Rb (w.setCell p u) g n k := h.of_block (Below.heap_setCell w p u g hp)
theorem Rb.alloc (h : Rb w g n k) (o : Obj) : Rb (w.alloc o) g n k := h.of_block (Below.heap_alloc w o g h.lt)
end
theorem Rb.new (w : World) (n : Nat) (hn : n ≤ 1000000) : Rb (w.alloc (.cells (madeCells #[.int .u8 0] n) 5)) w.heap.size n 0 := by
  have h := World.ownsRow_lit (base := 0) (size := 1) (e := 5) w (madeCells #[.int .u8 0] n) n (Nat.zero_le _) (by unfold maxLen; omega) (by rw [size_madeCells, Nat.mul_one])
  have e : (madeCells #[Value.int .u8 0] n).toList = Lib.byteCells (filled n 0) := by
    rw [toList_madeCells_one]
    simp [filled, Lib.byteCells]
  rw [e] at h
  exact h
theorem own_rat {W : World} {B : Nat} {v : Value} {n : Nat} {l : List UInt8} (h : W.ownsRow B 5 1 v n (Lib.byteCells l)) :
    (convert 43 22 v).run Tryz.prog W = .ok (.string ⟨l.toArray⟩) W := by
  have hl : l.length = n := by have := h.1; rw [Lib.byteCells_length] at this; omega
  subst hl
  have hcell := fun g hg => h.cells (g := g) hg
  rcases h.2 with ⟨rfl, h0⟩ | ⟨g, cap, cur, rfl, _, _, hnc, _⟩
  · have : l = [] := List.eq_nil_of_length_eq_zero h0
    subst this
    exact run_convert_bytes_nil W 43 5 Tryz.underlying43 Tryz.underlying5 0 0 _ Tryz.underlying22
  · refine run_convert_bytes_back W _ _ 5 _ cap l Tryz.underlying43 Tryz.underlying5 Tryz.underlying22 ?_
    intro j hj
    exact hcell g rfl j _ (by simp [Lib.byteCells, hj])
theorem Rb.str {w : World} {g n : Nat} (h : Rb w g n n) : (convert 43 22 (.slice (some ⟨g, 0, none⟩) n n)).run Tryz.prog w = .ok (.string ⟨(List.replicate n 55).toArray⟩) w := by
  unfold Rb at h
  rw [filled_all] at h
  exact own_rat h
theorem infob : (Tryz.prog.info? 5).map (fun i => (i.zero, i.size, i.bytes)) = some (some (.int .u8 0), 1, 1) := by kernel_rfl
theorem infob' : ∃ i, Tryz.prog.info? 5 = some i ∧ i.zero = some (.int .u8 0) ∧ i.size = 1 ∧ i.bytes = 1 := by
  have h := infob
  cases hi : Tryz.prog.info? 5 with
  | none => rw [hi] at h; cases h
  | some i =>
    rw [hi] at h
    simp only [Option.map_some, Option.some.injEq, Prod.mk.injEq] at h
    exact ⟨i, rfl, h.1, h.2.1, h.2.2⟩
theorem make_i64 (n : Nat) (hn : n ≤ 1000000) (W : World) :
    (Instr.makeSlice 43 (.int .i64 (n : Int)) (.int .i64 (n : Int))).run Tryz.prog W = .ok (.slice (some ⟨W.heap.size, 0, none⟩) n n) (W.alloc (.cells (madeCells #[.int .u8 0] n) 5)) := by
  obtain ⟨i0, hi, hz0, hz1, hz2⟩ := infob'
  have hr := run_make (P := Tryz.prog) W 43 5 i0 (.int .u8 0) Tryz.underlying43 hi hz0 .i64 .i64 (n : Int) (n : Int) (by omega) (by omega) (by rw [hz2]; omega) (by omega)
  rw [hr, hz1, Int.toNat_natCast, Nat.mul_one]
  rfl

set_option maxRecDepth 100000 in
set_option maxHeartbeats 8000000 in
theorem ratioLarge_walk (n : Nat) (hn : n ≤ 255) (w : World) (hT : Tab w) :
    Calls Tryz.prog 9 #[.int .u8 (n : Int)] w fun e w' => e = .returned (.bool true) ∧ Below w.heap.size w w' := by
  obtain ⟨N, hN⟩ : ∃ N, 4094 + n % 5 = N := ⟨_, rfl⟩
  have hmk := make_i64 N (by omega)
  have hI : (4094 : Int) + (n : Int) % 5 = (N : Int) := by omega
  have hI2 : (4094 : Int) + ((n : Int).tmod 5) = (N : Int) := by rw [Int.tmod_eq_emod_of_nonneg (by omega)]; omega
  have hb : 4094 ≤ N ∧ N ≤ 4098 := by omega
  have hnew := Lib.hid (Rb.new w N (by omega))
  have hB0 : Hid (Below w.heap.size w (w.alloc (.cells (madeCells #[.int .u8 0] N) 5))) := (Below.refl _ _).alloc (Nat.le_refl _) _
  have HN := Lib.hid hN
  clear hN
  obtain ⟨hb1, hb2⟩ := hb
  go_enter Tryz.func9, Tryz.ntmps9
  go_wp2_with fail
  go_loopg [4] N (fun k i wr => ∃ j : Nat, j + k = N ∧ i = .int .i64 (j : Int) ∧ Hid (Rb wr w.heap.size N j) ∧ Hid (Below w.heap.size w wr))
  case atStart => exact ⟨0, by omega, rfl, hnew, hB0⟩
  case round =>
    clear hnew hB0
    obtain ⟨j, hj, rfl, HA, HW⟩ := hrel
    by_cases hlt : j < N
    · have hc := HA.out.cell hlt
      have hf := HA.out.frozen j
      have HA2 := Lib.hid (HA.out.store hlt)
      have HW2 := Lib.hid (HW.out.setCell (p := ⟨w.heap.size, j, none⟩) (Nat.le_refl _) (.int .u8 55))
      go_wp2_with fail
      go_roundg (gk - 1)
      case measure => omega
      case rel => exact ⟨j + 1, by omega, by go_num, HA2, HW2⟩
    have hjN : j = N := by omega
    subst hjN
    clear hlt hj hI hI2 hmk
    have hcv := HA.out.str
    have B0 := HW.out
    have T0 := hT.below (Nat.le_refl _) B0
    have hsl := sevens_len j
    clear HA HW
    by_cases h4 : j ≤ 4096
    · have hdec : decide ((j : Int) ≤ 4096) = true := decide_eq_true (by omega)
      have e1 := sv_num j (by omega)
      obtain ⟨x, hx⟩ : ∃ x : Int, ((sv j : Nat) : Int) = x := ⟨_, rfl⟩
      have hnd : nd x.natAbs = j := by rw [← hx, Int.natAbs_natCast]; exact sv_nd j (by omega)
      have hx0 : 0 < x := by have := sv_pos j (by omega); omega
      rw [← inum_nat, hx] at e1
      have h1000 : (⟨#[49, 48, 48, 48]⟩ : ByteArray) = rtx ((1000 : Int) : Rat) := by rw [rtx_int]; exact lit_pos [49, 48, 48, 48] 1000 (by decide) (by decide)
      have zx : Sz 4096 ((x : Int) : Rat) := sz_int (by omega) (by omega)
      have z1 : Sz 4096 ((1000 : Int) : Rat) := sz_int (Nat.le_trans (nd_le _ 3 (by decide)) (by omega)) (by omega)
      have HR : Hid (∀ w : World, Tab w → Calls Tryz.prog 14 #[.string (inum x)] w fun e w' => e = .returned (.bool true) ∧ Below w.heap.size w w') := by
        intro w ht
        have := rRight_any (inum x) (by rw [← e1, hsl]; omega) w ht
        rwa [show rightR (inum x).data.toList = true by rw [← rtx_int]; exact rightR_rtx zx] at this
      have HM : Hid (∀ w : World, Tab w → Calls Tryz.prog 28 #[.string (inum x), .string ⟨#[49, 48, 48, 48]⟩] w fun e w' => e = .returned (.tuple #[.string ⟨#[]⟩, .int .i64 4]) ∧ Below w.heap.size w w') := by
        intro w ht
        have := rMul_over ((x : Int) : Rat) ((1000 : Int) : Rat) (by
          rw [Rat.num_intCast, Rat.num_intCast, Int.natAbs_mul, ← hx, Int.natAbs_natCast]
          exact sv_big j hb1) zx z1 w ht
        rwa [rtx_int, ← h1000] at this
      have HAD := Lib.hid (rAdd_zero x (by omega))
      have hneg : (⟨#[45]⟩ : ByteArray) ++ inum x = inum (-x) := by
        rw [← rtx_int, ← rtx_int, rtx_minus (r := ((-x : Int) : Rat)) (by rw [Rat.num_intCast]; omega), Rat.intCast_neg, Rat.neg_neg]
      have HS : Hid (∀ w : World, Tab w → Calls Tryz.prog 22 #[.string (inum (-x))] w fun e w' => e = .returned (.int .i64 (-1)) ∧ Below w.heap.size w w') := by
        intro w ht
        have := rSign_r ((-x : Int) : Rat) (-1) (by rw [Rat.num_intCast]; exact sgnI_neg (by omega)) (sz_int (by rw [Int.natAbs_neg]; omega) (by omega)) w ht
        rwa [rtx_int] at this
      have HNEG := Lib.hid hneg
      rw [e1] at hcv hsl
      clear hx hnd hx0 e1 h1000 zx z1 hneg HN
      go_wp2_with fail
      refine (HR.out _ T0).mono ?_
      rintro e w1 ⟨rfl, b1⟩
      have B1 := over4 B0 b1
      have T1 := T0.below (Nat.le_refl _) b1
      go_wp2_with fail
      refine (HM.out _ T1).mono ?_
      rintro e w2 ⟨rfl, b2⟩
      have B2 := over4 B1 b2
      have T2 := T1.below (Nat.le_refl _) b2
      go_wp2_with fail
      refine (HAD.out _ T2).mono ?_
      rintro e w3 ⟨rfl, b3⟩
      have B3 := over4 B2 b3
      have T3 := T2.below (Nat.le_refl _) b3
      go_wp2_with fail
      rw [HNEG.out]
      refine (HS.out _ T3).mono ?_
      rintro e w4 ⟨rfl, b4⟩
      have B4 := over4 B3 b4
      have T4 := T3.below (Nat.le_refl _) b4
      go_wp2_with fail
      refine (awake_any _ T4).mono ?_
      rintro e w5 ⟨rfl, b5⟩
      have B5 := over4 B4 b5
      go_wp2_with fail
      go_ret
      exact ⟨rfl, B5⟩
    · have hdec : decide ((j : Int) ≤ 4096) = false := decide_eq_false (by omega)
      have hw := sv_wrong j (by omega)
      generalize (⟨(List.replicate j 55).toArray⟩ : ByteArray) = s at *
      have HR : Hid (∀ w : World, Tab w → Calls Tryz.prog 14 #[.string s] w fun e w' => e = .returned (.bool false) ∧ Below w.heap.size w w') := by
        intro w ht
        have := rRight_any s (by rw [hsl]; omega) w ht
        rwa [hw] at this
      have HM := Lib.hid (rMul_bad s ⟨#[49, 48, 48, 48]⟩ (.inl hw) (by rw [hsl]; omega) (by decide))
      have HSL := Lib.hid hsl
      clear hw HN hsl
      go_wp2_with fail
      refine (HR.out _ T0).mono ?_
      rintro e w1 ⟨rfl, b1⟩
      have B1 := over4 B0 b1
      have T1 := T0.below (Nat.le_refl _) b1
      go_wp2_with fail
      refine (HM.out _ T1).mono ?_
      rintro e w2 ⟨rfl, b2⟩
      have B2 := over4 B1 b2
      have T2 := T1.below (Nat.le_refl _) b2
      go_wp2_with fail
      refine (awake_any _ T2).mono ?_
      rintro e w3 ⟨rfl, b3⟩
      have B3 := over4 B2 b3
      go_wp2_with fail
      go_ret
      exact ⟨rfl, B3⟩

end Go.Proofs.YthamlnolfagpiaaGreatDoor.D

