/-
  DERIVED. The walks of the laws' pairs, contains and of lorryref12's Has.
-/
import Derived.Test.YtmoilpkgoabopaaDoorRuOrd
import Derived.Laws.StructEq
import Derived.ChangeKeysEq
namespace Go.Proofs.YtmoilpkgoabopaaDoor.T
open Go.RowKit
set_option maxRecDepth 8000

theorem eqItems_ints {P : Program} {e : TypeId} (he : P.plainKey e = true) (hu : P.underlying e = some (.int .i64)) (d : Nat) (xs ys : Array Value) (f g : Nat → Int) (w : World) :
    ∀ is : List Nat, (∀ i ∈ is, xs[i]? = some (.int .i64 (f i)) ∧ ys[i]? = some (.int .i64 (g i))) → (Op.eqItems (d + 1) e 1 xs ys is).run P w = .ok (is.all fun i => f i == g i) w
  | [], _ => by simp [Op.eqItems]
  | i :: is, h => by
    obtain ⟨h1, h2⟩ := h i (List.mem_cons_self ..)
    have ih := eqItems_ints he hu d xs ys f g w is (fun j hj => h j (List.mem_cons_of_mem _ hj))
    simp only [Op.eqItems, Sem.run_bind, Nat.mul_one, run_part_plain w he h1, run_part_plain w he h2, Result.andThen_ok, run_equalIn_int w d e .i64 .i64 (f i) (g i) hu, List.all_cons]
    cases hb : (f i == g i)
    · simp
    · simpa using ih
theorem neqPair (a b : Int) (w : World) : (binOp .neq 45 (.agg #[.int .i64 a, .int .i64 b]) (.agg #[.int .i64 a, .int .i64 b])).run Tryd.prog w = .ok (.bool false) w := by
  have hi0 : (Tryd.prog.info? 3).isSome = true := by kernel_rfl
  obtain ⟨i, hi⟩ := Option.isSome_iff_exists.1 hi0
  have hc : Tryd.prog.cellsOf 3 = 1 := by kernel_rfl
  rw [run_neq_struct, show (10000 : Nat) = 9998 + 1 + 1 from rfl, run_equalIn_array w _ _ _ Tryd.underlying45 hi, hc,
    eqItems_ints (by kernel_rfl) Tryd.underlying3 9998 _ _ (fun i => [a, b].getD i 0) (fun i => [a, b].getD i 0) w (List.range 2)
      (fun i hi => by
        have h := List.mem_range.1 hi
        match i, h with
        | 0, _ => exact ⟨rfl, rfl⟩
        | 1, _ => exact ⟨rfl, rfl⟩)]
  show Result.ok (Value.bool (!(a == a && (b == b && true)))) w = _
  simp
set_option maxHeartbeats 1600000 in
theorem pairsEq_n (u v : Value) (a : List (Int × Int)) (hl : a.length ≤ 1000000) (w : World) (hu : Ps w u a) (hv : Ps w v a) :
    Calls Tryd.prog 13 #[u, v] w fun e w' => e = .returned (.bool true) ∧ Below w.heap.size w w' := by
  have HU := Lib.hid hu
  have HV := Lib.hid hv
  obtain ⟨oa, ca, rfl, -⟩ := hu
  obtain ⟨ob, cb, rfl, -⟩ := hv
  generalize hn : a.length = n at *
  have HN := Lib.hid hn
  have hne : ((n : Int) != (n : Int)) = false := by simp
  have hgs : Tryd.prog.eqGuardType Tryd.prog.depth 45 = false := by kernel_rfl
  clear hn
  go_enter Tryd.func13, Tryd.ntmps13
  go_wp2_with fail
  go_loopg [13] n (fun g i wr => ∃ k : Nat, k ≤ n ∧ i = .int .i64 k ∧ n - k ≤ g ∧ Hid (Below w.heap.size w wr))
  case atStart => exact ⟨0, Nat.zero_le _, rfl, Nat.le_refl _, Below.refl _ _⟩
  case round =>
    obtain ⟨k, hk, rfl, hg, HB⟩ := hrel
    by_cases hlt : k < n
    · have hkI : (k : Int) < (n : Int) := by omega
      have hka : k < a.length := by rw [HN.out]; exact hlt
      obtain ⟨b, o, rfl, hab, x0, x1⟩ := ps_at (by have := HU.out.below HB.out; rw [← HN.out] at this; exact this) hka
      obtain ⟨b', o', rfl, hab', y0, y1⟩ := ps_at (by have := HV.out.below HB.out; rw [← HN.out] at this; exact this) hka
      generalize a.getD k (0, 0) = p at *
      have hq := neqPair p.1 p.2
      go_wp2_with fail
      go_quiet (fail)
      go_wp2_with fail
      go_roundg (n - (k + 1))
      case measure => omega
      case rel => exact ⟨k + 1, by omega, by go_num, by omega, below_drewN HB.out _⟩
    · have hkk : k = n := by omega
      subst hkk
      go_wp2_with fail
      go_ret
      exact ⟨rfl, HB.out⟩
def hasB (l : List (Int × Int)) (x y : Int) : Bool := l.any fun p => p.1 == x && p.2 == y
theorem hasB_mem {l : List (Int × Int)} {x y : Int} (h : (x, y) ∈ l) : hasB l x y = true := List.any_eq_true.2 ⟨(x, y), h, by simp⟩
theorem anyl_step {q : Int × Int → Bool} {l : List (Int × Int)} {k : Nat} (h : k < l.length) : (l.take (k + 1)).any q = ((l.take k).any q || q (l.getD k (0, 0))) := by
  rw [take_more (d := (0, 0)) h, List.any_append]
  simp
set_option maxHeartbeats 1600000 in
theorem contains12_n (v : Value) (l : List (Int × Int)) (x y : Int) (hl : l.length ≤ 1000000) (w : World) (hv : Ps w v l) :
    Calls Tryd.prog 22 #[v, .int .i64 x, .int .i64 y] w fun e w' => e = .returned (.bool (hasB l x y)) ∧ Below w.heap.size w w' := by
  have HV := Lib.hid hv
  obtain ⟨oa, c, rfl, -⟩ := hv
  have HY := Lib.hid (fun i (hi : i < l.length) (h : ((l.getD i (0, 0)).1 == x && (l.getD i (0, 0)).2 == y) = true) => anyl_yes (p := fun p => p.1 == x && p.2 == y) hi h)
  have HNo := Lib.hid (fun (h : ∀ i, i < l.length → ((l.getD i (0, 0)).1 == x && (l.getD i (0, 0)).2 == y) = false) => anyl_no (p := fun p => p.1 == x && p.2 == y) h)
  have HR : Hid ((l.any fun p => p.1 == x && p.2 == y) = hasB l x y) := rfl
  generalize (l.any fun p => p.1 == x && p.2 == y) = r0 at *
  generalize hasB l x y = r at *
  generalize hn : l.length = n at *
  have HN := Lib.hid hn
  clear hn
  go_enter Tryd.func22, Tryd.ntmps22
  go_wp2_with fail
  go_loopg [11] n (fun g i wr => ∃ k : Nat, k ≤ n ∧ i = .int .i64 k ∧ n - k ≤ g ∧ Hid (∀ i, i < k → ((l.getD i (0, 0)).1 == x && (l.getD i (0, 0)).2 == y) = false) ∧ Hid (Below w.heap.size w wr))
  case atStart => exact ⟨0, Nat.zero_le _, rfl, Nat.le_refl _, fun i hi => absurd hi (Nat.not_lt_zero _), Below.refl _ _⟩
  case round =>
    obtain ⟨k, hk, rfl, hg, HK, HB⟩ := hrel
    by_cases hlt : k < n
    · have hkI : (k : Int) < (n : Int) := by omega
      have hka : k < l.length := by rw [HN.out]; exact hlt
      obtain ⟨b, o, rfl, hab, x0, x1⟩ := ps_at (by have := HV.out.below HB.out; rw [← HN.out] at this; exact this) hka
      have HYk := Lib.hid (fun h => HY.out k hlt h)
      generalize hp : l.getD k (0, 0) = p at *
      have HP := Lib.hid hp
      clear hp
      have HB2 := Lib.hid (over HB.out (below_alloc wr (.cells #[.int .i64 p.1, .int .i64 p.2] 45)))
      by_cases h1 : p.1 = x
      · by_cases h2 : p.2 = y
        · have HX : Hid (true = r) := by show _ = _; rw [← HR.out]; exact (HYk.out (by rw [h1, h2]; simp)).symm
          generalize p.1 = x' at *
          generalize p.2 = y' at *
          subst h1 h2
          go_wp2_with fail
          go_ret
          exact ⟨ret_bool HX.out, HB2.out⟩
        · have HX : Hid ((p.1 == x && p.2 == y) = false) := by show _ = _; rw [ne_eqI h2, Bool.and_false]
          have h2I := ne_eqI h2
          rw [h1] at HB2
          go_wp2_with fail
          go_roundg (n - (k + 1))
          case measure => omega
          case rel => exact ⟨k + 1, by omega, by go_num, by omega, less_more HK.out (by rw [HP.out]; exact HX.out), HB2⟩
      · have HX : Hid ((p.1 == x && p.2 == y) = false) := by show _ = _; rw [ne_eqI h1, Bool.false_and]
        have h1I := ne_eqI h1
        go_wp2_with fail
        go_roundg (n - (k + 1))
        case measure => omega
        case rel => exact ⟨k + 1, by omega, by go_num, by omega, less_more HK.out (by rw [HP.out]; exact HX.out), HB2⟩
    · have hkk : k = n := by omega
      rw [hkk] at HK
      have hkI : ¬ (k : Int) < (n : Int) := by omega
      have HX : Hid (false = r) := by show _ = _; rw [← HR.out]; exact (HNo.out HK.out).symm
      go_wp2_with fail
      go_ret
      exact ⟨ret_bool HX.out, HB.out⟩
theorem hasH12_n (n k : Nat) (hn : n < 9223372036854775808) (hk : k ≤ 62) (w : World) :
    Calls Tryd.prog 23 #[.int .i64 n, .int .i64 k] w fun e w' => e = .returned (.bool (S.has n k)) ∧ w = w' := by
  have K := Lib.hid (fun w => has12_n n k hn hk w)
  generalize S.has n k = r at *
  go_enter Tryd.func23, Tryd.ntmps23
  go_wp2_with fail
  refine (K.out _).mono ?_
  rintro e w1 ⟨rfl, rfl⟩
  go_wp2_with fail
  go_ret
  exact ⟨rfl, rfl⟩

end Go.Proofs.YtmoilpkgoabopaaDoor.T

