/-
  DERIVED. Maps of pairs that a call makes itself; the library's table of powers of ten, and strconv.Itoa.
-/
import Derived.Test.YtmoilpkgoabopaaDoorRuOrd
import Derived.Test.YtmoilpkgoabopaaDoorRuPure3
import Derived.Test.YtmoilpkgoabopaaDoorShelf
import Derived.Lib.LaidTab
import Derived.Maps.OwnSet
import Derived.DeepKeys4
import Derived.WideKeyPair
namespace Go.Proofs.YtmoilpkgoabopaaDoor.T
open Go.RowKit Go.WideMaps Go.WideShapes
set_option maxRecDepth 8000

theorem zeroB (w : World) : (zeroValue 4).run Tryd.prog w = .ok (.bool false) w := by kernel_rfl
theorem makeMap_n {P : Program} (t k e : TypeId) (kd : IntKind) (n : Int) (ht : P.underlying t = some (.map k e)) (w : World) : (Instr.makeMap t (some (.int kd n))).run P w = .ok (.map (some w.heap.size)) (w.alloc (.map #[] 0)) := by
  simp [Instr.makeMap, run_underlying ht]; rfl
theorem laidOutQ : laidOutB Tryd.prog = true := by kernel_rfl
theorem arrQ : ArrKey Tryd.prog 45 3 2 := ⟨Tryd.underlying45, by kernel_rfl, by kernel_rfl, by kernel_rfl⟩
theorem rowQ : (45 : TypeId) < Tryd.prog.types.size := of_decide_eq_true (by kernel_rfl)
theorem wideQ : (match Tryd.prog.underlying 45 with | some (.array _ _) | some (.struct _) => true | _ => false) = true := by rw [Tryd.underlying45]
theorem lawQ : Maps.Keyed Tryd.prog 45 := Maps.Keyed.of_law (deep_law_laid laidOutQ (m := 2) (by omega) rowQ (by kernel_rfl) wideQ)
/-- a pair, as a key reads -/
def pk (p : Int × Int) : Lit := .string (keyBytes [.int .i64 p.1, .int .i64 p.2])
def prV (p : Int × Int) : Value := .agg #[.int .i64 p.1, .int .i64 p.2]
theorem pairKey {p : Int × Int} (h : In64 p) : keyOf Tryd.prog 45 (prV p) = some (pk p) := by
  have h0 : 0 < Tryd.prog.types.size := of_decide_eq_true (by kernel_rfl)
  exact keyOf_pair arrQ Tryd.underlying3 ⟨Tryd.prog.types.size - 1, by omega⟩ (i64_wf h.1) (i64_wf h.2)
theorem pk_inj {p q : Int × Int} (hp : In64 p) (hq : In64 q) (h : pk p = pk q) : p = q := by
  have h1 := pairKey hp
  have h2 := pairKey hq
  rw [← h] at h2
  have h3 := lawQ.inj h1 h2
  unfold prV at h3
  simp only [Value.agg.injEq, Array.mk.injEq, List.cons.injEq, Value.int.injEq, true_and, and_true] at h3
  exact Prod.ext h3.1 h3.2
theorem plainElem_bool_inv {v : Value} {z : DataW Unit × List MemPlace} (h : plainElem Tryd.prog 4 v = some z) : ∃ x, v = .bool x ∧ z = (.lit (.bool x), []) := by
  unfold plainElem at h
  rw [Tryd.underlying4] at h
  cases v <;> simp at h
  exact ⟨_, rfl, h.symm⟩
/-- block b is a map: of each pair what g says -/
def Pm (w : World) (b n : Nat) (g : Int × Int → Bool) : Prop :=
  ∃ D : DataW Unit, w.ownsMap Tryd.prog 45 (plainElem Tryd.prog 4) b n D ∧ ∀ p, In64 p → D.atKey (pk p) (.lit (.bool false)) = .lit (.bool (g p))
section
variable {w w' : World} {b n : Nat} {g g' : Int × Int → Bool}
theorem Pm.lt (h : Pm w b n g) : b < w.heap.size := by obtain ⟨D, h, _⟩ := h; exact h.lt
theorem Pm.of_block (h : Pm w b n g) (hb : w'.heap[b]? = w.heap[b]?) : Pm w' b n g := by
  obtain ⟨D, ⟨es, clock, h1, h2⟩, h⟩ := h
  exact ⟨D, ⟨es, clock, hb.trans h1, h2⟩, h⟩
theorem Pm.below (h : Pm w b n g) (hb : Below w.heap.size w w') : Pm w' b n g := h.of_block (hb.block b h.lt)
theorem Pm.grown {row : Option Nat} (h : Pm w b n g) (hg : w.grownBy w' row) (hne : some b ≠ row) : Pm w' b n g := h.of_block (hg.block b h.lt hne)
theorem Pm.ext (h : Pm w b n g) (e : ∀ p, g p = g' p) : Pm w b n g' := by
  obtain ⟨D, h1, h⟩ := h
  exact ⟨D, h1, fun s hs => by rw [← e s]; exact h s hs⟩
theorem Pm.made (w : World) : Pm (w.alloc (.map #[] 0)) w.heap.size 0 (fun _ => false) :=
  ⟨.map [], World.ownsMap_made w _ _ _, fun _ _ => rfl⟩
theorem Pm.put (h : Pm w b n g) (hn : n < maxLen) {p : Int × Int} (hp : In64 p) :
    ∃ w', (Instr.mapUpdate 67 (.map (some b)) (.agg #[.int .i64 p.1, .int .i64 p.2]) (.bool true)).run Tryd.prog w = .ok () w' ∧ Pm w' b (n + 1) (fun q => g q || (q == p)) ∧ w.grownBy w' (some b) := by
  obtain ⟨D, hown, hD⟩ := h
  have hkey := pairKey hp
  obtain ⟨w', hrun, hown', hg⟩ := hown.update lawQ Tryd.underlying67 hn hkey (plainElem_bool (H := Unit) (P := Tryd.prog) (e := 4) Tryd.underlying4 true)
  refine ⟨w', hrun, ⟨_, hown', fun q hq => ?_⟩, hg⟩
  by_cases e : q = p
  · subst e
    rw [Maps.atKey_put_same hown.isMap (lawQ.key hkey)]
    simp
  · have hne : pk q ≠ pk p := fun h => e (pk_inj hq hp h)
    rw [Maps.atKey_put_other hne, hD q hq]
    have h2 : (q == p) = false := by rw [beq_eq_false_iff_ne]; exact e
    show _ = DataW.lit (.bool (g q || (q == p)))
    rw [h2, Bool.or_false]
theorem Pm.look (h : Pm w b n g) {p : Int × Int} (hp : In64 p) :
    (Instr.lookup 67 (.map (some b)) (.agg #[.int .i64 p.1, .int .i64 p.2]) false).run Tryd.prog w = .ok (.bool (g p)) w := by
  obtain ⟨D, hown, hD⟩ := h
  have h2 := hD p hp
  obtain ⟨v, ps, hrun, hv⟩ := hown.lookup lawQ Tryd.underlying67 (zeroB w) (plainElem_bool (H := Unit) (P := Tryd.prog) (e := 4) Tryd.underlying4 false) (pairKey hp)
  obtain ⟨x, rfl, hx⟩ := plainElem_bool_inv hv
  simp only [Prod.mk.injEq] at hx
  rw [h2] at hx
  obtain ⟨hx, -⟩ := hx
  injection hx with hx
  injection hx with hx
  rw [show (.agg #[.int .i64 p.1, .int .i64 p.2] : Value) = prV p from rfl, hrun, hx]
end
/-- block n holds a pair -/
def Qb (w : World) (n : Nat) (x y : Int) : Prop := w.heap[n]? = some (.cells #[.int .i64 x, .int .i64 y] 45)
section
variable {w w' : World} {n : Nat} {x y : Int}
theorem Qb.c0 (h : Qb w n x y) : w.cell? ⟨n, 0, none⟩ = some (.int .i64 x) := by unfold Qb at h; simp [World.cell?, h]
theorem Qb.c1 (h : Qb w n x y) : w.cell? ⟨n, 1, none⟩ = some (.int .i64 y) := by unfold Qb at h; simp [World.cell?, h]
theorem Qb.lt (h : Qb w n x y) : n < w.heap.size := by
  unfold Qb at h
  exact (Array.getElem?_eq_some_iff.1 h).1
theorem Qb.below (h : Qb w n x y) (hb : Below w.heap.size w w') : Qb w' n x y := (hb.block n h.lt).trans h
theorem Qb.grown {row : Option Nat} (h : Qb w n x y) (hg : w.grownBy w' row) (hne : some n ≠ row) : Qb w' n x y := (hg.block n h.lt hne).trans h
theorem Qb.made (w : World) (x y : Int) : Qb (w.alloc (.cells #[.int .i64 x, .int .i64 y] 45)) w.heap.size x y := by
  show (w.heap.push _)[w.heap.size]? = _
  simp
end

/-- what the library's table of powers of ten holds -/
def Tab (w : World) : Prop := Lib.TabIs Tryd.prog w "internal/strconv.uint64pow10" .u64 Lib.pow10Tab
theorem gTab : Tryd.prog.globalNamed "internal/strconv.uint64pow10" = some 2 := by kernel_rfl
theorem Tab.lt {w : World} (h : Tab w) : 2 < w.heap.size :=
  World.block_lt_of_cell? _ _ (Lib.TabIs.cell h gTab 0 (by decide))
theorem Tab.below {B : Nat} {w w' : World} (h : Tab w) (hB : w.heap.size ≤ B) (hb : Below B w w') : Tab w' := var?_below hb gTab (Nat.lt_of_lt_of_le h.lt hB) h
theorem Tab.over {w W : World} (h : Tab w) (b : Below w.heap.size w W) : Tab W := h.below (Nat.le_refl _) b
theorem below_grow3 {B : Nat} (w : World) (h : B ≤ w.heap.size) (os : Array Obj) : Below B w (Sort.grow w os) :=
  ⟨rfl, rfl, rfl, by simp [Sort.grow], fun k hk => by simp only [Sort.grow]; rw [Array.getElem?_append_left (by omega)]⟩
theorem itoa_n (i : Nat) (hi : i ≤ 1000000000) (w : World) (ht : Tab w) :
    Calls Tryd.prog 42 #[.int .i64 i] w fun e w' => e = .returned (.string (dec i)) ∧ Below w.heap.size w w' := by
  refine (Tryd.strconv_Itoa i (by omega) (by omega) _ ht).mono ?_
  rintro e w' ⟨rfl, k, os, hw⟩
  refine ⟨ret_str ?_, ?_⟩
  · show _ = dec i
    unfold dec Lib.itoa
    rw [if_neg (by omega)]
    rfl
  · rw [hw]
    exact (below_drewN (Below.refl _ w) k).trans (below_grow3 (w.drewN k) (Nat.le_refl _) os)

end Go.Proofs.YtmoilpkgoabopaaDoor.T

