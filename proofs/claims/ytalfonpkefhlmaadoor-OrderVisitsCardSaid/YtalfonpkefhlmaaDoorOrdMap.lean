/-
  DERIVED. Maps of texts that a call makes itself (layer 10's text).
-/
import Derived.Test.YtalfonpkefhlmaaDoorOrdBase
import Derived.Maps.OwnSet
import Derived.DeepKeys4
namespace Go.Proofs.YtalfonpkefhlmaaDoor.T
open Go.RowKit
set_option maxRecDepth 8000

theorem zeroB (w : World) : (zeroValue 4).run Tryd.prog w = .ok (.bool false) w := by kernel_rfl
theorem makeMap_n {P : Program} (t k e : TypeId) (kd : IntKind) (n : Int) (ht : P.underlying t = some (.map k e)) (w : World) : (Instr.makeMap t (some (.int kd n))).run P w = .ok (.map (some w.heap.size)) (w.alloc (.map #[] 0)) := by
  simp [Instr.makeMap, run_underlying ht]; rfl

/-! ### maps of texts -/
theorem lawStr : Maps.Keyed Tryd.prog 9 := Maps.string_keyed Tryd.underlying9
def sk (s : ByteArray) : Lit := .string s.data.toList
theorem strKey {s : ByteArray} (h : s.size ≤ maxLen) : keyOf Tryd.prog 9 (.string s) = some (sk s) := WideMaps.keyOf_string_mk Tryd.underlying9 h
theorem sk_inj {s s' : ByteArray} (h : sk s = sk s') : s = s' := by
  unfold sk at h
  injection h with h
  obtain ⟨⟨l⟩⟩ := s
  obtain ⟨⟨l'⟩⟩ := s'
  simp at h
  rw [h]
theorem plainElem_bool_inv {v : Value} {z : DataW Unit × List MemPlace} (h : plainElem Tryd.prog 4 v = some z) : ∃ x, v = .bool x ∧ z = (.lit (.bool x), []) := by
  unfold plainElem at h
  rw [Tryd.underlying4] at h
  cases v <;> simp at h
  exact ⟨_, rfl, h.symm⟩
/-- block b is a map: of each text what g says -/
def Sm (w : World) (b n : Nat) (g : ByteArray → Bool) : Prop :=
  ∃ D : DataW Unit, w.ownsMap Tryd.prog 9 (plainElem Tryd.prog 4) b n D ∧ ∀ s, s.size ≤ maxLen → D.atKey (sk s) (.lit (.bool false)) = .lit (.bool (g s))
section
variable {w w' : World} {b n : Nat} {g g' : ByteArray → Bool}
theorem Sm.lt (h : Sm w b n g) : b < w.heap.size := by obtain ⟨D, h, _⟩ := h; exact h.lt
theorem Sm.of_block (h : Sm w b n g) (hb : w'.heap[b]? = w.heap[b]?) : Sm w' b n g := by
  obtain ⟨D, ⟨es, clock, h1, h2⟩, h⟩ := h
  exact ⟨D, ⟨es, clock, hb.trans h1, h2⟩, h⟩
theorem Sm.below (h : Sm w b n g) (hb : Below w.heap.size w w') : Sm w' b n g := h.of_block (hb.block b h.lt)
theorem Sm.grown {row : Option Nat} (h : Sm w b n g) (hg : w.grownBy w' row) (hne : some b ≠ row) : Sm w' b n g := h.of_block (hg.block b h.lt hne)
theorem Sm.ext (h : Sm w b n g) (e : ∀ s, g s = g' s) : Sm w b n g' := by
  obtain ⟨D, h1, h⟩ := h
  exact ⟨D, h1, fun s hs => by rw [← e s]; exact h s hs⟩
theorem Sm.made (w : World) : Sm (w.alloc (.map #[] 0)) w.heap.size 0 (fun _ => false) :=
  ⟨.map [], World.ownsMap_made w _ _ _, fun _ _ => rfl⟩
theorem Sm.put (h : Sm w b n g) (hn : n < maxLen) {s : ByteArray} (hs : s.size ≤ maxLen) :
    ∃ w', (Instr.mapUpdate 61 (.map (some b)) (.string s) (.bool true)).run Tryd.prog w = .ok () w' ∧ Sm w' b (n + 1) (fun s' => g s' || (s'.toList == s.toList)) ∧ w.grownBy w' (some b) := by
  obtain ⟨D, hown, hD⟩ := h
  have hkey := strKey hs
  obtain ⟨w', hrun, hown', hg⟩ := hown.update lawStr Tryd.underlying61 hn hkey (plainElem_bool (H := Unit) (P := Tryd.prog) (e := 4) Tryd.underlying4 true)
  refine ⟨w', hrun, ⟨_, hown', fun s' hs' => ?_⟩, hg⟩
  by_cases e : s' = s
  · subst e
    rw [Maps.atKey_put_same hown.isMap (lawStr.key hkey)]
    simp
  · have hne : sk s' ≠ sk s := fun h => e (sk_inj h)
    rw [Maps.atKey_put_other hne, hD s' hs']
    have h2 : (s'.toList == s.toList) = false := by
      rw [beq_eq_false_iff_ne]
      intro h
      apply hne
      have h3 : s'.data.toList = s.data.toList := by
        have h4 := ByteArray.toList_eq s' 
        have h5 := ByteArray.toList_eq s
        rw [← h4, ← h5]; exact h
      unfold sk; rw [h3]
    show _ = DataW.lit (.bool (g s' || (s'.toList == s.toList)))
    rw [h2, Bool.or_false]
theorem Sm.look1 (h : Sm w b n g) {s : ByteArray} (hs : s.size ≤ maxLen) :
    (Instr.lookup 61 (.map (some b)) (.string s) false).run Tryd.prog w = .ok (.bool (g s)) w := by
  obtain ⟨D, hown, hD⟩ := h
  have h2 := hD s hs
  obtain ⟨v, ps, hrun, hv⟩ := hown.lookup lawStr Tryd.underlying61 (zeroB w) (plainElem_bool (H := Unit) (P := Tryd.prog) (e := 4) Tryd.underlying4 false) (strKey hs)
  obtain ⟨x, rfl, hx⟩ := plainElem_bool_inv hv
  simp only [Prod.mk.injEq] at hx
  rw [h2] at hx
  obtain ⟨hx, -⟩ := hx
  injection hx with hx
  injection hx with hx
  rw [hrun, hx]
end

end Go.Proofs.YtalfonpkefhlmaaDoor.T

