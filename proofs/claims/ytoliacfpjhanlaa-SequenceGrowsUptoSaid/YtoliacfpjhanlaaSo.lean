/-
  DERIVED. So: a part of the base of layer 13 (made by pack.py).
-/
import Derived.Laws.IdiomCopy
import Derived.Deep.OwnRows
import Derived.Test.YtoliacfpjhanlaaSf
import Derived.Test.YtoliacfpjhanlaaSg
/-! The search for sequences: what it answers, and how its memory stands. -/
namespace Go.Proofs.Ytoliacfpjhanlaa.T
open Go.RowKit
set_option maxRecDepth 8000

/-! ### what is left to be done -/
def muB (s : Nat) : Nat := ((List.range 63).filter fun k => S.has s k).length
theorem muB_lt {s t k : Nat} (hk : k < 63) (hs : S.has s k = true) (ht : S.has t k = false) (h : ∀ i, S.has t i = true → S.has s i = true) : muB t < muB s :=
  U.filter_lt _ _ (List.range 63) h (List.mem_range.2 hk) hs ht
def WaT.mu (x : WaT) (d : Nat × Nat) : Nat := muB (U.minus x.P d.1) + muB (U.minus x.D d.2)
/-- progress is not great -/
def Dn (d : Nat × Nat) : Prop := d.1 < 9223372036854775808 ∧ d.2 < 9223372036854775808
theorem mem_nxtK {W und left : Nat} {A : List Nat} {v : Int × Bool} : ∀ k, v ∈ nxtK W und left A k → ∃ i, i < k ∧ v = ((i : Int), !S.has und i) ∧ S.has (W &&& left) i = true ∧ A.getD i 0 &&& left = 0
  | 0, h => by cases h
  | k + 1, h => by
    unfold nxtK at h
    rcases List.mem_append.1 h with h | h
    · obtain ⟨i, hi, h2⟩ := mem_nxtK k h
      exact ⟨i, by omega, h2⟩
    · unfold nxt1 at h
      split at h
      · rename_i hc
        exact ⟨k, by omega, List.mem_singleton.1 h, hc.1, hc.2⟩
      · cases h
theorem next_ok {x : WaT} (hx : x.B) {d : Nat × Nat} (hd : Dn d) {v : Int × Bool} (h : v ∈ nextW x d) : num62 v.1 = true ∧ Dn (withP d v) ∧ x.mu (withP d v) < x.mu d := by
  obtain ⟨i, hi, rfl, hw, -⟩ := mem_nxtK _ h
  have hi63 : i < 63 := Nat.lt_of_lt_of_le hi hx.l
  have hn : num62 (i : Int) = true := by unfold num62; rw [decide_eq_true (by omega), decide_eq_true (by omega)]; rfl
  have hp2 : 2 ^ i < 9223372036854775808 := Nat.pow_lt_pow_right (a := 2) (n := 63) (by omega) hi63
  have hor : ∀ a, a < 9223372036854775808 → a ||| 2 ^ i < 9223372036854775808 := fun a ha => Nat.or_lt_two_pow (n := 63) ha hp2
  have hl : S.has (x.left d) i = true := by
    rw [U.has_bit, Nat.testBit_and, Bool.and_eq_true, ← U.has_bit, ← U.has_bit] at hw
    exact hw.2
  have hsub : ∀ (P a : Nat), P < 9223372036854775808 → a < 9223372036854775808 → (∀ k, S.has (U.minus P (a ||| 2 ^ i)) k = true → S.has (U.minus P a) k = true) ∧ S.has (U.minus P (a ||| 2 ^ i)) i = false := by
    intro P a hP ha
    refine ⟨fun k hk => ?_, ?_⟩
    · rw [U.has_minus hP (hor a ha), U.has_or] at hk
      rw [U.has_minus hP ha]
      cases h1 : S.has P k <;> cases h2 : S.has a k <;> simp_all
    · rw [U.has_minus hP (hor a ha), U.has_or, U.has_pow, decide_eq_true rfl]
      simp
  refine ⟨hn, ?_⟩
  unfold withP WaT.mu
  cases hu : S.has (x.und d) i
  · -- a delivery
    rw [if_pos (by rfl : (!false) = true)]
    have hD : S.has (U.minus x.D d.2) i = true := by
      unfold WaT.left at hl
      rw [U.has_or, hu, Bool.false_or] at hl
      exact hl
    have h9 := hsub x.D d.2 hx.d hd.2
    have h8 := muB_lt hi63 hD h9.2 h9.1
    simp only [Int.toNat_natCast]
    exact ⟨⟨hd.1, hor _ hd.2⟩, by omega⟩
  · rw [if_neg (by decide : ¬ (!true) = true)]
    have h9 := hsub x.P d.1 hx.p hd.1
    have hu2 : S.has (U.minus x.P d.1) i = true := hu
    have h8 := muB_lt hi63 hu2 h9.2 h9.1
    simp only [Int.toNat_natCast]
    exact ⟨⟨hor _ hd.1, hd.2⟩, by omega⟩

/-! ### the sequences -/
def extF (x : WaT) : Nat → List (Int × Bool) → Nat × Nat → List (List (Int × Bool)) → List (List (Int × Bool))
  | 0, _, _, f => f
  | n + 1, L, d, f => (nextW x d).foldl (fun f v => if 8192 < f.length then f else extF x n (L ++ [v]) (withP d v) f) (if (nextW x d).length = 0 ∧ 0 < L.length then f ++ [L] else f)
theorem fold_len {α : Type} (g : List (List (Int × Bool)) → α → List (List (Int × Bool))) (hg : ∀ f v, f.length ≤ 8192 → (g f v).length ≤ 8193) : ∀ (l : List α) (f : List (List (Int × Bool))), f.length ≤ 8193 → (l.foldl (fun f v => if 8192 < f.length then f else g f v) f).length ≤ 8193
  | [], f, h => h
  | v :: l, f, h => by
    rw [List.foldl_cons]
    refine fold_len g hg l _ ?_
    split
    · exact h
    · exact hg f v (by omega)
theorem extF_len (x : WaT) : ∀ (n : Nat) (L : List (Int × Bool)) (d : Nat × Nat) (f : List (List (Int × Bool))), f.length ≤ 8192 → (extF x n L d f).length ≤ 8193
  | 0, _, _, f, h => by unfold extF; omega
  | n + 1, L, d, f, h => by
    unfold extF
    refine fold_len (fun f v => extF x n (L ++ [v]) (withP d v) f) (fun f _ hf => extF_len x n _ _ f hf) _ _ ?_
    split
    · rw [List.length_append]; simp only [List.length_singleton]; omega
    · omega
/-- the search at the j-th of the visits that can follow -/
def extJ (x : WaT) (n : Nat) (L : List (Int × Bool)) (d : Nat × Nat) (f : List (List (Int × Bool))) (j : Nat) : List (List (Int × Bool)) :=
  ((nextW x d).take j).foldl (fun f v => if 8192 < f.length then f else extF x n (L ++ [v]) (withP d v) f) f
theorem extJ_more {x : WaT} {n : Nat} {L : List (Int × Bool)} {d : Nat × Nat} {f : List (List (Int × Bool))} {j : Nat} (hj : j < (nextW x d).length) (hf : ¬ 8192 < (extJ x n L d f j).length) :
    extJ x n L d f (j + 1) = extF x n (L ++ [(nextW x d).getD j (0, false)]) (withP d ((nextW x d).getD j (0, false))) (extJ x n L d f j) := by
  unfold extJ at hf ⊢
  rw [take_more (d := (0, false)) hj, List.foldl_append, List.foldl_cons, List.foldl_nil, if_neg hf]
theorem fold_stop {α : Type} (g : List (List (Int × Bool)) → α → List (List (Int × Bool))) {f : List (List (Int × Bool))} (h : 8192 < f.length) : ∀ l : List α, l.foldl (fun f v => if 8192 < f.length then f else g f v) f = f
  | [] => rfl
  | v :: l => by rw [List.foldl_cons, if_pos h]; exact fold_stop g h l
theorem extJ_stop {x : WaT} {n : Nat} {L : List (Int × Bool)} {d : Nat × Nat} {f : List (List (Int × Bool))} {j : Nat} (hf : 8192 < (extJ x n L d f j).length) : extJ x n L d f (nextW x d).length = extJ x n L d f j := by
  have e : extJ x n L d f (nextW x d).length = (((nextW x d).drop j).foldl (fun f v => if 8192 < f.length then f else extF x n (L ++ [v]) (withP d v) f) (extJ x n L d f j)) := by
    unfold extJ
    rw [List.take_length, ← List.foldl_append, List.take_append_drop]
  rw [e]
  exact fold_stop (fun f v => extF x n (L ++ [v]) (withP d v) f) hf _
theorem extF_succ (x : WaT) (n : Nat) (L : List (Int × Bool)) (d : Nat × Nat) (f : List (List (Int × Bool))) : extF x (n + 1) L d f = extJ x n L d (if (nextW x d).length = 0 ∧ 0 < L.length then f ++ [L] else f) (nextW x d).length := by
  unfold extJ
  rw [List.take_length]
  rfl
/-! ### memory -/
/-- all blocks but those that Z names are as they were -/
structure Keep (Z : Nat → Prop) (w w' : World) : Prop where
  os : w'.os = w.os
  tape : w'.tape = w.tape
  output : w'.output = w.output
  size : w.heap.size ≤ w'.heap.size
  block : ∀ k, k < w.heap.size → ¬ Z k → w'.heap[k]? = w.heap[k]?
theorem Keep.refl (Z : Nat → Prop) (w : World) : Keep Z w w := ⟨rfl, rfl, rfl, Nat.le_refl _, fun _ _ _ => rfl⟩
theorem Keep.trans {Z Z' : Nat → Prop} {a b c : World} (h : Keep Z a b) (k : Keep Z' b c) (hz : ∀ i, i < a.heap.size → Z' i → Z i) : Keep Z a c :=
  ⟨k.os.trans h.os, k.tape.trans h.tape, k.output.trans h.output, Nat.le_trans h.size k.size, fun i hi hn => (k.block i (Nat.lt_of_lt_of_le hi h.size) fun e => hn (hz i hi e)).trans (h.block i hi hn)⟩
theorem Keep.below {Z : Nat → Prop} {a b c : World} (h : Keep Z a b) (k : Below b.heap.size b c) : Keep Z a c :=
  ⟨k.os.trans h.os, k.tape.trans h.tape, k.output.trans h.output, Nat.le_trans h.size k.size, fun i hi hn => (k.block i (Nat.lt_of_lt_of_le hi h.size)).trans (h.block i hi hn)⟩
theorem Keep.grown {Z : Nat → Prop} {a b c : World} {r : Option Nat} (h : Keep Z a b) (k : b.grownBy c r) (hz : ∀ i, i < a.heap.size → r = some i → Z i) : Keep Z a c :=
  ⟨k.os.trans h.os, k.tape.trans h.tape, k.output.trans h.output, Nat.le_trans h.size k.size, fun i hi hn => (k.block i (Nat.lt_of_lt_of_le hi h.size) (fun e => hn (hz i hi e.symm))).trans (h.block i hi hn)⟩
theorem Cb.keep {Z : Nat → Prop} {w w' : World} {q : Nat} {cs : Array Value} {t : TypeId} (h : Cb w q cs t) (k : Keep Z w w') (hn : ¬ Z q) : Cb w' q cs t := (k.block q h.lt hn).trans h
theorem Cb.grownO {w w' : World} {q : Nat} {cs : Array Value} {t : TypeId} {r : Option Nat} (h : Cb w q cs t) (k : w.grownBy w' r) (hn : r ≠ some q) : Cb w' q cs t := (k.block q h.lt (Ne.symm hn)).trans h
theorem Rw.keep {Z : Nat → Prop} {w w' : World} {b o sz : Nat} {E : Nat → List Value} {n : Nat} {oa : Option Addr} (h : Rw w b o sz E n oa) (k : Keep Z w w') (hn : ∀ i, i < n → ¬ Z b) : Rw w' b o sz E n oa := fun i hi => by
  obtain ⟨h1, h2, h3⟩ := h i hi
  exact ⟨h1, Nat.lt_of_lt_of_le h2 k.size, fun j v hj => (World.cell?_of_block (w := w) (a := ⟨b, _, none⟩) (k.block b h2 (hn i hi))).trans (h3 j v hj)⟩
theorem Rw.grownO {w w' : World} {b o sz : Nat} {E : Nat → List Value} {n : Nat} {oa : Option Addr} {r : Option Nat} (h : Rw w b o sz E n oa) (k : w.grownBy w' r) (hn : ∀ i, i < n → r ≠ some b) : Rw w' b o sz E n oa := fun i hi => by
  obtain ⟨h1, h2, h3⟩ := h i hi
  exact ⟨h1, Nat.lt_of_lt_of_le h2 k.size, fun j v hj => (World.cell?_of_block (w := w) (a := ⟨b, _, none⟩) (k.block b h2 (Ne.symm (hn i hi)))).trans (h3 j v hj)⟩
theorem own_keep {Z : Nat → Prop} {w w' : World} {B : Nat} {e : TypeId} {s : Nat} {v : Value} {n : Nat} {xs : List Value} (h : w.ownsRow B e s v n xs) (k : Keep Z w w') (hn : ∀ i, v.ownBlock = some i → ¬ Z i) : w'.ownsRow B e s v n xs := by
  refine ⟨h.1, ?_⟩
  rcases h.2 with h0 | ⟨g, cap, cur, rfl, hb, hg, rest⟩
  · exact .inl h0
  · exact .inr ⟨g, cap, cur, rfl, hb, by rw [k.block g (Array.getElem?_eq_some_iff.1 hg).1 (hn g rfl)]; exact hg, rest⟩
theorem own_below {w w' : World} {B : Nat} {e : TypeId} {s : Nat} {v : Value} {n : Nat} {xs : List Value} (h : w.ownsRow B e s v n xs) (k : Below w.heap.size w w') : w'.ownsRow B e s v n xs :=
  own_keep (Z := fun _ => False) h ⟨k.os, k.tape, k.output, k.size, fun i hi _ => k.block i hi⟩ fun _ _ => id
/-- one visit more: in the same block, or in a new one -/
theorem ap_e16 {B : Nat} {w : World} {v u : Value} {l m : List (Int × Bool)} (ty : TypeId) (hv : Gw B w v l) (hu : Lw w u m) (hm : m.length = 1) (hB : B ≤ w.heap.size) (hn : l.length ≤ 1000000) :
    ∃ v' w', (Builtin.append_ #[32, 32] ty #[v, u]).run Try.prog w = .ok v' w' ∧ Gw B w' v' (l ++ m) ∧
      ((v'.ownBlock = some w.heap.size ∧ Below w.heap.size w w') ∨ (∃ g cap, v = .slice (some ⟨g, 0, none⟩) l.length cap ∧ v' = .slice (some ⟨g, 0, none⟩) (l.length + 1) cap ∧ w.grownBy w' (some g))) := by
  obtain ⟨i, hi, hz, hs, hby⟩ := infoW
  obtain ⟨oa, c, rfl, hl, -⟩ := hu
  cases oa with
  | none => have := vs_nil hl; subst this; cases hm
  | some ad =>
    have hnews := vs_news hl
    have hf : (flat vE vA m).length = m.length * i.size := by rw [hs]; exact flat_len (E0 := vE) (E1 := vA) m
    have hf2 : (flat vE vA m).length = m.length * 2 := flat_len (E0 := vE) (E1 := vA) m
    have h0 := hv.own
    have hht := Try.underlying32
    have hll : (flat vE vA l).length = l.length * 2 := flat_len (E0 := vE) (E1 := vA) l
    have grow : ∀ old, old < l.length + m.length → Gw B (w.drew.alloc (.cells ((flat vE vA l).toArray ++ (flat vE vA m).toArray ++ Builtin.zeroCells (Value.agg #[.int .i64 0, .bool false]).cells (grownCap w (l.length + m.length) old 52 - (l.length + m.length))) 52)) (.slice (some ⟨w.heap.size, 0, none⟩) (l.length + m.length) (grownCap w (l.length + m.length) old 52)) (l ++ m) := by
      intro old ho
      have hge := grownCap_ge w (l.length + m.length) old 52
      have hcm := grownCap_le_maxLen w (l.length + m.length) old 52 (by unfold maxLen; omega)
      refine Gw.onto ⟨by rw [List.length_append, hll, hf, hs, Nat.add_mul], .inr ⟨w.heap.size, _, _, rfl, hB, heap_alloc_new w.drew _, hge, hcm, ?_, ?_⟩⟩
      · simp only [Array.size_append, List.size_toArray, size_zeroCells, hll, hf, hs]
        show _ + _ * 2 = _ * 2
        omega
      · simp only [Array.toList_append, List.append_assoc]
        have e : (l.length + m.length) * 2 = (flat vE vA l ++ flat vE vA m).length := by rw [List.length_append, hll, hf, hs]; omega
        rw [← List.append_assoc, e]
        exact List.take_left
    have hbel : ∀ o : Obj, Below w.heap.size w (w.drew.alloc o) := fun o => (below_drew (Below.refl _ w)).trans (below_alloc w.drew o)
    rcases h0.2 with ⟨rfl, hn0⟩ | ⟨g, cap, cur, rfl, hbg, hg, hnc, hcm, hcs, htake⟩
    · have hle : l = [] := List.eq_nil_of_length_eq_zero hn0
      subst hle
      have hr := run_append_nil (P := Try.prog) w 32 ty 52 i _ hht hi hz ad m.length c (flat vE vA m) hf hnews (by omega) (by omega) (by rw [hby]; omega)
      have hg := grow 0 (by simp; omega)
      simp only [List.length_nil, Nat.zero_add, List.nil_append] at hg ⊢
      have e0 : (flat vE vA ([] : List (Int × Bool))).toArray = #[] := rfl
      rw [e0, Array.empty_append] at hg
      exact ⟨_, _, hr, hg, .inl ⟨rfl, hbel _⟩⟩
    · by_cases hroom : l.length + m.length ≤ cap
      · have hr := run_append_room (P := Try.prog) w 32 ty 52 i hht hi g l.length cap cur hg ad m.length c (flat vE vA m) hf hnews (flatw_cells m) hroom (by rw [hf, hs, hcs]; omega)
        refine ⟨_, _, hr, Gw.onto ⟨by rw [List.length_append, hll, hf, hs, Nat.add_mul], .inr ⟨g, cap, _, rfl, hbg, setRow_heap w g cur _ _ _ hg, hroom, hcm, ?_, ?_⟩⟩, .inr ⟨g, cap, rfl, by rw [hm], grown_row _ _ _⟩⟩
        · simp only [hs, List.size_toArray, List.length_append, List.length_take, List.length_drop, Array.length_toList]
          omega
        · rw [hs, htake]
          have e : (l.length + m.length) * 2 = (flat vE vA l ++ flat vE vA m).length := by rw [List.length_append, hll, hf, hs]; omega
          rw [e]
          exact List.take_left
      · have holds : ∀ j u, (flat vE vA l)[j]? = some u → w.cell? ((⟨g, 0, none⟩ : Addr).add j) = some u := h0.cells (g := g) rfl
        have hr := run_append_grow (P := Try.prog) w 32 ty 52 i _ hht hi hz ⟨g, 0, none⟩ l.length cap (flat vE vA l) (by rw [hll, hs]) holds ad m.length c (flat vE vA m) hf hnews (by omega) (by omega) (by rw [hby]; exact growslice_fits (by omega) (by omega))
        exact ⟨_, _, hr, grow cap (by omega), .inl ⟨rfl, hbel _⟩⟩
theorem Gw.back {B : Nat} {w : World} {g cap : Nat} {l : List (Int × Bool)} {x : Int × Bool} (h : Gw B w (.slice (some ⟨g, 0, none⟩) (l.length + 1) cap) (l ++ [x])) : Gw B w (.slice (some ⟨g, 0, none⟩) l.length cap) l := by
  have h0 := h.own
  have hll : (flat vE vA l).length = l.length * 2 := flat_len (E0 := vE) (E1 := vA) l
  rcases h0.2 with ⟨hv, -⟩ | ⟨g', cap', cur, hv, hbg, hg, hnc, hcm, hcs, htake⟩
  · cases hv
  · simp only [Value.slice.injEq, Option.some.injEq, Addr.mk.injEq, and_true] at hv
    obtain ⟨rfl, -, rfl⟩ := hv
    refine (⟨hll, .inr ⟨g, cap, cur, rfl, hbg, hg, ?_, hcm, hcs, ?_⟩⟩ : w.ownsRow B _ 2 _ l.length (flat vE vA l))
    · rw [List.length_append] at hnc; simp only [List.length_singleton] at hnc; omega
    · rw [flat_snoc] at htake
      have h2 := congrArg (List.take (l.length * 2)) htake
      rw [List.take_take, List.length_append] at h2
      simp only [List.length_singleton] at h2
      rw [Nat.min_eq_left (by omega), ← hll, List.take_left] at h2
      rw [← hll]
      exact h2
end Go.Proofs.Ytoliacfpjhanlaa.T


