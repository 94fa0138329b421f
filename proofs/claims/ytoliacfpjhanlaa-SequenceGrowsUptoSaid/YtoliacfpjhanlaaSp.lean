/-
  DERIVED. Sp: a part of the base of layer 13 (made by pack.py).
-/
import Derived.Test.YtoliacfpjhanlaaSh
import Derived.Test.YtoliacfpjhanlaaSo
/-! Found sequences; Clone (by gen_sp.py). -/
namespace Go.Proofs.Ytoliacfpjhanlaa.T
open Go.RowKit
set_option maxRecDepth 8000
attribute [local irreducible] wpList Code.wp wpAnyH

theorem gw_some {B : Nat} {w : World} {v : Value} {l : List (Int × Bool)} (h : Gw B w v l) (hl : 0 < l.length) : ∃ g cap, v = .slice (some ⟨g, 0, none⟩) l.length cap ∧ B ≤ g ∧ g < w.heap.size := by
  rcases h.2 with ⟨-, h0⟩ | ⟨g, cap, cur, rfl, hb, hg, -⟩
  · omega
  · exact ⟨g, cap, rfl, hb, (Array.getElem?_eq_some_iff.1 hg).1⟩
theorem gw_row {B : Nat} {w : World} {g cap : Nat} {l : List (Int × Bool)} (h : Gw B w (.slice (some ⟨g, 0, none⟩) l.length cap) l) : Rw w g 0 2 (vF l) l.length (some ⟨g, 0, none⟩) := by
  have hs : Vs w (.slice (some ⟨g, 0, none⟩) l.length cap) l := Gn.sl h
  obtain ⟨b, o, hr⟩ := hs.rw2
  intro k hk
  have h1 := hr.oa hk
  simp only [Option.some.injEq, Addr.mk.injEq, and_true] at h1
  obtain ⟨rfl, rfl⟩ := h1
  exact hr k hk
theorem gw_made {w : World} {q B : Nat} (hc : Cb w q #[] 52) (hB : B ≤ q) : Gw B w (.slice (some ⟨q, 0, none⟩) 0 0) [] :=
  (⟨rfl, .inr ⟨q, 0, #[], rfl, hB, hc, Nat.le_refl _, by unfold maxLen; omega, rfl, rfl⟩⟩ : w.ownsRow B _ 2 _ 0 [])
/-- u is a slice that holds L, at a block of its own -/
def ElR (w : World) (u : Value) (L : List (Int × Bool)) : Prop := ∃ b c, u = .slice (some ⟨b, 0, none⟩) L.length c ∧ Rw w b 0 2 (vF L) L.length (some ⟨b, 0, none⟩) ∧ b < w.heap.size
structure El (w : World) (vs : List Value) (f : List (List (Int × Bool))) : Prop where
  len : vs.length = f.length
  at_ : ∀ i, i < f.length → ElR w (vs.getD i undef) (f.getD i [])
theorem ElR.keep {Z : Nat → Prop} {w w' : World} {u : Value} {L : List (Int × Bool)} (h : ElR w u L) (k : Keep Z w w') (hn : ∀ b, u.ownBlock = some b → ¬ Z b) : ElR w' u L := by
  obtain ⟨b, c, rfl, hr, hb⟩ := h
  exact ⟨b, c, rfl, hr.keep k (fun _ _ => hn b rfl), Nat.lt_of_lt_of_le hb k.size⟩
theorem El.keep {Z : Nat → Prop} {w w' : World} {vs : List Value} {f : List (List (Int × Bool))} (h : El w vs f) (k : Keep Z w w') (hn : ∀ u ∈ vs, ∀ b, u.ownBlock = some b → ¬ Z b) : El w' vs f :=
  ⟨h.len, fun i hi => (h.at_ i hi).keep k (hn _ (getD_mem (by rw [h.len]; exact hi)))⟩
theorem El.below {w w' : World} {vs : List Value} {f : List (List (Int × Bool))} (h : El w vs f) (k : Below w.heap.size w w') : El w' vs f :=
  ⟨h.len, fun i hi => by
    obtain ⟨b, c, hu, hr, hb⟩ := h.at_ i hi
    exact ⟨b, c, hu, hr.below k, Nat.lt_of_lt_of_le hb k.size⟩⟩
theorem El.lt {w : World} {vs : List Value} {f : List (List (Int × Bool))} (h : El w vs f) {u : Value} (hu : u ∈ vs) {b : Nat} (hb : u.ownBlock = some b) : b < w.heap.size := by
  obtain ⟨i, hi, rfl⟩ := List.getElem_of_mem hu
  obtain ⟨b', c, hv, -, hl⟩ := h.at_ i (by rw [← h.len]; exact hi)
  rw [List.getD_eq_getElem?_getD, List.getElem?_eq_getElem hi] at hv
  simp only [Option.getD_some] at hv
  rw [hv] at hb
  simp only [Value.ownBlock, Option.some.injEq] at hb
  omega
theorem El.more {w : World} {vs : List Value} {f : List (List (Int × Bool))} {u : Value} {L : List (Int × Bool)} (h : El w vs f) (hu : ElR w u L) : El w (vs ++ [u]) (f ++ [L]) := by
  refine ⟨by rw [List.length_append, List.length_append, h.len]; rfl, fun i hi => ?_⟩
  rw [List.length_append] at hi
  simp only [List.length_singleton] at hi
  rw [List.getD_eq_getElem?_getD, List.getD_eq_getElem?_getD]
  by_cases hlt : i < f.length
  · rw [List.getElem?_append_left (by rw [h.len]; exact hlt), List.getElem?_append_left hlt, ← List.getD_eq_getElem?_getD, ← List.getD_eq_getElem?_getD]
    exact h.at_ i hlt
  · have e : i = f.length := by omega
    subst e
    rw [← h.len, List.getElem?_append_right (Nat.le_refl _), h.len, List.getElem?_append_right (Nat.le_refl _)]
    simpa using hu
/-- the search's own list of sequences -/
def Fo (B : Nat) (w : World) (fv : Value) (vs : List Value) : Prop := w.ownsRow B 32 1 fv vs.length vs
theorem infoV0 : (Try.prog.info? 32).map (fun i => (i.zero, i.size, i.bytes)) = some (some (.slice none 0 0), 1, 24) := by kernel_rfl
theorem ap_f16 {B : Nat} {w : World} {fv u : Value} {vs : List Value} {q : Nat} (ty : TypeId) (hv : Fo B w fv vs) (hc : Cb w q #[u] 32) (hu : u.oneCell' = true) (hB : B ≤ w.heap.size) (hn : vs.length ≤ 1000000) :
    ∃ v' w', (Builtin.append_ #[40, 40] ty #[fv, .slice (some ⟨q, 0, none⟩) 1 1]).run Try.prog w = .ok v' w' ∧ Fo B w' v' (vs ++ [u]) ∧ w.grownBy w' fv.ownBlock ∧ (v'.ownBlock = fv.ownBlock ∨ v'.ownBlock = some w.heap.size) := by
  obtain ⟨i, hi, hzz⟩ := Option.map_eq_some_iff.1 infoV0
  simp only [Prod.mk.injEq] at hzz
  obtain ⟨hz, hs, hby⟩ := hzz
  obtain ⟨v', w', hr, h2, h3, -, h5⟩ := run_append_own_at (P := Try.prog) w B 40 ty 32 i (.slice none 0 0) 1 24 Try.underlying40 hi hz hs hby rfl (by decide) fv vs.length vs hv ⟨q, 0, none⟩ 1 1 [u] rfl
    (fun j x hj => by
      match j, hj with
      | 0, hj => simp only [List.getElem?_cons_zero, Option.some.injEq] at hj; subst hj; exact hc.cell 0 rfl) (fun x hx => by rw [List.mem_singleton] at hx; rw [hx]; exact hu) (by unfold maxLen; omega) (by omega) hB
  refine ⟨v', w', hr, ?_, h3, h5⟩
  unfold Fo
  rw [List.length_append]
  exact h2
theorem cloneV_n (g cap : Nat) (l : List (Int × Bool)) (hl : 0 < l.length) (ll : l.length ≤ 1000000) (w : World) (hv : Rw w g 0 2 (vF l) l.length (some ⟨g, 0, none⟩)) : Calls Try.prog 40 #[.slice (some ⟨g, 0, none⟩) l.length cap] w fun e w' => ∃ u, e = .returned u ∧ ElR w' u l ∧ (∀ b, u.ownBlock = some b → w.heap.size ≤ b) ∧ Below w.heap.size w w' := by
  have HB : Below w.heap.size w w := Below.refl _ _
  refine sx_enter Try.func40 rfl [(0, .slice (some ⟨g, 0, none⟩) l.length cap)] (by kernel_rfl) ?_
  refine wp_seq ?_
  refine wp_region_lit ?_
  refine sx_val (by kernel_rfl) rfl rfl (.slice none 0 0) (by kernel_rfl) ?_
  refine wpList_nil ?_
  refine sx_norm ?_
  refine wp_seq ?_
  refine wp_seq ?_
  refine wp_region_lit ?_
  refine sx_val (by kernel_rfl) rfl rfl (.slice (some ⟨g, 0, none⟩) l.length cap) (by kernel_rfl) ?_
  refine sx_val (by kernel_rfl) rfl rfl (.bool false) (by kernel_rfl) ?_
  refine wpList_nil ?_
  refine sx_norm ?_
  refine sx_false (by kernel_rfl) ?_
  refine wp_skip ?_
  refine sx_norm ?_
  refine wp_seq ?_
  refine wp_region_lit ?_
  obtain ⟨W1, hW⟩ : ∃ W, w.alloc (.cells #[] 52) = W := ⟨_, rfl⟩
  have hb := hW ▸ below_alloc w (.cells #[] 52)
  have hq : Cb W1 w.heap.size #[] 52 := hW ▸ Cb.made w #[] 52
  refine sx_mem (by kernel_rfl) rfl rfl (.slice (some ⟨w.heap.size, 0, none⟩) 0 0) W1 (by rw [← hW]; kernel_rfl) ?_
  replace HB := over HB hb
  have z1 := hb.size
  have M2 := hq
  have yM2 := hq.lt
  clear hq hb hW
  refine sx_val (by kernel_rfl) rfl rfl (.slice (some ⟨g, 0, none⟩) l.length cap) (by kernel_rfl) ?_
  have hl9 : Lw W1 (.slice (some ⟨g, 0, none⟩) l.length cap) l := ⟨_, _, rfl, Sl.of_rw (hv.below HB), fun h => by cases h⟩
  obtain ⟨v5, W5, h5, hg5, hb, -, -⟩ := ap_w 32 (gw_made M2 (Nat.le_refl _)) hl9 (by omega) (by simp; omega)
  have hg6 : Gw w.heap.size W5 v5 l := hg5
  obtain ⟨b9, c9, rfl, hb9, hb8⟩ := gw_some hg6 hl
  have HB5 := HB.trans hb
  refine sx_mem (by kernel_rfl) rfl rfl (.slice (some ⟨b9, 0, none⟩) l.length c9) W5 (ex_append rfl (by kernel_rfl) (by kernel_rfl) h5) ?_
  refine sx_val (by kernel_rfl) rfl rfl (.slice (some ⟨b9, 0, none⟩) l.length c9) (by kernel_rfl) ?_
  refine wpList_nil ?_
  refine sx_norm ?_
  refine wp_ret ?_
  exact sx_ret1 (.slice (some ⟨b9, 0, none⟩) l.length c9) rfl rfl (by kernel_rfl) ⟨_, rfl, ⟨b9, c9, rfl, gw_row hg6, hb8⟩, (fun b hb => by simp only [Value.ownBlock, Option.some.injEq] at hb; omega), HB5⟩

end Go.Proofs.Ytoliacfpjhanlaa.T


