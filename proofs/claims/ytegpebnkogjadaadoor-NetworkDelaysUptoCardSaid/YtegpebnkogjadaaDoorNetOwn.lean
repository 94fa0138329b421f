/-
  DERIVED. Slices of arcs that a call makes itself.
-/
import Derived.Test.YtegpebnkogjadaaDoorRefNet2
namespace Go.Proofs.YtegpebnkogjadaaDoor.T
open Go.RowKit
set_option maxRecDepth 8000

/-- an arc with its two slices -/
abbrev ArcV := ArcT × Value × Value
def c6 (x : ArcV) : List Value := [.int .i64 x.1.fr, .int .i64 x.1.to, .int .i64 x.1.prof, .int .i64 x.1.miles, x.2.1, x.2.2]
def fl6 (xs : List ArcV) : List Value := xs.flatMap c6
def av0 : ArcV := (arc0, .bool false, .bool false)
theorem fl6_len (xs : List ArcV) : (fl6 xs).length = xs.length * 6 := by
  unfold fl6
  induction xs with
  | nil => rfl
  | cons x xs ih => rw [List.flatMap_cons, List.length_append, ih]; simp [c6]; omega
theorem fl6_snoc (xs : List ArcV) (x : ArcV) : fl6 (xs ++ [x]) = fl6 xs ++ c6 x := by unfold fl6; simp
theorem fl6_at : ∀ (xs : List ArcV) (i j : Nat), i < xs.length → j < 6 → (fl6 xs)[i * 6 + j]? = (c6 (xs.getD i av0))[j]?
  | x :: xs, 0, j, _, hj => by
    unfold fl6
    rw [List.flatMap_cons, Nat.zero_mul, Nat.zero_add, List.getElem?_append_left (by simp [c6]; omega)]
    rfl
  | x :: xs, i + 1, j, h, hj => by
    have := fl6_at xs i j (by simpa using h) hj
    unfold fl6 at this ⊢
    rw [List.flatMap_cons, List.getElem?_append_right (by simp [c6]; omega)]
    rw [show (i + 1) * 6 + j - (c6 x).length = i * 6 + j by simp [c6]; omega]
    simpa using this
/-- the call's own slice of arcs -/
def Ga (B : Nat) (w : World) (v : Value) (xs : List ArcV) : Prop := w.ownsRow B 36 6 v xs.length (fl6 xs)
section
variable {B : Nat} {w w' : World} {v : Value} {xs : List ArcV}
theorem Ga.nil (B : Nat) (w : World) : Ga B w (.slice none 0 0) [] := World.ownsRow_nil w B _ _
theorem Ga.own (h : Ga B w v xs) : w.ownsRow B 36 6 v xs.length (fl6 xs) := h
theorem Ga.frame (h : Ga B w v xs) (hb : Below w.heap.size w w') : Ga B w' v xs := by
  refine ⟨h.1, ?_⟩
  rcases h.2 with hn | ⟨g, cap, cur, e, hbg, hgg, rest⟩
  · exact .inl hn
  · refine .inr ⟨g, cap, cur, e, hbg, ?_, rest⟩
    rw [hb.block g (Array.getElem?_eq_some_iff.1 hgg).1]; exact hgg
theorem Ga.of_block (h : Ga B w v xs) (hb : ∀ g, v.ownBlock = some g → w'.heap[g]? = w.heap[g]?) : Ga B w' v xs := by
  refine ⟨h.1, ?_⟩
  rcases h.2 with hn | ⟨g, cap, cur, e, hbg, hgg, rest⟩
  · exact .inl hn
  · subst e
    exact .inr ⟨g, cap, cur, rfl, hbg, (hb g rfl).trans hgg, rest⟩
theorem Ga.blk (h : Ga B w v xs) : ∀ k, v.ownBlock = some k → B ≤ k := fun k hk => (World.ownsRow.lt h k hk).1
theorem Ga.lt (h : Ga B w v xs) : ∀ k, v.ownBlock = some k → k < w.heap.size := fun k hk => (World.ownsRow.lt h k hk).2
theorem Ga.ext {ys : List ArcV} (h : Ga B w v xs) (e : xs = ys) : Ga B w v ys := e ▸ h
theorem Ga.more (x : ArcV) (h : w.ownsRow B 36 6 v (xs.length + 1) (fl6 xs ++ c6 x)) : Ga B w v (xs ++ [x]) := by
  unfold Ga
  rw [List.length_append, fl6_snoc]
  exact h
/-- the slices of the arcs hold what they should -/
def Ea (w : World) (xs : List ArcV) : Prop := ∀ x ∈ xs, Ps w x.2.1 x.1.tr ∧ Ps w x.2.2 x.1.sl
theorem Ea.nil (w : World) : Ea w [] := fun x hx => by cases hx
theorem Ea.below (h : Ea w xs) (hb : Below w.heap.size w w') : Ea w' xs := fun x hx => ⟨(h x hx).1.below hb, (h x hx).2.below hb⟩
theorem Ea.more {x : ArcV} (h : Ea w xs) (h1 : Ps w x.2.1 x.1.tr) (h2 : Ps w x.2.2 x.1.sl) : Ea w (xs ++ [x]) := fun y hy => by
  rcases List.mem_append.1 hy with hy | hy
  · exact h y hy
  · rw [List.mem_singleton] at hy; subst hy; exact ⟨h1, h2⟩
/-- a slice lies beside a row -/
def Bes (u : Value) (row : Option Nat) : Prop := ∀ b o k c, u = .slice (some ⟨b, o, none⟩) k c → 0 < k → some b ≠ row
theorem Ps.grown {u : Value} {l : List (Int × Int)} {row : Option Nat} (h : Ps w u l) (hg : w.grownBy w' row) (hb : Bes u row) : Ps w' u l := by
  obtain ⟨oa, c, hv, h⟩ := h
  refine ⟨oa, c, hv, fun i hi => ?_⟩
  obtain ⟨b, o, ha, hl, h0, h1⟩ := h i hi
  have hne := hb b o l.length c (by rw [hv, ha]) (by omega)
  exact ⟨b, o, ha, Nat.lt_of_lt_of_le hl hg.size, hg.cell (a := ⟨b, _, none⟩) h0 hne, hg.cell (a := ⟨b, _, none⟩) h1 hne⟩
def Be (xs : List ArcV) (row : Option Nat) : Prop := ∀ x ∈ xs, Bes x.2.1 row ∧ Bes x.2.2 row
theorem Ea.grown {row : Option Nat} (h : Ea w xs) (hg : w.grownBy w' row) (hb : Be xs row) : Ea w' xs := fun x hx => ⟨Ps.grown (h x hx).1 hg (hb x hx).1, Ps.grown (h x hx).2 hg (hb x hx).2⟩
theorem Be.more {x : ArcV} {row : Option Nat} (h : Be xs row) (h1 : Bes x.2.1 row) (h2 : Bes x.2.2 row) : Be (xs ++ [x]) row := fun y hy => by
  rcases List.mem_append.1 hy with hy | hy
  · exact h y hy
  · rw [List.mem_singleton] at hy; subst hy; exact ⟨h1, h2⟩
/-- what is there lies beside a row that is made next, or that was made behind it -/
theorem Bes.fresh {u : Value} {l : List (Int × Int)} (h : Ps w u l) {g : Nat} (hg : w.heap.size ≤ g) : Bes u (some g) := fun b o k c hu hk hb => by
  obtain ⟨oa, c', hv, h⟩ := h
  rw [hu] at hv
  simp only [Value.slice.injEq] at hv
  obtain ⟨rfl, rfl, rfl⟩ := hv
  obtain ⟨b', o', ha, hl, -⟩ := h 0 hk
  simp only [Option.some.injEq, Addr.mk.injEq] at ha hb
  omega
theorem Bes.none (u : Value) : Bes u none := fun b o k c _ _ h => by cases h
theorem Ga.as (h : Ga B w v xs) (he : Ea w xs) : As w v (xs.map (·.1)) := by
  have hget : ∀ i, i < xs.length → (xs.map (·.1)).getD i arc0 = (xs.getD i av0).1 := fun i hi => by
    rw [List.getD_eq_getElem?_getD, List.getD_eq_getElem?_getD, List.getElem?_map, List.getElem?_eq_getElem hi]; rfl
  have hmem : ∀ i, i < xs.length → xs.getD i av0 ∈ xs := fun i hi => getD_mem hi
  rcases h.2 with ⟨hv, h0⟩ | ⟨g, cap, cur, rfl, hbg, hgg, hnc, rest⟩
  · have hx : xs = [] := List.eq_nil_of_length_eq_zero h0
    subst hx
    exact ⟨none, 0, hv, fun i hi => by cases hi⟩
  · refine ⟨some ⟨g, 0, none⟩, cap, by rw [List.length_map], fun i hi => ?_⟩
    rw [List.length_map] at hi
    have hc := fun j (hj : j < 6) => (World.ownsRow.cellAt (g := g) (cap := cap) (n := xs.length) (xs := fl6 xs) (w := w) (base := B) (e := 36) (size := 6) ⟨h.1, .inr ⟨g, cap, cur, rfl, hbg, hgg, hnc, rest⟩⟩ (i * 6 + j) (by omega)).trans (fl6_at xs i j hi hj)
    rw [hget i hi]
    obtain ⟨p1, p2⟩ := he _ (hmem i hi)
    refine ⟨g, 0, (xs.getD i av0).2.1, (xs.getD i av0).2.2, rfl, (Array.getElem?_eq_some_iff.1 hgg).1, ?_, p1, p2⟩
    rw [Nat.zero_add]
    exact ⟨hc 0 (by omega), hc 1 (by omega), hc 2 (by omega), hc 3 (by omega), hc 4 (by omega), hc 5 (by omega)⟩
end
theorem six_new (w : World) (x0 x1 x2 x3 x4 x5 : Value) (e : TypeId) : ∀ (j : Nat) (v : Value), [x0, x1, x2, x3, x4, x5][j]? = some v → (w.alloc (.cells #[x0, x1, x2, x3, x4, x5] e)).cell? ((⟨w.heap.size, 0, none⟩ : Addr).add j) = some v := by
  intro j v hv
  match j, hv with
  | 0, hv => simp at hv; subst hv; simp [Addr.add]
  | 1, hv => simp at hv; subst hv; simp [Addr.add]
  | 2, hv => simp at hv; subst hv; simp [Addr.add]
  | 3, hv => simp at hv; subst hv; simp [Addr.add]
  | 4, hv => simp at hv; subst hv; simp [Addr.add]
  | 5, hv => simp at hv; subst hv; simp [Addr.add]
theorem six_cells (x0 x1 x2 x3 : Int) (oa ob : Option Addr) (n m c d : Nat) : ∀ v ∈ [Value.int .i64 x0, .int .i64 x1, .int .i64 x2, .int .i64 x3, .slice oa n c, .slice ob m d], v.oneCell' = true := by
  intro v hv; simp at hv; rcases hv with rfl | rfl | rfl | rfl | rfl | rfl <;> rfl
theorem infoA0 : (Tryd.prog.info? 36).map (fun i => (i.zero, i.size, i.bytes)) = some (some (.agg #[.int .i64 0, .int .i64 0, .int .i64 0, .int .i64 0, .slice none 0 0, .slice none 0 0]), 6, 80) := by kernel_rfl
theorem infoA : ∃ i, Tryd.prog.info? 36 = some i ∧ i.zero = some (.agg #[.int .i64 0, .int .i64 0, .int .i64 0, .int .i64 0, .slice none 0 0, .slice none 0 0]) ∧ i.size = 6 ∧ i.bytes = 80 := by
  have h := infoA0
  obtain ⟨i, hi, hzz⟩ := Option.map_eq_some_iff.1 h
  simp only [Prod.mk.injEq] at hzz
  exact ⟨i, hi, hzz.1, hzz.2.1, hzz.2.2⟩

end Go.Proofs.YtegpebnkogjadaaDoor.T

