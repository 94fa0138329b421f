/-
  DERIVED. Slices and blocks of types of vehicles (written by gen_flrow.py).
-/
import Derived.Test.YthihahehmnpenaaDoorFlPure
import Derived.Test.YthihahehmnpenaaDoorNetRow
namespace Go.Proofs.YthihahehmnpenaaDoor.T
open Go.RowKit
set_option maxRecDepth 8000

/-- a type by value -/
def tyV (a : TyT) (vc : Value) : Value := .agg #[.string a.name, .int .i64 a.count, .int .i64 a.fr, .int .i64 a.to, vc, .int .i64 a.skills, .int .i64 a.prof, .int .i64 a.opn, .int .i64 a.cls, .int .i64 a.drv, .int .i64 a.rst, .int .i64 a.fix, .int .i64 a.pm, .int .i64 a.pt]
/-- the cells of a type at an address -/
def Tc (w : World) (b o : Nat) (a : TyT) (vc : Value) : Prop :=
  w.cell? ⟨b, o, none⟩ = some (.string a.name) ∧ w.cell? ⟨b, o + 1, none⟩ = some (.int .i64 a.count) ∧ w.cell? ⟨b, o + 2, none⟩ = some (.int .i64 a.fr) ∧ w.cell? ⟨b, o + 3, none⟩ = some (.int .i64 a.to) ∧ w.cell? ⟨b, o + 4, none⟩ = some vc ∧ w.cell? ⟨b, o + 5, none⟩ = some (.int .i64 a.skills) ∧ w.cell? ⟨b, o + 6, none⟩ = some (.int .i64 a.prof) ∧ w.cell? ⟨b, o + 7, none⟩ = some (.int .i64 a.opn) ∧ w.cell? ⟨b, o + 8, none⟩ = some (.int .i64 a.cls) ∧ w.cell? ⟨b, o + 9, none⟩ = some (.int .i64 a.drv) ∧ w.cell? ⟨b, o + 10, none⟩ = some (.int .i64 a.rst) ∧ w.cell? ⟨b, o + 11, none⟩ = some (.int .i64 a.fix) ∧ w.cell? ⟨b, o + 12, none⟩ = some (.int .i64 a.pm) ∧ w.cell? ⟨b, o + 13, none⟩ = some (.int .i64 a.pt)
theorem Tc.below {w w' : World} {b o : Nat} {a : TyT} {vc : Value} (h : Tc w b o a vc) (hl : b < w.heap.size) (hb : Below w.heap.size w w') : Tc w' b o a vc := by
  obtain ⟨h0, h1, h2, h3, h4, h5, h6, h7, h8, h9, h10, h11, h12, h13⟩ := h
  exact ⟨(hb.cell (p := ⟨b, _, none⟩) hl).trans h0, (hb.cell (p := ⟨b, _, none⟩) hl).trans h1, (hb.cell (p := ⟨b, _, none⟩) hl).trans h2, (hb.cell (p := ⟨b, _, none⟩) hl).trans h3, (hb.cell (p := ⟨b, _, none⟩) hl).trans h4, (hb.cell (p := ⟨b, _, none⟩) hl).trans h5, (hb.cell (p := ⟨b, _, none⟩) hl).trans h6, (hb.cell (p := ⟨b, _, none⟩) hl).trans h7, (hb.cell (p := ⟨b, _, none⟩) hl).trans h8, (hb.cell (p := ⟨b, _, none⟩) hl).trans h9, (hb.cell (p := ⟨b, _, none⟩) hl).trans h10, (hb.cell (p := ⟨b, _, none⟩) hl).trans h11, (hb.cell (p := ⟨b, _, none⟩) hl).trans h12, (hb.cell (p := ⟨b, _, none⟩) hl).trans h13⟩
/-- v is a slice of the types l -/
def Ts (w : World) (v : Value) (l : List TyT) : Prop :=
  ∃ (oa : Option Addr) (c : Nat), v = .slice oa l.length c ∧ ∀ i, i < l.length → ∃ (b o : Nat) (vc : Value), oa = some ⟨b, o, none⟩ ∧ b < w.heap.size ∧ Tc w b (o + i * 14) (l.getD i ty0) vc ∧ L.Li w vc (l.getD i ty0).cap
theorem Ts.below {w w' : World} {v : Value} {l : List TyT} (h : Ts w v l) (hb : Below w.heap.size w w') : Ts w' v l := by
  obtain ⟨oa, c, hv, h⟩ := h
  refine ⟨oa, c, hv, fun i hi => ?_⟩
  obtain ⟨b, o, vc, ha, hl, hc, ht⟩ := h i hi
  exact ⟨b, o, vc, ha, Nat.lt_of_lt_of_le hl hb.size, hc.below hl hb, ht.below hb⟩
theorem Ts.nil (w : World) : Ts w (.slice none 0 0) [] := ⟨none, 0, rfl, fun i hi => by cases hi⟩

/-- block n holds a type's fourteen cells -/
def Tb (w : World) (n : Nat) (x0 x1 x2 x3 x4 x5 x6 x7 x8 x9 x10 x11 x12 x13 : Value) : Prop := w.heap[n]? = some (.cells #[x0, x1, x2, x3, x4, x5, x6, x7, x8, x9, x10, x11, x12, x13] 36)
section
variable {w w' : World} {n : Nat} {x0 x1 x2 x3 x4 x5 x6 x7 x8 x9 x10 x11 x12 x13 : Value}
theorem Tb.c0 (h : Tb w n x0 x1 x2 x3 x4 x5 x6 x7 x8 x9 x10 x11 x12 x13) : w.cell? ⟨n, 0, none⟩ = some x0 := by unfold Tb at h; simp [World.cell?, h]
theorem Tb.c1 (h : Tb w n x0 x1 x2 x3 x4 x5 x6 x7 x8 x9 x10 x11 x12 x13) : w.cell? ⟨n, 1, none⟩ = some x1 := by unfold Tb at h; simp [World.cell?, h]
theorem Tb.c2 (h : Tb w n x0 x1 x2 x3 x4 x5 x6 x7 x8 x9 x10 x11 x12 x13) : w.cell? ⟨n, 2, none⟩ = some x2 := by unfold Tb at h; simp [World.cell?, h]
theorem Tb.c3 (h : Tb w n x0 x1 x2 x3 x4 x5 x6 x7 x8 x9 x10 x11 x12 x13) : w.cell? ⟨n, 3, none⟩ = some x3 := by unfold Tb at h; simp [World.cell?, h]
theorem Tb.c4 (h : Tb w n x0 x1 x2 x3 x4 x5 x6 x7 x8 x9 x10 x11 x12 x13) : w.cell? ⟨n, 4, none⟩ = some x4 := by unfold Tb at h; simp [World.cell?, h]
theorem Tb.c5 (h : Tb w n x0 x1 x2 x3 x4 x5 x6 x7 x8 x9 x10 x11 x12 x13) : w.cell? ⟨n, 5, none⟩ = some x5 := by unfold Tb at h; simp [World.cell?, h]
theorem Tb.c6 (h : Tb w n x0 x1 x2 x3 x4 x5 x6 x7 x8 x9 x10 x11 x12 x13) : w.cell? ⟨n, 6, none⟩ = some x6 := by unfold Tb at h; simp [World.cell?, h]
theorem Tb.c7 (h : Tb w n x0 x1 x2 x3 x4 x5 x6 x7 x8 x9 x10 x11 x12 x13) : w.cell? ⟨n, 7, none⟩ = some x7 := by unfold Tb at h; simp [World.cell?, h]
theorem Tb.c8 (h : Tb w n x0 x1 x2 x3 x4 x5 x6 x7 x8 x9 x10 x11 x12 x13) : w.cell? ⟨n, 8, none⟩ = some x8 := by unfold Tb at h; simp [World.cell?, h]
theorem Tb.c9 (h : Tb w n x0 x1 x2 x3 x4 x5 x6 x7 x8 x9 x10 x11 x12 x13) : w.cell? ⟨n, 9, none⟩ = some x9 := by unfold Tb at h; simp [World.cell?, h]
theorem Tb.c10 (h : Tb w n x0 x1 x2 x3 x4 x5 x6 x7 x8 x9 x10 x11 x12 x13) : w.cell? ⟨n, 10, none⟩ = some x10 := by unfold Tb at h; simp [World.cell?, h]
theorem Tb.c11 (h : Tb w n x0 x1 x2 x3 x4 x5 x6 x7 x8 x9 x10 x11 x12 x13) : w.cell? ⟨n, 11, none⟩ = some x11 := by unfold Tb at h; simp [World.cell?, h]
theorem Tb.c12 (h : Tb w n x0 x1 x2 x3 x4 x5 x6 x7 x8 x9 x10 x11 x12 x13) : w.cell? ⟨n, 12, none⟩ = some x12 := by unfold Tb at h; simp [World.cell?, h]
theorem Tb.c13 (h : Tb w n x0 x1 x2 x3 x4 x5 x6 x7 x8 x9 x10 x11 x12 x13) : w.cell? ⟨n, 13, none⟩ = some x13 := by unfold Tb at h; simp [World.cell?, h]
theorem Tb.f (h : Tb w n x0 x1 x2 x3 x4 x5 x6 x7 x8 x9 x10 x11 x12 x13) (k : Nat) : w.frozen? ⟨n, k, none⟩ = false := by unfold Tb at h; simp [World.frozen?, h]
theorem Tb.lt (h : Tb w n x0 x1 x2 x3 x4 x5 x6 x7 x8 x9 x10 x11 x12 x13) : n < w.heap.size := by
  apply Decidable.byContradiction
  intro hc
  unfold Tb at h
  rw [Array.getElem?_eq_none (by omega)] at h; cases h
theorem Tb.below (h : Tb w n x0 x1 x2 x3 x4 x5 x6 x7 x8 x9 x10 x11 x12 x13) (hb : Below w.heap.size w w') : Tb w' n x0 x1 x2 x3 x4 x5 x6 x7 x8 x9 x10 x11 x12 x13 := (hb.block n h.lt).trans h
theorem Tb.made (w : World) (x0 x1 x2 x3 x4 x5 x6 x7 x8 x9 x10 x11 x12 x13 : Value) : Tb (w.alloc (.cells #[x0, x1, x2, x3, x4, x5, x6, x7, x8, x9, x10, x11, x12, x13] 36)) w.heap.size x0 x1 x2 x3 x4 x5 x6 x7 x8 x9 x10 x11 x12 x13 := by
  show (w.heap.push _)[w.heap.size]? = _
  simp
end

end Go.Proofs.YthihahehmnpenaaDoor.T

