/-
  DERIVED. Orders (of layer 11's text), and which of them are cancelled.
-/
import Derived.Test.YtmoilpkgoabopaaDoorRefRu8
namespace Go.Proofs.YtmoilpkgoabopaaDoor.T
open Go.RowKit
set_option maxRecDepth 8000

/-- an order -/
structure OrT where
  name : ByteArray
  load : List Int
  pp : Int
  po : Int
  pc : Int
  ps : Int
  dp : Int
  dd : Int
  dc : Int
  ds : Int
  sk : Int
  pen : Int
  spl : Int
  las : Int
  now : Int
  off : Bool
deriving DecidableEq
def or0 : OrT := ⟨⟨#[]⟩, [], 0, 0, 0, 0, 0, 0, 0, 0, 0, 0, 0, 0, 0, false⟩
/-- an order by value -/
def orV (a : OrT) (vc : Value) : Value := .agg #[.string a.name, vc, .int .i64 a.pp, .int .i64 a.po, .int .i64 a.pc, .int .i64 a.ps, .int .i64 a.dp, .int .i64 a.dd, .int .i64 a.dc, .int .i64 a.ds, .int .i64 a.sk, .int .i64 a.pen, .int .i64 a.spl, .int .i64 a.las, .int .i64 a.now, .bool a.off]
/-- the cells of an order at an address -/
def Oc (w : World) (b o : Nat) (a : OrT) (vc : Value) : Prop :=
  w.cell? ⟨b, o, none⟩ = some (.string a.name) ∧ w.cell? ⟨b, o + 1, none⟩ = some vc ∧ w.cell? ⟨b, o + 2, none⟩ = some (.int .i64 a.pp) ∧ w.cell? ⟨b, o + 3, none⟩ = some (.int .i64 a.po) ∧ w.cell? ⟨b, o + 4, none⟩ = some (.int .i64 a.pc) ∧ w.cell? ⟨b, o + 5, none⟩ = some (.int .i64 a.ps) ∧ w.cell? ⟨b, o + 6, none⟩ = some (.int .i64 a.dp) ∧ w.cell? ⟨b, o + 7, none⟩ = some (.int .i64 a.dd) ∧ w.cell? ⟨b, o + 8, none⟩ = some (.int .i64 a.dc) ∧ w.cell? ⟨b, o + 9, none⟩ = some (.int .i64 a.ds) ∧ w.cell? ⟨b, o + 10, none⟩ = some (.int .i64 a.sk) ∧ w.cell? ⟨b, o + 11, none⟩ = some (.int .i64 a.pen) ∧ w.cell? ⟨b, o + 12, none⟩ = some (.int .i64 a.spl) ∧ w.cell? ⟨b, o + 13, none⟩ = some (.int .i64 a.las) ∧ w.cell? ⟨b, o + 14, none⟩ = some (.int .i64 a.now) ∧ w.cell? ⟨b, o + 15, none⟩ = some (.bool a.off)
theorem Oc.below {w w' : World} {b o : Nat} {a : OrT} {vc : Value} (h : Oc w b o a vc) (hl : b < w.heap.size) (hb : Below w.heap.size w w') : Oc w' b o a vc := by
  obtain ⟨h0, h1, h2, h3, h4, h5, h6, h7, h8, h9, h10, h11, h12, h13, h14, h15⟩ := h
  exact ⟨(hb.cell (p := ⟨b, _, none⟩) hl).trans h0, (hb.cell (p := ⟨b, _, none⟩) hl).trans h1, (hb.cell (p := ⟨b, _, none⟩) hl).trans h2, (hb.cell (p := ⟨b, _, none⟩) hl).trans h3, (hb.cell (p := ⟨b, _, none⟩) hl).trans h4, (hb.cell (p := ⟨b, _, none⟩) hl).trans h5, (hb.cell (p := ⟨b, _, none⟩) hl).trans h6, (hb.cell (p := ⟨b, _, none⟩) hl).trans h7, (hb.cell (p := ⟨b, _, none⟩) hl).trans h8, (hb.cell (p := ⟨b, _, none⟩) hl).trans h9, (hb.cell (p := ⟨b, _, none⟩) hl).trans h10, (hb.cell (p := ⟨b, _, none⟩) hl).trans h11, (hb.cell (p := ⟨b, _, none⟩) hl).trans h12, (hb.cell (p := ⟨b, _, none⟩) hl).trans h13, (hb.cell (p := ⟨b, _, none⟩) hl).trans h14, (hb.cell (p := ⟨b, _, none⟩) hl).trans h15⟩
/-- v is a slice of the orders l -/
def Os (w : World) (v : Value) (l : List OrT) : Prop :=
  ∃ (oa : Option Addr) (c : Nat), v = .slice oa l.length c ∧ ∀ i, i < l.length → ∃ (b o : Nat) (vc : Value), oa = some ⟨b, o, none⟩ ∧ b < w.heap.size ∧ Oc w b (o + i * 16) (l.getD i or0) vc ∧ L.Li w vc (l.getD i or0).load
theorem Os.below {w w' : World} {v : Value} {l : List OrT} (h : Os w v l) (hb : Below w.heap.size w w') : Os w' v l := by
  obtain ⟨oa, c, hv, h⟩ := h
  refine ⟨oa, c, hv, fun i hi => ?_⟩
  obtain ⟨b, o, vc, ha, hl, hc, ht⟩ := h i hi
  exact ⟨b, o, vc, ha, Nat.lt_of_lt_of_le hl hb.size, hc.below hl hb, ht.below hb⟩
theorem Os.nil (w : World) : Os w (.slice none 0 0) [] := ⟨none, 0, rfl, fun i hi => by cases hi⟩

/-- block n holds an order's sixteen cells -/
def Ob (w : World) (n : Nat) (x0 x1 x2 x3 x4 x5 x6 x7 x8 x9 x10 x11 x12 x13 x14 x15 : Value) : Prop := w.heap[n]? = some (.cells #[x0, x1, x2, x3, x4, x5, x6, x7, x8, x9, x10, x11, x12, x13, x14, x15] 52)
section
variable {w w' : World} {n : Nat} {x0 x1 x2 x3 x4 x5 x6 x7 x8 x9 x10 x11 x12 x13 x14 x15 : Value}
theorem Ob.c0 (h : Ob w n x0 x1 x2 x3 x4 x5 x6 x7 x8 x9 x10 x11 x12 x13 x14 x15) : w.cell? ⟨n, 0, none⟩ = some x0 := by unfold Ob at h; simp [World.cell?, h]
theorem Ob.c1 (h : Ob w n x0 x1 x2 x3 x4 x5 x6 x7 x8 x9 x10 x11 x12 x13 x14 x15) : w.cell? ⟨n, 1, none⟩ = some x1 := by unfold Ob at h; simp [World.cell?, h]
theorem Ob.c2 (h : Ob w n x0 x1 x2 x3 x4 x5 x6 x7 x8 x9 x10 x11 x12 x13 x14 x15) : w.cell? ⟨n, 2, none⟩ = some x2 := by unfold Ob at h; simp [World.cell?, h]
theorem Ob.c3 (h : Ob w n x0 x1 x2 x3 x4 x5 x6 x7 x8 x9 x10 x11 x12 x13 x14 x15) : w.cell? ⟨n, 3, none⟩ = some x3 := by unfold Ob at h; simp [World.cell?, h]
theorem Ob.c4 (h : Ob w n x0 x1 x2 x3 x4 x5 x6 x7 x8 x9 x10 x11 x12 x13 x14 x15) : w.cell? ⟨n, 4, none⟩ = some x4 := by unfold Ob at h; simp [World.cell?, h]
theorem Ob.c5 (h : Ob w n x0 x1 x2 x3 x4 x5 x6 x7 x8 x9 x10 x11 x12 x13 x14 x15) : w.cell? ⟨n, 5, none⟩ = some x5 := by unfold Ob at h; simp [World.cell?, h]
theorem Ob.c6 (h : Ob w n x0 x1 x2 x3 x4 x5 x6 x7 x8 x9 x10 x11 x12 x13 x14 x15) : w.cell? ⟨n, 6, none⟩ = some x6 := by unfold Ob at h; simp [World.cell?, h]
theorem Ob.c7 (h : Ob w n x0 x1 x2 x3 x4 x5 x6 x7 x8 x9 x10 x11 x12 x13 x14 x15) : w.cell? ⟨n, 7, none⟩ = some x7 := by unfold Ob at h; simp [World.cell?, h]
theorem Ob.c8 (h : Ob w n x0 x1 x2 x3 x4 x5 x6 x7 x8 x9 x10 x11 x12 x13 x14 x15) : w.cell? ⟨n, 8, none⟩ = some x8 := by unfold Ob at h; simp [World.cell?, h]
theorem Ob.c9 (h : Ob w n x0 x1 x2 x3 x4 x5 x6 x7 x8 x9 x10 x11 x12 x13 x14 x15) : w.cell? ⟨n, 9, none⟩ = some x9 := by unfold Ob at h; simp [World.cell?, h]
theorem Ob.c10 (h : Ob w n x0 x1 x2 x3 x4 x5 x6 x7 x8 x9 x10 x11 x12 x13 x14 x15) : w.cell? ⟨n, 10, none⟩ = some x10 := by unfold Ob at h; simp [World.cell?, h]
theorem Ob.c11 (h : Ob w n x0 x1 x2 x3 x4 x5 x6 x7 x8 x9 x10 x11 x12 x13 x14 x15) : w.cell? ⟨n, 11, none⟩ = some x11 := by unfold Ob at h; simp [World.cell?, h]
theorem Ob.c12 (h : Ob w n x0 x1 x2 x3 x4 x5 x6 x7 x8 x9 x10 x11 x12 x13 x14 x15) : w.cell? ⟨n, 12, none⟩ = some x12 := by unfold Ob at h; simp [World.cell?, h]
theorem Ob.c13 (h : Ob w n x0 x1 x2 x3 x4 x5 x6 x7 x8 x9 x10 x11 x12 x13 x14 x15) : w.cell? ⟨n, 13, none⟩ = some x13 := by unfold Ob at h; simp [World.cell?, h]
theorem Ob.c14 (h : Ob w n x0 x1 x2 x3 x4 x5 x6 x7 x8 x9 x10 x11 x12 x13 x14 x15) : w.cell? ⟨n, 14, none⟩ = some x14 := by unfold Ob at h; simp [World.cell?, h]
theorem Ob.c15 (h : Ob w n x0 x1 x2 x3 x4 x5 x6 x7 x8 x9 x10 x11 x12 x13 x14 x15) : w.cell? ⟨n, 15, none⟩ = some x15 := by unfold Ob at h; simp [World.cell?, h]
theorem Ob.f (h : Ob w n x0 x1 x2 x3 x4 x5 x6 x7 x8 x9 x10 x11 x12 x13 x14 x15) (k : Nat) : w.frozen? ⟨n, k, none⟩ = false := by unfold Ob at h; simp [World.frozen?, h]
theorem Ob.lt (h : Ob w n x0 x1 x2 x3 x4 x5 x6 x7 x8 x9 x10 x11 x12 x13 x14 x15) : n < w.heap.size := by
  apply Decidable.byContradiction
  intro hc
  unfold Ob at h
  rw [Array.getElem?_eq_none (by omega)] at h; cases h
theorem Ob.below (h : Ob w n x0 x1 x2 x3 x4 x5 x6 x7 x8 x9 x10 x11 x12 x13 x14 x15) (hb : Below w.heap.size w w') : Ob w' n x0 x1 x2 x3 x4 x5 x6 x7 x8 x9 x10 x11 x12 x13 x14 x15 := (hb.block n h.lt).trans h
theorem Ob.made (w : World) (x0 x1 x2 x3 x4 x5 x6 x7 x8 x9 x10 x11 x12 x13 x14 x15 : Value) : Ob (w.alloc (.cells #[x0, x1, x2, x3, x4, x5, x6, x7, x8, x9, x10, x11, x12, x13, x14, x15] 52)) w.heap.size x0 x1 x2 x3 x4 x5 x6 x7 x8 x9 x10 x11 x12 x13 x14 x15 := by
  show (w.heap.push _)[w.heap.size]? = _
  simp
end

/-- which orders are cancelled -/
def offF (l : List OrT) (i : Nat) : Bool := (l.getD i or0).off
theorem Os.ofs {w : World} {oa : Option Addr} {c : Nat} {l : List OrT} (h : Os w (.slice oa l.length c) l) : Ofs w oa l.length (offF l) := fun i hi => by
  obtain ⟨oa', c', hv, h⟩ := h
  simp only [Value.slice.injEq] at hv
  obtain ⟨rfl, -, rfl⟩ := hv
  obtain ⟨b, o, vc, ha, hl, hc, -⟩ := h i hi
  obtain ⟨-, -, -, -, -, -, -, -, -, -, -, -, -, -, -, h15⟩ := hc
  exact ⟨b, o, ha, hl, h15⟩

/-! ### what an int holds -/
def I64 (x : Int) : Prop := -9223372036854775808 ≤ x ∧ x ≤ 9223372036854775807
theorem i64_wf {x : Int} (h : I64 x) : (Lit.int .i64 x).wf = true := by
  unfold I64 at h
  simp [Lit.wf, IntKind.min, IntKind.max, IntKind.signed, IntKind.bits]
  omega
theorem wf_i64 {x : Int} (h : (Lit.int .i64 x).wf = true) : I64 x := by
  unfold I64
  simp [Lit.wf, IntKind.min, IntKind.max, IntKind.signed, IntKind.bits] at h
  omega
def In64 (p : Int × Int) : Prop := I64 p.1 ∧ I64 p.2

end Go.Proofs.YtmoilpkgoabopaaDoor.T

