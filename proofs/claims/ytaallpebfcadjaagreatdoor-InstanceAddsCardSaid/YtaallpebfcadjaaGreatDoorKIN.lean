/-
  DERIVED. KIN: a part of the base of layer 13 (made by pack.py).
-/
import Derived.Laws.Rows
import Derived.Test.YtaallpebfcadjaaGreatDoorKIJ
import Derived.Test.YtaallpebfcadjaaGreatDoorKQG
import Derived.Test.YtaallpebfcadjaaGreatDoorKIF
import Derived.Test.YtaallpebfcadjaaGreatDoorKIK
/-! The laws' own instance (written by gen_inlit3.py). -/
namespace Go.Proofs.YtaallpebfcadjaaGreatDoor.T
open Go.RowKit
set_option maxRecDepth 8000

def lOa : OrT := ⟨⟨#[111, 97]⟩, [1], -1, 0, 0, 0, 0, 0, 50, 0, 0, -1, 1, -1, -1, false⟩
def lOb : OrT := ⟨⟨#[111, 98]⟩, [1], -1, 0, 0, 0, 0, 0, 50, 0, 0, 0, 1, -1, -1, false⟩
def lTy : TyT := ⟨⟨#[118, 97, 110]⟩, 1, 0, 0, [5], 0, 0, 0, 100, 50, 0, 0, 0, 0⟩
def lilI : InT := ⟨[⟨#[104, 117, 98]⟩], [], [lTy], [lOa, lOb], [(0, 1)], []⟩
theorem li_one {w : World} {q : Nat} {x : Int} {t : TypeId} (h : Cb w q #[.int .i64 x] t) : L.Li w (.slice (some ⟨q, 0, none⟩) 1 1) [x] := ⟨some ⟨q, 0, none⟩, 1, rfl, fun i hi => by
  have h1 : i < 1 := hi
  match i, h1 with
  | 0, _ => exact ⟨⟨q, 0, none⟩, rfl, h.lt, h.cell 0 rfl⟩⟩
theorem lil_ins {w : World} {qp qt qo qa ql qc : Nat} (E1 : Cb w ql #[.int .i64 1] 3) (E4 : Cb w qc #[.int .i64 5] 3) (E6 : Cb w qp #[.string ⟨#[104, 117, 98]⟩] 9) (E7 : Cb w qt #[.string ⟨#[118, 97, 110]⟩, .int .i64 1, .int .i64 0, .int .i64 0, .slice (some ⟨qc, 0, none⟩) 1 1, .int .i64 0, .int .i64 0, .int .i64 0, .int .i64 100, .int .i64 50, .int .i64 0, .int .i64 0, .int .i64 0, .int .i64 0] 56) (E8 : Cb w qo #[.string ⟨#[111, 97]⟩, .slice (some ⟨ql, 0, none⟩) 1 1, .int .i64 (-1), .int .i64 0, .int .i64 0, .int .i64 0, .int .i64 0, .int .i64 0, .int .i64 50, .int .i64 0, .int .i64 0, .int .i64 (-1), .int .i64 1, .int .i64 (-1), .int .i64 (-1), .bool false, .string ⟨#[111, 98]⟩, .slice (some ⟨ql, 0, none⟩) 1 1, .int .i64 (-1), .int .i64 0, .int .i64 0, .int .i64 0, .int .i64 0, .int .i64 0, .int .i64 50, .int .i64 0, .int .i64 0, .int .i64 0, .int .i64 1, .int .i64 (-1), .int .i64 (-1), .bool false] 44) (E9 : Cb w qa #[.int .i64 0, .int .i64 1] 75) :
    Ins w ⟨some ⟨qp, 0, none⟩, 1, none, 0, some ⟨qt, 0, none⟩, 1, some ⟨qo, 0, none⟩, 2, some ⟨qa, 0, none⟩, 1, none, 0⟩ lilI := by
  have l1 := li_one E1
  have l4 := li_one E4
  refine ⟨?_, As.nil _, ?_, ?_, ?_, ⟨none, 0, rfl, fun i hi => by cases hi⟩⟩
  · exact ⟨_, 1, rfl, fun i hi => by
      have h1 : i < 1 := hi
      match i, h1 with
      | 0, _ => exact ⟨_, rfl, E6.lt, E6.cell 0 rfl⟩⟩
  · exact ⟨_, 1, rfl, fun i hi => by
      have h1 : i < 1 := hi
      match i, h1 with
      | 0, _ => exact ⟨_, 0, _, rfl, E7.lt, ⟨E7.cell 0 rfl, E7.cell 1 rfl, E7.cell 2 rfl, E7.cell 3 rfl, E7.cell 4 rfl, E7.cell 5 rfl, E7.cell 6 rfl, E7.cell 7 rfl, E7.cell 8 rfl, E7.cell 9 rfl, E7.cell 10 rfl, E7.cell 11 rfl, E7.cell 12 rfl, E7.cell 13 rfl⟩, l4⟩⟩
  · exact ⟨_, 2, rfl, fun i hi => by
      have h1 : i < 2 := hi
      match i, h1 with
      | 0, _ => exact ⟨_, 0, _, rfl, E8.lt, ⟨E8.cell 0 rfl, E8.cell 1 rfl, E8.cell 2 rfl, E8.cell 3 rfl, E8.cell 4 rfl, E8.cell 5 rfl, E8.cell 6 rfl, E8.cell 7 rfl, E8.cell 8 rfl, E8.cell 9 rfl, E8.cell 10 rfl, E8.cell 11 rfl, E8.cell 12 rfl, E8.cell 13 rfl, E8.cell 14 rfl, E8.cell 15 rfl⟩, l1⟩
      | 1, _ => exact ⟨_, 0, _, rfl, E8.lt, ⟨E8.cell 16 rfl, E8.cell 17 rfl, E8.cell 18 rfl, E8.cell 19 rfl, E8.cell 20 rfl, E8.cell 21 rfl, E8.cell 22 rfl, E8.cell 23 rfl, E8.cell 24 rfl, E8.cell 25 rfl, E8.cell 26 rfl, E8.cell 27 rfl, E8.cell 28 rfl, E8.cell 29 rfl, E8.cell 30 rfl, E8.cell 31 rfl⟩, l1⟩⟩
  · exact ⟨_, 1, rfl, fun i hi => by
      have h1 : i < 1 := hi
      match i, h1 with
      | 0, _ => exact ⟨_, 0, rfl, E9.lt, E9.cell 0 rfl, E9.cell 1 rfl⟩⟩

theorem wpList_runs {P : Program} {ops : Array Oper} {Q : Exit → Act → World → Prop} {rest : List Oper} {o : Oper} {a : Act} {w : World} (hg : o.guard = none) (v : Value) (w' : World) (hr : (execOp a.eval o).run P w = .ok (.value v) w')
    (h : wpList P ops Q rest (a.put o.dst v) w') : wpList P ops Q (o :: rest) a w :=
  wpList_plain hg fun K hK => by unfold Oper.wp; rw [hr]; exact hK _ _ h
theorem grown_rowL (w : World) (g : Nat) (cs : Array Value) : w.grownBy (w.setRow g cs) (some g) := ⟨rfl, rfl, rfl, by rw [setRow_size]; exact Nat.le_refl _, fun j hj hne => setRow_other w g j cs (fun h => hne (by rw [h]))⟩
theorem Cb.rowL {w : World} {q : Nat} {old : Array Value} {t : TypeId} (h : Cb w q old t) (cs : Array Value) : Cb (w.setRow q cs) q cs t := setRow_heap w q old cs t (0, 0) h
set_option maxHeartbeats 6400000 in
theorem little_n (w : World) : Calls Tryz.prog 21 #[] w fun e w' => ∃ k : Iv, e = .returned (k.v lilI) ∧ k.c3 = 2 ∧ Ins w' k lilI ∧ Below w.heap.size w w' := by
  go_enter Tryz.func21, Tryz.ntmps21
  go_upto_region 1 with fail
  obtain ⟨W0, hW0⟩ : ∃ W, w.alloc (.cells #[.slice none 0 0, .slice none 0 0, .slice none 0 0, .slice none 0 0, .slice none 0 0, .slice none 0 0] 30) = W := ⟨_, rfl⟩
  have b0 : Below w.heap.size w W0 := hW0 ▸ below_alloc _ _
  have z0 : W0.heap.size = w.heap.size + 1 := by rw [← hW0]; simp only [World.size_alloc]
  have C0 : Cb W0 w.heap.size #[.slice none 0 0, .slice none 0 0, .slice none 0 0, .slice none 0 0, .slice none 0 0, .slice none 0 0] 30 := hW0 ▸ Cb.made _ _ _
  have B := b0
  rw [hW0]
  clear hW0
  obtain ⟨W1, hW1⟩ : ∃ W, W0.alloc (.cells #[.int .i64 1] 3) = W := ⟨_, rfl⟩
  have b1 : Below W0.heap.size W0 W1 := hW1 ▸ below_alloc _ _
  have z1 : W1.heap.size = W0.heap.size + 1 := by rw [← hW1]; simp only [World.size_alloc]
  have C0 := C0.below b1
  have C1 : Cb W1 W0.heap.size #[.int .i64 1] 3 := hW1 ▸ Cb.made _ _ _
  have B := over B b1
  clear b1
  obtain ⟨W2, hW2⟩ : ∃ W, W1.alloc (.cells #[.string ⟨#[]⟩, .slice none 0 0, .int .i64 0, .int .i64 0, .int .i64 0, .int .i64 0, .int .i64 0, .int .i64 0, .int .i64 0, .int .i64 0, .int .i64 0, .int .i64 0, .int .i64 0, .int .i64 0, .int .i64 0, .bool false] 44) = W := ⟨_, rfl⟩
  have b2 : Below W1.heap.size W1 W2 := hW2 ▸ below_alloc _ _
  have z2 : W2.heap.size = W1.heap.size + 1 := by rw [← hW2]; simp only [World.size_alloc]
  have C0 := C0.below b2
  have C1 := C1.below b2
  have C2 : Cb W2 W1.heap.size #[.string ⟨#[]⟩, .slice none 0 0, .int .i64 0, .int .i64 0, .int .i64 0, .int .i64 0, .int .i64 0, .int .i64 0, .int .i64 0, .int .i64 0, .int .i64 0, .int .i64 0, .int .i64 0, .int .i64 0, .int .i64 0, .bool false] 44 := hW2 ▸ Cb.made _ _ _
  have B := over B b2
  clear b2
  obtain ⟨W3, hW3⟩ : ∃ W, W2.setRow W1.heap.size #[.string ⟨#[111, 97]⟩, .slice (some ⟨W0.heap.size, 0, none⟩) 1 1, .int .i64 (-1), .int .i64 0, .int .i64 0, .int .i64 0, .int .i64 0, .int .i64 0, .int .i64 50, .int .i64 0, .int .i64 0, .int .i64 (-1), .int .i64 1, .int .i64 (-1), .int .i64 (-1), .bool false] = W := ⟨_, rfl⟩
  have g3 : W2.grownBy W3 (some (W1.heap.size)) := hW3 ▸ grown_rowL _ _ _
  have z3 : W3.heap.size = W2.heap.size := by rw [← hW3]; exact setRow_size _ _ _
  have o3 := C2
  have C0 := C0.kept g3 (by omega)
  have C1 := C1.kept g3 (by omega)
  have C2 : Cb W3 (W1.heap.size) #[.string ⟨#[111, 97]⟩, .slice (some ⟨W0.heap.size, 0, none⟩) 1 1, .int .i64 (-1), .int .i64 0, .int .i64 0, .int .i64 0, .int .i64 0, .int .i64 0, .int .i64 50, .int .i64 0, .int .i64 0, .int .i64 (-1), .int .i64 1, .int .i64 (-1), .int .i64 (-1), .bool false] 44 := hW3 ▸ Cb.rowL C2 _
  have B := B.grown g3 (by omega) (fun x e => by simp only [Option.some.injEq] at e; omega)
  clear g3
  refine wp_region_lit ?_
  refine wpList_runs rfl (.slice (some ⟨W0.heap.size, 0, none⟩) 1 1) W1 (by rw [← hW1]; kernel_rfl) ?_
  refine wpList_runs rfl (.agg #[.int .i64 (-1), .int .i64 0, .int .i64 0, .int .i64 0]) W1 (by kernel_rfl) ?_
  refine wpList_runs rfl (.agg #[.int .i64 0, .int .i64 0, .int .i64 50, .int .i64 0]) W1 (by kernel_rfl) ?_
  refine wpList_runs rfl (.agg #[.string ⟨#[111, 97]⟩, .slice (some ⟨W0.heap.size, 0, none⟩) 1 1, .int .i64 (-1), .int .i64 0, .int .i64 0, .int .i64 0, .int .i64 0, .int .i64 0, .int .i64 50, .int .i64 0, .int .i64 0, .int .i64 (-1), .int .i64 1, .int .i64 (-1), .int .i64 (-1), .bool false]) W1 (by kernel_rfl) ?_
  refine wpList_runs rfl (.pointer (some ⟨W1.heap.size, 0, none⟩)) W2 (by rw [← hW2]; kernel_rfl) ?_
  refine wpList_store_row rfl 44 (.tmp 1) (.tmp 7) rfl (W1.heap.size) #[.string ⟨#[111, 97]⟩, .slice (some ⟨W0.heap.size, 0, none⟩) 1 1, .int .i64 (-1), .int .i64 0, .int .i64 0, .int .i64 0, .int .i64 0, .int .i64 0, .int .i64 50, .int .i64 0, .int .i64 0, .int .i64 (-1), .int .i64 1, .int .i64 (-1), .int .i64 (-1), .bool false] (by kernel_rfl) (by kernel_rfl) 44 #[.string ⟨#[]⟩, .slice none 0 0, .int .i64 0, .int .i64 0, .int .i64 0, .int .i64 0, .int .i64 0, .int .i64 0, .int .i64 0, .int .i64 0, .int .i64 0, .int .i64 0, .int .i64 0, .int .i64 0, .int .i64 0, .bool false] o3 (by kernel_rfl) (by kernel_rfl) (by kernel_rfl) ?_
  rw [hW3]
  clear o3 hW1 hW2 hW3
  refine wpList_nil ?_
  go_upto_region 2 with fail
  have L2 := C2
  obtain ⟨W4, hW4⟩ : ∃ W, W3.alloc (.cells #[.string ⟨#[]⟩, .slice none 0 0, .int .i64 0, .int .i64 0, .int .i64 0, .int .i64 0, .int .i64 0, .int .i64 0, .int .i64 0, .int .i64 0, .int .i64 0, .int .i64 0, .int .i64 0, .int .i64 0, .int .i64 0, .bool false] 44) = W := ⟨_, rfl⟩
  have b4 : Below W3.heap.size W3 W4 := hW4 ▸ below_alloc _ _
  have z4 : W4.heap.size = W3.heap.size + 1 := by rw [← hW4]; simp only [World.size_alloc]
  have C0 := C0.below b4
  have C1 := C1.below b4
  have C2 := C2.below b4
  have C4 : Cb W4 W3.heap.size #[.string ⟨#[]⟩, .slice none 0 0, .int .i64 0, .int .i64 0, .int .i64 0, .int .i64 0, .int .i64 0, .int .i64 0, .int .i64 0, .int .i64 0, .int .i64 0, .int .i64 0, .int .i64 0, .int .i64 0, .int .i64 0, .bool false] 44 := hW4 ▸ Cb.made _ _ _
  have B := over B b4
  clear b4
  obtain ⟨W5, hW5⟩ : ∃ W, W4.setRow W3.heap.size #[.string ⟨#[111, 97]⟩, .slice (some ⟨W0.heap.size, 0, none⟩) 1 1, .int .i64 (-1), .int .i64 0, .int .i64 0, .int .i64 0, .int .i64 0, .int .i64 0, .int .i64 50, .int .i64 0, .int .i64 0, .int .i64 (-1), .int .i64 1, .int .i64 (-1), .int .i64 (-1), .bool false] = W := ⟨_, rfl⟩
  have g5 : W4.grownBy W5 (some (W3.heap.size)) := hW5 ▸ grown_rowL _ _ _
  have z5 : W5.heap.size = W4.heap.size := by rw [← hW5]; exact setRow_size _ _ _
  have o5 := C4
  have C0 := C0.kept g5 (by omega)
  have C1 := C1.kept g5 (by omega)
  have C2 := C2.kept g5 (by omega)
  have C4 : Cb W5 (W3.heap.size) #[.string ⟨#[111, 97]⟩, .slice (some ⟨W0.heap.size, 0, none⟩) 1 1, .int .i64 (-1), .int .i64 0, .int .i64 0, .int .i64 0, .int .i64 0, .int .i64 0, .int .i64 50, .int .i64 0, .int .i64 0, .int .i64 (-1), .int .i64 1, .int .i64 (-1), .int .i64 (-1), .bool false] 44 := hW5 ▸ Cb.rowL C4 _
  have B := B.grown g5 (by omega) (fun x e => by simp only [Option.some.injEq] at e; omega)
  clear g5
  refine wp_region_lit ?_
  refine wpList_load_row rfl 44 (.tmp 1) rfl (W1.heap.size) (by kernel_rfl) 44 #[.string ⟨#[111, 97]⟩, .slice (some ⟨W0.heap.size, 0, none⟩) 1 1, .int .i64 (-1), .int .i64 0, .int .i64 0, .int .i64 0, .int .i64 0, .int .i64 0, .int .i64 50, .int .i64 0, .int .i64 0, .int .i64 (-1), .int .i64 1, .int .i64 (-1), .int .i64 (-1), .bool false] (0, 0) _ L2 Tryz.underlying44 rfl (by kernel_rfl) ?_
  refine wpList_runs rfl (.pointer (some ⟨W3.heap.size, 0, none⟩)) W4 (by rw [← hW4]; kernel_rfl) ?_
  refine wpList_store_row rfl 44 (.tmp 2) (.tmp 8) rfl (W3.heap.size) #[.string ⟨#[111, 97]⟩, .slice (some ⟨W0.heap.size, 0, none⟩) 1 1, .int .i64 (-1), .int .i64 0, .int .i64 0, .int .i64 0, .int .i64 0, .int .i64 0, .int .i64 50, .int .i64 0, .int .i64 0, .int .i64 (-1), .int .i64 1, .int .i64 (-1), .int .i64 (-1), .bool false] (by kernel_rfl) (by kernel_rfl) 44 #[.string ⟨#[]⟩, .slice none 0 0, .int .i64 0, .int .i64 0, .int .i64 0, .int .i64 0, .int .i64 0, .int .i64 0, .int .i64 0, .int .i64 0, .int .i64 0, .int .i64 0, .int .i64 0, .int .i64 0, .int .i64 0, .bool false] o5 (by kernel_rfl) (by kernel_rfl) (by kernel_rfl) ?_
  rw [hW5]
  clear o5 hW4 hW5 L2
  refine wpList_nil ?_
  go_upto_region 3 with fail
  have n0 : W5.cell? ⟨W3.heap.size, 0, none⟩ = some (.string ⟨#[111, 97]⟩) := C4.cell 0 rfl
  have f0 := C4.f 0
  have g6 := grown_cell W5 W3.heap.size 0 (.string ⟨#[111, 98]⟩)
  have K4 := (C4.set 0 (.string ⟨#[111, 98]⟩))
  obtain ⟨W6, hW6⟩ : ∃ W, W5.setCell ⟨W3.heap.size, 0, none⟩ (.string ⟨#[111, 98]⟩) = W := ⟨_, rfl⟩
  rw [hW6] at g6 K4
  have z6 := g6.size
  have C0 := C0.kept g6 (by omega)
  have C1 := C1.kept g6 (by omega)
  have C2 := C2.kept g6 (by omega)
  have C4 : Cb W6 W3.heap.size #[.string ⟨#[111, 98]⟩, .slice (some ⟨W0.heap.size, 0, none⟩) 1 1, .int .i64 (-1), .int .i64 0, .int .i64 0, .int .i64 0, .int .i64 0, .int .i64 0, .int .i64 50, .int .i64 0, .int .i64 0, .int .i64 (-1), .int .i64 1, .int .i64 (-1), .int .i64 (-1), .bool false] 44 := K4
  have B := B.grown g6 (by omega) (fun x e => by simp only [Option.some.injEq] at e; omega)
  clear K4 g6
  have H6 := Lib.hid hW6
  have HC0 := Lib.hid C0
  have HC1 := Lib.hid C1
  have HC2 := Lib.hid C2
  have HC4 := Lib.hid C4
  have HB := Lib.hid B
  have Z0 := Lib.hid z0
  have Z1 := Lib.hid z1
  have Z2 := Lib.hid z2
  have Z3 := Lib.hid z3
  have Z4 := Lib.hid z4
  have Z5 := Lib.hid z5
  have Z6 := Lib.hid z6
  clear hW6 B C4 C2 C1 C0 z6 z5 z4 z3 z2 z1 z0
  go_upto_region 4 with fail
  rw [H6.out]
  clear H6 n0 f0
  have C4 := HC4.out
  have n11 : W6.cell? ⟨W3.heap.size, 11, none⟩ = some (.int .i64 (-1)) := C4.cell 11 rfl
  have f11 := C4.f 11
  have g7 := grown_cell W6 W3.heap.size 11 (.int .i64 0)
  have K4 := C4.set 11 (.int .i64 0)
  obtain ⟨W7, hW7⟩ : ∃ W, W6.setCell ⟨W3.heap.size, 11, none⟩ (.int .i64 0) = W := ⟨_, rfl⟩
  rw [hW7] at g7 K4
  have Z7 := Lib.hid g7.size
  have z0 := Z0.out
  have z1 := Z1.out
  have z2 := Z2.out
  have z3 := Z3.out
  have z4 := Z4.out
  have z5 := Z5.out
  have z6 := Z6.out
  have HC0 := Lib.hid (HC0.out.kept g7 (by omega))
  have HC1 := Lib.hid (HC1.out.kept g7 (by omega))
  have HC2 := Lib.hid (HC2.out.kept g7 (by omega))
  have HC4 : Hid (Cb W7 W3.heap.size #[.string ⟨#[111, 98]⟩, .slice (some ⟨W0.heap.size, 0, none⟩) 1 1, .int .i64 (-1), .int .i64 0, .int .i64 0, .int .i64 0, .int .i64 0, .int .i64 0, .int .i64 50, .int .i64 0, .int .i64 0, .int .i64 0, .int .i64 1, .int .i64 (-1), .int .i64 (-1), .bool false] 44) := K4
  have HB := Lib.hid (HB.out.grown g7 (by omega) (fun x e => by simp only [Option.some.injEq] at e; omega))
  have H7 := Lib.hid hW7
  clear hW7 K4 g7 C4 z0 z1 z2 z3 z4 z5 z6
  go_upto_region 5 with fail
  rw [H7.out]
  clear H7 n11 f11
  have C0 := HC0.out
  have C1 := HC1.out
  have C2 := HC2.out
  have C4 := HC4.out
  have B := HB.out
  have z0 := Z0.out
  have z1 := Z1.out
  have z2 := Z2.out
  have z3 := Z3.out
  have z4 := Z4.out
  have z5 := Z5.out
  have z6 := Z6.out
  have z7 := Z7.out
  clear HB Z0 Z1 Z2 Z3 Z4 Z5 Z6 Z7 HC0 HC1 HC2 HC4
  obtain ⟨W8, hW8⟩ : ∃ W, W7.alloc (.cells #[.int .i64 5] 3) = W := ⟨_, rfl⟩
  have b8 : Below W7.heap.size W7 W8 := hW8 ▸ below_alloc _ _
  have z8 : W8.heap.size = W7.heap.size + 1 := by rw [← hW8]; simp only [World.size_alloc]
  have C0 := C0.below b8
  have C1 := C1.below b8
  have C2 := C2.below b8
  have C4 := C4.below b8
  have C8 : Cb W8 W7.heap.size #[.int .i64 5] 3 := hW8 ▸ Cb.made _ _ _
  have B := over B b8
  clear b8
  obtain ⟨W9, hW9⟩ : ∃ W, W8.alloc (.cells #[.string ⟨#[]⟩, .int .i64 0, .int .i64 0, .int .i64 0, .slice none 0 0, .int .i64 0, .int .i64 0, .int .i64 0, .int .i64 0, .int .i64 0, .int .i64 0, .int .i64 0, .int .i64 0, .int .i64 0] 56) = W := ⟨_, rfl⟩
  have b9 : Below W8.heap.size W8 W9 := hW9 ▸ below_alloc _ _
  have z9 : W9.heap.size = W8.heap.size + 1 := by rw [← hW9]; simp only [World.size_alloc]
  have C0 := C0.below b9
  have C1 := C1.below b9
  have C2 := C2.below b9
  have C4 := C4.below b9
  have C8 := C8.below b9
  have C9 : Cb W9 W8.heap.size #[.string ⟨#[]⟩, .int .i64 0, .int .i64 0, .int .i64 0, .slice none 0 0, .int .i64 0, .int .i64 0, .int .i64 0, .int .i64 0, .int .i64 0, .int .i64 0, .int .i64 0, .int .i64 0, .int .i64 0] 56 := hW9 ▸ Cb.made _ _ _
  have B := over B b9
  clear b9
  obtain ⟨W10, hW10⟩ : ∃ W, W9.setRow W8.heap.size #[.string ⟨#[118, 97, 110]⟩, .int .i64 1, .int .i64 0, .int .i64 0, .slice (some ⟨W7.heap.size, 0, none⟩) 1 1, .int .i64 0, .int .i64 0, .int .i64 0, .int .i64 100, .int .i64 50, .int .i64 0, .int .i64 0, .int .i64 0, .int .i64 0] = W := ⟨_, rfl⟩
  have g10 : W9.grownBy W10 (some (W8.heap.size)) := hW10 ▸ grown_rowL _ _ _
  have z10 : W10.heap.size = W9.heap.size := by rw [← hW10]; exact setRow_size _ _ _
  have o10 := C9
  have C0 := C0.kept g10 (by omega)
  have C1 := C1.kept g10 (by omega)
  have C2 := C2.kept g10 (by omega)
  have C4 := C4.kept g10 (by omega)
  have C8 := C8.kept g10 (by omega)
  have C9 : Cb W10 (W8.heap.size) #[.string ⟨#[118, 97, 110]⟩, .int .i64 1, .int .i64 0, .int .i64 0, .slice (some ⟨W7.heap.size, 0, none⟩) 1 1, .int .i64 0, .int .i64 0, .int .i64 0, .int .i64 100, .int .i64 50, .int .i64 0, .int .i64 0, .int .i64 0, .int .i64 0] 56 := hW10 ▸ Cb.rowL C9 _
  have B := B.grown g10 (by omega) (fun x e => by simp only [Option.some.injEq] at e; omega)
  clear g10
  refine wp_region_lit ?_
  refine wpList_runs rfl (.slice (some ⟨W7.heap.size, 0, none⟩) 1 1) W8 (by rw [← hW8]; kernel_rfl) ?_
  refine wpList_runs rfl (.agg #[.string ⟨#[118, 97, 110]⟩, .int .i64 1, .int .i64 0, .int .i64 0, .slice (some ⟨W7.heap.size, 0, none⟩) 1 1, .int .i64 0, .int .i64 0, .int .i64 0, .int .i64 100, .int .i64 50, .int .i64 0, .int .i64 0, .int .i64 0, .int .i64 0]) W8 (by kernel_rfl) ?_
  refine wpList_runs rfl (.pointer (some ⟨W8.heap.size, 0, none⟩)) W9 (by rw [← hW9]; kernel_rfl) ?_
  refine wpList_store_row rfl 56 (.tmp 3) (.tmp 12) rfl (W8.heap.size) #[.string ⟨#[118, 97, 110]⟩, .int .i64 1, .int .i64 0, .int .i64 0, .slice (some ⟨W7.heap.size, 0, none⟩) 1 1, .int .i64 0, .int .i64 0, .int .i64 0, .int .i64 100, .int .i64 50, .int .i64 0, .int .i64 0, .int .i64 0, .int .i64 0] (by kernel_rfl) (by kernel_rfl) 56 #[.string ⟨#[]⟩, .int .i64 0, .int .i64 0, .int .i64 0, .slice none 0 0, .int .i64 0, .int .i64 0, .int .i64 0, .int .i64 0, .int .i64 0, .int .i64 0, .int .i64 0, .int .i64 0, .int .i64 0] o10 (by kernel_rfl) (by kernel_rfl) (by kernel_rfl) ?_
  rw [hW10]
  clear o10 hW8 hW9 hW10
  refine wpList_nil ?_
  go_upto_region 6 with fail
  obtain ⟨W11, hW11⟩ : ∃ W, W10.alloc (.cells #[.string ⟨#[104, 117, 98]⟩] 9) = W := ⟨_, rfl⟩
  have b11 : Below W10.heap.size W10 W11 := hW11 ▸ below_alloc _ _
  have z11 : W11.heap.size = W10.heap.size + 1 := by rw [← hW11]; simp only [World.size_alloc]
  have C0 := C0.below b11
  have C1 := C1.below b11
  have C2 := C2.below b11
  have C4 := C4.below b11
  have C8 := C8.below b11
  have C9 := C9.below b11
  have C11 : Cb W11 W10.heap.size #[.string ⟨#[104, 117, 98]⟩] 9 := hW11 ▸ Cb.made _ _ _
  have B := over B b11
  clear b11
  have L9 := C9
  obtain ⟨W12, hW12⟩ : ∃ W, W11.alloc (.cells #[.string ⟨#[118, 97, 110]⟩, .int .i64 1, .int .i64 0, .int .i64 0, .slice (some ⟨W7.heap.size, 0, none⟩) 1 1, .int .i64 0, .int .i64 0, .int .i64 0, .int .i64 100, .int .i64 50, .int .i64 0, .int .i64 0, .int .i64 0, .int .i64 0] 56) = W := ⟨_, rfl⟩
  have b12 : Below W11.heap.size W11 W12 := hW12 ▸ below_alloc _ _
  have z12 : W12.heap.size = W11.heap.size + 1 := by rw [← hW12]; simp only [World.size_alloc]
  have C0 := C0.below b12
  have C1 := C1.below b12
  have C2 := C2.below b12
  have C4 := C4.below b12
  have C8 := C8.below b12
  have C9 := C9.below b12
  have C11 := C11.below b12
  have C12 : Cb W12 W11.heap.size #[.string ⟨#[118, 97, 110]⟩, .int .i64 1, .int .i64 0, .int .i64 0, .slice (some ⟨W7.heap.size, 0, none⟩) 1 1, .int .i64 0, .int .i64 0, .int .i64 0, .int .i64 100, .int .i64 50, .int .i64 0, .int .i64 0, .int .i64 0, .int .i64 0] 56 := hW12 ▸ Cb.made _ _ _
  have B := over B b12
  clear b12
  have L2 := C2
  have L4 := C4
  obtain ⟨W13, hW13⟩ : ∃ W, W12.alloc (.cells #[.string ⟨#[111, 97]⟩, .slice (some ⟨W0.heap.size, 0, none⟩) 1 1, .int .i64 (-1), .int .i64 0, .int .i64 0, .int .i64 0, .int .i64 0, .int .i64 0, .int .i64 50, .int .i64 0, .int .i64 0, .int .i64 (-1), .int .i64 1, .int .i64 (-1), .int .i64 (-1), .bool false, .string ⟨#[111, 98]⟩, .slice (some ⟨W0.heap.size, 0, none⟩) 1 1, .int .i64 (-1), .int .i64 0, .int .i64 0, .int .i64 0, .int .i64 0, .int .i64 0, .int .i64 50, .int .i64 0, .int .i64 0, .int .i64 0, .int .i64 1, .int .i64 (-1), .int .i64 (-1), .bool false] 44) = W := ⟨_, rfl⟩
  have b13 : Below W12.heap.size W12 W13 := hW13 ▸ below_alloc _ _
  have z13 : W13.heap.size = W12.heap.size + 1 := by rw [← hW13]; simp only [World.size_alloc]
  have C0 := C0.below b13
  have C1 := C1.below b13
  have C2 := C2.below b13
  have C4 := C4.below b13
  have C8 := C8.below b13
  have C9 := C9.below b13
  have C11 := C11.below b13
  have C12 := C12.below b13
  have C13 : Cb W13 W12.heap.size #[.string ⟨#[111, 97]⟩, .slice (some ⟨W0.heap.size, 0, none⟩) 1 1, .int .i64 (-1), .int .i64 0, .int .i64 0, .int .i64 0, .int .i64 0, .int .i64 0, .int .i64 50, .int .i64 0, .int .i64 0, .int .i64 (-1), .int .i64 1, .int .i64 (-1), .int .i64 (-1), .bool false, .string ⟨#[111, 98]⟩, .slice (some ⟨W0.heap.size, 0, none⟩) 1 1, .int .i64 (-1), .int .i64 0, .int .i64 0, .int .i64 0, .int .i64 0, .int .i64 0, .int .i64 50, .int .i64 0, .int .i64 0, .int .i64 0, .int .i64 1, .int .i64 (-1), .int .i64 (-1), .bool false] 44 := hW13 ▸ Cb.made _ _ _
  have B := over B b13
  clear b13
  obtain ⟨W14, hW14⟩ : ∃ W, W13.alloc (.cells #[.int .i64 0, .int .i64 1] 75) = W := ⟨_, rfl⟩
  have b14 : Below W13.heap.size W13 W14 := hW14 ▸ below_alloc _ _
  have z14 : W14.heap.size = W13.heap.size + 1 := by rw [← hW14]; simp only [World.size_alloc]
  have C0 := C0.below b14
  have C1 := C1.below b14
  have C2 := C2.below b14
  have C4 := C4.below b14
  have C8 := C8.below b14
  have C9 := C9.below b14
  have C11 := C11.below b14
  have C12 := C12.below b14
  have C13 := C13.below b14
  have C14 : Cb W14 W13.heap.size #[.int .i64 0, .int .i64 1] 75 := hW14 ▸ Cb.made _ _ _
  have B := over B b14
  clear b14
  obtain ⟨W15, hW15⟩ : ∃ W, W14.setRow w.heap.size #[.slice (some ⟨W10.heap.size, 0, none⟩) 1 1, .slice none 0 0, .slice (some ⟨W11.heap.size, 0, none⟩) 1 1, .slice (some ⟨W12.heap.size, 0, none⟩) 2 2, .slice (some ⟨W13.heap.size, 0, none⟩) 1 1, .slice none 0 0] = W := ⟨_, rfl⟩
  have g15 : W14.grownBy W15 (some (w.heap.size)) := hW15 ▸ grown_rowL _ _ _
  have z15 : W15.heap.size = W14.heap.size := by rw [← hW15]; exact setRow_size _ _ _
  have o15 := C0
  have C0 : Cb W15 (w.heap.size) #[.slice (some ⟨W10.heap.size, 0, none⟩) 1 1, .slice none 0 0, .slice (some ⟨W11.heap.size, 0, none⟩) 1 1, .slice (some ⟨W12.heap.size, 0, none⟩) 2 2, .slice (some ⟨W13.heap.size, 0, none⟩) 1 1, .slice none 0 0] 30 := hW15 ▸ Cb.rowL C0 _
  have C1 := C1.kept g15 (by omega)
  have C2 := C2.kept g15 (by omega)
  have C4 := C4.kept g15 (by omega)
  have C8 := C8.kept g15 (by omega)
  have C9 := C9.kept g15 (by omega)
  have C11 := C11.kept g15 (by omega)
  have C12 := C12.kept g15 (by omega)
  have C13 := C13.kept g15 (by omega)
  have C14 := C14.kept g15 (by omega)
  have B := B.grown g15 (by omega) (fun x e => by simp only [Option.some.injEq] at e; omega)
  clear g15
  refine wp_region_lit ?_
  refine wpList_runs rfl (.slice (some ⟨W10.heap.size, 0, none⟩) 1 1) W11 (by rw [← hW11]; kernel_rfl) ?_
  refine wpList_runs rfl (.agg #[.slice (some ⟨W10.heap.size, 0, none⟩) 1 1, .slice none 0 0]) W11 (by kernel_rfl) ?_
  refine wpList_load_row rfl 56 (.tmp 3) rfl (W8.heap.size) (by kernel_rfl) 56 #[.string ⟨#[118, 97, 110]⟩, .int .i64 1, .int .i64 0, .int .i64 0, .slice (some ⟨W7.heap.size, 0, none⟩) 1 1, .int .i64 0, .int .i64 0, .int .i64 0, .int .i64 100, .int .i64 50, .int .i64 0, .int .i64 0, .int .i64 0, .int .i64 0] (0, 0) _ L9 Tryz.underlying56 rfl (by kernel_rfl) ?_
  refine wpList_runs rfl (.slice (some ⟨W11.heap.size, 0, none⟩) 1 1) W12 (by rw [← hW12]; kernel_rfl) ?_
  refine wpList_load_row rfl 44 (.tmp 1) rfl (W1.heap.size) (by kernel_rfl) 44 #[.string ⟨#[111, 97]⟩, .slice (some ⟨W0.heap.size, 0, none⟩) 1 1, .int .i64 (-1), .int .i64 0, .int .i64 0, .int .i64 0, .int .i64 0, .int .i64 0, .int .i64 50, .int .i64 0, .int .i64 0, .int .i64 (-1), .int .i64 1, .int .i64 (-1), .int .i64 (-1), .bool false] (0, 0) _ L2 Tryz.underlying44 rfl (by kernel_rfl) ?_
  refine wpList_load_row rfl 44 (.tmp 2) rfl (W3.heap.size) (by kernel_rfl) 44 #[.string ⟨#[111, 98]⟩, .slice (some ⟨W0.heap.size, 0, none⟩) 1 1, .int .i64 (-1), .int .i64 0, .int .i64 0, .int .i64 0, .int .i64 0, .int .i64 0, .int .i64 50, .int .i64 0, .int .i64 0, .int .i64 0, .int .i64 1, .int .i64 (-1), .int .i64 (-1), .bool false] (0, 0) _ L4 Tryz.underlying44 rfl (by kernel_rfl) ?_
  refine wpList_runs rfl (.slice (some ⟨W12.heap.size, 0, none⟩) 2 2) W13 (by rw [← hW13]; kernel_rfl) ?_
  refine wpList_runs rfl (.agg #[.int .i64 0, .int .i64 1]) W13 (by kernel_rfl) ?_
  refine wpList_runs rfl (.slice (some ⟨W13.heap.size, 0, none⟩) 1 1) W14 (by rw [← hW14]; kernel_rfl) ?_
  refine wpList_runs rfl (.agg #[.slice (some ⟨W10.heap.size, 0, none⟩) 1 1, .slice none 0 0, .slice (some ⟨W11.heap.size, 0, none⟩) 1 1, .slice (some ⟨W12.heap.size, 0, none⟩) 2 2, .slice (some ⟨W13.heap.size, 0, none⟩) 1 1, .slice none 0 0]) W14 (by kernel_rfl) ?_
  refine wpList_store_row rfl 30 (.tmp 0) (.tmp 22) rfl (w.heap.size) #[.slice (some ⟨W10.heap.size, 0, none⟩) 1 1, .slice none 0 0, .slice (some ⟨W11.heap.size, 0, none⟩) 1 1, .slice (some ⟨W12.heap.size, 0, none⟩) 2 2, .slice (some ⟨W13.heap.size, 0, none⟩) 1 1, .slice none 0 0] (by kernel_rfl) (by kernel_rfl) 30 #[.slice none 0 0, .slice none 0 0, .slice none 0 0, .slice none 0 0, .slice none 0 0, .slice none 0 0] o15 (by kernel_rfl) (by kernel_rfl) (by kernel_rfl) ?_
  rw [hW15]
  clear o15 hW11 hW12 hW13 hW14 hW15 L9 L2 L4
  refine wpList_nil ?_
  have n0 : W15.cell? ⟨w.heap.size, 0, none⟩ = some (.slice (some ⟨W10.heap.size, 0, none⟩) 1 1) := C0.cell 0 rfl
  have n1 : W15.cell? ⟨w.heap.size, 1, none⟩ = some (.slice none 0 0) := C0.cell 1 rfl
  have n2 : W15.cell? ⟨w.heap.size, 2, none⟩ = some (.slice (some ⟨W11.heap.size, 0, none⟩) 1 1) := C0.cell 2 rfl
  have n3 : W15.cell? ⟨w.heap.size, 3, none⟩ = some (.slice (some ⟨W12.heap.size, 0, none⟩) 2 2) := C0.cell 3 rfl
  have n4 : W15.cell? ⟨w.heap.size, 4, none⟩ = some (.slice (some ⟨W13.heap.size, 0, none⟩) 1 1) := C0.cell 4 rfl
  have n5 : W15.cell? ⟨w.heap.size, 5, none⟩ = some (.slice none 0 0) := C0.cell 5 rfl
  have HC0 := Lib.hid C0
  have HC1 := Lib.hid C1
  have HC2 := Lib.hid C2
  have HC4 := Lib.hid C4
  have HC8 := Lib.hid C8
  have HC9 := Lib.hid C9
  have HC11 := Lib.hid C11
  have HC12 := Lib.hid C12
  have HC13 := Lib.hid C13
  have HC14 := Lib.hid C14
  have HB := Lib.hid B
  clear B C14 C13 C12 C11 C9 C8 C4 C2 C1 C0 z0 z1 z2 z3 z4 z5 z8 z9 z10 z11 z12 z13 z14 z15 z6 z7
  go_wp2_with fail
  refine bodyPost_ret (v := .agg #[.slice (some ⟨W10.heap.size, 0, none⟩) 1 1, .slice none 0 0, .slice (some ⟨W11.heap.size, 0, none⟩) 1 1, .slice (some ⟨W12.heap.size, 0, none⟩) 2 2, .slice (some ⟨W13.heap.size, 0, none⟩) 1 1, .slice none 0 0]) (by simp [results, Tryz.results21, go_sem, n0, n1, n2, n3, n4, n5]) rfl ⟨⟨some ⟨W10.heap.size, 0, none⟩, 1, none, 0, some ⟨W11.heap.size, 0, none⟩, 1, some ⟨W12.heap.size, 0, none⟩, 2, some ⟨W13.heap.size, 0, none⟩, 1, none, 0⟩, rfl, rfl, lil_ins HC1.out HC8.out HC11.out HC12.out HC13.out HC14.out, HB.out⟩

end Go.Proofs.YtaallpebfcadjaaGreatDoor.T


/-! The laws' own instance: its parts, faults and sets. -/
namespace Go.Proofs.YtaallpebfcadjaaGreatDoor.T
open Go.RowKit
set_option maxRecDepth 8000

def hubI : InT := ⟨[⟨#[104, 117, 98]⟩], [], [], [], [], []⟩
theorem lil_f : inF lilI = [] := by decide +kernel
theorem hub_f : inF hubI = [(4, ⟨#[116, 121, 112, 101, 115]⟩)] := by decide +kernel
theorem lil_all : allN lilI.ol = 3 := by decide +kernel
theorem lil_must : mustN lilI.ol = 1 := by decide +kernel
theorem lil_same : sameI lilI lilI = true := by decide +kernel
theorem lil_mem : S.members 2 = [1] := by decide +kernel
theorem lil_only : onlyI lilI 2 = ⟨[⟨#[104, 117, 98]⟩], [], [lTy], [lOb], [], []⟩ := by
  have h : renP 2 lilI.ap = [] := by decide +kernel
  have h2 : renP 2 lilI.be = [] := by decide +kernel
  unfold onlyI
  rw [h, h2, lil_mem]
  rfl
theorem lil_c : InC lilI where
  pl := by decide
  al := by decide
  tr := fun i hi => absurd hi (Nat.not_lt_zero _)
  tl := by decide
  cap := fun i hi => by
    have h1 : i < 1 := hi
    match i, h1 with
    | 0, _ => decide
  ol := by decide
  load := fun i hi => by
    have h1 : i < 2 := hi
    match i, h1 with
    | 0, _ => decide
    | 1, _ => decide
  ap := by decide
  be := by decide
theorem lil_b : InB lilI where
  pl := by decide
  al := by decide
  wt := by decide
  tl := by decide
  cap := fun i hi => Nat.le_trans (lil_c.cap i hi) (by decide)
  ol := by decide
  load := fun i hi => Nat.le_trans (lil_c.load i hi) (by decide)
  ap := by decide
  be := by decide
theorem lil_w : InW lilI where
  b := lil_b
  pn := fun i hi => by
    have h1 : i < 1 := hi
    match i, h1 with
    | 0, _ => decide
  tn := fun i hi => by
    have h1 : i < 1 := hi
    match i, h1 with
    | 0, _ => decide
  on := fun i hi => by
    have h1 : i < 2 := hi
    match i, h1 with
    | 0, _ => decide
    | 1, _ => decide
  wf := fun i hi => absurd hi (Nat.not_lt_zero _)
  ia := fun p hp => by
    have h1 : p ∈ [((0 : Int), (1 : Int))] := hp
    rw [List.mem_singleton.1 h1]
    unfold In64 I64
    decide
  ib := fun p hp => by cases hp
theorem hub_w : InW hubI where
  b := ⟨by decide, by decide, by decide, by decide, fun i hi => absurd hi (Nat.not_lt_zero _), by decide, fun i hi => absurd hi (Nat.not_lt_zero _), by decide, by decide⟩
  pn := fun i hi => by
    have h1 : i < 1 := hi
    match i, h1 with
    | 0, _ => decide
  tn := fun i hi => absurd hi (Nat.not_lt_zero _)
  on := fun i hi => absurd hi (Nat.not_lt_zero _)
  wf := fun i hi => absurd hi (Nat.not_lt_zero _)
  ia := fun p hp => by cases hp
  ib := fun p hp => by cases hp
/-- no fault -/
theorem chkL_n (k : Iv) (w : World) (hT : Tab w) (h : Ins w k lilI) :
    Calls Tryz.prog 10 #[k.v lilI] w fun e w' => ∃ oa c, e = .returned (.slice oa 0 c) ∧ Below w.heap.size w w' := by
  refine (instCheck_n k lilI lil_w w hT h).mono ?_
  rintro e w' ⟨oa, c, rfl, -, hb⟩
  exact ⟨oa, c, by rw [lil_f]; rfl, hb⟩
/-- a fault -/
theorem chkH_n (o : Option Addr) (c : Nat) (o1 : Option Addr) (c1 : Nat) (w : World) (hT : Tab w) (h : Ss w (.slice o 1 c) [⟨#[104, 117, 98]⟩]) :
    Calls Tryz.prog 10 #[.agg #[.slice o 1 c, .slice o1 0 c1, .slice none 0 0, .slice none 0 0, .slice none 0 0, .slice none 0 0]] w fun e w' => ∃ g q c, e = .returned (.slice (some ⟨g, q, none⟩) 1 c) ∧ w'.cell? ⟨g, q, none⟩ = some (.int .i64 4) ∧ w'.cell? ⟨g, q + 1, none⟩ = some (.string ⟨#[116, 121, 112, 101, 115]⟩) ∧ g < w'.heap.size ∧ Below w.heap.size w w' := by
  refine (instCheck_n ⟨o, c, o1, c1, none, 0, none, 0, none, 0, none, 0⟩ hubI hub_w w hT ⟨h, ⟨o1, c1, rfl, fun i hi => by cases hi⟩, Ts.nil _, Os.nil _, ⟨none, 0, rfl, fun i hi => by cases hi⟩, ⟨none, 0, rfl, fun i hi => by cases hi⟩⟩).mono ?_
  rintro e w' ⟨oa, c, rfl, ⟨hs, -, -⟩, hb⟩
  rw [hub_f] at hs ⊢
  obtain ⟨oa', c', hv, h⟩ := hs
  simp only [Value.slice.injEq] at hv
  obtain ⟨rfl, -, rfl⟩ := hv
  obtain ⟨g, q, rfl, hlt, h0, h1⟩ := h 0 (by simp)
  exact ⟨g, q, c, rfl, by simpa [fE] using h0, by simpa [fA] using h1, hlt, hb⟩

end Go.Proofs.YtaallpebfcadjaaGreatDoor.T


/-! The laws' awake (written by gen_inawk2.py). -/
namespace Go.Proofs.YtaallpebfcadjaaGreatDoor.T
open Go.RowKit
set_option maxRecDepth 8000

theorem lit_n (w : World) : Calls Tryz.prog 21 #[] w fun e w' => ∃ (o0 o1 o2 o3 o4 o5 : Option Addr) (c0 c1 c2 c4 c5 : Nat), e = .returned (.agg #[.slice o0 1 c0, .slice o1 0 c1, .slice o2 1 c2, .slice o3 2 2, .slice o4 1 c4, .slice o5 0 c5]) ∧ Ins w' ⟨o0, c0, o1, c1, o2, c2, o3, 2, o4, c4, o5, c5⟩ lilI ∧ Below w.heap.size w w' := by
  refine (little_n w).mono ?_
  rintro e w' ⟨⟨o0, c0, o1, c1, o2, c2, o3, c3, o4, c4, o5, c5⟩, rfl, h3, hi, hb⟩
  simp only at h3
  subst h3
  exact ⟨o0, o1, o2, o3, o4, o5, c0, c1, c2, c4, c5, rfl, hi, hb⟩
theorem onlyL_n (k : Iv) (w : World) (hS : S.Tab w) (h : Ins w k lilI) : Calls Tryz.prog 20 #[k.v lilI, .int .i64 2] w fun e w' => ∃ (a0 a1 a2 a4 a5 : Option Addr) (b0 b1 b2 b3 b4 b5 g c q o : Nat), e = .returned (.tuple #[.agg #[.slice a0 1 b0, .slice a1 0 b1, .slice a2 1 b2, .slice (some ⟨q, o, none⟩) 1 b3, .slice a4 0 b4, .slice a5 0 b5], .slice (some ⟨g, 0, none⟩) 1 c, .int .i64 0]) ∧ w'.cell? ⟨g, 0, none⟩ = some (.int .i64 1) ∧ g < w'.heap.size ∧ w'.cell? ⟨q, o, none⟩ = some (.string ⟨#[111, 98]⟩) ∧ q < w'.heap.size ∧ Below w.heap.size w w' := by
  refine (only_good k lilI lil_c 2 (by decide) (by rw [lil_mem]; intro i hi; rw [List.mem_singleton.1 hi]; decide) w hS h).mono ?_
  rintro e w' ⟨⟨a0, b0, a1, b1, a2, b2, a3, b3, a4, b4, a5, b5⟩, oa, c, rfl, hi, hn, hb⟩
  rw [lil_only] at hi ⊢
  rw [lil_mem] at hn ⊢
  obtain ⟨g, rfl, hg, hc⟩ := nos_at (l := [1]) hn (i := 0) (by decide)
  have h3 := hi.h3
  obtain ⟨oa', c', hv, hos⟩ := h3
  simp only [Value.slice.injEq] at hv
  obtain ⟨rfl, -, rfl⟩ := hv
  obtain ⟨q, o, vc, hqo, hq, hoc, -⟩ := hos 0 (by decide)
  subst hqo
  have h0 := hoc.1
  rw [Nat.zero_mul, Nat.add_zero] at h0
  exact ⟨a0, a1, a2, a4, a5, b0, b1, b2, b3, b4, b5, g, c, q, o, rfl, hc, hg, h0, hq, hb⟩

set_option maxHeartbeats 12800000 in
theorem awakeI_n (w : World) (hT : Tab w) (hS : S.Tab w) : Calls Tryz.prog 9 #[] w fun e w' => e = .returned (.bool true) ∧ Below w.heap.size w w' := by
  have KL := Lib.hid (lit_n w)
  have HT := Lib.hid hT
  have HS := Lib.hid hS
  clear hT hS
  go_enter Tryz.func9, Tryz.ntmps9
  go_wp2_with fail
  refine KL.out.mono ?_
  rintro e w1 ⟨o0, o1, o2, o3, o4, o5, c0, c1, c2, c4, c5, rfl, hi, hb⟩
  have HI := Lib.hid hi
  have B1 := Lib.hid hb
  have KC : Hid (∀ w, Tab w → Ins w ⟨o0, c0, o1, c1, o2, c2, o3, 2, o4, c4, o5, c5⟩ lilI → Calls Tryz.prog 10 #[(.agg #[.slice o0 1 c0, .slice o1 0 c1, .slice o2 1 c2, .slice o3 2 2, .slice o4 1 c4, .slice o5 0 c5])] w fun e w' => ∃ oa c, e = .returned (.slice oa 0 c) ∧ Below w.heap.size w w') := fun w hT h => chkL_n ⟨o0, c0, o1, c1, o2, c2, o3, 2, o4, c4, o5, c5⟩ w hT h
  have KO : Hid (∀ w, S.Tab w → Ins w ⟨o0, c0, o1, c1, o2, c2, o3, 2, o4, c4, o5, c5⟩ lilI → Calls Tryz.prog 20 #[(.agg #[.slice o0 1 c0, .slice o1 0 c1, .slice o2 1 c2, .slice o3 2 2, .slice o4 1 c4, .slice o5 0 c5]), .int .i64 2] w fun e w' => ∃ (a0 a1 a2 a4 a5 : Option Addr) (b0 b1 b2 b3 b4 b5 g c q o : Nat), e = .returned (.tuple #[.agg #[.slice a0 1 b0, .slice a1 0 b1, .slice a2 1 b2, .slice (some ⟨q, o, none⟩) 1 b3, .slice a4 0 b4, .slice a5 0 b5], .slice (some ⟨g, 0, none⟩) 1 c, .int .i64 0]) ∧ w'.cell? ⟨g, 0, none⟩ = some (.int .i64 1) ∧ g < w'.heap.size ∧ w'.cell? ⟨q, o, none⟩ = some (.string ⟨#[111, 98]⟩) ∧ q < w'.heap.size ∧ Below w.heap.size w w') := fun w hS h => onlyL_n ⟨o0, c0, o1, c1, o2, c2, o3, 2, o4, c4, o5, c5⟩ w hS h
  have KA : Hid (∀ w, Ins w ⟨o0, c0, o1, c1, o2, c2, o3, 2, o4, c4, o5, c5⟩ lilI → Calls Tryz.prog 12 #[(.agg #[.slice o0 1 c0, .slice o1 0 c1, .slice o2 1 c2, .slice o3 2 2, .slice o4 1 c4, .slice o5 0 c5])] w fun e w' => e = .returned (.int .i64 3) ∧ Below w.heap.size w w') := fun w h => (instAll_n ⟨o0, c0, o1, c1, o2, c2, o3, 2, o4, c4, o5, c5⟩ lilI (by decide) (Nat.le_refl 2) w h).mono (by rintro e w' ⟨rfl, hb⟩; exact ⟨by rw [lil_all]; rfl, hb⟩)
  have KM : Hid (∀ w, Ins w ⟨o0, c0, o1, c1, o2, c2, o3, 2, o4, c4, o5, c5⟩ lilI → Calls Tryz.prog 13 #[(.agg #[.slice o0 1 c0, .slice o1 0 c1, .slice o2 1 c2, .slice o3 2 2, .slice o4 1 c4, .slice o5 0 c5])] w fun e w' => e = .returned (.int .i64 1) ∧ Below w.heap.size w w') := fun w h => (instMust_n ⟨o0, c0, o1, c1, o2, c2, o3, 2, o4, c4, o5, c5⟩ lilI (by decide) (Nat.le_refl 2) w h).mono (by rintro e w' ⟨rfl, hb⟩; exact ⟨by rw [lil_must]; rfl, hb⟩)
  have KS : Hid (∀ w, Ins w ⟨o0, c0, o1, c1, o2, c2, o3, 2, o4, c4, o5, c5⟩ lilI → Calls Tryz.prog 16 #[(.agg #[.slice o0 1 c0, .slice o1 0 c1, .slice o2 1 c2, .slice o3 2 2, .slice o4 1 c4, .slice o5 0 c5]), (.agg #[.slice o0 1 c0, .slice o1 0 c1, .slice o2 1 c2, .slice o3 2 2, .slice o4 1 c4, .slice o5 0 c5])] w fun e w' => e = .returned (.bool true) ∧ Below w.heap.size w w') := fun w h => (sameInst_n ⟨o0, c0, o1, c1, o2, c2, o3, 2, o4, c4, o5, c5⟩ ⟨o0, c0, o1, c1, o2, c2, o3, 2, o4, c4, o5, c5⟩ lilI lilI lil_c lil_c w h h).mono (by rintro e w' ⟨rfl, hb⟩; exact ⟨by rw [lil_same], hb⟩)
  have KH : Hid (∀ w, Tab w → Ss w (.slice o0 1 c0) [⟨#[104, 117, 98]⟩] → Calls Tryz.prog 10 #[.agg #[.slice o0 1 c0, .slice o1 0 c1, .slice none 0 0, .slice none 0 0, .slice none 0 0, .slice none 0 0]] w fun e w' => ∃ g q c, e = .returned (.slice (some ⟨g, q, none⟩) 1 c) ∧ w'.cell? ⟨g, q, none⟩ = some (.int .i64 4) ∧ w'.cell? ⟨g, q + 1, none⟩ = some (.string ⟨#[116, 121, 112, 101, 115]⟩) ∧ g < w'.heap.size ∧ Below w.heap.size w w') := fun w hT h => chkH_n o0 c0 o1 c1 w hT h
  clear hi hb KL
  go_wp2_with fail
  have BA := Lib.hid (over B1.out (below_alloc w1 (.cells #[.slice o0 1 c0, .slice o1 0 c1, .slice o2 1 c2, .slice o3 2 2, .slice o4 1 c4, .slice o5 0 c5] 30)))
  have IA := Lib.hid (HI.out.below (below_alloc w1 (.cells #[.slice o0 1 c0, .slice o1 0 c1, .slice o2 1 c2, .slice o3 2 2, .slice o4 1 c4, .slice o5 0 c5] 30)))
  refine (KO.out _ (HS.out.over BA.out) IA.out).mono ?_
  rintro e w2 ⟨a0, a1, a2, a4, a5, b0, b1, b2, b3, b4, b5, g, c, q, o, rfl, hn, hg, hnm, hq, hb⟩
  obtain ⟨W2, hW2⟩ : ∃ W2, w2.alloc (.cells #[.slice a0 1 b0, .slice a1 0 b1, .slice a2 1 b2, .slice (some ⟨q, o, none⟩) 1 b3, .slice a4 0 b4, .slice a5 0 b5] 30) = W2 := ⟨_, rfl⟩
  have M1 : Hid (Cb W2 w1.heap.size #[.slice o0 1 c0, .slice o1 0 c1, .slice o2 1 c2, .slice o3 2 2, .slice o4 1 c4, .slice o5 0 c5] 30) := by show Cb _ _ _ _; rw [← hW2]; exact ((Cb.made w1 #[.slice o0 1 c0, .slice o1 0 c1, .slice o2 1 c2, .slice o3 2 2, .slice o4 1 c4, .slice o5 0 c5] 30).below hb).old _
  have M2 : Hid (Cb W2 w2.heap.size #[.slice a0 1 b0, .slice a1 0 b1, .slice a2 1 b2, .slice (some ⟨q, o, none⟩) 1 b3, .slice a4 0 b4, .slice a5 0 b5] 30) := by show Cb _ _ _ _; rw [← hW2]; exact Cb.made w2 #[.slice a0 1 b0, .slice a1 0 b1, .slice a2 1 b2, .slice (some ⟨q, o, none⟩) 1 b3, .slice a4 0 b4, .slice a5 0 b5] 30
  have hb2 : Below w2.heap.size w2 W2 := by rw [← hW2]; exact below_alloc _ _
  have I2 := Lib.hid ((IA.out.below hb).below hb2)
  have B2 := Lib.hid (over (over BA.out hb) hb2)
  have n2 := (hb2.cell (p := ⟨g, 0, none⟩) hg).trans hn
  have g2 := Nat.lt_of_lt_of_le hg hb2.size
  have e2 := (hb2.cell (p := ⟨q, o, none⟩) hq).trans hnm
  have q2 := Nat.lt_of_lt_of_le hq hb2.size
  have HW2 := Lib.hid hW2
  clear hn hg hnm hq hb hb2 BA IA HI B1 KO HS hW2
  go_upto_region 3 with fail
  rw [HW2.out]
  clear HW2
  have m0 : W2.cell? ⟨w1.heap.size, 0, none⟩ = some (.slice o0 1 c0) := M1.out.cell 0 rfl
  have m1 : W2.cell? ⟨w1.heap.size, 1, none⟩ = some (.slice o1 0 c1) := M1.out.cell 1 rfl
  have m2 : W2.cell? ⟨w1.heap.size, 2, none⟩ = some (.slice o2 1 c2) := M1.out.cell 2 rfl
  have m3 : W2.cell? ⟨w1.heap.size, 3, none⟩ = some (.slice o3 2 2) := M1.out.cell 3 rfl
  have m4 : W2.cell? ⟨w1.heap.size, 4, none⟩ = some (.slice o4 1 c4) := M1.out.cell 4 rfl
  have m5 : W2.cell? ⟨w1.heap.size, 5, none⟩ = some (.slice o5 0 c5) := M1.out.cell 5 rfl
  go_wp2_with fail
  refine (KH.out _ (HT.out.over B2.out) I2.out.h0).mono ?_
  rintro e w3 ⟨gf, p3, c3, rfl, f0, f1, hg3, hb⟩
  have M1_3 := Lib.hid (M1.out.below hb)
  have M2_3 := Lib.hid (M2.out.below hb)
  have I3 := Lib.hid (I2.out.below hb)
  have B3 := Lib.hid (over B2.out hb)
  have n3 := (hb.cell (p := ⟨g, 0, none⟩) g2).trans n2
  have g3 := Nat.lt_of_lt_of_le g2 hb.size
  have e3 := (hb.cell (p := ⟨q, o, none⟩) q2).trans e2
  have q3 := Nat.lt_of_lt_of_le q2 hb.size
  clear hb n2 e2 g2 q2 M1 M2 I2 B2 m0 m1 m2 m3 m4 m5
  have m0 : w3.cell? ⟨w1.heap.size, 0, none⟩ = some (.slice o0 1 c0) := M1_3.out.cell 0 rfl
  have m1 : w3.cell? ⟨w1.heap.size, 1, none⟩ = some (.slice o1 0 c1) := M1_3.out.cell 1 rfl
  have m2 : w3.cell? ⟨w1.heap.size, 2, none⟩ = some (.slice o2 1 c2) := M1_3.out.cell 2 rfl
  have m3 : w3.cell? ⟨w1.heap.size, 3, none⟩ = some (.slice o3 2 2) := M1_3.out.cell 3 rfl
  have m4 : w3.cell? ⟨w1.heap.size, 4, none⟩ = some (.slice o4 1 c4) := M1_3.out.cell 4 rfl
  have m5 : w3.cell? ⟨w1.heap.size, 5, none⟩ = some (.slice o5 0 c5) := M1_3.out.cell 5 rfl
  go_wp2_with fail
  refine (KC.out _ (HT.out.over B3.out) I3.out).mono ?_
  rintro e w4 ⟨v4, d4, rfl, hb⟩
  have M1_4 := Lib.hid (M1_3.out.below hb)
  have M2_4 := Lib.hid (M2_3.out.below hb)
  have I4 := Lib.hid (I3.out.below hb)
  have B4 := Lib.hid (over B3.out hb)
  have n4 := (hb.cell (p := ⟨g, 0, none⟩) g3).trans n3
  have g4 := Nat.lt_of_lt_of_le g3 hb.size
  have e4 := (hb.cell (p := ⟨q, o, none⟩) q3).trans e3
  have q4 := Nat.lt_of_lt_of_le q3 hb.size
  have f0 := (hb.cell (p := ⟨gf, p3, none⟩) hg3).trans f0
  have f1 := (hb.cell (p := ⟨gf, p3 + 1, none⟩) hg3).trans f1
  have hg3 := Nat.lt_of_lt_of_le hg3 hb.size
  clear hb n3 e3 g3 q3 M1_3 M2_3 I3 B3 m0 m1 m2 m3 m4 m5
  have m0 : w4.cell? ⟨w1.heap.size, 0, none⟩ = some (.slice o0 1 c0) := M1_4.out.cell 0 rfl
  have m1 : w4.cell? ⟨w1.heap.size, 1, none⟩ = some (.slice o1 0 c1) := M1_4.out.cell 1 rfl
  have m2 : w4.cell? ⟨w1.heap.size, 2, none⟩ = some (.slice o2 1 c2) := M1_4.out.cell 2 rfl
  have m3 : w4.cell? ⟨w1.heap.size, 3, none⟩ = some (.slice o3 2 2) := M1_4.out.cell 3 rfl
  have m4 : w4.cell? ⟨w1.heap.size, 4, none⟩ = some (.slice o4 1 c4) := M1_4.out.cell 4 rfl
  have m5 : w4.cell? ⟨w1.heap.size, 5, none⟩ = some (.slice o5 0 c5) := M1_4.out.cell 5 rfl
  go_wp2_with fail
  refine (KA.out _ I4.out).mono ?_
  rintro e w5 ⟨rfl, hb⟩
  have M1_5 := Lib.hid (M1_4.out.below hb)
  have M2_5 := Lib.hid (M2_4.out.below hb)
  have I5 := Lib.hid (I4.out.below hb)
  have B5 := Lib.hid (over B4.out hb)
  have n5 := (hb.cell (p := ⟨g, 0, none⟩) g4).trans n4
  have g5 := Nat.lt_of_lt_of_le g4 hb.size
  have e5 := (hb.cell (p := ⟨q, o, none⟩) q4).trans e4
  have q5 := Nat.lt_of_lt_of_le q4 hb.size
  have f0 := (hb.cell (p := ⟨gf, p3, none⟩) hg3).trans f0
  have f1 := (hb.cell (p := ⟨gf, p3 + 1, none⟩) hg3).trans f1
  have hg3 := Nat.lt_of_lt_of_le hg3 hb.size
  clear hb n4 e4 g4 q4 M1_4 M2_4 I4 B4 m0 m1 m2 m3 m4 m5
  have m0 : w5.cell? ⟨w1.heap.size, 0, none⟩ = some (.slice o0 1 c0) := M1_5.out.cell 0 rfl
  have m1 : w5.cell? ⟨w1.heap.size, 1, none⟩ = some (.slice o1 0 c1) := M1_5.out.cell 1 rfl
  have m2 : w5.cell? ⟨w1.heap.size, 2, none⟩ = some (.slice o2 1 c2) := M1_5.out.cell 2 rfl
  have m3 : w5.cell? ⟨w1.heap.size, 3, none⟩ = some (.slice o3 2 2) := M1_5.out.cell 3 rfl
  have m4 : w5.cell? ⟨w1.heap.size, 4, none⟩ = some (.slice o4 1 c4) := M1_5.out.cell 4 rfl
  have m5 : w5.cell? ⟨w1.heap.size, 5, none⟩ = some (.slice o5 0 c5) := M1_5.out.cell 5 rfl
  go_wp2_with fail
  refine (KM.out _ I5.out).mono ?_
  rintro e w6 ⟨rfl, hb⟩
  have M1_6 := Lib.hid (M1_5.out.below hb)
  have M2_6 := Lib.hid (M2_5.out.below hb)
  have I6 := Lib.hid (I5.out.below hb)
  have B6 := Lib.hid (over B5.out hb)
  have n6 := (hb.cell (p := ⟨g, 0, none⟩) g5).trans n5
  have g6 := Nat.lt_of_lt_of_le g5 hb.size
  have e6 := (hb.cell (p := ⟨q, o, none⟩) q5).trans e5
  have q6 := Nat.lt_of_lt_of_le q5 hb.size
  have f0 := (hb.cell (p := ⟨gf, p3, none⟩) hg3).trans f0
  have f1 := (hb.cell (p := ⟨gf, p3 + 1, none⟩) hg3).trans f1
  have hg3 := Nat.lt_of_lt_of_le hg3 hb.size
  clear hb n5 e5 g5 q5 M1_5 M2_5 I5 B5 m0 m1 m2 m3 m4 m5
  have m0 : w6.cell? ⟨w1.heap.size, 0, none⟩ = some (.slice o0 1 c0) := M1_6.out.cell 0 rfl
  have m1 : w6.cell? ⟨w1.heap.size, 1, none⟩ = some (.slice o1 0 c1) := M1_6.out.cell 1 rfl
  have m2 : w6.cell? ⟨w1.heap.size, 2, none⟩ = some (.slice o2 1 c2) := M1_6.out.cell 2 rfl
  have m3 : w6.cell? ⟨w1.heap.size, 3, none⟩ = some (.slice o3 2 2) := M1_6.out.cell 3 rfl
  have m4 : w6.cell? ⟨w1.heap.size, 4, none⟩ = some (.slice o4 1 c4) := M1_6.out.cell 4 rfl
  have m5 : w6.cell? ⟨w1.heap.size, 5, none⟩ = some (.slice o5 0 c5) := M1_6.out.cell 5 rfl
  have t2 : w6.cell? ⟨w2.heap.size, 2, none⟩ = some (.slice a2 1 b2) := M2_6.out.cell 2 rfl
  have t3 : w6.cell? ⟨w2.heap.size, 3, none⟩ = some (.slice (some ⟨q, o, none⟩) 1 b3) := M2_6.out.cell 3 rfl
  have t4 : w6.cell? ⟨w2.heap.size, 4, none⟩ = some (.slice a4 0 b4) := M2_6.out.cell 4 rfl
  go_wp2_with fail
  refine (KS.out _ I6.out).mono ?_
  rintro e w7 ⟨rfl, hb⟩
  have B7 := Lib.hid (over B6.out hb)
  clear hb
  go_wp2_with fail
  go_ret
  exact ⟨rfl, B7.out⟩

end Go.Proofs.YtaallpebfcadjaaGreatDoor.T


