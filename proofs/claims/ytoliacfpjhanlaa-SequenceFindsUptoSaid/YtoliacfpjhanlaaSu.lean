/-
  DERIVED. Su: a part of the base of layer 13 (made by pack.py).
-/
import Derived.Test.YtoliacfpjhanlaaGH
/-! The samples (by gen_su.py). -/
namespace Go.Proofs.Ytoliacfpjhanlaa.T
open Go.RowKit
set_option maxRecDepth 8000
attribute [local irreducible] wpList Code.wp wpAnyH

def oP (n : ByteArray) : OrT := ⟨n, [1], 0, 0, 50, 0, 0, 0, 50, 0, 0, 0, 1, -1, -1, false⟩
def olP : List OrT := [oP ⟨#[111, 97]⟩, oP ⟨#[111, 98]⟩]
def beP : Bool → List (Int × Int)
  | true => [(0, 1)]
  | false => []
theorem os_pair {w : World} {q g : Nat} (h : Cb w q #[.string ⟨#[111, 97]⟩, .slice (some ⟨g, 0, none⟩) 1 1, .int .i64 0, .int .i64 0, .int .i64 50, .int .i64 0, .int .i64 0, .int .i64 0, .int .i64 50, .int .i64 0, .int .i64 0, .int .i64 0, .int .i64 1, .int .i64 (-1), .int .i64 (-1), .bool false, .string ⟨#[111, 98]⟩, .slice (some ⟨g, 0, none⟩) 1 1, .int .i64 0, .int .i64 0, .int .i64 50, .int .i64 0, .int .i64 0, .int .i64 0, .int .i64 50, .int .i64 0, .int .i64 0, .int .i64 0, .int .i64 1, .int .i64 (-1), .int .i64 (-1), .bool false] 68) (k : Cb w g #[.int .i64 1] 3) : Os w (.slice (some ⟨q, 0, none⟩) 2 2) olP := by
  have hl : L.Li w (.slice (some ⟨g, 0, none⟩) 1 1) [1] := ⟨_, _, rfl, fun i hi => ⟨_, rfl, k.lt, by
    obtain rfl : i = 0 := by simp only [List.length_singleton] at hi; omega
    exact k.cell 0 rfl⟩⟩
  refine ⟨_, _, rfl, fun i hi => ?_⟩
  have hi2 : i < 2 := hi
  match i, hi2 with
  | 0, _ => exact ⟨q, 0, _, rfl, h.lt, ⟨h.cell 0 rfl, h.cell 1 rfl, h.cell 2 rfl, h.cell 3 rfl, h.cell 4 rfl, h.cell 5 rfl, h.cell 6 rfl, h.cell 7 rfl, h.cell 8 rfl, h.cell 9 rfl, h.cell 10 rfl, h.cell 11 rfl, h.cell 12 rfl, h.cell 13 rfl, h.cell 14 rfl, h.cell 15 rfl⟩, hl⟩
  | 1, _ => exact ⟨q, 0, _, rfl, h.lt, ⟨h.cell 16 rfl, h.cell 17 rfl, h.cell 18 rfl, h.cell 19 rfl, h.cell 20 rfl, h.cell 21 rfl, h.cell 22 rfl, h.cell 23 rfl, h.cell 24 rfl, h.cell 25 rfl, h.cell 26 rfl, h.cell 27 rfl, h.cell 28 rfl, h.cell 29 rfl, h.cell 30 rfl, h.cell 31 rfl⟩, hl⟩
theorem ps_one {w : World} {q : Nat} (h : Cb w q #[.int .i64 0, .int .i64 1] 96) : Ps w (.slice (some ⟨q, 0, none⟩) 1 1) [(0, 1)] := ⟨_, _, rfl, fun i hi => ⟨q, 0, rfl, h.lt, by
  obtain rfl : i = 0 := by simp only [List.length_singleton] at hi; omega
  exact ⟨h.cell 0 rfl, h.cell 1 rfl⟩⟩⟩
theorem Ps.nil0 (w : World) : Ps w (.slice none 0 0) [] := ⟨none, 0, rfl, fun i hi => by cases hi⟩
theorem pair_false (w : World) : Calls Try.prog 26 #[.bool false] w fun e w' => ∃ (o0 o2 o3 o5 : Option Addr) (n0 c0 n2 c2 c3 c5 : Nat), e = .returned (.agg #[.slice o0 n0 c0, .slice none 0 0, .slice o2 n2 c2, .slice o3 2 c3, .slice none 0 0, .slice o5 0 c5]) ∧ Os w' (.slice o3 2 c3) olP ∧ Ps w' (.slice o5 0 c5) (beP false) ∧ Below w.heap.size w w' := by
  have HB : Below w.heap.size w w := Below.refl _ _
  refine sx_enter Try.func26 rfl [(0, .bool false)] (by kernel_rfl) ?_
  refine wp_seq ?_
  refine wp_region_lit ?_
  obtain ⟨W1, hW⟩ : ∃ W, w.alloc (.cells #[.slice none 0 0, .slice none 0 0, .slice none 0 0, .slice none 0 0, .slice none 0 0, .slice none 0 0] 30) = W := ⟨_, rfl⟩
  have hb := hW ▸ below_alloc w (.cells #[.slice none 0 0, .slice none 0 0, .slice none 0 0, .slice none 0 0, .slice none 0 0, .slice none 0 0] 30)
  have hq : Cb W1 w.heap.size #[.slice none 0 0, .slice none 0 0, .slice none 0 0, .slice none 0 0, .slice none 0 0, .slice none 0 0] 30 := hW ▸ Cb.made w #[.slice none 0 0, .slice none 0 0, .slice none 0 0, .slice none 0 0, .slice none 0 0, .slice none 0 0] 30
  refine sx_mem (by kernel_rfl) rfl rfl (.pointer (some ⟨w.heap.size, 0, none⟩)) W1 (by rw [← hW]; kernel_rfl) ?_
  replace HB := over HB hb
  have z1 := hb.size
  have M2 := hq
  have yM2 := hq.lt
  clear hq hb hW
  refine wpList_nil ?_
  refine sx_norm ?_
  refine wp_seq ?_
  refine wp_region_lit ?_
  obtain ⟨W3, hW⟩ : ∃ W, W1.alloc (.cells #[.int .i64 1] 3) = W := ⟨_, rfl⟩
  have hb := hW ▸ below_alloc W1 (.cells #[.int .i64 1] 3)
  have hq : Cb W3 W1.heap.size #[.int .i64 1] 3 := hW ▸ Cb.made W1 #[.int .i64 1] 3
  refine sx_mem (by kernel_rfl) rfl rfl (.slice (some ⟨W1.heap.size, 0, none⟩) 1 1) W3 (by rw [← hW]; kernel_rfl) ?_
  replace HB := over HB hb
  replace M2 := M2.below hb
  have z2 := hb.size
  have M4 := hq
  have yM4 := hq.lt
  clear hq hb hW
  refine sx_val (by kernel_rfl) rfl rfl (.agg #[.int .i64 0, .int .i64 0, .int .i64 50, .int .i64 0]) (by kernel_rfl) ?_
  refine sx_val (by kernel_rfl) rfl rfl (.agg #[.int .i64 0, .int .i64 0, .int .i64 50, .int .i64 0]) (by kernel_rfl) ?_
  refine sx_val (by kernel_rfl) rfl rfl (.agg #[.string ⟨#[111, 97]⟩, .slice (some ⟨W1.heap.size, 0, none⟩) 1 1, .int .i64 0, .int .i64 0, .int .i64 50, .int .i64 0, .int .i64 0, .int .i64 0, .int .i64 50, .int .i64 0, .int .i64 0, .int .i64 0, .int .i64 1, .int .i64 (-1), .int .i64 (-1), .bool false]) (by kernel_rfl) ?_
  obtain ⟨W6, hW⟩ : ∃ W, (W3.alloc (.cells #[.string ⟨#[]⟩, .slice none 0 0, .int .i64 0, .int .i64 0, .int .i64 0, .int .i64 0, .int .i64 0, .int .i64 0, .int .i64 0, .int .i64 0, .int .i64 0, .int .i64 0, .int .i64 0, .int .i64 0, .int .i64 0, .bool false] 68)).setRow W3.heap.size #[.string ⟨#[111, 97]⟩, .slice (some ⟨W1.heap.size, 0, none⟩) 1 1, .int .i64 0, .int .i64 0, .int .i64 50, .int .i64 0, .int .i64 0, .int .i64 0, .int .i64 50, .int .i64 0, .int .i64 0, .int .i64 0, .int .i64 1, .int .i64 (-1), .int .i64 (-1), .bool false] = W := ⟨_, rfl⟩
  have hb := hW ▸ below_var W3 (.cells #[.string ⟨#[]⟩, .slice none 0 0, .int .i64 0, .int .i64 0, .int .i64 0, .int .i64 0, .int .i64 0, .int .i64 0, .int .i64 0, .int .i64 0, .int .i64 0, .int .i64 0, .int .i64 0, .int .i64 0, .int .i64 0, .bool false] 68) #[.string ⟨#[111, 97]⟩, .slice (some ⟨W1.heap.size, 0, none⟩) 1 1, .int .i64 0, .int .i64 0, .int .i64 50, .int .i64 0, .int .i64 0, .int .i64 0, .int .i64 50, .int .i64 0, .int .i64 0, .int .i64 0, .int .i64 1, .int .i64 (-1), .int .i64 (-1), .bool false]
  have hq : Cb W6 W3.heap.size #[.string ⟨#[111, 97]⟩, .slice (some ⟨W1.heap.size, 0, none⟩) 1 1, .int .i64 0, .int .i64 0, .int .i64 50, .int .i64 0, .int .i64 0, .int .i64 0, .int .i64 50, .int .i64 0, .int .i64 0, .int .i64 0, .int .i64 1, .int .i64 (-1), .int .i64 (-1), .bool false] 68 := hW ▸ Cb.row (Cb.made W3 #[.string ⟨#[]⟩, .slice none 0 0, .int .i64 0, .int .i64 0, .int .i64 0, .int .i64 0, .int .i64 0, .int .i64 0, .int .i64 0, .int .i64 0, .int .i64 0, .int .i64 0, .int .i64 0, .int .i64 0, .int .i64 0, .bool false] 68) _
  refine sx_mem (by kernel_rfl) rfl rfl (.pointer (some ⟨W3.heap.size, 0, none⟩)) (W3.alloc (.cells #[.string ⟨#[]⟩, .slice none 0 0, .int .i64 0, .int .i64 0, .int .i64 0, .int .i64 0, .int .i64 0, .int .i64 0, .int .i64 0, .int .i64 0, .int .i64 0, .int .i64 0, .int .i64 0, .int .i64 0, .int .i64 0, .bool false] 68)) (by kernel_rfl) ?_
  refine sx_store (cells := #[.string ⟨#[111, 97]⟩, .slice (some ⟨W1.heap.size, 0, none⟩) 1 1, .int .i64 0, .int .i64 0, .int .i64 50, .int .i64 0, .int .i64 0, .int .i64 0, .int .i64 50, .int .i64 0, .int .i64 0, .int .i64 0, .int .i64 1, .int .i64 (-1), .int .i64 (-1), .bool false]) (by kernel_rfl) rfl rfl (Cb.made W3 #[.string ⟨#[]⟩, .slice none 0 0, .int .i64 0, .int .i64 0, .int .i64 0, .int .i64 0, .int .i64 0, .int .i64 0, .int .i64 0, .int .i64 0, .int .i64 0, .int .i64 0, .int .i64 0, .int .i64 0, .int .i64 0, .bool false] 68) (by kernel_rfl) (by kernel_rfl) (by kernel_rfl) (by kernel_rfl) (by kernel_rfl) ?_
  rw [hW]
  replace HB := over HB hb
  replace M2 := M2.below hb
  replace M4 := M4.below hb
  have z3 := hb.size
  have M5 := hq
  have yM5 := hq.lt
  clear hq hb hW
  refine wpList_nil ?_
  refine sx_norm ?_
  refine wp_seq ?_
  refine wp_region_lit ?_
  refine sx_val (by kernel_rfl) rfl rfl (.agg #[.string ⟨#[111, 97]⟩, .slice (some ⟨W1.heap.size, 0, none⟩) 1 1, .int .i64 0, .int .i64 0, .int .i64 50, .int .i64 0, .int .i64 0, .int .i64 0, .int .i64 50, .int .i64 0, .int .i64 0, .int .i64 0, .int .i64 1, .int .i64 (-1), .int .i64 (-1), .bool false]) (ex_load rfl M5 (by kernel_rfl) Try.underlying68 rfl (by kernel_rfl)) ?_
  obtain ⟨W8, hW⟩ : ∃ W, (W6.alloc (.cells #[.string ⟨#[]⟩, .slice none 0 0, .int .i64 0, .int .i64 0, .int .i64 0, .int .i64 0, .int .i64 0, .int .i64 0, .int .i64 0, .int .i64 0, .int .i64 0, .int .i64 0, .int .i64 0, .int .i64 0, .int .i64 0, .bool false] 68)).setRow W6.heap.size #[.string ⟨#[111, 97]⟩, .slice (some ⟨W1.heap.size, 0, none⟩) 1 1, .int .i64 0, .int .i64 0, .int .i64 50, .int .i64 0, .int .i64 0, .int .i64 0, .int .i64 50, .int .i64 0, .int .i64 0, .int .i64 0, .int .i64 1, .int .i64 (-1), .int .i64 (-1), .bool false] = W := ⟨_, rfl⟩
  have hb := hW ▸ below_var W6 (.cells #[.string ⟨#[]⟩, .slice none 0 0, .int .i64 0, .int .i64 0, .int .i64 0, .int .i64 0, .int .i64 0, .int .i64 0, .int .i64 0, .int .i64 0, .int .i64 0, .int .i64 0, .int .i64 0, .int .i64 0, .int .i64 0, .bool false] 68) #[.string ⟨#[111, 97]⟩, .slice (some ⟨W1.heap.size, 0, none⟩) 1 1, .int .i64 0, .int .i64 0, .int .i64 50, .int .i64 0, .int .i64 0, .int .i64 0, .int .i64 50, .int .i64 0, .int .i64 0, .int .i64 0, .int .i64 1, .int .i64 (-1), .int .i64 (-1), .bool false]
  have hq : Cb W8 W6.heap.size #[.string ⟨#[111, 97]⟩, .slice (some ⟨W1.heap.size, 0, none⟩) 1 1, .int .i64 0, .int .i64 0, .int .i64 50, .int .i64 0, .int .i64 0, .int .i64 0, .int .i64 50, .int .i64 0, .int .i64 0, .int .i64 0, .int .i64 1, .int .i64 (-1), .int .i64 (-1), .bool false] 68 := hW ▸ Cb.row (Cb.made W6 #[.string ⟨#[]⟩, .slice none 0 0, .int .i64 0, .int .i64 0, .int .i64 0, .int .i64 0, .int .i64 0, .int .i64 0, .int .i64 0, .int .i64 0, .int .i64 0, .int .i64 0, .int .i64 0, .int .i64 0, .int .i64 0, .bool false] 68) _
  refine sx_mem (by kernel_rfl) rfl rfl (.pointer (some ⟨W6.heap.size, 0, none⟩)) (W6.alloc (.cells #[.string ⟨#[]⟩, .slice none 0 0, .int .i64 0, .int .i64 0, .int .i64 0, .int .i64 0, .int .i64 0, .int .i64 0, .int .i64 0, .int .i64 0, .int .i64 0, .int .i64 0, .int .i64 0, .int .i64 0, .int .i64 0, .bool false] 68)) (by kernel_rfl) ?_
  refine sx_store (cells := #[.string ⟨#[111, 97]⟩, .slice (some ⟨W1.heap.size, 0, none⟩) 1 1, .int .i64 0, .int .i64 0, .int .i64 50, .int .i64 0, .int .i64 0, .int .i64 0, .int .i64 50, .int .i64 0, .int .i64 0, .int .i64 0, .int .i64 1, .int .i64 (-1), .int .i64 (-1), .bool false]) (by kernel_rfl) rfl rfl (Cb.made W6 #[.string ⟨#[]⟩, .slice none 0 0, .int .i64 0, .int .i64 0, .int .i64 0, .int .i64 0, .int .i64 0, .int .i64 0, .int .i64 0, .int .i64 0, .int .i64 0, .int .i64 0, .int .i64 0, .int .i64 0, .int .i64 0, .bool false] 68) (by kernel_rfl) (by kernel_rfl) (by kernel_rfl) (by kernel_rfl) (by kernel_rfl) ?_
  rw [hW]
  replace HB := over HB hb
  replace M2 := M2.below hb
  replace M4 := M4.below hb
  replace M5 := M5.below hb
  have z4 := hb.size
  have M7 := hq
  have yM7 := hq.lt
  clear hq hb hW
  refine wpList_nil ?_
  refine sx_norm ?_
  refine wp_seq ?_
  refine wp_region_lit ?_
  refine sx_val (by kernel_rfl) rfl rfl (.pointer (some ⟨W6.heap.size, 0, none⟩)) (by kernel_rfl) ?_
  refine sx_do (by kernel_rfl) rfl _ (ex_storeC (k := 0) (old := .string ⟨#[111, 97]⟩) (v := .string ⟨#[111, 98]⟩) rfl M7 (by kernel_rfl) (by kernel_rfl) (by kernel_rfl) (by kernel_rfl) (by kernel_rfl)) ?_
  obtain ⟨W9, hW⟩ : ∃ W, W8.setCell ⟨W6.heap.size, 0, none⟩ (.string ⟨#[111, 98]⟩) = W := ⟨_, rfl⟩
  have hg : W8.grownBy W9 (some (W6.heap.size)) := hW ▸ grown_set _ _ _ _
  have hq : Cb W9 (W6.heap.size) #[.string ⟨#[111, 98]⟩, .slice (some ⟨W1.heap.size, 0, none⟩) 1 1, .int .i64 0, .int .i64 0, .int .i64 50, .int .i64 0, .int .i64 0, .int .i64 0, .int .i64 50, .int .i64 0, .int .i64 0, .int .i64 0, .int .i64 1, .int .i64 (-1), .int .i64 (-1), .bool false] 68 := hW ▸ M7.set 0 (.string ⟨#[111, 98]⟩)
  rw [hW]
  replace HB := HB.grown hg (by omega) (fun x e => by simp only [Option.some.injEq] at e; omega)
  replace M2 := M2.kept hg (by omega)
  replace M4 := M4.kept hg (by omega)
  replace M5 := M5.kept hg (by omega)
  have z5 := hg.size
  replace M7 := hq
  clear hq hg hW
  refine wpList_nil ?_
  refine sx_norm ?_
  refine wp_seq ?_
  refine wp_region_lit ?_
  obtain ⟨W10, hW⟩ : ∃ W, W9.alloc (.cells #[.int .i64 5] 3) = W := ⟨_, rfl⟩
  have hb := hW ▸ below_alloc W9 (.cells #[.int .i64 5] 3)
  have hq : Cb W10 W9.heap.size #[.int .i64 5] 3 := hW ▸ Cb.made W9 #[.int .i64 5] 3
  refine sx_mem (by kernel_rfl) rfl rfl (.slice (some ⟨W9.heap.size, 0, none⟩) 1 1) W10 (by rw [← hW]; kernel_rfl) ?_
  replace HB := over HB hb
  replace M2 := M2.below hb
  replace M4 := M4.below hb
  replace M5 := M5.below hb
  replace M7 := M7.below hb
  have z6 := hb.size
  have M11 := hq
  have yM11 := hq.lt
  clear hq hb hW
  refine sx_val (by kernel_rfl) rfl rfl (.agg #[.string ⟨#[118, 97, 110]⟩, .int .i64 1, .int .i64 0, .int .i64 0, .slice (some ⟨W9.heap.size, 0, none⟩) 1 1, .int .i64 0, .int .i64 0, .int .i64 0, .int .i64 100, .int .i64 50, .int .i64 0, .int .i64 0, .int .i64 0, .int .i64 0]) (by kernel_rfl) ?_
  obtain ⟨W13, hW⟩ : ∃ W, (W10.alloc (.cells #[.string ⟨#[]⟩, .int .i64 0, .int .i64 0, .int .i64 0, .slice none 0 0, .int .i64 0, .int .i64 0, .int .i64 0, .int .i64 0, .int .i64 0, .int .i64 0, .int .i64 0, .int .i64 0, .int .i64 0] 95)).setRow W10.heap.size #[.string ⟨#[118, 97, 110]⟩, .int .i64 1, .int .i64 0, .int .i64 0, .slice (some ⟨W9.heap.size, 0, none⟩) 1 1, .int .i64 0, .int .i64 0, .int .i64 0, .int .i64 100, .int .i64 50, .int .i64 0, .int .i64 0, .int .i64 0, .int .i64 0] = W := ⟨_, rfl⟩
  have hb := hW ▸ below_var W10 (.cells #[.string ⟨#[]⟩, .int .i64 0, .int .i64 0, .int .i64 0, .slice none 0 0, .int .i64 0, .int .i64 0, .int .i64 0, .int .i64 0, .int .i64 0, .int .i64 0, .int .i64 0, .int .i64 0, .int .i64 0] 95) #[.string ⟨#[118, 97, 110]⟩, .int .i64 1, .int .i64 0, .int .i64 0, .slice (some ⟨W9.heap.size, 0, none⟩) 1 1, .int .i64 0, .int .i64 0, .int .i64 0, .int .i64 100, .int .i64 50, .int .i64 0, .int .i64 0, .int .i64 0, .int .i64 0]
  have hq : Cb W13 W10.heap.size #[.string ⟨#[118, 97, 110]⟩, .int .i64 1, .int .i64 0, .int .i64 0, .slice (some ⟨W9.heap.size, 0, none⟩) 1 1, .int .i64 0, .int .i64 0, .int .i64 0, .int .i64 100, .int .i64 50, .int .i64 0, .int .i64 0, .int .i64 0, .int .i64 0] 95 := hW ▸ Cb.row (Cb.made W10 #[.string ⟨#[]⟩, .int .i64 0, .int .i64 0, .int .i64 0, .slice none 0 0, .int .i64 0, .int .i64 0, .int .i64 0, .int .i64 0, .int .i64 0, .int .i64 0, .int .i64 0, .int .i64 0, .int .i64 0] 95) _
  refine sx_mem (by kernel_rfl) rfl rfl (.pointer (some ⟨W10.heap.size, 0, none⟩)) (W10.alloc (.cells #[.string ⟨#[]⟩, .int .i64 0, .int .i64 0, .int .i64 0, .slice none 0 0, .int .i64 0, .int .i64 0, .int .i64 0, .int .i64 0, .int .i64 0, .int .i64 0, .int .i64 0, .int .i64 0, .int .i64 0] 95)) (by kernel_rfl) ?_
  refine sx_store (cells := #[.string ⟨#[118, 97, 110]⟩, .int .i64 1, .int .i64 0, .int .i64 0, .slice (some ⟨W9.heap.size, 0, none⟩) 1 1, .int .i64 0, .int .i64 0, .int .i64 0, .int .i64 100, .int .i64 50, .int .i64 0, .int .i64 0, .int .i64 0, .int .i64 0]) (by kernel_rfl) rfl rfl (Cb.made W10 #[.string ⟨#[]⟩, .int .i64 0, .int .i64 0, .int .i64 0, .slice none 0 0, .int .i64 0, .int .i64 0, .int .i64 0, .int .i64 0, .int .i64 0, .int .i64 0, .int .i64 0, .int .i64 0, .int .i64 0] 95) (by kernel_rfl) (by kernel_rfl) (by kernel_rfl) (by kernel_rfl) (by kernel_rfl) ?_
  rw [hW]
  replace HB := over HB hb
  replace M2 := M2.below hb
  replace M4 := M4.below hb
  replace M5 := M5.below hb
  replace M7 := M7.below hb
  replace M11 := M11.below hb
  have z7 := hb.size
  have M12 := hq
  have yM12 := hq.lt
  clear hq hb hW
  refine wpList_nil ?_
  refine sx_norm ?_
  refine wp_seq ?_
  refine wp_region_lit ?_
  obtain ⟨W14, hW⟩ : ∃ W, W13.alloc (.cells #[.string ⟨#[104, 117, 98]⟩] 9) = W := ⟨_, rfl⟩
  have hb := hW ▸ below_alloc W13 (.cells #[.string ⟨#[104, 117, 98]⟩] 9)
  have hq : Cb W14 W13.heap.size #[.string ⟨#[104, 117, 98]⟩] 9 := hW ▸ Cb.made W13 #[.string ⟨#[104, 117, 98]⟩] 9
  refine sx_mem (by kernel_rfl) rfl rfl (.slice (some ⟨W13.heap.size, 0, none⟩) 1 1) W14 (by rw [← hW]; kernel_rfl) ?_
  replace HB := over HB hb
  replace M2 := M2.below hb
  replace M4 := M4.below hb
  replace M5 := M5.below hb
  replace M7 := M7.below hb
  replace M11 := M11.below hb
  replace M12 := M12.below hb
  have z8 := hb.size
  have M15 := hq
  have yM15 := hq.lt
  clear hq hb hW
  refine sx_val (by kernel_rfl) rfl rfl (.agg #[.slice (some ⟨W13.heap.size, 0, none⟩) 1 1, .slice none 0 0]) (by kernel_rfl) ?_
  refine sx_val (by kernel_rfl) rfl rfl (.agg #[.string ⟨#[118, 97, 110]⟩, .int .i64 1, .int .i64 0, .int .i64 0, .slice (some ⟨W9.heap.size, 0, none⟩) 1 1, .int .i64 0, .int .i64 0, .int .i64 0, .int .i64 100, .int .i64 50, .int .i64 0, .int .i64 0, .int .i64 0, .int .i64 0]) (ex_load rfl M12 (by kernel_rfl) Try.underlying95 rfl (by kernel_rfl)) ?_
  obtain ⟨W16, hW⟩ : ∃ W, W14.alloc (.cells #[.string ⟨#[118, 97, 110]⟩, .int .i64 1, .int .i64 0, .int .i64 0, .slice (some ⟨W9.heap.size, 0, none⟩) 1 1, .int .i64 0, .int .i64 0, .int .i64 0, .int .i64 100, .int .i64 50, .int .i64 0, .int .i64 0, .int .i64 0, .int .i64 0] 95) = W := ⟨_, rfl⟩
  have hb := hW ▸ below_alloc W14 (.cells #[.string ⟨#[118, 97, 110]⟩, .int .i64 1, .int .i64 0, .int .i64 0, .slice (some ⟨W9.heap.size, 0, none⟩) 1 1, .int .i64 0, .int .i64 0, .int .i64 0, .int .i64 100, .int .i64 50, .int .i64 0, .int .i64 0, .int .i64 0, .int .i64 0] 95)
  have hq : Cb W16 W14.heap.size #[.string ⟨#[118, 97, 110]⟩, .int .i64 1, .int .i64 0, .int .i64 0, .slice (some ⟨W9.heap.size, 0, none⟩) 1 1, .int .i64 0, .int .i64 0, .int .i64 0, .int .i64 100, .int .i64 50, .int .i64 0, .int .i64 0, .int .i64 0, .int .i64 0] 95 := hW ▸ Cb.made W14 #[.string ⟨#[118, 97, 110]⟩, .int .i64 1, .int .i64 0, .int .i64 0, .slice (some ⟨W9.heap.size, 0, none⟩) 1 1, .int .i64 0, .int .i64 0, .int .i64 0, .int .i64 100, .int .i64 50, .int .i64 0, .int .i64 0, .int .i64 0, .int .i64 0] 95
  refine sx_mem (by kernel_rfl) rfl rfl (.slice (some ⟨W14.heap.size, 0, none⟩) 1 1) W16 (by rw [← hW]; kernel_rfl) ?_
  replace HB := over HB hb
  replace M2 := M2.below hb
  replace M4 := M4.below hb
  replace M5 := M5.below hb
  replace M7 := M7.below hb
  replace M11 := M11.below hb
  replace M12 := M12.below hb
  replace M15 := M15.below hb
  have z9 := hb.size
  have M17 := hq
  have yM17 := hq.lt
  clear hq hb hW
  refine sx_val (by kernel_rfl) rfl rfl (.agg #[.string ⟨#[111, 97]⟩, .slice (some ⟨W1.heap.size, 0, none⟩) 1 1, .int .i64 0, .int .i64 0, .int .i64 50, .int .i64 0, .int .i64 0, .int .i64 0, .int .i64 50, .int .i64 0, .int .i64 0, .int .i64 0, .int .i64 1, .int .i64 (-1), .int .i64 (-1), .bool false]) (ex_load rfl M5 (by kernel_rfl) Try.underlying68 rfl (by kernel_rfl)) ?_
  refine sx_val (by kernel_rfl) rfl rfl (.agg #[.string ⟨#[111, 98]⟩, .slice (some ⟨W1.heap.size, 0, none⟩) 1 1, .int .i64 0, .int .i64 0, .int .i64 50, .int .i64 0, .int .i64 0, .int .i64 0, .int .i64 50, .int .i64 0, .int .i64 0, .int .i64 0, .int .i64 1, .int .i64 (-1), .int .i64 (-1), .bool false]) (ex_load rfl M7 (by kernel_rfl) Try.underlying68 rfl (by kernel_rfl)) ?_
  obtain ⟨W18, hW⟩ : ∃ W, W16.alloc (.cells #[.string ⟨#[111, 97]⟩, .slice (some ⟨W1.heap.size, 0, none⟩) 1 1, .int .i64 0, .int .i64 0, .int .i64 50, .int .i64 0, .int .i64 0, .int .i64 0, .int .i64 50, .int .i64 0, .int .i64 0, .int .i64 0, .int .i64 1, .int .i64 (-1), .int .i64 (-1), .bool false, .string ⟨#[111, 98]⟩, .slice (some ⟨W1.heap.size, 0, none⟩) 1 1, .int .i64 0, .int .i64 0, .int .i64 50, .int .i64 0, .int .i64 0, .int .i64 0, .int .i64 50, .int .i64 0, .int .i64 0, .int .i64 0, .int .i64 1, .int .i64 (-1), .int .i64 (-1), .bool false] 68) = W := ⟨_, rfl⟩
  have hb := hW ▸ below_alloc W16 (.cells #[.string ⟨#[111, 97]⟩, .slice (some ⟨W1.heap.size, 0, none⟩) 1 1, .int .i64 0, .int .i64 0, .int .i64 50, .int .i64 0, .int .i64 0, .int .i64 0, .int .i64 50, .int .i64 0, .int .i64 0, .int .i64 0, .int .i64 1, .int .i64 (-1), .int .i64 (-1), .bool false, .string ⟨#[111, 98]⟩, .slice (some ⟨W1.heap.size, 0, none⟩) 1 1, .int .i64 0, .int .i64 0, .int .i64 50, .int .i64 0, .int .i64 0, .int .i64 0, .int .i64 50, .int .i64 0, .int .i64 0, .int .i64 0, .int .i64 1, .int .i64 (-1), .int .i64 (-1), .bool false] 68)
  have hq : Cb W18 W16.heap.size #[.string ⟨#[111, 97]⟩, .slice (some ⟨W1.heap.size, 0, none⟩) 1 1, .int .i64 0, .int .i64 0, .int .i64 50, .int .i64 0, .int .i64 0, .int .i64 0, .int .i64 50, .int .i64 0, .int .i64 0, .int .i64 0, .int .i64 1, .int .i64 (-1), .int .i64 (-1), .bool false, .string ⟨#[111, 98]⟩, .slice (some ⟨W1.heap.size, 0, none⟩) 1 1, .int .i64 0, .int .i64 0, .int .i64 50, .int .i64 0, .int .i64 0, .int .i64 0, .int .i64 50, .int .i64 0, .int .i64 0, .int .i64 0, .int .i64 1, .int .i64 (-1), .int .i64 (-1), .bool false] 68 := hW ▸ Cb.made W16 #[.string ⟨#[111, 97]⟩, .slice (some ⟨W1.heap.size, 0, none⟩) 1 1, .int .i64 0, .int .i64 0, .int .i64 50, .int .i64 0, .int .i64 0, .int .i64 0, .int .i64 50, .int .i64 0, .int .i64 0, .int .i64 0, .int .i64 1, .int .i64 (-1), .int .i64 (-1), .bool false, .string ⟨#[111, 98]⟩, .slice (some ⟨W1.heap.size, 0, none⟩) 1 1, .int .i64 0, .int .i64 0, .int .i64 50, .int .i64 0, .int .i64 0, .int .i64 0, .int .i64 50, .int .i64 0, .int .i64 0, .int .i64 0, .int .i64 1, .int .i64 (-1), .int .i64 (-1), .bool false] 68
  refine sx_mem (by kernel_rfl) rfl rfl (.slice (some ⟨W16.heap.size, 0, none⟩) 2 2) W18 (by rw [← hW]; kernel_rfl) ?_
  replace HB := over HB hb
  replace M2 := M2.below hb
  replace M4 := M4.below hb
  replace M5 := M5.below hb
  replace M7 := M7.below hb
  replace M11 := M11.below hb
  replace M12 := M12.below hb
  replace M15 := M15.below hb
  replace M17 := M17.below hb
  have z10 := hb.size
  have M19 := hq
  have yM19 := hq.lt
  clear hq hb hW
  refine sx_val (by kernel_rfl) rfl rfl (.agg #[.slice (some ⟨W13.heap.size, 0, none⟩) 1 1, .slice none 0 0, .slice (some ⟨W14.heap.size, 0, none⟩) 1 1, .slice (some ⟨W16.heap.size, 0, none⟩) 2 2, .slice none 0 0, .slice none 0 0]) (by kernel_rfl) ?_
  obtain ⟨W21, hW⟩ : ∃ W, (W18.alloc (.cells #[.slice none 0 0, .slice none 0 0, .slice none 0 0, .slice none 0 0, .slice none 0 0, .slice none 0 0] 30)).setRow W18.heap.size #[.slice (some ⟨W13.heap.size, 0, none⟩) 1 1, .slice none 0 0, .slice (some ⟨W14.heap.size, 0, none⟩) 1 1, .slice (some ⟨W16.heap.size, 0, none⟩) 2 2, .slice none 0 0, .slice none 0 0] = W := ⟨_, rfl⟩
  have hb := hW ▸ below_var W18 (.cells #[.slice none 0 0, .slice none 0 0, .slice none 0 0, .slice none 0 0, .slice none 0 0, .slice none 0 0] 30) #[.slice (some ⟨W13.heap.size, 0, none⟩) 1 1, .slice none 0 0, .slice (some ⟨W14.heap.size, 0, none⟩) 1 1, .slice (some ⟨W16.heap.size, 0, none⟩) 2 2, .slice none 0 0, .slice none 0 0]
  have hq : Cb W21 W18.heap.size #[.slice (some ⟨W13.heap.size, 0, none⟩) 1 1, .slice none 0 0, .slice (some ⟨W14.heap.size, 0, none⟩) 1 1, .slice (some ⟨W16.heap.size, 0, none⟩) 2 2, .slice none 0 0, .slice none 0 0] 30 := hW ▸ Cb.row (Cb.made W18 #[.slice none 0 0, .slice none 0 0, .slice none 0 0, .slice none 0 0, .slice none 0 0, .slice none 0 0] 30) _
  refine sx_mem (by kernel_rfl) rfl rfl (.pointer (some ⟨W18.heap.size, 0, none⟩)) (W18.alloc (.cells #[.slice none 0 0, .slice none 0 0, .slice none 0 0, .slice none 0 0, .slice none 0 0, .slice none 0 0] 30)) (by kernel_rfl) ?_
  refine sx_store (cells := #[.slice (some ⟨W13.heap.size, 0, none⟩) 1 1, .slice none 0 0, .slice (some ⟨W14.heap.size, 0, none⟩) 1 1, .slice (some ⟨W16.heap.size, 0, none⟩) 2 2, .slice none 0 0, .slice none 0 0]) (by kernel_rfl) rfl rfl (Cb.made W18 #[.slice none 0 0, .slice none 0 0, .slice none 0 0, .slice none 0 0, .slice none 0 0, .slice none 0 0] 30) (by kernel_rfl) (by kernel_rfl) (by kernel_rfl) (by kernel_rfl) (by kernel_rfl) ?_
  rw [hW]
  replace HB := over HB hb
  replace M2 := M2.below hb
  replace M4 := M4.below hb
  replace M5 := M5.below hb
  replace M7 := M7.below hb
  replace M11 := M11.below hb
  replace M12 := M12.below hb
  replace M15 := M15.below hb
  replace M17 := M17.below hb
  replace M19 := M19.below hb
  have z11 := hb.size
  have M20 := hq
  have yM20 := hq.lt
  clear hq hb hW
  refine wpList_nil ?_
  refine sx_norm ?_
  refine wp_seq ?_
  refine wp_seq ?_
  refine wp_region_lit ?_
  refine sx_val (by kernel_rfl) rfl rfl (.bool false) (by kernel_rfl) ?_
  refine wpList_nil ?_
  refine sx_norm ?_
  refine sx_false (by kernel_rfl) ?_
  refine wp_skip ?_
  refine sx_norm ?_
  refine wp_seq ?_
  refine wp_region_lit ?_
  refine sx_val (by kernel_rfl) rfl rfl (.agg #[.slice (some ⟨W13.heap.size, 0, none⟩) 1 1, .slice none 0 0, .slice (some ⟨W14.heap.size, 0, none⟩) 1 1, .slice (some ⟨W16.heap.size, 0, none⟩) 2 2, .slice none 0 0, .slice none 0 0]) (ex_load rfl M20 (by kernel_rfl) Try.underlying30 rfl (by kernel_rfl)) ?_
  refine sx_store (cells := #[.slice (some ⟨W13.heap.size, 0, none⟩) 1 1, .slice none 0 0, .slice (some ⟨W14.heap.size, 0, none⟩) 1 1, .slice (some ⟨W16.heap.size, 0, none⟩) 2 2, .slice none 0 0, .slice none 0 0]) (by kernel_rfl) rfl rfl M2 (by kernel_rfl) (by kernel_rfl) (by kernel_rfl) (by kernel_rfl) (by kernel_rfl) ?_
  obtain ⟨W22, hW⟩ : ∃ W, W21.setRow (w.heap.size) #[.slice (some ⟨W13.heap.size, 0, none⟩) 1 1, .slice none 0 0, .slice (some ⟨W14.heap.size, 0, none⟩) 1 1, .slice (some ⟨W16.heap.size, 0, none⟩) 2 2, .slice none 0 0, .slice none 0 0] = W := ⟨_, rfl⟩
  have hg : W21.grownBy W22 (some (w.heap.size)) := hW ▸ grown_row _ _ _
  have hq : Cb W22 (w.heap.size) #[.slice (some ⟨W13.heap.size, 0, none⟩) 1 1, .slice none 0 0, .slice (some ⟨W14.heap.size, 0, none⟩) 1 1, .slice (some ⟨W16.heap.size, 0, none⟩) 2 2, .slice none 0 0, .slice none 0 0] 30 := hW ▸ Cb.row M2 _
  rw [hW]
  replace HB := HB.grown hg (by omega) (fun x e => by simp only [Option.some.injEq] at e; omega)
  replace M4 := M4.kept hg (by omega)
  replace M5 := M5.kept hg (by omega)
  replace M7 := M7.kept hg (by omega)
  replace M11 := M11.kept hg (by omega)
  replace M12 := M12.kept hg (by omega)
  replace M15 := M15.kept hg (by omega)
  replace M17 := M17.kept hg (by omega)
  replace M19 := M19.kept hg (by omega)
  replace M20 := M20.kept hg (by omega)
  have z12 := hg.size
  replace M2 := hq
  clear hq hg hW
  refine wpList_nil ?_
  refine sx_norm ?_
  refine wp_ret ?_
  exact sx_retc M2 rfl rfl (by kernel_rfl) Try.underlying30 rfl (by kernel_rfl) ⟨_, _, _, _, _, _, _, _, _, _, rfl, os_pair M19 M4, Ps.nil0 _, HB⟩

theorem pair_true (w : World) : Calls Try.prog 26 #[.bool true] w fun e w' => ∃ (o0 o2 o3 o5 : Option Addr) (n0 c0 n2 c2 c3 c5 : Nat), e = .returned (.agg #[.slice o0 n0 c0, .slice none 0 0, .slice o2 n2 c2, .slice o3 2 c3, .slice none 0 0, .slice o5 1 c5]) ∧ Os w' (.slice o3 2 c3) olP ∧ Ps w' (.slice o5 1 c5) (beP true) ∧ Below w.heap.size w w' := by
  have HB : Below w.heap.size w w := Below.refl _ _
  refine sx_enter Try.func26 rfl [(0, .bool true)] (by kernel_rfl) ?_
  refine wp_seq ?_
  refine wp_region_lit ?_
  obtain ⟨W1, hW⟩ : ∃ W, w.alloc (.cells #[.slice none 0 0, .slice none 0 0, .slice none 0 0, .slice none 0 0, .slice none 0 0, .slice none 0 0] 30) = W := ⟨_, rfl⟩
  have hb := hW ▸ below_alloc w (.cells #[.slice none 0 0, .slice none 0 0, .slice none 0 0, .slice none 0 0, .slice none 0 0, .slice none 0 0] 30)
  have hq : Cb W1 w.heap.size #[.slice none 0 0, .slice none 0 0, .slice none 0 0, .slice none 0 0, .slice none 0 0, .slice none 0 0] 30 := hW ▸ Cb.made w #[.slice none 0 0, .slice none 0 0, .slice none 0 0, .slice none 0 0, .slice none 0 0, .slice none 0 0] 30
  refine sx_mem (by kernel_rfl) rfl rfl (.pointer (some ⟨w.heap.size, 0, none⟩)) W1 (by rw [← hW]; kernel_rfl) ?_
  replace HB := over HB hb
  have z1 := hb.size
  have M2 := hq
  have yM2 := hq.lt
  clear hq hb hW
  refine wpList_nil ?_
  refine sx_norm ?_
  refine wp_seq ?_
  refine wp_region_lit ?_
  obtain ⟨W3, hW⟩ : ∃ W, W1.alloc (.cells #[.int .i64 1] 3) = W := ⟨_, rfl⟩
  have hb := hW ▸ below_alloc W1 (.cells #[.int .i64 1] 3)
  have hq : Cb W3 W1.heap.size #[.int .i64 1] 3 := hW ▸ Cb.made W1 #[.int .i64 1] 3
  refine sx_mem (by kernel_rfl) rfl rfl (.slice (some ⟨W1.heap.size, 0, none⟩) 1 1) W3 (by rw [← hW]; kernel_rfl) ?_
  replace HB := over HB hb
  replace M2 := M2.below hb
  have z2 := hb.size
  have M4 := hq
  have yM4 := hq.lt
  clear hq hb hW
  refine sx_val (by kernel_rfl) rfl rfl (.agg #[.int .i64 0, .int .i64 0, .int .i64 50, .int .i64 0]) (by kernel_rfl) ?_
  refine sx_val (by kernel_rfl) rfl rfl (.agg #[.int .i64 0, .int .i64 0, .int .i64 50, .int .i64 0]) (by kernel_rfl) ?_
  refine sx_val (by kernel_rfl) rfl rfl (.agg #[.string ⟨#[111, 97]⟩, .slice (some ⟨W1.heap.size, 0, none⟩) 1 1, .int .i64 0, .int .i64 0, .int .i64 50, .int .i64 0, .int .i64 0, .int .i64 0, .int .i64 50, .int .i64 0, .int .i64 0, .int .i64 0, .int .i64 1, .int .i64 (-1), .int .i64 (-1), .bool false]) (by kernel_rfl) ?_
  obtain ⟨W6, hW⟩ : ∃ W, (W3.alloc (.cells #[.string ⟨#[]⟩, .slice none 0 0, .int .i64 0, .int .i64 0, .int .i64 0, .int .i64 0, .int .i64 0, .int .i64 0, .int .i64 0, .int .i64 0, .int .i64 0, .int .i64 0, .int .i64 0, .int .i64 0, .int .i64 0, .bool false] 68)).setRow W3.heap.size #[.string ⟨#[111, 97]⟩, .slice (some ⟨W1.heap.size, 0, none⟩) 1 1, .int .i64 0, .int .i64 0, .int .i64 50, .int .i64 0, .int .i64 0, .int .i64 0, .int .i64 50, .int .i64 0, .int .i64 0, .int .i64 0, .int .i64 1, .int .i64 (-1), .int .i64 (-1), .bool false] = W := ⟨_, rfl⟩
  have hb := hW ▸ below_var W3 (.cells #[.string ⟨#[]⟩, .slice none 0 0, .int .i64 0, .int .i64 0, .int .i64 0, .int .i64 0, .int .i64 0, .int .i64 0, .int .i64 0, .int .i64 0, .int .i64 0, .int .i64 0, .int .i64 0, .int .i64 0, .int .i64 0, .bool false] 68) #[.string ⟨#[111, 97]⟩, .slice (some ⟨W1.heap.size, 0, none⟩) 1 1, .int .i64 0, .int .i64 0, .int .i64 50, .int .i64 0, .int .i64 0, .int .i64 0, .int .i64 50, .int .i64 0, .int .i64 0, .int .i64 0, .int .i64 1, .int .i64 (-1), .int .i64 (-1), .bool false]
  have hq : Cb W6 W3.heap.size #[.string ⟨#[111, 97]⟩, .slice (some ⟨W1.heap.size, 0, none⟩) 1 1, .int .i64 0, .int .i64 0, .int .i64 50, .int .i64 0, .int .i64 0, .int .i64 0, .int .i64 50, .int .i64 0, .int .i64 0, .int .i64 0, .int .i64 1, .int .i64 (-1), .int .i64 (-1), .bool false] 68 := hW ▸ Cb.row (Cb.made W3 #[.string ⟨#[]⟩, .slice none 0 0, .int .i64 0, .int .i64 0, .int .i64 0, .int .i64 0, .int .i64 0, .int .i64 0, .int .i64 0, .int .i64 0, .int .i64 0, .int .i64 0, .int .i64 0, .int .i64 0, .int .i64 0, .bool false] 68) _
  refine sx_mem (by kernel_rfl) rfl rfl (.pointer (some ⟨W3.heap.size, 0, none⟩)) (W3.alloc (.cells #[.string ⟨#[]⟩, .slice none 0 0, .int .i64 0, .int .i64 0, .int .i64 0, .int .i64 0, .int .i64 0, .int .i64 0, .int .i64 0, .int .i64 0, .int .i64 0, .int .i64 0, .int .i64 0, .int .i64 0, .int .i64 0, .bool false] 68)) (by kernel_rfl) ?_
  refine sx_store (cells := #[.string ⟨#[111, 97]⟩, .slice (some ⟨W1.heap.size, 0, none⟩) 1 1, .int .i64 0, .int .i64 0, .int .i64 50, .int .i64 0, .int .i64 0, .int .i64 0, .int .i64 50, .int .i64 0, .int .i64 0, .int .i64 0, .int .i64 1, .int .i64 (-1), .int .i64 (-1), .bool false]) (by kernel_rfl) rfl rfl (Cb.made W3 #[.string ⟨#[]⟩, .slice none 0 0, .int .i64 0, .int .i64 0, .int .i64 0, .int .i64 0, .int .i64 0, .int .i64 0, .int .i64 0, .int .i64 0, .int .i64 0, .int .i64 0, .int .i64 0, .int .i64 0, .int .i64 0, .bool false] 68) (by kernel_rfl) (by kernel_rfl) (by kernel_rfl) (by kernel_rfl) (by kernel_rfl) ?_
  rw [hW]
  replace HB := over HB hb
  replace M2 := M2.below hb
  replace M4 := M4.below hb
  have z3 := hb.size
  have M5 := hq
  have yM5 := hq.lt
  clear hq hb hW
  refine wpList_nil ?_
  refine sx_norm ?_
  refine wp_seq ?_
  refine wp_region_lit ?_
  refine sx_val (by kernel_rfl) rfl rfl (.agg #[.string ⟨#[111, 97]⟩, .slice (some ⟨W1.heap.size, 0, none⟩) 1 1, .int .i64 0, .int .i64 0, .int .i64 50, .int .i64 0, .int .i64 0, .int .i64 0, .int .i64 50, .int .i64 0, .int .i64 0, .int .i64 0, .int .i64 1, .int .i64 (-1), .int .i64 (-1), .bool false]) (ex_load rfl M5 (by kernel_rfl) Try.underlying68 rfl (by kernel_rfl)) ?_
  obtain ⟨W8, hW⟩ : ∃ W, (W6.alloc (.cells #[.string ⟨#[]⟩, .slice none 0 0, .int .i64 0, .int .i64 0, .int .i64 0, .int .i64 0, .int .i64 0, .int .i64 0, .int .i64 0, .int .i64 0, .int .i64 0, .int .i64 0, .int .i64 0, .int .i64 0, .int .i64 0, .bool false] 68)).setRow W6.heap.size #[.string ⟨#[111, 97]⟩, .slice (some ⟨W1.heap.size, 0, none⟩) 1 1, .int .i64 0, .int .i64 0, .int .i64 50, .int .i64 0, .int .i64 0, .int .i64 0, .int .i64 50, .int .i64 0, .int .i64 0, .int .i64 0, .int .i64 1, .int .i64 (-1), .int .i64 (-1), .bool false] = W := ⟨_, rfl⟩
  have hb := hW ▸ below_var W6 (.cells #[.string ⟨#[]⟩, .slice none 0 0, .int .i64 0, .int .i64 0, .int .i64 0, .int .i64 0, .int .i64 0, .int .i64 0, .int .i64 0, .int .i64 0, .int .i64 0, .int .i64 0, .int .i64 0, .int .i64 0, .int .i64 0, .bool false] 68) #[.string ⟨#[111, 97]⟩, .slice (some ⟨W1.heap.size, 0, none⟩) 1 1, .int .i64 0, .int .i64 0, .int .i64 50, .int .i64 0, .int .i64 0, .int .i64 0, .int .i64 50, .int .i64 0, .int .i64 0, .int .i64 0, .int .i64 1, .int .i64 (-1), .int .i64 (-1), .bool false]
  have hq : Cb W8 W6.heap.size #[.string ⟨#[111, 97]⟩, .slice (some ⟨W1.heap.size, 0, none⟩) 1 1, .int .i64 0, .int .i64 0, .int .i64 50, .int .i64 0, .int .i64 0, .int .i64 0, .int .i64 50, .int .i64 0, .int .i64 0, .int .i64 0, .int .i64 1, .int .i64 (-1), .int .i64 (-1), .bool false] 68 := hW ▸ Cb.row (Cb.made W6 #[.string ⟨#[]⟩, .slice none 0 0, .int .i64 0, .int .i64 0, .int .i64 0, .int .i64 0, .int .i64 0, .int .i64 0, .int .i64 0, .int .i64 0, .int .i64 0, .int .i64 0, .int .i64 0, .int .i64 0, .int .i64 0, .bool false] 68) _
  refine sx_mem (by kernel_rfl) rfl rfl (.pointer (some ⟨W6.heap.size, 0, none⟩)) (W6.alloc (.cells #[.string ⟨#[]⟩, .slice none 0 0, .int .i64 0, .int .i64 0, .int .i64 0, .int .i64 0, .int .i64 0, .int .i64 0, .int .i64 0, .int .i64 0, .int .i64 0, .int .i64 0, .int .i64 0, .int .i64 0, .int .i64 0, .bool false] 68)) (by kernel_rfl) ?_
  refine sx_store (cells := #[.string ⟨#[111, 97]⟩, .slice (some ⟨W1.heap.size, 0, none⟩) 1 1, .int .i64 0, .int .i64 0, .int .i64 50, .int .i64 0, .int .i64 0, .int .i64 0, .int .i64 50, .int .i64 0, .int .i64 0, .int .i64 0, .int .i64 1, .int .i64 (-1), .int .i64 (-1), .bool false]) (by kernel_rfl) rfl rfl (Cb.made W6 #[.string ⟨#[]⟩, .slice none 0 0, .int .i64 0, .int .i64 0, .int .i64 0, .int .i64 0, .int .i64 0, .int .i64 0, .int .i64 0, .int .i64 0, .int .i64 0, .int .i64 0, .int .i64 0, .int .i64 0, .int .i64 0, .bool false] 68) (by kernel_rfl) (by kernel_rfl) (by kernel_rfl) (by kernel_rfl) (by kernel_rfl) ?_
  rw [hW]
  replace HB := over HB hb
  replace M2 := M2.below hb
  replace M4 := M4.below hb
  replace M5 := M5.below hb
  have z4 := hb.size
  have M7 := hq
  have yM7 := hq.lt
  clear hq hb hW
  refine wpList_nil ?_
  refine sx_norm ?_
  refine wp_seq ?_
  refine wp_region_lit ?_
  refine sx_val (by kernel_rfl) rfl rfl (.pointer (some ⟨W6.heap.size, 0, none⟩)) (by kernel_rfl) ?_
  refine sx_do (by kernel_rfl) rfl _ (ex_storeC (k := 0) (old := .string ⟨#[111, 97]⟩) (v := .string ⟨#[111, 98]⟩) rfl M7 (by kernel_rfl) (by kernel_rfl) (by kernel_rfl) (by kernel_rfl) (by kernel_rfl)) ?_
  obtain ⟨W9, hW⟩ : ∃ W, W8.setCell ⟨W6.heap.size, 0, none⟩ (.string ⟨#[111, 98]⟩) = W := ⟨_, rfl⟩
  have hg : W8.grownBy W9 (some (W6.heap.size)) := hW ▸ grown_set _ _ _ _
  have hq : Cb W9 (W6.heap.size) #[.string ⟨#[111, 98]⟩, .slice (some ⟨W1.heap.size, 0, none⟩) 1 1, .int .i64 0, .int .i64 0, .int .i64 50, .int .i64 0, .int .i64 0, .int .i64 0, .int .i64 50, .int .i64 0, .int .i64 0, .int .i64 0, .int .i64 1, .int .i64 (-1), .int .i64 (-1), .bool false] 68 := hW ▸ M7.set 0 (.string ⟨#[111, 98]⟩)
  rw [hW]
  replace HB := HB.grown hg (by omega) (fun x e => by simp only [Option.some.injEq] at e; omega)
  replace M2 := M2.kept hg (by omega)
  replace M4 := M4.kept hg (by omega)
  replace M5 := M5.kept hg (by omega)
  have z5 := hg.size
  replace M7 := hq
  clear hq hg hW
  refine wpList_nil ?_
  refine sx_norm ?_
  refine wp_seq ?_
  refine wp_region_lit ?_
  obtain ⟨W10, hW⟩ : ∃ W, W9.alloc (.cells #[.int .i64 5] 3) = W := ⟨_, rfl⟩
  have hb := hW ▸ below_alloc W9 (.cells #[.int .i64 5] 3)
  have hq : Cb W10 W9.heap.size #[.int .i64 5] 3 := hW ▸ Cb.made W9 #[.int .i64 5] 3
  refine sx_mem (by kernel_rfl) rfl rfl (.slice (some ⟨W9.heap.size, 0, none⟩) 1 1) W10 (by rw [← hW]; kernel_rfl) ?_
  replace HB := over HB hb
  replace M2 := M2.below hb
  replace M4 := M4.below hb
  replace M5 := M5.below hb
  replace M7 := M7.below hb
  have z6 := hb.size
  have M11 := hq
  have yM11 := hq.lt
  clear hq hb hW
  refine sx_val (by kernel_rfl) rfl rfl (.agg #[.string ⟨#[118, 97, 110]⟩, .int .i64 1, .int .i64 0, .int .i64 0, .slice (some ⟨W9.heap.size, 0, none⟩) 1 1, .int .i64 0, .int .i64 0, .int .i64 0, .int .i64 100, .int .i64 50, .int .i64 0, .int .i64 0, .int .i64 0, .int .i64 0]) (by kernel_rfl) ?_
  obtain ⟨W13, hW⟩ : ∃ W, (W10.alloc (.cells #[.string ⟨#[]⟩, .int .i64 0, .int .i64 0, .int .i64 0, .slice none 0 0, .int .i64 0, .int .i64 0, .int .i64 0, .int .i64 0, .int .i64 0, .int .i64 0, .int .i64 0, .int .i64 0, .int .i64 0] 95)).setRow W10.heap.size #[.string ⟨#[118, 97, 110]⟩, .int .i64 1, .int .i64 0, .int .i64 0, .slice (some ⟨W9.heap.size, 0, none⟩) 1 1, .int .i64 0, .int .i64 0, .int .i64 0, .int .i64 100, .int .i64 50, .int .i64 0, .int .i64 0, .int .i64 0, .int .i64 0] = W := ⟨_, rfl⟩
  have hb := hW ▸ below_var W10 (.cells #[.string ⟨#[]⟩, .int .i64 0, .int .i64 0, .int .i64 0, .slice none 0 0, .int .i64 0, .int .i64 0, .int .i64 0, .int .i64 0, .int .i64 0, .int .i64 0, .int .i64 0, .int .i64 0, .int .i64 0] 95) #[.string ⟨#[118, 97, 110]⟩, .int .i64 1, .int .i64 0, .int .i64 0, .slice (some ⟨W9.heap.size, 0, none⟩) 1 1, .int .i64 0, .int .i64 0, .int .i64 0, .int .i64 100, .int .i64 50, .int .i64 0, .int .i64 0, .int .i64 0, .int .i64 0]
  have hq : Cb W13 W10.heap.size #[.string ⟨#[118, 97, 110]⟩, .int .i64 1, .int .i64 0, .int .i64 0, .slice (some ⟨W9.heap.size, 0, none⟩) 1 1, .int .i64 0, .int .i64 0, .int .i64 0, .int .i64 100, .int .i64 50, .int .i64 0, .int .i64 0, .int .i64 0, .int .i64 0] 95 := hW ▸ Cb.row (Cb.made W10 #[.string ⟨#[]⟩, .int .i64 0, .int .i64 0, .int .i64 0, .slice none 0 0, .int .i64 0, .int .i64 0, .int .i64 0, .int .i64 0, .int .i64 0, .int .i64 0, .int .i64 0, .int .i64 0, .int .i64 0] 95) _
  refine sx_mem (by kernel_rfl) rfl rfl (.pointer (some ⟨W10.heap.size, 0, none⟩)) (W10.alloc (.cells #[.string ⟨#[]⟩, .int .i64 0, .int .i64 0, .int .i64 0, .slice none 0 0, .int .i64 0, .int .i64 0, .int .i64 0, .int .i64 0, .int .i64 0, .int .i64 0, .int .i64 0, .int .i64 0, .int .i64 0] 95)) (by kernel_rfl) ?_
  refine sx_store (cells := #[.string ⟨#[118, 97, 110]⟩, .int .i64 1, .int .i64 0, .int .i64 0, .slice (some ⟨W9.heap.size, 0, none⟩) 1 1, .int .i64 0, .int .i64 0, .int .i64 0, .int .i64 100, .int .i64 50, .int .i64 0, .int .i64 0, .int .i64 0, .int .i64 0]) (by kernel_rfl) rfl rfl (Cb.made W10 #[.string ⟨#[]⟩, .int .i64 0, .int .i64 0, .int .i64 0, .slice none 0 0, .int .i64 0, .int .i64 0, .int .i64 0, .int .i64 0, .int .i64 0, .int .i64 0, .int .i64 0, .int .i64 0, .int .i64 0] 95) (by kernel_rfl) (by kernel_rfl) (by kernel_rfl) (by kernel_rfl) (by kernel_rfl) ?_
  rw [hW]
  replace HB := over HB hb
  replace M2 := M2.below hb
  replace M4 := M4.below hb
  replace M5 := M5.below hb
  replace M7 := M7.below hb
  replace M11 := M11.below hb
  have z7 := hb.size
  have M12 := hq
  have yM12 := hq.lt
  clear hq hb hW
  refine wpList_nil ?_
  refine sx_norm ?_
  refine wp_seq ?_
  refine wp_region_lit ?_
  obtain ⟨W14, hW⟩ : ∃ W, W13.alloc (.cells #[.string ⟨#[104, 117, 98]⟩] 9) = W := ⟨_, rfl⟩
  have hb := hW ▸ below_alloc W13 (.cells #[.string ⟨#[104, 117, 98]⟩] 9)
  have hq : Cb W14 W13.heap.size #[.string ⟨#[104, 117, 98]⟩] 9 := hW ▸ Cb.made W13 #[.string ⟨#[104, 117, 98]⟩] 9
  refine sx_mem (by kernel_rfl) rfl rfl (.slice (some ⟨W13.heap.size, 0, none⟩) 1 1) W14 (by rw [← hW]; kernel_rfl) ?_
  replace HB := over HB hb
  replace M2 := M2.below hb
  replace M4 := M4.below hb
  replace M5 := M5.below hb
  replace M7 := M7.below hb
  replace M11 := M11.below hb
  replace M12 := M12.below hb
  have z8 := hb.size
  have M15 := hq
  have yM15 := hq.lt
  clear hq hb hW
  refine sx_val (by kernel_rfl) rfl rfl (.agg #[.slice (some ⟨W13.heap.size, 0, none⟩) 1 1, .slice none 0 0]) (by kernel_rfl) ?_
  refine sx_val (by kernel_rfl) rfl rfl (.agg #[.string ⟨#[118, 97, 110]⟩, .int .i64 1, .int .i64 0, .int .i64 0, .slice (some ⟨W9.heap.size, 0, none⟩) 1 1, .int .i64 0, .int .i64 0, .int .i64 0, .int .i64 100, .int .i64 50, .int .i64 0, .int .i64 0, .int .i64 0, .int .i64 0]) (ex_load rfl M12 (by kernel_rfl) Try.underlying95 rfl (by kernel_rfl)) ?_
  obtain ⟨W16, hW⟩ : ∃ W, W14.alloc (.cells #[.string ⟨#[118, 97, 110]⟩, .int .i64 1, .int .i64 0, .int .i64 0, .slice (some ⟨W9.heap.size, 0, none⟩) 1 1, .int .i64 0, .int .i64 0, .int .i64 0, .int .i64 100, .int .i64 50, .int .i64 0, .int .i64 0, .int .i64 0, .int .i64 0] 95) = W := ⟨_, rfl⟩
  have hb := hW ▸ below_alloc W14 (.cells #[.string ⟨#[118, 97, 110]⟩, .int .i64 1, .int .i64 0, .int .i64 0, .slice (some ⟨W9.heap.size, 0, none⟩) 1 1, .int .i64 0, .int .i64 0, .int .i64 0, .int .i64 100, .int .i64 50, .int .i64 0, .int .i64 0, .int .i64 0, .int .i64 0] 95)
  have hq : Cb W16 W14.heap.size #[.string ⟨#[118, 97, 110]⟩, .int .i64 1, .int .i64 0, .int .i64 0, .slice (some ⟨W9.heap.size, 0, none⟩) 1 1, .int .i64 0, .int .i64 0, .int .i64 0, .int .i64 100, .int .i64 50, .int .i64 0, .int .i64 0, .int .i64 0, .int .i64 0] 95 := hW ▸ Cb.made W14 #[.string ⟨#[118, 97, 110]⟩, .int .i64 1, .int .i64 0, .int .i64 0, .slice (some ⟨W9.heap.size, 0, none⟩) 1 1, .int .i64 0, .int .i64 0, .int .i64 0, .int .i64 100, .int .i64 50, .int .i64 0, .int .i64 0, .int .i64 0, .int .i64 0] 95
  refine sx_mem (by kernel_rfl) rfl rfl (.slice (some ⟨W14.heap.size, 0, none⟩) 1 1) W16 (by rw [← hW]; kernel_rfl) ?_
  replace HB := over HB hb
  replace M2 := M2.below hb
  replace M4 := M4.below hb
  replace M5 := M5.below hb
  replace M7 := M7.below hb
  replace M11 := M11.below hb
  replace M12 := M12.below hb
  replace M15 := M15.below hb
  have z9 := hb.size
  have M17 := hq
  have yM17 := hq.lt
  clear hq hb hW
  refine sx_val (by kernel_rfl) rfl rfl (.agg #[.string ⟨#[111, 97]⟩, .slice (some ⟨W1.heap.size, 0, none⟩) 1 1, .int .i64 0, .int .i64 0, .int .i64 50, .int .i64 0, .int .i64 0, .int .i64 0, .int .i64 50, .int .i64 0, .int .i64 0, .int .i64 0, .int .i64 1, .int .i64 (-1), .int .i64 (-1), .bool false]) (ex_load rfl M5 (by kernel_rfl) Try.underlying68 rfl (by kernel_rfl)) ?_
  refine sx_val (by kernel_rfl) rfl rfl (.agg #[.string ⟨#[111, 98]⟩, .slice (some ⟨W1.heap.size, 0, none⟩) 1 1, .int .i64 0, .int .i64 0, .int .i64 50, .int .i64 0, .int .i64 0, .int .i64 0, .int .i64 50, .int .i64 0, .int .i64 0, .int .i64 0, .int .i64 1, .int .i64 (-1), .int .i64 (-1), .bool false]) (ex_load rfl M7 (by kernel_rfl) Try.underlying68 rfl (by kernel_rfl)) ?_
  obtain ⟨W18, hW⟩ : ∃ W, W16.alloc (.cells #[.string ⟨#[111, 97]⟩, .slice (some ⟨W1.heap.size, 0, none⟩) 1 1, .int .i64 0, .int .i64 0, .int .i64 50, .int .i64 0, .int .i64 0, .int .i64 0, .int .i64 50, .int .i64 0, .int .i64 0, .int .i64 0, .int .i64 1, .int .i64 (-1), .int .i64 (-1), .bool false, .string ⟨#[111, 98]⟩, .slice (some ⟨W1.heap.size, 0, none⟩) 1 1, .int .i64 0, .int .i64 0, .int .i64 50, .int .i64 0, .int .i64 0, .int .i64 0, .int .i64 50, .int .i64 0, .int .i64 0, .int .i64 0, .int .i64 1, .int .i64 (-1), .int .i64 (-1), .bool false] 68) = W := ⟨_, rfl⟩
  have hb := hW ▸ below_alloc W16 (.cells #[.string ⟨#[111, 97]⟩, .slice (some ⟨W1.heap.size, 0, none⟩) 1 1, .int .i64 0, .int .i64 0, .int .i64 50, .int .i64 0, .int .i64 0, .int .i64 0, .int .i64 50, .int .i64 0, .int .i64 0, .int .i64 0, .int .i64 1, .int .i64 (-1), .int .i64 (-1), .bool false, .string ⟨#[111, 98]⟩, .slice (some ⟨W1.heap.size, 0, none⟩) 1 1, .int .i64 0, .int .i64 0, .int .i64 50, .int .i64 0, .int .i64 0, .int .i64 0, .int .i64 50, .int .i64 0, .int .i64 0, .int .i64 0, .int .i64 1, .int .i64 (-1), .int .i64 (-1), .bool false] 68)
  have hq : Cb W18 W16.heap.size #[.string ⟨#[111, 97]⟩, .slice (some ⟨W1.heap.size, 0, none⟩) 1 1, .int .i64 0, .int .i64 0, .int .i64 50, .int .i64 0, .int .i64 0, .int .i64 0, .int .i64 50, .int .i64 0, .int .i64 0, .int .i64 0, .int .i64 1, .int .i64 (-1), .int .i64 (-1), .bool false, .string ⟨#[111, 98]⟩, .slice (some ⟨W1.heap.size, 0, none⟩) 1 1, .int .i64 0, .int .i64 0, .int .i64 50, .int .i64 0, .int .i64 0, .int .i64 0, .int .i64 50, .int .i64 0, .int .i64 0, .int .i64 0, .int .i64 1, .int .i64 (-1), .int .i64 (-1), .bool false] 68 := hW ▸ Cb.made W16 #[.string ⟨#[111, 97]⟩, .slice (some ⟨W1.heap.size, 0, none⟩) 1 1, .int .i64 0, .int .i64 0, .int .i64 50, .int .i64 0, .int .i64 0, .int .i64 0, .int .i64 50, .int .i64 0, .int .i64 0, .int .i64 0, .int .i64 1, .int .i64 (-1), .int .i64 (-1), .bool false, .string ⟨#[111, 98]⟩, .slice (some ⟨W1.heap.size, 0, none⟩) 1 1, .int .i64 0, .int .i64 0, .int .i64 50, .int .i64 0, .int .i64 0, .int .i64 0, .int .i64 50, .int .i64 0, .int .i64 0, .int .i64 0, .int .i64 1, .int .i64 (-1), .int .i64 (-1), .bool false] 68
  refine sx_mem (by kernel_rfl) rfl rfl (.slice (some ⟨W16.heap.size, 0, none⟩) 2 2) W18 (by rw [← hW]; kernel_rfl) ?_
  replace HB := over HB hb
  replace M2 := M2.below hb
  replace M4 := M4.below hb
  replace M5 := M5.below hb
  replace M7 := M7.below hb
  replace M11 := M11.below hb
  replace M12 := M12.below hb
  replace M15 := M15.below hb
  replace M17 := M17.below hb
  have z10 := hb.size
  have M19 := hq
  have yM19 := hq.lt
  clear hq hb hW
  refine sx_val (by kernel_rfl) rfl rfl (.agg #[.slice (some ⟨W13.heap.size, 0, none⟩) 1 1, .slice none 0 0, .slice (some ⟨W14.heap.size, 0, none⟩) 1 1, .slice (some ⟨W16.heap.size, 0, none⟩) 2 2, .slice none 0 0, .slice none 0 0]) (by kernel_rfl) ?_
  obtain ⟨W21, hW⟩ : ∃ W, (W18.alloc (.cells #[.slice none 0 0, .slice none 0 0, .slice none 0 0, .slice none 0 0, .slice none 0 0, .slice none 0 0] 30)).setRow W18.heap.size #[.slice (some ⟨W13.heap.size, 0, none⟩) 1 1, .slice none 0 0, .slice (some ⟨W14.heap.size, 0, none⟩) 1 1, .slice (some ⟨W16.heap.size, 0, none⟩) 2 2, .slice none 0 0, .slice none 0 0] = W := ⟨_, rfl⟩
  have hb := hW ▸ below_var W18 (.cells #[.slice none 0 0, .slice none 0 0, .slice none 0 0, .slice none 0 0, .slice none 0 0, .slice none 0 0] 30) #[.slice (some ⟨W13.heap.size, 0, none⟩) 1 1, .slice none 0 0, .slice (some ⟨W14.heap.size, 0, none⟩) 1 1, .slice (some ⟨W16.heap.size, 0, none⟩) 2 2, .slice none 0 0, .slice none 0 0]
  have hq : Cb W21 W18.heap.size #[.slice (some ⟨W13.heap.size, 0, none⟩) 1 1, .slice none 0 0, .slice (some ⟨W14.heap.size, 0, none⟩) 1 1, .slice (some ⟨W16.heap.size, 0, none⟩) 2 2, .slice none 0 0, .slice none 0 0] 30 := hW ▸ Cb.row (Cb.made W18 #[.slice none 0 0, .slice none 0 0, .slice none 0 0, .slice none 0 0, .slice none 0 0, .slice none 0 0] 30) _
  refine sx_mem (by kernel_rfl) rfl rfl (.pointer (some ⟨W18.heap.size, 0, none⟩)) (W18.alloc (.cells #[.slice none 0 0, .slice none 0 0, .slice none 0 0, .slice none 0 0, .slice none 0 0, .slice none 0 0] 30)) (by kernel_rfl) ?_
  refine sx_store (cells := #[.slice (some ⟨W13.heap.size, 0, none⟩) 1 1, .slice none 0 0, .slice (some ⟨W14.heap.size, 0, none⟩) 1 1, .slice (some ⟨W16.heap.size, 0, none⟩) 2 2, .slice none 0 0, .slice none 0 0]) (by kernel_rfl) rfl rfl (Cb.made W18 #[.slice none 0 0, .slice none 0 0, .slice none 0 0, .slice none 0 0, .slice none 0 0, .slice none 0 0] 30) (by kernel_rfl) (by kernel_rfl) (by kernel_rfl) (by kernel_rfl) (by kernel_rfl) ?_
  rw [hW]
  replace HB := over HB hb
  replace M2 := M2.below hb
  replace M4 := M4.below hb
  replace M5 := M5.below hb
  replace M7 := M7.below hb
  replace M11 := M11.below hb
  replace M12 := M12.below hb
  replace M15 := M15.below hb
  replace M17 := M17.below hb
  replace M19 := M19.below hb
  have z11 := hb.size
  have M20 := hq
  have yM20 := hq.lt
  clear hq hb hW
  refine wpList_nil ?_
  refine sx_norm ?_
  refine wp_seq ?_
  refine wp_seq ?_
  refine wp_region_lit ?_
  refine sx_val (by kernel_rfl) rfl rfl (.bool true) (by kernel_rfl) ?_
  refine wpList_nil ?_
  refine sx_norm ?_
  refine sx_true (by kernel_rfl) ?_
  refine wp_region_lit ?_
  refine sx_val (by kernel_rfl) rfl rfl (.agg #[.int .i64 0, .int .i64 1]) (by kernel_rfl) ?_
  obtain ⟨W22, hW⟩ : ∃ W, W21.alloc (.cells #[.int .i64 0, .int .i64 1] 96) = W := ⟨_, rfl⟩
  have hb := hW ▸ below_alloc W21 (.cells #[.int .i64 0, .int .i64 1] 96)
  have hq : Cb W22 W21.heap.size #[.int .i64 0, .int .i64 1] 96 := hW ▸ Cb.made W21 #[.int .i64 0, .int .i64 1] 96
  refine sx_mem (by kernel_rfl) rfl rfl (.slice (some ⟨W21.heap.size, 0, none⟩) 1 1) W22 (by rw [← hW]; kernel_rfl) ?_
  replace HB := over HB hb
  replace M2 := M2.below hb
  replace M4 := M4.below hb
  replace M5 := M5.below hb
  replace M7 := M7.below hb
  replace M11 := M11.below hb
  replace M12 := M12.below hb
  replace M15 := M15.below hb
  replace M17 := M17.below hb
  replace M19 := M19.below hb
  replace M20 := M20.below hb
  have z12 := hb.size
  have M23 := hq
  have yM23 := hq.lt
  clear hq hb hW
  refine sx_val (by kernel_rfl) rfl rfl (.pointer (some ⟨W18.heap.size, 5, none⟩)) (by kernel_rfl) ?_
  refine sx_do (by kernel_rfl) rfl _ (ex_storeC (k := 5) (old := .slice none 0 0) (v := .slice (some ⟨W21.heap.size, 0, none⟩) 1 1) rfl M20 (by kernel_rfl) (by kernel_rfl) (by kernel_rfl) (by kernel_rfl) (by kernel_rfl)) ?_
  obtain ⟨W24, hW⟩ : ∃ W, W22.setCell ⟨W18.heap.size, 5, none⟩ (.slice (some ⟨W21.heap.size, 0, none⟩) 1 1) = W := ⟨_, rfl⟩
  have hg : W22.grownBy W24 (some (W18.heap.size)) := hW ▸ grown_set _ _ _ _
  have hq : Cb W24 (W18.heap.size) #[.slice (some ⟨W13.heap.size, 0, none⟩) 1 1, .slice none 0 0, .slice (some ⟨W14.heap.size, 0, none⟩) 1 1, .slice (some ⟨W16.heap.size, 0, none⟩) 2 2, .slice none 0 0, .slice (some ⟨W21.heap.size, 0, none⟩) 1 1] 30 := hW ▸ M20.set 5 (.slice (some ⟨W21.heap.size, 0, none⟩) 1 1)
  rw [hW]
  replace HB := HB.grown hg (by omega) (fun x e => by simp only [Option.some.injEq] at e; omega)
  replace M2 := M2.kept hg (by omega)
  replace M4 := M4.kept hg (by omega)
  replace M5 := M5.kept hg (by omega)
  replace M7 := M7.kept hg (by omega)
  replace M11 := M11.kept hg (by omega)
  replace M12 := M12.kept hg (by omega)
  replace M15 := M15.kept hg (by omega)
  replace M17 := M17.kept hg (by omega)
  replace M19 := M19.kept hg (by omega)
  replace M23 := M23.kept hg (by omega)
  have z13 := hg.size
  replace M20 := hq
  clear hq hg hW
  refine wpList_nil ?_
  refine sx_norm ?_
  refine wp_seq ?_
  refine wp_region_lit ?_
  refine sx_val (by kernel_rfl) rfl rfl (.agg #[.slice (some ⟨W13.heap.size, 0, none⟩) 1 1, .slice none 0 0, .slice (some ⟨W14.heap.size, 0, none⟩) 1 1, .slice (some ⟨W16.heap.size, 0, none⟩) 2 2, .slice none 0 0, .slice (some ⟨W21.heap.size, 0, none⟩) 1 1]) (ex_load rfl M20 (by kernel_rfl) Try.underlying30 rfl (by kernel_rfl)) ?_
  refine sx_store (cells := #[.slice (some ⟨W13.heap.size, 0, none⟩) 1 1, .slice none 0 0, .slice (some ⟨W14.heap.size, 0, none⟩) 1 1, .slice (some ⟨W16.heap.size, 0, none⟩) 2 2, .slice none 0 0, .slice (some ⟨W21.heap.size, 0, none⟩) 1 1]) (by kernel_rfl) rfl rfl M2 (by kernel_rfl) (by kernel_rfl) (by kernel_rfl) (by kernel_rfl) (by kernel_rfl) ?_
  obtain ⟨W25, hW⟩ : ∃ W, W24.setRow (w.heap.size) #[.slice (some ⟨W13.heap.size, 0, none⟩) 1 1, .slice none 0 0, .slice (some ⟨W14.heap.size, 0, none⟩) 1 1, .slice (some ⟨W16.heap.size, 0, none⟩) 2 2, .slice none 0 0, .slice (some ⟨W21.heap.size, 0, none⟩) 1 1] = W := ⟨_, rfl⟩
  have hg : W24.grownBy W25 (some (w.heap.size)) := hW ▸ grown_row _ _ _
  have hq : Cb W25 (w.heap.size) #[.slice (some ⟨W13.heap.size, 0, none⟩) 1 1, .slice none 0 0, .slice (some ⟨W14.heap.size, 0, none⟩) 1 1, .slice (some ⟨W16.heap.size, 0, none⟩) 2 2, .slice none 0 0, .slice (some ⟨W21.heap.size, 0, none⟩) 1 1] 30 := hW ▸ Cb.row M2 _
  rw [hW]
  replace HB := HB.grown hg (by omega) (fun x e => by simp only [Option.some.injEq] at e; omega)
  replace M4 := M4.kept hg (by omega)
  replace M5 := M5.kept hg (by omega)
  replace M7 := M7.kept hg (by omega)
  replace M11 := M11.kept hg (by omega)
  replace M12 := M12.kept hg (by omega)
  replace M15 := M15.kept hg (by omega)
  replace M17 := M17.kept hg (by omega)
  replace M19 := M19.kept hg (by omega)
  replace M20 := M20.kept hg (by omega)
  replace M23 := M23.kept hg (by omega)
  have z14 := hg.size
  replace M2 := hq
  clear hq hg hW
  refine wpList_nil ?_
  refine sx_norm ?_
  refine wp_ret ?_
  exact sx_retc M2 rfl rfl (by kernel_rfl) Try.underlying30 rfl (by kernel_rfl) ⟨_, _, _, _, _, _, _, _, _, _, rfl, os_pair M19 M4, ps_one M23, HB⟩


end Go.Proofs.Ytoliacfpjhanlaa.T


