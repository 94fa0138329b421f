/-
  DERIVED. Sf: a part of the base of layer 13 (made by pack.py).
-/
import Derived.Test.YtoliacfpjhanlaaSc
/-! The progress of a sequence (by gen_sf.py). -/
namespace Go.Proofs.Ytoliacfpjhanlaa.T
open Go.RowKit
set_option maxRecDepth 8000
attribute [local irreducible] wpList Code.wp wpAnyH

def withP (p : Nat × Nat) (v : Int × Bool) : Nat × Nat := if v.2 then (p.1, p.2 ||| 2 ^ v.1.toNat) else (p.1 ||| 2 ^ v.1.toNat, p.2)
theorem with_n (p : Nat × Nat) (v : Int × Bool) (h1 : p.1 < 2 ^ 63) (h2 : p.2 < 2 ^ 63) (hx : num62 v.1 = true) (w : World) : Calls Try.prog 41 #[.agg #[.int .i64 ((p.1 : Nat) : Int), .int .i64 ((p.2 : Nat) : Int)], .agg #[.int .i64 v.1, .bool v.2]] w fun e w' => e = .returned (.agg #[.int .i64 ((withP p v).1 : Nat), .int .i64 ((withP p v).2 : Nat)]) ∧ Below w.heap.size w w' := by
  have HB : Below w.heap.size w w := Below.refl _ _
  refine sx_enter Try.func41 rfl [(0, .agg #[.int .i64 ((p.1 : Nat) : Int), .int .i64 ((p.2 : Nat) : Int)]), (1, .agg #[.int .i64 v.1, .bool v.2])] (by kernel_rfl) ?_
  refine wp_seq ?_
  refine wp_region_lit ?_
  obtain ⟨W1, hW⟩ : ∃ W, w.alloc (.cells #[.int .i64 ((p.1 : Nat) : Int), .int .i64 ((p.2 : Nat) : Int)] 72) = W := ⟨_, rfl⟩
  have hb := hW ▸ below_alloc w (.cells #[.int .i64 ((p.1 : Nat) : Int), .int .i64 ((p.2 : Nat) : Int)] 72)
  have hq : Cb W1 w.heap.size #[.int .i64 ((p.1 : Nat) : Int), .int .i64 ((p.2 : Nat) : Int)] 72 := hW ▸ Cb.made w #[.int .i64 ((p.1 : Nat) : Int), .int .i64 ((p.2 : Nat) : Int)] 72
  refine sx_mem (by kernel_rfl) rfl rfl (.pointer (some ⟨w.heap.size, 0, none⟩)) W1 (by rw [← hW]; kernel_rfl) ?_
  replace HB := over HB hb
  have z1 := hb.size
  have M2 := hq
  have yM2 := hq.lt
  clear hq hb hW
  obtain ⟨W3, hW⟩ : ∃ W, W1.alloc (.cells #[.int .i64 v.1, .bool v.2] 52) = W := ⟨_, rfl⟩
  have hb := hW ▸ below_alloc W1 (.cells #[.int .i64 v.1, .bool v.2] 52)
  have hq : Cb W3 W1.heap.size #[.int .i64 v.1, .bool v.2] 52 := hW ▸ Cb.made W1 #[.int .i64 v.1, .bool v.2] 52
  refine sx_mem (by kernel_rfl) rfl rfl (.pointer (some ⟨W1.heap.size, 0, none⟩)) W3 (by rw [← hW]; kernel_rfl) ?_
  replace HB := over HB hb
  replace M2 := M2.below hb
  have z2 := hb.size
  have M4 := hq
  have yM4 := hq.lt
  clear hq hb hW
  obtain ⟨W5, hW⟩ : ∃ W, W3.alloc (.cells #[.int .i64 0, .int .i64 0] 72) = W := ⟨_, rfl⟩
  have hb := hW ▸ below_alloc W3 (.cells #[.int .i64 0, .int .i64 0] 72)
  have hq : Cb W5 W3.heap.size #[.int .i64 0, .int .i64 0] 72 := hW ▸ Cb.made W3 #[.int .i64 0, .int .i64 0] 72
  refine sx_mem (by kernel_rfl) rfl rfl (.pointer (some ⟨W3.heap.size, 0, none⟩)) W5 (by rw [← hW]; kernel_rfl) ?_
  replace HB := over HB hb
  replace M2 := M2.below hb
  replace M4 := M4.below hb
  have z3 := hb.size
  have M6 := hq
  have yM6 := hq.lt
  clear hq hb hW
  refine wpList_nil ?_
  refine sx_norm ?_
  refine wp_seq ?_
  refine wp_seq ?_
  refine wp_region_lit ?_
  refine sx_val (by kernel_rfl) rfl rfl (.pointer (some ⟨W1.heap.size, 1, none⟩)) (by kernel_rfl) ?_
  by_cases C1 : v.2 = true
  · refine sx_val (by kernel_rfl) rfl rfl (.bool true) (ex_load1 (v := .bool true) rfl (by have h8 := M4.cell 1 rfl; rw [show v.2 = true by simpa using C1] at h8; exact h8) (by kernel_rfl) Try.underlying4 rfl) ?_
    refine wpList_nil ?_
    refine sx_norm ?_
    refine sx_true (by kernel_rfl) ?_
    obtain ⟨Y7, hW⟩ : ∃ W, W5.drew = W := ⟨_, rfl⟩
    have hb : Below W5.heap.size W5 Y7 := hW ▸ below_drew (Below.refl _ _)
    replace HB := over HB hb
    replace M2 := M2.below hb
    replace M4 := M4.below hb
    replace M6 := M6.below hb
    have z4 := hb.size
    clear hb
    refine sd_begin (fun W => Cb W (W1.heap.size) #[.int .i64 v.1, .bool v.2] 52 ∧ True) (by kernel_rfl) (by rw [hW]; exact ⟨M4, trivial⟩) ?_
    rw [hW]
    clear hW
    refine sd_take 0 rfl (by kernel_rfl) (by kernel_rfl) (by kernel_rfl) (by kernel_rfl) rfl rfl (.pointer (some ⟨w.heap.size, 1, none⟩)) (fun w9 _ => by kernel_rfl) (fun _ _ _ h => h) ⟨M4, trivial⟩ ?_
    refine sd_take 2 rfl (by kernel_rfl) (by kernel_rfl) (by kernel_rfl) (by kernel_rfl) rfl rfl (.pointer (some ⟨W1.heap.size, 0, none⟩)) (fun w9 _ => by kernel_rfl) (fun _ _ _ h => h) ⟨M4, trivial⟩ ?_
    refine sd_take 3 rfl (by kernel_rfl) (by kernel_rfl) (by kernel_rfl) (by kernel_rfl) rfl rfl (.int .i64 v.1) (fun w9 h9 => ex_load1 rfl (h9.1.cell 0 rfl) (by kernel_rfl) Try.underlying3 rfl) (fun _ _ _ h => h) ⟨M4, trivial⟩ ?_
    have hkx : v.1 = ((v.1.toNat : Nat) : Int) ∧ v.1.toNat ≤ 62 := by have N2 := hx; unfold num62 at N2; rw [Bool.and_eq_true, decide_eq_true_eq, decide_eq_true_eq] at N2; omega
    refine sd_take 4 rfl (by kernel_rfl) (by kernel_rfl) (by kernel_rfl) (by kernel_rfl) rfl rfl (.int .i64 (IntKind.i64.wrap (1 * 2 ^ v.1.toNat))) (fun w9 h9 => ex_shl rfl .i64 1 v.1.toNat _ (by kernel_rfl) (by rw [← hkx.1]; kernel_rfl) hkx.2 rfl) (fun _ _ _ h => h) ⟨M4, trivial⟩ ?_
    refine sd_all [1] (by kernel_rfl) (by decide) ?_
    refine sd_mem (i := 1) rfl (by kernel_rfl) rfl rfl (.int .i64 ((p.2 : Nat) : Int)) Y7 (ex_load1 rfl (M2.cell 1 rfl) (by kernel_rfl) Try.underlying3 rfl) ⟨M4, trivial⟩ ?_ AllReadyH.nil
    refine sd_take 5 rfl (by kernel_rfl) (by kernel_rfl) (by kernel_rfl) (by kernel_rfl) rfl rfl (.int .i64 ((p.2 ||| 2 ^ v.1.toNat : Nat) : Int)) (fun w9 _ => ex_int .i64 (bits .or .i64 ((p.2 : Nat) : Int) (IntKind.i64.wrap (1 * 2 ^ v.1.toNat))) (((p.2 ||| 2 ^ v.1.toNat : Nat) : Int)) (by kernel_rfl) (or_shl _ _ h2 hx)) (fun _ _ _ h => h) ⟨M4, trivial⟩ ?_
    refine sd_take 6 rfl (by kernel_rfl) (by kernel_rfl) (by kernel_rfl) (by kernel_rfl) rfl rfl (.pointer (some ⟨w.heap.size, 1, none⟩)) (fun w9 _ => by kernel_rfl) (fun _ _ _ h => h) ⟨M4, trivial⟩ ?_
    refine sd_all [7] (by kernel_rfl) (by decide) ?_
    refine sd_do (i := 7) rfl (by kernel_rfl) rfl (Y7.setCell ⟨w.heap.size, 1, none⟩ (.int .i64 ((p.2 ||| 2 ^ v.1.toNat : Nat) : Int))) (ex_storeC (k := 1) (old := .int .i64 ((p.2 : Nat) : Int)) rfl M2 (by kernel_rfl) (by kernel_rfl) (by kernel_rfl) (by kernel_rfl) (by kernel_rfl)) ⟨(M4.kept (grown_set Y7 (w.heap.size) 1 (.int .i64 ((p.2 ||| 2 ^ v.1.toNat : Nat) : Int))) (by omega)), trivial⟩ ?_ AllReadyH.nil
    obtain ⟨W8, hW⟩ : ∃ W, Y7.setCell ⟨w.heap.size, 1, none⟩ (.int .i64 ((p.2 ||| 2 ^ v.1.toNat : Nat) : Int)) = W := ⟨_, rfl⟩
    have hg : Y7.grownBy W8 (some (w.heap.size)) := hW ▸ grown_set _ _ _ _
    have hq : Cb W8 (w.heap.size) #[.int .i64 ((p.1 : Nat) : Int), .int .i64 ((p.2 ||| 2 ^ v.1.toNat : Nat) : Int)] 72 := hW ▸ M2.set 1 (.int .i64 ((p.2 ||| 2 ^ v.1.toNat : Nat) : Int))
    rw [hW]
    replace HB := HB.grown hg (by omega) (fun x e => by simp only [Option.some.injEq] at e; omega)
    replace M4 := M4.kept hg (by omega)
    replace M6 := M6.kept hg (by omega)
    have z5 := hg.size
    replace M2 := hq
    clear hq hg hW
    refine sd_done (by kernel_rfl) ?_
    refine sx_norm ?_
    refine wp_seq ?_
    refine wp_region_lit ?_
    refine sx_val (by kernel_rfl) rfl rfl (.agg #[.int .i64 ((p.1 : Nat) : Int), .int .i64 ((p.2 ||| 2 ^ v.1.toNat : Nat) : Int)]) (ex_load rfl M2 (by kernel_rfl) Try.underlying72 rfl (by kernel_rfl)) ?_
    refine sx_store (cells := #[.int .i64 ((p.1 : Nat) : Int), .int .i64 ((p.2 ||| 2 ^ v.1.toNat : Nat) : Int)]) (by kernel_rfl) rfl rfl M6 (by kernel_rfl) (by kernel_rfl) (by kernel_rfl) (by kernel_rfl) (by kernel_rfl) ?_
    obtain ⟨W9, hW⟩ : ∃ W, W8.setRow (W3.heap.size) #[.int .i64 ((p.1 : Nat) : Int), .int .i64 ((p.2 ||| 2 ^ v.1.toNat : Nat) : Int)] = W := ⟨_, rfl⟩
    have hg : W8.grownBy W9 (some (W3.heap.size)) := hW ▸ grown_row _ _ _
    have hq : Cb W9 (W3.heap.size) #[.int .i64 ((p.1 : Nat) : Int), .int .i64 ((p.2 ||| 2 ^ v.1.toNat : Nat) : Int)] 72 := hW ▸ Cb.row M6 _
    rw [hW]
    replace HB := HB.grown hg (by omega) (fun x e => by simp only [Option.some.injEq] at e; omega)
    replace M2 := M2.kept hg (by omega)
    replace M4 := M4.kept hg (by omega)
    have z6 := hg.size
    replace M6 := hq
    clear hq hg hW
    refine wpList_nil ?_
    refine sx_norm ?_
    refine wp_ret ?_
    exact sx_retc M6 rfl rfl (by kernel_rfl) Try.underlying72 rfl (by kernel_rfl) ⟨by unfold withP; simp [C1], HB⟩
  refine sx_val (by kernel_rfl) rfl rfl (.bool false) (ex_load1 (v := .bool false) rfl (by have h8 := M4.cell 1 rfl; rw [show v.2 = false by simpa using C1] at h8; exact h8) (by kernel_rfl) Try.underlying4 rfl) ?_
  refine wpList_nil ?_
  refine sx_norm ?_
  refine sx_false (by kernel_rfl) ?_
  obtain ⟨Y10, hW⟩ : ∃ W, W5.drew = W := ⟨_, rfl⟩
  have hb : Below W5.heap.size W5 Y10 := hW ▸ below_drew (Below.refl _ _)
  replace HB := over HB hb
  replace M2 := M2.below hb
  replace M4 := M4.below hb
  replace M6 := M6.below hb
  have z4 := hb.size
  clear hb
  refine sd_begin (fun W => Cb W (W1.heap.size) #[.int .i64 v.1, .bool v.2] 52 ∧ True) (by kernel_rfl) (by rw [hW]; exact ⟨M4, trivial⟩) ?_
  rw [hW]
  clear hW
  refine sd_take 0 rfl (by kernel_rfl) (by kernel_rfl) (by kernel_rfl) (by kernel_rfl) rfl rfl (.pointer (some ⟨w.heap.size, 0, none⟩)) (fun w9 _ => by kernel_rfl) (fun _ _ _ h => h) ⟨M4, trivial⟩ ?_
  refine sd_take 2 rfl (by kernel_rfl) (by kernel_rfl) (by kernel_rfl) (by kernel_rfl) rfl rfl (.pointer (some ⟨W1.heap.size, 0, none⟩)) (fun w9 _ => by kernel_rfl) (fun _ _ _ h => h) ⟨M4, trivial⟩ ?_
  refine sd_take 3 rfl (by kernel_rfl) (by kernel_rfl) (by kernel_rfl) (by kernel_rfl) rfl rfl (.int .i64 v.1) (fun w9 h9 => ex_load1 rfl (h9.1.cell 0 rfl) (by kernel_rfl) Try.underlying3 rfl) (fun _ _ _ h => h) ⟨M4, trivial⟩ ?_
  have hkx : v.1 = ((v.1.toNat : Nat) : Int) ∧ v.1.toNat ≤ 62 := by have N2 := hx; unfold num62 at N2; rw [Bool.and_eq_true, decide_eq_true_eq, decide_eq_true_eq] at N2; omega
  refine sd_take 4 rfl (by kernel_rfl) (by kernel_rfl) (by kernel_rfl) (by kernel_rfl) rfl rfl (.int .i64 (IntKind.i64.wrap (1 * 2 ^ v.1.toNat))) (fun w9 h9 => ex_shl rfl .i64 1 v.1.toNat _ (by kernel_rfl) (by rw [← hkx.1]; kernel_rfl) hkx.2 rfl) (fun _ _ _ h => h) ⟨M4, trivial⟩ ?_
  refine sd_all [1] (by kernel_rfl) (by decide) ?_
  refine sd_mem (i := 1) rfl (by kernel_rfl) rfl rfl (.int .i64 ((p.1 : Nat) : Int)) Y10 (ex_load1 rfl (M2.cell 0 rfl) (by kernel_rfl) Try.underlying3 rfl) ⟨M4, trivial⟩ ?_ AllReadyH.nil
  refine sd_take 5 rfl (by kernel_rfl) (by kernel_rfl) (by kernel_rfl) (by kernel_rfl) rfl rfl (.int .i64 ((p.1 ||| 2 ^ v.1.toNat : Nat) : Int)) (fun w9 _ => ex_int .i64 (bits .or .i64 ((p.1 : Nat) : Int) (IntKind.i64.wrap (1 * 2 ^ v.1.toNat))) (((p.1 ||| 2 ^ v.1.toNat : Nat) : Int)) (by kernel_rfl) (or_shl _ _ h1 hx)) (fun _ _ _ h => h) ⟨M4, trivial⟩ ?_
  refine sd_take 6 rfl (by kernel_rfl) (by kernel_rfl) (by kernel_rfl) (by kernel_rfl) rfl rfl (.pointer (some ⟨w.heap.size, 0, none⟩)) (fun w9 _ => by kernel_rfl) (fun _ _ _ h => h) ⟨M4, trivial⟩ ?_
  refine sd_all [7] (by kernel_rfl) (by decide) ?_
  refine sd_do (i := 7) rfl (by kernel_rfl) rfl (Y10.setCell ⟨w.heap.size, 0, none⟩ (.int .i64 ((p.1 ||| 2 ^ v.1.toNat : Nat) : Int))) (ex_storeC (k := 0) (old := .int .i64 ((p.1 : Nat) : Int)) rfl M2 (by kernel_rfl) (by kernel_rfl) (by kernel_rfl) (by kernel_rfl) (by kernel_rfl)) ⟨(M4.kept (grown_set Y10 (w.heap.size) 0 (.int .i64 ((p.1 ||| 2 ^ v.1.toNat : Nat) : Int))) (by omega)), trivial⟩ ?_ AllReadyH.nil
  obtain ⟨W11, hW⟩ : ∃ W, Y10.setCell ⟨w.heap.size, 0, none⟩ (.int .i64 ((p.1 ||| 2 ^ v.1.toNat : Nat) : Int)) = W := ⟨_, rfl⟩
  have hg : Y10.grownBy W11 (some (w.heap.size)) := hW ▸ grown_set _ _ _ _
  have hq : Cb W11 (w.heap.size) #[.int .i64 ((p.1 ||| 2 ^ v.1.toNat : Nat) : Int), .int .i64 ((p.2 : Nat) : Int)] 72 := hW ▸ M2.set 0 (.int .i64 ((p.1 ||| 2 ^ v.1.toNat : Nat) : Int))
  rw [hW]
  replace HB := HB.grown hg (by omega) (fun x e => by simp only [Option.some.injEq] at e; omega)
  replace M4 := M4.kept hg (by omega)
  replace M6 := M6.kept hg (by omega)
  have z5 := hg.size
  replace M2 := hq
  clear hq hg hW
  refine sd_done (by kernel_rfl) ?_
  refine sx_norm ?_
  refine wp_seq ?_
  refine wp_region_lit ?_
  refine sx_val (by kernel_rfl) rfl rfl (.agg #[.int .i64 ((p.1 ||| 2 ^ v.1.toNat : Nat) : Int), .int .i64 ((p.2 : Nat) : Int)]) (ex_load rfl M2 (by kernel_rfl) Try.underlying72 rfl (by kernel_rfl)) ?_
  refine sx_store (cells := #[.int .i64 ((p.1 ||| 2 ^ v.1.toNat : Nat) : Int), .int .i64 ((p.2 : Nat) : Int)]) (by kernel_rfl) rfl rfl M6 (by kernel_rfl) (by kernel_rfl) (by kernel_rfl) (by kernel_rfl) (by kernel_rfl) ?_
  obtain ⟨W12, hW⟩ : ∃ W, W11.setRow (W3.heap.size) #[.int .i64 ((p.1 ||| 2 ^ v.1.toNat : Nat) : Int), .int .i64 ((p.2 : Nat) : Int)] = W := ⟨_, rfl⟩
  have hg : W11.grownBy W12 (some (W3.heap.size)) := hW ▸ grown_row _ _ _
  have hq : Cb W12 (W3.heap.size) #[.int .i64 ((p.1 ||| 2 ^ v.1.toNat : Nat) : Int), .int .i64 ((p.2 : Nat) : Int)] 72 := hW ▸ Cb.row M6 _
  rw [hW]
  replace HB := HB.grown hg (by omega) (fun x e => by simp only [Option.some.injEq] at e; omega)
  replace M2 := M2.kept hg (by omega)
  replace M4 := M4.kept hg (by omega)
  have z6 := hg.size
  replace M6 := hq
  clear hq hg hW
  refine wpList_nil ?_
  refine sx_norm ?_
  refine wp_ret ?_
  exact sx_retc M6 rfl rfl (by kernel_rfl) Try.underlying72 rfl (by kernel_rfl) ⟨by unfold withP; simp [C1], HB⟩

end Go.Proofs.Ytoliacfpjhanlaa.T


