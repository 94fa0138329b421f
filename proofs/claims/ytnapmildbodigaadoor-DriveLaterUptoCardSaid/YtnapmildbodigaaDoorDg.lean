/-
  DERIVED. Dg: a part of the base of layer 13 (made by pack.py).
-/
import Derived.Test.YtnapmildbodigaaDoorDb
import Derived.Test.YtnapmildbodigaaDoorGC
import Derived.Test.YtnapmildbodigaaDoorGF
/-! The walks of drive: the finder: next, rests (by gen_dg.py). -/
namespace Go.Proofs.YtnapmildbodigaaDoor.T
open Go.RowKit
set_option maxRecDepth 8000
attribute [local irreducible] wpList Code.wp wpAnyH

/-- a finder in memory -/
structure Fst (w : World) (c : CrT) (K : CV) (q qf mb : Nat) (F : List Bool) (oF : Option Addr) (cF b9 q9 : Nat) : Prop where
  crw : Crw w c K q
  fx : Rw w b9 q9 1 (bF F) F.length oF
  blk : Cb w qf #[.pointer (some ⟨q, 0, none⟩), .slice oF F.length cF, .map (some mb)] 111
  cap : F.length ≤ cF
  ne : b9 ≠ mb
theorem Fst.below {w w' : World} {c : CrT} {K : CV} {q qf mb : Nat} {F : List Bool} {oF : Option Addr} {cF b9 q9 : Nat} (h : Fst w c K q qf mb F oF cF b9 q9) (k : Below w.heap.size w w') : Fst w' c K q qf mb F oF cF b9 q9 := ⟨h.crw.below k, h.fx.below k, h.blk.below k, h.cap, h.ne⟩
def CrT.opts (F : List Bool) (k : Nat) : List Bool := if k < F.length then [F.getD k false] else [false, true]
theorem fnext_n (c : CrT) (hc : c.Ok) (K : CV) (q qf mb : Nat) (F : List Bool) (oF : Option Addr) (cF b9 q9 : Nat) (w : World) (hF : Fst w c K q qf mb F oF cF b9 q9) (k : Nat) (hk : k < c.n) (don sin : Int) (hd : 0 ≤ don ∧ don ≤ 8192) (hs : 0 ≤ sin ∧ sin ≤ 4096) (r : Bool) : Calls Tryd.prog 45 #[.pointer (some ⟨qf, 0, none⟩), .agg #[.int .i64 ((k : Nat) : Int), .int .i64 don, .int .i64 sin], .bool r] w fun e w' => e = .returned (.tuple #[.agg #[.int .i64 ((k + 1 : Nat) : Int), .int .i64 (c.legA k don sin r).don, .int .i64 (c.legA k don sin r).sin], .bool (decide (c.err k don sin r = 0))]) ∧ Below w.heap.size w w' := by
  have HB : Below w.heap.size w w := Below.refl _ _
  have hkn : c.n ≤ 21 := by have := hc.len; unfold CrT.n; omega
  have hFb := hF.blk
  have yhFb := hFb.lt
  have hFx := hF.fx
  refine sx_enter Tryd.func45 rfl [(0, .pointer (some ⟨qf, 0, none⟩)), (1, .agg #[.int .i64 ((k : Nat) : Int), .int .i64 don, .int .i64 sin]), (2, .bool r)] (by kernel_rfl) ?_
  refine wp_seq ?_
  refine wp_region_lit ?_
  obtain ⟨W1, hW⟩ : ∃ W, w.alloc (.cells #[.int .i64 ((k : Nat) : Int), .int .i64 don, .int .i64 sin] 113) = W := ⟨_, rfl⟩
  have hb := hW ▸ below_alloc w (.cells #[.int .i64 ((k : Nat) : Int), .int .i64 don, .int .i64 sin] 113)
  have hq : Cb W1 w.heap.size #[.int .i64 ((k : Nat) : Int), .int .i64 don, .int .i64 sin] 113 := hW ▸ Cb.made w #[.int .i64 ((k : Nat) : Int), .int .i64 don, .int .i64 sin] 113
  refine sx_mem (by kernel_rfl) rfl rfl (.pointer (some ⟨w.heap.size, 0, none⟩)) W1 (by rw [← hW]; kernel_rfl) ?_
  replace HB := over HB hb
  replace hFb := hFb.below hb
  have z1 := hb.size
  have M2 := hq
  have yM2 := hq.lt
  clear hq hb hW
  obtain ⟨W3, hW⟩ : ∃ W, W1.alloc (.cells #[.int .i64 0, .int .i64 0, .int .i64 0] 113) = W := ⟨_, rfl⟩
  have hb := hW ▸ below_alloc W1 (.cells #[.int .i64 0, .int .i64 0, .int .i64 0] 113)
  have hq : Cb W3 W1.heap.size #[.int .i64 0, .int .i64 0, .int .i64 0] 113 := hW ▸ Cb.made W1 #[.int .i64 0, .int .i64 0, .int .i64 0] 113
  refine sx_mem (by kernel_rfl) rfl rfl (.pointer (some ⟨W1.heap.size, 0, none⟩)) W3 (by rw [← hW]; kernel_rfl) ?_
  replace HB := over HB hb
  replace hFb := hFb.below hb
  replace M2 := M2.below hb
  have z2 := hb.size
  have M4 := hq
  have yM4 := hq.lt
  clear hq hb hW
  refine sx_val (by kernel_rfl) rfl rfl (.bool false) (by kernel_rfl) ?_
  refine wpList_nil ?_
  refine sx_norm ?_
  refine wp_seq ?_
  obtain ⟨Y5, hW⟩ : ∃ W, W3.drew = W := ⟨_, rfl⟩
  have hb : Below W3.heap.size W3 Y5 := hW ▸ below_drew (Below.refl _ _)
  replace HB := over HB hb
  replace hFb := hFb.below hb
  replace M2 := M2.below hb
  replace M4 := M4.below hb
  have z3 := hb.size
  clear hb
  refine sd_begin (fun W => Cb W (qf) #[.pointer (some ⟨q, 0, none⟩), .slice oF F.length cF, (.map (some mb))] 111 ∧ Cb W (w.heap.size) #[.int .i64 ((k : Nat) : Int), .int .i64 don, .int .i64 sin] 113 ∧ Cb W (W1.heap.size) #[.int .i64 0, .int .i64 0, .int .i64 0] 113 ∧ True) (by kernel_rfl) (by rw [hW]; exact ⟨hFb, M2, M4, trivial⟩) ?_
  rw [hW]
  clear hW
  refine sd_take 0 rfl (by kernel_rfl) (by kernel_rfl) (by kernel_rfl) (by kernel_rfl) rfl rfl (.pointer (some ⟨qf, 0, none⟩)) (fun w9 _ => by kernel_rfl) (fun _ _ _ h => h) ⟨hFb, M2, M4, trivial⟩ ?_
  refine sd_take 1 rfl (by kernel_rfl) (by kernel_rfl) (by kernel_rfl) (by kernel_rfl) rfl rfl (.pointer (some ⟨qf, 0, none⟩)) (fun w9 _ => by kernel_rfl) (fun _ _ _ h => h) ⟨hFb, M2, M4, trivial⟩ ?_
  refine sd_take 2 rfl (by kernel_rfl) (by kernel_rfl) (by kernel_rfl) (by kernel_rfl) rfl rfl (.pointer (some ⟨qf, 0, none⟩)) (fun w9 _ => by kernel_rfl) (fun _ _ _ h => h) ⟨hFb, M2, M4, trivial⟩ ?_
  refine sd_take 3 rfl (by kernel_rfl) (by kernel_rfl) (by kernel_rfl) (by kernel_rfl) rfl rfl (.pointer (some ⟨q, 0, none⟩)) (fun w9 h9 => ex_load1 rfl (h9.1.cell 0 rfl) (by kernel_rfl) Tryd.underlying67 rfl) (fun _ _ _ h => h) ⟨hFb, M2, M4, trivial⟩ ?_
  refine sd_take 4 rfl (by kernel_rfl) (by kernel_rfl) (by kernel_rfl) (by kernel_rfl) rfl rfl (.pointer (some ⟨w.heap.size, 0, none⟩)) (fun w9 _ => by kernel_rfl) (fun _ _ _ h => h) ⟨hFb, M2, M4, trivial⟩ ?_
  refine sd_take 5 rfl (by kernel_rfl) (by kernel_rfl) (by kernel_rfl) (by kernel_rfl) rfl rfl (.int .i64 ((k : Nat) : Int)) (fun w9 h9 => ex_load1 rfl (h9.2.1.cell 0 rfl) (by kernel_rfl) Tryd.underlying3 rfl) (fun _ _ _ h => h) ⟨hFb, M2, M4, trivial⟩ ?_
  refine sd_take 6 rfl (by kernel_rfl) (by kernel_rfl) (by kernel_rfl) (by kernel_rfl) rfl rfl (.pointer (some ⟨w.heap.size, 1, none⟩)) (fun w9 _ => by kernel_rfl) (fun _ _ _ h => h) ⟨hFb, M2, M4, trivial⟩ ?_
  refine sd_take 7 rfl (by kernel_rfl) (by kernel_rfl) (by kernel_rfl) (by kernel_rfl) rfl rfl (.int .i64 don) (fun w9 h9 => ex_load1 rfl (h9.2.1.cell 1 rfl) (by kernel_rfl) Tryd.underlying3 rfl) (fun _ _ _ h => h) ⟨hFb, M2, M4, trivial⟩ ?_
  refine sd_take 8 rfl (by kernel_rfl) (by kernel_rfl) (by kernel_rfl) (by kernel_rfl) rfl rfl (.pointer (some ⟨w.heap.size, 2, none⟩)) (fun w9 _ => by kernel_rfl) (fun _ _ _ h => h) ⟨hFb, M2, M4, trivial⟩ ?_
  refine sd_take 9 rfl (by kernel_rfl) (by kernel_rfl) (by kernel_rfl) (by kernel_rfl) rfl rfl (.int .i64 sin) (fun w9 h9 => ex_load1 rfl (h9.2.1.cell 2 rfl) (by kernel_rfl) Tryd.underlying3 rfl) (fun _ _ _ h => h) ⟨hFb, M2, M4, trivial⟩ ?_
  refine sd_take 10 rfl (by kernel_rfl) (by kernel_rfl) (by kernel_rfl) (by kernel_rfl) rfl rfl (.bool r) (fun w9 _ => by kernel_rfl) (fun _ _ _ h => h) ⟨hFb, M2, M4, trivial⟩ ?_
  refine sd_all [11, 15] (by kernel_rfl) (by decide) ?_
  refine sd_call (i := 11) rfl (by kernel_rfl) rfl rfl (next_n c hc K q Y5 (hF.crw.below HB) k hk don sin hd hs r) (by kernel_rfl) ?_ ?_
  · rintro e W6 ⟨rfl, hb⟩
    replace HB := over HB hb
    replace hFb := hFb.below hb
    replace M2 := M2.below hb
    replace M4 := M4.below hb
    have z4 := hb.size
    clear hb
    refine ⟨_, rfl, ⟨hFb, M2, M4, trivial⟩, ?_⟩
    refine sd_take 12 rfl (by kernel_rfl) (by kernel_rfl) (by kernel_rfl) (by kernel_rfl) rfl rfl (.tuple #[.agg #[.int .i64 ((c.legA k don sin r).dep), .int .i64 ((c.legA k don sin r).arr), .int .i64 ((c.legA k don sin r).beg), .int .i64 ((c.legA k don sin r).don), .int .i64 ((c.legA k don sin r).sin), .int .i64 ((c.legA k don sin r).mil)], .int .i64 (c.err k don sin r)]) (fun w9 _ => by kernel_rfl) (fun _ _ _ h => h) ⟨hFb, M2, M4, trivial⟩ ?_
    refine sd_take 13 rfl (by kernel_rfl) (by kernel_rfl) (by kernel_rfl) (by kernel_rfl) rfl rfl (.agg #[.int .i64 ((c.legA k don sin r).dep), .int .i64 ((c.legA k don sin r).arr), .int .i64 ((c.legA k don sin r).beg), .int .i64 ((c.legA k don sin r).don), .int .i64 ((c.legA k don sin r).sin), .int .i64 ((c.legA k don sin r).mil)]) (fun w9 _ => by kernel_rfl) (fun _ _ _ h => h) ⟨hFb, M2, M4, trivial⟩ ?_
    refine sd_take 14 rfl (by kernel_rfl) (by kernel_rfl) (by kernel_rfl) (by kernel_rfl) rfl rfl (.int .i64 (c.err k don sin r)) (fun w9 _ => by kernel_rfl) (fun _ _ _ h => h) ⟨hFb, M2, M4, trivial⟩ ?_
    refine sd_all [15] (by kernel_rfl) (by decide) ?_
    refine sd_mem (i := 15) rfl (by kernel_rfl) rfl rfl (.pointer (some ⟨W6.heap.size, 0, none⟩)) (W6.alloc (.cells #[.int .i64 0, .int .i64 0, .int .i64 0, .int .i64 0, .int .i64 0, .int .i64 0] 82)) (by kernel_rfl) ⟨(hFb.below (below_alloc W6 (.cells #[.int .i64 0, .int .i64 0, .int .i64 0, .int .i64 0, .int .i64 0, .int .i64 0] 82))), (M2.below (below_alloc W6 (.cells #[.int .i64 0, .int .i64 0, .int .i64 0, .int .i64 0, .int .i64 0, .int .i64 0] 82))), (M4.below (below_alloc W6 (.cells #[.int .i64 0, .int .i64 0, .int .i64 0, .int .i64 0, .int .i64 0, .int .i64 0] 82))), trivial⟩ ?_ AllReadyH.nil
    obtain ⟨W7, hW⟩ : ∃ W, W6.alloc (.cells #[.int .i64 0, .int .i64 0, .int .i64 0, .int .i64 0, .int .i64 0, .int .i64 0] 82) = W := ⟨_, rfl⟩
    have hb := hW ▸ below_alloc W6 (.cells #[.int .i64 0, .int .i64 0, .int .i64 0, .int .i64 0, .int .i64 0, .int .i64 0] 82)
    have hq : Cb W7 W6.heap.size #[.int .i64 0, .int .i64 0, .int .i64 0, .int .i64 0, .int .i64 0, .int .i64 0] 82 := hW ▸ Cb.made W6 #[.int .i64 0, .int .i64 0, .int .i64 0, .int .i64 0, .int .i64 0, .int .i64 0] 82
    rw [hW]
    replace HB := over HB hb
    replace hFb := hFb.below hb
    replace M2 := M2.below hb
    replace M4 := M4.below hb
    have z5 := hb.size
    have M8 := hq
    have yM8 := hq.lt
    clear hq hb hW
    refine sd_all [16] (by kernel_rfl) (by decide) ?_
    refine sd_do (i := 16) rfl (by kernel_rfl) rfl (W7.setRow (W6.heap.size) #[.int .i64 ((c.legA k don sin r).dep), .int .i64 ((c.legA k don sin r).arr), .int .i64 ((c.legA k don sin r).beg), .int .i64 ((c.legA k don sin r).don), .int .i64 ((c.legA k don sin r).sin), .int .i64 ((c.legA k don sin r).mil)]) (ex_store (cells := #[.int .i64 ((c.legA k don sin r).dep), .int .i64 ((c.legA k don sin r).arr), .int .i64 ((c.legA k don sin r).beg), .int .i64 ((c.legA k don sin r).don), .int .i64 ((c.legA k don sin r).sin), .int .i64 ((c.legA k don sin r).mil)]) rfl M8 (by kernel_rfl) (by kernel_rfl) (by kernel_rfl) (by kernel_rfl) (by kernel_rfl)) ⟨(hFb.kept (grown_row W7 (W6.heap.size) #[.int .i64 ((c.legA k don sin r).dep), .int .i64 ((c.legA k don sin r).arr), .int .i64 ((c.legA k don sin r).beg), .int .i64 ((c.legA k don sin r).don), .int .i64 ((c.legA k don sin r).sin), .int .i64 ((c.legA k don sin r).mil)]) (by omega)), (M2.kept (grown_row W7 (W6.heap.size) #[.int .i64 ((c.legA k don sin r).dep), .int .i64 ((c.legA k don sin r).arr), .int .i64 ((c.legA k don sin r).beg), .int .i64 ((c.legA k don sin r).don), .int .i64 ((c.legA k don sin r).sin), .int .i64 ((c.legA k don sin r).mil)]) (by omega)), (M4.kept (grown_row W7 (W6.heap.size) #[.int .i64 ((c.legA k don sin r).dep), .int .i64 ((c.legA k don sin r).arr), .int .i64 ((c.legA k don sin r).beg), .int .i64 ((c.legA k don sin r).don), .int .i64 ((c.legA k don sin r).sin), .int .i64 ((c.legA k don sin r).mil)]) (by omega)), trivial⟩ ?_ AllReadyH.nil
    obtain ⟨W9, hW⟩ : ∃ W, W7.setRow (W6.heap.size) #[.int .i64 ((c.legA k don sin r).dep), .int .i64 ((c.legA k don sin r).arr), .int .i64 ((c.legA k don sin r).beg), .int .i64 ((c.legA k don sin r).don), .int .i64 ((c.legA k don sin r).sin), .int .i64 ((c.legA k don sin r).mil)] = W := ⟨_, rfl⟩
    have hg : W7.grownBy W9 (some (W6.heap.size)) := hW ▸ grown_row _ _ _
    have hq : Cb W9 (W6.heap.size) #[.int .i64 ((c.legA k don sin r).dep), .int .i64 ((c.legA k don sin r).arr), .int .i64 ((c.legA k don sin r).beg), .int .i64 ((c.legA k don sin r).don), .int .i64 ((c.legA k don sin r).sin), .int .i64 ((c.legA k don sin r).mil)] 82 := hW ▸ Cb.row M8 _
    rw [hW]
    replace HB := HB.grown hg (by omega) (fun x e => by simp only [Option.some.injEq] at e; omega)
    replace hFb := hFb.kept hg (by omega)
    replace M2 := M2.kept hg (by omega)
    replace M4 := M4.kept hg (by omega)
    have z6 := hg.size
    replace M8 := hq
    clear hq hg hW
    refine sd_take 17 rfl (by kernel_rfl) (by kernel_rfl) (by kernel_rfl) (by kernel_rfl) rfl rfl (.int .i64 (c.err k don sin r)) (fun w9 _ => by kernel_rfl) (fun _ _ _ h => h) ⟨hFb, M2, M4, trivial⟩ ?_
    refine sd_done (by kernel_rfl) ?_
    refine sx_norm ?_
    refine wp_seq ?_
    refine wp_region_lit ?_
    refine sx_val (by kernel_rfl) rfl rfl (.pointer (some ⟨w.heap.size, 0, none⟩)) (by kernel_rfl) ?_
    refine sx_val (by kernel_rfl) rfl rfl (.int .i64 ((k : Nat) : Int)) (ex_load1 rfl (M2.cell 0 rfl) (by kernel_rfl) Tryd.underlying3 rfl) ?_
    refine sx_int (by kernel_rfl) rfl rfl .i64 (IntKind.i64.wrap (((k : Nat) : Int) + 1)) (((k + 1 : Nat) : Int)) (by kernel_rfl) (by rw [IntKind.wrap_i64]; omega) ?_
    refine sx_val (by kernel_rfl) rfl rfl (.pointer (some ⟨W6.heap.size, 3, none⟩)) (by kernel_rfl) ?_
    refine sx_val (by kernel_rfl) rfl rfl (.int .i64 ((c.legA k don sin r).don)) (ex_load1 rfl (M8.cell 3 rfl) (by kernel_rfl) Tryd.underlying3 rfl) ?_
    refine sx_val (by kernel_rfl) rfl rfl (.pointer (some ⟨W6.heap.size, 4, none⟩)) (by kernel_rfl) ?_
    refine sx_val (by kernel_rfl) rfl rfl (.int .i64 ((c.legA k don sin r).sin)) (ex_load1 rfl (M8.cell 4 rfl) (by kernel_rfl) Tryd.underlying3 rfl) ?_
    refine sx_val (by kernel_rfl) rfl rfl (.agg #[.int .i64 ((k + 1 : Nat) : Int), .int .i64 ((c.legA k don sin r).don), .int .i64 ((c.legA k don sin r).sin)]) (by kernel_rfl) ?_
    refine sx_val (by kernel_rfl) rfl rfl (.int .i64 (c.err k don sin r)) (by kernel_rfl) ?_
    refine sx_val (by kernel_rfl) rfl rfl (.bool (((c.err k don sin r) : Int) == (0 : Int))) (by kernel_rfl) ?_
    refine sx_store (cells := #[.int .i64 ((k + 1 : Nat) : Int), .int .i64 ((c.legA k don sin r).don), .int .i64 ((c.legA k don sin r).sin)]) (by kernel_rfl) rfl rfl M4 (by kernel_rfl) (by kernel_rfl) (by kernel_rfl) (by kernel_rfl) (by kernel_rfl) ?_
    obtain ⟨W10, hW⟩ : ∃ W, W9.setRow (W1.heap.size) #[.int .i64 ((k + 1 : Nat) : Int), .int .i64 ((c.legA k don sin r).don), .int .i64 ((c.legA k don sin r).sin)] = W := ⟨_, rfl⟩
    have hg : W9.grownBy W10 (some (W1.heap.size)) := hW ▸ grown_row _ _ _
    have hq : Cb W10 (W1.heap.size) #[.int .i64 ((k + 1 : Nat) : Int), .int .i64 ((c.legA k don sin r).don), .int .i64 ((c.legA k don sin r).sin)] 113 := hW ▸ Cb.row M4 _
    rw [hW]
    replace HB := HB.grown hg (by omega) (fun x e => by simp only [Option.some.injEq] at e; omega)
    replace hFb := hFb.kept hg (by omega)
    replace M2 := M2.kept hg (by omega)
    replace M8 := M8.kept hg (by omega)
    have z7 := hg.size
    replace M4 := hq
    clear hq hg hW
    refine sx_val (by kernel_rfl) rfl rfl (.bool (((c.err k don sin r) : Int) == (0 : Int))) (by kernel_rfl) ?_
    refine wpList_nil ?_
    refine sx_norm ?_
    refine wp_ret ?_
    have e9 : ((c.err k don sin r : Int) == 0) = decide (c.err k don sin r = 0) := by rw [Bool.eq_iff_iff, beq_iff_eq, decide_eq_true_iff]
    exact sx_retct (v' := .bool (((c.err k don sin r) : Int) == (0 : Int))) M4 rfl rfl rfl (by kernel_rfl) (by kernel_rfl) Tryd.underlying113 rfl (by kernel_rfl) ⟨by rw [← e9], HB⟩
  refine sd_mem (i := 15) rfl (by kernel_rfl) rfl rfl (.pointer (some ⟨Y5.heap.size, 0, none⟩)) (Y5.alloc (.cells #[.int .i64 0, .int .i64 0, .int .i64 0, .int .i64 0, .int .i64 0, .int .i64 0] 82)) (by kernel_rfl) ⟨(hFb.below (below_alloc Y5 (.cells #[.int .i64 0, .int .i64 0, .int .i64 0, .int .i64 0, .int .i64 0, .int .i64 0] 82))), (M2.below (below_alloc Y5 (.cells #[.int .i64 0, .int .i64 0, .int .i64 0, .int .i64 0, .int .i64 0, .int .i64 0] 82))), (M4.below (below_alloc Y5 (.cells #[.int .i64 0, .int .i64 0, .int .i64 0, .int .i64 0, .int .i64 0, .int .i64 0] 82))), trivial⟩ ?_ AllReadyH.nil
  obtain ⟨W11, hW⟩ : ∃ W, Y5.alloc (.cells #[.int .i64 0, .int .i64 0, .int .i64 0, .int .i64 0, .int .i64 0, .int .i64 0] 82) = W := ⟨_, rfl⟩
  have hb := hW ▸ below_alloc Y5 (.cells #[.int .i64 0, .int .i64 0, .int .i64 0, .int .i64 0, .int .i64 0, .int .i64 0] 82)
  have hq : Cb W11 Y5.heap.size #[.int .i64 0, .int .i64 0, .int .i64 0, .int .i64 0, .int .i64 0, .int .i64 0] 82 := hW ▸ Cb.made Y5 #[.int .i64 0, .int .i64 0, .int .i64 0, .int .i64 0, .int .i64 0, .int .i64 0] 82
  rw [hW]
  replace HB := over HB hb
  replace hFb := hFb.below hb
  replace M2 := M2.below hb
  replace M4 := M4.below hb
  have z4 := hb.size
  have M12 := hq
  have yM12 := hq.lt
  clear hq hb hW
  refine sd_all [11] (by kernel_rfl) (by decide) ?_
  refine sd_call (i := 11) rfl (by kernel_rfl) rfl rfl (next_n c hc K q W11 (hF.crw.below HB) k hk don sin hd hs r) (by kernel_rfl) ?_ AllReadyH.nil
  rintro e W13 ⟨rfl, hb⟩
  replace HB := over HB hb
  replace hFb := hFb.below hb
  replace M2 := M2.below hb
  replace M4 := M4.below hb
  replace M12 := M12.below hb
  have z5 := hb.size
  clear hb
  refine ⟨_, rfl, ⟨hFb, M2, M4, trivial⟩, ?_⟩
  refine sd_take 12 rfl (by kernel_rfl) (by kernel_rfl) (by kernel_rfl) (by kernel_rfl) rfl rfl (.tuple #[.agg #[.int .i64 ((c.legA k don sin r).dep), .int .i64 ((c.legA k don sin r).arr), .int .i64 ((c.legA k don sin r).beg), .int .i64 ((c.legA k don sin r).don), .int .i64 ((c.legA k don sin r).sin), .int .i64 ((c.legA k don sin r).mil)], .int .i64 (c.err k don sin r)]) (fun w9 _ => by kernel_rfl) (fun _ _ _ h => h) ⟨hFb, M2, M4, trivial⟩ ?_
  refine sd_take 13 rfl (by kernel_rfl) (by kernel_rfl) (by kernel_rfl) (by kernel_rfl) rfl rfl (.agg #[.int .i64 ((c.legA k don sin r).dep), .int .i64 ((c.legA k don sin r).arr), .int .i64 ((c.legA k don sin r).beg), .int .i64 ((c.legA k don sin r).don), .int .i64 ((c.legA k don sin r).sin), .int .i64 ((c.legA k don sin r).mil)]) (fun w9 _ => by kernel_rfl) (fun _ _ _ h => h) ⟨hFb, M2, M4, trivial⟩ ?_
  refine sd_take 14 rfl (by kernel_rfl) (by kernel_rfl) (by kernel_rfl) (by kernel_rfl) rfl rfl (.int .i64 (c.err k don sin r)) (fun w9 _ => by kernel_rfl) (fun _ _ _ h => h) ⟨hFb, M2, M4, trivial⟩ ?_
  refine sd_all [16] (by kernel_rfl) (by decide) ?_
  refine sd_do (i := 16) rfl (by kernel_rfl) rfl (W13.setRow (Y5.heap.size) #[.int .i64 ((c.legA k don sin r).dep), .int .i64 ((c.legA k don sin r).arr), .int .i64 ((c.legA k don sin r).beg), .int .i64 ((c.legA k don sin r).don), .int .i64 ((c.legA k don sin r).sin), .int .i64 ((c.legA k don sin r).mil)]) (ex_store (cells := #[.int .i64 ((c.legA k don sin r).dep), .int .i64 ((c.legA k don sin r).arr), .int .i64 ((c.legA k don sin r).beg), .int .i64 ((c.legA k don sin r).don), .int .i64 ((c.legA k don sin r).sin), .int .i64 ((c.legA k don sin r).mil)]) rfl M12 (by kernel_rfl) (by kernel_rfl) (by kernel_rfl) (by kernel_rfl) (by kernel_rfl)) ⟨(hFb.kept (grown_row W13 (Y5.heap.size) #[.int .i64 ((c.legA k don sin r).dep), .int .i64 ((c.legA k don sin r).arr), .int .i64 ((c.legA k don sin r).beg), .int .i64 ((c.legA k don sin r).don), .int .i64 ((c.legA k don sin r).sin), .int .i64 ((c.legA k don sin r).mil)]) (by omega)), (M2.kept (grown_row W13 (Y5.heap.size) #[.int .i64 ((c.legA k don sin r).dep), .int .i64 ((c.legA k don sin r).arr), .int .i64 ((c.legA k don sin r).beg), .int .i64 ((c.legA k don sin r).don), .int .i64 ((c.legA k don sin r).sin), .int .i64 ((c.legA k don sin r).mil)]) (by omega)), (M4.kept (grown_row W13 (Y5.heap.size) #[.int .i64 ((c.legA k don sin r).dep), .int .i64 ((c.legA k don sin r).arr), .int .i64 ((c.legA k don sin r).beg), .int .i64 ((c.legA k don sin r).don), .int .i64 ((c.legA k don sin r).sin), .int .i64 ((c.legA k don sin r).mil)]) (by omega)), trivial⟩ ?_ AllReadyH.nil
  obtain ⟨W14, hW⟩ : ∃ W, W13.setRow (Y5.heap.size) #[.int .i64 ((c.legA k don sin r).dep), .int .i64 ((c.legA k don sin r).arr), .int .i64 ((c.legA k don sin r).beg), .int .i64 ((c.legA k don sin r).don), .int .i64 ((c.legA k don sin r).sin), .int .i64 ((c.legA k don sin r).mil)] = W := ⟨_, rfl⟩
  have hg : W13.grownBy W14 (some (Y5.heap.size)) := hW ▸ grown_row _ _ _
  have hq : Cb W14 (Y5.heap.size) #[.int .i64 ((c.legA k don sin r).dep), .int .i64 ((c.legA k don sin r).arr), .int .i64 ((c.legA k don sin r).beg), .int .i64 ((c.legA k don sin r).don), .int .i64 ((c.legA k don sin r).sin), .int .i64 ((c.legA k don sin r).mil)] 82 := hW ▸ Cb.row M12 _
  rw [hW]
  replace HB := HB.grown hg (by omega) (fun x e => by simp only [Option.some.injEq] at e; omega)
  replace hFb := hFb.kept hg (by omega)
  replace M2 := M2.kept hg (by omega)
  replace M4 := M4.kept hg (by omega)
  have z6 := hg.size
  replace M12 := hq
  clear hq hg hW
  refine sd_take 17 rfl (by kernel_rfl) (by kernel_rfl) (by kernel_rfl) (by kernel_rfl) rfl rfl (.int .i64 (c.err k don sin r)) (fun w9 _ => by kernel_rfl) (fun _ _ _ h => h) ⟨hFb, M2, M4, trivial⟩ ?_
  refine sd_done (by kernel_rfl) ?_
  refine sx_norm ?_
  refine wp_seq ?_
  refine wp_region_lit ?_
  refine sx_val (by kernel_rfl) rfl rfl (.pointer (some ⟨w.heap.size, 0, none⟩)) (by kernel_rfl) ?_
  refine sx_val (by kernel_rfl) rfl rfl (.int .i64 ((k : Nat) : Int)) (ex_load1 rfl (M2.cell 0 rfl) (by kernel_rfl) Tryd.underlying3 rfl) ?_
  refine sx_int (by kernel_rfl) rfl rfl .i64 (IntKind.i64.wrap (((k : Nat) : Int) + 1)) (((k + 1 : Nat) : Int)) (by kernel_rfl) (by rw [IntKind.wrap_i64]; omega) ?_
  refine sx_val (by kernel_rfl) rfl rfl (.pointer (some ⟨Y5.heap.size, 3, none⟩)) (by kernel_rfl) ?_
  refine sx_val (by kernel_rfl) rfl rfl (.int .i64 ((c.legA k don sin r).don)) (ex_load1 rfl (M12.cell 3 rfl) (by kernel_rfl) Tryd.underlying3 rfl) ?_
  refine sx_val (by kernel_rfl) rfl rfl (.pointer (some ⟨Y5.heap.size, 4, none⟩)) (by kernel_rfl) ?_
  refine sx_val (by kernel_rfl) rfl rfl (.int .i64 ((c.legA k don sin r).sin)) (ex_load1 rfl (M12.cell 4 rfl) (by kernel_rfl) Tryd.underlying3 rfl) ?_
  refine sx_val (by kernel_rfl) rfl rfl (.agg #[.int .i64 ((k + 1 : Nat) : Int), .int .i64 ((c.legA k don sin r).don), .int .i64 ((c.legA k don sin r).sin)]) (by kernel_rfl) ?_
  refine sx_val (by kernel_rfl) rfl rfl (.int .i64 (c.err k don sin r)) (by kernel_rfl) ?_
  refine sx_val (by kernel_rfl) rfl rfl (.bool (((c.err k don sin r) : Int) == (0 : Int))) (by kernel_rfl) ?_
  refine sx_store (cells := #[.int .i64 ((k + 1 : Nat) : Int), .int .i64 ((c.legA k don sin r).don), .int .i64 ((c.legA k don sin r).sin)]) (by kernel_rfl) rfl rfl M4 (by kernel_rfl) (by kernel_rfl) (by kernel_rfl) (by kernel_rfl) (by kernel_rfl) ?_
  obtain ⟨W15, hW⟩ : ∃ W, W14.setRow (W1.heap.size) #[.int .i64 ((k + 1 : Nat) : Int), .int .i64 ((c.legA k don sin r).don), .int .i64 ((c.legA k don sin r).sin)] = W := ⟨_, rfl⟩
  have hg : W14.grownBy W15 (some (W1.heap.size)) := hW ▸ grown_row _ _ _
  have hq : Cb W15 (W1.heap.size) #[.int .i64 ((k + 1 : Nat) : Int), .int .i64 ((c.legA k don sin r).don), .int .i64 ((c.legA k don sin r).sin)] 113 := hW ▸ Cb.row M4 _
  rw [hW]
  replace HB := HB.grown hg (by omega) (fun x e => by simp only [Option.some.injEq] at e; omega)
  replace hFb := hFb.kept hg (by omega)
  replace M2 := M2.kept hg (by omega)
  replace M12 := M12.kept hg (by omega)
  have z7 := hg.size
  replace M4 := hq
  clear hq hg hW
  refine sx_val (by kernel_rfl) rfl rfl (.bool (((c.err k don sin r) : Int) == (0 : Int))) (by kernel_rfl) ?_
  refine wpList_nil ?_
  refine sx_norm ?_
  refine wp_ret ?_
  have e9 : ((c.err k don sin r : Int) == 0) = decide (c.err k don sin r = 0) := by rw [Bool.eq_iff_iff, beq_iff_eq, decide_eq_true_iff]
  exact sx_retct (v' := .bool (((c.err k don sin r) : Int) == (0 : Int))) M4 rfl rfl rfl (by kernel_rfl) (by kernel_rfl) Tryd.underlying113 rfl (by kernel_rfl) ⟨by rw [← e9], HB⟩
theorem rw_two {w : World} {q : Nat} (h : Cb w q #[.bool false, .bool true] 4) : Rw w q 0 1 (bF [false, true]) [false, true].length (some ⟨q, 0, none⟩) := fun k hk => ⟨rfl, h.lt, fun j v hj => by
  match k, j, hk, hj with
  | 0, 0, _, hj => simp [bF] at hj; subst hj; exact h.cell 0 rfl
  | 1, 0, _, hj => simp [bF] at hj; subst hj; exact h.cell 1 rfl
  | 0, j + 1, _, hj => simp [bF] at hj
  | 1, j + 1, _, hj => simp [bF] at hj⟩
theorem frests_n (c : CrT) (K : CV) (q qf mb : Nat) (F : List Bool) (oF : Option Addr) (cF b9 q9 : Nat) (w : World) (hF : Fst w c K q qf mb F oF cF b9 q9) (hmb : mb < w.heap.size) (k : Nat) (hk : k ≤ 100) : Calls Tryd.prog 63 #[.pointer (some ⟨qf, 0, none⟩), .int .i64 ((k : Nat) : Int)] w fun e w' => ∃ oa ca b o, e = .returned (.slice oa (CrT.opts F k).length ca) ∧ Rw w' b o 1 (bF (CrT.opts F k)) (CrT.opts F k).length oa ∧ b ≠ mb ∧ ((k < F.length ∧ b = b9) ∨ w.heap.size ≤ b) ∧ Below w.heap.size w w' := by
  have HB : Below w.heap.size w w := Below.refl _ _
  have hFb := hF.blk
  have yhFb := hFb.lt
  have hFx := hF.fx
  refine sx_enter Tryd.func63 rfl [(0, .pointer (some ⟨qf, 0, none⟩)), (1, .int .i64 ((k : Nat) : Int))] (by kernel_rfl) ?_
  refine wp_seq ?_
  refine wp_region_lit ?_
  refine sx_val (by kernel_rfl) rfl rfl (.slice none 0 0) (by kernel_rfl) ?_
  refine wpList_nil ?_
  refine sx_norm ?_
  refine wp_seq ?_
  refine wp_seq ?_
  refine wp_region_lit ?_
  refine sx_val (by kernel_rfl) rfl rfl (.int .i64 ((k : Nat) : Int)) (by kernel_rfl) ?_
  refine sx_val (by kernel_rfl) rfl rfl (.pointer (some ⟨qf, 0, none⟩)) (by kernel_rfl) ?_
  refine sx_val (by kernel_rfl) rfl rfl (.pointer (some ⟨qf, 0, none⟩)) (by kernel_rfl) ?_
  refine sx_val (by kernel_rfl) rfl rfl (.pointer (some ⟨qf, 1, none⟩)) (by kernel_rfl) ?_
  refine sx_val (by kernel_rfl) rfl rfl (.slice oF F.length cF) (ex_load1 rfl (hFb.cell 1 rfl) (by kernel_rfl) Tryd.underlying31 rfl) ?_
  refine sx_val (by kernel_rfl) rfl rfl (.int .i64 ((F.length : Nat) : Int)) (by kernel_rfl) ?_
  by_cases C1 : k < F.length
  · refine sx_bool (by kernel_rfl) rfl rfl (decide (((k : Nat) : Int) < ((F.length : Nat) : Int))) true (by kernel_rfl) (decide_eq_true (by omega)) ?_
    refine wpList_nil ?_
    refine sx_norm ?_
    refine sx_true (by kernel_rfl) ?_
    refine wp_seq ?_
    refine wp_region_lit ?_
    refine sx_val (by kernel_rfl) rfl rfl (.pointer (some ⟨qf, 0, none⟩)) (by kernel_rfl) ?_
    refine sx_val (by kernel_rfl) rfl rfl (.pointer (some ⟨qf, 0, none⟩)) (by kernel_rfl) ?_
    refine sx_val (by kernel_rfl) rfl rfl (.pointer (some ⟨qf, 1, none⟩)) (by kernel_rfl) ?_
    refine sx_val (by kernel_rfl) rfl rfl (.slice oF F.length cF) (ex_load1 rfl (hFb.cell 1 rfl) (by kernel_rfl) Tryd.underlying31 rfl) ?_
    refine sx_val (by kernel_rfl) rfl rfl (.int .i64 ((k : Nat) : Int)) (by kernel_rfl) ?_
    refine sx_val (by kernel_rfl) rfl rfl (.int .i64 ((k : Nat) : Int)) (by kernel_rfl) ?_
    refine sx_int (by kernel_rfl) rfl rfl .i64 (IntKind.i64.wrap (((k : Nat) : Int) + 1)) (((k + 1 : Nat) : Int)) (by kernel_rfl) (by rw [IntKind.wrap_i64]; omega) ?_
    have hoF := hFx.oa (k := k) (by omega)
    subst hoF
    have hcp := hF.cap
    refine sx_val (by kernel_rfl) rfl rfl (.slice (some ⟨b9, q9 + k * 1, none⟩) (k + 1 - k) (cF - k)) (ex_sliceM (b := b9) (q := q9) (m := F.length) (c := cF) (i := k) (j := k + 1) (s := 1) rfl (by kernel_rfl) (by kernel_rfl) (by kernel_rfl) (by omega) (by omega) (by omega) Tryd.underlying31 (by kernel_rfl)) ?_
    refine sx_val (by kernel_rfl) rfl rfl (.slice (some ⟨b9, q9 + k * 1, none⟩) (k + 1 - k) (cF - k)) (by kernel_rfl) ?_
    refine wpList_nil ?_
    refine sx_norm ?_
    refine wp_ret ?_
    refine sx_rs ?_
    refine sx_ret1 (.slice (some ⟨b9, q9 + k * 1, none⟩) (k + 1 - k) (cF - k)) rfl rfl (by kernel_rfl) ⟨some ⟨b9, q9 + k * 1, none⟩, cF - k, b9, q9 + k * 1, ?_, ?_, hF.ne, .inl ⟨by omega, rfl⟩, HB⟩
    · unfold CrT.opts; rw [if_pos (by omega), show k + 1 - k = 1 by omega]; rfl
    · unfold CrT.opts; rw [if_pos (by omega)]
      intro i hi
      have hi0 : i = 0 := by simpa using hi
      subst hi0
      refine ⟨rfl, (hFx.below HB).lt (k := k) (by omega), fun j v hj => ?_⟩
      have h9 := (hFx.below HB).cell (k := k) (by omega) j (v := v) (by simpa [bF] using hj)
      simpa using h9
  refine sx_bool (by kernel_rfl) rfl rfl (decide (((k : Nat) : Int) < ((F.length : Nat) : Int))) false (by kernel_rfl) (decide_eq_false (by omega)) ?_
  refine wpList_nil ?_
  refine sx_norm ?_
  refine sx_false (by kernel_rfl) ?_
  refine wp_skip ?_
  refine sx_norm ?_
  refine wp_seq ?_
  refine wp_region_lit ?_
  obtain ⟨W1, hW⟩ : ∃ W, w.alloc (.cells #[.bool false, .bool true] 4) = W := ⟨_, rfl⟩
  have hb := hW ▸ below_alloc w (.cells #[.bool false, .bool true] 4)
  have hq : Cb W1 w.heap.size #[.bool false, .bool true] 4 := hW ▸ Cb.made w #[.bool false, .bool true] 4
  refine sx_mem (by kernel_rfl) rfl rfl (.slice (some ⟨w.heap.size, 0, none⟩) 2 2) W1 (by rw [← hW]; kernel_rfl) ?_
  replace HB := over HB hb
  replace hFb := hFb.below hb
  have z1 := hb.size
  have M2 := hq
  have yM2 := hq.lt
  clear hq hb hW
  refine sx_val (by kernel_rfl) rfl rfl (.slice (some ⟨w.heap.size, 0, none⟩) 2 2) (by kernel_rfl) ?_
  refine wpList_nil ?_
  refine sx_norm ?_
  refine wp_ret ?_
  refine sx_ret1 (.slice (some ⟨w.heap.size, 0, none⟩) 2 2) rfl rfl (by kernel_rfl) ⟨some ⟨w.heap.size, 0, none⟩, 2, w.heap.size, 0, ?_, ?_, by omega, .inr (Nat.le_refl _), HB⟩
  · unfold CrT.opts; rw [if_neg (by omega)]; rfl
  · unfold CrT.opts; rw [if_neg (by omega)]
    exact rw_two M2

end Go.Proofs.YtnapmildbodigaaDoor.T


