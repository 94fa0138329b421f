/-
  DERIVED. Dk: a part of the base of layer 13 (made by pack.py).
-/
import Derived.Test.YtomebalolmabnaaDoorGA
import Derived.Test.YtomebalolmabnaaDoorDh
import Derived.Test.YtomebalolmabnaaDoorGG
/-! The walk of drive: the rests that are found (by gen_dk.py). -/
namespace Go.Proofs.YtomebalolmabnaaDoor.T
open Go.RowKit
set_option maxRecDepth 8000
attribute [local irreducible] wpList Code.wp wpAnyH

theorem Keep.toBelow {Z : Nat → Prop} {a b : World} (h : Keep Z a b) {B : Nat} (hB : B ≤ a.heap.size) (hz : ∀ i, i < B → ¬ Z i) : Below B a b := ⟨h.os, h.tape, h.output, h.size, fun i hi => h.block i (by omega) (hz i hi)⟩
def boE (r : Bool) : List Value := [.bool r]
theorem boRow : Row boE 1 := ⟨fun _ => rfl, fun x v hv => by
 simp only [boE, List.mem_cons, List.not_mem_nil, or_false] at hv
 subst hv; rfl⟩
def boA (R : List Bool) : Array Value := (R.flatMap boE).toArray
theorem boA_row {w : World} {b : Nat} {R : List Bool} (h : Cb w b (boA R) 4) : Rw w b 0 1 (bF R) R.length (some ⟨b, 0, none⟩) := Rw.of_flat boRow false h
theorem bo_take {w : World} {b : Nat} {R F : List Bool} (h : Cb w b (boA R) 4) (hF : R.take F.length = F) : Rw w b 0 1 (bF F) F.length (some ⟨b, 0, none⟩) := fun k hk => by
 have hl : F.length ≤ R.length := by have := congrArg List.length hF; rw [List.length_take] at this; omega
 obtain ⟨h1, h2, h3⟩ := boA_row h k (by omega)
 refine ⟨h1, h2, fun j v hj => h3 j v ?_⟩
 have he : R.getD k false = F.getD k false := by
  have h8 : (R.take F.length)[k]? = F[k]? := by rw [hF]
  rw [List.getElem?_take_of_lt hk] at h8
  rw [List.getD_eq_getElem?_getD, List.getD_eq_getElem?_getD, h8]
 unfold bF at hj ⊢
 rw [he]; exact hj
def CV.sm (K : CV) (o9 : Option Addr) (c9 : Nat) : CV := { K with o1 := o9, c1 := c9 }
structure FW (v0 : World) (c : CrT) (K : CV) (qs qf mb bR bA oA : Nat) (X : List ArX) (o9 : Option Addr) (c9 : Nat) (F R : List Bool) (cR : Nat) (W : World) : Prop where
 hb : Below v0.heap.size v0 W
 cs : Cb W qs ((K.sm o9 c9).cells c.sm) 116
 ar : Rw W bA oA 6 (fun k => arE (X.getD k arx0)) c.few.length o9
 rs : Cb W bR (boA R) 4
 fd : Cb W qf #[.pointer (some ⟨qs, 0, none⟩), .slice (some ⟨bR, 0, none⟩) F.length cR, .map (some mb)] 122
section
variable {v0 W W' : World} {c : CrT} {K : CV} {q qs qf mb bR bA oA : Nat} {X : List ArX} {o9 : Option Addr} {c9 : Nat} {F R : List Bool} {cR : Nat}
theorem FW.fst (h : FW v0 c K qs qf mb bR bA oA X o9 c9 F R cR W) (hK : Crw v0 c K q) (hX : X.map (·.1) = c.few) (hP : ∀ x ∈ X, PsX v0 x) (hF : R.take F.length = F) (hcF : F.length ≤ cR) (hm : bR ≠ mb) : Fst W c.sm (K.sm o9 c9) qs qf mb F (some ⟨bR, 0, none⟩) cR bR 0 :=
 ⟨⟨h.cs, hK.st.below h.hb, hK.pl.below h.hb, As.ofX hX h.ar (fun x hx => (hP x hx).below h.hb), hK.tab.belowD h.hb⟩, bo_take h.rs hF, h.fd, hcF, hm⟩
theorem FW.keep (h : FW v0 c K qs qf mb bR bA oA X o9 c9 F R cR W) (k : Keep (fun i => i = mb) W W') (hv : v0.heap.size ≤ mb) (h1 : qs ≠ mb) (h2 : ∀ i, i < c.few.length → bA ≠ mb) (h3 : bR ≠ mb) (h4 : qf ≠ mb) : FW v0 c K qs qf mb bR bA oA X o9 c9 F R cR W' :=
 ⟨h.hb.trans (k.toBelow h.hb.size (fun i hi e => by omega)), h.cs.keep k h1, h.ar.keep k (fun i hi e => h2 i hi e), h.rs.keep k h3, h.fd.keep k h4⟩
end
theorem ex_sliceH {P : Program} {o : Oper} {n : Nat} {g : Nat → Value} {l : List (Nat × Value)} {w : World} {ty : TypeId} {x y : Operand} (ho : o.op = .slice ty x none (some y) none) {b q m c k s : Nat} (hx : ev n g l x = .slice (some ⟨b, q, none⟩) m c) (hy : ev n g l y = .int .i64 (k : Int)) (hk : k ≤ c) {e : TypeId}
  (hu : P.underlying ty = some (.slice e)) (hs : (P.info? e).map (·.size) = some s) : (execOp (ev n g l) o).run P w = .ok (.value (.slice (some ⟨b, q, none⟩) k c)) w := by
 have h2 : (sizeOf e).run P w = .ok s w := by
  cases hi : P.info? e with
  | none => rw [hi] at hs; cases hs
  | some i => rw [hi] at hs; simp only [Option.map_some, Option.some.injEq] at hs; simp [sizeOf, typeInfo, hi, hs]
 have hr : (Instr.sliceAt ty (.slice (some ⟨b, q, none⟩) m c) none (some (.int .i64 (k : Int))) none).run P w = .ok (.slice (some ⟨b, q, none⟩) k c) w := by
  unfold Instr.sliceAt Instr.slice Instr.sliceBounds Instr.sliceBound
  simp [asIntOf, Sem.run_bind, Sem.run_pure, Result.andThen_ok, run_underlying hu w, h2, Int.toNat_natCast]
  rw [if_pos hk]
  by_cases h0 : c = 0
  ·simp [h0]
  ·simp [h0, add_addr]
 unfold execOp
 simp only [ho, hx, hy, Option.map_some, Option.map_none, hr, Sem.run_bind, Sem.run_pure, Result.andThen_ok]
theorem fnd_sm (c : CrT) (F : List Bool) : c.sm.fnd F = c.fnd F := by
 have h : ∀ (m k : Nat) (don sin : Int), k + m = c.n → c.sm.wy F m k don sin = c.wy F m k don sin := by
  intro m
  induction m with
  | zero => intro k don sin _; rfl
  | succ m ih =>
   intro k don sin hk
   show (c.sm.best F (m + 1) k don sin).r :: c.sm.wy F m (k + 1) (c.sm.leg k don sin (c.sm.best F (m + 1) k don sin).r).don (c.sm.leg k don sin (c.sm.best F (m + 1) k don sin).r).sin = _
   rw [CrT.best_sm F (m + 1) k hk, CrT.leg_sm (by omega), ih (k + 1) _ _ (by omega)]
   rfl
 exact h c.n 0 c.rd 0 (by omega)
theorem mix_at {c : CrT} {F R : List Bool} {i : Nat} (hi : i < c.n) : (c.mix F R (i + 1)).getD i false = (c.fnd F).getD i false := by
 unfold CrT.mix
 have hl : i < ((c.fnd F).take (i + 1)).length := by rw [List.length_take, CrT.fnd_len]; omega
 rw [List.getD_eq_getElem?_getD, List.getElem?_append_left hl, List.getElem?_take_of_lt (by omega), List.getD_eq_getElem?_getD]
theorem find_n (v0 : World) (c : CrT) (hc : c.Ok) (K : CV) (q : Nat) (w : World) (hK0 : Crw v0 c K q) (HB0 : Below v0.heap.size v0 w) (R F : List Bool) (nf bR cR : Nat) (hRl : R.length = c.n) (hFl : F.length = nf) (hRF : R.take F.length = F) (hnf : nf ≤ c.n) (hcR : c.n ≤ cR) (hbR : v0.heap.size ≤ bR) (NT0 : Cb w bR (boA R) 4) : Calls Tryd.prog 30 #[.pointer (some ⟨q, 0, none⟩), .slice (some ⟨bR, 0, none⟩) c.n cR, .int .i64 ((nf : Nat) : Int)] w fun e w' => (((c.best F c.n 0 c.rd 0).p = true ∧ e = .returned (.bool true) ∧ Cb w' bR (boA (c.fnd F)) 4) ∨ ((c.best F c.n 0 c.rd 0).p = false ∧ e = .returned (.bool false) ∧ Cb w' bR (boA R) 4)) ∧ Keep (fun z9 => z9 = bR) w w' := by
 subst hFl
 have hB := hK0.blk.below HB0
 have yhB := hB.lt
 have hqv := hK0.blk.lt
 have HB := HB0
 have HK : Keep (fun z9 => z9 = bR) w w := Keep.refl _ _
 have hln := hc.len
 have hcn : c.n ≤ 21 := by unfold CrT.n; omega
 have hsn : c.sm.n = c.n := rfl
 have hsm := CrT.sm_ok hc
 have hbw := NT0.lt
 have NT := NT0
 refine sx_enter Tryd.func30 rfl [(0, .pointer (some ⟨q, 0, none⟩)), (1, .slice (some ⟨bR, 0, none⟩) c.n cR), (2, .int .i64 ((F.length : Nat) : Int))] (by kernel_rfl) ?_
 refine wp_seq (wp_region_lit ?_)
 refine Zv rfl (.bool false) ?_
 refine wpList_nil (sx_norm (wp_seq (wp_region_lit ?_)))
 refine Zv rfl (.pointer (some ⟨q, 0, none⟩)) ?_
 refine Zv rfl (.pointer (some ⟨q, 0, none⟩)) ?_
 refine Zw rfl (.agg #[.slice K.o0 c.pl.length K.c0, .slice K.o1 c.al.length K.c1, .string c.ty.name, .int .i64 c.ty.count, .int .i64 c.ty.fr, .int .i64 c.ty.to, .slice K.va c.ty.cap.length K.vb, .int .i64 c.ty.skills, .int .i64 c.ty.prof, .int .i64 c.ty.opn, .int .i64 c.ty.cls, .int .i64 c.ty.drv, .int .i64 c.ty.rst, .int .i64 c.ty.fix, .int .i64 c.ty.pm, .int .i64 c.ty.pt, .int .i64 c.rd, .slice K.o2 c.S.length K.c2]) (ex_load rfl hB (by kernel_rfl) Tryd.underlying116 rfl (by kernel_rfl)) ?_
 obtain ⟨W2, hW, hb, hq⟩ := laidV w #[.slice none 0 0, .slice none 0 0, .string ⟨#[]⟩, .int .i64 0, .int .i64 0, .int .i64 0, .slice none 0 0, .int .i64 0, .int .i64 0, .int .i64 0, .int .i64 0, .int .i64 0, .int .i64 0, .int .i64 0, .int .i64 0, .int .i64 0, .int .i64 0, .slice none 0 0] #[.slice K.o0 c.pl.length K.c0, .slice K.o1 c.al.length K.c1, .string c.ty.name, .int .i64 c.ty.count, .int .i64 c.ty.fr, .int .i64 c.ty.to, .slice K.va c.ty.cap.length K.vb, .int .i64 c.ty.skills, .int .i64 c.ty.prof, .int .i64 c.ty.opn, .int .i64 c.ty.cls, .int .i64 c.ty.drv, .int .i64 c.ty.rst, .int .i64 c.ty.fix, .int .i64 c.ty.pm, .int .i64 c.ty.pt, .int .i64 c.rd, .slice K.o2 c.S.length K.c2] 116
 refine sx_mem (by kernel_rfl) rfl rfl (.pointer (some ⟨w.heap.size, 0, none⟩)) (w.alloc (.cells #[.slice none 0 0, .slice none 0 0, .string ⟨#[]⟩, .int .i64 0, .int .i64 0, .int .i64 0, .slice none 0 0, .int .i64 0, .int .i64 0, .int .i64 0, .int .i64 0, .int .i64 0, .int .i64 0, .int .i64 0, .int .i64 0, .int .i64 0, .int .i64 0, .slice none 0 0] 116)) (by kernel_rfl) ?_
 refine Zs (cells := #[.slice K.o0 c.pl.length K.c0, .slice K.o1 c.al.length K.c1, .string c.ty.name, .int .i64 c.ty.count, .int .i64 c.ty.fr, .int .i64 c.ty.to, .slice K.va c.ty.cap.length K.vb, .int .i64 c.ty.skills, .int .i64 c.ty.prof, .int .i64 c.ty.opn, .int .i64 c.ty.cls, .int .i64 c.ty.drv, .int .i64 c.ty.rst, .int .i64 c.ty.fix, .int .i64 c.ty.pm, .int .i64 c.ty.pt, .int .i64 c.rd, .slice K.o2 c.S.length K.c2]) rfl rfl (Cb.made w #[.slice none 0 0, .slice none 0 0, .string ⟨#[]⟩, .int .i64 0, .int .i64 0, .int .i64 0, .slice none 0 0, .int .i64 0, .int .i64 0, .int .i64 0, .int .i64 0, .int .i64 0, .int .i64 0, .int .i64 0, .int .i64 0, .int .i64 0, .int .i64 0, .slice none 0 0] 116) ?_
 rw [hW]
 replace hB := hB.below hb
 replace HB := over HB hb
 replace HK := HK.below hb
 replace NT := NT.below hb
 have z1 := hb.size
 have M1 := hq
 have yM1 := hq.lt
 clear hq hb hW
 refine wpList_nil (sx_norm (wp_seq (wp_region_lit ?_)))
 refine Zv rfl (.pointer (some ⟨q, 0, none⟩)) ?_
 refine sx_call (by kernel_rfl) rfl rfl (arcs_n v0 c hc K q W2 hK0 HB) (by kernel_rfl) ?_
 rintro e W3 ⟨o9, c9, bA, oA, X, rfl, hX, hA9, hbA0, hP, hb⟩
 have hbA : ∀ i, i < c.few.length → W2.heap.size ≤ bA ∧ bA < W3.heap.size := fun i hi => ⟨hbA0 i hi, hA9.lt hi⟩
 replace hB := hB.below hb
 replace HB := over HB hb
 replace HK := HK.below hb
 replace NT := NT.below hb
 replace M1 := M1.below hb
 have z2 := hb.size
 clear hb
 refine ⟨_, rfl, ?_⟩
 refine Zv rfl (.pointer (some ⟨w.heap.size, 0, none⟩)) ?_
 refine Zv rfl (.pointer (some ⟨w.heap.size, 1, none⟩)) ?_
 refine sx_do (by kernel_rfl) rfl _ (ex_storeC (k := 1) (old := .slice K.o1 c.al.length K.c1) (v := .slice o9 c.few.length c9) rfl M1 (by kernel_rfl) (by kernel_rfl) (by kernel_rfl) (by kernel_rfl) (by kernel_rfl)) ?_
 obtain ⟨W4, hW⟩ : ∃ W, W3.setCell ⟨w.heap.size, 1, none⟩ (.slice o9 c.few.length c9) = W := ⟨_, rfl⟩
 have hg : W3.grownBy W4 (some (w.heap.size)) := hW ▸ grown_set _ _ _ _
 have hq : Cb W4 (w.heap.size) #[.slice K.o0 c.pl.length K.c0, .slice o9 c.few.length c9, .string c.ty.name, .int .i64 c.ty.count, .int .i64 c.ty.fr, .int .i64 c.ty.to, .slice K.va c.ty.cap.length K.vb, .int .i64 c.ty.skills, .int .i64 c.ty.prof, .int .i64 c.ty.opn, .int .i64 c.ty.cls, .int .i64 c.ty.drv, .int .i64 c.ty.rst, .int .i64 c.ty.fix, .int .i64 c.ty.pm, .int .i64 c.ty.pt, .int .i64 c.rd, .slice K.o2 c.S.length K.c2] 116 := hW ▸ M1.set 1 (.slice o9 c.few.length c9)
 rw [hW]
 replace hB := hB.kept hg (by omega)
 replace HB := HB.grown hg (by omega) (fun x e => by simp only [Option.some.injEq] at e; omega)
 replace HK := HK.grown hg (fun i hi e => by simp only [Option.some.injEq] at e; omega)
 replace NT := NT.kept hg (by omega)
 replace hA9 := hA9.kept hg (fun i hi => by have h8 := hbA i hi; omega)
 have z3 := hg.size
 replace M1 := hq
 clear hq hg hW
 refine wpList_nil (sx_norm (wp_seq (wp_region_lit ?_)))
 refine Zv rfl (.slice (some ⟨bR, 0, none⟩) c.n cR) ?_
 refine Zv rfl (.int .i64 ((F.length : Nat) : Int)) ?_
 refine Zw rfl (.slice (some ⟨bR, 0, none⟩) F.length cR) (ex_sliceH (b := bR) (q := 0) (m := c.n) (c := cR) (k := F.length) (s := 1) rfl (by kernel_rfl) (by kernel_rfl) (by omega) Tryd.underlying31 (by kernel_rfl)) ?_
 obtain ⟨mb, hmb⟩ : ∃ m, W4.heap.size = m := ⟨_, rfl⟩
 obtain ⟨W5, hW⟩ : ∃ W, W4.alloc (.map #[] 0) = W := ⟨_, rfl⟩
 have hb := hW ▸ below_alloc W4 (.map #[] 0)
 have hmM : Hm W5 mb 0 (fun _ _ _ => none) := by rw [← hW, ← hmb]; exact Hm.made W4
 refine sx_mem (by kernel_rfl) rfl rfl (.map (some mb)) W5 (by rw [← hW, ← hmb]; exact ex_makeMap rfl) ?_
 replace hB := hB.below hb
 replace HB := over HB hb
 replace HK := HK.below hb
 replace NT := NT.below hb
 replace M1 := M1.below hb
 replace hA9 := hA9.below hb
 have z4 := hb.size
 have hm := hmM
 have yhm := hm.lt
 clear hb hW hmM
 refine Zv rfl (.agg #[.pointer (some ⟨w.heap.size, 0, none⟩), .slice (some ⟨bR, 0, none⟩) F.length cR, (.map (some mb))]) ?_
 obtain ⟨W7, hW⟩ : ∃ W, (W5.alloc (.cells #[.pointer none, .slice none 0 0, (.map none)] 122)).setRow W5.heap.size #[.pointer (some ⟨w.heap.size, 0, none⟩), .slice (some ⟨bR, 0, none⟩) F.length cR, (.map (some mb))] = W := ⟨_, rfl⟩
 have hb := hW ▸ below_var W5 (.cells #[.pointer none, .slice none 0 0, (.map none)] 122) #[.pointer (some ⟨w.heap.size, 0, none⟩), .slice (some ⟨bR, 0, none⟩) F.length cR, (.map (some mb))]
 have hq : Cb W7 W5.heap.size #[.pointer (some ⟨w.heap.size, 0, none⟩), .slice (some ⟨bR, 0, none⟩) F.length cR, (.map (some mb))] 122 := hW ▸ Cb.row (Cb.made W5 #[.pointer none, .slice none 0 0, (.map none)] 122) _
 refine sx_mem (by kernel_rfl) rfl rfl (.pointer (some ⟨W5.heap.size, 0, none⟩)) (W5.alloc (.cells #[.pointer none, .slice none 0 0, (.map none)] 122)) (by kernel_rfl) ?_
 refine Zs (cells := #[.pointer (some ⟨w.heap.size, 0, none⟩), .slice (some ⟨bR, 0, none⟩) F.length cR, (.map (some mb))]) rfl rfl (Cb.made W5 #[.pointer none, .slice none 0 0, (.map none)] 122) ?_
 rw [hW]
 replace hB := hB.below hb
 replace HB := over HB hb
 replace HK := HK.below hb
 replace NT := NT.below hb
 replace M1 := M1.below hb
 replace hA9 := hA9.below hb
 replace hm := hm.below hb
 have z5 := hb.size
 have M6 := hq
 have yM6 := hq.lt
 clear hq hb hW
 refine wpList_nil (sx_norm (wp_seq (wp_region_lit ?_)))
 refine Zv rfl (.pointer (some ⟨q, 0, none⟩)) ?_
 refine Zv rfl (.pointer (some ⟨q, 0, none⟩)) ?_
 refine Zv rfl (.pointer (some ⟨q, 16, none⟩)) ?_
 refine Zw rfl (.int .i64 c.rd) (el (hB.cell 16 rfl) Tryd.underlying3) ?_
 refine Zv rfl (.agg #[.int .i64 0, .int .i64 c.rd, .int .i64 0]) ?_
 obtain ⟨W9, hW, hb, hq⟩ := laidV W7 #[.int .i64 0, .int .i64 0, .int .i64 0] #[.int .i64 0, .int .i64 c.rd, .int .i64 0] 124
 refine sx_mem (by kernel_rfl) rfl rfl (.pointer (some ⟨W7.heap.size, 0, none⟩)) (W7.alloc (.cells #[.int .i64 0, .int .i64 0, .int .i64 0] 124)) (by kernel_rfl) ?_
 refine Zs (cells := #[.int .i64 0, .int .i64 c.rd, .int .i64 0]) rfl rfl (Cb.made W7 #[.int .i64 0, .int .i64 0, .int .i64 0] 124) ?_
 rw [hW]
 replace hB := hB.below hb
 replace HB := over HB hb
 replace HK := HK.below hb
 replace NT := NT.below hb
 replace M1 := M1.below hb
 replace hA9 := hA9.below hb
 replace hm := hm.below hb
 replace M6 := M6.below hb
 have z6 := hb.size
 have M8 := hq
 have yM8 := hq.lt
 clear hq hb hW
 refine wpList_nil (sx_norm (wp_seq (wp_seq (wp_region_lit ?_))))
 refine Zw rfl (.agg #[.int .i64 0, .int .i64 c.rd, .int .i64 0]) (ex_load rfl M8 (by kernel_rfl) Tryd.underlying124 rfl (by kernel_rfl)) ?_
 have hdb : 0 ≤ c.sm.rd ∧ c.sm.rd ≤ 8192 ∧ (0 : Int) ≤ 0 ∧ (0 : Int) ≤ 4096 := by have h8 := hc.rd; exact ⟨h8.1, by show c.rd ≤ _; omega, by omega, by omega⟩
 by_cases C1 : (c.sm.best F c.sm.n 0 c.sm.rd 0).p = true
 ·have hFW : FW v0 c K (w.heap.size) (W5.heap.size) mb bR bA oA X o9 c9 F R cR W9 := ⟨HB, M1, hA9, NT, M6⟩
  refine sx_call (by kernel_rfl) rfl rfl (by
   have h8 := best_n c.sm hsm (K.sm o9 c9) (w.heap.size) (W5.heap.size) mb F (some ⟨bR, 0, none⟩) cR bR 0 (by omega) (c.sm.n - 0) 0 (c.sm.dn ((c.sm).fnd F) 0).1 (c.sm.dn ((c.sm).fnd F) 0).2 0 (fun _ _ _ => none) W9 (by omega) ⟨hdb.1, hdb.2.1⟩ ⟨hdb.2.2.1, hdb.2.2.2⟩ (fun W h => (hFW.keep h (by omega) (by omega) (fun i hi e => by have h8 := hbA i hi; omega) (by omega) (by omega)).fst hK0 hX hP hRF (by omega) (by omega)) hm (fun k f t ch h _ => by cases h) (by have := cntB_le (c.sm.n - 0) (by omega); omega) (by omega)
   rw [show chC (c.sm.best F (c.sm.n - 0) 0 (c.sm.dn ((c.sm).fnd F) 0).1 (c.sm.dn ((c.sm).fnd F) 0).2) = #[.bool true, .int .i64 (c.sm.best F c.sm.n 0 c.sm.rd 0).e, .bool (c.sm.best F c.sm.n 0 c.sm.rd 0).r, .bool (c.sm.best F c.sm.n 0 c.sm.rd 0).f] from by show chC (c.sm.best F c.sm.n 0 c.sm.rd 0) = _; unfold chC; rw [show (c.sm.best F c.sm.n 0 c.sm.rd 0).p = true by simpa using C1]] at h8
   exact h8) (by kernel_rfl) ?_
  rintro e W10 ⟨rfl, ⟨n8, g8, hm8, hgd8, hn8⟩, hk8⟩
  have hcb := cntB_le (c.sm.n - 0) (by omega)
  replace hB := hB.keep hk8 (fun e => by omega)
  replace HB := HB.trans (hk8.toBelow HB.size (fun i hi e => by omega))
  replace HK := HK.trans hk8 (fun i hi e => by omega)
  replace NT := NT.keep hk8 (fun e => by omega)
  replace M1 := M1.keep hk8 (fun e => by omega)
  replace hA9 := hA9.keep hk8 (fun i hi e => by have h8 := hbA i hi; omega)
  replace hm := hm8
  replace M6 := M6.keep hk8 (fun e => by omega)
  replace M8 := M8.keep hk8 (fun e => by omega)
  have zkW10 := hk8.size
  clear hk8 hFW
  refine ⟨_, rfl, ?_⟩
  refine Zv rfl (.bool true) ?_
  refine Zv rfl (.bool false) ?_
  refine wpList_nil (sx_norm ?_)
  refine sx_false (by kernel_rfl) ?_
  refine wp_skip (sx_norm (wp_seq (wp_seq (wp_region_lit ?_))))
  refine Zv rfl (.slice (some ⟨bR, 0, none⟩) c.n cR) ?_
  refine Zv rfl (.int .i64 ((c.n : Nat) : Int)) ?_
  refine Zv rfl (.int .i64 0) ?_
  refine wpList_nil (sx_norm (wp_block ?_))
  have hp9 : (c.sm.best F c.sm.n 0 c.sm.rd 0).p = true := C1
  have hz0 : Cb W10 bR (boA (c.sm.mix F R 0)) 4 := by rw [CrT.mix_zero]; exact NT
  refine sx_loop (fun x9 : Nat × Nat × HaltF => [(0, .pointer (some ⟨q, 0, none⟩)), (1, .slice (some ⟨bR, 0, none⟩) c.n cR), (2, .int .i64 ((F.length : Nat) : Int)), (6, .bool false), (7, .pointer (some ⟨w.heap.size, 0, none⟩)), (8, .pointer (some ⟨W5.heap.size, 0, none⟩)), (9, .pointer (some ⟨W7.heap.size, 0, none⟩)), (11, .pointer (some ⟨q, 0, none⟩)), (12, .pointer (some ⟨q, 0, none⟩)), (13, .agg #[.slice K.o0 c.pl.length K.c0, .slice K.o1 c.al.length K.c1, .string c.ty.name, .int .i64 c.ty.count, .int .i64 c.ty.fr, .int .i64 c.ty.to, .slice K.va c.ty.cap.length K.vb, .int .i64 c.ty.skills, .int .i64 c.ty.prof, .int .i64 c.ty.opn, .int .i64 c.ty.cls, .int .i64 c.ty.drv, .int .i64 c.ty.rst, .int .i64 c.ty.fix, .int .i64 c.ty.pm, .int .i64 c.ty.pt, .int .i64 c.rd, .slice K.o2 c.S.length K.c2]), (14, .pointer (some ⟨q, 0, none⟩)), (15, .slice o9 c.few.length c9), (16, .pointer (some ⟨w.heap.size, 0, none⟩)), (17, .pointer (some ⟨w.heap.size, 1, none⟩)), (18, .slice (some ⟨bR, 0, none⟩) c.n cR), (19, .int .i64 ((F.length : Nat) : Int)), (20, .slice (some ⟨bR, 0, none⟩) F.length cR), (21, (.map (some mb))), (22, .agg #[.pointer (some ⟨w.heap.size, 0, none⟩), .slice (some ⟨bR, 0, none⟩) F.length cR, (.map (some mb))]), (23, .pointer (some ⟨q, 0, none⟩)), (24, .pointer (some ⟨q, 0, none⟩)), (25, .pointer (some ⟨q, 16, none⟩)), (26, .int .i64 c.rd), (27, .agg #[.int .i64 0, .int .i64 c.rd, .int .i64 0]), (28, .agg #[.int .i64 0, .int .i64 c.rd, .int .i64 0]), (29, .agg #[.bool true, .int .i64 ((c.sm.best F c.sm.n 0 c.sm.rd 0).e), .bool (c.sm.best F c.sm.n 0 c.sm.rd 0).r, .bool (c.sm.best F c.sm.n 0 c.sm.rd 0).f]), (30, .bool true), (31, .bool false), (32, .slice (some ⟨bR, 0, none⟩) c.n cR), (33, .int .i64 ((c.n : Nat) : Int)), (34, .int .i64 ((x9.1 : Nat) : Int))]) (fun gg x9 wr => x9.1 ≤ c.n ∧ c.n - x9.1 ≤ gg ∧ Below v0.heap.size v0 wr ∧ Keep (fun z9 => z9 = bR) w wr ∧ Cb wr (w.heap.size) #[.slice K.o0 c.pl.length K.c0, .slice o9 c.few.length c9, .string c.ty.name, .int .i64 c.ty.count, .int .i64 c.ty.fr, .int .i64 c.ty.to, .slice K.va c.ty.cap.length K.vb, .int .i64 c.ty.skills, .int .i64 c.ty.prof, .int .i64 c.ty.opn, .int .i64 c.ty.cls, .int .i64 c.ty.drv, .int .i64 c.ty.rst, .int .i64 c.ty.fix, .int .i64 c.ty.pm, .int .i64 c.ty.pt, .int .i64 c.rd, .slice K.o2 c.S.length K.c2] 116 ∧ Cb wr (W5.heap.size) #[.pointer (some ⟨w.heap.size, 0, none⟩), .slice (some ⟨bR, 0, none⟩) F.length cR, (.map (some mb))] 122 ∧ Cb wr (W7.heap.size) #[.int .i64 ((x9.1 : Nat) : Int), .int .i64 (c.sm.dn ((c.sm).fnd F) x9.1).1, .int .i64 (c.sm.dn ((c.sm).fnd F) x9.1).2] 124 ∧ Rw wr bA oA 6 (fun k => arE (X.getD k arx0)) c.few.length o9 ∧ Cb wr bR (boA (c.sm.mix F R x9.1)) 4 ∧ Hm wr mb x9.2.1 x9.2.2 ∧ GoodH c.sm F x9.2.2 ∧ x9.2.1 ≤ (x9.1 + 1) * 4194304 ∧ W10.heap.size ≤ wr.heap.size) (c.n) ((0, n8, g8)) (by kernel_rfl) ⟨Nat.zero_le _, Nat.le_refl _, HB, HK, M1, M6, M8, hA9, hz0, hm, hgd8, by show n8 ≤ (0 + 1) * 4194304; omega, Nat.le_refl _⟩ ?_
  rintro gg ⟨i, n9, g9⟩ g' wr11 ⟨hi, hg, HB, HK, Q7, Q8, Q9, hA9, NT, hm, hgd, hn9, hzz⟩
  dsimp only at hi hg HB HK Q7 Q8 Q9 hA9 NT hm hgd hn9 hzz
  have yQ7 := Q7.lt
  have yQ8 := Q8.lt
  have yQ9 := Q9.lt
  have yNT := NT.lt
  have yhm := hm.lt
  have zHK := HK.size
  refine wp_seq (wp_region_lit ?_)
  by_cases C2 : i < c.n
  ·refine Zb rfl (decide (((i : Nat) : Int) < ((c.n : Nat) : Int))) true (decide_eq_true (by omega)) ?_
   refine wpList_nil (sx_norm (wp_seq ?_))
   refine sx_true (by kernel_rfl) ?_
   refine wp_skip (sx_norm (wp_seq (wp_block (wp_seq (wp_region_lit ?_)))))
   refine Zv rfl (.int .i64 ((i : Nat) : Int)) ?_
   refine Zv rfl (.int .i64 ((i : Nat) : Int)) ?_
   refine wpList_nil (sx_norm (wp_seq (wp_region_lit ?_)))
   refine Zv rfl (.slice (some ⟨bR, 0, none⟩) c.n cR) ?_
   refine Zv rfl (.int .i64 ((i : Nat) : Int)) ?_
   refine Zw rfl (.agg #[.int .i64 ((i : Nat) : Int), .int .i64 ((c.sm.dn ((c.sm).fnd F) i).1), .int .i64 ((c.sm.dn ((c.sm).fnd F) i).2)]) (ex_load rfl Q9 (by kernel_rfl) Tryd.underlying124 rfl (by kernel_rfl)) ?_
   have hrn := (CrT.fnd_p hp9 (i := i) (by omega)).1
   have hdb := CrT.dn_bd hsm (R := ((c.sm).fnd F)) i (by omega) hrn
   have hFW : FW v0 c K (w.heap.size) (W5.heap.size) mb bR bA oA X o9 c9 F (c.sm.mix F R i) cR wr11 := ⟨HB, Q7, hA9, NT, Q8⟩
   refine sx_call (by kernel_rfl) rfl rfl (by
    have h8 := best_n c.sm hsm (K.sm o9 c9) (w.heap.size) (W5.heap.size) mb F (some ⟨bR, 0, none⟩) cR bR 0 (by omega) (c.sm.n - i) i (c.sm.dn ((c.sm).fnd F) i).1 (c.sm.dn ((c.sm).fnd F) i).2 n9 g9 wr11 (by omega) ⟨hdb.1, hdb.2.1⟩ ⟨hdb.2.2.1, hdb.2.2.2⟩ (fun W h => (hFW.keep h (by omega) (by omega) (fun i hi e => by have h8 := hbA i hi; omega) (by omega) (by omega)).fst hK0 hX hP (CrT.mix_fix hp9 (by omega) (by omega) hRF) (by omega) (by omega)) hm hgd (by have := cntB_le (c.sm.n - i) (by omega); omega) (by omega)
    rw [show chC (c.sm.best F (c.sm.n - i) i (c.sm.dn ((c.sm).fnd F) i).1 (c.sm.dn ((c.sm).fnd F) i).2) = #[.bool (c.sm.best F (c.sm.n - i) i (c.sm.dn ((c.sm).fnd F) i).1 (c.sm.dn ((c.sm).fnd F) i).2).p, .int .i64 (c.sm.best F (c.sm.n - i) i (c.sm.dn ((c.sm).fnd F) i).1 (c.sm.dn ((c.sm).fnd F) i).2).e, .bool (((c.sm).fnd F).getD i false), .bool (c.sm.best F (c.sm.n - i) i (c.sm.dn ((c.sm).fnd F) i).1 (c.sm.dn ((c.sm).fnd F) i).2).f] from by unfold chC; rw [CrT.fnd_at (by omega)]] at h8
    exact h8) (by kernel_rfl) ?_
   rintro e W12 ⟨rfl, ⟨n8, g8, hm8, hgd8, hn8⟩, hk8⟩
   have hcb := cntB_le (c.sm.n - i) (by omega)
   replace HB := HB.trans (hk8.toBelow HB.size (fun i hi e => by omega))
   replace HK := HK.trans hk8 (fun i hi e => by omega)
   replace hA9 := hA9.keep hk8 (fun i hi e => by have h8 := hbA i hi; omega)
   replace NT := NT.keep hk8 (fun e => by omega)
   replace hm := hm8
   replace Q7 := Q7.keep hk8 (fun e => by omega)
   replace Q8 := Q8.keep hk8 (fun e => by omega)
   replace Q9 := Q9.keep hk8 (fun e => by omega)
   have zkW12 := hk8.size
   clear hk8 hFW
   refine ⟨_, rfl, ?_⟩
   refine Zv rfl (.bool (((c.sm).fnd F).getD i false)) ?_
   refine Zw rfl (.pointer (some ⟨bR, (i * 1), none⟩)) (ex_index rfl bR 0 c.n cR i 1 (i * 1) (by kernel_rfl) (by kernel_rfl) Tryd.underlying31 (by kernel_rfl) (by omega) (by omega)) ?_
   have hcl : (boA ((c.sm.mix F R i)))[i * 1]? = some (.bool (((c.sm.mix F R i)).getD i false)) := by
    have h8 := boRow.at_ false ((c.sm.mix F R i)) i 0 (by rw [CrT.mix_len (by omega) (by omega)]; omega) (by decide)
    unfold boA
    rw [List.getElem?_toArray]
    exact h8
   refine sx_do (by kernel_rfl) rfl (W12.setCells bR (i * 1) [.bool (((c.sm).fnd F).getD i false)]) (ex_storeC (k := i * 1) (old := .bool (((c.sm.mix F R i)).getD i false)) (v := .bool (((c.sm).fnd F).getD i false)) rfl NT hcl (by kernel_rfl) (by kernel_rfl) (by kernel_rfl) (by kernel_rfl)) ?_
   obtain ⟨W13, hW⟩ : ∃ W, W12.setCells bR (i * 1) [.bool (((c.sm).fnd F).getD i false)] = W := ⟨_, rfl⟩
   have hg : W12.grownBy W13 (some bR) := hW ▸ grown_sets _ _ _ _
   have hq : Cb W13 bR (boA (c.sm.mix F R (i + 1))) 4 := by
    unfold boA
    rw [← CrT.mix_set (by omega) (by omega), ← setN_flat boRow (((c.sm).fnd F).getD i false) _ i (by rw [CrT.mix_len (by omega) (by omega)]; omega), ← hW]
    exact Cb.setsN [.bool (((c.sm).fnd F).getD i false)] W12 (i * 1) _ NT
   rw [hW]
   replace HB := HB.grown hg (by omega) (fun x e => by simp only [Option.some.injEq] at e; omega)
   replace HK := HK.grown hg (fun i hi e => by simp only [Option.some.injEq] at e; omega)
   replace hA9 := hA9.kept hg (fun i hi => by have h8 := hbA i hi; omega)
   replace hm := hm.kept hg (by omega)
   replace Q7 := Q7.kept hg (by omega)
   replace Q8 := Q8.kept hg (by omega)
   replace Q9 := Q9.kept hg (by omega)
   have z7 := hg.size
   replace NT := hq
   have hRw := boA_row NT
   rw [CrT.mix_len (by omega) (by omega)] at hRw
   clear hq hg hW
   refine wpList_nil (sx_norm ?_)
   obtain ⟨Y14, hW⟩ : ∃ W, W13.drew = W := ⟨_, rfl⟩
   have hb : Below W13.heap.size W13 Y14 := hW ▸ below_drew (Below.refl _ _)
   replace HB := over HB hb
   replace HK := HK.below hb
   replace hA9 := hA9.below hb
   replace NT := NT.below hb
   replace hm := hm.below hb
   replace Q7 := Q7.below hb
   replace Q8 := Q8.below hb
   replace Q9 := Q9.below hb
   replace hRw := hRw.below hb
   have z8 := hb.size
   clear hb
   refine sd_begin (fun W => Cb W (w.heap.size) #[.slice K.o0 c.pl.length K.c0, .slice o9 c.few.length c9, .string c.ty.name, .int .i64 c.ty.count, .int .i64 c.ty.fr, .int .i64 c.ty.to, .slice K.va c.ty.cap.length K.vb, .int .i64 c.ty.skills, .int .i64 c.ty.prof, .int .i64 c.ty.opn, .int .i64 c.ty.cls, .int .i64 c.ty.drv, .int .i64 c.ty.rst, .int .i64 c.ty.fix, .int .i64 c.ty.pm, .int .i64 c.ty.pt, .int .i64 c.rd, .slice K.o2 c.S.length K.c2] 116 ∧ Cb W (W5.heap.size) #[.pointer (some ⟨w.heap.size, 0, none⟩), .slice (some ⟨bR, 0, none⟩) F.length cR, (.map (some mb))] 122 ∧ Rw W bR 0 1 (bF (c.sm.mix F R (i + 1))) c.n (some ⟨bR, 0, none⟩) ∧ True) (by kernel_rfl) (by rw [hW]; exact ⟨Q7, Q8, hRw, trivial⟩) ?_
   rw [hW]
   clear hW
   refine Zu 1 rfl rfl (.slice (some ⟨bR, 0, none⟩) c.n cR) ⟨Q7, Q8, hRw, trivial⟩ ?_
   refine Zu 2 rfl rfl (.int .i64 ((i : Nat) : Int)) ⟨Q7, Q8, hRw, trivial⟩ ?_
   refine Zt 3 rfl rfl (.pointer (some ⟨bR, 0 + i * 1, none⟩)) (fun w9 h9 => ex_indexO (q := 0) (m := c.n) (c := cR) (k := i) (s := 1) rfl (by kernel_rfl) (h9.2.2.1.oa (k := i) (by omega)) (by kernel_rfl) Tryd.underlying31 (by kernel_rfl) (by omega) (by omega)) ⟨Q7, Q8, hRw, trivial⟩ ?_
   refine Zt 4 rfl rfl (.bool ((c.sm.mix F R (i + 1)).getD i false)) (fun w9 h9 => el (h9.2.2.1.cell (k := i) (by omega) 0 rfl) Tryd.underlying4) ⟨Q7, Q8, hRw, trivial⟩ ?_
   refine sd_all [0] (by kernel_rfl) (by decide) ?_
   refine sd_mem (i := 0) rfl (by kernel_rfl) rfl rfl (.agg #[.int .i64 ((i : Nat) : Int), .int .i64 ((c.sm.dn ((c.sm).fnd F) i).1), .int .i64 ((c.sm.dn ((c.sm).fnd F) i).2)]) Y14 (ex_load rfl Q9 (by kernel_rfl) Tryd.underlying124 rfl (by kernel_rfl)) ⟨Q7, Q8, hRw, trivial⟩ ?_ AllReadyH.nil
   refine sd_all [5] (by kernel_rfl) (by decide) ?_
   have hrn := (CrT.fnd_p hp9 (i := i) (by omega)).1
   have hdb := CrT.dn_bd hsm (R := ((c.sm).fnd F)) i (by omega) hrn
   have hFW : FW v0 c K (w.heap.size) (W5.heap.size) mb bR bA oA X o9 c9 F (c.sm.mix F R (i + 1)) cR Y14 := ⟨HB, Q7, hA9, NT, Q8⟩
   have eL : c.sm.legA i (c.sm.dn ((c.sm).fnd F) i).1 (c.sm.dn ((c.sm).fnd F) i).2 ((c.sm.mix F R (i + 1)).getD i false) = (c.sm.lg ((c.sm).fnd F) i) := by rw [mix_at (by omega)]; exact if_pos (CrT.fnd_er hp9 (by omega))
   refine sd_call (i := 5) rfl (by kernel_rfl) rfl rfl ((by have h8 := fnext_n c.sm hsm (K.sm o9 c9) (w.heap.size) (W5.heap.size) mb F (some ⟨bR, 0, none⟩) cR bR 0 Y14 (hFW.fst hK0 hX hP (CrT.mix_fix hp9 (by omega) (by omega) hRF) (by omega) (by omega)) i (by omega) (c.sm.dn ((c.sm).fnd F) i).1 (c.sm.dn ((c.sm).fnd F) i).2 ⟨hdb.1, hdb.2.1⟩ ⟨hdb.2.2.1, hdb.2.2.2⟩ ((c.sm.mix F R (i + 1)).getD i false); rw [eL] at h8; exact h8)) (by kernel_rfl) ?_ AllReadyH.nil
   rintro e W15 ⟨rfl, hb⟩
   replace HB := over HB hb
   replace HK := HK.below hb
   replace hA9 := hA9.below hb
   replace NT := NT.below hb
   replace hm := hm.below hb
   replace Q7 := Q7.below hb
   replace Q8 := Q8.below hb
   replace Q9 := Q9.below hb
   replace hRw := hRw.below hb
   have z9 := hb.size
   clear hb
   refine ⟨_, rfl, ⟨Q7, Q8, hRw, trivial⟩, ?_⟩
   refine Zu 6 rfl rfl (.tuple #[.agg #[.int .i64 ((i + 1 : Nat) : Int), .int .i64 ((c.sm.dn ((c.sm).fnd F) (i + 1)).1), .int .i64 ((c.sm.dn ((c.sm).fnd F) (i + 1)).2)], .bool (decide (c.sm.err i (c.sm.dn ((c.sm).fnd F) i).1 (c.sm.dn ((c.sm).fnd F) i).2 ((c.sm.mix F R (i + 1)).getD i false) = 0))]) ⟨Q7, Q8, hRw, trivial⟩ ?_
   refine Zu 7 rfl rfl (.agg #[.int .i64 ((i + 1 : Nat) : Int), .int .i64 ((c.sm.dn ((c.sm).fnd F) (i + 1)).1), .int .i64 ((c.sm.dn ((c.sm).fnd F) (i + 1)).2)]) ⟨Q7, Q8, hRw, trivial⟩ ?_
   refine Zu 8 rfl rfl (.bool (decide (c.sm.err i (c.sm.dn ((c.sm).fnd F) i).1 (c.sm.dn ((c.sm).fnd F) i).2 ((c.sm.mix F R (i + 1)).getD i false) = 0))) ⟨Q7, Q8, hRw, trivial⟩ ?_
   refine sd_all [9] (by kernel_rfl) (by decide) ?_
   refine sd_do (i := 9) rfl (by kernel_rfl) rfl (W15.setRow (W7.heap.size) #[.int .i64 ((i + 1 : Nat) : Int), .int .i64 ((c.sm.dn ((c.sm).fnd F) (i + 1)).1), .int .i64 ((c.sm.dn ((c.sm).fnd F) (i + 1)).2)]) (ex_store (cells := #[.int .i64 ((i + 1 : Nat) : Int), .int .i64 ((c.sm.dn ((c.sm).fnd F) (i + 1)).1), .int .i64 ((c.sm.dn ((c.sm).fnd F) (i + 1)).2)]) rfl Q9 (by kernel_rfl) (by kernel_rfl) (by kernel_rfl) (by kernel_rfl) (by kernel_rfl)) ⟨(Q7.kept (grown_row _ _ _) (by omega)), (Q8.kept (grown_row _ _ _) (by omega)), (hRw.kept (grown_row _ _ _) (fun _ _ => by omega)), trivial⟩ ?_ AllReadyH.nil
   obtain ⟨W16, hW⟩ : ∃ W, W15.setRow (W7.heap.size) #[.int .i64 ((i + 1 : Nat) : Int), .int .i64 ((c.sm.dn ((c.sm).fnd F) (i + 1)).1), .int .i64 ((c.sm.dn ((c.sm).fnd F) (i + 1)).2)] = W := ⟨_, rfl⟩
   have hg : W15.grownBy W16 (some (W7.heap.size)) := hW ▸ grown_row _ _ _
   have hq : Cb W16 (W7.heap.size) #[.int .i64 ((i + 1 : Nat) : Int), .int .i64 ((c.sm.dn ((c.sm).fnd F) (i + 1)).1), .int .i64 ((c.sm.dn ((c.sm).fnd F) (i + 1)).2)] 124 := hW ▸ Cb.row Q9 _
   rw [hW]
   replace HB := HB.grown hg (by omega) (fun x e => by simp only [Option.some.injEq] at e; omega)
   replace HK := HK.grown hg (fun i hi e => by simp only [Option.some.injEq] at e; omega)
   replace hA9 := hA9.kept hg (fun i hi => by have h8 := hbA i hi; omega)
   replace NT := NT.kept hg (by omega)
   replace hm := hm.kept hg (by omega)
   replace Q7 := Q7.kept hg (by omega)
   replace Q8 := Q8.kept hg (by omega)
   replace hRw := hRw.kept hg (fun _ _ => by omega)
   have z10 := hg.size
   replace Q9 := hq
   clear hq hg hW
   refine sd_done (by kernel_rfl) ?_
   refine sx_in ?_
   refine sx_norm (wp_region_lit ?_)
   refine sx_int (by kernel_rfl) rfl rfl .i64 (IntKind.i64.wrap (((i : Nat) : Int) + 1)) (((i + 1 : Nat) : Int)) (by kernel_rfl) (by rw [IntKind.wrap_i64]; omega) ?_
   refine Zv rfl (.int .i64 ((i + 1 : Nat) : Int)) ?_
   refine wpList_nil (sx_norm ?_)
   exact sx_again (c.n - (i + 1)) (i + 1, n8, g8) (by omega) (by kernel_rfl) ⟨by show i + 1 ≤ _; omega, Nat.le_refl _, HB, HK, Q7, Q8, Q9, hA9, NT, hm, hgd8, by show n8 ≤ (i + 1 + 1) * 4194304; omega, by show _ ≤ _; omega⟩
  refine Zb rfl (decide (((i : Nat) : Int) < ((c.n : Nat) : Int))) false (decide_eq_false (by omega)) ?_
  refine wpList_nil (sx_norm (wp_seq ?_))
  refine sx_false (by kernel_rfl) ?_
  refine wp_exit ?_
  refine sx_es ?_
  refine sx_es ?_
  refine sx_out ?_
  refine sx_norm (wp_seq (wp_region_lit ?_))
  refine Zv rfl (.bool true) ?_
  refine wpList_nil (sx_norm (wp_ret ?_))
  have hi9 : i = c.n := by omega
  subst hi9
  have hM9 : c.sm.mix F R c.n = c.fnd F := (CrT.mix_all (by omega)).trans (fnd_sm c F)
  rw [hM9] at NT
  refine sx_ret1 (.bool true) rfl rfl (by kernel_rfl) ⟨.inl ⟨by have h8 := hp9; rw [CrT.best_sm (c := c) F c.sm.n 0 (by omega)] at h8; exact h8, rfl, NT⟩, HK⟩
 have hFW : FW v0 c K (w.heap.size) (W5.heap.size) mb bR bA oA X o9 c9 F R cR W9 := ⟨HB, M1, hA9, NT, M6⟩
 refine sx_call (by kernel_rfl) rfl rfl (by
  have h8 := best_n c.sm hsm (K.sm o9 c9) (w.heap.size) (W5.heap.size) mb F (some ⟨bR, 0, none⟩) cR bR 0 (by omega) (c.sm.n - 0) 0 (c.sm.dn ((c.sm).fnd F) 0).1 (c.sm.dn ((c.sm).fnd F) 0).2 0 (fun _ _ _ => none) W9 (by omega) ⟨hdb.1, hdb.2.1⟩ ⟨hdb.2.2.1, hdb.2.2.2⟩ (fun W h => (hFW.keep h (by omega) (by omega) (fun i hi e => by have h8 := hbA i hi; omega) (by omega) (by omega)).fst hK0 hX hP hRF (by omega) (by omega)) hm (fun k f t ch h _ => by cases h) (by have := cntB_le (c.sm.n - 0) (by omega); omega) (by omega)
  rw [show chC (c.sm.best F (c.sm.n - 0) 0 (c.sm.dn ((c.sm).fnd F) 0).1 (c.sm.dn ((c.sm).fnd F) 0).2) = #[.bool false, .int .i64 (c.sm.best F c.sm.n 0 c.sm.rd 0).e, .bool (c.sm.best F c.sm.n 0 c.sm.rd 0).r, .bool (c.sm.best F c.sm.n 0 c.sm.rd 0).f] from by show chC (c.sm.best F c.sm.n 0 c.sm.rd 0) = _; unfold chC; rw [show (c.sm.best F c.sm.n 0 c.sm.rd 0).p = false by simpa using C1]] at h8
  exact h8) (by kernel_rfl) ?_
 rintro e W17 ⟨rfl, ⟨n8, g8, hm8, hgd8, hn8⟩, hk8⟩
 have hcb := cntB_le (c.sm.n - 0) (by omega)
 replace hB := hB.keep hk8 (fun e => by omega)
 replace HB := HB.trans (hk8.toBelow HB.size (fun i hi e => by omega))
 replace HK := HK.trans hk8 (fun i hi e => by omega)
 replace NT := NT.keep hk8 (fun e => by omega)
 replace M1 := M1.keep hk8 (fun e => by omega)
 replace hA9 := hA9.keep hk8 (fun i hi e => by have h8 := hbA i hi; omega)
 replace hm := hm8
 replace M6 := M6.keep hk8 (fun e => by omega)
 replace M8 := M8.keep hk8 (fun e => by omega)
 have zkW17 := hk8.size
 clear hk8 hFW
 refine ⟨_, rfl, ?_⟩
 refine Zv rfl (.bool false) ?_
 refine Zv rfl (.bool true) ?_
 refine wpList_nil (sx_norm ?_)
 refine sx_true (by kernel_rfl) ?_
 refine wp_seq (wp_region_lit ?_)
 refine Zv rfl (.bool false) ?_
 refine wpList_nil (sx_norm (wp_ret (sx_rs ?_)))
 refine sx_ret1 (.bool false) rfl rfl (by kernel_rfl) ⟨.inr ⟨by have h8 := C1; rw [CrT.best_sm (c := c) F c.sm.n 0 (by omega)] at h8; exact Bool.eq_false_iff.2 h8, rfl, NT⟩, HK⟩

end Go.Proofs.YtomebalolmabnaaDoor.T



