/-
  DERIVED. Dh: a part of the base of layer 13 (made by pack.py).
-/
import Derived.Test.YtomebalolmabnaaDoorGA
import Derived.Test.YtomebalolmabnaaDoorGE
/-! The walk of drive: what is best at a halt (by gen_dh.py). -/
namespace Go.Proofs.YtomebalolmabnaaDoor.T
open Go.RowKit
set_option maxRecDepth 8000
attribute [local irreducible] wpList Code.wp wpAnyH

def chC (c : ChT) : Array Value := #[.bool c.p, .int .i64 c.e, .bool c.r, .bool c.f]
def foldB (st : ChT → Bool → ChT) : List Bool → ChT → ChT
 | [], b => b
 | r :: rs, b => if (st b r).f = true then st b r else foldB st rs (st b r)
def stB (c : CrT) (nx : Int → Int → ChT) (k : Nat) (don sin : Int) (b : ChT) (r : Bool) : ChT :=
 if c.err k don sin r = 0 then
  (if (nx (c.leg k don sin r).don (c.leg k don sin r).sin).p = true ∧ (b.p = false ∨ (nx (c.leg k don sin r).don (c.leg k don sin r).sin).e < b.e) then ⟨true, (nx (c.leg k don sin r).don (c.leg k don sin r).sin).e, r, (nx (c.leg k don sin r).don (c.leg k don sin r).sin).f && !r⟩ else b)
 else b
def CrT.best (c : CrT) (F : List Bool) : Nat → Nat → Int → Int → ChT
 | 0, _, don, _ => ⟨true, don, false, true⟩
 | m + 1, k, don, sin => foldB (stB c (best c F m (k + 1)) k don sin) (CrT.opts F k) ch0
theorem CrT.best_succ (c : CrT) (F : List Bool) (m k : Nat) (don sin : Int) : c.best F (m + 1) k don sin = foldB (stB c (c.best F m (k + 1)) k don sin) (CrT.opts F k) ch0 := rfl
theorem opts_len (F : List Bool) (k : Nat) : (CrT.opts F k).length ≤ 2 := by unfold CrT.opts; split <;> simp
theorem foldB_go {st : ChT → Bool → ChT} {O : List Bool} {i : Nat} (hi : i < O.length) {b : ChT} (h : ¬ (st b (O.getD i false)).f = true) : foldB st (O.drop i) b = foldB st (O.drop (i + 1)) (st b (O.getD i false)) := by
 rw [drop_more (d := false) hi]
 show (if _ then _ else _) = _
 rw [if_neg h]
theorem foldB_stop {st : ChT → Bool → ChT} {O : List Bool} {i : Nat} (hi : i < O.length) {b : ChT} (h : (st b (O.getD i false)).f = true) : foldB st (O.drop i) b = st b (O.getD i false) := by
 rw [drop_more (d := false) hi]
 show (if _ then _ else _) = _
 rw [if_pos h]
theorem foldB_end {st : ChT → Bool → ChT} {O : List Bool} {i : Nat} (hi : O.length ≤ i) (b : ChT) : foldB st (O.drop i) b = b := by
 rw [List.drop_of_length_le hi]
 rfl
def cntB : Nat → Nat
 | 0 => 0
 | m + 1 => 2 * cntB m + 1
theorem cntB_le : ∀ m, m ≤ 22 → cntB m ≤ 4194304 := by
 intro m hm
 have : ∀ k, k < 23 → cntB k ≤ 4194304 := by decide +kernel
 exact this m (by omega)
def GoodH (c : CrT) (F : List Bool) (g : HaltF) : Prop := ∀ (k : Nat) (f t : Int) (ch : ChT), g (k : Int) f t = some ch → k ≤ c.n → ch = c.best F (c.n - k) k f t
theorem GoodH.put {c : CrT} {F : List Bool} {g : HaltF} (h : GoodH c F g) {k : Nat} {f t : Int} : GoodH c F (putH g (k : Int) f t (c.best F (c.n - k) k f t)) := by
 intro k' f' t' ch he hk
 unfold putH at he
 split at he
 ·rename_i h9
  obtain ⟨h1, rfl, rfl⟩ := h9
  have : k' = k := by omega
  subst this
  simp only [Option.some.injEq] at he
  exact he.symm
 ·exact h k' f' t' ch he hk
theorem best_n (c : CrT) (hc : c.Ok) (K : CV) (q qf mb : Nat) (F : List Bool) (oF : Option Addr) (cF b9 q9 : Nat) (hqm : qf ≠ mb) : ∀ (m k : Nat) (don sin : Int) (n : Nat) (g : HaltF) (w : World), k + m = c.n → (0 ≤ don ∧ don ≤ 8192) → (0 ≤ sin ∧ sin ≤ 4096) → (∀ W, Keep (fun i => i = mb) w W → Fst W c K q qf mb F oF cF b9 q9) → Hm w mb n g → GoodH c F g → n + cntB m ≤ 1000000000 → mb < w.heap.size → Calls Tryd.prog 51 #[.pointer (some ⟨qf, 0, none⟩), .agg #[.int .i64 ((k : Nat) : Int), .int .i64 don, .int .i64 sin]] w fun e w' => e = .returned (.agg (chC (c.best F m k don sin))) ∧ (∃ n' g', Hm w' mb n' g' ∧ GoodH c F g' ∧ n' ≤ n + cntB m) ∧ Keep (fun i => i = mb) w w' := by
 intro m
 induction m with
 | zero =>
  intro k don sin n g w hkm hd hs hst hm hgd hn0 hmb
  have HB : Keep (fun z9 => z9 = mb) w w := Keep.refl _ _
  have hF := hst w (Keep.refl _ _)
  have hFb := hF.blk
  have yhFb := hFb.lt
  have hln := hc.len
  have hcn : c.n ≤ 21 := by unfold CrT.n; omega
  refine sx_enter Tryd.func51 rfl [(0, .pointer (some ⟨qf, 0, none⟩)), (1, .agg #[.int .i64 ((k : Nat) : Int), .int .i64 don, .int .i64 sin])] (by kernel_rfl) ?_
  refine wp_seq (wp_region_lit ?_)
  obtain ⟨W1, hW, hb, hq⟩ := laidA w #[.int .i64 ((k : Nat) : Int), .int .i64 don, .int .i64 sin] 124
  refine sx_mem (by kernel_rfl) rfl rfl (.pointer (some ⟨w.heap.size, 0, none⟩)) W1 (by rw [← hW]; kernel_rfl) ?_
  replace HB := HB.below hb
  replace hFb := hFb.below hb
  replace hm := hm.below hb
  have z1 := hb.size
  have M2 := hq
  have yM2 := hq.lt
  clear hq hb hW
  obtain ⟨W3, hW, hb, hq⟩ := laidA W1 #[.bool false, .int .i64 0, .bool false, .bool false] 126
  refine sx_mem (by kernel_rfl) rfl rfl (.pointer (some ⟨W1.heap.size, 0, none⟩)) W3 (by rw [← hW]; kernel_rfl) ?_
  replace HB := HB.below hb
  replace hFb := hFb.below hb
  replace hm := hm.below hb
  replace M2 := M2.below hb
  have z2 := hb.size
  have M4 := hq
  have yM4 := hq.lt
  clear hq hb hW
  refine wpList_nil (sx_norm (wp_seq (wp_seq ?_)))
  obtain ⟨Y5, hW⟩ : ∃ W, W3.drew = W := ⟨_, rfl⟩
  have hb : Below W3.heap.size W3 Y5 := hW ▸ below_drew (Below.refl _ _)
  replace HB := HB.below hb
  replace hFb := hFb.below hb
  replace hm := hm.below hb
  replace M2 := M2.below hb
  replace M4 := M4.below hb
  have z3 := hb.size
  clear hb
  refine sd_begin (fun W => Cb W (qf) #[.pointer (some ⟨q, 0, none⟩), .slice oF F.length cF, (.map (some mb))] 122 ∧ Cb W (w.heap.size) #[.int .i64 ((k : Nat) : Int), .int .i64 don, .int .i64 sin] 124 ∧ Cb W (W1.heap.size) #[.bool false, .int .i64 0, .bool false, .bool false] 126 ∧ True) (by kernel_rfl) (by rw [hW]; exact ⟨hFb, M2, M4, trivial⟩) ?_
  rw [hW]
  clear hW
  refine Zu 0 rfl rfl (.pointer (some ⟨w.heap.size, 0, none⟩)) ⟨hFb, M2, M4, trivial⟩ ?_
  refine Zt 1 rfl rfl (.int .i64 ((k : Nat) : Int)) (fun w9 h9 => el (h9.2.1.cell 0 rfl) Tryd.underlying3) ⟨hFb, M2, M4, trivial⟩ ?_
  refine Zu 2 rfl rfl (.pointer (some ⟨qf, 0, none⟩)) ⟨hFb, M2, M4, trivial⟩ ?_
  refine Zu 3 rfl rfl (.pointer (some ⟨qf, 0, none⟩)) ⟨hFb, M2, M4, trivial⟩ ?_
  refine Zu 4 rfl rfl (.pointer (some ⟨qf, 0, none⟩)) ⟨hFb, M2, M4, trivial⟩ ?_
  refine Zt 5 rfl rfl (.pointer (some ⟨q, 0, none⟩)) (fun w9 h9 => el (h9.1.cell 0 rfl) Tryd.underlying69) ⟨hFb, M2, M4, trivial⟩ ?_
  refine sd_all [6] (by kernel_rfl) (by decide) ?_
  refine sd_call (i := 6) rfl (by kernel_rfl) rfl rfl (ways_n c hc K q Y5 (hst _ HB).crw) (by kernel_rfl) ?_ AllReadyH.nil
  rintro e w9 ⟨rfl, rfl⟩
  refine ⟨_, rfl, ⟨hFb, M2, M4, trivial⟩, ?_⟩
  refine Zt 7 rfl rfl (.bool true) (fun w9 _ => ex_bool ((((k : Nat) : Int) : Int) == (((c.n : Nat) : Int) : Int)) true (by kernel_rfl) (beq_iff_eq.2 (by omega))) ⟨hFb, M2, M4, trivial⟩ ?_
  refine sd_done (by kernel_rfl) ?_
  refine sx_norm ?_
  refine sx_true (by kernel_rfl) ?_
  refine wp_seq (wp_region_lit ?_)
  refine Zv rfl (.pointer (some ⟨w.heap.size, 1, none⟩)) ?_
  refine Zw rfl (.int .i64 don) (el (M2.cell 1 rfl) Tryd.underlying3) ?_
  refine Zv rfl (.agg #[.bool true, .int .i64 don, .bool false, .bool true]) ?_
  refine Zr (cells := #[.bool true, .int .i64 don, .bool false, .bool true]) rfl rfl M4 (fun W6 hg hq => ?_)
  replace HB := HB.grown hg (fun i hi e => by simp only [Option.some.injEq] at e; omega)
  replace hFb := hFb.kept hg (by omega)
  replace hm := hm.kept hg (by omega)
  replace M2 := M2.kept hg (by omega)
  have z4 := hg.size
  replace M4 := hq
  clear hq hg
  refine wpList_nil (sx_norm (wp_ret (sx_rs ?_)))
  exact sx_retc M4 rfl rfl (by kernel_rfl) Tryd.underlying126 rfl (by kernel_rfl) ⟨rfl, ⟨n, g, hm, hgd, by omega⟩, HB⟩
 | succ m ih =>
  intro k don sin n g w hkm hd hs hst hm hgd hn0 hmb
  have hcb : cntB (m + 1) = 2 * cntB m + 1 := rfl
  have HB : Keep (fun z9 => z9 = mb) w w := Keep.refl _ _
  have hF := hst w (Keep.refl _ _)
  have hFb := hF.blk
  have yhFb := hFb.lt
  have hln := hc.len
  have hcn : c.n ≤ 21 := by unfold CrT.n; omega
  refine sx_enter Tryd.func51 rfl [(0, .pointer (some ⟨qf, 0, none⟩)), (1, .agg #[.int .i64 ((k : Nat) : Int), .int .i64 don, .int .i64 sin])] (by kernel_rfl) ?_
  refine wp_seq (wp_region_lit ?_)
  obtain ⟨W1, hW, hb, hq⟩ := laidA w #[.int .i64 ((k : Nat) : Int), .int .i64 don, .int .i64 sin] 124
  refine sx_mem (by kernel_rfl) rfl rfl (.pointer (some ⟨w.heap.size, 0, none⟩)) W1 (by rw [← hW]; kernel_rfl) ?_
  replace HB := HB.below hb
  replace hFb := hFb.below hb
  replace hm := hm.below hb
  have z1 := hb.size
  have M2 := hq
  have yM2 := hq.lt
  clear hq hb hW
  obtain ⟨W3, hW, hb, hq⟩ := laidA W1 #[.bool false, .int .i64 0, .bool false, .bool false] 126
  refine sx_mem (by kernel_rfl) rfl rfl (.pointer (some ⟨W1.heap.size, 0, none⟩)) W3 (by rw [← hW]; kernel_rfl) ?_
  replace HB := HB.below hb
  replace hFb := hFb.below hb
  replace hm := hm.below hb
  replace M2 := M2.below hb
  have z2 := hb.size
  have M4 := hq
  have yM4 := hq.lt
  clear hq hb hW
  refine wpList_nil (sx_norm (wp_seq (wp_seq ?_)))
  obtain ⟨Y5, hW⟩ : ∃ W, W3.drew = W := ⟨_, rfl⟩
  have hb : Below W3.heap.size W3 Y5 := hW ▸ below_drew (Below.refl _ _)
  replace HB := HB.below hb
  replace hFb := hFb.below hb
  replace hm := hm.below hb
  replace M2 := M2.below hb
  replace M4 := M4.below hb
  have z3 := hb.size
  clear hb
  refine sd_begin (fun W => Cb W (qf) #[.pointer (some ⟨q, 0, none⟩), .slice oF F.length cF, (.map (some mb))] 122 ∧ Cb W (w.heap.size) #[.int .i64 ((k : Nat) : Int), .int .i64 don, .int .i64 sin] 124 ∧ Cb W (W1.heap.size) #[.bool false, .int .i64 0, .bool false, .bool false] 126 ∧ True) (by kernel_rfl) (by rw [hW]; exact ⟨hFb, M2, M4, trivial⟩) ?_
  rw [hW]
  clear hW
  refine Zu 0 rfl rfl (.pointer (some ⟨w.heap.size, 0, none⟩)) ⟨hFb, M2, M4, trivial⟩ ?_
  refine Zt 1 rfl rfl (.int .i64 ((k : Nat) : Int)) (fun w9 h9 => el (h9.2.1.cell 0 rfl) Tryd.underlying3) ⟨hFb, M2, M4, trivial⟩ ?_
  refine Zu 2 rfl rfl (.pointer (some ⟨qf, 0, none⟩)) ⟨hFb, M2, M4, trivial⟩ ?_
  refine Zu 3 rfl rfl (.pointer (some ⟨qf, 0, none⟩)) ⟨hFb, M2, M4, trivial⟩ ?_
  refine Zu 4 rfl rfl (.pointer (some ⟨qf, 0, none⟩)) ⟨hFb, M2, M4, trivial⟩ ?_
  refine Zt 5 rfl rfl (.pointer (some ⟨q, 0, none⟩)) (fun w9 h9 => el (h9.1.cell 0 rfl) Tryd.underlying69) ⟨hFb, M2, M4, trivial⟩ ?_
  refine sd_all [6] (by kernel_rfl) (by decide) ?_
  refine sd_call (i := 6) rfl (by kernel_rfl) rfl rfl (ways_n c hc K q Y5 (hst _ HB).crw) (by kernel_rfl) ?_ AllReadyH.nil
  rintro e w9 ⟨rfl, rfl⟩
  refine ⟨_, rfl, ⟨hFb, M2, M4, trivial⟩, ?_⟩
  refine Zt 7 rfl rfl (.bool false) (fun w9 _ => ex_bool ((((k : Nat) : Int) : Int) == (((c.n : Nat) : Int) : Int)) false (by kernel_rfl) (beq_eq_false_iff_ne.2 (by omega))) ⟨hFb, M2, M4, trivial⟩ ?_
  refine sd_done (by kernel_rfl) ?_
  refine sx_norm ?_
  refine sx_false (by kernel_rfl) ?_
  refine wp_skip (sx_norm ?_)
  have hy3 : w.heap.size ≤ w.heap.size := by omega
  have hy4 : w.heap.size ≤ W1.heap.size := by omega
  refine sx_cut (fun q5 : Nat => [(0, .pointer (some ⟨qf, 0, none⟩)), (1, .agg #[.int .i64 ((k : Nat) : Int), .int .i64 don, .int .i64 sin]), (3, .pointer (some ⟨w.heap.size, 0, none⟩)), (4, .pointer (some ⟨W1.heap.size, 0, none⟩)), (5, .pointer (some ⟨q5, 0, none⟩)), (6, .bool (g ((k : Nat) : Int) don sin).isSome), (13, .pointer (some ⟨w.heap.size, 0, none⟩)), (14, .int .i64 ((k : Nat) : Int)), (15, .pointer (some ⟨qf, 0, none⟩)), (16, .pointer (some ⟨qf, 0, none⟩)), (17, .pointer (some ⟨qf, 0, none⟩)), (18, .pointer (some ⟨q, 0, none⟩)), (19, .int .i64 ((c.n : Nat) : Int)), (20, .bool false)]) (fun q5 wr => Cb wr q5 (chC ((g ((k : Nat) : Int) don sin).getD ch0)) 126 ∧ Cb wr (w.heap.size) #[.int .i64 ((k : Nat) : Int), .int .i64 don, .int .i64 sin] 124 ∧ Cb wr (W1.heap.size) #[.bool false, .int .i64 0, .bool false, .bool false] 126 ∧ Hm wr mb n g ∧ Keep (fun z9 => z9 = mb) w wr ∧ w.heap.size ≤ q5) ?_ ?_
  ·refine wp_seq ?_
   obtain ⟨Y7, hW⟩ : ∃ W, Y5.drew = W := ⟨_, rfl⟩
   have hb : Below Y5.heap.size Y5 Y7 := hW ▸ below_drew (Below.refl _ _)
   replace HB := HB.below hb
   replace hFb := hFb.below hb
   replace hm := hm.below hb
   replace M2 := M2.below hb
   replace M4 := M4.below hb
   have z4 := hb.size
   clear hb
   refine sd_begin (fun W => Cb W (qf) #[.pointer (some ⟨q, 0, none⟩), .slice oF F.length cF, (.map (some mb))] 122 ∧ Cb W (w.heap.size) #[.int .i64 ((k : Nat) : Int), .int .i64 don, .int .i64 sin] 124 ∧ Cb W (W1.heap.size) #[.bool false, .int .i64 0, .bool false, .bool false] 126 ∧ True) (by kernel_rfl) (by rw [hW]; exact ⟨hFb, M2, M4, trivial⟩) ?_
   rw [hW]
   clear hW
   refine Zu 0 rfl rfl (.pointer (some ⟨qf, 0, none⟩)) ⟨hFb, M2, M4, trivial⟩ ?_
   refine Zu 1 rfl rfl (.pointer (some ⟨qf, 0, none⟩)) ⟨hFb, M2, M4, trivial⟩ ?_
   refine Zu 2 rfl rfl (.pointer (some ⟨qf, 2, none⟩)) ⟨hFb, M2, M4, trivial⟩ ?_
   refine Zt 3 rfl rfl ((.map (some mb))) (fun w9 h9 => el (h9.1.cell 2 rfl) Tryd.underlying120) ⟨hFb, M2, M4, trivial⟩ ?_
   refine Zt 4 rfl rfl (.agg #[.int .i64 ((k : Nat) : Int), .int .i64 don, .int .i64 sin]) (fun w9 h9 => ex_load rfl h9.2.1 (by kernel_rfl) Tryd.underlying124 rfl (by kernel_rfl)) ⟨hFb, M2, M4, trivial⟩ ?_
   refine sd_all [5, 9] (by kernel_rfl) (by decide) ?_
   refine sd_mem (i := 5) rfl (by kernel_rfl) rfl rfl (.tuple #[.agg #[.bool ((g ((k : Nat) : Int) don sin).getD ch0).p, .int .i64 (((g ((k : Nat) : Int) don sin).getD ch0).e), .bool ((g ((k : Nat) : Int) don sin).getD ch0).r, .bool ((g ((k : Nat) : Int) don sin).getD ch0).f], .bool (g ((k : Nat) : Int) don sin).isSome]) Y7 (ex_lookup rfl (by kernel_rfl) (by kernel_rfl) (hm.look ⟨by omega, by omega⟩ ⟨by omega, by omega⟩ ⟨by omega, by omega⟩)) ⟨hFb, M2, M4, trivial⟩ ?_ ?_
   ·refine Zu 6 rfl rfl (.tuple #[.agg #[.bool ((g ((k : Nat) : Int) don sin).getD ch0).p, .int .i64 (((g ((k : Nat) : Int) don sin).getD ch0).e), .bool ((g ((k : Nat) : Int) don sin).getD ch0).r, .bool ((g ((k : Nat) : Int) don sin).getD ch0).f], .bool (g ((k : Nat) : Int) don sin).isSome]) ⟨hFb, M2, M4, trivial⟩ ?_
    refine Zu 7 rfl rfl (.agg #[.bool ((g ((k : Nat) : Int) don sin).getD ch0).p, .int .i64 (((g ((k : Nat) : Int) don sin).getD ch0).e), .bool ((g ((k : Nat) : Int) don sin).getD ch0).r, .bool ((g ((k : Nat) : Int) don sin).getD ch0).f]) ⟨hFb, M2, M4, trivial⟩ ?_
    refine Zu 8 rfl rfl (.bool (g ((k : Nat) : Int) don sin).isSome) ⟨hFb, M2, M4, trivial⟩ ?_
    refine sd_all [9] (by kernel_rfl) (by decide) ?_
    refine sd_mem (i := 9) rfl (by kernel_rfl) rfl rfl (.pointer (some ⟨Y7.heap.size, 0, none⟩)) (Y7.alloc (.cells #[.bool false, .int .i64 0, .bool false, .bool false] 126)) (by kernel_rfl) ⟨(hFb.below (below_alloc Y7 (.cells #[.bool false, .int .i64 0, .bool false, .bool false] 126))), (M2.below (below_alloc Y7 (.cells #[.bool false, .int .i64 0, .bool false, .bool false] 126))), (M4.below (below_alloc Y7 (.cells #[.bool false, .int .i64 0, .bool false, .bool false] 126))), trivial⟩ ?_ AllReadyH.nil
    obtain ⟨W8, hW, hb, hq⟩ := laidA Y7 #[.bool false, .int .i64 0, .bool false, .bool false] 126
    rw [hW]
    replace HB := HB.below hb
    replace hFb := hFb.below hb
    replace hm := hm.below hb
    replace M2 := M2.below hb
    replace M4 := M4.below hb
    have z5 := hb.size
    have M9 := hq
    have yM9 := hq.lt
    clear hq hb hW
    refine sd_all [10] (by kernel_rfl) (by decide) ?_
    refine sd_do (i := 10) rfl (by kernel_rfl) rfl (W8.setRow (Y7.heap.size) #[.bool ((g ((k : Nat) : Int) don sin).getD ch0).p, .int .i64 (((g ((k : Nat) : Int) don sin).getD ch0).e), .bool ((g ((k : Nat) : Int) don sin).getD ch0).r, .bool ((g ((k : Nat) : Int) don sin).getD ch0).f]) (ex_store (cells := #[.bool ((g ((k : Nat) : Int) don sin).getD ch0).p, .int .i64 (((g ((k : Nat) : Int) don sin).getD ch0).e), .bool ((g ((k : Nat) : Int) don sin).getD ch0).r, .bool ((g ((k : Nat) : Int) don sin).getD ch0).f]) rfl M9 (by kernel_rfl) (by kernel_rfl) (by kernel_rfl) (by kernel_rfl) (by kernel_rfl)) ⟨(hFb.kept (grown_row _ _ _) (by omega)), (M2.kept (grown_row _ _ _) (by omega)), (M4.kept (grown_row _ _ _) (by omega)), trivial⟩ ?_ AllReadyH.nil
    obtain ⟨W10, hW⟩ : ∃ W, W8.setRow (Y7.heap.size) #[.bool ((g ((k : Nat) : Int) don sin).getD ch0).p, .int .i64 (((g ((k : Nat) : Int) don sin).getD ch0).e), .bool ((g ((k : Nat) : Int) don sin).getD ch0).r, .bool ((g ((k : Nat) : Int) don sin).getD ch0).f] = W := ⟨_, rfl⟩
    have hg : W8.grownBy W10 (some (Y7.heap.size)) := hW ▸ grown_row _ _ _
    have hq : Cb W10 (Y7.heap.size) #[.bool ((g ((k : Nat) : Int) don sin).getD ch0).p, .int .i64 (((g ((k : Nat) : Int) don sin).getD ch0).e), .bool ((g ((k : Nat) : Int) don sin).getD ch0).r, .bool ((g ((k : Nat) : Int) don sin).getD ch0).f] 126 := hW ▸ Cb.row M9 _
    rw [hW]
    replace HB := HB.grown hg (fun i hi e => by simp only [Option.some.injEq] at e; omega)
    replace hFb := hFb.kept hg (by omega)
    replace hm := hm.kept hg (by omega)
    replace M2 := M2.kept hg (by omega)
    replace M4 := M4.kept hg (by omega)
    have z6 := hg.size
    replace M9 := hq
    clear hq hg hW
    refine Zu 11 rfl rfl (.bool (g ((k : Nat) : Int) don sin).isSome) ⟨hFb, M2, M4, trivial⟩ ?_
    refine sd_done (by kernel_rfl) ?_
    refine sx_norm (wp_seq (wp_region_lit ?_))
    by_cases C1 : (g ((k : Nat) : Int) don sin).isSome = true
    ·rw [C1]
     refine Zv rfl (.bool true) ?_
     refine wpList_nil (sx_norm ?_)
     refine sx_true (by kernel_rfl) ?_
     refine wp_seq (wp_region_lit ?_)
     refine Zw rfl (.agg #[.bool ((g ((k : Nat) : Int) don sin).getD ch0).p, .int .i64 (((g ((k : Nat) : Int) don sin).getD ch0).e), .bool ((g ((k : Nat) : Int) don sin).getD ch0).r, .bool ((g ((k : Nat) : Int) don sin).getD ch0).f]) (ex_load rfl M9 (by kernel_rfl) Tryd.underlying126 rfl (by kernel_rfl)) ?_
     refine Zr (cells := #[.bool ((g ((k : Nat) : Int) don sin).getD ch0).p, .int .i64 (((g ((k : Nat) : Int) don sin).getD ch0).e), .bool ((g ((k : Nat) : Int) don sin).getD ch0).r, .bool ((g ((k : Nat) : Int) don sin).getD ch0).f]) rfl rfl M4 (fun W11 hg hq => ?_)
     replace HB := HB.grown hg (fun i hi e => by simp only [Option.some.injEq] at e; omega)
     replace hFb := hFb.kept hg (by omega)
     replace hm := hm.kept hg (by omega)
     replace M2 := M2.kept hg (by omega)
     replace M9 := M9.kept hg (by omega)
     have z7 := hg.size
     replace M4 := hq
     clear hq hg
     refine wpList_nil (sx_norm (wp_ret (sx_rs ?_)))
     obtain ⟨ch, hch⟩ := Option.isSome_iff_exists.1 C1
     have eh := hgd k don sin ch hch (by omega)
     rw [show c.n - k = m + 1 by omega] at eh
     rw [hch] at M4
     simp only [Option.getD_some] at M4
     exact sx_retc M4 rfl rfl (by kernel_rfl) Tryd.underlying126 rfl (by kernel_rfl) ⟨by rw [← eh]; rfl, ⟨n, g, hm, hgd, by omega⟩, HB⟩
    rw [show (g ((k : Nat) : Int) don sin).isSome = false by simpa using C1]
    refine Zv rfl (.bool false) ?_
    refine wpList_nil (sx_norm ?_)
    refine sx_false (by kernel_rfl) ?_
    refine wp_skip (sx_norm ?_)
    exact ⟨Y7.heap.size, ⟨M9, M2, M4, hm, HB, by show w.heap.size ≤ Y7.heap.size; omega⟩, fr_less (by kernel_rfl)⟩
   refine sd_mem (i := 9) rfl (by kernel_rfl) rfl rfl (.pointer (some ⟨Y7.heap.size, 0, none⟩)) (Y7.alloc (.cells #[.bool false, .int .i64 0, .bool false, .bool false] 126)) (by kernel_rfl) ⟨(hFb.below (below_alloc Y7 (.cells #[.bool false, .int .i64 0, .bool false, .bool false] 126))), (M2.below (below_alloc Y7 (.cells #[.bool false, .int .i64 0, .bool false, .bool false] 126))), (M4.below (below_alloc Y7 (.cells #[.bool false, .int .i64 0, .bool false, .bool false] 126))), trivial⟩ ?_ AllReadyH.nil
   obtain ⟨W12, hW, hb, hq⟩ := laidA Y7 #[.bool false, .int .i64 0, .bool false, .bool false] 126
   rw [hW]
   replace HB := HB.below hb
   replace hFb := hFb.below hb
   replace hm := hm.below hb
   replace M2 := M2.below hb
   replace M4 := M4.below hb
   have z5 := hb.size
   have M13 := hq
   have yM13 := hq.lt
   clear hq hb hW
   refine sd_all [5] (by kernel_rfl) (by decide) ?_
   refine sd_mem (i := 5) rfl (by kernel_rfl) rfl rfl (.tuple #[.agg #[.bool ((g ((k : Nat) : Int) don sin).getD ch0).p, .int .i64 (((g ((k : Nat) : Int) don sin).getD ch0).e), .bool ((g ((k : Nat) : Int) don sin).getD ch0).r, .bool ((g ((k : Nat) : Int) don sin).getD ch0).f], .bool (g ((k : Nat) : Int) don sin).isSome]) W12 (ex_lookup rfl (by kernel_rfl) (by kernel_rfl) (hm.look ⟨by omega, by omega⟩ ⟨by omega, by omega⟩ ⟨by omega, by omega⟩)) ⟨hFb, M2, M4, trivial⟩ ?_ AllReadyH.nil
   refine Zu 6 rfl rfl (.tuple #[.agg #[.bool ((g ((k : Nat) : Int) don sin).getD ch0).p, .int .i64 (((g ((k : Nat) : Int) don sin).getD ch0).e), .bool ((g ((k : Nat) : Int) don sin).getD ch0).r, .bool ((g ((k : Nat) : Int) don sin).getD ch0).f], .bool (g ((k : Nat) : Int) don sin).isSome]) ⟨hFb, M2, M4, trivial⟩ ?_
   refine Zu 7 rfl rfl (.agg #[.bool ((g ((k : Nat) : Int) don sin).getD ch0).p, .int .i64 (((g ((k : Nat) : Int) don sin).getD ch0).e), .bool ((g ((k : Nat) : Int) don sin).getD ch0).r, .bool ((g ((k : Nat) : Int) don sin).getD ch0).f]) ⟨hFb, M2, M4, trivial⟩ ?_
   refine Zu 8 rfl rfl (.bool (g ((k : Nat) : Int) don sin).isSome) ⟨hFb, M2, M4, trivial⟩ ?_
   refine sd_all [10] (by kernel_rfl) (by decide) ?_
   refine sd_do (i := 10) rfl (by kernel_rfl) rfl (W12.setRow (Y7.heap.size) #[.bool ((g ((k : Nat) : Int) don sin).getD ch0).p, .int .i64 (((g ((k : Nat) : Int) don sin).getD ch0).e), .bool ((g ((k : Nat) : Int) don sin).getD ch0).r, .bool ((g ((k : Nat) : Int) don sin).getD ch0).f]) (ex_store (cells := #[.bool ((g ((k : Nat) : Int) don sin).getD ch0).p, .int .i64 (((g ((k : Nat) : Int) don sin).getD ch0).e), .bool ((g ((k : Nat) : Int) don sin).getD ch0).r, .bool ((g ((k : Nat) : Int) don sin).getD ch0).f]) rfl M13 (by kernel_rfl) (by kernel_rfl) (by kernel_rfl) (by kernel_rfl) (by kernel_rfl)) ⟨(hFb.kept (grown_row _ _ _) (by omega)), (M2.kept (grown_row _ _ _) (by omega)), (M4.kept (grown_row _ _ _) (by omega)), trivial⟩ ?_ AllReadyH.nil
   obtain ⟨W14, hW⟩ : ∃ W, W12.setRow (Y7.heap.size) #[.bool ((g ((k : Nat) : Int) don sin).getD ch0).p, .int .i64 (((g ((k : Nat) : Int) don sin).getD ch0).e), .bool ((g ((k : Nat) : Int) don sin).getD ch0).r, .bool ((g ((k : Nat) : Int) don sin).getD ch0).f] = W := ⟨_, rfl⟩
   have hg : W12.grownBy W14 (some (Y7.heap.size)) := hW ▸ grown_row _ _ _
   have hq : Cb W14 (Y7.heap.size) #[.bool ((g ((k : Nat) : Int) don sin).getD ch0).p, .int .i64 (((g ((k : Nat) : Int) don sin).getD ch0).e), .bool ((g ((k : Nat) : Int) don sin).getD ch0).r, .bool ((g ((k : Nat) : Int) don sin).getD ch0).f] 126 := hW ▸ Cb.row M13 _
   rw [hW]
   replace HB := HB.grown hg (fun i hi e => by simp only [Option.some.injEq] at e; omega)
   replace hFb := hFb.kept hg (by omega)
   replace hm := hm.kept hg (by omega)
   replace M2 := M2.kept hg (by omega)
   replace M4 := M4.kept hg (by omega)
   have z6 := hg.size
   replace M13 := hq
   clear hq hg hW
   refine Zu 11 rfl rfl (.bool (g ((k : Nat) : Int) don sin).isSome) ⟨hFb, M2, M4, trivial⟩ ?_
   refine sd_done (by kernel_rfl) ?_
   refine sx_norm (wp_seq (wp_region_lit ?_))
   by_cases C2 : (g ((k : Nat) : Int) don sin).isSome = true
   ·rw [C2]
    refine Zv rfl (.bool true) ?_
    refine wpList_nil (sx_norm ?_)
    refine sx_true (by kernel_rfl) ?_
    refine wp_seq (wp_region_lit ?_)
    refine Zw rfl (.agg #[.bool ((g ((k : Nat) : Int) don sin).getD ch0).p, .int .i64 (((g ((k : Nat) : Int) don sin).getD ch0).e), .bool ((g ((k : Nat) : Int) don sin).getD ch0).r, .bool ((g ((k : Nat) : Int) don sin).getD ch0).f]) (ex_load rfl M13 (by kernel_rfl) Tryd.underlying126 rfl (by kernel_rfl)) ?_
    refine Zr (cells := #[.bool ((g ((k : Nat) : Int) don sin).getD ch0).p, .int .i64 (((g ((k : Nat) : Int) don sin).getD ch0).e), .bool ((g ((k : Nat) : Int) don sin).getD ch0).r, .bool ((g ((k : Nat) : Int) don sin).getD ch0).f]) rfl rfl M4 (fun W15 hg hq => ?_)
    replace HB := HB.grown hg (fun i hi e => by simp only [Option.some.injEq] at e; omega)
    replace hFb := hFb.kept hg (by omega)
    replace hm := hm.kept hg (by omega)
    replace M2 := M2.kept hg (by omega)
    replace M13 := M13.kept hg (by omega)
    have z7 := hg.size
    replace M4 := hq
    clear hq hg
    refine wpList_nil (sx_norm (wp_ret (sx_rs ?_)))
    obtain ⟨ch, hch⟩ := Option.isSome_iff_exists.1 C2
    have eh := hgd k don sin ch hch (by omega)
    rw [show c.n - k = m + 1 by omega] at eh
    rw [hch] at M4
    simp only [Option.getD_some] at M4
    exact sx_retc M4 rfl rfl (by kernel_rfl) Tryd.underlying126 rfl (by kernel_rfl) ⟨by rw [← eh]; rfl, ⟨n, g, hm, hgd, by omega⟩, HB⟩
   rw [show (g ((k : Nat) : Int) don sin).isSome = false by simpa using C2]
   refine Zv rfl (.bool false) ?_
   refine wpList_nil (sx_norm ?_)
   refine sx_false (by kernel_rfl) ?_
   refine wp_skip (sx_norm ?_)
   exact ⟨Y7.heap.size, ⟨M13, M2, M4, hm, HB, by show w.heap.size ≤ Y7.heap.size; omega⟩, fr_less (by kernel_rfl)⟩
  rintro q5 g' wr6 ⟨Q5, Q3, Q4, hm, HB, hq5⟩
  have hFb := (hst _ HB).blk
  have yQ5 := Q5.lt
  have yQ3 := Q3.lt
  have yQ4 := Q4.lt
  have zw := HB.size
  refine wp_seq (wp_region_lit ?_)
  obtain ⟨W16, hW, hb, hq⟩ := laidA wr6 #[.bool false, .int .i64 0, .bool false, .bool false] 126
  refine sx_mem (by kernel_rfl) rfl rfl (.pointer (some ⟨wr6.heap.size, 0, none⟩)) W16 (by rw [← hW]; kernel_rfl) ?_
  replace HB := HB.below hb
  replace hm := hm.below hb
  replace hFb := hFb.below hb
  replace Q5 := Q5.below hb
  replace Q3 := Q3.below hb
  replace Q4 := Q4.below hb
  have z4 := hb.size
  have M17 := hq
  have yM17 := hq.lt
  clear hq hb hW
  refine wpList_nil (sx_norm (wp_seq (wp_seq (wp_region_lit ?_))))
  refine Zv rfl (.pointer (some ⟨qf, 0, none⟩)) ?_
  refine Zv rfl (.pointer (some ⟨w.heap.size, 0, none⟩)) ?_
  refine Zw rfl (.int .i64 ((k : Nat) : Int)) (el (Q3.cell 0 rfl) Tryd.underlying3) ?_
  refine sx_call (by kernel_rfl) rfl rfl (frests_n c K q qf mb F oF cF b9 q9 W16 (hst _ HB) (by have := HB.size; omega) k (by omega)) (by kernel_rfl) ?_
  rintro e W18 ⟨oO, cO, bO, qO, rfl, hO, hmO, hfr, hb⟩
  replace HB := HB.below hb
  replace hm := hm.below hb
  replace hFb := hFb.below hb
  replace Q5 := Q5.below hb
  replace Q3 := Q3.below hb
  replace Q4 := Q4.below hb
  replace M17 := M17.below hb
  have z5 := hb.size
  clear hb
  refine ⟨_, rfl, ?_⟩
  have hol := opts_len F k
  have hbO : ∀ i, i < (CrT.opts F k).length → bO < W18.heap.size := fun i hi => hO.lt hi
  refine Zv rfl (.int .i64 (((CrT.opts F k).length : Nat) : Int)) ?_
  refine Zv rfl (.int .i64 0) ?_
  refine wpList_nil (sx_norm (wp_block ?_))
  have hy7 : w.heap.size ≤ wr6.heap.size := by omega
  have hq7b : wr6.heap.size < W18.heap.size := by omega
  have hO7 : bO ≠ wr6.heap.size := by
   rcases hfr with ⟨h1, h2⟩ | h2
   ·have := hF.fx.lt h1; omega
   ·omega
  refine sx_loop (fun x9 : Nat × ChT × Nat × HaltF => [(0, .pointer (some ⟨qf, 0, none⟩)), (1, .agg #[.int .i64 ((k : Nat) : Int), .int .i64 don, .int .i64 sin]), (3, .pointer (some ⟨w.heap.size, 0, none⟩)), (4, .pointer (some ⟨W1.heap.size, 0, none⟩)), (5, .pointer (some ⟨q5, 0, none⟩)), (6, .bool (g ((k : Nat) : Int) don sin).isSome), (7, .pointer (some ⟨wr6.heap.size, 0, none⟩)), (13, .pointer (some ⟨w.heap.size, 0, none⟩)), (14, .int .i64 ((k : Nat) : Int)), (15, .pointer (some ⟨qf, 0, none⟩)), (16, .pointer (some ⟨qf, 0, none⟩)), (17, .pointer (some ⟨qf, 0, none⟩)), (18, .pointer (some ⟨q, 0, none⟩)), (19, .int .i64 ((c.n : Nat) : Int)), (20, .bool false), (35, .pointer (some ⟨qf, 0, none⟩)), (36, .pointer (some ⟨w.heap.size, 0, none⟩)), (37, .int .i64 ((k : Nat) : Int)), (38, .slice oO (CrT.opts F k).length cO), (39, .int .i64 (((CrT.opts F k).length : Nat) : Int)), (40, .int .i64 ((x9.1 : Nat) : Int))]) (fun gg x9 wr => x9.1 ≤ (CrT.opts F k).length ∧ (CrT.opts F k).length - x9.1 ≤ gg ∧ Cb wr (wr6.heap.size) (chC x9.2.1) 126 ∧ x9.2.1.f = false ∧ foldB (stB c (c.best F m (k + 1)) k don sin) (CrT.opts F k) ch0 = foldB (stB c (c.best F m (k + 1)) k don sin) ((CrT.opts F k).drop x9.1) x9.2.1 ∧ Hm wr mb x9.2.2.1 x9.2.2.2 ∧ GoodH c F x9.2.2.2 ∧ x9.2.2.1 ≤ n + x9.1 * cntB m ∧ Keep (fun z9 => z9 = mb) w wr ∧ Cb wr (w.heap.size) #[.int .i64 ((k : Nat) : Int), .int .i64 don, .int .i64 sin] 124 ∧ Cb wr (W1.heap.size) #[.bool false, .int .i64 0, .bool false, .bool false] 126 ∧ Rw wr bO qO 1 (bF (CrT.opts F k)) (CrT.opts F k).length oO ∧ W18.heap.size ≤ wr.heap.size) ((CrT.opts F k).length) ((0, ch0, n, g)) (by kernel_rfl) ⟨Nat.zero_le _, Nat.le_refl _, M17, rfl, rfl, hm, hgd, by show n ≤ n + 0 * cntB m; omega, HB, Q3, Q4, hO, Nat.le_refl _⟩ ?_
  rintro gg ⟨i, b, n9, g9⟩ g' wr19 ⟨hi, hg, Q7, hbf, hfo, hm, hgd, hn9, HB, Q3, Q4, hO, hzz⟩
  dsimp only at hi hg Q7 hbf hfo hm hgd hn9 HB Q3 Q4 hO hzz
  replace Q7 : Cb _ (wr6.heap.size) #[.bool b.p, .int .i64 b.e, .bool b.r, .bool b.f] 126 := Q7
  have hFb := (hst _ HB).blk
  have yQ7 := Q7.lt
  have yQ3 := Q3.lt
  have yQ4 := Q4.lt
  have hn92 : n9 ≤ n + 2 * cntB m := Nat.le_trans hn9 (Nat.add_le_add_left (Nat.mul_le_mul_right _ (by omega)) n)
  refine wp_seq (wp_region_lit ?_)
  by_cases C3 : i < (CrT.opts F k).length
  ·refine Zb rfl (decide (((i : Nat) : Int) < (((CrT.opts F k).length : Nat) : Int))) true (decide_eq_true (by omega)) ?_
   refine wpList_nil (sx_norm (wp_seq ?_))
   refine sx_true (by kernel_rfl) ?_
   refine wp_skip (sx_norm (wp_seq (wp_block (wp_seq (wp_region_lit ?_)))))
   refine Zw rfl (.pointer (some ⟨bO, qO + i * 1, none⟩)) (ex_indexO (q := qO) (m := (CrT.opts F k).length) (c := cO) (k := i) (s := 1) rfl (by kernel_rfl) (hO.oa (k := i) (by omega)) (by kernel_rfl) Tryd.underlying31 (by kernel_rfl) (by omega) (by omega)) ?_
   refine Zw rfl (.bool ((CrT.opts F k).getD i false)) (el (hO.cell (k := i) (by omega) 0 rfl) Tryd.underlying4) ?_
   refine Zv rfl (.bool ((CrT.opts F k).getD i false)) ?_
   refine wpList_nil (sx_norm (wp_seq (wp_region_lit ?_)))
   refine Zv rfl (.pointer (some ⟨qf, 0, none⟩)) ?_
   refine Zw rfl (.agg #[.int .i64 ((k : Nat) : Int), .int .i64 don, .int .i64 sin]) (ex_load rfl Q3 (by kernel_rfl) Tryd.underlying124 rfl (by kernel_rfl)) ?_
   refine Zv rfl (.bool ((CrT.opts F k).getD i false)) ?_
   by_cases C4 : c.err k don sin ((CrT.opts F k).getD i false) = 0
   ·have eL : (c.legA k don sin ((CrT.opts F k).getD i false)) = (c.leg k don sin ((CrT.opts F k).getD i false)) := if_pos C4
    refine sx_call (by kernel_rfl) rfl rfl ((by have h8 := fnext_n c hc K q qf mb F oF cF b9 q9 wr19 (hst _ HB) k (by omega) don sin hd hs ((CrT.opts F k).getD i false); rw [eL, decide_eq_true C4] at h8; exact h8)) (by kernel_rfl) ?_
    rintro e W20 ⟨rfl, hb⟩
    replace HB := HB.below hb
    replace hm := hm.below hb
    replace hFb := hFb.below hb
    replace Q7 := Q7.below hb
    replace Q3 := Q3.below hb
    replace Q4 := Q4.below hb
    replace hO := hO.below hb
    have z6 := hb.size
    clear hb
    refine ⟨_, rfl, ?_⟩
    refine Zv rfl (.tuple #[.agg #[.int .i64 ((k + 1 : Nat) : Int), .int .i64 ((c.leg k don sin ((CrT.opts F k).getD i false)).don), .int .i64 ((c.leg k don sin ((CrT.opts F k).getD i false)).sin)], .bool true]) ?_
    refine Zv rfl (.agg #[.int .i64 ((k + 1 : Nat) : Int), .int .i64 ((c.leg k don sin ((CrT.opts F k).getD i false)).don), .int .i64 ((c.leg k don sin ((CrT.opts F k).getD i false)).sin)]) ?_
    refine Zv rfl (.bool true) ?_
    obtain ⟨W22, hW⟩ : ∃ W, (W20.alloc (.cells #[.int .i64 0, .int .i64 0, .int .i64 0] 124)).setRow W20.heap.size #[.int .i64 ((k + 1 : Nat) : Int), .int .i64 ((c.leg k don sin ((CrT.opts F k).getD i false)).don), .int .i64 ((c.leg k don sin ((CrT.opts F k).getD i false)).sin)] = W := ⟨_, rfl⟩
    have hb := hW ▸ below_var W20 (.cells #[.int .i64 0, .int .i64 0, .int .i64 0] 124) #[.int .i64 ((k + 1 : Nat) : Int), .int .i64 ((c.leg k don sin ((CrT.opts F k).getD i false)).don), .int .i64 ((c.leg k don sin ((CrT.opts F k).getD i false)).sin)]
    have hq : Cb W22 W20.heap.size #[.int .i64 ((k + 1 : Nat) : Int), .int .i64 ((c.leg k don sin ((CrT.opts F k).getD i false)).don), .int .i64 ((c.leg k don sin ((CrT.opts F k).getD i false)).sin)] 124 := hW ▸ Cb.row (Cb.made W20 #[.int .i64 0, .int .i64 0, .int .i64 0] 124) _
    refine sx_mem (by kernel_rfl) rfl rfl (.pointer (some ⟨W20.heap.size, 0, none⟩)) (W20.alloc (.cells #[.int .i64 0, .int .i64 0, .int .i64 0] 124)) (by kernel_rfl) ?_
    refine Zs (cells := #[.int .i64 ((k + 1 : Nat) : Int), .int .i64 ((c.leg k don sin ((CrT.opts F k).getD i false)).don), .int .i64 ((c.leg k don sin ((CrT.opts F k).getD i false)).sin)]) rfl rfl (Cb.made W20 #[.int .i64 0, .int .i64 0, .int .i64 0] 124) ?_
    rw [hW]
    replace HB := HB.below hb
    replace hm := hm.below hb
    replace hFb := hFb.below hb
    replace Q7 := Q7.below hb
    replace Q3 := Q3.below hb
    replace Q4 := Q4.below hb
    replace hO := hO.below hb
    have z7 := hb.size
    have M21 := hq
    have yM21 := hq.lt
    clear hq hb hW
    refine Zv rfl (.bool true) ?_
    refine wpList_nil (sx_norm (wp_seq (wp_seq (wp_region_lit ?_))))
    refine Zv rfl (.bool true) ?_
    refine Zv rfl (.bool false) ?_
    refine wpList_nil (sx_norm ?_)
    refine sx_false (by kernel_rfl) ?_
    refine wp_skip (sx_norm (wp_seq (wp_seq (wp_region_lit ?_))))
    refine Zv rfl (.pointer (some ⟨qf, 0, none⟩)) ?_
    refine Zw rfl (.agg #[.int .i64 ((k + 1 : Nat) : Int), .int .i64 ((c.leg k don sin ((CrT.opts F k).getD i false)).don), .int .i64 ((c.leg k don sin ((CrT.opts F k).getD i false)).sin)]) (ex_load rfl M21 (by kernel_rfl) Tryd.underlying124 rfl (by kernel_rfl)) ?_
    have hlo := CrT.err_ok hc (show k < c.n by omega) hd hs (by assumption : c.err k don sin ((CrT.opts F k).getD i false) = 0)
    have hlb := hlo.2.2.2
    have hdr := hc.drv
    have hni : n9 ≤ n + cntB m := by have := Nat.mul_le_mul_right (cntB m) (show i ≤ 1 by omega); omega
    refine sx_call (by kernel_rfl) rfl rfl (ih (k + 1) (c.leg k don sin ((CrT.opts F k).getD i false)).don (c.leg k don sin ((CrT.opts F k).getD i false)).sin n9 g9 W22 (by omega) ⟨hlb.2.2.2.2.2.1, hlb.2.2.2.2.2.2.1⟩ ⟨hlb.2.1, by omega⟩ (fun W h => hst W (HB.trans h (fun _ _ e => e))) hm hgd (by omega) (by have := HB.size; omega)) (by kernel_rfl) ?_
    rintro e W23 ⟨rfl, ⟨n8, g8, hm8, hgd8, hn8⟩, hk8⟩
    replace HB := HB.trans hk8 (fun _ _ e => e)
    replace hm := hm8
    replace hFb := (hst _ HB).blk
    replace Q7 := Q7.keep hk8 (fun e => by omega)
    replace Q3 := Q3.keep hk8 (fun e => by omega)
    replace Q4 := Q4.keep hk8 (fun e => by omega)
    replace hO := hO.keep hk8 (fun i hi e => hmO e)
    replace M21 := M21.keep hk8 (fun e => by omega)
    have zkW23 := hk8.size
    clear hk8
    refine ⟨_, rfl, ?_⟩
    obtain ⟨W25, hW⟩ : ∃ W, (W23.alloc (.cells #[.bool false, .int .i64 0, .bool false, .bool false] 126)).setRow W23.heap.size #[.bool (c.best F m (k + 1) (c.leg k don sin ((CrT.opts F k).getD i false)).don (c.leg k don sin ((CrT.opts F k).getD i false)).sin).p, .int .i64 ((c.best F m (k + 1) (c.leg k don sin ((CrT.opts F k).getD i false)).don (c.leg k don sin ((CrT.opts F k).getD i false)).sin).e), .bool (c.best F m (k + 1) (c.leg k don sin ((CrT.opts F k).getD i false)).don (c.leg k don sin ((CrT.opts F k).getD i false)).sin).r, .bool (c.best F m (k + 1) (c.leg k don sin ((CrT.opts F k).getD i false)).don (c.leg k don sin ((CrT.opts F k).getD i false)).sin).f] = W := ⟨_, rfl⟩
    have hb := hW ▸ below_var W23 (.cells #[.bool false, .int .i64 0, .bool false, .bool false] 126) #[.bool (c.best F m (k + 1) (c.leg k don sin ((CrT.opts F k).getD i false)).don (c.leg k don sin ((CrT.opts F k).getD i false)).sin).p, .int .i64 ((c.best F m (k + 1) (c.leg k don sin ((CrT.opts F k).getD i false)).don (c.leg k don sin ((CrT.opts F k).getD i false)).sin).e), .bool (c.best F m (k + 1) (c.leg k don sin ((CrT.opts F k).getD i false)).don (c.leg k don sin ((CrT.opts F k).getD i false)).sin).r, .bool (c.best F m (k + 1) (c.leg k don sin ((CrT.opts F k).getD i false)).don (c.leg k don sin ((CrT.opts F k).getD i false)).sin).f]
    have hq : Cb W25 W23.heap.size #[.bool (c.best F m (k + 1) (c.leg k don sin ((CrT.opts F k).getD i false)).don (c.leg k don sin ((CrT.opts F k).getD i false)).sin).p, .int .i64 ((c.best F m (k + 1) (c.leg k don sin ((CrT.opts F k).getD i false)).don (c.leg k don sin ((CrT.opts F k).getD i false)).sin).e), .bool (c.best F m (k + 1) (c.leg k don sin ((CrT.opts F k).getD i false)).don (c.leg k don sin ((CrT.opts F k).getD i false)).sin).r, .bool (c.best F m (k + 1) (c.leg k don sin ((CrT.opts F k).getD i false)).don (c.leg k don sin ((CrT.opts F k).getD i false)).sin).f] 126 := hW ▸ Cb.row (Cb.made W23 #[.bool false, .int .i64 0, .bool false, .bool false] 126) _
    refine sx_mem (by kernel_rfl) rfl rfl (.pointer (some ⟨W23.heap.size, 0, none⟩)) (W23.alloc (.cells #[.bool false, .int .i64 0, .bool false, .bool false] 126)) (by kernel_rfl) ?_
    refine Zs (cells := #[.bool (c.best F m (k + 1) (c.leg k don sin ((CrT.opts F k).getD i false)).don (c.leg k don sin ((CrT.opts F k).getD i false)).sin).p, .int .i64 ((c.best F m (k + 1) (c.leg k don sin ((CrT.opts F k).getD i false)).don (c.leg k don sin ((CrT.opts F k).getD i false)).sin).e), .bool (c.best F m (k + 1) (c.leg k don sin ((CrT.opts F k).getD i false)).don (c.leg k don sin ((CrT.opts F k).getD i false)).sin).r, .bool (c.best F m (k + 1) (c.leg k don sin ((CrT.opts F k).getD i false)).don (c.leg k don sin ((CrT.opts F k).getD i false)).sin).f]) rfl rfl (Cb.made W23 #[.bool false, .int .i64 0, .bool false, .bool false] 126) ?_
    rw [hW]
    replace HB := HB.below hb
    replace hm := hm.below hb
    replace hFb := hFb.below hb
    replace Q7 := Q7.below hb
    replace Q3 := Q3.below hb
    replace Q4 := Q4.below hb
    replace hO := hO.below hb
    replace M21 := M21.below hb
    have z8 := hb.size
    have M24 := hq
    have yM24 := hq.lt
    clear hq hb hW
    refine wpList_nil (sx_norm (wp_seq (wp_region_lit ?_)))
    refine Zv rfl (.pointer (some ⟨W23.heap.size, 0, none⟩)) ?_
    by_cases C5 : (c.best F m (k + 1) (c.leg k don sin ((CrT.opts F k).getD i false)).don (c.leg k don sin ((CrT.opts F k).getD i false)).sin).p = true
    ·refine Zw rfl (.bool true) (ex_load1 (v := .bool true) rfl (by have h8 := M24.cell 0 rfl; rw [show (c.best F m (k + 1) (c.leg k don sin ((CrT.opts F k).getD i false)).don (c.leg k don sin ((CrT.opts F k).getD i false)).sin).p = true by simpa using C5] at h8; exact h8) (by kernel_rfl) Tryd.underlying4 rfl) ?_
     refine Zv rfl (.bool true) ?_
     refine Zv rfl (.pointer (some ⟨wr6.heap.size, 0, none⟩)) ?_
     by_cases C6 : b.p = true
     ·refine Zw rfl (.bool true) (ex_load1 (v := .bool true) rfl (by have h8 := Q7.cell 0 rfl; rw [show b.p = true by simpa using C6] at h8; exact h8) (by kernel_rfl) Tryd.underlying4 rfl) ?_
      refine Zv rfl (.bool false) ?_
      refine Zv rfl (.bool false) ?_
      refine Zv rfl (.pointer (some ⟨W23.heap.size, 1, none⟩)) ?_
      refine Zw rfl (.int .i64 ((c.best F m (k + 1) (c.leg k don sin ((CrT.opts F k).getD i false)).don (c.leg k don sin ((CrT.opts F k).getD i false)).sin).e)) (el (M24.cell 1 rfl) Tryd.underlying3) ?_
      refine Zv rfl (.pointer (some ⟨wr6.heap.size, 1, none⟩)) ?_
      refine Zw rfl (.int .i64 b.e) (el (Q7.cell 1 rfl) Tryd.underlying3) ?_
      by_cases C7 : (c.best F m (k + 1) (c.leg k don sin ((CrT.opts F k).getD i false)).don (c.leg k don sin ((CrT.opts F k).getD i false)).sin).e < b.e
      ·refine Zb rfl (decide ((c.best F m (k + 1) (c.leg k don sin ((CrT.opts F k).getD i false)).don (c.leg k don sin ((CrT.opts F k).getD i false)).sin).e < b.e)) true (decide_eq_true (by omega)) ?_
       refine Zv rfl (.bool true) ?_
       refine Zv rfl (.bool true) ?_
       refine wpList_nil (sx_norm ?_)
       refine sx_true (by kernel_rfl) ?_
       refine wp_region_lit ?_
       refine Zv rfl (.pointer (some ⟨W23.heap.size, 1, none⟩)) ?_
       refine Zw rfl (.int .i64 ((c.best F m (k + 1) (c.leg k don sin ((CrT.opts F k).getD i false)).don (c.leg k don sin ((CrT.opts F k).getD i false)).sin).e)) (el (M24.cell 1 rfl) Tryd.underlying3) ?_
       refine Zv rfl (.bool ((CrT.opts F k).getD i false)) ?_
       refine Zv rfl (.pointer (some ⟨W23.heap.size, 3, none⟩)) ?_
       by_cases C8 : (c.best F m (k + 1) (c.leg k don sin ((CrT.opts F k).getD i false)).don (c.leg k don sin ((CrT.opts F k).getD i false)).sin).f = true
       ·refine Zw rfl (.bool true) (ex_load1 (v := .bool true) rfl (by have h8 := M24.cell 3 rfl; rw [show (c.best F m (k + 1) (c.leg k don sin ((CrT.opts F k).getD i false)).don (c.leg k don sin ((CrT.opts F k).getD i false)).sin).f = true by simpa using C8] at h8; exact h8) (by kernel_rfl) Tryd.underlying4 rfl) ?_
        refine Zv rfl (.bool true) ?_
        refine Zv rfl (.bool ((CrT.opts F k).getD i false)) ?_
        refine Zv rfl (.bool (!((CrT.opts F k).getD i false))) ?_
        refine Zv rfl (.bool (!((CrT.opts F k).getD i false))) ?_
        refine Zv rfl (.agg #[.bool true, .int .i64 ((c.best F m (k + 1) (c.leg k don sin ((CrT.opts F k).getD i false)).don (c.leg k don sin ((CrT.opts F k).getD i false)).sin).e), .bool ((CrT.opts F k).getD i false), .bool (!((CrT.opts F k).getD i false))]) ?_
        refine Zr (cells := #[.bool true, .int .i64 ((c.best F m (k + 1) (c.leg k don sin ((CrT.opts F k).getD i false)).don (c.leg k don sin ((CrT.opts F k).getD i false)).sin).e), .bool ((CrT.opts F k).getD i false), .bool (!((CrT.opts F k).getD i false))]) rfl rfl Q7 (fun W26 hg hq => ?_)
        replace HB := HB.grown hg (fun i hi e => by simp only [Option.some.injEq] at e; omega)
        replace hm := hm.kept hg (by omega)
        replace hFb := hFb.kept hg (by omega)
        replace Q3 := Q3.kept hg (by omega)
        replace Q4 := Q4.kept hg (by omega)
        replace hO := hO.kept hg (fun i hi => hO7)
        replace M21 := M21.kept hg (by omega)
        replace M24 := M24.kept hg (by omega)
        have z9 := hg.size
        replace Q7 := hq
        clear hq hg
        refine wpList_nil (sx_norm (wp_seq ?_))
        have eS : (stB c (c.best F m (k + 1)) k don sin) b ((CrT.opts F k).getD i false) = (⟨true, (c.best F m (k + 1) (c.leg k don sin ((CrT.opts F k).getD i false)).don (c.leg k don sin ((CrT.opts F k).getD i false)).sin).e, ((CrT.opts F k).getD i false), (!((CrT.opts F k).getD i false))⟩ : ChT) := by
         unfold stB
         rw [if_pos (by assumption)]
         rw [if_pos ⟨by assumption, .inr (by assumption)⟩, show (c.best F m (k + 1) (c.leg k don sin ((CrT.opts F k).getD i false)).don (c.leg k don sin ((CrT.opts F k).getD i false)).sin).f = true by simpa using C8]
         first | rfl | simp
        refine wp_region_lit ?_
        refine Zv rfl (.pointer (some ⟨wr6.heap.size, 3, none⟩)) ?_
        by_cases C9 : (!((CrT.opts F k).getD i false)) = true
        ·refine Zw rfl (.bool true) (ex_load1 (v := .bool true) rfl (by have h8 := Q7.cell 3 rfl; rw [show (!((CrT.opts F k).getD i false)) = true by simpa using C9] at h8; exact h8) (by kernel_rfl) Tryd.underlying4 rfl) ?_
         refine wpList_nil (sx_norm ?_)
         refine sx_true (by kernel_rfl) ?_
         refine wp_exit ?_
         refine sx_by rfl ?_
         refine sx_es ?_
         refine sx_es ?_
         refine sx_out ?_
         refine sx_norm (wp_seq ?_)
         have eB : c.best F (m + 1) k don sin = (stB c (c.best F m (k + 1)) k don sin) b ((CrT.opts F k).getD i false) := by rw [CrT.best_succ, hfo, foldB_stop (by omega) (by rw [eS]; first | assumption | rfl)]
         rw [eS] at eB
         have hn98 : n8 ≤ n + 2 * cntB m := Nat.le_trans hn8 (by have := Nat.mul_le_mul_right (cntB m) (show i + 1 ≤ 2 by omega); rw [Nat.add_mul] at this; omega)
         obtain ⟨Y27, hW⟩ : ∃ W, W26.drew = W := ⟨_, rfl⟩
         have hb : Below W26.heap.size W26 Y27 := hW ▸ below_drew (Below.refl _ _)
         replace HB := HB.below hb
         replace hm := hm.below hb
         replace hFb := hFb.below hb
         replace Q7 := Q7.below hb
         replace Q3 := Q3.below hb
         replace Q4 := Q4.below hb
         replace hO := hO.below hb
         replace M21 := M21.below hb
         replace M24 := M24.below hb
         have z10 := hb.size
         clear hb
         refine sd_begin (fun W => Cb W (qf) #[.pointer (some ⟨q, 0, none⟩), .slice oF F.length cF, (.map (some mb))] 122 ∧ Cb W (wr6.heap.size) #[.bool true, .int .i64 ((c.best F m (k + 1) (c.leg k don sin ((CrT.opts F k).getD i false)).don (c.leg k don sin ((CrT.opts F k).getD i false)).sin).e), .bool ((CrT.opts F k).getD i false), .bool (!((CrT.opts F k).getD i false))] 126 ∧ Cb W (w.heap.size) #[.int .i64 ((k : Nat) : Int), .int .i64 don, .int .i64 sin] 124 ∧ Cb W (W1.heap.size) #[.bool false, .int .i64 0, .bool false, .bool false] 126 ∧ Rw W bO qO 1 (bF (CrT.opts F k)) ((CrT.opts F k).length) oO ∧ Cb W (W20.heap.size) #[.int .i64 ((k + 1 : Nat) : Int), .int .i64 ((c.leg k don sin ((CrT.opts F k).getD i false)).don), .int .i64 ((c.leg k don sin ((CrT.opts F k).getD i false)).sin)] 124 ∧ Cb W (W23.heap.size) #[.bool (c.best F m (k + 1) (c.leg k don sin ((CrT.opts F k).getD i false)).don (c.leg k don sin ((CrT.opts F k).getD i false)).sin).p, .int .i64 ((c.best F m (k + 1) (c.leg k don sin ((CrT.opts F k).getD i false)).don (c.leg k don sin ((CrT.opts F k).getD i false)).sin).e), .bool (c.best F m (k + 1) (c.leg k don sin ((CrT.opts F k).getD i false)).don (c.leg k don sin ((CrT.opts F k).getD i false)).sin).r, .bool (c.best F m (k + 1) (c.leg k don sin ((CrT.opts F k).getD i false)).don (c.leg k don sin ((CrT.opts F k).getD i false)).sin).f] 126 ∧ True) (by kernel_rfl) (by rw [hW]; exact ⟨hFb, Q7, Q3, Q4, hO, M21, M24, trivial⟩) ?_
         rw [hW]
         clear hW
         refine Zu 0 rfl rfl (.pointer (some ⟨qf, 0, none⟩)) ⟨hFb, Q7, Q3, Q4, hO, M21, M24, trivial⟩ ?_
         refine Zu 1 rfl rfl (.pointer (some ⟨qf, 0, none⟩)) ⟨hFb, Q7, Q3, Q4, hO, M21, M24, trivial⟩ ?_
         refine Zu 2 rfl rfl (.pointer (some ⟨qf, 2, none⟩)) ⟨hFb, Q7, Q3, Q4, hO, M21, M24, trivial⟩ ?_
         refine Zt 3 rfl rfl ((.map (some mb))) (fun w9 h9 => el (h9.1.cell 2 rfl) Tryd.underlying120) ⟨hFb, Q7, Q3, Q4, hO, M21, M24, trivial⟩ ?_
         refine Zt 4 rfl rfl (.agg #[.int .i64 ((k : Nat) : Int), .int .i64 don, .int .i64 sin]) (fun w9 h9 => ex_load rfl h9.2.2.1 (by kernel_rfl) Tryd.underlying124 rfl (by kernel_rfl)) ⟨hFb, Q7, Q3, Q4, hO, M21, M24, trivial⟩ ?_
         refine Zt 5 rfl rfl (.agg #[.bool true, .int .i64 ((c.best F m (k + 1) (c.leg k don sin ((CrT.opts F k).getD i false)).don (c.leg k don sin ((CrT.opts F k).getD i false)).sin).e), .bool ((CrT.opts F k).getD i false), .bool (!((CrT.opts F k).getD i false))]) (fun w9 h9 => ex_load rfl h9.2.1 (by kernel_rfl) Tryd.underlying126 rfl (by kernel_rfl)) ⟨hFb, Q7, Q3, Q4, hO, M21, M24, trivial⟩ ?_
         refine sd_all [6] (by kernel_rfl) (by decide) ?_
         obtain ⟨W28, hrp, hmp, hgp⟩ := hm.put (by unfold maxLen; omega) (p := ((k : Nat) : Int)) (f := don) (t := sin) ⟨by omega, by omega⟩ ⟨by omega, by omega⟩ ⟨by omega, by omega⟩ (⟨true, (c.best F m (k + 1) (c.leg k don sin ((CrT.opts F k).getD i false)).don (c.leg k don sin ((CrT.opts F k).getD i false)).sin).e, ((CrT.opts F k).getD i false), (!((CrT.opts F k).getD i false))⟩ : ChT)
         refine sd_do (i := 6) rfl (by kernel_rfl) rfl W28 (ex_update rfl (by kernel_rfl) (by kernel_rfl) (by kernel_rfl) hrp) ⟨(hFb.kept hgp (by omega)), (Q7.kept hgp (by omega)), (Q3.kept hgp (by omega)), (Q4.kept hgp (by omega)), (hO.kept hgp (by omega)), (M21.kept hgp (by omega)), (M24.kept hgp (by omega)), trivial⟩ ?_ AllReadyH.nil
         replace HB := HB.grown hgp (fun i hi e => by simp only [Option.some.injEq] at e; omega)
         replace hm := hmp
         replace hFb := hFb.kept hgp (by omega)
         replace Q7 := Q7.kept hgp (by omega)
         replace Q3 := Q3.kept hgp (by omega)
         replace Q4 := Q4.kept hgp (by omega)
         replace M21 := M21.kept hgp (by omega)
         replace M24 := M24.kept hgp (by omega)
         have zpW28 := hgp.size
         refine sd_done (by kernel_rfl) ?_
         refine sx_norm (wp_seq (wp_region_lit ?_))
         refine Zw rfl (.agg #[.bool true, .int .i64 ((c.best F m (k + 1) (c.leg k don sin ((CrT.opts F k).getD i false)).don (c.leg k don sin ((CrT.opts F k).getD i false)).sin).e), .bool ((CrT.opts F k).getD i false), .bool (!((CrT.opts F k).getD i false))]) (ex_load rfl Q7 (by kernel_rfl) Tryd.underlying126 rfl (by kernel_rfl)) ?_
         refine Zr (cells := #[.bool true, .int .i64 ((c.best F m (k + 1) (c.leg k don sin ((CrT.opts F k).getD i false)).don (c.leg k don sin ((CrT.opts F k).getD i false)).sin).e), .bool ((CrT.opts F k).getD i false), .bool (!((CrT.opts F k).getD i false))]) rfl rfl Q4 (fun W29 hg hq => ?_)
         replace HB := HB.grown hg (fun i hi e => by simp only [Option.some.injEq] at e; omega)
         replace hm := hm.kept hg (by omega)
         replace hFb := hFb.kept hg (by omega)
         replace Q7 := Q7.kept hg (by omega)
         replace Q3 := Q3.kept hg (by omega)
         replace M21 := M21.kept hg (by omega)
         replace M24 := M24.kept hg (by omega)
         have z11 := hg.size
         replace Q4 := hq
         clear hq hg
         refine wpList_nil (sx_norm (wp_ret ?_))
         have hgz : GoodH c F (putH g8 ((k : Nat) : Int) don sin (⟨true, (c.best F m (k + 1) (c.leg k don sin ((CrT.opts F k).getD i false)).don (c.leg k don sin ((CrT.opts F k).getD i false)).sin).e, ((CrT.opts F k).getD i false), (!((CrT.opts F k).getD i false))⟩ : ChT)) := by
          have h8 := (by assumption : GoodH c F g8).put (k := k) (f := don) (t := sin)
          rw [show c.n - k = m + 1 by omega, eB] at h8
          exact h8
         exact sx_retc Q4 rfl rfl (by kernel_rfl) Tryd.underlying126 rfl (by kernel_rfl) ⟨by rw [eB]; rfl, ⟨_, _, hm, hgz, by show n8 + 1 ≤ n + (2 * cntB m + 1); omega⟩, HB⟩
        refine Zw rfl (.bool false) (ex_load1 (v := .bool false) rfl (by have h8 := Q7.cell 3 rfl; rw [show (!((CrT.opts F k).getD i false)) = false by simpa using C9] at h8; exact h8) (by kernel_rfl) Tryd.underlying4 rfl) ?_
        refine wpList_nil (sx_norm ?_)
        refine sx_false (by kernel_rfl) ?_
        refine wp_skip ?_
        refine sx_in ?_
        refine sx_norm (wp_region_lit ?_)
        refine sx_int (by kernel_rfl) rfl rfl .i64 (IntKind.i64.wrap (((i : Nat) : Int) + 1)) (((i + 1 : Nat) : Int)) (by kernel_rfl) (by rw [IntKind.wrap_i64]; omega) ?_
        refine Zv rfl (.int .i64 ((i + 1 : Nat) : Int)) ?_
        refine wpList_nil (sx_norm ?_)
        exact sx_again ((CrT.opts F k).length - (i + 1)) (i + 1, ((stB c (c.best F m (k + 1)) k don sin) b ((CrT.opts F k).getD i false)), n8, g8) (by omega) (by kernel_rfl) ⟨by show i + 1 ≤ _; omega, Nat.le_refl _, (by rw [eS]; exact Q7), (by first | (rw [eS]; done) | (rw [eS]; exact Bool.eq_false_iff.2 (by assumption))), (by rw [hfo, foldB_go (by omega) (by rw [eS]; first | assumption | decide | simp)]), hm, hgd8, by show n8 ≤ n + (i + 1) * cntB m; rw [Nat.add_mul]; omega, HB, Q3, Q4, hO, by show _ ≤ _; omega⟩
       refine Zw rfl (.bool false) (ex_load1 (v := .bool false) rfl (by have h8 := M24.cell 3 rfl; rw [show (c.best F m (k + 1) (c.leg k don sin ((CrT.opts F k).getD i false)).don (c.leg k don sin ((CrT.opts F k).getD i false)).sin).f = false by simpa using C8] at h8; exact h8) (by kernel_rfl) Tryd.underlying4 rfl) ?_
       refine Zv rfl (.bool false) ?_
       refine Zk rfl ?_
       refine Zk rfl ?_
       refine Zv rfl (.bool false) ?_
       refine Zv rfl (.agg #[.bool true, .int .i64 ((c.best F m (k + 1) (c.leg k don sin ((CrT.opts F k).getD i false)).don (c.leg k don sin ((CrT.opts F k).getD i false)).sin).e), .bool ((CrT.opts F k).getD i false), .bool false]) ?_
       refine Zr (cells := #[.bool true, .int .i64 ((c.best F m (k + 1) (c.leg k don sin ((CrT.opts F k).getD i false)).don (c.leg k don sin ((CrT.opts F k).getD i false)).sin).e), .bool ((CrT.opts F k).getD i false), .bool false]) rfl rfl Q7 (fun W30 hg hq => ?_)
       replace HB := HB.grown hg (fun i hi e => by simp only [Option.some.injEq] at e; omega)
       replace hm := hm.kept hg (by omega)
       replace hFb := hFb.kept hg (by omega)
       replace Q3 := Q3.kept hg (by omega)
       replace Q4 := Q4.kept hg (by omega)
       replace hO := hO.kept hg (fun i hi => hO7)
       replace M21 := M21.kept hg (by omega)
       replace M24 := M24.kept hg (by omega)
       have z9 := hg.size
       replace Q7 := hq
       clear hq hg
       refine wpList_nil (sx_norm (wp_seq ?_))
       have eS : (stB c (c.best F m (k + 1)) k don sin) b ((CrT.opts F k).getD i false) = (⟨true, (c.best F m (k + 1) (c.leg k don sin ((CrT.opts F k).getD i false)).don (c.leg k don sin ((CrT.opts F k).getD i false)).sin).e, ((CrT.opts F k).getD i false), false⟩ : ChT) := by
        unfold stB
        rw [if_pos (by assumption)]
        rw [if_pos ⟨by assumption, .inr (by assumption)⟩, show (c.best F m (k + 1) (c.leg k don sin ((CrT.opts F k).getD i false)).don (c.leg k don sin ((CrT.opts F k).getD i false)).sin).f = false by simpa using C8]
        first | rfl | simp
       refine wp_region_lit ?_
       refine Zv rfl (.pointer (some ⟨wr6.heap.size, 3, none⟩)) ?_
       refine Zw rfl (.bool false) (el (Q7.cell 3 rfl) Tryd.underlying4) ?_
       refine wpList_nil (sx_norm ?_)
       refine sx_false (by kernel_rfl) ?_
       refine wp_skip ?_
       refine sx_in ?_
       refine sx_norm (wp_region_lit ?_)
       refine sx_int (by kernel_rfl) rfl rfl .i64 (IntKind.i64.wrap (((i : Nat) : Int) + 1)) (((i + 1 : Nat) : Int)) (by kernel_rfl) (by rw [IntKind.wrap_i64]; omega) ?_
       refine Zv rfl (.int .i64 ((i + 1 : Nat) : Int)) ?_
       refine wpList_nil (sx_norm ?_)
       exact sx_again ((CrT.opts F k).length - (i + 1)) (i + 1, ((stB c (c.best F m (k + 1)) k don sin) b ((CrT.opts F k).getD i false)), n8, g8) (by omega) (by kernel_rfl) ⟨by show i + 1 ≤ _; omega, Nat.le_refl _, (by rw [eS]; exact Q7), (by first | (rw [eS]; done) | (rw [eS]; exact Bool.eq_false_iff.2 (by assumption))), (by rw [hfo, foldB_go (by omega) (by rw [eS]; first | assumption | decide | simp)]), hm, hgd8, by show n8 ≤ n + (i + 1) * cntB m; rw [Nat.add_mul]; omega, HB, Q3, Q4, hO, by show _ ≤ _; omega⟩
      refine Zb rfl (decide ((c.best F m (k + 1) (c.leg k don sin ((CrT.opts F k).getD i false)).don (c.leg k don sin ((CrT.opts F k).getD i false)).sin).e < b.e)) false (decide_eq_false (by omega)) ?_
      refine Zv rfl (.bool false) ?_
      refine Zv rfl (.bool false) ?_
      refine wpList_nil (sx_norm ?_)
      refine sx_false (by kernel_rfl) ?_
      refine wp_skip (sx_norm (wp_seq ?_))
      have eS : (stB c (c.best F m (k + 1)) k don sin) b ((CrT.opts F k).getD i false) = (⟨b.p, b.e, b.r, b.f⟩ : ChT) := by
       unfold stB
       rw [if_pos (by assumption)]
       rw [if_neg (by rintro ⟨h8, h9 | h9⟩ <;> simp_all <;> omega)]
      refine wp_region_lit ?_
      refine Zv rfl (.pointer (some ⟨wr6.heap.size, 3, none⟩)) ?_
      by_cases C10 : b.f = true
      ·refine Zw rfl (.bool true) (ex_load1 (v := .bool true) rfl (by have h8 := Q7.cell 3 rfl; rw [show b.f = true by simpa using C10] at h8; exact h8) (by kernel_rfl) Tryd.underlying4 rfl) ?_
       refine wpList_nil (sx_norm ?_)
       refine sx_true (by kernel_rfl) ?_
       refine wp_exit ?_
       refine sx_by rfl ?_
       refine sx_es ?_
       refine sx_es ?_
       refine sx_out ?_
       refine sx_norm (wp_seq ?_)
       have eB : c.best F (m + 1) k don sin = (stB c (c.best F m (k + 1)) k don sin) b ((CrT.opts F k).getD i false) := by rw [CrT.best_succ, hfo, foldB_stop (by omega) (by rw [eS]; first | assumption | rfl)]
       rw [eS] at eB
       have hn98 : n8 ≤ n + 2 * cntB m := Nat.le_trans hn8 (by have := Nat.mul_le_mul_right (cntB m) (show i + 1 ≤ 2 by omega); rw [Nat.add_mul] at this; omega)
       obtain ⟨Y31, hW⟩ : ∃ W, W25.drew = W := ⟨_, rfl⟩
       have hb : Below W25.heap.size W25 Y31 := hW ▸ below_drew (Below.refl _ _)
       replace HB := HB.below hb
       replace hm := hm.below hb
       replace hFb := hFb.below hb
       replace Q7 := Q7.below hb
       replace Q3 := Q3.below hb
       replace Q4 := Q4.below hb
       replace hO := hO.below hb
       replace M21 := M21.below hb
       replace M24 := M24.below hb
       have z9 := hb.size
       clear hb
       refine sd_begin (fun W => Cb W (qf) #[.pointer (some ⟨q, 0, none⟩), .slice oF F.length cF, (.map (some mb))] 122 ∧ Cb W (wr6.heap.size) #[.bool b.p, .int .i64 b.e, .bool b.r, .bool b.f] 126 ∧ Cb W (w.heap.size) #[.int .i64 ((k : Nat) : Int), .int .i64 don, .int .i64 sin] 124 ∧ Cb W (W1.heap.size) #[.bool false, .int .i64 0, .bool false, .bool false] 126 ∧ Rw W bO qO 1 (bF (CrT.opts F k)) ((CrT.opts F k).length) oO ∧ Cb W (W20.heap.size) #[.int .i64 ((k + 1 : Nat) : Int), .int .i64 ((c.leg k don sin ((CrT.opts F k).getD i false)).don), .int .i64 ((c.leg k don sin ((CrT.opts F k).getD i false)).sin)] 124 ∧ Cb W (W23.heap.size) #[.bool (c.best F m (k + 1) (c.leg k don sin ((CrT.opts F k).getD i false)).don (c.leg k don sin ((CrT.opts F k).getD i false)).sin).p, .int .i64 ((c.best F m (k + 1) (c.leg k don sin ((CrT.opts F k).getD i false)).don (c.leg k don sin ((CrT.opts F k).getD i false)).sin).e), .bool (c.best F m (k + 1) (c.leg k don sin ((CrT.opts F k).getD i false)).don (c.leg k don sin ((CrT.opts F k).getD i false)).sin).r, .bool (c.best F m (k + 1) (c.leg k don sin ((CrT.opts F k).getD i false)).don (c.leg k don sin ((CrT.opts F k).getD i false)).sin).f] 126 ∧ True) (by kernel_rfl) (by rw [hW]; exact ⟨hFb, Q7, Q3, Q4, hO, M21, M24, trivial⟩) ?_
       rw [hW]
       clear hW
       refine Zu 0 rfl rfl (.pointer (some ⟨qf, 0, none⟩)) ⟨hFb, Q7, Q3, Q4, hO, M21, M24, trivial⟩ ?_
       refine Zu 1 rfl rfl (.pointer (some ⟨qf, 0, none⟩)) ⟨hFb, Q7, Q3, Q4, hO, M21, M24, trivial⟩ ?_
       refine Zu 2 rfl rfl (.pointer (some ⟨qf, 2, none⟩)) ⟨hFb, Q7, Q3, Q4, hO, M21, M24, trivial⟩ ?_
       refine Zt 3 rfl rfl ((.map (some mb))) (fun w9 h9 => el (h9.1.cell 2 rfl) Tryd.underlying120) ⟨hFb, Q7, Q3, Q4, hO, M21, M24, trivial⟩ ?_
       refine Zt 4 rfl rfl (.agg #[.int .i64 ((k : Nat) : Int), .int .i64 don, .int .i64 sin]) (fun w9 h9 => ex_load rfl h9.2.2.1 (by kernel_rfl) Tryd.underlying124 rfl (by kernel_rfl)) ⟨hFb, Q7, Q3, Q4, hO, M21, M24, trivial⟩ ?_
       refine Zt 5 rfl rfl (.agg #[.bool b.p, .int .i64 b.e, .bool b.r, .bool b.f]) (fun w9 h9 => ex_load rfl h9.2.1 (by kernel_rfl) Tryd.underlying126 rfl (by kernel_rfl)) ⟨hFb, Q7, Q3, Q4, hO, M21, M24, trivial⟩ ?_
       refine sd_all [6] (by kernel_rfl) (by decide) ?_
       obtain ⟨W32, hrp, hmp, hgp⟩ := hm.put (by unfold maxLen; omega) (p := ((k : Nat) : Int)) (f := don) (t := sin) ⟨by omega, by omega⟩ ⟨by omega, by omega⟩ ⟨by omega, by omega⟩ (⟨b.p, b.e, b.r, b.f⟩ : ChT)
       refine sd_do (i := 6) rfl (by kernel_rfl) rfl W32 (ex_update rfl (by kernel_rfl) (by kernel_rfl) (by kernel_rfl) hrp) ⟨(hFb.kept hgp (by omega)), (Q7.kept hgp (by omega)), (Q3.kept hgp (by omega)), (Q4.kept hgp (by omega)), (hO.kept hgp (by omega)), (M21.kept hgp (by omega)), (M24.kept hgp (by omega)), trivial⟩ ?_ AllReadyH.nil
       replace HB := HB.grown hgp (fun i hi e => by simp only [Option.some.injEq] at e; omega)
       replace hm := hmp
       replace hFb := hFb.kept hgp (by omega)
       replace Q7 := Q7.kept hgp (by omega)
       replace Q3 := Q3.kept hgp (by omega)
       replace Q4 := Q4.kept hgp (by omega)
       replace M21 := M21.kept hgp (by omega)
       replace M24 := M24.kept hgp (by omega)
       have zpW32 := hgp.size
       refine sd_done (by kernel_rfl) ?_
       refine sx_norm (wp_seq (wp_region_lit ?_))
       refine Zw rfl (.agg #[.bool b.p, .int .i64 b.e, .bool b.r, .bool b.f]) (ex_load rfl Q7 (by kernel_rfl) Tryd.underlying126 rfl (by kernel_rfl)) ?_
       refine Zr (cells := #[.bool b.p, .int .i64 b.e, .bool b.r, .bool b.f]) rfl rfl Q4 (fun W33 hg hq => ?_)
       replace HB := HB.grown hg (fun i hi e => by simp only [Option.some.injEq] at e; omega)
       replace hm := hm.kept hg (by omega)
       replace hFb := hFb.kept hg (by omega)
       replace Q7 := Q7.kept hg (by omega)
       replace Q3 := Q3.kept hg (by omega)
       replace M21 := M21.kept hg (by omega)
       replace M24 := M24.kept hg (by omega)
       have z10 := hg.size
       replace Q4 := hq
       clear hq hg
       refine wpList_nil (sx_norm (wp_ret ?_))
       have hgz : GoodH c F (putH g8 ((k : Nat) : Int) don sin (⟨b.p, b.e, b.r, b.f⟩ : ChT)) := by
        have h8 := (by assumption : GoodH c F g8).put (k := k) (f := don) (t := sin)
        rw [show c.n - k = m + 1 by omega, eB] at h8
        exact h8
       exact sx_retc Q4 rfl rfl (by kernel_rfl) Tryd.underlying126 rfl (by kernel_rfl) ⟨by rw [eB]; rfl, ⟨_, _, hm, hgz, by show n8 + 1 ≤ n + (2 * cntB m + 1); omega⟩, HB⟩
      refine Zw rfl (.bool false) (ex_load1 (v := .bool false) rfl (by have h8 := Q7.cell 3 rfl; rw [show b.f = false by simpa using C10] at h8; exact h8) (by kernel_rfl) Tryd.underlying4 rfl) ?_
      refine wpList_nil (sx_norm ?_)
      refine sx_false (by kernel_rfl) ?_
      refine wp_skip ?_
      refine sx_in ?_
      refine sx_norm (wp_region_lit ?_)
      refine sx_int (by kernel_rfl) rfl rfl .i64 (IntKind.i64.wrap (((i : Nat) : Int) + 1)) (((i + 1 : Nat) : Int)) (by kernel_rfl) (by rw [IntKind.wrap_i64]; omega) ?_
      refine Zv rfl (.int .i64 ((i + 1 : Nat) : Int)) ?_
      refine wpList_nil (sx_norm ?_)
      exact sx_again ((CrT.opts F k).length - (i + 1)) (i + 1, ((stB c (c.best F m (k + 1)) k don sin) b ((CrT.opts F k).getD i false)), n8, g8) (by omega) (by kernel_rfl) ⟨by show i + 1 ≤ _; omega, Nat.le_refl _, (by rw [eS]; exact Q7), (by first | (rw [eS]; done) | (rw [eS]; exact Bool.eq_false_iff.2 (by assumption))), (by rw [hfo, foldB_go (by omega) (by rw [eS]; first | assumption | decide | simp)]), hm, hgd8, by show n8 ≤ n + (i + 1) * cntB m; rw [Nat.add_mul]; omega, HB, Q3, Q4, hO, by show _ ≤ _; omega⟩
     refine Zw rfl (.bool false) (ex_load1 (v := .bool false) rfl (by have h8 := Q7.cell 0 rfl; rw [show b.p = false by simpa using C6] at h8; exact h8) (by kernel_rfl) Tryd.underlying4 rfl) ?_
     refine Zv rfl (.bool true) ?_
     refine Zv rfl (.bool true) ?_
     refine Zk rfl ?_
     refine Zk rfl ?_
     refine Zk rfl ?_
     refine Zk rfl ?_
     refine Zk rfl ?_
     refine Zv rfl (.bool true) ?_
     refine Zv rfl (.bool true) ?_
     refine wpList_nil (sx_norm ?_)
     refine sx_true (by kernel_rfl) ?_
     refine wp_region_lit ?_
     refine Zv rfl (.pointer (some ⟨W23.heap.size, 1, none⟩)) ?_
     refine Zw rfl (.int .i64 ((c.best F m (k + 1) (c.leg k don sin ((CrT.opts F k).getD i false)).don (c.leg k don sin ((CrT.opts F k).getD i false)).sin).e)) (el (M24.cell 1 rfl) Tryd.underlying3) ?_
     refine Zv rfl (.bool ((CrT.opts F k).getD i false)) ?_
     refine Zv rfl (.pointer (some ⟨W23.heap.size, 3, none⟩)) ?_
     by_cases C11 : (c.best F m (k + 1) (c.leg k don sin ((CrT.opts F k).getD i false)).don (c.leg k don sin ((CrT.opts F k).getD i false)).sin).f = true
     ·refine Zw rfl (.bool true) (ex_load1 (v := .bool true) rfl (by have h8 := M24.cell 3 rfl; rw [show (c.best F m (k + 1) (c.leg k don sin ((CrT.opts F k).getD i false)).don (c.leg k don sin ((CrT.opts F k).getD i false)).sin).f = true by simpa using C11] at h8; exact h8) (by kernel_rfl) Tryd.underlying4 rfl) ?_
      refine Zv rfl (.bool true) ?_
      refine Zv rfl (.bool ((CrT.opts F k).getD i false)) ?_
      refine Zv rfl (.bool (!((CrT.opts F k).getD i false))) ?_
      refine Zv rfl (.bool (!((CrT.opts F k).getD i false))) ?_
      refine Zv rfl (.agg #[.bool true, .int .i64 ((c.best F m (k + 1) (c.leg k don sin ((CrT.opts F k).getD i false)).don (c.leg k don sin ((CrT.opts F k).getD i false)).sin).e), .bool ((CrT.opts F k).getD i false), .bool (!((CrT.opts F k).getD i false))]) ?_
      refine Zr (cells := #[.bool true, .int .i64 ((c.best F m (k + 1) (c.leg k don sin ((CrT.opts F k).getD i false)).don (c.leg k don sin ((CrT.opts F k).getD i false)).sin).e), .bool ((CrT.opts F k).getD i false), .bool (!((CrT.opts F k).getD i false))]) rfl rfl Q7 (fun W34 hg hq => ?_)
      replace HB := HB.grown hg (fun i hi e => by simp only [Option.some.injEq] at e; omega)
      replace hm := hm.kept hg (by omega)
      replace hFb := hFb.kept hg (by omega)
      replace Q3 := Q3.kept hg (by omega)
      replace Q4 := Q4.kept hg (by omega)
      replace hO := hO.kept hg (fun i hi => hO7)
      replace M21 := M21.kept hg (by omega)
      replace M24 := M24.kept hg (by omega)
      have z9 := hg.size
      replace Q7 := hq
      clear hq hg
      refine wpList_nil (sx_norm (wp_seq ?_))
      have eS : (stB c (c.best F m (k + 1)) k don sin) b ((CrT.opts F k).getD i false) = (⟨true, (c.best F m (k + 1) (c.leg k don sin ((CrT.opts F k).getD i false)).don (c.leg k don sin ((CrT.opts F k).getD i false)).sin).e, ((CrT.opts F k).getD i false), (!((CrT.opts F k).getD i false))⟩ : ChT) := by
       unfold stB
       rw [if_pos (by assumption)]
       rw [if_pos ⟨by assumption, .inl (by simpa using C6)⟩, show (c.best F m (k + 1) (c.leg k don sin ((CrT.opts F k).getD i false)).don (c.leg k don sin ((CrT.opts F k).getD i false)).sin).f = true by simpa using C11]
       first | rfl | simp
      refine wp_region_lit ?_
      refine Zv rfl (.pointer (some ⟨wr6.heap.size, 3, none⟩)) ?_
      by_cases C12 : (!((CrT.opts F k).getD i false)) = true
      ·refine Zw rfl (.bool true) (ex_load1 (v := .bool true) rfl (by have h8 := Q7.cell 3 rfl; rw [show (!((CrT.opts F k).getD i false)) = true by simpa using C12] at h8; exact h8) (by kernel_rfl) Tryd.underlying4 rfl) ?_
       refine wpList_nil (sx_norm ?_)
       refine sx_true (by kernel_rfl) ?_
       refine wp_exit ?_
       refine sx_by rfl ?_
       refine sx_es ?_
       refine sx_es ?_
       refine sx_out ?_
       refine sx_norm (wp_seq ?_)
       have eB : c.best F (m + 1) k don sin = (stB c (c.best F m (k + 1)) k don sin) b ((CrT.opts F k).getD i false) := by rw [CrT.best_succ, hfo, foldB_stop (by omega) (by rw [eS]; first | assumption | rfl)]
       rw [eS] at eB
       have hn98 : n8 ≤ n + 2 * cntB m := Nat.le_trans hn8 (by have := Nat.mul_le_mul_right (cntB m) (show i + 1 ≤ 2 by omega); rw [Nat.add_mul] at this; omega)
       obtain ⟨Y35, hW⟩ : ∃ W, W34.drew = W := ⟨_, rfl⟩
       have hb : Below W34.heap.size W34 Y35 := hW ▸ below_drew (Below.refl _ _)
       replace HB := HB.below hb
       replace hm := hm.below hb
       replace hFb := hFb.below hb
       replace Q7 := Q7.below hb
       replace Q3 := Q3.below hb
       replace Q4 := Q4.below hb
       replace hO := hO.below hb
       replace M21 := M21.below hb
       replace M24 := M24.below hb
       have z10 := hb.size
       clear hb
       refine sd_begin (fun W => Cb W (qf) #[.pointer (some ⟨q, 0, none⟩), .slice oF F.length cF, (.map (some mb))] 122 ∧ Cb W (wr6.heap.size) #[.bool true, .int .i64 ((c.best F m (k + 1) (c.leg k don sin ((CrT.opts F k).getD i false)).don (c.leg k don sin ((CrT.opts F k).getD i false)).sin).e), .bool ((CrT.opts F k).getD i false), .bool (!((CrT.opts F k).getD i false))] 126 ∧ Cb W (w.heap.size) #[.int .i64 ((k : Nat) : Int), .int .i64 don, .int .i64 sin] 124 ∧ Cb W (W1.heap.size) #[.bool false, .int .i64 0, .bool false, .bool false] 126 ∧ Rw W bO qO 1 (bF (CrT.opts F k)) ((CrT.opts F k).length) oO ∧ Cb W (W20.heap.size) #[.int .i64 ((k + 1 : Nat) : Int), .int .i64 ((c.leg k don sin ((CrT.opts F k).getD i false)).don), .int .i64 ((c.leg k don sin ((CrT.opts F k).getD i false)).sin)] 124 ∧ Cb W (W23.heap.size) #[.bool (c.best F m (k + 1) (c.leg k don sin ((CrT.opts F k).getD i false)).don (c.leg k don sin ((CrT.opts F k).getD i false)).sin).p, .int .i64 ((c.best F m (k + 1) (c.leg k don sin ((CrT.opts F k).getD i false)).don (c.leg k don sin ((CrT.opts F k).getD i false)).sin).e), .bool (c.best F m (k + 1) (c.leg k don sin ((CrT.opts F k).getD i false)).don (c.leg k don sin ((CrT.opts F k).getD i false)).sin).r, .bool (c.best F m (k + 1) (c.leg k don sin ((CrT.opts F k).getD i false)).don (c.leg k don sin ((CrT.opts F k).getD i false)).sin).f] 126 ∧ True) (by kernel_rfl) (by rw [hW]; exact ⟨hFb, Q7, Q3, Q4, hO, M21, M24, trivial⟩) ?_
       rw [hW]
       clear hW
       refine Zu 0 rfl rfl (.pointer (some ⟨qf, 0, none⟩)) ⟨hFb, Q7, Q3, Q4, hO, M21, M24, trivial⟩ ?_
       refine Zu 1 rfl rfl (.pointer (some ⟨qf, 0, none⟩)) ⟨hFb, Q7, Q3, Q4, hO, M21, M24, trivial⟩ ?_
       refine Zu 2 rfl rfl (.pointer (some ⟨qf, 2, none⟩)) ⟨hFb, Q7, Q3, Q4, hO, M21, M24, trivial⟩ ?_
       refine Zt 3 rfl rfl ((.map (some mb))) (fun w9 h9 => el (h9.1.cell 2 rfl) Tryd.underlying120) ⟨hFb, Q7, Q3, Q4, hO, M21, M24, trivial⟩ ?_
       refine Zt 4 rfl rfl (.agg #[.int .i64 ((k : Nat) : Int), .int .i64 don, .int .i64 sin]) (fun w9 h9 => ex_load rfl h9.2.2.1 (by kernel_rfl) Tryd.underlying124 rfl (by kernel_rfl)) ⟨hFb, Q7, Q3, Q4, hO, M21, M24, trivial⟩ ?_
       refine Zt 5 rfl rfl (.agg #[.bool true, .int .i64 ((c.best F m (k + 1) (c.leg k don sin ((CrT.opts F k).getD i false)).don (c.leg k don sin ((CrT.opts F k).getD i false)).sin).e), .bool ((CrT.opts F k).getD i false), .bool (!((CrT.opts F k).getD i false))]) (fun w9 h9 => ex_load rfl h9.2.1 (by kernel_rfl) Tryd.underlying126 rfl (by kernel_rfl)) ⟨hFb, Q7, Q3, Q4, hO, M21, M24, trivial⟩ ?_
       refine sd_all [6] (by kernel_rfl) (by decide) ?_
       obtain ⟨W36, hrp, hmp, hgp⟩ := hm.put (by unfold maxLen; omega) (p := ((k : Nat) : Int)) (f := don) (t := sin) ⟨by omega, by omega⟩ ⟨by omega, by omega⟩ ⟨by omega, by omega⟩ (⟨true, (c.best F m (k + 1) (c.leg k don sin ((CrT.opts F k).getD i false)).don (c.leg k don sin ((CrT.opts F k).getD i false)).sin).e, ((CrT.opts F k).getD i false), (!((CrT.opts F k).getD i false))⟩ : ChT)
       refine sd_do (i := 6) rfl (by kernel_rfl) rfl W36 (ex_update rfl (by kernel_rfl) (by kernel_rfl) (by kernel_rfl) hrp) ⟨(hFb.kept hgp (by omega)), (Q7.kept hgp (by omega)), (Q3.kept hgp (by omega)), (Q4.kept hgp (by omega)), (hO.kept hgp (by omega)), (M21.kept hgp (by omega)), (M24.kept hgp (by omega)), trivial⟩ ?_ AllReadyH.nil
       replace HB := HB.grown hgp (fun i hi e => by simp only [Option.some.injEq] at e; omega)
       replace hm := hmp
       replace hFb := hFb.kept hgp (by omega)
       replace Q7 := Q7.kept hgp (by omega)
       replace Q3 := Q3.kept hgp (by omega)
       replace Q4 := Q4.kept hgp (by omega)
       replace M21 := M21.kept hgp (by omega)
       replace M24 := M24.kept hgp (by omega)
       have zpW36 := hgp.size
       refine sd_done (by kernel_rfl) ?_
       refine sx_norm (wp_seq (wp_region_lit ?_))
       refine Zw rfl (.agg #[.bool true, .int .i64 ((c.best F m (k + 1) (c.leg k don sin ((CrT.opts F k).getD i false)).don (c.leg k don sin ((CrT.opts F k).getD i false)).sin).e), .bool ((CrT.opts F k).getD i false), .bool (!((CrT.opts F k).getD i false))]) (ex_load rfl Q7 (by kernel_rfl) Tryd.underlying126 rfl (by kernel_rfl)) ?_
       refine Zr (cells := #[.bool true, .int .i64 ((c.best F m (k + 1) (c.leg k don sin ((CrT.opts F k).getD i false)).don (c.leg k don sin ((CrT.opts F k).getD i false)).sin).e), .bool ((CrT.opts F k).getD i false), .bool (!((CrT.opts F k).getD i false))]) rfl rfl Q4 (fun W37 hg hq => ?_)
       replace HB := HB.grown hg (fun i hi e => by simp only [Option.some.injEq] at e; omega)
       replace hm := hm.kept hg (by omega)
       replace hFb := hFb.kept hg (by omega)
       replace Q7 := Q7.kept hg (by omega)
       replace Q3 := Q3.kept hg (by omega)
       replace M21 := M21.kept hg (by omega)
       replace M24 := M24.kept hg (by omega)
       have z11 := hg.size
       replace Q4 := hq
       clear hq hg
       refine wpList_nil (sx_norm (wp_ret ?_))
       have hgz : GoodH c F (putH g8 ((k : Nat) : Int) don sin (⟨true, (c.best F m (k + 1) (c.leg k don sin ((CrT.opts F k).getD i false)).don (c.leg k don sin ((CrT.opts F k).getD i false)).sin).e, ((CrT.opts F k).getD i false), (!((CrT.opts F k).getD i false))⟩ : ChT)) := by
        have h8 := (by assumption : GoodH c F g8).put (k := k) (f := don) (t := sin)
        rw [show c.n - k = m + 1 by omega, eB] at h8
        exact h8
       exact sx_retc Q4 rfl rfl (by kernel_rfl) Tryd.underlying126 rfl (by kernel_rfl) ⟨by rw [eB]; rfl, ⟨_, _, hm, hgz, by show n8 + 1 ≤ n + (2 * cntB m + 1); omega⟩, HB⟩
      refine Zw rfl (.bool false) (ex_load1 (v := .bool false) rfl (by have h8 := Q7.cell 3 rfl; rw [show (!((CrT.opts F k).getD i false)) = false by simpa using C12] at h8; exact h8) (by kernel_rfl) Tryd.underlying4 rfl) ?_
      refine wpList_nil (sx_norm ?_)
      refine sx_false (by kernel_rfl) ?_
      refine wp_skip ?_
      refine sx_in ?_
      refine sx_norm (wp_region_lit ?_)
      refine sx_int (by kernel_rfl) rfl rfl .i64 (IntKind.i64.wrap (((i : Nat) : Int) + 1)) (((i + 1 : Nat) : Int)) (by kernel_rfl) (by rw [IntKind.wrap_i64]; omega) ?_
      refine Zv rfl (.int .i64 ((i + 1 : Nat) : Int)) ?_
      refine wpList_nil (sx_norm ?_)
      exact sx_again ((CrT.opts F k).length - (i + 1)) (i + 1, ((stB c (c.best F m (k + 1)) k don sin) b ((CrT.opts F k).getD i false)), n8, g8) (by omega) (by kernel_rfl) ⟨by show i + 1 ≤ _; omega, Nat.le_refl _, (by rw [eS]; exact Q7), (by first | (rw [eS]; done) | (rw [eS]; exact Bool.eq_false_iff.2 (by assumption))), (by rw [hfo, foldB_go (by omega) (by rw [eS]; first | assumption | decide | simp)]), hm, hgd8, by show n8 ≤ n + (i + 1) * cntB m; rw [Nat.add_mul]; omega, HB, Q3, Q4, hO, by show _ ≤ _; omega⟩
     refine Zw rfl (.bool false) (ex_load1 (v := .bool false) rfl (by have h8 := M24.cell 3 rfl; rw [show (c.best F m (k + 1) (c.leg k don sin ((CrT.opts F k).getD i false)).don (c.leg k don sin ((CrT.opts F k).getD i false)).sin).f = false by simpa using C11] at h8; exact h8) (by kernel_rfl) Tryd.underlying4 rfl) ?_
     refine Zv rfl (.bool false) ?_
     refine Zk rfl ?_
     refine Zk rfl ?_
     refine Zv rfl (.bool false) ?_
     refine Zv rfl (.agg #[.bool true, .int .i64 ((c.best F m (k + 1) (c.leg k don sin ((CrT.opts F k).getD i false)).don (c.leg k don sin ((CrT.opts F k).getD i false)).sin).e), .bool ((CrT.opts F k).getD i false), .bool false]) ?_
     refine Zr (cells := #[.bool true, .int .i64 ((c.best F m (k + 1) (c.leg k don sin ((CrT.opts F k).getD i false)).don (c.leg k don sin ((CrT.opts F k).getD i false)).sin).e), .bool ((CrT.opts F k).getD i false), .bool false]) rfl rfl Q7 (fun W38 hg hq => ?_)
     replace HB := HB.grown hg (fun i hi e => by simp only [Option.some.injEq] at e; omega)
     replace hm := hm.kept hg (by omega)
     replace hFb := hFb.kept hg (by omega)
     replace Q3 := Q3.kept hg (by omega)
     replace Q4 := Q4.kept hg (by omega)
     replace hO := hO.kept hg (fun i hi => hO7)
     replace M21 := M21.kept hg (by omega)
     replace M24 := M24.kept hg (by omega)
     have z9 := hg.size
     replace Q7 := hq
     clear hq hg
     refine wpList_nil (sx_norm (wp_seq ?_))
     have eS : (stB c (c.best F m (k + 1)) k don sin) b ((CrT.opts F k).getD i false) = (⟨true, (c.best F m (k + 1) (c.leg k don sin ((CrT.opts F k).getD i false)).don (c.leg k don sin ((CrT.opts F k).getD i false)).sin).e, ((CrT.opts F k).getD i false), false⟩ : ChT) := by
      unfold stB
      rw [if_pos (by assumption)]
      rw [if_pos ⟨by assumption, .inl (by simpa using C6)⟩, show (c.best F m (k + 1) (c.leg k don sin ((CrT.opts F k).getD i false)).don (c.leg k don sin ((CrT.opts F k).getD i false)).sin).f = false by simpa using C11]
      first | rfl | simp
     refine wp_region_lit ?_
     refine Zv rfl (.pointer (some ⟨wr6.heap.size, 3, none⟩)) ?_
     refine Zw rfl (.bool false) (el (Q7.cell 3 rfl) Tryd.underlying4) ?_
     refine wpList_nil (sx_norm ?_)
     refine sx_false (by kernel_rfl) ?_
     refine wp_skip ?_
     refine sx_in ?_
     refine sx_norm (wp_region_lit ?_)
     refine sx_int (by kernel_rfl) rfl rfl .i64 (IntKind.i64.wrap (((i : Nat) : Int) + 1)) (((i + 1 : Nat) : Int)) (by kernel_rfl) (by rw [IntKind.wrap_i64]; omega) ?_
     refine Zv rfl (.int .i64 ((i + 1 : Nat) : Int)) ?_
     refine wpList_nil (sx_norm ?_)
     exact sx_again ((CrT.opts F k).length - (i + 1)) (i + 1, ((stB c (c.best F m (k + 1)) k don sin) b ((CrT.opts F k).getD i false)), n8, g8) (by omega) (by kernel_rfl) ⟨by show i + 1 ≤ _; omega, Nat.le_refl _, (by rw [eS]; exact Q7), (by first | (rw [eS]; done) | (rw [eS]; exact Bool.eq_false_iff.2 (by assumption))), (by rw [hfo, foldB_go (by omega) (by rw [eS]; first | assumption | decide | simp)]), hm, hgd8, by show n8 ≤ n + (i + 1) * cntB m; rw [Nat.add_mul]; omega, HB, Q3, Q4, hO, by show _ ≤ _; omega⟩
    refine Zw rfl (.bool false) (ex_load1 (v := .bool false) rfl (by have h8 := M24.cell 0 rfl; rw [show (c.best F m (k + 1) (c.leg k don sin ((CrT.opts F k).getD i false)).don (c.leg k don sin ((CrT.opts F k).getD i false)).sin).p = false by simpa using C5] at h8; exact h8) (by kernel_rfl) Tryd.underlying4 rfl) ?_
    refine Zv rfl (.bool false) ?_
    refine Zk rfl ?_
    refine Zk rfl ?_
    refine Zk rfl ?_
    refine Zk rfl ?_
    refine Zk rfl ?_
    refine Zk rfl ?_
    refine Zk rfl ?_
    refine Zk rfl ?_
    refine Zk rfl ?_
    refine Zk rfl ?_
    refine Zv rfl (.bool false) ?_
    refine wpList_nil (sx_norm ?_)
    refine sx_false (by kernel_rfl) ?_
    refine wp_skip (sx_norm (wp_seq ?_))
    have eS : (stB c (c.best F m (k + 1)) k don sin) b ((CrT.opts F k).getD i false) = (⟨b.p, b.e, b.r, b.f⟩ : ChT) := by
     unfold stB
     rw [if_pos (by assumption)]
     rw [if_neg (fun h8 => absurd h8.1 (by assumption))]
    refine wp_region_lit ?_
    refine Zv rfl (.pointer (some ⟨wr6.heap.size, 3, none⟩)) ?_
    by_cases C13 : b.f = true
    ·refine Zw rfl (.bool true) (ex_load1 (v := .bool true) rfl (by have h8 := Q7.cell 3 rfl; rw [show b.f = true by simpa using C13] at h8; exact h8) (by kernel_rfl) Tryd.underlying4 rfl) ?_
     refine wpList_nil (sx_norm ?_)
     refine sx_true (by kernel_rfl) ?_
     refine wp_exit ?_
     refine sx_by rfl ?_
     refine sx_es ?_
     refine sx_es ?_
     refine sx_out ?_
     refine sx_norm (wp_seq ?_)
     have eB : c.best F (m + 1) k don sin = (stB c (c.best F m (k + 1)) k don sin) b ((CrT.opts F k).getD i false) := by rw [CrT.best_succ, hfo, foldB_stop (by omega) (by rw [eS]; first | assumption | rfl)]
     rw [eS] at eB
     have hn98 : n8 ≤ n + 2 * cntB m := Nat.le_trans hn8 (by have := Nat.mul_le_mul_right (cntB m) (show i + 1 ≤ 2 by omega); rw [Nat.add_mul] at this; omega)
     obtain ⟨Y39, hW⟩ : ∃ W, W25.drew = W := ⟨_, rfl⟩
     have hb : Below W25.heap.size W25 Y39 := hW ▸ below_drew (Below.refl _ _)
     replace HB := HB.below hb
     replace hm := hm.below hb
     replace hFb := hFb.below hb
     replace Q7 := Q7.below hb
     replace Q3 := Q3.below hb
     replace Q4 := Q4.below hb
     replace hO := hO.below hb
     replace M21 := M21.below hb
     replace M24 := M24.below hb
     have z9 := hb.size
     clear hb
     refine sd_begin (fun W => Cb W (qf) #[.pointer (some ⟨q, 0, none⟩), .slice oF F.length cF, (.map (some mb))] 122 ∧ Cb W (wr6.heap.size) #[.bool b.p, .int .i64 b.e, .bool b.r, .bool b.f] 126 ∧ Cb W (w.heap.size) #[.int .i64 ((k : Nat) : Int), .int .i64 don, .int .i64 sin] 124 ∧ Cb W (W1.heap.size) #[.bool false, .int .i64 0, .bool false, .bool false] 126 ∧ Rw W bO qO 1 (bF (CrT.opts F k)) ((CrT.opts F k).length) oO ∧ Cb W (W20.heap.size) #[.int .i64 ((k + 1 : Nat) : Int), .int .i64 ((c.leg k don sin ((CrT.opts F k).getD i false)).don), .int .i64 ((c.leg k don sin ((CrT.opts F k).getD i false)).sin)] 124 ∧ Cb W (W23.heap.size) #[.bool (c.best F m (k + 1) (c.leg k don sin ((CrT.opts F k).getD i false)).don (c.leg k don sin ((CrT.opts F k).getD i false)).sin).p, .int .i64 ((c.best F m (k + 1) (c.leg k don sin ((CrT.opts F k).getD i false)).don (c.leg k don sin ((CrT.opts F k).getD i false)).sin).e), .bool (c.best F m (k + 1) (c.leg k don sin ((CrT.opts F k).getD i false)).don (c.leg k don sin ((CrT.opts F k).getD i false)).sin).r, .bool (c.best F m (k + 1) (c.leg k don sin ((CrT.opts F k).getD i false)).don (c.leg k don sin ((CrT.opts F k).getD i false)).sin).f] 126 ∧ True) (by kernel_rfl) (by rw [hW]; exact ⟨hFb, Q7, Q3, Q4, hO, M21, M24, trivial⟩) ?_
     rw [hW]
     clear hW
     refine Zu 0 rfl rfl (.pointer (some ⟨qf, 0, none⟩)) ⟨hFb, Q7, Q3, Q4, hO, M21, M24, trivial⟩ ?_
     refine Zu 1 rfl rfl (.pointer (some ⟨qf, 0, none⟩)) ⟨hFb, Q7, Q3, Q4, hO, M21, M24, trivial⟩ ?_
     refine Zu 2 rfl rfl (.pointer (some ⟨qf, 2, none⟩)) ⟨hFb, Q7, Q3, Q4, hO, M21, M24, trivial⟩ ?_
     refine Zt 3 rfl rfl ((.map (some mb))) (fun w9 h9 => el (h9.1.cell 2 rfl) Tryd.underlying120) ⟨hFb, Q7, Q3, Q4, hO, M21, M24, trivial⟩ ?_
     refine Zt 4 rfl rfl (.agg #[.int .i64 ((k : Nat) : Int), .int .i64 don, .int .i64 sin]) (fun w9 h9 => ex_load rfl h9.2.2.1 (by kernel_rfl) Tryd.underlying124 rfl (by kernel_rfl)) ⟨hFb, Q7, Q3, Q4, hO, M21, M24, trivial⟩ ?_
     refine Zt 5 rfl rfl (.agg #[.bool b.p, .int .i64 b.e, .bool b.r, .bool b.f]) (fun w9 h9 => ex_load rfl h9.2.1 (by kernel_rfl) Tryd.underlying126 rfl (by kernel_rfl)) ⟨hFb, Q7, Q3, Q4, hO, M21, M24, trivial⟩ ?_
     refine sd_all [6] (by kernel_rfl) (by decide) ?_
     obtain ⟨W40, hrp, hmp, hgp⟩ := hm.put (by unfold maxLen; omega) (p := ((k : Nat) : Int)) (f := don) (t := sin) ⟨by omega, by omega⟩ ⟨by omega, by omega⟩ ⟨by omega, by omega⟩ (⟨b.p, b.e, b.r, b.f⟩ : ChT)
     refine sd_do (i := 6) rfl (by kernel_rfl) rfl W40 (ex_update rfl (by kernel_rfl) (by kernel_rfl) (by kernel_rfl) hrp) ⟨(hFb.kept hgp (by omega)), (Q7.kept hgp (by omega)), (Q3.kept hgp (by omega)), (Q4.kept hgp (by omega)), (hO.kept hgp (by omega)), (M21.kept hgp (by omega)), (M24.kept hgp (by omega)), trivial⟩ ?_ AllReadyH.nil
     replace HB := HB.grown hgp (fun i hi e => by simp only [Option.some.injEq] at e; omega)
     replace hm := hmp
     replace hFb := hFb.kept hgp (by omega)
     replace Q7 := Q7.kept hgp (by omega)
     replace Q3 := Q3.kept hgp (by omega)
     replace Q4 := Q4.kept hgp (by omega)
     replace M21 := M21.kept hgp (by omega)
     replace M24 := M24.kept hgp (by omega)
     have zpW40 := hgp.size
     refine sd_done (by kernel_rfl) ?_
     refine sx_norm (wp_seq (wp_region_lit ?_))
     refine Zw rfl (.agg #[.bool b.p, .int .i64 b.e, .bool b.r, .bool b.f]) (ex_load rfl Q7 (by kernel_rfl) Tryd.underlying126 rfl (by kernel_rfl)) ?_
     refine Zr (cells := #[.bool b.p, .int .i64 b.e, .bool b.r, .bool b.f]) rfl rfl Q4 (fun W41 hg hq => ?_)
     replace HB := HB.grown hg (fun i hi e => by simp only [Option.some.injEq] at e; omega)
     replace hm := hm.kept hg (by omega)
     replace hFb := hFb.kept hg (by omega)
     replace Q7 := Q7.kept hg (by omega)
     replace Q3 := Q3.kept hg (by omega)
     replace M21 := M21.kept hg (by omega)
     replace M24 := M24.kept hg (by omega)
     have z10 := hg.size
     replace Q4 := hq
     clear hq hg
     refine wpList_nil (sx_norm (wp_ret ?_))
     have hgz : GoodH c F (putH g8 ((k : Nat) : Int) don sin (⟨b.p, b.e, b.r, b.f⟩ : ChT)) := by
      have h8 := (by assumption : GoodH c F g8).put (k := k) (f := don) (t := sin)
      rw [show c.n - k = m + 1 by omega, eB] at h8
      exact h8
     exact sx_retc Q4 rfl rfl (by kernel_rfl) Tryd.underlying126 rfl (by kernel_rfl) ⟨by rw [eB]; rfl, ⟨_, _, hm, hgz, by show n8 + 1 ≤ n + (2 * cntB m + 1); omega⟩, HB⟩
    refine Zw rfl (.bool false) (ex_load1 (v := .bool false) rfl (by have h8 := Q7.cell 3 rfl; rw [show b.f = false by simpa using C13] at h8; exact h8) (by kernel_rfl) Tryd.underlying4 rfl) ?_
    refine wpList_nil (sx_norm ?_)
    refine sx_false (by kernel_rfl) ?_
    refine wp_skip ?_
    refine sx_in ?_
    refine sx_norm (wp_region_lit ?_)
    refine sx_int (by kernel_rfl) rfl rfl .i64 (IntKind.i64.wrap (((i : Nat) : Int) + 1)) (((i + 1 : Nat) : Int)) (by kernel_rfl) (by rw [IntKind.wrap_i64]; omega) ?_
    refine Zv rfl (.int .i64 ((i + 1 : Nat) : Int)) ?_
    refine wpList_nil (sx_norm ?_)
    exact sx_again ((CrT.opts F k).length - (i + 1)) (i + 1, ((stB c (c.best F m (k + 1)) k don sin) b ((CrT.opts F k).getD i false)), n8, g8) (by omega) (by kernel_rfl) ⟨by show i + 1 ≤ _; omega, Nat.le_refl _, (by rw [eS]; exact Q7), (by first | (rw [eS]; done) | (rw [eS]; exact Bool.eq_false_iff.2 (by assumption))), (by rw [hfo, foldB_go (by omega) (by rw [eS]; first | assumption | decide | simp)]), hm, hgd8, by show n8 ≤ n + (i + 1) * cntB m; rw [Nat.add_mul]; omega, HB, Q3, Q4, hO, by show _ ≤ _; omega⟩
   refine sx_call (by kernel_rfl) rfl rfl ((by have h8 := fnext_n c hc K q qf mb F oF cF b9 q9 wr19 (hst _ HB) k (by omega) don sin hd hs ((CrT.opts F k).getD i false); rw [decide_eq_false C4] at h8; exact h8)) (by kernel_rfl) ?_
   rintro e W42 ⟨rfl, hb⟩
   replace HB := HB.below hb
   replace hm := hm.below hb
   replace hFb := hFb.below hb
   replace Q7 := Q7.below hb
   replace Q3 := Q3.below hb
   replace Q4 := Q4.below hb
   replace hO := hO.below hb
   have z6 := hb.size
   clear hb
   refine ⟨_, rfl, ?_⟩
   refine Zv rfl (.tuple #[.agg #[.int .i64 ((k + 1 : Nat) : Int), .int .i64 ((c.legA k don sin ((CrT.opts F k).getD i false)).don), .int .i64 ((c.legA k don sin ((CrT.opts F k).getD i false)).sin)], .bool false]) ?_
   refine Zv rfl (.agg #[.int .i64 ((k + 1 : Nat) : Int), .int .i64 ((c.legA k don sin ((CrT.opts F k).getD i false)).don), .int .i64 ((c.legA k don sin ((CrT.opts F k).getD i false)).sin)]) ?_
   refine Zv rfl (.bool false) ?_
   obtain ⟨W44, hW⟩ : ∃ W, (W42.alloc (.cells #[.int .i64 0, .int .i64 0, .int .i64 0] 124)).setRow W42.heap.size #[.int .i64 ((k + 1 : Nat) : Int), .int .i64 ((c.legA k don sin ((CrT.opts F k).getD i false)).don), .int .i64 ((c.legA k don sin ((CrT.opts F k).getD i false)).sin)] = W := ⟨_, rfl⟩
   have hb := hW ▸ below_var W42 (.cells #[.int .i64 0, .int .i64 0, .int .i64 0] 124) #[.int .i64 ((k + 1 : Nat) : Int), .int .i64 ((c.legA k don sin ((CrT.opts F k).getD i false)).don), .int .i64 ((c.legA k don sin ((CrT.opts F k).getD i false)).sin)]
   have hq : Cb W44 W42.heap.size #[.int .i64 ((k + 1 : Nat) : Int), .int .i64 ((c.legA k don sin ((CrT.opts F k).getD i false)).don), .int .i64 ((c.legA k don sin ((CrT.opts F k).getD i false)).sin)] 124 := hW ▸ Cb.row (Cb.made W42 #[.int .i64 0, .int .i64 0, .int .i64 0] 124) _
   refine sx_mem (by kernel_rfl) rfl rfl (.pointer (some ⟨W42.heap.size, 0, none⟩)) (W42.alloc (.cells #[.int .i64 0, .int .i64 0, .int .i64 0] 124)) (by kernel_rfl) ?_
   refine Zs (cells := #[.int .i64 ((k + 1 : Nat) : Int), .int .i64 ((c.legA k don sin ((CrT.opts F k).getD i false)).don), .int .i64 ((c.legA k don sin ((CrT.opts F k).getD i false)).sin)]) rfl rfl (Cb.made W42 #[.int .i64 0, .int .i64 0, .int .i64 0] 124) ?_
   rw [hW]
   replace HB := HB.below hb
   replace hm := hm.below hb
   replace hFb := hFb.below hb
   replace Q7 := Q7.below hb
   replace Q3 := Q3.below hb
   replace Q4 := Q4.below hb
   replace hO := hO.below hb
   have z7 := hb.size
   have M43 := hq
   have yM43 := hq.lt
   clear hq hb hW
   refine Zv rfl (.bool false) ?_
   refine wpList_nil (sx_norm (wp_seq (wp_seq (wp_region_lit ?_))))
   refine Zv rfl (.bool false) ?_
   refine Zv rfl (.bool true) ?_
   refine wpList_nil (sx_norm ?_)
   refine sx_true (by kernel_rfl) ?_
   refine wp_exit ?_
   refine sx_es ?_
   refine sx_out ?_
   refine sx_norm (wp_region_lit ?_)
   refine sx_int (by kernel_rfl) rfl rfl .i64 (IntKind.i64.wrap (((i : Nat) : Int) + 1)) (((i + 1 : Nat) : Int)) (by kernel_rfl) (by rw [IntKind.wrap_i64]; omega) ?_
   refine Zv rfl (.int .i64 ((i + 1 : Nat) : Int)) ?_
   refine wpList_nil (sx_norm ?_)
   have eS : (stB c (c.best F m (k + 1)) k don sin) b ((CrT.opts F k).getD i false) = b := by unfold stB; rw [if_neg (by assumption)]
   exact sx_again ((CrT.opts F k).length - (i + 1)) (i + 1, b, n9, g9) (by omega) (by kernel_rfl) ⟨by show i + 1 ≤ _; omega, Nat.le_refl _, Q7, hbf, by rw [hfo, foldB_go (by omega) (by rw [eS, hbf]; decide), eS], hm, hgd, Nat.le_trans hn9 (Nat.add_le_add_left (Nat.mul_le_mul_right _ (by omega)) n), HB, Q3, Q4, hO, by show _ ≤ _; omega⟩
  refine Zb rfl (decide (((i : Nat) : Int) < (((CrT.opts F k).length : Nat) : Int))) false (decide_eq_false (by omega)) ?_
  refine wpList_nil (sx_norm (wp_seq ?_))
  refine sx_false (by kernel_rfl) ?_
  refine wp_exit ?_
  refine sx_es ?_
  refine sx_es ?_
  refine sx_out ?_
  refine sx_norm (wp_seq ?_)
  have eB : c.best F (m + 1) k don sin = b := by rw [CrT.best_succ, hfo, foldB_end (by omega)]
  obtain ⟨Y45, hW⟩ : ∃ W, wr19.drew = W := ⟨_, rfl⟩
  have hb : Below wr19.heap.size wr19 Y45 := hW ▸ below_drew (Below.refl _ _)
  replace HB := HB.below hb
  replace hm := hm.below hb
  replace hFb := hFb.below hb
  replace Q7 := Q7.below hb
  replace Q3 := Q3.below hb
  replace Q4 := Q4.below hb
  replace hO := hO.below hb
  have z6 := hb.size
  clear hb
  refine sd_begin (fun W => Cb W (qf) #[.pointer (some ⟨q, 0, none⟩), .slice oF F.length cF, (.map (some mb))] 122 ∧ Cb W (wr6.heap.size) #[.bool b.p, .int .i64 b.e, .bool b.r, .bool b.f] 126 ∧ Cb W (w.heap.size) #[.int .i64 ((k : Nat) : Int), .int .i64 don, .int .i64 sin] 124 ∧ Cb W (W1.heap.size) #[.bool false, .int .i64 0, .bool false, .bool false] 126 ∧ Rw W bO qO 1 (bF (CrT.opts F k)) ((CrT.opts F k).length) oO ∧ True) (by kernel_rfl) (by rw [hW]; exact ⟨hFb, Q7, Q3, Q4, hO, trivial⟩) ?_
  rw [hW]
  clear hW
  refine Zu 0 rfl rfl (.pointer (some ⟨qf, 0, none⟩)) ⟨hFb, Q7, Q3, Q4, hO, trivial⟩ ?_
  refine Zu 1 rfl rfl (.pointer (some ⟨qf, 0, none⟩)) ⟨hFb, Q7, Q3, Q4, hO, trivial⟩ ?_
  refine Zu 2 rfl rfl (.pointer (some ⟨qf, 2, none⟩)) ⟨hFb, Q7, Q3, Q4, hO, trivial⟩ ?_
  refine Zt 3 rfl rfl ((.map (some mb))) (fun w9 h9 => el (h9.1.cell 2 rfl) Tryd.underlying120) ⟨hFb, Q7, Q3, Q4, hO, trivial⟩ ?_
  refine Zt 4 rfl rfl (.agg #[.int .i64 ((k : Nat) : Int), .int .i64 don, .int .i64 sin]) (fun w9 h9 => ex_load rfl h9.2.2.1 (by kernel_rfl) Tryd.underlying124 rfl (by kernel_rfl)) ⟨hFb, Q7, Q3, Q4, hO, trivial⟩ ?_
  refine Zt 5 rfl rfl (.agg #[.bool b.p, .int .i64 b.e, .bool b.r, .bool b.f]) (fun w9 h9 => ex_load rfl h9.2.1 (by kernel_rfl) Tryd.underlying126 rfl (by kernel_rfl)) ⟨hFb, Q7, Q3, Q4, hO, trivial⟩ ?_
  refine sd_all [6] (by kernel_rfl) (by decide) ?_
  obtain ⟨W46, hrp, hmp, hgp⟩ := hm.put (by unfold maxLen; omega) (p := ((k : Nat) : Int)) (f := don) (t := sin) ⟨by omega, by omega⟩ ⟨by omega, by omega⟩ ⟨by omega, by omega⟩ b
  refine sd_do (i := 6) rfl (by kernel_rfl) rfl W46 (ex_update rfl (by kernel_rfl) (by kernel_rfl) (by kernel_rfl) hrp) ⟨(hFb.kept hgp (by omega)), (Q7.kept hgp (by omega)), (Q3.kept hgp (by omega)), (Q4.kept hgp (by omega)), (hO.kept hgp (by omega)), trivial⟩ ?_ AllReadyH.nil
  replace HB := HB.grown hgp (fun i hi e => by simp only [Option.some.injEq] at e; omega)
  replace hm := hmp
  replace hFb := hFb.kept hgp (by omega)
  replace Q7 := Q7.kept hgp (by omega)
  replace Q3 := Q3.kept hgp (by omega)
  replace Q4 := Q4.kept hgp (by omega)
  have zpW46 := hgp.size
  refine sd_done (by kernel_rfl) ?_
  refine sx_norm (wp_seq (wp_region_lit ?_))
  refine Zw rfl (.agg #[.bool b.p, .int .i64 b.e, .bool b.r, .bool b.f]) (ex_load rfl Q7 (by kernel_rfl) Tryd.underlying126 rfl (by kernel_rfl)) ?_
  refine Zr (cells := #[.bool b.p, .int .i64 b.e, .bool b.r, .bool b.f]) rfl rfl Q4 (fun W47 hg hq => ?_)
  replace HB := HB.grown hg (fun i hi e => by simp only [Option.some.injEq] at e; omega)
  replace hm := hm.kept hg (by omega)
  replace hFb := hFb.kept hg (by omega)
  replace Q7 := Q7.kept hg (by omega)
  replace Q3 := Q3.kept hg (by omega)
  have z7 := hg.size
  replace Q4 := hq
  clear hq hg
  refine wpList_nil (sx_norm (wp_ret ?_))
  have hgz : GoodH c F (putH g9 ((k : Nat) : Int) don sin b) := by
   have h8 := (by assumption : GoodH c F g9).put (k := k) (f := don) (t := sin)
   rw [show c.n - k = m + 1 by omega, eB] at h8
   exact h8
  exact sx_retc Q4 rfl rfl (by kernel_rfl) Tryd.underlying126 rfl (by kernel_rfl) ⟨by rw [eB]; rfl, ⟨_, _, hm, hgz, by show n9 + 1 ≤ n + (2 * cntB m + 1); omega⟩, HB⟩

end Go.Proofs.YtomebalolmabnaaDoor.T



