/-
  DERIVED. Sr: a part of the base of layer 13 (made by pack.py).
-/
import Derived.Test.YtoliacfpjhanlaaSm
import Derived.Test.YtoliacfpjhanlaaSq
/-! The walk of the search (by gen_sr.py). -/
namespace Go.Proofs.Ytoliacfpjhanlaa.T
open Go.RowKit
set_option maxRecDepth 8000
attribute [local irreducible] wpList Code.wp wpAnyH

theorem own_one {B : Nat} {w : World} {fv : Value} {vs : List Value} (h : Fo B w fv vs) : fv.oneCell' = true := by
  obtain ⟨oa, c, rfl⟩ := h.form
  rfl
theorem extend_n (C : Sc) (x : WaT) (hx : x.B) (ok : C.Ok x) : ∀ (N : Nat) (L : List (Int × Bool)) (d : Nat × Nat) (la : Option Addr) (lc : Nat) (fv : Value) (vs : List Value) (f : List (List (Int × Bool))) (w : World), x.mu d < N → Dn d → L.length + N ≤ 1000 → f.length ≤ 8192 → St C x w (.slice la L.length lc) L fv vs w.heap.size fv fv vs f w → Calls Try.prog 38 #[.slice la L.length lc, .agg #[.int .i64 ((d.1 : Nat) : Int), .int .i64 ((d.2 : Nat) : Int)], .pointer (some ⟨C.qW, 0, none⟩), .pointer (some ⟨C.qF, 0, none⟩), .pointer (some ⟨C.qE, 0, none⟩)] w fun e w' => e = .returned (.tuple #[]) ∧ Ep C w (.slice la L.length lc) L fv vs (extF x N L d f) w' := by
  intro N
  induction N with
  | zero => intro L d la lc fv vs f w h; omega
  | succ n ih =>
    intro L d la lc fv vs f w hmu hd hLN hfl ST
    have hfv0 : ∀ k, fv.ownBlock = some k → k < w.heap.size := fun k e => (Fo.lt ST.hf e).2
    have hll : L.length ≤ 1000 := by omega
    have hn63 : (nextW x d).length ≤ 63 := Nat.le_trans (nxtK_len _ _ _ _ _) hx.l
    refine sx_enter Try.func38 rfl [(0, .slice la L.length lc), (1, .agg #[.int .i64 ((d.1 : Nat) : Int), .int .i64 ((d.2 : Nat) : Int)]), (2, .pointer (some ⟨C.qW, 0, none⟩)), (3, .pointer (some ⟨C.qF, 0, none⟩)), (4, .pointer (some ⟨C.qE, 0, none⟩))] (by kernel_rfl) ?_
    refine wp_seq ?_
    refine wp_region_lit ?_
    obtain ⟨W1, hW⟩ : ∃ W, w.alloc (.cells #[.int .i64 ((d.1 : Nat) : Int), .int .i64 ((d.2 : Nat) : Int)] 72) = W := ⟨_, rfl⟩
    have hb := hW ▸ below_alloc w (.cells #[.int .i64 ((d.1 : Nat) : Int), .int .i64 ((d.2 : Nat) : Int)] 72)
    have hq : Cb W1 w.heap.size #[.int .i64 ((d.1 : Nat) : Int), .int .i64 ((d.2 : Nat) : Int)] 72 := hW ▸ Cb.made w #[.int .i64 ((d.1 : Nat) : Int), .int .i64 ((d.2 : Nat) : Int)] 72
    refine sx_mem (by kernel_rfl) rfl rfl (.pointer (some ⟨w.heap.size, 0, none⟩)) W1 (by rw [← hW]; kernel_rfl) ?_
    replace ST := ST.below hb
    have z1 := hb.size
    have M2 := hq
    have yM2 := hq.lt
    clear hq hb hW
    refine wpList_nil ?_
    refine sx_norm ?_
    refine wp_seq ?_
    refine wp_region_lit ?_
    refine sx_val (by kernel_rfl) rfl rfl (.agg #[.int .i64 ((x.W : Nat) : Int), .int .i64 ((x.P : Nat) : Int), .int .i64 ((x.D : Nat) : Int), .slice C.oA x.A.length C.cA]) (ex_load rfl ST.hW (by kernel_rfl) Try.underlying74 rfl (by kernel_rfl)) ?_
    refine sx_val (by kernel_rfl) rfl rfl (.agg #[.int .i64 ((d.1 : Nat) : Int), .int .i64 ((d.2 : Nat) : Int)]) (ex_load rfl M2 (by kernel_rfl) Try.underlying72 rfl (by kernel_rfl)) ?_
    refine sx_call (by kernel_rfl) rfl rfl (next_n x hx d hd.1 hd.2 C.oA C.cA C.bA C.pA W1 ST.hA) (by kernel_rfl) ?_
    rintro e W3 ⟨oan, cn, rfl, ⟨hvn, hgn, -⟩, hb⟩
    replace ST := ST.below hb
    replace M2 := M2.below hb
    have z2 := hb.size
    clear hb
    refine ⟨_, rfl, ?_⟩
    obtain ⟨bn, qn, NX⟩ := hvn.rw2
    have hbn : ∀ k, k < (nextW x d).length → W1.heap.size ≤ bn ∧ bn < W3.heap.size := fun k hk => ⟨hgn.blk bn (by rw [NX.oa hk]; rfl), NX.lt hk⟩
    clear hvn hgn
    replace ST := ST.mark W3.heap.size (by omega)
    obtain ⟨m, hm⟩ : ∃ m, W3.heap.size = m := ⟨_, rfl⟩
    have hmM : w.heap.size < m := by omega
    have hbm : ∀ k, k < (nextW x d).length → w.heap.size < bn ∧ bn < m := fun k hk => by have h8 := hbn k hk; omega
    rw [hm] at ST
    clear hbn
    refine sx_val (by kernel_rfl) rfl rfl (.slice oan (nextW x d).length cn) (by kernel_rfl) ?_
    refine wpList_nil ?_
    refine sx_norm ?_
    refine sx_cut (fun _i : Unit => [(0, .slice la L.length lc), (1, .agg #[.int .i64 ((d.1 : Nat) : Int), .int .i64 ((d.2 : Nat) : Int)]), (2, .pointer (some ⟨C.qW, 0, none⟩)), (3, .pointer (some ⟨C.qF, 0, none⟩)), (4, .pointer (some ⟨C.qE, 0, none⟩)), (6, .pointer (some ⟨w.heap.size, 0, none⟩)), (7, .slice oan (nextW x d).length cn), (10, .agg #[.int .i64 ((x.W : Nat) : Int), .int .i64 ((x.P : Nat) : Int), .int .i64 ((x.D : Nat) : Int), .slice C.oA x.A.length C.cA]), (11, .agg #[.int .i64 ((d.1 : Nat) : Int), .int .i64 ((d.2 : Nat) : Int)]), (12, .slice oan (nextW x d).length cn)]) (fun _i wr => ∃ fv1 vs1, St C x w (.slice la L.length lc) L fv vs m fv1 fv1 vs1 (if (nextW x d).length = 0 ∧ 0 < L.length then f ++ [L] else f) wr ∧ Cb wr w.heap.size #[.int .i64 ((d.1 : Nat) : Int), .int .i64 ((d.2 : Nat) : Int)] 72 ∧ Rw wr bn qn 2 (vF (nextW x d)) (nextW x d).length oan ∧ m ≤ wr.heap.size) ?_ ?_
    · refine wp_seq ?_
      refine wp_region_lit ?_
      refine sx_val (by kernel_rfl) rfl rfl (.slice oan (nextW x d).length cn) (by kernel_rfl) ?_
      refine sx_val (by kernel_rfl) rfl rfl (.int .i64 (((nextW x d).length : Nat) : Int)) (by kernel_rfl) ?_
      by_cases C1 : (nextW x d).length = 0
      · refine sx_bool (by kernel_rfl) rfl rfl (((((nextW x d).length : Nat) : Int) : Int) == (0 : Int)) true (by kernel_rfl) (beq_iff_eq.2 (by omega)) ?_
        refine sx_val (by kernel_rfl) rfl rfl (.bool true) (by kernel_rfl) ?_
        refine sx_val (by kernel_rfl) rfl rfl (.slice la L.length lc) (by kernel_rfl) ?_
        refine sx_val (by kernel_rfl) rfl rfl (.int .i64 ((L.length : Nat) : Int)) (by kernel_rfl) ?_
        by_cases C2 : L.length > 0
        · refine sx_bool (by kernel_rfl) rfl rfl (decide (((L.length : Nat) : Int) > 0)) true (by kernel_rfl) (decide_eq_true (by omega)) ?_
          refine sx_val (by kernel_rfl) rfl rfl (.bool true) (by kernel_rfl) ?_
          refine wpList_nil ?_
          refine sx_norm ?_
          refine sx_true (by kernel_rfl) ?_
          obtain ⟨g, lc', hlv, -, -⟩ := gw_some ST.hl (by assumption)
          simp only [Value.slice.injEq, true_and] at hlv
          obtain ⟨rfl, rfl⟩ := hlv
          obtain ⟨Y5, hW⟩ : ∃ W, W3.drew = W := ⟨_, rfl⟩
          have hb : Below W3.heap.size W3 Y5 := hW ▸ below_drew (Below.refl _ _)
          replace ST := ST.below hb
          replace M2 := M2.below hb
          replace NX := NX.below hb
          have z3 := hb.size
          clear hb
          refine sd_begin (fun W => True) (by kernel_rfl) trivial ?_
          rw [hW]
          clear hW
          refine sd_take 1 rfl (by kernel_rfl) (by kernel_rfl) (by kernel_rfl) (by kernel_rfl) rfl rfl (.slice (some ⟨g, 0, none⟩) L.length lc) (fun w9 _ => by kernel_rfl) (fun _ _ _ h => h) trivial ?_
          refine sd_all [0, 2] (by kernel_rfl) (by decide) ?_
          refine sd_mem (i := 0) rfl (by kernel_rfl) rfl rfl (fv) Y5 (ex_load1 rfl (ST.hF.cell 0 rfl) (by kernel_rfl) Try.underlying40 rfl) trivial ?_ ?_
          · refine sd_all [2] (by kernel_rfl) (by decide) ?_
            have hz0 : w.heap.size ≤ Y5.heap.size := ST.hk.size
            refine sd_call (i := 2) rfl (by kernel_rfl) rfl rfl (cloneV_n g lc L (by assumption) (by omega) Y5 (gw_row ST.hl)) (by kernel_rfl) ?_ AllReadyH.nil
            rintro e W6 ⟨u9, rfl, hu9, hub9, hb⟩
            obtain ⟨ub9, uc9, hu8, -, -⟩ := id hu9
            subst hu8
            replace ST := ST.below hb
            replace M2 := M2.below hb
            replace NX := NX.below hb
            have z4 := hb.size
            clear hb
            refine ⟨_, rfl, trivial, ?_⟩
            have hub8 : ∀ b, Value.ownBlock (.slice (some ⟨ub9, 0, none⟩) L.length uc9) = some b → w.heap.size ≤ b ∧ fv.ownBlock ≠ some b := fun b hb9 => ⟨by have h8 := hub9 b hb9; omega, fun e => by have h8 := hub9 b hb9; have h7 := hfv0 b e; omega⟩
            refine sd_all [3] (by kernel_rfl) (by decide) ?_
            refine sd_mem (i := 3) rfl (by kernel_rfl) rfl rfl (.slice (some ⟨W6.heap.size, 0, none⟩) 1 1) (W6.alloc (.cells #[.slice (some ⟨ub9, 0, none⟩) L.length uc9] 32)) (by kernel_rfl) trivial ?_ AllReadyH.nil
            obtain ⟨W7, hW⟩ : ∃ W, W6.alloc (.cells #[.slice (some ⟨ub9, 0, none⟩) L.length uc9] 32) = W := ⟨_, rfl⟩
            have hb := hW ▸ below_alloc W6 (.cells #[.slice (some ⟨ub9, 0, none⟩) L.length uc9] 32)
            have hq : Cb W7 W6.heap.size #[.slice (some ⟨ub9, 0, none⟩) L.length uc9] 32 := hW ▸ Cb.made W6 #[.slice (some ⟨ub9, 0, none⟩) L.length uc9] 32
            rw [hW]
            replace ST := ST.below hb
            replace M2 := M2.below hb
            replace NX := NX.below hb
            replace hu9 := hu9.below hb
            have z5 := hb.size
            have M8 := hq
            have yM8 := hq.lt
            clear hq hb hW
            refine sd_all [4] (by kernel_rfl) (by decide) ?_
            obtain ⟨v5, W9, h5, hf5, hg5, ho5⟩ := ap_f16 40 ST.hf M8 hu9.one (by have h8 := ST.hk.size; have h7 := ST.b0; omega) (by have h8 := ST.el.len; omega)
            have ST5 := ST.app ok (by omega) hu9 hub8 hf5 hg5 ho5
            have hq5 : ∀ q, w.heap.size ≤ q → fv.ownBlock ≠ some q := fun q hq e => by have h8 := hfv0 q e; omega
            replace M2 := M2.grownO hg5 (hq5 _ (Nat.le_refl _))
            replace NX := NX.grownO hg5 (fun k hk => hq5 _ (by have h8 := hbm k hk; omega))
            have z9W9 := hg5.size
            clear ST hg5 hf5 hu9
            have ST := ST5
            clear ST5
            refine sd_mem (i := 4) rfl (by kernel_rfl) rfl rfl v5 W9 (ex_append rfl (by kernel_rfl) (by kernel_rfl) h5) trivial ?_ AllReadyH.nil
            refine sd_all [5] (by kernel_rfl) (by decide) ?_
            refine sd_do (i := 5) rfl (by kernel_rfl) rfl (W9.setCell ⟨C.qF, 0, none⟩ v5) (ex_store1 rfl (ST.hF.cell 0 rfl) (ST.hF.f 0) (own_one ST.hf) (by kernel_rfl) (by kernel_rfl) (by kernel_rfl)) trivial ?_ AllReadyH.nil
            obtain ⟨W10, hW⟩ : ∃ W, W9.setCell ⟨C.qF, 0, none⟩ v5 = W := ⟨_, rfl⟩
            have hg : W9.grownBy W10 (some C.qF) := hW ▸ grown_set _ _ _ _
            have zW10 := hg.size
            replace ST := ST.store ok
            rw [hW] at ST ⊢
            have hqF := ok.f
            have hb0 := ST.b0
            replace M2 := M2.grownO hg (by intro e; simp only [Option.some.injEq] at e; omega)
            replace NX := NX.grownO hg (fun k hk e => by have h8 := hbm k hk; simp only [Option.some.injEq] at e; omega)
            clear hW hg
            refine sd_done (by kernel_rfl) ?_
            refine sx_norm ?_
            have e1 : (if (nextW x d).length = 0 ∧ 0 < L.length then f ++ [L] else f) = f ++ [L] := if_pos ⟨by assumption, by assumption⟩
            refine ⟨(), ?_, fr_less (by kernel_rfl)⟩
            rw [e1]
            exact ⟨_, _, ST, M2, NX, by omega⟩
          have hz0 : w.heap.size ≤ Y5.heap.size := ST.hk.size
          refine sd_call (i := 2) rfl (by kernel_rfl) rfl rfl (cloneV_n g lc L (by assumption) (by omega) Y5 (gw_row ST.hl)) (by kernel_rfl) ?_ AllReadyH.nil
          rintro e W11 ⟨u9, rfl, hu9, hub9, hb⟩
          obtain ⟨ub9, uc9, hu8, -, -⟩ := id hu9
          subst hu8
          replace ST := ST.below hb
          replace M2 := M2.below hb
          replace NX := NX.below hb
          have z4 := hb.size
          clear hb
          refine ⟨_, rfl, trivial, ?_⟩
          have hub8 : ∀ b, Value.ownBlock (.slice (some ⟨ub9, 0, none⟩) L.length uc9) = some b → w.heap.size ≤ b ∧ fv.ownBlock ≠ some b := fun b hb9 => ⟨by have h8 := hub9 b hb9; omega, fun e => by have h8 := hub9 b hb9; have h7 := hfv0 b e; omega⟩
          refine sd_all [0, 3] (by kernel_rfl) (by decide) ?_
          refine sd_mem (i := 0) rfl (by kernel_rfl) rfl rfl (fv) W11 (ex_load1 rfl (ST.hF.cell 0 rfl) (by kernel_rfl) Try.underlying40 rfl) trivial ?_ ?_
          · refine sd_all [3] (by kernel_rfl) (by decide) ?_
            refine sd_mem (i := 3) rfl (by kernel_rfl) rfl rfl (.slice (some ⟨W11.heap.size, 0, none⟩) 1 1) (W11.alloc (.cells #[.slice (some ⟨ub9, 0, none⟩) L.length uc9] 32)) (by kernel_rfl) trivial ?_ AllReadyH.nil
            obtain ⟨W12, hW⟩ : ∃ W, W11.alloc (.cells #[.slice (some ⟨ub9, 0, none⟩) L.length uc9] 32) = W := ⟨_, rfl⟩
            have hb := hW ▸ below_alloc W11 (.cells #[.slice (some ⟨ub9, 0, none⟩) L.length uc9] 32)
            have hq : Cb W12 W11.heap.size #[.slice (some ⟨ub9, 0, none⟩) L.length uc9] 32 := hW ▸ Cb.made W11 #[.slice (some ⟨ub9, 0, none⟩) L.length uc9] 32
            rw [hW]
            replace ST := ST.below hb
            replace M2 := M2.below hb
            replace NX := NX.below hb
            replace hu9 := hu9.below hb
            have z5 := hb.size
            have M13 := hq
            have yM13 := hq.lt
            clear hq hb hW
            refine sd_all [4] (by kernel_rfl) (by decide) ?_
            obtain ⟨v5, W14, h5, hf5, hg5, ho5⟩ := ap_f16 40 ST.hf M13 hu9.one (by have h8 := ST.hk.size; have h7 := ST.b0; omega) (by have h8 := ST.el.len; omega)
            have ST5 := ST.app ok (by omega) hu9 hub8 hf5 hg5 ho5
            have hq5 : ∀ q, w.heap.size ≤ q → fv.ownBlock ≠ some q := fun q hq e => by have h8 := hfv0 q e; omega
            replace M2 := M2.grownO hg5 (hq5 _ (Nat.le_refl _))
            replace NX := NX.grownO hg5 (fun k hk => hq5 _ (by have h8 := hbm k hk; omega))
            have z9W14 := hg5.size
            clear ST hg5 hf5 hu9
            have ST := ST5
            clear ST5
            refine sd_mem (i := 4) rfl (by kernel_rfl) rfl rfl v5 W14 (ex_append rfl (by kernel_rfl) (by kernel_rfl) h5) trivial ?_ AllReadyH.nil
            refine sd_all [5] (by kernel_rfl) (by decide) ?_
            refine sd_do (i := 5) rfl (by kernel_rfl) rfl (W14.setCell ⟨C.qF, 0, none⟩ v5) (ex_store1 rfl (ST.hF.cell 0 rfl) (ST.hF.f 0) (own_one ST.hf) (by kernel_rfl) (by kernel_rfl) (by kernel_rfl)) trivial ?_ AllReadyH.nil
            obtain ⟨W15, hW⟩ : ∃ W, W14.setCell ⟨C.qF, 0, none⟩ v5 = W := ⟨_, rfl⟩
            have hg : W14.grownBy W15 (some C.qF) := hW ▸ grown_set _ _ _ _
            have zW15 := hg.size
            replace ST := ST.store ok
            rw [hW] at ST ⊢
            have hqF := ok.f
            have hb0 := ST.b0
            replace M2 := M2.grownO hg (by intro e; simp only [Option.some.injEq] at e; omega)
            replace NX := NX.grownO hg (fun k hk e => by have h8 := hbm k hk; simp only [Option.some.injEq] at e; omega)
            clear hW hg
            refine sd_done (by kernel_rfl) ?_
            refine sx_norm ?_
            have e1 : (if (nextW x d).length = 0 ∧ 0 < L.length then f ++ [L] else f) = f ++ [L] := if_pos ⟨by assumption, by assumption⟩
            refine ⟨(), ?_, fr_less (by kernel_rfl)⟩
            rw [e1]
            exact ⟨_, _, ST, M2, NX, by omega⟩
          refine sd_mem (i := 3) rfl (by kernel_rfl) rfl rfl (.slice (some ⟨W11.heap.size, 0, none⟩) 1 1) (W11.alloc (.cells #[.slice (some ⟨ub9, 0, none⟩) L.length uc9] 32)) (by kernel_rfl) trivial ?_ AllReadyH.nil
          obtain ⟨W16, hW⟩ : ∃ W, W11.alloc (.cells #[.slice (some ⟨ub9, 0, none⟩) L.length uc9] 32) = W := ⟨_, rfl⟩
          have hb := hW ▸ below_alloc W11 (.cells #[.slice (some ⟨ub9, 0, none⟩) L.length uc9] 32)
          have hq : Cb W16 W11.heap.size #[.slice (some ⟨ub9, 0, none⟩) L.length uc9] 32 := hW ▸ Cb.made W11 #[.slice (some ⟨ub9, 0, none⟩) L.length uc9] 32
          rw [hW]
          replace ST := ST.below hb
          replace M2 := M2.below hb
          replace NX := NX.below hb
          replace hu9 := hu9.below hb
          have z5 := hb.size
          have M17 := hq
          have yM17 := hq.lt
          clear hq hb hW
          refine sd_all [0] (by kernel_rfl) (by decide) ?_
          refine sd_mem (i := 0) rfl (by kernel_rfl) rfl rfl (fv) W16 (ex_load1 rfl (ST.hF.cell 0 rfl) (by kernel_rfl) Try.underlying40 rfl) trivial ?_ AllReadyH.nil
          refine sd_all [4] (by kernel_rfl) (by decide) ?_
          obtain ⟨v5, W18, h5, hf5, hg5, ho5⟩ := ap_f16 40 ST.hf M17 hu9.one (by have h8 := ST.hk.size; have h7 := ST.b0; omega) (by have h8 := ST.el.len; omega)
          have ST5 := ST.app ok (by omega) hu9 hub8 hf5 hg5 ho5
          have hq5 : ∀ q, w.heap.size ≤ q → fv.ownBlock ≠ some q := fun q hq e => by have h8 := hfv0 q e; omega
          replace M2 := M2.grownO hg5 (hq5 _ (Nat.le_refl _))
          replace NX := NX.grownO hg5 (fun k hk => hq5 _ (by have h8 := hbm k hk; omega))
          have z9W18 := hg5.size
          clear ST hg5 hf5 hu9
          have ST := ST5
          clear ST5
          refine sd_mem (i := 4) rfl (by kernel_rfl) rfl rfl v5 W18 (ex_append rfl (by kernel_rfl) (by kernel_rfl) h5) trivial ?_ AllReadyH.nil
          refine sd_all [5] (by kernel_rfl) (by decide) ?_
          refine sd_do (i := 5) rfl (by kernel_rfl) rfl (W18.setCell ⟨C.qF, 0, none⟩ v5) (ex_store1 rfl (ST.hF.cell 0 rfl) (ST.hF.f 0) (own_one ST.hf) (by kernel_rfl) (by kernel_rfl) (by kernel_rfl)) trivial ?_ AllReadyH.nil
          obtain ⟨W19, hW⟩ : ∃ W, W18.setCell ⟨C.qF, 0, none⟩ v5 = W := ⟨_, rfl⟩
          have hg : W18.grownBy W19 (some C.qF) := hW ▸ grown_set _ _ _ _
          have zW19 := hg.size
          replace ST := ST.store ok
          rw [hW] at ST ⊢
          have hqF := ok.f
          have hb0 := ST.b0
          replace M2 := M2.grownO hg (by intro e; simp only [Option.some.injEq] at e; omega)
          replace NX := NX.grownO hg (fun k hk e => by have h8 := hbm k hk; simp only [Option.some.injEq] at e; omega)
          clear hW hg
          refine sd_done (by kernel_rfl) ?_
          refine sx_norm ?_
          have e1 : (if (nextW x d).length = 0 ∧ 0 < L.length then f ++ [L] else f) = f ++ [L] := if_pos ⟨by assumption, by assumption⟩
          refine ⟨(), ?_, fr_less (by kernel_rfl)⟩
          rw [e1]
          exact ⟨_, _, ST, M2, NX, by omega⟩
        refine sx_bool (by kernel_rfl) rfl rfl (decide (((L.length : Nat) : Int) > 0)) false (by kernel_rfl) (decide_eq_false (by omega)) ?_
        refine sx_val (by kernel_rfl) rfl rfl (.bool false) (by kernel_rfl) ?_
        refine wpList_nil ?_
        refine sx_norm ?_
        refine sx_false (by kernel_rfl) ?_
        refine wp_skip ?_
        refine sx_norm ?_
        have e1 : (if (nextW x d).length = 0 ∧ 0 < L.length then f ++ [L] else f) = f := if_neg (by rintro ⟨h8, h9⟩; first | exact absurd h8 (by assumption) | exact absurd h9 (by assumption))
        refine ⟨(), ?_, fr_less (by kernel_rfl)⟩
        rw [e1]
        exact ⟨_, _, ST, M2, NX, by omega⟩
      refine sx_bool (by kernel_rfl) rfl rfl (((((nextW x d).length : Nat) : Int) : Int) == (0 : Int)) false (by kernel_rfl) (beq_eq_false_iff_ne.2 (by omega)) ?_
      refine sx_val (by kernel_rfl) rfl rfl (.bool false) (by kernel_rfl) ?_
      refine sx_skip (by kernel_rfl) rfl rfl ?_
      refine sx_skip (by kernel_rfl) rfl rfl ?_
      refine sx_skip (by kernel_rfl) rfl rfl ?_
      refine sx_val (by kernel_rfl) rfl rfl (.bool false) (by kernel_rfl) ?_
      refine wpList_nil ?_
      refine sx_norm ?_
      refine sx_false (by kernel_rfl) ?_
      refine wp_skip ?_
      refine sx_norm ?_
      have e1 : (if (nextW x d).length = 0 ∧ 0 < L.length then f ++ [L] else f) = f := if_neg (by rintro ⟨h8, h9⟩; first | exact absurd h8 (by assumption) | exact absurd h9 (by assumption))
      refine ⟨(), ?_, fr_less (by kernel_rfl)⟩
      rw [e1]
      exact ⟨_, _, ST, M2, NX, by omega⟩
    rintro _i g' wr4 ⟨fv1, vs1, ST, M2, NX, hmw⟩
    have hfl : (if (nextW x d).length = 0 ∧ 0 < L.length then f ++ [L] else f).length ≤ 8193 := by split <;> first | omega | (rw [List.length_append]; simp only [List.length_singleton]; omega)
    refine wp_seq ?_
    refine wp_region_lit ?_
    refine sx_val (by kernel_rfl) rfl rfl (.slice oan (nextW x d).length cn) (by kernel_rfl) ?_
    refine sx_val (by kernel_rfl) rfl rfl (.int .i64 (((nextW x d).length : Nat) : Int)) (by kernel_rfl) ?_
    refine sx_val (by kernel_rfl) rfl rfl (.int .i64 0) (by kernel_rfl) ?_
    refine wpList_nil ?_
    refine sx_norm ?_
    refine wp_block ?_
    refine sx_loop (fun j : Nat => [(0, .slice la L.length lc), (1, .agg #[.int .i64 ((d.1 : Nat) : Int), .int .i64 ((d.2 : Nat) : Int)]), (2, .pointer (some ⟨C.qW, 0, none⟩)), (3, .pointer (some ⟨C.qF, 0, none⟩)), (4, .pointer (some ⟨C.qE, 0, none⟩)), (6, .pointer (some ⟨w.heap.size, 0, none⟩)), (7, .slice oan (nextW x d).length cn), (10, .agg #[.int .i64 ((x.W : Nat) : Int), .int .i64 ((x.P : Nat) : Int), .int .i64 ((x.D : Nat) : Int), .slice C.oA x.A.length C.cA]), (11, .agg #[.int .i64 ((d.1 : Nat) : Int), .int .i64 ((d.2 : Nat) : Int)]), (12, .slice oan (nextW x d).length cn), (26, .slice oan (nextW x d).length cn), (27, .int .i64 (((nextW x d).length : Nat) : Int)), (28, .int .i64 ((j : Nat) : Int))]) (fun gg j wr => j ≤ (nextW x d).length ∧ (nextW x d).length - j ≤ gg ∧ (∃ fv1 vs1, St C x w (.slice la L.length lc) L fv vs m fv1 fv1 vs1 (extJ x n L d (if (nextW x d).length = 0 ∧ 0 < L.length then f ++ [L] else f) j) wr ∧ Cb wr w.heap.size #[.int .i64 ((d.1 : Nat) : Int), .int .i64 ((d.2 : Nat) : Int)] 72 ∧ Rw wr bn qn 2 (vF (nextW x d)) (nextW x d).length oan ∧ m ≤ wr.heap.size)) ((nextW x d).length) (0) (by kernel_rfl) ⟨Nat.zero_le _, Nat.le_refl _, fv1, vs1, ST, M2, NX, hmw⟩ ?_
    rintro gg j g' wr20 ⟨hj, hg, fv5, vs5, ST, M2, NX, hmw⟩
    obtain ⟨of5, cf5, hfv5⟩ := Fo.form ST.hf
    subst hfv5
    have hlen5 := ST.el.len
    have hsz5 := M2.lt
    refine wp_seq ?_
    refine wp_region_lit ?_
    by_cases C3 : j < (nextW x d).length
    · refine sx_bool (by kernel_rfl) rfl rfl (decide (((j : Nat) : Int) < (((nextW x d).length : Nat) : Int))) true (by kernel_rfl) (decide_eq_true (by omega)) ?_
      refine wpList_nil ?_
      refine sx_norm ?_
      refine wp_seq ?_
      refine sx_true (by kernel_rfl) ?_
      refine wp_skip ?_
      refine sx_norm ?_
      refine wp_seq ?_
      refine wp_block ?_
      refine wp_seq ?_
      refine wp_region_lit ?_
      have STr := ST
      have hfl9 := hlen5
      refine sx_val (by kernel_rfl) rfl rfl (.pointer (some ⟨bn, qn + j * 2, none⟩)) (ex_indexO (q := qn) (m := (nextW x d).length) (c := cn) (k := j) (s := 2) rfl (by kernel_rfl) (NX.oa (k := j) (by omega)) (by kernel_rfl) Try.underlying32 (by kernel_rfl) (by omega) (by omega)) ?_
      refine sx_val (by kernel_rfl) rfl rfl (.agg #[.int .i64 (((nextW x d).getD j (0, false)).1), .bool ((nextW x d).getD j (0, false)).2]) (ex_loadR rfl (NX.range (k := j) (by omega)) (by kernel_rfl) Try.underlying52 rfl (by kernel_rfl)) ?_
      obtain ⟨W22, hW⟩ : ∃ W, (wr20.alloc (.cells #[.int .i64 0, .bool false] 52)).setRow wr20.heap.size #[.int .i64 (((nextW x d).getD j (0, false)).1), .bool ((nextW x d).getD j (0, false)).2] = W := ⟨_, rfl⟩
      have hb := hW ▸ below_var wr20 (.cells #[.int .i64 0, .bool false] 52) #[.int .i64 (((nextW x d).getD j (0, false)).1), .bool ((nextW x d).getD j (0, false)).2]
      have hq : Cb W22 wr20.heap.size #[.int .i64 (((nextW x d).getD j (0, false)).1), .bool ((nextW x d).getD j (0, false)).2] 52 := hW ▸ Cb.row (Cb.made wr20 #[.int .i64 0, .bool false] 52) _
      refine sx_mem (by kernel_rfl) rfl rfl (.pointer (some ⟨wr20.heap.size, 0, none⟩)) (wr20.alloc (.cells #[.int .i64 0, .bool false] 52)) (by kernel_rfl) ?_
      refine sx_store (cells := #[.int .i64 (((nextW x d).getD j (0, false)).1), .bool ((nextW x d).getD j (0, false)).2]) (by kernel_rfl) rfl rfl (Cb.made wr20 #[.int .i64 0, .bool false] 52) (by kernel_rfl) (by kernel_rfl) (by kernel_rfl) (by kernel_rfl) (by kernel_rfl) ?_
      rw [hW]
      replace ST := ST.below hb
      replace M2 := M2.below hb
      replace NX := NX.below hb
      have z3 := hb.size
      have M21 := hq
      have yM21 := hq.lt
      clear hq hb hW
      refine wpList_nil ?_
      refine sx_norm ?_
      refine wp_seq ?_
      refine wp_seq ?_
      refine wp_region_lit ?_
      refine sx_val (by kernel_rfl) rfl rfl (.slice of5 vs5.length cf5) (ex_load1 rfl (ST.hF.cell 0 rfl) (by kernel_rfl) Try.underlying40 rfl) ?_
      refine sx_val (by kernel_rfl) rfl rfl (.int .i64 ((vs5.length : Nat) : Int)) (by kernel_rfl) ?_
      by_cases C4 : vs5.length > 8192
      · refine sx_bool (by kernel_rfl) rfl rfl (decide (((vs5.length : Nat) : Int) > 8192)) true (by kernel_rfl) (decide_eq_true (by omega)) ?_
        refine wpList_nil ?_
        refine sx_norm ?_
        refine sx_true (by kernel_rfl) ?_
        refine wp_ret ?_
        refine sx_rs ?_
        refine sx_rb ?_
        refine sx_rs ?_
        refine sx_rs ?_
        refine sx_rb ?_
        refine sx_ret0 rfl ⟨rfl, ?_⟩
        have h9 := ST.done
        rw [← extJ_stop (by omega)] at h9
        rw [extF_succ]
        exact h9
      refine sx_bool (by kernel_rfl) rfl rfl (decide (((vs5.length : Nat) : Int) > 8192)) false (by kernel_rfl) (decide_eq_false (by omega)) ?_
      refine wpList_nil ?_
      refine sx_norm ?_
      refine sx_false (by kernel_rfl) ?_
      refine wp_skip ?_
      refine sx_norm ?_
      have hfl5 : ∀ k, Value.ownBlock (.slice of5 vs5.length cf5) = some k → C.B ≤ k ∧ k < wr20.heap.size := fun k e => by have h8 := Fo.lt STr.hf e; omega
      obtain ⟨Y23, hW⟩ : ∃ W, W22.drew = W := ⟨_, rfl⟩
      have hb : Below W22.heap.size W22 Y23 := hW ▸ below_drew (Below.refl _ _)
      replace ST := ST.below hb
      replace M2 := M2.below hb
      replace NX := NX.below hb
      replace M21 := M21.below hb
      have z4 := hb.size
      clear hb
      refine sd_begin (fun W => Keep (Zx C (.slice la L.length lc) (.slice of5 vs5.length cf5)) Y23 W) (by kernel_rfl) (by rw [hW]; exact Keep.refl _ _) ?_
      rw [hW]
      clear hW
      have hk8 : Keep (Zx C (.slice la L.length lc) (.slice of5 vs5.length cf5)) Y23 Y23 := Keep.refl _ _
      have hb0 := ST.b0
      have hw0 := ST.hk.size
      have hqF := ok.f
      have hZ : ∀ q, q ≠ C.qF → (C.B ≤ q → w.heap.size ≤ q ∧ ∀ k, Value.ownBlock (.slice of5 vs5.length cf5) = some k → k ≠ q) → ¬ Zx C (.slice la L.length lc) (.slice of5 vs5.length cf5) q := by
        rintro q h1 h2 (h9 | h9 | h9)
        · exact h1 h9
        · have h8 := ST.hl.lt h9
          have h7 := ST.l0 _ h9
          have h6 := h2 h8.1
          omega
        · have h8 := Fo.lt ST.hf h9
          exact (h2 h8.1).2 _ h9 rfl
      have hfk : ∀ k, Value.ownBlock (.slice of5 vs5.length cf5) = some k → k < w.heap.size ∨ m ≤ k := fun k e => (ST.fo k e).elim (fun h7 => .inl (hfv0 k h7)) .inr
      have hnE : ¬ Zx C (.slice la L.length lc) (.slice of5 vs5.length cf5) C.qE := hZ _ ok.ef (fun h8 => by have h7 := ok.e; omega)
      have hnM : ¬ Zx C (.slice la L.length lc) (.slice of5 vs5.length cf5) w.heap.size := hZ _ (by omega) (fun _ => ⟨Nat.le_refl _, fun k e h8 => by have h7 := hfk k e; omega⟩)
      have hnV : ¬ Zx C (.slice la L.length lc) (.slice of5 vs5.length cf5) (wr20.heap.size) := hZ _ (by omega) (fun _ => ⟨by omega, fun k e h8 => by have h7 := hfl5 k e; omega⟩)
      have hnX : ∀ i, i < (nextW x d).length → ¬ Zx C (.slice la L.length lc) (.slice of5 vs5.length cf5) bn := fun i hi => hZ _ (by have h8 := hbm i hi; omega) (fun _ => ⟨by have h8 := hbm i hi; omega, fun k e h8 => by have h9 := hbm i hi; have h7 := hfk k e; omega⟩)
      refine sd_take 0 rfl (by kernel_rfl) (by kernel_rfl) (by kernel_rfl) (by kernel_rfl) rfl rfl (.func (.func 38) #[] #[.pointer (some ⟨C.qW, 0, none⟩), .pointer (some ⟨C.qF, 0, none⟩), .pointer (some ⟨C.qE, 0, none⟩)]) (fun w9 h9 => ex_load1 rfl ((ST.hE.keep h9 hnE).cell 0 rfl) (by kernel_rfl) Try.underlying76 rfl) (fun _ _ _ h => h) hk8 ?_
      refine sd_take 1 rfl (by kernel_rfl) (by kernel_rfl) (by kernel_rfl) (by kernel_rfl) rfl rfl (.slice la L.length lc) (fun w9 _ => by kernel_rfl) (fun _ _ _ h => h) hk8 ?_
      refine sd_take 2 rfl (by kernel_rfl) (by kernel_rfl) (by kernel_rfl) (by kernel_rfl) rfl rfl (.agg #[.int .i64 (((nextW x d).getD j (0, false)).1), .bool ((nextW x d).getD j (0, false)).2]) (fun w9 h9 => ex_load rfl (M21.keep h9 hnV) (by kernel_rfl) Try.underlying52 rfl (by kernel_rfl)) (fun _ _ _ h => h) hk8 ?_
      refine sd_take 5 rfl (by kernel_rfl) (by kernel_rfl) (by kernel_rfl) (by kernel_rfl) rfl rfl (.agg #[.int .i64 ((d.1 : Nat) : Int), .int .i64 ((d.2 : Nat) : Int)]) (fun w9 h9 => ex_load rfl (M2.keep h9 hnM) (by kernel_rfl) Try.underlying72 rfl (by kernel_rfl)) (fun _ _ _ h => h) hk8 ?_
      refine sd_take 6 rfl (by kernel_rfl) (by kernel_rfl) (by kernel_rfl) (by kernel_rfl) rfl rfl (.agg #[.int .i64 (((nextW x d).getD j (0, false)).1), .bool ((nextW x d).getD j (0, false)).2]) (fun w9 h9 => ex_load rfl (M21.keep h9 hnV) (by kernel_rfl) Try.underlying52 rfl (by kernel_rfl)) (fun _ _ _ h => h) hk8 ?_
      have M8 := M2
      have NX8 := NX
      refine sd_all [3] (by kernel_rfl) (by decide) ?_
      refine sd_mem (i := 3) rfl (by kernel_rfl) rfl rfl (.slice (some ⟨Y23.heap.size, 0, none⟩) 1 1) (Y23.alloc (.cells #[.int .i64 (((nextW x d).getD j (0, false)).1), .bool ((nextW x d).getD j (0, false)).2] 52)) (by kernel_rfl) (hk8.below (below_alloc Y23 (.cells #[.int .i64 (((nextW x d).getD j (0, false)).1), .bool ((nextW x d).getD j (0, false)).2] 52))) ?_ AllReadyH.nil
      obtain ⟨W24, hW⟩ : ∃ W, Y23.alloc (.cells #[.int .i64 (((nextW x d).getD j (0, false)).1), .bool ((nextW x d).getD j (0, false)).2] 52) = W := ⟨_, rfl⟩
      have hb := hW ▸ below_alloc Y23 (.cells #[.int .i64 (((nextW x d).getD j (0, false)).1), .bool ((nextW x d).getD j (0, false)).2] 52)
      have hq : Cb W24 Y23.heap.size #[.int .i64 (((nextW x d).getD j (0, false)).1), .bool ((nextW x d).getD j (0, false)).2] 52 := hW ▸ Cb.made Y23 #[.int .i64 (((nextW x d).getD j (0, false)).1), .bool ((nextW x d).getD j (0, false)).2] 52
      rw [hW]
      replace ST := ST.below hb
      replace hk8 := hk8.below hb
      have z5 := hb.size
      have M25 := hq
      have yM25 := hq.lt
      clear hq hb hW
      refine sd_all [4] (by kernel_rfl) (by decide) ?_
      obtain ⟨v9, W26, h10, hg9, hli0⟩ := ap_e16 32 ST.hl (lw_cb M25) rfl (by have h8 := ST.hk.size; have h7 := ST.b0; omega) (by omega)
      have hg10 : Gw C.B W26 v9 (L ++ [((nextW x d).getD j (0, false))]) := hg9
      have hli : Lies W24 W26 (.slice la L.length lc) v9 L.length := hli0
      clear hg9 hli0
      obtain ⟨la9, lc9, rfl⟩ := Gn.form hg10
      have hk10 := hk8.trans (Lies.keep hli) (fun i _ e => .inr (.inl e))
      refine sd_mem (i := 4) rfl (by kernel_rfl) rfl rfl (.slice la9 (L ++ [((nextW x d).getD j (0, false))]).length lc9) W26 (ex_append rfl (by kernel_rfl) (by kernel_rfl) h10) hk10 ?_ AllReadyH.nil
      refine sd_all [7] (by kernel_rfl) (by decide) ?_
      have hno := next_ok hx hd (getD_mem (d := (0, false)) (show j < (nextW x d).length by omega))
      refine sd_call (i := 7) rfl (by kernel_rfl) rfl rfl (with_n d ((nextW x d).getD j (0, false)) hd.1 hd.2 hno.1 W26) (by kernel_rfl) ?_ AllReadyH.nil
      rintro e W27 ⟨rfl, hb11⟩
      have hk11 := hk10.below hb11
      refine ⟨_, rfl, hk11, ?_⟩
      refine sd_all [8] (by kernel_rfl) (by decide) ?_
      refine sd_call (i := 8) rfl (by kernel_rfl) rfl rfl (ih (L ++ [((nextW x d).getD j (0, false))]) (withP d ((nextW x d).getD j (0, false))) la9 lc9 (.slice of5 vs5.length cf5) vs5 (extJ x n L d (if (nextW x d).length = 0 ∧ 0 < L.length then f ++ [L] else f) j) W27 (by have h8 := hno.2.2; omega) hno.2.1 (by rw [List.length_append]; simp only [List.length_singleton]; omega) (by omega) (ST.enter ok hg10 hli hb11)) (by kernel_rfl) ?_ AllReadyH.nil
      rintro e W28 ⟨rfl, hep⟩
      obtain ⟨fv6, vs6, ST12, hkT⟩ := ST.leave ok (by omega) hg10 hli hb11 hep
      have hk12 := hk8.trans hkT (fun _ _ e => e)
      have hz12 := hk12.size
      refine ⟨_, rfl, hk12, ?_⟩
      refine sd_done (by kernel_rfl) ?_
      have M2 := M8.keep hk12 hnM
      have NX := NX8.keep hk12 hnX
      refine sx_in ?_
      refine sx_norm ?_
      refine wp_region_lit ?_
      refine sx_int (by kernel_rfl) rfl rfl .i64 (IntKind.i64.wrap (((j : Nat) : Int) + 1)) (((j + 1 : Nat) : Int)) (by kernel_rfl) (by rw [IntKind.wrap_i64]; omega) ?_
      refine sx_val (by kernel_rfl) rfl rfl (.int .i64 ((j + 1 : Nat) : Int)) (by kernel_rfl) ?_
      refine wpList_nil ?_
      refine sx_norm ?_
      rw [← extJ_more (by omega) (by omega)] at ST12
      exact sx_again ((nextW x d).length - (j + 1)) (j + 1) (by omega) (by kernel_rfl) ⟨by omega, Nat.le_refl _, fv6, vs6, ST12, M2, NX, by omega⟩
    refine sx_bool (by kernel_rfl) rfl rfl (decide (((j : Nat) : Int) < (((nextW x d).length : Nat) : Int))) false (by kernel_rfl) (decide_eq_false (by omega)) ?_
    refine wpList_nil ?_
    refine sx_norm ?_
    refine wp_seq ?_
    refine sx_false (by kernel_rfl) ?_
    refine wp_exit ?_
    refine sx_es ?_
    refine sx_es ?_
    refine sx_out ?_
    refine sx_fall rfl ⟨rfl, ?_⟩
    have hjn : j = (nextW x d).length := by omega
    rw [hjn] at ST
    rw [extF_succ]
    exact ST.done
  
end Go.Proofs.Ytoliacfpjhanlaa.T


