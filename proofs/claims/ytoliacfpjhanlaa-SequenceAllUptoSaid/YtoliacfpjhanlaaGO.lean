/-
  DERIVED. GO: a part of the base of layer 13 (made by pack.py).
-/
import Derived.Test.YtoliacfpjhanlaaGL
import Derived.Test.YtoliacfpjhanlaaGM
import Derived.Test.YtoliacfpjhanlaaVa
/-! The specification of sequences: the search (by gen_vb.py). -/
namespace Go.Proofs.Ytoliacfpjhanlaa.T
open Go.RowKit
set_option maxRecDepth 8000
attribute [local irreducible] wpList Code.wp wpAnyH

/-- the list of sequences that is handed on -/
structure Ex1 (B : Nat) (w : World) (fv : Value) (vs : List Value) (f : List (List (Int × Bool))) : Prop where
  fo : Fo B w fv vs
  el : El w vs f
  ne : ∀ u ∈ vs, ∀ b, u.ownBlock = some b → fv.ownBlock ≠ some b
theorem Ex1.below {B : Nat} {w w' : World} {fv : Value} {vs : List Value} {f : List (List (Int × Bool))} (h : Ex1 B w fv vs f) (k : Below w.heap.size w w') : Ex1 B w' fv vs f := ⟨own_below h.fo k, h.el.below k, h.ne⟩
theorem ElR.lt {w : World} {u : Value} {L : List (Int × Bool)} (h : ElR w u L) {b : Nat} (hb : u.ownBlock = some b) : b < w.heap.size := by
  obtain ⟨b', c, rfl, -, hl⟩ := h
  simp only [Value.ownBlock, Option.some.injEq] at hb
  omega
theorem Ex1.app {B : Nat} {w w' : World} {fv v' u : Value} {vs : List Value} {f : List (List (Int × Bool))} {L : List (Int × Bool)} (h : Ex1 B w fv vs f) (hu : ElR w u L) (hne : ∀ b, u.ownBlock = some b → fv.ownBlock ≠ some b) (h2 : Fo B w' v' (vs ++ [u])) (hg : w.grownBy w' fv.ownBlock) (ho : v'.ownBlock = fv.ownBlock ∨ v'.ownBlock = some w.heap.size) : Ex1 B w' v' (vs ++ [u]) (f ++ [L]) := by
  have kp : Keep (fun k => fv.ownBlock = some k) w w' := (Keep.refl _ _).grown hg fun _ _ e => e
  refine ⟨h2, (h.el.keep kp fun x hx b hb e => h.ne x hx b hb e).more (hu.keep kp fun b hb e => hne b hb e), fun x hx b hb e => ?_⟩
  have hlt : b < w.heap.size ∧ fv.ownBlock ≠ some b := by
    rcases List.mem_append.1 hx with hx | hx
    · exact ⟨h.el.lt hx hb, h.ne x hx b hb⟩
    · rw [List.mem_singleton] at hx
      subst hx
      exact ⟨hu.lt hb, hne b hb⟩
  rcases ho with ho | ho
  · rw [ho] at e
    exact hlt.2 e
  · rw [ho, Option.some.injEq] at e
    omega
/-- the sequence that is handed on -/
structure LOk (w : World) (fv : Value) (L : List (Int × Bool)) (la : Option Addr) (lc b q : Nat) : Prop where
  row : Rw w b q 2 (vF L) L.length la
  no : la = none → lc = 0
  el : 0 < L.length → ElR w (.slice la L.length lc) L
  ne : ∀ k, k < L.length → fv.ownBlock ≠ some b
  own : ∀ k, Value.ownBlock (.slice la L.length lc) = some k → fv.ownBlock ≠ some k
theorem keep_base {Z : Nat → Prop} {w0 w w' : World} (h : Below w0.heap.size w0 w) (k : Keep Z w w') (hz : ∀ i, Z i → w0.heap.size ≤ i) : Below w0.heap.size w0 w' :=
  ⟨k.os.trans h.os, k.tape.trans h.tape, k.output.trans h.output, Nat.le_trans h.size k.size, fun i hi => (k.block i (Nat.lt_of_lt_of_le hi h.size) fun e => by have := hz i e; omega).trans (h.block i hi)⟩
theorem extR_len (z : Int) (ol : List OrT) (be : List (Int × Int)) : ∀ (n : Nat) (L : List (Int × Bool)) (f : List (List (Int × Bool))), f.length ≤ 8193 → (extR z ol be n L f).length ≤ 8193
  | 0, _, f, h => h
  | n + 1, L, f, h => by
    unfold extR
    split
    · exact h
    · split
      · rw [List.length_append, List.length_singleton]; omega
      · have key : ∀ (l : List (Int × Bool)) (f : List (List (Int × Bool))), f.length ≤ 8193 → (l.foldl (fun f v => extR z ol be n (L ++ [v]) f) f).length ≤ 8193 := by
          intro l
          induction l with
          | nil => intro f h; exact h
          | cons v l ih => intro f h; rw [List.foldl_cons]; exact ih _ (extR_len z ol be n _ f h)
        exact key _ _ h
def extK (z : Int) (ol : List OrT) (be : List (Int × Int)) (n : Nat) (L : List (Int × Bool)) (f : List (List (Int × Bool))) (j : Nat) : List (List (Int × Bool)) := ((nxR z ol be L ol.length).take j).foldl (fun f v => extR z ol be n (L ++ [v]) f) f
theorem extK_more {z : Int} {ol : List OrT} {be : List (Int × Int)} {n : Nat} {L : List (Int × Bool)} {f : List (List (Int × Bool))} {j : Nat} (hj : j < (nxR z ol be L ol.length).length) : extK z ol be n L f (j + 1) = extR z ol be n (L ++ [(nxR z ol be L ol.length).getD j (0, false)]) (extK z ol be n L f j) := by
  unfold extK
  rw [take_more (d := (0, false)) hj, List.foldl_append, List.foldl_cons, List.foldl_nil]
theorem extK_len {z : Int} {ol : List OrT} {be : List (Int × Int)} {n : Nat} {L : List (Int × Bool)} {f : List (List (Int × Bool))} (h : f.length ≤ 8193) : ∀ j, j ≤ (nxR z ol be L ol.length).length → (extK z ol be n L f j).length ≤ 8193
  | 0, _ => by unfold extK; exact h
  | j + 1, hj => by rw [extK_more (by omega)]; exact extR_len z ol be n _ _ (extK_len h j (by omega))
theorem extK_all {z : Int} {ol : List OrT} {be : List (Int × Int)} {n : Nat} {L : List (Int × Bool)} {f : List (List (Int × Bool))} (h : ¬ 8192 < f.length) (h0 : ¬ (nxR z ol be L ol.length).length = 0) : extR z ol be (n + 1) L f = extK z ol be n L f (nxR z ol be L ol.length).length := by
  unfold extK
  rw [List.take_length, extR, if_neg h, if_neg h0]
theorem extR_leaf {z : Int} {ol : List OrT} {be : List (Int × Int)} {n : Nat} {L : List (Int × Bool)} {f : List (List (Int × Bool))} (h : ¬ 8192 < f.length) (h0 : (nxR z ol be L ol.length).length = 0) : extR z ol be (n + 1) L f = f ++ [L] := by rw [extR, if_neg h, if_pos h0]
theorem LOk.below {w w' : World} {fv : Value} {L : List (Int × Bool)} {la : Option Addr} {lc b q : Nat} (h : LOk w fv L la lc b q) (k : Below w.heap.size w w') : LOk w' fv L la lc b q :=
  ⟨h.row.below k, h.no, fun hl => by
    obtain ⟨b', c, hu, hr, hb⟩ := h.el hl
    exact ⟨b', c, hu, hr.below k, Nat.lt_of_lt_of_le hb k.size⟩, h.ne, h.own⟩
theorem LOk.keepH {Z : Nat → Prop} {w w' : World} {fv : Value} {L : List (Int × Bool)} {la : Option Addr} {lc b q : Nat} (h : LOk w fv L la lc b q) (k : Keep Z w w') (hz : ∀ i, Z i → fv.ownBlock = some i) : LOk w' fv L la lc b q :=
  ⟨h.row.keep k fun i hi e => h.ne i hi (hz b e), h.no, fun hl => (h.el hl).keep k fun i e e2 => h.own i e (hz i e2), h.ne, h.own⟩
theorem refExt_n (o0 o1 o2 o3 o4 o55 : Option Addr) (n0 n1 n2 n4 c0 c1 c2 c3 c4 c55 : Nat) (ol : List OrT) (be : List (Int × Int)) (ok : Okv ol) (hn : ol.length ≤ 10) (hr : U.Rt ol.length be) (hl : be.length ≤ 1000000) (z : Int) (hz : 0 ≤ z) (w0 : World) (hos : Os w0 (.slice o3 ol.length c3) ol) (hps : Ps w0 (.slice o55 be.length c55) be) : ∀ (n : Nat) (L : List (Int × Bool)) (la : Option Addr) (lc b q : Nat) (fo : Option Addr) (fc : Nat) (vs : List Value) (f : List (List (Int × Bool))) (w : World), (waysF z ol be).mu (doneL L) < n → L.length + n ≤ 1000 → f.length ≤ 8193 → (0 < L.length ∨ 0 < (nxR z ol be L ol.length).length) → LOk w (.slice fo vs.length fc) L la lc b q → Ex1 w0.heap.size w (.slice fo vs.length fc) vs f → Below w0.heap.size w0 w → Calls Try.prog 44 #[.agg #[.slice o0 n0 c0, .slice o1 n1 c1, .slice o2 n2 c2, .slice o3 ol.length c3, .slice o4 n4 c4, .slice o55 be.length c55], .int .i64 z, .slice la L.length lc, .slice fo vs.length fc] w fun e w' => ∃ o6 c6 vs6, e = .returned (.slice o6 (List.length (α := Value) vs6) c6) ∧ Ex1 w0.heap.size w' (.slice o6 vs6.length c6) vs6 (extR z ol be n L f) ∧ Keep (fun k => Value.ownBlock (.slice fo vs.length fc) = some k) w w' ∧ (∀ k, Value.ownBlock (.slice o6 vs6.length c6) = some k → Value.ownBlock (.slice fo vs.length fc) = some k ∨ w.heap.size ≤ k) := by
  intro n
  induction n with
  | zero => intro L la lc b q fo fc vs f w hmu; omega
  | succ n ih =>
    intro L la lc b q fo fc vs f w hmu hLN hfl hne hL XE HB
    have hll : L.length ≤ 1000 := by omega
    have hnl := nxR_len z ol be L ol.length
    have hvf := XE.el.len
    have hx := ways_b (z := z) (show ol.length ≤ 63 by omega) hr
    have HK : Keep (fun k => Value.ownBlock (.slice fo vs.length fc) = some k) w w := Keep.refl _ _
    have hfo : ∀ k, Value.ownBlock (.slice fo vs.length fc) = some k → k < w.heap.size := fun k e => (Fo.lt XE.fo e).2
    refine sx_enter Try.func44 rfl [(0, .agg #[.slice o0 n0 c0, .slice o1 n1 c1, .slice o2 n2 c2, .slice o3 ol.length c3, .slice o4 n4 c4, .slice o55 be.length c55]), (1, .int .i64 z), (2, .slice la L.length lc), (3, .slice fo vs.length fc)] (by kernel_rfl) ?_
    refine wp_seq ?_
    refine wp_region_lit ?_
    obtain ⟨W1, hW⟩ : ∃ W, w.alloc (.cells #[.slice o0 n0 c0, .slice o1 n1 c1, .slice o2 n2 c2, .slice o3 ol.length c3, .slice o4 n4 c4, .slice o55 be.length c55] 30) = W := ⟨_, rfl⟩
    have hb := hW ▸ below_alloc w (.cells #[.slice o0 n0 c0, .slice o1 n1 c1, .slice o2 n2 c2, .slice o3 ol.length c3, .slice o4 n4 c4, .slice o55 be.length c55] 30)
    have hq : Cb W1 w.heap.size #[.slice o0 n0 c0, .slice o1 n1 c1, .slice o2 n2 c2, .slice o3 ol.length c3, .slice o4 n4 c4, .slice o55 be.length c55] 30 := hW ▸ Cb.made w #[.slice o0 n0 c0, .slice o1 n1 c1, .slice o2 n2 c2, .slice o3 ol.length c3, .slice o4 n4 c4, .slice o55 be.length c55] 30
    refine sx_mem (by kernel_rfl) rfl rfl (.pointer (some ⟨w.heap.size, 0, none⟩)) W1 (by rw [← hW]; kernel_rfl) ?_
    replace HB := over HB hb
    replace XE := XE.below hb
    replace hL := LOk.below hL hb
    replace HK := HK.below hb
    have z1 := hb.size
    have M2 := hq
    have yM2 := hq.lt
    clear hq hb hW
    refine sx_val (by kernel_rfl) rfl rfl (.slice none 0 0) (by kernel_rfl) ?_
    refine wpList_nil ?_
    refine sx_norm ?_
    refine wp_seq ?_
    refine wp_seq ?_
    refine wp_region_lit ?_
    refine sx_val (by kernel_rfl) rfl rfl (.slice fo vs.length fc) (by kernel_rfl) ?_
    refine sx_val (by kernel_rfl) rfl rfl (.int .i64 ((vs.length : Nat) : Int)) (by kernel_rfl) ?_
    by_cases C1 : vs.length > 8192
    · refine sx_bool (by kernel_rfl) rfl rfl (decide (((vs.length : Nat) : Int) > 8192)) true (by kernel_rfl) (decide_eq_true (by omega)) ?_
      refine wpList_nil ?_
      refine sx_norm ?_
      refine sx_true (by kernel_rfl) ?_
      refine wp_seq ?_
      refine wp_region_lit ?_
      refine sx_val (by kernel_rfl) rfl rfl (.slice fo vs.length fc) (by kernel_rfl) ?_
      refine sx_val (by kernel_rfl) rfl rfl (.slice fo vs.length fc) (by kernel_rfl) ?_
      refine wpList_nil ?_
      refine sx_norm ?_
      refine wp_ret ?_
      refine sx_rs ?_
      refine sx_ret1 (.slice fo vs.length fc) rfl rfl (by kernel_rfl) ⟨fo, fc, vs, rfl, ?_, HK, fun k e => .inl e⟩
      rw [extR_stop (by omega)]
      exact XE
    refine sx_bool (by kernel_rfl) rfl rfl (decide (((vs.length : Nat) : Int) > 8192)) false (by kernel_rfl) (decide_eq_false (by omega)) ?_
    refine wpList_nil ?_
    refine sx_norm ?_
    refine sx_false (by kernel_rfl) ?_
    refine wp_skip ?_
    refine sx_norm ?_
    refine wp_seq ?_
    refine wp_region_lit ?_
    refine sx_val (by kernel_rfl) rfl rfl (.agg #[.slice o0 n0 c0, .slice o1 n1 c1, .slice o2 n2 c2, .slice o3 ol.length c3, .slice o4 n4 c4, .slice o55 be.length c55]) (ex_load rfl M2 (by kernel_rfl) Try.underlying30 rfl (by kernel_rfl)) ?_
    refine sx_val (by kernel_rfl) rfl rfl (.int .i64 z) (by kernel_rfl) ?_
    refine sx_val (by kernel_rfl) rfl rfl (.slice la L.length lc) (by kernel_rfl) ?_
    refine sx_call (by kernel_rfl) rfl rfl (refNext_n o0 o1 o2 o3 o4 o55 n0 n1 n2 n4 c0 c1 c2 c3 c4 c55 ol be hn hr hl z W1 (hos.below HB) (hps.below HB) L (by omega) la lc b q hL.row) (by kernel_rfl) ?_
    rintro e W3 ⟨oan, cn, rfl, ⟨hvn, hgn, -⟩, hb⟩
    replace HB := over HB hb
    replace XE := XE.below hb
    replace hL := LOk.below hL hb
    replace HK := HK.below hb
    replace M2 := M2.below hb
    have z2 := hb.size
    clear hb
    refine ⟨_, rfl, ?_⟩
    obtain ⟨bn, qn, NX⟩ := hvn.rw2
    have hbn : ∀ k, k < (nxR z ol be L ol.length).length → w.heap.size ≤ bn := fun k hk => by have h8 := hgn.blk bn (by rw [NX.oa hk]; rfl); omega
    clear hvn hgn
    refine sx_val (by kernel_rfl) rfl rfl (.slice oan (nxR z ol be L ol.length).length cn) (by kernel_rfl) ?_
    refine wpList_nil ?_
    refine sx_norm ?_
    refine wp_seq ?_
    refine wp_seq ?_
    refine wp_region_lit ?_
    refine sx_val (by kernel_rfl) rfl rfl (.slice oan (nxR z ol be L ol.length).length cn) (by kernel_rfl) ?_
    refine sx_val (by kernel_rfl) rfl rfl (.int .i64 (((nxR z ol be L ol.length).length : Nat) : Int)) (by kernel_rfl) ?_
    by_cases C2 : (nxR z ol be L ol.length).length = 0
    · refine sx_bool (by kernel_rfl) rfl rfl (((((nxR z ol be L ol.length).length : Nat) : Int) : Int) == (0 : Int)) true (by kernel_rfl) (beq_iff_eq.2 (by omega)) ?_
      refine wpList_nil ?_
      refine sx_norm ?_
      refine sx_true (by kernel_rfl) ?_
      refine wp_seq ?_
      refine wp_region_lit ?_
      refine sx_val (by kernel_rfl) rfl rfl (.slice fo vs.length fc) (by kernel_rfl) ?_
      refine sx_val (by kernel_rfl) rfl rfl (.slice la L.length lc) (by kernel_rfl) ?_
      obtain ⟨W4, hW⟩ : ∃ W, W3.alloc (.cells #[.slice la L.length lc] 32) = W := ⟨_, rfl⟩
      have hb := hW ▸ below_alloc W3 (.cells #[.slice la L.length lc] 32)
      have hq : Cb W4 W3.heap.size #[.slice la L.length lc] 32 := hW ▸ Cb.made W3 #[.slice la L.length lc] 32
      refine sx_mem (by kernel_rfl) rfl rfl (.slice (some ⟨W3.heap.size, 0, none⟩) 1 1) W4 (by rw [← hW]; kernel_rfl) ?_
      replace HB := over HB hb
      replace XE := XE.below hb
      replace hL := LOk.below hL hb
      replace HK := HK.below hb
      replace M2 := M2.below hb
      replace NX := NX.below hb
      have z3 := hb.size
      have M5 := hq
      have yM5 := hq.lt
      clear hq hb hW
      obtain ⟨v5, W6, h5, hf5, hg5, ho5⟩ := ap_f16 40 XE.fo M5 rfl (by have h8 := HB.size; omega) (by have h8 := XE.el.len; omega)
      have hk5 : Keep (fun k => Value.ownBlock (.slice fo vs.length fc) = some k) W4 W6 := (Keep.refl _ _).grown hg5 fun _ _ e => e
      have XE5 := XE.app (hL.el (by omega)) hL.own hf5 hg5 ho5
      have HB5 := keep_base HB hk5 fun k e => (Fo.lt XE.fo e).1
      have HK5 := HK.trans hk5 fun _ _ e => e
      obtain ⟨o5, c5, hv5⟩ := Fo.form XE5.fo
      subst hv5
      have ho6 : ∀ k, Value.ownBlock (.slice o5 (vs ++ [Value.slice la L.length lc]).length c5) = some k → Value.ownBlock (.slice fo vs.length fc) = some k ∨ w.heap.size ≤ k := fun k e => by
        rcases ho5 with h8 | h8
        · exact .inl (h8 ▸ e)
        · rw [h8, Option.some.injEq] at e; exact .inr (by omega)
      refine sx_mem (by kernel_rfl) rfl rfl (.slice o5 (vs ++ [Value.slice la L.length lc]).length c5) W6 (ex_append rfl (by kernel_rfl) (by kernel_rfl) h5) ?_
      refine sx_val (by kernel_rfl) rfl rfl (.slice o5 (vs ++ [Value.slice la L.length lc]).length c5) (by kernel_rfl) ?_
      refine wpList_nil ?_
      refine sx_norm ?_
      refine wp_seq ?_
      refine wp_region_lit ?_
      refine sx_val (by kernel_rfl) rfl rfl (.slice o5 (vs ++ [Value.slice la L.length lc]).length c5) (by kernel_rfl) ?_
      refine sx_val (by kernel_rfl) rfl rfl (.slice o5 (vs ++ [Value.slice la L.length lc]).length c5) (by kernel_rfl) ?_
      refine wpList_nil ?_
      refine sx_norm ?_
      refine wp_ret ?_
      refine sx_rs ?_
      refine sx_ret1 (.slice o5 (vs ++ [Value.slice la L.length lc]).length c5) rfl rfl (by kernel_rfl) ⟨o5, c5, _, rfl, ?_, HK5, ho6⟩
      rw [extR_leaf (by omega) (by omega)]
      exact XE5
    refine sx_bool (by kernel_rfl) rfl rfl (((((nxR z ol be L ol.length).length : Nat) : Int) : Int) == (0 : Int)) false (by kernel_rfl) (beq_eq_false_iff_ne.2 (by omega)) ?_
    refine wpList_nil ?_
    refine sx_norm ?_
    refine sx_false (by kernel_rfl) ?_
    refine wp_skip ?_
    refine sx_norm ?_
    refine wp_seq ?_
    refine wp_seq ?_
    refine wp_region_lit ?_
    refine sx_val (by kernel_rfl) rfl rfl (.int .i64 0) (by kernel_rfl) ?_
    refine wpList_nil ?_
    refine sx_norm ?_
    refine wp_block ?_
    have hkw : W3.heap.size ≥ w.heap.size := by omega
    have hj0 : 0 ≤ (nxR z ol be L ol.length).length := Nat.zero_le _
    refine sx_loop (fun x9 : Nat × List Value × Option Addr × Nat => [(0, .agg #[.slice o0 n0 c0, .slice o1 n1 c1, .slice o2 n2 c2, .slice o3 ol.length c3, .slice o4 n4 c4, .slice o55 be.length c55]), (1, .int .i64 z), (2, .slice la L.length lc), (3, .slice x9.2.2.1 x9.2.1.length x9.2.2.2), (4, .pointer (some ⟨w.heap.size, 0, none⟩)), (8, .slice none 0 0), (9, .slice oan (nxR z ol be L ol.length).length cn), (10, .int .i64 ((x9.1 : Nat) : Int)), (12, .slice fo vs.length fc), (13, .int .i64 ((vs.length : Nat) : Int)), (14, .bool false), (16, .agg #[.slice o0 n0 c0, .slice o1 n1 c1, .slice o2 n2 c2, .slice o3 ol.length c3, .slice o4 n4 c4, .slice o55 be.length c55]), (17, .int .i64 z), (18, .slice la L.length lc), (19, .slice oan (nxR z ol be L ol.length).length cn), (20, .slice oan (nxR z ol be L ol.length).length cn), (21, .int .i64 (((nxR z ol be L ol.length).length : Nat) : Int)), (22, .bool false)]) (fun gg x9 wr => x9.1 ≤ (nxR z ol be L ol.length).length ∧ (nxR z ol be L ol.length).length - x9.1 ≤ gg ∧ Ex1 w0.heap.size wr (.slice x9.2.2.1 x9.2.1.length x9.2.2.2) x9.2.1 (extK z ol be n L f x9.1) ∧ (∀ k, Value.ownBlock (.slice x9.2.2.1 x9.2.1.length x9.2.2.2) = some k → Value.ownBlock (.slice fo vs.length fc) = some k ∨ W3.heap.size ≤ k) ∧ Keep (fun k => Value.ownBlock (.slice fo vs.length fc) = some k) W3 wr ∧ Below w0.heap.size w0 wr) ((nxR z ol be L ol.length).length) ((0, vs, fo, fc)) (by kernel_rfl) ⟨Nat.zero_le _, Nat.le_refl _, XE, fun k h => .inl h, Keep.refl _ _, HB⟩ ?_
    rintro gg ⟨j, vs5, o5, c5⟩ g' wr7 ⟨hj, hg, XEs, ho, hkm, HBs⟩
    dsimp only at hj hg XEs ho hkm HBs
    have hv5 := XEs.el.len
    have hfl6 := extK_len (z := z) (ol := ol) (be := be) (n := n) (L := L) hfl j (by omega)
    have hzk := hkm.size
    have Ms := M2.keep hkm (fun e => by have h8 := hfo _ e; omega)
    have NXs := NX.keep hkm (fun i hi e => by have h8 := hfo _ e; have h9 := hbn i hi; omega)
    have hLs := LOk.keepH hL hkm (fun _ e => e)
    refine wp_seq ?_
    refine wp_seq ?_
    refine wp_region_lit ?_
    refine sx_val (by kernel_rfl) rfl rfl (.int .i64 ((j : Nat) : Int)) (by kernel_rfl) ?_
    refine sx_val (by kernel_rfl) rfl rfl (.slice oan (nxR z ol be L ol.length).length cn) (by kernel_rfl) ?_
    refine sx_val (by kernel_rfl) rfl rfl (.int .i64 (((nxR z ol be L ol.length).length : Nat) : Int)) (by kernel_rfl) ?_
    by_cases C3 : j < (nxR z ol be L ol.length).length
    · refine sx_bool (by kernel_rfl) rfl rfl (decide (((j : Nat) : Int) < (((nxR z ol be L ol.length).length : Nat) : Int))) true (by kernel_rfl) (decide_eq_true (by omega)) ?_
      refine wpList_nil ?_
      refine sx_norm ?_
      refine sx_true (by kernel_rfl) ?_
      refine wp_skip ?_
      refine sx_norm ?_
      refine wp_seq ?_
      refine wp_block ?_
      refine wp_seq ?_
      have HQ : Below wr7.heap.size wr7 wr7 := Below.refl _ _
      refine wp_region_lit ?_
      obtain ⟨W8, hW⟩ : ∃ W, wr7.alloc (.cells #[] 52) = W := ⟨_, rfl⟩
      have hb := hW ▸ below_alloc wr7 (.cells #[] 52)
      have hq : Cb W8 wr7.heap.size #[] 52 := hW ▸ Cb.made wr7 #[] 52
      refine sx_mem (by kernel_rfl) rfl rfl (.slice (some ⟨wr7.heap.size, 0, none⟩) 0 0) W8 (by rw [← hW]; kernel_rfl) ?_
      replace HQ := HQ.trans (hb.mono (by omega))
      have z3 := hb.size
      have M9 := hq
      have yM9 := hq.lt
      clear hq hb hW
      refine sx_val (by kernel_rfl) rfl rfl (.slice la L.length lc) (by kernel_rfl) ?_
      have hl9 : Lw W8 (.slice la L.length lc) L := ⟨_, _, rfl, Sl.of_rw (hLs.row.below HQ), hL.no⟩
      obtain ⟨v9, W10, h9, hg9, hb, -, -⟩ := ap_w 32 (gw_made M9 (Nat.le_refl _)) hl9 (by omega) (by simp only [List.length_nil]; omega)
      have hg8 : Gw wr7.heap.size W10 v9 L := hg9
      obtain ⟨la9, lc9, rfl⟩ := Gn.form hg8
      clear hg9
      refine sx_mem (by kernel_rfl) rfl rfl (.slice la9 L.length lc9) W10 (ex_append rfl (by kernel_rfl) (by kernel_rfl) h9) ?_
      replace HQ := HQ.trans (hb.mono (by omega))
      have z4 := hb.size
      have HG := hg8
      clear hg8 hb h9
      refine sx_val (by kernel_rfl) rfl rfl (.slice la9 L.length lc9) (by kernel_rfl) ?_
      refine wpList_nil ?_
      refine sx_norm ?_
      refine wp_seq ?_
      have NX9 := NXs.below HQ
      refine wp_region_lit ?_
      refine sx_val (by kernel_rfl) rfl rfl (.slice la9 L.length lc9) (by kernel_rfl) ?_
      refine sx_val (by kernel_rfl) rfl rfl (.slice oan (nxR z ol be L ol.length).length cn) (by kernel_rfl) ?_
      refine sx_val (by kernel_rfl) rfl rfl (.int .i64 ((j : Nat) : Int)) (by kernel_rfl) ?_
      refine sx_val (by kernel_rfl) rfl rfl (.pointer (some ⟨bn, qn + j * 2, none⟩)) (ex_indexO (q := qn) (m := (nxR z ol be L ol.length).length) (c := cn) (k := j) (s := 2) rfl (by kernel_rfl) (NX9.oa (k := j) (by omega)) (by kernel_rfl) Try.underlying32 (by kernel_rfl) (by omega) (by omega)) ?_
      refine sx_val (by kernel_rfl) rfl rfl (.agg #[.int .i64 (((nxR z ol be L ol.length).getD j (0, false)).1), .bool ((nxR z ol be L ol.length).getD j (0, false)).2]) (ex_loadR rfl (NX9.range (k := j) (by omega)) (by kernel_rfl) Try.underlying52 rfl (by kernel_rfl)) ?_
      obtain ⟨W11, hW⟩ : ∃ W, W10.alloc (.cells #[.int .i64 (((nxR z ol be L ol.length).getD j (0, false)).1), .bool ((nxR z ol be L ol.length).getD j (0, false)).2] 52) = W := ⟨_, rfl⟩
      have hb := hW ▸ below_alloc W10 (.cells #[.int .i64 (((nxR z ol be L ol.length).getD j (0, false)).1), .bool ((nxR z ol be L ol.length).getD j (0, false)).2] 52)
      have hq : Cb W11 W10.heap.size #[.int .i64 (((nxR z ol be L ol.length).getD j (0, false)).1), .bool ((nxR z ol be L ol.length).getD j (0, false)).2] 52 := hW ▸ Cb.made W10 #[.int .i64 (((nxR z ol be L ol.length).getD j (0, false)).1), .bool ((nxR z ol be L ol.length).getD j (0, false)).2] 52
      refine sx_mem (by kernel_rfl) rfl rfl (.slice (some ⟨W10.heap.size, 0, none⟩) 1 1) W11 (by rw [← hW]; kernel_rfl) ?_
      replace HQ := HQ.trans (hb.mono (by omega))
      replace HG := HG.frame hb
      replace NX9 := NX9.below hb
      have z5 := hb.size
      have M12 := hq
      have yM12 := hq.lt
      clear hq hb hW
      obtain ⟨v7, W13, h9, hg9, hb, -, -⟩ := ap_w 32 HG (lw_cb M12) (by omega) (by simp only [List.length_singleton]; omega)
      have hg8 : Gw wr7.heap.size W13 v7 (L ++ [((nxR z ol be L ol.length).getD j (0, false))]) := hg9
      obtain ⟨g9, lc8, rfl, hg7, hg6⟩ := gw_some hg8 (by simp)
      clear hg9
      refine sx_mem (by kernel_rfl) rfl rfl (.slice (some ⟨g9, 0, none⟩) (L ++ [((nxR z ol be L ol.length).getD j (0, false))]).length lc8) W13 (ex_append rfl (by kernel_rfl) (by kernel_rfl) h9) ?_
      replace HQ := HQ.trans (hb.mono (by omega))
      have z6 := hb.size
      have HG := hg8
      clear hg8 hb h9
      refine sx_val (by kernel_rfl) rfl rfl (.slice (some ⟨g9, 0, none⟩) (L ++ [((nxR z ol be L ol.length).getD j (0, false))]).length lc8) (by kernel_rfl) ?_
      refine wpList_nil ?_
      refine sx_norm ?_
      have M9 := Ms.below HQ
      have XE := XEs.below HQ
      have HB := over HBs HQ
      refine wp_region_lit ?_
      refine sx_val (by kernel_rfl) rfl rfl (.agg #[.slice o0 n0 c0, .slice o1 n1 c1, .slice o2 n2 c2, .slice o3 ol.length c3, .slice o4 n4 c4, .slice o55 be.length c55]) (ex_load rfl M9 (by kernel_rfl) Try.underlying30 rfl (by kernel_rfl)) ?_
      refine sx_val (by kernel_rfl) rfl rfl (.int .i64 z) (by kernel_rfl) ?_
      refine sx_val (by kernel_rfl) rfl rfl (.slice (some ⟨g9, 0, none⟩) (L ++ [((nxR z ol be L ol.length).getD j (0, false))]).length lc8) (by kernel_rfl) ?_
      refine sx_val (by kernel_rfl) rfl rfl (.slice o5 vs5.length c5) (by kernel_rfl) ?_
      have hme : ((nxR z ol be L ol.length).getD j (0, false)) ∈ nextW (waysF z ol be) (doneL L) := by rw [show nextW (waysF z ol be) (doneL L) = (nxR z ol be L ol.length) from next_is ok hn hr hz L]; exact getD_mem (by omega)
      have hno := next_ok hx (done_dn L) hme
      rw [← done_snoc L hno.1] at hno
      have hfl5 := extK_len (z := z) (ol := ol) (be := be) (n := n) (L := L) hfl j (by omega)
      have hL9 : LOk W13 (.slice o5 vs5.length c5) (L ++ [((nxR z ol be L ol.length).getD j (0, false))]) (some ⟨g9, 0, none⟩) lc8 g9 0 := ⟨gw_row HG, (fun e => by cases e), (fun _ => ⟨g9, lc8, rfl, gw_row HG, by omega⟩), (fun _ _ e => by have h8 := Fo.lt XEs.fo e; omega), (fun k e e2 => by simp only [Value.ownBlock, Option.some.injEq] at e; have h8 := Fo.lt XEs.fo e2; omega)⟩
      refine sx_call (by kernel_rfl) rfl rfl (ih (L ++ [((nxR z ol be L ol.length).getD j (0, false))]) (some ⟨g9, 0, none⟩) lc8 g9 0 o5 c5 vs5 (extK z ol be n L f j) W13 (by omega) (by rw [List.length_append, List.length_singleton]; omega) hfl5 (.inl (by simp)) hL9 XE HB) (by kernel_rfl) ?_
      rintro e W14 ⟨o6, c6, vs6, rfl, XE6, hk6, ho6⟩
      rw [← extK_more (by omega)] at XE6
      have HB6 := keep_base HB hk6 fun k e => (Fo.lt XE.fo e).1
      have hkm6 := (hkm.below HQ).trans hk6 fun k hk e => (ho k e).elim (fun h => h) (fun h => by omega)
      have ho7 : ∀ k, Value.ownBlock (.slice o6 vs6.length c6) = some k → Value.ownBlock (.slice fo vs.length fc) = some k ∨ W3.heap.size ≤ k := fun k e => (ho6 k e).elim (fun h => ho k h) (fun h => .inr (by have h8 := hkm.size; have h9 := HQ.size; omega))
      refine ⟨_, rfl, ?_⟩
      refine sx_val (by kernel_rfl) rfl rfl (.slice o6 vs6.length c6) (by kernel_rfl) ?_
      refine wpList_nil ?_
      refine sx_in ?_
      refine sx_norm ?_
      refine wp_region_lit ?_
      refine sx_val (by kernel_rfl) rfl rfl (.int .i64 ((j : Nat) : Int)) (by kernel_rfl) ?_
      refine sx_int (by kernel_rfl) rfl rfl .i64 (IntKind.i64.wrap (((j : Nat) : Int) + 1)) (((j + 1 : Nat) : Int)) (by kernel_rfl) (by rw [IntKind.wrap_i64]; omega) ?_
      refine sx_val (by kernel_rfl) rfl rfl (.int .i64 ((j + 1 : Nat) : Int)) (by kernel_rfl) ?_
      refine wpList_nil ?_
      refine sx_norm ?_
      exact sx_again ((nxR z ol be L ol.length).length - (j + 1)) (j + 1, vs6, o6, c6) (by omega) (by kernel_rfl) ⟨by show j + 1 ≤ _; omega, Nat.le_refl _, XE6, ho7, hkm6, HB6⟩
    refine sx_bool (by kernel_rfl) rfl rfl (decide (((j : Nat) : Int) < (((nxR z ol be L ol.length).length : Nat) : Int))) false (by kernel_rfl) (decide_eq_false (by omega)) ?_
    refine wpList_nil ?_
    refine sx_norm ?_
    refine sx_false (by kernel_rfl) ?_
    refine wp_exit ?_
    refine sx_es ?_
    refine sx_es ?_
    refine sx_out ?_
    refine sx_norm ?_
    refine wp_seq ?_
    refine wp_region_lit ?_
    refine sx_val (by kernel_rfl) rfl rfl (.slice o5 vs5.length c5) (by kernel_rfl) ?_
    refine sx_val (by kernel_rfl) rfl rfl (.slice o5 vs5.length c5) (by kernel_rfl) ?_
    refine wpList_nil ?_
    refine sx_norm ?_
    refine wp_ret ?_
    have hj9 : j = (nxR z ol be L ol.length).length := by omega
    subst hj9
    refine sx_ret1 (.slice o5 vs5.length c5) rfl rfl (by kernel_rfl) ⟨o5, c5, vs5, rfl, ?_, HK.trans hkm fun _ _ e => e, fun k e => (ho k e).elim .inl fun h => .inr (by omega)⟩
    rw [extK_all (by omega) (by omega)]
    exact XEs
  
end Go.Proofs.Ytoliacfpjhanlaa.T


/-! The specification of sequences: All; lists of sequences are compared (by gen_vc.py). -/
namespace Go.Proofs.Ytoliacfpjhanlaa.T
open Go.RowKit
set_option maxRecDepth 8000
attribute [local irreducible] wpList Code.wp wpAnyH

theorem extR_lens (z : Int) (ol : List OrT) (be : List (Int × Int)) : ∀ (n : Nat) (L : List (Int × Bool)) (f : List (List (Int × Bool))), ∀ u ∈ extR z ol be n L f, u ∈ f ∨ u.length ≤ L.length + n
  | 0, _, f, u, h => .inl h
  | n + 1, L, f, u, h => by
    unfold extR at h
    split at h
    · exact .inl h
    · split at h
      · rcases List.mem_append.1 h with h | h
        · exact .inl h
        · rw [List.mem_singleton] at h; subst h; exact .inr (by omega)
      · have key : ∀ (l : List (Int × Bool)) (f : List (List (Int × Bool))), u ∈ l.foldl (fun f v => extR z ol be n (L ++ [v]) f) f → u ∈ f ∨ u.length ≤ L.length + (n + 1) := by
          intro l
          induction l with
          | nil => intro f h; exact .inl h
          | cons v l ih =>
            intro f h
            rw [List.foldl_cons] at h
            rcases ih _ h with h | h
            · rcases extR_lens z ol be n _ f u h with h | h
              · exact .inl h
              · rw [List.length_append, List.length_singleton] at h; exact .inr (by omega)
            · exact .inr h
        exact key _ _ h
section
variable {z : Int} {ol : List OrT} {ap be : List (Int × Int)}
theorem allE_two (h : U.allowE ol.length (offF ol) ap be z = 2) : allE z ol ap be = 2 ∧ allS z ol ap be = [] := by
  unfold allE allS
  rw [h]
  exact ⟨rfl, rfl⟩
theorem allow_neg (h : z < 0) : U.allowE ol.length (offF ol) ap be z = 2 := by unfold U.allowE; rw [if_pos (.inl h)]
theorem allow_big {i : Nat} (hz : 0 ≤ z) (h : hasR z (i : Int) = true) (hi : i ≤ 62) (hb : ol.length ≤ i) : U.allowE ol.length (offF ol) ap be z = 2 := by
  unfold U.allowE
  refine if_pos (.inr (Int.not_lt.1 fun h9 => ?_))
  obtain ⟨s, rfl⟩ := Int.eq_ofNat_of_zero_le hz
  have h8 : s < 2 ^ ol.length := by exact Int.ofNat_lt.1 h9
  have h7 : s < 2 ^ 63 := Nat.lt_of_lt_of_le h8 (Nat.pow_le_pow_right (by omega) (by omega))
  rw [hasRS_nat h7 hi] at h
  have := U.lt_has h8 h
  omega
theorem set_lt {s : Nat} (hs : s < 2 ^ 63) (h : ∀ k : Nat, k < 63 → hasR (s : Int) (k : Int) = true → k < ol.length) : s < 2 ^ ol.length := U.has_lt fun i hi => by
  have h1 := U.lt_has hs hi
  exact h i h1 (by rw [hasRS_nat hs (by omega)]; exact hi)
theorem posB_no (ok : Okv ol) (hn : ol.length ≤ 10) (hr : U.Rt ol.length be) {s : Nat} (hs : s < 2 ^ ol.length) (h : ¬ posB s ol ap be = true) : allE (s : Int) ol ap be = 0 ∧ allS (s : Int) ol ap be = [] := by
  have h1 : U.allowE ol.length (offF ol) ap be (s : Int) ≠ 2 := by
    rw [U.allowE_nat hs, U.allow_can]
    cases U.offE ol.length (offF ol) s <;> cases U.apartE ap s <;> cases U.canF ol.length be s <;> decide
  by_cases h2 : U.allowE ol.length (offF ol) ap be (s : Int) = 0
  · have h3 : s = 0 := Decidable.of_not_not fun h3 => h (by unfold posB; rw [decide_eq_true h3, decide_eq_true h2]; rfl)
    subst h3
    have e : allF ((0 : Nat) : Int) ol be = [] := allF_zero ok hn hr
    unfold allE allS
    rw [e, if_pos h2]
    exact ⟨rfl, by split <;> rfl⟩
  · unfold allE allS
    rw [if_neg h2, if_neg h1, if_neg (fun h => h2 h.1)]
    exact ⟨rfl, rfl⟩
theorem posB_root (ok : Okv ol) (hn : ol.length ≤ 10) (hr : U.Rt ol.length be) {s : Nat} (h : posB s ol ap be = true) : 0 < (nxR (s : Int) ol be [] ol.length).length := by
  unfold posB at h
  rw [Bool.and_eq_true, decide_eq_true_iff, decide_eq_true_iff] at h
  have hk := (U.allowE_zero hr h.2).2
  rw [Int.toNat_natCast] at hk
  exact root_next ok hn hr (offF_is ol) hk h.1
theorem posB_all (ok : Okv ol) (hn : ol.length ≤ 10) (hr : U.Rt ol.length be) {s : Nat} (h : posB s ol ap be = true) :
    (8192 < (extR (s : Int) ol be 127 [] []).length → allE (s : Int) ol ap be = 4 ∧ allS (s : Int) ol ap be = []) ∧ (¬ 8192 < (extR (s : Int) ol be 127 [] []).length → allE (s : Int) ol ap be = 0 ∧ allS (s : Int) ol ap be = extR (s : Int) ol be 127 [] []) := by
  have e := allF_is ok hn hr h
  unfold posB at h
  rw [Bool.and_eq_true, decide_eq_true_iff, decide_eq_true_iff] at h
  unfold allE allS
  rw [e, if_pos h.2]
  exact ⟨fun h1 => ⟨by rw [if_pos h1], by rw [if_neg (fun h9 => by omega)]⟩, fun h1 => ⟨by rw [if_neg h1], by rw [if_pos ⟨h.2, by omega⟩]⟩⟩
theorem allS_lens (ok : Okv ol) (hn : ol.length ≤ 10) (hr : U.Rt ol.length be) (hz : z ≤ 9223372036854775807) : ∀ u ∈ allS z ol ap be, u.length ≤ 127 := fun u hu => by
  by_cases h0 : U.allowE ol.length (offF ol) ap be z = 0
  · obtain ⟨hz0, hk⟩ := U.allowE_zero hr h0
    obtain ⟨s, rfl⟩ := Int.eq_ofNat_of_zero_le hz0
    rw [Int.toNat_natCast] at hk
    by_cases h : posB s ol ap be = true
    · have h9 := posB_all ok hn hr h
      by_cases h1 : 8192 < (extR (s : Int) ol be 127 [] []).length
      · rw [(h9.1 h1).2] at hu; cases hu
      · rw [(h9.2 h1).2] at hu
        rcases extR_lens _ _ _ _ _ _ u hu with h | h
        · cases h
        · simpa using h
    · rw [(posB_no ok hn hr hk.lt h).2] at hu; cases hu
  · unfold allS at hu
    rw [if_neg (fun h => h0 h.1)] at hu
    cases hu
end
theorem LOk.nil (w : World) (fv : Value) : LOk w fv [] none 0 0 0 := ⟨fun i hi => absurd hi (Nat.not_lt_zero i), fun _ => rfl, fun h => absurd h (Nat.lt_irrefl 0), fun k hk => absurd hk (Nat.not_lt_zero k), fun k e => by cases e⟩
theorem Ex1.nil (B : Nat) (w : World) : Ex1 B w (.slice none 0 0) [] [] := ⟨fo_nil B w, el_nil w, fun _ hu => (nomatch hu)⟩
theorem fo_rw {B : Nat} {w : World} {oa : Option Addr} {c : Nat} {vs : List Value} (h : Fo B w (.slice oa vs.length c) vs) : ∃ b o, Rw w b o 1 (fun k => [vs.getD k undef]) vs.length oa := by
  rcases h.2 with ⟨-, h0⟩ | ⟨g, cap, cur, e, hb, hg, -, -, hsz, ht⟩
  · exact ⟨0, 0, fun i hi => by omega⟩
  · simp only [Value.slice.injEq] at e
    refine ⟨g, 0, fun i hi => ⟨by rw [e.1], (Array.getElem?_eq_some_iff.1 hg).1, fun j v hj => ?_⟩⟩
    match j, hj with
    | 0, hj =>
      simp only [List.getElem?_cons_zero, Option.some.injEq] at hj
      subst hj
      have hh := (show w.ownsRow B 32 1 (.slice oa vs.length c) vs.length vs from h).cells (g := g) (by rw [e.1]; rfl) i (vs.getD i undef) (by rw [List.getD_eq_getElem?_getD, List.getElem?_eq_getElem hi]; rfl)
      have e9 : (⟨g, 0, none⟩ : Addr).add i = ⟨g, 0 + i * 1 + 0, none⟩ := by
        unfold Addr.add
        split
        · subst_vars; rfl
        · simp
      rw [e9] at hh
      exact hh
theorem refAll_n (o0 o1 o2 o3 o4 o5 : Option Addr) (n0 n1 n2 c0 c1 c2 c3 c4 c5 : Nat) (ol : List OrT) (ap be : List (Int × Int)) (ok : Okv ol) (hn : ol.length ≤ 10) (hra : U.Rt ol.length ap) (hla : ap.length ≤ 1000000) (hr : U.Rt ol.length be) (hl : be.length ≤ 1000000) (z : Int) (hz : -9223372036854775808 ≤ z ∧ z ≤ 9223372036854775807) (w : World) (hos : Os w (.slice o3 ol.length c3) ol) (hpa : Ps w (.slice o4 ap.length c4) ap) (hps : Ps w (.slice o5 be.length c5) be) : Calls Try.prog 14 #[.agg #[.slice o0 n0 c0, .slice o1 n1 c1, .slice o2 n2 c2, .slice o3 ol.length c3, .slice o4 ap.length c4, .slice o5 be.length c5], .int .i64 z] w fun e w' => ∃ oa c vs, e = .returned (.tuple #[.slice oa (List.length (α := Value) vs) c, .int .i64 (allE z ol ap be)]) ∧ Fo w.heap.size w' (.slice oa vs.length c) vs ∧ El w' vs (allS z ol ap be) ∧ Below w.heap.size w w' := by
  have HB : Below w.heap.size w w := Below.refl _ _
  refine sx_enter Try.func14 rfl [(0, .agg #[.slice o0 n0 c0, .slice o1 n1 c1, .slice o2 n2 c2, .slice o3 ol.length c3, .slice o4 ap.length c4, .slice o5 be.length c5]), (1, .int .i64 z)] (by kernel_rfl) ?_
  refine wp_seq ?_
  refine wp_region_lit ?_
  obtain ⟨W1, hW⟩ : ∃ W, w.alloc (.cells #[.slice o0 n0 c0, .slice o1 n1 c1, .slice o2 n2 c2, .slice o3 ol.length c3, .slice o4 ap.length c4, .slice o5 be.length c5] 30) = W := ⟨_, rfl⟩
  have hb := hW ▸ below_alloc w (.cells #[.slice o0 n0 c0, .slice o1 n1 c1, .slice o2 n2 c2, .slice o3 ol.length c3, .slice o4 ap.length c4, .slice o5 be.length c5] 30)
  have hq : Cb W1 w.heap.size #[.slice o0 n0 c0, .slice o1 n1 c1, .slice o2 n2 c2, .slice o3 ol.length c3, .slice o4 ap.length c4, .slice o5 be.length c5] 30 := hW ▸ Cb.made w #[.slice o0 n0 c0, .slice o1 n1 c1, .slice o2 n2 c2, .slice o3 ol.length c3, .slice o4 ap.length c4, .slice o5 be.length c5] 30
  refine sx_mem (by kernel_rfl) rfl rfl (.pointer (some ⟨w.heap.size, 0, none⟩)) W1 (by rw [← hW]; kernel_rfl) ?_
  replace HB := over HB hb
  have z1 := hb.size
  have M2 := hq
  have yM2 := hq.lt
  clear hq hb hW
  refine sx_val (by kernel_rfl) rfl rfl (.slice none 0 0) (by kernel_rfl) ?_
  refine sx_val (by kernel_rfl) rfl rfl (.int .i64 0) (by kernel_rfl) ?_
  refine wpList_nil ?_
  refine sx_norm ?_
  refine wp_seq ?_
  refine wp_seq ?_
  refine wp_region_lit ?_
  refine sx_val (by kernel_rfl) rfl rfl (.int .i64 z) (by kernel_rfl) ?_
  by_cases C1 : z < 0
  · refine sx_bool (by kernel_rfl) rfl rfl (decide (z < 0)) true (by kernel_rfl) (decide_eq_true (by omega)) ?_
    refine wpList_nil ?_
    refine sx_norm ?_
    refine sx_true (by kernel_rfl) ?_
    refine wp_seq ?_
    refine wp_region_lit ?_
    refine sx_val (by kernel_rfl) rfl rfl (.slice none 0 0) (by kernel_rfl) ?_
    refine sx_val (by kernel_rfl) rfl rfl (.int .i64 2) (by kernel_rfl) ?_
    refine wpList_nil ?_
    refine sx_norm ?_
    refine wp_ret ?_
    refine sx_rs ?_
    have h9 := allE_two (ap := ap) (be := be) (allow_neg (z := z) (ol := ol) (ap := ap) (be := be) (by omega))
    refine sx_ret2 (.slice none 0 0) (.int .i64 2) rfl rfl rfl (by kernel_rfl) (by kernel_rfl) ⟨none, 0, [], ret_two h9.1, fo_nil _ _, (by rw [h9.2]; exact el_nil _), HB⟩
  refine sx_bool (by kernel_rfl) rfl rfl (decide (z < 0)) false (by kernel_rfl) (decide_eq_false (by omega)) ?_
  refine wpList_nil ?_
  refine sx_norm ?_
  refine sx_false (by kernel_rfl) ?_
  refine wp_skip ?_
  refine sx_norm ?_
  refine wp_seq ?_
  refine wp_seq ?_
  refine wp_region_lit ?_
  refine sx_val (by kernel_rfl) rfl rfl (.int .i64 0) (by kernel_rfl) ?_
  refine wpList_nil ?_
  refine sx_norm ?_
  refine wp_block ?_
  refine sx_loop (fun i : Nat => [(0, .agg #[.slice o0 n0 c0, .slice o1 n1 c1, .slice o2 n2 c2, .slice o3 ol.length c3, .slice o4 ap.length c4, .slice o5 be.length c5]), (1, .int .i64 z), (2, .pointer (some ⟨w.heap.size, 0, none⟩)), (6, .int .i64 ((i : Nat) : Int)), (8, .int .i64 z), (9, .bool false)]) (fun gg i wr => i ≤ 63 ∧ 63 - i ≤ gg ∧ (∀ k, k < i → hasR z (k : Int) = true → k < ol.length) ∧ Below W1.heap.size W1 wr) (63) (0) (by kernel_rfl) ⟨Nat.zero_le _, Nat.le_refl _, fun k hk => absurd hk (Nat.not_lt_zero k), Below.refl _ _⟩ ?_
  rintro gg i g' wr3 ⟨hi, hg, hF, hbl⟩
  replace HB := over HB hbl
  replace M2 := M2.below hbl
  have z2 := hbl.size
  have HL := hbl
  clear hbl
  refine wp_seq ?_
  refine wp_seq ?_
  refine wp_region_lit ?_
  refine sx_val (by kernel_rfl) rfl rfl (.int .i64 ((i : Nat) : Int)) (by kernel_rfl) ?_
  by_cases C2 : i ≤ 62
  · refine sx_bool (by kernel_rfl) rfl rfl (decide (((i : Nat) : Int) ≤ 62)) true (by kernel_rfl) (decide_eq_true (by omega)) ?_
    refine wpList_nil ?_
    refine sx_norm ?_
    refine sx_true (by kernel_rfl) ?_
    refine wp_skip ?_
    refine sx_norm ?_
    refine wp_seq ?_
    refine wp_block ?_
    refine wp_seq ?_
    refine wp_region_lit ?_
    refine sx_val (by kernel_rfl) rfl rfl (.int .i64 z) (by kernel_rfl) ?_
    refine sx_val (by kernel_rfl) rfl rfl (.int .i64 ((i : Nat) : Int)) (by kernel_rfl) ?_
    by_cases C3 : hasR z ((i : Nat) : Int) = true
    · refine sx_call (by kernel_rfl) rfl rfl ((by have h8 := refHas_n z ((i : Nat) : Int) wr3; rw [show hasR z ((i : Nat) : Int) = true by simpa using C3] at h8; exact h8)) (by kernel_rfl) ?_
      rintro e w9 ⟨rfl, rfl⟩
      refine ⟨_, rfl, ?_⟩
      refine sx_val (by kernel_rfl) rfl rfl (.bool true) (by kernel_rfl) ?_
      refine sx_val (by kernel_rfl) rfl rfl (.int .i64 ((i : Nat) : Int)) (by kernel_rfl) ?_
      refine sx_val (by kernel_rfl) rfl rfl (.pointer (some ⟨w.heap.size, 3, none⟩)) (by kernel_rfl) ?_
      refine sx_val (by kernel_rfl) rfl rfl (.slice o3 ol.length c3) (ex_load1 rfl (M2.cell 3 rfl) (by kernel_rfl) Try.underlying27 rfl) ?_
      refine sx_val (by kernel_rfl) rfl rfl (.int .i64 ((ol.length : Nat) : Int)) (by kernel_rfl) ?_
      by_cases C4 : i ≥ ol.length
      · refine sx_bool (by kernel_rfl) rfl rfl (decide (((i : Nat) : Int) ≥ ((ol.length : Nat) : Int))) true (by kernel_rfl) (decide_eq_true (by omega)) ?_
        refine sx_val (by kernel_rfl) rfl rfl (.bool true) (by kernel_rfl) ?_
        refine wpList_nil ?_
        refine sx_norm ?_
        refine sx_true (by kernel_rfl) ?_
        refine wp_seq ?_
        refine wp_region_lit ?_
        refine sx_val (by kernel_rfl) rfl rfl (.slice none 0 0) (by kernel_rfl) ?_
        refine sx_val (by kernel_rfl) rfl rfl (.int .i64 2) (by kernel_rfl) ?_
        refine wpList_nil ?_
        refine sx_norm ?_
        refine wp_ret ?_
        refine sx_rb ?_
        refine sx_rs ?_
        refine sx_rs ?_
        refine sx_rb ?_
        refine sx_rs ?_
        have h9 := allE_two (allow_big (z := z) (ol := ol) (ap := ap) (be := be) (i := i) (by omega) (by assumption) (by omega) (by omega))
        refine sx_ret2 (.slice none 0 0) (.int .i64 2) rfl rfl rfl (by kernel_rfl) (by kernel_rfl) ⟨none, 0, [], ret_two h9.1, fo_nil _ _, (by rw [h9.2]; exact el_nil _), HB⟩
      refine sx_bool (by kernel_rfl) rfl rfl (decide (((i : Nat) : Int) ≥ ((ol.length : Nat) : Int))) false (by kernel_rfl) (decide_eq_false (by omega)) ?_
      refine sx_val (by kernel_rfl) rfl rfl (.bool false) (by kernel_rfl) ?_
      refine wpList_nil ?_
      refine sx_norm ?_
      refine sx_false (by kernel_rfl) ?_
      refine wp_skip ?_
      refine sx_in ?_
      refine sx_norm ?_
      refine wp_region_lit ?_
      refine sx_val (by kernel_rfl) rfl rfl (.int .i64 ((i : Nat) : Int)) (by kernel_rfl) ?_
      refine sx_int (by kernel_rfl) rfl rfl .i64 (IntKind.i64.wrap (((i : Nat) : Int) + 1)) (((i + 1 : Nat) : Int)) (by kernel_rfl) (by rw [IntKind.wrap_i64]; omega) ?_
      refine sx_val (by kernel_rfl) rfl rfl (.int .i64 ((i + 1 : Nat) : Int)) (by kernel_rfl) ?_
      refine wpList_nil ?_
      refine sx_norm ?_
      refine sx_again (63 - (i + 1)) (i + 1) (by omega) (by kernel_rfl) ⟨by omega, Nat.le_refl _, (fun k hk hh => ?_), HL⟩
      rcases Nat.lt_succ_iff_lt_or_eq.1 hk with h8 | h8
      · exact hF k h8 hh
      subst h8
      first
        | exact absurd hh (by assumption)
        | omega
    refine sx_call (by kernel_rfl) rfl rfl ((by have h8 := refHas_n z ((i : Nat) : Int) wr3; rw [show hasR z ((i : Nat) : Int) = false by simpa using C3] at h8; exact h8)) (by kernel_rfl) ?_
    rintro e w9 ⟨rfl, rfl⟩
    refine ⟨_, rfl, ?_⟩
    refine sx_val (by kernel_rfl) rfl rfl (.bool false) (by kernel_rfl) ?_
    refine sx_skip (by kernel_rfl) rfl rfl ?_
    refine sx_skip (by kernel_rfl) rfl rfl ?_
    refine sx_skip (by kernel_rfl) rfl rfl ?_
    refine sx_skip (by kernel_rfl) rfl rfl ?_
    refine sx_skip (by kernel_rfl) rfl rfl ?_
    refine sx_val (by kernel_rfl) rfl rfl (.bool false) (by kernel_rfl) ?_
    refine wpList_nil ?_
    refine sx_norm ?_
    refine sx_false (by kernel_rfl) ?_
    refine wp_skip ?_
    refine sx_in ?_
    refine sx_norm ?_
    refine wp_region_lit ?_
    refine sx_val (by kernel_rfl) rfl rfl (.int .i64 ((i : Nat) : Int)) (by kernel_rfl) ?_
    refine sx_int (by kernel_rfl) rfl rfl .i64 (IntKind.i64.wrap (((i : Nat) : Int) + 1)) (((i + 1 : Nat) : Int)) (by kernel_rfl) (by rw [IntKind.wrap_i64]; omega) ?_
    refine sx_val (by kernel_rfl) rfl rfl (.int .i64 ((i + 1 : Nat) : Int)) (by kernel_rfl) ?_
    refine wpList_nil ?_
    refine sx_norm ?_
    refine sx_again (63 - (i + 1)) (i + 1) (by omega) (by kernel_rfl) ⟨by omega, Nat.le_refl _, (fun k hk hh => ?_), HL⟩
    rcases Nat.lt_succ_iff_lt_or_eq.1 hk with h8 | h8
    · exact hF k h8 hh
    subst h8
    first
      | exact absurd hh (by assumption)
      | omega
  refine sx_bool (by kernel_rfl) rfl rfl (decide (((i : Nat) : Int) ≤ 62)) false (by kernel_rfl) (decide_eq_false (by omega)) ?_
  refine wpList_nil ?_
  refine sx_norm ?_
  refine sx_false (by kernel_rfl) ?_
  refine wp_exit ?_
  refine sx_es ?_
  refine sx_es ?_
  refine sx_out ?_
  refine sx_norm ?_
  refine wp_seq ?_
  refine wp_seq ?_
  obtain ⟨s, rfl⟩ := Int.eq_ofNat_of_zero_le (show 0 ≤ z by omega)
  have hp63 : ((2 ^ 63 : Nat) : Int) = 9223372036854775808 := by decide
  have hs63 : s < 2 ^ 63 := by omega
  have hs : s < 2 ^ ol.length := set_lt hs63 fun k hk hh => hF k (by omega) hh
  refine wp_region_lit ?_
  refine sx_val (by kernel_rfl) rfl rfl (.agg #[.slice o0 n0 c0, .slice o1 n1 c1, .slice o2 n2 c2, .slice o3 ol.length c3, .slice o4 ap.length c4, .slice o5 be.length c5]) (ex_load rfl M2 (by kernel_rfl) Try.underlying30 rfl (by kernel_rfl)) ?_
  refine sx_val (by kernel_rfl) rfl rfl (.int .i64 ((s : Nat) : Int)) (by kernel_rfl) ?_
  by_cases C5 : (posB s ol ap be) = true
  · refine sx_call (by kernel_rfl) rfl rfl ((by have h8 := refPossible_n o0 o1 o2 o3 o4 o5 n0 n1 n2 c0 c1 c2 c3 c4 c5 ol ap be ok hn hra hla hr hl s hs wr3 (hos.below HB) (hpa.below HB) (hps.below HB); rw [show (posB s ol ap be) = true by simpa using C5] at h8; exact h8)) (by kernel_rfl) ?_
    rintro e W4 ⟨rfl, hb⟩
    replace HB := over HB hb
    replace M2 := M2.below hb
    replace HL := over HL hb
    have z3 := hb.size
    clear hb
    refine ⟨_, rfl, ?_⟩
    refine sx_val (by kernel_rfl) rfl rfl (.bool false) (by kernel_rfl) ?_
    refine wpList_nil ?_
    refine sx_norm ?_
    refine sx_false (by kernel_rfl) ?_
    refine wp_skip ?_
    refine sx_norm ?_
    refine wp_seq ?_
    refine wp_region_lit ?_
    refine sx_val (by kernel_rfl) rfl rfl (.agg #[.slice o0 n0 c0, .slice o1 n1 c1, .slice o2 n2 c2, .slice o3 ol.length c3, .slice o4 ap.length c4, .slice o5 be.length c5]) (ex_load rfl M2 (by kernel_rfl) Try.underlying30 rfl (by kernel_rfl)) ?_
    refine sx_val (by kernel_rfl) rfl rfl (.int .i64 ((s : Nat) : Int)) (by kernel_rfl) ?_
    have hB0 := HB.size
    have KX := refExt_n o0 o1 o2 o3 o4 o5 n0 n1 n2 ap.length c0 c1 c2 c3 c4 c5 ol be ok hn hr hl ((s : Nat) : Int) (by omega) W4 (hos.below HB) (hps.below HB) 127 [] none 0 0 0 none 0 [] [] W4 (by unfold WaT.mu; have h8 := muB_63 (U.minus (waysF ((s : Nat) : Int) ol be).P (doneL []).1); have h9 := muB_63 (U.minus (waysF ((s : Nat) : Int) ol be).D (doneL []).2); omega) (by decide) (by decide) (.inr (posB_root ok hn hr (by assumption))) (LOk.nil _ _) (Ex1.nil _ _) (Below.refl _ _)
    refine sx_call (by kernel_rfl) rfl rfl KX (by kernel_rfl) ?_
    rintro e W5 ⟨o6, c6, vs6, rfl, XE6, hk6, -⟩
    have hb : Below W4.heap.size W4 W5 := keep_base (Below.refl _ _) hk6 (fun i e => by cases e)
    have hvl := XE6.el.len
    replace HB := over HB hb
    replace M2 := M2.below hb
    replace HL := over HL hb
    have z4 := hb.size
    clear hb KX
    refine ⟨_, rfl, ?_⟩
    refine sx_val (by kernel_rfl) rfl rfl (.slice o6 vs6.length c6) (by kernel_rfl) ?_
    refine wpList_nil ?_
    refine sx_norm ?_
    refine wp_seq ?_
    refine wp_seq ?_
    refine wp_region_lit ?_
    refine sx_val (by kernel_rfl) rfl rfl (.slice o6 vs6.length c6) (by kernel_rfl) ?_
    refine sx_val (by kernel_rfl) rfl rfl (.int .i64 ((vs6.length : Nat) : Int)) (by kernel_rfl) ?_
    by_cases C6 : vs6.length > 8192
    · refine sx_bool (by kernel_rfl) rfl rfl (decide (((vs6.length : Nat) : Int) > 8192)) true (by kernel_rfl) (decide_eq_true (by omega)) ?_
      refine wpList_nil ?_
      refine sx_norm ?_
      refine sx_true (by kernel_rfl) ?_
      refine wp_seq ?_
      refine wp_region_lit ?_
      refine sx_val (by kernel_rfl) rfl rfl (.slice none 0 0) (by kernel_rfl) ?_
      refine sx_val (by kernel_rfl) rfl rfl (.int .i64 4) (by kernel_rfl) ?_
      refine wpList_nil ?_
      refine sx_norm ?_
      refine wp_ret ?_
      refine sx_rs ?_
      have h9 := (posB_all ok hn hr (by assumption)).1 (by omega)
      refine sx_ret2 (.slice none 0 0) (.int .i64 4) rfl rfl rfl (by kernel_rfl) (by kernel_rfl) ⟨none, 0, [], ret_two h9.1, fo_nil _ _, (by rw [h9.2]; exact el_nil _), HB⟩
    refine sx_bool (by kernel_rfl) rfl rfl (decide (((vs6.length : Nat) : Int) > 8192)) false (by kernel_rfl) (decide_eq_false (by omega)) ?_
    refine wpList_nil ?_
    refine sx_norm ?_
    refine sx_false (by kernel_rfl) ?_
    refine wp_skip ?_
    refine sx_norm ?_
    refine wp_seq ?_
    refine wp_region_lit ?_
    refine sx_val (by kernel_rfl) rfl rfl (.slice o6 vs6.length c6) (by kernel_rfl) ?_
    refine sx_val (by kernel_rfl) rfl rfl (.slice o6 vs6.length c6) (by kernel_rfl) ?_
    refine sx_val (by kernel_rfl) rfl rfl (.int .i64 0) (by kernel_rfl) ?_
    refine wpList_nil ?_
    refine sx_norm ?_
    refine wp_ret ?_
    have h9 := (posB_all ok hn hr (by assumption)).2 (by omega)
    refine sx_ret2 (.slice o6 vs6.length c6) (.int .i64 0) rfl rfl rfl (by kernel_rfl) (by kernel_rfl) ⟨o6, c6, vs6, ret_two h9.1, Fo.base XE6.fo hB0, (by rw [h9.2]; exact XE6.el), HB⟩
  refine sx_call (by kernel_rfl) rfl rfl ((by have h8 := refPossible_n o0 o1 o2 o3 o4 o5 n0 n1 n2 c0 c1 c2 c3 c4 c5 ol ap be ok hn hra hla hr hl s hs wr3 (hos.below HB) (hpa.below HB) (hps.below HB); rw [show (posB s ol ap be) = false by simpa using C5] at h8; exact h8)) (by kernel_rfl) ?_
  rintro e W6 ⟨rfl, hb⟩
  replace HB := over HB hb
  replace M2 := M2.below hb
  replace HL := over HL hb
  have z3 := hb.size
  clear hb
  refine ⟨_, rfl, ?_⟩
  refine sx_val (by kernel_rfl) rfl rfl (.bool true) (by kernel_rfl) ?_
  refine wpList_nil ?_
  refine sx_norm ?_
  refine sx_true (by kernel_rfl) ?_
  refine wp_seq ?_
  refine wp_region_lit ?_
  refine sx_val (by kernel_rfl) rfl rfl (.slice none 0 0) (by kernel_rfl) ?_
  refine sx_val (by kernel_rfl) rfl rfl (.int .i64 0) (by kernel_rfl) ?_
  refine wpList_nil ?_
  refine sx_norm ?_
  refine wp_ret ?_
  refine sx_rs ?_
  have h9 := posB_no ok hn hr hs (by assumption)
  refine sx_ret2 (.slice none 0 0) (.int .i64 0) rfl rfl rfl (by kernel_rfl) (by kernel_rfl) ⟨none, 0, [], ret_two h9.1, fo_nil _ _, (by rw [h9.2]; exact el_nil _), HB⟩
theorem lists_n (oa1 oa2 : Option Addr) (ca1 ca2 B1 B2 : Nat) (vs1 vs2 : List Value) (f : List (List (Int × Bool))) (hfl : ∀ u ∈ f, u.length ≤ 1000000) (w : World) (hf1 : Fo B1 w (.slice oa1 vs1.length ca1) vs1) (he1 : El w vs1 f) (hf2 : Fo B2 w (.slice oa2 vs2.length ca2) vs2) (he2 : El w vs2 f) (hlv : f.length ≤ 1000000) : Calls Try.prog 15 #[.slice oa1 vs1.length ca1, .slice oa2 vs2.length ca2] w fun e w' => e = .returned (.bool true) ∧ Below w.heap.size w w' := by
  have HB : Below w.heap.size w w := Below.refl _ _
  obtain ⟨p1, q1, hw1⟩ := fo_rw hf1
  obtain ⟨p2, q2, hw2⟩ := fo_rw hf2
  have hn1 := he1.len
  have hn2 := he2.len
  refine sx_enter Try.func15 rfl [(0, .slice oa1 vs1.length ca1), (1, .slice oa2 vs2.length ca2)] (by kernel_rfl) ?_
  refine wp_seq ?_
  refine wp_region_lit ?_
  refine sx_val (by kernel_rfl) rfl rfl (.bool false) (by kernel_rfl) ?_
  refine wpList_nil ?_
  refine sx_norm ?_
  refine wp_seq ?_
  refine wp_seq ?_
  refine wp_region_lit ?_
  refine sx_val (by kernel_rfl) rfl rfl (.slice oa1 vs1.length ca1) (by kernel_rfl) ?_
  refine sx_val (by kernel_rfl) rfl rfl (.int .i64 ((vs1.length : Nat) : Int)) (by kernel_rfl) ?_
  refine sx_val (by kernel_rfl) rfl rfl (.slice oa2 vs2.length ca2) (by kernel_rfl) ?_
  refine sx_val (by kernel_rfl) rfl rfl (.int .i64 ((vs2.length : Nat) : Int)) (by kernel_rfl) ?_
  refine sx_bool (by kernel_rfl) rfl rfl ((((vs1.length : Nat) : Int) : Int) != (((vs2.length : Nat) : Int) : Int)) false (by kernel_rfl) (by rw [bne_eq_false_iff_eq]; omega) ?_
  refine wpList_nil ?_
  refine sx_norm ?_
  refine sx_false (by kernel_rfl) ?_
  refine wp_skip ?_
  refine sx_norm ?_
  refine wp_seq ?_
  refine wp_seq ?_
  refine wp_region_lit ?_
  refine sx_val (by kernel_rfl) rfl rfl (.int .i64 0) (by kernel_rfl) ?_
  refine wpList_nil ?_
  refine sx_norm ?_
  refine wp_block ?_
  refine sx_loop (fun j : Nat => [(0, .slice oa1 vs1.length ca1), (1, .slice oa2 vs2.length ca2), (5, .int .i64 ((j : Nat) : Int)), (6, .slice oa1 vs1.length ca1), (7, .int .i64 ((vs1.length : Nat) : Int)), (8, .slice oa2 vs2.length ca2), (9, .int .i64 ((vs2.length : Nat) : Int)), (10, .bool false)]) (fun gg j wr => j ≤ vs1.length ∧ vs1.length - j ≤ gg ∧ Below w.heap.size w wr) (vs1.length) (0) (by kernel_rfl) ⟨Nat.zero_le _, Nat.le_refl _, Below.refl _ _⟩ ?_
  rintro gg j g' wr1 ⟨hj, hg, hbl⟩
  replace HB := over HB hbl
  have z1 := hbl.size
  have HL := hbl
  clear hbl
  refine wp_seq ?_
  refine wp_seq ?_
  refine wp_region_lit ?_
  refine sx_val (by kernel_rfl) rfl rfl (.int .i64 ((j : Nat) : Int)) (by kernel_rfl) ?_
  refine sx_val (by kernel_rfl) rfl rfl (.slice oa1 vs1.length ca1) (by kernel_rfl) ?_
  refine sx_val (by kernel_rfl) rfl rfl (.int .i64 ((vs1.length : Nat) : Int)) (by kernel_rfl) ?_
  by_cases C1 : j < vs1.length
  · refine sx_bool (by kernel_rfl) rfl rfl (decide (((j : Nat) : Int) < ((vs1.length : Nat) : Int))) true (by kernel_rfl) (decide_eq_true (by omega)) ?_
    refine wpList_nil ?_
    refine sx_norm ?_
    refine sx_true (by kernel_rfl) ?_
    refine wp_skip ?_
    refine sx_norm ?_
    refine wp_seq ?_
    refine wp_block ?_
    refine wp_seq ?_
    obtain ⟨b1, cc1, e1, hr1, -⟩ := he1.at_ j (by omega)
    obtain ⟨b2, cc2, e2, hr2, -⟩ := he2.at_ j (by omega)
    have hx9 : (f.getD j []).length ≤ 1000000 := hfl _ (getD_mem (by omega))
    obtain ⟨Y2, hW⟩ : ∃ W, wr1.drew = W := ⟨_, rfl⟩
    have hb : Below wr1.heap.size wr1 Y2 := hW ▸ below_drew (Below.refl _ _)
    replace HB := over HB hb
    replace HL := over HL hb
    have z2 := hb.size
    clear hb
    refine sd_begin (fun W => Rw W p1 q1 1 (fun k => [vs1.getD k undef]) vs1.length oa1 ∧ Rw W p2 q2 1 (fun k => [vs2.getD k undef]) vs2.length oa2 ∧ True) (by kernel_rfl) (by rw [hW]; exact ⟨(hw1.below HB), (hw2.below HB), trivial⟩) ?_
    rw [hW]
    clear hW
    refine sd_take 0 rfl (by kernel_rfl) (by kernel_rfl) (by kernel_rfl) (by kernel_rfl) rfl rfl (.slice oa1 vs1.length ca1) (fun w9 _ => by kernel_rfl) (fun _ _ _ h => h) ⟨(hw1.below HB), (hw2.below HB), trivial⟩ ?_
    refine sd_take 1 rfl (by kernel_rfl) (by kernel_rfl) (by kernel_rfl) (by kernel_rfl) rfl rfl (.int .i64 ((j : Nat) : Int)) (fun w9 _ => by kernel_rfl) (fun _ _ _ h => h) ⟨(hw1.below HB), (hw2.below HB), trivial⟩ ?_
    refine sd_take 2 rfl (by kernel_rfl) (by kernel_rfl) (by kernel_rfl) (by kernel_rfl) rfl rfl (.pointer (some ⟨p1, q1 + j * 1, none⟩)) (fun w9 h9 => ex_indexO (q := q1) (m := vs1.length) (c := ca1) (k := j) (s := 1) rfl (by kernel_rfl) (h9.1.oa (k := j) (by omega)) (by kernel_rfl) Try.underlying40 (by kernel_rfl) (by omega) (by omega)) (fun _ _ _ h => h) ⟨(hw1.below HB), (hw2.below HB), trivial⟩ ?_
    refine sd_take 3 rfl (by kernel_rfl) (by kernel_rfl) (by kernel_rfl) (by kernel_rfl) rfl rfl (.slice (some ⟨b1, 0, none⟩) (f.getD j []).length cc1) (fun w9 h9 => ex_load1 rfl (by have h8 := h9.1.cell (k := j) (by omega) 0 rfl; rw [e1] at h8; exact h8) (by kernel_rfl) Try.underlying32 rfl) (fun _ _ _ h => h) ⟨(hw1.below HB), (hw2.below HB), trivial⟩ ?_
    refine sd_take 4 rfl (by kernel_rfl) (by kernel_rfl) (by kernel_rfl) (by kernel_rfl) rfl rfl (.slice oa2 vs2.length ca2) (fun w9 _ => by kernel_rfl) (fun _ _ _ h => h) ⟨(hw1.below HB), (hw2.below HB), trivial⟩ ?_
    refine sd_take 5 rfl (by kernel_rfl) (by kernel_rfl) (by kernel_rfl) (by kernel_rfl) rfl rfl (.int .i64 ((j : Nat) : Int)) (fun w9 _ => by kernel_rfl) (fun _ _ _ h => h) ⟨(hw1.below HB), (hw2.below HB), trivial⟩ ?_
    refine sd_take 6 rfl (by kernel_rfl) (by kernel_rfl) (by kernel_rfl) (by kernel_rfl) rfl rfl (.pointer (some ⟨p2, q2 + j * 1, none⟩)) (fun w9 h9 => ex_indexO (q := q2) (m := vs2.length) (c := ca2) (k := j) (s := 1) rfl (by kernel_rfl) (h9.2.1.oa (k := j) (by omega)) (by kernel_rfl) Try.underlying40 (by kernel_rfl) (by omega) (by omega)) (fun _ _ _ h => h) ⟨(hw1.below HB), (hw2.below HB), trivial⟩ ?_
    refine sd_take 7 rfl (by kernel_rfl) (by kernel_rfl) (by kernel_rfl) (by kernel_rfl) rfl rfl (.slice (some ⟨b2, 0, none⟩) (f.getD j []).length cc2) (fun w9 h9 => ex_load1 rfl (by have h8 := h9.2.1.cell (k := j) (by omega) 0 rfl; rw [e2] at h8; exact h8) (by kernel_rfl) Try.underlying32 rfl) (fun _ _ _ h => h) ⟨(hw1.below HB), (hw2.below HB), trivial⟩ ?_
    refine sd_all [8] (by kernel_rfl) (by decide) ?_
    refine sd_call (i := 8) rfl (by kernel_rfl) rfl rfl ((by have h8 := refSame16_n (some ⟨b1, 0, none⟩) (some ⟨b2, 0, none⟩) cc1 cc2 b1 0 b2 0 (f.getD j []) (f.getD j []) hx9 hx9 Y2 (hr1.below HB) (hr2.below HB); rw [decide_eq_true (rfl : f.getD j [] = f.getD j [])] at h8; exact h8)) (by kernel_rfl) ?_ AllReadyH.nil
    rintro e W3 ⟨rfl, hb⟩
    replace HB := over HB hb
    replace HL := over HL hb
    have z3 := hb.size
    clear hb
    refine ⟨_, rfl, ⟨(hw1.below HB), (hw2.below HB), trivial⟩, ?_⟩
    refine sd_take 9 rfl (by kernel_rfl) (by kernel_rfl) (by kernel_rfl) (by kernel_rfl) rfl rfl (.bool false) (fun w9 _ => by kernel_rfl) (fun _ _ _ h => h) ⟨(hw1.below HB), (hw2.below HB), trivial⟩ ?_
    refine sd_done (by kernel_rfl) ?_
    refine sx_norm ?_
    refine sx_false (by kernel_rfl) ?_
    refine wp_skip ?_
    refine sx_in ?_
    refine sx_norm ?_
    refine wp_region_lit ?_
    refine sx_val (by kernel_rfl) rfl rfl (.int .i64 ((j : Nat) : Int)) (by kernel_rfl) ?_
    refine sx_int (by kernel_rfl) rfl rfl .i64 (IntKind.i64.wrap (((j : Nat) : Int) + 1)) (((j + 1 : Nat) : Int)) (by kernel_rfl) (by rw [IntKind.wrap_i64]; omega) ?_
    refine sx_val (by kernel_rfl) rfl rfl (.int .i64 ((j + 1 : Nat) : Int)) (by kernel_rfl) ?_
    refine wpList_nil ?_
    refine sx_norm ?_
    exact sx_again (vs1.length - (j + 1)) (j + 1) (by omega) (by kernel_rfl) ⟨by omega, Nat.le_refl _, HL⟩
  refine sx_bool (by kernel_rfl) rfl rfl (decide (((j : Nat) : Int) < ((vs1.length : Nat) : Int))) false (by kernel_rfl) (decide_eq_false (by omega)) ?_
  refine wpList_nil ?_
  refine sx_norm ?_
  refine sx_false (by kernel_rfl) ?_
  refine wp_exit ?_
  refine sx_es ?_
  refine sx_es ?_
  refine sx_out ?_
  refine sx_norm ?_
  refine wp_seq ?_
  refine wp_region_lit ?_
  refine sx_val (by kernel_rfl) rfl rfl (.bool true) (by kernel_rfl) ?_
  refine wpList_nil ?_
  refine sx_norm ?_
  refine wp_ret ?_
  exact sx_ret1 (.bool true) rfl rfl (by kernel_rfl) ⟨rfl, HB⟩

end Go.Proofs.Ytoliacfpjhanlaa.T


