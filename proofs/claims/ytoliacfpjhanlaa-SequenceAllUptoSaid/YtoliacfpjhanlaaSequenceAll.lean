/-
  DERIVED. SequenceAll: a part of the base of layer 13 (made by pack.py).
-/
import Derived.Test.YtoliacfpjhanlaaGJ
import Derived.Test.YtoliacfpjhanlaaGM
import Derived.Test.YtoliacfpjhanlaaGO
/-! The walk of the law SequenceAll (by gen_vd.py). -/
namespace Go.Proofs.Ytoliacfpjhanlaa.T
open Go.RowKit
set_option maxRecDepth 8000
attribute [local irreducible] wpList Code.wp wpAnyH

theorem allS_len (z : Int) (ol : List OrT) (ap be : List (Int × Int)) : (allS z ol ap be).length ≤ 8192 := by
  unfold allS
  split
  · rename_i h; exact h.2
  · simp
theorem sequenceAll_walk (k : Iv) (x : InT) (hv : InV x) (z : Int) (hz : -9223372036854775808 ≤ z ∧ z ≤ 9223372036854775807) (w : World) (hI : Ins w k x) : Calls Try.prog 4 #[.agg #[.slice k.o0 x.pl.length k.c0, .slice k.o1 x.al.length k.c1, .slice k.o2 x.tl.length k.c2, .slice k.o3 x.ol.length k.c3, .slice k.o4 x.ap.length k.c4, .slice k.o5 x.be.length k.c5], .int .i64 z] w fun e w' => e = .returned (.bool true) ∧ Below w.heap.size w w' := by
  have HB : Below w.heap.size w w := Below.refl _ _
  refine sx_enter Try.func4 rfl [(0, .agg #[.slice k.o0 x.pl.length k.c0, .slice k.o1 x.al.length k.c1, .slice k.o2 x.tl.length k.c2, .slice k.o3 x.ol.length k.c3, .slice k.o4 x.ap.length k.c4, .slice k.o5 x.be.length k.c5]), (1, .int .i64 z)] (by kernel_rfl) ?_
  refine wp_seq ?_
  refine wp_region_lit ?_
  obtain ⟨W1, hW⟩ : ∃ W, w.alloc (.cells #[.slice k.o0 x.pl.length k.c0, .slice k.o1 x.al.length k.c1, .slice k.o2 x.tl.length k.c2, .slice k.o3 x.ol.length k.c3, .slice k.o4 x.ap.length k.c4, .slice k.o5 x.be.length k.c5] 30) = W := ⟨_, rfl⟩
  have hb := hW ▸ below_alloc w (.cells #[.slice k.o0 x.pl.length k.c0, .slice k.o1 x.al.length k.c1, .slice k.o2 x.tl.length k.c2, .slice k.o3 x.ol.length k.c3, .slice k.o4 x.ap.length k.c4, .slice k.o5 x.be.length k.c5] 30)
  have hq : Cb W1 w.heap.size #[.slice k.o0 x.pl.length k.c0, .slice k.o1 x.al.length k.c1, .slice k.o2 x.tl.length k.c2, .slice k.o3 x.ol.length k.c3, .slice k.o4 x.ap.length k.c4, .slice k.o5 x.be.length k.c5] 30 := hW ▸ Cb.made w #[.slice k.o0 x.pl.length k.c0, .slice k.o1 x.al.length k.c1, .slice k.o2 x.tl.length k.c2, .slice k.o3 x.ol.length k.c3, .slice k.o4 x.ap.length k.c4, .slice k.o5 x.be.length k.c5] 30
  refine sx_mem (by kernel_rfl) rfl rfl (.pointer (some ⟨w.heap.size, 0, none⟩)) W1 (by rw [← hW]; kernel_rfl) ?_
  replace HB := over HB hb
  have z1 := hb.size
  have M2 := hq
  have yM2 := hq.lt
  clear hq hb hW
  refine sx_val (by kernel_rfl) rfl rfl (.bool false) (by kernel_rfl) ?_
  refine wpList_nil ?_
  refine sx_norm ?_
  refine wp_seq ?_
  refine wp_seq ?_
  refine wp_region_lit ?_
  refine sx_val (by kernel_rfl) rfl rfl (.agg #[.slice k.o0 x.pl.length k.c0, .slice k.o1 x.al.length k.c1, .slice k.o2 x.tl.length k.c2, .slice k.o3 x.ol.length k.c3, .slice k.o4 x.ap.length k.c4, .slice k.o5 x.be.length k.c5]) (ex_load rfl M2 (by kernel_rfl) Try.underlying30 rfl (by kernel_rfl)) ?_
  by_cases C1 : (fewB x) = true
  · refine sx_call (by kernel_rfl) rfl rfl ((by have h8 := few_n k x hv W1 (hI.below HB); rw [show (fewB x) = true by simpa using C1] at h8; exact h8)) (by kernel_rfl) ?_
    rintro e W3 ⟨rfl, hb⟩
    replace HB := over HB hb
    replace M2 := M2.below hb
    have z2 := hb.size
    clear hb
    refine ⟨_, rfl, ?_⟩
    refine sx_val (by kernel_rfl) rfl rfl (.bool false) (by kernel_rfl) ?_
    refine wpList_nil ?_
    refine sx_norm ?_
    refine sx_false (by kernel_rfl) ?_
    refine wp_skip ?_
    refine sx_norm ?_
    refine wp_seq ?_
    have hq := few_ok (x := x) (by assumption)
    have hq1 := hq.1
    have hq5 := hq.2.2.2.2.1
    have hq6 := hq.2.2.2.2.2
    refine wp_region_lit ?_
    refine sx_val (by kernel_rfl) rfl rfl (.agg #[.slice k.o0 x.pl.length k.c0, .slice k.o1 x.al.length k.c1, .slice k.o2 x.tl.length k.c2, .slice k.o3 x.ol.length k.c3, .slice k.o4 x.ap.length k.c4, .slice k.o5 x.be.length k.c5]) (ex_load rfl M2 (by kernel_rfl) Try.underlying30 rfl (by kernel_rfl)) ?_
    refine sx_val (by kernel_rfl) rfl rfl (.int .i64 z) (by kernel_rfl) ?_
    refine sx_call (by kernel_rfl) rfl rfl (all16_n k.o0 k.o1 k.o2 k.o3 k.o4 k.o5 x.pl.length x.al.length x.tl.length k.c0 k.c1 k.c2 k.c3 k.c4 k.c5 x.ol x.ap x.be (by omega) hq.2.2.1 (by omega) hq.2.2.2.1 (by omega) z hz W3 (hI.below HB).h3 (hI.below HB).h4 (hI.below HB).h5) (by kernel_rfl) ?_
    rintro e W4 ⟨va, vsa, rfl, hfa, hea, hb⟩
    obtain ⟨oaa, caa, hva⟩ := Fo.form hfa
    subst hva
    replace HB := over HB hb
    replace M2 := M2.below hb
    have z3 := hb.size
    clear hb
    refine ⟨_, rfl, ?_⟩
    refine sx_val (by kernel_rfl) rfl rfl (.tuple #[.slice oaa vsa.length caa, .int .i64 (allE z x.ol x.ap x.be)]) (by kernel_rfl) ?_
    refine sx_val (by kernel_rfl) rfl rfl (.slice oaa vsa.length caa) (by kernel_rfl) ?_
    refine sx_val (by kernel_rfl) rfl rfl (.int .i64 (allE z x.ol x.ap x.be)) (by kernel_rfl) ?_
    refine sx_val (by kernel_rfl) rfl rfl (.slice oaa vsa.length caa) (by kernel_rfl) ?_
    refine sx_val (by kernel_rfl) rfl rfl (.int .i64 (allE z x.ol x.ap x.be)) (by kernel_rfl) ?_
    refine wpList_nil ?_
    refine sx_norm ?_
    refine wp_seq ?_
    refine wp_region_lit ?_
    refine sx_val (by kernel_rfl) rfl rfl (.agg #[.slice k.o0 x.pl.length k.c0, .slice k.o1 x.al.length k.c1, .slice k.o2 x.tl.length k.c2, .slice k.o3 x.ol.length k.c3, .slice k.o4 x.ap.length k.c4, .slice k.o5 x.be.length k.c5]) (ex_load rfl M2 (by kernel_rfl) Try.underlying30 rfl (by kernel_rfl)) ?_
    refine sx_val (by kernel_rfl) rfl rfl (.int .i64 z) (by kernel_rfl) ?_
    refine sx_call (by kernel_rfl) rfl rfl (refAll_n k.o0 k.o1 k.o2 k.o3 k.o4 k.o5 x.pl.length x.al.length x.tl.length k.c0 k.c1 k.c2 k.c3 k.c4 k.c5 x.ol x.ap x.be hq.2.1 (by omega) hq.2.2.1 (by omega) hq.2.2.2.1 (by omega) z hz W4 (hI.below HB).h3 (hI.below HB).h4 (hI.below HB).h5) (by kernel_rfl) ?_
    rintro e W5 ⟨oab, cab, vsb, rfl, hfb, heb, hb⟩
    replace HB := over HB hb
    replace M2 := M2.below hb
    replace hfa := own_below hfa hb
    replace hea := hea.below hb
    have z4 := hb.size
    clear hb
    refine ⟨_, rfl, ?_⟩
    refine sx_val (by kernel_rfl) rfl rfl (.tuple #[.slice oab vsb.length cab, .int .i64 (allE z x.ol x.ap x.be)]) (by kernel_rfl) ?_
    refine sx_val (by kernel_rfl) rfl rfl (.slice oab vsb.length cab) (by kernel_rfl) ?_
    refine sx_val (by kernel_rfl) rfl rfl (.int .i64 (allE z x.ol x.ap x.be)) (by kernel_rfl) ?_
    refine sx_val (by kernel_rfl) rfl rfl (.slice oab vsb.length cab) (by kernel_rfl) ?_
    refine sx_val (by kernel_rfl) rfl rfl (.int .i64 (allE z x.ol x.ap x.be)) (by kernel_rfl) ?_
    refine wpList_nil ?_
    refine sx_norm ?_
    refine wp_seq ?_
    refine wp_region_lit ?_
    refine sx_val (by kernel_rfl) rfl rfl (.slice oaa vsa.length caa) (by kernel_rfl) ?_
    refine sx_val (by kernel_rfl) rfl rfl (.slice oab vsb.length cab) (by kernel_rfl) ?_
    refine sx_call (by kernel_rfl) rfl rfl (lists_n oaa oab caa cab _ _ vsa vsb (allS z x.ol x.ap x.be) (fun u hu => Nat.le_trans (allS_lens hq.2.1 (by omega) hq.2.2.2.1 hz.2 u hu) (by decide)) W5 hfa hea hfb heb (Nat.le_trans (allS_len _ _ _ _) (by decide))) (by kernel_rfl) ?_
    rintro e W6 ⟨rfl, hb⟩
    replace HB := over HB hb
    replace M2 := M2.below hb
    replace hfa := own_below hfa hb
    replace hea := hea.below hb
    replace hfb := own_below hfb hb
    replace heb := heb.below hb
    have z5 := hb.size
    clear hb
    refine ⟨_, rfl, ?_⟩
    refine sx_val (by kernel_rfl) rfl rfl (.bool true) (by kernel_rfl) ?_
    refine sx_val (by kernel_rfl) rfl rfl (.int .i64 (allE z x.ol x.ap x.be)) (by kernel_rfl) ?_
    refine sx_val (by kernel_rfl) rfl rfl (.int .i64 (allE z x.ol x.ap x.be)) (by kernel_rfl) ?_
    refine sx_bool (by kernel_rfl) rfl rfl (((allE z x.ol x.ap x.be) : Int) == ((allE z x.ol x.ap x.be) : Int)) true (by kernel_rfl) (by simp) ?_
    refine sx_val (by kernel_rfl) rfl rfl (.bool true) (by kernel_rfl) ?_
    refine sx_val (by kernel_rfl) rfl rfl (.bool true) (by kernel_rfl) ?_
    refine sx_call (by kernel_rfl) rfl rfl (awake16_n W6) (by kernel_rfl) ?_
    rintro e W7 ⟨rfl, hb⟩
    replace HB := over HB hb
    replace M2 := M2.below hb
    replace hfa := own_below hfa hb
    replace hea := hea.below hb
    replace hfb := own_below hfb hb
    replace heb := heb.below hb
    have z6 := hb.size
    clear hb
    refine ⟨_, rfl, ?_⟩
    refine sx_val (by kernel_rfl) rfl rfl (.bool true) (by kernel_rfl) ?_
    refine sx_val (by kernel_rfl) rfl rfl (.bool true) (by kernel_rfl) ?_
    refine wpList_nil ?_
    refine sx_norm ?_
    refine wp_ret ?_
    exact sx_ret1 (.bool true) rfl rfl (by kernel_rfl) ⟨rfl, HB⟩
  refine sx_call (by kernel_rfl) rfl rfl ((by have h8 := few_n k x hv W1 (hI.below HB); rw [show (fewB x) = false by simpa using C1] at h8; exact h8)) (by kernel_rfl) ?_
  rintro e W8 ⟨rfl, hb⟩
  replace HB := over HB hb
  replace M2 := M2.below hb
  have z2 := hb.size
  clear hb
  refine ⟨_, rfl, ?_⟩
  refine sx_val (by kernel_rfl) rfl rfl (.bool true) (by kernel_rfl) ?_
  refine wpList_nil ?_
  refine sx_norm ?_
  refine sx_true (by kernel_rfl) ?_
  refine wp_seq ?_
  refine wp_region_lit ?_
  refine sx_call (by kernel_rfl) rfl rfl (awake16_n W8) (by kernel_rfl) ?_
  rintro e W9 ⟨rfl, hb⟩
  replace HB := over HB hb
  replace M2 := M2.below hb
  have z3 := hb.size
  clear hb
  refine ⟨_, rfl, ?_⟩
  refine sx_val (by kernel_rfl) rfl rfl (.bool true) (by kernel_rfl) ?_
  refine wpList_nil ?_
  refine sx_norm ?_
  refine wp_ret ?_
  refine sx_rs ?_
  exact sx_ret1 (.bool true) rfl rfl (by kernel_rfl) ⟨rfl, HB⟩

end Go.Proofs.Ytoliacfpjhanlaa.T


