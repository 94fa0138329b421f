/-
  DERIVED. Sm: a part of the base of layer 13 (made by pack.py).
-/
import Derived.Test.YtoliacfpjhanlaaHM
import Derived.Test.YtoliacfpjhanlaaGD
import Derived.Test.YtoliacfpjhanlaaSl
/-! Tours are checked (by gen_sm.py). -/
namespace Go.Proofs.Ytoliacfpjhanlaa.T
open Go.RowKit
set_option maxRecDepth 8000
attribute [local irreducible] wpList Code.wp wpAnyH

def pairB (T : List Nat) (ap : List (Int × Int)) : Bool := ap.any fun p => hasT T (U.pa p) && hasT T (U.pb p)
def pairdB (ol : List OrT) (T : List Nat) (l : List (Int × Bool)) : Bool := l.all fun v => decide (v ∈ visL ol v.1) && inTurnB T (visL ol v.1) 0
def folB (ol : List OrT) (T : List Nat) (be : List (Int × Int)) : Bool := be.all fun p => !hasT T (U.pb p) || inTurnB T (visL ol (U.pa p : Int) ++ visL ol (U.pb p : Int)) 0
section
variable {α : Type} {d : α} {p : α → Bool} {l : List α} {j : Nat}
theorem anyT_more (hj : j < l.length) (h : (l.take j).any p = false) (h2 : p (l.getD j d) = false) : (l.take (j + 1)).any p = false := by
  rw [take_more (d := d) hj, List.any_append, h, List.any_cons, List.any_nil, h2]
  rfl
theorem anyT_yes (hj : j < l.length) (h2 : p (l.getD j d) = true) : l.any p = true := List.any_eq_true.2 ⟨_, getD_mem hj, h2⟩
theorem anyT_end (hj : l.length ≤ j) (h : (l.take j).any p = false) : l.any p = false := by rwa [List.take_of_length_le hj] at h
theorem allT_more (hj : j < l.length) (h : (l.take j).all p = true) (h2 : p (l.getD j d) = true) : (l.take (j + 1)).all p = true := by
  rw [take_more (d := d) hj, List.all_append, h, List.all_cons, List.all_nil, h2]
  rfl
theorem allT_no (hj : j < l.length) (h2 : p (l.getD j d) = false) : l.all p = false := by
  cases h : l.all p
  · rfl
  · rw [List.all_eq_true] at h
    rw [h _ (getD_mem hj)] at h2
    cases h2
theorem allT_end (hj : l.length ≤ j) (h : (l.take j).all p = true) : l.all p = true := by rwa [List.take_of_length_le hj] at h
end
theorem Vs.bel {w w' : World} {v : Value} {l : List (Int × Bool)} (h : Vs w v l) (hb : Below w.heap.size w w') : Vs w' v l := Sl.below h hb
theorem visE {ol : List OrT} {k : Nat} (hk : k < ol.length) : Ex ol.length (visL ol ((k : Nat) : Int)) := fun i hi => by
  rw [vis_num ol k _ (getD_mem hi)]
  omega
theorem Ex.app {n : Nat} {a b : List (Int × Bool)} (ha : Ex n a) (hb : Ex n b) : Ex n (a ++ b) := fun i hi => by
  rw [List.length_append] at hi
  by_cases h : i < a.length
  · rw [List.getD_eq_getElem?_getD, List.getElem?_append_left h, ← List.getD_eq_getElem?_getD]; exact ha i h
  · rw [List.getD_eq_getElem?_getD, List.getElem?_append_right (by omega), ← List.getD_eq_getElem?_getD]; exact hb _ (by omega)
theorem tourPair_n (q ct : Nat) (ol : List OrT) (T : List Nat) (hTl : T.length = ol.length * 2) (o5 : Option Addr) (c5 : Nat) (be : List (Int × Int)) (hr : U.Rt ol.length be) (hl : be.length ≤ 1000000) (w : World) (hT : Cb w q (nC T) 118) (hps : Ps w (.slice o5 be.length c5) be) : Calls Try.prog 31 #[.slice (some ⟨q, 0, none⟩) ol.length ct, .slice o5 be.length c5] w fun e w' => e = .returned (.bool (pairB T be)) ∧ Below w.heap.size w w' := by
  have HB : Below w.heap.size w w := Below.refl _ _
  obtain ⟨b5, q5, hpr⟩ := Ps.rw hr hps
  refine sx_enter Try.func31 rfl [(0, .slice (some ⟨q, 0, none⟩) ol.length ct), (1, .slice o5 be.length c5)] (by kernel_rfl) ?_
  refine wp_seq ?_
  refine wp_region_lit ?_
  refine sx_val (by kernel_rfl) rfl rfl (.bool false) (by kernel_rfl) ?_
  refine wpList_nil ?_
  refine sx_norm ?_
  refine wp_seq ?_
  refine wp_seq ?_
  refine wp_region_lit ?_
  refine sx_val (by kernel_rfl) rfl rfl (.slice o5 be.length c5) (by kernel_rfl) ?_
  refine sx_val (by kernel_rfl) rfl rfl (.int .i64 ((be.length : Nat) : Int)) (by kernel_rfl) ?_
  refine sx_val (by kernel_rfl) rfl rfl (.int .i64 0) (by kernel_rfl) ?_
  refine wpList_nil ?_
  refine sx_norm ?_
  refine wp_block ?_
  refine sx_loop (fun j : Nat => [(0, .slice (some ⟨q, 0, none⟩) ol.length ct), (1, .slice o5 be.length c5), (7, .slice o5 be.length c5), (8, .int .i64 ((be.length : Nat) : Int)), (9, .int .i64 ((j : Nat) : Int))]) (fun gg j wr => j ≤ be.length ∧ be.length - j ≤ gg ∧ (be.take j).any (fun p => hasT T (U.pa p) && hasT T (U.pb p)) = false ∧ Below w.heap.size w wr) (be.length) (0) (by kernel_rfl) ⟨Nat.zero_le _, Nat.le_refl _, rfl, Below.refl _ _⟩ ?_
  rintro gg j g' wr1 ⟨hj, hg, hI, hbl⟩
  replace HB := over HB hbl
  have z1 := hbl.size
  have HL := hbl
  clear hbl
  refine wp_seq ?_
  refine wp_region_lit ?_
  by_cases C1 : j < be.length
  · refine sx_bool (by kernel_rfl) rfl rfl (decide (((j : Nat) : Int) < ((be.length : Nat) : Int))) true (by kernel_rfl) (decide_eq_true (by omega)) ?_
    refine wpList_nil ?_
    refine sx_norm ?_
    refine wp_seq ?_
    refine sx_true (by kernel_rfl) ?_
    refine wp_skip ?_
    refine sx_norm ?_
    refine wp_seq ?_
    refine wp_block ?_
    refine wp_seq ?_
    refine wp_region_lit ?_
    have hrt := U.getD_rt hr (k := j) (by omega)
    have hpa := hrt.1
    have hpb := hrt.2.1
    clear hrt
    refine sx_val (by kernel_rfl) rfl rfl (.pointer (some ⟨b5, q5 + j * 2, none⟩)) (ex_indexO (q := q5) (m := be.length) (c := c5) (k := j) (s := 2) rfl (by kernel_rfl) ((hpr.below HB).oa (k := j) (by omega)) (by kernel_rfl) Try.underlying28 (by kernel_rfl) (by omega) (by omega)) ?_
    refine sx_val (by kernel_rfl) rfl rfl (.agg #[.int .i64 ((U.pa (be.getD j (0, 0)) : Nat) : Int), .int .i64 ((U.pb (be.getD j (0, 0)) : Nat) : Int)]) (ex_loadR rfl ((hpr.below HB).range (k := j) (by omega)) (by kernel_rfl) Try.underlying96 rfl (by kernel_rfl)) ?_
    obtain ⟨W3, hW⟩ : ∃ W, (wr1.alloc (.cells #[.int .i64 0, .int .i64 0] 96)).setRow wr1.heap.size #[.int .i64 ((U.pa (be.getD j (0, 0)) : Nat) : Int), .int .i64 ((U.pb (be.getD j (0, 0)) : Nat) : Int)] = W := ⟨_, rfl⟩
    have hb := hW ▸ below_var wr1 (.cells #[.int .i64 0, .int .i64 0] 96) #[.int .i64 ((U.pa (be.getD j (0, 0)) : Nat) : Int), .int .i64 ((U.pb (be.getD j (0, 0)) : Nat) : Int)]
    have hq : Cb W3 wr1.heap.size #[.int .i64 ((U.pa (be.getD j (0, 0)) : Nat) : Int), .int .i64 ((U.pb (be.getD j (0, 0)) : Nat) : Int)] 96 := hW ▸ Cb.row (Cb.made wr1 #[.int .i64 0, .int .i64 0] 96) _
    refine sx_mem (by kernel_rfl) rfl rfl (.pointer (some ⟨wr1.heap.size, 0, none⟩)) (wr1.alloc (.cells #[.int .i64 0, .int .i64 0] 96)) (by kernel_rfl) ?_
    refine sx_store (cells := #[.int .i64 ((U.pa (be.getD j (0, 0)) : Nat) : Int), .int .i64 ((U.pb (be.getD j (0, 0)) : Nat) : Int)]) (by kernel_rfl) rfl rfl (Cb.made wr1 #[.int .i64 0, .int .i64 0] 96) (by kernel_rfl) (by kernel_rfl) (by kernel_rfl) (by kernel_rfl) (by kernel_rfl) ?_
    rw [hW]
    replace HB := over HB hb
    replace HL := over HL hb
    have z2 := hb.size
    have M2 := hq
    have yM2 := hq.lt
    clear hq hb hW
    refine wpList_nil ?_
    refine sx_norm ?_
    refine wp_seq ?_
    refine wp_region_lit ?_
    refine sx_val (by kernel_rfl) rfl rfl (.slice (some ⟨q, 0, none⟩) ol.length ct) (by kernel_rfl) ?_
    refine sx_val (by kernel_rfl) rfl rfl (.pointer (some ⟨wr1.heap.size, 0, none⟩)) (by kernel_rfl) ?_
    refine sx_val (by kernel_rfl) rfl rfl (.int .i64 ((U.pa (be.getD j (0, 0)) : Nat) : Int)) (ex_load1 rfl (M2.cell 0 rfl) (by kernel_rfl) Try.underlying3 rfl) ?_
    by_cases C2 : hasT T (U.pa (be.getD j (0, 0))) = true
    · refine sx_call (by kernel_rfl) rfl rfl ((by have h8 := hasT_n q ct ol.length T hTl (U.pa (be.getD j (0, 0))) (by omega) W3 (hT.below HB); rw [show hasT T (U.pa (be.getD j (0, 0))) = true by simpa using C2] at h8; exact h8)) (by kernel_rfl) ?_
      rintro e w9 ⟨rfl, rfl⟩
      refine ⟨_, rfl, ?_⟩
      refine sx_val (by kernel_rfl) rfl rfl (.bool true) (by kernel_rfl) ?_
      refine sx_val (by kernel_rfl) rfl rfl (.slice (some ⟨q, 0, none⟩) ol.length ct) (by kernel_rfl) ?_
      refine sx_val (by kernel_rfl) rfl rfl (.pointer (some ⟨wr1.heap.size, 1, none⟩)) (by kernel_rfl) ?_
      refine sx_val (by kernel_rfl) rfl rfl (.int .i64 ((U.pb (be.getD j (0, 0)) : Nat) : Int)) (ex_load1 rfl (M2.cell 1 rfl) (by kernel_rfl) Try.underlying3 rfl) ?_
      by_cases C3 : hasT T (U.pb (be.getD j (0, 0))) = true
      · refine sx_call (by kernel_rfl) rfl rfl ((by have h8 := hasT_n q ct ol.length T hTl (U.pb (be.getD j (0, 0))) (by omega) W3 (hT.below HB); rw [show hasT T (U.pb (be.getD j (0, 0))) = true by simpa using C3] at h8; exact h8)) (by kernel_rfl) ?_
        rintro e w9 ⟨rfl, rfl⟩
        refine ⟨_, rfl, ?_⟩
        refine sx_val (by kernel_rfl) rfl rfl (.bool true) (by kernel_rfl) ?_
        refine wpList_nil ?_
        refine sx_norm ?_
        refine sx_true (by kernel_rfl) ?_
        refine wp_seq ?_
        refine wp_region_lit ?_
        refine sx_val (by kernel_rfl) rfl rfl (.bool true) (by kernel_rfl) ?_
        refine wpList_nil ?_
        refine sx_norm ?_
        refine wp_ret ?_
        refine sx_rb ?_
        refine sx_rs ?_
        refine sx_rs ?_
        refine sx_rb ?_
        refine sx_rs ?_
        exact sx_ret1 (.bool true) rfl rfl (by kernel_rfl) ⟨ret_bool ((anyT_yes (d := (0, 0)) (j := j) (by omega) (by simp_all))).symm, HB⟩
      refine sx_call (by kernel_rfl) rfl rfl ((by have h8 := hasT_n q ct ol.length T hTl (U.pb (be.getD j (0, 0))) (by omega) W3 (hT.below HB); rw [show hasT T (U.pb (be.getD j (0, 0))) = false by simpa using C3] at h8; exact h8)) (by kernel_rfl) ?_
      rintro e w9 ⟨rfl, rfl⟩
      refine ⟨_, rfl, ?_⟩
      refine sx_val (by kernel_rfl) rfl rfl (.bool false) (by kernel_rfl) ?_
      refine wpList_nil ?_
      refine sx_norm ?_
      refine sx_false (by kernel_rfl) ?_
      refine wp_skip ?_
      refine sx_in ?_
      refine sx_norm ?_
      refine wp_region_lit ?_
      refine sx_int (by kernel_rfl) rfl rfl .i64 (IntKind.i64.wrap (((j : Nat) : Int) + 1)) (((j + 1 : Nat) : Int)) (by kernel_rfl) (by rw [IntKind.wrap_i64]; omega) ?_
      refine sx_val (by kernel_rfl) rfl rfl (.int .i64 ((j + 1 : Nat) : Int)) (by kernel_rfl) ?_
      refine wpList_nil ?_
      refine sx_norm ?_
      exact sx_again (be.length - (j + 1)) (j + 1) (by omega) (by kernel_rfl) ⟨by omega, Nat.le_refl _, anyT_more (d := (0, 0)) (by omega) hI (by simp_all), HL⟩
    refine sx_call (by kernel_rfl) rfl rfl ((by have h8 := hasT_n q ct ol.length T hTl (U.pa (be.getD j (0, 0))) (by omega) W3 (hT.below HB); rw [show hasT T (U.pa (be.getD j (0, 0))) = false by simpa using C2] at h8; exact h8)) (by kernel_rfl) ?_
    rintro e w9 ⟨rfl, rfl⟩
    refine ⟨_, rfl, ?_⟩
    refine sx_val (by kernel_rfl) rfl rfl (.bool false) (by kernel_rfl) ?_
    refine sx_skip (by kernel_rfl) rfl rfl ?_
    refine sx_skip (by kernel_rfl) rfl rfl ?_
    refine sx_skip (by kernel_rfl) rfl rfl ?_
    refine sx_skip (by kernel_rfl) rfl rfl ?_
    refine sx_val (by kernel_rfl) rfl rfl (.bool false) (by kernel_rfl) ?_
    refine wpList_nil ?_
    refine sx_norm ?_
    refine sx_false (by kernel_rfl) ?_
    refine wp_skip ?_
    refine sx_in ?_
    refine sx_norm ?_
    refine wp_region_lit ?_
    refine sx_int (by kernel_rfl) rfl rfl .i64 (IntKind.i64.wrap (((j : Nat) : Int) + 1)) (((j + 1 : Nat) : Int)) (by kernel_rfl) (by rw [IntKind.wrap_i64]; omega) ?_
    refine sx_val (by kernel_rfl) rfl rfl (.int .i64 ((j + 1 : Nat) : Int)) (by kernel_rfl) ?_
    refine wpList_nil ?_
    refine sx_norm ?_
    exact sx_again (be.length - (j + 1)) (j + 1) (by omega) (by kernel_rfl) ⟨by omega, Nat.le_refl _, anyT_more (d := (0, 0)) (by omega) hI (by simp_all), HL⟩
  refine sx_bool (by kernel_rfl) rfl rfl (decide (((j : Nat) : Int) < ((be.length : Nat) : Int))) false (by kernel_rfl) (decide_eq_false (by omega)) ?_
  refine wpList_nil ?_
  refine sx_norm ?_
  refine wp_seq ?_
  refine sx_false (by kernel_rfl) ?_
  refine wp_exit ?_
  refine sx_es ?_
  refine sx_es ?_
  refine sx_out ?_
  refine sx_norm ?_
  refine wp_seq ?_
  refine wp_region_lit ?_
  refine sx_val (by kernel_rfl) rfl rfl (.bool false) (by kernel_rfl) ?_
  refine wpList_nil ?_
  refine sx_norm ?_
  refine wp_ret ?_
  exact sx_ret1 (.bool false) rfl rfl (by kernel_rfl) ⟨ret_bool ((anyT_end (by omega) hI)).symm, HB⟩
theorem vis_len9 (ol : List OrT) (i : Int) : (visL ol i).length ≤ 2 := by
  unfold visL visO
  split
  · rw [List.length_append]
    split <;> split <;> simp
  · simp
theorem visE9 {ol : List OrT} {i : Int} (hi : 0 ≤ i ∧ i < ol.length) : Ex ol.length (visL ol i) := by
  obtain ⟨k, rfl⟩ := Int.eq_ofNat_of_zero_le hi.1
  exact visE (by omega)
theorem isPaired_n (q ct : Nat) (ol : List OrT) (T : List Nat) (hTl : T.length = ol.length * 2) (o3 : Option Addr) (c3 : Nat) (l : List (Int × Bool)) (ll : l.length ≤ 1000000) (hex : Ex ol.length l) (oa : Option Addr) (c b o : Nat) (w : World) (hT : Cb w q (nC T) 118) (hos : Os w (.slice o3 ol.length c3) ol) (hv : Rw w b o 2 (vF l) l.length oa) : Calls Try.prog 30 #[.slice (some ⟨q, 0, none⟩) ol.length ct, .slice o3 ol.length c3, .slice oa l.length c] w fun e w' => e = .returned (.bool (pairdB ol T l)) ∧ Below w.heap.size w w' := by
  have HB : Below w.heap.size w w := Below.refl _ _
  refine sx_enter Try.func30 rfl [(0, .slice (some ⟨q, 0, none⟩) ol.length ct), (1, .slice o3 ol.length c3), (2, .slice oa l.length c)] (by kernel_rfl) ?_
  refine wp_seq ?_
  refine wp_region_lit ?_
  refine sx_val (by kernel_rfl) rfl rfl (.bool false) (by kernel_rfl) ?_
  refine wpList_nil ?_
  refine sx_norm ?_
  refine wp_seq ?_
  refine wp_seq ?_
  refine wp_region_lit ?_
  refine sx_val (by kernel_rfl) rfl rfl (.slice oa l.length c) (by kernel_rfl) ?_
  refine sx_val (by kernel_rfl) rfl rfl (.int .i64 ((l.length : Nat) : Int)) (by kernel_rfl) ?_
  refine sx_val (by kernel_rfl) rfl rfl (.int .i64 0) (by kernel_rfl) ?_
  refine wpList_nil ?_
  refine sx_norm ?_
  refine wp_block ?_
  refine sx_loop (fun j : Nat => [(0, .slice (some ⟨q, 0, none⟩) ol.length ct), (1, .slice o3 ol.length c3), (2, .slice oa l.length c), (10, .slice oa l.length c), (11, .int .i64 ((l.length : Nat) : Int)), (12, .int .i64 ((j : Nat) : Int))]) (fun gg j wr => j ≤ l.length ∧ l.length - j ≤ gg ∧ (l.take j).all (fun v => decide (v ∈ visL ol v.1) && inTurnB T (visL ol v.1) 0) = true ∧ Below w.heap.size w wr) (l.length) (0) (by kernel_rfl) ⟨Nat.zero_le _, Nat.le_refl _, rfl, Below.refl _ _⟩ ?_
  rintro gg j g' wr1 ⟨hj, hg, hI, hbl⟩
  replace HB := over HB hbl
  have z1 := hbl.size
  have HL := hbl
  clear hbl
  refine wp_seq ?_
  refine wp_region_lit ?_
  by_cases C1 : j < l.length
  · refine sx_bool (by kernel_rfl) rfl rfl (decide (((j : Nat) : Int) < ((l.length : Nat) : Int))) true (by kernel_rfl) (decide_eq_true (by omega)) ?_
    refine wpList_nil ?_
    refine sx_norm ?_
    refine wp_seq ?_
    refine sx_true (by kernel_rfl) ?_
    refine wp_skip ?_
    refine sx_norm ?_
    refine wp_seq ?_
    refine wp_block ?_
    refine wp_seq ?_
    refine wp_region_lit ?_
    refine sx_val (by kernel_rfl) rfl rfl (.pointer (some ⟨b, o + j * 2, none⟩)) (ex_indexO (q := o) (m := l.length) (c := c) (k := j) (s := 2) rfl (by kernel_rfl) ((hv.below HB).oa (k := j) (by omega)) (by kernel_rfl) Try.underlying32 (by kernel_rfl) (by omega) (by omega)) ?_
    refine sx_val (by kernel_rfl) rfl rfl (.agg #[.int .i64 ((l.getD j (0, false)).1), .bool (l.getD j (0, false)).2]) (ex_loadR rfl ((hv.below HB).range (k := j) (by omega)) (by kernel_rfl) Try.underlying52 rfl (by kernel_rfl)) ?_
    obtain ⟨W3, hW⟩ : ∃ W, (wr1.alloc (.cells #[.int .i64 0, .bool false] 52)).setRow wr1.heap.size #[.int .i64 ((l.getD j (0, false)).1), .bool (l.getD j (0, false)).2] = W := ⟨_, rfl⟩
    have hb := hW ▸ below_var wr1 (.cells #[.int .i64 0, .bool false] 52) #[.int .i64 ((l.getD j (0, false)).1), .bool (l.getD j (0, false)).2]
    have hq : Cb W3 wr1.heap.size #[.int .i64 ((l.getD j (0, false)).1), .bool (l.getD j (0, false)).2] 52 := hW ▸ Cb.row (Cb.made wr1 #[.int .i64 0, .bool false] 52) _
    refine sx_mem (by kernel_rfl) rfl rfl (.pointer (some ⟨wr1.heap.size, 0, none⟩)) (wr1.alloc (.cells #[.int .i64 0, .bool false] 52)) (by kernel_rfl) ?_
    refine sx_store (cells := #[.int .i64 ((l.getD j (0, false)).1), .bool (l.getD j (0, false)).2]) (by kernel_rfl) rfl rfl (Cb.made wr1 #[.int .i64 0, .bool false] 52) (by kernel_rfl) (by kernel_rfl) (by kernel_rfl) (by kernel_rfl) (by kernel_rfl) ?_
    rw [hW]
    replace HB := over HB hb
    replace HL := over HL hb
    have z2 := hb.size
    have M2 := hq
    have yM2 := hq.lt
    clear hq hb hW
    refine wpList_nil ?_
    refine sx_norm ?_
    refine wp_seq ?_
    refine wp_region_lit ?_
    refine sx_val (by kernel_rfl) rfl rfl (.slice o3 ol.length c3) (by kernel_rfl) ?_
    refine sx_val (by kernel_rfl) rfl rfl (.pointer (some ⟨wr1.heap.size, 0, none⟩)) (by kernel_rfl) ?_
    refine sx_val (by kernel_rfl) rfl rfl (.int .i64 ((l.getD j (0, false)).1)) (ex_load1 rfl (M2.cell 0 rfl) (by kernel_rfl) Try.underlying3 rfl) ?_
    refine sx_call (by kernel_rfl) rfl rfl (ordVisits_n (.slice o3 ol.length c3) ol (l.getD j (0, false)).1 W3 (hos.below HB)) (by kernel_rfl) ?_
    rintro e W4 ⟨oa9, ca9, rfl, ⟨hvs9, hgw9, hnn9⟩, hb⟩
    replace HB := over HB hb
    replace HL := over HL hb
    replace M2 := M2.below hb
    have z3 := hb.size
    clear hb
    refine ⟨_, rfl, ?_⟩
    refine sx_val (by kernel_rfl) rfl rfl (.slice oa9 (visL ol (l.getD j (0, false)).1).length ca9) (by kernel_rfl) ?_
    refine wpList_nil ?_
    refine sx_norm ?_
    refine wp_seq ?_
    refine wp_region_lit ?_
    refine sx_val (by kernel_rfl) rfl rfl (.slice oa9 (visL ol (l.getD j (0, false)).1).length ca9) (by kernel_rfl) ?_
    refine sx_val (by kernel_rfl) rfl rfl (.agg #[.int .i64 ((l.getD j (0, false)).1), .bool (l.getD j (0, false)).2]) (ex_load rfl M2 (by kernel_rfl) Try.underlying52 rfl (by kernel_rfl)) ?_
    obtain ⟨bv9, qv9, hr9⟩ := hvs9.rw2
    by_cases C2 : (l.getD j (0, false)) ∈ (visL ol (l.getD j (0, false)).1)
    · refine sx_call (by kernel_rfl) rfl rfl ((by have h8 := containsV_n (l.getD j (0, false)) (visL ol (l.getD j (0, false)).1) (by have h8 := vis_len9 ol (l.getD j (0, false)).1; omega) oa9 ca9 bv9 qv9 W4 hr9; rw [decide_eq_true C2] at h8; exact h8)) (by kernel_rfl) ?_
      rintro e W5 ⟨rfl, hb⟩
      replace HB := over HB hb
      replace HL := over HL hb
      replace M2 := M2.below hb
      replace hvs9 := hvs9.bel hb
      replace hgw9 := hgw9.frame hb
      have z4 := hb.size
      clear hb
      refine ⟨_, rfl, ?_⟩
      refine sx_val (by kernel_rfl) rfl rfl (.bool false) (by kernel_rfl) ?_
      refine sx_val (by kernel_rfl) rfl rfl (.bool false) (by kernel_rfl) ?_
      refine sx_val (by kernel_rfl) rfl rfl (.slice (some ⟨q, 0, none⟩) ol.length ct) (by kernel_rfl) ?_
      refine sx_val (by kernel_rfl) rfl rfl (.slice oa9 (visL ol (l.getD j (0, false)).1).length ca9) (by kernel_rfl) ?_
      obtain ⟨bv8, qv8, hr8⟩ := hvs9.rw2
      by_cases C3 : inTurnB T (visL ol (l.getD j (0, false)).1) 0 = true
      · refine sx_call (by kernel_rfl) rfl rfl ((by have h8 := inTurn_n q ct ol.length T hTl (visL ol (l.getD j (0, false)).1) (by have h8 := vis_len9 ol (l.getD j (0, false)).1; omega) (visE9 (hex j (by omega))) oa9 ca9 bv8 qv8 W5 (hT.below HB) hr8; rw [show inTurnB T (visL ol (l.getD j (0, false)).1) 0 = true by simpa using C3] at h8; exact h8)) (by kernel_rfl) ?_
        rintro e W6 ⟨rfl, hb⟩
        replace HB := over HB hb
        replace HL := over HL hb
        replace M2 := M2.below hb
        replace hvs9 := hvs9.bel hb
        replace hgw9 := hgw9.frame hb
        have z5 := hb.size
        clear hb
        refine ⟨_, rfl, ?_⟩
        refine sx_val (by kernel_rfl) rfl rfl (.bool false) (by kernel_rfl) ?_
        refine sx_val (by kernel_rfl) rfl rfl (.bool false) (by kernel_rfl) ?_
        refine wpList_nil ?_
        refine sx_norm ?_
        refine sx_false (by kernel_rfl) ?_
        refine wp_skip ?_
        refine sx_in ?_
        refine sx_norm ?_
        refine wp_region_lit ?_
        refine sx_int (by kernel_rfl) rfl rfl .i64 (IntKind.i64.wrap (((j : Nat) : Int) + 1)) (((j + 1 : Nat) : Int)) (by kernel_rfl) (by rw [IntKind.wrap_i64]; omega) ?_
        refine sx_val (by kernel_rfl) rfl rfl (.int .i64 ((j + 1 : Nat) : Int)) (by kernel_rfl) ?_
        refine wpList_nil ?_
        refine sx_norm ?_
        exact sx_again (l.length - (j + 1)) (j + 1) (by omega) (by kernel_rfl) ⟨by omega, Nat.le_refl _, allT_more (d := (0, false)) (by omega) hI (by show (decide _ && _) = true; rw [decide_eq_true (by assumption), Bool.true_and]; assumption), HL⟩
      refine sx_call (by kernel_rfl) rfl rfl ((by have h8 := inTurn_n q ct ol.length T hTl (visL ol (l.getD j (0, false)).1) (by have h8 := vis_len9 ol (l.getD j (0, false)).1; omega) (visE9 (hex j (by omega))) oa9 ca9 bv8 qv8 W5 (hT.below HB) hr8; rw [show inTurnB T (visL ol (l.getD j (0, false)).1) 0 = false by simpa using C3] at h8; exact h8)) (by kernel_rfl) ?_
      rintro e W7 ⟨rfl, hb⟩
      replace HB := over HB hb
      replace HL := over HL hb
      replace M2 := M2.below hb
      replace hvs9 := hvs9.bel hb
      replace hgw9 := hgw9.frame hb
      have z5 := hb.size
      clear hb
      refine ⟨_, rfl, ?_⟩
      refine sx_val (by kernel_rfl) rfl rfl (.bool true) (by kernel_rfl) ?_
      refine sx_val (by kernel_rfl) rfl rfl (.bool true) (by kernel_rfl) ?_
      refine wpList_nil ?_
      refine sx_norm ?_
      refine sx_true (by kernel_rfl) ?_
      refine wp_seq ?_
      refine wp_region_lit ?_
      refine sx_val (by kernel_rfl) rfl rfl (.bool false) (by kernel_rfl) ?_
      refine wpList_nil ?_
      refine sx_norm ?_
      refine wp_ret ?_
      refine sx_rb ?_
      refine sx_rs ?_
      refine sx_rs ?_
      refine sx_rb ?_
      refine sx_rs ?_
      exact sx_ret1 (.bool false) rfl rfl (by kernel_rfl) ⟨ret_bool ((allT_no (d := (0, false)) (j := j) (by omega) (by show (decide _ && _) = false; first | (rw [decide_eq_false (by assumption)]; rfl) | (rw [show inTurnB _ _ _ = false by simpa using (by assumption : ¬ (inTurnB _ _ _ = true)), Bool.and_false])))).symm, HB⟩
    refine sx_call (by kernel_rfl) rfl rfl ((by have h8 := containsV_n (l.getD j (0, false)) (visL ol (l.getD j (0, false)).1) (by have h8 := vis_len9 ol (l.getD j (0, false)).1; omega) oa9 ca9 bv9 qv9 W4 hr9; rw [decide_eq_false C2] at h8; exact h8)) (by kernel_rfl) ?_
    rintro e W8 ⟨rfl, hb⟩
    replace HB := over HB hb
    replace HL := over HL hb
    replace M2 := M2.below hb
    replace hvs9 := hvs9.bel hb
    replace hgw9 := hgw9.frame hb
    have z4 := hb.size
    clear hb
    refine ⟨_, rfl, ?_⟩
    refine sx_val (by kernel_rfl) rfl rfl (.bool true) (by kernel_rfl) ?_
    refine sx_val (by kernel_rfl) rfl rfl (.bool true) (by kernel_rfl) ?_
    refine sx_skip (by kernel_rfl) rfl rfl ?_
    refine sx_skip (by kernel_rfl) rfl rfl ?_
    refine sx_skip (by kernel_rfl) rfl rfl ?_
    refine sx_skip (by kernel_rfl) rfl rfl ?_
    refine sx_val (by kernel_rfl) rfl rfl (.bool true) (by kernel_rfl) ?_
    refine wpList_nil ?_
    refine sx_norm ?_
    refine sx_true (by kernel_rfl) ?_
    refine wp_seq ?_
    refine wp_region_lit ?_
    refine sx_val (by kernel_rfl) rfl rfl (.bool false) (by kernel_rfl) ?_
    refine wpList_nil ?_
    refine sx_norm ?_
    refine wp_ret ?_
    refine sx_rb ?_
    refine sx_rs ?_
    refine sx_rs ?_
    refine sx_rb ?_
    refine sx_rs ?_
    exact sx_ret1 (.bool false) rfl rfl (by kernel_rfl) ⟨ret_bool ((allT_no (d := (0, false)) (j := j) (by omega) (by show (decide _ && _) = false; first | (rw [decide_eq_false (by assumption)]; rfl) | (rw [show inTurnB _ _ _ = false by simpa using (by assumption : ¬ (inTurnB _ _ _ = true)), Bool.and_false])))).symm, HB⟩
  refine sx_bool (by kernel_rfl) rfl rfl (decide (((j : Nat) : Int) < ((l.length : Nat) : Int))) false (by kernel_rfl) (decide_eq_false (by omega)) ?_
  refine wpList_nil ?_
  refine sx_norm ?_
  refine wp_seq ?_
  refine sx_false (by kernel_rfl) ?_
  refine wp_exit ?_
  refine sx_es ?_
  refine sx_es ?_
  refine sx_out ?_
  refine sx_norm ?_
  refine wp_seq ?_
  refine wp_region_lit ?_
  refine sx_val (by kernel_rfl) rfl rfl (.bool true) (by kernel_rfl) ?_
  refine wpList_nil ?_
  refine sx_norm ?_
  refine wp_ret ?_
  exact sx_ret1 (.bool true) rfl rfl (by kernel_rfl) ⟨ret_bool ((allT_end (by omega) hI)).symm, HB⟩
theorem follows_n (q ct : Nat) (ol : List OrT) (T : List Nat) (hTl : T.length = ol.length * 2) (o3 : Option Addr) (c3 : Nat) (o5 : Option Addr) (c5 : Nat) (be : List (Int × Int)) (hr : U.Rt ol.length be) (hl : be.length ≤ 1000000) (w : World) (hT : Cb w q (nC T) 118) (hos : Os w (.slice o3 ol.length c3) ol) (hps : Ps w (.slice o5 be.length c5) be) : Calls Try.prog 32 #[.slice (some ⟨q, 0, none⟩) ol.length ct, .slice o3 ol.length c3, .slice o5 be.length c5] w fun e w' => e = .returned (.bool (folB ol T be)) ∧ Below w.heap.size w w' := by
  have HB : Below w.heap.size w w := Below.refl _ _
  obtain ⟨b5, q5, hpr⟩ := Ps.rw hr hps
  refine sx_enter Try.func32 rfl [(0, .slice (some ⟨q, 0, none⟩) ol.length ct), (1, .slice o3 ol.length c3), (2, .slice o5 be.length c5)] (by kernel_rfl) ?_
  refine wp_seq ?_
  refine wp_region_lit ?_
  refine sx_val (by kernel_rfl) rfl rfl (.bool false) (by kernel_rfl) ?_
  refine wpList_nil ?_
  refine sx_norm ?_
  refine wp_seq ?_
  refine wp_seq ?_
  refine wp_region_lit ?_
  refine sx_val (by kernel_rfl) rfl rfl (.slice o5 be.length c5) (by kernel_rfl) ?_
  refine sx_val (by kernel_rfl) rfl rfl (.int .i64 ((be.length : Nat) : Int)) (by kernel_rfl) ?_
  refine sx_val (by kernel_rfl) rfl rfl (.int .i64 0) (by kernel_rfl) ?_
  refine wpList_nil ?_
  refine sx_norm ?_
  refine wp_block ?_
  refine sx_loop (fun j : Nat => [(0, .slice (some ⟨q, 0, none⟩) ol.length ct), (1, .slice o3 ol.length c3), (2, .slice o5 be.length c5), (9, .slice o5 be.length c5), (10, .int .i64 ((be.length : Nat) : Int)), (11, .int .i64 ((j : Nat) : Int))]) (fun gg j wr => j ≤ be.length ∧ be.length - j ≤ gg ∧ (be.take j).all (fun p => !hasT T (U.pb p) || inTurnB T (visL ol (U.pa p : Int) ++ visL ol (U.pb p : Int)) 0) = true ∧ Below w.heap.size w wr) (be.length) (0) (by kernel_rfl) ⟨Nat.zero_le _, Nat.le_refl _, rfl, Below.refl _ _⟩ ?_
  rintro gg j g' wr1 ⟨hj, hg, hI, hbl⟩
  replace HB := over HB hbl
  have z1 := hbl.size
  have HL := hbl
  clear hbl
  refine wp_seq ?_
  refine wp_region_lit ?_
  by_cases C1 : j < be.length
  · refine sx_bool (by kernel_rfl) rfl rfl (decide (((j : Nat) : Int) < ((be.length : Nat) : Int))) true (by kernel_rfl) (decide_eq_true (by omega)) ?_
    refine wpList_nil ?_
    refine sx_norm ?_
    refine wp_seq ?_
    refine sx_true (by kernel_rfl) ?_
    refine wp_skip ?_
    refine sx_norm ?_
    refine wp_seq ?_
    refine wp_block ?_
    refine wp_seq ?_
    refine wp_region_lit ?_
    have hrt := U.getD_rt hr (k := j) (by omega)
    have hpa := hrt.1
    have hpb := hrt.2.1
    clear hrt
    refine sx_val (by kernel_rfl) rfl rfl (.pointer (some ⟨b5, q5 + j * 2, none⟩)) (ex_indexO (q := q5) (m := be.length) (c := c5) (k := j) (s := 2) rfl (by kernel_rfl) ((hpr.below HB).oa (k := j) (by omega)) (by kernel_rfl) Try.underlying28 (by kernel_rfl) (by omega) (by omega)) ?_
    refine sx_val (by kernel_rfl) rfl rfl (.agg #[.int .i64 ((U.pa (be.getD j (0, 0)) : Nat) : Int), .int .i64 ((U.pb (be.getD j (0, 0)) : Nat) : Int)]) (ex_loadR rfl ((hpr.below HB).range (k := j) (by omega)) (by kernel_rfl) Try.underlying96 rfl (by kernel_rfl)) ?_
    obtain ⟨W3, hW⟩ : ∃ W, (wr1.alloc (.cells #[.int .i64 0, .int .i64 0] 96)).setRow wr1.heap.size #[.int .i64 ((U.pa (be.getD j (0, 0)) : Nat) : Int), .int .i64 ((U.pb (be.getD j (0, 0)) : Nat) : Int)] = W := ⟨_, rfl⟩
    have hb := hW ▸ below_var wr1 (.cells #[.int .i64 0, .int .i64 0] 96) #[.int .i64 ((U.pa (be.getD j (0, 0)) : Nat) : Int), .int .i64 ((U.pb (be.getD j (0, 0)) : Nat) : Int)]
    have hq : Cb W3 wr1.heap.size #[.int .i64 ((U.pa (be.getD j (0, 0)) : Nat) : Int), .int .i64 ((U.pb (be.getD j (0, 0)) : Nat) : Int)] 96 := hW ▸ Cb.row (Cb.made wr1 #[.int .i64 0, .int .i64 0] 96) _
    refine sx_mem (by kernel_rfl) rfl rfl (.pointer (some ⟨wr1.heap.size, 0, none⟩)) (wr1.alloc (.cells #[.int .i64 0, .int .i64 0] 96)) (by kernel_rfl) ?_
    refine sx_store (cells := #[.int .i64 ((U.pa (be.getD j (0, 0)) : Nat) : Int), .int .i64 ((U.pb (be.getD j (0, 0)) : Nat) : Int)]) (by kernel_rfl) rfl rfl (Cb.made wr1 #[.int .i64 0, .int .i64 0] 96) (by kernel_rfl) (by kernel_rfl) (by kernel_rfl) (by kernel_rfl) (by kernel_rfl) ?_
    rw [hW]
    replace HB := over HB hb
    replace HL := over HL hb
    have z2 := hb.size
    have M2 := hq
    have yM2 := hq.lt
    clear hq hb hW
    refine wpList_nil ?_
    refine sx_norm ?_
    refine wp_seq ?_
    obtain ⟨Y4, hW⟩ : ∃ W, W3.drew = W := ⟨_, rfl⟩
    have hb : Below W3.heap.size W3 Y4 := hW ▸ below_drew (Below.refl _ _)
    replace HB := over HB hb
    replace HL := over HL hb
    replace M2 := M2.below hb
    have z3 := hb.size
    clear hb
    refine sd_begin (fun W => Cb W (wr1.heap.size) #[.int .i64 ((U.pa (be.getD j (0, 0)) : Nat) : Int), .int .i64 ((U.pb (be.getD j (0, 0)) : Nat) : Int)] 96 ∧ Rw W b5 q5 2 (pF be) be.length o5 ∧ True) (by kernel_rfl) (by rw [hW]; exact ⟨M2, (hpr.below HB), trivial⟩) ?_
    rw [hW]
    clear hW
    refine sd_take 0 rfl (by kernel_rfl) (by kernel_rfl) (by kernel_rfl) (by kernel_rfl) rfl rfl (.slice (some ⟨q, 0, none⟩) ol.length ct) (fun w9 _ => by kernel_rfl) (fun _ _ _ h => h) ⟨M2, (hpr.below HB), trivial⟩ ?_
    refine sd_take 1 rfl (by kernel_rfl) (by kernel_rfl) (by kernel_rfl) (by kernel_rfl) rfl rfl (.pointer (some ⟨wr1.heap.size, 1, none⟩)) (fun w9 _ => by kernel_rfl) (fun _ _ _ h => h) ⟨M2, (hpr.below HB), trivial⟩ ?_
    refine sd_take 2 rfl (by kernel_rfl) (by kernel_rfl) (by kernel_rfl) (by kernel_rfl) rfl rfl (.int .i64 ((U.pb (be.getD j (0, 0)) : Nat) : Int)) (fun w9 h9 => ex_load1 rfl (h9.1.cell 1 rfl) (by kernel_rfl) Try.underlying3 rfl) (fun _ _ _ h => h) ⟨M2, (hpr.below HB), trivial⟩ ?_
    refine sd_all [3] (by kernel_rfl) (by decide) ?_
    by_cases C2 : hasT T (U.pb (be.getD j (0, 0))) = true
    · refine sd_call (i := 3) rfl (by kernel_rfl) rfl rfl ((by have h8 := hasT_n q ct ol.length T hTl (U.pb (be.getD j (0, 0))) (by omega) Y4 (hT.below HB); rw [show hasT T (U.pb (be.getD j (0, 0))) = true by simpa using C2] at h8; exact h8)) (by kernel_rfl) ?_ AllReadyH.nil
      rintro e w9 ⟨rfl, rfl⟩
      refine ⟨_, rfl, ⟨M2, (hpr.below HB), trivial⟩, ?_⟩
      refine sd_take 4 rfl (by kernel_rfl) (by kernel_rfl) (by kernel_rfl) (by kernel_rfl) rfl rfl (.bool true) (fun w9 _ => by kernel_rfl) (fun _ _ _ h => h) ⟨M2, (hpr.below HB), trivial⟩ ?_
      refine sd_take 5 rfl (by kernel_rfl) (by kernel_rfl) (by kernel_rfl) (by kernel_rfl) rfl rfl (.slice (some ⟨q, 0, none⟩) ol.length ct) (fun w9 _ => by kernel_rfl) (fun _ _ _ h => h) ⟨M2, (hpr.below HB), trivial⟩ ?_
      refine sd_take 6 rfl (by kernel_rfl) (by kernel_rfl) (by kernel_rfl) (by kernel_rfl) rfl rfl (.slice o3 ol.length c3) (fun w9 _ => by kernel_rfl) (fun _ _ _ h => h) ⟨M2, (hpr.below HB), trivial⟩ ?_
      refine sd_take 7 rfl (by kernel_rfl) (by kernel_rfl) (by kernel_rfl) (by kernel_rfl) rfl rfl (.pointer (some ⟨wr1.heap.size, 0, none⟩)) (fun w9 _ => by kernel_rfl) (fun _ _ _ h => h) ⟨M2, (hpr.below HB), trivial⟩ ?_
      refine sd_take 8 rfl (by kernel_rfl) (by kernel_rfl) (by kernel_rfl) (by kernel_rfl) rfl rfl (.int .i64 ((U.pa (be.getD j (0, 0)) : Nat) : Int)) (fun w9 h9 => ex_load1 rfl (h9.1.cell 0 rfl) (by kernel_rfl) Try.underlying3 rfl) (fun _ _ _ h => h) ⟨M2, (hpr.below HB), trivial⟩ ?_
      refine sd_take 10 rfl (by kernel_rfl) (by kernel_rfl) (by kernel_rfl) (by kernel_rfl) rfl rfl (.slice o3 ol.length c3) (fun w9 _ => by kernel_rfl) (fun _ _ _ h => h) ⟨M2, (hpr.below HB), trivial⟩ ?_
      refine sd_take 11 rfl (by kernel_rfl) (by kernel_rfl) (by kernel_rfl) (by kernel_rfl) rfl rfl (.pointer (some ⟨wr1.heap.size, 1, none⟩)) (fun w9 _ => by kernel_rfl) (fun _ _ _ h => h) ⟨M2, (hpr.below HB), trivial⟩ ?_
      refine sd_take 12 rfl (by kernel_rfl) (by kernel_rfl) (by kernel_rfl) (by kernel_rfl) rfl rfl (.int .i64 ((U.pb (be.getD j (0, 0)) : Nat) : Int)) (fun w9 h9 => ex_load1 rfl (h9.1.cell 1 rfl) (by kernel_rfl) Try.underlying3 rfl) (fun _ _ _ h => h) ⟨M2, (hpr.below HB), trivial⟩ ?_
      refine sd_all [9] (by kernel_rfl) (by decide) ?_
      refine sd_call (i := 9) rfl (by kernel_rfl) rfl rfl (ordVisits_n (.slice o3 ol.length c3) ol (((U.pa (be.getD j (0, 0))) : Nat) : Int) Y4 (hos.below HB)) (by kernel_rfl) ?_ AllReadyH.nil
      rintro e W5 ⟨oaA, caA, rfl, ⟨hvsA, hgwA, hnnA⟩, hb⟩
      replace HB := over HB hb
      replace HL := over HL hb
      replace M2 := M2.below hb
      have z4 := hb.size
      clear hb
      refine ⟨_, rfl, ⟨M2, (hpr.below HB), trivial⟩, ?_⟩
      refine sd_all [13] (by kernel_rfl) (by decide) ?_
      refine sd_call (i := 13) rfl (by kernel_rfl) rfl rfl (ordVisits_n (.slice o3 ol.length c3) ol (((U.pb (be.getD j (0, 0))) : Nat) : Int) W5 (hos.below HB)) (by kernel_rfl) ?_ AllReadyH.nil
      rintro e W6 ⟨oaB, caB, rfl, ⟨hvsB, hgwB, hnnB⟩, hb⟩
      replace HB := over HB hb
      replace HL := over HL hb
      replace M2 := M2.below hb
      replace hvsA := hvsA.bel hb
      replace hgwA := hgwA.frame hb
      have z5 := hb.size
      clear hb
      refine ⟨_, rfl, ⟨M2, (hpr.below HB), trivial⟩, ?_⟩
      refine sd_all [14] (by kernel_rfl) (by decide) ?_
      obtain ⟨v5, W7, h5, hg5, hb, -, -⟩ := ap_w 32 hgwA ⟨oaB, caB, rfl, hvsB, hnnB⟩ (by omega) (by have h8 := vis_len9 ol (((U.pa (be.getD j (0, 0))) : Nat) : Int); have h7 := vis_len9 ol (((U.pb (be.getD j (0, 0))) : Nat) : Int); omega)
      obtain ⟨oa5, c5', rfl⟩ := Gn.form hg5
      have hvs5 : Vs W7 (.slice oa5 ((visL ol (((U.pa (be.getD j (0, 0))) : Nat) : Int)) ++ (visL ol (((U.pb (be.getD j (0, 0))) : Nat) : Int))).length c5') ((visL ol (((U.pa (be.getD j (0, 0))) : Nat) : Int)) ++ (visL ol (((U.pb (be.getD j (0, 0))) : Nat) : Int))) := Gn.sl hg5
      obtain ⟨bv5, qv5, hr5⟩ := hvs5.rw2
      replace HB := HB.trans (hb.mono (by omega))
      replace HL := HL.trans (hb.mono (by omega))
      replace M2 := M2.belowB (by omega) hb
      have z6 := hb.size
      clear hb
      refine sd_mem (i := 14) rfl (by kernel_rfl) rfl rfl (.slice oa5 ((visL ol (((U.pa (be.getD j (0, 0))) : Nat) : Int)) ++ (visL ol (((U.pb (be.getD j (0, 0))) : Nat) : Int))).length c5') W7 (ex_append rfl (by kernel_rfl) (by kernel_rfl) h5) ⟨M2, (hpr.below HB), trivial⟩ ?_ AllReadyH.nil
      refine sd_all [15] (by kernel_rfl) (by decide) ?_
      by_cases C3 : inTurnB T ((visL ol (((U.pa (be.getD j (0, 0))) : Nat) : Int)) ++ (visL ol (((U.pb (be.getD j (0, 0))) : Nat) : Int))) 0 = true
      · refine sd_call (i := 15) rfl (by kernel_rfl) rfl rfl ((by have h8 := inTurn_n q ct ol.length T hTl ((visL ol (((U.pa (be.getD j (0, 0))) : Nat) : Int)) ++ (visL ol (((U.pb (be.getD j (0, 0))) : Nat) : Int))) (by rw [List.length_append]; have h8 := vis_len9 ol (((U.pa (be.getD j (0, 0))) : Nat) : Int); have h7 := vis_len9 ol (((U.pb (be.getD j (0, 0))) : Nat) : Int); omega) ((visE hpa).app (visE hpb)) oa5 c5' bv5 qv5 W7 (hT.below HB) hr5; rw [show inTurnB T ((visL ol (((U.pa (be.getD j (0, 0))) : Nat) : Int)) ++ (visL ol (((U.pb (be.getD j (0, 0))) : Nat) : Int))) 0 = true by simpa using C3] at h8; exact h8)) (by kernel_rfl) ?_ AllReadyH.nil
        rintro e W8 ⟨rfl, hb⟩
        replace HB := over HB hb
        replace HL := over HL hb
        replace M2 := M2.below hb
        have z7 := hb.size
        clear hb
        refine ⟨_, rfl, ⟨M2, (hpr.below HB), trivial⟩, ?_⟩
        refine sd_take 16 rfl (by kernel_rfl) (by kernel_rfl) (by kernel_rfl) (by kernel_rfl) rfl rfl (.bool false) (fun w9 _ => by kernel_rfl) (fun _ _ _ h => h) ⟨M2, (hpr.below HB), trivial⟩ ?_
        refine sd_take 17 rfl (by kernel_rfl) (by kernel_rfl) (by kernel_rfl) (by kernel_rfl) rfl rfl (.bool false) (fun w9 _ => by kernel_rfl) (fun _ _ _ h => h) ⟨M2, (hpr.below HB), trivial⟩ ?_
        refine sd_done (by kernel_rfl) ?_
        refine sx_norm ?_
        refine sx_false (by kernel_rfl) ?_
        refine wp_skip ?_
        refine sx_in ?_
        refine sx_norm ?_
        refine wp_region_lit ?_
        refine sx_int (by kernel_rfl) rfl rfl .i64 (IntKind.i64.wrap (((j : Nat) : Int) + 1)) (((j + 1 : Nat) : Int)) (by kernel_rfl) (by rw [IntKind.wrap_i64]; omega) ?_
        refine sx_val (by kernel_rfl) rfl rfl (.int .i64 ((j + 1 : Nat) : Int)) (by kernel_rfl) ?_
        refine wpList_nil ?_
        refine sx_norm ?_
        exact sx_again (be.length - (j + 1)) (j + 1) (by omega) (by kernel_rfl) ⟨by omega, Nat.le_refl _, allT_more (d := (0, 0)) (by omega) hI (by show (!_ || _) = true; simp_all), HL⟩
      refine sd_call (i := 15) rfl (by kernel_rfl) rfl rfl ((by have h8 := inTurn_n q ct ol.length T hTl ((visL ol (((U.pa (be.getD j (0, 0))) : Nat) : Int)) ++ (visL ol (((U.pb (be.getD j (0, 0))) : Nat) : Int))) (by rw [List.length_append]; have h8 := vis_len9 ol (((U.pa (be.getD j (0, 0))) : Nat) : Int); have h7 := vis_len9 ol (((U.pb (be.getD j (0, 0))) : Nat) : Int); omega) ((visE hpa).app (visE hpb)) oa5 c5' bv5 qv5 W7 (hT.below HB) hr5; rw [show inTurnB T ((visL ol (((U.pa (be.getD j (0, 0))) : Nat) : Int)) ++ (visL ol (((U.pb (be.getD j (0, 0))) : Nat) : Int))) 0 = false by simpa using C3] at h8; exact h8)) (by kernel_rfl) ?_ AllReadyH.nil
      rintro e W9 ⟨rfl, hb⟩
      replace HB := over HB hb
      replace HL := over HL hb
      replace M2 := M2.below hb
      have z7 := hb.size
      clear hb
      refine ⟨_, rfl, ⟨M2, (hpr.below HB), trivial⟩, ?_⟩
      refine sd_take 16 rfl (by kernel_rfl) (by kernel_rfl) (by kernel_rfl) (by kernel_rfl) rfl rfl (.bool true) (fun w9 _ => by kernel_rfl) (fun _ _ _ h => h) ⟨M2, (hpr.below HB), trivial⟩ ?_
      refine sd_take 17 rfl (by kernel_rfl) (by kernel_rfl) (by kernel_rfl) (by kernel_rfl) rfl rfl (.bool true) (fun w9 _ => by kernel_rfl) (fun _ _ _ h => h) ⟨M2, (hpr.below HB), trivial⟩ ?_
      refine sd_done (by kernel_rfl) ?_
      refine sx_norm ?_
      refine sx_true (by kernel_rfl) ?_
      refine wp_seq ?_
      refine wp_region_lit ?_
      refine sx_val (by kernel_rfl) rfl rfl (.bool false) (by kernel_rfl) ?_
      refine wpList_nil ?_
      refine sx_norm ?_
      refine wp_ret ?_
      refine sx_rb ?_
      refine sx_rs ?_
      refine sx_rs ?_
      refine sx_rb ?_
      refine sx_rs ?_
      exact sx_ret1 (.bool false) rfl rfl (by kernel_rfl) ⟨ret_bool ((allT_no (d := (0, 0)) (j := j) (by omega) (by show (!_ || _) = false; simp_all))).symm, HB⟩
    refine sd_call (i := 3) rfl (by kernel_rfl) rfl rfl ((by have h8 := hasT_n q ct ol.length T hTl (U.pb (be.getD j (0, 0))) (by omega) Y4 (hT.below HB); rw [show hasT T (U.pb (be.getD j (0, 0))) = false by simpa using C2] at h8; exact h8)) (by kernel_rfl) ?_ AllReadyH.nil
    rintro e w9 ⟨rfl, rfl⟩
    refine ⟨_, rfl, ⟨M2, (hpr.below HB), trivial⟩, ?_⟩
    refine sd_take 4 rfl (by kernel_rfl) (by kernel_rfl) (by kernel_rfl) (by kernel_rfl) rfl rfl (.bool false) (fun w9 _ => by kernel_rfl) (fun _ _ _ h => h) ⟨M2, (hpr.below HB), trivial⟩ ?_
    refine sd_pass 5 rfl (by kernel_rfl) (by kernel_rfl) (by kernel_rfl) (by kernel_rfl) rfl rfl (fun _ _ _ h => h) ⟨M2, (hpr.below HB), trivial⟩ ?_
    refine sd_pass 6 rfl (by kernel_rfl) (by kernel_rfl) (by kernel_rfl) (by kernel_rfl) rfl rfl (fun _ _ _ h => h) ⟨M2, (hpr.below HB), trivial⟩ ?_
    refine sd_pass 7 rfl (by kernel_rfl) (by kernel_rfl) (by kernel_rfl) (by kernel_rfl) rfl rfl (fun _ _ _ h => h) ⟨M2, (hpr.below HB), trivial⟩ ?_
    refine sd_pass 8 rfl (by kernel_rfl) (by kernel_rfl) (by kernel_rfl) (by kernel_rfl) rfl rfl (fun _ _ _ h => h) ⟨M2, (hpr.below HB), trivial⟩ ?_
    refine sd_pass 9 rfl (by kernel_rfl) (by kernel_rfl) (by kernel_rfl) (by kernel_rfl) rfl rfl (fun _ _ _ h => h) ⟨M2, (hpr.below HB), trivial⟩ ?_
    refine sd_pass 10 rfl (by kernel_rfl) (by kernel_rfl) (by kernel_rfl) (by kernel_rfl) rfl rfl (fun _ _ _ h => h) ⟨M2, (hpr.below HB), trivial⟩ ?_
    refine sd_pass 11 rfl (by kernel_rfl) (by kernel_rfl) (by kernel_rfl) (by kernel_rfl) rfl rfl (fun _ _ _ h => h) ⟨M2, (hpr.below HB), trivial⟩ ?_
    refine sd_pass 12 rfl (by kernel_rfl) (by kernel_rfl) (by kernel_rfl) (by kernel_rfl) rfl rfl (fun _ _ _ h => h) ⟨M2, (hpr.below HB), trivial⟩ ?_
    refine sd_pass 13 rfl (by kernel_rfl) (by kernel_rfl) (by kernel_rfl) (by kernel_rfl) rfl rfl (fun _ _ _ h => h) ⟨M2, (hpr.below HB), trivial⟩ ?_
    refine sd_pass 14 rfl (by kernel_rfl) (by kernel_rfl) (by kernel_rfl) (by kernel_rfl) rfl rfl (fun _ _ _ h => h) ⟨M2, (hpr.below HB), trivial⟩ ?_
    refine sd_pass 15 rfl (by kernel_rfl) (by kernel_rfl) (by kernel_rfl) (by kernel_rfl) rfl rfl (fun _ _ _ h => h) ⟨M2, (hpr.below HB), trivial⟩ ?_
    refine sd_pass 16 rfl (by kernel_rfl) (by kernel_rfl) (by kernel_rfl) (by kernel_rfl) rfl rfl (fun _ _ _ h => h) ⟨M2, (hpr.below HB), trivial⟩ ?_
    refine sd_take 17 rfl (by kernel_rfl) (by kernel_rfl) (by kernel_rfl) (by kernel_rfl) rfl rfl (.bool false) (fun w9 _ => by kernel_rfl) (fun _ _ _ h => h) ⟨M2, (hpr.below HB), trivial⟩ ?_
    refine sd_done (by kernel_rfl) ?_
    refine sx_norm ?_
    refine sx_false (by kernel_rfl) ?_
    refine wp_skip ?_
    refine sx_in ?_
    refine sx_norm ?_
    refine wp_region_lit ?_
    refine sx_int (by kernel_rfl) rfl rfl .i64 (IntKind.i64.wrap (((j : Nat) : Int) + 1)) (((j + 1 : Nat) : Int)) (by kernel_rfl) (by rw [IntKind.wrap_i64]; omega) ?_
    refine sx_val (by kernel_rfl) rfl rfl (.int .i64 ((j + 1 : Nat) : Int)) (by kernel_rfl) ?_
    refine wpList_nil ?_
    refine sx_norm ?_
    exact sx_again (be.length - (j + 1)) (j + 1) (by omega) (by kernel_rfl) ⟨by omega, Nat.le_refl _, allT_more (d := (0, 0)) (by omega) hI (by show (!_ || _) = true; simp_all), HL⟩
  refine sx_bool (by kernel_rfl) rfl rfl (decide (((j : Nat) : Int) < ((be.length : Nat) : Int))) false (by kernel_rfl) (decide_eq_false (by omega)) ?_
  refine wpList_nil ?_
  refine sx_norm ?_
  refine wp_seq ?_
  refine sx_false (by kernel_rfl) ?_
  refine wp_exit ?_
  refine sx_es ?_
  refine sx_es ?_
  refine sx_out ?_
  refine sx_norm ?_
  refine wp_seq ?_
  refine wp_region_lit ?_
  refine sx_val (by kernel_rfl) rfl rfl (.bool true) (by kernel_rfl) ?_
  refine wpList_nil ?_
  refine sx_norm ?_
  refine wp_ret ?_
  exact sx_ret1 (.bool true) rfl rfl (by kernel_rfl) ⟨ret_bool ((allT_end (by omega) hI)).symm, HB⟩

end Go.Proofs.Ytoliacfpjhanlaa.T


