/-
  DERIVED. GJ: a part of the base of layer 13 (made by pack.py).
-/
import Derived.Test.YtoliacfpjhanlaaGD
import Derived.Test.YtoliacfpjhanlaaGG
import Derived.Test.YtoliacfpjhanlaaSt
import Derived.Test.YtoliacfpjhanlaaSu
import Derived.Test.YtoliacfpjhanlaaGH
import Derived.Laws.IdiomCopy
import Derived.Deep.OwnRows
import Derived.Test.YtoliacfpjhanlaaGA
import Derived.Test.YtoliacfpjhanlaaSl
import Derived.Test.YtoliacfpjhanlaaSm
/-! The samples are found (by gen_sw.py). -/
namespace Go.Proofs.Ytoliacfpjhanlaa.T
open Go.RowKit
set_option maxRecDepth 8000
attribute [local irreducible] wpList Code.wp wpAnyH

theorem rt0 (n : Nat) : U.Rt n [] := fun p hp => by cases hp
theorem rt1 : U.Rt 2 [(0, 1)] := fun p hp => by
  rw [List.mem_singleton] at hp
  subst hp
  decide
theorem rw_nil (w : World) : Rw w 0 0 2 (vF []) ([] : List (Int × Bool)).length none := fun k hk => absurd hk (Nat.not_lt_zero k)
theorem rw_two {w : World} {q : Nat} (h : Cb w q #[.int .i64 0, .bool false, .int .i64 0, .bool true] 52) : Rw w q 0 2 (vF [(0, false), (0, true)]) 2 (some ⟨q, 0, none⟩) := fun k hk => ⟨rfl, h.lt, fun j v hj => by
  match k, j, hk, hj with
  | 0, 0, _, hj => simp [vF] at hj; subst hj; exact h.cell 0 rfl
  | 0, 1, _, hj => simp [vF] at hj; subst hj; exact h.cell 1 rfl
  | 1, 0, _, hj => simp [vF] at hj; subst hj; exact h.cell 2 rfl
  | 1, 1, _, hj => simp [vF] at hj; subst hj; exact h.cell 3 rfl
  | 0, j + 2, _, hj => simp [vF] at hj
  | 1, j + 2, _, hj => simp [vF] at hj⟩
theorem aw_n1 : (allS 3 olP [] []).length = 6 := by kernel_rfl
theorem aw_n2 : (allS 3 olP [] [(0, 1)]).length = 1 := by kernel_rfl
theorem aw_e1 : allE 3 olP [] [] = 0 := by kernel_rfl
theorem aw_e2 : allE 3 olP [] [(0, 1)] = 0 := by kernel_rfl
theorem aw_o1 : ordN [(0, false), (0, true)] = 1 := by kernel_rfl
theorem aw_o2 : ordE [(0, false), (0, true)] = 0 := by kernel_rfl
theorem aw_c : chkS olP [] [] [(0, false), (0, true)] = 0 := by
  unfold chkS
  have e1 : [(0, false), (0, true)].any (goneV olP.length) = false := by kernel_rfl
  have e2 : [(0, false), (0, true)].any (offV olP) = false := by kernel_rfl
  have e3 : Once olP.length [(0, false), (0, true)] 2 := fun i hi => by
    match i, hi with
    | 0, _ =>
      show posT (trK olP.length [(0, false), (0, true)] 0) ([(0, false), (0, true)].getD 0 (0, false)) = 0
      kernel_rfl
    | 1, _ =>
      show posT (trK olP.length [(0, false), (0, true)] 1) ([(0, false), (0, true)].getD 1 (0, false)) = 0
      kernel_rfl
  have e4 : pairdB olP (trK olP.length [(0, false), (0, true)] 2) [(0, false), (0, true)] = true := by kernel_rfl
  have e5 : pairB (trK olP.length [(0, false), (0, true)] 2) [] = false := by kernel_rfl
  have e6 : folB olP (trK olP.length [(0, false), (0, true)] 2) [] = true := by kernel_rfl
  show (if 2 = 0 ∨ _ then _ else _) = _
  rw [if_neg (by rw [e1]; simp), if_neg (by rw [e2]; simp), if_neg (fun h => h e3)]
  show (if pairdB olP (trK olP.length [(0, false), (0, true)] 2) [(0, false), (0, true)] = false then _ else _) = _
  rw [if_neg (by rw [e4]; simp)]
  show (if pairB (trK olP.length [(0, false), (0, true)] 2) [] = true then _ else _) = _
  rw [if_neg (by rw [e5]; simp)]
  show (if folB olP (trK olP.length [(0, false), (0, true)] 2) [] = false then _ else _) = _
  rw [if_neg (by rw [e6]; simp)]
theorem aw_x : (nextS 3 olP [(0, 1)] []).length = 1 := by kernel_rfl
theorem aw_l : lessL [] [(0, false), (0, true)] = true := by kernel_rfl
theorem aw_all1 (o0 o2 o3 o5 : Option Addr) (n0 c0 n2 c2 c3 c5 : Nat) (w : World) (hos : Os w (.slice o3 2 c3) olP) (hps : Ps w (.slice o5 0 c5) []) : Calls Try.prog 13 #[.agg #[.slice o0 n0 c0, .slice none 0 0, .slice o2 n2 c2, .slice o3 2 c3, .slice none 0 0, .slice o5 0 c5], .int .i64 3] w fun e w' => ∃ (of : Option Addr) (cf : Nat), e = .returned (.tuple #[.slice of 6 cf, .int .i64 0]) ∧ Below w.heap.size w w' := by
  refine Calls.mono (all16_n o0 none o2 o3 none o5 n0 0 n2 c0 0 c2 c3 0 c5 olP [] [] (by decide) (rt0 _) (by decide) (rt0 _) (by decide) 3 (by decide) w hos (Ps.nil0 _) hps) ?_
  rintro e w' ⟨v, vs, rfl, hf, hel, hb⟩
  obtain ⟨of, cf, rfl⟩ := Fo.form hf
  rw [hel.len, aw_n1, aw_e1]
  exact ⟨of, cf, rfl, hb⟩
theorem aw_all2 (o0 o2 o3 o5 : Option Addr) (n0 c0 n2 c2 c3 c5 : Nat) (w : World) (hos : Os w (.slice o3 2 c3) olP) (hps : Ps w (.slice o5 1 c5) [(0, 1)]) : Calls Try.prog 13 #[.agg #[.slice o0 n0 c0, .slice none 0 0, .slice o2 n2 c2, .slice o3 2 c3, .slice none 0 0, .slice o5 1 c5], .int .i64 3] w fun e w' => ∃ (of : Option Addr) (cf : Nat), e = .returned (.tuple #[.slice of 1 cf, .int .i64 0]) ∧ Below w.heap.size w w' := by
  refine Calls.mono (all16_n o0 none o2 o3 none o5 n0 0 n2 c0 0 c2 c3 0 c5 olP [] [(0, 1)] (by decide) (rt0 _) (by decide) rt1 (by decide) 3 (by decide) w hos (Ps.nil0 _) hps) ?_
  rintro e w' ⟨v, vs, rfl, hf, hel, hb⟩
  obtain ⟨of, cf, rfl⟩ := Fo.form hf
  rw [hel.len, aw_n2, aw_e2]
  exact ⟨of, cf, rfl, hb⟩
theorem aw_next (o0 o2 o3 o5 : Option Addr) (n0 c0 n2 c2 c3 c5 : Nat) (w : World) (hos : Os w (.slice o3 2 c3) olP) (hps : Ps w (.slice o5 1 c5) [(0, 1)]) : Calls Try.prog 17 #[.agg #[.slice o0 n0 c0, .slice none 0 0, .slice o2 n2 c2, .slice o3 2 c3, .slice none 0 0, .slice o5 1 c5], .int .i64 3, .slice none 0 0] w fun e w' => ∃ (on : Option Addr) (cn : Nat), e = .returned (.slice on 1 cn) ∧ Below w.heap.size w w' := by
  refine Calls.mono (nextTop_n o0 none o2 o3 none o5 n0 0 n2 0 c0 0 c2 c3 0 c5 olP [(0, 1)] (by decide) rt1 (by decide) w hos hps 3 [] (by decide) none 0 0 0 (rw_nil _)) ?_
  rintro e w' ⟨on, cn, rfl, -, hb⟩
  rw [aw_x]
  exact ⟨on, cn, rfl, hb⟩
theorem awake16_n (w : World) : Calls Try.prog 10 #[] w fun e w' => e = .returned (.bool true) ∧ Below w.heap.size w w' := by
  have HB : Below w.heap.size w w := Below.refl _ _
  refine sx_enter Try.func10 rfl [] (by kernel_rfl) ?_
  refine wp_seq ?_
  refine wp_region_lit ?_
  refine sx_val (by kernel_rfl) rfl rfl (.bool false) (by kernel_rfl) ?_
  refine wpList_nil ?_
  refine sx_norm ?_
  refine wp_seq ?_
  refine wp_region_lit ?_
  refine sx_call (by kernel_rfl) rfl rfl (pair_false w) (by kernel_rfl) ?_
  rintro e W1 ⟨o0p1, o2p1, o3p1, o5p1, n0p1, c0p1, n2p1, c2p1, c3p1, c5p1, rfl, hosp1, hpsp1, hb⟩
  replace HB := over HB hb
  have z1 := hb.size
  clear hb
  refine ⟨_, rfl, ?_⟩
  refine sx_call (by kernel_rfl) rfl rfl (aw_all1 o0p1 o2p1 o3p1 o5p1 n0p1 c0p1 n2p1 c2p1 c3p1 c5p1 W1 hosp1 hpsp1) (by kernel_rfl) ?_
  rintro e W2 ⟨ofp1, cfp1, rfl, hb⟩
  replace HB := over HB hb
  replace hosp1 := hosp1.below hb
  replace hpsp1 := hpsp1.below hb
  have z2 := hb.size
  clear hb
  refine ⟨_, rfl, ?_⟩
  refine sx_val (by kernel_rfl) rfl rfl (.tuple #[.slice ofp1 6 cfp1, .int .i64 0]) (by kernel_rfl) ?_
  refine sx_val (by kernel_rfl) rfl rfl (.slice ofp1 6 cfp1) (by kernel_rfl) ?_
  refine sx_val (by kernel_rfl) rfl rfl (.int .i64 0) (by kernel_rfl) ?_
  refine sx_val (by kernel_rfl) rfl rfl (.slice ofp1 6 cfp1) (by kernel_rfl) ?_
  refine sx_val (by kernel_rfl) rfl rfl (.int .i64 0) (by kernel_rfl) ?_
  refine wpList_nil ?_
  refine sx_norm ?_
  refine wp_seq ?_
  refine wp_region_lit ?_
  refine sx_call (by kernel_rfl) rfl rfl (pair_true W2) (by kernel_rfl) ?_
  rintro e W3 ⟨o0p2, o2p2, o3p2, o5p2, n0p2, c0p2, n2p2, c2p2, c3p2, c5p2, rfl, hosp2, hpsp2, hb⟩
  replace HB := over HB hb
  replace hosp1 := hosp1.below hb
  replace hpsp1 := hpsp1.below hb
  have z3 := hb.size
  clear hb
  refine ⟨_, rfl, ?_⟩
  refine sx_call (by kernel_rfl) rfl rfl (aw_all2 o0p2 o2p2 o3p2 o5p2 n0p2 c0p2 n2p2 c2p2 c3p2 c5p2 W3 hosp2 hpsp2) (by kernel_rfl) ?_
  rintro e W4 ⟨ofp2, cfp2, rfl, hb⟩
  replace HB := over HB hb
  replace hosp1 := hosp1.below hb
  replace hpsp1 := hpsp1.below hb
  replace hosp2 := hosp2.below hb
  replace hpsp2 := hpsp2.below hb
  have z4 := hb.size
  clear hb
  refine ⟨_, rfl, ?_⟩
  refine sx_val (by kernel_rfl) rfl rfl (.tuple #[.slice ofp2 1 cfp2, .int .i64 0]) (by kernel_rfl) ?_
  refine sx_val (by kernel_rfl) rfl rfl (.slice ofp2 1 cfp2) (by kernel_rfl) ?_
  refine sx_val (by kernel_rfl) rfl rfl (.int .i64 0) (by kernel_rfl) ?_
  refine sx_val (by kernel_rfl) rfl rfl (.slice ofp2 1 cfp2) (by kernel_rfl) ?_
  refine sx_val (by kernel_rfl) rfl rfl (.int .i64 0) (by kernel_rfl) ?_
  refine wpList_nil ?_
  refine sx_norm ?_
  refine wp_seq ?_
  refine wp_region_lit ?_
  refine sx_val (by kernel_rfl) rfl rfl (.agg #[.int .i64 0, .bool false]) (by kernel_rfl) ?_
  refine sx_val (by kernel_rfl) rfl rfl (.agg #[.int .i64 0, .bool true]) (by kernel_rfl) ?_
  obtain ⟨W5, hW⟩ : ∃ W, W4.alloc (.cells #[.int .i64 0, .bool false, .int .i64 0, .bool true] 52) = W := ⟨_, rfl⟩
  have hb := hW ▸ below_alloc W4 (.cells #[.int .i64 0, .bool false, .int .i64 0, .bool true] 52)
  have hq : Cb W5 W4.heap.size #[.int .i64 0, .bool false, .int .i64 0, .bool true] 52 := hW ▸ Cb.made W4 #[.int .i64 0, .bool false, .int .i64 0, .bool true] 52
  refine sx_mem (by kernel_rfl) rfl rfl (.slice (some ⟨W4.heap.size, 0, none⟩) 2 2) W5 (by rw [← hW]; kernel_rfl) ?_
  replace HB := over HB hb
  replace hosp1 := hosp1.below hb
  replace hpsp1 := hpsp1.below hb
  replace hosp2 := hosp2.below hb
  replace hpsp2 := hpsp2.below hb
  have z5 := hb.size
  have M6 := hq
  have yM6 := hq.lt
  clear hq hb hW
  refine sx_val (by kernel_rfl) rfl rfl (.agg #[.int .i64 0, .int .i64 0, .slice none 0 0, .slice (some ⟨W4.heap.size, 0, none⟩) 2 2]) (by kernel_rfl) ?_
  obtain ⟨W8, hW⟩ : ∃ W, (W5.alloc (.cells #[.int .i64 0, .int .i64 0, .slice none 0 0, .slice none 0 0] 34)).setRow W5.heap.size #[.int .i64 0, .int .i64 0, .slice none 0 0, .slice (some ⟨W4.heap.size, 0, none⟩) 2 2] = W := ⟨_, rfl⟩
  have hb := hW ▸ below_var W5 (.cells #[.int .i64 0, .int .i64 0, .slice none 0 0, .slice none 0 0] 34) #[.int .i64 0, .int .i64 0, .slice none 0 0, .slice (some ⟨W4.heap.size, 0, none⟩) 2 2]
  have hq : Cb W8 W5.heap.size #[.int .i64 0, .int .i64 0, .slice none 0 0, .slice (some ⟨W4.heap.size, 0, none⟩) 2 2] 34 := hW ▸ Cb.row (Cb.made W5 #[.int .i64 0, .int .i64 0, .slice none 0 0, .slice none 0 0] 34) _
  refine sx_mem (by kernel_rfl) rfl rfl (.pointer (some ⟨W5.heap.size, 0, none⟩)) (W5.alloc (.cells #[.int .i64 0, .int .i64 0, .slice none 0 0, .slice none 0 0] 34)) (by kernel_rfl) ?_
  refine sx_store (cells := #[.int .i64 0, .int .i64 0, .slice none 0 0, .slice (some ⟨W4.heap.size, 0, none⟩) 2 2]) (by kernel_rfl) rfl rfl (Cb.made W5 #[.int .i64 0, .int .i64 0, .slice none 0 0, .slice none 0 0] 34) (by kernel_rfl) (by kernel_rfl) (by kernel_rfl) (by kernel_rfl) (by kernel_rfl) ?_
  rw [hW]
  replace HB := over HB hb
  replace hosp1 := hosp1.below hb
  replace hpsp1 := hpsp1.below hb
  replace hosp2 := hosp2.below hb
  replace hpsp2 := hpsp2.below hb
  replace M6 := M6.below hb
  have z6 := hb.size
  have M7 := hq
  have yM7 := hq.lt
  clear hq hb hW
  refine wpList_nil ?_
  refine sx_norm ?_
  refine wp_seq ?_
  refine wp_region_lit ?_
  refine sx_val (by kernel_rfl) rfl rfl (.agg #[.int .i64 0, .int .i64 0, .slice none 0 0, .slice (some ⟨W4.heap.size, 0, none⟩) 2 2]) (ex_load rfl M7 (by kernel_rfl) Try.underlying34 rfl (by kernel_rfl)) ?_
  refine sx_call (by kernel_rfl) rfl rfl ((by have h8 := orders_n 0 0 none (some ⟨W4.heap.size, 0, none⟩) 0 0 2 _ 0 [(0, false), (0, true)] (by decide) W8 (rw_two M6); rw [aw_o1, aw_o2] at h8; exact h8)) (by kernel_rfl) ?_
  rintro e W9 ⟨rfl, hb⟩
  replace HB := over HB hb
  replace hosp1 := hosp1.below hb
  replace hpsp1 := hpsp1.below hb
  replace hosp2 := hosp2.below hb
  replace hpsp2 := hpsp2.below hb
  replace M6 := M6.below hb
  replace M7 := M7.below hb
  have z7 := hb.size
  clear hb
  refine ⟨_, rfl, ?_⟩
  refine sx_val (by kernel_rfl) rfl rfl (.tuple #[.int .i64 1, .int .i64 0]) (by kernel_rfl) ?_
  refine sx_val (by kernel_rfl) rfl rfl (.int .i64 1) (by kernel_rfl) ?_
  refine sx_val (by kernel_rfl) rfl rfl (.int .i64 0) (by kernel_rfl) ?_
  refine sx_val (by kernel_rfl) rfl rfl (.int .i64 1) (by kernel_rfl) ?_
  refine sx_val (by kernel_rfl) rfl rfl (.int .i64 0) (by kernel_rfl) ?_
  refine wpList_nil ?_
  refine sx_norm ?_
  refine wp_seq ?_
  obtain ⟨Y10, hW⟩ : ∃ W, W9.drew = W := ⟨_, rfl⟩
  have hb : Below W9.heap.size W9 Y10 := hW ▸ below_drew (Below.refl _ _)
  replace HB := over HB hb
  replace hosp1 := hosp1.below hb
  replace hpsp1 := hpsp1.below hb
  replace hosp2 := hosp2.below hb
  replace hpsp2 := hpsp2.below hb
  replace M6 := M6.below hb
  replace M7 := M7.below hb
  have z8 := hb.size
  clear hb
  refine sd_begin (fun W => Cb W (W4.heap.size) #[.int .i64 0, .bool false, .int .i64 0, .bool true] 52 ∧ Cb W (W5.heap.size) #[.int .i64 0, .int .i64 0, .slice none 0 0, .slice (some ⟨W4.heap.size, 0, none⟩) 2 2] 34 ∧ True) (by kernel_rfl) (by rw [hW]; exact ⟨M6, M7, trivial⟩) ?_
  rw [hW]
  clear hW
  refine sd_take 0 rfl (by kernel_rfl) (by kernel_rfl) (by kernel_rfl) (by kernel_rfl) rfl rfl (.int .i64 0) (fun w9 _ => by kernel_rfl) (fun _ _ _ h => h) ⟨M6, M7, trivial⟩ ?_
  refine sd_take 1 rfl (by kernel_rfl) (by kernel_rfl) (by kernel_rfl) (by kernel_rfl) rfl rfl (.bool true) (fun w9 _ => by kernel_rfl) (fun _ _ _ h => h) ⟨M6, M7, trivial⟩ ?_
  refine sd_take 2 rfl (by kernel_rfl) (by kernel_rfl) (by kernel_rfl) (by kernel_rfl) rfl rfl (.bool true) (fun w9 _ => by kernel_rfl) (fun _ _ _ h => h) ⟨M6, M7, trivial⟩ ?_
  refine sd_take 3 rfl (by kernel_rfl) (by kernel_rfl) (by kernel_rfl) (by kernel_rfl) rfl rfl (.slice ofp1 6 cfp1) (fun w9 _ => by kernel_rfl) (fun _ _ _ h => h) ⟨M6, M7, trivial⟩ ?_
  refine sd_take 4 rfl (by kernel_rfl) (by kernel_rfl) (by kernel_rfl) (by kernel_rfl) rfl rfl (.int .i64 6) (fun w9 _ => by kernel_rfl) (fun _ _ _ h => h) ⟨M6, M7, trivial⟩ ?_
  refine sd_take 5 rfl (by kernel_rfl) (by kernel_rfl) (by kernel_rfl) (by kernel_rfl) rfl rfl (.bool true) (fun w9 _ => by kernel_rfl) (fun _ _ _ h => h) ⟨M6, M7, trivial⟩ ?_
  refine sd_take 6 rfl (by kernel_rfl) (by kernel_rfl) (by kernel_rfl) (by kernel_rfl) rfl rfl (.bool true) (fun w9 _ => by kernel_rfl) (fun _ _ _ h => h) ⟨M6, M7, trivial⟩ ?_
  refine sd_take 7 rfl (by kernel_rfl) (by kernel_rfl) (by kernel_rfl) (by kernel_rfl) rfl rfl (.bool true) (fun w9 _ => by kernel_rfl) (fun _ _ _ h => h) ⟨M6, M7, trivial⟩ ?_
  refine sd_take 8 rfl (by kernel_rfl) (by kernel_rfl) (by kernel_rfl) (by kernel_rfl) rfl rfl (.int .i64 0) (fun w9 _ => by kernel_rfl) (fun _ _ _ h => h) ⟨M6, M7, trivial⟩ ?_
  refine sd_take 9 rfl (by kernel_rfl) (by kernel_rfl) (by kernel_rfl) (by kernel_rfl) rfl rfl (.bool true) (fun w9 _ => by kernel_rfl) (fun _ _ _ h => h) ⟨M6, M7, trivial⟩ ?_
  refine sd_take 10 rfl (by kernel_rfl) (by kernel_rfl) (by kernel_rfl) (by kernel_rfl) rfl rfl (.bool true) (fun w9 _ => by kernel_rfl) (fun _ _ _ h => h) ⟨M6, M7, trivial⟩ ?_
  refine sd_take 11 rfl (by kernel_rfl) (by kernel_rfl) (by kernel_rfl) (by kernel_rfl) rfl rfl (.bool true) (fun w9 _ => by kernel_rfl) (fun _ _ _ h => h) ⟨M6, M7, trivial⟩ ?_
  refine sd_take 12 rfl (by kernel_rfl) (by kernel_rfl) (by kernel_rfl) (by kernel_rfl) rfl rfl (.slice ofp2 1 cfp2) (fun w9 _ => by kernel_rfl) (fun _ _ _ h => h) ⟨M6, M7, trivial⟩ ?_
  refine sd_take 13 rfl (by kernel_rfl) (by kernel_rfl) (by kernel_rfl) (by kernel_rfl) rfl rfl (.int .i64 1) (fun w9 _ => by kernel_rfl) (fun _ _ _ h => h) ⟨M6, M7, trivial⟩ ?_
  refine sd_take 14 rfl (by kernel_rfl) (by kernel_rfl) (by kernel_rfl) (by kernel_rfl) rfl rfl (.bool true) (fun w9 _ => by kernel_rfl) (fun _ _ _ h => h) ⟨M6, M7, trivial⟩ ?_
  refine sd_take 15 rfl (by kernel_rfl) (by kernel_rfl) (by kernel_rfl) (by kernel_rfl) rfl rfl (.bool true) (fun w9 _ => by kernel_rfl) (fun _ _ _ h => h) ⟨M6, M7, trivial⟩ ?_
  refine sd_take 16 rfl (by kernel_rfl) (by kernel_rfl) (by kernel_rfl) (by kernel_rfl) rfl rfl (.bool true) (fun w9 _ => by kernel_rfl) (fun _ _ _ h => h) ⟨M6, M7, trivial⟩ ?_
  refine sd_take 17 rfl (by kernel_rfl) (by kernel_rfl) (by kernel_rfl) (by kernel_rfl) rfl rfl (.int .i64 1) (fun w9 _ => by kernel_rfl) (fun _ _ _ h => h) ⟨M6, M7, trivial⟩ ?_
  refine sd_take 18 rfl (by kernel_rfl) (by kernel_rfl) (by kernel_rfl) (by kernel_rfl) rfl rfl (.bool true) (fun w9 _ => by kernel_rfl) (fun _ _ _ h => h) ⟨M6, M7, trivial⟩ ?_
  refine sd_take 19 rfl (by kernel_rfl) (by kernel_rfl) (by kernel_rfl) (by kernel_rfl) rfl rfl (.bool true) (fun w9 _ => by kernel_rfl) (fun _ _ _ h => h) ⟨M6, M7, trivial⟩ ?_
  refine sd_take 20 rfl (by kernel_rfl) (by kernel_rfl) (by kernel_rfl) (by kernel_rfl) rfl rfl (.bool true) (fun w9 _ => by kernel_rfl) (fun _ _ _ h => h) ⟨M6, M7, trivial⟩ ?_
  refine sd_take 21 rfl (by kernel_rfl) (by kernel_rfl) (by kernel_rfl) (by kernel_rfl) rfl rfl (.int .i64 0) (fun w9 _ => by kernel_rfl) (fun _ _ _ h => h) ⟨M6, M7, trivial⟩ ?_
  refine sd_take 22 rfl (by kernel_rfl) (by kernel_rfl) (by kernel_rfl) (by kernel_rfl) rfl rfl (.bool true) (fun w9 _ => by kernel_rfl) (fun _ _ _ h => h) ⟨M6, M7, trivial⟩ ?_
  refine sd_take 23 rfl (by kernel_rfl) (by kernel_rfl) (by kernel_rfl) (by kernel_rfl) rfl rfl (.bool true) (fun w9 _ => by kernel_rfl) (fun _ _ _ h => h) ⟨M6, M7, trivial⟩ ?_
  refine sd_take 24 rfl (by kernel_rfl) (by kernel_rfl) (by kernel_rfl) (by kernel_rfl) rfl rfl (.bool true) (fun w9 _ => by kernel_rfl) (fun _ _ _ h => h) ⟨M6, M7, trivial⟩ ?_
  refine sd_take 26 rfl (by kernel_rfl) (by kernel_rfl) (by kernel_rfl) (by kernel_rfl) rfl rfl (.agg #[.int .i64 0, .int .i64 0, .slice none 0 0, .slice (some ⟨W4.heap.size, 0, none⟩) 2 2]) (fun w9 h9 => ex_load rfl h9.2.1 (by kernel_rfl) Try.underlying34 rfl (by kernel_rfl)) (fun _ _ _ h => h) ⟨M6, M7, trivial⟩ ?_
  refine sd_all [25] (by kernel_rfl) (by decide) ?_
  refine sd_call (i := 25) rfl (by kernel_rfl) rfl rfl (pair_false Y10) (by kernel_rfl) ?_ AllReadyH.nil
  rintro e W11 ⟨o0p3, o2p3, o3p3, o5p3, n0p3, c0p3, n2p3, c2p3, c3p3, c5p3, rfl, hosp3, hpsp3, hb⟩
  replace HB := over HB hb
  replace hosp1 := hosp1.below hb
  replace hpsp1 := hpsp1.below hb
  replace hosp2 := hosp2.below hb
  replace hpsp2 := hpsp2.below hb
  replace M6 := M6.below hb
  replace M7 := M7.below hb
  have z9 := hb.size
  clear hb
  refine ⟨_, rfl, ⟨M6, M7, trivial⟩, ?_⟩
  refine sd_all [27] (by kernel_rfl) (by decide) ?_
  refine sd_call (i := 27) rfl (by kernel_rfl) rfl rfl ((by have h8 := check16_n o0p3 none o2p3 o3p3 none o5p3 n0p3 0 n2p3 c0p3 0 c2p3 c3p3 0 c5p3 olP [] [] (by decide) (rt0 _) (by decide) (rt0 _) (by decide) W11 hosp3 (Ps.nil0 _) hpsp3 0 0 none (some ⟨W4.heap.size, 0, none⟩) 0 0 2 _ 0 [(0, false), (0, true)] (by decide) (rw_two M6); rw [aw_c] at h8; exact h8)) (by kernel_rfl) ?_ AllReadyH.nil
  rintro e W12 ⟨rfl, hb⟩
  replace HB := over HB hb
  replace hosp1 := hosp1.below hb
  replace hpsp1 := hpsp1.below hb
  replace hosp2 := hosp2.below hb
  replace hpsp2 := hpsp2.below hb
  replace M6 := M6.below hb
  replace M7 := M7.below hb
  replace hosp3 := hosp3.below hb
  replace hpsp3 := hpsp3.below hb
  have z10 := hb.size
  clear hb
  refine ⟨_, rfl, ⟨M6, M7, trivial⟩, ?_⟩
  refine sd_take 28 rfl (by kernel_rfl) (by kernel_rfl) (by kernel_rfl) (by kernel_rfl) rfl rfl (.bool true) (fun w9 _ => by kernel_rfl) (fun _ _ _ h => h) ⟨M6, M7, trivial⟩ ?_
  refine sd_take 29 rfl (by kernel_rfl) (by kernel_rfl) (by kernel_rfl) (by kernel_rfl) rfl rfl (.bool true) (fun w9 _ => by kernel_rfl) (fun _ _ _ h => h) ⟨M6, M7, trivial⟩ ?_
  refine sd_take 30 rfl (by kernel_rfl) (by kernel_rfl) (by kernel_rfl) (by kernel_rfl) rfl rfl (.bool true) (fun w9 _ => by kernel_rfl) (fun _ _ _ h => h) ⟨M6, M7, trivial⟩ ?_
  refine sd_all [31] (by kernel_rfl) (by decide) ?_
  refine sd_call (i := 31) rfl (by kernel_rfl) rfl rfl (pair_true W12) (by kernel_rfl) ?_ AllReadyH.nil
  rintro e W13 ⟨o0p4, o2p4, o3p4, o5p4, n0p4, c0p4, n2p4, c2p4, c3p4, c5p4, rfl, hosp4, hpsp4, hb⟩
  replace HB := over HB hb
  replace hosp1 := hosp1.below hb
  replace hpsp1 := hpsp1.below hb
  replace hosp2 := hosp2.below hb
  replace hpsp2 := hpsp2.below hb
  replace M6 := M6.below hb
  replace M7 := M7.below hb
  replace hosp3 := hosp3.below hb
  replace hpsp3 := hpsp3.below hb
  have z11 := hb.size
  clear hb
  refine ⟨_, rfl, ⟨M6, M7, trivial⟩, ?_⟩
  refine sd_all [32] (by kernel_rfl) (by decide) ?_
  refine sd_call (i := 32) rfl (by kernel_rfl) rfl rfl (aw_next o0p4 o2p4 o3p4 o5p4 n0p4 c0p4 n2p4 c2p4 c3p4 c5p4 W13 hosp4 hpsp4) (by kernel_rfl) ?_ AllReadyH.nil
  rintro e W14 ⟨onp4, cnp4, rfl, hb⟩
  replace HB := over HB hb
  replace hosp1 := hosp1.below hb
  replace hpsp1 := hpsp1.below hb
  replace hosp2 := hosp2.below hb
  replace hpsp2 := hpsp2.below hb
  replace M6 := M6.below hb
  replace M7 := M7.below hb
  replace hosp3 := hosp3.below hb
  replace hpsp3 := hpsp3.below hb
  replace hosp4 := hosp4.below hb
  replace hpsp4 := hpsp4.below hb
  have z12 := hb.size
  clear hb
  refine ⟨_, rfl, ⟨M6, M7, trivial⟩, ?_⟩
  refine sd_take 33 rfl (by kernel_rfl) (by kernel_rfl) (by kernel_rfl) (by kernel_rfl) rfl rfl (.int .i64 1) (fun w9 _ => by kernel_rfl) (fun _ _ _ h => h) ⟨M6, M7, trivial⟩ ?_
  refine sd_take 34 rfl (by kernel_rfl) (by kernel_rfl) (by kernel_rfl) (by kernel_rfl) rfl rfl (.bool true) (fun w9 _ => by kernel_rfl) (fun _ _ _ h => h) ⟨M6, M7, trivial⟩ ?_
  refine sd_take 35 rfl (by kernel_rfl) (by kernel_rfl) (by kernel_rfl) (by kernel_rfl) rfl rfl (.bool true) (fun w9 _ => by kernel_rfl) (fun _ _ _ h => h) ⟨M6, M7, trivial⟩ ?_
  refine sd_take 36 rfl (by kernel_rfl) (by kernel_rfl) (by kernel_rfl) (by kernel_rfl) rfl rfl (.bool true) (fun w9 _ => by kernel_rfl) (fun _ _ _ h => h) ⟨M6, M7, trivial⟩ ?_
  refine sd_take 37 rfl (by kernel_rfl) (by kernel_rfl) (by kernel_rfl) (by kernel_rfl) rfl rfl (.pointer (some ⟨W5.heap.size, 3, none⟩)) (fun w9 _ => by kernel_rfl) (fun _ _ _ h => h) ⟨M6, M7, trivial⟩ ?_
  refine sd_take 38 rfl (by kernel_rfl) (by kernel_rfl) (by kernel_rfl) (by kernel_rfl) rfl rfl (.slice (some ⟨W4.heap.size, 0, none⟩) 2 2) (fun w9 h9 => ex_load1 rfl (h9.2.1.cell 3 rfl) (by kernel_rfl) Try.underlying32 rfl) (fun _ _ _ h => h) ⟨M6, M7, trivial⟩ ?_
  refine sd_all [39] (by kernel_rfl) (by decide) ?_
  refine sd_call (i := 39) rfl (by kernel_rfl) rfl rfl ((by have h8 := less_n none (some ⟨W4.heap.size, 0, none⟩) 0 2 0 0 _ 0 [] [(0, false), (0, true)] (by decide) (by decide) W14 (rw_nil _) (rw_two M6); rw [aw_l] at h8; exact h8)) (by kernel_rfl) ?_ AllReadyH.nil
  rintro e W15 ⟨rfl, hb⟩
  replace HB := over HB hb
  replace hosp1 := hosp1.below hb
  replace hpsp1 := hpsp1.below hb
  replace hosp2 := hosp2.below hb
  replace hpsp2 := hpsp2.below hb
  replace M6 := M6.below hb
  replace M7 := M7.below hb
  replace hosp3 := hosp3.below hb
  replace hpsp3 := hpsp3.below hb
  replace hosp4 := hosp4.below hb
  replace hpsp4 := hpsp4.below hb
  have z13 := hb.size
  clear hb
  refine ⟨_, rfl, ⟨M6, M7, trivial⟩, ?_⟩
  refine sd_take 40 rfl (by kernel_rfl) (by kernel_rfl) (by kernel_rfl) (by kernel_rfl) rfl rfl (.bool true) (fun w9 _ => by kernel_rfl) (fun _ _ _ h => h) ⟨M6, M7, trivial⟩ ?_
  refine sd_take 41 rfl (by kernel_rfl) (by kernel_rfl) (by kernel_rfl) (by kernel_rfl) rfl rfl (.bool true) (fun w9 _ => by kernel_rfl) (fun _ _ _ h => h) ⟨M6, M7, trivial⟩ ?_
  refine sd_all [42] (by kernel_rfl) (by decide) ?_
  refine sd_call (i := 42) rfl (by kernel_rfl) rfl rfl ((by have h8 := same16_n none none 0 0 0 0 0 0 [] [] (by decide) (by decide) W15 (rw_nil _) (rw_nil _); rw [decide_eq_true (rfl : ([] : List (Int × Bool)) = [])] at h8; exact h8)) (by kernel_rfl) ?_ AllReadyH.nil
  rintro e W16 ⟨rfl, hb⟩
  replace HB := over HB hb
  replace hosp1 := hosp1.below hb
  replace hpsp1 := hpsp1.below hb
  replace hosp2 := hosp2.below hb
  replace hpsp2 := hpsp2.below hb
  replace M6 := M6.below hb
  replace M7 := M7.below hb
  replace hosp3 := hosp3.below hb
  replace hpsp3 := hpsp3.below hb
  replace hosp4 := hosp4.below hb
  replace hpsp4 := hpsp4.below hb
  have z14 := hb.size
  clear hb
  refine ⟨_, rfl, ⟨M6, M7, trivial⟩, ?_⟩
  refine sd_take 43 rfl (by kernel_rfl) (by kernel_rfl) (by kernel_rfl) (by kernel_rfl) rfl rfl (.bool true) (fun w9 _ => by kernel_rfl) (fun _ _ _ h => h) ⟨M6, M7, trivial⟩ ?_
  refine sd_take 44 rfl (by kernel_rfl) (by kernel_rfl) (by kernel_rfl) (by kernel_rfl) rfl rfl (.bool true) (fun w9 _ => by kernel_rfl) (fun _ _ _ h => h) ⟨M6, M7, trivial⟩ ?_
  refine sd_done (by kernel_rfl) ?_
  refine sx_norm ?_
  refine wp_ret ?_
  exact sx_ret1 (.bool true) rfl rfl (by kernel_rfl) ⟨rfl, HB⟩

end Go.Proofs.Ytoliacfpjhanlaa.T


/-! The specification of sequences: Visits, Index, contains (by gen_ua.py). -/
namespace Go.Proofs.Ytoliacfpjhanlaa.T
open Go.RowKit
set_option maxRecDepth 8000
attribute [local irreducible] wpList Code.wp wpAnyH

/-- the visits of an order, as the specification says -/
def visR (ol : List OrT) (k : Nat) : List (Int × Bool) := (if (ol.getD k or0).pp = -1 then [] else [((k : Int), false)]) ++ (if (ol.getD k or0).dp = -1 then [] else [((k : Int), true)])
/-- the first index of a visit, or -1 -/
def idxV (l : List (Int × Bool)) (x : Int × Bool) : Int := if x ∈ l then (l.idxOf x : Int) else -1
theorem idxV_yes {l : List (Int × Bool)} {x : Int × Bool} {j : Nat} (hj : j < l.length) (h : (l.take j).any (isV x) = false) (e : isV x (l.getD j (0, false)) = true) : idxV l x = (j : Int) := by
  have e2 : x = l.getD j (0, false) := by
    unfold isV at e
    rw [Bool.and_eq_true, beq_iff_eq, beq_iff_eq] at e
    exact Prod.ext e.1 e.2
  have hm : x ∈ l := e2 ▸ getD_mem hj
  rw [isV_any] at h
  have hn : x ∉ l.take j := of_decide_eq_false h
  unfold idxV
  rw [if_pos hm]
  have h1 : l = l.take j ++ l.drop j := (List.take_append_drop j l).symm
  have h2 : l.drop j = l.getD j (0, false) :: l.drop (j + 1) := drop_more (d := (0, false)) hj
  have h3 : l.idxOf x = j := by
    rw [h1, List.idxOf_append, if_neg hn, h2, List.idxOf_cons, ← e2]
    simp
    omega
  rw [h3]
theorem idxV_lt {l : List (Int × Bool)} {x : Int × Bool} : (idxV l x < 0) ↔ x ∉ l := by
  unfold idxV
  split
  · constructor
    · intro h; omega
    · intro h; contradiction
  · constructor
    · intro _; assumption
    · intro _; omega
def conV (l some : List (Int × Bool)) : Bool := some.all fun v => decide (v ∈ l)
end Go.Proofs.Ytoliacfpjhanlaa.T


/-! The specification of sequences: ready, paired, apart, before (by gen_ub.py). -/
namespace Go.Proofs.Ytoliacfpjhanlaa.T
open Go.RowKit
set_option maxRecDepth 8000
attribute [local irreducible] wpList Code.wp wpAnyH

theorem visR_len (ol : List OrT) (k : Nat) : (visR ol k).length ≤ 2 := by
  unfold visR
  rw [List.length_append]
  split <;> split <;> simp
/-- are all visits of the orders before order k in l? -/
def rdyP (ol : List OrT) (l : List (Int × Bool)) (k : Nat) (p : Int × Int) : Bool := !decide (U.pb p = k) || conV l (visR ol (U.pa p))
def rdyB (ol : List OrT) (be : List (Int × Int)) (l : List (Int × Bool)) (k : Nat) : Bool := be.all (rdyP ol l k)
def aptP (z : Int) (p : Int × Int) : Bool := !(hasR z (U.pa p : Nat) && hasR z (U.pb p : Nat))
def aptB (z : Int) (ap : List (Int × Int)) : Bool := ap.all (aptP z)
end Go.Proofs.Ytoliacfpjhanlaa.T


/-! The specification of sequences: paired, before (by gen_uc.py). -/
namespace Go.Proofs.Ytoliacfpjhanlaa.T
open Go.RowKit
set_option maxRecDepth 8000
attribute [local irreducible] wpList Code.wp wpAnyH

def NoB (l : List (Int × Bool)) (a b : Int) : Prop := ∀ j, j < l.length → ∀ k, k < j → ¬ ((l.getD j (0, false)).1 = a ∧ (l.getD k (0, false)).1 = b)
instance (l : List (Int × Bool)) (a b : Int) : Decidable (NoB l a b) := by unfold NoB; infer_instance
def befP (z : Int) (l : List (Int × Bool)) (p : Int × Int) : Bool := !hasR z (U.pb p : Nat) || (hasR z (U.pa p : Nat) && decide (NoB l (U.pa p : Nat) (U.pb p : Nat)))
def befL (z : Int) (be : List (Int × Int)) (l : List (Int × Bool)) : Bool := be.all (befP z l)
end Go.Proofs.Ytoliacfpjhanlaa.T


/-! The specification of sequences: paired (by gen_ud.py). -/
namespace Go.Proofs.Ytoliacfpjhanlaa.T
open Go.RowKit
set_option maxRecDepth 8000
attribute [local irreducible] wpList Code.wp wpAnyH

/-- a visit of the list: it is one of its order's, all of them are in the list, the pickup first -/
def prdP (ol : List OrT) (l : List (Int × Bool)) (v : Int × Bool) : Bool :=
  !decide (idxV (visR ol v.1.toNat) v < 0) && conV l (visR ol v.1.toNat) && !(decide ((visR ol v.1.toNat).length = 2) && decide (idxV l ((visR ol v.1.toNat).getD 0 (0, false)) > idxV l ((visR ol v.1.toNat).getD 1 (0, false))))
def prdB (ol : List OrT) (l : List (Int × Bool)) : Bool := l.all (prdP ol l)
end Go.Proofs.Ytoliacfpjhanlaa.T


/-! The specification of sequences: Check (by gen_ue.py). -/
namespace Go.Proofs.Ytoliacfpjhanlaa.T
open Go.RowKit
set_option maxRecDepth 8000
attribute [local irreducible] wpList Code.wp wpAnyH

/-- the error of a route's visits, as the specification says -/
def chkR (ol : List OrT) (ap be : List (Int × Int)) (l : List (Int × Bool)) : Int :=
  if l.any (goneV ol.length) = true then 2 else if ordE l ≠ 0 ∨ l.length = 0 then 2 else if l.any (offV ol) = true then 9 else if ¬ (∀ i, i < l.length → idxV l (l.getD i (0, false)) = (i : Int)) then 6
    else if prdB ol l = false then 19 else if aptB (ordN l) ap = false then 20 else if befL (ordN l) be l = false then 21 else 0
end Go.Proofs.Ytoliacfpjhanlaa.T


/-! What can follow, as the specification says. -/
namespace Go.Proofs.Ytoliacfpjhanlaa.T
open Go.RowKit
set_option maxRecDepth 8000

/-- what of an order's visits can follow -/
def nx1 (V l : List (Int × Bool)) (k : Nat) : List (Int × Bool) := if idxV l (V.getD k (0, false)) < 0 ∧ (k = 0 ∨ idxV l (V.getD 0 (0, false)) ≥ 0) then [V.getD k (0, false)] else []
def nxV (V l : List (Int × Bool)) : Nat → List (Int × Bool)
  | 0 => []
  | k + 1 => nxV V l k ++ nx1 V l k
def nxO (z : Int) (ol : List OrT) (be : List (Int × Int)) (l : List (Int × Bool)) (i : Nat) : List (Int × Bool) := if hasR z (i : Int) = true ∧ (ol.getD i or0).off = false ∧ rdyB ol be l i = true then nxV (visR ol i) l (visR ol i).length else []
def nxR (z : Int) (ol : List OrT) (be : List (Int × Int)) (l : List (Int × Bool)) : Nat → List (Int × Bool)
  | 0 => []
  | i + 1 => nxR z ol be l i ++ nxO z ol be l i
theorem nxR_succ (z : Int) (ol : List OrT) (be : List (Int × Int)) (l : List (Int × Bool)) (i : Nat) : nxR z ol be l (i + 1) = nxR z ol be l i ++ nxO z ol be l i := rfl
end Go.Proofs.Ytoliacfpjhanlaa.T


/-! The program's check of a route's visits is the specification's. -/
namespace Go.Proofs.Ytoliacfpjhanlaa.T
open Go.RowKit
set_option maxRecDepth 8000

/-! ### indices -/
theorem idxV_ge (l : List (Int × Bool)) (x : Int × Bool) : -1 ≤ idxV l x := by
  unfold idxV
  split <;> omega
theorem idxV_mem {l : List (Int × Bool)} {x : Int × Bool} : x ∈ l ↔ 0 ≤ idxV l x := by
  have h := idxV_lt (l := l) (x := x)
  constructor
  · intro hm
    exact Int.not_lt.1 fun h9 => h.1 h9 hm
  · intro h0
    exact Decidable.of_not_not fun h9 => absurd (h.2 h9) (by omega)
theorem idxV_snoc {a : List (Int × Bool)} {x : Int × Bool} (h : x ∉ a) : idxV (a ++ [x]) x = a.length := by
  unfold idxV
  rw [if_pos (by simp), List.idxOf_append, if_neg h]
  simp
theorem idxV_snoc_ne {a : List (Int × Bool)} {x v : Int × Bool} (h : v ≠ x) : idxV (a ++ [x]) v = idxV a v := by
  unfold idxV
  by_cases hv : v ∈ a
  · rw [if_pos (List.mem_append_left _ hv), if_pos hv, List.idxOf_append, if_pos hv]
  · rw [if_neg (by simp [hv, h]), if_neg hv]
theorem idxV_at {l : List (Int × Bool)} {i : Nat} (hi : i < l.length) (hn : l.getD i (0, false) ∉ l.take i) : idxV l (l.getD i (0, false)) = (i : Int) :=
  idxV_yes hi (by rw [isV_any]; exact decide_eq_false hn) (by unfold isV; simp)
theorem idxV_first {l : List (Int × Bool)} {i : Nat} (h : idxV l (l.getD i (0, false)) = (i : Int)) : l.getD i (0, false) ∉ l.take i := fun hm => by
  have h1 : l.getD i (0, false) ∈ l := List.mem_of_mem_take hm
  unfold idxV at h
  rw [if_pos h1] at h
  have h2 : l.idxOf (l.getD i (0, false)) = (l.take i).idxOf (l.getD i (0, false)) := by
    have h3 : l = l.take i ++ l.drop i := (List.take_append_drop i l).symm
    conv => lhs; rw [h3]
    rw [List.idxOf_append]
    rw [← h3, if_pos hm]
  have h4 : (l.take i).idxOf (l.getD i (0, false)) < (l.take i).length := List.idxOf_lt_length_of_mem hm
  have h5 : (l.take i).length ≤ i := by rw [List.length_take]; omega
  omega
theorem idxV_get {l : List (Int × Bool)} {x : Int × Bool} (h : x ∈ l) : ∃ i, i < l.length ∧ idxV l x = (i : Int) ∧ l.getD i (0, false) = x := by
  have h1 := List.idxOf_lt_length_of_mem h
  refine ⟨l.idxOf x, h1, by unfold idxV; rw [if_pos h], ?_⟩
  rw [List.getD_eq_getElem?_getD, List.getElem?_eq_getElem h1]
  exact List.getElem_idxOf h1
theorem idxV_inj {l : List (Int × Bool)} {x y : Int × Bool} (hx : x ∈ l) (hy : y ∈ l) (h : idxV l x = idxV l y) : x = y := by
  obtain ⟨i, -, h1, h2⟩ := idxV_get hx
  obtain ⟨j, -, h3, h4⟩ := idxV_get hy
  have : i = j := by omega
  subst this
  exact h2.symm.trans h4

/-! ### positions -/
theorem pOff_inj {v x : Int × Bool} (hv : 0 ≤ v.1) (hx : 0 ≤ x.1) (h : pOff v = pOff x) : v = x := by
  obtain ⟨a, b⟩ := v
  obtain ⟨c, d⟩ := x
  unfold pOff at h
  simp only at h hv hx
  cases b <;> cases d <;> simp at h <;> (first | (have : a = c := by omega); subst this; rfl | omega)
theorem posT_idx {n : Nat} {l : List (Int × Bool)} (hex : Ex n l) : ∀ j, j ≤ l.length → Once n l j → ∀ v : Int × Bool, 0 ≤ v.1 ∧ v.1 < n → ((posT (trK n l j) v : Nat) : Int) = idxV (l.take j) v + 1
  | 0, _, _, v, _ => by
    have : posT (trK n l 0) v = 0 := by
      unfold posT trK
      rw [List.getD_eq_getElem?_getD, List.getElem?_replicate]
      split <;> rfl
    rw [this]
    rfl
  | j + 1, hj, hO, v, hv => by
    have ih := posT_idx hex j (by omega) (fun i hi => hO i (by omega))
    have hx := hO j (by omega)
    have hxr := hex j (by omega)
    have hi := ih _ hxr
    rw [hx] at hi
    have hxn : l.getD j (0, false) ∉ l.take j := idxV_lt.1 (by omega)
    rw [take_more (d := (0, false)) (by omega)]
    have hlen : (l.take j).length = j := by rw [List.length_take]; omega
    have hT : ∀ u : Int × Bool, posT (trK n l (j + 1)) u = ((trK n l j).set (pOff (l.getD j (0, false))) (j + 1)).getD (pOff u) 0 := fun _ => rfl
    by_cases e : v = l.getD j (0, false)
    · rw [e, idxV_snoc hxn, hlen, hT, List.getD_eq_getElem?_getD, List.getElem?_set, if_pos rfl, if_pos (by rw [trK_len]; exact pOff_lt hxr)]
      simp
    · rw [idxV_snoc_ne e, ← ih v hv, hT, List.getD_eq_getElem?_getD, List.getElem?_set, if_neg (fun h9 => e (pOff_inj hv.1 hxr.1 h9.symm))]
      rfl
theorem once_iff {n : Nat} {l : List (Int × Bool)} (hex : Ex n l) : Once n l l.length ↔ ∀ i, i < l.length → idxV l (l.getD i (0, false)) = (i : Int) := by
  constructor
  · intro h i hi
    have h1 := posT_idx hex i (by omega) (fun k hk => h k (by omega)) _ (hex i hi)
    rw [h i hi] at h1
    exact idxV_at hi (idxV_lt.1 (by omega))
  · intro h
    have key : ∀ j, j ≤ l.length → Once n l j := by
      intro j
      induction j with
      | zero => intro _ i hi; omega
      | succ j ih =>
        intro hj i hi
        have h1 := ih (by omega)
        rcases Nat.lt_succ_iff_lt_or_eq.1 hi with h2 | h2
        · exact h1 i h2
        · subst h2
          have h3 := posT_idx hex i (by omega) h1 _ (hex i (by omega))
          have h4 := idxV_lt.2 (idxV_first (h i (by omega)))
          have h5 := idxV_ge (l.take i) (l.getD i (0, false))
          omega
    exact key _ (Nat.le_refl _)
theorem posT_all {n : Nat} {l : List (Int × Bool)} (hex : Ex n l) (hO : Once n l l.length) {v : Int × Bool} (hv : 0 ≤ v.1 ∧ v.1 < n) : ((posT (trK n l l.length) v : Nat) : Int) = idxV l v + 1 := by
  have h := posT_idx hex l.length (Nat.le_refl _) hO v hv
  rwa [List.take_length] at h

/-! ### the visits of orders -/
structure Okv (ol : List OrT) : Prop where
  pp : ∀ k, k < ol.length → -1 ≤ (ol.getD k or0).pp
  dp : ∀ k, k < ol.length → -1 ≤ (ol.getD k or0).dp
  ne : ∀ k, k < ol.length → ¬ ((ol.getD k or0).pp = -1 ∧ (ol.getD k or0).dp = -1)
theorem visL_is {ol : List OrT} (ok : Okv ol) {k : Nat} (hk : k < ol.length) : visL ol (k : Int) = visR ol k := by
  have h1 := ok.pp k hk
  have h2 := ok.dp k hk
  unfold visL visR visO inR
  rw [decide_eq_true (by omega), decide_eq_true (by omega), Bool.and_self, if_pos rfl, Int.toNat_natCast]
  by_cases h3 : (ol.getD k or0).pp = -1
  · rw [if_pos h3, if_neg (by omega)]
    by_cases h4 : (ol.getD k or0).dp = -1
    · rw [if_pos h4, if_neg (by omega)]
    · rw [if_neg h4, if_pos (by omega)]
  · rw [if_neg h3, if_pos (by omega)]
    by_cases h4 : (ol.getD k or0).dp = -1
    · rw [if_pos h4, if_neg (by omega)]
    · rw [if_neg h4, if_pos (by omega)]
theorem visR_form {ol : List OrT} (ok : Okv ol) {k : Nat} (hk : k < ol.length) : visR ol k = [((k : Int), false), ((k : Int), true)] ∨ visR ol k = [((k : Int), false)] ∨ visR ol k = [((k : Int), true)] := by
  have h1 := ok.ne k hk
  unfold visR
  by_cases h3 : (ol.getD k or0).pp = -1
  · rw [if_pos h3, if_neg (fun h4 => h1 ⟨h3, h4⟩)]
    exact .inr (.inr rfl)
  · rw [if_neg h3]
    split
    · exact .inr (.inl rfl)
    · exact .inl rfl
end Go.Proofs.Ytoliacfpjhanlaa.T


/-! The program's check of a route's visits is the specification's: pairs, orders apart, orders before others. -/
namespace Go.Proofs.Ytoliacfpjhanlaa.T
open Go.RowKit
set_option maxRecDepth 8000

theorem turn_two (T : List Nat) (a b : Int × Bool) (m : Nat) : inTurnB T [a, b] m = (decide (m < posT T a) && decide (posT T a < posT T b)) := by
  show (decide _ && (decide _ && true)) = _
  rw [Bool.and_true]
theorem turn_one (T : List Nat) (a : Int × Bool) (m : Nat) : inTurnB T [a] m = decide (m < posT T a) := by
  show (decide _ && true) = _
  rw [Bool.and_true]
section
variable {ol : List OrT} {l : List (Int × Bool)} {T : List Nat}
/-- the visits of one order are in turn -/
theorem turn_con (hT : ∀ v : Int × Bool, 0 ≤ v.1 ∧ v.1 < ol.length → ((posT T v : Nat) : Int) = idxV l v + 1) (ok : Okv ol) {k : Nat} (hk : k < ol.length) :
    inTurnB T (visR ol k) 0 = (conV l (visR ol k) && !(decide ((visR ol k).length = 2) && decide (idxV l ((visR ol k).getD 0 (0, false)) > idxV l ((visR ol k).getD 1 (0, false))))) := by
  have ha := hT ((k : Int), false) ⟨by simp, by simpa using hk⟩
  have hb := hT ((k : Int), true) ⟨by simp, by simpa using hk⟩
  have ma := idxV_mem (l := l) (x := ((k : Int), false))
  have mb := idxV_mem (l := l) (x := ((k : Int), true))
  rcases visR_form ok hk with e | e | e
  · rw [e, turn_two]
    have hne : 0 ≤ idxV l ((k : Int), false) → 0 ≤ idxV l ((k : Int), true) → idxV l ((k : Int), false) ≠ idxV l ((k : Int), true) := fun h1 h2 h3 => by
      have := idxV_inj (ma.2 h1) (mb.2 h2) h3
      simp at this
    unfold conV
    rw [Bool.eq_iff_iff]
    simp only [List.all_cons, List.all_nil, Bool.and_true, Bool.and_eq_true, decide_eq_true_eq, Bool.not_eq_true', Bool.and_eq_false_iff, decide_eq_false_iff_not, List.length_cons, List.length_nil, ma, mb]
    show _ ↔ (_ ∧ (¬ True ∨ ¬ idxV l ((k : Int), false) > idxV l ((k : Int), true)))
    constructor
    · rintro ⟨h1, h2⟩
      exact ⟨⟨by omega, by omega⟩, .inr (by omega)⟩
    · rintro ⟨⟨h1, h2⟩, h3 | h3⟩
      · exact absurd trivial h3
      · have := hne h1 h2
        omega
  · rw [e, turn_one]
    unfold conV
    rw [Bool.eq_iff_iff]
    simp only [List.all_cons, List.all_nil, Bool.and_true, Bool.and_eq_true, decide_eq_true_eq, Bool.not_eq_true', Bool.and_eq_false_iff, decide_eq_false_iff_not, List.length_cons, List.length_nil, ma]
    constructor
    · intro h; exact ⟨by omega, .inl (by omega)⟩
    · rintro ⟨h, -⟩; omega
  · rw [e, turn_one]
    unfold conV
    rw [Bool.eq_iff_iff]
    simp only [List.all_cons, List.all_nil, Bool.and_true, Bool.and_eq_true, decide_eq_true_eq, Bool.not_eq_true', Bool.and_eq_false_iff, decide_eq_false_iff_not, List.length_cons, List.length_nil, mb]
    constructor
    · intro h; exact ⟨by omega, .inl (by omega)⟩
    · rintro ⟨h, -⟩; omega
theorem ex_mem (hex : Ex ol.length l) {v : Int × Bool} (hv : v ∈ l) : ∃ k, k < ol.length ∧ v.1 = (k : Int) := by
  obtain ⟨i, hi, -, e⟩ := idxV_get hv
  have h := hex i hi
  rw [e] at h
  exact ⟨v.1.toNat, by omega, by omega⟩
theorem pairdB_is (hT : ∀ v : Int × Bool, 0 ≤ v.1 ∧ v.1 < ol.length → ((posT T v : Nat) : Int) = idxV l v + 1) (ok : Okv ol) (hex : Ex ol.length l) : pairdB ol T l = prdB ol l := by
  unfold pairdB prdB
  rw [Bool.eq_iff_iff, List.all_eq_true, List.all_eq_true]
  have key : ∀ v ∈ l, (decide (v ∈ visL ol v.1) && inTurnB T (visL ol v.1) 0) = prdP ol l v := fun v hv => by
    obtain ⟨k, hk, e⟩ := ex_mem hex hv
    unfold prdP
    rw [e, visL_is ok hk, Int.toNat_natCast, turn_con hT ok hk, ← Bool.and_assoc]
    have : decide (v ∈ visR ol k) = !decide (idxV (visR ol k) v < 0) := by
      rw [Bool.eq_iff_iff, decide_eq_true_iff, Bool.not_eq_true', decide_eq_false_iff_not, idxV_mem]
      omega
    rw [this]
  constructor
  · intro h v hv
    rw [← key v hv]
    exact h v hv
  · intro h v hv
    rw [key v hv]
    exact h v hv
/-- the order is there -/
theorem hasT_is (hT : ∀ v : Int × Bool, 0 ≤ v.1 ∧ v.1 < ol.length → ((posT T v : Nat) : Int) = idxV l v + 1) {k : Nat} (hk : k < ol.length) : hasT T k = true ↔ ∃ d, ((k : Int), d) ∈ l := by
  have ha := hT ((k : Int), false) ⟨by simp, by simpa using hk⟩
  have hb := hT ((k : Int), true) ⟨by simp, by simpa using hk⟩
  have ea : posT T ((k : Int), false) = T.getD (k * 2) 0 := by unfold posT pOff; simp
  have eb : posT T ((k : Int), true) = T.getD (k * 2 + 1) 0 := by unfold posT pOff; simp
  unfold hasT
  rw [← ea, ← eb, Bool.or_eq_true, decide_eq_true_iff, decide_eq_true_iff]
  constructor
  · rintro (h | h)
    · exact ⟨false, idxV_mem.2 (by omega)⟩
    · exact ⟨true, idxV_mem.2 (by omega)⟩
  · rintro ⟨d, h⟩
    have h2 := idxV_mem.1 h
    cases d
    · exact .inl (by omega)
    · exact .inr (by omega)
theorem has_ordK {l : List (Int × Bool)} (k : Nat) : ∀ j, j ≤ l.length → (S.has (ordK l j) k = true ↔ ∃ i, i < j ∧ (l.getD i (0, false)).1.toNat = k)
  | 0, _ => by
    have : ordK l 0 = 0 := rfl
    rw [this, U.has_zero]
    constructor
    · intro h; cases h
    · rintro ⟨i, h, -⟩; omega
  | j + 1, hj => by
    have ih := has_ordK (l := l) k j (by omega)
    rw [ordK_more (by omega), U.has_or, Bool.or_eq_true, ih, U.has_pow, decide_eq_true_iff]
    constructor
    · rintro (⟨i, h1, h2⟩ | h)
      · exact ⟨i, by omega, h2⟩
      · exact ⟨j, by omega, h.symm⟩
    · rintro ⟨i, h1, h2⟩
      rcases Nat.lt_succ_iff_lt_or_eq.1 h1 with h3 | h3
      · exact .inl ⟨i, h3, h2⟩
      · subst h3
        exact .inr h2.symm
theorem ordB_ex (hn : ol.length ≤ 10) (hex : Ex ol.length l) : ordB l = true := ordB_all fun i hi => by
  have h := hex i hi
  unfold num62
  rw [decide_eq_true (by omega), decide_eq_true (by omega)]
  rfl
theorem hasR_ord (hn : ol.length ≤ 10) (hex : Ex ol.length l) {k : Nat} (hk : k < ol.length) : hasR (ordN l) (k : Int) = true ↔ ∃ d, ((k : Int), d) ∈ l := by
  have hb := ordB_ex hn hex
  unfold hasR ordN
  rw [hb, if_pos rfl, decide_eq_true (by omega), Bool.true_and, Int.toNat_natCast, ← has_def]
  have h62 : num62 (k : Int) = true := by unfold num62; rw [decide_eq_true (by omega), decide_eq_true (by omega)]; rfl
  rw [h62, Bool.true_and, has_ordK k l.length (Nat.le_refl _)]
  constructor
  · rintro ⟨i, hi, h⟩
    have h2 := hex i hi
    have hm : l.getD i (0, false) ∈ l := getD_mem hi
    refine ⟨(l.getD i (0, false)).2, ?_⟩
    have e : ((k : Int), (l.getD i (0, false)).2) = l.getD i (0, false) := Prod.ext (by simp only; omega) rfl
    rw [e]
    exact hm
  · rintro ⟨d, h⟩
    obtain ⟨i, hi, -, e⟩ := idxV_get h
    exact ⟨i, hi, by rw [e]; simp⟩
theorem hasT_hasR (hT : ∀ v : Int × Bool, 0 ≤ v.1 ∧ v.1 < ol.length → ((posT T v : Nat) : Int) = idxV l v + 1) (hn : ol.length ≤ 10) (hex : Ex ol.length l) {k : Nat} (hk : k < ol.length) : hasT T k = hasR (ordN l) (k : Int) := by
  rw [Bool.eq_iff_iff, hasT_is hT hk, hasR_ord hn hex hk]
theorem pairB_is (hT : ∀ v : Int × Bool, 0 ≤ v.1 ∧ v.1 < ol.length → ((posT T v : Nat) : Int) = idxV l v + 1) (hn : ol.length ≤ 10) (hex : Ex ol.length l) {ap : List (Int × Int)} (hra : U.Rt ol.length ap) : pairB T ap = !aptB (ordN l) ap := by
  unfold pairB aptB
  rw [List.not_all_eq_any_not]
  have key : ∀ p ∈ ap, (hasT T (U.pa p) && hasT T (U.pb p)) = !aptP (ordN l) p := fun p hp => by
    have h := hra.a hp
    unfold aptP
    rw [hasT_hasR hT hn hex h.1, hasT_hasR hT hn hex h.2.1, Bool.not_not]
  rw [Bool.eq_iff_iff, List.any_eq_true, List.any_eq_true]
  constructor
  · rintro ⟨p, hp, h⟩
    exact ⟨p, hp, by rw [← key p hp]; exact h⟩
  · rintro ⟨p, hp, h⟩
    exact ⟨p, hp, by rw [key p hp]; exact h⟩
end
end Go.Proofs.Ytoliacfpjhanlaa.T


/-! The program's check of a route's visits is the specification's. -/
namespace Go.Proofs.Ytoliacfpjhanlaa.T
open Go.RowKit
set_option maxRecDepth 8000

theorem turn_app (T : List Nat) : ∀ (a b : List (Int × Bool)) (m : Nat), inTurnB T (a ++ b) m = (inTurnB T a m && inTurnB T b (a.foldl (fun _ v => posT T v) m))
  | [], b, m => by show _ = (true && _); rw [Bool.true_and]; rfl
  | v :: a, b, m => by
    show (decide _ && inTurnB T (a ++ b) _) = ((decide _ && inTurnB T a _) && _)
    rw [turn_app T a b, Bool.and_assoc]
    rfl
section
variable {ol : List OrT} {l : List (Int × Bool)} {T : List Nat}
theorem nob_iff (h : ∀ i, i < l.length → idxV l (l.getD i (0, false)) = (i : Int)) (a b : Int) : NoB l a b ↔ ∀ d e : Bool, (a, d) ∈ l → (b, e) ∈ l → ¬ idxV l (b, e) < idxV l (a, d) := by
  constructor
  · intro hN d e ha hb hlt
    obtain ⟨i, hi, e1, e2⟩ := idxV_get ha
    obtain ⟨j, hj, e3, e4⟩ := idxV_get hb
    exact hN i hi j (by omega) ⟨by rw [e2], by rw [e4]⟩
  · intro hA j hj k hk ⟨h1, h2⟩
    have e1 : (a, (l.getD j (0, false)).2) = l.getD j (0, false) := Prod.ext h1.symm rfl
    have e2 : (b, (l.getD k (0, false)).2) = l.getD k (0, false) := Prod.ext h2.symm rfl
    have h3 := hA (l.getD j (0, false)).2 (l.getD k (0, false)).2 (by rw [e1]; exact getD_mem hj) (by rw [e2]; exact getD_mem (by omega))
    rw [e1, e2, h j hj, h k (by omega)] at h3
    omega
/-- what the visits of an order that is there look like -/
structure Lay (l : List (Int × Bool)) (T : List Nat) (k : Int) (V : List (Int × Bool)) : Prop where
  c : (V = [(k, false), (k, true)] ∧ 0 ≤ idxV l (k, false) ∧ idxV l (k, false) < idxV l (k, true)) ∨ (V = [(k, false)] ∧ 0 ≤ idxV l (k, false) ∧ idxV l (k, true) < 0) ∨ (V = [(k, true)] ∧ 0 ≤ idxV l (k, true) ∧ idxV l (k, false) < 0)
theorem lay_of (hT : ∀ v : Int × Bool, 0 ≤ v.1 ∧ v.1 < ol.length → ((posT T v : Nat) : Int) = idxV l v + 1) (ok : Okv ol) (hp : prdB ol l = true) {k : Nat} (hk : k < ol.length) (hm : ∃ d, ((k : Int), d) ∈ l) : Lay l T (k : Int) (visR ol k) := by
  have ha := hT ((k : Int), false) ⟨by simp, by simpa using hk⟩
  have hb := hT ((k : Int), true) ⟨by simp, by simpa using hk⟩
  unfold prdB at hp
  rw [List.all_eq_true] at hp
  -- each visit of the order that is there is one of its visits
  have hin : ∀ d, ((k : Int), d) ∈ l → ((k : Int), d) ∈ visR ol k := fun d hd => by
    have h := hp _ hd
    unfold prdP at h
    rw [Int.toNat_natCast] at h
    simp only [Bool.and_eq_true, Bool.not_eq_true', decide_eq_false_iff_not] at h
    exact idxV_mem.2 (by omega)
  obtain ⟨d, hd⟩ := hm
  have ht : inTurnB T (visR ol k) 0 = true := by
    rw [turn_con hT ok hk]
    have h := hp _ hd
    unfold prdP at h
    rw [Int.toNat_natCast, Bool.and_assoc, Bool.and_eq_true] at h
    exact h.2
  have m0 := idxV_mem (l := l) (x := ((k : Int), false))
  have m1 := idxV_mem (l := l) (x := ((k : Int), true))
  rcases visR_form ok hk with e | e | e
  · rw [e, turn_two, Bool.and_eq_true, decide_eq_true_iff, decide_eq_true_iff] at ht
    exact ⟨.inl ⟨e, by omega, by omega⟩⟩
  · rw [e, turn_one, decide_eq_true_iff] at ht
    refine ⟨.inr (.inl ⟨e, by omega, ?_⟩)⟩
    refine Int.not_le.1 fun h9 => ?_
    have h8 := hin true (m1.2 h9)
    rw [e] at h8
    simp at h8
  · rw [e, turn_one, decide_eq_true_iff] at ht
    refine ⟨.inr (.inr ⟨e, by omega, ?_⟩)⟩
    refine Int.not_le.1 fun h9 => ?_
    have h8 := hin false (m0.2 h9)
    rw [e] at h8
    simp at h8
theorem fol_one (hT : ∀ v : Int × Bool, 0 ≤ v.1 ∧ v.1 < ol.length → ((posT T v : Nat) : Int) = idxV l v + 1) (ok : Okv ol) (hn : ol.length ≤ 10) (hex : Ex ol.length l) (hO : ∀ i, i < l.length → idxV l (l.getD i (0, false)) = (i : Int)) (hp : prdB ol l = true) {p : Int × Int} (ha : U.pa p < ol.length) (hb : U.pb p < ol.length) (hab : U.pa p ≠ U.pb p) :
    (!hasT T (U.pb p) || inTurnB T (visL ol (U.pa p : Int) ++ visL ol (U.pb p : Int)) 0) = befP (ordN l) l p := by
  unfold befP
  rw [visL_is ok ha, visL_is ok hb, hasT_hasR hT hn hex hb]
  by_cases h1 : hasR (ordN l) ((U.pb p : Nat) : Int) = true
  · have lb := (lay_of hT ok hp hb ((hasR_ord hn hex hb).1 h1)).c
    rw [h1]
    simp only [Bool.not_true, Bool.false_or]
    have a0 := hT ((U.pa p : Int), false) ⟨by simp, by simpa using ha⟩
    have a1 := hT ((U.pa p : Int), true) ⟨by simp, by simpa using ha⟩
    have b0 := hT ((U.pb p : Int), false) ⟨by simp, by simpa using hb⟩
    have b1 := hT ((U.pb p : Int), true) ⟨by simp, by simpa using hb⟩
    have hne : ∀ d e : Bool, 0 ≤ idxV l ((U.pa p : Int), d) → 0 ≤ idxV l ((U.pb p : Int), e) → idxV l ((U.pa p : Int), d) ≠ idxV l ((U.pb p : Int), e) := fun d e h1 h2 h3 => by
      have h4 := idxV_inj (idxV_mem.2 h1) (idxV_mem.2 h2) h3
      simp only [Prod.mk.injEq] at h4
      omega
    have e00 := hne false false
    have e01 := hne false true
    have e10 := hne true false
    have e11 := hne true true
    clear hne
    have ga0 := idxV_ge l ((U.pa p : Int), false)
    have ga1 := idxV_ge l ((U.pa p : Int), true)
    by_cases h2 : hasR (ordN l) ((U.pa p : Nat) : Int) = true
    · have la := (lay_of hT ok hp ha ((hasR_ord hn hex ha).1 h2)).c
      rw [h2, Bool.true_and, turn_app, Bool.eq_iff_iff, Bool.and_eq_true, decide_eq_true_iff, nob_iff hO]
      simp only [Bool.forall_bool, idxV_mem]
      rcases la with ⟨e1, la⟩ | ⟨e1, la⟩ | ⟨e1, la⟩ <;> rcases lb with ⟨e2, lb⟩ | ⟨e2, lb⟩ | ⟨e2, lb⟩ <;> rw [e1, e2] <;> simp only [turn_two, turn_one, List.foldl_cons, List.foldl_nil, Bool.and_eq_true, decide_eq_true_iff] <;> omega
    · have h3 : hasR (ordN l) ((U.pa p : Nat) : Int) = false := by simpa using h2
      rw [h3, Bool.false_and, turn_app]
      have n0 : ∀ d, ¬ 0 ≤ idxV l ((U.pa p : Int), d) := fun d h9 => h2 ((hasR_ord hn hex ha).2 ⟨d, idxV_mem.2 h9⟩)
      have n1 := n0 false
      have n2 := n0 true
      have : inTurnB T (visR ol (U.pa p)) 0 = false := by
        rcases visR_form ok ha with e | e | e
        · rw [e, turn_two, decide_eq_false (by omega), Bool.false_and]
        · rw [e, turn_one, decide_eq_false (by omega)]
        · rw [e, turn_one, decide_eq_false (by omega)]
      rw [this, Bool.false_and]
  · have h3 : hasR (ordN l) ((U.pb p : Nat) : Int) = false := by simpa using h1
    rw [h3]
    rfl
theorem folB_is (hT : ∀ v : Int × Bool, 0 ≤ v.1 ∧ v.1 < ol.length → ((posT T v : Nat) : Int) = idxV l v + 1) (ok : Okv ol) (hn : ol.length ≤ 10) (hex : Ex ol.length l) (hO : ∀ i, i < l.length → idxV l (l.getD i (0, false)) = (i : Int)) (hp : prdB ol l = true) {be : List (Int × Int)} (hr : U.Rt ol.length be) : folB ol T be = befL (ordN l) be l := by
  unfold folB befL
  rw [Bool.eq_iff_iff, List.all_eq_true, List.all_eq_true]
  constructor
  · intro h p hpm
    have h1 := hr.a hpm
    rw [← fol_one hT ok hn hex hO hp h1.1 h1.2.1 h1.2.2.1]
    exact h p hpm
  · intro h p hpm
    have h1 := hr.a hpm
    rw [fol_one hT ok hn hex hO hp h1.1 h1.2.1 h1.2.2.1]
    exact h p hpm
end
/-- the program's error is the specification's -/
theorem chk_is {ol : List OrT} (ok : Okv ol) (hn : ol.length ≤ 10) {ap be : List (Int × Int)} (hra : U.Rt ol.length ap) (hr : U.Rt ol.length be) (l : List (Int × Bool)) : chkS ol ap be l = chkR ol ap be l := by
  unfold chkS chkR
  by_cases h1 : l.any (goneV ol.length) = true
  · rw [if_pos (.inr h1), if_pos h1]
  · rw [if_neg h1]
    have hex := gone_ex h1
    have hE : ordE l = 0 := by unfold ordE; rw [ordB_ex hn hex]; rfl
    by_cases h0 : l.length = 0
    · rw [if_pos (.inl h0), if_pos (.inr h0)]
    · rw [if_neg (show ¬ (l.length = 0 ∨ l.any (goneV ol.length) = true) from fun h => h.elim h0 h1), if_neg (show ¬ (ordE l ≠ 0 ∨ l.length = 0) from fun h => h.elim (fun h => h hE) h0)]
      by_cases h2 : l.any (offV ol) = true
      · rw [if_pos h2, if_pos h2]
      · rw [if_neg h2, if_neg h2]
        by_cases h3 : Once ol.length l l.length
        · have hO := (once_iff hex).1 h3
          have hT : ∀ v : Int × Bool, 0 ≤ v.1 ∧ v.1 < ol.length → ((posT (trK ol.length l l.length) v : Nat) : Int) = idxV l v + 1 := fun v hv => posT_all hex h3 hv
          rw [if_neg (show ¬ ¬ Once ol.length l l.length from fun h => h h3), if_neg (show ¬ ¬ (∀ i, i < l.length → idxV l (l.getD i (0, false)) = (i : Int)) from fun h => h hO), pairdB_is hT ok hex]
          by_cases h4 : prdB ol l = false
          · rw [if_pos h4, if_pos h4]
          · have h5 : prdB ol l = true := by simpa using h4
            rw [if_neg h4, if_neg h4, pairB_is hT hn hex hra, folB_is hT ok hn hex hO h5 hr]
            cases aptB (ordN l) ap
            · rfl
            · rfl
        · rw [if_pos h3, if_pos (fun h => h3 ((once_iff hex).2 h))]
end Go.Proofs.Ytoliacfpjhanlaa.T


