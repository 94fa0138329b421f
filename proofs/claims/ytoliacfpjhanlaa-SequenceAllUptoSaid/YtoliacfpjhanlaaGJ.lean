/-
  DERIVED. GJ: a part of the base of layer 13 (made by pack.py).
-/
import Derived.Test.YtoliacfpjhanlaaGD
import Derived.Test.YtoliacfpjhanlaaGG
import Derived.Test.YtoliacfpjhanlaaSt
import Derived.Test.YtoliacfpjhanlaaSu
import Derived.Test.YtoliacfpjhanlaaGH
/-! The samples are found (by gen_sw.py). -/
namespace Go.Proofs.Ytoliacfpjhanlaa.T
open Go.RowKit
set_option maxRecDepth 8000
attribute [local irreducible] wpList Code.wp wpAnyH

theorem rt0 (n : Nat) : U.Rt n [] := fun p hp => by cases hp
theorem rt1 : U.Rt 2 [(0, 1)] := fun p hp => by
  rw [List.mem_singleton] at hp
  subst hp
  decide
theorem rw_nil (w : World) : Rw w 0 0 2 (vF []) ([] : List (Int × Bool)).length none := fun k hk => absurd hk (Nat.not_lt_zero k)
theorem rw_two {w : World} {q : Nat} (h : Cb w q #[.int .i64 0, .bool false, .int .i64 0, .bool true] 52) : Rw w q 0 2 (vF [(0, false), (0, true)]) 2 (some ⟨q, 0, none⟩) := fun k hk => ⟨rfl, h.lt, fun j v hj => by
  match k, j, hk, hj with
  | 0, 0, _, hj => simp [vF] at hj; subst hj; exact h.cell 0 rfl
  | 0, 1, _, hj => simp [vF] at hj; subst hj; exact h.cell 1 rfl
  | 1, 0, _, hj => simp [vF] at hj; subst hj; exact h.cell 2 rfl
  | 1, 1, _, hj => simp [vF] at hj; subst hj; exact h.cell 3 rfl
  | 0, j + 2, _, hj => simp [vF] at hj
  | 1, j + 2, _, hj => simp [vF] at hj⟩
theorem aw_n1 : (allS 3 olP [] []).length = 6 := by kernel_rfl
theorem aw_n2 : (allS 3 olP [] [(0, 1)]).length = 1 := by kernel_rfl
theorem aw_e1 : allE 3 olP [] [] = 0 := by kernel_rfl
theorem aw_e2 : allE 3 olP [] [(0, 1)] = 0 := by kernel_rfl
theorem aw_o1 : ordN [(0, false), (0, true)] = 1 := by kernel_rfl
theorem aw_o2 : ordE [(0, false), (0, true)] = 0 := by kernel_rfl
theorem aw_c : chkS olP [] [] [(0, false), (0, true)] = 0 := by
  unfold chkS
  have e1 : [(0, false), (0, true)].any (goneV olP.length) = false := by kernel_rfl
  have e2 : [(0, false), (0, true)].any (offV olP) = false := by kernel_rfl
  have e3 : Once olP.length [(0, false), (0, true)] 2 := fun i hi => by
    match i, hi with
    | 0, _ =>
      show posT (trK olP.length [(0, false), (0, true)] 0) ([(0, false), (0, true)].getD 0 (0, false)) = 0
      kernel_rfl
    | 1, _ =>
      show posT (trK olP.length [(0, false), (0, true)] 1) ([(0, false), (0, true)].getD 1 (0, false)) = 0
      kernel_rfl
  have e4 : pairdB olP (trK olP.length [(0, false), (0, true)] 2) [(0, false), (0, true)] = true := by kernel_rfl
  have e5 : pairB (trK olP.length [(0, false), (0, true)] 2) [] = false := by kernel_rfl
  have e6 : folB olP (trK olP.length [(0, false), (0, true)] 2) [] = true := by kernel_rfl
  show (if 2 = 0 ∨ _ then _ else _) = _
  rw [if_neg (by rw [e1]; simp), if_neg (by rw [e2]; simp), if_neg (fun h => h e3)]
  show (if pairdB olP (trK olP.length [(0, false), (0, true)] 2) [(0, false), (0, true)] = false then _ else _) = _
  rw [if_neg (by rw [e4]; simp)]
  show (if pairB (trK olP.length [(0, false), (0, true)] 2) [] = true then _ else _) = _
  rw [if_neg (by rw [e5]; simp)]
  show (if folB olP (trK olP.length [(0, false), (0, true)] 2) [] = false then _ else _) = _
  rw [if_neg (by rw [e6]; simp)]
theorem aw_x : (nextS 3 olP [(0, 1)] []).length = 1 := by kernel_rfl
theorem aw_l : lessL [] [(0, false), (0, true)] = true := by kernel_rfl
theorem aw_all1 (o0 o2 o3 o5 : Option Addr) (n0 c0 n2 c2 c3 c5 : Nat) (w : World) (hos : Os w (.slice o3 2 c3) olP) (hps : Ps w (.slice o5 0 c5) []) : Calls Try.prog 13 #[.agg #[.slice o0 n0 c0, .slice none 0 0, .slice o2 n2 c2, .slice o3 2 c3, .slice none 0 0, .slice o5 0 c5], .int .i64 3] w fun e w' => ∃ (of : Option Addr) (cf : Nat), e = .returned (.tuple #[.slice of 6 cf, .int .i64 0]) ∧ Below w.heap.size w w' := by
  refine Calls.mono (all16_n o0 none o2 o3 none o5 n0 0 n2 c0 0 c2 c3 0 c5 olP [] [] (by decide) (rt0 _) (by decide) (rt0 _) (by decide) 3 (by decide) w hos (Ps.nil0 _) hps) ?_
  rintro e w' ⟨v, vs, rfl, hf, hel, hb⟩
  obtain ⟨of, cf, rfl⟩ := Fo.form hf
  rw [hel.len, aw_n1, aw_e1]
  exact ⟨of, cf, rfl, hb⟩
theorem aw_all2 (o0 o2 o3 o5 : Option Addr) (n0 c0 n2 c2 c3 c5 : Nat) (w : World) (hos : Os w (.slice o3 2 c3) olP) (hps : Ps w (.slice o5 1 c5) [(0, 1)]) : Calls Try.prog 13 #[.agg #[.slice o0 n0 c0, .slice none 0 0, .slice o2 n2 c2, .slice o3 2 c3, .slice none 0 0, .slice o5 1 c5], .int .i64 3] w fun e w' => ∃ (of : Option Addr) (cf : Nat), e = .returned (.tuple #[.slice of 1 cf, .int .i64 0]) ∧ Below w.heap.size w w' := by
  refine Calls.mono (all16_n o0 none o2 o3 none o5 n0 0 n2 c0 0 c2 c3 0 c5 olP [] [(0, 1)] (by decide) (rt0 _) (by decide) rt1 (by decide) 3 (by decide) w hos (Ps.nil0 _) hps) ?_
  rintro e w' ⟨v, vs, rfl, hf, hel, hb⟩
  obtain ⟨of, cf, rfl⟩ := Fo.form hf
  rw [hel.len, aw_n2, aw_e2]
  exact ⟨of, cf, rfl, hb⟩
theorem aw_next (o0 o2 o3 o5 : Option Addr) (n0 c0 n2 c2 c3 c5 : Nat) (w : World) (hos : Os w (.slice o3 2 c3) olP) (hps : Ps w (.slice o5 1 c5) [(0, 1)]) : Calls Try.prog 17 #[.agg #[.slice o0 n0 c0, .slice none 0 0, .slice o2 n2 c2, .slice o3 2 c3, .slice none 0 0, .slice o5 1 c5], .int .i64 3, .slice none 0 0] w fun e w' => ∃ (on : Option Addr) (cn : Nat), e = .returned (.slice on 1 cn) ∧ Below w.heap.size w w' := by
  refine Calls.mono (nextTop_n o0 none o2 o3 none o5 n0 0 n2 0 c0 0 c2 c3 0 c5 olP [(0, 1)] (by decide) rt1 (by decide) w hos hps 3 [] (by decide) none 0 0 0 (rw_nil _)) ?_
  rintro e w' ⟨on, cn, rfl, -, hb⟩
  rw [aw_x]
  exact ⟨on, cn, rfl, hb⟩
theorem awake16_n (w : World) : Calls Try.prog 10 #[] w fun e w' => e = .returned (.bool true) ∧ Below w.heap.size w w' := by
  have HB : Below w.heap.size w w := Below.refl _ _
  refine sx_enter Try.func10 rfl [] (by kernel_rfl) ?_
  refine wp_seq ?_
  refine wp_region_lit ?_
  refine sx_val (by kernel_rfl) rfl rfl (.bool false) (by kernel_rfl) ?_
  refine wpList_nil ?_
  refine sx_norm ?_
  refine wp_seq ?_
  refine wp_region_lit ?_
  refine sx_call (by kernel_rfl) rfl rfl (pair_false w) (by kernel_rfl) ?_
  rintro e W1 ⟨o0p1, o2p1, o3p1, o5p1, n0p1, c0p1, n2p1, c2p1, c3p1, c5p1, rfl, hosp1, hpsp1, hb⟩
  replace HB := over HB hb
  have z1 := hb.size
  clear hb
  refine ⟨_, rfl, ?_⟩
  refine sx_call (by kernel_rfl) rfl rfl (aw_all1 o0p1 o2p1 o3p1 o5p1 n0p1 c0p1 n2p1 c2p1 c3p1 c5p1 W1 hosp1 hpsp1) (by kernel_rfl) ?_
  rintro e W2 ⟨ofp1, cfp1, rfl, hb⟩
  replace HB := over HB hb
  replace hosp1 := hosp1.below hb
  replace hpsp1 := hpsp1.below hb
  have z2 := hb.size
  clear hb
  refine ⟨_, rfl, ?_⟩
  refine sx_val (by kernel_rfl) rfl rfl (.tuple #[.slice ofp1 6 cfp1, .int .i64 0]) (by kernel_rfl) ?_
  refine sx_val (by kernel_rfl) rfl rfl (.slice ofp1 6 cfp1) (by kernel_rfl) ?_
  refine sx_val (by kernel_rfl) rfl rfl (.int .i64 0) (by kernel_rfl) ?_
  refine sx_val (by kernel_rfl) rfl rfl (.slice ofp1 6 cfp1) (by kernel_rfl) ?_
  refine sx_val (by kernel_rfl) rfl rfl (.int .i64 0) (by kernel_rfl) ?_
  refine wpList_nil ?_
  refine sx_norm ?_
  refine wp_seq ?_
  refine wp_region_lit ?_
  refine sx_call (by kernel_rfl) rfl rfl (pair_true W2) (by kernel_rfl) ?_
  rintro e W3 ⟨o0p2, o2p2, o3p2, o5p2, n0p2, c0p2, n2p2, c2p2, c3p2, c5p2, rfl, hosp2, hpsp2, hb⟩
  replace HB := over HB hb
  replace hosp1 := hosp1.below hb
  replace hpsp1 := hpsp1.below hb
  have z3 := hb.size
  clear hb
  refine ⟨_, rfl, ?_⟩
  refine sx_call (by kernel_rfl) rfl rfl (aw_all2 o0p2 o2p2 o3p2 o5p2 n0p2 c0p2 n2p2 c2p2 c3p2 c5p2 W3 hosp2 hpsp2) (by kernel_rfl) ?_
  rintro e W4 ⟨ofp2, cfp2, rfl, hb⟩
  replace HB := over HB hb
  replace hosp1 := hosp1.below hb
  replace hpsp1 := hpsp1.below hb
  replace hosp2 := hosp2.below hb
  replace hpsp2 := hpsp2.below hb
  have z4 := hb.size
  clear hb
  refine ⟨_, rfl, ?_⟩
  refine sx_val (by kernel_rfl) rfl rfl (.tuple #[.slice ofp2 1 cfp2, .int .i64 0]) (by kernel_rfl) ?_
  refine sx_val (by kernel_rfl) rfl rfl (.slice ofp2 1 cfp2) (by kernel_rfl) ?_
  refine sx_val (by kernel_rfl) rfl rfl (.int .i64 0) (by kernel_rfl) ?_
  refine sx_val (by kernel_rfl) rfl rfl (.slice ofp2 1 cfp2) (by kernel_rfl) ?_
  refine sx_val (by kernel_rfl) rfl rfl (.int .i64 0) (by kernel_rfl) ?_
  refine wpList_nil ?_
  refine sx_norm ?_
  refine wp_seq ?_
  refine wp_region_lit ?_
  refine sx_val (by kernel_rfl) rfl rfl (.agg #[.int .i64 0, .bool false]) (by kernel_rfl) ?_
  refine sx_val (by kernel_rfl) rfl rfl (.agg #[.int .i64 0, .bool true]) (by kernel_rfl) ?_
  obtain ⟨W5, hW⟩ : ∃ W, W4.alloc (.cells #[.int .i64 0, .bool false, .int .i64 0, .bool true] 52) = W := ⟨_, rfl⟩
  have hb := hW ▸ below_alloc W4 (.cells #[.int .i64 0, .bool false, .int .i64 0, .bool true] 52)
  have hq : Cb W5 W4.heap.size #[.int .i64 0, .bool false, .int .i64 0, .bool true] 52 := hW ▸ Cb.made W4 #[.int .i64 0, .bool false, .int .i64 0, .bool true] 52
  refine sx_mem (by kernel_rfl) rfl rfl (.slice (some ⟨W4.heap.size, 0, none⟩) 2 2) W5 (by rw [← hW]; kernel_rfl) ?_
  replace HB := over HB hb
  replace hosp1 := hosp1.below hb
  replace hpsp1 := hpsp1.below hb
  replace hosp2 := hosp2.below hb
  replace hpsp2 := hpsp2.below hb
  have z5 := hb.size
  have M6 := hq
  have yM6 := hq.lt
  clear hq hb hW
  refine sx_val (by kernel_rfl) rfl rfl (.agg #[.int .i64 0, .int .i64 0, .slice none 0 0, .slice (some ⟨W4.heap.size, 0, none⟩) 2 2]) (by kernel_rfl) ?_
  obtain ⟨W8, hW⟩ : ∃ W, (W5.alloc (.cells #[.int .i64 0, .int .i64 0, .slice none 0 0, .slice none 0 0] 34)).setRow W5.heap.size #[.int .i64 0, .int .i64 0, .slice none 0 0, .slice (some ⟨W4.heap.size, 0, none⟩) 2 2] = W := ⟨_, rfl⟩
  have hb := hW ▸ below_var W5 (.cells #[.int .i64 0, .int .i64 0, .slice none 0 0, .slice none 0 0] 34) #[.int .i64 0, .int .i64 0, .slice none 0 0, .slice (some ⟨W4.heap.size, 0, none⟩) 2 2]
  have hq : Cb W8 W5.heap.size #[.int .i64 0, .int .i64 0, .slice none 0 0, .slice (some ⟨W4.heap.size, 0, none⟩) 2 2] 34 := hW ▸ Cb.row (Cb.made W5 #[.int .i64 0, .int .i64 0, .slice none 0 0, .slice none 0 0] 34) _
  refine sx_mem (by kernel_rfl) rfl rfl (.pointer (some ⟨W5.heap.size, 0, none⟩)) (W5.alloc (.cells #[.int .i64 0, .int .i64 0, .slice none 0 0, .slice none 0 0] 34)) (by kernel_rfl) ?_
  refine sx_store (cells := #[.int .i64 0, .int .i64 0, .slice none 0 0, .slice (some ⟨W4.heap.size, 0, none⟩) 2 2]) (by kernel_rfl) rfl rfl (Cb.made W5 #[.int .i64 0, .int .i64 0, .slice none 0 0, .slice none 0 0] 34) (by kernel_rfl) (by kernel_rfl) (by kernel_rfl) (by kernel_rfl) (by kernel_rfl) ?_
  rw [hW]
  replace HB := over HB hb
  replace hosp1 := hosp1.below hb
  replace hpsp1 := hpsp1.below hb
  replace hosp2 := hosp2.below hb
  replace hpsp2 := hpsp2.below hb
  replace M6 := M6.below hb
  have z6 := hb.size
  have M7 := hq
  have yM7 := hq.lt
  clear hq hb hW
  refine wpList_nil ?_
  refine sx_norm ?_
  refine wp_seq ?_
  refine wp_region_lit ?_
  refine sx_val (by kernel_rfl) rfl rfl (.agg #[.int .i64 0, .int .i64 0, .slice none 0 0, .slice (some ⟨W4.heap.size, 0, none⟩) 2 2]) (ex_load rfl M7 (by kernel_rfl) Try.underlying34 rfl (by kernel_rfl)) ?_
  refine sx_call (by kernel_rfl) rfl rfl ((by have h8 := orders_n 0 0 none (some ⟨W4.heap.size, 0, none⟩) 0 0 2 _ 0 [(0, false), (0, true)] (by decide) W8 (rw_two M6); rw [aw_o1, aw_o2] at h8; exact h8)) (by kernel_rfl) ?_
  rintro e W9 ⟨rfl, hb⟩
  replace HB := over HB hb
  replace hosp1 := hosp1.below hb
  replace hpsp1 := hpsp1.below hb
  replace hosp2 := hosp2.below hb
  replace hpsp2 := hpsp2.below hb
  replace M6 := M6.below hb
  replace M7 := M7.below hb
  have z7 := hb.size
  clear hb
  refine ⟨_, rfl, ?_⟩
  refine sx_val (by kernel_rfl) rfl rfl (.tuple #[.int .i64 1, .int .i64 0]) (by kernel_rfl) ?_
  refine sx_val (by kernel_rfl) rfl rfl (.int .i64 1) (by kernel_rfl) ?_
  refine sx_val (by kernel_rfl) rfl rfl (.int .i64 0) (by kernel_rfl) ?_
  refine sx_val (by kernel_rfl) rfl rfl (.int .i64 1) (by kernel_rfl) ?_
  refine sx_val (by kernel_rfl) rfl rfl (.int .i64 0) (by kernel_rfl) ?_
  refine wpList_nil ?_
  refine sx_norm ?_
  refine wp_seq ?_
  obtain ⟨Y10, hW⟩ : ∃ W, W9.drew = W := ⟨_, rfl⟩
  have hb : Below W9.heap.size W9 Y10 := hW ▸ below_drew (Below.refl _ _)
  replace HB := over HB hb
  replace hosp1 := hosp1.below hb
  replace hpsp1 := hpsp1.below hb
  replace hosp2 := hosp2.below hb
  replace hpsp2 := hpsp2.below hb
  replace M6 := M6.below hb
  replace M7 := M7.below hb
  have z8 := hb.size
  clear hb
  refine sd_begin (fun W => Cb W (W4.heap.size) #[.int .i64 0, .bool false, .int .i64 0, .bool true] 52 ∧ Cb W (W5.heap.size) #[.int .i64 0, .int .i64 0, .slice none 0 0, .slice (some ⟨W4.heap.size, 0, none⟩) 2 2] 34 ∧ True) (by kernel_rfl) (by rw [hW]; exact ⟨M6, M7, trivial⟩) ?_
  rw [hW]
  clear hW
  refine sd_take 0 rfl (by kernel_rfl) (by kernel_rfl) (by kernel_rfl) (by kernel_rfl) rfl rfl (.int .i64 0) (fun w9 _ => by kernel_rfl) (fun _ _ _ h => h) ⟨M6, M7, trivial⟩ ?_
  refine sd_take 1 rfl (by kernel_rfl) (by kernel_rfl) (by kernel_rfl) (by kernel_rfl) rfl rfl (.bool true) (fun w9 _ => by kernel_rfl) (fun _ _ _ h => h) ⟨M6, M7, trivial⟩ ?_
  refine sd_take 2 rfl (by kernel_rfl) (by kernel_rfl) (by kernel_rfl) (by kernel_rfl) rfl rfl (.bool true) (fun w9 _ => by kernel_rfl) (fun _ _ _ h => h) ⟨M6, M7, trivial⟩ ?_
  refine sd_take 3 rfl (by kernel_rfl) (by kernel_rfl) (by kernel_rfl) (by kernel_rfl) rfl rfl (.slice ofp1 6 cfp1) (fun w9 _ => by kernel_rfl) (fun _ _ _ h => h) ⟨M6, M7, trivial⟩ ?_
  refine sd_take 4 rfl (by kernel_rfl) (by kernel_rfl) (by kernel_rfl) (by kernel_rfl) rfl rfl (.int .i64 6) (fun w9 _ => by kernel_rfl) (fun _ _ _ h => h) ⟨M6, M7, trivial⟩ ?_
  refine sd_take 5 rfl (by kernel_rfl) (by kernel_rfl) (by kernel_rfl) (by kernel_rfl) rfl rfl (.bool true) (fun w9 _ => by kernel_rfl) (fun _ _ _ h => h) ⟨M6, M7, trivial⟩ ?_
  refine sd_take 6 rfl (by kernel_rfl) (by kernel_rfl) (by kernel_rfl) (by kernel_rfl) rfl rfl (.bool true) (fun w9 _ => by kernel_rfl) (fun _ _ _ h => h) ⟨M6, M7, trivial⟩ ?_
  refine sd_take 7 rfl (by kernel_rfl) (by kernel_rfl) (by kernel_rfl) (by kernel_rfl) rfl rfl (.bool true) (fun w9 _ => by kernel_rfl) (fun _ _ _ h => h) ⟨M6, M7, trivial⟩ ?_
  refine sd_take 8 rfl (by kernel_rfl) (by kernel_rfl) (by kernel_rfl) (by kernel_rfl) rfl rfl (.int .i64 0) (fun w9 _ => by kernel_rfl) (fun _ _ _ h => h) ⟨M6, M7, trivial⟩ ?_
  refine sd_take 9 rfl (by kernel_rfl) (by kernel_rfl) (by kernel_rfl) (by kernel_rfl) rfl rfl (.bool true) (fun w9 _ => by kernel_rfl) (fun _ _ _ h => h) ⟨M6, M7, trivial⟩ ?_
  refine sd_take 10 rfl (by kernel_rfl) (by kernel_rfl) (by kernel_rfl) (by kernel_rfl) rfl rfl (.bool true) (fun w9 _ => by kernel_rfl) (fun _ _ _ h => h) ⟨M6, M7, trivial⟩ ?_
  refine sd_take 11 rfl (by kernel_rfl) (by kernel_rfl) (by kernel_rfl) (by kernel_rfl) rfl rfl (.bool true) (fun w9 _ => by kernel_rfl) (fun _ _ _ h => h) ⟨M6, M7, trivial⟩ ?_
  refine sd_take 12 rfl (by kernel_rfl) (by kernel_rfl) (by kernel_rfl) (by kernel_rfl) rfl rfl (.slice ofp2 1 cfp2) (fun w9 _ => by kernel_rfl) (fun _ _ _ h => h) ⟨M6, M7, trivial⟩ ?_
  refine sd_take 13 rfl (by kernel_rfl) (by kernel_rfl) (by kernel_rfl) (by kernel_rfl) rfl rfl (.int .i64 1) (fun w9 _ => by kernel_rfl) (fun _ _ _ h => h) ⟨M6, M7, trivial⟩ ?_
  refine sd_take 14 rfl (by kernel_rfl) (by kernel_rfl) (by kernel_rfl) (by kernel_rfl) rfl rfl (.bool true) (fun w9 _ => by kernel_rfl) (fun _ _ _ h => h) ⟨M6, M7, trivial⟩ ?_
  refine sd_take 15 rfl (by kernel_rfl) (by kernel_rfl) (by kernel_rfl) (by kernel_rfl) rfl rfl (.bool true) (fun w9 _ => by kernel_rfl) (fun _ _ _ h => h) ⟨M6, M7, trivial⟩ ?_
  refine sd_take 16 rfl (by kernel_rfl) (by kernel_rfl) (by kernel_rfl) (by kernel_rfl) rfl rfl (.bool true) (fun w9 _ => by kernel_rfl) (fun _ _ _ h => h) ⟨M6, M7, trivial⟩ ?_
  refine sd_take 17 rfl (by kernel_rfl) (by kernel_rfl) (by kernel_rfl) (by kernel_rfl) rfl rfl (.int .i64 1) (fun w9 _ => by kernel_rfl) (fun _ _ _ h => h) ⟨M6, M7, trivial⟩ ?_
  refine sd_take 18 rfl (by kernel_rfl) (by kernel_rfl) (by kernel_rfl) (by kernel_rfl) rfl rfl (.bool true) (fun w9 _ => by kernel_rfl) (fun _ _ _ h => h) ⟨M6, M7, trivial⟩ ?_
  refine sd_take 19 rfl (by kernel_rfl) (by kernel_rfl) (by kernel_rfl) (by kernel_rfl) rfl rfl (.bool true) (fun w9 _ => by kernel_rfl) (fun _ _ _ h => h) ⟨M6, M7, trivial⟩ ?_
  refine sd_take 20 rfl (by kernel_rfl) (by kernel_rfl) (by kernel_rfl) (by kernel_rfl) rfl rfl (.bool true) (fun w9 _ => by kernel_rfl) (fun _ _ _ h => h) ⟨M6, M7, trivial⟩ ?_
  refine sd_take 21 rfl (by kernel_rfl) (by kernel_rfl) (by kernel_rfl) (by kernel_rfl) rfl rfl (.int .i64 0) (fun w9 _ => by kernel_rfl) (fun _ _ _ h => h) ⟨M6, M7, trivial⟩ ?_
  refine sd_take 22 rfl (by kernel_rfl) (by kernel_rfl) (by kernel_rfl) (by kernel_rfl) rfl rfl (.bool true) (fun w9 _ => by kernel_rfl) (fun _ _ _ h => h) ⟨M6, M7, trivial⟩ ?_
  refine sd_take 23 rfl (by kernel_rfl) (by kernel_rfl) (by kernel_rfl) (by kernel_rfl) rfl rfl (.bool true) (fun w9 _ => by kernel_rfl) (fun _ _ _ h => h) ⟨M6, M7, trivial⟩ ?_
  refine sd_take 24 rfl (by kernel_rfl) (by kernel_rfl) (by kernel_rfl) (by kernel_rfl) rfl rfl (.bool true) (fun w9 _ => by kernel_rfl) (fun _ _ _ h => h) ⟨M6, M7, trivial⟩ ?_
  refine sd_take 26 rfl (by kernel_rfl) (by kernel_rfl) (by kernel_rfl) (by kernel_rfl) rfl rfl (.agg #[.int .i64 0, .int .i64 0, .slice none 0 0, .slice (some ⟨W4.heap.size, 0, none⟩) 2 2]) (fun w9 h9 => ex_load rfl h9.2.1 (by kernel_rfl) Try.underlying34 rfl (by kernel_rfl)) (fun _ _ _ h => h) ⟨M6, M7, trivial⟩ ?_
  refine sd_all [25] (by kernel_rfl) (by decide) ?_
  refine sd_call (i := 25) rfl (by kernel_rfl) rfl rfl (pair_false Y10) (by kernel_rfl) ?_ AllReadyH.nil
  rintro e W11 ⟨o0p3, o2p3, o3p3, o5p3, n0p3, c0p3, n2p3, c2p3, c3p3, c5p3, rfl, hosp3, hpsp3, hb⟩
  replace HB := over HB hb
  replace hosp1 := hosp1.below hb
  replace hpsp1 := hpsp1.below hb
  replace hosp2 := hosp2.below hb
  replace hpsp2 := hpsp2.below hb
  replace M6 := M6.below hb
  replace M7 := M7.below hb
  have z9 := hb.size
  clear hb
  refine ⟨_, rfl, ⟨M6, M7, trivial⟩, ?_⟩
  refine sd_all [27] (by kernel_rfl) (by decide) ?_
  refine sd_call (i := 27) rfl (by kernel_rfl) rfl rfl ((by have h8 := check16_n o0p3 none o2p3 o3p3 none o5p3 n0p3 0 n2p3 c0p3 0 c2p3 c3p3 0 c5p3 olP [] [] (by decide) (rt0 _) (by decide) (rt0 _) (by decide) W11 hosp3 (Ps.nil0 _) hpsp3 0 0 none (some ⟨W4.heap.size, 0, none⟩) 0 0 2 _ 0 [(0, false), (0, true)] (by decide) (rw_two M6); rw [aw_c] at h8; exact h8)) (by kernel_rfl) ?_ AllReadyH.nil
  rintro e W12 ⟨rfl, hb⟩
  replace HB := over HB hb
  replace hosp1 := hosp1.below hb
  replace hpsp1 := hpsp1.below hb
  replace hosp2 := hosp2.below hb
  replace hpsp2 := hpsp2.below hb
  replace M6 := M6.below hb
  replace M7 := M7.below hb
  replace hosp3 := hosp3.below hb
  replace hpsp3 := hpsp3.below hb
  have z10 := hb.size
  clear hb
  refine ⟨_, rfl, ⟨M6, M7, trivial⟩, ?_⟩
  refine sd_take 28 rfl (by kernel_rfl) (by kernel_rfl) (by kernel_rfl) (by kernel_rfl) rfl rfl (.bool true) (fun w9 _ => by kernel_rfl) (fun _ _ _ h => h) ⟨M6, M7, trivial⟩ ?_
  refine sd_take 29 rfl (by kernel_rfl) (by kernel_rfl) (by kernel_rfl) (by kernel_rfl) rfl rfl (.bool true) (fun w9 _ => by kernel_rfl) (fun _ _ _ h => h) ⟨M6, M7, trivial⟩ ?_
  refine sd_take 30 rfl (by kernel_rfl) (by kernel_rfl) (by kernel_rfl) (by kernel_rfl) rfl rfl (.bool true) (fun w9 _ => by kernel_rfl) (fun _ _ _ h => h) ⟨M6, M7, trivial⟩ ?_
  refine sd_all [31] (by kernel_rfl) (by decide) ?_
  refine sd_call (i := 31) rfl (by kernel_rfl) rfl rfl (pair_true W12) (by kernel_rfl) ?_ AllReadyH.nil
  rintro e W13 ⟨o0p4, o2p4, o3p4, o5p4, n0p4, c0p4, n2p4, c2p4, c3p4, c5p4, rfl, hosp4, hpsp4, hb⟩
  replace HB := over HB hb
  replace hosp1 := hosp1.below hb
  replace hpsp1 := hpsp1.below hb
  replace hosp2 := hosp2.below hb
  replace hpsp2 := hpsp2.below hb
  replace M6 := M6.below hb
  replace M7 := M7.below hb
  replace hosp3 := hosp3.below hb
  replace hpsp3 := hpsp3.below hb
  have z11 := hb.size
  clear hb
  refine ⟨_, rfl, ⟨M6, M7, trivial⟩, ?_⟩
  refine sd_all [32] (by kernel_rfl) (by decide) ?_
  refine sd_call (i := 32) rfl (by kernel_rfl) rfl rfl (aw_next o0p4 o2p4 o3p4 o5p4 n0p4 c0p4 n2p4 c2p4 c3p4 c5p4 W13 hosp4 hpsp4) (by kernel_rfl) ?_ AllReadyH.nil
  rintro e W14 ⟨onp4, cnp4, rfl, hb⟩
  replace HB := over HB hb
  replace hosp1 := hosp1.below hb
  replace hpsp1 := hpsp1.below hb
  replace hosp2 := hosp2.below hb
  replace hpsp2 := hpsp2.below hb
  replace M6 := M6.below hb
  replace M7 := M7.below hb
  replace hosp3 := hosp3.below hb
  replace hpsp3 := hpsp3.below hb
  replace hosp4 := hosp4.below hb
  replace hpsp4 := hpsp4.below hb
  have z12 := hb.size
  clear hb
  refine ⟨_, rfl, ⟨M6, M7, trivial⟩, ?_⟩
  refine sd_take 33 rfl (by kernel_rfl) (by kernel_rfl) (by kernel_rfl) (by kernel_rfl) rfl rfl (.int .i64 1) (fun w9 _ => by kernel_rfl) (fun _ _ _ h => h) ⟨M6, M7, trivial⟩ ?_
  refine sd_take 34 rfl (by kernel_rfl) (by kernel_rfl) (by kernel_rfl) (by kernel_rfl) rfl rfl (.bool true) (fun w9 _ => by kernel_rfl) (fun _ _ _ h => h) ⟨M6, M7, trivial⟩ ?_
  refine sd_take 35 rfl (by kernel_rfl) (by kernel_rfl) (by kernel_rfl) (by kernel_rfl) rfl rfl (.bool true) (fun w9 _ => by kernel_rfl) (fun _ _ _ h => h) ⟨M6, M7, trivial⟩ ?_
  refine sd_take 36 rfl (by kernel_rfl) (by kernel_rfl) (by kernel_rfl) (by kernel_rfl) rfl rfl (.bool true) (fun w9 _ => by kernel_rfl) (fun _ _ _ h => h) ⟨M6, M7, trivial⟩ ?_
  refine sd_take 37 rfl (by kernel_rfl) (by kernel_rfl) (by kernel_rfl) (by kernel_rfl) rfl rfl (.pointer (some ⟨W5.heap.size, 3, none⟩)) (fun w9 _ => by kernel_rfl) (fun _ _ _ h => h) ⟨M6, M7, trivial⟩ ?_
  refine sd_take 38 rfl (by kernel_rfl) (by kernel_rfl) (by kernel_rfl) (by kernel_rfl) rfl rfl (.slice (some ⟨W4.heap.size, 0, none⟩) 2 2) (fun w9 h9 => ex_load1 rfl (h9.2.1.cell 3 rfl) (by kernel_rfl) Try.underlying32 rfl) (fun _ _ _ h => h) ⟨M6, M7, trivial⟩ ?_
  refine sd_all [39] (by kernel_rfl) (by decide) ?_
  refine sd_call (i := 39) rfl (by kernel_rfl) rfl rfl ((by have h8 := less_n none (some ⟨W4.heap.size, 0, none⟩) 0 2 0 0 _ 0 [] [(0, false), (0, true)] (by decide) (by decide) W14 (rw_nil _) (rw_two M6); rw [aw_l] at h8; exact h8)) (by kernel_rfl) ?_ AllReadyH.nil
  rintro e W15 ⟨rfl, hb⟩
  replace HB := over HB hb
  replace hosp1 := hosp1.below hb
  replace hpsp1 := hpsp1.below hb
  replace hosp2 := hosp2.below hb
  replace hpsp2 := hpsp2.below hb
  replace M6 := M6.below hb
  replace M7 := M7.below hb
  replace hosp3 := hosp3.below hb
  replace hpsp3 := hpsp3.below hb
  replace hosp4 := hosp4.below hb
  replace hpsp4 := hpsp4.below hb
  have z13 := hb.size
  clear hb
  refine ⟨_, rfl, ⟨M6, M7, trivial⟩, ?_⟩
  refine sd_take 40 rfl (by kernel_rfl) (by kernel_rfl) (by kernel_rfl) (by kernel_rfl) rfl rfl (.bool true) (fun w9 _ => by kernel_rfl) (fun _ _ _ h => h) ⟨M6, M7, trivial⟩ ?_
  refine sd_take 41 rfl (by kernel_rfl) (by kernel_rfl) (by kernel_rfl) (by kernel_rfl) rfl rfl (.bool true) (fun w9 _ => by kernel_rfl) (fun _ _ _ h => h) ⟨M6, M7, trivial⟩ ?_
  refine sd_all [42] (by kernel_rfl) (by decide) ?_
  refine sd_call (i := 42) rfl (by kernel_rfl) rfl rfl ((by have h8 := same16_n none none 0 0 0 0 0 0 [] [] (by decide) (by decide) W15 (rw_nil _) (rw_nil _); rw [decide_eq_true (rfl : ([] : List (Int × Bool)) = [])] at h8; exact h8)) (by kernel_rfl) ?_ AllReadyH.nil
  rintro e W16 ⟨rfl, hb⟩
  replace HB := over HB hb
  replace hosp1 := hosp1.below hb
  replace hpsp1 := hpsp1.below hb
  replace hosp2 := hosp2.below hb
  replace hpsp2 := hpsp2.below hb
  replace M6 := M6.below hb
  replace M7 := M7.below hb
  replace hosp3 := hosp3.below hb
  replace hpsp3 := hpsp3.below hb
  replace hosp4 := hosp4.below hb
  replace hpsp4 := hpsp4.below hb
  have z14 := hb.size
  clear hb
  refine ⟨_, rfl, ⟨M6, M7, trivial⟩, ?_⟩
  refine sd_take 43 rfl (by kernel_rfl) (by kernel_rfl) (by kernel_rfl) (by kernel_rfl) rfl rfl (.bool true) (fun w9 _ => by kernel_rfl) (fun _ _ _ h => h) ⟨M6, M7, trivial⟩ ?_
  refine sd_take 44 rfl (by kernel_rfl) (by kernel_rfl) (by kernel_rfl) (by kernel_rfl) rfl rfl (.bool true) (fun w9 _ => by kernel_rfl) (fun _ _ _ h => h) ⟨M6, M7, trivial⟩ ?_
  refine sd_done (by kernel_rfl) ?_
  refine sx_norm ?_
  refine wp_ret ?_
  exact sx_ret1 (.bool true) rfl rfl (by kernel_rfl) ⟨rfl, HB⟩

end Go.Proofs.Ytoliacfpjhanlaa.T


/-! The specification of sequences: Visits, Index, contains (by gen_ua.py). -/
namespace Go.Proofs.Ytoliacfpjhanlaa.T
open Go.RowKit
set_option maxRecDepth 8000
attribute [local irreducible] wpList Code.wp wpAnyH

/-- the visits of an order, as the specification says -/
def visR (ol : List OrT) (k : Nat) : List (Int × Bool) := (if (ol.getD k or0).pp = -1 then [] else [((k : Int), false)]) ++ (if (ol.getD k or0).dp = -1 then [] else [((k : Int), true)])
/-- the first index of a visit, or -1 -/
def idxV (l : List (Int × Bool)) (x : Int × Bool) : Int := if x ∈ l then (l.idxOf x : Int) else -1
theorem idxV_no {l : List (Int × Bool)} {x : Int × Bool} {j : Nat} (hj : l.length ≤ j) (h : (l.take j).any (isV x) = false) : idxV l x = -1 := by
  rw [List.take_of_length_le hj, isV_any] at h
  exact if_neg (of_decide_eq_false h)
theorem idxV_yes {l : List (Int × Bool)} {x : Int × Bool} {j : Nat} (hj : j < l.length) (h : (l.take j).any (isV x) = false) (e : isV x (l.getD j (0, false)) = true) : idxV l x = (j : Int) := by
  have e2 : x = l.getD j (0, false) := by
    unfold isV at e
    rw [Bool.and_eq_true, beq_iff_eq, beq_iff_eq] at e
    exact Prod.ext e.1 e.2
  have hm : x ∈ l := e2 ▸ getD_mem hj
  rw [isV_any] at h
  have hn : x ∉ l.take j := of_decide_eq_false h
  unfold idxV
  rw [if_pos hm]
  have h1 : l = l.take j ++ l.drop j := (List.take_append_drop j l).symm
  have h2 : l.drop j = l.getD j (0, false) :: l.drop (j + 1) := drop_more (d := (0, false)) hj
  have h3 : l.idxOf x = j := by
    rw [h1, List.idxOf_append, if_neg hn, h2, List.idxOf_cons, ← e2]
    simp
    omega
  rw [h3]
theorem idxV_lt {l : List (Int × Bool)} {x : Int × Bool} : (idxV l x < 0) ↔ x ∉ l := by
  unfold idxV
  split
  · constructor
    · intro h; omega
    · intro h; contradiction
  · constructor
    · intro _; assumption
    · intro _; omega
def conV (l some : List (Int × Bool)) : Bool := some.all fun v => decide (v ∈ l)
theorem all_take {p : Int × Bool → Bool} {l : List (Int × Bool)} {j : Nat} (hj : j < l.length) (h : (l.take j).all p = true) (h2 : p (l.getD j (0, false)) = true) : (l.take (j + 1)).all p = true := by
  rw [take_more (d := (0, false)) hj, List.all_append, h, List.all_cons, List.all_nil, h2]
  rfl
theorem allV_no {p : Int × Bool → Bool} {l : List (Int × Bool)} {j : Nat} (hj : j < l.length) (h2 : p (l.getD j (0, false)) = false) : l.all p = false := by
  rw [List.all_eq_false]
  exact ⟨_, getD_mem hj, by rw [h2]; decide⟩
theorem all_end {p : Int × Bool → Bool} {l : List (Int × Bool)} {j : Nat} (hj : l.length ≤ j) (h : (l.take j).all p = true) : l.all p = true := by rwa [List.take_of_length_le hj] at h
theorem refIndex_n (x : Int × Bool) (l : List (Int × Bool)) (ll : l.length ≤ 1000000) (oa : Option Addr) (c b o : Nat) (w : World) (hv : Rw w b o 2 (vF l) l.length oa) : Calls Try.prog 22 #[.slice oa l.length c, .agg #[.int .i64 x.1, .bool x.2]] w fun e w' => e = .returned (.int .i64 (idxV l x)) ∧ Below w.heap.size w w' := by
  have HB : Below w.heap.size w w := Below.refl _ _
  refine sx_enter Try.func22 rfl [(0, .slice oa l.length c), (1, .agg #[.int .i64 x.1, .bool x.2])] (by kernel_rfl) ?_
  refine wp_seq ?_
  refine wp_region_lit ?_
  obtain ⟨W1, hW⟩ : ∃ W, w.alloc (.cells #[.int .i64 x.1, .bool x.2] 52) = W := ⟨_, rfl⟩
  have hb := hW ▸ below_alloc w (.cells #[.int .i64 x.1, .bool x.2] 52)
  have hq : Cb W1 w.heap.size #[.int .i64 x.1, .bool x.2] 52 := hW ▸ Cb.made w #[.int .i64 x.1, .bool x.2] 52
  refine sx_mem (by kernel_rfl) rfl rfl (.pointer (some ⟨w.heap.size, 0, none⟩)) W1 (by rw [← hW]; kernel_rfl) ?_
  replace HB := over HB hb
  have z1 := hb.size
  have M2 := hq
  have yM2 := hq.lt
  clear hq hb hW
  refine sx_val (by kernel_rfl) rfl rfl (.int .i64 0) (by kernel_rfl) ?_
  refine wpList_nil ?_
  refine sx_norm ?_
  refine wp_seq ?_
  refine wp_seq ?_
  refine wp_region_lit ?_
  refine sx_val (by kernel_rfl) rfl rfl (.int .i64 0) (by kernel_rfl) ?_
  refine wpList_nil ?_
  refine sx_norm ?_
  refine wp_block ?_
  refine sx_loop (fun j : Nat => [(0, .slice oa l.length c), (1, .agg #[.int .i64 x.1, .bool x.2]), (3, .pointer (some ⟨w.heap.size, 0, none⟩)), (5, .int .i64 ((j : Nat) : Int))]) (fun gg j wr => j ≤ l.length ∧ l.length - j ≤ gg ∧ (l.take j).any (isV x) = false ∧ Below W1.heap.size W1 wr) (l.length) (0) (by kernel_rfl) ⟨Nat.zero_le _, Nat.le_refl _, rfl, Below.refl _ _⟩ ?_
  rintro gg j g' wr3 ⟨hj, hg, hI, hbl⟩
  replace HB := over HB hbl
  replace M2 := M2.below hbl
  have z2 := hbl.size
  have HL := hbl
  clear hbl
  refine wp_seq ?_
  refine wp_seq ?_
  refine wp_region_lit ?_
  refine sx_val (by kernel_rfl) rfl rfl (.int .i64 ((j : Nat) : Int)) (by kernel_rfl) ?_
  refine sx_val (by kernel_rfl) rfl rfl (.slice oa l.length c) (by kernel_rfl) ?_
  refine sx_val (by kernel_rfl) rfl rfl (.int .i64 ((l.length : Nat) : Int)) (by kernel_rfl) ?_
  by_cases C1 : j < l.length
  · refine sx_bool (by kernel_rfl) rfl rfl (decide (((j : Nat) : Int) < ((l.length : Nat) : Int))) true (by kernel_rfl) (decide_eq_true (by omega)) ?_
    refine wpList_nil ?_
    refine sx_norm ?_
    refine sx_true (by kernel_rfl) ?_
    refine wp_skip ?_
    refine sx_norm ?_
    refine wp_seq ?_
    refine wp_block ?_
    refine wp_seq ?_
    obtain ⟨Y4, hW⟩ : ∃ W, wr3.drew = W := ⟨_, rfl⟩
    have hb : Below wr3.heap.size wr3 Y4 := hW ▸ below_drew (Below.refl _ _)
    replace HB := over HB hb
    replace M2 := M2.below hb
    replace HL := over HL hb
    have z3 := hb.size
    clear hb
    refine sd_begin (fun W => Cb W (w.heap.size) #[.int .i64 x.1, .bool x.2] 52 ∧ Rw W b o 2 (vF l) l.length oa ∧ True) (by kernel_rfl) (by rw [hW]; exact ⟨M2, (hv.below HB), trivial⟩) ?_
    rw [hW]
    clear hW
    refine sd_take 0 rfl (by kernel_rfl) (by kernel_rfl) (by kernel_rfl) (by kernel_rfl) rfl rfl (.slice oa l.length c) (fun w9 _ => by kernel_rfl) (fun _ _ _ h => h) ⟨M2, (hv.below HB), trivial⟩ ?_
    refine sd_take 1 rfl (by kernel_rfl) (by kernel_rfl) (by kernel_rfl) (by kernel_rfl) rfl rfl (.int .i64 ((j : Nat) : Int)) (fun w9 _ => by kernel_rfl) (fun _ _ _ h => h) ⟨M2, (hv.below HB), trivial⟩ ?_
    refine sd_take 2 rfl (by kernel_rfl) (by kernel_rfl) (by kernel_rfl) (by kernel_rfl) rfl rfl (.pointer (some ⟨b, o + j * 2, none⟩)) (fun w9 h9 => ex_indexO (q := o) (m := l.length) (c := c) (k := j) (s := 2) rfl (by kernel_rfl) (h9.2.1.oa (k := j) (by omega)) (by kernel_rfl) Try.underlying32 (by kernel_rfl) (by omega) (by omega)) (fun _ _ _ h => h) ⟨M2, (hv.below HB), trivial⟩ ?_
    refine sd_take 3 rfl (by kernel_rfl) (by kernel_rfl) (by kernel_rfl) (by kernel_rfl) rfl rfl (.agg #[.int .i64 ((l.getD j (0, false)).1), .bool (l.getD j (0, false)).2]) (fun w9 h9 => ex_loadR rfl (h9.2.1.range (k := j) (by omega)) (by kernel_rfl) Try.underlying52 rfl (by kernel_rfl)) (fun _ _ _ h => h) ⟨M2, (hv.below HB), trivial⟩ ?_
    refine sd_take 4 rfl (by kernel_rfl) (by kernel_rfl) (by kernel_rfl) (by kernel_rfl) rfl rfl (.agg #[.int .i64 x.1, .bool x.2]) (fun w9 h9 => ex_load rfl h9.1 (by kernel_rfl) Try.underlying52 rfl (by kernel_rfl)) (fun _ _ _ h => h) ⟨M2, (hv.below HB), trivial⟩ ?_
    by_cases C2 : (l.getD j (0, false)).1 = x.1 ∧ (l.getD j (0, false)).2 = x.2
    · refine sd_take 5 rfl (by kernel_rfl) (by kernel_rfl) (by kernel_rfl) (by kernel_rfl) rfl rfl (.bool true) (fun w9 h9 => ex_bool ((l.getD j (0, false)).1 == x.1 && (l.getD j (0, false)).2 == x.2) true (ex_eqlV rfl (by kernel_rfl) (by kernel_rfl)) (by rw [eqv_t C2])) (fun _ _ _ h => h) ⟨M2, (hv.below HB), trivial⟩ ?_
      refine sd_done (by kernel_rfl) ?_
      refine sx_norm ?_
      refine sx_true (by kernel_rfl) ?_
      refine wp_seq ?_
      refine wp_region_lit ?_
      refine sx_val (by kernel_rfl) rfl rfl (.int .i64 ((j : Nat) : Int)) (by kernel_rfl) ?_
      refine sx_val (by kernel_rfl) rfl rfl (.int .i64 ((j : Nat) : Int)) (by kernel_rfl) ?_
      refine wpList_nil ?_
      refine sx_norm ?_
      refine wp_ret ?_
      refine sx_rb ?_
      refine sx_rs ?_
      refine sx_rs ?_
      refine sx_rb ?_
      refine sx_rs ?_
      exact sx_ret1 (.int .i64 ((j : Nat) : Int)) rfl rfl (by kernel_rfl) ⟨ret_int (idxV_yes (by omega) hI (by unfold isV; exact eqv_t ⟨C2.1.symm, C2.2.symm⟩)).symm, HB⟩
    refine sd_take 5 rfl (by kernel_rfl) (by kernel_rfl) (by kernel_rfl) (by kernel_rfl) rfl rfl (.bool false) (fun w9 h9 => ex_bool ((l.getD j (0, false)).1 == x.1 && (l.getD j (0, false)).2 == x.2) false (ex_eqlV rfl (by kernel_rfl) (by kernel_rfl)) (by rw [eqv_f C2])) (fun _ _ _ h => h) ⟨M2, (hv.below HB), trivial⟩ ?_
    refine sd_done (by kernel_rfl) ?_
    refine sx_norm ?_
    refine sx_false (by kernel_rfl) ?_
    refine wp_skip ?_
    refine sx_in ?_
    refine sx_norm ?_
    refine wp_region_lit ?_
    refine sx_val (by kernel_rfl) rfl rfl (.int .i64 ((j : Nat) : Int)) (by kernel_rfl) ?_
    refine sx_int (by kernel_rfl) rfl rfl .i64 (IntKind.i64.wrap (((j : Nat) : Int) + 1)) (((j + 1 : Nat) : Int)) (by kernel_rfl) (by rw [IntKind.wrap_i64]; omega) ?_
    refine sx_val (by kernel_rfl) rfl rfl (.int .i64 ((j + 1 : Nat) : Int)) (by kernel_rfl) ?_
    refine wpList_nil ?_
    refine sx_norm ?_
    exact sx_again (l.length - (j + 1)) (j + 1) (by omega) (by kernel_rfl) ⟨by omega, Nat.le_refl _, any_take (by omega) hI (by unfold isV; exact eqv_f (fun h => C2 ⟨h.1.symm, h.2.symm⟩)), HL⟩
  refine sx_bool (by kernel_rfl) rfl rfl (decide (((j : Nat) : Int) < ((l.length : Nat) : Int))) false (by kernel_rfl) (decide_eq_false (by omega)) ?_
  refine wpList_nil ?_
  refine sx_norm ?_
  refine sx_false (by kernel_rfl) ?_
  refine wp_exit ?_
  refine sx_es ?_
  refine sx_es ?_
  refine sx_out ?_
  refine sx_norm ?_
  refine wp_seq ?_
  refine wp_region_lit ?_
  refine sx_val (by kernel_rfl) rfl rfl (.int .i64 (-1)) (by kernel_rfl) ?_
  refine wpList_nil ?_
  refine sx_norm ?_
  refine wp_ret ?_
  exact sx_ret1 (.int .i64 (-1)) rfl rfl (by kernel_rfl) ⟨ret_int (idxV_no (by omega) hI).symm, HB⟩
theorem refContains_n (l : List (Int × Bool)) (ll : l.length ≤ 1000000) (oa : Option Addr) (c b o : Nat) (m : List (Int × Bool)) (lm : m.length ≤ 1000000) (om : Option Addr) (cm bm qm : Nat) (w : World) (hv : Rw w b o 2 (vF l) l.length oa) (hm : Rw w bm qm 2 (vF m) m.length om) : Calls Try.prog 66 #[.slice oa l.length c, .slice om m.length cm] w fun e w' => e = .returned (.bool (conV l m)) ∧ Below w.heap.size w w' := by
  have HB : Below w.heap.size w w := Below.refl _ _
  refine sx_enter Try.func66 rfl [(0, .slice oa l.length c), (1, .slice om m.length cm)] (by kernel_rfl) ?_
  refine wp_seq ?_
  refine wp_region_lit ?_
  refine sx_val (by kernel_rfl) rfl rfl (.bool false) (by kernel_rfl) ?_
  refine wpList_nil ?_
  refine sx_norm ?_
  refine wp_seq ?_
  refine wp_seq ?_
  refine wp_region_lit ?_
  refine sx_val (by kernel_rfl) rfl rfl (.int .i64 0) (by kernel_rfl) ?_
  refine wpList_nil ?_
  refine sx_norm ?_
  refine wp_block ?_
  refine sx_loop (fun j : Nat => [(0, .slice oa l.length c), (1, .slice om m.length cm), (5, .int .i64 ((j : Nat) : Int))]) (fun gg j wr => j ≤ m.length ∧ m.length - j ≤ gg ∧ (m.take j).all (fun v => decide (v ∈ l)) = true ∧ Below w.heap.size w wr) (m.length) (0) (by kernel_rfl) ⟨Nat.zero_le _, Nat.le_refl _, rfl, Below.refl _ _⟩ ?_
  rintro gg j g' wr1 ⟨hj, hg, hI, hbl⟩
  replace HB := over HB hbl
  have z1 := hbl.size
  have HL := hbl
  clear hbl
  refine wp_seq ?_
  refine wp_seq ?_
  refine wp_region_lit ?_
  refine sx_val (by kernel_rfl) rfl rfl (.int .i64 ((j : Nat) : Int)) (by kernel_rfl) ?_
  refine sx_val (by kernel_rfl) rfl rfl (.slice om m.length cm) (by kernel_rfl) ?_
  refine sx_val (by kernel_rfl) rfl rfl (.int .i64 ((m.length : Nat) : Int)) (by kernel_rfl) ?_
  by_cases C1 : j < m.length
  · refine sx_bool (by kernel_rfl) rfl rfl (decide (((j : Nat) : Int) < ((m.length : Nat) : Int))) true (by kernel_rfl) (decide_eq_true (by omega)) ?_
    refine wpList_nil ?_
    refine sx_norm ?_
    refine sx_true (by kernel_rfl) ?_
    refine wp_skip ?_
    refine sx_norm ?_
    refine wp_seq ?_
    refine wp_block ?_
    refine wp_seq ?_
    refine wp_region_lit ?_
    refine sx_val (by kernel_rfl) rfl rfl (.slice oa l.length c) (by kernel_rfl) ?_
    refine sx_val (by kernel_rfl) rfl rfl (.slice om m.length cm) (by kernel_rfl) ?_
    refine sx_val (by kernel_rfl) rfl rfl (.int .i64 ((j : Nat) : Int)) (by kernel_rfl) ?_
    refine sx_val (by kernel_rfl) rfl rfl (.pointer (some ⟨bm, qm + j * 2, none⟩)) (ex_indexO (q := qm) (m := m.length) (c := cm) (k := j) (s := 2) rfl (by kernel_rfl) ((hm.below HB).oa (k := j) (by omega)) (by kernel_rfl) Try.underlying32 (by kernel_rfl) (by omega) (by omega)) ?_
    refine sx_val (by kernel_rfl) rfl rfl (.agg #[.int .i64 ((m.getD j (0, false)).1), .bool (m.getD j (0, false)).2]) (ex_loadR rfl ((hm.below HB).range (k := j) (by omega)) (by kernel_rfl) Try.underlying52 rfl (by kernel_rfl)) ?_
    refine sx_call (by kernel_rfl) rfl rfl (refIndex_n (m.getD j (0, false)) l ll oa c b o wr1 (hv.below HB)) (by kernel_rfl) ?_
    rintro e W2 ⟨rfl, hb⟩
    replace HB := over HB hb
    replace HL := over HL hb
    have z2 := hb.size
    clear hb
    refine ⟨_, rfl, ?_⟩
    by_cases C2 : (idxV l (m.getD j (0, false))) < 0
    · refine sx_bool (by kernel_rfl) rfl rfl (decide ((idxV l (m.getD j (0, false))) < 0)) true (by kernel_rfl) (decide_eq_true (by omega)) ?_
      refine wpList_nil ?_
      refine sx_norm ?_
      refine sx_true (by kernel_rfl) ?_
      refine wp_seq ?_
      refine wp_region_lit ?_
      refine sx_val (by kernel_rfl) rfl rfl (.bool false) (by kernel_rfl) ?_
      refine wpList_nil ?_
      refine sx_norm ?_
      refine wp_ret ?_
      refine sx_rb ?_
      refine sx_rs ?_
      refine sx_rs ?_
      refine sx_rb ?_
      refine sx_rs ?_
      exact sx_ret1 (.bool false) rfl rfl (by kernel_rfl) ⟨ret_bool ((allV_no (by omega) (decide_eq_false (idxV_lt.1 (by omega))))).symm, HB⟩
    refine sx_bool (by kernel_rfl) rfl rfl (decide ((idxV l (m.getD j (0, false))) < 0)) false (by kernel_rfl) (decide_eq_false (by omega)) ?_
    refine wpList_nil ?_
    refine sx_norm ?_
    refine sx_false (by kernel_rfl) ?_
    refine wp_skip ?_
    refine sx_in ?_
    refine sx_norm ?_
    refine wp_region_lit ?_
    refine sx_val (by kernel_rfl) rfl rfl (.int .i64 ((j : Nat) : Int)) (by kernel_rfl) ?_
    refine sx_int (by kernel_rfl) rfl rfl .i64 (IntKind.i64.wrap (((j : Nat) : Int) + 1)) (((j + 1 : Nat) : Int)) (by kernel_rfl) (by rw [IntKind.wrap_i64]; omega) ?_
    refine sx_val (by kernel_rfl) rfl rfl (.int .i64 ((j + 1 : Nat) : Int)) (by kernel_rfl) ?_
    refine wpList_nil ?_
    refine sx_norm ?_
    exact sx_again (m.length - (j + 1)) (j + 1) (by omega) (by kernel_rfl) ⟨by omega, Nat.le_refl _, all_take (by omega) hI (decide_eq_true (Decidable.of_not_not fun h => absurd (idxV_lt.2 h) (by omega))), HL⟩
  refine sx_bool (by kernel_rfl) rfl rfl (decide (((j : Nat) : Int) < ((m.length : Nat) : Int))) false (by kernel_rfl) (decide_eq_false (by omega)) ?_
  refine wpList_nil ?_
  refine sx_norm ?_
  refine sx_false (by kernel_rfl) ?_
  refine wp_exit ?_
  refine sx_es ?_
  refine sx_es ?_
  refine sx_out ?_
  refine sx_norm ?_
  refine wp_seq ?_
  refine wp_region_lit ?_
  refine sx_val (by kernel_rfl) rfl rfl (.bool true) (by kernel_rfl) ?_
  refine wpList_nil ?_
  refine sx_norm ?_
  refine wp_ret ?_
  exact sx_ret1 (.bool true) rfl rfl (by kernel_rfl) ⟨ret_bool ((all_end (by omega) hI)).symm, HB⟩
theorem refVisits_n (o0 o1 o2 o3 o4 o5 : Option Addr) (n0 n1 n2 n4 n5 c0 c1 c2 c3 c4 c5 : Nat) (ol : List OrT) (k : Nat) (hk : k < ol.length) (_ : ol.length ≤ 10) (w : World) (hos : Os w (.slice o3 ol.length c3) ol) : Calls Try.prog 47 #[.agg #[.slice o0 n0 c0, .slice o1 n1 c1, .slice o2 n2 c2, .slice o3 ol.length c3, .slice o4 n4 c4, .slice o5 n5 c5], .int .i64 ((k : Nat) : Int)] w (VisP (visR ol k) w) := by
  have HB : Below w.heap.size w w := Below.refl _ _
  obtain ⟨b3, q3, vc, hr16⟩ := hos.rw
  refine sx_enter Try.func47 rfl [(0, .agg #[.slice o0 n0 c0, .slice o1 n1 c1, .slice o2 n2 c2, .slice o3 ol.length c3, .slice o4 n4 c4, .slice o5 n5 c5]), (1, .int .i64 ((k : Nat) : Int))] (by kernel_rfl) ?_
  refine wp_seq ?_
  refine wp_region_lit ?_
  obtain ⟨W1, hW⟩ : ∃ W, w.alloc (.cells #[.slice o0 n0 c0, .slice o1 n1 c1, .slice o2 n2 c2, .slice o3 ol.length c3, .slice o4 n4 c4, .slice o5 n5 c5] 30) = W := ⟨_, rfl⟩
  have hb := hW ▸ below_alloc w (.cells #[.slice o0 n0 c0, .slice o1 n1 c1, .slice o2 n2 c2, .slice o3 ol.length c3, .slice o4 n4 c4, .slice o5 n5 c5] 30)
  have hq : Cb W1 w.heap.size #[.slice o0 n0 c0, .slice o1 n1 c1, .slice o2 n2 c2, .slice o3 ol.length c3, .slice o4 n4 c4, .slice o5 n5 c5] 30 := hW ▸ Cb.made w #[.slice o0 n0 c0, .slice o1 n1 c1, .slice o2 n2 c2, .slice o3 ol.length c3, .slice o4 n4 c4, .slice o5 n5 c5] 30
  refine sx_mem (by kernel_rfl) rfl rfl (.pointer (some ⟨w.heap.size, 0, none⟩)) W1 (by rw [← hW]; kernel_rfl) ?_
  replace HB := over HB hb
  have z1 := hb.size
  have M2 := hq
  have yM2 := hq.lt
  clear hq hb hW
  refine sx_val (by kernel_rfl) rfl rfl (.slice none 0 0) (by kernel_rfl) ?_
  refine wpList_nil ?_
  refine sx_norm ?_
  refine wp_seq ?_
  refine wp_region_lit ?_
  refine sx_val (by kernel_rfl) rfl rfl (.slice none 0 0) (by kernel_rfl) ?_
  refine wpList_nil ?_
  refine sx_norm ?_
  refine wp_seq ?_
  refine wp_seq ?_
  have HG : Gw W1.heap.size W1 (.slice none 0 0) [] := Gw.nil _ _
  refine wp_region_lit ?_
  refine sx_val (by kernel_rfl) rfl rfl (.pointer (some ⟨w.heap.size, 3, none⟩)) (by kernel_rfl) ?_
  refine sx_val (by kernel_rfl) rfl rfl (.slice o3 ol.length c3) (ex_load1 rfl (M2.cell 3 rfl) (by kernel_rfl) Try.underlying27 rfl) ?_
  refine sx_val (by kernel_rfl) rfl rfl (.int .i64 ((k : Nat) : Int)) (by kernel_rfl) ?_
  refine sx_val (by kernel_rfl) rfl rfl (.pointer (some ⟨b3, q3 + k * 16, none⟩)) (ex_indexO (q := q3) (m := ol.length) (c := c3) (k := k) (s := 16) rfl (by kernel_rfl) ((hr16.below HB).oa (k := k) (by omega)) (by kernel_rfl) Try.underlying27 (by kernel_rfl) (by omega) (by omega)) ?_
  refine sx_val (by kernel_rfl) rfl rfl (.pointer (some ⟨b3, q3 + k * 16 + 2, none⟩)) (by kernel_rfl) ?_
  refine sx_val (by kernel_rfl) rfl rfl (.pointer (some ⟨b3, q3 + k * 16 + 2, none⟩)) (by kernel_rfl) ?_
  refine sx_val (by kernel_rfl) rfl rfl (.int .i64 ((ol.getD k or0).pp)) (ex_load1 rfl ((hr16.below HB).cell (k := k) (by omega) 2 rfl) (by kernel_rfl) Try.underlying3 rfl) ?_
  by_cases C1 : (ol.getD k or0).pp = (-1)
  · refine sx_bool (by kernel_rfl) rfl rfl (((ol.getD k or0).pp : Int) != ((-1) : Int)) false (by kernel_rfl) (by rw [bne_eq_false_iff_eq]; omega) ?_
    refine wpList_nil ?_
    refine sx_norm ?_
    refine sx_false (by kernel_rfl) ?_
    refine wp_skip ?_
    refine sx_norm ?_
    refine wp_seq ?_
    refine wp_seq ?_
    refine wp_region_lit ?_
    refine sx_val (by kernel_rfl) rfl rfl (.pointer (some ⟨w.heap.size, 3, none⟩)) (by kernel_rfl) ?_
    refine sx_val (by kernel_rfl) rfl rfl (.slice o3 ol.length c3) (ex_load1 rfl (M2.cell 3 rfl) (by kernel_rfl) Try.underlying27 rfl) ?_
    refine sx_val (by kernel_rfl) rfl rfl (.int .i64 ((k : Nat) : Int)) (by kernel_rfl) ?_
    refine sx_val (by kernel_rfl) rfl rfl (.pointer (some ⟨b3, q3 + k * 16, none⟩)) (ex_indexO (q := q3) (m := ol.length) (c := c3) (k := k) (s := 16) rfl (by kernel_rfl) ((hr16.below HB).oa (k := k) (by omega)) (by kernel_rfl) Try.underlying27 (by kernel_rfl) (by omega) (by omega)) ?_
    refine sx_val (by kernel_rfl) rfl rfl (.pointer (some ⟨b3, q3 + k * 16 + 6, none⟩)) (by kernel_rfl) ?_
    refine sx_val (by kernel_rfl) rfl rfl (.pointer (some ⟨b3, q3 + k * 16 + 6, none⟩)) (by kernel_rfl) ?_
    refine sx_val (by kernel_rfl) rfl rfl (.int .i64 ((ol.getD k or0).dp)) (ex_load1 rfl ((hr16.below HB).cell (k := k) (by omega) 6 rfl) (by kernel_rfl) Try.underlying3 rfl) ?_
    by_cases C2 : (ol.getD k or0).dp = (-1)
    · refine sx_bool (by kernel_rfl) rfl rfl (((ol.getD k or0).dp : Int) != ((-1) : Int)) false (by kernel_rfl) (by rw [bne_eq_false_iff_eq]; omega) ?_
      refine wpList_nil ?_
      refine sx_norm ?_
      refine sx_false (by kernel_rfl) ?_
      refine wp_skip ?_
      refine sx_norm ?_
      refine wp_seq ?_
      refine wp_region_lit ?_
      refine sx_val (by kernel_rfl) rfl rfl (.slice none 0 0) (by kernel_rfl) ?_
      refine sx_val (by kernel_rfl) rfl rfl (.slice none 0 0) (by kernel_rfl) ?_
      refine wpList_nil ?_
      refine sx_norm ?_
      refine wp_ret ?_
      refine sx_ret1 (.slice none 0 0) rfl rfl (by kernel_rfl) (visP (HG.ext ?_) HB (by omega))
      unfold visR
      rw [if_pos (by assumption : (ol.getD k or0).pp = -1)]
      rw [if_pos (by assumption : (ol.getD k or0).dp = -1)]
      all_goals rfl
    refine sx_bool (by kernel_rfl) rfl rfl (((ol.getD k or0).dp : Int) != ((-1) : Int)) true (by kernel_rfl) (bne_iff_ne.2 (by omega)) ?_
    refine wpList_nil ?_
    refine sx_norm ?_
    refine sx_true (by kernel_rfl) ?_
    refine wp_region_lit ?_
    refine sx_val (by kernel_rfl) rfl rfl (.slice none 0 0) (by kernel_rfl) ?_
    refine sx_val (by kernel_rfl) rfl rfl (.int .i64 ((k : Nat) : Int)) (by kernel_rfl) ?_
    refine sx_val (by kernel_rfl) rfl rfl (.agg #[.int .i64 ((k : Nat) : Int), .bool true]) (by kernel_rfl) ?_
    obtain ⟨W3, hW⟩ : ∃ W, W1.alloc (.cells #[.int .i64 ((k : Nat) : Int), .bool true] 52) = W := ⟨_, rfl⟩
    have hb := hW ▸ below_alloc W1 (.cells #[.int .i64 ((k : Nat) : Int), .bool true] 52)
    have hq : Cb W3 W1.heap.size #[.int .i64 ((k : Nat) : Int), .bool true] 52 := hW ▸ Cb.made W1 #[.int .i64 ((k : Nat) : Int), .bool true] 52
    refine sx_mem (by kernel_rfl) rfl rfl (.slice (some ⟨W1.heap.size, 0, none⟩) 1 1) W3 (by rw [← hW]; kernel_rfl) ?_
    replace HB := over HB hb
    replace M2 := M2.below hb
    replace HG := HG.frame hb
    have z2 := hb.size
    have M4 := hq
    have yM4 := hq.lt
    clear hq hb hW
    obtain ⟨v5, W6, h7, hg9, hb, -, -⟩ := ap_w 32 HG (lw_cb M4) (by omega) (by simp)
    refine sx_mem (by kernel_rfl) rfl rfl v5 W6 (ex_append rfl (by kernel_rfl) (by kernel_rfl) h7) ?_
    replace HB := HB.trans (hb.mono (by omega))
    replace M2 := M2.belowB (by omega) hb
    have z3 := hb.size
    replace HG := hg9
    clear hg9 hb h7
    refine sx_val (by kernel_rfl) rfl rfl (v5) (by kernel_rfl) ?_
    refine wpList_nil ?_
    refine sx_norm ?_
    refine wp_seq ?_
    refine wp_region_lit ?_
    refine sx_val (by kernel_rfl) rfl rfl (v5) (by kernel_rfl) ?_
    refine sx_val (by kernel_rfl) rfl rfl (v5) (by kernel_rfl) ?_
    refine wpList_nil ?_
    refine sx_norm ?_
    refine wp_ret ?_
    refine sx_ret1 (v5) rfl rfl (by kernel_rfl) (visP (HG.ext ?_) HB (by omega))
    unfold visR
    rw [if_pos (by assumption : (ol.getD k or0).pp = -1)]
    rw [if_neg (by assumption : ¬ (ol.getD k or0).dp = -1)]
    all_goals rfl
  refine sx_bool (by kernel_rfl) rfl rfl (((ol.getD k or0).pp : Int) != ((-1) : Int)) true (by kernel_rfl) (bne_iff_ne.2 (by omega)) ?_
  refine wpList_nil ?_
  refine sx_norm ?_
  refine sx_true (by kernel_rfl) ?_
  refine wp_region_lit ?_
  refine sx_val (by kernel_rfl) rfl rfl (.slice none 0 0) (by kernel_rfl) ?_
  refine sx_val (by kernel_rfl) rfl rfl (.int .i64 ((k : Nat) : Int)) (by kernel_rfl) ?_
  refine sx_val (by kernel_rfl) rfl rfl (.agg #[.int .i64 ((k : Nat) : Int), .bool false]) (by kernel_rfl) ?_
  obtain ⟨W8, hW⟩ : ∃ W, W1.alloc (.cells #[.int .i64 ((k : Nat) : Int), .bool false] 52) = W := ⟨_, rfl⟩
  have hb := hW ▸ below_alloc W1 (.cells #[.int .i64 ((k : Nat) : Int), .bool false] 52)
  have hq : Cb W8 W1.heap.size #[.int .i64 ((k : Nat) : Int), .bool false] 52 := hW ▸ Cb.made W1 #[.int .i64 ((k : Nat) : Int), .bool false] 52
  refine sx_mem (by kernel_rfl) rfl rfl (.slice (some ⟨W1.heap.size, 0, none⟩) 1 1) W8 (by rw [← hW]; kernel_rfl) ?_
  replace HB := over HB hb
  replace M2 := M2.below hb
  replace HG := HG.frame hb
  have z2 := hb.size
  have M9 := hq
  have yM9 := hq.lt
  clear hq hb hW
  obtain ⟨v10, W11, h12, hg9, hb, -, -⟩ := ap_w 32 HG (lw_cb M9) (by omega) (by simp)
  refine sx_mem (by kernel_rfl) rfl rfl v10 W11 (ex_append rfl (by kernel_rfl) (by kernel_rfl) h12) ?_
  replace HB := HB.trans (hb.mono (by omega))
  replace M2 := M2.belowB (by omega) hb
  have z3 := hb.size
  replace HG := hg9
  clear hg9 hb h12
  refine sx_val (by kernel_rfl) rfl rfl (v10) (by kernel_rfl) ?_
  refine wpList_nil ?_
  refine sx_norm ?_
  refine wp_seq ?_
  refine wp_seq ?_
  refine wp_region_lit ?_
  refine sx_val (by kernel_rfl) rfl rfl (.pointer (some ⟨w.heap.size, 3, none⟩)) (by kernel_rfl) ?_
  refine sx_val (by kernel_rfl) rfl rfl (.slice o3 ol.length c3) (ex_load1 rfl (M2.cell 3 rfl) (by kernel_rfl) Try.underlying27 rfl) ?_
  refine sx_val (by kernel_rfl) rfl rfl (.int .i64 ((k : Nat) : Int)) (by kernel_rfl) ?_
  refine sx_val (by kernel_rfl) rfl rfl (.pointer (some ⟨b3, q3 + k * 16, none⟩)) (ex_indexO (q := q3) (m := ol.length) (c := c3) (k := k) (s := 16) rfl (by kernel_rfl) ((hr16.below HB).oa (k := k) (by omega)) (by kernel_rfl) Try.underlying27 (by kernel_rfl) (by omega) (by omega)) ?_
  refine sx_val (by kernel_rfl) rfl rfl (.pointer (some ⟨b3, q3 + k * 16 + 6, none⟩)) (by kernel_rfl) ?_
  refine sx_val (by kernel_rfl) rfl rfl (.pointer (some ⟨b3, q3 + k * 16 + 6, none⟩)) (by kernel_rfl) ?_
  refine sx_val (by kernel_rfl) rfl rfl (.int .i64 ((ol.getD k or0).dp)) (ex_load1 rfl ((hr16.below HB).cell (k := k) (by omega) 6 rfl) (by kernel_rfl) Try.underlying3 rfl) ?_
  by_cases C3 : (ol.getD k or0).dp = (-1)
  · refine sx_bool (by kernel_rfl) rfl rfl (((ol.getD k or0).dp : Int) != ((-1) : Int)) false (by kernel_rfl) (by rw [bne_eq_false_iff_eq]; omega) ?_
    refine wpList_nil ?_
    refine sx_norm ?_
    refine sx_false (by kernel_rfl) ?_
    refine wp_skip ?_
    refine sx_norm ?_
    refine wp_seq ?_
    refine wp_region_lit ?_
    refine sx_val (by kernel_rfl) rfl rfl (v10) (by kernel_rfl) ?_
    refine sx_val (by kernel_rfl) rfl rfl (v10) (by kernel_rfl) ?_
    refine wpList_nil ?_
    refine sx_norm ?_
    refine wp_ret ?_
    refine sx_ret1 (v10) rfl rfl (by kernel_rfl) (visP (HG.ext ?_) HB (by omega))
    unfold visR
    rw [if_neg (by assumption : ¬ (ol.getD k or0).pp = -1)]
    rw [if_pos (by assumption : (ol.getD k or0).dp = -1)]
    all_goals rfl
  refine sx_bool (by kernel_rfl) rfl rfl (((ol.getD k or0).dp : Int) != ((-1) : Int)) true (by kernel_rfl) (bne_iff_ne.2 (by omega)) ?_
  refine wpList_nil ?_
  refine sx_norm ?_
  refine sx_true (by kernel_rfl) ?_
  refine wp_region_lit ?_
  refine sx_val (by kernel_rfl) rfl rfl (v10) (by kernel_rfl) ?_
  refine sx_val (by kernel_rfl) rfl rfl (.int .i64 ((k : Nat) : Int)) (by kernel_rfl) ?_
  refine sx_val (by kernel_rfl) rfl rfl (.agg #[.int .i64 ((k : Nat) : Int), .bool true]) (by kernel_rfl) ?_
  obtain ⟨W13, hW⟩ : ∃ W, W11.alloc (.cells #[.int .i64 ((k : Nat) : Int), .bool true] 52) = W := ⟨_, rfl⟩
  have hb := hW ▸ below_alloc W11 (.cells #[.int .i64 ((k : Nat) : Int), .bool true] 52)
  have hq : Cb W13 W11.heap.size #[.int .i64 ((k : Nat) : Int), .bool true] 52 := hW ▸ Cb.made W11 #[.int .i64 ((k : Nat) : Int), .bool true] 52
  refine sx_mem (by kernel_rfl) rfl rfl (.slice (some ⟨W11.heap.size, 0, none⟩) 1 1) W13 (by rw [← hW]; kernel_rfl) ?_
  replace HB := over HB hb
  replace M2 := M2.below hb
  replace HG := HG.frame hb
  have z4 := hb.size
  have M14 := hq
  have yM14 := hq.lt
  clear hq hb hW
  obtain ⟨v15, W16, h17, hg9, hb, -, -⟩ := ap_w 32 HG (lw_cb M14) (by omega) (by simp)
  refine sx_mem (by kernel_rfl) rfl rfl v15 W16 (ex_append rfl (by kernel_rfl) (by kernel_rfl) h17) ?_
  replace HB := HB.trans (hb.mono (by omega))
  replace M2 := M2.belowB (by omega) hb
  have z5 := hb.size
  replace HG := hg9
  clear hg9 hb h17
  refine sx_val (by kernel_rfl) rfl rfl (v15) (by kernel_rfl) ?_
  refine wpList_nil ?_
  refine sx_norm ?_
  refine wp_seq ?_
  refine wp_region_lit ?_
  refine sx_val (by kernel_rfl) rfl rfl (v15) (by kernel_rfl) ?_
  refine sx_val (by kernel_rfl) rfl rfl (v15) (by kernel_rfl) ?_
  refine wpList_nil ?_
  refine sx_norm ?_
  refine wp_ret ?_
  refine sx_ret1 (v15) rfl rfl (by kernel_rfl) (visP (HG.ext ?_) HB (by omega))
  unfold visR
  rw [if_neg (by assumption : ¬ (ol.getD k or0).pp = -1)]
  rw [if_neg (by assumption : ¬ (ol.getD k or0).dp = -1)]
  all_goals rfl

end Go.Proofs.Ytoliacfpjhanlaa.T


