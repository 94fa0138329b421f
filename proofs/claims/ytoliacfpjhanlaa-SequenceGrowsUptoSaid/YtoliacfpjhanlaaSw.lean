/-
  DERIVED. Sw: a part of the base of layer 13 (made by pack.py).
-/
import Derived.Test.YtoliacfpjhanlaaSj
import Derived.Test.YtoliacfpjhanlaaSn
import Derived.Test.YtoliacfpjhanlaaSt
import Derived.Test.YtoliacfpjhanlaaSu
/-! The samples are found (by gen_sw.py). -/
namespace Go.Proofs.Ytoliacfpjhanlaa.T
open Go.RowKit
set_option maxRecDepth 8000
attribute [local irreducible] wpList Code.wp wpAnyH

theorem rt0 (n : Nat) : U.Rt n [] := fun p hp => by cases hp
theorem rt1 : U.Rt 2 [(0, 1)] := fun p hp => by
  rw [List.mem_singleton] at hp
  subst hp
  decide
theorem rw_nil (w : World) : Rw w 0 0 2 (vF []) ([] : List (Int × Bool)).length none := fun k hk => absurd hk (Nat.not_lt_zero k)
theorem rw_two {w : World} {q : Nat} (h : Cb w q #[.int .i64 0, .bool false, .int .i64 0, .bool true] 52) : Rw w q 0 2 (vF [(0, false), (0, true)]) 2 (some ⟨q, 0, none⟩) := fun k hk => ⟨rfl, h.lt, fun j v hj => by
  match k, j, hk, hj with
  | 0, 0, _, hj => simp [vF] at hj; subst hj; exact h.cell 0 rfl
  | 0, 1, _, hj => simp [vF] at hj; subst hj; exact h.cell 1 rfl
  | 1, 0, _, hj => simp [vF] at hj; subst hj; exact h.cell 2 rfl
  | 1, 1, _, hj => simp [vF] at hj; subst hj; exact h.cell 3 rfl
  | 0, j + 2, _, hj => simp [vF] at hj
  | 1, j + 2, _, hj => simp [vF] at hj⟩
theorem aw_n1 : (allS 3 olP [] []).length = 6 := by kernel_rfl
theorem aw_n2 : (allS 3 olP [] [(0, 1)]).length = 1 := by kernel_rfl
theorem aw_e1 : allE 3 olP [] [] = 0 := by kernel_rfl
theorem aw_e2 : allE 3 olP [] [(0, 1)] = 0 := by kernel_rfl
theorem aw_o1 : ordN [(0, false), (0, true)] = 1 := by kernel_rfl
theorem aw_o2 : ordE [(0, false), (0, true)] = 0 := by kernel_rfl
theorem aw_c : chkS olP [] [] [(0, false), (0, true)] = 0 := by
  unfold chkS
  have e1 : [(0, false), (0, true)].any (goneV olP.length) = false := by kernel_rfl
  have e2 : [(0, false), (0, true)].any (offV olP) = false := by kernel_rfl
  have e3 : Once olP.length [(0, false), (0, true)] 2 := fun i hi => by
    match i, hi with
    | 0, _ =>
      show posT (trK olP.length [(0, false), (0, true)] 0) ([(0, false), (0, true)].getD 0 (0, false)) = 0
      kernel_rfl
    | 1, _ =>
      show posT (trK olP.length [(0, false), (0, true)] 1) ([(0, false), (0, true)].getD 1 (0, false)) = 0
      kernel_rfl
  have e4 : pairdB olP (trK olP.length [(0, false), (0, true)] 2) [(0, false), (0, true)] = true := by kernel_rfl
  have e5 : pairB (trK olP.length [(0, false), (0, true)] 2) [] = false := by kernel_rfl
  have e6 : folB olP (trK olP.length [(0, false), (0, true)] 2) [] = true := by kernel_rfl
  show (if 2 = 0 ∨ _ then _ else _) = _
  rw [if_neg (by rw [e1]; simp), if_neg (by rw [e2]; simp), if_neg (fun h => h e3)]
  show (if pairdB olP (trK olP.length [(0, false), (0, true)] 2) [(0, false), (0, true)] = false then _ else _) = _
  rw [if_neg (by rw [e4]; simp)]
  show (if pairB (trK olP.length [(0, false), (0, true)] 2) [] = true then _ else _) = _
  rw [if_neg (by rw [e5]; simp)]
  show (if folB olP (trK olP.length [(0, false), (0, true)] 2) [] = false then _ else _) = _
  rw [if_neg (by rw [e6]; simp)]
theorem aw_x : (nextS 3 olP [(0, 1)] []).length = 1 := by kernel_rfl
theorem aw_l : lessL [] [(0, false), (0, true)] = true := by kernel_rfl
theorem aw_all1 (o0 o2 o3 o5 : Option Addr) (n0 c0 n2 c2 c3 c5 : Nat) (w : World) (hos : Os w (.slice o3 2 c3) olP) (hps : Ps w (.slice o5 0 c5) []) : Calls Try.prog 13 #[.agg #[.slice o0 n0 c0, .slice none 0 0, .slice o2 n2 c2, .slice o3 2 c3, .slice none 0 0, .slice o5 0 c5], .int .i64 3] w fun e w' => ∃ (of : Option Addr) (cf : Nat), e = .returned (.tuple #[.slice of 6 cf, .int .i64 0]) ∧ Below w.heap.size w w' := by
  refine Calls.mono (all16_n o0 none o2 o3 none o5 n0 0 n2 c0 0 c2 c3 0 c5 olP [] [] (by decide) (rt0 _) (by decide) (rt0 _) (by decide) 3 (by decide) w hos (Ps.nil0 _) hps) ?_
  rintro e w' ⟨v, vs, rfl, hf, hel, hb⟩
  obtain ⟨of, cf, rfl⟩ := Fo.form hf
  rw [hel.len, aw_n1, aw_e1]
  exact ⟨of, cf, rfl, hb⟩
theorem aw_all2 (o0 o2 o3 o5 : Option Addr) (n0 c0 n2 c2 c3 c5 : Nat) (w : World) (hos : Os w (.slice o3 2 c3) olP) (hps : Ps w (.slice o5 1 c5) [(0, 1)]) : Calls Try.prog 13 #[.agg #[.slice o0 n0 c0, .slice none 0 0, .slice o2 n2 c2, .slice o3 2 c3, .slice none 0 0, .slice o5 1 c5], .int .i64 3] w fun e w' => ∃ (of : Option Addr) (cf : Nat), e = .returned (.tuple #[.slice of 1 cf, .int .i64 0]) ∧ Below w.heap.size w w' := by
  refine Calls.mono (all16_n o0 none o2 o3 none o5 n0 0 n2 c0 0 c2 c3 0 c5 olP [] [(0, 1)] (by decide) (rt0 _) (by decide) rt1 (by decide) 3 (by decide) w hos (Ps.nil0 _) hps) ?_
  rintro e w' ⟨v, vs, rfl, hf, hel, hb⟩
  obtain ⟨of, cf, rfl⟩ := Fo.form hf
  rw [hel.len, aw_n2, aw_e2]
  exact ⟨of, cf, rfl, hb⟩
theorem aw_next (o0 o2 o3 o5 : Option Addr) (n0 c0 n2 c2 c3 c5 : Nat) (w : World) (hos : Os w (.slice o3 2 c3) olP) (hps : Ps w (.slice o5 1 c5) [(0, 1)]) : Calls Try.prog 17 #[.agg #[.slice o0 n0 c0, .slice none 0 0, .slice o2 n2 c2, .slice o3 2 c3, .slice none 0 0, .slice o5 1 c5], .int .i64 3, .slice none 0 0] w fun e w' => ∃ (on : Option Addr) (cn : Nat), e = .returned (.slice on 1 cn) ∧ Below w.heap.size w w' := by
  refine Calls.mono (nextTop_n o0 none o2 o3 none o5 n0 0 n2 0 c0 0 c2 c3 0 c5 olP [(0, 1)] (by decide) rt1 (by decide) w hos hps 3 [] (by decide) none 0 0 0 (rw_nil _)) ?_
  rintro e w' ⟨on, cn, rfl, -, hb⟩
  rw [aw_x]
  exact ⟨on, cn, rfl, hb⟩
theorem awake16_n (w : World) : Calls Try.prog 10 #[] w fun e w' => e = .returned (.bool true) ∧ Below w.heap.size w w' := by
  have HB : Below w.heap.size w w := Below.refl _ _
  refine sx_enter Try.func10 rfl [] (by kernel_rfl) ?_
  refine wp_seq ?_
  refine wp_region_lit ?_
  refine sx_val (by kernel_rfl) rfl rfl (.bool false) (by kernel_rfl) ?_
  refine wpList_nil ?_
  refine sx_norm ?_
  refine wp_seq ?_
  refine wp_region_lit ?_
  refine sx_call (by kernel_rfl) rfl rfl (pair_false w) (by kernel_rfl) ?_
  rintro e W1 ⟨o0p1, o2p1, o3p1, o5p1, n0p1, c0p1, n2p1, c2p1, c3p1, c5p1, rfl, hosp1, hpsp1, hb⟩
  replace HB := over HB hb
  have z1 := hb.size
  clear hb
  refine ⟨_, rfl, ?_⟩
  refine sx_call (by kernel_rfl) rfl rfl (aw_all1 o0p1 o2p1 o3p1 o5p1 n0p1 c0p1 n2p1 c2p1 c3p1 c5p1 W1 hosp1 hpsp1) (by kernel_rfl) ?_
  rintro e W2 ⟨ofp1, cfp1, rfl, hb⟩
  replace HB := over HB hb
  replace hosp1 := hosp1.below hb
  replace hpsp1 := hpsp1.below hb
  have z2 := hb.size
  clear hb
  refine ⟨_, rfl, ?_⟩
  refine sx_val (by kernel_rfl) rfl rfl (.tuple #[.slice ofp1 6 cfp1, .int .i64 0]) (by kernel_rfl) ?_
  refine sx_val (by kernel_rfl) rfl rfl (.slice ofp1 6 cfp1) (by kernel_rfl) ?_
  refine sx_val (by kernel_rfl) rfl rfl (.int .i64 0) (by kernel_rfl) ?_
  refine sx_val (by kernel_rfl) rfl rfl (.slice ofp1 6 cfp1) (by kernel_rfl) ?_
  refine sx_val (by kernel_rfl) rfl rfl (.int .i64 0) (by kernel_rfl) ?_
  refine wpList_nil ?_
  refine sx_norm ?_
  refine wp_seq ?_
  refine wp_region_lit ?_
  refine sx_call (by kernel_rfl) rfl rfl (pair_true W2) (by kernel_rfl) ?_
  rintro e W3 ⟨o0p2, o2p2, o3p2, o5p2, n0p2, c0p2, n2p2, c2p2, c3p2, c5p2, rfl, hosp2, hpsp2, hb⟩
  replace HB := over HB hb
  replace hosp1 := hosp1.below hb
  replace hpsp1 := hpsp1.below hb
  have z3 := hb.size
  clear hb
  refine ⟨_, rfl, ?_⟩
  refine sx_call (by kernel_rfl) rfl rfl (aw_all2 o0p2 o2p2 o3p2 o5p2 n0p2 c0p2 n2p2 c2p2 c3p2 c5p2 W3 hosp2 hpsp2) (by kernel_rfl) ?_
  rintro e W4 ⟨ofp2, cfp2, rfl, hb⟩
  replace HB := over HB hb
  replace hosp1 := hosp1.below hb
  replace hpsp1 := hpsp1.below hb
  replace hosp2 := hosp2.below hb
  replace hpsp2 := hpsp2.below hb
  have z4 := hb.size
  clear hb
  refine ⟨_, rfl, ?_⟩
  refine sx_val (by kernel_rfl) rfl rfl (.tuple #[.slice ofp2 1 cfp2, .int .i64 0]) (by kernel_rfl) ?_
  refine sx_val (by kernel_rfl) rfl rfl (.slice ofp2 1 cfp2) (by kernel_rfl) ?_
  refine sx_val (by kernel_rfl) rfl rfl (.int .i64 0) (by kernel_rfl) ?_
  refine sx_val (by kernel_rfl) rfl rfl (.slice ofp2 1 cfp2) (by kernel_rfl) ?_
  refine sx_val (by kernel_rfl) rfl rfl (.int .i64 0) (by kernel_rfl) ?_
  refine wpList_nil ?_
  refine sx_norm ?_
  refine wp_seq ?_
  refine wp_region_lit ?_
  refine sx_val (by kernel_rfl) rfl rfl (.agg #[.int .i64 0, .bool false]) (by kernel_rfl) ?_
  refine sx_val (by kernel_rfl) rfl rfl (.agg #[.int .i64 0, .bool true]) (by kernel_rfl) ?_
  obtain ⟨W5, hW⟩ : ∃ W, W4.alloc (.cells #[.int .i64 0, .bool false, .int .i64 0, .bool true] 52) = W := ⟨_, rfl⟩
  have hb := hW ▸ below_alloc W4 (.cells #[.int .i64 0, .bool false, .int .i64 0, .bool true] 52)
  have hq : Cb W5 W4.heap.size #[.int .i64 0, .bool false, .int .i64 0, .bool true] 52 := hW ▸ Cb.made W4 #[.int .i64 0, .bool false, .int .i64 0, .bool true] 52
  refine sx_mem (by kernel_rfl) rfl rfl (.slice (some ⟨W4.heap.size, 0, none⟩) 2 2) W5 (by rw [← hW]; kernel_rfl) ?_
  replace HB := over HB hb
  replace hosp1 := hosp1.below hb
  replace hpsp1 := hpsp1.below hb
  replace hosp2 := hosp2.below hb
  replace hpsp2 := hpsp2.below hb
  have z5 := hb.size
  have M6 := hq
  have yM6 := hq.lt
  clear hq hb hW
  refine sx_val (by kernel_rfl) rfl rfl (.agg #[.int .i64 0, .int .i64 0, .slice none 0 0, .slice (some ⟨W4.heap.size, 0, none⟩) 2 2]) (by kernel_rfl) ?_
  obtain ⟨W8, hW⟩ : ∃ W, (W5.alloc (.cells #[.int .i64 0, .int .i64 0, .slice none 0 0, .slice none 0 0] 34)).setRow W5.heap.size #[.int .i64 0, .int .i64 0, .slice none 0 0, .slice (some ⟨W4.heap.size, 0, none⟩) 2 2] = W := ⟨_, rfl⟩
  have hb := hW ▸ below_var W5 (.cells #[.int .i64 0, .int .i64 0, .slice none 0 0, .slice none 0 0] 34) #[.int .i64 0, .int .i64 0, .slice none 0 0, .slice (some ⟨W4.heap.size, 0, none⟩) 2 2]
  have hq : Cb W8 W5.heap.size #[.int .i64 0, .int .i64 0, .slice none 0 0, .slice (some ⟨W4.heap.size, 0, none⟩) 2 2] 34 := hW ▸ Cb.row (Cb.made W5 #[.int .i64 0, .int .i64 0, .slice none 0 0, .slice none 0 0] 34) _
  refine sx_mem (by kernel_rfl) rfl rfl (.pointer (some ⟨W5.heap.size, 0, none⟩)) (W5.alloc (.cells #[.int .i64 0, .int .i64 0, .slice none 0 0, .slice none 0 0] 34)) (by kernel_rfl) ?_
  refine sx_store (cells := #[.int .i64 0, .int .i64 0, .slice none 0 0, .slice (some ⟨W4.heap.size, 0, none⟩) 2 2]) (by kernel_rfl) rfl rfl (Cb.made W5 #[.int .i64 0, .int .i64 0, .slice none 0 0, .slice none 0 0] 34) (by kernel_rfl) (by kernel_rfl) (by kernel_rfl) (by kernel_rfl) (by kernel_rfl) ?_
  rw [hW]
  replace HB := over HB hb
  replace hosp1 := hosp1.below hb
  replace hpsp1 := hpsp1.below hb
  replace hosp2 := hosp2.below hb
  replace hpsp2 := hpsp2.below hb
  replace M6 := M6.below hb
  have z6 := hb.size
  have M7 := hq
  have yM7 := hq.lt
  clear hq hb hW
  refine wpList_nil ?_
  refine sx_norm ?_
  refine wp_seq ?_
  refine wp_region_lit ?_
  refine sx_val (by kernel_rfl) rfl rfl (.agg #[.int .i64 0, .int .i64 0, .slice none 0 0, .slice (some ⟨W4.heap.size, 0, none⟩) 2 2]) (ex_load rfl M7 (by kernel_rfl) Try.underlying34 rfl (by kernel_rfl)) ?_
  refine sx_call (by kernel_rfl) rfl rfl ((by have h8 := orders_n 0 0 none (some ⟨W4.heap.size, 0, none⟩) 0 0 2 _ 0 [(0, false), (0, true)] (by decide) W8 (rw_two M6); rw [aw_o1, aw_o2] at h8; exact h8)) (by kernel_rfl) ?_
  rintro e W9 ⟨rfl, hb⟩
  replace HB := over HB hb
  replace hosp1 := hosp1.below hb
  replace hpsp1 := hpsp1.below hb
  replace hosp2 := hosp2.below hb
  replace hpsp2 := hpsp2.below hb
  replace M6 := M6.below hb
  replace M7 := M7.below hb
  have z7 := hb.size
  clear hb
  refine ⟨_, rfl, ?_⟩
  refine sx_val (by kernel_rfl) rfl rfl (.tuple #[.int .i64 1, .int .i64 0]) (by kernel_rfl) ?_
  refine sx_val (by kernel_rfl) rfl rfl (.int .i64 1) (by kernel_rfl) ?_
  refine sx_val (by kernel_rfl) rfl rfl (.int .i64 0) (by kernel_rfl) ?_
  refine sx_val (by kernel_rfl) rfl rfl (.int .i64 1) (by kernel_rfl) ?_
  refine sx_val (by kernel_rfl) rfl rfl (.int .i64 0) (by kernel_rfl) ?_
  refine wpList_nil ?_
  refine sx_norm ?_
  refine wp_seq ?_
  obtain ⟨Y10, hW⟩ : ∃ W, W9.drew = W := ⟨_, rfl⟩
  have hb : Below W9.heap.size W9 Y10 := hW ▸ below_drew (Below.refl _ _)
  replace HB := over HB hb
  replace hosp1 := hosp1.below hb
  replace hpsp1 := hpsp1.below hb
  replace hosp2 := hosp2.below hb
  replace hpsp2 := hpsp2.below hb
  replace M6 := M6.below hb
  replace M7 := M7.below hb
  have z8 := hb.size
  clear hb
  refine sd_begin (fun W => Cb W (W4.heap.size) #[.int .i64 0, .bool false, .int .i64 0, .bool true] 52 ∧ Cb W (W5.heap.size) #[.int .i64 0, .int .i64 0, .slice none 0 0, .slice (some ⟨W4.heap.size, 0, none⟩) 2 2] 34 ∧ True) (by kernel_rfl) (by rw [hW]; exact ⟨M6, M7, trivial⟩) ?_
  rw [hW]
  clear hW
  refine sd_take 0 rfl (by kernel_rfl) (by kernel_rfl) (by kernel_rfl) (by kernel_rfl) rfl rfl (.int .i64 0) (fun w9 _ => by kernel_rfl) (fun _ _ _ h => h) ⟨M6, M7, trivial⟩ ?_
  refine sd_take 1 rfl (by kernel_rfl) (by kernel_rfl) (by kernel_rfl) (by kernel_rfl) rfl rfl (.bool true) (fun w9 _ => by kernel_rfl) (fun _ _ _ h => h) ⟨M6, M7, trivial⟩ ?_
  refine sd_take 2 rfl (by kernel_rfl) (by kernel_rfl) (by kernel_rfl) (by kernel_rfl) rfl rfl (.bool true) (fun w9 _ => by kernel_rfl) (fun _ _ _ h => h) ⟨M6, M7, trivial⟩ ?_
  refine sd_take 3 rfl (by kernel_rfl) (by kernel_rfl) (by kernel_rfl) (by kernel_rfl) rfl rfl (.slice ofp1 6 cfp1) (fun w9 _ => by kernel_rfl) (fun _ _ _ h => h) ⟨M6, M7, trivial⟩ ?_
  refine sd_take 4 rfl (by kernel_rfl) (by kernel_rfl) (by kernel_rfl) (by kernel_rfl) rfl rfl (.int .i64 6) (fun w9 _ => by kernel_rfl) (fun _ _ _ h => h) ⟨M6, M7, trivial⟩ ?_
  refine sd_take 5 rfl (by kernel_rfl) (by kernel_rfl) (by kernel_rfl) (by kernel_rfl) rfl rfl (.bool true) (fun w9 _ => by kernel_rfl) (fun _ _ _ h => h) ⟨M6, M7, trivial⟩ ?_
  refine sd_take 6 rfl (by kernel_rfl) (by kernel_rfl) (by kernel_rfl) (by kernel_rfl) rfl rfl (.bool true) (fun w9 _ => by kernel_rfl) (fun _ _ _ h => h) ⟨M6, M7, trivial⟩ ?_
  refine sd_take 7 rfl (by kernel_rfl) (by kernel_rfl) (by kernel_rfl) (by kernel_rfl) rfl rfl (.bool true) (fun w9 _ => by kernel_rfl) (fun _ _ _ h => h) ⟨M6, M7, trivial⟩ ?_
  refine sd_take 8 rfl (by kernel_rfl) (by kernel_rfl) (by kernel_rfl) (by kernel_rfl) rfl rfl (.int .i64 0) (fun w9 _ => by kernel_rfl) (fun _ _ _ h => h) ⟨M6, M7, trivial⟩ ?_
  refine sd_take 9 rfl (by kernel_rfl) (by kernel_rfl) (by kernel_rfl) (by kernel_rfl) rfl rfl (.bool true) (fun w9 _ => by kernel_rfl) (fun _ _ _ h => h) ⟨M6, M7, trivial⟩ ?_
  refine sd_take 10 rfl (by kernel_rfl) (by kernel_rfl) (by kernel_rfl) (by kernel_rfl) rfl rfl (.bool true) (fun w9 _ => by kernel_rfl) (fun _ _ _ h => h) ⟨M6, M7, trivial⟩ ?_
  refine sd_take 11 rfl (by kernel_rfl) (by kernel_rfl) (by kernel_rfl) (by kernel_rfl) rfl rfl (.bool true) (fun w9 _ => by kernel_rfl) (fun _ _ _ h => h) ⟨M6, M7, trivial⟩ ?_
  refine sd_take 12 rfl (by kernel_rfl) (by kernel_rfl) (by kernel_rfl) (by kernel_rfl) rfl rfl (.slice ofp2 1 cfp2) (fun w9 _ => by kernel_rfl) (fun _ _ _ h => h) ⟨M6, M7, trivial⟩ ?_
  refine sd_take 13 rfl (by kernel_rfl) (by kernel_rfl) (by kernel_rfl) (by kernel_rfl) rfl rfl (.int .i64 1) (fun w9 _ => by kernel_rfl) (fun _ _ _ h => h) ⟨M6, M7, trivial⟩ ?_
  refine sd_take 14 rfl (by kernel_rfl) (by kernel_rfl) (by kernel_rfl) (by kernel_rfl) rfl rfl (.bool true) (fun w9 _ => by kernel_rfl) (fun _ _ _ h => h) ⟨M6, M7, trivial⟩ ?_
  refine sd_take 15 rfl (by kernel_rfl) (by kernel_rfl) (by kernel_rfl) (by kernel_rfl) rfl rfl (.bool true) (fun w9 _ => by kernel_rfl) (fun _ _ _ h => h) ⟨M6, M7, trivial⟩ ?_
  refine sd_take 16 rfl (by kernel_rfl) (by kernel_rfl) (by kernel_rfl) (by kernel_rfl) rfl rfl (.bool true) (fun w9 _ => by kernel_rfl) (fun _ _ _ h => h) ⟨M6, M7, trivial⟩ ?_
  refine sd_take 17 rfl (by kernel_rfl) (by kernel_rfl) (by kernel_rfl) (by kernel_rfl) rfl rfl (.int .i64 1) (fun w9 _ => by kernel_rfl) (fun _ _ _ h => h) ⟨M6, M7, trivial⟩ ?_
  refine sd_take 18 rfl (by kernel_rfl) (by kernel_rfl) (by kernel_rfl) (by kernel_rfl) rfl rfl (.bool true) (fun w9 _ => by kernel_rfl) (fun _ _ _ h => h) ⟨M6, M7, trivial⟩ ?_
  refine sd_take 19 rfl (by kernel_rfl) (by kernel_rfl) (by kernel_rfl) (by kernel_rfl) rfl rfl (.bool true) (fun w9 _ => by kernel_rfl) (fun _ _ _ h => h) ⟨M6, M7, trivial⟩ ?_
  refine sd_take 20 rfl (by kernel_rfl) (by kernel_rfl) (by kernel_rfl) (by kernel_rfl) rfl rfl (.bool true) (fun w9 _ => by kernel_rfl) (fun _ _ _ h => h) ⟨M6, M7, trivial⟩ ?_
  refine sd_take 21 rfl (by kernel_rfl) (by kernel_rfl) (by kernel_rfl) (by kernel_rfl) rfl rfl (.int .i64 0) (fun w9 _ => by kernel_rfl) (fun _ _ _ h => h) ⟨M6, M7, trivial⟩ ?_
  refine sd_take 22 rfl (by kernel_rfl) (by kernel_rfl) (by kernel_rfl) (by kernel_rfl) rfl rfl (.bool true) (fun w9 _ => by kernel_rfl) (fun _ _ _ h => h) ⟨M6, M7, trivial⟩ ?_
  refine sd_take 23 rfl (by kernel_rfl) (by kernel_rfl) (by kernel_rfl) (by kernel_rfl) rfl rfl (.bool true) (fun w9 _ => by kernel_rfl) (fun _ _ _ h => h) ⟨M6, M7, trivial⟩ ?_
  refine sd_take 24 rfl (by kernel_rfl) (by kernel_rfl) (by kernel_rfl) (by kernel_rfl) rfl rfl (.bool true) (fun w9 _ => by kernel_rfl) (fun _ _ _ h => h) ⟨M6, M7, trivial⟩ ?_
  refine sd_take 26 rfl (by kernel_rfl) (by kernel_rfl) (by kernel_rfl) (by kernel_rfl) rfl rfl (.agg #[.int .i64 0, .int .i64 0, .slice none 0 0, .slice (some ⟨W4.heap.size, 0, none⟩) 2 2]) (fun w9 h9 => ex_load rfl h9.2.1 (by kernel_rfl) Try.underlying34 rfl (by kernel_rfl)) (fun _ _ _ h => h) ⟨M6, M7, trivial⟩ ?_
  refine sd_all [25] (by kernel_rfl) (by decide) ?_
  refine sd_call (i := 25) rfl (by kernel_rfl) rfl rfl (pair_false Y10) (by kernel_rfl) ?_ AllReadyH.nil
  rintro e W11 ⟨o0p3, o2p3, o3p3, o5p3, n0p3, c0p3, n2p3, c2p3, c3p3, c5p3, rfl, hosp3, hpsp3, hb⟩
  replace HB := over HB hb
  replace hosp1 := hosp1.below hb
  replace hpsp1 := hpsp1.below hb
  replace hosp2 := hosp2.below hb
  replace hpsp2 := hpsp2.below hb
  replace M6 := M6.below hb
  replace M7 := M7.below hb
  have z9 := hb.size
  clear hb
  refine ⟨_, rfl, ⟨M6, M7, trivial⟩, ?_⟩
  refine sd_all [27] (by kernel_rfl) (by decide) ?_
  refine sd_call (i := 27) rfl (by kernel_rfl) rfl rfl ((by have h8 := check16_n o0p3 none o2p3 o3p3 none o5p3 n0p3 0 n2p3 c0p3 0 c2p3 c3p3 0 c5p3 olP [] [] (by decide) (rt0 _) (by decide) (rt0 _) (by decide) W11 hosp3 (Ps.nil0 _) hpsp3 0 0 none (some ⟨W4.heap.size, 0, none⟩) 0 0 2 _ 0 [(0, false), (0, true)] (by decide) (rw_two M6); rw [aw_c] at h8; exact h8)) (by kernel_rfl) ?_ AllReadyH.nil
  rintro e W12 ⟨rfl, hb⟩
  replace HB := over HB hb
  replace hosp1 := hosp1.below hb
  replace hpsp1 := hpsp1.below hb
  replace hosp2 := hosp2.below hb
  replace hpsp2 := hpsp2.below hb
  replace M6 := M6.below hb
  replace M7 := M7.below hb
  replace hosp3 := hosp3.below hb
  replace hpsp3 := hpsp3.below hb
  have z10 := hb.size
  clear hb
  refine ⟨_, rfl, ⟨M6, M7, trivial⟩, ?_⟩
  refine sd_take 28 rfl (by kernel_rfl) (by kernel_rfl) (by kernel_rfl) (by kernel_rfl) rfl rfl (.bool true) (fun w9 _ => by kernel_rfl) (fun _ _ _ h => h) ⟨M6, M7, trivial⟩ ?_
  refine sd_take 29 rfl (by kernel_rfl) (by kernel_rfl) (by kernel_rfl) (by kernel_rfl) rfl rfl (.bool true) (fun w9 _ => by kernel_rfl) (fun _ _ _ h => h) ⟨M6, M7, trivial⟩ ?_
  refine sd_take 30 rfl (by kernel_rfl) (by kernel_rfl) (by kernel_rfl) (by kernel_rfl) rfl rfl (.bool true) (fun w9 _ => by kernel_rfl) (fun _ _ _ h => h) ⟨M6, M7, trivial⟩ ?_
  refine sd_all [31] (by kernel_rfl) (by decide) ?_
  refine sd_call (i := 31) rfl (by kernel_rfl) rfl rfl (pair_true W12) (by kernel_rfl) ?_ AllReadyH.nil
  rintro e W13 ⟨o0p4, o2p4, o3p4, o5p4, n0p4, c0p4, n2p4, c2p4, c3p4, c5p4, rfl, hosp4, hpsp4, hb⟩
  replace HB := over HB hb
  replace hosp1 := hosp1.below hb
  replace hpsp1 := hpsp1.below hb
  replace hosp2 := hosp2.below hb
  replace hpsp2 := hpsp2.below hb
  replace M6 := M6.below hb
  replace M7 := M7.below hb
  replace hosp3 := hosp3.below hb
  replace hpsp3 := hpsp3.below hb
  have z11 := hb.size
  clear hb
  refine ⟨_, rfl, ⟨M6, M7, trivial⟩, ?_⟩
  refine sd_all [32] (by kernel_rfl) (by decide) ?_
  refine sd_call (i := 32) rfl (by kernel_rfl) rfl rfl (aw_next o0p4 o2p4 o3p4 o5p4 n0p4 c0p4 n2p4 c2p4 c3p4 c5p4 W13 hosp4 hpsp4) (by kernel_rfl) ?_ AllReadyH.nil
  rintro e W14 ⟨onp4, cnp4, rfl, hb⟩
  replace HB := over HB hb
  replace hosp1 := hosp1.below hb
  replace hpsp1 := hpsp1.below hb
  replace hosp2 := hosp2.below hb
  replace hpsp2 := hpsp2.below hb
  replace M6 := M6.below hb
  replace M7 := M7.below hb
  replace hosp3 := hosp3.below hb
  replace hpsp3 := hpsp3.below hb
  replace hosp4 := hosp4.below hb
  replace hpsp4 := hpsp4.below hb
  have z12 := hb.size
  clear hb
  refine ⟨_, rfl, ⟨M6, M7, trivial⟩, ?_⟩
  refine sd_take 33 rfl (by kernel_rfl) (by kernel_rfl) (by kernel_rfl) (by kernel_rfl) rfl rfl (.int .i64 1) (fun w9 _ => by kernel_rfl) (fun _ _ _ h => h) ⟨M6, M7, trivial⟩ ?_
  refine sd_take 34 rfl (by kernel_rfl) (by kernel_rfl) (by kernel_rfl) (by kernel_rfl) rfl rfl (.bool true) (fun w9 _ => by kernel_rfl) (fun _ _ _ h => h) ⟨M6, M7, trivial⟩ ?_
  refine sd_take 35 rfl (by kernel_rfl) (by kernel_rfl) (by kernel_rfl) (by kernel_rfl) rfl rfl (.bool true) (fun w9 _ => by kernel_rfl) (fun _ _ _ h => h) ⟨M6, M7, trivial⟩ ?_
  refine sd_take 36 rfl (by kernel_rfl) (by kernel_rfl) (by kernel_rfl) (by kernel_rfl) rfl rfl (.bool true) (fun w9 _ => by kernel_rfl) (fun _ _ _ h => h) ⟨M6, M7, trivial⟩ ?_
  refine sd_take 37 rfl (by kernel_rfl) (by kernel_rfl) (by kernel_rfl) (by kernel_rfl) rfl rfl (.pointer (some ⟨W5.heap.size, 3, none⟩)) (fun w9 _ => by kernel_rfl) (fun _ _ _ h => h) ⟨M6, M7, trivial⟩ ?_
  refine sd_take 38 rfl (by kernel_rfl) (by kernel_rfl) (by kernel_rfl) (by kernel_rfl) rfl rfl (.slice (some ⟨W4.heap.size, 0, none⟩) 2 2) (fun w9 h9 => ex_load1 rfl (h9.2.1.cell 3 rfl) (by kernel_rfl) Try.underlying32 rfl) (fun _ _ _ h => h) ⟨M6, M7, trivial⟩ ?_
  refine sd_all [39] (by kernel_rfl) (by decide) ?_
  refine sd_call (i := 39) rfl (by kernel_rfl) rfl rfl ((by have h8 := less_n none (some ⟨W4.heap.size, 0, none⟩) 0 2 0 0 _ 0 [] [(0, false), (0, true)] (by decide) (by decide) W14 (rw_nil _) (rw_two M6); rw [aw_l] at h8; exact h8)) (by kernel_rfl) ?_ AllReadyH.nil
  rintro e W15 ⟨rfl, hb⟩
  replace HB := over HB hb
  replace hosp1 := hosp1.below hb
  replace hpsp1 := hpsp1.below hb
  replace hosp2 := hosp2.below hb
  replace hpsp2 := hpsp2.below hb
  replace M6 := M6.below hb
  replace M7 := M7.below hb
  replace hosp3 := hosp3.below hb
  replace hpsp3 := hpsp3.below hb
  replace hosp4 := hosp4.below hb
  replace hpsp4 := hpsp4.below hb
  have z13 := hb.size
  clear hb
  refine ⟨_, rfl, ⟨M6, M7, trivial⟩, ?_⟩
  refine sd_take 40 rfl (by kernel_rfl) (by kernel_rfl) (by kernel_rfl) (by kernel_rfl) rfl rfl (.bool true) (fun w9 _ => by kernel_rfl) (fun _ _ _ h => h) ⟨M6, M7, trivial⟩ ?_
  refine sd_take 41 rfl (by kernel_rfl) (by kernel_rfl) (by kernel_rfl) (by kernel_rfl) rfl rfl (.bool true) (fun w9 _ => by kernel_rfl) (fun _ _ _ h => h) ⟨M6, M7, trivial⟩ ?_
  refine sd_all [42] (by kernel_rfl) (by decide) ?_
  refine sd_call (i := 42) rfl (by kernel_rfl) rfl rfl ((by have h8 := same16_n none none 0 0 0 0 0 0 [] [] (by decide) (by decide) W15 (rw_nil _) (rw_nil _); rw [decide_eq_true (rfl : ([] : List (Int × Bool)) = [])] at h8; exact h8)) (by kernel_rfl) ?_ AllReadyH.nil
  rintro e W16 ⟨rfl, hb⟩
  replace HB := over HB hb
  replace hosp1 := hosp1.below hb
  replace hpsp1 := hpsp1.below hb
  replace hosp2 := hosp2.below hb
  replace hpsp2 := hpsp2.below hb
  replace M6 := M6.below hb
  replace M7 := M7.below hb
  replace hosp3 := hosp3.below hb
  replace hpsp3 := hpsp3.below hb
  replace hosp4 := hosp4.below hb
  replace hpsp4 := hpsp4.below hb
  have z14 := hb.size
  clear hb
  refine ⟨_, rfl, ⟨M6, M7, trivial⟩, ?_⟩
  refine sd_take 43 rfl (by kernel_rfl) (by kernel_rfl) (by kernel_rfl) (by kernel_rfl) rfl rfl (.bool true) (fun w9 _ => by kernel_rfl) (fun _ _ _ h => h) ⟨M6, M7, trivial⟩ ?_
  refine sd_take 44 rfl (by kernel_rfl) (by kernel_rfl) (by kernel_rfl) (by kernel_rfl) rfl rfl (.bool true) (fun w9 _ => by kernel_rfl) (fun _ _ _ h => h) ⟨M6, M7, trivial⟩ ?_
  refine sd_done (by kernel_rfl) ?_
  refine sx_norm ?_
  refine wp_ret ?_
  exact sx_ret1 (.bool true) rfl rfl (by kernel_rfl) ⟨rfl, HB⟩

end Go.Proofs.Ytoliacfpjhanlaa.T


