/-
  DERIVED. The walks of the laws' three and examples (written by gen_ruex.py).
-/
import Derived.Test.YtmoilpkgoabopaaDoorRuIf
import Derived.Deep.RegionHeld3
namespace Go.Proofs.YtmoilpkgoabopaaDoor.T
open Go.RowKit
set_option maxRecDepth 8000

theorem two_cells (w : World) (xs : List Value) (t : TypeId) (k : Nat) (v : Value) (h : xs[k]? = some v) : (w.alloc (.cells xs.toArray t)).cell? ⟨w.heap.size, k, none⟩ = some v := by
  have hb : (w.alloc (.cells xs.toArray t)).heap[w.heap.size]? = some (.cells xs.toArray t) := by
    show (w.heap.push _)[w.heap.size]? = _
    simp
  simp only [World.cell?]
  rw [hb]
  simpa using h
theorem os_three (w : World) : Os (w.alloc (.cells #[.string ⟨#[]⟩, .slice none 0 0, .int .i64 0, .int .i64 0, .int .i64 0, .int .i64 0, .int .i64 0, .int .i64 0, .int .i64 0, .int .i64 0, .int .i64 0, .int .i64 0, .int .i64 0, .int .i64 0, .int .i64 0, .bool false, .string ⟨#[]⟩, .slice none 0 0, .int .i64 0, .int .i64 0, .int .i64 0, .int .i64 0, .int .i64 0, .int .i64 0, .int .i64 0, .int .i64 0, .int .i64 0, .int .i64 0, .int .i64 0, .int .i64 0, .int .i64 0, .bool false, .string ⟨#[]⟩, .slice none 0 0, .int .i64 0, .int .i64 0, .int .i64 0, .int .i64 0, .int .i64 0, .int .i64 0, .int .i64 0, .int .i64 0, .int .i64 0, .int .i64 0, .int .i64 0, .int .i64 0, .int .i64 0, .bool false] 52)) (.slice (some ⟨w.heap.size, 0, none⟩) 3 3) [or0, or0, or0] := by
  refine ⟨some ⟨w.heap.size, 0, none⟩, 3, rfl, fun i hi => ?_⟩
  have h3 : i < 3 := hi
  match i, h3 with
  | 0, _ => exact ⟨w.heap.size, 0, .slice none 0 0, rfl, by simp, ⟨two_cells w _ _ _ _ rfl, two_cells w _ _ _ _ rfl, two_cells w _ _ _ _ rfl, two_cells w _ _ _ _ rfl, two_cells w _ _ _ _ rfl, two_cells w _ _ _ _ rfl, two_cells w _ _ _ _ rfl, two_cells w _ _ _ _ rfl, two_cells w _ _ _ _ rfl, two_cells w _ _ _ _ rfl, two_cells w _ _ _ _ rfl, two_cells w _ _ _ _ rfl, two_cells w _ _ _ _ rfl, two_cells w _ _ _ _ rfl, two_cells w _ _ _ _ rfl, two_cells w _ _ _ _ rfl⟩, L.Li.nil _⟩
  | 1, _ => exact ⟨w.heap.size, 0, .slice none 0 0, rfl, by simp, ⟨two_cells w _ _ _ _ rfl, two_cells w _ _ _ _ rfl, two_cells w _ _ _ _ rfl, two_cells w _ _ _ _ rfl, two_cells w _ _ _ _ rfl, two_cells w _ _ _ _ rfl, two_cells w _ _ _ _ rfl, two_cells w _ _ _ _ rfl, two_cells w _ _ _ _ rfl, two_cells w _ _ _ _ rfl, two_cells w _ _ _ _ rfl, two_cells w _ _ _ _ rfl, two_cells w _ _ _ _ rfl, two_cells w _ _ _ _ rfl, two_cells w _ _ _ _ rfl, two_cells w _ _ _ _ rfl⟩, L.Li.nil _⟩
  | 2, _ => exact ⟨w.heap.size, 0, .slice none 0 0, rfl, by simp, ⟨two_cells w _ _ _ _ rfl, two_cells w _ _ _ _ rfl, two_cells w _ _ _ _ rfl, two_cells w _ _ _ _ rfl, two_cells w _ _ _ _ rfl, two_cells w _ _ _ _ rfl, two_cells w _ _ _ _ rfl, two_cells w _ _ _ _ rfl, two_cells w _ _ _ _ rfl, two_cells w _ _ _ _ rfl, two_cells w _ _ _ _ rfl, two_cells w _ _ _ _ rfl, two_cells w _ _ _ _ rfl, two_cells w _ _ _ _ rfl, two_cells w _ _ _ _ rfl, two_cells w _ _ _ _ rfl⟩, L.Li.nil _⟩
theorem ps_cells (w : World) (l : List (Int × Int)) (c : Nat) (t : TypeId) : Ps (w.alloc (.cells (flat pT pA l).toArray t)) (.slice (some ⟨w.heap.size, 0, none⟩) l.length c) l := by
  refine ⟨some ⟨w.heap.size, 0, none⟩, c, rfl, fun i hi => ⟨w.heap.size, 0, rfl, by simp, ?_⟩⟩
  obtain ⟨h0, h1⟩ := flat_at (E0 := pT) (E1 := pA) (d := (0, 0)) l i hi
  exact ⟨by rw [Nat.zero_add]; exact two_cells w _ t _ _ h0, by rw [Nat.zero_add]; exact two_cells w _ t _ _ h1⟩
set_option maxHeartbeats 3200000 in
theorem three12_n (w : World) : Calls Tryd.prog 24 #[] w fun e w' => ∃ a b c, e = .returned (.agg #[.slice none 0 0, .slice none 0 0, .slice none 0 0, .slice (some ⟨a, 0, none⟩) 3 3, .slice (some ⟨b, 0, none⟩) 1 1, .slice (some ⟨c, 0, none⟩) 1 1]) ∧ Os w' (.slice (some ⟨a, 0, none⟩) 3 3) [or0, or0, or0] ∧ Ps w' (.slice (some ⟨b, 0, none⟩) 1 1) [(0, 1)] ∧ Ps w' (.slice (some ⟨c, 0, none⟩) 1 1) [(2, 1)] ∧ Below w.heap.size w w' := by
  go_enter Tryd.func24, Tryd.ntmps24
  go_wp2_with fail
  have K0 := over (below_alloc w (.cells #[.slice none 0 0, .slice none 0 0, .slice none 0 0, .slice (some ⟨w.heap.size + 1, 0, none⟩) 3 3, .slice (some ⟨w.heap.size + 1 + 1, 0, none⟩) 1 1, .slice (some ⟨w.heap.size + 1 + 1 + 1, 0, none⟩) 1 1] 37)) (below_alloc (w.alloc (.cells #[.slice none 0 0, .slice none 0 0, .slice none 0 0, .slice (some ⟨w.heap.size + 1, 0, none⟩) 3 3, .slice (some ⟨w.heap.size + 1 + 1, 0, none⟩) 1 1, .slice (some ⟨w.heap.size + 1 + 1 + 1, 0, none⟩) 1 1] 37)) (.cells #[.string ⟨#[]⟩, .slice none 0 0, .int .i64 0, .int .i64 0, .int .i64 0, .int .i64 0, .int .i64 0, .int .i64 0, .int .i64 0, .int .i64 0, .int .i64 0, .int .i64 0, .int .i64 0, .int .i64 0, .int .i64 0, .bool false, .string ⟨#[]⟩, .slice none 0 0, .int .i64 0, .int .i64 0, .int .i64 0, .int .i64 0, .int .i64 0, .int .i64 0, .int .i64 0, .int .i64 0, .int .i64 0, .int .i64 0, .int .i64 0, .int .i64 0, .int .i64 0, .bool false, .string ⟨#[]⟩, .slice none 0 0, .int .i64 0, .int .i64 0, .int .i64 0, .int .i64 0, .int .i64 0, .int .i64 0, .int .i64 0, .int .i64 0, .int .i64 0, .int .i64 0, .int .i64 0, .int .i64 0, .int .i64 0, .bool false] 52))
  have BO := over K0 (below_alloc _ (.cells #[.int .i64 0, .int .i64 1] 45))
  have BF := over BO (below_alloc _ (.cells #[.int .i64 2, .int .i64 1] 45))
  have e1 : (w.alloc (.cells #[.slice none 0 0, .slice none 0 0, .slice none 0 0, .slice (some ⟨w.heap.size + 1, 0, none⟩) 3 3, .slice (some ⟨w.heap.size + 1 + 1, 0, none⟩) 1 1, .slice (some ⟨w.heap.size + 1 + 1 + 1, 0, none⟩) 1 1] 37)).heap.size = w.heap.size + 1 := by simp
  have e2 : ((w.alloc (.cells #[.slice none 0 0, .slice none 0 0, .slice none 0 0, .slice (some ⟨w.heap.size + 1, 0, none⟩) 3 3, .slice (some ⟨w.heap.size + 1 + 1, 0, none⟩) 1 1, .slice (some ⟨w.heap.size + 1 + 1 + 1, 0, none⟩) 1 1] 37)).alloc (.cells #[.string ⟨#[]⟩, .slice none 0 0, .int .i64 0, .int .i64 0, .int .i64 0, .int .i64 0, .int .i64 0, .int .i64 0, .int .i64 0, .int .i64 0, .int .i64 0, .int .i64 0, .int .i64 0, .int .i64 0, .int .i64 0, .bool false, .string ⟨#[]⟩, .slice none 0 0, .int .i64 0, .int .i64 0, .int .i64 0, .int .i64 0, .int .i64 0, .int .i64 0, .int .i64 0, .int .i64 0, .int .i64 0, .int .i64 0, .int .i64 0, .int .i64 0, .int .i64 0, .bool false, .string ⟨#[]⟩, .slice none 0 0, .int .i64 0, .int .i64 0, .int .i64 0, .int .i64 0, .int .i64 0, .int .i64 0, .int .i64 0, .int .i64 0, .int .i64 0, .int .i64 0, .int .i64 0, .int .i64 0, .int .i64 0, .bool false] 52)).heap.size = w.heap.size + 1 + 1 := by simp
  have e3 : (((w.alloc (.cells #[.slice none 0 0, .slice none 0 0, .slice none 0 0, .slice (some ⟨w.heap.size + 1, 0, none⟩) 3 3, .slice (some ⟨w.heap.size + 1 + 1, 0, none⟩) 1 1, .slice (some ⟨w.heap.size + 1 + 1 + 1, 0, none⟩) 1 1] 37)).alloc (.cells #[.string ⟨#[]⟩, .slice none 0 0, .int .i64 0, .int .i64 0, .int .i64 0, .int .i64 0, .int .i64 0, .int .i64 0, .int .i64 0, .int .i64 0, .int .i64 0, .int .i64 0, .int .i64 0, .int .i64 0, .int .i64 0, .bool false, .string ⟨#[]⟩, .slice none 0 0, .int .i64 0, .int .i64 0, .int .i64 0, .int .i64 0, .int .i64 0, .int .i64 0, .int .i64 0, .int .i64 0, .int .i64 0, .int .i64 0, .int .i64 0, .int .i64 0, .int .i64 0, .bool false, .string ⟨#[]⟩, .slice none 0 0, .int .i64 0, .int .i64 0, .int .i64 0, .int .i64 0, .int .i64 0, .int .i64 0, .int .i64 0, .int .i64 0, .int .i64 0, .int .i64 0, .int .i64 0, .int .i64 0, .int .i64 0, .bool false] 52)).alloc (.cells #[.int .i64 0, .int .i64 1] 45)).heap.size = w.heap.size + 1 + 1 + 1 := by simp
  have p1 := os_three (w.alloc (.cells #[.slice none 0 0, .slice none 0 0, .slice none 0 0, .slice (some ⟨w.heap.size + 1, 0, none⟩) 3 3, .slice (some ⟨w.heap.size + 1 + 1, 0, none⟩) 1 1, .slice (some ⟨w.heap.size + 1 + 1 + 1, 0, none⟩) 1 1] 37))
  have p2 := ps_cells ((w.alloc (.cells #[.slice none 0 0, .slice none 0 0, .slice none 0 0, .slice (some ⟨w.heap.size + 1, 0, none⟩) 3 3, .slice (some ⟨w.heap.size + 1 + 1, 0, none⟩) 1 1, .slice (some ⟨w.heap.size + 1 + 1 + 1, 0, none⟩) 1 1] 37)).alloc (.cells #[.string ⟨#[]⟩, .slice none 0 0, .int .i64 0, .int .i64 0, .int .i64 0, .int .i64 0, .int .i64 0, .int .i64 0, .int .i64 0, .int .i64 0, .int .i64 0, .int .i64 0, .int .i64 0, .int .i64 0, .int .i64 0, .bool false, .string ⟨#[]⟩, .slice none 0 0, .int .i64 0, .int .i64 0, .int .i64 0, .int .i64 0, .int .i64 0, .int .i64 0, .int .i64 0, .int .i64 0, .int .i64 0, .int .i64 0, .int .i64 0, .int .i64 0, .int .i64 0, .bool false, .string ⟨#[]⟩, .slice none 0 0, .int .i64 0, .int .i64 0, .int .i64 0, .int .i64 0, .int .i64 0, .int .i64 0, .int .i64 0, .int .i64 0, .int .i64 0, .int .i64 0, .int .i64 0, .int .i64 0, .int .i64 0, .bool false] 52)) [(0, 1)] 1 45
  have p3 := ps_cells (((w.alloc (.cells #[.slice none 0 0, .slice none 0 0, .slice none 0 0, .slice (some ⟨w.heap.size + 1, 0, none⟩) 3 3, .slice (some ⟨w.heap.size + 1 + 1, 0, none⟩) 1 1, .slice (some ⟨w.heap.size + 1 + 1 + 1, 0, none⟩) 1 1] 37)).alloc (.cells #[.string ⟨#[]⟩, .slice none 0 0, .int .i64 0, .int .i64 0, .int .i64 0, .int .i64 0, .int .i64 0, .int .i64 0, .int .i64 0, .int .i64 0, .int .i64 0, .int .i64 0, .int .i64 0, .int .i64 0, .int .i64 0, .bool false, .string ⟨#[]⟩, .slice none 0 0, .int .i64 0, .int .i64 0, .int .i64 0, .int .i64 0, .int .i64 0, .int .i64 0, .int .i64 0, .int .i64 0, .int .i64 0, .int .i64 0, .int .i64 0, .int .i64 0, .int .i64 0, .bool false, .string ⟨#[]⟩, .slice none 0 0, .int .i64 0, .int .i64 0, .int .i64 0, .int .i64 0, .int .i64 0, .int .i64 0, .int .i64 0, .int .i64 0, .int .i64 0, .int .i64 0, .int .i64 0, .int .i64 0, .int .i64 0, .bool false] 52)).alloc (.cells #[.int .i64 0, .int .i64 1] 45)) [(2, 1)] 1 45
  rw [e1] at p1
  rw [e2] at p2
  rw [e3] at p3
  exact bodyPost_ret (v := .agg #[.slice none 0 0, .slice none 0 0, .slice none 0 0, .slice (some ⟨w.heap.size + 1, 0, none⟩) 3 3, .slice (some ⟨w.heap.size + 1 + 1, 0, none⟩) 1 1, .slice (some ⟨w.heap.size + 1 + 1 + 1, 0, none⟩) 1 1]) (by simp [results, Tryd.results24, go_sem]) rfl
    ⟨_, _, _, rfl, (p1.below (below_alloc _ (.cells #[.int .i64 0, .int .i64 1] 45))).below (below_alloc _ (.cells #[.int .i64 2, .int .i64 1] 45)), ps_below p2 (below_alloc _ (.cells #[.int .i64 2, .int .i64 1] 45)), p3, BF⟩

theorem eqlFault (x : Int) (s : ByteArray) (w : World) : (binOp .eql 28 (.agg #[.int .i64 x, .string s]) (.agg #[.int .i64 x, .string s])).run Tryd.prog w = .ok (.bool true) w := by
  have hS : Tryd.prog.underlying 28 = some (.struct (Tryd.prog.fieldsOf 28)) := by kernel_rfl
  have hp : Tryd.prog.stoodInHeld 28 = false := by kernel_rfl
  have u3 := Tryd.underlying26
  have a3 := Tryd.isAgg26
  have z3 := Tryd.sizeOf26
  have u4 := Tryd.underlying9
  have a4 := Tryd.isAgg9
  have z4 := Tryd.sizeOf9
  rw [run_eql_struct, show (10000 : Nat) = 9999 + 1 from rfl, run_equalIn_agg w 9999 28 _ _ hS hp]
  simp only [Program.fieldsOf, Tryd.underlying28]
  go_simp

/-! ### what the examples are answered -/
theorem ex_rt : U.Rt 3 [(2, 1), (1, 0)] ∧ U.Rt 3 [(0, 1)] ∧ U.Rt 3 [(2, 1)] := by
  refine ⟨fun p hp => ?_, fun p hp => ?_, fun p hp => ?_⟩ <;> (simp at hp; first | (rcases hp with rfl | rfl <;> simp) | (subst hp; simp))
theorem ex_clo : U.cloL 3 [(2, 1), (1, 0)] = [(1, 0), (2, 0), (2, 1)] := by decide +kernel
theorem ex_chk : checkF 3 [(0, 1), (1, 0)] [(0, 3)] = [(6, ⟨#[97, 112, 97, 114, 116, 32, 49]⟩), (2, ⟨#[98, 101, 102, 111, 114, 101, 32, 48]⟩)] := by decide +kernel
theorem ex_al : U.allowE 3 (offF [or0, or0, or0]) [(0, 1)] [(2, 1)] 6 = 0 ∧ U.allowE 3 (offF [or0, or0, or0]) [(0, 1)] [(2, 1)] 2 = 21 ∧ U.allowE 3 (offF [or0, or0, or0]) [(0, 1)] [(2, 1)] 7 = 20 ∧ U.allowE 3 (offF [or0, or0, or0]) [(0, 1)] [(2, 1)] 8 = 2 := by decide +kernel
theorem ex_ne : U.needsI 3 [(2, 1)] 1 = 6 ∧ U.neverN 3 (offF [or0, or0, or0]) [(0, 1)] [(2, 1)] = 0 := by decide +kernel

set_option maxHeartbeats 12800000 in
theorem examples_n (w : World) (hE : Env w) : Calls Tryd.prog 9 #[] w fun e w' => e = .returned (.bool true) ∧ Below w.heap.size w w' := by
  have B0 := below_alloc w (.cells #[.int .i64 2, .int .i64 1, .int .i64 1, .int .i64 0] 45)
  have P0 := ps_cells w [(2, 1), (1, 0)] 2 45
  have K1 := Lib.hid (rulesClosure_n 3 (.slice (some ⟨w.heap.size, 0, none⟩) 2 2) [(2, 1), (1, 0)] (by omega) ex_rt.1 (by simp) (w.alloc (.cells #[.int .i64 2, .int .i64 1, .int .i64 1, .int .i64 0] 45)) (hE.over B0) P0)
  have HB0 := Lib.hid B0
  have HE := Lib.hid hE
  clear B0 P0 hE
  go_enter Tryd.func9, Tryd.ntmps9
  go_wp2_with fail
  refine K1.out.mono ?_
  intro e w1 h
  rw [ex_clo] at h
  obtain ⟨oa1, c1, rfl, ⟨hp1, -, -⟩, b1⟩ := h
  have HP1 := Lib.hid hp1
  have HB1 := Lib.hid (over HB0.out b1)
  clear hp1 b1 K1 HB0
  go_wp2_with fail
  refine (three12_n _).mono ?_
  rintro e w2 ⟨a, b, c, rfl, ho, hpa, hpb, b2⟩
  have bz := over b2 (below_alloc w2 (.cells #[.slice none 0 0, .slice none 0 0, .slice none 0 0, .slice (some ⟨a, 0, none⟩) 3 3, .slice (some ⟨b, 0, none⟩) 1 1, .slice (some ⟨c, 0, none⟩) 1 1] 37))
  have HP2 := Lib.hid (ps_below HP1.out bz)
  have HO2 := Lib.hid (ho.below (below_alloc w2 (.cells #[.slice none 0 0, .slice none 0 0, .slice none 0 0, .slice (some ⟨a, 0, none⟩) 3 3, .slice (some ⟨b, 0, none⟩) 1 1, .slice (some ⟨c, 0, none⟩) 1 1] 37)))
  have HA2 := Lib.hid (ps_below hpa (below_alloc w2 (.cells #[.slice none 0 0, .slice none 0 0, .slice none 0 0, .slice (some ⟨a, 0, none⟩) 3 3, .slice (some ⟨b, 0, none⟩) 1 1, .slice (some ⟨c, 0, none⟩) 1 1] 37)))
  have HQ2 := Lib.hid (ps_below hpb (below_alloc w2 (.cells #[.slice none 0 0, .slice none 0 0, .slice none 0 0, .slice (some ⟨a, 0, none⟩) 3 3, .slice (some ⟨b, 0, none⟩) 1 1, .slice (some ⟨c, 0, none⟩) 1 1] 37)))
  have HI2 := Lib.hid (Ib.made w2 (.slice none 0 0) (.slice none 0 0) (.slice none 0 0) (.slice (some ⟨a, 0, none⟩) 3 3) (.slice (some ⟨b, 0, none⟩) 1 1) (.slice (some ⟨c, 0, none⟩) 1 1))
  have HB2 := Lib.hid (over HB1.out bz)
  clear ho hpa hpb b2 bz HP1 HB1
  obtain ⟨q, hq⟩ : ∃ q, w2.heap.size = q := ⟨_, rfl⟩
  rw [hq] at HI2
  obtain ⟨W3, hW3⟩ : ∃ W3, w2.alloc (.cells #[.slice none 0 0, .slice none 0 0, .slice none 0 0, .slice (some ⟨a, 0, none⟩) 3 3, .slice (some ⟨b, 0, none⟩) 1 1, .slice (some ⟨c, 0, none⟩) 1 1] 37) = W3 := ⟨_, rfl⟩
  rw [hW3] at HP2 HO2 HA2 HQ2 HI2 HB2
  have HW3 := Lib.hid hW3
  have HQq := Lib.hid hq
  clear hW3 hq
  go_upto_region 3 with fail
  rw [HW3.out, HQq.out]
  clear HW3 HQq
  have BZ := over (below_alloc W3 (.cells #[.int .i64 0, .int .i64 1, .int .i64 1, .int .i64 0] 45)) (below_alloc (W3.alloc (.cells #[.int .i64 0, .int .i64 1, .int .i64 1, .int .i64 0] 45)) (.cells #[.int .i64 0, .int .i64 3] 45))
  have P1 := ps_below (ps_cells W3 [(0, 1), (1, 0)] 2 45) (below_alloc _ (.cells #[.int .i64 0, .int .i64 3] 45))
  have P2 := ps_cells (W3.alloc (.cells #[.int .i64 0, .int .i64 1, .int .i64 1, .int .i64 0] 45)) [(0, 3)] 1 45
  rw [show (W3.alloc (.cells #[.int .i64 0, .int .i64 1, .int .i64 1, .int .i64 0] 45)).heap.size = W3.heap.size + 1 by simp] at P2
  have K3 := Lib.hid (rulesCheck_n 3 (.slice (some ⟨W3.heap.size, 0, none⟩) 2 2) (.slice (some ⟨W3.heap.size + 1, 0, none⟩) 1 1) [(0, 1), (1, 0)] [(0, 3)] (by omega) (by simp) (by simp) ex64.1 ex64.2 ((W3.alloc (.cells #[.int .i64 0, .int .i64 1, .int .i64 1, .int .i64 0] 45)).alloc (.cells #[.int .i64 0, .int .i64 3] 45)) ((HE.out.over HB2.out).over BZ) P1 P2)
  have HBZ := Lib.hid BZ
  clear BZ P1 P2
  go_wp2_with fail
  refine K3.out.mono ?_
  intro e w4 h
  rw [ex_chk] at h
  obtain ⟨oa4, c4, rfl, ⟨hf4, -, -⟩, b4⟩ := h
  have bz := over HBZ.out b4
  obtain ⟨oa4', c4', hv4, hF4⟩ := hf4
  simp only [Value.slice.injEq] at hv4
  obtain ⟨rfl, -, rfl⟩ := hv4
  obtain ⟨fb, fo, rfl, hfb, f0, f1⟩ := hF4 0 (by simp)
  obtain ⟨fb', fo', hff, -, f2, f3⟩ := hF4 1 (by simp)
  simp only [Option.some.injEq, Addr.mk.injEq, and_true] at hff
  obtain ⟨rfl, rfl⟩ := hff
  have HP4 := Lib.hid (ps_below HP2.out bz)
  have HO4 := Lib.hid (HO2.out.below bz)
  have HA4 := Lib.hid (ps_below HA2.out bz)
  have HQ4 := Lib.hid (ps_below HQ2.out bz)
  have HI4 := HI2.out.below bz
  have HB4 := Lib.hid (over HB2.out bz)
  have HE4 := Lib.hid (HE.out.over HB4.out)
  clear b4 bz hF4 HP2 HO2 HA2 HQ2 HI2 HB2 HE HBZ K3
  have f0 : w4.cell? ⟨fb, fo, none⟩ = some (.int .i64 6) := by simpa [fE] using f0
  have f1 : w4.cell? ⟨fb, fo + 1, none⟩ = some (.string ⟨#[97, 112, 97, 114, 116, 32, 49]⟩) := by simpa [fA] using f1
  have f2 : w4.cell? ⟨fb, fo + 2, none⟩ = some (.int .i64 2) := by simpa [fE] using f2
  have f3 : w4.cell? ⟨fb, fo + 2 + 1, none⟩ = some (.string ⟨#[98, 101, 102, 111, 114, 101, 32, 48]⟩) := by simpa [fA] using f3
  have HI4 := Lib.hid HI4
  have bz := below_alloc w4 (.cells #[.int .i64 1, .int .i64 0, .int .i64 2, .int .i64 0, .int .i64 2, .int .i64 1] 45)
  have KP := Lib.hid (pairsEq_n (.slice oa1 3 c1) (.slice (some ⟨w4.heap.size, 0, none⟩) 3 3) [(1, 0), (2, 0), (2, 1)] (by simp) (w4.alloc (.cells #[.int .i64 1, .int .i64 0, .int .i64 2, .int .i64 0, .int .i64 2, .int .i64 1] 45)) (ps_below HP4.out bz) (ps_cells w4 [(1, 0), (2, 0), (2, 1)] 3 45))
  have HBa := Lib.hid bz
  clear bz HP4
  go_wp2_with fail
  refine KP.out.mono ?_
  rintro e w5 ⟨rfl, b5⟩
  have b5 := over HBa.out b5
  have f0 := (b5.cell (p := ⟨fb, _, none⟩) hfb).trans f0
  have f1 := (b5.cell (p := ⟨fb, _, none⟩) hfb).trans f1
  have f2 := (b5.cell (p := ⟨fb, _, none⟩) hfb).trans f2
  have f3 := (b5.cell (p := ⟨fb, _, none⟩) hfb).trans f3
  have HO5 := Lib.hid (HO4.out.below b5)
  have HA5 := Lib.hid (ps_below HA4.out b5)
  have HQ5 := Lib.hid (ps_below HQ4.out b5)
  have HI5 := Lib.hid (HI4.out.below b5)
  have HB5 := Lib.hid (over HB4.out b5)
  have HE5 := Lib.hid (HE4.out.over b5)
  clear HO4 HA4 HQ4 HI4 HB4 HE4
  clear b5 KP HBa hfb
  have q1 := eqlFault 6 ⟨#[97, 112, 97, 114, 116, 32, 49]⟩
  have q2 := eqlFault 2 ⟨#[98, 101, 102, 111, 114, 101, 32, 48]⟩
  have hgf : Tryd.prog.eqGuardType Tryd.prog.depth 28 = false := by kernel_rfl
  have i0_5 := HI5.out.c0
  have i1_5 := HI5.out.c1
  have i2_5 := HI5.out.c2
  have i3_5 := HI5.out.c3
  have i4_5 := HI5.out.c4
  have i5_5 := HI5.out.c5
  have K6 := Lib.hid (rulesAllowed_n none none none (some ⟨a, 0, none⟩) (some ⟨b, 0, none⟩) (some ⟨c, 0, none⟩) 0 0 0 0 0 0 3 1 1 [or0, or0, or0] [(0, 1)] [(2, 1)] 6 (by omega) (by simp) ex_rt.2.1 ex_rt.2.2 (by simp) (by simp) w5 HE5.out HO5.out HA5.out HQ5.out)
  simp only [List.length_cons, List.length_nil, Nat.zero_add, Nat.reduceAdd] at K6
  rw [ex_al.1] at K6
  go_wp2_with fail
  refine K6.out.mono ?_
  rintro e w6 ⟨rfl, b6⟩
  have HO6 := Lib.hid (HO5.out.below b6)
  have HA6 := Lib.hid (ps_below HA5.out b6)
  have HQ6 := Lib.hid (ps_below HQ5.out b6)
  have HI6 := Lib.hid (HI5.out.below b6)
  have HB6 := Lib.hid (over HB5.out b6)
  have HE6 := Lib.hid (HE5.out.over b6)
  clear HO5 HA5 HQ5 HI5 HB5 HE5
  clear b6 K6 i0_5 i1_5 i2_5 i3_5 i4_5 i5_5 f0 f1 f2 f3 q1 q2
  have i0_6 := HI6.out.c0
  have i1_6 := HI6.out.c1
  have i2_6 := HI6.out.c2
  have i3_6 := HI6.out.c3
  have i4_6 := HI6.out.c4
  have i5_6 := HI6.out.c5
  have K7 := Lib.hid (rulesAllowed_n none none none (some ⟨a, 0, none⟩) (some ⟨b, 0, none⟩) (some ⟨c, 0, none⟩) 0 0 0 0 0 0 3 1 1 [or0, or0, or0] [(0, 1)] [(2, 1)] 2 (by omega) (by simp) ex_rt.2.1 ex_rt.2.2 (by simp) (by simp) w6 HE6.out HO6.out HA6.out HQ6.out)
  simp only [List.length_cons, List.length_nil, Nat.zero_add, Nat.reduceAdd] at K7
  rw [ex_al.2.1] at K7
  go_wp2_with fail
  refine K7.out.mono ?_
  rintro e w7 ⟨rfl, b7⟩
  have HO7 := Lib.hid (HO6.out.below b7)
  have HA7 := Lib.hid (ps_below HA6.out b7)
  have HQ7 := Lib.hid (ps_below HQ6.out b7)
  have HI7 := Lib.hid (HI6.out.below b7)
  have HB7 := Lib.hid (over HB6.out b7)
  have HE7 := Lib.hid (HE6.out.over b7)
  clear HO6 HA6 HQ6 HI6 HB6 HE6
  clear b7 K7 i0_6 i1_6 i2_6 i3_6 i4_6 i5_6
  have i0_7 := HI7.out.c0
  have i1_7 := HI7.out.c1
  have i2_7 := HI7.out.c2
  have i3_7 := HI7.out.c3
  have i4_7 := HI7.out.c4
  have i5_7 := HI7.out.c5
  have K8 := Lib.hid (rulesAllowed_n none none none (some ⟨a, 0, none⟩) (some ⟨b, 0, none⟩) (some ⟨c, 0, none⟩) 0 0 0 0 0 0 3 1 1 [or0, or0, or0] [(0, 1)] [(2, 1)] 7 (by omega) (by simp) ex_rt.2.1 ex_rt.2.2 (by simp) (by simp) w7 HE7.out HO7.out HA7.out HQ7.out)
  simp only [List.length_cons, List.length_nil, Nat.zero_add, Nat.reduceAdd] at K8
  rw [ex_al.2.2.1] at K8
  go_wp2_with fail
  refine K8.out.mono ?_
  rintro e w8 ⟨rfl, b8⟩
  have HO8 := Lib.hid (HO7.out.below b8)
  have HA8 := Lib.hid (ps_below HA7.out b8)
  have HQ8 := Lib.hid (ps_below HQ7.out b8)
  have HI8 := Lib.hid (HI7.out.below b8)
  have HB8 := Lib.hid (over HB7.out b8)
  have HE8 := Lib.hid (HE7.out.over b8)
  clear HO7 HA7 HQ7 HI7 HB7 HE7
  clear b8 K8 i0_7 i1_7 i2_7 i3_7 i4_7 i5_7
  have i0_8 := HI8.out.c0
  have i1_8 := HI8.out.c1
  have i2_8 := HI8.out.c2
  have i3_8 := HI8.out.c3
  have i4_8 := HI8.out.c4
  have i5_8 := HI8.out.c5
  have K9 := Lib.hid (rulesAllowed_n none none none (some ⟨a, 0, none⟩) (some ⟨b, 0, none⟩) (some ⟨c, 0, none⟩) 0 0 0 0 0 0 3 1 1 [or0, or0, or0] [(0, 1)] [(2, 1)] 8 (by omega) (by simp) ex_rt.2.1 ex_rt.2.2 (by simp) (by simp) w8 HE8.out HO8.out HA8.out HQ8.out)
  simp only [List.length_cons, List.length_nil, Nat.zero_add, Nat.reduceAdd] at K9
  rw [ex_al.2.2.2] at K9
  go_wp2_with fail
  refine K9.out.mono ?_
  rintro e w9 ⟨rfl, b9⟩
  have HO9 := Lib.hid (HO8.out.below b9)
  have HA9 := Lib.hid (ps_below HA8.out b9)
  have HQ9 := Lib.hid (ps_below HQ8.out b9)
  have HI9 := Lib.hid (HI8.out.below b9)
  have HB9 := Lib.hid (over HB8.out b9)
  have HE9 := Lib.hid (HE8.out.over b9)
  clear HO8 HA8 HQ8 HI8 HB8 HE8
  clear b9 K9 i0_8 i1_8 i2_8 i3_8 i4_8 i5_8
  have i0_9 := HI9.out.c0
  have i1_9 := HI9.out.c1
  have i2_9 := HI9.out.c2
  have i3_9 := HI9.out.c3
  have i4_9 := HI9.out.c4
  have i5_9 := HI9.out.c5
  have K10 := Lib.hid (rulesNeeds_n none none none (some ⟨a, 0, none⟩) (some ⟨b, 0, none⟩) (some ⟨c, 0, none⟩) 0 0 0 0 0 0 3 1 1 [or0, or0, or0] [(0, 1)] [(2, 1)] 1 (by omega) (by simp) ex_rt.2.1 ex_rt.2.2 (by simp) (by simp) w9 HE9.out HO9.out HA9.out HQ9.out)
  simp only [List.length_cons, List.length_nil, Nat.zero_add, Nat.reduceAdd] at K10
  rw [ex_ne.1] at K10
  go_wp2_with fail
  refine K10.out.mono ?_
  rintro e w10 ⟨rfl, b10⟩
  have HO10 := Lib.hid (HO9.out.below b10)
  have HA10 := Lib.hid (ps_below HA9.out b10)
  have HQ10 := Lib.hid (ps_below HQ9.out b10)
  have HI10 := Lib.hid (HI9.out.below b10)
  have HB10 := Lib.hid (over HB9.out b10)
  have HE10 := Lib.hid (HE9.out.over b10)
  clear HO9 HA9 HQ9 HI9 HB9 HE9
  clear b10 K10 i0_9 i1_9 i2_9 i3_9 i4_9 i5_9
  have i0_10 := HI10.out.c0
  have i1_10 := HI10.out.c1
  have i2_10 := HI10.out.c2
  have i3_10 := HI10.out.c3
  have i4_10 := HI10.out.c4
  have i5_10 := HI10.out.c5
  have K11 := Lib.hid (rulesNever_n none none none (some ⟨a, 0, none⟩) (some ⟨b, 0, none⟩) (some ⟨c, 0, none⟩) 0 0 0 0 0 0 3 1 1 [or0, or0, or0] [(0, 1)] [(2, 1)] (by simp) ex_rt.2.1 ex_rt.2.2 (by simp) (by simp) w10 HE10.out HO10.out HA10.out HQ10.out)
  simp only [List.length_cons, List.length_nil, Nat.zero_add, Nat.reduceAdd] at K11
  rw [ex_ne.2] at K11
  go_wp2_with fail
  refine K11.out.mono ?_
  rintro e w11 ⟨rfl, b11⟩
  have HO11 := Lib.hid (HO10.out.below b11)
  have HA11 := Lib.hid (ps_below HA10.out b11)
  have HQ11 := Lib.hid (ps_below HQ10.out b11)
  have HI11 := Lib.hid (HI10.out.below b11)
  have HB11 := Lib.hid (over HB10.out b11)
  have HE11 := Lib.hid (HE10.out.over b11)
  clear HO10 HA10 HQ10 HI10 HB10 HE10
  clear b11 K11 i0_10 i1_10 i2_10 i3_10 i4_10 i5_10
  go_wp2_with fail
  go_ret
  exact ⟨rfl, HB11.out⟩

end Go.Proofs.YtmoilpkgoabopaaDoor.T

