/-
  DERIVED. The walks of the landed rules' compare and Closure, over the library's slices.SortFunc.
-/
import Derived.Test.YtmoilpkgoabopaaDoorRuTop7
import Derived.Deep.RegionHeld3
namespace Go.Proofs.YtmoilpkgoabopaaDoor.T
open Go.RowKit Go.Sort Go.Lib
set_option maxRecDepth 8000

/-! ### the sort's rows -/
/-- a pair's two cells -/
def encQ (x : Int × Int) : List Value := [.int .i64 x.1, .int .i64 x.2]
theorem flat_F {l : List (Int × Int)} {j : Nat} (hj : j < l.length * 2) : (flat pT pA l)[j]? = some ((flatK encQ 2 l.toArray)[j]!) := by
  have hk : j / 2 < l.length := by omega
  obtain ⟨f0, f1⟩ := flat_at (E0 := pT) (E1 := pA) (d := ((0 : Int), (0 : Int))) l (j / 2) hk
  rw [get_flatK encQ 2 l.toArray j (by simpa using hj)]
  have e : (l.toArray)[j / 2]! = l.getD (j / 2) (0, 0) := by
    rw [getElem!_pos _ _ (by simpa using hk), List.getD_eq_getElem?_getD, List.getElem?_eq_getElem hk]; rfl
  rw [e]
  rcases Nat.mod_two_eq_zero_or_one j with h | h
  · rw [h, show j = j / 2 * 2 by omega, f0, show j / 2 * 2 / 2 = j / 2 by omega]; rfl
  · rw [h, show j = j / 2 * 2 + 1 by omega, f1, show (j / 2 * 2 + 1) / 2 = j / 2 by omega]; rfl
theorem gq_holds {B : Nat} {w : World} {g cap : Nat} {l : List (Int × Int)} (h : Gq B w (.slice (some ⟨g, 0, none⟩) l.length cap) l) : HoldsK encQ 2 w g 0 l.toArray := by
  intro j hj
  rw [size_flatK] at hj
  have hj2 : j < l.length * 2 := by simpa using hj
  rw [Nat.zero_add]
  refine ⟨?_, World.ownsRow.frozenAt h.own j⟩
  rw [World.ownsRow.cellAt h.own j hj2, flat_F hj2]; rfl
theorem gq_sorted {B : Nat} {w : World} {g cap n : Nat} {l l' : List (Int × Int)} {os : Array Obj} (h : Gq B w (.slice (some ⟨g, 0, none⟩) l.length cap) l) (hl : l'.length = l.length) :
    Gq B (sortWorldK encQ 2 w g 0 n l'.toArray os) (.slice (some ⟨g, 0, none⟩) l.length cap) l' ∧ w.grownBy (sortWorldK encQ 2 w g 0 n l'.toArray os) (some g) := by
  have hheap : (sortWorldK encQ 2 w g 0 n l'.toArray os).heap = w.heap.modify g (onCells (putCells id 0 (flatK encQ 2 l'.toArray))) ++ os := rfl
  have hsz : (w.heap.modify g (onCells (putCells id 0 (flatK encQ 2 l'.toArray)))).size = w.heap.size := Array.size_modify
  constructor
  · rcases h.2 with ⟨h', _⟩ | ⟨g', cap', cur, h', hb, hg, hnc, hcm, hcs, htake⟩
    · cases h'
    · simp only [Value.slice.injEq, Option.some.injEq, Addr.mk.injEq, and_true, true_and] at h'
      obtain ⟨rfl, rfl⟩ := h'
      have hlt : g < w.heap.size := (Array.getElem?_eq_some_iff.1 hg).1
      refine (⟨by rw [flat_len, hl], .inr ⟨g, cap, putCells id 0 (flatK encQ 2 l'.toArray) cur, by rw [hl], hb, ?_, by rw [hl]; exact hnc, hcm, by unfold putCells; rw [Array.size_mapIdx]; exact hcs, ?_⟩⟩ : World.ownsRow _ B 45 2 (.slice (some ⟨g, 0, none⟩) l.length cap) l'.length (flat pT pA l'))
      · rw [hheap, Array.getElem?_append_left (by rw [hsz]; exact hlt), Array.getElem?_modify, if_pos rfl, hg]; rfl
      · apply List.ext_getElem?
        intro j
        by_cases hj : j < l'.length * 2
        · have hjc : j < cur.size := by rw [hcs]; rw [hl] at hj; have : l.length * 2 ≤ cap * 2 := Nat.mul_le_mul_right 2 hnc; omega
          rw [List.getElem?_take_of_lt hj, Array.getElem?_toList, flat_F hj]
          unfold putCells
          rw [Array.getElem?_mapIdx, Array.getElem?_eq_getElem hjc, Option.map_some, if_pos ⟨Nat.zero_le _, by rw [size_flatK]; simpa using hj⟩]
          rfl
        · rw [List.getElem?_eq_none (by rw [List.length_take]; omega), List.getElem?_eq_none (by rw [flat_len]; omega)]
  · refine ⟨rfl, rfl, rfl, by rw [hheap, Array.size_append, hsz]; omega, fun k hk hne => ?_⟩
    rw [hheap, Array.getElem?_append_left (by rw [hsz]; exact hk), Array.getElem?_modify, if_neg (fun e => hne (by rw [e]))]

/-! ### the order of pairs -/
def cfP (x y : Int × Int) : Int := if compareInt x.1 y.1 = 0 then compareInt x.2 y.2 else compareInt x.1 y.1
theorem lt_cf (x y : Int × Int) : ltOf cfP x y = decide (x.1 < y.1 ∨ (x.1 = y.1 ∧ x.2 < y.2)) := by
  unfold ltOf cfP compareInt
  by_cases h1 : x.1 < y.1
  · simp [h1]
  · by_cases h2 : y.1 < x.1
    · simp [h1, h2]; omega
    · by_cases h3 : x.2 < y.2
      · simp [h1, h2, h3]; omega
      · by_cases h4 : y.2 < x.2
        · simp [h1, h2, h3, h4]
        · simp [h1, h2, h3, h4]
theorem swoQ : SWO (ltOf cfP) where
  irrefl x := by rw [lt_cf, decide_eq_false_iff_not]; omega
  trans x y z h1 h2 := by rw [lt_cf, decide_eq_true_iff] at *; omega
  ntrans x y z h1 h2 := by rw [lt_cf, decide_eq_false_iff_not] at *; omega
theorem totQ (x y : Int × Int) (h1 : ltOf cfP x y = false) (h2 : ltOf cfP y x = false) : x = y := by
  rw [lt_cf, decide_eq_false_iff_not] at h1 h2
  exact Prod.ext (by omega) (by omega)
/-- a list without twice, sorted, ascends -/
theorem sort_up {c : List (Int × Int)} (h : c.Nodup) : (c.mergeSort fun x y => !(ltOf cfP) y x).Pairwise U.LtP ∧ ∀ x, x ∈ (c.mergeSort fun x y => !(ltOf cfP) y x) ↔ x ∈ c := by
  have h1 := List.pairwise_mergeSort (le := fun x y => !(ltOf cfP) y x) (fun a b c h1 h2 => by
    rw [Bool.not_eq_true'] at *
    exact swoQ.ntrans _ _ _ h2 h1) (fun a b => by
    rw [Bool.or_eq_true, Bool.not_eq_true', Bool.not_eq_true']
    rw [lt_cf, lt_cf, decide_eq_false_iff_not, decide_eq_false_iff_not]
    omega) c
  have hp := List.mergeSort_perm c (fun x y => !(ltOf cfP) y x)
  have h2 : (c.mergeSort fun x y => !(ltOf cfP) y x).Nodup := (hp.nodup_iff).2 h
  refine ⟨?_, fun x => hp.mem_iff⟩
  have h3 := h1.and (List.nodup_iff_pairwise_ne.1 h2)
  refine h3.imp ?_
  intro a b ⟨hab, hne⟩
  rw [Bool.not_eq_true', lt_cf, decide_eq_false_iff_not] at hab
  unfold U.LtP
  have : ¬ (a.1 = b.1 ∧ a.2 = b.2) := fun h => hne (Prod.ext h.1 h.2)
  omega

/-! ### cmp.Or and compare -/
theorem or_n (g : Nat) (a b : Int) (w : World) (h0 : w.cell? ⟨g, 0, none⟩ = some (.int .i64 a)) (h1 : w.cell? ⟨g, 1, none⟩ = some (.int .i64 b)) :
    Calls Tryd.prog 48 #[.slice (some ⟨g, 0, none⟩) 2 2] w fun e w' => e = .returned (.int .i64 (if a = 0 then b else a)) ∧ w' = w := by
  have HR : Hid (∀ r, (if a = 0 then b else a) = r ↔ (if a = 0 then b else a) = r) := fun _ => Iff.rfl
  have HA : Hid (a ≠ 0 → a = if a = 0 then b else a) := fun h => by rw [if_neg h]
  have HB : Hid (a = 0 → b = if a = 0 then b else a) := fun h => by rw [if_pos h]
  generalize (if a = 0 then b else a) = r at *
  clear HR
  go_enter Tryd.func48, Tryd.ntmps48
  go_wp2_with fail
  go_loopg [8] 2 (fun g2 j wr => ∃ k : Nat, k ≤ 2 ∧ j = .int .i64 k ∧ 2 - k ≤ g2 ∧ Hid (1 ≤ k → a = 0) ∧ Hid (2 ≤ k → b = 0) ∧ w = wr)
  case atStart => exact ⟨0, Nat.zero_le _, rfl, Nat.le_refl _, fun h => absurd h (by decide), fun h => absurd h (by decide), rfl⟩
  case round =>
    obtain ⟨k, hk, rfl, hg, H1, H2, rfl⟩ := hrel
    by_cases hk0 : k = 0
    · subst hk0
      by_cases ha : a = 0
      · have haI : (a != 0) = false := by rw [ha]; rfl
        have HA0 := Lib.hid ha
        clear ha
        go_wp2_with fail
        go_roundg 1
        case measure => omega
        case rel => exact ⟨1, by omega, by go_num, by omega, fun _ => HA0.out, fun h => absurd h (by decide), rfl⟩
      · have haI : (a != 0) = true := by rw [bne_iff_ne]; exact ha
        have HX := Lib.hid (HA.out ha)
        clear ha
        go_wp2_with fail
        go_ret
        exact ⟨ret_int HX.out, rfl⟩
    · by_cases hk1 : k = 1
      · subst hk1
        have HX := Lib.hid (HB.out (H1.out (Nat.le_refl _)))
        by_cases hb : b = 0
        · have hbI : (b != 0) = false := by rw [hb]; rfl
          have HB0 := Lib.hid hb
          clear hb
          go_wp2_with fail
          go_roundg 0
          case measure => omega
          case rel => exact ⟨2, by omega, by go_num, by omega, fun _ => H1.out (Nat.le_refl _), fun _ => HB0.out, rfl⟩
        · have hbI : (b != 0) = true := by rw [bne_iff_ne]; exact hb
          clear hb
          go_wp2_with fail
          go_ret
          exact ⟨ret_int HX.out, rfl⟩
      · have hk2 : k = 2 := by omega
        subst hk2
        have HX : Hid (0 = r) := by
          show _ = _
          rw [← HB.out (H1.out (by omega))]; exact (H2.out (Nat.le_refl _)).symm
        go_wp2_with fail
        go_ret
        exact ⟨ret_int HX.out, rfl⟩
theorem two_at (w : World) (a b : Value) (t : TypeId) : (w.alloc (.cells #[a, b] t)).cell? ⟨w.heap.size, 0, none⟩ = some a ∧ (w.alloc (.cells #[a, b] t)).cell? ⟨w.heap.size, 1, none⟩ = some b := by
  have h : (w.alloc (.cells #[a, b] t)).heap[w.heap.size]? = some (.cells #[a, b] t) := by
    show (w.heap.push _)[w.heap.size]? = _
    simp
  exact ⟨by simp only [World.cell?]; rw [h]; rfl, by simp only [World.cell?]; rw [h]; rfl⟩
set_option maxHeartbeats 3200000 in
theorem compare_n (x y : Int × Int) (W : World) :
    Calls Tryd.prog 30 #[.agg #[.int .i64 x.1, .int .i64 x.2], .agg #[.int .i64 y.1, .int .i64 y.2]] W fun e w' => e = .returned (.int .i64 (cfP x y)) ∧ ∃ q os', w' = grow (W.drewN q) os' := by
  have K1 := Lib.hid (fun w => Tryd.cmp_Compare_int x.1 y.1 w)
  have K2 := Lib.hid (fun w => Tryd.cmp_Compare_int x.2 y.2 w)
  have HR : Hid ((if compareInt x.1 y.1 = 0 then compareInt x.2 y.2 else compareInt x.1 y.1) = cfP x y) := rfl
  generalize cfP x y = r at *
  generalize compareInt x.1 y.1 = c1 at *
  generalize compareInt x.2 y.2 = c2 at *
  have KO := Lib.hid (fun g w h0 h1 => or_n g c1 c2 w h0 h1)
  rw [HR.out] at KO
  generalize x.1 = x1 at *
  generalize x.2 = x2 at *
  generalize y.1 = y1 at *
  generalize y.2 = y2 at *
  have Q0 := (Qb.made W x1 x2).below (below_alloc _ (.cells #[.int .i64 y1, .int .i64 y2] 45))
  have Q1 := Qb.made (W.alloc (.cells #[.int .i64 x1, .int .i64 x2] 45)) y1 y2
  rw [World.size_alloc] at Q1
  have HG : Hid (∀ o : Obj, ∃ os', ((W.alloc (.cells #[.int .i64 x1, .int .i64 x2] 45)).alloc (.cells #[.int .i64 y1, .int .i64 y2] 45)).drew.alloc o = grow (W.drewN 1) os') := fun o => ⟨#[.cells #[.int .i64 x1, .int .i64 x2] 45] ++ #[.cells #[.int .i64 y1, .int .i64 y2] 45] ++ #[o], by
    rw [← grow_grow, ← grow_grow, alloc_eq_grow, alloc_eq_grow, alloc_eq_grow]; rfl⟩
  obtain ⟨W1, hW1⟩ : ∃ W1, (W.alloc (.cells #[.int .i64 x1, .int .i64 x2] 45)).alloc (.cells #[.int .i64 y1, .int .i64 y2] 45) = W1 := ⟨_, rfl⟩
  rw [hW1] at Q0 Q1 HG
  have HW1 := Lib.hid hW1
  obtain ⟨q0, hq0⟩ : ∃ q, W.heap.size = q := ⟨_, rfl⟩
  rw [hq0] at Q0 Q1
  have HQ0 := Lib.hid hq0
  have hl0 : q0 < W1.drew.heap.size := Q0.lt
  have hl1 : q0 + 1 < W1.drew.heap.size := Q1.lt
  have i0 : W1.drew.cell? ⟨q0, 0, none⟩ = some (.int .i64 x1) := Q0.c0
  have i1 : W1.drew.cell? ⟨q0, 1, none⟩ = some (.int .i64 x2) := Q0.c1
  have i2 : W1.drew.cell? ⟨q0 + 1, 0, none⟩ = some (.int .i64 y1) := Q1.c0
  have i3 : W1.drew.cell? ⟨q0 + 1, 1, none⟩ = some (.int .i64 y2) := Q1.c1
  clear hW1 hq0 Q0 Q1
  have ba := below_alloc W1.drew (.cells #[.int .i64 c1, .int .i64 c2] 3)
  have j0 := (ba.cell (p := ⟨q0, 0, none⟩) hl0).trans i0
  have j1 := (ba.cell (p := ⟨q0, 1, none⟩) hl0).trans i1
  have j2 := (ba.cell (p := ⟨q0 + 1, 0, none⟩) hl1).trans i2
  have j3 := (ba.cell (p := ⟨q0 + 1, 1, none⟩) hl1).trans i3
  obtain ⟨k0, k1⟩ := two_at W1 (.int .i64 c1) (.int .i64 c2) 3
  have KO1 := Lib.hid (KO.out W1.heap.size ((W1.alloc (.cells #[.int .i64 c1, .int .i64 c2] 3)).drew) k0 k1)
  clear ba KO hl0 hl1
  go_enter Tryd.func30, Tryd.ntmps30
  go_upto_region 1 with fail
  rw [HW1.out, HQ0.out]
  go_region_held3 (fun w' => w'.cell? ⟨q0, 0, none⟩ = some (.int .i64 x1) ∧ w'.cell? ⟨q0, 1, none⟩ = some (.int .i64 x2) ∧ w'.cell? ⟨q0 + 1, 0, none⟩ = some (.int .i64 y1) ∧ w'.cell? ⟨q0 + 1, 1, none⟩ = some (.int .i64 y2))
    (first | exact ⟨i0, i1, i2, i3⟩ | exact ⟨j0, j1, j2, j3⟩)
    (first
      | (go_at_call 49; (with_reducible refine (K1.out _).mono ?_); rintro e w1 ⟨rfl, rfl⟩)
      | (go_at_call 49; (with_reducible refine (K2.out _).mono ?_); rintro e w1 ⟨rfl, rfl⟩)
      | (go_at_call 48; (with_reducible refine KO1.out.mono ?_); rintro e w1 ⟨rfl, rfl⟩))
  all_goals
    go_wp2_with fail
    go_ret
    obtain ⟨os', h⟩ := HG.out (.cells #[.int .i64 c1, .int .i64 c2] 3)
    exact ⟨rfl, 1, os', h⟩

/-! ### Closure -/
theorem cmpQ (blk off size : Nat) (w : World) : Go.Proofs.CmpLays Tryd.prog 30 #[] encQ 2 cfP blk off size w :=
  fun _ _ _ _ x y => compare_n x y _
theorem sortQ (B g cap : Nat) (c : List (Int × Int)) (hc : c.length ≤ 1000) (w : World) (h : Gq B w (.slice (some ⟨g, 0, none⟩) c.length cap) c) :
    Calls Tryd.prog 29 #[.slice (some ⟨g, 0, none⟩) c.length cap, .func (.func 30) #[] #[]] w fun e w' => e = .returned (.tuple #[]) ∧ Gq B w' (.slice (some ⟨g, 0, none⟩) c.length cap) (c.mergeSort fun x y => !(ltOf cfP) y x) ∧ w.grownBy w' (some g) := by
  have eg : ∀ args w, (callFunc 30 args).run Tryd.prog w = .ok (.enter 30 args) w := enters_of Tryd.func30 (by kernel_rfl) rfl
  have hg : g < w.heap.size := (World.ownsRow.lt h.own g rfl).2
  have hcon := Tryd.slices_SortFunc_total 2 Tryd.isAgg45 Tryd.sizeOf45 encQ (fun _ => rfl) (fun x v hv => by simp [encQ] at hv; rcases hv with rfl | rfl <;> rfl) cfP swoQ 30 #[] g 0 cap c.toArray w eg (cmpQ g 0 _ w) (gq_holds h) hg (by simp; omega) totQ
  rw [show c.toArray.size = c.length from rfl] at hcon
  refine hcon.mono ?_
  rintro e w' ⟨rfl, n, os, rfl⟩
  obtain ⟨h1, h2⟩ := gq_sorted (n := n) (os := os) (l' := c.mergeSort fun x y => !(ltOf cfP) y x) h (List.length_mergeSort ..)
  exact ⟨rfl, h1, h2⟩
set_option maxHeartbeats 3200000 in
theorem closure_t (n : Nat) (v : Value) (l : List (Int × Int)) (hn : n ≤ 10) (hr : U.Rt n l) (hl : l.length ≤ 16) (w : World) (hv : Ps w v l) :
    Calls Tryd.prog 14 #[.int .i64 n, v] w (PrsP (U.cloL n l) w) := by
  have K1 := Lib.hid (joined_n n v l hn hr (by omega) w hv)
  obtain ⟨oa, cu, rfl, -⟩ := hv
  have HC : Hid (∀ c d, U.JoI l c → (∀ p ∈ l, p ∈ c) → (∀ p ∈ c, ∀ q ∈ l, q.1 = p.2 → (p.1, q.2) ∈ c) → (∀ x, x ∈ d ↔ x ∈ c) → d.Pairwise U.LtP → d = U.cloL n l) := fun c d h1 h2 h3 h4 h5 => U.jo_clo hr h1 h2 h3 h4 h5
  have HLn := Lib.hid (fun c (h : U.JoI l c) => h.len hr hn)
  generalize U.cloL n l = r at *
  generalize l.length = m at *
  have hmI : ¬ (256 : Int) < (m : Int) := by omega
  clear hr
  go_enter Tryd.func14, Tryd.ntmps14
  go_wp2_with fail
  refine K1.out.mono ?_
  rintro e w1 ⟨v1, c, rfl, hg1, hj, hin, hcl, b1⟩
  have HB1 := Lib.hid b1
  have hc9 := HLn.out c hj
  have HX : Hid ((c.mergeSort fun x y => !(ltOf cfP) y x) = r) := HC.out c _ hj hin hcl (sort_up hj.nd).2 (sort_up hj.nd).1
  clear K1 hj hin hcl b1 HC HLn
  rcases hg1.2 with ⟨hv1, h0⟩ | ⟨g, cap, cur, hv1, hbg, -⟩
  · subst hv1
    have hcn : c = [] := List.eq_nil_of_length_eq_zero h0
    have HR : Hid (r = []) := by show _ = _; rw [← HX.out, hcn]; simp
    have HG1 : Hid (Gq w.heap.size w1 (.slice none 0 0) r) := by show Gq _ _ _ _; rw [HR.out]; exact Gq.nil _ _
    have KS := Lib.hid (Tryd.slices_SortFunc_none (α := Int × Int) none 0 (.func (.func 30) #[] #[]) w1)
    clear hg1 h0 hcn
    go_wp2_with fail
    refine KS.out.mono ?_
    rintro e w2 ⟨rfl, rfl⟩
    go_wp2_with fail
    go_ret
    exact prsP HG1.out HB1.out (Nat.le_refl _)
  · subst hv1
    have KS := Lib.hid (sortQ w.heap.size g cap c (by omega) w1 hg1)
    have hsz := HB1.out.size
    generalize (c.mergeSort fun x y => !(ltOf cfP) y x) = d at *
    generalize c.length = nc at *
    clear hg1
    go_wp2_with fail
    refine KS.out.mono ?_
    rintro e w2 ⟨rfl, hg2, hgr⟩
    have HG2 : Hid (Gq w.heap.size w2 (.slice (some ⟨g, 0, none⟩) nc cap) r) := by show Gq _ _ _ _; rw [← HX.out]; exact hg2
    have HB2 : Hid (Below w.heap.size w w2) := HB1.out.grown hgr hsz (fun x e => by simp only [Option.some.injEq] at e; omega)
    clear hg2 hgr KS
    go_wp2_with fail
    go_ret
    exact prsP HG2.out HB2.out (Nat.le_refl _)

end Go.Proofs.YtmoilpkgoabopaaDoor.T

