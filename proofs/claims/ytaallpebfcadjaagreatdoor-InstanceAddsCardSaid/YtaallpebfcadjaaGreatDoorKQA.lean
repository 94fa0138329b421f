/-
  DERIVED. KQA: a part of the base of layer 13 (made by pack.py).
-/
import Derived.WideKeyPair
import Derived.Test.YtaallpebfcadjaaGreatDoorKPX
import Derived.Laws.StructEq
import Derived.ChangeKeysEq
import Derived.Test.YtaallpebfcadjaaGreatDoorKPJ
import Derived.Test.YtaallpebfcadjaaGreatDoorKPK
import Derived.Test.YtaallpebfcadjaaGreatDoorKPR
import Derived.Test.YtaallpebfcadjaaGreatDoorKPU
/-! Maps of pairs that a call makes itself; the library's table of powers of ten, and strconv.Itoa. -/
namespace Go.Proofs.YtaallpebfcadjaaGreatDoor.T
open Go.RowKit Go.WideMaps Go.WideShapes
set_option maxRecDepth 8000

theorem laidOutQ : laidOutB Tryz.prog = true := by kernel_rfl
theorem arrQ : ArrKey Tryz.prog 75 3 2 := ⟨Tryz.underlying75, by kernel_rfl, by kernel_rfl, by kernel_rfl⟩
theorem rowQ : (75 : TypeId) < Tryz.prog.types.size := of_decide_eq_true (by kernel_rfl)
theorem wideQ : (match Tryz.prog.underlying 75 with | some (.array _ _) | some (.struct _) => true | _ => false) = true := by rw [Tryz.underlying75]
theorem lawQ : Maps.Keyed Tryz.prog 75 := Maps.Keyed.of_law (deep_law_laid laidOutQ (m := 2) (by omega) rowQ (by kernel_rfl) wideQ)
/-- a pair, as a key reads -/
def pk (p : Int × Int) : Lit := .string (keyBytes [.int .i64 p.1, .int .i64 p.2])
def prV (p : Int × Int) : Value := .agg #[.int .i64 p.1, .int .i64 p.2]
theorem pairKey {p : Int × Int} (h : In64 p) : keyOf Tryz.prog 75 (prV p) = some (pk p) := by
  have h0 : 0 < Tryz.prog.types.size := of_decide_eq_true (by kernel_rfl)
  exact keyOf_pair arrQ Tryz.underlying3 ⟨Tryz.prog.types.size - 1, by omega⟩ (i64_wf h.1) (i64_wf h.2)
theorem pk_inj {p q : Int × Int} (hp : In64 p) (hq : In64 q) (h : pk p = pk q) : p = q := by
  have h1 := pairKey hp
  have h2 := pairKey hq
  rw [← h] at h2
  have h3 := lawQ.inj h1 h2
  unfold prV at h3
  simp only [Value.agg.injEq, Array.mk.injEq, List.cons.injEq, Value.int.injEq, true_and, and_true] at h3
  exact Prod.ext h3.1 h3.2
/-- block b is a map: of each pair what g says -/
def Pm (w : World) (b n : Nat) (g : Int × Int → Bool) : Prop :=
  ∃ D : DataW Unit, w.ownsMap Tryz.prog 75 (plainElem Tryz.prog 4) b n D ∧ ∀ p, In64 p → D.atKey (pk p) (.lit (.bool false)) = .lit (.bool (g p))
section
variable {w w' : World} {b n : Nat} {g g' : Int × Int → Bool}
theorem Pm.lt (h : Pm w b n g) : b < w.heap.size := by obtain ⟨D, h, _⟩ := h; exact h.lt
theorem Pm.of_block (h : Pm w b n g) (hb : w'.heap[b]? = w.heap[b]?) : Pm w' b n g := by
  obtain ⟨D, ⟨es, clock, h1, h2⟩, h⟩ := h
  exact ⟨D, ⟨es, clock, hb.trans h1, h2⟩, h⟩
theorem Pm.below (h : Pm w b n g) (hb : Below w.heap.size w w') : Pm w' b n g := h.of_block (hb.block b h.lt)
theorem Pm.grown {row : Option Nat} (h : Pm w b n g) (hg : w.grownBy w' row) (hne : some b ≠ row) : Pm w' b n g := h.of_block (hg.block b h.lt hne)
theorem Pm.ext (h : Pm w b n g) (e : ∀ p, g p = g' p) : Pm w b n g' := by
  obtain ⟨D, h1, h⟩ := h
  exact ⟨D, h1, fun s hs => by rw [← e s]; exact h s hs⟩
theorem Pm.made (w : World) : Pm (w.alloc (.map #[] 0)) w.heap.size 0 (fun _ => false) :=
  ⟨.map [], World.ownsMap_made w _ _ _, fun _ _ => rfl⟩
theorem Pm.put (h : Pm w b n g) (hn : n < maxLen) {p : Int × Int} (hp : In64 p) :
    ∃ w', (Instr.mapUpdate 137 (.map (some b)) (.agg #[.int .i64 p.1, .int .i64 p.2]) (.bool true)).run Tryz.prog w = .ok () w' ∧ Pm w' b (n + 1) (fun q => g q || (q == p)) ∧ w.grownBy w' (some b) := by
  obtain ⟨D, hown, hD⟩ := h
  have hkey := pairKey hp
  obtain ⟨w', hrun, hown', hg⟩ := hown.update lawQ Tryz.underlying137 hn hkey (plainElem_bool (H := Unit) (P := Tryz.prog) (e := 4) Tryz.underlying4 true)
  refine ⟨w', hrun, ⟨_, hown', fun q hq => ?_⟩, hg⟩
  by_cases e : q = p
  · subst e
    rw [Maps.atKey_put_same hown.isMap (lawQ.key hkey)]
    simp
  · have hne : pk q ≠ pk p := fun h => e (pk_inj hq hp h)
    rw [Maps.atKey_put_other hne, hD q hq]
    have h2 : (q == p) = false := by rw [beq_eq_false_iff_ne]; exact e
    show _ = DataW.lit (.bool (g q || (q == p)))
    rw [h2, Bool.or_false]
theorem Pm.look (h : Pm w b n g) {p : Int × Int} (hp : In64 p) :
    (Instr.lookup 137 (.map (some b)) (.agg #[.int .i64 p.1, .int .i64 p.2]) false).run Tryz.prog w = .ok (.bool (g p)) w := by
  obtain ⟨D, hown, hD⟩ := h
  have h2 := hD p hp
  obtain ⟨v, ps, hrun, hv⟩ := hown.lookup lawQ Tryz.underlying137 (zeroB w) (plainElem_bool (H := Unit) (P := Tryz.prog) (e := 4) Tryz.underlying4 false) (pairKey hp)
  obtain ⟨x, rfl, hx⟩ := plainElem_bool_inv hv
  simp only [Prod.mk.injEq] at hx
  rw [h2] at hx
  obtain ⟨hx, -⟩ := hx
  injection hx with hx
  injection hx with hx
  rw [show (.agg #[.int .i64 p.1, .int .i64 p.2] : Value) = prV p from rfl, hrun, hx]
end
/-- block n holds a pair -/
def Qb (w : World) (n : Nat) (x y : Int) : Prop := w.heap[n]? = some (.cells #[.int .i64 x, .int .i64 y] 75)
section
variable {w w' : World} {n : Nat} {x y : Int}
theorem Qb.c0 (h : Qb w n x y) : w.cell? ⟨n, 0, none⟩ = some (.int .i64 x) := by unfold Qb at h; simp [World.cell?, h]
theorem Qb.c1 (h : Qb w n x y) : w.cell? ⟨n, 1, none⟩ = some (.int .i64 y) := by unfold Qb at h; simp [World.cell?, h]
theorem Qb.lt (h : Qb w n x y) : n < w.heap.size := by
  unfold Qb at h
  exact (Array.getElem?_eq_some_iff.1 h).1
theorem Qb.below (h : Qb w n x y) (hb : Below w.heap.size w w') : Qb w' n x y := (hb.block n h.lt).trans h
theorem Qb.grown {row : Option Nat} (h : Qb w n x y) (hg : w.grownBy w' row) (hne : some n ≠ row) : Qb w' n x y := (hg.block n h.lt hne).trans h
theorem Qb.made (w : World) (x y : Int) : Qb (w.alloc (.cells #[.int .i64 x, .int .i64 y] 75)) w.heap.size x y := by
  show (w.heap.push _)[w.heap.size]? = _
  simp
end

end Go.Proofs.YtaallpebfcadjaaGreatDoor.T


/-! The walks of the landed rules' isRight, ascending, faults, Check. -/
namespace Go.Proofs.YtaallpebfcadjaaGreatDoor.T
open Go.RowKit
set_option maxRecDepth 8000

theorem ap_g1 {B : Nat} {w : World} {v : Value} {l : List (Int × ByteArray)} (ty : TypeId) (x : Int) (s : ByteArray) (hv : Gl B w v l) (hB : B ≤ w.heap.size) (hn : l.length ≤ 90000000) :
    ∃ v' w', (Builtin.append_ #[33, 33] ty #[v, .slice (some ⟨w.heap.size, 0, none⟩) 1 1]).run Tryz.prog (w.alloc (.cells #[.int .i64 x, .string s] 37)) = .ok v' w' ∧ (Gl B w' v' (l ++ [(x, s)]) ∧ Below B w w' ∧ (w.alloc (.cells #[.int .i64 x, .string s] 37)).grownBy w' v.ownBlock ∧ (v'.ownBlock = v.ownBlock ∨ v'.ownBlock = some (w.heap.size + 1))) := by
  obtain ⟨v', w', hr, h2, h3, h4, h5⟩ := ap_f (w := w.alloc (.cells #[.int .i64 x, .string s] 37)) (m := [(x, s)]) ty (hv.frame (below_alloc _ _)) (lf_one w x s) (by simp; omega) (by simp; omega)
  rw [World.size_alloc] at h5
  exact ⟨v', w', hr, h2, ((below_alloc w _).mono hB).trans h3, h4, h5⟩

theorem bad_mm {n : Int} {p : Int × Int} : badP n p = !((decide (0 ≤ min p.1 p.2) && decide (max p.1 p.2 < n)) && !(p.1 == p.2)) := by
  unfold badP
  rw [Bool.eq_iff_iff]
  simp only [Bool.or_eq_true, decide_eq_true_iff, Bool.not_eq_true', Bool.and_eq_false_iff, decide_eq_false_iff_not, Bool.not_eq_false', beq_iff_eq]
  omega
set_option maxHeartbeats 1600000 in
theorem isRight_n (n : Int) (p : Int × Int) (w : World) :
    Calls Tryz.prog 107 #[.int .i64 n, .agg #[.int .i64 p.1, .int .i64 p.2]] w fun e w' => e = .returned (.bool (!badP n p)) ∧ Below w.heap.size w w' := by
  have HB := Lib.hid (below_alloc w (.cells #[.int .i64 p.1, .int .i64 p.2] 75))
  have HR : Hid ((!badP n p) = ((decide (0 ≤ min p.1 p.2) && decide (max p.1 p.2 < n)) && !(p.1 == p.2))) := by show _ = _; rw [bad_mm, Bool.not_not]
  generalize (!badP n p) = r at *
  generalize p.1 = x at *
  generalize p.2 = y at *
  obtain ⟨mn, hmn⟩ : ∃ mn, min x y = mn := ⟨_, rfl⟩
  obtain ⟨mx, hmx⟩ : ∃ mx, max x y = mx := ⟨_, rfl⟩
  rw [hmn, hmx] at HR
  by_cases h1 : 0 ≤ mn
  · by_cases h2 : mx < n
    · by_cases h3 : x = y
      · have HX : Hid (r = false) := by show _ = _; rw [HR.out, h3]; simp
        have h3I : (x != y) = false := by rw [h3]; simp
        clear h3
        go_enter Tryz.func107, Tryz.ntmps107
        go_wp2_with fail
        go_ret
        exact ⟨ret_bool (by rw [HX.out]), HB.out⟩
      · have HX : Hid (r = true) := by show _ = _; rw [HR.out, decide_eq_true h1, decide_eq_true h2, ne_eqI h3]; rfl
        have h3I := ne_neI h3
        clear h3
        go_enter Tryz.func107, Tryz.ntmps107
        go_wp2_with fail
        go_ret
        exact ⟨ret_bool (by rw [HX.out]), HB.out⟩
    · have HX : Hid (r = false) := by show _ = _; rw [HR.out, decide_eq_false h2]; simp
      go_enter Tryz.func107, Tryz.ntmps107
      go_wp2_with fail
      go_ret
      exact ⟨ret_bool (by rw [HX.out]), HB.out⟩
  · have HX : Hid (r = false) := by show _ = _; rw [HR.out, decide_eq_false h1]; simp
    go_enter Tryz.func107, Tryz.ntmps107
    go_wp2_with fail
    go_ret
    exact ⟨ret_bool (by rw [HX.out]), HB.out⟩

/-! ### pairs with the lesser number first -/
def ascP (p : Int × Int) : Int × Int := (min p.1 p.2, max p.1 p.2)
theorem flat_set_R : ∀ (l : List (Int × Int)) (k : Nat) (x : Int × Int), ((flat pT pA l).set (k * 2) (pT x)).set (k * 2 + 1) (pA x) = flat pT pA (l.set k x)
  | [], k, x => by simp [flat]
  | y :: l, 0, x => by simp [flat]
  | y :: l, k + 1, x => by
    have := flat_set_R l k x
    rw [show (k + 1) * 2 = k * 2 + 2 by omega]
    unfold flat at this ⊢
    rw [List.set_cons_succ, List.flatMap_cons, List.flatMap_cons, ← this]
    rfl
theorem Gq_R.store {B : Nat} {w : World} {g cap : Nat} {l : List (Int × Int)} (h : Gq_R B w (.slice (some ⟨g, 0, none⟩) l.length cap) l) (k : Nat) (x y : Int) :
    Gq_R B ((w.setCell ⟨g, k * 2, none⟩ (.int .i64 x)).setCell ⟨g, k * 2 + 1, none⟩ (.int .i64 y)) (.slice (some ⟨g, 0, none⟩) (l.set k (x, y)).length cap) (l.set k (x, y)) ∧ w.grownBy ((w.setCell ⟨g, k * 2, none⟩ (.int .i64 x)).setCell ⟨g, k * 2 + 1, none⟩ (.int .i64 y)) (some g) := by
  obtain ⟨h1, g1⟩ := World.ownsRow.stored h.own (k * 2) (.int .i64 x)
  obtain ⟨h2, g2⟩ := World.ownsRow.stored h1 (k * 2 + 1) (.int .i64 y)
  refine ⟨?_, g1.trans g2⟩
  unfold Gq_R Gr Gn
  rw [List.length_set]
  have e := flat_set_R l k (x, y)
  rw [← e]
  exact h2

def ascL (l : List (Int × Int)) : List (Int × Int) := l.map ascP
theorem ascL_len (l : List (Int × Int)) : (ascL l).length = l.length := List.length_map ..
theorem ascL_get {l : List (Int × Int)} {k : Nat} (h : k < l.length) : (ascL l).getD k (0, 0) = ascP (l.getD k (0, 0)) := by
  unfold ascL
  rw [List.getD_eq_getElem?_getD, List.getD_eq_getElem?_getD, List.getElem?_map, List.getElem?_eq_getElem h]; rfl
theorem get_set {l : List (Int × Int)} {k j : Nat} {x : Int × Int} (hk : k < l.length) : (l.set k x).getD j (0, 0) = if k = j then x else l.getD j (0, 0) := by
  rw [List.getD_eq_getElem?_getD, List.getD_eq_getElem?_getD, List.getElem?_set]
  by_cases e : k = j
  · subst e; rw [if_pos rfl, if_pos rfl, if_pos hk]; rfl
  · rw [if_neg e, if_neg e]
theorem asc_ext {l m : List (Int × Int)} (hl : m.length = l.length) (h : ∀ j, j < l.length → m.getD j (0, 0) = ascP (l.getD j (0, 0))) : m = ascL l := by
  apply List.ext_getElem?
  intro j
  by_cases hj : j < l.length
  · have h1 := h j hj
    rw [← ascL_get hj, List.getD_eq_getElem?_getD, List.getD_eq_getElem?_getD, List.getElem?_eq_getElem (by omega), List.getElem?_eq_getElem (by rw [ascL_len]; exact hj)] at h1
    rw [List.getElem?_eq_getElem (by omega), List.getElem?_eq_getElem (by rw [ascL_len]; exact hj)]
    exact congrArg some h1
  · rw [List.getElem?_eq_none (by omega), List.getElem?_eq_none (by rw [ascL_len]; omega)]
theorem zeros_flat : ∀ n, (madeCells #[Value.int .i64 0, Value.int .i64 0] (n * 2)).toList = flat pT pA (List.replicate n ((0 : Int), (0 : Int))) := by
  intro n
  apply List.ext_getElem?
  intro j
  by_cases hj : j < n * 2
  · have hf := flat_at (E0 := pT) (E1 := pA) (d := ((0 : Int), (0 : Int))) (List.replicate n ((0 : Int), (0 : Int))) (j / 2) (by rw [List.length_replicate]; omega)
    have hg : (List.replicate n ((0 : Int), (0 : Int))).getD (j / 2) (0, 0) = (0, 0) := by
      rw [List.getD_eq_getElem?_getD, List.getElem?_replicate]; split <;> rfl
    rw [hg] at hf
    have e : (flat pT pA (List.replicate n ((0 : Int), (0 : Int))))[j]? = some (.int .i64 0) := by
      rcases Nat.mod_two_eq_zero_or_one j with e | e
      · rw [show j = j / 2 * 2 by omega]; exact hf.1
      · rw [show j = j / 2 * 2 + 1 by omega]; exact hf.2
    rw [e]
    simp only [madeCells, Array.toList_map, Array.toList_range, List.getElem?_map, List.getElem?_range hj, Option.map_some]
    have h2 : j % 2 = 0 ∨ j % 2 = 1 := Nat.mod_two_eq_zero_or_one j
    rcases h2 with e2 | e2 <;> simp [e2]
  · rw [List.getElem?_eq_none (by simp [madeCells]; omega), List.getElem?_eq_none (by rw [flat_len, List.length_replicate]; omega)]
theorem Gq_R.at {B : Nat} {w : World} {g cap : Nat} {l : List (Int × Int)} (h : Gq_R B w (.slice (some ⟨g, 0, none⟩) l.length cap) l) {k : Nat} (hk : k < l.length) :
    (∃ x y, w.cell? ⟨g, k * 2, none⟩ = some (.int .i64 x) ∧ w.cell? ⟨g, k * 2 + 1, none⟩ = some (.int .i64 y)) ∧ w.frozen? ⟨g, k * 2, none⟩ = false ∧ w.frozen? ⟨g, k * 2 + 1, none⟩ = false ∧ g < w.heap.size := by
  have hs : Ps w (.slice (some ⟨g, 0, none⟩) l.length cap) l := Gn.sl h
  obtain ⟨b, o, hbo, hl, x0, x1⟩ := ps_at hs hk
  simp only [Option.some.injEq, Addr.mk.injEq, and_true] at hbo
  obtain ⟨rfl, rfl⟩ := hbo
  rw [Nat.zero_add] at x0 x1
  exact ⟨⟨_, _, x0, x1⟩, World.ownsRow.frozenAt h.own _, World.ownsRow.frozenAt h.own _, hl⟩

set_option maxHeartbeats 3200000 in
theorem ascending_n (v : Value) (l : List (Int × Int)) (hl : l.length ≤ 1000) (w : World) (hv : Ps w v l) :
    Calls Tryz.prog 64 #[v] w (PrsP (ascL l) w) := by
  have HV := Lib.hid hv
  obtain ⟨oa, c, rfl, -⟩ := hv
  obtain ⟨i0, hi, hz0, hz1, hz2⟩ := infoQ
  have HF := Lib.hid (fun (m : List (Int × Int)) (h1 : m.length = l.length) h2 => asc_ext (l := l) h1 h2)
  have HP : Hid (∀ k, ascP (l.getD k (0, 0)) = (min (l.getD k (0, 0)).1 (l.getD k (0, 0)).2, max (l.getD k (0, 0)).1 (l.getD k (0, 0)).2)) := fun _ => rfl
  generalize ascL l = r at *
  generalize hn : l.length = n at *
  have HN := Lib.hid hn
  clear hn
  go_enter Tryz.func64, Tryz.ntmps64
  go_wp2_with (at_make; refine wpList_make_full _ rfl _ _ 28 rfl w.heap.size 75 i0 _ 2 Tryz.underlying28 hi hz0 hz1 _ _ _ _ n rfl rfl ?e0 ?e1 ?e3 ?e4 (Nat.le_refl _) ?_)
  case e0 => rfl
  case e1 => rfl
  case e3 => rw [hz2]; omega
  case e4 => unfold maxLen; omega
  intro w1 hown hgrow
  have HB1 : Hid (Below w.heap.size w w1) := (Below.refl _ w).grown hgrow (Nat.le_refl _) (fun k h => by cases h)
  have HG1 : Hid (Gq_R w.heap.size w1 (.slice (some ⟨w.heap.size, 0, none⟩) n n) (List.replicate n (0, 0))) := by
    show Gn _ _ _ _ _ _ _ _
    unfold Gn
    rw [List.length_replicate, ← zeros_flat]; exact hown
  clear hown hgrow
  go_wp2
  go_loopg [11] n (fun g j wr => ∃ (k : Nat) (m : List (Int × Int)), k ≤ n ∧ j = .int .i64 k ∧ n - k ≤ g ∧ Hid (m.length = n) ∧ Hid (Gq_R w.heap.size wr (.slice (some ⟨w.heap.size, 0, none⟩) n n) m) ∧ Hid (∀ i, i < k → m.getD i (0, 0) = ascP (l.getD i (0, 0))) ∧ Hid (Below w.heap.size w wr))
  case atStart => exact ⟨0, List.replicate n (0, 0), Nat.zero_le _, rfl, Nat.le_refl _, List.length_replicate, HG1, fun i hi => absurd hi (Nat.not_lt_zero _), HB1⟩
  case round =>
    clear HG1 HB1
    obtain ⟨k, m, hk, rfl, hg, HL, HG, HK, HB⟩ := hrel
    by_cases hlt : k < n
    · have hkI : (k : Int) < (n : Int) := by omega
      have hka : k < l.length := by rw [HN.out]; exact hlt
      obtain ⟨b, o, rfl, hab, x0, x1⟩ := ps_at (by have := HV.out; rw [← HN.out] at this; exact this) hka
      have x0 := (HB.out.cell (p := ⟨b, _, none⟩) hab).trans x0
      have x1 := (HB.out.cell (p := ⟨b, _, none⟩) hab).trans x1
      have HGm : Gq_R w.heap.size wr (.slice (some ⟨w.heap.size, 0, none⟩) m.length n) m := by rw [HL.out]; exact HG.out
      obtain ⟨⟨z0, z1, y0, y1⟩, f0, f1, hgl⟩ := HGm.at (k := k) (by rw [HL.out]; exact hlt)
      have HPk := Lib.hid (HP.out k)
      generalize hp : l.getD k (0, 0) = p at *
      have HPp := Lib.hid hp
      clear hp
      generalize p.1 = x at *
      generalize p.2 = y at *
      obtain ⟨mn, hmn⟩ : ∃ mn, min x y = mn := ⟨_, rfl⟩
      obtain ⟨mx, hmx⟩ : ∃ mx, max x y = mx := ⟨_, rfl⟩
      rw [hmn, hmx] at HPk
      obtain ⟨s1, s2⟩ := HGm.store k mn mx
      have HS1 := Lib.hid s1
      have HB2 := Lib.hid (over (HB.out.grown s2 HB.out.size (fun x e => by simp only [Option.some.injEq] at e; omega)) (below_alloc ((wr.setCell ⟨w.heap.size, k * 2, none⟩ (.int .i64 mn)).setCell ⟨w.heap.size, k * 2 + 1, none⟩ (.int .i64 mx)) (.cells #[.int .i64 x, .int .i64 y] 75)))
      have HS2 : Hid (Gq_R w.heap.size (((wr.setCell ⟨w.heap.size, k * 2, none⟩ (.int .i64 mn)).setCell ⟨w.heap.size, k * 2 + 1, none⟩ (.int .i64 mx)).alloc (.cells #[.int .i64 x, .int .i64 y] 75)) (.slice (some ⟨w.heap.size, 0, none⟩) n n) (m.set k (mn, mx))) := by
        have := HS1.out.frame (below_alloc _ (.cells #[.int .i64 x, .int .i64 y] 75))
        rw [List.length_set, HL.out] at this
        exact this
      have HK2 : Hid (∀ i, i < k + 1 → (m.set k (mn, mx)).getD i (0, 0) = ascP (l.getD i (0, 0))) := fun i hi => by
        rw [get_set (by rw [HL.out]; exact hlt)]
        by_cases e : k = i
        · subst e; rw [if_pos rfl, HPp.out, HPk.out]
        · rw [if_neg e]; exact HK.out i (by omega)
      have HL2 : Hid ((m.set k (mn, mx)).length = n) := by show _ = _; rw [List.length_set]; exact HL.out
      clear s1 s2 HGm HS1 HG HB
      go_wp2_with fail
      go_roundg (n - (k + 1))
      case measure => omega
      case rel => exact ⟨k + 1, m.set k (mn, mx), by omega, by go_num, by omega, HL2, HS2, HK2, HB2⟩
    · have hkk : k = n := by omega
      have hkI : ¬ (k : Int) < (n : Int) := by omega
      have HR : Hid (m = r) := HF.out m HL.out (by rw [← hkk]; exact HK.out)
      go_wp2_with fail
      go_ret
      refine prsP (B := w.heap.size) (l := r) ?_ HB.out (Nat.le_refl _)
      rw [← HR.out]; exact HG.out

/-! ### the faults of pairs -/
theorem asc_pair (n : Int) (l : List (Int × Int)) (i : Nat) (hi : i < l.length) : pairE n false (ascL l) i = pairE n true l i := by
  have hb : badP n (ascP (l.getD i (0, 0))) = badP n (l.getD i (0, 0)) := by
    generalize l.getD i (0, 0) = p
    unfold badP ascP
    rw [Bool.eq_iff_iff]
    simp only [Bool.or_eq_true, decide_eq_true_iff, beq_iff_eq]
    omega
  have he : ∀ q p : Int × Int, eqP false (ascP q) (ascP p) = eqP true q p := fun q p => by
    unfold eqP ascP
    rw [Bool.eq_iff_iff]
    simp only [Bool.or_eq_true, Bool.and_eq_true, beq_iff_eq, Bool.false_and, Bool.true_and, Bool.false_eq_true, or_false]
    omega
  have ht : twiceP false (ascL l) i i = twiceP true l i i := by
    unfold twiceP
    rw [ascL_get hi]
    unfold ascL
    rw [← List.map_take, List.any_map]
    congr 1
    funext q
    exact he q _
  unfold pairE
  rw [ascL_get hi, hb, ht]
theorem asc_faults (n : Int) (l : List (Int × Int)) (word : ByteArray) : pairF n (ascL l) word false = pairF n l word true := by
  have h : ∀ k, k ≤ l.length → pfF n (ascL l) word false k = pfF n l word true k := by
    intro k
    induction k with
    | zero => intro _; unfold pfF; rw [ascL_len]
    | succ k ih => intro hk; unfold pfF; rw [ih (by omega), asc_pair n l k (by omega)]
  unfold pairF
  rw [ascL_len, h _ (Nat.le_refl _)]
/-- what has been seen -/
def seenP (l : List (Int × Int)) (k : Nat) (p : Int × Int) : Bool := (l.take k).any fun q => eqP false q p
theorem seen_step_R {l : List (Int × Int)} {k : Nat} (h : k < l.length) (p : Int × Int) : seenP l (k + 1) p = (seenP l k p || (p == l.getD k (0, 0))) := by
  unfold seenP
  rw [take_more (d := (0, 0)) h, List.any_append]
  congr 1
  unfold eqP
  simp only [List.any_cons, List.any_nil, Bool.or_false, Bool.false_and]
  rw [Bool.eq_iff_iff, Bool.and_eq_true, beq_iff_eq, beq_iff_eq, beq_iff_eq]
  constructor
  · rintro ⟨h1, h2⟩; exact (Prod.ext h1 h2).symm
  · rintro rfl; exact ⟨rfl, rfl⟩

end Go.Proofs.YtaallpebfcadjaaGreatDoor.T


/-! The walks of the landed rules' faults and Check. -/
namespace Go.Proofs.YtaallpebfcadjaaGreatDoor.T
open Go.RowKit
set_option maxRecDepth 8000

set_option maxHeartbeats 12800000 in
theorem faultsT_n (n : Int) (v : Value) (l : List (Int × Int)) (word : ByteArray) (hl : l.length ≤ 1000) (hi : ∀ p ∈ l, In64 p) (hw : word.size ≤ 100) (w : World) (hT : Tab w) (hv : Ps w v l) :
    Calls Tryz.prog 63 #[.string word, .int .i64 n, v] w (ChkP (pairF n l word false) w) := by
  have HV := Lib.hid hv
  have HT := Lib.hid hT
  obtain ⟨oa, c, rfl, -⟩ := hv
  have HE : Hid (pfF n l word false l.length = pairF n l word false) := rfl
  have H0 : Hid (pfF n l word false 0 = if 16 < l.length then [(4, word)] else []) := rfl
  have HS : Hid (∀ k, pfF n l word false (k + 1) = pfF n l word false k ++ (pairE n false l k).map fun e => (e, atW word k)) := fun _ => rfl
  have HPE : Hid (∀ k, pairE n false l k = if badP n (l.getD k (0, 0)) then [2] else if seenP l k (l.getD k (0, 0)) then [6] else []) := fun _ => rfl
  have HL := Lib.hid (pfF_len n l word false)
  have HI := Lib.hid (fun k (hk : k < l.length) => hi _ (getD_mem (d := (0, 0)) hk))
  have HSe := Lib.hid (fun k (hk : k < l.length) p => seen_step_R (l := l) hk p)
  have hmm := makeMap_n (P := Tryz.prog) 137 75 4 .i64 (l.length : Int) Tryz.underlying137
  generalize pairF n l word false = r at *
  generalize hn : l.length = m at *
  have HM := Lib.hid hn
  clear hn hi hT
  go_enter Tryz.func63, Tryz.ntmps63
  go_upto_if 14 with fail
  go_cut [7] from 12 to 20 (fun v wx => Hid (Gl w.heap.size wx v (pfF n l word false 0)) ∧ Hid (Below w.heap.size w wx))
  case first =>
    by_cases hb : 16 < m
    · have hbI : (16 : Int) < (m : Int) := by omega
      have HF : Hid (pfF n l word false 0 = [] ++ [(4, word)]) := by show _ = _; rw [H0.out, if_pos hb]; rfl
      clear hb
      go_wp2_with (at_builtin; refine wpList_append_run rfl _ _ 33 rfl rfl rfl (ap_f1 _ 4 word (Gl.nil _ w) (Nat.le_refl _) (by simp)) ?_)
      intro v3 w3 hg3 hb3
      go_wp2_with fail
      go_meet
      case rel => exact ⟨HF.out ▸ hg3, hb3⟩
    · have hbI : ¬ (16 : Int) < (m : Int) := by omega
      have HF : Hid (pfF n l word false 0 = []) := by show _ = _; rw [H0.out, if_neg hb]
      clear hb
      go_wp2_with fail
      go_meet
      case rel => exact ⟨HF.out ▸ Gl.nil _ _, Below.refl _ _⟩
  obtain ⟨HG, HB⟩ := hcut
  have HBm := Lib.hid (over HB.out (below_alloc wc (.map #[] 0)))
  have HGm := Lib.hid (HG.out.frame (below_alloc wc (.map #[] 0)))
  have HMm : Hid (Pm (wc.alloc (.map #[] 0)) wc.heap.size 0 (seenP l 0)) := Pm.made wc
  have HNm : Hid (∀ g, u7.ownBlock = some g → g ≠ wc.heap.size) := fun g e h => by
    have := own_lt HG.out e
    omega
  have hbm := HB.out.size
  clear HG HB
  go_wp2_with fail
  generalize wc.heap.size = bm at *
  clear hmm H0
  go_loopg [7, 25] m (fun g v j wx => ∃ k : Nat, k ≤ m ∧ j = .int .i64 k ∧ m - k ≤ g ∧ Hid (Gl w.heap.size wx v (pfF n l word false k)) ∧ Hid (Below w.heap.size w wx) ∧ Hid (Pm wx bm k (seenP l k)) ∧ Hid (∀ g, v.ownBlock = some g → g ≠ bm))
  case atStart => exact ⟨0, Nat.zero_le _, rfl, Nat.le_refl _, HGm, HBm, HMm, HNm⟩
  case round =>
    clear HGm HBm HMm HNm
    obtain ⟨k, hkn, rfl, hg, HG, HB, HP, HN⟩ := hrel
    by_cases hlt : k < m
    · have hka : k < l.length := by rw [HM.out]; exact hlt
      obtain ⟨b, o, rfl, hab, x0, x1⟩ := ps_at (by have := HV.out.below HB.out; rw [← HM.out] at this; exact this) hka
      have hkI : (k : Int) < (m : Int) := by omega
      have hk9 : k ≤ 1000000000 := by omega
      have HSk := Lib.hid (HS.out k)
      have HPk := Lib.hid (HPE.out k)
      have HIk := Lib.hid (HI.out k hlt)
      have HLk := HL.out k
      have HSek := Lib.hid (HSe.out k hlt)
      have KD := Lib.hid (fun w hT => itoa_n k hk9 w hT)
      have hds := dec_size hk9
      obtain ⟨p, hp⟩ : ∃ p, l.getD k (0, 0) = p := ⟨_, rfl⟩
      rw [hp] at x0 x1 HPk HIk HSek
      have HAt : Hid (atW word k = word ++ ⟨#[32]⟩ ++ dec k) := rfl
      have KR := Lib.hid (fun w => isRight_n n p w)
      generalize atW word k = at' at *
      generalize dec k = dk at *
      clear hp HS HPE HI HSe HL
      have HQ0 := Lib.hid (Qb.made wr p.1 p.2)
      have HB0 := Lib.hid (over HB.out (below_alloc wr (.cells #[.int .i64 p.1, .int .i64 p.2] 75)))
      have HG0 := Lib.hid (HG.out.frame (below_alloc wr (.cells #[.int .i64 p.1, .int .i64 p.2] 75)))
      have HP0 := Lib.hid (HP.out.below (below_alloc wr (.cells #[.int .i64 p.1, .int .i64 p.2] 75)))
      have hqo : ∀ g, u7.ownBlock = some g → g ≠ wr.heap.size := fun g e h => by have := own_lt HG.out e; omega
      have hqm : bm ≠ wr.heap.size := by have := HP.out.lt; omega
      have hbr := HB.out.size
      obtain ⟨W1, hW1⟩ : ∃ W1, wr.alloc (.cells #[.int .i64 p.1, .int .i64 p.2] 75) = W1 := ⟨_, rfl⟩
      have HT0 := Lib.hid (HT.out.over HB0.out)
      rw [hW1] at HQ0 HB0 HG0 HP0 HT0
      have HW1 := Lib.hid hW1
      clear hW1 HG HB HP
      go_upto_region 8 with fail
      rw [HW1.out]
      clear HW1 x0 x1
      go_wp2_with fail
      refine (KD.out _ HT0.out).mono ?_
      rintro e w2 ⟨rfl, d2⟩
      have HQ2 := Lib.hid (HQ0.out.below d2)
      have HB2 := Lib.hid (over HB0.out d2)
      have HG2 := Lib.hid (HG0.out.frame d2)
      have HP2 := Lib.hid (HP0.out.below d2)
      clear d2 HQ0 HB0 HG0 HP0 HT0 KD
      generalize hq : wr.heap.size = q at *
      clear hq
      have y0 := HQ2.out.c0
      have y1 := HQ2.out.c1
      go_wp2_with fail
      refine (KR.out _).mono ?_
      rintro e w3 ⟨rfl, d3⟩
      have HQ3 := Lib.hid (HQ2.out.below d3)
      have HB3 := Lib.hid (over HB2.out d3)
      have HG3 := Lib.hid (HG2.out.frame d3)
      have HP3 := Lib.hid (HP2.out.below d3)
      have hB3 := HB3.out.size
      clear d3 HQ2 HB2 HG2 HP2 KR y0 y1
      cases hbd : badP n p
      · have hlk := HP3.out.look HIk.out
        rw [hbd] at HPk
        have y0 := HQ3.out.c0
        have y1 := HQ3.out.c1
        cases hsn : seenP l k p
        · have HF : Hid (pfF n l word false (k + 1) = pfF n l word false k) := by show _ = _; rw [HSk.out, HPk.out, hsn]; simp
          rw [hsn] at hlk
          obtain ⟨w5, hrun, hP5, hgr5⟩ := HP3.out.put (by unfold maxLen; omega) HIk.out
          have HP5 : Hid (Pm w5 bm (k + 1) (seenP l (k + 1))) := hP5.ext fun s => (HSek.out s).symm
          have HB5 : Hid (Below w.heap.size w w5) := HB3.out.grown hgr5 HB3.out.size (fun x e => by simp only [Option.some.injEq] at e; omega)
          have HG5 : Hid (Gl w.heap.size w5 u7 (pfF n l word false (k + 1))) := by
            show Gl _ _ _ _
            rw [HF.out]
            exact HG3.out.of_block fun g e => hgr5.block g (own_lt HG3.out e) (fun h => by simp only [Option.some.injEq] at h; exact HN.out g e h)
          clear hP5 hgr5 HG3 HB3 HP3 hbd hsn
          go_wp2_with fail
          go_roundg (m - (k + 1))
          case measure => omega
          case rel => exact ⟨k + 1, by omega, by go_num, by omega, HG5, HB5, HP5, HN⟩
        · have HF : Hid (pfF n l word false (k + 1) = pfF n l word false k ++ [(6, at')]) := by show _ = _; rw [HSk.out, HPk.out, hsn]; rfl
          rw [hsn] at hlk
          rw [HAt.out] at HF
          clear hbd hsn
          go_wp2_with (at_builtin; refine wpList_append_run rfl _ _ 33 rfl rfl rfl (ap_g1 _ 6 (word ++ ⟨#[32]⟩ ++ dk) HG3.out hB3 (by omega)) ?_)
          intro v4 w4 hg4 hb4 hgr hat
          have hal := below_alloc w3 (.cells #[.int .i64 6, .string (word ++ ⟨#[32]⟩ ++ dk)] 37)
          have HQ4 : Hid (Qb w4 q p.1 p.2) := (HQ3.out.below hal).grown hgr (fun e => hqo q e.symm rfl)
          have HP4 : Hid (Pm w4 bm k (seenP l k)) := (HP3.out.below hal).grown hgr (fun e => HN.out bm e.symm rfl)
          have hlm := HP3.out.lt
          have HN4 : Hid (∀ g, v4.ownBlock = some g → g ≠ bm) := fun g e h => by
            rcases hat with hat | hat
            · rw [hat] at e; exact HN.out g e h
            · rw [hat] at e
              simp only [Option.some.injEq] at e
              omega
          have HG4 : Hid (Gl w.heap.size w4 v4 (pfF n l word false (k + 1))) := by show Gl _ _ _ _; rw [HF.out]; exact hg4
          have HB4 := Lib.hid (HB3.out.trans hb4)
          obtain ⟨w5, hrun, hP5, hgr5⟩ := HP4.out.put (by unfold maxLen; omega) HIk.out
          have HP5 : Hid (Pm w5 bm (k + 1) (seenP l (k + 1))) := hP5.ext fun s => (HSek.out s).symm
          have HB5 : Hid (Below w.heap.size w w5) := HB4.out.grown hgr5 HB4.out.size (fun x e => by simp only [Option.some.injEq] at e; omega)
          have HG5 : Hid (Gl w.heap.size w5 v4 (pfF n l word false (k + 1))) := HG4.out.of_block fun g e => hgr5.block g (own_lt HG4.out e) (fun h => by simp only [Option.some.injEq] at h; exact HN4.out g e h)
          have y0 := HQ4.out.c0
          have y1 := HQ4.out.c1
          clear hP5 hgr5 HG3 HB3 HP3 hg4 hb4 hgr hat hal HG4 HB4 HP4 HQ3 hlk HN
          go_wp2_with fail
          go_roundg (m - (k + 1))
          case measure => omega
          case rel => exact ⟨k + 1, by omega, by go_num, by omega, HG5, HB5, HP5, HN4⟩
      · have HF : Hid (pfF n l word false (k + 1) = pfF n l word false k ++ [(2, at')]) := by show _ = _; rw [HSk.out, HPk.out, hbd]; rfl
        rw [HAt.out] at HF
        clear hbd
        go_wp2_with (at_builtin; refine wpList_append_run rfl _ _ 33 rfl rfl rfl (ap_g1 _ 2 (word ++ ⟨#[32]⟩ ++ dk) HG3.out hB3 (by omega)) ?_)
        intro v4 w4 hg4 hb4 hgr hat
        have hal := below_alloc w3 (.cells #[.int .i64 2, .string (word ++ ⟨#[32]⟩ ++ dk)] 37)
        have HQ4 : Hid (Qb w4 q p.1 p.2) := (HQ3.out.below hal).grown hgr (fun e => hqo q e.symm rfl)
        have HP4 : Hid (Pm w4 bm k (seenP l k)) := (HP3.out.below hal).grown hgr (fun e => HN.out bm e.symm rfl)
        have hlm := HP3.out.lt
        have HN4 : Hid (∀ g, v4.ownBlock = some g → g ≠ bm) := fun g e h => by
          rcases hat with hat | hat
          · rw [hat] at e; exact HN.out g e h
          · rw [hat] at e
            simp only [Option.some.injEq] at e
            omega
        have HG4 : Hid (Gl w.heap.size w4 v4 (pfF n l word false (k + 1))) := by show Gl _ _ _ _; rw [HF.out]; exact hg4
        have HB4 := Lib.hid (HB3.out.trans hb4)
        obtain ⟨w5, hrun, hP5, hgr5⟩ := HP4.out.put (by unfold maxLen; omega) HIk.out
        have HP5 : Hid (Pm w5 bm (k + 1) (seenP l (k + 1))) := hP5.ext fun s => (HSek.out s).symm
        have HB5 : Hid (Below w.heap.size w w5) := HB4.out.grown hgr5 HB4.out.size (fun x e => by simp only [Option.some.injEq] at e; omega)
        have HG5 : Hid (Gl w.heap.size w5 v4 (pfF n l word false (k + 1))) := HG4.out.of_block fun g e => hgr5.block g (own_lt HG4.out e) (fun h => by simp only [Option.some.injEq] at h; exact HN4.out g e h)
        have y0 := HQ4.out.c0
        have y1 := HQ4.out.c1
        clear hP5 hgr5 HG3 HB3 HP3 hg4 hb4 hgr hat hal HG4 HB4 HP4 HQ3 HN
        go_wp2_with fail
        go_roundg (m - (k + 1))
        case measure => omega
        case rel => exact ⟨k + 1, by omega, by go_num, by omega, HG5, HB5, HP5, HN4⟩
    · have hkk : k = m := by omega
      have hkI : ¬ (k : Int) < (m : Int) := by omega
      have HR : Hid (pfF n l word false k = r) := by show _ = _; rw [hkk]; exact HE.out
      go_wp2_with fail
      go_ret
      exact chkP (HR.out ▸ HG.out) HB.out (Nat.le_refl _)

theorem asc64 {l : List (Int × Int)} (h : ∀ p ∈ l, In64 p) : ∀ p ∈ ascL l, In64 p := by
  intro p hp
  unfold ascL at hp
  rw [List.mem_map] at hp
  obtain ⟨q, hq, rfl⟩ := hp
  obtain ⟨h1, h2⟩ := h q hq
  unfold I64 at h1 h2
  unfold ascP In64 I64
  simp only
  omega
set_option maxHeartbeats 3200000 in
theorem rulesCheck_t (n : Int) (v u : Value) (ap be : List (Int × Int)) (ha : ap.length ≤ 1000) (hb : be.length ≤ 1000) (hia : ∀ p ∈ ap, In64 p) (hib : ∀ p ∈ be, In64 p) (w : World) (hT : Tab w) (hv : Ps w v ap) (hu : Ps w u be) :
    Calls Tryz.prog 28 #[.int .i64 n, v, u] w (ChkP (checkF n ap be) w) := by
  have K1 := Lib.hid (fun w hv => ascending_n v ap ha w hv)
  have K2 := Lib.hid (fun v w hT hv => faultsT_n n v (ascL ap) apartW (by rw [ascL_len]; exact ha) (asc64 hia) (by decide) w hT hv)
  have K3 := Lib.hid (fun w hT hv => faultsT_n n u be beforeW hb hib (by decide) w hT hv)
  rw [asc_faults] at K2
  have HV := Lib.hid hv
  have HU := Lib.hid hu
  have HT := Lib.hid hT
  have HE : Hid (pairF n ap apartW true ++ pairF n be beforeW false = checkF n ap be) := rfl
  have h1 := pairF_len n ap apartW true
  have h2 := pairF_len n be beforeW false
  generalize checkF n ap be = r at *
  generalize pairF n ap apartW true = r1 at *
  generalize pairF n be beforeW false = r2 at *
  generalize ascL ap = al at *
  unfold apartW at K2
  unfold beforeW at K3
  clear hv hu hT hia hib
  go_enter Tryz.func28, Tryz.ntmps28
  go_wp2_with fail
  refine (K1.out _ HV.out).mono ?_
  rintro e w1 ⟨oa, c, rfl, ⟨hp, -, -⟩, b1⟩
  have HP1 := Lib.hid hp
  have HB1 := Lib.hid b1
  have HT1 := Lib.hid (HT.out.over b1)
  have HU1 := Lib.hid (ps_below HU.out b1)
  clear hp b1 HV HU HT
  go_wp2_with fail
  refine (K2.out _ _ HT1.out HP1.out).mono ?_
  intro e w2 h
  obtain ⟨v2, rfl, -, hg2, b2⟩ := Lf.of_chk h
  have HG2 : Hid (Gl w.heap.size w2 v2 r1) := Gn.mono hg2 HB1.out.size
  have HB2 := Lib.hid (over HB1.out b2)
  have HT2 := Lib.hid (HT1.out.over b2)
  have HU2 := Lib.hid (ps_below HU1.out b2)
  clear h hg2 b2 HP1 HB1 HT1 HU1
  go_wp2_with fail
  refine (K3.out _ HT2.out HU2.out).mono ?_
  intro e w3 h
  obtain ⟨v3, rfl, hf3, -, b3⟩ := Lf.of_chk h
  have HF3 := Lib.hid hf3
  have HG3 := Lib.hid (HG2.out.frame b3)
  have HB3 := Lib.hid (over HB2.out b3)
  have hsz := HB3.out.size
  clear h hf3 b3 HG2 HB2 HT2 HU2
  go_wp2_with (at_builtin; refine wpList_append_run rfl _ _ 33 rfl rfl rfl (ap_f _ HG3.out HF3.out hsz (by omega)) ?_)
  intro v4 w4 hg4 hb4 _ _
  go_wp2_with fail
  go_ret
  exact chkP (HE.out ▸ hg4) (HB3.out.trans hb4) (Nat.le_refl _)

end Go.Proofs.YtaallpebfcadjaaGreatDoor.T


/-! What is wrong with orders: the errors of an order, the faults of all. -/
namespace Go.Proofs.YtaallpebfcadjaaGreatDoor.T
open Go.RowKit
set_option maxRecDepth 8000

/-- has one of the first j orders this name? -/
def knownO (l : List OrT) (s : ByteArray) (j : Nat) : Bool := (l.take j).any fun x => x.name.toList == s.toList
def orE1 (a : OrT) : List Int := if nmT a.name then [] else [5]
def orE2 (l : List OrT) (i : Nat) (a : OrT) : List Int := if knownO l a.name i then [6] else []
def orE3 (dims : Int) (a : OrT) : List Int := if L.rightB a.load dims then [] else [17]
def orE4 (np : Nat) (a : OrT) : List Int := if rgB (-1) (np - 1) a.pp && rgB (-1) (np - 1) a.dp then [] else [11]
def orE5 (a : OrT) : List Int := if !(decide (a.pp = -1) && decide (a.dp = -1)) then [] else [19]
def orE6 (a : OrT) : List Int := if decide (V.chk a.pp a.po a.pc a.ps = 0) && decide (V.chk a.dp a.dd a.dc a.ds = 0) then [] else [14]
def orE7 (a : OrT) : List Int := if rgB 0 1073741823 a.sk then [] else [18]
/-- can it be divided as it says? -/
def splB (pp dp spl : Int) : Bool := rgB 1 4 spl && !(decide (1 < spl) && (decide (pp ≠ -1) && decide (dp ≠ -1)))
/-- a type, or none -/
def typB (types x : Int) : Bool := decide (-1 ≤ x) && decide (x < types)
def orE8 (types : Int) (a : OrT) : List Int := if rgB (-1) 1000000 a.pen && splB a.pp a.dp a.spl && typB types a.las && typB types a.now then [] else [2]
/-- the errors of the i-th order -/
def orE (np : Nat) (dims types : Int) (l : List OrT) (i : Nat) : List Int :=
  orE1 (l.getD i or0) ++ orE2 l i (l.getD i or0) ++ orE3 dims (l.getD i or0) ++ orE4 np (l.getD i or0) ++ orE5 (l.getD i or0) ++ orE6 (l.getD i or0) ++ orE7 (l.getD i or0) ++ orE8 types (l.getD i or0)
def orF0 (n : Nat) : List (Int × ByteArray) := if n ≤ 10 then [] else [(4, ⟨#[]⟩)]
/-- the faults of the first k orders -/
def orF (np : Nat) (dims types : Int) (l : List OrT) : Nat → List (Int × ByteArray)
  | 0 => orF0 l.length
  | k + 1 => orF np dims types l k ++ atT k (orE np dims types l k)
def orderF (np : Nat) (dims types : Int) (l : List OrT) : List (Int × ByteArray) := orF np dims types l l.length
theorem orE_len (np : Nat) (dims types : Int) (l : List OrT) (i : Nat) : (orE np dims types l i).length ≤ 8 := by
  unfold orE
  simp only [List.length_append]
  have h1 : (orE1 (l.getD i or0)).length ≤ 1 := by unfold orE1; exact if_len _ _
  have h2 : (orE2 l i (l.getD i or0)).length ≤ 1 := by unfold orE2; split <;> simp
  have h3 : (orE3 dims (l.getD i or0)).length ≤ 1 := by unfold orE3; exact if_len _ _
  have h4 : (orE4 np (l.getD i or0)).length ≤ 1 := by unfold orE4; exact if_len _ _
  have h5 : (orE5 (l.getD i or0)).length ≤ 1 := by unfold orE5; exact if_len _ _
  have h6 : (orE6 (l.getD i or0)).length ≤ 1 := by unfold orE6; exact if_len _ _
  have h7 : (orE7 (l.getD i or0)).length ≤ 1 := by unfold orE7; exact if_len _ _
  have h8 : (orE8 types (l.getD i or0)).length ≤ 1 := by unfold orE8; exact if_len _ _
  omega
theorem orF_len (np : Nat) (dims types : Int) (l : List OrT) : ∀ k, (orF np dims types l k).length ≤ 1 + 8 * k
  | 0 => by unfold orF orF0; split <;> simp
  | k + 1 => by
    unfold orF atT
    rw [List.length_append, List.length_map]
    have := orF_len np dims types l k
    have := orE_len np dims types l k
    omega

/-! ### names -/
theorem knownO_zero (l : List OrT) (s : ByteArray) : knownO l s 0 = false := by unfold knownO; rw [List.take_zero]; rfl
theorem knownO_step {l : List OrT} {s : ByteArray} {k : Nat} (hk : k < l.length) : knownO l s (k + 1) = (knownO l s k || (l.getD k or0).name.toList == s.toList) := by
  unfold knownO
  rw [take_more (d := or0) hk, List.any_append]
  simp
def isSplB (pp dp spl : Int) : Bool := decide (spl = 1) || (rgB 2 4 spl && (decide (pp = -1) || decide (dp = -1)))
def rulO (np : Nat) (dims types : Int) (a : OrT) (tw : Bool) : List (Bool × Int) :=
  [(nmT a.name, 5), (!tw, 6), (L.rightB a.load dims, 17), (rgN a.pp np && rgN a.dp np, 11), (decide (a.pp ≠ -1) || decide (a.dp ≠ -1), 19),
    (decide (V.chk a.pp a.po a.pc a.ps = 0) && decide (V.chk a.dp a.dd a.dc a.ds = 0), 14), (rgB 0 1073741823 a.sk, 18), (rgB (-1) 1000000 a.pen && isSplB a.pp a.dp a.spl && rgN a.las types && rgN a.now types, 2)]
/-- the errors of the rules that do not hold -/
def brkO (l : List (Bool × Int)) : List Int := (l.filter fun x => !x.1).map fun x => x.2
theorem brkO_cons (b : Bool) (x : Int) (l : List (Bool × Int)) : brkO ((b, x) :: l) = (if b then [] else [x]) ++ brkO l := by cases b <;> rfl
theorem spl_eq (pp dp spl : Int) : isSplB pp dp spl = splB pp dp spl := by
  unfold isSplB splB rgB
  by_cases h1 : spl = 1
  · subst h1
    rfl
  · rw [decide_eq_false h1, Bool.false_or]
    by_cases h2 : 2 ≤ spl
    · rw [decide_eq_true h2, decide_eq_true (show 1 ≤ spl by omega), decide_eq_true (show 1 < spl by omega)]
      by_cases hp : pp = -1 <;> by_cases hd : dp = -1 <;> simp [hp, hd]
    · rw [decide_eq_false h2, decide_eq_false (show ¬ 1 ≤ spl by omega)]
      rfl
theorem rg_n (np : Nat) (x : Int) : rgN x np = rgB (-1) (np - 1) x := by
  unfold rgN rgB
  congr 1
  rw [decide_eq_decide]
  omega
theorem brk_orders (np : Nat) (dims types : Int) (l : List OrT) (i : Nat) : brkO (rulO np dims types (l.getD i or0) (knownO l (l.getD i or0).name i)) = orE np dims types l i := by
  unfold rulO orE orE1 orE2 orE3 orE4 orE5 orE6 orE7 orE8
  generalize l.getD i or0 = a
  simp only [brkO_cons, spl_eq, rg_n]
  have e2 : (if !knownO l a.name i then ([] : List Int) else [6]) = if knownO l a.name i then [6] else [] := by cases knownO l a.name i <;> rfl
  have e5 : (decide (a.pp ≠ -1) || decide (a.dp ≠ -1)) = !(decide (a.pp = -1) && decide (a.dp = -1)) := by
    rw [Bool.not_and, ← decide_not, ← decide_not]
  rw [e2, e5]
  show _ = _
  simp [brkO, rgN, typB]

end Go.Proofs.YtaallpebfcadjaaGreatDoor.T


