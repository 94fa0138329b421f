/-
  DERIVED. KPG: a part of the base of layer 13 (made by pack.py).
-/
import Derived.Laws.AppendOwnNone
import Derived.Maps.AppendAt
import Derived.Deep.DeepCutAuto
import Derived.Deep.Cut
import Derived.Deep.CutRange
import Derived.Test.YtaallpebfcadjaaGreatDoorShelf
import Derived.Test.YtaallpebfcadjaaGreatDoorKPB
import Derived.Lib.ItoaNum
import Derived.Test.YtaallpebfcadjaaGreatDoorKPA
import Derived.ProofKit
import Derived.LaidMore
import Derived.ChangeSlices
import Derived.SliceStrings
import Derived.Carry
import Derived.OpenShut
import Derived.Deep.SlicePairs
import Derived.Deep.Slices
import Derived.Deep.Fields
import Derived.Lib.SmallJoins
import Derived.Test.YtaallpebfcadjaaGreatDoorRows
import Derived.WalkKit
import Derived.WalkSpells
import Derived.WalkLawsBesides
import Derived.WalkMore
import Derived.Below
import Derived.OwnWalk
import Derived.IntWalk
import Derived.Laws.OwnMore
import Derived.Laws.AppendOwn
import Derived.Deep.AppendLies
import Derived.Deep.Draws
import Derived.Deep.QuietTactic
import Derived.Deep.RegionLaw
import Derived.Deep.RegionWith
import Derived.BigQuiet
import Derived.Lib.Hide
import Derived.WalkSmall
import Derived.Deep.Onto
import Derived.Deep.LoopGhost
import Derived.Handy
import Derived.Lib.SliceRun
import Derived.Test.YtaallpebfcadjaaGreatDoorKPC
/-! Earliest arrivals: the places settled in the order of their arrivals, and the arcs improved again and again, give the same list. -/
namespace Go.Proofs.YtaallpebfcadjaaGreatDoor.T

/-! ### arrivals never fall -/
/-- a way of n arcs arrives at p at x -/
inductive Rch (l : List ArcT) (pr : Int) (f : Nat) (t : Int) : Nat → Nat → Int → Prop
  | here : Rch l pr f t 0 f t
  | step {n u : Nat} {x : Int} (a : ArcT) : Rch l pr f t n u x → a ∈ l → a.prof = pr → a.fr.toNat = u → Rch l pr f t (n + 1) a.to.toNat (arrA a x)
/-- what all lists of the specification keep -/
structure Ev (np : Nat) (l : List ArcT) (pr : Int) (f : Nat) (t : Int) (d : List Int) : Prop where
  len : d.length = np
  lo : ∀ p, p < np → -1 ≤ d.getD p 0
  rch : ∀ p, p < np → 0 ≤ d.getD p 0 → ∃ n, Rch l pr f t n p (d.getD p 0)
section
variable {pl : List ByteArray} {l : List ArcT} {pr : Int} {f : Nat} {t : Int}
/-- the place that is settled next -/
structure Nx (np : Nat) (d : List Int) (lf : List Bool) (u : Nat) : Prop where
  lt : u < np
  new : lf.getD u false = false
  at_ : 0 ≤ d.getD u 0
  least : ∀ q, q < np → lf.getD q false = false → 0 ≤ d.getD q 0 → d.getD u 0 ≤ d.getD q 0
end
end Go.Proofs.YtaallpebfcadjaaGreatDoor.T


/-! The walk of the specification's delayed. -/
namespace Go.Proofs.YtaallpebfcadjaaGreatDoor.T
open Go.RowKit
set_option maxRecDepth 8000

theorem ps_news {w : World} {ad : Addr} {c : Nat} {l : List (Int × Int)} (h : Ps w (.slice (some ad) l.length c) l) : ∀ j u, (flat pT pA l)[j]? = some u → w.cell? (ad.add j) = some u := fun j u hj => by
  obtain ⟨oa, c', hv, h⟩ := h
  simp only [Value.slice.injEq] at hv
  obtain ⟨rfl, -, rfl⟩ := hv
  have hjl : j < (flat pT pA l).length := (List.getElem?_eq_some_iff.1 hj).1
  rw [flat_len] at hjl
  obtain ⟨b, o, ha, -, h0, h1⟩ := h (j / 2) (by omega)
  simp only [Option.some.injEq] at ha
  subst ha
  obtain ⟨f0, f1⟩ := flat_at (E0 := pT) (E1 := pA) (d := (0, 0)) l (j / 2) (by omega)
  have had : (⟨b, o, none⟩ : Addr).add j = ⟨b, o + j, none⟩ := by
    unfold Addr.add; split
    · rename_i hz; rw [hz]; rfl
    · rfl
  rw [had]
  rcases Nat.mod_two_eq_zero_or_one j with e | e
  · rw [show j / 2 * 2 = j by omega] at h0 f0
    rw [f0] at hj
    rw [h0]; exact hj
  · rw [show j / 2 * 2 + 1 = j by omega] at f1
    rw [show o + j / 2 * 2 + 1 = o + j by omega] at h1
    rw [f1] at hj
    rw [h1]; exact hj
end Go.Proofs.YtaallpebfcadjaaGreatDoor.T


/-! The walk of the specification's Slower. -/
namespace Go.Proofs.YtaallpebfcadjaaGreatDoor.T
open Go.RowKit
set_option maxRecDepth 8000

theorem Nb.f {w : World} {n : Nat} {vp va : Value} (h : Nb w n vp va) (k : Nat) : w.frozen? ⟨n, k, none⟩ = false := by unfold Nb at h; simp [World.frozen?, h]
theorem Nb.put {w : World} {n : Nat} {vp va : Value} (h : Nb w n vp va) (y0 y1 : Value) : Nb ((w.setCell ⟨n, 0, none⟩ y0).setCell ⟨n, 1, none⟩ y1) n y0 y1 := by
  unfold Nb at *; simp [World.setCell, Array.getElem?_modify, h]
end Go.Proofs.YtaallpebfcadjaaGreatDoor.T


/-! A network by value, as an argument; how much it holds. -/
namespace Go.Proofs.YtaallpebfcadjaaGreatDoor.T
open Go.Joins Go.ChangeShapes Go.WideShapes Go.ChangeAt Go.RowKit Go.Deep
set_option maxRecDepth 8000

theorem laidOut : laidOutB Tryz.prog = true := by kernel_rfl
section
variable {H : Type} {enc : TypeId × Value → H}
/-! ### how much is read -/
theorem row_lt {W : World} {a : Addr} {n m : Nat} {p q : List MemPlace} (hp : p = MemPlace.row a m ++ q) (hlt : ∀ x ∈ p, x.block < W.heap.size) (hn : n < m) : a.block < W.heap.size := by
  subst hp
  obtain ⟨b, off, spot⟩ := a
  exact hlt (.cell b off) (List.mem_append.2 (.inl (MemPlace.mem_row.2 ⟨0, by omega, by simp⟩)))
end

end Go.Proofs.YtaallpebfcadjaaGreatDoor.T


/-! The walks of network's small functions: isTick, isPlace, wayOf, earlier, copyOf; text's Decimal; slices.Clone. -/
namespace Go.Proofs.YtaallpebfcadjaaGreatDoor.T
open Go.RowKit
set_option maxRecDepth 8000

theorem netTick_n (t : Int) (w : World) : Calls Tryz.prog 142 #[.int .i64 t] w fun e w' => e = .returned (.bool (tickB t)) ∧ w = w' := by
  by_cases h1 : 0 ≤ t
  · have HR : Hid (decide (t ≤ 4096) = tickB t) := by show _ = _; unfold tickB; rw [decide_eq_true h1, Bool.true_and]
    generalize tickB t = r at *
    go_enter Tryz.func142, Tryz.ntmps142
    go_wp2_with fail
    go_ret
    exact ⟨ret_bool HR.out, rfl⟩
  · have HR : Hid (false = tickB t) := by show _ = _; unfold tickB; rw [decide_eq_false h1, Bool.false_and]
    have h2 : t < 0 := by omega
    generalize tickB t = r at *
    go_enter Tryz.func142, Tryz.ntmps142
    go_wp2_with fail
    go_ret
    exact ⟨ret_bool HR.out, rfl⟩
theorem netPlace_n (op : Option Addr) (n c : Nat) (va : Value) (x : Int) (w : World) :
    Calls Tryz.prog 122 #[.agg #[.slice op n c, va], .int .i64 x] w fun e w' => e = .returned (.bool (inB n x)) ∧ Below w.heap.size w w' := by
  by_cases h1 : 0 ≤ x
  · have HR : Hid (decide (x < n) = inB n x) := by show _ = _; unfold inB; rw [decide_eq_true h1, Bool.true_and]
    generalize inB n x = r at *
    go_enter Tryz.func122, Tryz.ntmps122
    go_wp2_with fail
    go_ret
    exact ⟨ret_bool HR.out, by go_grown⟩
  · have HR : Hid (false = inB n x) := by show _ = _; unfold inB; rw [decide_eq_false h1, Bool.false_and]
    have h2 : x < 0 := by omega
    generalize inB n x = r at *
    go_enter Tryz.func122, Tryz.ntmps122
    go_wp2_with fail
    go_ret
    exact ⟨ret_bool HR.out, by go_grown⟩
theorem wayOf_n (fr dt prof miles : Int) (vt vs : Value) (w : World) :
    Calls Tryz.prog 92 #[.agg #[.int .i64 fr, .int .i64 dt, .int .i64 prof, .int .i64 miles, vt, vs]] w fun e w' => e = .returned (.agg #[.int .i64 prof, .int .i64 fr, .int .i64 dt]) ∧ Below w.heap.size w w' := by
  go_enter Tryz.func92, Tryz.ntmps92
  go_wp2_with fail
  exact bodyPost_ret (v := .agg #[.int .i64 prof, .int .i64 fr, .int .i64 dt]) (by simp [results, Tryz.results92, go_sem]) rfl ⟨rfl, by go_grown⟩
theorem netDecimal_n (i : Nat) (hi : i ≤ 1000000000) (w : World) (ht : Tab w) :
    Calls Tryz.prog 94 #[.int .i64 (i : Int)] w fun e w' => e = .returned (.string (dec i)) ∧ Below w.heap.size w w' := by
  have K := Lib.hid (fun w ht => itoa_n i hi w ht)
  have HT := Lib.hid ht
  clear ht
  go_enter Tryz.func94, Tryz.ntmps94
  go_wp2_with fail
  refine (K.out _ HT.out).mono ?_
  rintro e w1 ⟨rfl, b1⟩
  go_wp2_with fail
  go_ret
  exact ⟨rfl, b1⟩

/-! ### slices.Clone -/
end Go.Proofs.YtaallpebfcadjaaGreatDoor.T


/-! Maps of ways and of texts that a call makes itself. -/
namespace Go.Proofs.YtaallpebfcadjaaGreatDoor.T
open Go.RowKit
set_option maxRecDepth 8000

def I64 (x : Int) : Prop := -9223372036854775808 ≤ x ∧ x ≤ 9223372036854775807
theorem i64_wf {x : Int} (h : I64 x) : (Lit.int .i64 x).wf = true := by
  unfold I64 at h
  simp [Lit.wf, IntKind.min, IntKind.max, IntKind.signed, IntKind.bits]
  omega
theorem wf_i64 {x : Int} (h : (Lit.int .i64 x).wf = true) : I64 x := by
  unfold I64
  simp [Lit.wf, IntKind.min, IntKind.max, IntKind.signed, IntKind.bits] at h
  omega
/-- a way, as a key reads -/
def wk (p f t : Int) : Lit := .string (keyBytes [.int .i64 p, .int .i64 f, .int .i64 t])
theorem wayKey {p f t : Int} (hp : I64 p) (hf : I64 f) (ht : I64 t) : keyOf Tryz.prog 124 (.agg #[.int .i64 p, .int .i64 f, .int .i64 t]) = some (wk p f t) := by
  have h0 : 0 < Tryz.prog.types.size := of_decide_eq_true (by kernel_rfl)
  obtain ⟨m, hm⟩ : ∃ m, Tryz.prog.types.size = m + 1 := ⟨Tryz.prog.types.size - 1, by omega⟩
  have hkt : Tryz.prog.keyType 124 = true := by kernel_rfl
  have hc : Tryz.prog.cellsOf 124 = 3 := by kernel_rfl
  have hi : Tryz.prog.cellsOf 3 = 1 := by kernel_rfl
  unfold keyOf
  simp only [Tryz.underlying124]
  rw [if_pos (by simp [hkt, Value.formed, Tryz.underlying124, hc]), hm]
  unfold Program.keyLits
  simp only [Tryz.underlying124, Value.cells]
  rw [if_pos (by rw [hc]; exact ⟨rfl, by simp⟩)]
  simp [hi, Program.keyLits, Tryz.underlying3, i64_wf hp, i64_wf hf, i64_wf ht, wk]
theorem lawWay : Maps.Keyed Tryz.prog 124 := Maps.Keyed.of_law (deep_law_laid laidOut (m := 2) (by omega) (of_decide_eq_true (by kernel_rfl)) (by kernel_rfl) (by kernel_rfl))
theorem wk_inj {p f t p' f' t' : Int} (hp : I64 p) (hf : I64 f) (ht : I64 t) (hp' : I64 p') (hf' : I64 f') (ht' : I64 t') (h : wk p f t = wk p' f' t') : p = p' ∧ f = f' ∧ t = t' := by
  have h1 := wayKey hp hf ht
  have h2 := wayKey hp' hf' ht'
  rw [← h] at h2
  have h3 := lawWay.inj h1 h2
  injection h3 with h3
  injection h3 with h3
  injection h3 with h4 h5
  injection h5 with h5 h6
  injection h6 with h6 _
  injection h4 with _ h4
  injection h5 with _ h5
  injection h6 with _ h6
  exact ⟨h4, h5, h6⟩
theorem zeroI (w : World) : (zeroValue 3).run Tryz.prog w = .ok (.int .i64 0) w := by kernel_rfl
abbrev WayF := Int → Int → Int → Option Nat
def putF (g : WayF) (p f t : Int) (i : Nat) : WayF := fun p' f' t' => if p' = p ∧ f' = f ∧ t' = t then some i else g p' f' t'
/-- block b is a map: of each way the number that g says -/
def Wm (w : World) (b n : Nat) (g : WayF) : Prop :=
  ∃ D : DataW Unit, w.ownsMap Tryz.prog 124 (plainElem Tryz.prog 3) b n D ∧ ∀ p f t, I64 p → I64 f → I64 t →
    Maps.has D (wk p f t) = (g p f t).isSome ∧ D.atKey (wk p f t) (.lit (.int .i64 0)) = .lit (.int .i64 ((g p f t).getD 0 : Nat))
section
variable {w w' : World} {b n : Nat} {g g' : WayF}
theorem Wm.lt (h : Wm w b n g) : b < w.heap.size := by obtain ⟨D, h, _⟩ := h; exact h.lt
theorem Wm.of_block (h : Wm w b n g) (hb : w'.heap[b]? = w.heap[b]?) : Wm w' b n g := by
  obtain ⟨D, ⟨es, clock, h1, h2⟩, h⟩ := h
  exact ⟨D, ⟨es, clock, hb.trans h1, h2⟩, h⟩
theorem Wm.below (h : Wm w b n g) (hb : Below w.heap.size w w') : Wm w' b n g := h.of_block (hb.block b h.lt)
theorem Wm.grown {row : Option Nat} (h : Wm w b n g) (hg : w.grownBy w' row) (hne : some b ≠ row) : Wm w' b n g := h.of_block (hg.block b h.lt hne)
theorem Wm.ext (h : Wm w b n g) (e : ∀ p f t, g p f t = g' p f t) : Wm w b n g' := by
  obtain ⟨D, h1, h⟩ := h
  exact ⟨D, h1, fun p f t hp hf ht => by rw [← e p f t]; exact h p f t hp hf ht⟩
theorem Wm.made (w : World) : Wm (w.alloc (.map #[] 0)) w.heap.size 0 (fun _ _ _ => none) :=
  ⟨.map [], World.ownsMap_made w _ _ _, fun _ _ _ _ _ _ => ⟨rfl, rfl⟩⟩
theorem Wm.put (h : Wm w b n g) (hn : n < maxLen) {p f t : Int} (hp : I64 p) (hf : I64 f) (ht : I64 t) (i : Nat) (hi : i ≤ 1000000000) :
    ∃ w', (Instr.mapUpdate 121 (.map (some b)) (.agg #[.int .i64 p, .int .i64 f, .int .i64 t]) (.int .i64 (i : Int))).run Tryz.prog w = .ok () w' ∧ Wm w' b (n + 1) (putF g p f t i) ∧ w.grownBy w' (some b) := by
  obtain ⟨D, hown, hD⟩ := h
  have hkey := wayKey hp hf ht
  obtain ⟨w', hrun, hown', hg⟩ := hown.update lawWay Tryz.underlying121 hn hkey (plainElem_int (H := Unit) (P := Tryz.prog) (e := 3) Tryz.underlying3 (i64_wf (x := (i : Int)) ⟨by omega, by omega⟩))
  refine ⟨w', hrun, ⟨_, hown', fun p' f' t' hp' hf' ht' => ?_⟩, hg⟩
  unfold putF
  by_cases e : p' = p ∧ f' = f ∧ t' = t
  · obtain ⟨rfl, rfl, rfl⟩ := e
    rw [if_pos ⟨rfl, rfl, rfl⟩]
    exact ⟨Maps.has_put_same hown.isMap (lawWay.key hkey) _, Maps.atKey_put_same hown.isMap (lawWay.key hkey) _ _⟩
  · have hne : wk p' f' t' ≠ wk p f t := fun h => e (wk_inj hp' hf' ht' hp hf ht h)
    rw [if_neg e, Maps.has_put_other hne, Maps.atKey_put_other hne]
    exact hD p' f' t' hp' hf' ht'
theorem Wm.look (h : Wm w b n g) {p f t : Int} (hp : I64 p) (hf : I64 f) (ht : I64 t) :
    (Instr.lookup 121 (.map (some b)) (.agg #[.int .i64 p, .int .i64 f, .int .i64 t]) true).run Tryz.prog w = .ok (.tuple #[.int .i64 ((g p f t).getD 0 : Nat), .bool (g p f t).isSome]) w := by
  obtain ⟨D, hown, hD⟩ := h
  obtain ⟨h1, h2⟩ := hD p f t hp hf ht
  obtain ⟨v, ps, hrun, hv⟩ := hown.look_ok lawWay Tryz.underlying121 (zeroI w) (plainElem_int (H := Unit) (P := Tryz.prog) (e := 3) Tryz.underlying3 (i64_wf (x := 0) ⟨by omega, by omega⟩)) (wayKey hp hf ht)
  obtain ⟨c, rfl, hc, _⟩ := plainElem_int_inv Tryz.underlying3 hv
  simp only [Prod.mk.injEq] at hc
  rw [h2] at hc
  obtain ⟨hc, -⟩ := hc
  injection hc with hc
  injection hc with _ hc
  rw [hrun, h1, ← hc]
theorem Wm.look1 (h : Wm w b n g) {p f t : Int} (hp : I64 p) (hf : I64 f) (ht : I64 t) :
    (Instr.lookup 121 (.map (some b)) (.agg #[.int .i64 p, .int .i64 f, .int .i64 t]) false).run Tryz.prog w = .ok (.int .i64 ((g p f t).getD 0 : Nat)) w := by
  obtain ⟨D, hown, hD⟩ := h
  obtain ⟨-, h2⟩ := hD p f t hp hf ht
  obtain ⟨c, hrun, hc, _⟩ := hown.lookup_int lawWay Tryz.underlying121 Tryz.underlying3 (zeroI w) (wayKey hp hf ht)
  rw [h2] at hc
  injection hc with hc
  injection hc with _ hc
  rw [hrun, ← hc]
end

/-! ### maps of texts -/
section
variable {w w' : World} {b n : Nat} {g g' : ByteArray → Bool}
end

/-! ### the first arc of a way -/
def fixA (pr f t : Int) : List ArcT → Nat → Option Nat
  | [], _ => none
  | a :: l, k => if hitB pr f t a then some k else fixA pr f t l (k + 1)
def ixA (l : List ArcT) (k : Nat) : WayF := fun p f t => fixA p f t (l.drop k) k
theorem ixA_end (l : List ArcT) (p f t : Int) : ixA l l.length p f t = none := by unfold ixA; rw [List.drop_length]; rfl
theorem ixA_step {l : List ArcT} {k : Nat} (hk : k < l.length) (p f t : Int) : putF (ixA l (k + 1)) (l.getD k arc0).prof (l.getD k arc0).fr (l.getD k arc0).to k p f t = ixA l k p f t := by
  unfold putF ixA
  rw [show l.drop k = l.getD k arc0 :: l.drop (k + 1) from drop_more (d := arc0) hk]
  generalize l.getD k arc0 = a
  show _ = if hitB p f t a then some k else fixA p f t (l.drop (k + 1)) (k + 1)
  by_cases e : p = a.prof ∧ f = a.fr ∧ t = a.to
  · obtain ⟨rfl, rfl, rfl⟩ := e
    rw [if_pos ⟨rfl, rfl, rfl⟩, hit_yes rfl rfl rfl]; rfl
  · rw [if_neg e, hit_no (by
      by_cases e1 : a.fr = f
      · by_cases e2 : a.to = t
        · exact .inr (.inr fun e3 => e ⟨e3.symm, e1.symm, e2.symm⟩)
        · exact .inr (.inl e2)
      · exact .inl e1)]
    rfl
theorem fixA_some {pr f t : Int} : ∀ {l : List ArcT} {k i : Nat}, fixA pr f t l k = some i → k ≤ i ∧ i - k < l.length ∧ hitB pr f t (l.getD (i - k) arc0) = true ∧ findA l pr f t = some (l.getD (i - k) arc0) ∧ ∀ j, j < i - k → hitB pr f t (l.getD j arc0) = false
  | [], k, i, h => by cases h
  | a :: l, k, i, h => by
    unfold fixA at h
    by_cases e : hitB pr f t a = true
    · rw [if_pos e] at h
      injection h with h
      subst h
      rw [Nat.sub_self]
      refine ⟨Nat.le_refl _, by simp, e, ?_, fun j hj => absurd hj (Nat.not_lt_zero _)⟩
      unfold findA; rw [List.find?_cons, e]; rfl
    · rw [if_neg e] at h
      have e' : hitB pr f t a = false := by cases hb : hitB pr f t a <;> simp_all
      obtain ⟨h1, h2, h3, h4, h5⟩ := fixA_some h
      have hs : i - k = (i - (k + 1)) + 1 := by omega
      rw [hs]
      refine ⟨by omega, by rw [List.length_cons]; omega, by simpa using h3, ?_, fun j hj => ?_⟩
      · unfold findA at h4 ⊢; rw [List.find?_cons, e']; simpa using h4
      · cases j with
        | zero => exact e'
        | succ j => simpa using h5 j (by omega)
theorem fixA_none {pr f t : Int} : ∀ {l : List ArcT} {k : Nat}, fixA pr f t l k = none → findA l pr f t = none
  | [], _, _ => rfl
  | a :: l, k, h => by
    unfold fixA at h
    by_cases e : hitB pr f t a = true
    · rw [if_pos e] at h; cases h
    · rw [if_neg e] at h
      have e' : hitB pr f t a = false := by cases hb : hitB pr f t a <;> simp_all
      have := fixA_none h
      unfold findA at this ⊢
      rw [List.find?_cons, e']; exact this
theorem ix_none {l : List ArcT} {p f t : Int} (h : ixA l 0 p f t = none) : findA l p f t = none := by
  unfold ixA at h
  rw [List.drop_zero] at h
  exact fixA_none h
/-- an arc comes twice if the first one of its way comes ahead of it -/
theorem ix_twice {l : List ArcT} {i : Nat} (hi : i < l.length) : ∃ j, ixA l 0 (l.getD i arc0).prof (l.getD i arc0).fr (l.getD i arc0).to = some j ∧ twiceB l (l.getD i arc0) i = decide (j < i) := by
  have hself : hitB (l.getD i arc0).prof (l.getD i arc0).fr (l.getD i arc0).to (l.getD i arc0) = true := hit_yes rfl rfl rfl
  have hlike : ∀ b, likeB (l.getD i arc0) b = hitB (l.getD i arc0).prof (l.getD i arc0).fr (l.getD i arc0).to b := fun b => by
    unfold likeB hitB
    rw [decide_eq_decide.2 (eq_comm (a := (l.getD i arc0).fr)), decide_eq_decide.2 (eq_comm (a := (l.getD i arc0).to)), decide_eq_decide.2 (eq_comm (a := (l.getD i arc0).prof))]
  generalize hp : (l.getD i arc0).prof = p at *
  generalize hf : (l.getD i arc0).fr = f at *
  generalize ht : (l.getD i arc0).to = t at *
  cases h : ixA l 0 p f t with
  | none =>
    have h1 := ix_none h
    unfold findA at h1
    rw [List.find?_eq_none] at h1
    exact absurd hself (h1 _ (getD_mem hi))
  | some j =>
    refine ⟨j, rfl, ?_⟩
    unfold ixA at h
    rw [List.drop_zero] at h
    obtain ⟨-, h2, h3, -, h5⟩ := fixA_some h
    rw [Nat.sub_zero] at h2 h3 h5
    have hji : j ≤ i := by
      apply Decidable.byContradiction
      intro hc
      have := h5 i (by omega)
      rw [hself] at this; cases this
    unfold twiceB
    by_cases e : j < i
    · rw [decide_eq_true e, List.any_eq_true]
      refine ⟨l.getD j arc0, ?_, by rw [hlike]; exact h3⟩
      rw [List.getD_eq_getElem?_getD, List.getElem?_eq_getElem h2]
      exact List.mem_take_iff_getElem.2 ⟨j, by omega, rfl⟩
    · rw [decide_eq_false e, List.any_eq_false]
      intro b hb
      obtain ⟨m, hm, rfl⟩ := List.mem_take_iff_getElem.1 hb
      have := h5 m (by omega)
      rw [List.getD_eq_getElem?_getD, List.getElem?_eq_getElem (by omega)] at this
      rw [hlike]
      simpa using this

end Go.Proofs.YtaallpebfcadjaaGreatDoor.T


