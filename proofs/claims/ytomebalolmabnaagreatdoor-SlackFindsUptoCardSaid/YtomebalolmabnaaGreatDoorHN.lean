/-
  DERIVED. HN: a part of the base of layer 13 (made by pack.py).
-/
import Derived.Test.YtomebalolmabnaaGreatDoorHM
import Derived.BigRegion
import Derived.Laws.BitsLemmas
import Derived.Laws.Bits64b
import Derived.Laws.Bits128
import Derived.RangeFuncBox
import Derived.RangeFuncNested
import Derived.RangeFuncBound
import Derived.RangeFuncCalls
import Derived.RangeFuncLeaves
import Derived.Shelf.Abstract
import Derived.Shelf.RegionOpen
import Derived.OwnWalkIn
import Derived.TacticsInMore
import Derived.LoopNIn
import Derived.LoopIn
import Derived.Maps.OwnSet
import Derived.DeepKeys4
import Derived.Lib.SliceRun
import Derived.Laws.AppendOwnNone
import Derived.Deep.DeepCutAuto
import Derived.Deep.Cut
import Derived.Deep.CutRange
import Derived.Maps.AppendAt
import Derived.Test.YtomebalolmabnaaGreatDoorShelf
import Derived.Test.YtomebalolmabnaaGreatDoorRows
import Derived.WalkKit
import Derived.WalkSpells
import Derived.WalkLawsBesides
import Derived.WalkMore
import Derived.Below
import Derived.OwnWalk
import Derived.IntWalk
import Derived.Laws.OwnMore
import Derived.Laws.AppendOwn
import Derived.Deep.AppendLies
import Derived.Deep.Draws
import Derived.Deep.QuietTactic
import Derived.Deep.RegionLaw
import Derived.Deep.RegionWith
import Derived.BigQuiet
import Derived.Lib.Hide
import Derived.WalkSmall
import Derived.Deep.Onto
import Derived.Deep.LoopGhost
import Derived.Handy
import Derived.Lib.ItoaNum
import Derived.ProofKit
import Derived.LaidMore
import Derived.ChangeSlices
import Derived.SliceStrings
import Derived.Carry
import Derived.OpenShut
import Derived.Deep.SlicePairs
import Derived.Deep.Slices
import Derived.Deep.Fields
import Derived.Lib.SmallJoins
import Derived.Lib.LaidTab
import Derived.Test.YtomebalolmabnaaGreatDoorHE
/-! The walks of order: exists, Visits, Stop. -/
namespace Go.Proofs.YtomebalolmabnaaGreatDoor.T
open Go.RowKit
set_option maxRecDepth 8000

theorem exists_n (oa : Option Addr) (c : Nat) (l : List OrT) (i : Int) (w : World) : Calls Tryz.prog 94 #[.slice oa l.length c, .int .i64 i] w fun e w' => e = .returned (.bool (inR l i)) ∧ w = w' := by
 by_cases h1 : 0 ≤ i
 ·have HR : Hid (decide (i < (l.length : Int)) = inR l i) := by show _ = _; unfold inR; rw [decide_eq_true h1, Bool.true_and]
  generalize inR l i = r at *
  generalize l.length = n at *
  go_enter Tryz.func94, Tryz.ntmps94
  go_wp2_with fail
  go_ret
  exact ⟨ret_bool HR.out, rfl⟩
 ·have HR : Hid (false = inR l i) := by show _ = _; unfold inR; rw [decide_eq_false h1, Bool.false_and]
  have h2 : i < 0 := by omega
  generalize inR l i = r at *
  generalize l.length = n at *
  go_enter Tryz.func94, Tryz.ntmps94
  go_wp2_with fail
  go_ret
  exact ⟨ret_bool HR.out, rfl⟩

set_option maxHeartbeats 3200000 in
theorem ordStop_n (v : Value) (l : List OrT) (i : Int) (d : Bool) (w : World) (hv : Os w v l) :
  Calls Tryz.prog 87 #[v, .agg #[.int .i64 i, .bool d]] w (StopP (stopV l i d) (stopE l i d) w) := by
 obtain ⟨oa, c, rfl, ha⟩ := hv
 have KI := Lib.hid (fun w => exists_n oa c l i w)
 cases hr : inR l i
 ·have HR : Hid (stopV l i d = st0 ∧ stopE l i d = 2) := by show _ ∧ _; unfold stopV stopE; rw [hr]; exact ⟨rfl, rfl⟩
  rw [hr] at KI
  generalize stopV l i d = r at *
  generalize stopE l i d = x at *
  generalize l.length = n at *
  clear hr ha
  go_enter Tryz.func87, Tryz.ntmps87
  go_wp2_with fail
  refine (KI.out _).mono ?_
  rintro e w1 ⟨rfl, rfl⟩
  go_wp2_with fail
  exact bodyPost_ret (v := .tuple #[.agg #[.int .i64 0, .int .i64 0, .int .i64 0, .int .i64 0], .int .i64 2]) (by simp [results, Tryz.results87, go_sem]) rfl ⟨by rw [HR.out.1, HR.out.2]; rfl, by go_grown⟩
 ·have HV : Hid (stopV l i d = if (stQ (l.getD i.toNat or0) d).p < 0 then st0 else stQ (l.getD i.toNat or0) d) := by show _ = _; unfold stopV; rw [hr, if_pos rfl]
  have HX : Hid (stopE l i d = if (stQ (l.getD i.toNat or0) d).p < 0 then 19 else 0) := by show _ = _; unfold stopE; rw [hr, if_pos rfl]
  rw [hr] at KI
  obtain ⟨k, rfl, hk⟩ := inR_yes hr
  obtain ⟨b, o, vc, rfl, hab, ⟨h0, h1, h2, h3, h4, h5, h6, h7, h8, h9, h10, h11, h12, h13, h14, h15⟩, -⟩ := ha k hk
  rw [Int.toNat_natCast] at HV HX
  have hkI : (k : Int) < (l.length : Int) := by omega
  have hb1 : b < w.heap.size + 1 := by omega
  have hb2 : b < w.heap.size + 1 + 1 := by omega
  have hb3 : ¬ b = w.heap.size + 1 + 1 := by omega
  have hb4 : ¬ b = w.heap.size + 1 := by omega
  have hb5 : ¬ b = w.heap.size := by omega
  generalize stopV l k d = r at *
  generalize stopE l k d = x at *
  generalize l.getD k or0 = a at *
  generalize l.length = n at *
  clear hr ha h0 h1 h10 h11 h12 h13 h14 h15
  cases d
  ·clear h6 h7 h8 h9
   by_cases p1 : a.pp < 0
   ·have HR : Hid (r = st0 ∧ x = 19) := by show _ ∧ _; rw [HV.out, HX.out]; unfold stQ; exact ⟨if_pos p1, if_pos p1⟩
    clear HV HX
    go_enter Tryz.func87, Tryz.ntmps87
    go_wp2_with fail
    refine (KI.out _).mono ?_
    rintro e w1 ⟨rfl, rfl⟩
    go_wp2_with fail
    exact bodyPost_ret (v := .tuple #[.agg #[.int .i64 0, .int .i64 0, .int .i64 0, .int .i64 0], .int .i64 19]) (by simp [results, Tryz.results87, go_sem]) rfl ⟨by rw [HR.out.1, HR.out.2]; rfl, by go_grown⟩
   ·have HR : Hid (r = ⟨a.pp, a.po, a.pc, a.ps⟩ ∧ x = 0) := by show _ ∧ _; rw [HV.out, HX.out]; unfold stQ; exact ⟨if_neg p1, if_neg p1⟩
    clear HV HX
    go_enter Tryz.func87, Tryz.ntmps87
    go_wp2_with fail
    refine (KI.out _).mono ?_
    rintro e w1 ⟨rfl, rfl⟩
    go_wp2_with fail
    exact bodyPost_ret (v := .tuple #[.agg #[.int .i64 a.pp, .int .i64 a.po, .int .i64 a.pc, .int .i64 a.ps], .int .i64 0]) (by simp [results, Tryz.results87, go_sem]) rfl ⟨by rw [HR.out.1, HR.out.2], by go_grown⟩
  ·by_cases p1 : a.dp < 0
   ·have HR : Hid (r = st0 ∧ x = 19) := by show _ ∧ _; rw [HV.out, HX.out]; unfold stQ; exact ⟨if_pos p1, if_pos p1⟩
    clear HV HX
    go_enter Tryz.func87, Tryz.ntmps87
    go_wp2_with fail
    refine (KI.out _).mono ?_
    rintro e w1 ⟨rfl, rfl⟩
    go_wp2_with fail
    exact bodyPost_ret (v := .tuple #[.agg #[.int .i64 0, .int .i64 0, .int .i64 0, .int .i64 0], .int .i64 19]) (by simp [results, Tryz.results87, go_sem]) rfl ⟨by rw [HR.out.1, HR.out.2]; rfl, by go_grown⟩
   ·have HR : Hid (r = ⟨a.dp, a.dd, a.dc, a.ds⟩ ∧ x = 0) := by show _ ∧ _; rw [HV.out, HX.out]; unfold stQ; exact ⟨if_neg p1, if_neg p1⟩
    clear HV HX
    go_enter Tryz.func87, Tryz.ntmps87
    go_wp2_with fail
    refine (KI.out _).mono ?_
    rintro e w1 ⟨rfl, rfl⟩
    go_wp2_with fail
    exact bodyPost_ret (v := .tuple #[.agg #[.int .i64 a.dp, .int .i64 a.dd, .int .i64 a.dc, .int .i64 a.ds], .int .i64 0]) (by simp [results, Tryz.results87, go_sem]) rfl ⟨by rw [HR.out.1, HR.out.2], by go_grown⟩


end Go.Proofs.YtomebalolmabnaaGreatDoor.T




/-! Rows of ints; bits of machine integers (out of layer 5's texts: tools/mkrusets.py). -/
namespace Go.Proofs.YtomebalolmabnaaGreatDoor.S
open Go.RowKit
set_option maxRecDepth 8000

def dbTab : List Nat := [0, 1, 56, 2, 57, 49, 28, 3, 61, 58, 42, 50, 38, 29, 17, 4, 62, 47, 59, 36, 45, 43, 51, 22, 53, 39, 33, 30, 24, 18, 12, 5, 63, 55, 48, 27, 60, 41, 37, 16, 46, 35, 44, 21, 52, 32, 23, 11, 54, 26, 40, 15, 34, 20, 31, 10, 25, 14, 19, 9, 13, 8, 7, 6]
end Go.Proofs.YtomebalolmabnaaGreatDoor.S




/-! The walks of sets: Has, Within, Size, Least, Members (out of layer 5's texts: tools/mkrusets.py). -/
namespace Go.Proofs.YtomebalolmabnaaGreatDoor.S
open Go.RowKit
set_option maxRecDepth 8000

def dbI : List Int := dbTab.map fun (x : Nat) => (x : Int)
def Tab (w : World) : Prop := Lib.TabIs Tryz.prog w "math/bits.deBruijn64tab" .u8 dbI
theorem gTab : Tryz.prog.globalNamed "math/bits.deBruijn64tab" = some 2 := by kernel_rfl
theorem Tab.lt {w : World} (h : Tab w) : 2 < w.heap.size :=
 World.block_lt_of_cell? _ _ (Lib.TabIs.cell h gTab 0 (by decide))
theorem Tab.below {B : Nat} {w w' : World} (h : Tab w) (hB : w.heap.size ≤ B) (hb : Below B w w') : Tab w' := var?_below hb gTab (Nat.lt_of_lt_of_le h.lt hB) h
end Go.Proofs.YtomebalolmabnaaGreatDoor.S




/-! Plain Lean: pairs of orders, chains, the sets that follow. -/
namespace Go.Proofs.YtomebalolmabnaaGreatDoor.U

theorem has_bit (n i : Nat) : S.has n i = n.testBit i := by
 unfold S.has
 rw [Nat.testBit_eq_decide_div_mod_eq, Bool.eq_iff_iff]
 simp
theorem has_zero (i : Nat) : S.has 0 i = false := by rw [has_bit, Nat.zero_testBit]
theorem has_ext {a b : Nat} (h : ∀ i, S.has a i = S.has b i) : a = b := Nat.eq_of_testBit_eq fun i => by rw [← has_bit, ← has_bit]; exact h i
theorem has_add {s j : Nat} (h : S.has s j = false) (i : Nat) : S.has (s + 2 ^ j) i = (S.has s i || decide (i = j)) := by
 have e : s + 2 ^ j = s ||| 2 ^ j := by
  rw [has_bit] at h
  have h0 : 2 ^ j &&& s = 0 := Nat.eq_of_testBit_eq fun k => by
   rw [Nat.testBit_and, Nat.testBit_two_pow, Nat.zero_testBit]
   by_cases e : j = k
   ·subst e; rw [h, Bool.and_false]
   ·rw [decide_eq_false e, Bool.false_and]
  have := Nat.two_pow_add_eq_or_of_lt (i := j) (b := s % 2 ^ j) (Nat.mod_lt _ (Nat.pow_pos (by omega))) (s / 2 ^ j + 1)
  have h1 := Nat.div_add_mod s (2 ^ j)
  have h3 : s / 2 ^ j % 2 = 0 := by
   rw [Nat.testBit_eq_decide_div_mod_eq] at h
   have : ¬ s / 2 ^ j % 2 = 1 := by simpa using h
   omega
  refine Nat.eq_of_testBit_eq fun k => ?_
  rw [Nat.testBit_or, Nat.testBit_two_pow]
  rw [show s + 2 ^ j = 2 ^ j * (s / 2 ^ j + 1) + s % 2 ^ j by rw [Nat.mul_add, Nat.mul_one]; omega, this, Nat.testBit_or, Nat.testBit_mod_two_pow, Nat.testBit_two_pow_mul]
  by_cases hk : k < j
  ·rw [decide_eq_true hk, decide_eq_false (show ¬ k ≥ j by omega), decide_eq_false (show ¬ j = k by omega)]
   simp
  ·rw [decide_eq_false hk, decide_eq_true (show k ≥ j by omega)]
   rw [Nat.testBit_eq_decide_div_mod_eq, Nat.testBit_eq_decide_div_mod_eq]
   by_cases e : k = j
   ·subst e
    simp
    omega
   ·obtain ⟨d, rfl⟩ : ∃ d, k = j + (d + 1) := ⟨k - j - 1, by omega⟩
    have e1 : s / 2 ^ (j + (d + 1)) = s / 2 ^ j / 2 / 2 ^ d := by rw [Nat.pow_add, ← Nat.div_div_eq_div_mul, Nat.pow_succ', ← Nat.div_div_eq_div_mul]
    have e2 : (s / 2 ^ j + 1) / 2 ^ (d + 1) = s / 2 ^ j / 2 / 2 ^ d := by rw [Nat.pow_succ', ← Nat.div_div_eq_div_mul, show (s / 2 ^ j + 1) / 2 = s / 2 ^ j / 2 by omega]
    rw [show j + (d + 1) - j = d + 1 by omega, decide_eq_false (show ¬ j = j + (d + 1) by omega), e1, e2]
    simp
 rw [e, has_bit, Nat.testBit_or, Nat.testBit_two_pow, ← has_bit]
 congr 1
 rw [decide_eq_decide]
 exact eq_comm
theorem has_lt {s n : Nat} (h : ∀ i, S.has s i = true → i < n) : s < 2 ^ n := by
 apply Nat.lt_pow_two_of_testBit
 intro i hi
 cases hb : s.testBit i
 ·rfl
 ·have := h i (by rw [has_bit]; exact hb)
  omega
theorem lt_has {s n i : Nat} (h : s < 2 ^ n) (hi : S.has s i = true) : i < n := by
 apply Decidable.byContradiction
 intro hc
 rw [has_bit, Nat.testBit_lt_two_pow (Nat.lt_of_lt_of_le h (Nat.pow_le_pow_right (by omega) (by omega)))] at hi
 cases hi

def pa (p : Int × Int) : Nat := p.1.toNat
def pb (p : Int × Int) : Nat := p.2.toNat
def Rt (n : Nat) (l : List (Int × Int)) : Prop := ∀ p ∈ l, 0 ≤ p.1 ∧ p.1 < n ∧ 0 ≤ p.2 ∧ p.2 < n ∧ p.1 ≠ p.2
theorem Rt.a {n : Nat} {l : List (Int × Int)} (h : Rt n l) {p : Int × Int} (hp : p ∈ l) : pa p < n ∧ pb p < n ∧ pa p ≠ pb p ∧ p = ((pa p : Int), (pb p : Int)) := by
 obtain ⟨h1, h2, h3, h4, h5⟩ := h p hp
 unfold pa pb
 refine ⟨by omega, by omega, by omega, ?_⟩
 obtain ⟨x, y⟩ := p
 simp only at h1 h3 ⊢
 rw [Int.toNat_of_nonneg h1, Int.toNat_of_nonneg h3]
inductive Ch (l : List (Int × Int)) (a : Nat) : Nat → Prop
  | one {p : Int × Int} : p ∈ l → pa p = a → Ch l a (pb p)
  | more {p : Int × Int} : Ch l a (pa p) → p ∈ l → Ch l a (pb p)
theorem Ch.trans {l : List (Int × Int)} {a b c : Nat} (h : Ch l a b) (h2 : Ch l b c) : Ch l a c := by
 induction h2 with
 | one hp e => subst e; exact h.more hp
 | more _ hp ih => exact ih.more hp
theorem Ch.lt {n : Nat} {l : List (Int × Int)} (hr : Rt n l) {a b : Nat} (h : Ch l a b) : a < n ∧ b < n := by
 induction h with
 | one hp e => subst e; exact ⟨(hr.a hp).1, (hr.a hp).2.1⟩
 | more _ hp ih => exact ⟨ih.1, (hr.a hp).2.1⟩
theorem Ch.back {l : List (Int × Int)} {s : Nat} (hc : ∀ p ∈ l, S.has s (pb p) = true → S.has s (pa p) = true) {a b : Nat} (h : Ch l a b) (hb : S.has s b = true) : S.has s a = true := by
 induction h with
 | one hp e => subst e; exact hc _ hp hb
 | more _ hp ih => exact ih (hc _ hp hb)

def stepR (f s : Nat) (p : Int × Int) : Nat := if (decide (pa p = f) || S.has s (pa p)) && !S.has s (pb p) then s + 2 ^ pb p else s
def roundR (f : Nat) (l : List (Int × Int)) (s : Nat) : Nat := l.foldl (stepR f) s
def reachK (f : Nat) (l : List (Int × Int)) : Nat → Nat
  | 0 => 0
  | k + 1 => roundR f l (reachK f l k)
def reach (n : Nat) (l : List (Int × Int)) (f : Nat) : Nat := reachK f l (n + 1)
theorem step_has (f s : Nat) (p : Int × Int) (i : Nat) : S.has (stepR f s p) i = (S.has s i || ((decide (pa p = f) || S.has s (pa p)) && decide (i = pb p))) := by
 unfold stepR
 cases h : S.has s (pb p)
 ·cases h2 : (decide (pa p = f) || S.has s (pa p))
  ·simp
  ·rw [if_pos (by rfl), has_add h, Bool.true_and]
 ·rw [if_neg (by simp)]
  by_cases e : i = pb p
  ·subst e; rw [h]; rfl
  ·rw [decide_eq_false e, Bool.and_false, Bool.or_false]
theorem step_mono (f s : Nat) (p : Int × Int) {i : Nat} (h : S.has s i = true) : S.has (stepR f s p) i = true := by rw [step_has, h]; rfl
theorem step_le (f s : Nat) (p : Int × Int) : s ≤ stepR f s p := by
 unfold stepR
 split
 ·exact Nat.le_add_right _ _
 ·exact Nat.le_refl _
theorem round_mono (f : Nat) (l : List (Int × Int)) : ∀ (s : Nat) {i : Nat}, S.has s i = true → S.has (roundR f l s) i = true := by
 induction l with
 | nil => intro s i h; exact h
 | cons p l ih => intro s i h; exact ih (stepR f s p) (step_mono f s p h)
theorem round_le (f : Nat) (l : List (Int × Int)) : ∀ s, s ≤ roundR f l s := by
 induction l with
 | nil => intro s; exact Nat.le_refl _
 | cons p l ih => intro s; exact Nat.le_trans (step_le f s p) (ih _)
theorem round_fix (f : Nat) (l : List (Int × Int)) : ∀ s, roundR f l s = s → ∀ p ∈ l, (pa p = f ∨ S.has s (pa p) = true) → S.has s (pb p) = true := by
 induction l with
 | nil => intro s _ p hp; cases hp
 | cons q l ih =>
  intro s h p hp hc
  have h1 := step_le f s q
  have h2 := round_le f l (stepR f s q)
  have h3 : roundR f l (stepR f s q) = s := h
  have h4 : stepR f s q = s := by omega
  rcases List.mem_cons.1 hp with rfl | hp
  ·have h5 := step_has f s p (pb p)
   rw [h4] at h5
   rw [h5]
   rcases hc with hc | hc
   ·rw [decide_eq_true hc]; simp
   ·rw [hc]; simp
  ·rw [h4] at h3
   exact ih s h3 p hp hc
theorem round_sound (f : Nat) (l0 : List (Int × Int)) : ∀ (l : List (Int × Int)), (∀ p ∈ l, p ∈ l0) → ∀ s, (∀ i, S.has s i = true → Ch l0 f i) → ∀ i, S.has (roundR f l s) i = true → Ch l0 f i := by
 intro l
 induction l with
 | nil => intro _ s h i hi; exact h i hi
 | cons p l ih =>
  intro hl s h
  refine ih (fun q hq => hl q (List.mem_cons_of_mem _ hq)) (stepR f s p) fun i hi => ?_
  rw [step_has, Bool.or_eq_true, Bool.and_eq_true, Bool.or_eq_true, decide_eq_true_iff, decide_eq_true_iff] at hi
  rcases hi with hi | ⟨hi, rfl⟩
  ·exact h i hi
  ·have hp := hl p (List.mem_cons_self ..)
   rcases hi with hi | hi
   ·exact Ch.one hp hi
   ·exact (h _ hi).more hp
theorem reach_sound {l : List (Int × Int)} (f : Nat) : ∀ k i, S.has (reachK f l k) i = true → Ch l f i
 | 0, i, h => by rw [reachK, has_zero] at h; cases h
 | k + 1, i, h => round_sound f l l (fun _ h => h) _ (reach_sound f k) i h
theorem filter_lt {α : Type} (p q : α → Bool) (l : List α) (hpq : ∀ x, p x = true → q x = true) {x : α} (hx : x ∈ l) (h1 : q x = true) (h2 : p x = false) : (l.filter p).length < (l.filter q).length := by
 have hle : ∀ l : List α, (l.filter p).length ≤ (l.filter q).length := by
  intro l
  induction l with
  | nil => exact Nat.le_refl _
  | cons y l ih =>
   rw [List.filter_cons, List.filter_cons]
   cases hp : p y
   ·cases hq : q y
    ·simpa using ih
    ·simp; omega
   ·rw [hpq y hp]; simp; exact ih
 induction l with
 | nil => cases hx
 | cons y l ih =>
  rw [List.filter_cons, List.filter_cons]
  rcases List.mem_cons.1 hx with rfl | hx
  ·rw [h1, h2]; simp; have := hle l; omega
  ·have := ih hx
   cases hp : p y
   ·cases hq : q y
    ·simpa using this
    ·simp; omega
   ·rw [hpq y hp]; simp; exact this
theorem reach_stops {n : Nat} {l : List (Int × Int)} (hr : Rt n l) (f : Nat) : ∃ k, k ≤ n ∧ reachK f l (k + 1) = reachK f l k := by
 apply Classical.byContradiction
 intro hc
 have hne : ∀ k, k ≤ n → reachK f l (k + 1) ≠ reachK f l k := fun k hk e => hc ⟨k, hk, e⟩
 have hlen : ∀ k, k ≤ n + 1 → k ≤ (S.mem (reachK f l k) n).length := by
  intro k
  induction k with
  | zero => intro _; exact Nat.zero_le _
  | succ k ih =>
   intro hk
   have h1 := ih (by omega)
   have h2 := hne k (by omega)
   have hsub : ∀ i, S.has (reachK f l k) i = true → S.has (reachK f l (k + 1)) i = true := fun i => round_mono f l _
   have hex : ∃ i, S.has (reachK f l (k + 1)) i = true ∧ S.has (reachK f l k) i = false := by
    apply Classical.byContradiction
    intro hno
    apply h2
    refine has_ext fun i => ?_
    cases ha : S.has (reachK f l k) i
    ·cases hb : S.has (reachK f l (k + 1)) i
     ·rfl
     ·exact absurd ⟨i, hb, ha⟩ hno
    ·exact hsub i ha
   obtain ⟨i, hi1, hi2⟩ := hex
   have hin : i < n := ((reach_sound f (k + 1) i hi1).lt hr).2
   have := filter_lt (S.has (reachK f l k)) (S.has (reachK f l (k + 1))) (List.range n) hsub (List.mem_range.2 hin) hi1 hi2
   show k + 1 ≤ _
   unfold S.mem at h1 ⊢
   omega
 have h1 := hlen (n + 1) (Nat.le_refl _)
 have h2 := S.mem_len (reachK f l (n + 1)) n
 omega
theorem reach_fix {n : Nat} {l : List (Int × Int)} (hr : Rt n l) (f : Nat) : roundR f l (reach n l f) = reach n l f := by
 obtain ⟨k, hk, e⟩ := reach_stops hr f
 have h : ∀ m, reachK f l (k + m) = reachK f l k := by
  intro m
  induction m with
  | zero => rfl
  | succ m ih => rw [show k + (m + 1) = (k + m) + 1 from rfl, reachK, ih]; exact e
 have h1 : reach n l f = reachK f l k := by
  unfold reach
  rw [show n + 1 = k + (n + 1 - k) by omega, h]
 rw [h1]; exact e
theorem reach_iff {n : Nat} {l : List (Int × Int)} (hr : Rt n l) (f i : Nat) : S.has (reach n l f) i = true ↔ Ch l f i := by
 constructor
 ·exact reach_sound f (n + 1) i
 ·intro h
  have hf := round_fix f l _ (reach_fix hr f)
  induction h with
  | one hp e => exact hf _ hp (.inl e)
  | more _ hp ih => exact hf _ hp (.inr ih)
def ofB (p : Nat → Bool) : Nat → Nat
  | 0 => 0
  | k + 1 => if p k then ofB p k + 2 ^ k else ofB p k
theorem has_ofB (p : Nat → Bool) : ∀ k i, S.has (ofB p k) i = (decide (i < k) && p i)
 | 0, i => by rw [ofB, has_zero]; rfl
 | k + 1, i => by
  have h0 : S.has (ofB p k) k = false := by rw [has_ofB p k k, decide_eq_false (by omega)]; rfl
  rw [ofB]
  cases hp : p k
  ·rw [if_neg (by simp), has_ofB p k i]
   by_cases e : i = k
   ·subst e; rw [hp]; simp
   ·congr 1; rw [decide_eq_decide]; omega
  ·rw [if_pos rfl, has_add h0, has_ofB p k i]
   by_cases e : i = k
   ·subst e; rw [hp]; simp
   ·rw [decide_eq_false e, Bool.or_false]; congr 1; rw [decide_eq_decide]; omega
end Go.Proofs.YtomebalolmabnaaGreatDoor.U




/-! Plain Lean: what Closure, Needs, Allowed and Never answer, and what follows of it. -/
namespace Go.Proofs.YtomebalolmabnaaGreatDoor.U

def needP (n : Nat) (l : List (Int × Int)) (o i : Nat) : Bool := decide (i = o) || S.has (reach n l i) o
def needN (n : Nat) (l : List (Int × Int)) (o : Nat) : Nat := ofB (needP n l o) n
theorem has_need {n : Nat} {l : List (Int × Int)} (hr : Rt n l) (o i : Nat) : S.has (needN n l o) i = true ↔ i < n ∧ (i = o ∨ Ch l i o) := by
 unfold needN needP
 rw [has_ofB, Bool.and_eq_true, decide_eq_true_iff, Bool.or_eq_true, decide_eq_true_iff, reach_iff hr]
structure Okay (n : Nat) (off : Nat → Bool) (ap be : List (Int × Int)) (s : Nat) : Prop where
  lt : s < 2 ^ n
  on : ∀ i, S.has s i = true → off i = false
  apt : ∀ p ∈ ap, S.has s (pa p) = true → S.has s (pb p) = false
  bef : ∀ p ∈ be, S.has s (pb p) = true → S.has s (pa p) = true
  ci : ∀ i, S.has s i = true → ¬ Ch be i i
end Go.Proofs.YtomebalolmabnaaGreatDoor.U




/-! Plain Lean: the fixed points that the landed rules find, and lists of pairs in ascending order. -/
namespace Go.Proofs.YtomebalolmabnaaGreatDoor.U

theorem has_or (a b i : Nat) : S.has (a ||| b) i = (S.has a i || S.has b i) := by
 rw [has_bit, has_bit, has_bit, Nat.testBit_or]
theorem has_pow (j i : Nat) : S.has (2 ^ j) i = decide (i = j) := by
 rw [has_bit, Nat.testBit_two_pow, decide_eq_decide]; exact eq_comm
def ahdK (l : List (Int × Int)) (s : Nat) : Nat → Nat
  | 0 => 0
  | k + 1 => if S.has s (pb (l.getD k (0, 0))) then ahdK l s k ||| 2 ^ pa (l.getD k (0, 0)) else ahdK l s k
theorem ex_more {l : List (Int × Int)} {k : Nat} (P : Int × Int → Prop) : (∃ j, j < k + 1 ∧ P (l.getD j (0, 0))) ↔ (∃ j, j < k ∧ P (l.getD j (0, 0))) ∨ P (l.getD k (0, 0)) := by
 constructor
 ·rintro ⟨j, hj, h⟩
  by_cases e : j = k
  ·exact .inr (e ▸ h)
  ·exact .inl ⟨j, by omega, h⟩
 ·rintro (⟨j, hj, h⟩ | h)
  ·exact ⟨j, by omega, h⟩
  ·exact ⟨k, by omega, h⟩
theorem ex_mem {l : List (Int × Int)} (P : Int × Int → Prop) : (∃ j, j < l.length ∧ P (l.getD j (0, 0))) ↔ ∃ p ∈ l, P p := by
 constructor
 ·rintro ⟨j, hj, h⟩
  refine ⟨_, ?_, h⟩
  rw [List.getD_eq_getElem?_getD, List.getElem?_eq_getElem hj]; exact List.getElem_mem hj
 ·rintro ⟨p, hp, h⟩
  obtain ⟨j, hj, rfl⟩ := List.mem_iff_getElem.1 hp
  refine ⟨j, hj, ?_⟩
  rw [List.getD_eq_getElem?_getD, List.getElem?_eq_getElem hj]; exact h
theorem has_ahdK (l : List (Int × Int)) (s i : Nat) : ∀ k, S.has (ahdK l s k) i = true ↔ ∃ j, j < k ∧ (S.has s (pb (l.getD j (0, 0))) = true ∧ i = pa (l.getD j (0, 0)))
 | 0 => by
  rw [ahdK, has_zero]
  constructor
  ·intro h; cases h
  ·rintro ⟨j, hj, -⟩; omega
 | k + 1 => by
  rw [ex_more (fun p => S.has s (pb p) = true ∧ i = pa p), ← has_ahdK l s i k, ahdK]
  cases h : S.has s (pb (l.getD k (0, 0)))
  ·rw [if_neg (by simp)]; simp
  ·rw [if_pos rfl, has_or, has_pow, Bool.or_eq_true, decide_eq_true_iff]; simp
def ahd (l : List (Int × Int)) (s : Nat) : Nat := ahdK l s l.length
theorem has_ahd (l : List (Int × Int)) (s i : Nat) : S.has (ahd l s) i = true ↔ ∃ p ∈ l, S.has s (pb p) = true ∧ i = pa p := by
 unfold ahd
 rw [has_ahdK, ex_mem (fun p => S.has s (pb p) = true ∧ i = pa p)]
structure NdI (l : List (Int × Int)) (o a : Nat) : Prop where
  own : S.has a o = true
  ch : ∀ i, S.has a i = true → i = o ∨ Ch l i o
theorem NdI.lt {n : Nat} {l : List (Int × Int)} (hr : Rt n l) {o a : Nat} (ho : o < n) (h : NdI l o a) : a < 2 ^ n := has_lt fun i hi => by
 rcases h.ch i hi with rfl | hc
 ·exact ho
 ·exact (hc.lt hr).1
theorem NdI.fix {n : Nat} {l : List (Int × Int)} (hr : Rt n l) {o a : Nat} (ho : o < n) (h : NdI l o a) (hf : a ||| ahd l a = a) : a = needN n l o := has_ext fun i => by
 rw [Bool.eq_iff_iff, has_need hr]
 constructor
 ·intro hi
  exact ⟨lt_has (h.lt hr ho) hi, h.ch i hi⟩
 ·rintro ⟨-, rfl | hc⟩
  ·exact h.own
  ·refine hc.back (fun p hp hb => ?_) h.own
   rw [← hf, has_or, Bool.or_eq_true]
   exact .inr ((has_ahd l a _).2 ⟨p, hp, hb, rfl⟩)
end Go.Proofs.YtomebalolmabnaaGreatDoor.U




/-! The walks of lorryref12's has, bit, decimal. -/
namespace Go.Proofs.YtomebalolmabnaaGreatDoor.T
open Go.RowKit
set_option maxRecDepth 8000

theorem dec12_round {x z d : Nat} (hx : 10 ≤ x) (hd : d = x % 10) (hz : z = x / 10) {s N : List UInt8} (h : Lib.decDigits x ++ s = N) : Lib.decDigits z ++ (UInt8.ofNat (48 + d) :: s) = N := by
 rw [dec_big (by omega), List.append_assoc, ← hd, ← hz] at h
 exact h
theorem one_string (wr : World) (d : Nat) (hd : d < 10) :
  (convert 131 9 (.slice (some ⟨wr.heap.size, 0, none⟩) 1 1)).run Tryz.prog (wr.alloc (.cells #[.int .u8 (48 + (d : Int))] 5)) = .ok (.string ⟨#[UInt8.ofNat (48 + d)]⟩) (wr.alloc (.cells #[.int .u8 (48 + (d : Int))] 5)) := by
 have e : (48 + (d : Int)) = ((UInt8.ofNat (48 + d)).toNat : Int) := by rw [toNat_digit d hd]; omega
 rw [e]
 exact own_string (B := wr.heap.size) (v := .slice (some ⟨wr.heap.size, 0, none⟩) 1 1) (n := 1) (l := [UInt8.ofNat (48 + d)]) ⟨by simp [bc], .inr ⟨wr.heap.size, 1, _, rfl, Nat.le_refl _, heap_alloc_new wr _, Nat.le_refl _, by decide, rfl, rfl⟩⟩
set_option maxHeartbeats 400000 in
theorem decimal12_n (n : Nat) (hn : n ≤ 1000000000) (w : World) :
  Calls Tryz.prog 68 #[.int .i64 n] w fun e w' => e = .returned (.string (dec n)) ∧ Below w.heap.size w w' := by
 have HN : Hid (dec n = ⟨(Lib.decDigits n).toArray⟩) := rfl
 have hlen := dec_len 9 n (by omega)
 generalize dec n = r at *
 generalize hN : Lib.decDigits n = N at *
 go_enter Tryz.func68, Tryz.ntmps68
 go_wp2_with fail
 go_loopw [0, 3] (fun a b wr => ∃ (s : List UInt8) (x : Nat), b = .string ⟨s.toArray⟩ ∧ a = .int .i64 x ∧ x ≤ 1000000000 ∧ Hid (Below w.heap.size w wr) ∧ Hid (Lib.decDigits x ++ s = N)) (fun a _ _ => (intOf a).toNat)
 case atStart => exact ⟨[], n, rfl, rfl, hn, Below.refl _ _, by show _ = _; rw [List.append_nil]; exact hN⟩
 case round =>
  clear hN
  obtain ⟨s, x, rfl, rfl, hx, HB, HS⟩ := hrel
  have hsl : s.length ≤ 10 := by
   have h2 := congrArg List.length HS.out
   rw [List.length_append] at h2
   omega
  by_cases h10 : 10 ≤ x
  ·obtain ⟨d, hd⟩ : ∃ d, d = x % 10 := ⟨_, rfl⟩
   obtain ⟨z, hz⟩ : ∃ z, z = x / 10 := ⟨_, rfl⟩
   have HR := Lib.hid (dec12_round h10 hd hz HS.out)
   have hd9 : d < 10 := by omega
   have hz9 : z < x := by omega
   have e1 : ((x : Int).tmod 10) = (d : Int) := by rw [Int.tmod_eq_emod_of_nonneg (by omega)]; omega
   have e2 : ((x : Int).tdiv 10) = (z : Int) := by rw [Int.tdiv_eq_ediv_of_nonneg (by omega)]; omega
   have hcv := one_string wr d hd9
   have HB2 := Lib.hid (over HB.out (below_alloc wr (.cells #[.int .u8 (48 + (d : Int))] 5)))
   clear hd hz HS
   go_wp2_with fail
   go_roundw
   case rel => exact ⟨_, z, cat1 _ _, rfl, by omega, HB2, by simpa using HR⟩
   case measure => simp [intOf]; omega
  ·have hcv := one_string wr x (by omega)
   have HR : Hid (N = UInt8.ofNat (48 + x) :: s) := by show _ = _; rw [← HS.out, dec_small (by omega)]; rfl
   have HB2 := Lib.hid (over HB.out (below_alloc wr (.cells #[.int .u8 (48 + (x : Int))] 5)))
   clear HS
   go_wp2_with fail
   go_ret
   exact ⟨by rw [HN.out, HR.out]; exact congrArg Ending.returned (by simpa using cat1 (UInt8.ofNat (48 + x)) s), HB2.out⟩

end Go.Proofs.YtomebalolmabnaaGreatDoor.T




/-! The walk of lorryref12's faults. -/
namespace Go.Proofs.YtomebalolmabnaaGreatDoor.T
open Go.RowKit
set_option maxRecDepth 8000

def badP (n : Int) (p : Int × Int) : Bool := decide (p.1 < 0) || decide (n ≤ p.1) || decide (p.2 < 0) || decide (n ≤ p.2) || p.1 == p.2
def eqP (turned : Bool) (q p : Int × Int) : Bool := (q.1 == p.1 && q.2 == p.2) || (turned && (q.1 == p.2 && q.2 == p.1))
def twiceP (turned : Bool) (l : List (Int × Int)) (i k : Nat) : Bool := (l.take k).any fun q => eqP turned q (l.getD i (0, 0))
def pairE (n : Int) (turned : Bool) (l : List (Int × Int)) (i : Nat) : List Int := if badP n (l.getD i (0, 0)) then [2] else if twiceP turned l i i then [6] else []
def atW (word : ByteArray) (i : Nat) : ByteArray := word ++ ⟨#[32]⟩ ++ dec i
def pfF (n : Int) (l : List (Int × Int)) (word : ByteArray) (turned : Bool) : Nat → List (Int × ByteArray)
  | 0 => if 16 < l.length then [(4, word)] else []
  | k + 1 => pfF n l word turned k ++ (pairE n turned l k).map fun e => (e, atW word k)
def pairF (n : Int) (l : List (Int × Int)) (word : ByteArray) (turned : Bool) : List (Int × ByteArray) := pfF n l word turned l.length
theorem pfF_len (n : Int) (l : List (Int × Int)) (word : ByteArray) (turned : Bool) : ∀ k, (pfF n l word turned k).length ≤ k + 1
 | 0 => by unfold pfF; split <;> simp
 | k + 1 => by
  unfold pfF
  rw [List.length_append, List.length_map]
  have h1 := pfF_len n l word turned k
  have h2 : (pairE n turned l k).length ≤ 1 := by
   unfold pairE
   split
   ·simp
   ·split <;> simp
  omega
theorem twice_step_R {turned : Bool} {l : List (Int × Int)} {i k : Nat} (h : k < l.length) : twiceP turned l i (k + 1) = (twiceP turned l i k || eqP turned (l.getD k (0, 0)) (l.getD i (0, 0))) := by
 unfold twiceP
 rw [take_more (d := (0, 0)) h, List.any_append]
 simp
theorem ps_at {w : World} {oa : Option Addr} {c : Nat} {l : List (Int × Int)} (h : Ps w (.slice oa l.length c) l) {k : Nat} (hk : k < l.length) :
  ∃ b o, oa = some ⟨b, o, none⟩ ∧ b < w.heap.size ∧ w.cell? ⟨b, o + k * 2, none⟩ = some (.int .i64 (l.getD k (0, 0)).1) ∧ w.cell? ⟨b, o + k * 2 + 1, none⟩ = some (.int .i64 (l.getD k (0, 0)).2) := by
 obtain ⟨oa', c', hv, h⟩ := h
 simp only [Value.slice.injEq] at hv
 obtain ⟨rfl, -, rfl⟩ := hv
 obtain ⟨b, o, ha, hl, h0, h1⟩ := h k hk
 exact ⟨b, o, ha, hl, h0, h1⟩
set_option maxHeartbeats 6400000 in
theorem faults12_n (n : Int) (v : Value) (l : List (Int × Int)) (word : ByteArray) (turned : Bool) (hl : l.length ≤ 2000000) (hw : word.size ≤ 100) (w : World) (hv : Ps w v l) :
  Calls Tryz.prog 46 #[.int .i64 n, v, .string word, .bool turned] w (ChkP (pairF n l word turned) w) := by
 have HV := Lib.hid hv
 obtain ⟨oa, c, rfl, -⟩ := hv
 have HE : Hid (pfF n l word turned l.length = pairF n l word turned) := rfl
 have H0 : Hid (pfF n l word turned 0 = if 16 < l.length then [(4, word)] else []) := rfl
 have HS : Hid (∀ k, pfF n l word turned (k + 1) = pfF n l word turned k ++ (pairE n turned l k).map fun e => (e, atW word k)) := fun _ => rfl
 have HPE : Hid (∀ k, pairE n turned l k = if badP n (l.getD k (0, 0)) then [2] else if twiceP turned l k k then [6] else []) := fun _ => rfl
 have HT := Lib.hid (fun i k (hk : k < l.length) => twice_step_R (turned := turned) (i := i) hk)
 have HT0 : Hid (∀ i, twiceP turned l i 0 = false) := fun _ => rfl
 have HL := Lib.hid (pfF_len n l word turned)
 generalize pairF n l word turned = r at *
 generalize hn : l.length = m at *
 have HM := Lib.hid hn
 clear hn
 go_enter Tryz.func46, Tryz.ntmps46
 go_upto_if 18 with fail
 go_cut [9] from 9 to 23 (fun v wx => Hid (Gl w.heap.size wx v (pfF n l word turned 0)) ∧ Hid (Below w.heap.size w wx))
 case first =>
  by_cases hb : 16 < m
  ·have hbI : (16 : Int) < (m : Int) := by omega
   have HF : Hid (pfF n l word turned 0 = [] ++ [(4, word)]) := by show _ = _; rw [H0.out, if_pos hb]; rfl
   clear hb
   go_wp2_with (at_builtin; refine wpList_append_run rfl _ _ 51 rfl rfl rfl (ap_f1 _ 4 word (Gl.nil _ w) (Nat.le_refl _) (by simp)) ?_)
   intro v3 w3 hg3 hb3
   go_wp2_with fail
   go_meet
   case rel => exact ⟨HF.out ▸ hg3, hb3⟩
  ·have hbI : ¬ (16 : Int) < (m : Int) := by omega
   have HF : Hid (pfF n l word turned 0 = []) := by show _ = _; rw [H0.out, if_neg hb]
   clear hb
   go_wp2_with fail
   go_meet
   case rel => exact ⟨HF.out ▸ Gl.nil _ _, Below.refl _ _⟩
 obtain ⟨HG, HB⟩ := hcut
 go_wp2_with fail
 go_loopg [9, 10] m (fun g v j wr => ∃ k : Nat, k ≤ m ∧ j = .int .i64 k ∧ m - k ≤ g ∧ Hid (Gl w.heap.size wr v (pfF n l word turned k)) ∧ Hid (Below w.heap.size w wr))
 case atStart => exact ⟨0, Nat.zero_le _, rfl, Nat.le_refl _, HG, HB⟩
 case round =>
  clear HG HB H0
  obtain ⟨k, hkm, rfl, hg, HG, HB⟩ := hrel
  by_cases hlt : k < m
  ·obtain ⟨b, o, rfl, hab, x0, x1⟩ := ps_at (by have := HV.out; rw [← HM.out] at this; exact this) (show k < l.length by rw [HM.out]; exact hlt)
   have y0 := (HB.out.cell (p := ⟨b, _, none⟩) hab).trans x0
   have y1 := (HB.out.cell (p := ⟨b, _, none⟩) hab).trans x1
   have hkI : (k : Int) < (m : Int) := by omega
   have hk9 : k ≤ 1000000000 := by omega
   have HSk := Lib.hid (HS.out k)
   have HPk := Lib.hid (HPE.out k)
   have KD := Lib.hid (fun w => decimal12_n k hk9 w)
   have hds := dec_size hk9
   obtain ⟨p, hp⟩ : ∃ p, l.getD k (0, 0) = p := ⟨_, rfl⟩
   rw [hp] at y0 y1 HPk
   have HPp := Lib.hid hp
   have HAt : Hid (atW word k = word ++ ⟨#[32]⟩ ++ dec k) := rfl
   generalize atW word k = at' at *
   generalize dec k = dk at *
   clear x0 x1 hp
   go_wp2_with fail
   refine (KD.out _).mono ?_
   rintro e w1 ⟨rfl, b1⟩
   have HG1 := Lib.hid (HG.out.frame b1)
   have HB1 := Lib.hid (over HB.out b1)
   have z0 := (HB1.out.cell (p := ⟨b, _, none⟩) hab).trans ((HB.out.cell (p := ⟨b, _, none⟩) hab).symm.trans y0)
   clear b1 HG HB KD y0 y1
   go_upto_region 10 with fail
   clear z0
   go_cut [65] from 45 to 65 (fun t wx => t = .bool (badP n p) ∧ w1 = wx)
   case first =>
    have HBd : Hid (badP n p = (decide (p.1 < 0) || decide (n ≤ p.1) || decide (p.2 < 0) || decide (n ≤ p.2) || p.1 == p.2)) := rfl
    generalize badP n p = bd at *
    generalize p.1 = x at *
    generalize p.2 = y at *
    by_cases h1 : x < 0
    ·have HR : Hid (bd = true) := by show _ = _; rw [HBd.out, decide_eq_true h1]; rfl
     go_wp2_with fail
     go_meet
     case rel => exact ⟨by rw [HR.out], rfl⟩
    by_cases h2 : n ≤ x
    ·have HR : Hid (bd = true) := by show _ = _; rw [HBd.out, decide_eq_true h2]; simp
     go_wp2_with fail
     go_meet
     case rel => exact ⟨by rw [HR.out], rfl⟩
    by_cases h3 : y < 0
    ·have HR : Hid (bd = true) := by show _ = _; rw [HBd.out, decide_eq_true h3]; simp
     go_wp2_with fail
     go_meet
     case rel => exact ⟨by rw [HR.out], rfl⟩
    by_cases h4 : n ≤ y
    ·have HR : Hid (bd = true) := by show _ = _; rw [HBd.out, decide_eq_true h4]; simp
     go_wp2_with fail
     go_meet
     case rel => exact ⟨by rw [HR.out], rfl⟩
    have HR : Hid (bd = (x == y)) := by show _ = _; rw [HBd.out, decide_eq_false h1, decide_eq_false h2, decide_eq_false h3, decide_eq_false h4]; rfl
    go_wp2_with fail
    go_meet
    case rel => exact ⟨by rw [HR.out], rfl⟩
   obtain ⟨rfl, rfl⟩ := hcut
   cases hbd : badP n p
   ·rw [hbd] at HPk
    have HPk : Hid (pairE n turned l k = if twiceP turned l k k then [6] else []) := by show _ = _; rw [HPk.out]; simp
    clear hbd
    have HT0k := Lib.hid (HT0.out k)
    have HTk := Lib.hid (fun i (hi : i < m) => HT.out k i hi)
    clear HT0 HT HPE HS
    go_wp2_with fail
    go_loopg [14, 15] k (fun g2 t j wr2 => ∃ i : Nat, i ≤ k ∧ j = .int .i64 i ∧ k - i ≤ g2 ∧ t = .bool (twiceP turned l k i) ∧ w1 = wr2)
    case atStart => exact ⟨0, Nat.zero_le _, rfl, Nat.le_refl _, by rw [HT0k.out], rfl⟩
    case round =>
     obtain ⟨i, hik, rfl, hg2, rfl, rfl⟩ := hrel
     by_cases hi : i < k
     ·have hil : i < l.length := by rw [HM.out]; omega
      obtain ⟨b', o', hbo, hab', x0, x1⟩ := ps_at (by have := HV.out; rw [← HM.out] at this; exact this) hil
      simp only [Option.some.injEq, Addr.mk.injEq, and_true] at hbo
      obtain ⟨rfl, rfl⟩ := hbo
      have q0 := (HB1.out.cell (p := ⟨b, _, none⟩) hab).trans x0
      have q1 := (HB1.out.cell (p := ⟨b, _, none⟩) hab).trans x1
      have hiI : (i : Int) < (k : Int) := by omega
      have himI : (i : Int) < (m : Int) := by omega
      have HTi := Lib.hid (HTk.out i (by omega))
      rw [HPp.out] at HTi
      clear x0 x1
      generalize l.getD i (0, 0) = q at *
      generalize twiceP turned l k i = tw at *
      have HEq : Hid (eqP turned q p = ((q.1 == p.1 && q.2 == p.2) || (turned && (q.1 == p.2 && q.2 == p.1)))) := rfl
      generalize eqP turned q p = eq at *
      generalize q.1 = x at *
      generalize q.2 = y at *
      generalize p.1 = x' at *
      generalize p.2 = y' at *
      cases tw
      ·by_cases h1 : x = x'
       ·by_cases h2 : y = y'
        ·have HR : Hid (eq = true) := by show _ = _; rw [HEq.out, h1, h2]; simp
         subst h1 h2
         go_wp2_with fail
         go_roundg (k - (i + 1))
         case measure => omega
         case rel => exact ⟨i + 1, by omega, by go_num, by omega, by rw [HTi.out, HR.out]; rfl, rfl⟩
        ·cases turned
         ·have HR : Hid (eq = false) := by show _ = _; rw [HEq.out, ne_eqI h2]; simp
          have h2' := ne_eqI h2
          subst h1
          go_wp2_with fail
          go_roundg (k - (i + 1))
          case measure => omega
          case rel => exact ⟨i + 1, by omega, by go_num, by omega, by rw [HTi.out, HR.out]; rfl, rfl⟩
         ·have HR : Hid (eq = (x == y' && y == x')) := by show _ = _; rw [HEq.out, ne_eqI h2]; simp
          have h2' := ne_eqI h2
          subst h1
          by_cases h3 : x = y'
          ·subst h3
           have HR2 : Hid (eq = false) := by show _ = _; rw [HR.out, ne_eqI h2]; simp
           go_wp2_with fail
           go_roundg (k - (i + 1))
           case measure => omega
           case rel => exact ⟨i + 1, by omega, by go_num, by omega, by rw [HTi.out, HR2.out]; rfl, rfl⟩
          ·have h3' := ne_eqI h3
           have HR2 : Hid (eq = false) := by show _ = _; rw [HR.out, h3']; rfl
           go_wp2_with fail
           go_roundg (k - (i + 1))
           case measure => omega
           case rel => exact ⟨i + 1, by omega, by go_num, by omega, by rw [HTi.out, HR2.out]; rfl, rfl⟩
       ·have h1' := ne_eqI h1
        cases turned
        ·have HR : Hid (eq = false) := by show _ = _; rw [HEq.out, h1']; simp
         go_wp2_with fail
         go_roundg (k - (i + 1))
         case measure => omega
         case rel => exact ⟨i + 1, by omega, by go_num, by omega, by rw [HTi.out, HR.out]; rfl, rfl⟩
        ·have HR : Hid (eq = (x == y' && y == x')) := by show _ = _; rw [HEq.out, h1']; simp
         by_cases h3 : x = y'
         ·subst h3
          by_cases h4 : y = x'
          ·subst h4
           have HR2 : Hid (eq = true) := by show _ = _; rw [HR.out]; simp
           go_wp2_with fail
           go_roundg (k - (i + 1))
           case measure => omega
           case rel => exact ⟨i + 1, by omega, by go_num, by omega, by rw [HTi.out, HR2.out]; rfl, rfl⟩
          ·have h4' := ne_eqI h4
           have HR2 : Hid (eq = false) := by show _ = _; rw [HR.out, h4']; simp
           go_wp2_with fail
           go_roundg (k - (i + 1))
           case measure => omega
           case rel => exact ⟨i + 1, by omega, by go_num, by omega, by rw [HTi.out, HR2.out]; rfl, rfl⟩
         ·have h3' := ne_eqI h3
          have HR2 : Hid (eq = false) := by show _ = _; rw [HR.out, h3']; rfl
          go_wp2_with fail
          go_roundg (k - (i + 1))
          case measure => omega
          case rel => exact ⟨i + 1, by omega, by go_num, by omega, by rw [HTi.out, HR2.out]; rfl, rfl⟩
      ·go_wp2_with fail
       go_roundg (k - (i + 1))
       case measure => omega
       case rel => exact ⟨i + 1, by omega, by go_num, by omega, by rw [HTi.out]; simp, rfl⟩
     ·have hii : i = k := by omega
      subst hii
      cases htw : twiceP turned l i i
      ·have HX : Hid (pfF n l word turned (i + 1) = pfF n l word turned i) := by show _ = _; rw [HSk.out, HPk.out, htw]; simp
       have HG3 : Hid (Gl w.heap.size w1 u9 (pfF n l word turned (i + 1))) := by show Gl _ _ _ _; rw [HX.out]; exact HG1.out
       clear htw HPk HSk HX
       go_wp2_with fail
       go_roundg (m - (i + 1))
       case measure => omega
       case rel => exact ⟨i + 1, by omega, by go_num, by omega, HG3, HB1⟩
      ·have HX : Hid (pfF n l word turned (i + 1) = pfF n l word turned i ++ [(6, at')]) := by show _ = _; rw [HSk.out, HPk.out, htw]; rfl
       have hll := HL.out i
       have hsz := HB1.out.size
       clear htw HPk HSk
       go_wp2_with (at_builtin; refine wpList_append_run rfl _ _ 51 rfl rfl rfl (ap_f1 _ 6 (word ++ ⟨#[32]⟩ ++ dk) HG1.out hsz (by omega)) ?_)
       intro v3 w3 hg3 hb3
       have HG3 : Hid (Gl w.heap.size w3 v3 (pfF n l word turned (i + 1))) := by show Gl _ _ _ _; rw [HX.out, HAt.out]; exact hg3
       have HB3 := Lib.hid (HB1.out.trans hb3)
       clear hg3 hb3
       go_wp2_with fail
       go_roundg (m - (i + 1))
       case measure => omega
       case rel => exact ⟨i + 1, by omega, by go_num, by omega, HG3, HB3⟩
   ·rw [hbd] at HPk
    have HX : Hid (pfF n l word turned (k + 1) = pfF n l word turned k ++ [(2, at')]) := by show _ = _; rw [HSk.out, HPk.out]; rfl
    have hll := HL.out k
    have hsz := HB1.out.size
    clear hbd HPk HSk
    go_wp2_with (at_builtin; refine wpList_append_run rfl _ _ 51 rfl rfl rfl (ap_f1 _ 2 (word ++ ⟨#[32]⟩ ++ dk) HG1.out hsz (by omega)) ?_)
    intro v3 w3 hg3 hb3
    have HG3 : Hid (Gl w.heap.size w3 v3 (pfF n l word turned (k + 1))) := by show Gl _ _ _ _; rw [HX.out, HAt.out]; exact hg3
    have HB3 := Lib.hid (HB1.out.trans hb3)
    clear hg3 hb3
    go_wp2_with fail
    go_roundg (m - (k + 1))
    case measure => omega
    case rel => exact ⟨k + 1, by omega, by go_num, by omega, HG3, HB3⟩
  ·have hkk : k = m := by omega
   subst hkk
   have HR := Lib.hid HE.out
   go_wp2_with fail
   go_ret
   exact chkP (HR.out ▸ HG.out) HB.out (Nat.le_refl _)

end Go.Proofs.YtomebalolmabnaaGreatDoor.T




