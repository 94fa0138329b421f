/-
  DERIVED. KPK: a part of the base of layer 13 (made by pack.py).
-/
import Derived.Shelf.Abstract
import Derived.Test.YtaallpebfcadjaaGreatDoorKPC
import Derived.Laws.StructEq
import Derived.Test.YtaallpebfcadjaaGreatDoorKPH
import Derived.ChangeKeysEq
import Derived.Lib.ItoaNum
import Derived.Test.YtaallpebfcadjaaGreatDoorRows
import Derived.WalkKit
import Derived.WalkSpells
import Derived.WalkLawsBesides
import Derived.WalkMore
import Derived.Below
import Derived.OwnWalk
import Derived.IntWalk
import Derived.Laws.OwnMore
import Derived.Laws.AppendOwn
import Derived.Deep.AppendLies
import Derived.Deep.Draws
import Derived.Deep.QuietTactic
import Derived.Deep.RegionLaw
import Derived.Deep.RegionWith
import Derived.BigQuiet
import Derived.Lib.Hide
import Derived.WalkSmall
import Derived.Deep.Onto
import Derived.Deep.LoopGhost
import Derived.Handy
import Derived.Maps.AppendAt
import Derived.Laws.AppendOwnNone
import Derived.Deep.DeepCutAuto
import Derived.Deep.Cut
import Derived.Deep.CutRange
import Derived.Test.YtaallpebfcadjaaGreatDoorShelf
import Derived.Test.YtaallpebfcadjaaGreatDoorKPB
/-! The walk of loads' Right and what it calls (out of layer 6's texts: tools/mkflload.py). -/
namespace Go.Proofs.YtaallpebfcadjaaGreatDoor.L
open Go.RowKit
set_option maxRecDepth 8000

def inRange (x : Int) : Bool := decide (0 ≤ x) && decide (x ≤ 1000)
def outRange (x : Int) : Bool := decide (x < 0) || decide (1000 < x)
def rightB (l : List Int) (d : Int) : Bool := decide ((l.length : Int) = d) && l.all inRange
theorem all_not_any (l : List Int) : (!l.any outRange) = l.all inRange := by
  induction l with
  | nil => rfl
  | cons x l ih =>
    rw [List.any_cons, List.all_cons, ← ih, Bool.not_or]
    congr 1
    unfold outRange inRange
    rw [Bool.eq_iff_iff]; simp
theorem any_drop {l : List Int} {p : Int → Bool} {k : Nat} (h : k < l.length) : (l.drop k).any p = (p (l.getD k 0) || (l.drop (k + 1)).any p) := by
  rw [drop_more (d := 0) h, List.any_cons]
theorem isOutside_n (x : Int) (w : World) : Calls Tryz.prog 128 #[.int .i64 x] w fun e w' => e = .returned (.bool (outRange x)) ∧ w = w' := by
  by_cases h1 : x < 0
  · have HR : Hid (true = outRange x) := by show _ = _; unfold outRange; rw [decide_eq_true h1]; rfl
    generalize outRange x = r at *
    go_enter Tryz.func128, Tryz.ntmps128
    go_wp2_with fail
    go_ret
    exact ⟨ret_bool HR.out, rfl⟩
  · by_cases h2 : 1000 < x
    · have HR : Hid (true = outRange x) := by show _ = _; unfold outRange; rw [decide_eq_true h2, Bool.or_true]
      generalize outRange x = r at *
      go_enter Tryz.func128, Tryz.ntmps128
      go_wp2_with fail
      go_ret
      exact ⟨ret_bool HR.out, rfl⟩
    · have HR : Hid (false = outRange x) := by show _ = _; unfold outRange; rw [decide_eq_false h1, decide_eq_false h2]; rfl
      generalize outRange x = r at *
      go_enter Tryz.func128, Tryz.ntmps128
      go_wp2_with fail
      go_ret
      exact ⟨ret_bool HR.out, rfl⟩
/-- where the first number lies for which a predicate holds, or -1 -/
def IdxP (b : Bool) (w : World) (e : Ending) (w' : World) : Prop := ∃ r : Int, e = .returned (.int .i64 r) ∧ -1 ≤ r ∧ decide (0 ≤ r) = b ∧ w = w'
theorem indexFunc_n (u : Value) (l : List Int) (gf : FuncId) (eg : ∀ args w, (callFunc gf args).run Tryz.prog w = .ok (.enter gf args) w) (p : Int → Bool) (hl9 : l.length ≤ 1000000000000000) (hp : ∀ x w, Calls Tryz.prog gf #[.int .i64 x] w fun e w' => e = .returned (.bool (p x)) ∧ w = w') (w : World) (hu : Li w u l) :
    Calls Tryz.prog 143 #[u, .func (.func gf) #[] #[]] w (IdxP (l.any p) w) := by
  obtain ⟨oa, c, rfl, ha⟩ := hu
  have HR : Hid ((l.drop 0).any p = l.any p) := rfl
  generalize l.any p = r at *
  have HS := Lib.hid (fun k (hk : k < l.length) => any_drop (p := p) hk)
  have HE : Hid ((l.drop l.length).any p = false) := by show _ = _; rw [List.drop_length]; rfl
  have HA := Lib.hid ha
  have HP := Lib.hid hp
  generalize hn : l.length = n at *
  clear ha hn hp
  go_enter Tryz.func143, Tryz.ntmps143
  go_wp2_with fail
  go_loop [8] (fun i => ∃ k : Nat, k ≤ n ∧ i = .int .i64 k ∧ Hid ((l.drop k).any p = r)) (fun i => n - (intOf i).toNat)
  case atStart => exact ⟨0, Nat.zero_le _, rfl, HR⟩
  case round =>
    clear HR
    obtain ⟨k, hk, rfl, HR⟩ := hrel
    by_cases hlt : k < n
    · obtain ⟨ad, rfl, hab, hc⟩ := HA.out k hlt
      have HS2 := Lib.hid (HS.out k hlt)
      generalize l.getD k 0 = x at *
      have HP2 := Lib.hid (HP.out x)
      cases h1 : p x
      · have hf : Hid ((l.drop (k + 1)).any p = r) := by show _ = _; rw [← HR.out, HS2.out, h1]; rfl
        rw [h1] at HP2
        clear h1
        go_wp2_with fail
        refine (HP2.out _).mono ?_
        rintro e w1 ⟨rfl, rfl⟩
        go_wp2_with fail
        go_round
        case rel => exact ⟨k + 1, by omega, by go_num, hf⟩
        case measure => simp [intOf]; omega
      · have hf : Hid (true = r) := by show _ = _; rw [← HR.out, HS2.out, h1]; rfl
        rw [h1] at HP2
        clear h1
        go_wp2_with fail
        refine (HP2.out _).mono ?_
        rintro e w1 ⟨rfl, rfl⟩
        go_wp2_with fail
        go_ret
        exact ⟨(k : Int), rfl, by omega, by rw [← hf.out]; simp, rfl⟩
    · have hk' : k = n := by omega
      subst hk'
      have hf : Hid (false = r) := by show _ = _; rw [← HR.out, HE.out]
      go_wp2_with fail
      go_ret
      exact ⟨-1, rfl, by omega, by rw [← hf.out]; rfl, rfl⟩
theorem containsFunc_n (u : Value) (l : List Int) (gf : FuncId) (eg : ∀ args w, (callFunc gf args).run Tryz.prog w = .ok (.enter gf args) w) (p : Int → Bool) (hl9 : l.length ≤ 1000000000000000) (hp : ∀ x w, Calls Tryz.prog gf #[.int .i64 x] w fun e w' => e = .returned (.bool (p x)) ∧ w = w') (w : World) (hu : Li w u l) :
    Calls Tryz.prog 127 #[u, .func (.func gf) #[] #[]] w fun e w' => e = .returned (.bool (l.any p)) ∧ w = w' := by
  have HI := Lib.hid (indexFunc_n u l gf eg p hl9 hp w hu)
  generalize l.any p = r at *
  clear hp hu
  go_enter Tryz.func127, Tryz.ntmps127
  go_wp2_with fail
  refine HI.out.mono ?_
  rintro e w1 ⟨q, rfl, hq1, hq2, rfl⟩
  have HQ := Lib.hid hq2
  clear hq2
  go_wp2_with fail
  go_ret
  exact ⟨ret_bool HQ.out, rfl⟩

theorem loadRight_len (l : List Int) (d : Int) (oa : Option Addr) (c : Nat) (h : (l.length : Int) ≠ d) (w : World) :
    Calls Tryz.prog 100 #[.slice oa l.length c, .int .i64 d] w fun e w' => e = .returned (.bool (rightB l d)) ∧ w = w' := by
  have HR : Hid (false = rightB l d) := by show _ = _; unfold rightB; rw [decide_eq_false h]; rfl
  have hne := ne_eqI h
  generalize rightB l d = r at *
  generalize l.length = n at *
  go_enter Tryz.func100, Tryz.ntmps100
  go_wp2_with fail
  go_ret
  exact ⟨ret_bool HR.out, rfl⟩
theorem loadRight_n (u : Value) (l : List Int) (d : Int) (hl9 : l.length ≤ 1000000000000000) (w : World) (hu : Li w u l) :
    Calls Tryz.prog 100 #[u, .int .i64 d] w fun e w' => e = .returned (.bool (rightB l d)) ∧ w = w' := by
  by_cases h : (l.length : Int) = d
  · subst h
    have HR : Hid ((!l.any outRange) = rightB l l.length) := by show _ = _; unfold rightB; rw [decide_eq_true rfl, all_not_any]; rfl
    have HC := Lib.hid (containsFunc_n u l 128 (enters_of Tryz.func128 (by kernel_rfl) rfl) outRange hl9 isOutside_n w hu)
    obtain ⟨oa, c, rfl, -⟩ := hu
    generalize rightB l l.length = r at *
    generalize l.any outRange = q at *
    generalize l.length = n at *
    have hne : ((n : Int) == (n : Int)) = true := by simp
    go_enter Tryz.func100, Tryz.ntmps100
    go_wp2_with fail
    refine HC.out.mono ?_
    rintro e w1 ⟨rfl, rfl⟩
    go_wp2_with fail
    go_ret
    exact ⟨ret_bool HR.out, rfl⟩
  · obtain ⟨oa, c, rfl, -⟩ := hu
    exact loadRight_len l d oa c h w

end Go.Proofs.YtaallpebfcadjaaGreatDoor.L


/-! Types of vehicles in plain lists: when two are the same; capacities by loads' right lists; and-not of skills; '==' of two arrays of twelve numbers. -/
namespace Go.Proofs.YtaallpebfcadjaaGreatDoor.T
open Go.RowKit
set_option maxRecDepth 8000

/-- are two types the same? -/
def sameT (a b : TyT) : Bool :=
  (a.cap == b.cap) && (a.name.toList == b.name.toList) && (a.count == b.count) && (a.fr == b.fr) && (a.to == b.to) && (a.skills == b.skills) && (a.prof == b.prof) && (a.opn == b.opn) && (a.cls == b.cls) && (a.drv == b.drv) && (a.rst == b.rst) && (a.fix == b.fix) && (a.pm == b.pm) && (a.pt == b.pt)
theorem in_rg : L.inRange = rgB 0 1000 := rfl
theorem cap_right (l : List Int) (d : Nat) : capB l d = (rgB 1 3 d && L.rightB l d) := by
  unfold capB L.rightB
  rw [in_rg]
  by_cases h : l.length = d
  · subst h
    simp
  · rw [show decide (l.length = d) = false from decide_eq_false h, show decide ((l.length : Int) = (d : Int)) = false from decide_eq_false (by omega)]
    simp

/-! ### and-not -/
end Go.Proofs.YtaallpebfcadjaaGreatDoor.T


/-! '==' of two arrays of twelve numbers. -/
namespace Go.Proofs.YtaallpebfcadjaaGreatDoor.T
open Go.RowKit
set_option maxRecDepth 8000

theorem eqItems_ints {P : Program} {e : TypeId} (he : P.plainKey e = true) (hu : P.underlying e = some (.int .i64)) (d : Nat) (xs ys : Array Value) (f g : Nat → Int) (w : World) :
    ∀ is : List Nat, (∀ i ∈ is, xs[i]? = some (.int .i64 (f i)) ∧ ys[i]? = some (.int .i64 (g i))) → (Op.eqItems (d + 1) e 1 xs ys is).run P w = .ok (is.all fun i => f i == g i) w
  | [], _ => by simp [Op.eqItems]
  | i :: is, h => by
    obtain ⟨h1, h2⟩ := h i (List.mem_cons_self ..)
    have ih := eqItems_ints he hu d xs ys f g w is (fun j hj => h j (List.mem_cons_of_mem _ hj))
    simp only [Op.eqItems, Sem.run_bind, Nat.mul_one, run_part_plain w he h1, run_part_plain w he h2, Result.andThen_ok, run_equalIn_int w d e .i64 .i64 (f i) (g i) hu, List.all_cons]
    cases hb : (f i == g i)
    · simp
    · simpa using ih
theorem eql12 (a0 a1 a2 a3 a4 a5 a6 a7 a8 a9 a10 a11 b0 b1 b2 b3 b4 b5 b6 b7 b8 b9 b10 b11 : Int) (w : World) :
    (binOp .eql 107 (.agg #[.int .i64 a0, .int .i64 a1, .int .i64 a2, .int .i64 a3, .int .i64 a4, .int .i64 a5, .int .i64 a6, .int .i64 a7, .int .i64 a8, .int .i64 a9, .int .i64 a10, .int .i64 a11])
      (.agg #[.int .i64 b0, .int .i64 b1, .int .i64 b2, .int .i64 b3, .int .i64 b4, .int .i64 b5, .int .i64 b6, .int .i64 b7, .int .i64 b8, .int .i64 b9, .int .i64 b10, .int .i64 b11])).run Tryz.prog w =
      .ok (.bool (a0 == b0 && (a1 == b1 && (a2 == b2 && (a3 == b3 && (a4 == b4 && (a5 == b5 && (a6 == b6 && (a7 == b7 && (a8 == b8 && (a9 == b9 && (a10 == b10 && a11 == b11)))))))))))) w := by
  have hi0 : (Tryz.prog.info? 3).isSome = true := by kernel_rfl
  obtain ⟨i, hi⟩ := Option.isSome_iff_exists.1 hi0
  have hc : Tryz.prog.cellsOf 3 = 1 := by kernel_rfl
  rw [run_eql_struct, show (10000 : Nat) = 9998 + 1 + 1 from rfl, run_equalIn_array w _ _ _ Tryz.underlying107 hi, hc,
    eqItems_ints (by kernel_rfl) Tryz.underlying3 9998 _ _ (fun i => [a0, a1, a2, a3, a4, a5, a6, a7, a8, a9, a10, a11].getD i 0) (fun i => [b0, b1, b2, b3, b4, b5, b6, b7, b8, b9, b10, b11].getD i 0) w (List.range 12)
      (fun i hi => by
        have h := List.mem_range.1 hi
        match i, h with
        | 0, _ => exact ⟨rfl, rfl⟩
        | 1, _ => exact ⟨rfl, rfl⟩
        | 2, _ => exact ⟨rfl, rfl⟩
        | 3, _ => exact ⟨rfl, rfl⟩
        | 4, _ => exact ⟨rfl, rfl⟩
        | 5, _ => exact ⟨rfl, rfl⟩
        | 6, _ => exact ⟨rfl, rfl⟩
        | 7, _ => exact ⟨rfl, rfl⟩
        | 8, _ => exact ⟨rfl, rfl⟩
        | 9, _ => exact ⟨rfl, rfl⟩
        | 10, _ => exact ⟨rfl, rfl⟩
        | 11, _ => exact ⟨rfl, rfl⟩)]
  show Result.ok (Value.bool (a0 == b0 && (a1 == b1 && (a2 == b2 && (a3 == b3 && (a4 == b4 && (a5 == b5 && (a6 == b6 && (a7 == b7 && (a8 == b8 && (a9 == b9 && (a10 == b10 && (a11 == b11 && true)))))))))))))  w = _
  rw [Bool.and_true]

end Go.Proofs.YtaallpebfcadjaaGreatDoor.T


/-! The walks of the specification's in, Dims, Total, known, capacity. -/
namespace Go.Proofs.YtaallpebfcadjaaGreatDoor.T
open Go.RowKit
set_option maxRecDepth 8000

theorem known_zero (l : List TyT) (s : ByteArray) : knownB l s 0 = false := rfl
theorem known_step {l : List TyT} {s : ByteArray} {k : Nat} (hk : k < l.length) : knownB l s (k + 1) = (knownB l s k || ((l.getD k ty0).name.toList == s.toList)) := by
  unfold knownB
  rw [take_more (d := ty0) hk, List.any_append]
  simp
end Go.Proofs.YtaallpebfcadjaaGreatDoor.T


/-! The walk of the specification's rules (written by gen_reffl3.py). -/
namespace Go.Proofs.YtaallpebfcadjaaGreatDoor.T
open Go.RowKit
set_option maxRecDepth 8000

theorem if_len (b : Bool) (x : Int) : (if b then [] else [x]).length ≤ 1 := by cases b <;> simp
end Go.Proofs.YtaallpebfcadjaaGreatDoor.T


/-! The walk of the specification's Same. -/
namespace Go.Proofs.YtaallpebfcadjaaGreatDoor.T
open Go.RowKit
set_option maxRecDepth 8000

theorem tyE_len (np : Nat) (l : List TyT) (i : Nat) : (tyE np l i).length ≤ 9 := by
  unfold tyE
  simp only [List.length_append]
  have h1 : (tyE1 (l.getD i ty0)).length ≤ 1 := by unfold tyE1; exact if_len _ _
  have h2 : (tyE2 l i (l.getD i ty0)).length ≤ 1 := by unfold tyE2; split <;> simp
  have h3 : (tyE3 (l.getD i ty0)).length ≤ 1 := by unfold tyE3; exact if_len _ _
  have h4 : (tyE4 np (l.getD i ty0)).length ≤ 1 := by unfold tyE4; exact if_len _ _
  have h5 : (tyE5 (dimsF l) (l.getD i ty0)).length ≤ 1 := by unfold tyE5; exact if_len _ _
  have h6 : (tyE6 (l.getD i ty0)).length ≤ 1 := by unfold tyE6; exact if_len _ _
  have h7 : (tyE7 (l.getD i ty0)).length ≤ 1 := by unfold tyE7; exact if_len _ _
  have h8 : (tyE8 (l.getD i ty0)).length ≤ 1 := by unfold tyE8; exact if_len _ _
  have h9 : (tyE9 (l.getD i ty0)).length ≤ 1 := by unfold tyE9; exact if_len _ _
  omega
theorem flF_len (np : Nat) (l : List TyT) : ∀ k, (flF np l k).length ≤ 1 + 9 * k
  | 0 => by unfold flF flF0; split <;> simp
  | k + 1 => by
    unfold flF atT
    rw [List.length_append, List.length_map]
    have := flF_len np l k
    have := tyE_len np l k
    omega
end Go.Proofs.YtaallpebfcadjaaGreatDoor.T


