/-
 DERIVED. KWA: a part of the base of layer 13 (made by pack.py).
-/
import Derived.Test.YtaallpebfcadjaaGreatDoorKPA
import Derived.Test.YtaallpebfcadjaaGreatDoorRows
import Derived.WalkKit
import Derived.WalkSpells
import Derived.WalkLawsBesides
import Derived.WalkMore
import Derived.Below
import Derived.OwnWalk
import Derived.IntWalk
import Derived.Laws.OwnMore
import Derived.Deep.AppendLies
import Derived.Deep.Draws
import Derived.Deep.QuietTactic
import Derived.Deep.RegionLaw
import Derived.BigQuiet
import Derived.Lib.Hide
import Derived.WalkSmall
import Derived.Deep.Onto
import Derived.Deep.LoopGhost
import Derived.Test.YtaallpebfcadjaaGreatDoorKPB
import Derived.Test.YtaallpebfcadjaaGreatDoorKPC
/-! Plain Lean: what the functions of package text and of its specification compute, on lists of bytes. -/
namespace Go.Proofs.YtaallpebfcadjaaGreatDoor
def ltr (c : Nat) : Bool := let1 c || c == 95
theorem nam5 {c : Nat} (h : ltr c = true) : nam c = true := by
 simp [ltr] at h; rcases h with h | h <;> simp [nam, h]
theorem nam6 {c : Nat} (h1 : ¬ ltr c = true) (h2 : (!dig c) = true) : nam c = false := by
 simp [ltr] at h1; simp at h2; simp [nam, h1, h2]
theorem nam7 {c : Nat} (h : (!dig c) = false) : nam c = true := by simp at h; simp [nam, h]
end Go.Proofs.YtaallpebfcadjaaGreatDoor
namespace Go.Proofs.YtaallpebfcadjaaGreatDoor.L
open Go.RowKit
set_option maxRecDepth 8000
section
variable {α : Type}
end
theorem ne_neI {a b : Int} (h : a ≠ b) : ((a != b) = true) := by
 rw [bne_iff_ne]; exact h
section
variable {B : Nat} {w w' : World} {g cap : Nat} {l : List Int}
end
end Go.Proofs.YtaallpebfcadjaaGreatDoor.L
namespace Go.Proofs.YtaallpebfcadjaaGreatDoor.T
open Go.RowKit
set_option maxRecDepth 8000
def bc (l : List UInt8) : List Value := l.map fun c => .int .u8 c.toNat
theorem bc_len (l : List UInt8) : (bc l).length = l.length := by simp [bc]
theorem own_string {W : World} {B : Nat} {v : Value} {n : Nat} {l : List UInt8} (h : W.ownsRow B 5 1 v n (bc l)) :
  (convert 141 9 v).run Tryz.prog W = .ok (.string ⟨l.toArray⟩) W := by
 have hl : l.length = n := by have := h.1; rw [bc_len] at this; omega
 subst hl
 have hcell := fun g hg => h.cells (g := g) hg
 rcases h.2 with ⟨rfl, h0⟩ | ⟨g, cap, cur, rfl, _, _, hnc, _⟩
 ·have : l = [] := List.eq_nil_of_length_eq_zero h0
  subst this
  exact run_convert_bytes_nil W 141 5 Tryz.underlying141 Tryz.underlying5 0 0 _ Tryz.underlying9
 ·refine run_convert_bytes_back W _ _ 5 _ cap l Tryz.underlying141 Tryz.underlying5 Tryz.underlying9 ?_
  intro j hj
  exact hcell g rfl j _ (by simp [bc, hj])
theorem toNat_digit (d : Nat) (h : d < 10) : (UInt8.ofNat (48 + d)).toNat = 48 + d := UInt8.toNat_ofNat_of_lt' (by simp [UInt8.size]; omega)
def decM : Value → Value → Nat
 | .int _ x, .bool true => x.natAbs + 1
 | _, _ => 0
theorem dec_round (x z d : Nat) (hd : d = x % 10) (hz : z = x / 10) (s N : List UInt8) (h : Lib.decDigits x ++ s = N) :
  (z ≠ 0 → Lib.decDigits z ++ ((48 + UInt8.ofNat d) :: s) = N) ∧ (z = 0 → (48 + UInt8.ofNat d) :: s = N) := by
 have hc : 48 + UInt8.ofNat d = UInt8.ofNat (48 + d) := by simp
 rw [hc]
 constructor
 ·intro h0
  rw [dec_big (by omega), List.append_assoc, ← hd, ← hz] at h
  exact h
 ·intro h0
  rw [dec_small (by omega)] at h
  rw [show 48 + d = 48 + x by omega]; exact h
theorem cat1 (c : UInt8) (s : List UInt8) : Value.string ((⟨#[c]⟩ : ByteArray) ++ ⟨s.toArray⟩) = .string ⟨(c :: s).toArray⟩ := by
 congr 1
theorem decM_lt (x z : Int) (h : z.natAbs = x.natAbs / 10) : decM (.int .i64 z) (.bool (z != 0)) < decM (.int .i64 x) (.bool true) := by
 by_cases h0 : z = 0
 ·subst h0; simp [decM]
 ·have : (z != 0) = true := by simpa using h0
  rw [this]; simp only [decM]; omega
set_option maxRecDepth 100000 in
set_option maxHeartbeats 400000 in
theorem refDecimal_any (n : Int) (h0 : -9223372036854775808 ≤ n) (h1 : n ≤ 9223372036854775807) (w : World) :
  Calls Tryz.prog 69 #[.int .i64 n] w fun e w' => e = .returned (.string ⟨(Lib.itoa n).toArray⟩) ∧ Below w.heap.size w w' := by
 go_enter Tryz.func69, Tryz.ntmps69
 go_wp2_with fail
 go_loopw [3, 4, 5] (fun a b c wr => ∃ (s : List UInt8) (x : Int) (g : Bool), a = .string ⟨s.toArray⟩ ∧ b = .int .i64 x ∧ c = .bool g ∧ -9223372036854775808 ≤ x ∧ x ≤ 9223372036854775807 ∧ Below w.heap.size w wr ∧ Hid ((g = true → Lib.decDigits x.natAbs ++ s = Lib.decDigits n.natAbs) ∧ (g = false → s = Lib.decDigits n.natAbs)))
  (fun _ b c _ => decM b c)
 case atStart => exact ⟨[], n, true, rfl, rfl, rfl, h0, h1, Below.refl _ _, ⟨fun _ => by simp, fun h => by cases h⟩⟩
 case round =>
  obtain ⟨s, x, g, rfl, rfl, rfl, hx0, hx1, hb, HI⟩ := hrel
  cases g
  ·have HF := Lib.hid (HI.out.2 rfl)
   have HL : Hid (s.length ≤ 20) := by show _ ≤ _; rw [HF.out]; exact dec_len 19 _ (by omega)
   clear HI
   by_cases hn : n < 0
   ·have hsl : s.length ≤ 20 := HL.out
    go_wp2
    go_ret
    exact ⟨by rw [Lib.itoa, if_pos hn, ← HF.out]; exact congrArg Ending.returned (cat1 45 s), hb⟩
   ·go_wp2
    go_ret
    exact ⟨by rw [Lib.itoa, if_neg (by omega), show n.toNat = n.natAbs by omega, ← HF.out]; rfl, hb⟩
  ·obtain ⟨d, y, z, hd, hdu, hm, hq, hz, hy⟩ : ∃ (d : Nat) (y z : Int), d < 10 ∧ d = x.natAbs % 10 ∧ x.tmod 10 = y ∧ x.tdiv 10 = z ∧ z.natAbs = x.natAbs / 10 ∧ (y = d ∨ (y = -(d : Int) ∧ 0 < d)) := by
    rcases Int.le_total 0 x with hx | hx
    ·refine ⟨x.natAbs % 10, _, _, by omega, rfl, rfl, rfl, by rw [Int.tdiv_eq_ediv_of_nonneg hx]; omega, Or.inl (by rw [Int.tmod_eq_emod_of_nonneg hx]; omega)⟩
    ·obtain ⟨u, hu⟩ : ∃ u : Nat, x = -(u : Int) := ⟨x.natAbs, by omega⟩
     have hm : x.tmod 10 = -((u % 10 : Nat) : Int) := by rw [hu, Int.neg_tmod]; rfl
     have hq : x.tdiv 10 = -((u / 10 : Nat) : Int) := by rw [hu, Int.neg_tdiv]; rfl
     refine ⟨u % 10, _, _, by omega, by omega, rfl, rfl, by rw [hq]; omega, ?_⟩
     by_cases h : u % 10 = 0
     ·left; rw [hm]; omega
     ·right; exact ⟨hm, by omega⟩
   have hz1 : -9223372036854775808 ≤ z := by omega
   have hz2 : z ≤ 9223372036854775807 := by omega
   have hcv : (convert 141 9 (.slice (some ⟨wr.heap.size, 0, none⟩) 1 1)).run Tryz.prog (wr.alloc (.cells #[.int .u8 (48 + (d : Int))] 5)) = .ok (.string ⟨#[UInt8.ofNat (48 + d)]⟩) (wr.alloc (.cells #[.int .u8 (48 + (d : Int))] 5)) := by
    have e : (48 + (d : Int)) = ((UInt8.ofNat (48 + d)).toNat : Int) := by rw [toNat_digit d hd]; omega
    rw [e]
    exact own_string (B := wr.heap.size) (v := .slice (some ⟨wr.heap.size, 0, none⟩) 1 1) (n := 1) (l := [UInt8.ofNat (48 + d)]) ⟨by simp [bc], .inr ⟨wr.heap.size, 1, _, rfl, Nat.le_refl _, heap_alloc_new wr _, Nat.le_refl _, by decide, rfl, rfl⟩⟩
   have HZ := Lib.hid hz
   have HD := Lib.hid hdu
   have HR := Lib.hid (dec_round x.natAbs z.natAbs d hdu hz s _ (HI.out.1 rfl))
   have hsl : s.length ≤ 20 := by
    have h2 := congrArg List.length (HI.out.1 rfl)
    rw [List.length_append] at h2
    have := dec_len 19 n.natAbs (by omega)
    omega
   clear hz hdu HI
   rcases hy with hy | ⟨hy, hy2⟩
   ·subst hy
    go_wp2_with fail
    go_roundw
    case rel => exact ⟨_, z, (z != 0), cat1 _ _, rfl, rfl, hz1, hz2, by exact hb.alloc hb.size _, ⟨fun h => HR.out.1 (by simpa using h), fun h => HR.out.2 (by simpa using h)⟩⟩
    case measure => exact decM_lt x z HZ.out
   ·subst hy
    go_wp2_with fail
    go_roundw
    case rel => exact ⟨_, z, (z != 0), cat1 _ _, rfl, rfl, hz1, hz2, by exact hb.alloc hb.size _, ⟨fun h => HR.out.1 (by simpa using h), fun h => HR.out.2 (by simpa using h)⟩⟩
    case measure => exact decM_lt x z HZ.out
theorem decimal_n (i : Nat) (hi : i ≤ 1000000000) (w : World) :
  Calls Tryz.prog 69 #[.int .i64 i] w fun e w' => e = .returned (.string (dec i)) ∧ Below w.heap.size w w' := by
 refine (refDecimal_any i (by omega) (by omega) w).mono fun e w' ⟨he, hb⟩ => ⟨he.trans (ret_str ?_), hb⟩
 show _ = dec i
 unfold dec Lib.itoa
 rw [if_neg (by omega)]
 rfl
end Go.Proofs.YtaallpebfcadjaaGreatDoor.T
namespace Go.Proofs.YtaallpebfcadjaaGreatDoor.T
open Go.RowKit
set_option maxRecDepth 8000
set_option maxHeartbeats 3200000 in
theorem under13_n (word : ByteArray) (hw : word.size ≤ 1000000) (u : Value) (l : List (Int × ByteArray)) (hl : l.length ≤ 80000000) (hs : ∀ i, i < l.length → (l.getD i (0, ⟨#[]⟩)).2.size ≤ 1000000) (w : World) (hu : Fs w u l) :
  Calls Tryz.prog 29 #[.string word, u] w (ChkP (undF word l) w) := by
 obtain ⟨ou, cu, rfl, ha⟩ := hu
 have HA := Lib.hid ha
 have HS := Lib.hid (fun k (hk : k < l.length) => und_step (word := word) hk)
 have HZ := Lib.hid (fun k (hk : k < l.length) => hs k hk)
 have HL : Hid (∀ k, k ≤ l.length → (undF word (l.take k)).length = k) := fun k hk => by unfold undF; rw [List.length_map, List.length_take]; omega
 have HE : Hid (undF word (l.take l.length) = undF word l) := by show _ = _; rw [List.take_length]
 have H0 : Hid (undF word (l.take 0) = []) := rfl
 generalize undF word l = r at *
 obtain ⟨U, hU⟩ : ∃ U : Nat → List (Int × ByteArray), ∀ k, undF word (l.take k) = U k := ⟨fun k => undF word (l.take k), fun _ => rfl⟩
 simp only [hU] at HS HL HE H0
 obtain ⟨g, hg0⟩ : ∃ g : Nat → Int × ByteArray, ∀ k, l.getD k (0, ⟨#[]⟩) = g k := ⟨fun k => l.getD k (0, ⟨#[]⟩), fun _ => rfl⟩
 simp only [hg0] at HA HS HZ
 generalize hn : l.length = n at *
 clear ha hs hU hg0 hn
 go_enter Tryz.func29, Tryz.ntmps29
 go_wp2_with fail
 go_loopg [5, 6] n (fun gg v j wr => ∃ k : Nat, k ≤ n ∧ j = .int .i64 k ∧ n - k ≤ gg ∧ Hid (Gl w.heap.size wr v (U k)) ∧ Hid (Below w.heap.size w wr))
 case atStart => exact ⟨0, Nat.zero_le _, rfl, Nat.le_refl _, (Gl.nil _ _).ext H0.out.symm, Below.refl _ _⟩
 case round =>
  obtain ⟨k, hkn, rfl, hgg, HG, HB⟩ := hrel
  by_cases hlt : k < n
  ·obtain ⟨b, o, rfl, hab, h0, h1⟩ := HA.out k hlt
   have y0 := (HB.out.cell (p := ⟨b, _, none⟩) hab).trans h0
   have y1 := (HB.out.cell (p := ⟨b, _, none⟩) hab).trans h1
   have hkI : (k : Int) < (n : Int) := by omega
   have HSk := Lib.hid (HS.out k hlt)
   have hz := HZ.out k hlt
   have hlk := HL.out k hkn
   have hsz := HB.out.size
   unfold fE at y0
   unfold fA at y1
   clear h0 h1
   generalize g k = p at y0 y1 HSk hz
   obtain ⟨x, s⟩ := p
   try simp only at y0 y1 HSk hz
   have hws : (word ++ (⟨#[32]⟩ : ByteArray)).size = word.size + 1 := by rw [ByteArray.size_append]; rfl
   have hwt : (word ++ (⟨#[32]⟩ : ByteArray) ++ s).size = word.size + 1 + s.size := by rw [ByteArray.size_append, hws]
   cases hx : s.toList.isEmpty
   ·have HX : Hid (U (k + 1) = U k ++ [(x, word ++ ⟨#[32]⟩ ++ s)]) := by show _ = _; rw [HSk.out]; unfold undS; rw [hx]; rfl
    clear HSk
    go_wp2_with (at_builtin; refine wpList_append_run rfl _ _ 33 rfl rfl rfl (ap_f1 _ x (word ++ ⟨#[32]⟩ ++ s) HG.out hsz (by omega)) ?_)
    intro v3 w3 hg3 hb3
    have HG3 : Hid (Gl w.heap.size w3 v3 (U (k + 1))) := by show Gl _ _ _ _; rw [HX.out]; exact hg3
    have HB3 := Lib.hid (HB.out.trans hb3)
    clear hg3 hb3
    go_wp2_with fail
    go_roundg (n - (k + 1))
    case measure => omega
    case rel => exact ⟨k + 1, by omega, by go_num, by omega, HG3, HB3⟩
   ·have HX : Hid (U (k + 1) = U k ++ [(x, word)]) := by show _ = _; rw [HSk.out]; unfold undS; rw [hx]; rfl
    clear HSk
    go_wp2_with (at_builtin; refine wpList_append_run rfl _ _ 33 rfl rfl rfl (ap_f1 _ x word HG.out hsz (by omega)) ?_)
    intro v3 w3 hg3 hb3
    have HG3 : Hid (Gl w.heap.size w3 v3 (U (k + 1))) := by show Gl _ _ _ _; rw [HX.out]; exact hg3
    have HB3 := Lib.hid (HB.out.trans hb3)
    clear hg3 hb3
    go_wp2_with fail
    go_roundg (n - (k + 1))
    case measure => omega
    case rel => exact ⟨k + 1, by omega, by go_num, by omega, HG3, HB3⟩
  ·have hk' : k = n := by omega
   subst hk'
   have HR := Lib.hid HE.out
   go_wp2_with fail
   go_ret
   exact chkP (HR.out ▸ HG.out) HB.out (Nat.le_refl _)
end Go.Proofs.YtaallpebfcadjaaGreatDoor.T
namespace Go.Proofs.YtaallpebfcadjaaGreatDoor
open Go.RowKit
set_option maxHeartbeats 400000 in
theorem refDigit_any (c : Nat) (w : World) :
  Calls Tryz.prog 133 #[.int .u8 c] w fun e w' => e = .returned (.bool (dig c)) ∧ w = w' := by
 go_enter Tryz.func133, Tryz.ntmps133
 go_wp2
 all_goals
  go_ret
  exact ⟨ret_bool (by rw [Bool.eq_iff_iff]; simp [dig]; omega), rfl⟩
set_option maxHeartbeats 400000 in
theorem refLetter_any (c : Nat) (w : World) :
  Calls Tryz.prog 134 #[.int .u8 c] w fun e w' => e = .returned (.bool (ltr c)) ∧ w = w' := by
 go_enter Tryz.func134, Tryz.ntmps134
 go_wp2
 all_goals
  go_ret
  exact ⟨ret_bool (by rw [Bool.eq_iff_iff]; simp [ltr, let1]; omega), rfl⟩
set_option maxHeartbeats 400000 in
theorem refName_any (s : ByteArray) (w : World) :
    Calls Tryz.prog 108 #[.string s] w fun e w' => e = .returned (.bool (nameB s.data.toList)) ∧ w = w' := by
  by_cases h0 : s.size = 0
  · rw [nameB_no _ (Or.inl (by rw [empty_of s h0]))]
    have hs := empty_of s h0
    subst hs
    go_enter Tryz.func108, Tryz.ntmps108
    go_wp2
    go_ret
    exact ⟨rfl, rfl⟩
  have hpos : 0 < s.size := by omega
  by_cases h16 : s.size ≤ 16
  · by_cases hd : dig (s[0].toNat) = true
    · have HN : Hid (nameB s.data.toList = false) := nameB_no _ (Or.inr (Or.inr (by rw [head_of s hpos]; exact hd)))
      go_enter Tryz.func108, Tryz.ntmps108
      go_wp2_with (go_at_call 133; refine (refDigit_any _ _).mono ?_; rintro e w' ⟨rfl, rfl⟩)
      go_ret
      exact ⟨ret_bool HN.out.symm, rfl⟩
    have hd : dig (s[0].toNat) = false := by simpa using hd
    have HN : Hid (nameB s.data.toList = s.data.toList.all fun c => nam c.toNat) := nameB_all _ (ne_of s hpos) (by simpa using h16) (by rw [head_of s hpos]; exact hd)
    go_enter Tryz.func108, Tryz.ntmps108
    go_wp2_with (go_at_call 133; refine (refDigit_any _ _).mono ?_; rintro e w' ⟨rfl, rfl⟩)
    go_loop [3] (fun i => ∃ k : Nat, k ≤ s.size ∧ i = .int .i64 k ∧ Hid ((s.data.toList.take k).all (fun c => nam c.toNat) = true)) (fun i => s.size - (intOf i).toNat)
    case atStart => exact ⟨0, Nat.zero_le _, rfl, by rw [List.take_zero]; rfl⟩
    case round =>
      obtain ⟨k, hk, rfl, HA⟩ := hrel
      by_cases hlt : k < s.size
      · go_wp2_with (first | (go_at_call 133; refine (refDigit_any _ _).mono ?_; rintro e w' ⟨rfl, rfl⟩) | (go_at_call 134; refine (refLetter_any _ _).mono ?_; rintro e w' ⟨rfl, rfl⟩))
        all_goals first
          | (have hb := nam6 (c := s[k].toNat) (by assumption) (by assumption)
             go_ret
             exact ⟨ret_bool (by rw [HN.out, all_stop s _ k hlt hb]), rfl⟩)
          | (go_round
             case rel => exact ⟨k + 1, by omega, by go_num, all_step s _ k hlt HA.out (by first | exact nam5 (by assumption) | exact nam7 (by assumption))⟩
             case measure => simp [intOf]; omega)
      · have hk' : k = s.size := by omega
        subst hk'
        go_wp2
        go_ret
        exact ⟨ret_bool (by rw [HN.out, all_end s _ HA.out]), rfl⟩
  · have HN : Hid (nameB s.data.toList = false) := nameB_no _ (Or.inr (Or.inl (by simp; omega)))
    go_enter Tryz.func108, Tryz.ntmps108
    go_wp2
    go_ret
    exact ⟨ret_bool HN.out.symm, rfl⟩
end Go.Proofs.YtaallpebfcadjaaGreatDoor
namespace Go.Proofs.YtaallpebfcadjaaGreatDoor.T
open Go.RowKit
set_option maxRecDepth 8000
theorem pointB_no {p : Int × Int} (h : ¬ (0 ≤ p.1 ∧ p.1 ≤ 4096 ∧ p.1 ≤ p.2 ∧ p.2 ≤ p.1 + 4096)) : pointB p = false := by
 cases e : pointB p
 ·rfl
 ·exact absurd ((pointB_iff p).1 e) h
theorem Gl.toDrew {B : Nat} {w wx : World} {v : Value} {l : List (Int × ByteArray)} {m : Nat} (h : Gl B w v l) (hm : wx = w.drewN m) : Gl B wx v l := by subst hm; exact h
theorem beforeB_no {p q : Int × Int} (h : ¬ (p.1 < q.1 ∧ p.2 ≤ q.2)) : beforeB p q = false := by
 cases e : beforeB p q
 ·rfl
 ·exact absurd ((beforeB_iff p q).1 e) h
set_option maxHeartbeats 1600000 in
theorem refCheck_n (u : Value) (l : List (Int × Int)) (hl : l.length ≤ 1000000) (w : World) (hu : Ps w u l) :
  Calls Tryz.prog 109 #[u] w (ChkP (faults l) w) := by
 obtain ⟨oa, c, rfl, ha⟩ := hu
 have HA := Lib.hid ha
 have HS := Lib.hid (flt_succ l)
 have HL := Lib.hid (flt_len l)
 have HE : Hid (faults l = flt l l.length) := rfl
 have H0 : Hid (flt l 0 = fl0 l.length) := rfl
 obtain ⟨i0, hi, hz0, hz1, hz2⟩ := infoF
 generalize faults l = r at *
 generalize hn : l.length = n at *
 clear ha hn
 go_enter Tryz.func109, Tryz.ntmps109
 go_upto_region 2 with fail
 go_cut [13] from 6 (fun v wx => v = .bool (!sizeB n) ∧ w = wx)
 case first =>
  by_cases h : n = 0
  ·subst h
   go_wp2_with fail
   go_meet
   case rel => exact ⟨rfl, rfl⟩
  ·have h0 : ¬ (n : Int) < 1 := by omega
   by_cases h2 : n ≤ 16
   ·have HT : Hid (false = (!sizeB n)) := by show _ = _; unfold sizeB; rw [decide_eq_true (show 1 ≤ n by omega), decide_eq_true h2]; rfl
    have h3 : ¬ ((16 : Int) < (n : Int)) := by omega
    go_wp2_with fail
    go_meet
    case rel => exact ⟨by rw [HT.out], rfl⟩
   ·have HT : Hid (true = (!sizeB n)) := by show _ = _; unfold sizeB; rw [decide_eq_false h2, Bool.and_false]; rfl
    have h3 : (16 : Int) < (n : Int) := by omega
    go_wp2_with fail
    go_meet
    case rel => exact ⟨by rw [HT.out], rfl⟩
 obtain ⟨rfl, rfl⟩ := hcut
 go_upto_if 13 with fail
 go_cut [3] from 6 (fun v wx => Hid (Gl w.heap.size wx v (fl0 n)) ∧ Hid (Below w.heap.size w wx))
 case first =>
  have HG0 : Hid (Gl w.heap.size w (.slice none 0 0) []) := Gl.nil _ _
  cases hs : sizeB n
  ·have HF : Hid (fl0 n = [] ++ [(4, ⟨#[]⟩)]) := sizeB_no hs
   clear hs
   go_wp2_with (at_builtin; refine wpList_append_own _ rfl _ _ 33 rfl w.heap.size 37 i0 (.agg #[.int .i64 0, .string ⟨#[]⟩]) 2 24 Tryz.underlying33 hi hz0 hz1 hz2 rfl (by decide) _ _ _ rfl (World.ownsRow.alloc HG0.out.own _) ⟨w.heap.size, 0, none⟩ 1 1 [.int .i64 4, .string ⟨#[]⟩] rfl rfl ?q1 ?q2 ?q3 ?q4 ?q5 ?_)
   case q1 => exact two_new _ _ _ _
   case q2 => exact fcells _ _
   case q3 => decide
   case q4 => decide
   case q5 => simp
   intro v3 w3 hown hgrow _
   go_wp2_with fail
   go_meet
   case rel => exact ⟨HF.out ▸ Gl.more hown, ((Below.refl _ w).alloc (Nat.le_refl _) _).grown hgrow (by simp) (fun k hk => by cases hk)⟩
  ·have HF : Hid (fl0 n = []) := sizeB_yes hs
   clear hs
   go_wp2_with fail
   go_meet
   case rel => exact ⟨HF.out ▸ HG0.out, Below.refl _ _⟩
 obtain ⟨HG, HB⟩ := hcut
 rw [← H0.out] at HG
 go_wp2_with fail
 go_loopg [3, 4] n (fun g v i wr => ∃ k : Nat, k ≤ n ∧ i = .int .i64 k ∧ n - k ≤ g ∧ Hid (Gl w.heap.size wr v (flt l k)) ∧ Hid (Below w.heap.size w wr))
 case atStart => exact ⟨0, Nat.zero_le _, rfl, Nat.le_refl _, HG, HB⟩
 case round =>
  clear HG HB
  obtain ⟨k, hk, rfl, hg, HG, HW⟩ := hrel
  by_cases hlt : k < n
  ·obtain ⟨b, o, rfl, hab, hc0, hc1⟩ := HA.out k hlt
   have d0 := (HW.out.cell (p := ⟨b, o + k * 2, none⟩) hab).trans hc0
   have d1 := (HW.out.cell (p := ⟨b, o + k * 2 + 1, none⟩) hab).trans hc1
   unfold pT at d0
   unfold pA at d1
   have HL2 := HL.out k
   have HS2 : Hid (flt l (k + 1) = flt l k ++ fl1 (l.getD k (0, 0)) k ++ fl3 l k) := HS.out k
   have HF3 : Hid (∀ j, k = j + 1 → beforeB (l.getD j (0, 0)) (l.getD k (0, 0)) = true → fl3 l k = []) := fun j e h => by subst e; exact fl3_yes h
   have HF4 : Hid (∀ j, k = j + 1 → beforeB (l.getD j (0, 0)) (l.getD k (0, 0)) = false → fl3 l k = [(13, dec k)]) := fun j e h => by subst e; exact fl3_no h
   generalize l.getD k (0, 0) = q at *
   obtain ⟨x, y⟩ := q
   simp only at d0 d1
   have KI := Lib.hid (fun w => decimal_n k (by omega) w)
   have hsz := HW.out.size
   clear hc0 hc1
   obtain ⟨w1, hw1⟩ : ∃ w1, wr.alloc (.cells #[.int .i64 x, .int .i64 y] 105) = w1 := ⟨_, rfl⟩
   have HB1 : Hid (Below w.heap.size w w1) := by show Below _ _ _; rw [← hw1]; exact HW.out.alloc hsz _
   have hne : some wr.heap.size ≠ u3.ownBlock := fun h => absurd (World.ownsRow.lt HG.out.own _ h.symm).2 (Nat.lt_irrefl _)
   have HG1 : Hid (Gl w.heap.size w1 u3 (flt l k)) := by show Gl _ _ _ _; rw [← hw1]; exact HG.out.frame (below_alloc wr _)
   have c0 : w1.cell? ⟨wr.heap.size, 0, none⟩ = some (.int .i64 x) := by rw [← hw1]; simp
   have c1 : w1.cell? ⟨wr.heap.size, 1, none⟩ = some (.int .i64 y) := by rw [← hw1]; simp
   have hsz1 := HB1.out.size
   go_upto_region 8 with fail
   clear hw1 d0 d1
   go_cut [50] from 18 to 86 (fun v wx => v = .bool (!pointB (x, y)) ∧ w1 = wx)
   case first =>
    by_cases p1 : 0 ≤ x
    ·by_cases p2 : x ≤ 4096
     ·by_cases p3 : x ≤ y
      ·by_cases p4 : y ≤ x + 4096
       ·have hp : Hid (pointB (x, y) = true) := (pointB_iff _).2 ⟨p1, p2, p3, p4⟩
        go_wp2_with fail
        go_meet
        case rel => exact ⟨congrArg Value.bool (by rw [hp.out]; first | rfl | (simp; done) | (simp; omega)), rfl⟩
       ·have hp : Hid (pointB (x, y) = false) := pointB_no (fun h => p4 h.2.2.2)
        have p5 : x + 4096 < y := by omega
        go_wp2_with fail
        go_meet
        case rel => exact ⟨congrArg Value.bool (by rw [hp.out]; first | rfl | (simp; done) | (simp; omega)), rfl⟩
      ·have hp : Hid (pointB (x, y) = false) := pointB_no (fun h => p3 h.2.2.1)
       have p5 : y < x := by omega
       go_wp2_with fail
       go_meet
       case rel => exact ⟨congrArg Value.bool (by rw [hp.out]; first | rfl | (simp; done) | (simp; omega)), rfl⟩
     ·have hp : Hid (pointB (x, y) = false) := pointB_no (fun h => p2 h.2.1)
      have p5 : 4096 < x := by omega
      go_wp2_with fail
      go_meet
      case rel => exact ⟨congrArg Value.bool (by rw [hp.out]; first | rfl | (simp; done) | (simp; omega)), rfl⟩
    ·have hp : Hid (pointB (x, y) = false) := pointB_no (fun h => p1 h.1)
     have p5 : x < 0 := by omega
     go_wp2_with fail
     go_meet
     case rel => exact ⟨congrArg Value.bool (by rw [hp.out]; first | rfl | (simp; done) | (simp; omega)), rfl⟩
   obtain ⟨rfl, rfl⟩ := hcut
   go_upto_if 50 with fail
   go_cut [3, 4] from 18 to 86 (fun v i wx => i = .int .i64 k ∧ Hid (Gl w.heap.size wx v (flt l k ++ fl1 (x, y) k)) ∧ Hid (Below w.heap.size w wx) ∧ wx.cell? ⟨wr.heap.size, 0, none⟩ = some (.int .i64 x) ∧ wx.cell? ⟨wr.heap.size, 1, none⟩ = some (.int .i64 y))
   case first =>
    cases hp : pointB (x, y)
    ·have HF : Hid (fl1 (x, y) k = [(2, dec k)]) := fl1_no hp
     clear hp
     go_wp2_with fail
     refine (KI.out _).mono ?_
     rintro e w2 ⟨rfl, b2⟩
     have HB2 := Lib.hid (over HB1.out b2)
     have HG2 := Lib.hid (HG1.out.frame b2)
     have c0 := (b2.cell (World.block_lt_of_cell? _ _ c0)).trans c0
     have c1 := (b2.cell (World.block_lt_of_cell? _ _ c1)).trans c1
     have hsz2 := HB2.out.size
     clear b2
     go_wp2_with (at_builtin; refine wpList_append_own _ rfl _ _ 33 rfl w.heap.size 37 i0 (.agg #[.int .i64 0, .string ⟨#[]⟩]) 2 24 Tryz.underlying33 hi hz0 hz1 hz2 rfl (by decide) _ _ _ rfl (World.ownsRow.alloc HG2.out.own _) ⟨w2.heap.size, 0, none⟩ 1 1 [.int .i64 2, .string (dec k)] rfl rfl ?q1 ?q2 ?q3 ?q4 ?q5 ?_)
     case q1 => exact two_new _ _ _ _
     case q2 => exact fcells _ _
     case q3 => unfold maxLen; omega
     case q4 => omega
     case q5 => simp; omega
     intro v3 w3 hown hgrow _
     have HG3 : Hid (Gl w.heap.size w3 v3 (flt l k ++ fl1 (x, y) k)) := by show Gl _ _ _ _; rw [HF.out]; exact Gl.more hown
     have HB3 : Hid (Below w.heap.size w w3) := (HB2.out.alloc (by omega) _).grown hgrow (by simp; omega) (HG2.out.blk)
     have c0 := hgrow.cell (cell_alloc_t _ c0) hne
     have c1 := hgrow.cell (cell_alloc_t _ c1) hne
     go_wp2_with fail
     go_meet
     case rel => exact ⟨rfl, HG3, HB3, c0, c1⟩
    ·have HF : Hid (fl1 (x, y) k = []) := fl1_yes hp
     have HG3 : Hid (Gl w.heap.size w1 u3 (flt l k ++ fl1 (x, y) k)) := by show Gl _ _ _ _; rw [HF.out, List.append_nil]; exact HG1.out
     clear hp
     go_wp2_with fail
     go_meet
     case rel => exact ⟨rfl, HG3, HB1, c0, c1⟩
   clear c0 c1 HB1 HG1 hsz1 HG HW hsz hne
   obtain ⟨rfl, HG, HB, c0, c1⟩ := hcut
   have hsz := HB.out.size
   have hl1 := fl1_len (x, y) k
   have hfl : (flt l k ++ fl1 (x, y) k).length ≤ 2 * k + 2 := by rw [List.length_append]; omega
   generalize flt l k ++ fl1 (x, y) k = F at hfl HG HS2
   cases k with
   | zero =>
    have HG2 : Hid (Gl w.heap.size wc u3 (flt l (0 + 1))) := by show Gl _ _ _ _; rw [HS2.out, fl3_zero, List.append_nil]; exact HG.out
    go_wp2_with fail
    go_quiet (fail)
    go_wp2_with fail
    go_roundg (n - 1)
    case measure => omega
    case rel => exact ⟨1, by omega, by go_num, by omega, HG2.out.frame (below_drewN (Below.refl _ _) _), below_drewN HB.out _⟩
   | succ j =>
    obtain ⟨b', o', hbo, -, hc0, hc1⟩ := HA.out j (by omega)
    obtain ⟨rfl, rfl⟩ : b = b' ∧ o = o' := by simpa using hbo
    have d0 := (HB.out.cell (p := ⟨b, o + j * 2, none⟩) hab).trans hc0
    have d1 := (HB.out.cell (p := ⟨b, o + j * 2 + 1, none⟩) hab).trans hc1
    unfold pT at d0
    unfold pA at d1
    clear hc0 hc1 hbo
    have HF5 := Lib.hid (HF3.out j rfl)
    have HF6 := Lib.hid (HF4.out j rfl)
    generalize l.getD j (0, 0) = q at *
    obtain ⟨x0, y0⟩ := q
    simp only at d0 d1
    have hj0 : (0 : Int) ≤ (j : Int) := by omega
    have hj1 : (j : Int) < (n : Int) := by omega
    have hj2 : (0 : Int) < (j : Int) + 1 := by omega
    have hwj : IntKind.i64.wrap (j : Int) = (j : Int) := IntWalk.i64_in _ (by omega)
    have HGW : ∃ wz, wc = wz := ⟨_, rfl⟩
    obtain ⟨wz, rfl⟩ := HGW
    go_upto_region 10 with fail
    go_cut [80, 3, 4] from 18 to 86 (fun t v i wx => t = .bool (!beforeB (x0, y0) (x, y)) ∧ v = u3 ∧ i = .int .i64 (j + 1 : Nat) ∧ ∃ m, wx = wc.drewN m)
    case first =>
     by_cases p1 : x0 < x
     ·have p3 : ¬ x ≤ x0 := by omega
      have q3 : decide (x ≤ x0) = false := decide_eq_false p3
      by_cases p2 : y0 ≤ y
      ·have hp : Hid (beforeB (x0, y0) (x, y) = true) := (beforeB_iff _ _).2 ⟨p1, p2⟩
       have q4 : decide (y < y0) = false := decide_eq_false (by omega)
       go_quiet (fail)
       go_wp2_with fail
       go_meet
       case rel => exact ⟨congrArg Value.bool (by rw [hp.out]; first | rfl | (simp; done) | (simp; omega)), rfl, by go_num, _, rfl⟩
      ·have hp : Hid (beforeB (x0, y0) (x, y) = false) := beforeB_no (fun h => p2 h.2)
       have q4 : decide (y < y0) = true := decide_eq_true (by omega)
       go_quiet (fail)
       go_wp2_with fail
       go_meet
       case rel => exact ⟨congrArg Value.bool (by rw [hp.out]; first | rfl | (simp; done) | (simp; omega)), rfl, by go_num, _, rfl⟩
     ·have hp : Hid (beforeB (x0, y0) (x, y) = false) := beforeB_no (fun h => p1 h.1)
      have q3 : decide (x ≤ x0) = true := decide_eq_true (by omega)
      go_quiet (fail)
      go_wp2_with fail
      go_meet
      case rel => exact ⟨congrArg Value.bool (by rw [hp.out]; first | rfl | (simp; done) | (simp; omega)), rfl, by go_num, _, rfl⟩
    obtain ⟨rfl, rfl, rfl, mm, hwm⟩ := hcut
    rename World => wd
    have HBm : Hid (Below w.heap.size w wd) := by show Below _ _ _; rw [hwm]; exact below_drewN HB.out _
    have HGm := Lib.hid (HG.out.toDrew hwm)
    have hszm := HBm.out.size
    clear hwm d0 d1 c0 c1 HG HB hsz
    cases hb : beforeB (x0, y0) (x, y)
    ·have HF : Hid (fl3 l (j + 1) = [(13, dec (j + 1))]) := HF6.out hb
     clear hb
     go_wp2_with fail
     refine (KI.out _).mono ?_
     rintro e w2 ⟨rfl, b2⟩
     have HB2 := Lib.hid (over HBm.out b2)
     have HG2 := Lib.hid (HGm.out.frame b2)
     have hsz2 := HB2.out.size
     clear b2
     go_wp2_with (at_builtin; refine wpList_append_own _ rfl _ _ 33 rfl w.heap.size 37 i0 (.agg #[.int .i64 0, .string ⟨#[]⟩]) 2 24 Tryz.underlying33 hi hz0 hz1 hz2 rfl (by decide) _ _ _ rfl (World.ownsRow.alloc HG2.out.own _) ⟨w2.heap.size, 0, none⟩ 1 1 [.int .i64 13, .string (dec (j + 1))] rfl rfl ?q1 ?q2 ?q3 ?q4 ?q5 ?_)
     case q1 => exact two_new _ _ _ _
     case q2 => exact fcells _ _
     case q3 => unfold maxLen; omega
     case q4 => omega
     case q5 => simp; omega
     intro v3 w3 hown hgrow _
     have HG3 : Hid (Gl w.heap.size w3 v3 (flt l (j + 1 + 1))) := by show Gl _ _ _ _; rw [HS2.out, HF.out]; exact Gl.more hown
     have HB3 : Hid (Below w.heap.size w w3) := (HB2.out.alloc (by omega) _).grown hgrow (by simp; omega) (HG2.out.blk)
     clear hown hgrow
     go_wp2_with fail
     go_roundg (n - (j + 2))
     case measure => omega
     case rel => exact ⟨j + 1 + 1, by omega, by go_num, by omega, HG3, HB3⟩
    ·have HF : Hid (fl3 l (j + 1) = []) := HF5.out hb
     have HG3 := Lib.hid (HGm.out.ext (show F = flt l (j + 1 + 1) by rw [HS2.out, HF.out, List.append_nil]))
     clear hb
     go_wp2_with fail
     go_roundg (n - (j + 2))
     case measure => omega
     case rel => exact ⟨j + 1 + 1, by omega, by go_num, by omega, HG3, HBm⟩
  ·have hk' : k = n := by omega
   subst hk'
   have HR : Hid (flt l k = r) := HE.out.symm
   go_wp2_with fail
   go_ret
   exact chkP (HR.out ▸ HG.out) HW.out (Nat.le_refl _)
end Go.Proofs.YtaallpebfcadjaaGreatDoor.T
namespace Go.Proofs.YtaallpebfcadjaaGreatDoor.T
open Go.RowKit
set_option maxRecDepth 8000
theorem refTick_n (t : Int) (w : World) : Calls Tryz.prog 110 #[.int .i64 t] w fun e w' => e = .returned (.bool (tickB t)) ∧ w = w' := by
 by_cases h1 : 0 ≤ t
 ·have HR : Hid (decide (t ≤ 4096) = tickB t) := by show _ = _; unfold tickB; rw [decide_eq_true h1, Bool.true_and]
  generalize tickB t = r at *
  go_enter Tryz.func110, Tryz.ntmps110
  go_wp2_with fail
  go_ret
  exact ⟨ret_bool HR.out, rfl⟩
 ·have HR : Hid (false = tickB t) := by show _ = _; unfold tickB; rw [decide_eq_false h1, Bool.false_and]
  have h2 : t < 0 := by omega
  generalize tickB t = r at *
  go_enter Tryz.func110, Tryz.ntmps110
  go_wp2_with fail
  go_ret
  exact ⟨ret_bool HR.out, rfl⟩
end Go.Proofs.YtaallpebfcadjaaGreatDoor.T
namespace Go.Proofs.YtaallpebfcadjaaGreatDoor.T
open Go.RowKit
set_option maxRecDepth 8000
theorem plf_no {l : List ByteArray} {i : Nat} {s : ByteArray} (hs : l.getD i ⟨#[]⟩ = s) (h : nmB s = false) : plf l i = [(5, placeS i)] := by unfold plf; rw [hs, h]; rfl
theorem plf_seen {l : List ByteArray} {i : Nat} {s : ByteArray} (hs : l.getD i ⟨#[]⟩ = s) (h : nmB s = true) (h2 : seen l s i = true) : plf l i = [(6, placeS i)] := by unfold plf; rw [hs, h, h2]; rfl
theorem plf_new {l : List ByteArray} {i : Nat} {s : ByteArray} (hs : l.getD i ⟨#[]⟩ = s) (h : nmB s = true) (h2 : seen l s i = false) : plf l i = [] := by unfold plf; rw [hs, h, h2]; rfl
theorem refName_n (s : ByteArray) (w : World) : Calls Tryz.prog 108 #[.string s] w fun e w' => e = .returned (.bool (nmB s)) ∧ w = w' := refName_any s w
end Go.Proofs.YtaallpebfcadjaaGreatDoor.T

