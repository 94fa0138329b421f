/-
  DERIVED. The walk of RulesChecks (written by gen_rulaws.py).
-/
import Derived.Test.YtmoilpkgoabopaaDoorRuEx
import Derived.Laws.StructEq
namespace Go.Proofs.YtmoilpkgoabopaaDoor.T
open Go.RowKit
set_option maxRecDepth 8000

theorem neqFault (x : Int) (s : ByteArray) (w : World) : (binOp .neq 28 (.agg #[.int .i64 x, .string s]) (.agg #[.int .i64 x, .string s])).run Tryd.prog w = .ok (.bool false) w := by
  have hS : Tryd.prog.underlying 28 = some (.struct (Tryd.prog.fieldsOf 28)) := by kernel_rfl
  have hp : Tryd.prog.stoodInHeld 28 = false := by kernel_rfl
  have u3 := Tryd.underlying26
  have a3 := Tryd.isAgg26
  have z3 := Tryd.sizeOf26
  have u4 := Tryd.underlying9
  have a4 := Tryd.isAgg9
  have z4 := Tryd.sizeOf9
  rw [run_neq_struct, show (10000 : Nat) = 9999 + 1 from rfl, run_equalIn_agg w 9999 28 _ _ hS hp]
  simp only [Program.fieldsOf, Tryd.underlying28]
  go_simp
theorem fs_below {w w' : World} {v : Value} {l : List (Int × ByteArray)} (h : Fs w v l) (hb : Below w.heap.size w w') : Fs w' v l := Sl.below h hb
theorem fs_at {w : World} {oa : Option Addr} {c : Nat} {l : List (Int × ByteArray)} (h : Fs w (.slice oa l.length c) l) {k : Nat} (hk : k < l.length) :
    ∃ b o, oa = some ⟨b, o, none⟩ ∧ b < w.heap.size ∧ w.cell? ⟨b, o + k * 2, none⟩ = some (.int .i64 (l.getD k (0, ⟨#[]⟩)).1) ∧ w.cell? ⟨b, o + k * 2 + 1, none⟩ = some (.string (l.getD k (0, ⟨#[]⟩)).2) := by
  obtain ⟨oa', c', hv, h⟩ := h
  simp only [Value.slice.injEq] at hv
  obtain ⟨rfl, -, rfl⟩ := hv
  obtain ⟨b, o, ha, hl, h0, h1⟩ := h k hk
  exact ⟨b, o, ha, hl, h0, h1⟩
theorem checkF_len (n : Int) (ap be : List (Int × Int)) : (checkF n ap be).length ≤ ap.length + be.length + 2 := by
  unfold checkF
  rw [List.length_append]
  have h1 := pairF_len n ap apartW true
  have h2 := pairF_len n be beforeW false
  omega
set_option maxHeartbeats 6400000 in
theorem rulesChecks_walk (q : Int) (hq : -9223372036854775808 ≤ q ∧ q ≤ 9223372036854775807) (o4 o5 : Option Addr) (c4 c5 : Nat) (ap be : List (Int × Int)) (hia : ∀ p ∈ ap, In64 p) (hib : ∀ p ∈ be, In64 p) (w : World) (hE : Env w) (hv : Ps w (.slice o4 ap.length c4) ap) (hu : Ps w (.slice o5 be.length c5) be) :
    Calls Tryd.prog 3 #[.int .i64 q, .slice o4 ap.length c4, .slice o5 be.length c5] w fun e w' => e = .returned (.bool true) ∧ Below w.heap.size w w' := by
  have HV := Lib.hid hv
  have HU := Lib.hid hu
  have HE := Lib.hid hE
  have HX := Lib.hid (fun w hE => examples_n w hE)
  clear hv hu hE
  by_cases h1 : ap.length ≤ 40
  · by_cases h2 : be.length ≤ 40
    · have K1 := Lib.hid (fun w hE hv hu => rulesCheck_n q (.slice o4 ap.length c4) (.slice o5 be.length c5) ap be hq (by omega) (by omega) hia hib w hE hv hu)
      have K2 := Lib.hid (fun w hv hu => check12_n q (.slice o4 ap.length c4) (.slice o5 be.length c5) ap be (by omega) (by omega) w hv hu)
      have hfl := checkF_len q ap be
      generalize checkF q ap be = f at *
      generalize ap.length = na at *
      generalize be.length = nb at *
      have h1I : ¬ (40 : Int) < (na : Int) := by omega
      have h2I : ¬ (40 : Int) < (nb : Int) := by omega
      have hf9 : f.length ≤ 100 := by omega
      clear hfl
      go_enter Tryd.func3, Tryd.ntmps3
      go_wp2_with fail
      refine (K1.out _ HE.out HV.out HU.out).mono ?_
      rintro e w1 ⟨oa, ca, rfl, ⟨hA, -, -⟩, b1⟩
      have HA1 := Lib.hid hA
      have HV1 := Lib.hid (ps_below HV.out b1)
      have HU1 := Lib.hid (ps_below HU.out b1)
      have HE1 := Lib.hid (HE.out.over b1)
      have HB1 := Lib.hid b1
      clear hA b1 HV HU HE K1
      go_wp2_with fail
      refine (K2.out _ HV1.out HU1.out).mono ?_
      rintro e w2 ⟨ob, cb, rfl, ⟨hA, -, -⟩, b2⟩
      have HA2 := Lib.hid (fs_below HA1.out b2)
      have HC2 := Lib.hid hA
      have HE2 := Lib.hid (HE1.out.over b2)
      have HB2 := Lib.hid (over HB1.out b2)
      clear hA b2 HV1 HU1 HE1 HB1 HA1 K2
      generalize hm : f.length = m at *
      have HM := Lib.hid hm
      clear hm
      have hne : ((m : Int) != (m : Int)) = false := by simp
      have hgf : Tryd.prog.eqGuardType Tryd.prog.depth 28 = false := by kernel_rfl
      go_wp2_with fail
      go_loopg [34] m (fun g i wr => ∃ k : Nat, k ≤ m ∧ i = .int .i64 k ∧ m - k ≤ g ∧ Hid (Below w2.heap.size w2 wr))
      case atStart => exact ⟨0, Nat.zero_le _, rfl, Nat.le_refl _, Below.refl _ _⟩
      case round =>
        obtain ⟨k, hk, rfl, hg, HW⟩ := hrel
        by_cases hlt : k < m
        · have hkI : (k : Int) < (m : Int) := by omega
          have hkf : k < f.length := by rw [HM.out]; exact hlt
          obtain ⟨b, o, rfl, hab, x0, x1⟩ := fs_at (by have := fs_below HA2.out HW.out; rw [← HM.out] at this; exact this) hkf
          obtain ⟨b', o', rfl, hab', y0, y1⟩ := fs_at (by have := fs_below HC2.out HW.out; rw [← HM.out] at this; exact this) hkf
          generalize f.getD k (0, ⟨#[]⟩) = p at *
          have hqq := neqFault p.1 p.2
          go_wp2_with fail
          go_quiet (fail)
          go_wp2_with fail
          go_roundg (m - (k + 1))
          case measure => omega
          case rel => exact ⟨k + 1, by omega, by go_num, by omega, below_drewN HW.out _⟩
        · have hkk : k = m := by omega
          subst hkk
          have HEr := Lib.hid (HE2.out.over HW.out)
          have HBr := Lib.hid (over HB2.out HW.out)
          go_wp2_with fail
          refine (HX.out _ HEr.out).mono ?_
          rintro e w9 ⟨rfl, b9⟩
          have HB9 := Lib.hid (over HBr.out b9)
          clear b9
          go_wp2_with fail
          go_ret
          exact ⟨rfl, HB9.out⟩
    · have h1I : ¬ (40 : Int) < (ap.length : Int) := by omega
      have h2I : (40 : Int) < (be.length : Int) := by omega
      go_enter Tryd.func3, Tryd.ntmps3
      go_wp2_with fail
      refine (HX.out _ HE.out).mono ?_
      rintro e w9 ⟨rfl, b9⟩
      go_wp2_with fail
      go_ret
      exact ⟨rfl, b9⟩
  · have h1I : (40 : Int) < (ap.length : Int) := by omega
    go_enter Tryd.func3, Tryd.ntmps3
    go_wp2_with fail
    refine (HX.out _ HE.out).mono ?_
    rintro e w9 ⟨rfl, b9⟩
    go_wp2_with fail
    go_ret
    exact ⟨rfl, b9⟩

end Go.Proofs.YtmoilpkgoabopaaDoor.T

