/-
  DERIVED. Merged by mkrat.py: RatInt1, RatInt2, RatInt3.
-/
import Derived.Test.YthamlnolfagpiaaGreatDoorRatBase
import Derived.IntWalk
import Derived.Lib.AtoiErrMem
import Derived.Deep.LoopGhost
namespace Go.Proofs.YthamlnolfagpiaaGreatDoor.D
open Go.RowKit
set_option maxRecDepth 8000

theorem inum_ne (z : Int) : ((inum z).toList == []) = false := by
  have := inum_some z
  cases h : (inum z).toList
  · exact absurd h this
  · rfl
theorem inum_ne2 (z : Int) : (inum z).toList.isEmpty = false := by
  have := inum_some z
  cases h : (inum z).toList
  · exact absurd h this
  · rfl

theorem text_z (s z : Int) (l : ByteArray) (h : Rp s l z) (w : World) (ht : Tab w) :
    Calls Tryz.prog 39 #[.agg #[.int .i64 s, .string l]] w fun e w' => e = .returned (.string (inum z)) ∧ Below w.heap.size w w' := by
  rcases h with ⟨rfl, rfl, h1, h2⟩ | ⟨rfl, rfl, h1, h2⟩
  · go_enter Tryz.func39, Tryz.ntmps39
    go_wp2_with fail
    refine (wOf_any s (by omega) (by omega) _ (ht.over (by go_grown))).mono ?_
    rintro e w1 ⟨rfl, b1⟩
    have B1 := Below.over (w := w) (by go_grown) b1
    go_wp2_with fail
    go_ret
    exact ⟨rfl, B1⟩
  · have hA := inum_ne z
    have hB := inum_ne2 z
    have hC := inum_some z
    go_enter Tryz.func39, Tryz.ntmps39
    go_wp2_with fail
    go_ret
    exact ⟨rfl, by go_grown⟩

theorem digits_z (s z : Int) (l : ByteArray) (h : Rp s l z) (w : World) (ht : Tab w) :
    Calls Tryz.prog 107 #[.agg #[.int .i64 s, .string l]] w fun e w' => e = .returned (.string (num z.natAbs)) ∧ Below w.heap.size w w' := by
  have HT := Lib.hid (fun w ht => text_z s z l h w ht)
  have HC : Hid ((⟨(Lib.trimPrefix (inum z).data.toList [45]).toArray⟩ : ByteArray) = num z.natAbs) := by
    show _ = _
    rw [inum_data, cut_num]; rfl
  clear h
  go_enter Tryz.func107, Tryz.ntmps107
  go_wp2_with fail
  refine (HT.out _ (ht.over (by go_grown))).mono ?_
  rintro e w1 ⟨rfl, b1⟩
  have B1 := Below.over (w := w) (by go_grown) b1
  go_wp2_with fail
  refine (Tryz.strings_TrimPrefix _ _ _).mono ?_
  rintro e w2 ⟨rfl, hw⟩
  subst hw
  go_wp2_with fail
  go_ret
  exact ⟨ret_str HC.out, B1⟩

theorem is_z (s z : Int) (l : ByteArray) (n : Int) (b : Bool) (hn : n.natAbs < 10) (hb : Hid (decide (z = n) = b)) (h : Rp s l z) (w : World) :
    Calls Tryz.prog 65 #[.agg #[.int .i64 s, .string l], .int .i64 n] w fun e w' => e = .returned (.bool b) ∧ Below w.heap.size w w' := by
  rcases h with ⟨rfl, rfl, h1, h2⟩ | ⟨rfl, rfl, h1, h2⟩
  · have HB : Hid ((s == n) = b) := by show _ = _; rw [← hb.out, Bool.eq_iff_iff, beq_iff_eq, decide_eq_true_iff]
    go_enter Tryz.func65, Tryz.ntmps65
    go_wp2_with fail
    go_ret
    exact ⟨ret_bool (by have := HB.out; simpa using this), by go_grown⟩
  · have HB : Hid (b = false) := by
      show _ = _
      rw [← hb.out]
      refine decide_eq_false ?_
      rintro rfl
      have := nd_le z.natAbs 0 (by omega)
      omega
    have hA := inum_ne z
    have hB := inum_ne2 z
    have hC := inum_some z
    clear h1 h2 hn
    go_enter Tryz.func65, Tryz.ntmps65
    go_wp2_with fail
    go_ret
    exact ⟨ret_bool HB.out.symm, by go_grown⟩

/-- the answer of isBelow -/
def BlwPost (s z : Int) (l : ByteArray) (m : Int) (w : World) (e : Ending) (w' : World) : Prop :=
  ∃ b : Bool, e = .returned (.bool b) ∧ (b = true → l = ⟨#[]⟩ ∧ s = z ∧ -m < z ∧ z < m) ∧ Below w.heap.size w w'
theorem isBelow_z (s z : Int) (l : ByteArray) (m : Int) (hm : 0 < m) (hm2 : m ≤ 4611686018427387904) (h : Rp s l z) (w : World) :
    Calls Tryz.prog 88 #[.agg #[.int .i64 s, .string l], .int .i64 m] w fun e w' => BlwPost s z l m w e w' := by
  rcases h with ⟨rfl, rfl, h1, h2⟩ | ⟨rfl, rfl, h1, h2⟩
  · by_cases h3 : -m < s
    · by_cases h4 : s < m
      · have h3' : decide (-m < s) = true := decide_eq_true h3
        have h4' : decide (s < m) = true := decide_eq_true h4
        go_enter Tryz.func88, Tryz.ntmps88
        go_wp2_with fail
        go_ret
        exact ⟨true, rfl, fun _ => ⟨rfl, rfl, h3, h4⟩, by go_grown⟩
      · have h3' : decide (-m < s) = true := decide_eq_true h3
        have h4' : decide (s < m) = false := decide_eq_false h4
        go_enter Tryz.func88, Tryz.ntmps88
        go_wp2_with fail
        go_ret
        exact ⟨false, rfl, (fun h => by cases h), by go_grown⟩
    · have h3' : decide (-m < s) = false := decide_eq_false h3
      go_enter Tryz.func88, Tryz.ntmps88
      go_wp2_with fail
      go_ret
      exact ⟨false, rfl, (fun h => by cases h), by go_grown⟩
  · have hA := inum_ne z
    have hB := inum_ne2 z
    have hC := inum_some z
    go_enter Tryz.func88, Tryz.ntmps88
    go_wp2_with fail
    go_ret
    exact ⟨false, rfl, (fun h => by cases h), by go_grown⟩

theorem compare_int (x y : Int) (w : World) :
    Calls Tryz.prog 91 #[.int .i64 x, .int .i64 y] w fun e w' => e = .returned (.int .i64 (cmpI x y)) ∧ w = w' := by
  refine (Tryz.cmp_Compare_int _ _ _).mono ?_
  rintro e w' ⟨he, hw⟩
  exact ⟨by rw [he, compareInt_cmpI], hw.symm⟩
theorem cmpI_zero (x : Int) : cmpI x 0 = sgnI x := by rw [cmpI_sub, Int.sub_zero]

theorem sign_z (s z : Int) (l : ByteArray) (c : Int) (hc : Hid (sgnI z = c)) (h : Rp s l z) (w : World) (ht : Tab w) :
    Calls Tryz.prog 56 #[.agg #[.int .i64 s, .string l]] w fun e w' => e = .returned (.int .i64 c) ∧ Below w.heap.size w w' := by
  rcases h with ⟨rfl, rfl, h1, h2⟩ | ⟨rfl, rfl, h1, h2⟩
  · have HC : Hid (cmpI s 0 = c) := by show _ = _; rw [cmpI_zero]; exact hc.out
    go_enter Tryz.func56, Tryz.ntmps56
    go_wp2_with fail
    refine (compare_int s 0 _).mono ?_
    rintro e w' ⟨rfl, rfl⟩
    go_wp2_with fail
    go_ret
    exact ⟨ret_int HC.out, by go_grown⟩
  · have hA := inum_ne z
    have hB := inum_ne2 z
    have hC := inum_some z
    have hs : (inum z).size ≤ 100000 := by have := sz_nd h2; omega
    go_enter Tryz.func56, Tryz.ntmps56
    go_wp2_with fail
    refine (wSign_num z hs _ (ht.over (by go_grown))).mono ?_
    rintro e w1 ⟨rfl, b1⟩
    have B1 := Below.over (w := w) (by go_grown) b1
    go_wp2_with fail
    go_ret
    exact ⟨ret_int hc.out, B1⟩

/-- what keeps an integer -/
def RpPost (z : Int) (w : World) (e : Ending) (w' : World) : Prop :=
  ∃ (s : Int) (l : ByteArray), e = .returned (.agg #[.int .i64 s, .string l]) ∧ Rp s l z ∧ Below w.heap.size w w'

theorem opposite_i (s z z' : Int) (l : ByteArray) (hz : Hid (-z = z')) (h : Rp s l z) (w : World) (ht : Tab w) :
    Calls Tryz.prog 48 #[.agg #[.int .i64 s, .string l]] w fun e w' => RpPost z' w e w' := by
  rcases h with ⟨rfl, rfl, h1, h2⟩ | ⟨rfl, rfl, h1, h2⟩
  · have HR : Rp (-s) ⟨#[]⟩ z' := by rw [← hz.out]; exact Rp.short (by omega) (by omega)
    go_enter Tryz.func48, Tryz.ntmps48
    go_wp2_with fail
    refine bodyPost_ret (v := .agg #[.int .i64 (-s), .string ⟨#[]⟩]) (by simp [results, Tryz.results48, go_sem]) rfl ⟨_, _, rfl, HR, by go_grown⟩
  · have hA := inum_ne z
    have hB := inum_ne2 z
    have hC := inum_some z
    have HR : Rp 0 (inum (-z)) z' := by rw [← hz.out]; exact Rp.long (by rw [Int.natAbs_neg]; exact h1) (by rw [Int.natAbs_neg]; exact h2)
    go_enter Tryz.func48, Tryz.ntmps48
    go_wp2_with fail
    refine (wNeg_num z h2 _ (ht.over (by go_grown))).mono ?_
    rintro e w1 ⟨rfl, b1⟩
    have B1 := Below.over (w := w) (by go_grown) b1
    have hr := (Bi.made (w.alloc (cInt 0 (inum z))) (w.heap.size + 1) (by simp) 0 ⟨#[]⟩).under b1
    have r0 := hr.c0
    have r1 := hr.c1
    have q0 := hr.f0
    have q1 := hr.f1
    have hs1 := b1.size
    go_wp2_with fail
    have hF := hr.put 0 (inum (-z))
    have g0 := hF.c0
    have g1 := hF.c1
    refine bodyPost_ret (v := .agg #[.int .i64 0, .string (inum (-z))]) (by simp [results, Tryz.results48, go_sem, g0, g1]) rfl ⟨_, _, rfl, HR, by go_grown⟩

end Go.Proofs.YthamlnolfagpiaaGreatDoor.D

namespace Go.Proofs.YthamlnolfagpiaaGreatDoor.D
open Go.RowKit
set_option maxRecDepth 8000

theorem decFrom_valA (l : List UInt8) (h : digs l = true) : ∀ a, Lib.decFrom a l = some (valA a l) := by
  induction l with
  | nil => intro a; rw [valA_nil]; rfl
  | cons c r ih =>
    intro a
    obtain ⟨h1, h2⟩ := digs_cons.1 h
    have hb := dig_bd h1
    rw [Lib.decFrom, Lib.digitVal, if_pos hb]
    exact (ih h2 _).trans (by rw [valA_cons])
theorem decNat_dec (u : Nat) : Lib.decNat (Lib.decDigits u) = some u := by
  obtain ⟨c, t, hc, _, _⟩ := dec_head u
  have h := decFrom_valA _ (dec_digs u) 0
  rw [dec_val] at h
  rw [Lib.decNat, h, hc]; rfl
theorem atoi_inum (z : Int) : Lib.atoi (inumL z) = some z := by
  obtain ⟨c, t, hc, h1, h2⟩ := dec_head z.natAbs
  have hd := decNat_dec z.natAbs
  by_cases h : z < 0
  · rw [inumL_neg h, Lib.atoi, if_pos (by decide), hd]
    simp only [Option.map_some]
    congr 1; omega
  · have e1 : (c == (45 : UInt8)) = false := beq_eq_false_iff_ne.2 (by rintro rfl; simp at h1)
    have e2 : (c == (43 : UInt8)) = false := beq_eq_false_iff_ne.2 (by rintro rfl; simp at h1)
    rw [inumL_pos (by omega), hc, Lib.atoi, e1, e2, ← hc, hd]
    simp only [Option.map_some, Bool.false_eq_true, if_false]
    congr 1; omega

theorem integerOf_z (z : Int) (h : nd z.natAbs ≤ 4096) (w : World) :
    Calls Tryz.prog 69 #[.string (inum z)] w fun e w' => RpPost z w e w' := by
  have hsz := sz_nd h
  by_cases hl : 18 < (inum z).size
  · have HR := Rp.long (inum_big hl) h
    go_enter Tryz.func69, Tryz.ntmps69
    go_wp2_with fail
    refine bodyPost_ret (v := .agg #[.int .i64 0, .string (inum z)]) (by simp [results, Tryz.results69, go_sem]) rfl ⟨_, _, rfl, HR, by go_grown⟩
  · have hb := inum_small (z := z) (by omega)
    have HR : Rp z ⟨#[]⟩ z := Rp.short (by omega) (by omega)
    go_enter Tryz.func69, Tryz.ntmps69
    go_wp2_with fail
    refine (Tryz.strconv_Atoi (inum z) z (by omega) (by rw [inum_data]; exact atoi_inum z) _).mono ?_
    rintro e w1 ⟨rfl, t, hw⟩
    have b1 : Below _ _ w1 := hw ▸ Lib.bytesWorld_below _ _ t
    have hr := (Bi.made w w.heap.size rfl 0 ⟨#[]⟩).under b1
    have B1 := Below.over (w := w) (by go_grown) b1
    clear hw
    have r0 := hr.c0
    have r1 := hr.c1
    have q0 := hr.f0
    have q1 := hr.f1
    go_wp2_with fail
    have hF := hr.put z ⟨#[]⟩
    have g0 := hF.c0
    have g1 := hF.c1
    refine bodyPost_ret (v := .agg #[.int .i64 z, .string ⟨#[]⟩]) (by simp [results, Tryz.results69, go_sem, g0, g1]) rfl ⟨_, _, rfl, HR, by go_grown⟩

end Go.Proofs.YthamlnolfagpiaaGreatDoor.D

namespace Go.Proofs.YthamlnolfagpiaaGreatDoor.D
open Go.RowKit
set_option maxRecDepth 8000

theorem natGcd_e (u v g : Nat) (hg : Hid (Nat.gcd u v = g)) (w : World) (hu : nd u ≤ 4096) (hv : nd v ≤ 4096) (ht : Tab w) :
    Calls Tryz.prog 106 #[.string (num u), .string (num v)] w fun e w' => e = .returned (.tuple #[.string (num g), .int .i64 0]) ∧ Below w.heap.size w w' := by
  have := natGcd_num u v w (by rw [num_size]; exact hu) (by rw [num_size]; exact hv) ht.tab
  rwa [hg.out] at this
theorem integerOf_n (n : Nat) (h : nd n ≤ 4096) (w : World) :
    Calls Tryz.prog 69 #[.string (num n)] w fun e w' => RpPost (n : Int) w e w' := by
  have := integerOf_z (n : Int) (by rw [Int.natAbs_natCast]; exact h) w
  rwa [inum_nat] at this

set_option maxHeartbeats 1000000 in
theorem gcd_short (x y : Int) (G : Nat) (hx1 : -9223372036854775808 < x) (hx2 : x < 9223372036854775808) (hy1 : -9223372036854775808 < y) (hy2 : y < 9223372036854775808) (hG : Hid (Nat.gcd x.natAbs y.natAbs = G)) (hG9 : G < 9223372036854775808) (w : World) :
    Calls Tryz.prog 77 #[.agg #[.int .i64 x, .string ⟨#[]⟩], .agg #[.int .i64 y, .string ⟨#[]⟩]] w fun e w' => RpPost (G : Int) w e w' := by
  have HR : Rp (G : Int) ⟨#[]⟩ (G : Int) := Rp.short (by omega) (by omega)
  go_enter Tryz.func77, Tryz.ntmps77
  go_wp2_with fail
  go_quiet (fail)
  go_wp2_with fail
  go_loopg [7, 8] y.natAbs (fun g a b wr => ∃ u v : Int, a = .int .i64 u ∧ b = .int .i64 v ∧ -9223372036854775808 < u ∧ u < 9223372036854775808 ∧ -9223372036854775808 < v ∧ v < 9223372036854775808 ∧ v.natAbs ≤ g ∧ Hid (Nat.gcd u.natAbs v.natAbs = G) ∧ Below w.heap.size w wr ∧ Hid (Bi wr (w.heap.size + 2) 0 ⟨#[]⟩))
  case atStart => exact ⟨x, y, rfl, rfl, hx1, hx2, hy1, hy2, Nat.le_refl _, hG, below_drewN (by go_grown) _, Bi.made ((w.alloc (cInt x ⟨#[]⟩)).alloc (cInt y ⟨#[]⟩)) (w.heap.size + 2) (by simp) 0 ⟨#[]⟩⟩
  case round =>
    obtain ⟨u, v, rfl, rfl, hu1, hu2, hv1, hv2, hg, HG, hb, HB⟩ := hrel
    clear hx1 hx2 hy1 hy2 hG
    have hbs := hb.size
    have r0 := HB.out.c0
    have r1 := HB.out.c1
    have q0 := HB.out.f0
    have q1 := HB.out.f1
    by_cases h0 : v = 0
    · subst h0
      have HA : Hid (u.natAbs = G) := by have := HG.out; rwa [Int.natAbs_zero, Nat.gcd_zero_right] at this
      have HX : Hid (max u (-u) = (G : Int)) := by show _ = _; have := HA.out; omega
      by_cases hu : 0 ≤ u
      all_goals
        go_wp2_with fail
        have hF := HB.out.put (max u (-u)) ⟨#[]⟩
        have g0 := hF.c0
        have g1 := hF.c1
        rw [HX.out] at g0 g1 ⊢
        refine bodyPost_ret (v := .agg #[.int .i64 (G : Int), .string ⟨#[]⟩]) (by simp [results, Tryz.results77, go_sem, g0, g1]) rfl ⟨_, _, rfl, HR, by go_grown⟩
    · have hv0 : (v == 0) = false := beq_eq_false_iff_ne.2 h0
      have hm1 := tmod_bd u v
      have hm2 := tmod_less (x := u) h0
      have HG2 : Hid (Nat.gcd v.natAbs (u.tmod v).natAbs = G) := by show _ = _; rw [gcd_tmod]; exact HG.out
      have hw : IntKind.i64.wrap (u.tmod v) = u.tmod v := IntWalk.i64_in _ (by omega)
      obtain ⟨m, hm⟩ : ∃ m, u.tmod v = m := ⟨_, rfl⟩
      have HM := Lib.hid hm
      rw [hm] at hm1 hm2 HG2 hw
      go_wp2_with fail
      go_quiet (fail)
      go_wp2_with fail
      go_roundg m.natAbs
      case measure => omega
      case rel => exact ⟨v, m, rfl, rfl, hv1, hv2, by omega, by omega, Nat.le_refl _, HG2, below_drewN hb _, HB.out⟩

end Go.Proofs.YthamlnolfagpiaaGreatDoor.D

