/-
  DERIVED. The walks of lorryref12's Check and Right.
-/
import Derived.Test.YtmoilpkgoabopaaDoorRefRu2
namespace Go.Proofs.YtmoilpkgoabopaaDoor.T
open Go.RowKit
set_option maxRecDepth 8000

def apartW : ByteArray := ⟨#[97, 112, 97, 114, 116]⟩
def beforeW : ByteArray := ⟨#[98, 101, 102, 111, 114, 101]⟩
/-- the faults of the pairs of an instance -/
def checkF (n : Int) (ap be : List (Int × Int)) : List (Int × ByteArray) := pairF n ap apartW true ++ pairF n be beforeW false
theorem pairF_len (n : Int) (l : List (Int × Int)) (word : ByteArray) (turned : Bool) : (pairF n l word turned).length ≤ l.length + 1 := pfF_len n l word turned l.length
theorem pf_none {n : Int} {l : List (Int × Int)} {word : ByteArray} {turned : Bool} : ∀ k, pfF n l word turned k = [] → l.length ≤ 16 ∧ ∀ i, i < k → badP n (l.getD i (0, 0)) = false
  | 0, h => by
    unfold pfF at h
    split at h
    · cases h
    · exact ⟨by omega, fun i hi => by cases hi⟩
  | k + 1, h => by
    unfold pfF at h
    obtain ⟨h1, h2⟩ := List.append_eq_nil_iff.1 h
    obtain ⟨h3, h4⟩ := pf_none k h1
    refine ⟨h3, fun i hi => ?_⟩
    by_cases e : i = k
    · subst e
      have h5 : pairE n turned l i = [] := List.map_eq_nil_iff.1 h2
      cases hb : badP n (l.getD i (0, 0))
      · rfl
      · unfold pairE at h5
        rw [hb] at h5
        simp at h5
    · exact h4 i (by omega)
theorem bad_rt {n : Int} {p : Int × Int} (h : badP n p = false) : 0 ≤ p.1 ∧ p.1 < n ∧ 0 ≤ p.2 ∧ p.2 < n ∧ p.1 ≠ p.2 := by
  unfold badP at h
  simp only [Bool.or_eq_false_iff, decide_eq_false_iff_not, beq_eq_false_iff_ne] at h
  obtain ⟨⟨⟨⟨h1, h2⟩, h3⟩, h4⟩, h5⟩ := h
  exact ⟨by omega, by omega, by omega, by omega, h5⟩
theorem pair_right {n : Nat} {l : List (Int × Int)} {word : ByteArray} {turned : Bool} (h : pairF n l word turned = []) : l.length ≤ 16 ∧ U.Rt n l := by
  obtain ⟨h1, h2⟩ := pf_none _ h
  refine ⟨h1, fun p hp => ?_⟩
  obtain ⟨i, hi, rfl⟩ := List.getElem_of_mem hp
  have := h2 i hi
  rw [List.getD_eq_getElem?_getD, List.getElem?_eq_getElem hi] at this
  exact bad_rt this
theorem check_right {n : Nat} {ap be : List (Int × Int)} (h : checkF n ap be = []) : ap.length ≤ 16 ∧ be.length ≤ 16 ∧ U.Rt n ap ∧ U.Rt n be := by
  obtain ⟨h1, h2⟩ := List.append_eq_nil_iff.1 h
  exact ⟨(pair_right h1).1, (pair_right h2).1, (pair_right h1).2, (pair_right h2).2⟩

set_option maxHeartbeats 3200000 in
theorem check12_n (n : Int) (v u : Value) (ap be : List (Int × Int)) (ha : ap.length ≤ 2000000) (hb : be.length ≤ 2000000) (w : World) (hv : Ps w v ap) (hu : Ps w u be) :
    Calls Tryd.prog 11 #[.int .i64 n, v, u] w (ChkP (checkF n ap be) w) := by
  have K1 := Lib.hid (fun w hv => faults12_n n v ap apartW true ha (by decide) w hv)
  have K2 := Lib.hid (fun w hv => faults12_n n u be beforeW false hb (by decide) w hv)
  have HV := Lib.hid hv
  have HU := Lib.hid hu
  have h1 := pairF_len n ap apartW true
  have h2 := pairF_len n be beforeW false
  have HR : Hid (pairF n ap apartW true ++ pairF n be beforeW false = checkF n ap be) := rfl
  generalize checkF n ap be = r at *
  generalize pairF n ap apartW true = r1 at *
  generalize pairF n be beforeW false = r2 at *
  unfold apartW at K1
  unfold beforeW at K2
  clear hv hu
  go_enter Tryd.func11, Tryd.ntmps11
  go_wp2_with fail
  refine (K1.out _ HV.out).mono ?_
  intro e w1 h
  obtain ⟨v1, rfl, -, hg1, b1⟩ := Lf.of_chk h
  have HG1 := Lib.hid hg1
  have B1 := Lib.hid b1
  have HU1 := Lib.hid (HU.out.below b1)
  clear hg1 b1 h HU K1
  go_wp2_with fail
  refine (K2.out _ HU1.out).mono ?_
  intro e w2 h
  obtain ⟨v2, rfl, hl2, -, b2⟩ := Lf.of_chk h
  have HG2 := Lib.hid (HG1.out.frame b2)
  have HL2 := Lib.hid hl2
  have B2 := Lib.hid (over B1.out b2)
  have hsz := B2.out.size
  clear hl2 b2 h HG1 B1 HU1 K2
  go_wp2_with (at_builtin; refine wpList_append_run rfl _ _ 24 rfl rfl rfl (ap_f _ HG2.out HL2.out hsz (by omega)) ?_)
  intro v3 w3 hg3 hb3 _ _
  have HG3 := Lib.hid hg3
  have B3 := Lib.hid (B2.out.trans hb3)
  clear hg3 hb3
  go_wp2_with fail
  go_ret
  exact chkP (HR.out ▸ HG3.out) B3.out (Nat.le_refl _)

/-- block q holds an instance -/
def Ib (w : World) (q : Nat) (x0 x1 x2 x3 x4 x5 : Value) : Prop := w.heap[q]? = some (.cells #[x0, x1, x2, x3, x4, x5] 37)
section
variable {w w' : World} {q : Nat} {x0 x1 x2 x3 x4 x5 : Value}
theorem Ib.c0 (h : Ib w q x0 x1 x2 x3 x4 x5) : w.cell? ⟨q, 0, none⟩ = some x0 := by unfold Ib at h; simp [World.cell?, h]
theorem Ib.c1 (h : Ib w q x0 x1 x2 x3 x4 x5) : w.cell? ⟨q, 1, none⟩ = some x1 := by unfold Ib at h; simp [World.cell?, h]
theorem Ib.c2 (h : Ib w q x0 x1 x2 x3 x4 x5) : w.cell? ⟨q, 2, none⟩ = some x2 := by unfold Ib at h; simp [World.cell?, h]
theorem Ib.c3 (h : Ib w q x0 x1 x2 x3 x4 x5) : w.cell? ⟨q, 3, none⟩ = some x3 := by unfold Ib at h; simp [World.cell?, h]
theorem Ib.c4 (h : Ib w q x0 x1 x2 x3 x4 x5) : w.cell? ⟨q, 4, none⟩ = some x4 := by unfold Ib at h; simp [World.cell?, h]
theorem Ib.c5 (h : Ib w q x0 x1 x2 x3 x4 x5) : w.cell? ⟨q, 5, none⟩ = some x5 := by unfold Ib at h; simp [World.cell?, h]
theorem Ib.lt (h : Ib w q x0 x1 x2 x3 x4 x5) : q < w.heap.size := by
  apply Decidable.byContradiction
  intro hc
  unfold Ib at h
  rw [Array.getElem?_eq_none (by omega)] at h; cases h
theorem Ib.below (h : Ib w q x0 x1 x2 x3 x4 x5) (hb : Below w.heap.size w w') : Ib w' q x0 x1 x2 x3 x4 x5 := (hb.block q h.lt).trans h
theorem Ib.made (w : World) (x0 x1 x2 x3 x4 x5 : Value) : Ib (w.alloc (.cells #[x0, x1, x2, x3, x4, x5] 37)) w.heap.size x0 x1 x2 x3 x4 x5 := by
  show (w.heap.push _)[w.heap.size]? = _
  simp
end
/-- an instance by value -/
def inV (x0 x1 x2 x3 x4 x5 : Value) : Value := .agg #[x0, x1, x2, x3, x4, x5]
def rightI (n : Nat) (ap be : List (Int × Int)) : Bool := decide (n ≤ 10) && (checkF n ap be).isEmpty
set_option maxHeartbeats 3200000 in
theorem right12_n (o0 o1 o2 o3 o4 o5 : Option Addr) (n0 n1 n2 n3 c0 c1 c2 c3 c4 c5 : Nat) (ap be : List (Int × Int)) (ha : ap.length ≤ 2000000) (hb : be.length ≤ 2000000) (w : World) (hv : Ps w (.slice o4 ap.length c4) ap) (hu : Ps w (.slice o5 be.length c5) be) :
    Calls Tryd.prog 12 #[inV (.slice o0 n0 c0) (.slice o1 n1 c1) (.slice o2 n2 c2) (.slice o3 n3 c3) (.slice o4 ap.length c4) (.slice o5 be.length c5)] w fun e w' => e = .returned (.bool (rightI n3 ap be)) ∧ Below w.heap.size w w' := by
  have BI := below_alloc w (.cells #[.slice o0 n0 c0, .slice o1 n1 c1, .slice o2 n2 c2, .slice o3 n3 c3, .slice o4 ap.length c4, .slice o5 be.length c5] 37)
  have I0 := Ib.made w (.slice o0 n0 c0) (.slice o1 n1 c1) (.slice o2 n2 c2) (.slice o3 n3 c3) (.slice o4 ap.length c4) (.slice o5 be.length c5)
  have K := Lib.hid (fun w hv hu => check12_n n3 (.slice o4 ap.length c4) (.slice o5 be.length c5) ap be ha hb w hv hu)
  have HV := Lib.hid (hv.below BI)
  have HU := Lib.hid (hu.below BI)
  have HB := Lib.hid BI
  have i3 := I0.c3
  have i4 := I0.c4
  have i5 := I0.c5
  unfold inV
  obtain ⟨W0, hW0⟩ : ∃ W0, w.alloc (.cells #[.slice o0 n0 c0, .slice o1 n1 c1, .slice o2 n2 c2, .slice o3 n3 c3, .slice o4 ap.length c4, .slice o5 be.length c5] 37) = W0 := ⟨_, rfl⟩
  rw [hW0] at HV HU HB i3 i4 i5
  have HW0 := Lib.hid hW0
  by_cases h10 : n3 ≤ 10
  · have HR : Hid (((checkF n3 ap be).length == 0) = rightI n3 ap be) := by
      show _ = _
      unfold rightI
      rw [decide_eq_true h10, Bool.true_and]
      cases checkF n3 ap be <;> rfl
    have hI : (n3 : Int) ≤ 10 := by omega
    generalize rightI n3 ap be = r at *
    generalize checkF n3 ap be = f at *
    generalize hap : ap.length = la at *
    generalize hbe : be.length = lb at *
    clear BI I0 hv hu hW0
    go_enter Tryd.func12, Tryd.ntmps12
    go_upto_region 1 with fail
    rw [HW0.out]
    go_wp2_with fail
    refine (K.out _ HV.out HU.out).mono ?_
    rintro e w1 ⟨oa, c, rfl, -, b1⟩
    have B1 := Lib.hid (over HB.out b1)
    clear b1
    go_wp2_with fail
    go_ret
    refine ⟨ret_bool ?_, B1.out⟩
    rw [← HR.out, Bool.eq_iff_iff]
    simp
  · have HR : Hid (false = rightI n3 ap be) := by show _ = _; unfold rightI; rw [decide_eq_false h10]; rfl
    have hI : ¬ (n3 : Int) ≤ 10 := by omega
    generalize rightI n3 ap be = r at *
    clear BI I0 hv hu hW0 K
    go_enter Tryd.func12, Tryd.ntmps12
    go_upto_region 1 with fail
    rw [HW0.out]
    go_wp2_with fail
    go_ret
    exact ⟨ret_bool HR.out, HB.out⟩

end Go.Proofs.YtmoilpkgoabopaaDoor.T

