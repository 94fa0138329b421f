/-
  DERIVED. KIB: a part of the base of layer 13 (made by pack.py).
-/
import Derived.Test.YtaallpebfcadjaaGreatDoorKQA
import Derived.Test.YtaallpebfcadjaaGreatDoorKQE
import Derived.Lib.AppendZeros
import Derived.Lib.Walk
import Derived.Test.YtaallpebfcadjaaGreatDoorKQD
import Derived.Test.YtaallpebfcadjaaGreatDoorKPJ
import Derived.Test.YtaallpebfcadjaaGreatDoorKPQ
/-! The walk of the landed instance's faultsOf: faults with a word before their paths, written in place. -/
namespace Go.Proofs.YtaallpebfcadjaaGreatDoor.T
open Go.RowKit
set_option maxRecDepth 8000

theorem flatF_set : ∀ (l : List (Int × ByteArray)) (k : Nat) (x : Int) (s : ByteArray), k < l.length → (l.getD k (0, ⟨#[]⟩)).1 = x → (flat fE fA l).set (k * 2 + 1) (.string s) = flat fE fA (l.set k (x, s))
  | [], k, x, s, h, _ => by cases h
  | y :: l, 0, x, s, _, hx => by
    rw [List.getD_cons_zero] at hx
    subst hx
    rfl
  | y :: l, k + 1, x, s, h, hx => by
    rw [List.length_cons] at h
    rw [List.getD_cons_succ] at hx
    have := flatF_set l k x s (by omega) hx
    rw [show (k + 1) * 2 + 1 = (k * 2 + 1) + 2 by omega]
    unfold flat at this ⊢
    rw [List.set_cons_succ, List.flatMap_cons, List.flatMap_cons, ← this]
    rfl
theorem Gl.store {B : Nat} {w : World} {g cap : Nat} {l : List (Int × ByteArray)} (h : Gl B w (.slice (some ⟨g, 0, none⟩) l.length cap) l) (k : Nat) (x : Int) (s : ByteArray) (hk : k < l.length) (hx : (l.getD k (0, ⟨#[]⟩)).1 = x) :
    Gl B (w.setCell ⟨g, k * 2 + 1, none⟩ (.string s)) (.slice (some ⟨g, 0, none⟩) (l.set k (x, s)).length cap) (l.set k (x, s)) ∧ w.grownBy (w.setCell ⟨g, k * 2 + 1, none⟩ (.string s)) (some g) := by
  obtain ⟨h1, g1⟩ := World.ownsRow.stored h.own (k * 2 + 1) (.string s)
  refine ⟨?_, g1⟩
  unfold Gl Gf Gn
  rw [List.length_set, ← flatF_set l k x s hk hx]
  exact h1
theorem Gl.at {B : Nat} {w : World} {g cap : Nat} {l : List (Int × ByteArray)} (h : Gl B w (.slice (some ⟨g, 0, none⟩) l.length cap) l) {k : Nat} (hk : k < l.length) :
    w.cell? ⟨g, k * 2, none⟩ = some (.int .i64 (l.getD k (0, ⟨#[]⟩)).1) ∧ w.cell? ⟨g, k * 2 + 1, none⟩ = some (.string (l.getD k (0, ⟨#[]⟩)).2) ∧ w.frozen? ⟨g, k * 2 + 1, none⟩ = false ∧ g < w.heap.size ∧ B ≤ g := by
  obtain ⟨oa, c, hv, hs⟩ : Fs w (.slice (some ⟨g, 0, none⟩) l.length cap) l := Gn.sl h
  simp only [Value.slice.injEq] at hv
  obtain ⟨rfl, -, rfl⟩ := hv
  obtain ⟨b, o, hbo, hl, x0, x1⟩ := hs k hk
  simp only [Option.some.injEq, Addr.mk.injEq, and_true] at hbo
  obtain ⟨rfl, rfl⟩ := hbo
  rw [Nat.zero_add] at x0 x1
  exact ⟨x0, x1, World.ownsRow.frozenAt h.own _, hl, h.blk _ rfl⟩
/-- the first k faults have the word already -/
def halfF (word : ByteArray) (l : List (Int × ByteArray)) (k : Nat) : List (Int × ByteArray) := undF word (l.take k) ++ l.drop k
theorem half_len (word : ByteArray) (l : List (Int × ByteArray)) (k : Nat) : (halfF word l k).length = l.length := by
  unfold halfF undF
  rw [List.length_append, List.length_map, ← List.length_append, List.take_append_drop]
theorem half_zero (word : ByteArray) (l : List (Int × ByteArray)) : halfF word l 0 = l := by
  unfold halfF undF
  rw [List.take_zero, List.drop_zero]
  rfl
theorem half_all (word : ByteArray) (l : List (Int × ByteArray)) : halfF word l l.length = undF word l := by
  unfold halfF
  rw [List.take_length, List.drop_length, List.append_nil]
theorem half_step {word : ByteArray} {l : List (Int × ByteArray)} {k : Nat} (h : k < l.length) :
    (halfF word l k).getD k (0, ⟨#[]⟩) = l.getD k (0, ⟨#[]⟩) ∧ halfF word l (k + 1) = (halfF word l k).set k ((l.getD k (0, ⟨#[]⟩)).1, undS word (l.getD k (0, ⟨#[]⟩)).2) := by
  have hl : (undF word (l.take k)).length = k := by unfold undF; rw [List.length_map, List.length_take]; omega
  have hd := drop_more (d := (0, ⟨#[]⟩)) h
  unfold halfF
  constructor
  · rw [List.getD_eq_getElem?_getD, List.getElem?_append_right (by omega), hl, Nat.sub_self, hd]
    rfl
  · rw [und_step h, hd, List.set_append_right _ _ (by omega), hl, Nat.sub_self, List.set_cons_zero, List.append_assoc]
    rfl
theorem und_empty {word s : ByteArray} (h : s.toList.isEmpty = true) : undS word s = word := by unfold undS; rw [h]; rfl
theorem und_some {word s : ByteArray} (h : s.toList.isEmpty = false) : undS word s = word ++ ((⟨#[32]⟩ : ByteArray) ++ s) := by
  unfold undS
  rw [h]
  show word ++ _ ++ s = _
  rw [ByteArray.append_assoc]
set_option maxHeartbeats 6400000 in
theorem faultsOfI_n (B : Nat) (word : ByteArray) (hw : word.size ≤ 1000000) (v : Value) (l : List (Int × ByteArray)) (hl : l.length ≤ 80000000) (hs : ∀ i, i < l.length → (l.getD i (0, ⟨#[]⟩)).2.size ≤ 1000000) (w : World) (hv : Gl B w v l) :
    Calls Tryz.prog 23 #[.string word, v] w fun e w' => e = .returned v ∧ Gl B w' v (undF word l) ∧ w.grownBy w' v.ownBlock := by
  obtain ⟨oa, c, rfl⟩ := Gn.form hv
  have HV : Hid (Gl B w (.slice oa l.length c) (halfF word l 0)) := by show Gl _ _ _ _; rw [half_zero]; exact hv
  have HS := Lib.hid (fun k (hk : k < l.length) => half_step (word := word) hk)
  have HZ := Lib.hid (fun k (hk : k < l.length) => hs k hk)
  have HL := Lib.hid (half_len word l)
  have HE := Lib.hid (half_all word l)
  generalize undF word l = r at *
  obtain ⟨U, hU⟩ : ∃ U : Nat → List (Int × ByteArray), ∀ k, halfF word l k = U k := ⟨fun k => halfF word l k, fun _ => rfl⟩
  simp only [hU] at HS HL HE HV
  obtain ⟨g, hg0⟩ : ∃ g : Nat → Int × ByteArray, ∀ k, l.getD k (0, ⟨#[]⟩) = g k := ⟨fun k => l.getD k (0, ⟨#[]⟩), fun _ => rfl⟩
  simp only [hg0] at HS HZ
  generalize hn : l.length = n at *
  clear hv hs hU hg0 hn
  go_enter Tryz.func23, Tryz.ntmps23
  go_wp2_with fail
  go_loopg [9] n (fun gg j wr => ∃ k : Nat, k ≤ n ∧ j = .int .i64 k ∧ n - k ≤ gg ∧ Hid (Gl B wr (.slice oa n c) (U k)) ∧ Hid (w.grownBy wr (Value.slice oa n c).ownBlock))
  case atStart => exact ⟨0, Nat.zero_le _, rfl, Nat.le_refl _, HV, World.grownBy.refl _ _⟩
  case round =>
    clear HV
    obtain ⟨k, hkn, rfl, hgg, HG, HB⟩ := hrel
    by_cases hlt : k < n
    · have hkI : (k : Int) < (n : Int) := by omega
      have hUl := HL.out k
      obtain ⟨q, rfl⟩ : ∃ q, oa = some ⟨q, 0, none⟩ := by
        rcases HG.out.2 with ⟨hv, h0⟩ | ⟨q, cap, cur, hv, _⟩
        · omega
        · simp only [Value.slice.injEq] at hv
          exact ⟨q, hv.1⟩
      have HG1 : Gl B wr (.slice (some ⟨q, 0, none⟩) (U k).length c) (U k) := by rw [hUl]; exact HG.out
      obtain ⟨x0, x1, f1, hql, hBq⟩ := HG1.at (k := k) (by omega)
      obtain ⟨hs1, hs2⟩ := HS.out k hlt
      have hz := HZ.out k hlt
      rw [hs1] at x0 x1
      have HSt := Lib.hid hs2
      have HX1 : Hid (((U k).getD k (0, ⟨#[]⟩)).1 = (g k).1) := by show _ = _; rw [hs1]
      clear hs1 hs2
      obtain ⟨s1, s2⟩ := HG1.store k (g k).1 word (by omega) HX1.out
      have HGa : Hid (Gl B (wr.setCell ⟨q, k * 2 + 1, none⟩ (.string word)) (.slice (some ⟨q, 0, none⟩) n c) ((U k).set k ((g k).1, word))) := by
        rw [List.length_set, hUl] at s1
        exact s1
      have HBa : Hid (w.grownBy (wr.setCell ⟨q, k * 2 + 1, none⟩ (.string word)) (some q)) := HB.out.trans s2
      clear s1 s2 HG1 HG HB
      generalize g k = p at *
      obtain ⟨x, s⟩ := p
      simp only at x0 x1 HSt hz HGa HX1
      cases hx : s.toList.isEmpty
      · have HX : Hid (((U k).set k (x, word)).set k (x, word ++ ((⟨#[32]⟩ : ByteArray) ++ s)) = U (k + 1)) := by
          show _ = _
          rw [List.set_set, HSt.out, und_some hx]
        clear HSt
        have hws : ((⟨#[32]⟩ : ByteArray) ++ s).size = 1 + s.size := by rw [ByteArray.size_append]; rfl
        have hwt : (word ++ ((⟨#[32]⟩ : ByteArray) ++ s)).size = word.size + (1 + s.size) := by rw [ByteArray.size_append, hws]
        have HG3 := Lib.hid (HGa.out.frame (below_alloc _ (.cells #[.int .i64 x, .string s] 37)))
        have HB3 := Lib.hid (HBa.out.trans (World.grownBy_alloc _ (.cells #[.int .i64 x, .string s] 37) (some q)))
        have hz3 : ((wr.setCell ⟨q, k * 2 + 1, none⟩ (.string word)).alloc (.cells #[.int .i64 x, .string s] 37)).cell? ⟨wr.heap.size, 1, none⟩ = some (.string s) := by
          have h : ((wr.setCell ⟨q, k * 2 + 1, none⟩ (.string word)).alloc (.cells #[.int .i64 x, .string s] 37)).heap[wr.heap.size]? = some (.cells #[.int .i64 x, .string s] 37) := by
            have h2 : (wr.setCell ⟨q, k * 2 + 1, none⟩ (.string word)).heap.size = wr.heap.size := by simp
            have h4 := Array.getElem?_push_size (xs := (wr.setCell ⟨q, k * 2 + 1, none⟩ (.string word)).heap) (x := (.cells #[.int .i64 x, .string s] 37))
            rw [h2] at h4
            exact h4
          simp only [World.cell?]; rw [h]; rfl
        go_upto_region 6 with fail
        obtain ⟨W3, hW3⟩ : ∃ W3, (wr.setCell ⟨q, k * 2 + 1, none⟩ (.string word)).alloc (.cells #[.int .i64 x, .string s] 37) = W3 := ⟨_, rfl⟩
        rw [hW3] at HG3 HB3 hz3 ⊢
        generalize wr.heap.size = bq at *
        clear hW3 HGa HBa x0 x1 f1
        have HG4 : Gl B W3 (.slice (some ⟨q, 0, none⟩) ((U k).set k (x, word)).length c) ((U k).set k (x, word)) := by rw [List.length_set, hUl]; exact HG3.out
        have hks : k < ((U k).set k (x, word)).length := by rw [List.length_set, hUl]; exact hlt
        have hge : ((U k).set k (x, word)).getD k (0, ⟨#[]⟩) = (x, word) := by
          rw [List.getD_eq_getElem?_getD, List.getElem?_set_self (by omega)]; rfl
        obtain ⟨y0, y1, f1, -, -⟩ := HG4.at hks
        rw [hge] at y0 y1
        obtain ⟨s1, s2⟩ := HG4.store k x (word ++ ((⟨#[32]⟩ : ByteArray) ++ s)) hks (by rw [hge])
        have HG5 : Hid (Gl B (W3.setCell ⟨q, k * 2 + 1, none⟩ (.string (word ++ ((⟨#[32]⟩ : ByteArray) ++ s)))) (.slice (some ⟨q, 0, none⟩) n c) (U (k + 1))) := by
          rw [List.length_set, List.length_set, hUl, HX.out] at s1
          exact s1
        have HB5 : Hid (w.grownBy (W3.setCell ⟨q, k * 2 + 1, none⟩ (.string (word ++ ((⟨#[32]⟩ : ByteArray) ++ s)))) (some q)) := HB3.out.trans s2
        clear s1 s2 HG4 hge hks HG3 HB3 HX
        go_region
        go_wp2_with fail
        go_roundg (n - (k + 1))
        case measure => omega
        case rel => exact ⟨k + 1, by omega, by go_num, by omega, HG5, ⟨HB5.out.os, HB5.out.tape, HB5.out.output, HB5.out.size, HB5.out.block⟩⟩
      · have HX : Hid (U (k + 1) = (U k).set k (x, word)) := by show _ = _; rw [HSt.out, und_empty hx]
        clear HSt
        have HG3 : Hid (Gl B ((wr.setCell ⟨q, k * 2 + 1, none⟩ (.string word)).alloc (.cells #[.int .i64 x, .string s] 37)) (.slice (some ⟨q, 0, none⟩) n c) (U (k + 1))) := by
          show Gl _ _ _ _
          rw [HX.out]
          exact HGa.out.frame (below_alloc _ (.cells #[.int .i64 x, .string s] 37))
        have HB3 := Lib.hid (HBa.out.trans (World.grownBy_alloc _ (.cells #[.int .i64 x, .string s] 37) (some q)))
        go_wp2_with fail
        go_roundg (n - (k + 1))
        case measure => omega
        case rel => exact ⟨k + 1, by omega, by go_num, by omega, HG3, HB3⟩
    · have hk' : k = n := by omega
      subst hk'
      have HR := Lib.hid HE.out
      go_wp2_with fail
      go_ret
      exact ⟨rfl, HR.out ▸ HG.out, HB.out⟩

end Go.Proofs.YtaallpebfcadjaaGreatDoor.T


/-! The walks of slices.Grow and slices.Concat of faults. -/
namespace Go.Proofs.YtaallpebfcadjaaGreatDoor.T
open Go.RowKit
set_option maxRecDepth 8000

set_option maxHeartbeats 3200000 in
theorem growF_n (n : Nat) (hn : n ≤ 90000000) (w : World) :
    Calls Tryz.prog 57 #[.slice none 0 0, .int .i64 n] w fun e w' => ∃ v', e = .returned v' ∧ Gl w.heap.size w' v' [] ∧ Below w.heap.size w w' := by
  by_cases h0 : n = 0
  · subst h0
    go_enter Tryz.func57, Tryz.ntmps57
    go_wp2_with fail
    go_ret
    exact ⟨_, rfl, Gl.nil _ _, Below.refl _ _⟩
  · have hpos : 0 < n := by omega
    obtain ⟨i0, hi, hz0, hz1, hz2⟩ := infoF
    have hrz := fun ty => Lib.run_append_nil_zeros (P := Tryz.prog) w 33 3 ty 37 i0 _ .i64 .i64 Tryz.underlying33 Tryz.underlying3 hi hz0 n hpos (by omega) (by omega) (by rw [hz2]; omega)
    have hcapge := grownCap_ge w n 0 37
    have hcaple := grownCap_le_maxLen w n 0 37 (by unfold maxLen; omega)
    obtain ⟨C, hC⟩ : ∃ C, C = grownCap w n 0 37 := ⟨_, rfl⟩
    rw [← hC] at hrz hcapge hcaple
    obtain ⟨Z, hZ⟩ : ∃ Z, Z = Builtin.zeroCells (Value.agg #[.int .i64 0, .string ⟨#[]⟩]).cells n ++ Builtin.zeroCells (Value.agg #[.int .i64 0, .string ⟨#[]⟩]).cells (C - n) := ⟨_, rfl⟩
    rw [← hZ] at hrz
    have hZs : Z.size = C * 2 := by rw [hZ, Array.size_append, size_zeroCells, size_zeroCells]; simp [Value.cells]; omega
    have hrow := World.ownsRow_made (base := w.heap.size) (e := 37) (size := 2) w.drew Z C (Nat.le_refl _) hcaple hZs
    have hB := Lib.hid (below_alloc w.drew (.cells Z 37))
    have HR := Lib.hid hrow
    clear hC hZ hrow hZs
    have hI : (0 : Int) < (n : Int) := by omega
    go_enter Tryz.func57, Tryz.ntmps57
    go_wp2_with (at_builtin; refine Lib.wpList_append_run _ rfl _ _ _ _ rfl _ _ rfl rfl _ _ (hrz _) ?_)
    all_goals
      go_ret
      exact ⟨_, rfl, HR.out, below_drew (below_alloc w (.cells Z 37))⟩

theorem Lf.of_own {B : Nat} {w : World} {v : Value} {l : List (Int × ByteArray)} (h : Gl B w v l) : Lf w v l := by
  have hs : Fs w v l := Gn.sl h
  rcases h.2 with ⟨hv, h0⟩ | ⟨g, cap, cur, hv, _⟩
  · subst hv
    have hn : l = [] := List.eq_nil_of_length_eq_zero h0
    subst hn
    exact ⟨none, 0, rfl, hs, fun _ => rfl⟩
  · subst hv
    exact ⟨_, _, rfl, hs, fun h => by cases h⟩
theorem Lf.below {w w' : World} {v : Value} {l : List (Int × ByteArray)} (h : Lf w v l) (hb : Below w.heap.size w w') : Lf w' v l := by
  obtain ⟨oa, c, rfl, hs, hc⟩ := h
  exact ⟨oa, c, rfl, Sl.below hs hb, hc⟩
/-- the first k lists, one behind the other -/
def ccF (F : Nat → List (Int × ByteArray)) : Nat → List (Int × ByteArray)
  | 0 => []
  | k + 1 => ccF F k ++ F k
theorem cc_mono (F : Nat → List (Int × ByteArray)) {k m : Nat} (h : k ≤ m) : (ccF F k).length ≤ (ccF F m).length := by
  induction m with
  | zero => obtain rfl : k = 0 := by omega
            exact Nat.le_refl _
  | succ m ih =>
    by_cases e : k = m + 1
    · subst e; exact Nat.le_refl _
    · have := ih (by omega)
      show _ ≤ (ccF F m ++ F m).length
      rw [List.length_append]
      omega
set_option maxHeartbeats 6400000 in
theorem concatF_n (b m c : Nat) (V : Nat → Value) (F : Nat → List (Int × ByteArray)) (hm : m ≤ 1000) (hT : (ccF F m).length ≤ 80000000) (w : World) (hb : b < w.heap.size)
    (hC : ∀ i, i < m → w.cell? ⟨b, i, none⟩ = some (V i)) (hF : ∀ i, i < m → Lf w (V i) (F i)) :
    Calls Tryz.prog 22 #[.slice (some ⟨b, 0, none⟩) m c] w (ChkP (ccF F m) w) := by
  have HC := Lib.hid hC
  have HF := Lib.hid hF
  have HM := Lib.hid (fun k (hk : k ≤ m) => cc_mono F hk)
  have HS : Hid (∀ k, ccF F (k + 1) = ccF F k ++ F k) := fun _ => rfl
  have HL : Hid (∀ k, (ccF F (k + 1)).length = (ccF F k).length + (F k).length) := fun k => by show (ccF F k ++ F k).length = _; rw [List.length_append]
  have H0 : Hid (ccF F 0 = []) := rfl
  have HT := Lib.hid hT
  have KG := Lib.hid (fun n hn w => growF_n n hn w)
  clear hC hF hT
  go_enter Tryz.func22, Tryz.ntmps22
  go_wp2_with fail
  go_loopg [3, 11] m (fun gg s j wr => ∃ k : Nat, k ≤ m ∧ j = .int .i64 k ∧ m - k ≤ gg ∧ s = .int .i64 ((ccF F k).length : Nat) ∧ w = wr)
  case atStart => exact ⟨0, Nat.zero_le _, rfl, Nat.le_refl _, rfl, rfl⟩
  case round =>
    obtain ⟨k, hkm, rfl, hgg, rfl, rfl⟩ := hrel
    by_cases hlt : k < m
    · have hkI : (k : Int) < (m : Int) := by omega
      have c0 := HC.out k hlt
      have hFk := HF.out k hlt
      have h1 := HM.out (k + 1) (by omega)
      have h2 := HL.out k
      have h2' := h2
      have h3 := HT.out
      obtain ⟨oa, ca, hv, -, -⟩ := hFk
      rw [hv] at c0
      clear hv
      have h2 : Hid ((ccF F (k + 1)).length = (ccF F k).length + (F k).length) := h2
      have hz1 : (((ccF F k).length : Nat) : Int) + (((F k).length : Nat) : Int) ≤ 80000000 := by omega
      clear h1 h2' h3
      go_wp2_with fail
      go_roundg (m - (k + 1))
      case measure => omega
      case rel => exact ⟨k + 1, by omega, by go_num, by omega, by rw [h2.out, Int.natCast_add], rfl⟩
    · have hk' : k = m := by omega
      subst hk'
      have hkI : ¬ (k : Int) < (k : Int) := by omega
      have h3 := HT.out
      go_wp2_with fail
      refine (KG.out _ (by omega) _).mono ?_
      rintro e w1 ⟨v1, rfl, hg1, hb1⟩
      have HG1 : Hid (Gl w.heap.size w1 v1 (ccF F 0)) := hg1
      have HB1 := Lib.hid hb1
      clear hg1 hb1 h3
      go_wp2_with fail
      go_loopg [6, 27] k (fun gg v j wr => ∃ i : Nat, i ≤ k ∧ j = .int .i64 i ∧ k - i ≤ gg ∧ Hid (Gl w.heap.size wr v (ccF F i)) ∧ Hid (Below w.heap.size w wr))
      case atStart => exact ⟨0, Nat.zero_le _, rfl, Nat.le_refl _, HG1, HB1⟩
      case round =>
        clear HG1 HB1
        obtain ⟨i, hik, rfl, hgi, HG, HB⟩ := hrel
        by_cases hlt : i < k
        · have hiI : (i : Int) < (k : Int) := by omega
          have c0 := HC.out i hlt
          have hFi := HF.out i hlt
          have c1 := (HB.out.cell (p := ⟨b, i, none⟩) hb).trans c0
          have HU := Lib.hid (hFi.below HB.out)
          obtain ⟨oa, ca, hv, -, -⟩ := hFi
          rw [hv] at c1 HU
          have h1 := HM.out (i + 1) (by omega)
          have h2 := HL.out i
          have h3 := HT.out
          have hl2 : (ccF F i).length + (F i).length ≤ 100000000 := by omega
          have HSi := Lib.hid (HS.out i)
          have hsz := HB.out.size
          clear c0 h1 h2 h3 hv
          go_wp2_with (at_builtin; refine wpList_append_run rfl _ _ 33 rfl rfl rfl (ap_f _ HG.out HU.out hsz hl2) ?_)
          intro v3 w3 hg3 hb3 _ _
          have HG3 : Hid (Gl w.heap.size w3 v3 (ccF F (i + 1))) := by show Gl _ _ _ _; rw [HSi.out]; exact hg3
          have HB3 := Lib.hid (HB.out.trans hb3)
          clear hg3 hb3
          go_wp2_with fail
          go_roundg (k - (i + 1))
          case measure => omega
          case rel => exact ⟨i + 1, by omega, by go_num, by omega, HG3, HB3⟩
        · have hkk : i = k := by omega
          have hiI : ¬ (i : Int) < (k : Int) := by omega
          go_wp2_with fail
          go_ret
          exact chkP (hkk ▸ HG.out) HB.out (Nat.le_refl _)

end Go.Proofs.YtaallpebfcadjaaGreatDoor.T


/-! An instance by value; the walk of the landed instance's Check. -/
namespace Go.Proofs.YtaallpebfcadjaaGreatDoor.T
open Go.RowKit
set_option maxRecDepth 8000

/-- an instance that is not great, and what is in it fits -/
structure InW (x : InT) : Prop where
  b : InB x
  pn : ∀ i, i < x.pl.length → (x.pl.getD i ⟨#[]⟩).size ≤ maxLen
  tn : ∀ i, i < x.tl.length → (x.tl.getD i ty0).name.size ≤ maxLen
  on : ∀ i, i < x.ol.length → (x.ol.getD i or0).name.size ≤ maxLen
  wf : Wfa x.al
  ia : ∀ p ∈ x.ap, In64 p
  ib : ∀ p ∈ x.be, In64 p
/-- where an instance's lists lie -/
structure Iv where
  o0 : Option Addr
  c0 : Nat
  o1 : Option Addr
  c1 : Nat
  o2 : Option Addr
  c2 : Nat
  o3 : Option Addr
  c3 : Nat
  o4 : Option Addr
  c4 : Nat
  o5 : Option Addr
  c5 : Nat
def Iv.v (k : Iv) (x : InT) : Value := inV (.slice k.o0 x.pl.length k.c0) (.slice k.o1 x.al.length k.c1) (.slice k.o2 x.tl.length k.c2) (.slice k.o3 x.ol.length k.c3) (.slice k.o4 x.ap.length k.c4) (.slice k.o5 x.be.length k.c5)
/-- the lists hold the instance -/
structure Ins (w : World) (k : Iv) (x : InT) : Prop where
  h0 : Ss w (.slice k.o0 x.pl.length k.c0) x.pl
  h1 : As w (.slice k.o1 x.al.length k.c1) x.al
  h2 : Ts w (.slice k.o2 x.tl.length k.c2) x.tl
  h3 : Os w (.slice k.o3 x.ol.length k.c3) x.ol
  h4 : Ps w (.slice k.o4 x.ap.length k.c4) x.ap
  h5 : Ps w (.slice k.o5 x.be.length k.c5) x.be
theorem Ins.below {w w' : World} {k : Iv} {x : InT} (h : Ins w k x) (hb : Below w.heap.size w w') : Ins w' k x :=
  ⟨h.h0.below hb, h.h1.below hb, h.h2.below hb, h.h3.below hb, psI_below h.h4 hb, psI_below h.h5 hb⟩

def V4 (v0 v1 v2 v3 : Value) : Nat → Value
  | 0 => v0
  | 1 => v1
  | 2 => v2
  | _ => v3
def F4 (f0 f1 f2 f3 : List (Int × ByteArray)) : Nat → List (Int × ByteArray)
  | 0 => f0
  | 1 => f1
  | 2 => f2
  | _ => f3
theorem four_cells (w : World) (v0 v1 v2 v3 : Value) (t : TypeId) : ∀ i, i < 4 → (w.alloc (.cells #[v0, v1, v2, v3] t)).cell? ⟨w.heap.size, i, none⟩ = some (V4 v0 v1 v2 v3 i) := by
  have h : (w.alloc (.cells #[v0, v1, v2, v3] t)).heap[w.heap.size]? = some (.cells #[v0, v1, v2, v3] t) := by
    show (w.heap.push _)[w.heap.size]? = _
    simp
  intro i hi
  match i, hi with
  | 0, _ => simp only [World.cell?]; rw [h]; rfl
  | 1, _ => simp only [World.cell?]; rw [h]; rfl
  | 2, _ => simp only [World.cell?]; rw [h]; rfl
  | 3, _ => simp only [World.cell?]; rw [h]; rfl
theorem four_lists {w : World} {v0 v1 v2 v3 : Value} {f0 f1 f2 f3 : List (Int × ByteArray)} (h0 : Lf w v0 f0) (h1 : Lf w v1 f1) (h2 : Lf w v2 f2) (h3 : Lf w v3 f3) : ∀ i, i < 4 → Lf w (V4 v0 v1 v2 v3 i) (F4 f0 f1 f2 f3 i) := by
  intro i hi
  match i, hi with
  | 0, _ => exact h0
  | 1, _ => exact h1
  | 2, _ => exact h2
  | 3, _ => exact h3
theorem cc4 (f0 f1 f2 f3 : List (Int × ByteArray)) : ccF (F4 f0 f1 f2 f3) 4 = f0 ++ f1 ++ f2 ++ f3 := by
  show ((([] ++ f0) ++ f1) ++ f2) ++ f3 = _
  rw [List.nil_append]
theorem Ib.all {w : World} {q : Nat} {x0 x1 x2 x3 x4 x5 : Value} (h : Ib w q x0 x1 x2 x3 x4 x5) : w.cell? ⟨q, 0, none⟩ = some x0 ∧ w.cell? ⟨q, 1, none⟩ = some x1 ∧ w.cell? ⟨q, 2, none⟩ = some x2 ∧ w.cell? ⟨q, 3, none⟩ = some x3 ∧ w.cell? ⟨q, 4, none⟩ = some x4 ∧ w.cell? ⟨q, 5, none⟩ = some x5 := ⟨h.c0, h.c1, h.c2, h.c3, h.c4, h.c5⟩
theorem concat4 (w : World) {v0 v1 v2 v3 : Value} {f0 f1 f2 f3 : List (Int × ByteArray)} (hT : (ccF (F4 f0 f1 f2 f3) 4).length ≤ 80000000) (h0 : Lf w v0 f0) (h1 : Lf w v1 f1) (h2 : Lf w v2 f2) (h3 : Lf w v3 f3) :
    Calls Tryz.prog 22 #[.slice (some ⟨w.heap.size, 0, none⟩) 4 4] (w.alloc (.cells #[v0, v1, v2, v3] 33)) (ChkP (ccF (F4 f0 f1 f2 f3) 4) (w.alloc (.cells #[v0, v1, v2, v3] 33))) :=
  concatF_n w.heap.size 4 4 (V4 v0 v1 v2 v3) (F4 f0 f1 f2 f3) (by decide) hT _ (by show _ < (w.heap.push _).size; simp) (four_cells w v0 v1 v2 v3 _)
    (four_lists (Lf.below h0 (below_alloc _ _)) (Lf.below h1 (below_alloc _ _)) (Lf.below h2 (below_alloc _ _)) (Lf.below h3 (below_alloc _ _)))
/-- faultsOf over faults that were made since block B -/
theorem faultsOf_b (word : ByteArray) (hw : word.size ≤ 1000000) (l : List (Int × ByteArray)) (hl : l.length ≤ 80000000) (hs : ∀ i, i < l.length → (l.getD i (0, ⟨#[]⟩)).2.size ≤ 1000000) (B : Nat) (w : World) (v : Value) (hv : Gl B w v l) (hB : B ≤ w.heap.size) :
    Calls Tryz.prog 23 #[.string word, v] w fun e w' => e = .returned v ∧ Gl B w' v (undF word l) ∧ Below B w w' :=
  (faultsOfI_n B word hw v l hl hs w hv).mono fun _ _ ⟨h1, h2, h3⟩ => ⟨h1, h2, (Below.refl B w).grown h3 hB hv.blk⟩

set_option maxHeartbeats 12800000 in
theorem instCheck_n (k : Iv) (x : InT) (hx : InW x) (w : World) (hT : Tab w) (h : Ins w k x) :
    Calls Tryz.prog 10 #[k.v x] w (ChkP (inF x) w) := by
  obtain ⟨o0, c0, o1, c1, o2, c2, o3, c3, o4, c4, o5, c5⟩ := k
  obtain ⟨h0, h1, h2, h3, h4, h5⟩ := h
  simp only at h0 h1 h2 h3 h4 h5
  have hp1 := hx.b.pl
  have hp2 := hx.b.al
  have hp3 := hx.b.tl
  have hp4 := hx.b.ol
  have hp5 := hx.b.ap
  have hp6 := hx.b.be
  have BI := below_alloc w (.cells #[.slice o0 x.pl.length c0, .slice o1 x.al.length c1, .slice o2 x.tl.length c2, .slice o3 x.ol.length c3, .slice o4 x.ap.length c4, .slice o5 x.be.length c5] 30)
  have I0 := Ib.made w (.slice o0 x.pl.length c0) (.slice o1 x.al.length c1) (.slice o2 x.tl.length c2) (.slice o3 x.ol.length c3) (.slice o4 x.ap.length c4) (.slice o5 x.be.length c5)
  have K1 := Lib.hid (fun w hp ha hT => netCheck_n (.slice o0 x.pl.length c0) (.slice o1 x.al.length c1) x.pl x.al (by omega) hx.pn (by omega) hx.b.wt hx.wf w hp ha hT)
  have K2 := Lib.hid (fun w hv hT => flCheck_n o0 x.pl.length c0 o1 x.al.length c1 (.slice o2 x.tl.length c2) x.tl (by omega) (by omega) (fun i hi => ⟨hx.b.cap i hi, hx.tn i hi⟩) w hv hT)
  have K3 := Lib.hid (fun w hv => dims_n (.slice o2 x.tl.length c2) x.tl (by omega) w hv)
  have K4 := Lib.hid (fun w hT hv => ordCheck_n x.pl.length x.al.length c0 c1 o0 o1 (dimsF x.tl : Nat) (x.tl.length : Nat) (.slice o3 x.ol.length c3) x.ol (by omega) (fun i hi => ⟨hx.b.load i hi, hx.on i hi⟩) w hT hv)
  have K5 := Lib.hid (fun w hT hv hu => rulesCheck_t (x.ol.length : Nat) (.slice o4 x.ap.length c4) (.slice o5 x.be.length c5) x.ap x.be (by omega) (by omega) hx.ia hx.ib w hT hv hu)
  obtain ⟨⟨n1, s1⟩, ⟨n2, s2⟩, ⟨n3, s3⟩, ⟨n4, s4⟩⟩ := in_parts hx.b
  have U1 := Lib.hid (fun B w v hv hB => faultsOf_b kNet (by decide) (netF x.pl x.al) (by omega) s1.at B w v hv hB)
  have U2 := Lib.hid (fun B w v hv hB => faultsOf_b kTypes (by decide) (fleetF x.pl.length x.tl) (by omega) s2.at B w v hv hB)
  have U3 := Lib.hid (fun B w v hv hB => faultsOf_b kOrders (by decide) (orderF x.pl.length (dimsF x.tl : Nat) (x.tl.length : Nat) x.ol) (by omega) s3.at B w v hv hB)
  have U4 := Lib.hid (fun B w v hv hB => faultsOf_b kRules (by decide) (checkF (x.ol.length : Nat) x.ap x.be) (by omega) s4.at B w v hv hB)
  have HE : Hid (ccF (F4 (undF kNet (netF x.pl x.al)) (undF kTypes (fleetF x.pl.length x.tl)) (undF kOrders (orderF x.pl.length (dimsF x.tl : Nat) (x.tl.length : Nat) x.ol)) (undF kRules (checkF (x.ol.length : Nat) x.ap x.be))) 4 = inF x) := cc4 _ _ _ _
  rw [← und_len kNet] at n1
  rw [← und_len kTypes] at n2
  rw [← und_len kOrders] at n3
  rw [← und_len kRules] at n4
  have hTt := Lib.hid hT
  have HIn : Hid (Ins (w.alloc (.cells #[.slice o0 x.pl.length c0, .slice o1 x.al.length c1, .slice o2 x.tl.length c2, .slice o3 x.ol.length c3, .slice o4 x.ap.length c4, .slice o5 x.be.length c5] 30)) ⟨o0, c0, o1, c1, o2, c2, o3, c3, o4, c4, o5, c5⟩ x) := Ins.below ⟨h0, h1, h2, h3, h4, h5⟩ BI
  have HB := Lib.hid BI
  have HT0 := Lib.hid (hT.over BI)
  obtain ⟨W0, hW0⟩ : ∃ W0, w.alloc (.cells #[.slice o0 x.pl.length c0, .slice o1 x.al.length c1, .slice o2 x.tl.length c2, .slice o3 x.ol.length c3, .slice o4 x.ap.length c4, .slice o5 x.be.length c5] 30) = W0 := ⟨_, rfl⟩
  rw [hW0] at HIn HB I0 HT0
  have HI := Lib.hid I0
  have HW0 := Lib.hid hW0
  have H0 := Lib.hid HIn.out.h0
  have H1 := Lib.hid HIn.out.h1
  have H2 := Lib.hid HIn.out.h2
  have H3 := Lib.hid HIn.out.h3
  have H4 := Lib.hid HIn.out.h4
  have H5 := Lib.hid HIn.out.h5
  clear BI I0 h0 h1 h2 h3 h4 h5 hW0 s1 s2 s3 s4 HIn hTt hT hx
  generalize inF x = r at *
  generalize undF kNet (netF x.pl x.al) = f1 at *
  generalize undF kTypes (fleetF x.pl.length x.tl) = f2 at *
  generalize undF kOrders (orderF x.pl.length (dimsF x.tl : Nat) (x.tl.length : Nat) x.ol) = f3 at *
  generalize undF kRules (checkF (x.ol.length : Nat) x.ap x.be) = f4 at *
  generalize netF x.pl x.al = g1 at *
  generalize fleetF x.pl.length x.tl = g2 at *
  generalize orderF x.pl.length (dimsF x.tl : Nat) (x.tl.length : Nat) x.ol = g3 at *
  generalize checkF (x.ol.length : Nat) x.ap x.be = g4 at *
  generalize dimsF x.tl = dm at *
  have HT8 : Hid ((ccF (F4 f1 f2 f3 f4) 4).length ≤ 80000000) := by
    show _ ≤ _
    rw [cc4]
    simp only [List.length_append]
    omega
  unfold kNet at U1
  unfold kTypes at U2
  unfold kOrders at U3
  unfold kRules at U4
  unfold Iv.v inV
  simp only
  go_enter Tryz.func10, Tryz.ntmps10
  go_upto_region 1 with fail
  rw [HW0.out]
  have hB0 := HB.out.size
  clear HW0
  have HBz : Hid (Below W0.heap.size W0 W0.drew) := below_drew (Below.refl _ _)
  have i0 := (HI.out.below HBz.out).c0
  have i1 := (HI.out.below HBz.out).c1
  have i2 := (HI.out.below HBz.out).c2
  have i3 := (HI.out.below HBz.out).c3
  have i4 := (HI.out.below HBz.out).c4
  have i5 := (HI.out.below HBz.out).c5
  go_region_held3 (fun w' => w'.cell? ⟨w.heap.size, 0, none⟩ = some (.slice o0 x.pl.length c0) ∧ w'.cell? ⟨w.heap.size, 1, none⟩ = some (.slice o1 x.al.length c1) ∧ w'.cell? ⟨w.heap.size, 2, none⟩ = some (.slice o2 x.tl.length c2) ∧ w'.cell? ⟨w.heap.size, 3, none⟩ = some (.slice o3 x.ol.length c3) ∧ w'.cell? ⟨w.heap.size, 4, none⟩ = some (.slice o4 x.ap.length c4) ∧ w'.cell? ⟨w.heap.size, 5, none⟩ = some (.slice o5 x.be.length c5))
    (first | exact ⟨i0, i1, i2, i3, i4, i5⟩ | exact Ib.all (HI.out.below (over HBz.out (below_alloc _ _))) | exact Ib.all (HI.out.below (over HBz.out (below_drew (below_alloc _ _)))))
    (first
      | (go_at_call 24; have hBz1 := HBz.out.size; (with_reducible refine (K1.out _ (H0.out.below HBz.out) (H1.out.below HBz.out) (HT0.out.over HBz.out)).mono ?_); intro e wy hy; obtain ⟨v1, rfl, hf, hg, hb⟩ := Lf.of_chk hy; obtain ⟨q1, d1, rfl, -, -⟩ := hf; have HG1 := Lib.hid hg; have HP1 := Lib.hid hb; have HBz := Lib.hid (over HBz.out hb); have hP1 := HP1.out.size; have i0 := (HI.out.below HBz.out).c0; have i1 := (HI.out.below HBz.out).c1; have i2 := (HI.out.below HBz.out).c2; have i3 := (HI.out.below HBz.out).c3; have i4 := (HI.out.below HBz.out).c4; have i5 := (HI.out.below HBz.out).c5)
      | (go_at_call 23; (with_reducible refine (U1.out _ _ _ HG1.out hP1).mono ?_); rintro e wy ⟨rfl, hg, hb⟩; have HQ1 := Lib.hid (HP1.out.trans hb); have HR1 := Lib.hid hg; have HBz := Lib.hid (HBz.out.trans (hb.mono hBz1)); have i0 := (HI.out.below HBz.out).c0; have i1 := (HI.out.below HBz.out).c1; have i2 := (HI.out.below HBz.out).c2; have i3 := (HI.out.below HBz.out).c3; have i4 := (HI.out.below HBz.out).c4; have i5 := (HI.out.below HBz.out).c5)
      | (go_at_call 25; have hBz2 := HBz.out.size; (with_reducible refine (K2.out _ (H2.out.below HBz.out) (HT0.out.over HBz.out)).mono ?_); intro e wy hy; obtain ⟨v2, rfl, hf, hg, hb⟩ := Lf.of_chk hy; obtain ⟨q2, d2, rfl, -, -⟩ := hf; have HG2 := Lib.hid hg; have HP2 := Lib.hid hb; have HBz := Lib.hid (over HBz.out hb); have hP2 := HP2.out.size; have i0 := (HI.out.below HBz.out).c0; have i1 := (HI.out.below HBz.out).c1; have i2 := (HI.out.below HBz.out).c2; have i3 := (HI.out.below HBz.out).c3; have i4 := (HI.out.below HBz.out).c4; have i5 := (HI.out.below HBz.out).c5)
      | (go_at_call 23; (with_reducible refine (U2.out _ _ _ HG2.out hP2).mono ?_); rintro e wy ⟨rfl, hg, hb⟩; have HQ2 := Lib.hid (HP2.out.trans hb); have HR1 := Lib.hid (HR1.out.frame HQ2.out); have HR2 := Lib.hid hg; have HBz := Lib.hid (HBz.out.trans (hb.mono hBz2)); have i0 := (HI.out.below HBz.out).c0; have i1 := (HI.out.below HBz.out).c1; have i2 := (HI.out.below HBz.out).c2; have i3 := (HI.out.below HBz.out).c3; have i4 := (HI.out.below HBz.out).c4; have i5 := (HI.out.below HBz.out).c5)
      | (go_at_call 27; (with_reducible refine (K3.out _ (H2.out.below HBz.out)).mono ?_); rintro e wy ⟨rfl, rfl⟩)
      | (go_at_call 26; have hBz3 := HBz.out.size; (with_reducible refine (K4.out _ (HT0.out.over HBz.out) (H3.out.below HBz.out)).mono ?_); intro e wy hy; obtain ⟨v3, rfl, hf, hg, hb⟩ := Lf.of_chk hy; obtain ⟨q3, d3, rfl, -, -⟩ := hf; have HG3 := Lib.hid hg; have HP3 := Lib.hid hb; have HBz := Lib.hid (over HBz.out hb); have hP3 := HP3.out.size; have i0 := (HI.out.below HBz.out).c0; have i1 := (HI.out.below HBz.out).c1; have i2 := (HI.out.below HBz.out).c2; have i3 := (HI.out.below HBz.out).c3; have i4 := (HI.out.below HBz.out).c4; have i5 := (HI.out.below HBz.out).c5)
      | (go_at_call 23; (with_reducible refine (U3.out _ _ _ HG3.out hP3).mono ?_); rintro e wy ⟨rfl, hg, hb⟩; have HQ3 := Lib.hid (HP3.out.trans hb); have HR1 := Lib.hid (HR1.out.frame HQ3.out); have HR2 := Lib.hid (HR2.out.frame HQ3.out); have HR3 := Lib.hid hg; have HBz := Lib.hid (HBz.out.trans (hb.mono hBz3)); have i0 := (HI.out.below HBz.out).c0; have i1 := (HI.out.below HBz.out).c1; have i2 := (HI.out.below HBz.out).c2; have i3 := (HI.out.below HBz.out).c3; have i4 := (HI.out.below HBz.out).c4; have i5 := (HI.out.below HBz.out).c5)
      | (go_at_call 28; have hBz4 := HBz.out.size; (with_reducible refine (K5.out _ (HT0.out.over HBz.out) (psI_below H4.out HBz.out) (psI_below H5.out HBz.out)).mono ?_); intro e wy hy; obtain ⟨v4, rfl, hf, hg, hb⟩ := Lf.of_chk hy; obtain ⟨q4, d4, rfl, -, -⟩ := hf; have HG4 := Lib.hid hg; have HP4 := Lib.hid hb; have HBz := Lib.hid (over HBz.out hb); have hP4 := HP4.out.size; have i0 := (HI.out.below HBz.out).c0; have i1 := (HI.out.below HBz.out).c1; have i2 := (HI.out.below HBz.out).c2; have i3 := (HI.out.below HBz.out).c3; have i4 := (HI.out.below HBz.out).c4; have i5 := (HI.out.below HBz.out).c5)
      | (go_at_call 23; (with_reducible refine (U4.out _ _ _ HG4.out hP4).mono ?_); rintro e wy ⟨rfl, hg, hb⟩; have HQ4 := Lib.hid (HP4.out.trans hb); have HR1 := Lib.hid (HR1.out.frame HQ4.out); have HR2 := Lib.hid (HR2.out.frame HQ4.out); have HR3 := Lib.hid (HR3.out.frame HQ4.out); have HR4 := Lib.hid hg; have HBz := Lib.hid (HBz.out.trans (hb.mono hBz4)); have i0 := (HI.out.below HBz.out).c0; have i1 := (HI.out.below HBz.out).c1; have i2 := (HI.out.below HBz.out).c2; have i3 := (HI.out.below HBz.out).c3; have i4 := (HI.out.below HBz.out).c4; have i5 := (HI.out.below HBz.out).c5)
      | (go_at_call 22; (with_reducible refine (concat4 _ HT8.out (Lf.of_own HR1.out) (Lf.of_own HR2.out) (Lf.of_own HR3.out) (Lf.of_own HR4.out)).mono ?_); intro e wy hy; rw [HE.out] at hy; obtain ⟨v5, rfl, hf, hg, hb⟩ := Lf.of_chk hy; have HR5 := Lib.hid hg; have HB5 := Lib.hid (over (over HBz.out (below_alloc _ _)) hb); have i0 := (HI.out.below HB5.out).c0; have i1 := (HI.out.below HB5.out).c1; have i2 := (HI.out.below HB5.out).c2; have i3 := (HI.out.below HB5.out).c3; have i4 := (HI.out.below HB5.out).c4; have i5 := (HI.out.below HB5.out).c5))
  all_goals
    go_wp2_with fail
    go_ret
    exact chkP HR5.out (over HB.out HB5.out) (Nat.le_trans hB0 (Nat.le_trans HBz.out.size (by show _ ≤ (World.alloc _ _).heap.size; simp)))

end Go.Proofs.YtaallpebfcadjaaGreatDoor.T


