/-
  DERIVED. The walk of lorryref05's Subsets.
-/
import Derived.Test.YtpcdpljkgnpkoaaDoorRefSet3
import Derived.Deep.RegionLaw
import Derived.Deep.AppendLies
import Derived.IntWalk
import Derived.BigRegion
namespace Go.Proofs.YtpcdpljkgnpkoaaDoor.S
open Go.RowKit
set_option maxRecDepth 8000

/-- the numbers l in the slice A, apart from the block go -/
def LZ (w : World) (A : Option Addr) (l : List Nat) (go : Nat) : Prop :=
  ∀ i, i < l.length → ∃ g, A = some ⟨g, 0, none⟩ ∧ g < w.heap.size ∧ g ≠ go ∧ w.cell? ⟨g, i, none⟩ = some (.int .i64 ((l.getD i 0 : Nat) : Int))
theorem LZ.alloc {w : World} {A : Option Addr} {l : List Nat} {go : Nat} (h : LZ w A l go) (o : Obj) : LZ (w.alloc o) A l go := fun i hi => by
  obtain ⟨g, a, b, c, d⟩ := h i hi
  exact ⟨g, a, by simp; omega, c, (World.grownBy_alloc w o none).cell d (by simp)⟩
theorem LZ.grown {w w' : World} {A : Option Addr} {l : List Nat} {g g' : Nat} (h : LZ w A l g) (hg : w.grownBy w' (some g)) (hat : some g = some g' ∨ g' = w.heap.size) : LZ w' A l g' := fun i hi => by
  obtain ⟨b, ha, hl, hne, hc⟩ := h i hi
  refine ⟨b, ha, Nat.lt_of_lt_of_le hl hg.size, ?_, hg.cell hc (by simpa using hne)⟩
  rcases hat with e | e
  · injection e with e; omega
  · omega
/-- the call's own slice in block g -/
def Gw (B : Nat) (w : World) (g n cap : Nat) (l : List Nat) : Prop := w.ownsRow B 3 1 (.slice (some ⟨g, 0, none⟩) n cap) n (l.map iv)
theorem Gw.cell {B : Nat} {w : World} {g n cap : Nat} {l : List Nat} (h : Gw B w g n cap l) (j : Nat) (hj : j < n) (hl : j < l.length) : w.cell? ⟨g, j, none⟩ = some (.int .i64 ((l.getD j 0 : Nat) : Int)) := by
  rw [World.ownsRow.cellAt h j (by omega), List.getElem?_map, List.getD_eq_getElem?_getD, List.getElem?_eq_getElem hl]; rfl
theorem Gw.owb {B : Nat} {w : World} {g n cap : Nat} {l : List Nat} (h : Gw B w g n cap l) (hn : l.length = n) : Owb B w (.slice (some ⟨g, 0, none⟩) n cap) l := by
  subst hn; exact h
def subsR (n : Nat) : List Nat := if 13 < size n then [] else subsL [0] (members n)
def subsE (n : Nat) : Int := if 13 < size n then 4 else 0

theorem take_more {l : List Nat} {k : Nat} (h : k < l.length) : l.take (k + 1) = l.take k ++ [l.getD k 0] := by
  rw [List.take_succ_eq_append_getElem h, List.getD_eq_getElem?_getD, List.getElem?_eq_getElem h]; rfl
theorem sumP_take {l : List Nat} {k : Nat} (h : k < l.length) : sumP (l.take k) + 2 ^ (l.getD k 0) ≤ sumP l := by
  have e := congrArg sumP (List.take_append_drop (k + 1) l)
  rw [sumP_app, take_more h, sumP_app] at e
  simp only [sumP] at e
  omega
theorem getD_front {L M : List Nat} {q : Nat} (h : q < L.length) : (L ++ M).getD q 0 = L.getD q 0 := by
  rw [List.getD_eq_getElem?_getD, List.getD_eq_getElem?_getD, List.getElem?_append_left h]
theorem getD_mem {L : List Nat} {q : Nat} (h : q < L.length) : L.getD q 0 ∈ L := by
  rw [List.getD_eq_getElem?_getD, List.getElem?_eq_getElem h]; exact List.getElem_mem h
theorem row_more {L : List Nat} {q p : Nat} (h : q < L.length) : (L ++ (L.take q).map (· + p)).map iv ++ [.int .i64 (((L.getD q 0 : Nat) : Int) + (p : Int))] = (L ++ (L.take (q + 1)).map (· + p)).map iv := by
  rw [take_more h, List.map_append, List.map_append, List.map_append, List.map_append, List.append_assoc]; rfl

set_option maxHeartbeats 800000 in
theorem refSubsets_n (n : Nat) (hn : n < 2 ^ 63) (w : World) :
    Calls Tryd.prog 23 #[.int .i64 n] w fun e w' => ∃ v, e = .returned (.tuple #[v, .int .i64 (subsE n)]) ∧ Owb w.heap.size w' v (subsR n) ∧ Below w.heap.size w w' := by
  have HSZ := Lib.hid (refSize_n n hn)
  have hls := members_size hn
  have hsl : size n ≤ 63 := cnt_le 63 n
  by_cases h13 : 13 < size n
  · have HR : Hid (subsR n = []) := if_pos h13
    have HE : Hid (subsE n = 4) := if_pos h13
    generalize subsR n = R at *
    generalize subsE n = E at *
    generalize size n = z at *
    clear hls hn
    go_enter Tryd.func23, Tryd.ntmps23
    go_wp2_with fail
    refine (HSZ.out _).mono ?_
    rintro e w' ⟨rfl, rfl⟩
    go_wp2_with fail
    go_ret2
    exact ⟨.slice none 0 0, by rw [HE.out]; rfl, by rw [HR.out]; exact Owb.nil _ _, Below.refl _ _⟩
  have HR : Hid (subsR n = subsL [0] (members n)) := if_neg h13
  have HE : Hid (subsE n = 0) := if_neg h13
  have HM := Lib.hid (refMembers_n n hn)
  have H62 : Hid (∀ i ∈ members n, i ≤ 62) := fun i hi => mem_lt62 hi
  have hsum : sumP (members n) < 9223372036854775808 := by rw [sumP_members hn]; simpa using hn
  have HSUM := Lib.hid hsum
  clear hsum
  generalize subsR n = R at *
  generalize subsE n = E at *
  generalize members n = l at *
  generalize size n = m at *
  have HLM := Lib.hid hls
  obtain ⟨i0, hi, hz0, hz1, hz2⟩ := info3'
  clear hls hn hsl
  have h13 : m ≤ 13 := by omega
  have hlit := World.ownsRow_lit (base := w.heap.size) (size := 1) (e := 3) w #[.int .i64 0] 1 (Nat.le_refl _) (by decide) rfl
  have HLIT : Hid (Gw w.heap.size (w.alloc (.cells #[.int .i64 0] 3)) w.heap.size 1 1 [0]) := hlit
  clear hlit
  go_enter Tryd.func23, Tryd.ntmps23
  go_wp2_with fail
  refine (HSZ.out _).mono ?_
  rintro e w' ⟨rfl, rfl⟩
  go_wp2_with fail
  refine (HM.out _).mono ?_
  rintro e w2 ⟨v, rfl, hv, b2⟩
  obtain ⟨A, c, rfl, hc, hel⟩ := hv.weak.shape
  have hlz : LZ w2 A l w.heap.size := by
    intro i hi
    obtain ⟨g, rfl, h1, h2⟩ := hel i hi
    exact ⟨g, rfl, h1, by have := (World.ownsRow.lt hv g rfl).1; simp at this; omega, h2⟩
  have HLZ := Lib.hid hlz
  have hgw : Gw w.heap.size w2 w.heap.size 1 1 [0] := by
    have h := HLIT.out
    refine ⟨h.1, ?_⟩
    rcases h.2 with ⟨h1, _⟩ | ⟨g, cap, cur, he, hb, hg, r⟩
    · simp at h1
    · refine .inr ⟨g, cap, cur, he, hb, ?_, r⟩
      rw [b2.block g (Array.getElem?_eq_some_iff.1 hg).1]; exact hg
  have HGW := Lib.hid hgw
  have hb2 : Below w.heap.size w w2 := (((Below.refl _ w).alloc (Nat.le_refl _) _).trans (b2.mono (by simp)))
  have HB2 := Lib.hid hb2
  rw [HLM.out] at hc
  rw [HLM.out]
  clear hlz hgw hb2 b2 hel hv HLIT HM HSZ
  go_wp2_with fail
  go_loopw [4, 6] (fun v i wr => ∃ (k n0 g cp : Nat) (L : List Nat), k ≤ m ∧ i = .int .i64 k ∧ v = .slice (some ⟨g, 0, none⟩) n0 cp ∧ n0 ≤ 8192 ∧ Hid (n0 = 2 ^ k) ∧ Hid (L.length = n0) ∧ Hid (subsL [0] (l.take k) = L) ∧ Hid (Gw w.heap.size wr g n0 cp L) ∧ Hid (LZ wr A l g) ∧ Hid (w.heap.size ≤ g) ∧ Hid (Below w.heap.size w wr)) (fun _ i _ => m - (intOf i).toNat)
  case atStart => exact ⟨0, 1, w.heap.size, 1, [0], Nat.zero_le _, rfl, rfl, by omega, rfl, rfl, rfl, HGW, HLZ, Nat.le_refl _, HB2⟩
  case round =>
    clear HGW HLZ HB2
    obtain ⟨k, n0, g, cp, L, hk, rfl, rfl, hn0, HN0, HLL, HL, HG, HZ, hg, HB⟩ := hrel
    by_cases hlt : k < m
    · have hkl : k < l.length := by rw [HLM.out]; exact hlt
      obtain ⟨gl, rfl, hgl, hne, hcl⟩ := HZ.out k hkl
      have hn4 : n0 ≤ 4096 := by rw [HN0.out]; exact Nat.le_trans (Nat.pow_le_pow_right (by omega) (show k ≤ 12 by omega)) (by decide)
      have HN1 : Hid (n0 + n0 = 2 ^ (k + 1)) := by show _ = _; rw [Nat.pow_succ, ← HN0.out]; omega
      have h62 : l.getD k 0 ≤ 62 := H62.out _ (getD_mem hkl)
      obtain ⟨p, hp⟩ : ∃ p, 2 ^ l.getD k 0 = p := ⟨_, rfl⟩
      have HBD : Hid (∀ y ∈ L, y + p < 9223372036854775808) := by
        intro y hy
        have h1 := subsL_le (l.take k) [0] 0 (by simp) y (by rw [HL.out]; exact hy)
        have h2 := sumP_take hkl
        have h3 := HSUM.out
        omega
      have HT : Hid (subsL [0] (l.take (k + 1)) = L ++ L.map (· + p)) := by
        show _ = _
        rw [take_more hkl, subsL_snoc, HL.out, hp]
      obtain ⟨x, hx⟩ : ∃ x, l.getD k 0 = x := ⟨_, rfl⟩
      rw [hx] at h62 hcl hp
      have HX := Lib.hid hx
      have HP := Lib.hid hp
      have HKL := Lib.hid hkl
      clear hx hp hkl hcl hgl hne
      go_wp2_with fail
      go_loopw [4, 8] (fun v j wr => ∃ (q g cp : Nat), q ≤ n0 ∧ j = .int .i64 q ∧ v = .slice (some ⟨g, 0, none⟩) (n0 + q) cp ∧ Hid (Gw w.heap.size wr g (n0 + q) cp (L ++ (L.take q).map (· + p))) ∧ Hid (LZ wr (some ⟨gl, 0, none⟩) l g) ∧ Hid (w.heap.size ≤ g) ∧ Hid (Below w.heap.size w wr)) (fun _ j _ => n0 - (intOf j).toNat)
      case atStart => exact ⟨0, g, cp, Nat.zero_le _, rfl, rfl, by show Gw _ _ _ _ _ _; rw [List.take_zero, List.map_nil, List.append_nil]; exact HG.out, HZ, hg, HB⟩
      case round =>
        clear HG HZ HB hg
        obtain ⟨q, g2, cp2, hq, rfl, rfl, HG2, HZ2, hg2, HB2⟩ := hrel
        by_cases hqn : q < n0
        · have hql : q < L.length := by rw [HLL.out]; exact hqn
          have hco := HG2.out.cell q (by omega) (by rw [List.length_append]; omega)
          rw [getD_front hql] at hco
          have HRM := Lib.hid (row_more (p := p) hql)
          have hyp := HBD.out _ (getD_mem hql)
          obtain ⟨y, hy⟩ : ∃ y, L.getD q 0 = y := ⟨_, rfl⟩
          rw [hy] at hco HRM hyp
          obtain ⟨gl', e, hgl, hne, hcl⟩ := HZ2.out k HKL.out
          rw [HX.out] at hcl
          have e2 : gl' = gl := by injection e with e; injection e with e _ _; exact e.symm
          subst e2
          have hcoD : wr.drew.cell? ⟨g2, q, none⟩ = some (.int .i64 (y : Int)) := hco
          have hclD : wr.drew.cell? ⟨gl', k, none⟩ = some (.int .i64 (x : Int)) := hcl
          have hsz := HB2.out.size
          have hmx : n0 + q + 1 ≤ maxLen := by unfold maxLen; omega
          have hby : (n0 + q + 1) * 8 ≤ 140737488355328 := by omega
          have hq8 : q ≤ 8192 := by omega
          have hk8 : k ≤ 13 := by omega
          have hwr : IntKind.i64.wrap ((y : Int) + (p : Int)) = (y : Int) + (p : Int) := IntWalk.i64_in _ (by omega)
          obtain ⟨M, hM⟩ : ∃ M, (L ++ (L.take q).map (· + p)).map iv = M := ⟨_, rfl⟩
          have HG2' : Hid (wr.ownsRow w.heap.size 3 1 (.slice (some ⟨g2, 0, none⟩) (n0 + q) cp2) (n0 + q) M) := by show World.ownsRow _ _ _ _ _ _ _; rw [← hM]; exact HG2.out
          rw [hM] at HRM
          have HG3 := Lib.hid (World.ownsRow.drew (World.ownsRow.alloc HG2'.out (.cells #[.int .i64 ((y : Int) + (p : Int))] 3)))
          have HZ3 : Hid (LZ (wr.alloc (.cells #[.int .i64 ((y : Int) + (p : Int))] 3)).drew (some ⟨gl', 0, none⟩) l g2) := HZ2.out.alloc (.cells #[.int .i64 ((y : Int) + (p : Int))] 3)
          have hszA : w.heap.size ≤ (wr.alloc (.cells #[.int .i64 ((y : Int) + (p : Int))] 3)).drew.heap.size := by simp; omega
          have hqI : (q : Int) < (n0 : Int) + (q : Int) := by omega
          have hkI : (k : Int) < (m : Int) := by omega
          have HBA := Lib.hid ((HB2.out.alloc hsz (.cells #[.int .i64 ((y : Int) + (p : Int))] 3)).drew)
          clear hql hy e hM hco hcl
          go_wp2_with fail
          go_region_law (first
            | (refine step_append_lies _ (by rfl) _ _ _ (by rfl) w.heap.size 3 i0 (.int .i64 0) 1 8 Tryd.underlying25 hi hz0 hz1 hz2 rfl (by decide) _ _ _ (by rfl) HG3.out ⟨wr.heap.size, 0, none⟩ 1 1 [.int .i64 ((y : Int) + (p : Int))] (by rfl) (by rfl) (one_new wr _) (one_cell _) (by decide) hmx hby hszA _ rfl ?_; intro g3 cp3 w3 hown hgrow hat hlt3)
            | (go_simp; go_at_call 27; refine (refBit_e x p h62 HP _).mono ?_; rintro e w' ⟨rfl, rfl⟩))
          all_goals
            have HZ4 := Lib.hid (HZ3.out.grown hgrow (by rcases hat with h | h; exact .inl h; exact .inr (by rw [h]; try simp)))
            have HG4 : Hid (Gw w.heap.size w3 g3 (n0 + (q + 1)) cp3 (L ++ (L.take (q + 1)).map (· + p))) := by
              show World.ownsRow _ _ _ _ _ _ _
              rw [← HRM.out]; exact hown
            have HB3 := Lib.hid (HBA.out.grown hgrow (by simp; omega) (fun j hj => by injection hj with hj; rw [← hj]; exact hg2.out))
            have HG5 : Hid (w.heap.size ≤ g3) := (World.ownsRow.lt hown g3 rfl).1
            clear hown hgrow hat
            go_wp2
            go_roundw
            case rel => exact ⟨q + 1, g3, cp3, by omega, by go_num, rfl, HG4, HZ4, HG5, HB3⟩
            case measure => simp [intOf]; omega
        · have hq' : q = n0 := by omega
          subst hq'
          have HG3 : Hid (Gw w.heap.size wr g2 (q + q) cp2 (L ++ L.map (· + p))) := by
            have := HG2.out
            rw [List.take_of_length_le (by rw [HLL.out]; exact Nat.le_refl _)] at this
            exact this
          go_wp2_with fail
          go_roundw
          case rel => exact ⟨k + 1, q + q, g2, cp2, L ++ L.map (· + p), by omega, by go_num, rfl, by omega, HN1, by show _ = _; rw [List.length_append, List.length_map, HLL.out], HT, HG3, HZ2, hg2, HB2⟩
          case measure => simp [intOf]; omega
    · have hk' : k = m := by omega
      subst hk'
      have HRL : Hid (R = L) := by
        show _ = _
        have := HL.out
        rw [List.take_of_length_le (by rw [HLM.out]; exact Nat.le_refl _)] at this
        rw [HR.out, this]
      go_wp2_with fail
      go_ret2
      exact ⟨.slice (some ⟨g, 0, none⟩) n0 cp, by rw [HE.out]; rfl, by rw [HRL.out]; exact HG.out.owb HLL.out, HB.out⟩

end Go.Proofs.YtpcdpljkgnpkoaaDoor.S

