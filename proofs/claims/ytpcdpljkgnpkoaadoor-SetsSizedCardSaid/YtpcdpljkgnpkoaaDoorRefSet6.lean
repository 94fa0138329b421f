/-
  DERIVED. The walks of lorryref05's sized, Sized.
-/
import Derived.Test.YtpcdpljkgnpkoaaDoorRefSet5
namespace Go.Proofs.YtpcdpljkgnpkoaaDoor.S
open Go.RowKit
set_option maxRecDepth 8000

/-- the numbers l in the slice A -/
def Ar (w : World) (A : Option Addr) (l : List Nat) : Prop :=
  ∀ i, i < l.length → ∃ g, A = some ⟨g, 0, none⟩ ∧ g < w.heap.size ∧ w.cell? ⟨g, i, none⟩ = some (.int .i64 ((l.getD i 0 : Nat) : Int))
theorem Ar.below {w w' : World} {A : Option Addr} {l : List Nat} (h : Ar w A l) (hb : Below w.heap.size w w') : Ar w' A l := fun i hi => by
  obtain ⟨g, a, b, c⟩ := h i hi
  exact ⟨g, a, Nat.lt_of_lt_of_le b hb.size, (hb.cell (p := ⟨g, i, none⟩) b).trans c⟩
/-- apart from the block of the slice v -/
def LZo (w : World) (A : Option Addr) (l : List Nat) (v : Value) : Prop :=
  ∀ i, i < l.length → ∃ g, A = some ⟨g, 0, none⟩ ∧ g < w.heap.size ∧ some g ≠ v.ownBlock ∧ w.cell? ⟨g, i, none⟩ = some (.int .i64 ((l.getD i 0 : Nat) : Int))
theorem LZo.alloc {w : World} {A : Option Addr} {l : List Nat} {v : Value} (h : LZo w A l v) (o : Obj) : LZo (w.alloc o) A l v := fun i hi => by
  obtain ⟨g, a, b, c, d⟩ := h i hi
  exact ⟨g, a, by simp; omega, c, (World.grownBy_alloc w o none).cell d (by simp)⟩
theorem LZo.grown {w w' : World} {A : Option Addr} {l : List Nat} {v : Value} {g' n c : Nat} (h : LZo w A l v) (hg : w.grownBy w' v.ownBlock) (hat : v.ownBlock = some g' ∨ g' = w.heap.size) : LZo w' A l (.slice (some ⟨g', 0, none⟩) n c) := fun i hi => by
  obtain ⟨b, ha, hl, hne, hc⟩ := h i hi
  refine ⟨b, ha, Nat.lt_of_lt_of_le hl hg.size, ?_, hg.cell hc hne⟩
  show some b ≠ some g'
  rcases hat with e | e
  · rw [← e]; exact hne
  · intro e2; injection e2 with e2; omega
/-- the call's own slice -/
def Gv (B : Nat) (w : World) (v : Value) (n : Nat) (l : List Nat) : Prop := w.ownsRow B 3 1 v n (l.map iv)
theorem Owb.frame {B : Nat} {w w' : World} {v : Value} {l : List Nat} (h : Owb B w v l) (hb : Below w.heap.size w w') : Owb B w' v l := by
  refine ⟨h.1, ?_⟩
  rcases h.2 with hn | ⟨g, cap, cur, e, hbg, hgg, rest⟩
  · exact .inl hn
  · refine .inr ⟨g, cap, cur, e, hbg, ?_, rest⟩
    rw [hb.block g (Array.getElem?_eq_some_iff.1 hgg).1]; exact hgg

theorem Owb.lit (w : World) (B : Nat) (hB : B ≤ w.heap.size) : Owb B (w.alloc (.cells #[.int .i64 0] 3)) (.slice (some ⟨w.heap.size, 0, none⟩) 1 1) [0] :=
  World.ownsRow_lit (base := B) (size := 1) (e := 3) w #[.int .i64 0] 1 hB (by decide) rfl
theorem sized_zero (A : Option Addr) (c m n : Nat) (l : List Nat) (w : World) :
    Calls Tryd.prog 37 #[.slice A m c, .int .i64 n, .int .i64 ((0 : Nat) : Int)] w fun e w' => ∃ v, e = .returned v ∧ Owb w.heap.size w' v (szL l n 0) ∧ Below w.heap.size w w' := by
  have HS : Hid (szL l n 0 = [0]) := szL_zero l n
  have HL := Lib.hid (Owb.lit w w.heap.size (Nat.le_refl _))
  generalize szL l n 0 = R at *
  go_enter Tryd.func37, Tryd.ntmps37
  go_wp2_with fail
  go_ret
  exact ⟨_, rfl, by rw [HS.out]; exact HL.out, (Below.refl _ w).alloc (Nat.le_refl _) _⟩
theorem sized_none (A : Option Addr) (c m n k : Nat) (l : List Nat) (h0 : k ≠ 0) (h : n < k) (w : World) :
    Calls Tryd.prog 37 #[.slice A m c, .int .i64 n, .int .i64 k] w fun e w' => ∃ v, e = .returned v ∧ Owb w.heap.size w' v (szL l n k) ∧ Below w.heap.size w w' := by
  have HS : Hid (szL l n k = []) := szL_big l h
  have hk1 : ((k : Int) == 0) = false := eq0I h0
  generalize szL l n k = R at *
  go_enter Tryd.func37, Tryd.ntmps37
  go_wp2_with fail
  go_ret
  exact ⟨_, rfl, by rw [HS.out]; exact Owb.nil _ _, Below.refl _ _⟩

set_option maxHeartbeats 800000 in
theorem sized_step (A : Option Addr) (c m N K n k : Nat) (l : List Nat) (hN : N = n + 1) (hK : K = k + 1) (hkn : k ≤ n) (hm : l.length = m) (hnm : n < m) (hm63 : m ≤ 63) (h62 : ∀ i ∈ l, i ≤ 62) (hsum : sumP l < 9223372036854775808) (hbn : bin N K ≤ 8192) (w : World) (hA : Ar w A l)
    (i1 : ∀ w, Ar w A l → Calls Tryd.prog 37 #[.slice A m c, .int .i64 n, .int .i64 K] w fun e w' => ∃ v, e = .returned v ∧ Owb w.heap.size w' v (szL l n K) ∧ Below w.heap.size w w')
    (i2 : ∀ w, Ar w A l → Calls Tryd.prog 37 #[.slice A m c, .int .i64 n, .int .i64 k] w fun e w' => ∃ v, e = .returned v ∧ Owb w.heap.size w' v (szL l n k) ∧ Below w.heap.size w w') :
    Calls Tryd.prog 37 #[.slice A m c, .int .i64 N, .int .i64 K] w fun e w' => ∃ v, e = .returned v ∧ Owb w.heap.size w' v (szL l N K) ∧ Below w.heap.size w w' := by
  have hnl : n < l.length := by omega
  obtain ⟨p, hp⟩ : ∃ p, 2 ^ l.getD n 0 = p := ⟨_, rfl⟩
  have HS : Hid (szL l N K = szL l n K ++ (szL l n k).map (· + p)) := by show _ = _; rw [hN, hK, szL_step, hp]
  have hlL : (szL l n K).length = bin n K := szL_len l n K
  have hlM : (szL l n k).length = bin n k := szL_len l n k
  have hnn : bin n k + bin n K ≤ 8192 := by rw [hN, hK, bin_step, ← hK] at hbn; exact hbn
  have HBD : Hid (∀ y ∈ szL l n k, y + p < 9223372036854775808) := by
    intro y hy
    have h1 := szL_le l n k (by omega) y hy
    have h2 := sumP_more hnl
    have h3 := sumP_take_le l (n + 1)
    omega
  have hx62 : l.getD n 0 ≤ 62 := h62 _ (getD_mem hnl)
  obtain ⟨x, hx⟩ : ∃ x, l.getD n 0 = x := ⟨_, rfl⟩
  have HX := Lib.hid hx
  rw [hx] at hp hx62
  have HP := Lib.hid hp
  have HI1 := Lib.hid i1
  have HI2 := Lib.hid i2
  have HNL := Lib.hid hnl
  have HA := Lib.hid hA
  obtain ⟨gl, rfl, hgl, hcl⟩ := hA n hnl
  rw [hx] at hcl
  have HCL := Lib.hid hcl
  obtain ⟨i0, hi, hz0, hz1, hz2⟩ := info3'
  generalize szL l N K = R at *
  generalize szL l n K = L at *
  generalize szL l n k = M at *
  generalize bin n k = nM at *
  generalize bin n K = nL at *
  have HLL := Lib.hid hlL
  have HLM := Lib.hid hlM
  have hk1 : ((K : Int) == 0) = false := eq0I (by omega)
  have hKN : K ≤ N := by omega
  have hN1 : (N : Int) - 1 = (n : Int) := by omega
  have hK1 : (K : Int) - 1 = (k : Int) := by omega
  have hN63 : N ≤ 63 := by omega
  clear hx hp hlL hlM i1 i2 hnl hA h62 hsum hbn hm hN hK hcl
  go_enter Tryd.func37, Tryd.ntmps37
  go_wp2_with fail
  refine (HI1.out _ HA.out).mono ?_
  rintro e w1 ⟨v1, rfl, hv1, b1⟩
  have HV1 := Lib.hid hv1
  have HB1 := Lib.hid b1
  clear hv1 b1
  go_wp2_with fail
  refine (HI2.out _ (HA.out.below HB1.out)).mono ?_
  rintro e w2 ⟨v2, rfl, hv2, b2⟩
  obtain ⟨A2, c2, rfl, hc2, hel⟩ := hv2.weak.shape
  have hlz : LZo w2 A2 M v1 := by
    intro i hi
    obtain ⟨g, rfl, h1, h2⟩ := hel i hi
    refine ⟨g, rfl, h1, ?_, h2⟩
    intro e
    have h3 := (World.ownsRow.lt HV1.out g e.symm).2
    have h4 := (World.ownsRow.lt hv2 g rfl).1
    omega
  have HLZ := Lib.hid hlz
  have HG0 : Hid (Gv w.heap.size w2 v1 (nL + 0) (L ++ (M.take 0).map (· + p))) := by
    show Gv _ _ _ _ _
    have := Owb.frame HV1.out b2
    unfold Owb at this
    rw [HLL.out] at this
    rw [List.take_zero, List.map_nil, List.append_nil]; exact this
  have HB2 := Lib.hid (over5 HB1.out b2)
  rw [HLM.out] at hc2
  rw [HLM.out]
  clear hlz hel hv2 b2 HV1 HB1
  go_wp2_with fail
  go_loopw [7, 9] (fun v j wr => ∃ (q : Nat) (vo : Value), q ≤ nM ∧ j = .int .i64 q ∧ vo = v ∧ Hid (Gv w.heap.size wr v (nL + q) (L ++ (M.take q).map (· + p))) ∧ Hid (LZo wr A2 M v) ∧ Hid (Below w.heap.size w wr)) (fun _ j _ => nM - (intOf j).toNat)
  case atStart => exact ⟨0, _, Nat.zero_le _, rfl, rfl, HG0, HLZ, HB2⟩
  case round =>
    clear HG0 HLZ HB2
    obtain ⟨q, v, hq, rfl, rfl, HG2, HZ2, HB2⟩ := hrel
    by_cases hqn : q < nM
    · have hql : q < M.length := by rw [HLM.out]; exact hqn
      have hyp := HBD.out _ (getD_mem hql)
      have HRM : Hid ((L ++ (M.take q).map (· + p)).map iv ++ [.int .i64 (((M.getD q 0 : Nat) : Int) + (p : Int))] = (L ++ (M.take (q + 1)).map (· + p)).map iv) := by
        show _ = _
        rw [take_more hql, List.map_append, List.map_append, List.map_append, List.map_append, List.append_assoc]; rfl
      obtain ⟨gm, rfl, hgm, hne, hco⟩ := HZ2.out q hql
      obtain ⟨y, hy⟩ : ∃ y, M.getD q 0 = y := ⟨_, rfl⟩
      rw [hy] at hco HRM hyp
      have hcl : wr.cell? ⟨gl, n, none⟩ = some (.int .i64 (x : Int)) := (HB2.out.cell (p := ⟨gl, n, none⟩) hgl).trans HCL.out
      have hcoD : wr.drew.cell? ⟨gm, q, none⟩ = some (.int .i64 (y : Int)) := hco
      have hclD : wr.drew.cell? ⟨gl, n, none⟩ = some (.int .i64 (x : Int)) := hcl
      have hsz := HB2.out.size
      have hmx : nL + q + 1 ≤ maxLen := by unfold maxLen; omega
      have hby : (nL + q + 1) * 8 ≤ 140737488355328 := by omega
      have hwr : IntKind.i64.wrap ((y : Int) + (p : Int)) = (y : Int) + (p : Int) := IntWalk.i64_in _ (by omega)
      have hwn : IntKind.i64.wrap (n : Int) = (n : Int) := IntWalk.i64_in _ (by omega)
      obtain ⟨T, hT⟩ : ∃ T, (L ++ (M.take q).map (· + p)).map iv = T := ⟨_, rfl⟩
      have HG2' : Hid (wr.ownsRow w.heap.size 3 1 v (nL + q) T) := by show World.ownsRow _ _ _ _ _ _ _; rw [← hT]; exact HG2.out
      rw [hT] at HRM
      have HG3 := Lib.hid (World.ownsRow.drew (World.ownsRow.alloc HG2'.out (.cells #[.int .i64 ((y : Int) + (p : Int))] 3)))
      have HZ3 : Hid (LZo (wr.alloc (.cells #[.int .i64 ((y : Int) + (p : Int))] 3)).drew (some ⟨gm, 0, none⟩) M v) := HZ2.out.alloc (.cells #[.int .i64 ((y : Int) + (p : Int))] 3)
      have hszA : w.heap.size ≤ (wr.alloc (.cells #[.int .i64 ((y : Int) + (p : Int))] 3)).drew.heap.size := by simp; omega
      have hqI : (q : Int) < (nM : Int) := by omega
      have hkI : (n : Int) < (m : Int) := by omega
      have HBA := Lib.hid ((HB2.out.alloc hsz (.cells #[.int .i64 ((y : Int) + (p : Int))] 3)).drew)
      have HOB : Hid (∀ k, v.ownBlock = some k → w.heap.size ≤ k) := fun k hk => (World.ownsRow.lt HG2.out k hk).1
      clear hql hy hT hco hcl
      go_wp2_with fail
      go_region_law (first
        | (refine step_append_lies _ (by rfl) _ _ _ (by rfl) w.heap.size 3 i0 (.int .i64 0) 1 8 Tryd.underlying25 hi hz0 hz1 hz2 rfl (by decide) _ _ _ (by rfl) HG3.out ⟨wr.heap.size, 0, none⟩ 1 1 [.int .i64 ((y : Int) + (p : Int))] (by rfl) (by rfl) (one_new wr _) (one_cell _) (by decide) hmx hby hszA _ rfl ?_; intro g3 cp3 w3 hown hgrow hat hlt3)
        | (go_simp; go_at_call 27; refine (refBit_e x p hx62 HP _).mono ?_; rintro e w' ⟨rfl, rfl⟩))
      all_goals
        have HZ4 := Lib.hid (HZ3.out.grown (n := nL + q + 1) (c := cp3) hgrow (by rcases hat with h | h; exact .inl h; exact .inr (by rw [h]; try simp)))
        have HG4 : Hid (Gv w.heap.size w3 (.slice (some ⟨g3, 0, none⟩) (nL + q + 1) cp3) (nL + (q + 1)) (L ++ (M.take (q + 1)).map (· + p))) := by
          show World.ownsRow _ _ _ _ _ _ _
          rw [← HRM.out]; exact hown
        have HB3 := Lib.hid (HBA.out.grown hgrow (by simp; omega) HOB.out)
        clear hown hgrow hat
        go_wp2
        go_roundw
        case rel => exact ⟨q + 1, _, by omega, by go_num, rfl, HG4, HZ4, HB3⟩
        case measure => simp [intOf]; omega
    · have hq' : q = nM := by omega
      subst hq'
      have HG3 : Hid (Owb w.heap.size wr v R) := by
        show Owb _ _ _ _
        have := HG2.out
        rw [List.take_of_length_le (by rw [HLM.out]; exact Nat.le_refl _), ← HS.out] at this
        have e : nL + q = R.length := by rw [HS.out, List.length_append, List.length_map, HLL.out, HLM.out]
        unfold Gv at this
        rw [e] at this
        exact this
      go_wp2_with fail
      go_ret
      exact ⟨_, rfl, HG3.out, HB2.out⟩

end Go.Proofs.YtpcdpljkgnpkoaaDoor.S

