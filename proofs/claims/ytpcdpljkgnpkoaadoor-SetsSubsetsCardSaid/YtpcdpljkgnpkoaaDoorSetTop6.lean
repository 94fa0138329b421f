/-
  DERIVED. The iterator of the subsets of one size.
-/
import Derived.Test.YtpcdpljkgnpkoaaDoorSetTop5
namespace Go.Proofs.YtpcdpljkgnpkoaaDoor.S
open Go.RowKit Go.Shelf
set_option maxRecDepth 8000
attribute [local go_sem] Oper.semAt_some

theorem quiet_eq {P : Program} {f : FuncId} {args : Array Value} {w : World} {n : Nat} {v : Value} (h : Calls P f args (w.drewN n) fun e w' => e = .returned v ∧ w.drewN n = w') :
    Calls P f args (w.drewN n) fun e w'' => e = .returned v ∧ ∃ m, w'' = w.drewN m := h.mono fun _ _ ⟨he, hm⟩ => ⟨he, n, hm.symm⟩
theorem grown_drewN (w : World) (n : Nat) (row : Option Nat) : w.grownBy (w.drewN n) row := ⟨rfl, rfl, rfl, Nat.le_refl _, fun _ _ _ => rfl⟩
theorem map_getD (l : List Nat) (f : Nat → Nat) {i : Nat} (h : i < l.length) : (l.map f).getD i 0 = f (l.getD i 0) := by
  rw [List.getD_eq_getElem?_getD, List.getD_eq_getElem?_getD, List.getElem?_map, List.getElem?_eq_getElem h]; rfl
/-- what is known of the list of one size -/
structure SizP (n k z x2 : Nat) (P : List Nat) : Prop where
  len : P.length = bin (size n) k
  some : 0 < P.length
  first : P.getD 0 0 = x2
  le : ∀ i, i < P.length → P.getD i 0 ≤ n
  next : ∀ i, i + 1 < P.length → (∃ a b, pd 63 n a = P.getD i 0 ∧ Nx (size n) a b ∧ pd 63 n b = P.getD (i + 1) 0) ∧ P.getD i 0 < P.getD (i + 1) 0 ∧ P.getD i 0 < z
  last : ∀ i, i + 1 = P.length → P.getD i 0 = z
theorem sizP_of (n k : Nat) (hk : k ≤ size n) : SizP n k (pd 63 n (lst (size n) k)) (pd 63 n (2 ^ k - 1)) (sizN n k) := by
  have h63 : size n ≤ 63 := cnt_le 63 n
  have hl : (sizN n k).length = (gz (size n) k).length := List.length_map _
  have hg : ∀ i, i < (gz (size n) k).length → (sizN n k).getD i 0 = pd 63 n ((gz (size n) k).getD i 0) := fun i hi => map_getD _ _ hi
  have hf := gz_first (size n) k hk
  have hlt : ∀ i, i < (gz (size n) k).length → (gz (size n) k).getD i 0 < 2 ^ size n := fun i hi => gz_lt (size n) k _ (getD_mem hi)
  refine ⟨by rw [hl, gz_len], by rw [hl]; exact hf.2, by rw [hg 0 hf.2, hf.1], fun i hi => ?_, fun i hi => ?_, fun i hi => ?_⟩
  · rw [hl] at hi; rw [hg i hi]; exact pd_le _ _ _
  · rw [hl] at hi
    have hnx := Seq.at (gz_seq (size n) k h63) hi
    rw [hg i (by omega), hg (i + 1) hi]
    refine ⟨⟨_, _, rfl, hnx, rfl⟩, pd_mono 63 n _ _ hnx.2.2.2 (hlt _ hi), ?_⟩
    have h2 := gz_end (size n) k ((gz (size n) k).length - 1) hk (by omega)
    have h3 := hlt ((gz (size n) k).length - 1) (by omega)
    have h1 := gz_rise (size n) k h63 i ((gz (size n) k).length - (i + 2)) (by omega)
    rw [show i + ((gz (size n) k).length - (i + 2)) + 1 = (gz (size n) k).length - 1 by omega, h2] at h1
    rw [h2] at h3
    exact pd_mono 63 n _ _ h1 h3
  · rw [hl] at hi
    rw [hg i (by omega), gz_end (size n) k i hk hi]
theorem take_pre2 (P : List Nat) (i : Nat) : P.take i <+: P := List.take_prefix _ _
set_option maxHeartbeats 2000000 in
theorem siz1_in (l Bn Bk n₀ n k : Nat) (P : List Nat) (hP : sizN n k = P) (hn : n < 9223372036854775808) (hkn : k ≤ size n) (hB : Bn < n₀) (J Jx : List Nat → World → Prop) (W : World) (hJ : AbidesFrom W.heap.size J)
    (hY : ∀ pre x W, J pre W → pre.length < bin (size n) k → YieldAt Fence.wide 3 Tryd.prog l (encN x) W fun e W' =>
      (e = .returned (.bool true) ∧ J (pre ++ [x]) W' ∧ Below n₀ W W') ∨ (e = .returned (.bool false) ∧ Jx (pre ++ [x]) W'))
    (hc : W.cell? ⟨Bn, 0, none⟩ = some (.int .i64 (n : Int))) (hck : W.cell? ⟨Bk, 0, none⟩ = some (.int .i64 (k : Int))) (h0 : J [] W) :
    CallsIn Fence.wide 4 Tryd.prog 45 #[.func (.yield l) #[] #[], .pointer (some ⟨Bn, 0, none⟩), .pointer (some ⟨Bk, 0, none⟩)] W fun e W' => (∃ v, e = .returned v) ∧
      ((∃ ys, ys = P ∧ J ys W') ∨ (∃ pre, pre <+: P ∧ Jx pre W')) := by
  have HN : Hid (n < 2 ^ 63) := by show _ < _; simpa using hn
  have hlst := i_last n k hn hkn
  have hsz : size n ≤ 63 := cnt_le 63 n
  have HSZ := Lib.hid (fun w => size_e n (size n) hn rfl w)
  have HL1 := Lib.hid (fun w => lowest_e n (size n - k) _ hn (Nat.sub_le _ _) rfl w)
  have HL2 := Lib.hid (fun w => lowest_e n k _ hn hkn rfl w)
  have hsub : ((size n : Int) - (k : Int)) = ((size n - k : Nat) : Int) := by omega
  have hk9 : k ≤ 63 := by omega
  obtain ⟨c, hcz⟩ : ∃ c, size n = c := ⟨_, rfl⟩
  obtain ⟨d, hd⟩ : ∃ d, size n - k = d := ⟨_, rfl⟩
  have hd9 : d ≤ 63 := by omega
  obtain ⟨x1, hx1⟩ : ∃ x, pd 63 n (2 ^ d - 1) = x := ⟨_, rfl⟩
  obtain ⟨x2, hx2⟩ : ∃ x, pd 63 n (2 ^ k - 1) = x := ⟨_, rfl⟩
  obtain ⟨z, hz⟩ : ∃ z, pd 63 n (lst (size n) k) = z := ⟨_, rfl⟩
  have hx1n : x1 ≤ n := by rw [← hx1]; exact pd_le _ _ _
  have hx2n : x2 ≤ n := by rw [← hx2]; exact pd_le _ _ _
  have hzn : z ≤ n := by rw [← hz]; exact pd_le _ _ _
  have hpp := sizP_of n k hkn
  rw [hz, hx2, hP] at hpp
  have HPP := Lib.hid hpp
  clear hpp
  rw [hd] at HL1 hlst hsub
  rw [hx1] at HL1 hlst
  rw [hx2] at HL2
  rw [hz] at hlst
  rw [hcz] at HSZ hsub hsz
  clear hx1 hx2 hd hz hkn hP
  refine callsIn_of_wp Tryd.func45 rfl trivial ?_ rfl
  simp only [Tryd.ntmps45, List.size_toArray, List.length_cons, List.length_nil, Nat.reduceAdd, Nat.reduceSub, Array.replicate_succ, Array.replicate_zero, List.push_toArray, List.append_toArray, List.nil_append, List.cons_append]
  refine wpIn_wide.2 ?_
  go_wp2
  go_quiet (first | (go_at_call 10; exact quiet_eq (HSZ.out _)) | (go_at_call 46; exact quiet_eq (HL1.out _)))
  go_wp2_with fail
  refine (HL2.out _).mono ?_
  rintro e w' ⟨rfl, rfl⟩
  go_wp2_with fail
  have h0' : J [] (W.drewN nq) := hJ _ _ _ none h0 (grown_drewN W nq none) (fun r e => by cases e)
  have hc' : (W.drewN nq).cell? ⟨Bn, 0, none⟩ = some (.int .i64 (n : Int)) := hc
  obtain ⟨W1, hW1⟩ : ∃ W1, W.drewN nq = W1 := ⟨_, rfl⟩
  rw [hW1] at h0' hc' ⊢
  clear h0 hc hck hW1 hJ hlst hsub hcz HSZ HL1 HL2
  refine (wpIn_wide (n := 4)).1 ?_
  gi_loopw [5] (fun p wr => ∃ i s : Nat, p = .int .i64 s ∧ s ≤ n ∧ Hid (i + 1 ≤ P.length) ∧ Hid (P.getD i 0 = s) ∧ J (P.take i) wr ∧ wr.cell? ⟨Bn, 0, none⟩ = some (.int .i64 (n : Int)))
    (fun p _ => n - (intOf p).toNat)
  case atStart => exact ⟨0, x2, rfl, hx2n, HPP.out.some, HPP.out.first, h0', hc'⟩
  case round =>
    clear h0' hc'
    obtain ⟨i, s, rfl, hs, HK, HS, hJs, hcs⟩ := hrel
    obtain ⟨fn, tmps, assign, body, hy, hR⟩ := hY _ s wr hJs (by rw [List.length_take, ← HPP.out.len]; have h1 := HK.out; omega)
    simp only [encN] at hy
    have HSQ : Hid (P.take i ++ [s] = P.take (i + 1)) := by show _ = _; rw [← HS.out]; exact (take_more HK.out).symm
    by_cases hlast : i + 1 < P.length
    · obtain ⟨⟨a, b, ha, hnx, hb⟩, hst, hsz2⟩ := HPP.out.next i hlast
      rw [HS.out] at ha hst hsz2
      obtain ⟨t, ht⟩ : ∃ t, P.getD (i + 1) 0 = t := ⟨_, rfl⟩
      have htn : t ≤ n := by rw [← ht]; exact HPP.out.le _ hlast
      rw [ht] at hb hst
      have HFO := Lib.hid (fun w => following_e n a b s t hn ha hnx hb w)
      have hne : ((s : Int) == (z : Int)) = false := ne_eqI (by omega)
      have HT : Hid (P.getD (i + 1) 0 = t) := ht
      have HK2 : Hid (i + 1 + 1 ≤ P.length) := hlast
      clear hlast ht hnx hb ha
      gi_wp2
      refine hR.mono ?_
      clear hR hy hJs
      rintro e W3 (⟨rfl, hJ3, hk3⟩ | ⟨rfl, hJx3⟩)
      · have hc3 : W3.cell? ⟨Bn, 0, none⟩ = some (.int .i64 (n : Int)) := (hk3.cell (p := ⟨Bn, 0, none⟩) hB).trans hcs
        gi_wp2
        refine ⟨trivial, (callsIn_wide.2 (HFO.out _)).mono ?_⟩
        rintro e w' ⟨rfl, rfl⟩
        gi_wp2
        go_roundw
        case rel => exact ⟨i + 1, t, rfl, htn, HK2, HT, by rw [← HSQ.out]; exact hJ3, hc3⟩
        case measure => simp [intOf]; omega
      · gi_wp2
        go_end0
        exact ⟨⟨_, rfl⟩, .inr ⟨_, by rw [HSQ.out]; exact take_pre2 P _, hJx3⟩⟩
    · have hil : i + 1 = P.length := by have := HK.out; omega
      have hsz2 : s = z := by rw [← HS.out]; exact HPP.out.last i hil
      have HE : Hid (P.take i ++ [s] = P) := by show _ = _; rw [HSQ.out, hil]; exact List.take_length
      clear hlast hil HS
      subst hsz2
      gi_wp2
      refine hR.mono ?_
      clear hR hy hJs
      rintro e W3 (⟨rfl, hJ3, hk3⟩ | ⟨rfl, hJx3⟩)
      · gi_wp2
        go_end0
        exact ⟨⟨_, rfl⟩, .inl ⟨_, HE.out, hJ3⟩⟩
      · gi_wp2
        go_end0
        exact ⟨⟨_, rfl⟩, .inr ⟨_, by rw [HE.out]; exact List.prefix_rfl, hJx3⟩⟩
theorem siz_stops (Bn Bk n₀ n k : Nat) (hn : n < 9223372036854775808) (hk : k ≤ size n) (w : World) (hBn : Bn < w.heap.size) (hBk : Bk < w.heap.size) (hB : Bn < n₀)
    (hc : w.cell? ⟨Bn, 0, none⟩ = some (.int .i64 (n : Int))) (hck : w.cell? ⟨Bk, 0, none⟩ = some (.int .i64 (k : Int))) :
    SeqStopsK Fence.wide 4 Tryd.prog 45 #[.pointer (some ⟨Bn, 0, none⟩), .pointer (some ⟨Bk, 0, none⟩)] encN (Below n₀) (fun ys => ys = sizN n k) (fun pre => pre <+: sizN n k) (bin (size n) k) w := fun l J Jx W hW hJ _ hY h0 =>
  siz1_in l Bn Bk n₀ n k (sizN n k) rfl hn hk hB J Jx W hJ hY ((hW.cell (p := ⟨Bn, 0, none⟩) hBn).trans hc) ((hW.cell (p := ⟨Bk, 0, none⟩) hBk).trans hck) h0
theorem sized_w (n k : Nat) (w : World) :
    Calls Tryd.prog 35 #[.int .i64 n, .int .i64 k] w fun e w' => e = .returned (.func (.func 45) #[] #[.pointer (some ⟨w.heap.size, 0, none⟩), .pointer (some ⟨w.heap.size + 1, 0, none⟩)]) ∧ w' = (w.alloc (.cells #[.int .i64 (n : Int)] 3)).alloc (.cells #[.int .i64 (k : Int)] 3) := by
  go_enter Tryd.func35, Tryd.ntmps35
  go_wp2_with fail
  go_ret
  first
    | exact ⟨rfl, rfl⟩
    | (refine ⟨?_, rfl⟩; simp)

end Go.Proofs.YtpcdpljkgnpkoaaDoor.S

