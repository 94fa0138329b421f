/-
  DERIVED. KVB: a part of the base of layer 13 (made by pack.py).
-/
import Derived.Laws.Rows
import Derived.Test.YtaallpebfcadjaaGreatDoorKIK
import Derived.Test.YtaallpebfcadjaaGreatDoorKIL
import Derived.Test.YtaallpebfcadjaaGreatDoorKVA
import Derived.Test.YtaallpebfcadjaaGreatDoorKIN
/-! A part of an instance: its bounds; Only at every set. -/
namespace Go.Proofs.YtaallpebfcadjaaGreatDoor.T
open Go.RowKit
set_option maxRecDepth 8000

theorem only_len {x : InT} {n : Nat} (hn : ∀ i ∈ S.members n, i < x.ol.length) : (onlyI x n).ol.length = (S.members n).length ∧ (onlyI x n).ol.length ≤ x.ol.length := by
  have h1 : (onlyI x n).ol.length = (S.members n).length := List.length_map _
  exact ⟨h1, by rw [h1]; exact S.asc_le (S.asc_members n) hn⟩
theorem only_at {x : InT} {n : Nat} (hn : ∀ i ∈ S.members n, i < x.ol.length) {i : Nat} (hi : i < (onlyI x n).ol.length) : ∃ j, j < x.ol.length ∧ (onlyI x n).ol.getD i or0 = x.ol.getD j or0 := by
  rw [(only_len hn).1] at hi
  exact ⟨_, hn _ (S.mem_at hi), map_at (d := 0) hi⟩
theorem rk_le (n p : Nat) : S.rk n p ≤ 63 := Nat.le_trans (List.length_filter_le _ _) (S.mem_len n 63)
theorem ren_in (n : Nat) (l : List (Int × Int)) : ∀ p ∈ renP n l, In64 p := fun p hp => by
  unfold renP at hp
  obtain ⟨q, -, rfl⟩ := List.mem_map.1 hp
  have h1 := rk_le n q.1.toNat
  have h2 := rk_le n q.2.toNat
  unfold In64 I64
  refine ⟨⟨?_, ?_⟩, ?_, ?_⟩ <;> simp only <;> omega
theorem only_w {x : InT} {n : Nat} (h : InW x) (hn : ∀ i ∈ S.members n, i < x.ol.length) : InW (onlyI x n) where
  b := ⟨h.b.pl, h.b.al, h.b.wt, h.b.tl, h.b.cap, Nat.le_trans (only_len hn).2 h.b.ol, fun i hi => by obtain ⟨j, hj, e⟩ := only_at hn hi; rw [e]; exact h.b.load j hj, Nat.le_trans (ren_len n x.ap) h.b.ap, Nat.le_trans (ren_len n x.be) h.b.be⟩
  pn := h.pn
  tn := h.tn
  on := fun i hi => by obtain ⟨j, hj, e⟩ := only_at hn hi; rw [e]; exact h.on j hj
  wf := h.wf
  ia := ren_in n x.ap
  ib := ren_in n x.be
theorem only_c {x : InT} {n : Nat} (h : InC x) (hn : ∀ i ∈ S.members n, i < x.ol.length) : InC (onlyI x n) where
  pl := h.pl
  al := h.al
  tr := h.tr
  tl := h.tl
  cap := h.cap
  ol := Nat.le_trans (only_len hn).2 h.ol
  load := fun i hi => by obtain ⟨j, hj, e⟩ := only_at hn hi; rw [e]; exact h.load j hj
  ap := Nat.le_trans (ren_len n x.ap) h.ap
  be := Nat.le_trans (ren_len n x.be) h.be
/-- Only at any set -/
def OnlyP (x : InT) (w : World) (e : Ending) (w' : World) : Prop := (e = noPart ∧ Below w.heap.size w w') ∨ ∃ n : Nat, (∀ i ∈ S.members n, i < x.ol.length) ∧
  ∃ (a0 a1 a2 a3 a4 a5 oa : Option Addr) (b0 b1 b2 b3 b4 b5 c : Nat), e = .returned (.tuple #[.agg #[.slice a0 (onlyI x n).pl.length b0, .slice a1 (onlyI x n).al.length b1, .slice a2 (onlyI x n).tl.length b2, .slice a3 (onlyI x n).ol.length b3, .slice a4 (onlyI x n).ap.length b4, .slice a5 (onlyI x n).be.length b5], .slice oa (onlyI x n).ol.length c, .int .i64 0]) ∧
    Ins w' ⟨a0, b0, a1, b1, a2, b2, a3, b3, a4, b4, a5, b5⟩ (onlyI x n) ∧ Nos w' (.slice oa (S.members n).length c) (S.members n) ∧ Below w.heap.size w w'
theorem only_n (k : Iv) (x : InT) (hx : InC x) (s : Int) (h1 : -9223372036854775808 ≤ s) (h2 : s ≤ 9223372036854775807) (w : World) (hT : S.Tab w) (h : Ins w k x) :
    Calls Tryz.prog 20 #[k.v x, .int .i64 s] w (OnlyP x w) := by
  by_cases hs : s < 0
  · obtain ⟨m, hm⟩ := Int.eq_ofNat_of_zero_le (show 0 ≤ s + 9223372036854775808 by omega)
    obtain rfl : s = (m : Int) - 9223372036854775808 := by omega
    exact (only_neg k x m (by omega) w hT h).mono fun e w' h => .inl h
  · obtain ⟨n, rfl⟩ := Int.eq_ofNat_of_zero_le (show 0 ≤ s by omega)
    by_cases hn : ∀ i ∈ S.members n, i < x.ol.length
    · refine (only_good k x hx n (by omega) hn w hT h).mono ?_
      rintro e w' ⟨⟨a0, b0, a1, b1, a2, b2, a3, b3, a4, b4, a5, b5⟩, oa, c, rfl, hi, hno, hb⟩
      refine .inr ⟨n, hn, a0, a1, a2, a3, a4, a5, oa, b0, b1, b2, b3, b4, b5, c, ?_, hi, hno, hb⟩
      rw [(only_len hn).1]
      rw [show (Iv.v ⟨a0, b0, a1, b1, a2, b2, a3, b3, a4, b4, a5, b5⟩ (onlyI x n)) = .agg #[.slice a0 (onlyI x n).pl.length b0, .slice a1 (onlyI x n).al.length b1, .slice a2 (onlyI x n).tl.length b2, .slice a3 (onlyI x n).ol.length b3, .slice a4 (onlyI x n).ap.length b4, .slice a5 (onlyI x n).be.length b5] from rfl, (only_len hn).1]
    · exact (only_bad k x n (by omega) hn w hT h).mono fun e w' h => .inl h
/-! ### the numbers of a part of a part -/
theorem sumP_snoc (l : List Nat) (a : Nat) : S.sumP (l ++ [a]) = S.sumP l + 2 ^ a := by
  induction l with
  | nil => show S.sumP [a] = _; rw [S.sumP_cons]; show 2 ^ a + 0 = 0 + 2 ^ a; omega
  | cons b l ih => rw [List.cons_append, S.sumP_cons, S.sumP_cons, ih]; omega
/-- the set of the first j numbers -/
def Uj (n m j : Nat) : Nat := S.sumP (((S.members m).take j).map fun k => (S.members n).getD k 0)
theorem uj_succ {n m j : Nat} (hj : j < (S.members m).length) : Uj n m (j + 1) = Uj n m j + 2 ^ ((S.members n).getD ((S.members m).getD j 0) 0) := by
  unfold Uj
  rw [take_more (d := 0) hj, List.map_append]
  exact sumP_snoc _ _
theorem uj_full (n m : Nat) : Uj n m (S.members m).length = S.lay n m := by
  unfold Uj S.lay
  rw [List.take_length]
theorem uj_lt {n m : Nat} (hb : ∀ k ∈ S.members m, k < (S.members n).length) (hn : ∀ i ∈ S.members n, i < 10) (j : Nat) : Uj n m j < 1024 := by
  have h := S.sumP_lt (l := ((S.members m).take j).map fun k => (S.members n).getD k 0) (by
    rw [List.map_take]
    exact List.Pairwise.sublist (List.take_sublist _ _) (S.asc_map (S.asc_members n) (S.asc_members m) hb)) 10 (fun x hx => by
    obtain ⟨k, hk, rfl⟩ := List.mem_map.1 hx
    exact hn _ (S.mem_at (hb k (List.mem_of_mem_take hk))))
  exact h

end Go.Proofs.YtaallpebfcadjaaGreatDoor.T


/-! InstanceParts: its walk (written by gen_inlaw5.py, steps by stepper.py). -/
namespace Go.Proofs.YtaallpebfcadjaaGreatDoor.T
open Go.RowKit
set_option maxRecDepth 8000
attribute [local irreducible] wpList Code.wp

theorem small_b (k : Iv) (x : InT) (b : Bool) (hb : smlB x = b) (w : World) (h : Ins w k x) : Calls Tryz.prog 8 #[k.v x] w fun e w' => e = .returned (.bool b) ∧ Below w.heap.size w w' := by
  obtain ⟨o0, c0, o1, c1, o2, c2, o3, c3, o4, c4, o5, c5⟩ := k
  subst hb
  exact small_n o0 o1 o2 o3 o4 o5 c0 c1 c2 c3 c4 c5 x w h.h1 h.h2 h.h3
/-- the landed Check: how many faults -/
theorem check_len (k : Iv) (x : InT) (hx : InW x) (n : Nat) (hn : (inF x).length = n) (w : World) (hT : Tab w) (h : Ins w k x) : Calls Tryz.prog 10 #[k.v x] w fun e w' => ∃ oa c, e = .returned (.slice oa n c) ∧ Below w.heap.size w w' := by
  subst hn
  refine (instCheck_n k x hx w hT h).mono ?_
  rintro e w' ⟨oa, c, rfl, -, hb⟩
  exact ⟨oa, c, rfl, hb⟩
theorem sameI_self (x : InT) : sameI x x = true := by
  unfold sameI netsB samA samS
  simp [allI, same_refl, sameO_refl]
theorem same_self (k k' : Iv) (x : InT) (hx : InC x) (w : World) (h : Ins w k x) (h' : Ins w k' x) : Calls Tryz.prog 16 #[k.v x, k'.v x] w fun e w' => e = .returned (.bool true) ∧ Below w.heap.size w w' := by
  have := sameInst_n k k' x x hx hx w h h'
  rwa [sameI_self] at this
theorem partsA (k : Iv) (x : InT) (set sub : Int) (hsm : smlB x = false) (w : World) (hT : Tab w) (hS : S.Tab w) (h : Ins w k x) :
    Calls Tryz.prog 7 #[k.v x, .int .i64 set, .int .i64 sub] w fun e w' => e = .returned (.bool true) ∧ Below w.heap.size w w' := by
  obtain ⟨o0, c0, o1, c1, o2, c2, o3, c3, o4, c4, o5, c5⟩ := k
  have KS := fun w h => small_b ⟨o0, c0, o1, c1, o2, c2, o3, c3, o4, c4, o5, c5⟩ x false hsm w h
  have HB : Below w.heap.size w w := Below.refl _ _
  show Calls _ _ #[.agg #[.slice o0 x.pl.length c0, .slice o1 x.al.length c1, .slice o2 x.tl.length c2, .slice o3 x.ol.length c3, .slice o4 x.ap.length c4, .slice o5 x.be.length c5], .int .i64 set, .int .i64 sub] _ _
  refine sx_enter Tryz.func7 rfl [(0, .agg #[.slice o0 x.pl.length c0, .slice o1 x.al.length c1, .slice o2 x.tl.length c2, .slice o3 x.ol.length c3, .slice o4 x.ap.length c4, .slice o5 x.be.length c5]), (1, .int .i64 set), (2, .int .i64 sub)] (by kernel_rfl) ?_
  refine wp_seq ?_
  refine wp_region_lit ?_
  obtain ⟨W0, hW⟩ : ∃ W, w.alloc (.cells #[.slice o0 x.pl.length c0, .slice o1 x.al.length c1, .slice o2 x.tl.length c2, .slice o3 x.ol.length c3, .slice o4 x.ap.length c4, .slice o5 x.be.length c5] 30) = W := ⟨_, rfl⟩
  have hb := hW ▸ below_alloc w (.cells #[.slice o0 x.pl.length c0, .slice o1 x.al.length c1, .slice o2 x.tl.length c2, .slice o3 x.ol.length c3, .slice o4 x.ap.length c4, .slice o5 x.be.length c5] 30)
  have hq : Cb W0 w.heap.size #[.slice o0 x.pl.length c0, .slice o1 x.al.length c1, .slice o2 x.tl.length c2, .slice o3 x.ol.length c3, .slice o4 x.ap.length c4, .slice o5 x.be.length c5] 30 := hW ▸ Cb.made w #[.slice o0 x.pl.length c0, .slice o1 x.al.length c1, .slice o2 x.tl.length c2, .slice o3 x.ol.length c3, .slice o4 x.ap.length c4, .slice o5 x.be.length c5] 30
  refine sx_mem (by kernel_rfl) rfl rfl (.pointer (some ⟨w.heap.size, 0, none⟩)) W0 (by rw [← hW]; kernel_rfl) ?_
  replace HB := over HB hb
  replace hT := hT.over hb
  replace hS := hS.over hb
  replace h := h.below hb
  have z1 := hb.size
  have MX := hq
  have yMX := hq.lt
  clear hq hb hW
  refine sx_val (by kernel_rfl) rfl rfl (.bool false) (by kernel_rfl) ?_
  refine wpList_nil ?_
  refine sx_norm ?_
  refine wp_seq ?_
  refine wp_seq ?_
  refine wp_region_lit ?_
  refine sx_load (by kernel_rfl) rfl rfl rfl MX (by kernel_rfl) Tryz.underlying30 rfl (by kernel_rfl) ?_
  refine sx_call (by kernel_rfl) rfl rfl (KS _ h) (by kernel_rfl) ?_
  rintro e W1 ⟨rfl, hb⟩
  refine ⟨_, rfl, ?_⟩
  replace HB := over HB hb
  replace hT := hT.over hb
  replace hS := hS.over hb
  replace h := h.below hb
  replace MX := MX.below hb
  have z2 := hb.size
  clear hb
  refine sx_val (by kernel_rfl) rfl rfl (.bool true) (by kernel_rfl) ?_
  refine sx_val (by kernel_rfl) rfl rfl (.bool true) (by kernel_rfl) ?_
  refine sx_skip (by kernel_rfl) rfl rfl ?_
  refine sx_skip (by kernel_rfl) rfl rfl ?_
  refine sx_skip (by kernel_rfl) rfl rfl ?_
  refine sx_skip (by kernel_rfl) rfl rfl ?_
  refine sx_val (by kernel_rfl) rfl rfl (.bool true) (by kernel_rfl) ?_
  refine wpList_nil ?_
  refine sx_norm ?_
  refine sx_true (by kernel_rfl) ?_
  refine wp_seq ?_
  refine wp_region_lit ?_
  refine sx_call (by kernel_rfl) rfl rfl (awakeI_n _ hT hS) (by kernel_rfl) ?_
  rintro e W2 ⟨rfl, hb⟩
  refine ⟨_, rfl, ?_⟩
  replace HB := over HB hb
  replace hT := hT.over hb
  replace hS := hS.over hb
  replace h := h.below hb
  replace MX := MX.below hb
  have z3 := hb.size
  clear hb
  refine sx_val (by kernel_rfl) rfl rfl (.bool true) (by kernel_rfl) ?_
  refine wpList_nil ?_
  refine sx_norm ?_
  refine wp_ret ?_
  refine sx_rs ?_
  exact sx_ret1 (.bool true) rfl rfl (by kernel_rfl) ⟨rfl, HB⟩
theorem partsB (k : Iv) (x : InT) (set sub : Int) (hx : InA x) (hsm : smlB x = true) (hin : inF x ≠ []) (w : World) (hT : Tab w) (hS : S.Tab w) (h : Ins w k x) :
    Calls Tryz.prog 7 #[k.v x, .int .i64 set, .int .i64 sub] w fun e w' => e = .returned (.bool true) ∧ Below w.heap.size w w' := by
  obtain ⟨o0, c0, o1, c1, o2, c2, o3, c3, o4, c4, o5, c5⟩ := k
  have KS := fun w h => small_b ⟨o0, c0, o1, c1, o2, c2, o3, c3, o4, c4, o5, c5⟩ x true hsm w h
  have KC := fun m hm w hT h => check_len ⟨o0, c0, o1, c1, o2, c2, o3, c3, o4, c4, o5, c5⟩ x (inW_of hx hsm) m hm w hT h
  obtain ⟨m, hm⟩ : ∃ m, (inF x).length = m := ⟨_, rfl⟩
  have hm0 : 0 < m := by rw [← hm]; exact List.length_pos_iff.2 hin
  replace KC := fun w hT h => KC m hm w hT h
  have HB : Below w.heap.size w w := Below.refl _ _
  show Calls _ _ #[.agg #[.slice o0 x.pl.length c0, .slice o1 x.al.length c1, .slice o2 x.tl.length c2, .slice o3 x.ol.length c3, .slice o4 x.ap.length c4, .slice o5 x.be.length c5], .int .i64 set, .int .i64 sub] _ _
  refine sx_enter Tryz.func7 rfl [(0, .agg #[.slice o0 x.pl.length c0, .slice o1 x.al.length c1, .slice o2 x.tl.length c2, .slice o3 x.ol.length c3, .slice o4 x.ap.length c4, .slice o5 x.be.length c5]), (1, .int .i64 set), (2, .int .i64 sub)] (by kernel_rfl) ?_
  refine wp_seq ?_
  refine wp_region_lit ?_
  obtain ⟨W0, hW⟩ : ∃ W, w.alloc (.cells #[.slice o0 x.pl.length c0, .slice o1 x.al.length c1, .slice o2 x.tl.length c2, .slice o3 x.ol.length c3, .slice o4 x.ap.length c4, .slice o5 x.be.length c5] 30) = W := ⟨_, rfl⟩
  have hb := hW ▸ below_alloc w (.cells #[.slice o0 x.pl.length c0, .slice o1 x.al.length c1, .slice o2 x.tl.length c2, .slice o3 x.ol.length c3, .slice o4 x.ap.length c4, .slice o5 x.be.length c5] 30)
  have hq : Cb W0 w.heap.size #[.slice o0 x.pl.length c0, .slice o1 x.al.length c1, .slice o2 x.tl.length c2, .slice o3 x.ol.length c3, .slice o4 x.ap.length c4, .slice o5 x.be.length c5] 30 := hW ▸ Cb.made w #[.slice o0 x.pl.length c0, .slice o1 x.al.length c1, .slice o2 x.tl.length c2, .slice o3 x.ol.length c3, .slice o4 x.ap.length c4, .slice o5 x.be.length c5] 30
  refine sx_mem (by kernel_rfl) rfl rfl (.pointer (some ⟨w.heap.size, 0, none⟩)) W0 (by rw [← hW]; kernel_rfl) ?_
  replace HB := over HB hb
  replace hT := hT.over hb
  replace hS := hS.over hb
  replace h := h.below hb
  have z1 := hb.size
  have MX := hq
  have yMX := hq.lt
  clear hq hb hW
  refine sx_val (by kernel_rfl) rfl rfl (.bool false) (by kernel_rfl) ?_
  refine wpList_nil ?_
  refine sx_norm ?_
  refine wp_seq ?_
  refine wp_seq ?_
  refine wp_region_lit ?_
  refine sx_load (by kernel_rfl) rfl rfl rfl MX (by kernel_rfl) Tryz.underlying30 rfl (by kernel_rfl) ?_
  refine sx_call (by kernel_rfl) rfl rfl (KS _ h) (by kernel_rfl) ?_
  rintro e W1 ⟨rfl, hb⟩
  refine ⟨_, rfl, ?_⟩
  replace HB := over HB hb
  replace hT := hT.over hb
  replace hS := hS.over hb
  replace h := h.below hb
  replace MX := MX.below hb
  have z2 := hb.size
  clear hb
  refine sx_val (by kernel_rfl) rfl rfl (.bool false) (by kernel_rfl) ?_
  refine sx_val (by kernel_rfl) rfl rfl (.bool false) (by kernel_rfl) ?_
  refine sx_load (by kernel_rfl) rfl rfl rfl MX (by kernel_rfl) Tryz.underlying30 rfl (by kernel_rfl) ?_
  refine sx_call (by kernel_rfl) rfl rfl (KC _ hT h) (by kernel_rfl) ?_
  rintro e W2 ⟨oa, ca, rfl, hb⟩
  refine ⟨_, rfl, ?_⟩
  replace HB := over HB hb
  replace hT := hT.over hb
  replace hS := hS.over hb
  replace h := h.below hb
  replace MX := MX.below hb
  have z3 := hb.size
  clear hb
  refine sx_val (by kernel_rfl) rfl rfl (.int .i64 m) (by kernel_rfl) ?_
  refine sx_bool (by kernel_rfl) rfl rfl (decide ((m : Int) > 0)) true (by kernel_rfl) (decide_eq_true (by omega)) ?_
  refine sx_val (by kernel_rfl) rfl rfl (.bool true) (by kernel_rfl) ?_
  refine wpList_nil ?_
  refine sx_norm ?_
  refine sx_true (by kernel_rfl) ?_
  refine wp_seq ?_
  refine wp_region_lit ?_
  refine sx_call (by kernel_rfl) rfl rfl (awakeI_n _ hT hS) (by kernel_rfl) ?_
  rintro e W3 ⟨rfl, hb⟩
  refine ⟨_, rfl, ?_⟩
  replace HB := over HB hb
  replace hT := hT.over hb
  replace hS := hS.over hb
  replace h := h.below hb
  replace MX := MX.below hb
  have z4 := hb.size
  clear hb
  refine sx_val (by kernel_rfl) rfl rfl (.bool true) (by kernel_rfl) ?_
  refine wpList_nil ?_
  refine sx_norm ?_
  refine wp_ret ?_
  refine sx_rs ?_
  exact sx_ret1 (.bool true) rfl rfl (by kernel_rfl) ⟨rfl, HB⟩
theorem partsC (k : Iv) (x : InT) (set sub : Int) (hx : InA x) (hsm : smlB x = true) (hin : inF x = []) (hs1 : -9223372036854775808 ≤ set) (hs2 : set ≤ 9223372036854775807) (ht1 : -9223372036854775808 ≤ sub) (ht2 : sub ≤ 9223372036854775807) (w : World) (hT : Tab w) (hS : S.Tab w) (h : Ins w k x) :
    Calls Tryz.prog 7 #[k.v x, .int .i64 set, .int .i64 sub] w fun e w' => e = .returned (.bool true) ∧ Below w.heap.size w w' := by
  obtain ⟨o0, c0, o1, c1, o2, c2, o3, c3, o4, c4, o5, c5⟩ := k
  have hC := inC_of hsm
  have hW := inW_of hx hsm
  have hol : x.ol.length ≤ 10 := (orderF_nil.1 (inF_nil.1 hin).2.2.1).1
  have KS := fun w h => small_b ⟨o0, c0, o1, c1, o2, c2, o3, c3, o4, c4, o5, c5⟩ x true hsm w h
  have KC := fun w hT h => check_len ⟨o0, c0, o1, c1, o2, c2, o3, c3, o4, c4, o5, c5⟩ x hW 0 (by rw [hin]; rfl) w hT h
  have HP1 : 2 ^ x.ol.length ≤ 1024 := Nat.pow_le_pow_right (by decide) hol
  have HP0 := Nat.two_pow_pos x.ol.length
  have KF : ∀ w, S.Tab w → Ins w ⟨o0, c0, o1, c1, o2, c2, o3, c3, o4, c4, o5, c5⟩ x → Calls Tryz.prog 20 #[.agg #[.slice o0 x.pl.length c0, .slice o1 x.al.length c1, .slice o2 x.tl.length c2, .slice o3 x.ol.length c3, .slice o4 x.ap.length c4, .slice o5 x.be.length c5], .int .i64 ((2 ^ x.ol.length - 1 : Nat) : Int)] w fun e w' => ∃ (a0 a1 a2 a3 a4 a5 oa : Option Addr) (b0 b1 b2 b3 b4 b5 c : Nat), e = .returned (.tuple #[.agg #[.slice a0 x.pl.length b0, .slice a1 x.al.length b1, .slice a2 x.tl.length b2, .slice a3 x.ol.length b3, .slice a4 x.ap.length b4, .slice a5 x.be.length b5], .slice oa x.ol.length c, .int .i64 0]) ∧ Ins w' ⟨a0, b0, a1, b1, a2, b2, a3, b3, a4, b4, a5, b5⟩ x ∧ Below w.heap.size w w' := fun w hS h => by
    have hfull := S.members_full (k := x.ol.length) (by omega)
    refine (only_good ⟨o0, c0, o1, c1, o2, c2, o3, c3, o4, c4, o5, c5⟩ x hC (2 ^ x.ol.length - 1) (by omega) (by rw [hfull]; intro i hi; exact List.mem_range.1 hi) w hS h).mono ?_
    rintro e w' ⟨⟨a0, b0, a1, b1, a2, b2, a3, b3, a4, b4, a5, b5⟩, oa, c, rfl, hi, -, hb⟩
    rw [only_all hin] at hi ⊢
    rw [hfull, List.length_range]
    exact ⟨a0, a1, a2, a3, a4, a5, oa, b0, b1, b2, b3, b4, b5, c, rfl, hi, hb⟩
  have HB : Below w.heap.size w w := Below.refl _ _
  show Calls _ _ #[.agg #[.slice o0 x.pl.length c0, .slice o1 x.al.length c1, .slice o2 x.tl.length c2, .slice o3 x.ol.length c3, .slice o4 x.ap.length c4, .slice o5 x.be.length c5], .int .i64 set, .int .i64 sub] _ _
  refine sx_enter Tryz.func7 rfl [(0, .agg #[.slice o0 x.pl.length c0, .slice o1 x.al.length c1, .slice o2 x.tl.length c2, .slice o3 x.ol.length c3, .slice o4 x.ap.length c4, .slice o5 x.be.length c5]), (1, .int .i64 set), (2, .int .i64 sub)] (by kernel_rfl) ?_
  refine wp_seq ?_
  refine wp_region_lit ?_
  obtain ⟨W0, hW⟩ : ∃ W, w.alloc (.cells #[.slice o0 x.pl.length c0, .slice o1 x.al.length c1, .slice o2 x.tl.length c2, .slice o3 x.ol.length c3, .slice o4 x.ap.length c4, .slice o5 x.be.length c5] 30) = W := ⟨_, rfl⟩
  have hb := hW ▸ below_alloc w (.cells #[.slice o0 x.pl.length c0, .slice o1 x.al.length c1, .slice o2 x.tl.length c2, .slice o3 x.ol.length c3, .slice o4 x.ap.length c4, .slice o5 x.be.length c5] 30)
  have hq : Cb W0 w.heap.size #[.slice o0 x.pl.length c0, .slice o1 x.al.length c1, .slice o2 x.tl.length c2, .slice o3 x.ol.length c3, .slice o4 x.ap.length c4, .slice o5 x.be.length c5] 30 := hW ▸ Cb.made w #[.slice o0 x.pl.length c0, .slice o1 x.al.length c1, .slice o2 x.tl.length c2, .slice o3 x.ol.length c3, .slice o4 x.ap.length c4, .slice o5 x.be.length c5] 30
  refine sx_mem (by kernel_rfl) rfl rfl (.pointer (some ⟨w.heap.size, 0, none⟩)) W0 (by rw [← hW]; kernel_rfl) ?_
  replace HB := over HB hb
  replace hT := hT.over hb
  replace hS := hS.over hb
  replace h := h.below hb
  have z1 := hb.size
  have MX := hq
  have yMX := hq.lt
  clear hq hb hW
  refine sx_val (by kernel_rfl) rfl rfl (.bool false) (by kernel_rfl) ?_
  refine wpList_nil ?_
  refine sx_norm ?_
  refine wp_seq ?_
  refine wp_seq ?_
  refine wp_region_lit ?_
  refine sx_load (by kernel_rfl) rfl rfl rfl MX (by kernel_rfl) Tryz.underlying30 rfl (by kernel_rfl) ?_
  refine sx_call (by kernel_rfl) rfl rfl (KS _ h) (by kernel_rfl) ?_
  rintro e W1 ⟨rfl, hb⟩
  refine ⟨_, rfl, ?_⟩
  replace HB := over HB hb
  replace hT := hT.over hb
  replace hS := hS.over hb
  replace h := h.below hb
  replace MX := MX.below hb
  have z2 := hb.size
  clear hb
  refine sx_val (by kernel_rfl) rfl rfl (.bool false) (by kernel_rfl) ?_
  refine sx_val (by kernel_rfl) rfl rfl (.bool false) (by kernel_rfl) ?_
  refine sx_load (by kernel_rfl) rfl rfl rfl MX (by kernel_rfl) Tryz.underlying30 rfl (by kernel_rfl) ?_
  refine sx_call (by kernel_rfl) rfl rfl (KC _ hT h) (by kernel_rfl) ?_
  rintro e W2 ⟨oc, cc, rfl, hb⟩
  refine ⟨_, rfl, ?_⟩
  replace HB := over HB hb
  replace hT := hT.over hb
  replace hS := hS.over hb
  replace h := h.below hb
  replace MX := MX.below hb
  have z3 := hb.size
  clear hb
  refine sx_val (by kernel_rfl) rfl rfl (.int .i64 0) (by kernel_rfl) ?_
  refine sx_val (by kernel_rfl) rfl rfl (.bool false) (by kernel_rfl) ?_
  refine sx_val (by kernel_rfl) rfl rfl (.bool false) (by kernel_rfl) ?_
  refine wpList_nil ?_
  refine sx_norm ?_
  refine sx_false (by kernel_rfl) ?_
  refine wp_skip ?_
  refine sx_norm ?_
  refine wp_seq ?_
  refine wp_region_lit ?_
  refine sx_load (by kernel_rfl) rfl rfl rfl MX (by kernel_rfl) Tryz.underlying30 rfl (by kernel_rfl) ?_
  refine sx_val (by kernel_rfl) rfl rfl (.pointer (some ⟨w.heap.size, 3, none⟩)) (by kernel_rfl) ?_
  refine sx_load1 (by kernel_rfl) rfl rfl rfl (MX.cell 3 rfl) (by kernel_rfl) Tryz.underlying27 rfl ?_
  refine sx_val (by kernel_rfl) rfl rfl (.int .i64 x.ol.length) (by kernel_rfl) ?_
  refine sx_int (by kernel_rfl) rfl rfl .u64 (IntKind.u64.wrap (x.ol.length : Int)) (((x.ol.length : Nat) : Int)) (by kernel_rfl) (by rw [IntKind.wrap_u64]; omega) ?_
  refine sx_shl (by kernel_rfl) rfl rfl rfl 1 (x.ol.length) (((2 ^ x.ol.length : Nat) : Int)) (by kernel_rfl) (by kernel_rfl) (by omega) (by rw [IntKind.wrap_i64, show (2 : Int) ^ (x.ol.length) = ((2 ^ (x.ol.length) : Nat) : Int) by simp]; omega) ?_
  refine sx_int (by kernel_rfl) rfl rfl .i64 (IntKind.i64.wrap (((2 ^ x.ol.length : Nat) : Int) - 1)) (((2 ^ x.ol.length - 1 : Nat) : Int)) (by kernel_rfl) (by rw [IntKind.wrap_i64]; omega) ?_
  refine sx_call (by kernel_rfl) rfl rfl (KF _ hS h) (by kernel_rfl) ?_
  rintro e W3 ⟨a0, a1, a2, a3, a4, a5, oa, b0, b1, b2, b3, b4, b5, ca, rfl, hA, hb⟩
  refine ⟨_, rfl, ?_⟩
  replace HB := over HB hb
  replace hT := hT.over hb
  replace hS := hS.over hb
  replace h := h.below hb
  replace MX := MX.below hb
  have z4 := hb.size
  clear hb
  refine sx_val (by kernel_rfl) rfl rfl (.tuple #[.agg #[.slice a0 x.pl.length b0, .slice a1 x.al.length b1, .slice a2 x.tl.length b2, .slice a3 x.ol.length b3, .slice a4 x.ap.length b4, .slice a5 x.be.length b5], .slice oa x.ol.length ca, .int .i64 0]) (by kernel_rfl) ?_
  refine sx_val (by kernel_rfl) rfl rfl (.agg #[.slice a0 x.pl.length b0, .slice a1 x.al.length b1, .slice a2 x.tl.length b2, .slice a3 x.ol.length b3, .slice a4 x.ap.length b4, .slice a5 x.be.length b5]) (by kernel_rfl) ?_
  refine sx_val (by kernel_rfl) rfl rfl (.slice oa x.ol.length ca) (by kernel_rfl) ?_
  refine sx_val (by kernel_rfl) rfl rfl (.int .i64 0) (by kernel_rfl) ?_
  obtain ⟨W4, hW⟩ : ∃ W, (W3.alloc (.cells #[.slice none 0 0, .slice none 0 0, .slice none 0 0, .slice none 0 0, .slice none 0 0, .slice none 0 0] 30)).setRow W3.heap.size #[.slice a0 x.pl.length b0, .slice a1 x.al.length b1, .slice a2 x.tl.length b2, .slice a3 x.ol.length b3, .slice a4 x.ap.length b4, .slice a5 x.be.length b5] = W := ⟨_, rfl⟩
  have hb := hW ▸ below_var W3 (.cells #[.slice none 0 0, .slice none 0 0, .slice none 0 0, .slice none 0 0, .slice none 0 0, .slice none 0 0] 30) #[.slice a0 x.pl.length b0, .slice a1 x.al.length b1, .slice a2 x.tl.length b2, .slice a3 x.ol.length b3, .slice a4 x.ap.length b4, .slice a5 x.be.length b5]
  have hq : Cb W4 W3.heap.size #[.slice a0 x.pl.length b0, .slice a1 x.al.length b1, .slice a2 x.tl.length b2, .slice a3 x.ol.length b3, .slice a4 x.ap.length b4, .slice a5 x.be.length b5] 30 := hW ▸ Cb.row (Cb.made W3 #[.slice none 0 0, .slice none 0 0, .slice none 0 0, .slice none 0 0, .slice none 0 0, .slice none 0 0] 30) _
  refine sx_mem (by kernel_rfl) rfl rfl (.pointer (some ⟨W3.heap.size, 0, none⟩)) (W3.alloc (.cells #[.slice none 0 0, .slice none 0 0, .slice none 0 0, .slice none 0 0, .slice none 0 0, .slice none 0 0] 30)) (by kernel_rfl) ?_
  refine sx_store (cells := #[.slice a0 x.pl.length b0, .slice a1 x.al.length b1, .slice a2 x.tl.length b2, .slice a3 x.ol.length b3, .slice a4 x.ap.length b4, .slice a5 x.be.length b5]) (by kernel_rfl) rfl rfl (Cb.made W3 #[.slice none 0 0, .slice none 0 0, .slice none 0 0, .slice none 0 0, .slice none 0 0, .slice none 0 0] 30) (by kernel_rfl) (by kernel_rfl) (by kernel_rfl) (by kernel_rfl) (by kernel_rfl) ?_
  rw [hW]
  replace HB := over HB hb
  replace hT := hT.over hb
  replace hS := hS.over hb
  replace h := h.below hb
  replace MX := MX.below hb
  replace hA := hA.below hb
  have z5 := hb.size
  have MA := hq
  have yMA := hq.lt
  clear hq hb hW
  refine sx_val (by kernel_rfl) rfl rfl (.slice oa x.ol.length ca) (by kernel_rfl) ?_
  refine sx_val (by kernel_rfl) rfl rfl (.int .i64 0) (by kernel_rfl) ?_
  refine wpList_nil ?_
  refine sx_norm ?_
  refine wp_seq ?_
  refine wp_seq ?_
  refine wp_region_lit ?_
  refine sx_val (by kernel_rfl) rfl rfl (.int .i64 0) (by kernel_rfl) ?_
  refine sx_val (by kernel_rfl) rfl rfl (.bool false) (by kernel_rfl) ?_
  refine sx_val (by kernel_rfl) rfl rfl (.bool false) (by kernel_rfl) ?_
  refine sx_val (by kernel_rfl) rfl rfl (.slice oa x.ol.length ca) (by kernel_rfl) ?_
  refine sx_val (by kernel_rfl) rfl rfl (.int .i64 x.ol.length) (by kernel_rfl) ?_
  refine sx_val (by kernel_rfl) rfl rfl (.pointer (some ⟨w.heap.size, 3, none⟩)) (by kernel_rfl) ?_
  refine sx_load1 (by kernel_rfl) rfl rfl rfl (MX.cell 3 rfl) (by kernel_rfl) Tryz.underlying27 rfl ?_
  refine sx_val (by kernel_rfl) rfl rfl (.int .i64 x.ol.length) (by kernel_rfl) ?_
  refine sx_bool (by kernel_rfl) rfl rfl ((x.ol.length : Int) != (x.ol.length : Int)) false (by kernel_rfl) (by simp) ?_
  refine sx_val (by kernel_rfl) rfl rfl (.bool false) (by kernel_rfl) ?_
  refine sx_val (by kernel_rfl) rfl rfl (.bool false) (by kernel_rfl) ?_
  refine sx_load (by kernel_rfl) rfl rfl rfl MA (by kernel_rfl) Tryz.underlying30 rfl (by kernel_rfl) ?_
  refine sx_load (by kernel_rfl) rfl rfl rfl MX (by kernel_rfl) Tryz.underlying30 rfl (by kernel_rfl) ?_
  refine sx_call (by kernel_rfl) rfl rfl (same_self ⟨a0, b0, a1, b1, a2, b2, a3, b3, a4, b4, a5, b5⟩ ⟨o0, c0, o1, c1, o2, c2, o3, c3, o4, c4, o5, c5⟩ x hC _ hA h) (by kernel_rfl) ?_
  rintro e W5 ⟨rfl, hb⟩
  refine ⟨_, rfl, ?_⟩
  replace HB := over HB hb
  replace hT := hT.over hb
  replace hS := hS.over hb
  replace h := h.below hb
  replace MX := MX.below hb
  replace hA := hA.below hb
  replace MA := MA.below hb
  have z6 := hb.size
  clear hb
  refine sx_val (by kernel_rfl) rfl rfl (.bool false) (by kernel_rfl) ?_
  refine sx_val (by kernel_rfl) rfl rfl (.bool false) (by kernel_rfl) ?_
  refine wpList_nil ?_
  refine sx_norm ?_
  refine sx_false (by kernel_rfl) ?_
  refine wp_skip ?_
  refine sx_norm ?_
  refine wp_seq ?_
  refine wp_region_lit ?_
  refine sx_load (by kernel_rfl) rfl rfl rfl MX (by kernel_rfl) Tryz.underlying30 rfl (by kernel_rfl) ?_
  refine sx_val (by kernel_rfl) rfl rfl (.int .i64 set) (by kernel_rfl) ?_
  refine sx_call (by kernel_rfl) rfl rfl (only_n ⟨o0, c0, o1, c1, o2, c2, o3, c3, o4, c4, o5, c5⟩ x hC set hs1 hs2 _ hS h) (by kernel_rfl) ?_
  rintro e W6 (⟨rfl, hb⟩ | ⟨n, hn, p0, p1, p2, p3, p4, p5, ol, d0, d1, d2, d3, d4, d5, cl, rfl, hi, hno, hb⟩)
  · refine ⟨_, rfl, ?_⟩
    replace HB := over HB hb
    replace hT := hT.over hb
    replace hS := hS.over hb
    replace h := h.below hb
    replace MX := MX.below hb
    have z7 := hb.size
    clear hb
    refine sx_val (by kernel_rfl) rfl rfl (.tuple #[.agg #[.slice none 0 0, .slice none 0 0, .slice none 0 0, .slice none 0 0, .slice none 0 0, .slice none 0 0], .slice none 0 0, .int .i64 2]) (by kernel_rfl) ?_
    refine sx_val (by kernel_rfl) rfl rfl (.agg #[.slice none 0 0, .slice none 0 0, .slice none 0 0, .slice none 0 0, .slice none 0 0, .slice none 0 0]) (by kernel_rfl) ?_
    refine sx_val (by kernel_rfl) rfl rfl (.slice none 0 0) (by kernel_rfl) ?_
    refine sx_val (by kernel_rfl) rfl rfl (.int .i64 2) (by kernel_rfl) ?_
    obtain ⟨W7, hW⟩ : ∃ W, (W6.alloc (.cells #[.slice none 0 0, .slice none 0 0, .slice none 0 0, .slice none 0 0, .slice none 0 0, .slice none 0 0] 30)).setRow W6.heap.size #[.slice none 0 0, .slice none 0 0, .slice none 0 0, .slice none 0 0, .slice none 0 0, .slice none 0 0] = W := ⟨_, rfl⟩
    have hb := hW ▸ below_var W6 (.cells #[.slice none 0 0, .slice none 0 0, .slice none 0 0, .slice none 0 0, .slice none 0 0, .slice none 0 0] 30) #[.slice none 0 0, .slice none 0 0, .slice none 0 0, .slice none 0 0, .slice none 0 0, .slice none 0 0]
    have hq : Cb W7 W6.heap.size #[.slice none 0 0, .slice none 0 0, .slice none 0 0, .slice none 0 0, .slice none 0 0, .slice none 0 0] 30 := hW ▸ Cb.row (Cb.made W6 #[.slice none 0 0, .slice none 0 0, .slice none 0 0, .slice none 0 0, .slice none 0 0, .slice none 0 0] 30) _
    refine sx_mem (by kernel_rfl) rfl rfl (.pointer (some ⟨W6.heap.size, 0, none⟩)) (W6.alloc (.cells #[.slice none 0 0, .slice none 0 0, .slice none 0 0, .slice none 0 0, .slice none 0 0, .slice none 0 0] 30)) (by kernel_rfl) ?_
    refine sx_store (cells := #[.slice none 0 0, .slice none 0 0, .slice none 0 0, .slice none 0 0, .slice none 0 0, .slice none 0 0]) (by kernel_rfl) rfl rfl (Cb.made W6 #[.slice none 0 0, .slice none 0 0, .slice none 0 0, .slice none 0 0, .slice none 0 0, .slice none 0 0] 30) (by kernel_rfl) (by kernel_rfl) (by kernel_rfl) (by kernel_rfl) (by kernel_rfl) ?_
    rw [hW]
    replace HB := over HB hb
    replace hT := hT.over hb
    replace hS := hS.over hb
    replace h := h.below hb
    replace MX := MX.below hb
    have z8 := hb.size
    have MN := hq
    have yMN := hq.lt
    clear hq hb hW
    refine sx_val (by kernel_rfl) rfl rfl (.slice none 0 0) (by kernel_rfl) ?_
    refine sx_val (by kernel_rfl) rfl rfl (.int .i64 2) (by kernel_rfl) ?_
    refine wpList_nil ?_
    refine sx_norm ?_
    refine wp_seq ?_
    refine wp_seq ?_
    refine wp_region_lit ?_
    refine sx_val (by kernel_rfl) rfl rfl (.int .i64 2) (by kernel_rfl) ?_
    refine sx_val (by kernel_rfl) rfl rfl (.bool true) (by kernel_rfl) ?_
    refine wpList_nil ?_
    refine sx_norm ?_
    refine sx_true (by kernel_rfl) ?_
    refine wp_seq ?_
    refine wp_region_lit ?_
    refine sx_call (by kernel_rfl) rfl rfl (awakeI_n _ hT hS) (by kernel_rfl) ?_
    rintro e W7a ⟨rfl, hb⟩
    refine ⟨_, rfl, ?_⟩
    replace HB := over HB hb
    replace hT := hT.over hb
    replace hS := hS.over hb
    replace h := h.below hb
    replace MX := MX.below hb
    replace MN := MN.below hb
    have z9 := hb.size
    clear hb
    refine sx_val (by kernel_rfl) rfl rfl (.bool true) (by kernel_rfl) ?_
    refine wpList_nil ?_
    refine sx_norm ?_
    refine wp_ret ?_
    refine sx_rs ?_
    exact sx_ret1 (.bool true) rfl rfl (by kernel_rfl) ⟨rfl, HB⟩
  have hyw := only_w hW hn
  have hyc := only_c hC hn
  have hyi := only_ok hn hin
  have hyl : (onlyI x n).ol.length = (S.members n).length := (only_len hn).1
  obtain ⟨y, hy⟩ : ∃ y, onlyI x n = y := ⟨_, rfl⟩
  rw [hy] at hyw hyc hyi hyl hi ⊢
  refine ⟨_, rfl, ?_⟩
  replace HB := over HB hb
  replace hT := hT.over hb
  replace hS := hS.over hb
  replace h := h.below hb
  replace MX := MX.below hb
  have z7 := hb.size
  replace hi := hi
  clear hb
  refine sx_val (by kernel_rfl) rfl rfl (.tuple #[.agg #[.slice p0 y.pl.length d0, .slice p1 y.al.length d1, .slice p2 y.tl.length d2, .slice p3 y.ol.length d3, .slice p4 y.ap.length d4, .slice p5 y.be.length d5], .slice ol y.ol.length cl, .int .i64 0]) (by kernel_rfl) ?_
  refine sx_val (by kernel_rfl) rfl rfl (.agg #[.slice p0 y.pl.length d0, .slice p1 y.al.length d1, .slice p2 y.tl.length d2, .slice p3 y.ol.length d3, .slice p4 y.ap.length d4, .slice p5 y.be.length d5]) (by kernel_rfl) ?_
  refine sx_val (by kernel_rfl) rfl rfl (.slice ol y.ol.length cl) (by kernel_rfl) ?_
  refine sx_val (by kernel_rfl) rfl rfl (.int .i64 0) (by kernel_rfl) ?_
  obtain ⟨W7, hW⟩ : ∃ W, (W6.alloc (.cells #[.slice none 0 0, .slice none 0 0, .slice none 0 0, .slice none 0 0, .slice none 0 0, .slice none 0 0] 30)).setRow W6.heap.size #[.slice p0 y.pl.length d0, .slice p1 y.al.length d1, .slice p2 y.tl.length d2, .slice p3 y.ol.length d3, .slice p4 y.ap.length d4, .slice p5 y.be.length d5] = W := ⟨_, rfl⟩
  have hb := hW ▸ below_var W6 (.cells #[.slice none 0 0, .slice none 0 0, .slice none 0 0, .slice none 0 0, .slice none 0 0, .slice none 0 0] 30) #[.slice p0 y.pl.length d0, .slice p1 y.al.length d1, .slice p2 y.tl.length d2, .slice p3 y.ol.length d3, .slice p4 y.ap.length d4, .slice p5 y.be.length d5]
  have hq : Cb W7 W6.heap.size #[.slice p0 y.pl.length d0, .slice p1 y.al.length d1, .slice p2 y.tl.length d2, .slice p3 y.ol.length d3, .slice p4 y.ap.length d4, .slice p5 y.be.length d5] 30 := hW ▸ Cb.row (Cb.made W6 #[.slice none 0 0, .slice none 0 0, .slice none 0 0, .slice none 0 0, .slice none 0 0, .slice none 0 0] 30) _
  refine sx_mem (by kernel_rfl) rfl rfl (.pointer (some ⟨W6.heap.size, 0, none⟩)) (W6.alloc (.cells #[.slice none 0 0, .slice none 0 0, .slice none 0 0, .slice none 0 0, .slice none 0 0, .slice none 0 0] 30)) (by kernel_rfl) ?_
  refine sx_store (cells := #[.slice p0 y.pl.length d0, .slice p1 y.al.length d1, .slice p2 y.tl.length d2, .slice p3 y.ol.length d3, .slice p4 y.ap.length d4, .slice p5 y.be.length d5]) (by kernel_rfl) rfl rfl (Cb.made W6 #[.slice none 0 0, .slice none 0 0, .slice none 0 0, .slice none 0 0, .slice none 0 0, .slice none 0 0] 30) (by kernel_rfl) (by kernel_rfl) (by kernel_rfl) (by kernel_rfl) (by kernel_rfl) ?_
  rw [hW]
  replace HB := over HB hb
  replace hT := hT.over hb
  replace hS := hS.over hb
  replace h := h.below hb
  replace MX := MX.below hb
  replace hi := hi.below hb
  replace hno := hno.below hb
  have z8 := hb.size
  have MY := hq
  have yMY := hq.lt
  clear hq hb hW
  refine sx_val (by kernel_rfl) rfl rfl (.slice ol y.ol.length cl) (by kernel_rfl) ?_
  refine sx_val (by kernel_rfl) rfl rfl (.int .i64 0) (by kernel_rfl) ?_
  refine wpList_nil ?_
  refine sx_norm ?_
  refine wp_seq ?_
  refine wp_seq ?_
  refine wp_region_lit ?_
  refine sx_val (by kernel_rfl) rfl rfl (.int .i64 0) (by kernel_rfl) ?_
  refine sx_val (by kernel_rfl) rfl rfl (.bool false) (by kernel_rfl) ?_
  refine wpList_nil ?_
  refine sx_norm ?_
  refine sx_false (by kernel_rfl) ?_
  refine wp_skip ?_
  refine sx_norm ?_
  refine wp_seq ?_
  refine wp_seq ?_
  refine wp_region_lit ?_
  refine sx_load (by kernel_rfl) rfl rfl rfl MY (by kernel_rfl) Tryz.underlying30 rfl (by kernel_rfl) ?_
  refine sx_call (by kernel_rfl) rfl rfl (check_len ⟨p0, d0, p1, d1, p2, d2, p3, d3, p4, d4, p5, d5⟩ y hyw 0 (by rw [hyi]; rfl) _ hT hi) (by kernel_rfl) ?_
  rintro e W9 ⟨od, cd, rfl, hb⟩
  refine ⟨_, rfl, ?_⟩
  replace HB := over HB hb
  replace hT := hT.over hb
  replace hS := hS.over hb
  replace h := h.below hb
  replace MX := MX.below hb
  replace hi := hi.below hb
  replace hno := hno.below hb
  replace MY := MY.below hb
  have z9 := hb.size
  clear hb
  refine sx_val (by kernel_rfl) rfl rfl (.int .i64 0) (by kernel_rfl) ?_
  refine sx_val (by kernel_rfl) rfl rfl (.bool false) (by kernel_rfl) ?_
  refine sx_val (by kernel_rfl) rfl rfl (.bool false) (by kernel_rfl) ?_
  refine sx_val (by kernel_rfl) rfl rfl (.slice ol y.ol.length cl) (by kernel_rfl) ?_
  refine sx_val (by kernel_rfl) rfl rfl (.int .i64 y.ol.length) (by kernel_rfl) ?_
  refine sx_val (by kernel_rfl) rfl rfl (.pointer (some ⟨W6.heap.size, 3, none⟩)) (by kernel_rfl) ?_
  refine sx_load1 (by kernel_rfl) rfl rfl rfl (MY.cell 3 rfl) (by kernel_rfl) Tryz.underlying27 rfl ?_
  refine sx_val (by kernel_rfl) rfl rfl (.int .i64 y.ol.length) (by kernel_rfl) ?_
  refine sx_bool (by kernel_rfl) rfl rfl ((y.ol.length : Int) != (y.ol.length : Int)) false (by kernel_rfl) (by simp) ?_
  refine sx_val (by kernel_rfl) rfl rfl (.bool false) (by kernel_rfl) ?_
  refine wpList_nil ?_
  refine sx_norm ?_
  refine sx_false (by kernel_rfl) ?_
  refine wp_skip ?_
  refine sx_norm ?_
  refine wp_seq ?_
  refine wp_region_lit ?_
  refine sx_load (by kernel_rfl) rfl rfl rfl MY (by kernel_rfl) Tryz.underlying30 rfl (by kernel_rfl) ?_
  refine sx_val (by kernel_rfl) rfl rfl (.int .i64 sub) (by kernel_rfl) ?_
  refine sx_call (by kernel_rfl) rfl rfl (only_n ⟨p0, d0, p1, d1, p2, d2, p3, d3, p4, d4, p5, d5⟩ y hyc sub ht1 ht2 _ hS hi) (by kernel_rfl) ?_
  rintro e W11 (⟨rfl, hb⟩ | ⟨m, hm, r0, r1, r2, r3, r4, r5, ok, f0, f1, f2, f3, f4, f5, ck, rfl, hv, hnk, hb⟩)
  · refine ⟨_, rfl, ?_⟩
    replace HB := over HB hb
    replace hT := hT.over hb
    replace hS := hS.over hb
    replace h := h.below hb
    replace MX := MX.below hb
    replace hi := hi.below hb
    replace hno := hno.below hb
    replace MY := MY.below hb
    have z10 := hb.size
    clear hb
    refine sx_val (by kernel_rfl) rfl rfl (.tuple #[.agg #[.slice none 0 0, .slice none 0 0, .slice none 0 0, .slice none 0 0, .slice none 0 0, .slice none 0 0], .slice none 0 0, .int .i64 2]) (by kernel_rfl) ?_
    refine sx_val (by kernel_rfl) rfl rfl (.agg #[.slice none 0 0, .slice none 0 0, .slice none 0 0, .slice none 0 0, .slice none 0 0, .slice none 0 0]) (by kernel_rfl) ?_
    refine sx_val (by kernel_rfl) rfl rfl (.slice none 0 0) (by kernel_rfl) ?_
    refine sx_val (by kernel_rfl) rfl rfl (.int .i64 2) (by kernel_rfl) ?_
    obtain ⟨W12, hW⟩ : ∃ W, (W11.alloc (.cells #[.slice none 0 0, .slice none 0 0, .slice none 0 0, .slice none 0 0, .slice none 0 0, .slice none 0 0] 30)).setRow W11.heap.size #[.slice none 0 0, .slice none 0 0, .slice none 0 0, .slice none 0 0, .slice none 0 0, .slice none 0 0] = W := ⟨_, rfl⟩
    have hb := hW ▸ below_var W11 (.cells #[.slice none 0 0, .slice none 0 0, .slice none 0 0, .slice none 0 0, .slice none 0 0, .slice none 0 0] 30) #[.slice none 0 0, .slice none 0 0, .slice none 0 0, .slice none 0 0, .slice none 0 0, .slice none 0 0]
    have hq : Cb W12 W11.heap.size #[.slice none 0 0, .slice none 0 0, .slice none 0 0, .slice none 0 0, .slice none 0 0, .slice none 0 0] 30 := hW ▸ Cb.row (Cb.made W11 #[.slice none 0 0, .slice none 0 0, .slice none 0 0, .slice none 0 0, .slice none 0 0, .slice none 0 0] 30) _
    refine sx_mem (by kernel_rfl) rfl rfl (.pointer (some ⟨W11.heap.size, 0, none⟩)) (W11.alloc (.cells #[.slice none 0 0, .slice none 0 0, .slice none 0 0, .slice none 0 0, .slice none 0 0, .slice none 0 0] 30)) (by kernel_rfl) ?_
    refine sx_store (cells := #[.slice none 0 0, .slice none 0 0, .slice none 0 0, .slice none 0 0, .slice none 0 0, .slice none 0 0]) (by kernel_rfl) rfl rfl (Cb.made W11 #[.slice none 0 0, .slice none 0 0, .slice none 0 0, .slice none 0 0, .slice none 0 0, .slice none 0 0] 30) (by kernel_rfl) (by kernel_rfl) (by kernel_rfl) (by kernel_rfl) (by kernel_rfl) ?_
    rw [hW]
    replace HB := over HB hb
    replace hT := hT.over hb
    replace hS := hS.over hb
    replace h := h.below hb
    replace MX := MX.below hb
    replace hi := hi.below hb
    replace hno := hno.below hb
    replace MY := MY.below hb
    have z11 := hb.size
    have MN := hq
    have yMN := hq.lt
    clear hq hb hW
    refine sx_val (by kernel_rfl) rfl rfl (.slice none 0 0) (by kernel_rfl) ?_
    refine sx_val (by kernel_rfl) rfl rfl (.int .i64 2) (by kernel_rfl) ?_
    refine wpList_nil ?_
    refine sx_norm ?_
    refine wp_seq ?_
    refine wp_seq ?_
    refine wp_region_lit ?_
    refine sx_val (by kernel_rfl) rfl rfl (.int .i64 2) (by kernel_rfl) ?_
    refine sx_val (by kernel_rfl) rfl rfl (.bool true) (by kernel_rfl) ?_
    refine wpList_nil ?_
    refine sx_norm ?_
    refine sx_true (by kernel_rfl) ?_
    refine wp_seq ?_
    refine wp_region_lit ?_
    refine sx_call (by kernel_rfl) rfl rfl (awakeI_n _ hT hS) (by kernel_rfl) ?_
    rintro e W12a ⟨rfl, hb⟩
    refine ⟨_, rfl, ?_⟩
    replace HB := over HB hb
    replace hT := hT.over hb
    replace hS := hS.over hb
    replace h := h.below hb
    replace MX := MX.below hb
    replace hi := hi.below hb
    replace hno := hno.below hb
    replace MY := MY.below hb
    replace MN := MN.below hb
    have z12 := hb.size
    clear hb
    refine sx_val (by kernel_rfl) rfl rfl (.bool true) (by kernel_rfl) ?_
    refine wpList_nil ?_
    refine sx_norm ?_
    refine wp_ret ?_
    refine sx_rs ?_
    exact sx_ret1 (.bool true) rfl rfl (by kernel_rfl) ⟨rfl, HB⟩
  have hvc := only_c hyc hm
  have hvl : (onlyI y m).ol.length = (S.members m).length := (only_len hm).1
  have hmk : ∀ k ∈ S.members m, k < (S.members n).length := fun k hk => by rw [← hyl]; exact hm k hk
  have hve : onlyI y m = onlyI x (S.lay n m) := by rw [← hy]; exact only_only hmk
  have hlm := S.members_lay hmk
  have h10 := uj_lt hmk (fun i hi => Nat.lt_of_lt_of_le (hn i hi) hol)
  have KL : ∀ w, S.Tab w → Ins w ⟨o0, c0, o1, c1, o2, c2, o3, c3, o4, c4, o5, c5⟩ x → Calls Tryz.prog 20 #[.agg #[.slice o0 x.pl.length c0, .slice o1 x.al.length c1, .slice o2 x.tl.length c2, .slice o3 x.ol.length c3, .slice o4 x.ap.length c4, .slice o5 x.be.length c5], .int .i64 ((Uj n m (S.members m).length : Nat) : Int)] w fun e w' => ∃ (a0 a1 a2 a3 a4 a5 oa : Option Addr) (b0 b1 b2 b3 b4 b5 c : Nat), e = .returned (.tuple #[.agg #[.slice a0 (onlyI y m).pl.length b0, .slice a1 (onlyI y m).al.length b1, .slice a2 (onlyI y m).tl.length b2, .slice a3 (onlyI y m).ol.length b3, .slice a4 (onlyI y m).ap.length b4, .slice a5 (onlyI y m).be.length b5], .slice oa (onlyI y m).ol.length c, .int .i64 0]) ∧ Ins w' ⟨a0, b0, a1, b1, a2, b2, a3, b3, a4, b4, a5, b5⟩ (onlyI y m) ∧ Below w.heap.size w w' := fun w hS h => by
    have h11 := h10 (S.members m).length
    rw [uj_full] at h11 ⊢
    refine (only_good ⟨o0, c0, o1, c1, o2, c2, o3, c3, o4, c4, o5, c5⟩ x hC (S.lay n m) (by omega) (by rw [hlm]; intro i hi; obtain ⟨k, hk, rfl⟩ := List.mem_map.1 hi; exact hn _ (S.mem_at (hmk k hk))) w hS h).mono ?_
    rintro e w' ⟨⟨a0, b0, a1, b1, a2, b2, a3, b3, a4, b4, a5, b5⟩, oa, c, rfl, hi, -, hb⟩
    rw [← hve] at hi ⊢
    rw [hlm, List.length_map, ← hvl]
    exact ⟨a0, a1, a2, a3, a4, a5, oa, b0, b1, b2, b3, b4, b5, c, rfl, hi, hb⟩
  obtain ⟨v, hvv⟩ : ∃ v, onlyI y m = v := ⟨_, rfl⟩
  rw [hvv] at hvc hvl KL hv ⊢
  refine ⟨_, rfl, ?_⟩
  replace HB := over HB hb
  replace hT := hT.over hb
  replace hS := hS.over hb
  replace h := h.below hb
  replace MX := MX.below hb
  replace hi := hi.below hb
  replace hno := hno.below hb
  replace MY := MY.below hb
  have z10 := hb.size
  replace hv := hv
  clear hb
  refine sx_val (by kernel_rfl) rfl rfl (.tuple #[.agg #[.slice r0 v.pl.length f0, .slice r1 v.al.length f1, .slice r2 v.tl.length f2, .slice r3 v.ol.length f3, .slice r4 v.ap.length f4, .slice r5 v.be.length f5], .slice ok v.ol.length ck, .int .i64 0]) (by kernel_rfl) ?_
  refine sx_val (by kernel_rfl) rfl rfl (.agg #[.slice r0 v.pl.length f0, .slice r1 v.al.length f1, .slice r2 v.tl.length f2, .slice r3 v.ol.length f3, .slice r4 v.ap.length f4, .slice r5 v.be.length f5]) (by kernel_rfl) ?_
  refine sx_val (by kernel_rfl) rfl rfl (.slice ok v.ol.length ck) (by kernel_rfl) ?_
  refine sx_val (by kernel_rfl) rfl rfl (.int .i64 0) (by kernel_rfl) ?_
  obtain ⟨W12, hW⟩ : ∃ W, (W11.alloc (.cells #[.slice none 0 0, .slice none 0 0, .slice none 0 0, .slice none 0 0, .slice none 0 0, .slice none 0 0] 30)).setRow W11.heap.size #[.slice r0 v.pl.length f0, .slice r1 v.al.length f1, .slice r2 v.tl.length f2, .slice r3 v.ol.length f3, .slice r4 v.ap.length f4, .slice r5 v.be.length f5] = W := ⟨_, rfl⟩
  have hb := hW ▸ below_var W11 (.cells #[.slice none 0 0, .slice none 0 0, .slice none 0 0, .slice none 0 0, .slice none 0 0, .slice none 0 0] 30) #[.slice r0 v.pl.length f0, .slice r1 v.al.length f1, .slice r2 v.tl.length f2, .slice r3 v.ol.length f3, .slice r4 v.ap.length f4, .slice r5 v.be.length f5]
  have hq : Cb W12 W11.heap.size #[.slice r0 v.pl.length f0, .slice r1 v.al.length f1, .slice r2 v.tl.length f2, .slice r3 v.ol.length f3, .slice r4 v.ap.length f4, .slice r5 v.be.length f5] 30 := hW ▸ Cb.row (Cb.made W11 #[.slice none 0 0, .slice none 0 0, .slice none 0 0, .slice none 0 0, .slice none 0 0, .slice none 0 0] 30) _
  refine sx_mem (by kernel_rfl) rfl rfl (.pointer (some ⟨W11.heap.size, 0, none⟩)) (W11.alloc (.cells #[.slice none 0 0, .slice none 0 0, .slice none 0 0, .slice none 0 0, .slice none 0 0, .slice none 0 0] 30)) (by kernel_rfl) ?_
  refine sx_store (cells := #[.slice r0 v.pl.length f0, .slice r1 v.al.length f1, .slice r2 v.tl.length f2, .slice r3 v.ol.length f3, .slice r4 v.ap.length f4, .slice r5 v.be.length f5]) (by kernel_rfl) rfl rfl (Cb.made W11 #[.slice none 0 0, .slice none 0 0, .slice none 0 0, .slice none 0 0, .slice none 0 0, .slice none 0 0] 30) (by kernel_rfl) (by kernel_rfl) (by kernel_rfl) (by kernel_rfl) (by kernel_rfl) ?_
  rw [hW]
  replace HB := over HB hb
  replace hT := hT.over hb
  replace hS := hS.over hb
  replace h := h.below hb
  replace MX := MX.below hb
  replace hi := hi.below hb
  replace hno := hno.below hb
  replace MY := MY.below hb
  replace hv := hv.below hb
  replace hnk := hnk.below hb
  have z11 := hb.size
  have MV := hq
  have yMV := hq.lt
  clear hq hb hW
  refine sx_val (by kernel_rfl) rfl rfl (.slice ok v.ol.length ck) (by kernel_rfl) ?_
  refine sx_val (by kernel_rfl) rfl rfl (.int .i64 0) (by kernel_rfl) ?_
  refine wpList_nil ?_
  refine sx_norm ?_
  refine wp_seq ?_
  refine wp_seq ?_
  refine wp_region_lit ?_
  refine sx_val (by kernel_rfl) rfl rfl (.int .i64 0) (by kernel_rfl) ?_
  refine sx_val (by kernel_rfl) rfl rfl (.bool false) (by kernel_rfl) ?_
  refine wpList_nil ?_
  refine sx_norm ?_
  refine sx_false (by kernel_rfl) ?_
  refine wp_skip ?_
  refine sx_norm ?_
  refine wp_seq ?_
  refine wp_region_lit ?_
  refine sx_val (by kernel_rfl) rfl rfl (.int .i64 0) (by kernel_rfl) ?_
  refine wpList_nil ?_
  refine sx_norm ?_
  refine wp_seq ?_
  refine wp_seq ?_
  refine wp_region_lit ?_
  refine sx_val (by kernel_rfl) rfl rfl (.int .i64 0) (by kernel_rfl) ?_
  refine wpList_nil ?_
  refine sx_norm ?_
  refine wp_block ?_
  have hvM : v.ol.length ≤ 63 := by rw [hvl]; exact S.mem_len m 63
  refine sx_loop (fun j : Nat => [(3, .pointer (some ⟨w.heap.size, 0, none⟩)), (8, .slice ol y.ol.length cl), (12, .slice ok v.ol.length ck), (14, .int .i64 ((Uj n m j : Nat) : Int)), (15, .int .i64 ((j : Nat) : Int)), (6, .bool false), (11, .pointer (some ⟨W11.heap.size, 0, none⟩))]) (fun gg j wr => j ≤ v.ol.length ∧ v.ol.length - j ≤ gg ∧ wr = W12) (v.ol.length) 0 (by kernel_rfl) ⟨Nat.zero_le _, Nat.le_refl _, rfl⟩ ?_
  rintro gg j g' wr ⟨hj, hg, rfl⟩
  by_cases hlt : j < v.ol.length
  · have hjm : j < (S.members m).length := by rw [← hvl]; exact hlt
    have hnk2 := hnk
    rw [← hvl] at hnk2
    have hb1 := hmk _ (S.mem_at hjm)
    have hb2 := hn _ (S.mem_at hb1)
    obtain ⟨g1, hA1, -, x1⟩ := nos_at hnk hjm
    obtain ⟨g2, hA2, -, x2⟩ := nos_at hno hb1
    subst hA1 hA2
    have hyk : (S.members m).getD j 0 < y.ol.length := by rw [hyl]; exact hb1
    have hus := uj_succ (n := n) hjm
    have h1024 := h10 (j + 1)
    generalize (S.members m).getD j 0 = a at *
    generalize (S.members n).getD a 0 = b at *
    have hpb : 2 ^ b ≤ 1024 := by omega
    obtain ⟨B, hB⟩ : ∃ B, 2 ^ b = B := ⟨_, rfl⟩
    rw [hB] at hus hpb
    refine wp_seq ?_
    refine wp_seq ?_
    refine wp_region_lit ?_
    refine sx_val (by kernel_rfl) rfl rfl (.int .i64 ((j : Nat) : Int)) (by kernel_rfl) ?_
    refine sx_val (by kernel_rfl) rfl rfl (.slice (some ⟨g1, 0, none⟩) v.ol.length ck) (by kernel_rfl) ?_
    refine sx_val (by kernel_rfl) rfl rfl (.int .i64 v.ol.length) (by kernel_rfl) ?_
    refine sx_bool (by kernel_rfl) rfl rfl (decide (((j : Nat) : Int) < (v.ol.length : Int))) true (by kernel_rfl) (decide_eq_true (by omega)) ?_
    refine wpList_nil ?_
    refine sx_norm ?_
    refine sx_true (by kernel_rfl) ?_
    refine wp_skip ?_
    refine sx_norm ?_
    refine wp_seq ?_
    refine wp_block ?_
    refine wp_seq ?_
    refine wp_seq ?_
    refine wp_region_lit ?_
    refine sx_val (by kernel_rfl) rfl rfl (.slice (some ⟨g1, 0, none⟩) v.ol.length ck) (by kernel_rfl) ?_
    refine sx_val (by kernel_rfl) rfl rfl (.int .i64 ((j : Nat) : Int)) (by kernel_rfl) ?_
    refine sx_index (by kernel_rfl) rfl rfl rfl g1 0 (v.ol.length) ck j 1 j (by kernel_rfl) (by kernel_rfl) Tryz.underlying40 (by kernel_rfl) hlt (by omega) ?_
    refine sx_load1 (by kernel_rfl) rfl rfl rfl (x1) (by kernel_rfl) Tryz.underlying3 rfl ?_
    refine sx_bool (by kernel_rfl) rfl rfl (decide (((a : Nat) : Int) < 0)) false (by kernel_rfl) (decide_eq_false (by omega)) ?_
    refine sx_val (by kernel_rfl) rfl rfl (.bool false) (by kernel_rfl) ?_
    refine sx_val (by kernel_rfl) rfl rfl (.slice (some ⟨g1, 0, none⟩) v.ol.length ck) (by kernel_rfl) ?_
    refine sx_val (by kernel_rfl) rfl rfl (.int .i64 ((j : Nat) : Int)) (by kernel_rfl) ?_
    refine sx_index (by kernel_rfl) rfl rfl rfl g1 0 (v.ol.length) ck j 1 j (by kernel_rfl) (by kernel_rfl) Tryz.underlying40 (by kernel_rfl) hlt (by omega) ?_
    refine sx_load1 (by kernel_rfl) rfl rfl rfl (x1) (by kernel_rfl) Tryz.underlying3 rfl ?_
    refine sx_val (by kernel_rfl) rfl rfl (.slice (some ⟨g2, 0, none⟩) y.ol.length cl) (by kernel_rfl) ?_
    refine sx_val (by kernel_rfl) rfl rfl (.int .i64 y.ol.length) (by kernel_rfl) ?_
    refine sx_bool (by kernel_rfl) rfl rfl (decide (((a : Nat) : Int) ≥ (y.ol.length : Int))) false (by kernel_rfl) (decide_eq_false (by omega)) ?_
    refine sx_val (by kernel_rfl) rfl rfl (.bool false) (by kernel_rfl) ?_
    refine sx_val (by kernel_rfl) rfl rfl (.bool false) (by kernel_rfl) ?_
    refine sx_val (by kernel_rfl) rfl rfl (.slice (some ⟨g2, 0, none⟩) y.ol.length cl) (by kernel_rfl) ?_
    refine sx_val (by kernel_rfl) rfl rfl (.slice (some ⟨g1, 0, none⟩) v.ol.length ck) (by kernel_rfl) ?_
    refine sx_val (by kernel_rfl) rfl rfl (.int .i64 ((j : Nat) : Int)) (by kernel_rfl) ?_
    refine sx_index (by kernel_rfl) rfl rfl rfl g1 0 (v.ol.length) ck j 1 j (by kernel_rfl) (by kernel_rfl) Tryz.underlying40 (by kernel_rfl) hlt (by omega) ?_
    refine sx_load1 (by kernel_rfl) rfl rfl rfl (x1) (by kernel_rfl) Tryz.underlying3 rfl ?_
    refine sx_index (by kernel_rfl) rfl rfl rfl g2 0 (y.ol.length) cl a 1 a (by kernel_rfl) (by kernel_rfl) Tryz.underlying40 (by kernel_rfl) hyk (by omega) ?_
    refine sx_load1 (by kernel_rfl) rfl rfl rfl (x2) (by kernel_rfl) Tryz.underlying3 rfl ?_
    refine sx_bool (by kernel_rfl) rfl rfl (decide (((b : Nat) : Int) < 0)) false (by kernel_rfl) (decide_eq_false (by omega)) ?_
    refine sx_val (by kernel_rfl) rfl rfl (.bool false) (by kernel_rfl) ?_
    refine sx_val (by kernel_rfl) rfl rfl (.bool false) (by kernel_rfl) ?_
    refine sx_val (by kernel_rfl) rfl rfl (.slice (some ⟨g2, 0, none⟩) y.ol.length cl) (by kernel_rfl) ?_
    refine sx_val (by kernel_rfl) rfl rfl (.slice (some ⟨g1, 0, none⟩) v.ol.length ck) (by kernel_rfl) ?_
    refine sx_val (by kernel_rfl) rfl rfl (.int .i64 ((j : Nat) : Int)) (by kernel_rfl) ?_
    refine sx_index (by kernel_rfl) rfl rfl rfl g1 0 (v.ol.length) ck j 1 j (by kernel_rfl) (by kernel_rfl) Tryz.underlying40 (by kernel_rfl) hlt (by omega) ?_
    refine sx_load1 (by kernel_rfl) rfl rfl rfl (x1) (by kernel_rfl) Tryz.underlying3 rfl ?_
    refine sx_index (by kernel_rfl) rfl rfl rfl g2 0 (y.ol.length) cl a 1 a (by kernel_rfl) (by kernel_rfl) Tryz.underlying40 (by kernel_rfl) hyk (by omega) ?_
    refine sx_load1 (by kernel_rfl) rfl rfl rfl (x2) (by kernel_rfl) Tryz.underlying3 rfl ?_
    refine sx_bool (by kernel_rfl) rfl rfl (decide (((b : Nat) : Int) > 62)) false (by kernel_rfl) (decide_eq_false (by omega)) ?_
    refine sx_val (by kernel_rfl) rfl rfl (.bool false) (by kernel_rfl) ?_
    refine wpList_nil ?_
    refine sx_norm ?_
    refine sx_false (by kernel_rfl) ?_
    refine wp_skip ?_
    refine sx_norm ?_
    refine wp_region_lit ?_
    refine sx_val (by kernel_rfl) rfl rfl (.int .i64 ((Uj n m j : Nat) : Int)) (by kernel_rfl) ?_
    refine sx_val (by kernel_rfl) rfl rfl (.slice (some ⟨g2, 0, none⟩) y.ol.length cl) (by kernel_rfl) ?_
    refine sx_val (by kernel_rfl) rfl rfl (.slice (some ⟨g1, 0, none⟩) v.ol.length ck) (by kernel_rfl) ?_
    refine sx_val (by kernel_rfl) rfl rfl (.int .i64 ((j : Nat) : Int)) (by kernel_rfl) ?_
    refine sx_index (by kernel_rfl) rfl rfl rfl g1 0 (v.ol.length) ck j 1 j (by kernel_rfl) (by kernel_rfl) Tryz.underlying40 (by kernel_rfl) hlt (by omega) ?_
    refine sx_load1 (by kernel_rfl) rfl rfl rfl (x1) (by kernel_rfl) Tryz.underlying3 rfl ?_
    refine sx_index (by kernel_rfl) rfl rfl rfl g2 0 (y.ol.length) cl a 1 a (by kernel_rfl) (by kernel_rfl) Tryz.underlying40 (by kernel_rfl) hyk (by omega) ?_
    refine sx_load1 (by kernel_rfl) rfl rfl rfl (x2) (by kernel_rfl) Tryz.underlying3 rfl ?_
    refine sx_int (by kernel_rfl) rfl rfl .u64 (IntKind.u64.wrap ((b : Nat) : Int)) (((b : Nat) : Int)) (by kernel_rfl) (by rw [IntKind.wrap_u64]; omega) ?_
    refine sx_shl (by kernel_rfl) rfl rfl rfl 1 b ((B : Nat) : Int) (by kernel_rfl) (by kernel_rfl) (by omega) (by rw [IntKind.wrap_i64, show (2 : Int) ^ b = ((B : Nat) : Int) by rw [← hB]; simp]; omega) ?_
    refine sx_int (by kernel_rfl) rfl rfl .i64 (IntKind.i64.wrap (((Uj n m j : Nat) : Int) + ((B : Nat) : Int))) (((Uj n m (j + 1) : Nat) : Int)) (by kernel_rfl) (by rw [IntKind.wrap_i64, hus]; omega) ?_
    refine sx_val (by kernel_rfl) rfl rfl (.int .i64 ((Uj n m (j + 1) : Nat) : Int)) (by kernel_rfl) ?_
    refine wpList_nil ?_
    refine sx_in ?_
    refine sx_norm ?_
    refine wp_region_lit ?_
    refine sx_val (by kernel_rfl) rfl rfl (.int .i64 ((j : Nat) : Int)) (by kernel_rfl) ?_
    refine sx_int (by kernel_rfl) rfl rfl .i64 (IntKind.i64.wrap (((j : Nat) : Int) + 1)) ((((j + 1 : Nat)) : Int)) (by kernel_rfl) (by rw [IntKind.wrap_i64]; omega) ?_
    refine sx_val (by kernel_rfl) rfl rfl (.int .i64 (((j + 1 : Nat)) : Int)) (by kernel_rfl) ?_
    refine wpList_nil ?_
    refine sx_norm ?_
    exact sx_again (v.ol.length - (j + 1)) (j + 1) (by omega) (by kernel_rfl) ⟨by omega, Nat.le_refl _, rfl⟩
  obtain rfl : j = v.ol.length := by omega
  have hUm : Uj n m v.ol.length = Uj n m (S.members m).length := by rw [hvl]
  refine wp_seq ?_
  refine wp_seq ?_
  refine wp_region_lit ?_
  refine sx_val (by kernel_rfl) rfl rfl (.int .i64 ((v.ol.length : Nat) : Int)) (by kernel_rfl) ?_
  refine sx_val (by kernel_rfl) rfl rfl (.slice ok v.ol.length ck) (by kernel_rfl) ?_
  refine sx_val (by kernel_rfl) rfl rfl (.int .i64 v.ol.length) (by kernel_rfl) ?_
  refine sx_bool (by kernel_rfl) rfl rfl (decide (((v.ol.length : Nat) : Int) < (v.ol.length : Int))) false (by kernel_rfl) (by simp) ?_
  refine wpList_nil ?_
  refine sx_norm ?_
  refine sx_false (by kernel_rfl) ?_
  refine wp_exit ?_
  refine sx_es ?_
  refine sx_es ?_
  refine sx_out ?_
  refine sx_norm ?_
  refine wp_seq ?_
  refine wp_region_lit ?_
  refine sx_load (by kernel_rfl) rfl rfl rfl MX (by kernel_rfl) Tryz.underlying30 rfl (by kernel_rfl) ?_
  refine sx_val (by kernel_rfl) rfl rfl (.int .i64 ((Uj n m v.ol.length : Nat) : Int)) (by kernel_rfl) ?_
  refine sx_call (by kernel_rfl) rfl rfl ((by rw [← hUm] at KL; exact KL _ hS h)) (by kernel_rfl) ?_
  rintro e W13 ⟨a0, a1, a2, a3, a4, a5, oa, b0, b1, b2, b3, b4, b5, ca, rfl, hu, hb⟩
  refine ⟨_, rfl, ?_⟩
  replace HB := over HB hb
  replace hT := hT.over hb
  replace hS := hS.over hb
  replace h := h.below hb
  replace MX := MX.below hb
  replace hi := hi.below hb
  replace hno := hno.below hb
  replace MY := MY.below hb
  replace hv := hv.below hb
  replace hnk := hnk.below hb
  replace MV := MV.below hb
  have z12 := hb.size
  clear hb
  refine sx_val (by kernel_rfl) rfl rfl (.tuple #[.agg #[.slice a0 v.pl.length b0, .slice a1 v.al.length b1, .slice a2 v.tl.length b2, .slice a3 v.ol.length b3, .slice a4 v.ap.length b4, .slice a5 v.be.length b5], .slice oa v.ol.length ca, .int .i64 0]) (by kernel_rfl) ?_
  refine sx_val (by kernel_rfl) rfl rfl (.agg #[.slice a0 v.pl.length b0, .slice a1 v.al.length b1, .slice a2 v.tl.length b2, .slice a3 v.ol.length b3, .slice a4 v.ap.length b4, .slice a5 v.be.length b5]) (by kernel_rfl) ?_
  refine sx_val (by kernel_rfl) rfl rfl (.slice oa v.ol.length ca) (by kernel_rfl) ?_
  refine sx_val (by kernel_rfl) rfl rfl (.int .i64 0) (by kernel_rfl) ?_
  obtain ⟨W14, hW⟩ : ∃ W, (W13.alloc (.cells #[.slice none 0 0, .slice none 0 0, .slice none 0 0, .slice none 0 0, .slice none 0 0, .slice none 0 0] 30)).setRow W13.heap.size #[.slice a0 v.pl.length b0, .slice a1 v.al.length b1, .slice a2 v.tl.length b2, .slice a3 v.ol.length b3, .slice a4 v.ap.length b4, .slice a5 v.be.length b5] = W := ⟨_, rfl⟩
  have hb := hW ▸ below_var W13 (.cells #[.slice none 0 0, .slice none 0 0, .slice none 0 0, .slice none 0 0, .slice none 0 0, .slice none 0 0] 30) #[.slice a0 v.pl.length b0, .slice a1 v.al.length b1, .slice a2 v.tl.length b2, .slice a3 v.ol.length b3, .slice a4 v.ap.length b4, .slice a5 v.be.length b5]
  have hq : Cb W14 W13.heap.size #[.slice a0 v.pl.length b0, .slice a1 v.al.length b1, .slice a2 v.tl.length b2, .slice a3 v.ol.length b3, .slice a4 v.ap.length b4, .slice a5 v.be.length b5] 30 := hW ▸ Cb.row (Cb.made W13 #[.slice none 0 0, .slice none 0 0, .slice none 0 0, .slice none 0 0, .slice none 0 0, .slice none 0 0] 30) _
  refine sx_mem (by kernel_rfl) rfl rfl (.pointer (some ⟨W13.heap.size, 0, none⟩)) (W13.alloc (.cells #[.slice none 0 0, .slice none 0 0, .slice none 0 0, .slice none 0 0, .slice none 0 0, .slice none 0 0] 30)) (by kernel_rfl) ?_
  refine sx_store (cells := #[.slice a0 v.pl.length b0, .slice a1 v.al.length b1, .slice a2 v.tl.length b2, .slice a3 v.ol.length b3, .slice a4 v.ap.length b4, .slice a5 v.be.length b5]) (by kernel_rfl) rfl rfl (Cb.made W13 #[.slice none 0 0, .slice none 0 0, .slice none 0 0, .slice none 0 0, .slice none 0 0, .slice none 0 0] 30) (by kernel_rfl) (by kernel_rfl) (by kernel_rfl) (by kernel_rfl) (by kernel_rfl) ?_
  rw [hW]
  replace HB := over HB hb
  replace hT := hT.over hb
  replace hS := hS.over hb
  replace h := h.below hb
  replace MX := MX.below hb
  replace hi := hi.below hb
  replace hno := hno.below hb
  replace MY := MY.below hb
  replace hv := hv.below hb
  replace hnk := hnk.below hb
  replace MV := MV.below hb
  replace hu := hu.below hb
  have z13 := hb.size
  have MU := hq
  have yMU := hq.lt
  clear hq hb hW
  refine sx_val (by kernel_rfl) rfl rfl (.slice oa v.ol.length ca) (by kernel_rfl) ?_
  refine sx_val (by kernel_rfl) rfl rfl (.int .i64 0) (by kernel_rfl) ?_
  refine wpList_nil ?_
  refine sx_norm ?_
  refine wp_seq ?_
  refine wp_region_lit ?_
  refine sx_val (by kernel_rfl) rfl rfl (.int .i64 0) (by kernel_rfl) ?_
  refine sx_val (by kernel_rfl) rfl rfl (.bool true) (by kernel_rfl) ?_
  refine sx_val (by kernel_rfl) rfl rfl (.bool true) (by kernel_rfl) ?_
  refine sx_val (by kernel_rfl) rfl rfl (.slice oa v.ol.length ca) (by kernel_rfl) ?_
  refine sx_val (by kernel_rfl) rfl rfl (.int .i64 v.ol.length) (by kernel_rfl) ?_
  refine sx_val (by kernel_rfl) rfl rfl (.slice ok v.ol.length ck) (by kernel_rfl) ?_
  refine sx_val (by kernel_rfl) rfl rfl (.int .i64 v.ol.length) (by kernel_rfl) ?_
  refine sx_bool (by kernel_rfl) rfl rfl ((v.ol.length : Int) == (v.ol.length : Int)) true (by kernel_rfl) (by simp) ?_
  refine sx_val (by kernel_rfl) rfl rfl (.bool true) (by kernel_rfl) ?_
  refine sx_val (by kernel_rfl) rfl rfl (.bool true) (by kernel_rfl) ?_
  refine sx_load (by kernel_rfl) rfl rfl rfl MV (by kernel_rfl) Tryz.underlying30 rfl (by kernel_rfl) ?_
  refine sx_load (by kernel_rfl) rfl rfl rfl MU (by kernel_rfl) Tryz.underlying30 rfl (by kernel_rfl) ?_
  refine sx_call (by kernel_rfl) rfl rfl (same_self ⟨r0, f0, r1, f1, r2, f2, r3, f3, r4, f4, r5, f5⟩ ⟨a0, b0, a1, b1, a2, b2, a3, b3, a4, b4, a5, b5⟩ v hvc _ hv hu) (by kernel_rfl) ?_
  rintro e W15 ⟨rfl, hb⟩
  refine ⟨_, rfl, ?_⟩
  replace HB := over HB hb
  replace hT := hT.over hb
  replace hS := hS.over hb
  replace h := h.below hb
  replace MX := MX.below hb
  replace hi := hi.below hb
  replace hno := hno.below hb
  replace MY := MY.below hb
  replace hv := hv.below hb
  replace hnk := hnk.below hb
  replace MV := MV.below hb
  replace hu := hu.below hb
  replace MU := MU.below hb
  have z14 := hb.size
  clear hb
  refine sx_val (by kernel_rfl) rfl rfl (.bool true) (by kernel_rfl) ?_
  refine sx_val (by kernel_rfl) rfl rfl (.bool true) (by kernel_rfl) ?_
  refine sx_call (by kernel_rfl) rfl rfl (awakeI_n _ hT hS) (by kernel_rfl) ?_
  rintro e W16 ⟨rfl, hb⟩
  refine ⟨_, rfl, ?_⟩
  replace HB := over HB hb
  replace hT := hT.over hb
  replace hS := hS.over hb
  replace h := h.below hb
  replace MX := MX.below hb
  replace hi := hi.below hb
  replace hno := hno.below hb
  replace MY := MY.below hb
  replace hv := hv.below hb
  replace hnk := hnk.below hb
  replace MV := MV.below hb
  replace hu := hu.below hb
  replace MU := MU.below hb
  have z15 := hb.size
  clear hb
  refine sx_val (by kernel_rfl) rfl rfl (.bool true) (by kernel_rfl) ?_
  refine sx_val (by kernel_rfl) rfl rfl (.bool true) (by kernel_rfl) ?_
  refine wpList_nil ?_
  refine sx_norm ?_
  refine wp_ret ?_
  exact sx_ret1 (.bool true) rfl rfl (by kernel_rfl) ⟨rfl, HB⟩
theorem partsL_n (k : Iv) (x : InT) (set sub : Int) (hx : InA x) (hs : -9223372036854775808 ≤ set ∧ set ≤ 9223372036854775807) (ht : -9223372036854775808 ≤ sub ∧ sub ≤ 9223372036854775807) (w : World) (hT : Tab w) (hS : S.Tab w) (h : Ins w k x) :
    Calls Tryz.prog 7 #[k.v x, .int .i64 set, .int .i64 sub] w fun e w' => e = .returned (.bool true) ∧ Below w.heap.size w w' := by
  cases hsm : smlB x
  · exact partsA k x set sub hsm w hT hS h
  · by_cases hin : inF x = []
    · exact partsC k x set sub hx hsm hin hs.1 hs.2 ht.1 ht.2 w hT hS h
    · exact partsB k x set sub hx hsm hin w hT hS h

end Go.Proofs.YtaallpebfcadjaaGreatDoor.T


