/-
  DERIVED. The walk of network's delay.
-/
import Derived.Test.YtegpebnkogjadaaDoorNetTop4
namespace Go.Proofs.YtegpebnkogjadaaDoor.T
open Go.RowKit
set_option maxRecDepth 8000

/-- a result: an error; block qa and the row of its last cell alone have turned -/
def DeP (qa : Nat) (x0 x1 x2 x3 vt : Value) (ob : Option Nat) (B : Nat) (x : List (Int × Int) × Int) (w : World) (e : Ending) (w' : World) : Prop :=
  ∃ os' cs', e = .returned (.int .i64 x.2) ∧ (x.2 = 0 → Ab w' qa x0 x1 x2 x3 vt (.slice os' x.1.length cs') ∧ Gq B w' (.slice os' x.1.length cs') x.1) ∧ Below qa w w' ∧ w.heap.size ≤ w'.heap.size ∧ ∀ k, k < w.heap.size → k ≠ qa → some k ≠ ob → w'.heap[k]? = w.heap[k]?
theorem deP_bad {qa : Nat} {x0 x1 x2 x3 vt : Value} {ob : Option Nat} {B : Nat} {x r : List (Int × Int) × Int} {w : World} (hx : x = r) (h0 : x.2 ≠ 0) (n : Nat) : DeP qa x0 x1 x2 x3 vt ob B r w (.returned (.int .i64 x.2)) (w.drewN n) := by
  subst hx
  exact ⟨none, 0, rfl, fun h => absurd h h0, below_drewN (Below.refl _ _) n, Nat.le_refl _, fun _ _ _ _ => rfl⟩
theorem deP_ok {qa : Nat} {x0 x1 x2 x3 vt : Value} {ob : Option Nat} {B : Nat} {l : List (Int × Int)} {r : List (Int × Int) × Int} {w w' : World} {os : Option Addr} {cs : Nat} (hx : (l, (0 : Int)) = r)
    (h1 : Ab w' qa x0 x1 x2 x3 vt (.slice os l.length cs)) (h2 : Gq B w' (.slice os l.length cs) l) (h3 : Below qa w w') (h5 : w.heap.size ≤ w'.heap.size) (h4 : ∀ k, k < w.heap.size → k ≠ qa → some k ≠ ob → w'.heap[k]? = w.heap[k]?) : DeP qa x0 x1 x2 x3 vt ob B r w (.returned (.int .i64 0)) w' := by
  subst hx
  exact ⟨os, cs, rfl, fun _ => ⟨h1, h2⟩, h3, h5, h4⟩

theorem below_alloc_drewN (w : World) (n : Nat) (o : Obj) : Below w.heap.size w ((w.drewN n).alloc o) := (below_drewN (Below.refl _ w) n).alloc (Nat.le_refl _) o
theorem de_blk {qa B : Nat} {vs : Value} (hob : ∀ kb, vs.ownBlock = some kb → B ≤ kb) (hq : qa < B) : some qa ≠ vs.ownBlock := fun e => by have := hob _ e.symm; omega
theorem de_ab {qa B : Nat} {x0 x1 x2 x3 vt x5 vs : Value} {w X w3 : World} (hA : Ab w qa x0 x1 x2 x3 vt x5) (hX : Below w.heap.size w X) (hg : X.grownBy w3 vs.ownBlock) (hob : ∀ kb, vs.ownBlock = some kb → B ≤ kb) (hq : qa < B) : Ab w3 qa x0 x1 x2 x3 vt x5 :=
  (hg.block qa (Nat.lt_of_lt_of_le hA.lt hX.size) (de_blk hob hq)).trans (hA.below hX)
theorem deP_app {qa B : Nat} {x0 x1 x2 x3 vt x5 vs : Value} {l : List (Int × Int)} {r : List (Int × Int) × Int} {w X w3 : World} {ov : Option Addr} {N cv : Nat} {p : Int × Int} (hx : (l ++ [p], (0 : Int)) = r) (hN : (l ++ [p]).length = N)
    (hA : Ab w qa x0 x1 x2 x3 vt x5) (hX : Below w.heap.size w X) (hg : X.grownBy w3 vs.ownBlock) (hob : ∀ kb, vs.ownBlock = some kb → B ≤ kb) (hq : qa < B) (hBw : B ≤ w.heap.size)
    (hG3 : Gq B w3 (.slice ov N cv) (l ++ [p])) : DeP qa x0 x1 x2 x3 vt vs.ownBlock B r w (.returned (.int .i64 0)) (w3.setCell ⟨qa, 5, none⟩ (.slice ov N cv)) := by
  subst hN
  have A3 := de_ab hA hX hg hob hq
  refine deP_ok hx (A3.put5 _) (hG3.far hq 5 _) ?_ (by have := hX.size; have := hg.size; simp [World.setCell]; omega) fun k hk hka hkb => ?_
  · have h : Below qa w w3 := (hX.mono (show qa ≤ w.heap.size by omega)).grown hg (by have := hX.size; omega) (fun kb hkb => by have := hob kb hkb; omega)
    exact h.setCell (p := ⟨qa, 5, none⟩) (Nat.le_refl _) _
  · exact (Below.heap_setCell w3 ⟨qa, 5, none⟩ _ k hka).trans ((hg.block k (Nat.lt_of_lt_of_le hk hX.size) hkb).trans (hX.block k hk))

set_option maxHeartbeats 3200000 in
theorem delay_n (qa : Nat) (x0 x1 x2 x3 vt : Value) (os : Option Addr) (cs : Nat) (sl : List (Int × Int)) (t n : Int) (B : Nat) (hl : sl.length ≤ 1000000) (hs : ∀ k, k < sl.length → 0 ≤ (sl.getD k (0, 0)).2 ∧ (sl.getD k (0, 0)).2 ≤ 4096) (hn0 : 0 ≤ n) (hn1 : n ≤ 4096) (w : World)
    (hA : Ab w qa x0 x1 x2 x3 vt (.slice os sl.length cs)) (hG : Gq B w (.slice os sl.length cs) sl) (hq : qa < B) (hBw : B ≤ w.heap.size) :
    Calls Tryd.prog 42 #[.pointer (some ⟨qa, 0, none⟩), .int .i64 t, .int .i64 n] w (DeP qa x0 x1 x2 x3 vt (Value.slice os sl.length cs).ownBlock B (dlE sl t n) w) := by
  obtain ⟨i0, hi, hz0, hz1, hz2⟩ := infoP
  have HR : Hid (dlE sl t n = dlE sl t n) := rfl
  generalize hr : dlE sl t n = r at HR ⊢
  have HR := Lib.hid hr
  clear hr
  have a5 := hA.c5
  have f5 := hA.f 5
  have hAl := hA.lt
  have HA := Lib.hid hA
  have HG := Lib.hid hG
  clear hA hG
  have hob : ∀ kb, (Value.slice os sl.length cs).ownBlock = some kb → B ≤ kb := Gn.blk HG.out
  have HOB := Lib.hid hob
  generalize hO : (Value.slice os sl.length cs).ownBlock = ob at HOB hob ⊢
  by_cases hlen : sl = []
  · subst hlen
    have HX : Hid (([(t, n)], (0 : Int)) = r) := by show _ = _; rw [← HR.out]; rfl
    simp only [List.length_nil] at a5 hO HA HG
    have HO := Lib.hid hO
    clear HR hs hO hob
    go_enter Tryd.func42, Tryd.ntmps42
    go_wp2_with fail
    go_quiet (fail)
    go_wp2_with (at_builtin; refine wpList_append_own _ rfl _ _ 34 rfl B 75 i0 (.agg #[.int .i64 0, .int .i64 0]) 2 16 Tryd.underlying34 hi hz0 hz1 hz2 rfl (by decide) _ _ _ rfl (World.ownsRow.alloc HG.out.own _) ⟨w.heap.size, 0, none⟩ 1 1 [.int .i64 t, .int .i64 n] rfl rfl (two_new _ _ _ _) (pcells _ _) (by decide) (by decide) (by simp <;> omega) ?_)
    intro v3 w3 hown hgrow _
    have HG3 : Hid (Gq B w3 v3 ([] ++ [(t, n)])) := Gq.more (l := []) hown
    obtain ⟨ov, cv, hv3⟩ := Gn.form HG3.out
    have hN : ([] ++ [(t, n)]).length = 1 := rfl
    rw [hN] at hv3
    subst hv3
    have hX := below_alloc_drewN w nq (.cells #[.int .i64 t, .int .i64 n] 75)
    have A3 := de_ab HA.out hX hgrow (Gn.blk HG.out) hq
    have c5 := A3.c5
    have z5 := A3.f 5
    have HF := Lib.hid (deP_app (r := r) HX.out hN HA.out hX hgrow (Gn.blk HG.out) hq hBw HG3.out)
    rw [HO.out] at HF
    clear hown hgrow A3 hX a5 f5
    go_wp2_with fail
    go_ret
    exact HF.out
  · obtain ⟨m, hm⟩ : ∃ m, sl.length = m + 1 := ⟨sl.length - 1, by have : sl.length ≠ 0 := fun h => hlen (List.eq_nil_of_length_eq_zero h); omega⟩
    rcases HG.out.2 with ⟨hv, h0⟩ | ⟨g, cap, cur, hv, hgB, hgg, _⟩
    · omega
    simp only [Value.slice.injEq] at hv
    obtain ⟨rfl, -, rfl⟩ := hv
    have hgl : g < w.heap.size := (Array.getElem?_eq_some_iff.1 hgg).1
    have hcc := fun j (hj : j < sl.length * 2) => World.ownsRow.cellAt HG.out.own j (by omega)
    obtain ⟨f0, f1⟩ := flat_at (E0 := pT) (E1 := pA) (d := (0, 0)) sl m (by omega)
    obtain ⟨y0, y1⟩ := hs m (by omega)
    obtain ⟨x, y, hxy⟩ : ∃ x y, sl.getD m (0, 0) = (x, y) := ⟨_, _, rfl⟩
    have d0 : w.cell? ⟨g, m * 2, none⟩ = some (.int .i64 x) := by rw [hcc (m * 2) (by omega), f0, hxy]; rfl
    have d1 : w.cell? ⟨g, m * 2 + 1, none⟩ = some (.int .i64 y) := by rw [hcc (m * 2 + 1) (by omega), f1, hxy]; rfl
    have hfz : w.frozen? ⟨g, m * 2 + 1, none⟩ = false := World.ownsRow.frozenAt HG.out.own (m * 2 + 1)
    rw [hxy] at y0 y1
    simp only at y0 y1
    have hE : Hid (dlE sl t n = if t < x then ([], 2) else if t = x then (if 4096 < y + n then ([], 2) else (sl.set m (x, y + n), 0)) else if 16 ≤ sl.length then ([], 4) else (sl ++ [(t, n)], 0)) := by
      show _ = _
      unfold dlE
      rw [show sl.length - 1 = m by omega, hxy]
      have : 0 < sl.length := by omega
      simp only [this, true_and]
    have hGS : Hid (Gq B (w.setCell ⟨g, m * 2 + 1, none⟩ (.int .i64 (y + n))) (.slice (some ⟨g, 0, none⟩) (sl.set m (x, y + n)).length cs) (sl.set m (x, y + n))) := by
      show Gq _ _ _ _
      have := (World.ownsRow.stored HG.out.own (m * 2 + 1) (.int .i64 (y + n))).1
      rw [flat_set sl m x (y + n) (by omega) (by rw [hxy])] at this
      unfold Gq Gp Gn
      rw [List.length_set]
      exact this
    clear hcc f0 f1 hgg hs
    have hqg : qa ≠ g := by omega
    have hm0 : (0 : Int) < (m : Int) + 1 := by omega
    have hm1 : (0 : Int) ≤ (m : Int) := by omega
    have hm2 : (m : Int) ≤ 1000000 := by omega
    have hme : ((m : Int) + 1 == 0) = false := ne_eqI (by omega)
    have hwm : IntKind.i64.wrap (m : Int) = (m : Int) := IntWalk.i64_in _ (by omega)
    have HO := Lib.hid hO
    have hlm := Lib.hid hm
    rw [hm] at a5 HO HA HG
    clear hO hlen hm hob
    by_cases p1 : x < t
    · by_cases p4 : 16 ≤ m + 1
      · have HX : Hid ((([] : List (Int × Int)), (4 : Int)) = r) := by show _ = _; rw [← HR.out, hE.out, if_neg (by omega), if_neg (by omega), if_pos (by rw [hlm.out]; omega)]
        have p4n : (16 : Int) ≤ (m : Int) + 1 := by omega
        clear HR hE hGS
        go_enter Tryd.func42, Tryd.ntmps42
        go_wp2_with fail
        go_quiet (fail)
        go_wp2_with fail
        go_ret
        exact deP_bad HX.out (by decide) _
      · have HX : Hid ((sl ++ [(t, n)], (0 : Int)) = r) := by show _ = _; rw [← HR.out, hE.out, if_neg (by omega), if_neg (by omega), if_neg (by rw [hlm.out]; omega)]
        have p4n : ¬ (16 : Int) ≤ (m : Int) + 1 := by omega
        clear HR hE hGS
        go_enter Tryd.func42, Tryd.ntmps42
        go_wp2_with fail
        go_quiet (fail)
        go_wp2_with (at_builtin; refine wpList_append_own _ rfl _ _ 34 rfl B 75 i0 (.agg #[.int .i64 0, .int .i64 0]) 2 16 Tryd.underlying34 hi hz0 hz1 hz2 rfl (by decide) _ _ _ rfl (World.ownsRow.alloc (by have h := HG.out.own; rw [hlm.out] at h; exact h) _) ⟨w.heap.size, 0, none⟩ 1 1 [.int .i64 t, .int .i64 n] rfl rfl (two_new _ _ _ _) (pcells _ _) (by unfold maxLen; omega) (by omega) (by simp <;> omega) ?_)
        intro v3 w3 hown hgrow _
        have HG3 : Hid (Gq B w3 v3 (sl ++ [(t, n)])) := Gq.more (by rw [hlm.out]; exact hown)
        obtain ⟨ov, cv, hv3⟩ := Gn.form HG3.out
        have hN : (sl ++ [(t, n)]).length = m + 1 + 1 := by rw [List.length_append, hlm.out]; rfl
        rw [hN] at hv3
        subst hv3
        have hX := below_alloc_drewN w nq (.cells #[.int .i64 t, .int .i64 n] 75)
        have A3 := de_ab HA.out hX hgrow (Gn.blk HG.out) hq
        have c5 := A3.c5
        have z5 := A3.f 5
        have HF := Lib.hid (deP_app (r := r) HX.out hN HA.out hX hgrow (Gn.blk HG.out) hq hBw HG3.out)
        rw [HO.out] at HF
        clear hown hgrow A3 hX a5 f5
        go_wp2_with fail
        go_ret
        exact HF.out
    · by_cases p2 : t < x
      · have HX : Hid ((([] : List (Int × Int)), (2 : Int)) = r) := by show _ = _; rw [← HR.out, hE.out, if_pos p2]
        clear HR hE hGS
        go_enter Tryd.func42, Tryd.ntmps42
        go_wp2_with fail
        go_quiet (fail)
        go_wp2_with fail
        go_quiet (fail)
        go_wp2_with fail
        go_ret
        exact deP_bad HX.out (by decide) _
      · have hxt : t = x := by omega
        by_cases p3 : 4096 < y + n
        · have HX : Hid ((([] : List (Int × Int)), (2 : Int)) = r) := by show _ = _; rw [← HR.out, hE.out, if_neg p2, if_pos hxt, if_pos p3]
          have p3n : 4096 - y < n := by omega
          clear HR hE hGS hxt
          go_enter Tryd.func42, Tryd.ntmps42
          go_wp2_with fail
          go_quiet (fail)
          go_wp2_with fail
          go_quiet (fail)
          go_wp2_with fail
          go_ret
          exact deP_bad HX.out (by decide) _
        · have HX : Hid ((sl.set m (x, y + n), (0 : Int)) = r) := by show _ = _; rw [← HR.out, hE.out, if_neg p2, if_pos hxt, if_neg p3]
          have p3n : ¬ 4096 - y < n := by omega
          rw [List.length_set, hlm.out] at hGS
          have hln : (sl.set m (x, y + n)).length = m + 1 := by rw [List.length_set, hlm.out]
          have HFA : Hid (∀ k, DeP qa x0 x1 x2 x3 vt ob B r w (.returned (.int .i64 0)) ((w.drewN k).setCell ⟨g, m * 2 + 1, none⟩ (.int .i64 (y + n)))) := fun k => by
            refine deP_ok (os := some ⟨g, 0, none⟩) (cs := cs) HX.out ?_ ?_ ?_ (by simp [World.setCell]) fun j hj hja hjb => ?_
            · rw [hln]; exact Ab.far (w := w.drewN k) HA.out hqg _
            · rw [hln]; exact hGS.out
            · exact (below_drewN (Below.refl _ _) k).setCell (p := ⟨g, m * 2 + 1, none⟩) (by show qa ≤ g; omega) _
            · exact Below.heap_setCell (w.drewN k) ⟨g, m * 2 + 1, none⟩ _ j (fun e => hjb (by rw [← HO.out, e]; rfl))
          clear HR hE hGS hxt hln
          go_enter Tryd.func42, Tryd.ntmps42
          go_wp2_with fail
          go_quiet (fail)
          go_wp2_with fail
          go_quiet (fail)
          go_wp2_with fail
          go_ret
          exact HFA.out _

end Go.Proofs.YtegpebnkogjadaaDoor.T

