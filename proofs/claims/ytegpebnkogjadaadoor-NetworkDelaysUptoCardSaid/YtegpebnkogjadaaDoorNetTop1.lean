/-
  DERIVED. The walks of network's small functions: isTick, isPlace, wayOf, earlier, copyOf; text's Decimal; slices.Clone.
-/
import Derived.Test.YtegpebnkogjadaaDoorNetDij
import Derived.Test.YtegpebnkogjadaaDoorRefNet9
import Derived.Lib.SliceRun
namespace Go.Proofs.YtegpebnkogjadaaDoor.T
open Go.RowKit
set_option maxRecDepth 8000

theorem netTick_n (t : Int) (w : World) : Calls Tryd.prog 40 #[.int .i64 t] w fun e w' => e = .returned (.bool (tickB t)) ∧ w = w' := by
  by_cases h1 : 0 ≤ t
  · have HR : Hid (decide (t ≤ 4096) = tickB t) := by show _ = _; unfold tickB; rw [decide_eq_true h1, Bool.true_and]
    generalize tickB t = r at *
    go_enter Tryd.func40, Tryd.ntmps40
    go_wp2_with fail
    go_ret
    exact ⟨ret_bool HR.out, rfl⟩
  · have HR : Hid (false = tickB t) := by show _ = _; unfold tickB; rw [decide_eq_false h1, Bool.false_and]
    have h2 : t < 0 := by omega
    generalize tickB t = r at *
    go_enter Tryd.func40, Tryd.ntmps40
    go_wp2_with fail
    go_ret
    exact ⟨ret_bool HR.out, rfl⟩
theorem netPlace_n (op : Option Addr) (n c : Nat) (va : Value) (x : Int) (w : World) :
    Calls Tryd.prog 31 #[.agg #[.slice op n c, va], .int .i64 x] w fun e w' => e = .returned (.bool (inB n x)) ∧ Below w.heap.size w w' := by
  by_cases h1 : 0 ≤ x
  · have HR : Hid (decide (x < n) = inB n x) := by show _ = _; unfold inB; rw [decide_eq_true h1, Bool.true_and]
    generalize inB n x = r at *
    go_enter Tryd.func31, Tryd.ntmps31
    go_wp2_with fail
    go_ret
    exact ⟨ret_bool HR.out, by go_grown⟩
  · have HR : Hid (false = inB n x) := by show _ = _; unfold inB; rw [decide_eq_false h1, Bool.false_and]
    have h2 : x < 0 := by omega
    generalize inB n x = r at *
    go_enter Tryd.func31, Tryd.ntmps31
    go_wp2_with fail
    go_ret
    exact ⟨ret_bool HR.out, by go_grown⟩
theorem wayOf_n (fr dt prof miles : Int) (vt vs : Value) (w : World) :
    Calls Tryd.prog 47 #[.agg #[.int .i64 fr, .int .i64 dt, .int .i64 prof, .int .i64 miles, vt, vs]] w fun e w' => e = .returned (.agg #[.int .i64 prof, .int .i64 fr, .int .i64 dt]) ∧ Below w.heap.size w w' := by
  go_enter Tryd.func47, Tryd.ntmps47
  go_wp2_with fail
  exact bodyPost_ret (v := .agg #[.int .i64 prof, .int .i64 fr, .int .i64 dt]) (by simp [results, Tryd.results47, go_sem]) rfl ⟨rfl, by go_grown⟩
theorem earlier_n (b n : Int) (w : World) : Calls Tryd.prog 39 #[.int .i64 b, .int .i64 n] w fun e w' => e = .returned (.int .i64 (earlier b n)) ∧ w = w' := by
  by_cases h1 : b = -1
  · subst h1
    go_enter Tryd.func39, Tryd.ntmps39
    go_wp2_with fail
    go_ret
    exact ⟨rfl, rfl⟩
  · have HR : Hid (earlier b n = if n < b then n else b) := by show _ = _; unfold earlier; rw [if_neg h1]
    have h2 := ne_eqI h1
    clear h1
    go_enter Tryd.func39, Tryd.ntmps39
    go_wp2_with fail
    go_ret
    refine ⟨ret_int ?_, rfl⟩
    rw [HR.out]
    split <;> omega
theorem netDecimal_n (i : Nat) (hi : i ≤ 1000000000) (w : World) (ht : Tab w) :
    Calls Tryd.prog 57 #[.int .i64 (i : Int)] w fun e w' => e = .returned (.string (dec i)) ∧ Below w.heap.size w w' := by
  have K := Lib.hid (fun w ht => itoa_n i hi w ht)
  have HT := Lib.hid ht
  clear ht
  go_enter Tryd.func57, Tryd.ntmps57
  go_wp2_with fail
  refine (K.out _ HT.out).mono ?_
  rintro e w1 ⟨rfl, b1⟩
  go_wp2_with fail
  go_ret
  exact ⟨rfl, b1⟩

/-! ### slices.Clone -/
def CloP (l : List (Int × Int)) (w : World) (e : Ending) (w' : World) : Prop :=
  ∃ oa c, e = .returned (.slice oa l.length c) ∧ Gq w.heap.size w' (.slice oa l.length c) l ∧ Below w.heap.size w w'
theorem cloP {l : List (Int × Int)} {w w' : World} {v : Value} (h : Gq w.heap.size w' v l) (hb : Below w.heap.size w w') : CloP l w (.returned v) w' := by
  obtain ⟨oa, c, rfl⟩ := Gn.form h
  exact ⟨oa, c, rfl, h, hb⟩
theorem eql_nil (w : World) (a : Option Addr) (n c n' c' : Nat) : (binOp .eql 34 (.slice a n c) (.slice none n' c')).run Tryd.prog w = .ok (.bool a.isNone) w := Lib.run_eql_slice_nil w _ _ a n c n' c' Tryd.underlying34
theorem clonePts_n (u : Value) (l : List (Int × Int)) (hl : l.length ≤ 1000000) (w : World) (hu : Ps w u l) :
    Calls Tryd.prog 53 #[u] w (CloP l w) := by
  have HU := Lib.hid hu
  obtain ⟨oa, c, rfl, -⟩ := hu
  have q := eql_nil
  cases oa with
  | none =>
    obtain ⟨rfl, -⟩ := ps_nil HU.out
    go_enter Tryd.func53, Tryd.ntmps53
    go_wp2_with fail
    go_ret
    exact cloP (Gq.nil _ _) (Below.refl _ _)
  | some ad =>
    obtain ⟨i0, hi, hz0, hz1, hz2⟩ := infoP
    go_enter Tryd.func53, Tryd.ntmps53
    go_wp2_with (at_builtin; refine wpList_append_own _ rfl _ _ 34 rfl w.heap.size 75 i0 (.agg #[.int .i64 0, .int .i64 0]) 2 16 Tryd.underlying34 hi hz0 hz1 hz2 rfl (by decide) _ _ _ rfl (World.ownsRow_made w #[] 0 (Nat.le_refl _) (Nat.zero_le _) (by simp)) ad l.length c (flat pT pA l) rfl (flat_len l) (fun j u hj => cell_alloc_t _ (ps_news HU.out j u hj)) (ps_cells l) (by simp; unfold maxLen; omega) (by simp; omega) (by simp) ?_)
    intro v3 w3 hown hgrow _
    have HG3 : Hid (Gq w.heap.size w3 v3 l) := Gq.onto (by simpa [flat] using hown)
    have HB3 : Hid (Below w.heap.size w w3) := (below_alloc w _).grown hgrow (by simp) (fun k hk => by simp [Value.ownBlock] at hk; omega)
    clear hown hgrow
    go_wp2_with fail
    go_ret
    exact cloP HG3.out HB3.out

/-- slices of texts -/
def CloS (l : List ByteArray) (w : World) (e : Ending) (w' : World) : Prop :=
  ∃ oa c, e = .returned (.slice oa l.length c) ∧ Ss w' (.slice oa l.length c) l ∧ (∀ ad, oa = some ad → w.heap.size ≤ ad.block) ∧ Below w.heap.size w w'
theorem eql_nilS (w : World) (a : Option Addr) (n c n' c' : Nat) : (binOp .eql 22 (.slice a n c) (.slice none n' c')).run Tryd.prog w = .ok (.bool a.isNone) w := Lib.run_eql_slice_nil w _ _ a n c n' c' Tryd.underlying22
theorem infoS0 : (Tryd.prog.info? 9).map (fun i => (i.zero, i.size, i.bytes)) = some (some (.string ⟨#[]⟩), 1, 16) := by kernel_rfl
theorem infoS : ∃ i, Tryd.prog.info? 9 = some i ∧ i.zero = some (.string ⟨#[]⟩) ∧ i.size = 1 ∧ i.bytes = 16 := by
  have h := infoS0
  obtain ⟨i, hi, hzz⟩ := Option.map_eq_some_iff.1 h
  simp only [Prod.mk.injEq] at hzz
  exact ⟨i, hi, hzz.1, hzz.2.1, hzz.2.2⟩
theorem ss_news {w : World} {ad : Addr} {n c : Nat} {l : List ByteArray} (h : Ss w (.slice (some ad) n c) l) : ∀ j u, (l.map Value.string)[j]? = some u → w.cell? (ad.add j) = some u := fun j u hj => by
  obtain ⟨oa, c', hv, h⟩ := h
  simp only [Value.slice.injEq] at hv
  obtain ⟨rfl, -, rfl⟩ := hv
  rw [List.getElem?_map] at hj
  obtain ⟨s, hs, rfl⟩ := Option.map_eq_some_iff.1 hj
  have hjl : j < l.length := (List.getElem?_eq_some_iff.1 hs).1
  obtain ⟨a, ha, -, hc⟩ := h j hjl
  simp only [Option.some.injEq] at ha
  subst ha
  rw [List.getD_eq_getElem?_getD, hs] at hc
  exact hc
theorem ss_nil {w : World} {n c : Nat} {l : List ByteArray} (h : Ss w (.slice none n c) l) : l = [] ∧ n = 0 := by
  obtain ⟨oa, c', hv, h⟩ := h
  simp only [Value.slice.injEq] at hv
  obtain ⟨rfl, rfl, rfl⟩ := hv
  cases l with
  | nil => exact ⟨rfl, rfl⟩
  | cons x l =>
    obtain ⟨a, ha, -⟩ := h 0 (by simp)
    cases ha
theorem cloS {B : Nat} {l : List ByteArray} {w w' : World} {v : Value} (hB : w.heap.size ≤ B) (h : w'.ownsRow B 9 1 v l.length (l.map Value.string)) (hb : Below w.heap.size w w') : CloS l w (.returned v) w' := by
  rcases h.2 with ⟨hn, h0⟩ | ⟨g, cap, cur, rfl, hbg, hgg, hnc, rest⟩
  · have : l = [] := List.eq_nil_of_length_eq_zero h0
    subst this
    exact ⟨none, 0, by rw [hn]; rfl, Ss.nil _, fun ad h => (by cases h), hb⟩
  · refine ⟨some ⟨g, 0, none⟩, cap, rfl, ⟨_, _, rfl, fun i hi => ⟨_, rfl, (Array.getElem?_eq_some_iff.1 hgg).1, ?_⟩⟩, fun ad h => (by injection h with h; subst h; exact Nat.le_trans hB hbg), hb⟩
    have := World.ownsRow.cellAt (g := g) (cap := cap) (n := l.length) (xs := l.map Value.string) (w := w') (base := B) (e := 9) (size := 1) ⟨h.1, .inr ⟨g, cap, cur, rfl, hbg, hgg, hnc, rest⟩⟩ i (by omega)
    rw [L.add_zero_off, this, List.getElem?_map, List.getD_eq_getElem?_getD, List.getElem?_eq_getElem hi]
    rfl
theorem cloneStrs_n (u : Value) (l : List ByteArray) (hl : l.length ≤ 1000000) (w : World) (hu : Ss w u l) :
    Calls Tryd.prog 41 #[u] w (CloS l w) := by
  have HU := Lib.hid hu
  obtain ⟨oa, c, rfl, -⟩ := hu
  have q := eql_nilS
  cases oa with
  | none =>
    obtain ⟨rfl, -⟩ := ss_nil HU.out
    go_enter Tryd.func41, Tryd.ntmps41
    go_wp2_with fail
    go_ret
    exact ⟨none, 0, rfl, Ss.nil _, fun ad h => (by cases h), Below.refl _ _⟩
  | some ad =>
    obtain ⟨i0, hi, hz0, hz1, hz2⟩ := infoS
    go_enter Tryd.func41, Tryd.ntmps41
    go_wp2_with (at_builtin; refine wpList_append_own _ rfl _ _ 22 rfl w.heap.size 9 i0 (.string ⟨#[]⟩) 1 16 Tryd.underlying22 hi hz0 hz1 hz2 rfl (by decide) _ _ _ rfl (World.ownsRow_made w #[] 0 (Nat.le_refl _) (Nat.zero_le _) (by simp)) ad l.length c (l.map Value.string) rfl (by simp) (fun j u hj => cell_alloc_t _ (ss_news HU.out j u hj)) (fun v hv => by obtain ⟨s, -, rfl⟩ := List.mem_map.1 hv; rfl) (by simp; unfold maxLen; omega) (by simp; omega) (by simp) ?_)
    intro v3 w3 hown hgrow _
    have HG3 : Hid (w3.ownsRow w.heap.size 9 1 v3 l.length (l.map Value.string)) := by show World.ownsRow _ _ _ _ _ _ _; simpa using hown
    have HB3 : Hid (Below w.heap.size w w3) := (below_alloc w _).grown hgrow (by simp) (fun k hk => by simp [Value.ownBlock] at hk; omega)
    clear hown hgrow
    go_wp2_with fail
    go_ret
    exact cloS (Nat.le_refl _) HG3.out HB3.out

/-! ### copyOf -/
theorem Ab.put4 {w : World} {n : Nat} {x0 x1 x2 x3 x4 x5 : Value} (h : Ab w n x0 x1 x2 x3 x4 x5) (y : Value) : Ab (w.setCell ⟨n, 4, none⟩ y) n x0 x1 x2 x3 y x5 := by
  unfold Ab at *; simp [World.setCell, Array.getElem?_modify, h]
theorem Ab.far {w : World} {n m k : Nat} {x0 x1 x2 x3 x4 x5 : Value} (h : Ab w n x0 x1 x2 x3 x4 x5) (hne : n ≠ m) (y : Value) : Ab (w.setCell ⟨m, k, none⟩ y) n x0 x1 x2 x3 x4 x5 :=
  (Below.heap_setCell w ⟨m, k, none⟩ y n hne).trans h
/-- a result: a copy of an arc -/
def CpP (a : ArcT) (w : World) (e : Ending) (w' : World) : Prop :=
  ∃ ot ct os cs, e = .returned (.agg #[.int .i64 a.fr, .int .i64 a.to, .int .i64 a.prof, .int .i64 a.miles, .slice ot a.tr.length ct, .slice os a.sl.length cs]) ∧
    Gq w.heap.size w' (.slice ot a.tr.length ct) a.tr ∧ Gq w.heap.size w' (.slice os a.sl.length cs) a.sl ∧ (∀ g, ot = some ⟨g, 0, none⟩ → os ≠ some ⟨g, 0, none⟩) ∧ Below w.heap.size w w'
theorem Gq.mono {B C : Nat} {w : World} {v : Value} {l : List (Int × Int)} (h : Gq B w v l) (hle : C ≤ B) : Gq C w v l := Gn.mono h hle
theorem Gq.far {B : Nat} {w : World} {v : Value} {l : List (Int × Int)} (h : Gq B w v l) {n : Nat} (hn : n < B) (k : Nat) (y : Value) : Gq B (w.setCell ⟨n, k, none⟩ y) v l := by
  refine ⟨h.1, ?_⟩
  rcases h.2 with hn | ⟨g, cap, cur, e, hbg, hgg, rest⟩
  · exact .inl hn
  · refine .inr ⟨g, cap, cur, e, hbg, ?_, rest⟩
    rw [Below.heap_setCell _ _ _ _ (by show g ≠ n; omega)]; exact hgg

set_option maxHeartbeats 1600000 in
theorem copyOf_n (a : ArcT) (vt vs : Value) (ht9 : a.tr.length ≤ 1000000) (hs9 : a.sl.length ≤ 1000000) (w : World) (ht : Ps w vt a.tr) (hs : Ps w vs a.sl) :
    Calls Tryd.prog 30 #[.agg #[.int .i64 a.fr, .int .i64 a.to, .int .i64 a.prof, .int .i64 a.miles, vt, vs]] w (CpP a w) := by
  have K1 := Lib.hid (fun w h => clonePts_n vt a.tr ht9 w h)
  have K2 := Lib.hid (fun w h => clonePts_n vs a.sl hs9 w h)
  have T1 := Lib.hid ht
  have S1 := Lib.hid hs
  obtain ⟨fr, dt, prof, miles, tr, sl⟩ := a
  simp only at K1 K2 T1 S1 ht hs ⊢
  obtain ⟨ot1, ct1, rfl, -⟩ := ht
  obtain ⟨os1, cs1, rfl, -⟩ := hs
  obtain ⟨W0, hW0⟩ : ∃ W0, (w.alloc (.cells #[.int .i64 fr, .int .i64 dt, .int .i64 prof, .int .i64 miles, .slice ot1 tr.length ct1, .slice os1 sl.length cs1] 36)).alloc (.cells #[.int .i64 0, .int .i64 0, .int .i64 0, .int .i64 0, .slice none 0 0, .slice none 0 0] 36) = W0 := ⟨_, rfl⟩
  have A1 := Lib.hid ((Ab.made w (.int .i64 fr) (.int .i64 dt) (.int .i64 prof) (.int .i64 miles) (.slice ot1 tr.length ct1) (.slice os1 sl.length cs1)).alloc (.cells #[.int .i64 0, .int .i64 0, .int .i64 0, .int .i64 0, .slice none 0 0, .slice none 0 0] 36))
  have A2 := Ab.made (w.alloc (.cells #[.int .i64 fr, .int .i64 dt, .int .i64 prof, .int .i64 miles, .slice ot1 tr.length ct1, .slice os1 sl.length cs1] 36)) (.int .i64 0) (.int .i64 0) (.int .i64 0) (.int .i64 0) (.slice none 0 0) (.slice none 0 0)
  have B0 := Lib.hid (over (below_alloc w (.cells #[.int .i64 fr, .int .i64 dt, .int .i64 prof, .int .i64 miles, .slice ot1 tr.length ct1, .slice os1 sl.length cs1] 36)) (below_alloc _ (.cells #[.int .i64 0, .int .i64 0, .int .i64 0, .int .i64 0, .slice none 0 0, .slice none 0 0] 36)))
  rw [show (w.alloc (.cells #[.int .i64 fr, .int .i64 dt, .int .i64 prof, .int .i64 miles, .slice ot1 tr.length ct1, .slice os1 sl.length cs1] 36)).heap.size = w.heap.size + 1 by simp] at A2
  have A2 := Lib.hid A2
  rw [hW0] at A1 A2 B0
  have c4 := A1.out.c4
  have hsz0 : w.heap.size + 1 < W0.heap.size := A2.out.lt
  have T1' := Lib.hid (T1.out.below B0.out)
  have S1' := Lib.hid (S1.out.below B0.out)
  go_enter Tryd.func30, Tryd.ntmps30
  go_wp2_with fail
  clear hW0 c4
  refine (K1.out _ T1'.out).mono ?_
  rintro e w1 ⟨ot, ct, rfl, hg1, b1⟩
  have A1a := A1.out.below b1
  have A2a := A2.out.below b1
  have f4 := A1a.f 4
  have c4 := A1a.c4
  have hB1 := over B0.out b1
  have hsz1 : W0.heap.size ≤ w1.heap.size := b1.size
  have A1b := Lib.hid (A1a.put4 (.slice ot tr.length ct))
  have A2b := Lib.hid (A2a.far (m := w.heap.size) (k := 4) (by omega) (.slice ot tr.length ct))
  have B1 : Hid (Below w.heap.size w (w1.setCell ⟨w.heap.size, 4, none⟩ (.slice ot tr.length ct))) := hB1.setCell (p := ⟨w.heap.size, 4, none⟩) (Nat.le_refl _) _
  have G1 := Lib.hid (hg1.far (n := w.heap.size) (by omega) 4 (.slice ot tr.length ct))
  have S2 := Lib.hid (S1.out.below B1.out)
  have hsz2 : W0.heap.size ≤ (w1.setCell ⟨w.heap.size, 4, none⟩ (.slice ot tr.length ct)).heap.size := by simpa [World.setCell] using hsz1
  have c5 := A1b.out.c5
  clear b1 A1a A2a hB1 hg1 T1' S1' K1
  go_wp2_with fail
  clear f4 c4 c5
  obtain ⟨W2, hW2⟩ : ∃ W2, w1.setCell ⟨w.heap.size, 4, none⟩ (.slice ot tr.length ct) = W2 := ⟨_, rfl⟩
  rw [hW2] at A1b A2b B1 G1 S2 hsz2 ⊢
  clear hW2
  refine (K2.out _ S2.out).mono ?_
  rintro e w3 ⟨os, cs, rfl, hg2, b2⟩
  have A1c := A1b.out.below b2
  have A2c := A2b.out.below b2
  have f5 := A1c.f 5
  have hc5 := A1c.c5
  have hB2 := over B1.out b2
  have hsz3 : W2.heap.size ≤ w3.heap.size := b2.size
  have A1d := Lib.hid (A1c.put5 (.slice os sl.length cs))
  have A2d := Lib.hid (A2c.far (m := w.heap.size) (k := 5) (by omega) (.slice os sl.length cs))
  have B2 : Hid (Below w.heap.size w (w3.setCell ⟨w.heap.size, 5, none⟩ (.slice os sl.length cs))) := hB2.setCell (p := ⟨w.heap.size, 5, none⟩) (Nat.le_refl _) _
  have G1' := Lib.hid ((G1.out.frame b2).far (n := w.heap.size) (by omega) 5 (.slice os sl.length cs))
  have G2 := Lib.hid (hg2.far (n := w.heap.size) (by omega) 5 (.slice os sl.length cs))
  have HNE : Hid (∀ g, ot = some ⟨g, 0, none⟩ → os ≠ some ⟨g, 0, none⟩) := fun g h1 h2 => by
    have l1 := (World.ownsRow.lt G1.out.own g (by rw [h1]; rfl)).2
    have l2 := (World.ownsRow.lt hg2.own g (by rw [h2]; rfl)).1
    omega
  clear b2 A1c A2c hB2 hg2 A1b A2b G1 S2
  obtain ⟨W4, hW4⟩ : ∃ W4, w3.setCell ⟨w.heap.size, 5, none⟩ (.slice os sl.length cs) = W4 := ⟨_, rfl⟩
  have hsz4 : W2.heap.size ≤ W4.heap.size := by rw [← hW4]; simpa [World.setCell] using hsz3
  rw [hW4] at A1d A2d B2 G1' G2
  have d0 := A1d.out.c0
  have d1 := A1d.out.c1
  have d2 := A1d.out.c2
  have d3 := A1d.out.c3
  have d4 := A1d.out.c4
  have d5 := A1d.out.c5
  have q0 := A2d.out.f 0
  have q1 := A2d.out.f 1
  have q2 := A2d.out.f 2
  have q3 := A2d.out.f 3
  have q4 := A2d.out.f 4
  have q5 := A2d.out.f 5
  have e0 := A2d.out.c0
  have e1 := A2d.out.c1
  have e2 := A2d.out.c2
  have e3 := A2d.out.c3
  have e4 := A2d.out.c4
  have e5 := A2d.out.c5
  go_wp2_with fail
  clear q0 q1 q2 q3 q4 q5 d0 d1 d2 d3 d4 d5 e0 e1 e2 e3 e4 e5
  have HF := A2d.out.put (.int .i64 fr) (.int .i64 dt) (.int .i64 prof) (.int .i64 miles) (.slice ot tr.length ct) (.slice os sl.length cs)
  have x0 := HF.c0
  have x1 := HF.c1
  have x2 := HF.c2
  have x3 := HF.c3
  have x4 := HF.c4
  have x5 := HF.c5
  refine bodyPost_ret (v := .agg #[.int .i64 fr, .int .i64 dt, .int .i64 prof, .int .i64 miles, .slice ot tr.length ct, .slice os sl.length cs]) (by simp [results, Tryd.results30, go_sem, x0, x1, x2, x3, x4, x5]) rfl ?_
  have hn : w.heap.size + 1 < W0.heap.size := hsz0
  refine ⟨ot, ct, os, cs, rfl, ?_, ?_, HNE.out, below_put6 (n := w.heap.size + 1) B2.out (by omega) _ _ _ _ _ _⟩
  · exact ((((((G1'.out.far hn 0 _).far hn 1 _).far hn 2 _).far hn 3 _).far hn 4 _).far hn 5 _).mono (by omega)
  · have hn2 : w.heap.size + 1 < W2.heap.size := by omega
    exact ((((((G2.out.far hn2 0 _).far hn2 1 _).far hn2 2 _).far hn2 3 _).far hn2 4 _).far hn2 5 _).mono (by omega)

end Go.Proofs.YtegpebnkogjadaaDoor.T

