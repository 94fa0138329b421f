/-
  DERIVED. RefNet2: a part of the base of layer 13 (made by pack.py).
-/
import Derived.Test.YtnapmildbodigaaDoorHE
/-! The walks of the specification's Find and Go. -/
namespace Go.Proofs.YtnapmildbodigaaDoor.T
open Go.RowKit
set_option maxRecDepth 8000

/-- block n holds an arc's six cells -/
def Ab (w : World) (n : Nat) (x0 x1 x2 x3 x4 x5 : Value) : Prop := w.heap[n]? = some (.cells #[x0, x1, x2, x3, x4, x5] 95)
section
variable {w w' : World} {n : Nat} {x0 x1 x2 x3 x4 x5 : Value}
theorem Ab.c0 (h : Ab w n x0 x1 x2 x3 x4 x5) : w.cell? ⟨n, 0, none⟩ = some x0 := by unfold Ab at h; simp [World.cell?, h]
theorem Ab.c1 (h : Ab w n x0 x1 x2 x3 x4 x5) : w.cell? ⟨n, 1, none⟩ = some x1 := by unfold Ab at h; simp [World.cell?, h]
theorem Ab.c2 (h : Ab w n x0 x1 x2 x3 x4 x5) : w.cell? ⟨n, 2, none⟩ = some x2 := by unfold Ab at h; simp [World.cell?, h]
theorem Ab.c3 (h : Ab w n x0 x1 x2 x3 x4 x5) : w.cell? ⟨n, 3, none⟩ = some x3 := by unfold Ab at h; simp [World.cell?, h]
theorem Ab.c4 (h : Ab w n x0 x1 x2 x3 x4 x5) : w.cell? ⟨n, 4, none⟩ = some x4 := by unfold Ab at h; simp [World.cell?, h]
theorem Ab.c5 (h : Ab w n x0 x1 x2 x3 x4 x5) : w.cell? ⟨n, 5, none⟩ = some x5 := by unfold Ab at h; simp [World.cell?, h]
theorem Ab.f (h : Ab w n x0 x1 x2 x3 x4 x5) (k : Nat) : w.frozen? ⟨n, k, none⟩ = false := by unfold Ab at h; simp [World.frozen?, h]
theorem Ab.lt (h : Ab w n x0 x1 x2 x3 x4 x5) : n < w.heap.size := by
  apply Decidable.byContradiction
  intro hc
  unfold Ab at h
  rw [Array.getElem?_eq_none (by omega)] at h; cases h
theorem Ab.below (h : Ab w n x0 x1 x2 x3 x4 x5) (hb : Below w.heap.size w w') : Ab w' n x0 x1 x2 x3 x4 x5 := (hb.block n h.lt).trans h
theorem Ab.alloc (h : Ab w n x0 x1 x2 x3 x4 x5) (o : Obj) : Ab (w.alloc o) n x0 x1 x2 x3 x4 x5 := (Below.heap_alloc w o n h.lt).trans h
theorem Ab.made (w : World) (x0 x1 x2 x3 x4 x5 : Value) : Ab (w.alloc (.cells #[x0, x1, x2, x3, x4, x5] 95)) w.heap.size x0 x1 x2 x3 x4 x5 := by
  show (w.heap.push _)[w.heap.size]? = _
  simp
theorem Ab.put (h : Ab w n x0 x1 x2 x3 x4 x5) (y0 y1 y2 y3 y4 y5 : Value) :
    Ab ((((((w.setCell ⟨n, 0, none⟩ y0).setCell ⟨n, 1, none⟩ y1).setCell ⟨n, 2, none⟩ y2).setCell ⟨n, 3, none⟩ y3).setCell ⟨n, 4, none⟩ y4).setCell ⟨n, 5, none⟩ y5) n y0 y1 y2 y3 y4 y5 := by
  unfold Ab at *; simp [World.setCell, Array.getElem?_modify, h]
end
theorem below_put6 {B : Nat} {a w : World} {n : Nat} (h : Below B a w) (hn : B ≤ n) (y0 y1 y2 y3 y4 y5 : Value) :
    Below B a ((((((w.setCell ⟨n, 0, none⟩ y0).setCell ⟨n, 1, none⟩ y1).setCell ⟨n, 2, none⟩ y2).setCell ⟨n, 3, none⟩ y3).setCell ⟨n, 4, none⟩ y4).setCell ⟨n, 5, none⟩ y5) :=
  (((((h.setCell hn _).setCell hn _).setCell hn _).setCell hn _).setCell hn _).setCell hn _

def hitB (pr f t : Int) (a : ArcT) : Bool := decide (a.fr = f) && decide (a.to = t) && decide (a.prof = pr)
def findA (l : List ArcT) (pr f t : Int) : Option ArcT := l.find? (hitB pr f t)
theorem find_step {l : List ArcT} {pr f t : Int} {k : Nat} (hk : k < l.length) : findA (l.drop k) pr f t = if hitB pr f t (l.getD k arc0) then some (l.getD k arc0) else findA (l.drop (k + 1)) pr f t := by
  rw [drop_more (d := arc0) hk]
  unfold findA
  rw [List.find?_cons]
  split <;> simp_all
theorem hit_yes {pr f t : Int} {a : ArcT} (h1 : a.fr = f) (h2 : a.to = t) (h3 : a.prof = pr) : hitB pr f t a = true := by unfold hitB; rw [decide_eq_true h1, decide_eq_true h2, decide_eq_true h3]; rfl
theorem hit_no {pr f t : Int} {a : ArcT} (h : a.fr ≠ f ∨ a.to ≠ t ∨ a.prof ≠ pr) : hitB pr f t a = false := by
  cases e : hitB pr f t a
  · rfl
  · unfold hitB at e
    simp only [Bool.and_eq_true, decide_eq_true_iff] at e
    obtain ⟨⟨h1, h2⟩, h3⟩ := e
    rcases h with h | h | h
    · exact absurd h1 h
    · exact absurd h2 h
    · exact absurd h3 h
/-- a result: an arc, and whether there is one -/
def FdP (x : Option ArcT) (w : World) (e : Ending) (w' : World) : Prop :=
  ∃ vt vs, e = .returned (.tuple #[.agg #[.int .i64 (x.getD arc0).fr, .int .i64 (x.getD arc0).to, .int .i64 (x.getD arc0).prof, .int .i64 (x.getD arc0).miles, vt, vs], .bool x.isSome]) ∧
    Ps w' vt (x.getD arc0).tr ∧ Ps w' vs (x.getD arc0).sl ∧ Below w.heap.size w w'
def v0 : Value := .int .i64 0
set_option maxHeartbeats 1600000 in
theorem refFind_n (vp va : Value) (l : List ArcT) (pr f t : Int) (hl : l.length ≤ 1000000000) (w : World) (ha : As w va l) :
    Calls Tryd.prog 83 #[.agg #[vp, va], .int .i64 pr, .int .i64 f, .int .i64 t] w (FdP (findA l pr f t) w) := by
  have HE : Hid (findA (l.drop 0) pr f t = findA l pr f t) := rfl
  have HST := Lib.hid (fun k (hk : k < l.length) => find_step (pr := pr) (f := f) (t := t) hk)
  have HZ : Hid (findA (l.drop l.length) pr f t = none) := by show _ = _; rw [List.drop_length]; rfl
  generalize findA l pr f t = r at *
  obtain ⟨oa, c, rfl, ha⟩ := ha
  have HA := Lib.hid ha
  clear ha
  generalize hn : l.length = n at *
  obtain ⟨W0, hW0⟩ : ∃ W0, (w.alloc (.cells #[vp, .slice oa n c] 25)).alloc (.cells #[.int .i64 0, .int .i64 0, .int .i64 0, .int .i64 0, .slice none 0 0, .slice none 0 0] 95) = W0 := ⟨_, rfl⟩
  have B0 : Hid (Below w.heap.size w W0) := by show Below _ _ _; rw [← hW0]; exact over (below_alloc _ _) (below_alloc _ _)
  have N0 : Hid (Nb W0 w.heap.size vp (.slice oa n c)) := by show Nb _ _ _ _; rw [← hW0]; exact (Nb.made w vp (.slice oa n c)).below (below_alloc _ _)
  have R0 : Hid (Ab W0 (w.heap.size + 1) (.int .i64 0) (.int .i64 0) (.int .i64 0) (.int .i64 0) (.slice none 0 0) (.slice none 0 0)) := by
    show Ab _ _ _ _ _ _ _ _
    have := Ab.made (w.alloc (.cells #[vp, .slice oa n c] 25)) (.int .i64 0) (.int .i64 0) (.int .i64 0) (.int .i64 0) (.slice none 0 0) (.slice none 0 0)
    rw [← hW0]
    simpa using this
  go_enter Tryd.func83, Tryd.ntmps83
  go_wp2_with fail
  clear hW0
  go_loopw [10] (fun i wr => ∃ k : Nat, k ≤ n ∧ i = .int .i64 k ∧ Hid (findA (l.drop k) pr f t = r) ∧ Hid (Nb wr w.heap.size vp (.slice oa n c)) ∧ Hid (Ab wr (w.heap.size + 1) (.int .i64 0) (.int .i64 0) (.int .i64 0) (.int .i64 0) (.slice none 0 0) (.slice none 0 0)) ∧ Hid (Below w.heap.size w wr)) (fun i _ => n - (intOf i).toNat)
  case atStart => exact ⟨0, Nat.zero_le _, rfl, HE, N0, R0, B0⟩
  case round =>
    clear HE N0 R0 B0
    obtain ⟨k, hk, rfl, HI, HN, HR, HW⟩ := hrel
    have g0 := HN.out.c0
    have g1 := HN.out.c1
    by_cases hlt : k < n
    · obtain ⟨b, o, vt, vs, rfl, hab, ⟨h0, h1, h2, h3, h4, h5⟩, hpt, hps⟩ := HA.out k hlt
      have hst := HST.out k hlt
      have d0 := (HW.out.cell (p := ⟨b, _, none⟩) hab).trans h0
      have d1 := (HW.out.cell (p := ⟨b, _, none⟩) hab).trans h1
      have d2 := (HW.out.cell (p := ⟨b, _, none⟩) hab).trans h2
      have d3 := (HW.out.cell (p := ⟨b, _, none⟩) hab).trans h3
      have d4 := (HW.out.cell (p := ⟨b, _, none⟩) hab).trans h4
      have d5 := (HW.out.cell (p := ⟨b, _, none⟩) hab).trans h5
      have PT := Lib.hid hpt
      have PS := Lib.hid hps
      clear h0 h1 h2 h3 h4 h5
      obtain ⟨ot, ct, hvt, -⟩ := id hpt
      obtain ⟨os, cs, hvs, -⟩ := id hps
      subst hvt
      subst hvs
      clear hpt hps
      generalize l.getD k arc0 = a at *
      obtain ⟨fr, dt, prof, miles, tr, sl⟩ := a
      simp only at d0 d1 d2 d3 d4 d5 PT PS hst
      have hkI : (k : Int) < (n : Int) := by omega
      by_cases hh : fr = f ∧ dt = t ∧ prof = pr
      · obtain ⟨rfl, rfl, rfl⟩ := hh
        have HX : Hid (some (ArcT.mk fr dt prof miles tr sl) = r) := by show _ = _; rw [← HI.out, hst, (hit_yes rfl rfl rfl : hitB prof fr dt ⟨fr, dt, prof, miles, tr, sl⟩ = true)]; rfl
        obtain ⟨q, hq⟩ : ∃ q, wr.heap.size = q := ⟨_, rfl⟩
        have hsz := HW.out.size
        obtain ⟨W1, hW1⟩ : ∃ W1, wr.alloc (.cells #[.int .i64 fr, .int .i64 dt, .int .i64 prof, .int .i64 miles, .slice ot tr.length ct, .slice os sl.length cs] 95) = W1 := ⟨_, rfl⟩
        have R1 := Lib.hid (HR.out.alloc (.cells #[.int .i64 fr, .int .i64 dt, .int .i64 prof, .int .i64 miles, .slice ot tr.length ct, .slice os sl.length cs] 95))
        have A1 := Lib.hid (Ab.made wr (.int .i64 fr) (.int .i64 dt) (.int .i64 prof) (.int .i64 miles) (.slice ot tr.length ct) (.slice os sl.length cs))
        have B1 := Lib.hid (HW.out.alloc hsz (.cells #[.int .i64 fr, .int .i64 dt, .int .i64 prof, .int .i64 miles, .slice ot tr.length ct, .slice os sl.length cs] 95))
        rw [hW1] at R1 A1 B1
        rw [hq] at A1
        clear hst HI HR HN HW
        have q0 := R1.out.f 0
        have q1 := R1.out.f 1
        have q2 := R1.out.f 2
        have q3 := R1.out.f 3
        have q4 := R1.out.f 4
        have q5 := R1.out.f 5
        have c0 := A1.out.c0
        have c1 := A1.out.c1
        have c2 := A1.out.c2
        have c3 := A1.out.c3
        have c4 := A1.out.c4
        have c5 := A1.out.c5
        have e0 := R1.out.c0
        have e1 := R1.out.c1
        have e2 := R1.out.c2
        have e3 := R1.out.c3
        have e4 := R1.out.c4
        have e5 := R1.out.c5
        go_wp2_with fail
        clear q0 q1 q2 q3 q4 q5 c0 c1 c2 c3 c4 c5 e0 e1 e2 e3 e4 e5
        have HF := R1.out.put (.int .i64 fr) (.int .i64 dt) (.int .i64 prof) (.int .i64 miles) (.slice ot tr.length ct) (.slice os sl.length cs)
        have x0 := HF.c0
        have x1 := HF.c1
        have x2 := HF.c2
        have x3 := HF.c3
        have x4 := HF.c4
        have x5 := HF.c5
        refine bodyPost_ret (v := .tuple #[.agg #[.int .i64 fr, .int .i64 dt, .int .i64 prof, .int .i64 miles, .slice ot tr.length ct, .slice os sl.length cs], .bool true]) (by simp [results, Tryd.results83, go_sem, x0, x1, x2, x3, x4, x5]) rfl ?_
        rw [← HX.out]
        have BF := below_put6 (n := w.heap.size + 1) B1.out (by omega) (.int .i64 fr) (.int .i64 dt) (.int .i64 prof) (.int .i64 miles) (.slice ot tr.length ct) (.slice os sl.length cs)
        exact ⟨_, _, rfl, PT.out.below BF, PS.out.below BF, BF⟩
      · have hno : hitB pr f t ⟨fr, dt, prof, miles, tr, sl⟩ = false := hit_no (by
          by_cases e1 : fr = f
          · by_cases e2 : dt = t
            · exact .inr (.inr fun e3 => hh ⟨e1, e2, e3⟩)
            · exact .inr (.inl e2)
          · exact .inl e1)
        rw [hno] at hst
        have HI2 : Hid (findA (l.drop (k + 1)) pr f t = r) := by show _ = _; rw [← HI.out, hst]; rfl
        have N1 := Lib.hid (HN.out.below (below_alloc wr (.cells #[.int .i64 fr, .int .i64 dt, .int .i64 prof, .int .i64 miles, .slice ot tr.length ct, .slice os sl.length cs] 95)))
        have R1 := Lib.hid (HR.out.alloc (.cells #[.int .i64 fr, .int .i64 dt, .int .i64 prof, .int .i64 miles, .slice ot tr.length ct, .slice os sl.length cs] 95))
        have B1 := Lib.hid (HW.out.alloc HW.out.size (.cells #[.int .i64 fr, .int .i64 dt, .int .i64 prof, .int .i64 miles, .slice ot tr.length ct, .slice os sl.length cs] 95))
        clear hst HI hno
        by_cases e1 : fr = f
        · subst e1
          by_cases e2 : dt = t
          · subst e2
            have e3 := ne_eqI (fun e3 => hh ⟨rfl, rfl, e3⟩ : prof ≠ pr)
            clear hh
            go_wp2_with fail
            go_roundw
            case rel => exact ⟨k + 1, by omega, by go_num, HI2, N1, R1, B1⟩
            case measure => simp [intOf]; omega
          · have e3 := ne_eqI e2
            clear hh
            go_wp2_with fail
            go_roundw
            case rel => exact ⟨k + 1, by omega, by go_num, HI2, N1, R1, B1⟩
            case measure => simp [intOf]; omega
        · have e3 := ne_eqI e1
          clear hh
          go_wp2_with fail
          go_roundw
          case rel => exact ⟨k + 1, by omega, by go_num, HI2, N1, R1, B1⟩
          case measure => simp [intOf]; omega
    · have hk' : k = n := by omega
      subst hk'
      have HX : Hid (none = r) := by show _ = _; rw [← HI.out, HZ.out]
      have q0 := HR.out.f 0
      have q1 := HR.out.f 1
      have q2 := HR.out.f 2
      have q3 := HR.out.f 3
      have q4 := HR.out.f 4
      have q5 := HR.out.f 5
      have e0 := HR.out.c0
      have e1 := HR.out.c1
      have e2 := HR.out.c2
      have e3 := HR.out.c3
      have e4 := HR.out.c4
      have e5 := HR.out.c5
      have hlt1 := HR.out.lt
      go_wp2_with fail
      clear q0 q1 q2 q3 q4 q5 e0 e1 e2 e3 e4 e5
      have HF := HR.out.put (.int .i64 0) (.int .i64 0) (.int .i64 0) (.int .i64 0) (.slice none 0 0) (.slice none 0 0)
      have x0 := HF.c0
      have x1 := HF.c1
      have x2 := HF.c2
      have x3 := HF.c3
      have x4 := HF.c4
      have x5 := HF.c5
      refine bodyPost_ret (v := .tuple #[.agg #[.int .i64 0, .int .i64 0, .int .i64 0, .int .i64 0, .slice none 0 0, .slice none 0 0], .bool false]) (by simp [results, Tryd.results83, go_sem, x0, x1, x2, x3, x4, x5]) rfl ?_
      rw [← HX.out]
      exact ⟨_, _, rfl, Sl.nil _, Sl.nil _, below_put6 (n := w.heap.size + 1) HW.out (by omega) _ _ _ _ _ _⟩

theorem find_mem {l : List ArcT} {pr f t : Int} {a : ArcT} (h : findA l pr f t = some a) : a ∈ l ∧ a.fr = f ∧ a.to = t ∧ a.prof = pr := by
  unfold findA at h
  have h1 := List.mem_of_find?_eq_some h
  have h2 := List.find?_some h
  unfold hitB at h2
  simp only [Bool.and_eq_true, decide_eq_true_iff] at h2
  exact ⟨h1, h2.1.1, h2.1.2, h2.2⟩
theorem NetOk.mem {pl : List ByteArray} {l : List ArcT} (h : NetOk pl l) {a : ArcT} (ha : a ∈ l) : ArcOk pl.length a := by
  obtain ⟨i, hi, rfl⟩ := List.mem_iff_getElem.1 ha
  have := h.arcs i hi
  rwa [List.getD_eq_getElem?_getD, List.getElem?_eq_getElem hi] at this

/-! ### Go -/
def goV (np : Nat) (l : List ArcT) (pr f t d : Int) : Int × Int × Int :=
  if inB np f && inB np t then (if f = t then (d, 0, 0) else match findA l pr f t with | some a => (arrA a d, a.miles, 0) | none => (0, 0, 12)) else (0, 0, 11)
def GoP (x : Int × Int × Int) (w : World) (e : Ending) (w' : World) : Prop := e = .returned (.tuple #[.int .i64 x.1, .int .i64 x.2.1, .int .i64 x.2.2]) ∧ Below w.heap.size w w'

theorem ret_three {a b c : Int} {r : Int × Int × Int} (h : (a, b, c) = r) : Ending.returned (.tuple #[.int .i64 a, .int .i64 b, .int .i64 c]) = .returned (.tuple #[.int .i64 r.1, .int .i64 r.2.1, .int .i64 r.2.2]) := by rw [← h]

set_option maxHeartbeats 1600000 in
theorem refGo_n (vp va : Value) (pl : List ByteArray) (l : List ArcT) (pr f t d : Int) (hl : l.length ≤ 1000000000) (hN : NetOk pl l) (hd0 : 0 ≤ d) (hd1 : d ≤ 1073741824) (w : World) (hp : Ss w vp pl) (ha : As w va l) :
    Calls Tryd.prog 77 #[.agg #[vp, va], .int .i64 pr, .int .i64 f, .int .i64 t, .int .i64 d] w (GoP (goV pl.length l pr f t d) w) := by
  obtain ⟨op, cp, rfl, -⟩ := hp
  obtain ⟨oa, ca, hva, -⟩ := id ha
  subst hva
  have HA := Lib.hid ha
  have K1 := Lib.hid (fun w => refPlace_n op pl.length cp (.slice oa l.length ca) f w)
  have K2 := Lib.hid (fun w => refPlace_n op pl.length cp (.slice oa l.length ca) t w)
  have N0 := Lib.hid (Nb.made w (.slice op pl.length cp) (.slice oa l.length ca))
  cases h1 : inB pl.length f
  · have HR : Hid ((0, 0, 11) = goV pl.length l pr f t d) := by show _ = _; unfold goV; rw [h1]; rfl
    rw [h1] at K1
    generalize goV pl.length l pr f t d = r at *
    clear h1 ha hN
    go_enter Tryd.func77, Tryd.ntmps77
    go_wp2_with fail
    refine (K1.out _).mono ?_
    rintro e w1 ⟨rfl, b1⟩
    have B1 := Lib.hid (over (w := w) (by go_grown) b1)
    clear b1
    go_wp2_with fail
    go_ret3
    exact ⟨ret_three HR.out, B1.out⟩
  cases h2 : inB pl.length t
  · have HR : Hid ((0, 0, 11) = goV pl.length l pr f t d) := by show _ = _; unfold goV; rw [h1, h2]; rfl
    rw [h1] at K1
    rw [h2] at K2
    generalize goV pl.length l pr f t d = r at *
    clear h1 h2 ha hN
    go_enter Tryd.func77, Tryd.ntmps77
    go_wp2_with fail
    refine (K1.out _).mono ?_
    rintro e w1 ⟨rfl, b1⟩
    have B1 := Lib.hid (over (w := w) (by go_grown) b1)
    have N1 := Lib.hid (N0.out.below b1)
    have g0 := N1.out.c0
    have g1 := N1.out.c1
    clear b1
    go_wp2_with fail
    refine (K2.out _).mono ?_
    rintro e w2 ⟨rfl, b2⟩
    have B2 := Lib.hid (over B1.out b2)
    clear b2
    go_wp2_with fail
    go_ret3
    exact ⟨ret_three HR.out, B2.out⟩
  rw [h1] at K1
  rw [h2] at K2
  by_cases hft : f = t
  · have HR : Hid ((d, 0, 0) = goV pl.length l pr f t d) := by show _ = _; unfold goV; rw [h1, h2, if_pos hft]; rfl
    subst hft
    generalize goV pl.length l pr f f d = r at *
    clear h1 h2 ha hN
    go_enter Tryd.func77, Tryd.ntmps77
    go_wp2_with fail
    refine (K1.out _).mono ?_
    rintro e w1 ⟨rfl, b1⟩
    have B1 := Lib.hid (over (w := w) (by go_grown) b1)
    have N1 := Lib.hid (N0.out.below b1)
    have g0 := N1.out.c0
    have g1 := N1.out.c1
    clear b1
    go_wp2_with fail
    refine (K2.out _).mono ?_
    rintro e w2 ⟨rfl, b2⟩
    have B2 := Lib.hid (over B1.out b2)
    clear b2
    go_wp2_with fail
    go_ret3
    exact ⟨ret_three HR.out, B2.out⟩
  have K3 := Lib.hid (fun w ha => refFind_n (.slice op pl.length cp) (.slice oa l.length ca) l pr f t hl w ha)
  have hne := ne_eqI hft
  cases hF : findA l pr f t with
  | none =>
    have HR : Hid ((0, 0, 12) = goV pl.length l pr f t d) := by show _ = _; unfold goV; rw [h1, h2, if_neg hft, hF]; rfl
    rw [hF] at K3
    generalize goV pl.length l pr f t d = r at *
    clear h1 h2 ha hN hft hF
    go_enter Tryd.func77, Tryd.ntmps77
    go_wp2_with fail
    refine (K1.out _).mono ?_
    rintro e w1 ⟨rfl, b1⟩
    have B1 := Lib.hid (over (w := w) (by go_grown) b1)
    have N1 := Lib.hid (N0.out.below b1)
    have g0 := N1.out.c0
    have g1 := N1.out.c1
    clear b1
    go_wp2_with fail
    refine (K2.out _).mono ?_
    rintro e w2 ⟨rfl, b2⟩
    have B2 := Lib.hid (over B1.out b2)
    have N2 := Lib.hid (N1.out.below b2)
    clear b2 g0 g1
    have g0 := N2.out.c0
    have g1 := N2.out.c1
    go_wp2_with fail
    refine (K3.out _ (HA.out.below B2.out)).mono ?_
    rintro e w3 ⟨vt, vs, rfl, ht, hs, b3⟩
    have B3 := Lib.hid (over B2.out b3)
    obtain ⟨ot, ct, rfl, -⟩ := ht
    obtain ⟨os, cs, rfl, -⟩ := hs
    clear b3 g0 g1
    unfold arc0
    go_wp2_with fail
    go_ret3
    exact ⟨ret_three HR.out, over B3.out (below_alloc _ _)⟩
  | some a =>
    have HR : Hid ((arrA a d, a.miles, 0) = goV pl.length l pr f t d) := by show _ = _; unfold goV; rw [h1, h2, if_neg hft, hF]; rfl
    rw [hF] at K3
    have hok := hN.mem (find_mem hF).1
    have K4 := Lib.hid (fun vt vs w ht hs => refArrive9_n pl.length a vt vs d hok hd0 hd1 w ht hs)
    generalize goV pl.length l pr f t d = r at *
    clear h1 h2 ha hN hft hF hok
    obtain ⟨fr, dt, prof, miles, tr, sl⟩ := a
    generalize arrA _ d = x at *
    simp only at K4 HR
    go_enter Tryd.func77, Tryd.ntmps77
    go_wp2_with fail
    refine (K1.out _).mono ?_
    rintro e w1 ⟨rfl, b1⟩
    have B1 := Lib.hid (over (w := w) (by go_grown) b1)
    have N1 := Lib.hid (N0.out.below b1)
    have g0 := N1.out.c0
    have g1 := N1.out.c1
    clear b1
    go_wp2_with fail
    refine (K2.out _).mono ?_
    rintro e w2 ⟨rfl, b2⟩
    have B2 := Lib.hid (over B1.out b2)
    have N2 := Lib.hid (N1.out.below b2)
    clear b2 g0 g1
    have g0 := N2.out.c0
    have g1 := N2.out.c1
    go_wp2_with fail
    refine (K3.out _ (HA.out.below B2.out)).mono ?_
    rintro e w3 ⟨vt, vs, rfl, ht, hs, b3⟩
    have B3 := Lib.hid (over B2.out b3)
    have HT := Lib.hid ht
    have HS := Lib.hid hs
    obtain ⟨ot, ct, rfl, -⟩ := ht
    obtain ⟨os, cs, rfl, -⟩ := hs
    clear b3 g0 g1
    simp only [Option.getD_some, Option.isSome_some] at HT HS ⊢
    obtain ⟨W4, hW4⟩ : ∃ W4, w3.alloc (.cells #[.int .i64 fr, .int .i64 dt, .int .i64 prof, .int .i64 miles, .slice ot tr.length ct, .slice os sl.length cs] 95) = W4 := ⟨_, rfl⟩
    obtain ⟨q, hq⟩ : ∃ q, w3.heap.size = q := ⟨_, rfl⟩
    have A3 := Lib.hid (Ab.made w3 (.int .i64 fr) (.int .i64 dt) (.int .i64 prof) (.int .i64 miles) (.slice ot tr.length ct) (.slice os sl.length cs))
    have hb3 := below_alloc w3 (.cells #[.int .i64 fr, .int .i64 dt, .int .i64 prof, .int .i64 miles, .slice ot tr.length ct, .slice os sl.length cs] 95)
    have B4 := Lib.hid (below_drew (over B3.out hb3))
    have HT4 := Lib.hid (HT.out.below hb3)
    have HS4 := Lib.hid (HS.out.below hb3)
    rw [hW4] at A3 B4 HT4 HS4
    rw [hq] at A3
    have A4 : Hid (Ab W4.drew q (.int .i64 fr) (.int .i64 dt) (.int .i64 prof) (.int .i64 miles) (.slice ot tr.length ct) (.slice os sl.length cs)) := A3
    have HT5 : Hid (Ps W4.drew (.slice ot tr.length ct) tr) := HT4
    have HS5 : Hid (Ps W4.drew (.slice os sl.length cs) sl) := HS4
    have c0 := A3.out.c0
    have c1 := A3.out.c1
    have c2 := A3.out.c2
    have c3 := A3.out.c3
    have c4 := A3.out.c4
    have c5 := A3.out.c5
    clear hb3 B3 HT HS HT4 HS4 A3
    go_wp2_with fail
    go_region_with (go_at_call 84; with_reducible refine (K4.out _ _ _ HT5.out HS5.out).mono ?_; rintro e w5 ⟨rfl, b5⟩; have A5 := A4.out.below b5; have d3 := A5.c3; have B5 := over B4.out b5)
    all_goals
      go_wp2_with fail
      go_ret3
      exact ⟨ret_three HR.out, B5⟩

end Go.Proofs.YtnapmildbodigaaDoor.T



