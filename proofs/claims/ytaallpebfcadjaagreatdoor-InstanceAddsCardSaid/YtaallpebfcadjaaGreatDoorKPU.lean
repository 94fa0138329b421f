/-
  DERIVED. KPU: a part of the base of layer 13 (made by pack.py).
-/
import Derived.Test.YtaallpebfcadjaaGreatDoorKPR
import Derived.Test.YtaallpebfcadjaaGreatDoorKPO
import Derived.Deep.RegionHeld3
import Derived.Shelf.Abstract
import Derived.Test.YtaallpebfcadjaaGreatDoorKPB
import Derived.Test.YtaallpebfcadjaaGreatDoorKPC
/-! Slices of orders, an order and a visit by value, as arguments (written by gen_ordargs.py). -/
namespace Go.Proofs.YtaallpebfcadjaaGreatDoor.T
open Go.Joins Go.ChangeShapes Go.WideShapes Go.ChangeAt Go.RowKit Go.Deep
set_option maxRecDepth 8000

section
variable {H : Type} {enc : TypeId × Value → H}
theorem stop_of {W : World} {base : Nat} {cs : List Value} {x : DataW H × List MemPlace} {n : Nat} (hlen : cs.length = 4)
    (hf : DataW.trod enc Tryz.prog W base (fun _ => true) true n 42 cs = some x) : ∃ p o c s : Int, cs = [.int .i64 p, .int .i64 o, .int .i64 c, .int .i64 s] := by
  have he : Tryz.prog.underlying 42 = some (.struct #[_, _, _, _]) := Tryz.underlying42
  obtain ⟨xs, n', _, hx, _, hxl, hg⟩ := DataW.trod_struct he hf
  match cs, hlen with
  | [v0, v1, v2, v3], _ =>
    match xs, hxl with
    | [y0, y1, y2, y3], _ =>
      have k0 := hg 0 _ rfl
      have k1 := hg 1 _ rfl
      have k2 := hg 2 _ rfl
      have k3 := hg 3 _ rfl
      have o1 : Tryz.prog.cellsOf 3 = 1 := by kernel_rfl
      simp [o1] at k0 k1 k2 k3
      obtain ⟨q0, e0, _, _⟩ := DataW.trod_int Tryz.underlying3 k0
      obtain ⟨q1, e1, _, _⟩ := DataW.trod_int Tryz.underlying3 k1
      obtain ⟨q2, e2, _, _⟩ := DataW.trod_int Tryz.underlying3 k2
      obtain ⟨q3, e3, _, _⟩ := DataW.trod_int Tryz.underlying3 k3
      simp only [List.cons.injEq, and_true] at e0 e1 e2 e3
      subst e0 e1 e2 e3
      exact ⟨_, _, _, _, rfl⟩
theorem order_of {W : World} {base : Nat} {cs : List Value} {x : DataW H × List MemPlace} {n : Nat} (hlen : cs.length = 16)
    (hf : DataW.trod enc Tryz.prog W base (fun _ => true) true n 44 cs = some x) (hlt : ∀ p ∈ x.2, p.block < W.heap.size) :
    ∃ (q : OrT) (oa : Option Addr) (c : Nat), cs = [.string q.name, .slice oa q.load.length c, .int .i64 q.pp, .int .i64 q.po, .int .i64 q.pc, .int .i64 q.ps, .int .i64 q.dp, .int .i64 q.dd, .int .i64 q.dc, .int .i64 q.ds, .int .i64 q.sk, .int .i64 q.pen, .int .i64 q.spl, .int .i64 q.las, .int .i64 q.now, .bool q.off] ∧
      L.Li W (.slice oa q.load.length c) q.load ∧ q.load.length ≤ 9223372036854775807 ∧ q.name.size ≤ 9223372036854775807 := by
  have he : Tryz.prog.underlying 44 = some (.struct #[_, _, _, _, _, _, _, _, _, _]) := Tryz.underlying44
  obtain ⟨xs, n', _, hx, _, hxl, hg⟩ := DataW.trod_struct he hf
  match cs, hlen with
  | [v0, v1, v2, v3, v4, v5, v6, v7, v8, v9, v10, v11, v12, v13, v14, v15], _ =>
    match xs, hxl with
    | [y0, y1, y2, y3, y4, y5, y6, y7, y8, y9], _ =>
      have k0 := hg 0 _ rfl
      have k1 := hg 1 _ rfl
      have k2 := hg 2 _ rfl
      have k3 := hg 3 _ rfl
      have k4 := hg 4 _ rfl
      have k5 := hg 5 _ rfl
      have k6 := hg 6 _ rfl
      have k7 := hg 7 _ rfl
      have k8 := hg 8 _ rfl
      have k9 := hg 9 _ rfl
      have o1 : Tryz.prog.cellsOf 3 = 1 := by kernel_rfl
      have o2 : Tryz.prog.cellsOf 40 = 1 := by kernel_rfl
      have o3 : Tryz.prog.cellsOf 9 = 1 := by kernel_rfl
      have o4 : Tryz.prog.cellsOf 42 = 4 := by kernel_rfl
      have o5 : Tryz.prog.cellsOf 4 = 1 := by kernel_rfl
      simp [o1, o2, o3, o4, o5] at k0 k1 k2 k3 k4 k5 k6 k7 k8 k9
      obtain ⟨s0, e0, z0⟩ : ∃ s : ByteArray, v0 = .string s ∧ s.size ≤ maxLen := by
        obtain ⟨s, e0, _, hs⟩ := DataW.trod_string Tryz.underlying9 k0
        simp only [List.cons.injEq, and_true] at e0
        exact ⟨s, e0, hs⟩
      obtain ⟨p0, p1, p2, p3, e2⟩ := stop_of rfl k2
      obtain ⟨r0, r1, r2, r3, e3⟩ := stop_of rfl k3
      obtain ⟨q4, e4, _, _⟩ := DataW.trod_int Tryz.underlying3 k4
      obtain ⟨q5, e5, _, _⟩ := DataW.trod_int Tryz.underlying3 k5
      obtain ⟨q6, e6, _, _⟩ := DataW.trod_int Tryz.underlying3 k6
      obtain ⟨q7, e7, _, _⟩ := DataW.trod_int Tryz.underlying3 k7
      obtain ⟨q8, e8, _, _⟩ := DataW.trod_int Tryz.underlying3 k8
      obtain ⟨q9, e9, _⟩ := DataW.trod_bool Tryz.underlying4 k9
      simp only [List.cons.injEq, and_true] at e2 e3 e4 e5 e6 e7 e8 e9
      obtain ⟨e20, e21, e22, e23⟩ := e2
      obtain ⟨e30, e31, e32, e33⟩ := e3
      subst e0 e20 e21 e22 e23 e30 e31 e32 e33 e4 e5 e6 e7 e8 e9
      subst hx
      obtain ⟨oa, c, l, rfl, hl, hl9⟩ := ints_of k1 (fun p hp => hlt p (by simp; exact .inr (.inl hp)))
      exact ⟨⟨s0, l, p0, p1, p2, p3, r0, r1, r2, r3, q4, q5, q6, q7, q8, q9⟩, oa, c, rfl, hl, hl9, by unfold maxLen at z0; exact z0⟩
end

end Go.Proofs.YtaallpebfcadjaaGreatDoor.T


/-! The walks of window: isTick, isNone, isAtPlace, Check, and of the specification's Check. -/
namespace Go.Proofs.YtaallpebfcadjaaGreatDoor.V
open Go.RowKit
set_option maxRecDepth 8000

theorem isTick_n (t : Int) (w : World) : Calls Tryz.prog 144 #[.int .i64 t] w fun e w' => e = .returned (.bool (tickB t)) ∧ w = w' := by
  by_cases h1 : 0 ≤ t
  · have HR : Hid (decide (t ≤ 4096) = tickB t) := by show _ = _; unfold tickB; rw [decide_eq_true h1, Bool.true_and]
    generalize tickB t = r at *
    go_enter Tryz.func144, Tryz.ntmps144
    go_wp2_with fail
    go_ret
    exact ⟨ret_bool HR.out, rfl⟩
  · have HR : Hid (false = tickB t) := by show _ = _; unfold tickB; rw [decide_eq_false h1, Bool.false_and]
    have h2 : t < 0 := by omega
    generalize tickB t = r at *
    go_enter Tryz.func144, Tryz.ntmps144
    go_wp2_with fail
    go_ret
    exact ⟨ret_bool HR.out, rfl⟩
theorem isNone_n (p o c s : Int) (w : World) : Calls Tryz.prog 130 #[.agg #[.int .i64 p, .int .i64 o, .int .i64 c, .int .i64 s]] w fun e w' => e = .returned (.bool (noneB p o c s)) ∧ Below w.heap.size w w' := by
  by_cases h0 : p = -1
  · subst h0
    by_cases h1 : o = 0
    · subst h1
      by_cases h2 : c = 0
      · subst h2
        by_cases h3 : s = 0
        · subst h3
          have HR : Hid (true = noneB (-1) 0 0 0) := rfl
          generalize noneB (-1) 0 0 0 = r at *
          go_enter Tryz.func130, Tryz.ntmps130
          go_wp2_with fail
          go_ret
          exact ⟨ret_bool HR.out, by go_grown⟩
        · have HR : Hid (false = noneB (-1) 0 0 s) := by show _ = _; unfold noneB; rw [decide_eq_false (fun h => h3 h.2.2.2)]
          have e3 := ne_eqI h3
          generalize noneB (-1) 0 0 s = r at *
          go_enter Tryz.func130, Tryz.ntmps130
          go_wp2_with fail
          go_ret
          exact ⟨ret_bool HR.out, by go_grown⟩
      · have HR : Hid (false = noneB (-1) 0 c s) := by show _ = _; unfold noneB; rw [decide_eq_false (fun h => h2 h.2.2.1)]
        have e3 := ne_eqI h2
        generalize noneB (-1) 0 c s = r at *
        go_enter Tryz.func130, Tryz.ntmps130
        go_wp2_with fail
        go_ret
        exact ⟨ret_bool HR.out, by go_grown⟩
    · have HR : Hid (false = noneB (-1) o c s) := by show _ = _; unfold noneB; rw [decide_eq_false (fun h => h1 h.2.1)]
      have e3 := ne_eqI h1
      generalize noneB (-1) o c s = r at *
      go_enter Tryz.func130, Tryz.ntmps130
      go_wp2_with fail
      go_ret
      exact ⟨ret_bool HR.out, by go_grown⟩
  · have HR : Hid (false = noneB p o c s) := by show _ = _; unfold noneB; rw [decide_eq_false (fun h => h0 h.1)]
    have e3 := ne_eqI h0
    generalize noneB p o c s = r at *
    go_enter Tryz.func130, Tryz.ntmps130
    go_wp2_with fail
    go_ret
    exact ⟨ret_bool HR.out, by go_grown⟩
theorem at_no {p o c s : Int} (h : ¬ (0 ≤ p ∧ 0 ≤ o ∧ o ≤ c ∧ c ≤ 4096 ∧ 0 ≤ s ∧ s ≤ 4096)) : atB p o c s = false := decide_eq_false h
theorem isAtPlace_n (p o c s : Int) (w : World) : Calls Tryz.prog 131 #[.agg #[.int .i64 p, .int .i64 o, .int .i64 c, .int .i64 s]] w fun e w' => e = .returned (.bool (atB p o c s)) ∧ Below w.heap.size w w' := by
  have K1 := Lib.hid (fun w => isTick_n o w)
  have K2 := Lib.hid (fun w => isTick_n c w)
  have K3 := Lib.hid (fun w => isTick_n s w)
  by_cases h0 : 0 ≤ p
  · cases h1 : tickB o
    · have HR : Hid (false = atB p o c s) := (at_no (by have := tick_no h1; omega)).symm
      rw [h1] at K1
      generalize atB p o c s = r at *
      clear h1
      go_enter Tryz.func131, Tryz.ntmps131
      go_wp2_with fail
      refine (K1.out _).mono ?_
      rintro e w1 ⟨rfl, rfl⟩
      go_wp2_with fail
      go_ret
      exact ⟨ret_bool HR.out, by go_grown⟩
    · rw [h1] at K1
      by_cases h2 : o ≤ c
      · cases h3 : tickB c
        · have HR : Hid (false = atB p o c s) := (at_no (by have := tick_no h3; omega)).symm
          rw [h3] at K2
          generalize atB p o c s = r at *
          clear h1 h3
          go_enter Tryz.func131, Tryz.ntmps131
          go_wp2_with fail
          refine (K1.out _).mono ?_
          rintro e w1 ⟨rfl, rfl⟩
          go_wp2_with fail
          refine (K2.out _).mono ?_
          rintro e w1 ⟨rfl, rfl⟩
          go_wp2_with fail
          go_ret
          exact ⟨ret_bool HR.out, by go_grown⟩
        · rw [h3] at K2
          have HR : Hid (tickB s = atB p o c s) := by
            show _ = _
            rw [tick_iff] at h1 h3
            cases h4 : tickB s
            · exact (at_no (by have := tick_no h4; omega)).symm
            · rw [tick_iff] at h4
              exact ((at_iff p o c s).2 (by omega)).symm
          generalize atB p o c s = r at *
          generalize tickB s = q at *
          clear h1 h3
          go_enter Tryz.func131, Tryz.ntmps131
          go_wp2_with fail
          refine (K1.out _).mono ?_
          rintro e w1 ⟨rfl, rfl⟩
          go_wp2_with fail
          refine (K2.out _).mono ?_
          rintro e w1 ⟨rfl, rfl⟩
          go_wp2_with fail
          refine (K3.out _).mono ?_
          rintro e w1 ⟨rfl, rfl⟩
          go_wp2_with fail
          go_ret
          exact ⟨ret_bool HR.out, by go_grown⟩
      · have HR : Hid (false = atB p o c s) := (at_no (by omega)).symm
        generalize atB p o c s = r at *
        clear h1
        go_enter Tryz.func131, Tryz.ntmps131
        go_wp2_with fail
        refine (K1.out _).mono ?_
        rintro e w1 ⟨rfl, rfl⟩
        go_wp2_with fail
        go_ret
        exact ⟨ret_bool HR.out, by go_grown⟩
  · have HR : Hid (false = atB p o c s) := (at_no (by omega)).symm
    generalize atB p o c s = r at *
    go_enter Tryz.func131, Tryz.ntmps131
    go_wp2_with fail
    go_ret
    exact ⟨ret_bool HR.out, by go_grown⟩
theorem check_n (p o c s : Int) (w : World) : Calls Tryz.prog 102 #[.agg #[.int .i64 p, .int .i64 o, .int .i64 c, .int .i64 s]] w fun e w' => e = .returned (.int .i64 (chk p o c s)) ∧ Below w.heap.size w w' := by
  have K1 := Lib.hid (fun w => isNone_n p o c s w)
  have K2 := Lib.hid (fun w => isAtPlace_n p o c s w)
  cases h1 : noneB p o c s
  · cases h2 : atB p o c s
    · have HR : Hid (2 = chk p o c s) := by show _ = _; unfold chk; rw [h1, h2]; rfl
      rw [h1] at K1
      rw [h2] at K2
      generalize chk p o c s = r at *
      clear h1 h2
      go_enter Tryz.func102, Tryz.ntmps102
      go_wp2_with fail
      refine (K1.out _).mono ?_
      rintro e w1 ⟨rfl, b1⟩
      have B1 := Lib.hid (over (w := w) (by go_grown) b1)
      have HB := (Bs.made w p o c s).below b1
      have g0 := HB.c0
      have g1 := HB.c1
      have g2 := HB.c2
      have g3 := HB.c3
      clear HB b1
      go_wp2_with fail
      refine (K2.out _).mono ?_
      rintro e w2 ⟨rfl, b2⟩
      have B2 := Lib.hid (over B1.out b2)
      clear b2
      go_wp2_with fail
      go_ret
      exact ⟨ret_int HR.out, B2.out⟩
    · have HR : Hid (0 = chk p o c s) := by show _ = _; unfold chk; rw [h1, h2]; rfl
      rw [h1] at K1
      rw [h2] at K2
      generalize chk p o c s = r at *
      clear h1 h2
      go_enter Tryz.func102, Tryz.ntmps102
      go_wp2_with fail
      refine (K1.out _).mono ?_
      rintro e w1 ⟨rfl, b1⟩
      have B1 := Lib.hid (over (w := w) (by go_grown) b1)
      have HB := (Bs.made w p o c s).below b1
      have g0 := HB.c0
      have g1 := HB.c1
      have g2 := HB.c2
      have g3 := HB.c3
      clear HB b1
      go_wp2_with fail
      refine (K2.out _).mono ?_
      rintro e w2 ⟨rfl, b2⟩
      have B2 := Lib.hid (over B1.out b2)
      clear b2
      go_wp2_with fail
      go_ret
      exact ⟨ret_int HR.out, B2.out⟩
  · have HR : Hid (0 = chk p o c s) := by show _ = _; unfold chk; rw [h1]; rfl
    rw [h1] at K1
    generalize chk p o c s = r at *
    clear h1
    go_enter Tryz.func102, Tryz.ntmps102
    go_wp2_with fail
    refine (K1.out _).mono ?_
    rintro e w1 ⟨rfl, b1⟩
    have B1 := Lib.hid (over (w := w) (by go_grown) b1)
    clear b1
    go_wp2_with fail
    go_ret
    exact ⟨ret_int HR.out, B1.out⟩

end Go.Proofs.YtaallpebfcadjaaGreatDoor.V


/-! The walk of order's Same (written by gen_ordtop3.py). -/
namespace Go.Proofs.YtaallpebfcadjaaGreatDoor.T
open Go.RowKit
set_option maxRecDepth 8000

theorem eql5 (a0 a1 a2 a3 a4 b0 b1 b2 b3 b4 : Int) (w : World) :
    (binOp .eql 109 (.agg #[.int .i64 a0, .int .i64 a1, .int .i64 a2, .int .i64 a3, .int .i64 a4]) (.agg #[.int .i64 b0, .int .i64 b1, .int .i64 b2, .int .i64 b3, .int .i64 b4])).run Tryz.prog w = .ok (.bool (a0 == b0 && (a1 == b1 && (a2 == b2 && (a3 == b3 && a4 == b4))))) w := by
  have hi0 : (Tryz.prog.info? 3).isSome = true := by kernel_rfl
  obtain ⟨i, hi⟩ := Option.isSome_iff_exists.1 hi0
  have hc : Tryz.prog.cellsOf 3 = 1 := by kernel_rfl
  rw [run_eql_struct, show (10000 : Nat) = 9998 + 1 + 1 from rfl, run_equalIn_array w _ _ _ Tryz.underlying109 hi, hc,
    eqItems_ints (by kernel_rfl) Tryz.underlying3 9998 _ _ (fun i => [a0, a1, a2, a3, a4].getD i 0) (fun i => [b0, b1, b2, b3, b4].getD i 0) w (List.range 5)
      (fun i hi => by
        have h := List.mem_range.1 hi
        match i, h with
        | 0, _ => exact ⟨rfl, rfl⟩
        | 1, _ => exact ⟨rfl, rfl⟩
        | 2, _ => exact ⟨rfl, rfl⟩
        | 3, _ => exact ⟨rfl, rfl⟩
        | 4, _ => exact ⟨rfl, rfl⟩)]
  show Result.ok (Value.bool (a0 == b0 && (a1 == b1 && (a2 == b2 && (a3 == b3 && (a4 == b4 && true)))))) w = _
  rw [Bool.and_true]
set_option maxHeartbeats 3200000 in
theorem ordNumbers_n (nm : ByteArray) (oc : Option Addr) (n c : Nat) (pp po pc ps dp dd dc ds sk pen spl las now : Int) (off : Bool) (w : World) :
    Calls Tryz.prog 75 #[.agg #[.string nm, .slice oc n c, .int .i64 pp, .int .i64 po, .int .i64 pc, .int .i64 ps, .int .i64 dp, .int .i64 dd, .int .i64 dc, .int .i64 ds, .int .i64 sk, .int .i64 pen, .int .i64 spl, .int .i64 las, .int .i64 now, .bool off]] w fun e w' => e = .returned (.agg #[.int .i64 sk, .int .i64 pen, .int .i64 spl, .int .i64 las, .int .i64 now]) ∧ Below w.heap.size w w' := by
  go_enter Tryz.func75, Tryz.ntmps75
  go_wp2_with fail
  exact bodyPost_ret (v := .agg #[.int .i64 sk, .int .i64 pen, .int .i64 spl, .int .i64 las, .int .i64 now]) (by simp [results, Tryz.results75, go_sem]) rfl ⟨rfl, by go_grown⟩

set_option maxHeartbeats 6400000 in
theorem ordSame_n (a b : OrT) (oa ob : Option Addr) (ca cb : Nat) (ha9 : a.load.length ≤ 1000000000) (hb9 : b.load.length ≤ 1000000000) (w : World) (hA : L.Li w (.slice oa a.load.length ca) a.load) (hB : L.Li w (.slice ob b.load.length cb) b.load) :
    Calls Tryz.prog 44 #[orV a (.slice oa a.load.length ca), orV b (.slice ob b.load.length cb)] w fun e w' => e = .returned (.bool (sameO a b)) ∧ Below w.heap.size w w' := by
  obtain ⟨nm, load, pp, po, pc, ps, dp, dd, dc, ds, sk, pen, spl, las, now, off⟩ := a
  obtain ⟨nm', load', pp', po', pc', ps', dp', dd', dc', ds', sk', pen', spl', las', now', off'⟩ := b
  unfold orV
  simp only at hA hB ha9 hb9 ⊢
  have HE : Hid (((nm.toList == nm'.toList) && (load == load') && (pp == pp' && (po == po' && (pc == pc' && ps == ps'))) && (dp == dp' && (dd == dd' && (dc == dc' && ds == ds'))) && (sk == sk') && (pen == pen') && (spl == spl') && (las == las') && (now == now') && (off == off')) = sameO ⟨nm, load, pp, po, pc, ps, dp, dd, dc, ds, sk, pen, spl, las, now, off⟩ ⟨nm', load', pp', po', pc', ps', dp', dd', dc', ds', sk', pen', spl', las', now', off'⟩) := rfl
  generalize sameO ⟨nm, load, pp, po, pc, ps, dp, dd, dc, ds, sk, pen, spl, las, now, off⟩ ⟨nm', load', pp', po', pc', ps', dp', dd', dc', ds', sk', pen', spl', las', now', off'⟩ = r at *
  have KN := Lib.hid (fun w => ordNumbers_n nm oa load.length ca pp po pc ps dp dd dc ds sk pen spl las now off w)
  have KM := Lib.hid (fun w => ordNumbers_n nm' ob load'.length cb pp' po' pc' ps' dp' dd' dc' ds' sk' pen' spl' las' now' off' w)
  have KE := Lib.hid (fun w hu hv => eqInts_n (.slice oa load.length ca) (.slice ob load'.length cb) load load' ha9 hb9 w hu hv)
  have qS1 := eqlStop pp po pc ps pp' po' pc' ps'
  have qS2 := eqlStop dp dd dc ds dp' dd' dc' ds'
  have hgs : Tryz.prog.eqGuardType Tryz.prog.depth 42 = false := by kernel_rfl
  obtain ⟨z0, hz0⟩ : ∃ z, (nm.toList == nm'.toList) = z := ⟨_, rfl⟩
  obtain ⟨z1, hz1⟩ : ∃ z, (load == load') = z := ⟨_, rfl⟩
  obtain ⟨z2, hz2⟩ : ∃ z, (pp == pp' && (po == po' && (pc == pc' && ps == ps'))) = z := ⟨_, rfl⟩
  obtain ⟨z3, hz3⟩ : ∃ z, (dp == dp' && (dd == dd' && (dc == dc' && ds == ds'))) = z := ⟨_, rfl⟩
  obtain ⟨z9, hz9⟩ : ∃ z, (off == off') = z := ⟨_, rfl⟩
  have HE : Hid ((z0 && z9 && z2 && z3 && z1 && (sk == sk' && (pen == pen' && (spl == spl' && (las == las' && now == now'))))) = r) := by
    show _ = _
    rw [← HE.out, hz0, hz1, hz2, hz3, hz9]
    cases z0 <;> cases z9 <;> cases z2 <;> cases z3 <;> cases z1 <;> simp [Bool.and_assoc]
  rw [hz1] at KE
  rw [hz2] at qS1
  rw [hz3] at qS2
  clear hz1 hz2 hz3
  have BA := below_alloc w (.cells #[.string nm, .slice oa load.length ca, .int .i64 pp, .int .i64 po, .int .i64 pc, .int .i64 ps, .int .i64 dp, .int .i64 dd, .int .i64 dc, .int .i64 ds, .int .i64 sk, .int .i64 pen, .int .i64 spl, .int .i64 las, .int .i64 now, .bool off] 44)
  have BB := below_alloc (w.alloc (.cells #[.string nm, .slice oa load.length ca, .int .i64 pp, .int .i64 po, .int .i64 pc, .int .i64 ps, .int .i64 dp, .int .i64 dd, .int .i64 dc, .int .i64 ds, .int .i64 sk, .int .i64 pen, .int .i64 spl, .int .i64 las, .int .i64 now, .bool off] 44)) (.cells #[.string nm', .slice ob load'.length cb, .int .i64 pp', .int .i64 po', .int .i64 pc', .int .i64 ps', .int .i64 dp', .int .i64 dd', .int .i64 dc', .int .i64 ds', .int .i64 sk', .int .i64 pen', .int .i64 spl', .int .i64 las', .int .i64 now', .bool off'] 44)
  have TA := (Ob.made w (.string nm) (.slice oa load.length ca) (.int .i64 pp) (.int .i64 po) (.int .i64 pc) (.int .i64 ps) (.int .i64 dp) (.int .i64 dd) (.int .i64 dc) (.int .i64 ds) (.int .i64 sk) (.int .i64 pen) (.int .i64 spl) (.int .i64 las) (.int .i64 now) (.bool off)).below BB
  have TB := Ob.made (w.alloc (.cells #[.string nm, .slice oa load.length ca, .int .i64 pp, .int .i64 po, .int .i64 pc, .int .i64 ps, .int .i64 dp, .int .i64 dd, .int .i64 dc, .int .i64 ds, .int .i64 sk, .int .i64 pen, .int .i64 spl, .int .i64 las, .int .i64 now, .bool off] 44)) (.string nm') (.slice ob load'.length cb) (.int .i64 pp') (.int .i64 po') (.int .i64 pc') (.int .i64 ps') (.int .i64 dp') (.int .i64 dd') (.int .i64 dc') (.int .i64 ds') (.int .i64 sk') (.int .i64 pen') (.int .i64 spl') (.int .i64 las') (.int .i64 now') (.bool off')
  rw [show (w.alloc (.cells #[.string nm, .slice oa load.length ca, .int .i64 pp, .int .i64 po, .int .i64 pc, .int .i64 ps, .int .i64 dp, .int .i64 dd, .int .i64 dc, .int .i64 ds, .int .i64 sk, .int .i64 pen, .int .i64 spl, .int .i64 las, .int .i64 now, .bool off] 44)).heap.size = w.heap.size + 1 by simp] at TB
  have B0 := over BA BB
  have CA := hA.below B0
  have CB := hB.below B0
  obtain ⟨W0, hW0⟩ : ∃ W0, (w.alloc (.cells #[.string nm, .slice oa load.length ca, .int .i64 pp, .int .i64 po, .int .i64 pc, .int .i64 ps, .int .i64 dp, .int .i64 dd, .int .i64 dc, .int .i64 ds, .int .i64 sk, .int .i64 pen, .int .i64 spl, .int .i64 las, .int .i64 now, .bool off] 44)).alloc (.cells #[.string nm', .slice ob load'.length cb, .int .i64 pp', .int .i64 po', .int .i64 pc', .int .i64 ps', .int .i64 dp', .int .i64 dd', .int .i64 dc', .int .i64 ds', .int .i64 sk', .int .i64 pen', .int .i64 spl', .int .i64 las', .int .i64 now', .bool off'] 44) = W0 := ⟨_, rfl⟩
  rw [hW0] at TA TB B0 CA CB
  have TA := Lib.hid TA
  have TB := Lib.hid TB
  have B0 := Lib.hid B0
  have CA : Hid (∀ m, L.Li (W0.drewN m) (.slice oa load.length ca) load) := fun _ => CA
  have CB : Hid (∀ m, L.Li (W0.drewN m) (.slice ob load'.length cb) load') := fun _ => CB
  clear BA BB hA hB ha9 hb9
  have c0 := TA.out.c0
  have d0 := TB.out.c0
  have c1 := TA.out.c1
  have d1 := TB.out.c1
  have c2 := TA.out.c2
  have d2 := TB.out.c2
  have c3 := TA.out.c3
  have d3 := TB.out.c3
  have c4 := TA.out.c4
  have d4 := TB.out.c4
  have c5 := TA.out.c5
  have d5 := TB.out.c5
  have c6 := TA.out.c6
  have d6 := TB.out.c6
  have c7 := TA.out.c7
  have d7 := TB.out.c7
  have c8 := TA.out.c8
  have d8 := TB.out.c8
  have c9 := TA.out.c9
  have d9 := TB.out.c9
  have c10 := TA.out.c10
  have d10 := TB.out.c10
  have c11 := TA.out.c11
  have d11 := TB.out.c11
  have c12 := TA.out.c12
  have d12 := TB.out.c12
  have c13 := TA.out.c13
  have d13 := TB.out.c13
  have c14 := TA.out.c14
  have d14 := TB.out.c14
  have c15 := TA.out.c15
  have d15 := TB.out.c15
  have HB : Hid (Below W0.heap.size W0 W0.drew) := below_drew (Below.refl _ W0)
  cases z0
  · have HR : Hid (false = r) := HE
    clear HE KN KM
    go_enter Tryz.func44, Tryz.ntmps44
    go_wp2_with fail
    clear hW0
    go_quiet (fail)
    go_wp2_with fail
    go_ret
    exact ⟨ret_bool HR.out, over B0.out (below_drewN (Below.refl _ W0) _)⟩
  cases z9
  · have HR : Hid (false = r) := HE
    clear HE KN KM
    go_enter Tryz.func44, Tryz.ntmps44
    go_wp2_with fail
    clear hW0
    go_quiet (fail)
    go_wp2_with fail
    go_ret
    exact ⟨ret_bool HR.out, over B0.out (below_drewN (Below.refl _ W0) _)⟩
  cases z2
  · have HR : Hid (false = r) := HE
    clear HE KN KM
    go_enter Tryz.func44, Tryz.ntmps44
    go_wp2_with fail
    clear hW0
    go_quiet (fail)
    go_wp2_with fail
    go_ret
    exact ⟨ret_bool HR.out, over B0.out (below_drewN (Below.refl _ W0) _)⟩
  cases z3
  · have HR : Hid (false = r) := HE
    clear HE KN KM
    go_enter Tryz.func44, Tryz.ntmps44
    go_wp2_with fail
    clear hW0
    go_quiet (fail)
    go_wp2_with fail
    go_ret
    exact ⟨ret_bool HR.out, over B0.out (below_drewN (Below.refl _ W0) _)⟩
  cases z1
  · have HR : Hid (false = r) := HE
    clear HE KN KM
    go_enter Tryz.func44, Tryz.ntmps44
    go_wp2_with fail
    clear hW0
    go_quiet (first | (go_at_call 73; exact quiet_q (KE.out _ (CA.out _) (CB.out _))))
    go_wp2_with fail
    go_ret
    exact ⟨ret_bool HR.out, over B0.out (below_drewN (Below.refl _ W0) _)⟩
  · have HR : Hid ((sk == sk' && (pen == pen' && (spl == spl' && (las == las' && now == now')))) = r) := HE
    clear HE
    have CA1 : Hid (L.Li W0.drew (.slice oa load.length ca) load) := CA.out 1
    have CB1 : Hid (L.Li W0.drew (.slice ob load'.length cb) load') := CB.out 1
    have KE2 : Hid (∀ w, L.Li w (.slice oa load.length ca) load → L.Li w (.slice ob load'.length cb) load' → Calls Tryz.prog 73 #[.slice oa load.length ca, .slice ob load'.length cb] w fun e w' => e = .returned (.bool true) ∧ Below w.heap.size w w') := fun w h1 h2 => (KE.out w h1 h2).mono fun _ _ ⟨he, q, hq⟩ => ⟨he, by rw [hq]; exact below_drewN (Below.refl _ _) q⟩
    have TA : Hid (Ob W0.drew w.heap.size (.string nm) (.slice oa load.length ca) (.int .i64 pp) (.int .i64 po) (.int .i64 pc) (.int .i64 ps) (.int .i64 dp) (.int .i64 dd) (.int .i64 dc) (.int .i64 ds) (.int .i64 sk) (.int .i64 pen) (.int .i64 spl) (.int .i64 las) (.int .i64 now) (.bool off)) := TA
    have TB : Hid (Ob W0.drew (w.heap.size + 1) (.string nm') (.slice ob load'.length cb) (.int .i64 pp') (.int .i64 po') (.int .i64 pc') (.int .i64 ps') (.int .i64 dp') (.int .i64 dd') (.int .i64 dc') (.int .i64 ds') (.int .i64 sk') (.int .i64 pen') (.int .i64 spl') (.int .i64 las') (.int .i64 now') (.bool off')) := TB
    have q5 := eql5
    have hgm : Tryz.prog.eqGuardType Tryz.prog.depth 109 = false := by kernel_rfl
    go_enter Tryz.func44, Tryz.ntmps44
    go_wp2_with fail
    clear hW0
    go_region_held3 (fun w' => w'.cell? ⟨w.heap.size, 0, none⟩ = some (.string nm) ∧ w'.cell? ⟨w.heap.size + 1, 0, none⟩ = some (.string nm') ∧ w'.cell? ⟨w.heap.size, 1, none⟩ = some (.slice oa load.length ca) ∧ w'.cell? ⟨w.heap.size + 1, 1, none⟩ = some (.slice ob load'.length cb) ∧ w'.cell? ⟨w.heap.size, 2, none⟩ = some (.int .i64 pp) ∧ w'.cell? ⟨w.heap.size + 1, 2, none⟩ = some (.int .i64 pp') ∧ w'.cell? ⟨w.heap.size, 3, none⟩ = some (.int .i64 po) ∧ w'.cell? ⟨w.heap.size + 1, 3, none⟩ = some (.int .i64 po') ∧ w'.cell? ⟨w.heap.size, 4, none⟩ = some (.int .i64 pc) ∧ w'.cell? ⟨w.heap.size + 1, 4, none⟩ = some (.int .i64 pc') ∧ w'.cell? ⟨w.heap.size, 5, none⟩ = some (.int .i64 ps) ∧ w'.cell? ⟨w.heap.size + 1, 5, none⟩ = some (.int .i64 ps') ∧ w'.cell? ⟨w.heap.size, 6, none⟩ = some (.int .i64 dp) ∧ w'.cell? ⟨w.heap.size + 1, 6, none⟩ = some (.int .i64 dp') ∧ w'.cell? ⟨w.heap.size, 7, none⟩ = some (.int .i64 dd) ∧ w'.cell? ⟨w.heap.size + 1, 7, none⟩ = some (.int .i64 dd') ∧ w'.cell? ⟨w.heap.size, 8, none⟩ = some (.int .i64 dc) ∧ w'.cell? ⟨w.heap.size + 1, 8, none⟩ = some (.int .i64 dc') ∧ w'.cell? ⟨w.heap.size, 9, none⟩ = some (.int .i64 ds) ∧ w'.cell? ⟨w.heap.size + 1, 9, none⟩ = some (.int .i64 ds') ∧ w'.cell? ⟨w.heap.size, 10, none⟩ = some (.int .i64 sk) ∧ w'.cell? ⟨w.heap.size + 1, 10, none⟩ = some (.int .i64 sk') ∧ w'.cell? ⟨w.heap.size, 11, none⟩ = some (.int .i64 pen) ∧ w'.cell? ⟨w.heap.size + 1, 11, none⟩ = some (.int .i64 pen') ∧ w'.cell? ⟨w.heap.size, 12, none⟩ = some (.int .i64 spl) ∧ w'.cell? ⟨w.heap.size + 1, 12, none⟩ = some (.int .i64 spl') ∧ w'.cell? ⟨w.heap.size, 13, none⟩ = some (.int .i64 las) ∧ w'.cell? ⟨w.heap.size + 1, 13, none⟩ = some (.int .i64 las') ∧ w'.cell? ⟨w.heap.size, 14, none⟩ = some (.int .i64 now) ∧ w'.cell? ⟨w.heap.size + 1, 14, none⟩ = some (.int .i64 now') ∧ w'.cell? ⟨w.heap.size, 15, none⟩ = some (.bool off) ∧ w'.cell? ⟨w.heap.size + 1, 15, none⟩ = some (.bool off'))
      (first | exact ⟨c0, d0, c1, d1, c2, d2, c3, d3, c4, d4, c5, d5, c6, d6, c7, d7, c8, d8, c9, d9, c10, d10, c11, d11, c12, d12, c13, d13, c14, d14, c15, d15⟩)
      (first | (go_at_call 73; (with_reducible refine (KE2.out _ CA1.out CB1.out).mono ?_); rintro e wz ⟨rfl, bz⟩; have TA := Lib.hid (Ob.below TA.out bz); have TB := Lib.hid (Ob.below TB.out bz); have HB := Lib.hid (over HB.out bz); have c0 := TA.out.c0; have d0 := TB.out.c0; have c1 := TA.out.c1; have d1 := TB.out.c1; have c2 := TA.out.c2; have d2 := TB.out.c2; have c3 := TA.out.c3; have d3 := TB.out.c3; have c4 := TA.out.c4; have d4 := TB.out.c4; have c5 := TA.out.c5; have d5 := TB.out.c5; have c6 := TA.out.c6; have d6 := TB.out.c6; have c7 := TA.out.c7; have d7 := TB.out.c7; have c8 := TA.out.c8; have d8 := TB.out.c8; have c9 := TA.out.c9; have d9 := TB.out.c9; have c10 := TA.out.c10; have d10 := TB.out.c10; have c11 := TA.out.c11; have d11 := TB.out.c11; have c12 := TA.out.c12; have d12 := TB.out.c12; have c13 := TA.out.c13; have d13 := TB.out.c13; have c14 := TA.out.c14; have d14 := TB.out.c14; have c15 := TA.out.c15; have d15 := TB.out.c15) | (go_at_call 75; (first | (with_reducible refine (KN.out _).mono ?_) | (with_reducible refine (KM.out _).mono ?_)); rintro e wz ⟨rfl, bz⟩; have TA := Lib.hid (Ob.below TA.out bz); have TB := Lib.hid (Ob.below TB.out bz); have HB := Lib.hid (over HB.out bz); have c0 := TA.out.c0; have d0 := TB.out.c0; have c1 := TA.out.c1; have d1 := TB.out.c1; have c2 := TA.out.c2; have d2 := TB.out.c2; have c3 := TA.out.c3; have d3 := TB.out.c3; have c4 := TA.out.c4; have d4 := TB.out.c4; have c5 := TA.out.c5; have d5 := TB.out.c5; have c6 := TA.out.c6; have d6 := TB.out.c6; have c7 := TA.out.c7; have d7 := TB.out.c7; have c8 := TA.out.c8; have d8 := TB.out.c8; have c9 := TA.out.c9; have d9 := TB.out.c9; have c10 := TA.out.c10; have d10 := TB.out.c10; have c11 := TA.out.c11; have d11 := TB.out.c11; have c12 := TA.out.c12; have d12 := TB.out.c12; have c13 := TA.out.c13; have d13 := TB.out.c13; have c14 := TA.out.c14; have d14 := TB.out.c14; have c15 := TA.out.c15; have d15 := TB.out.c15))
    all_goals
      go_wp2_with fail
      go_ret
      exact ⟨ret_bool HR.out, over B0.out HB.out⟩

end Go.Proofs.YtaallpebfcadjaaGreatDoor.T


/-! The walks of the small functions of order's Check (written by gen_ordtop4.py). -/
namespace Go.Proofs.YtaallpebfcadjaaGreatDoor.T
open Go.RowKit
set_option maxRecDepth 8000

def rgN (x c : Int) : Bool := decide (-1 ≤ x) && decide (x < c)
theorem isNumberOrNone_n (x c : Int) (w : World) : Calls Tryz.prog 129 #[.int .i64 x, .int .i64 c] w fun e w' => e = .returned (.bool (rgN x c)) ∧ w = w' := by
  by_cases h1 : -1 ≤ x
  · have HR : Hid (decide (x < c) = rgN x c) := by show _ = _; unfold rgN; rw [decide_eq_true h1, Bool.true_and]
    generalize rgN x c = r at *
    go_enter Tryz.func129, Tryz.ntmps129
    go_wp2_with fail
    go_ret
    exact ⟨ret_bool HR.out, rfl⟩
  · have HR : Hid (false = rgN x c) := by show _ = _; unfold rgN; rw [decide_eq_false h1, Bool.false_and]
    have h2 : x < -1 := by omega
    generalize rgN x c = r at *
    go_enter Tryz.func129, Tryz.ntmps129
    go_wp2_with fail
    go_ret
    exact ⟨ret_bool HR.out, rfl⟩
theorem isFrom_n (lo x hi : Int) (w : World) : Calls Tryz.prog 103 #[.int .i64 lo, .int .i64 x, .int .i64 hi] w fun e w' => e = .returned (.bool (rgB lo hi x)) ∧ w = w' := by
  by_cases h1 : lo ≤ x
  · have HR : Hid (decide (x ≤ hi) = rgB lo hi x) := by show _ = _; unfold rgB; rw [decide_eq_true h1, Bool.true_and]
    generalize rgB lo hi x = r at *
    go_enter Tryz.func103, Tryz.ntmps103
    go_wp2_with fail
    go_ret
    exact ⟨ret_bool HR.out, rfl⟩
  · have HR : Hid (false = rgB lo hi x) := by show _ = _; unfold rgB; rw [decide_eq_false h1, Bool.false_and]
    have h2 : x < lo := by omega
    generalize rgB lo hi x = r at *
    go_enter Tryz.func103, Tryz.ntmps103
    go_wp2_with fail
    go_ret
    exact ⟨ret_bool HR.out, rfl⟩
theorem hasPlace_n (pl dm ty p o c s : Int) (w : World) : Calls Tryz.prog 101 #[.agg #[.int .i64 pl, .int .i64 dm, .int .i64 ty], .agg #[.int .i64 p, .int .i64 o, .int .i64 c, .int .i64 s]] w fun e w' => e = .returned (.bool (rgN p pl)) ∧ Below w.heap.size w w' := by
  have K := Lib.hid (fun w => isNumberOrNone_n p pl w)
  generalize rgN p pl = r at *
  go_enter Tryz.func101, Tryz.ntmps101
  go_wp2_with fail
  refine (K.out _).mono ?_
  rintro e w1 ⟨rfl, rfl⟩
  go_wp2_with fail
  go_ret
  exact ⟨rfl, by go_grown⟩
theorem isType_n (pl dm ty x : Int) (w : World) : Calls Tryz.prog 105 #[.agg #[.int .i64 pl, .int .i64 dm, .int .i64 ty], .int .i64 x] w fun e w' => e = .returned (.bool (rgN x ty)) ∧ Below w.heap.size w w' := by
  have K := Lib.hid (fun w => isNumberOrNone_n x ty w)
  generalize rgN x ty = r at *
  go_enter Tryz.func105, Tryz.ntmps105
  go_wp2_with fail
  refine (K.out _).mono ?_
  rintro e w1 ⟨rfl, rfl⟩
  go_wp2_with fail
  go_ret
  exact ⟨rfl, by go_grown⟩
set_option maxHeartbeats 1600000 in
theorem isSplit_one (nm : ByteArray) (vc : Value) (pp po pc ps dp dd dc ds sk pen las now : Int) (off : Bool) (w : World) :
    Calls Tryz.prog 104 #[.agg #[.string nm, vc, .int .i64 pp, .int .i64 po, .int .i64 pc, .int .i64 ps, .int .i64 dp, .int .i64 dd, .int .i64 dc, .int .i64 ds, .int .i64 sk, .int .i64 pen, .int .i64 1, .int .i64 las, .int .i64 now, .bool off]] w fun e w' => e = .returned (.bool true) ∧ Below w.heap.size w w' := by
  go_enter Tryz.func104, Tryz.ntmps104
  go_wp2_with fail
  go_ret
  exact ⟨rfl, by go_grown⟩
end Go.Proofs.YtaallpebfcadjaaGreatDoor.T


