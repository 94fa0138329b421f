/-
  DERIVED. KPP: a part of the base of layer 13 (made by pack.py).
-/
import Derived.Deep.RegionHeld3
import Derived.ChangeKeysEq
import Derived.Test.YtaallpebfcadjaaGreatDoorKPG
import Derived.Test.YtaallpebfcadjaaGreatDoorKPO
/-! The walk of fleet's rulesOf (written by gen_fltop4.py). -/
namespace Go.Proofs.YtaallpebfcadjaaGreatDoor.T
open Go.RowKit
set_option maxRecDepth 8000

/-- the rules of a type: is each broken, and its error -/
def rulL (np dims : Nat) (t : TyT) (tw : Bool) : List (Bool × Int) :=
  [(!nmT t.name, 5), (tw, 6), (!rgB 0 10 t.count, 22), (!(rgB 0 (np - 1) t.fr) || !(rgB 0 (np - 1) t.to), 11), (!capB t.cap dims, 17), (!rgB 0 1073741823 t.skills, 18), (!(rgB 0 t.cls t.opn) || decide (4096 < t.cls), 15),
    (t.drv == 0 || !(rgB 0 4096 t.drv) || !(rgB 0 4096 t.rst), 16), (!(rgB 0 7 t.prof) || !(rgB 0 100000 t.fix && rgB 0 100 t.pm && rgB 0 100 t.pt), 2)]
def rE (x : Bool × Int) : Value := .bool x.1
def rA (x : Bool × Int) : Value := .int .i64 x.2
/-- the errors of broken rules -/
def brk (l : List (Bool × Int)) : List Int := (l.filter fun x => x.1).map fun x => x.2
theorem brk_cons (b : Bool) (x : Int) (l : List (Bool × Int)) : brk ((b, x) :: l) = (if b then [x] else []) ++ brk l := by cases b <;> rfl
theorem if_not (b : Bool) (x : Int) : (if !b then [x] else []) = if b then [] else [x] := by cases b <;> rfl
theorem brk_rules (np : Nat) (l : List TyT) (i : Nat) : brk (rulL np (dimsF l) (l.getD i ty0) (knownB l (l.getD i ty0).name i)) = tyE np l i := by
  unfold rulL tyE tyE1 tyE2 tyE3 tyE4 tyE5 tyE6 tyE7 tyE8 tyE9
  generalize l.getD i ty0 = t
  simp only [brk_cons]
  have e4 : (!(rgB 0 (np - 1) t.fr) || !(rgB 0 (np - 1) t.to)) = !(rgB 0 (np - 1) t.fr && rgB 0 (np - 1) t.to) := (Bool.not_and _ _).symm
  have e7 : (!(rgB 0 t.cls t.opn) || decide (4096 < t.cls)) = !(rgB 0 t.cls t.opn && decide (t.cls ≤ 4096)) := by
    rw [Bool.not_and]
    congr 1
    by_cases h : t.cls ≤ 4096
    · rw [decide_eq_true h, decide_eq_false (by omega)]; rfl
    · rw [decide_eq_false h, decide_eq_true (by omega)]; rfl
  have e8 : (t.drv == 0 || !(rgB 0 4096 t.drv) || !(rgB 0 4096 t.rst)) = !(rgB 1 4096 t.drv && rgB 0 4096 t.rst) := by
    rw [Bool.not_and]
    congr 1
    unfold rgB
    by_cases h : t.drv = 0
    · rw [h]; rfl
    · rw [ne_eqI h, Bool.false_or]
      by_cases h1 : 0 ≤ t.drv
      · rw [decide_eq_true h1, decide_eq_true (show 1 ≤ t.drv by omega)]
      · rw [decide_eq_false h1, decide_eq_false (show ¬ 1 ≤ t.drv by omega)]
  have e9 : (!(rgB 0 7 t.prof) || !(rgB 0 100000 t.fix && rgB 0 100 t.pm && rgB 0 100 t.pt)) = !(rgB 0 7 t.prof && rgB 0 100000 t.fix && rgB 0 100 t.pm && rgB 0 100 t.pt) := by
    rw [← Bool.not_and, Bool.and_assoc, Bool.and_assoc, Bool.and_assoc]
  rw [e4, e7, e8, e9]
  simp only [if_not, List.append_assoc]
  show _ = _
  simp [brk]

/-- a result: a slice of rules -/
def RulP (l : List (Bool × Int)) (w : World) (e : Ending) (w' : World) : Prop := ∃ oa c, e = .returned (.slice oa l.length c) ∧ Sl rE rA (false, 0) w' (.slice oa l.length c) l ∧ Below w.heap.size w w'
theorem rules_made (w : World) (b0 b1 b2 b3 b4 b5 b6 b7 b8 : Bool) (x0 x1 x2 x3 x4 x5 x6 x7 x8 : Int) (t : TypeId) :
    Sl rE rA (false, 0) (w.alloc (.cells #[.bool b0, .int .i64 x0, .bool b1, .int .i64 x1, .bool b2, .int .i64 x2, .bool b3, .int .i64 x3, .bool b4, .int .i64 x4, .bool b5, .int .i64 x5, .bool b6, .int .i64 x6, .bool b7, .int .i64 x7, .bool b8, .int .i64 x8] t)) (.slice (some ⟨w.heap.size, 0, none⟩) 9 9)
      [(b0, x0), (b1, x1), (b2, x2), (b3, x3), (b4, x4), (b5, x5), (b6, x6), (b7, x7), (b8, x8)] := by
  refine ⟨some ⟨w.heap.size, 0, none⟩, 9, rfl, fun i hi => ⟨w.heap.size, 0, rfl, by simp, ?_⟩⟩
  have h9 : i < 9 := hi
  match i, h9 with
  | 0, _ => exact ⟨by simp [rE], by simp [rA]⟩
  | 1, _ => exact ⟨by simp [rE], by simp [rA]⟩
  | 2, _ => exact ⟨by simp [rE], by simp [rA]⟩
  | 3, _ => exact ⟨by simp [rE], by simp [rA]⟩
  | 4, _ => exact ⟨by simp [rE], by simp [rA]⟩
  | 5, _ => exact ⟨by simp [rE], by simp [rA]⟩
  | 6, _ => exact ⟨by simp [rE], by simp [rA]⟩
  | 7, _ => exact ⟨by simp [rE], by simp [rA]⟩
  | 8, _ => exact ⟨by simp [rE], by simp [rA]⟩

/-- a guarded call whose guard is a letter -/
theorem call_sym {P : Program} {ops : Array Oper} {Q : Exit → Act → World → Prop} {o : Oper} {a : Act} {w : World} {K : Act → World → Prop} (c : Bool) (v : Value) (hw : Region.wanted o (yielded ops a.tmps) = c)
    (hcall : c = true → ∀ K' : Act → World → Prop, K' (a.put o.dst v) w → Oper.wp P o a w K' Q) (h : K (a.put o.dst (bif c then v else undef)) w) :
    if Region.wanted o (yielded ops a.tmps) = true then Oper.wp P o a w K Q else K (a.put o.dst undef) w := by
  cases c
  · rw [hw]; exact h
  · rw [hw]; exact hcall rfl K h

set_option maxHeartbeats 40000000 in
theorem rulesOf_n (t : TyT) (oc : Option Addr) (cc np dims : Nat) (tw : Bool) (hc9 : t.cap.length ≤ 1000000000) (hd9 : dims ≤ 1000000000) (hnp : np ≤ 9223372036854775807) (w : World) (hc : L.Li w (.slice oc t.cap.length cc) t.cap) :
    Calls Tryz.prog 61 #[tyV t (.slice oc t.cap.length cc), .int .i64 np, .int .i64 dims, .bool tw] w (RulP (rulL np dims t tw) w) := by
  obtain ⟨nm, cnt, fr, dt, cap, sk, prof, opn, cls, drv, rst, fix, pm, pt⟩ := t
  unfold tyV
  simp only at hc9 hc ⊢
  have HP : Hid (∀ b0 b2 b3 b3' b4 b5 b6 b7 b7' b8 b8' : Bool, ∀ w1 wz : World, nmT nm = b0 → rgB 0 10 cnt = b2 → rgB 0 (np - 1) fr = b3 → rgB 0 (np - 1) dt = b3' → capB cap dims = b4 → rgB 0 1073741823 sk = b5 → rgB 0 cls opn = b6 → rgB 0 4096 drv = b7 → rgB 0 4096 rst = b7' → rgB 0 7 prof = b8 → (rgB 0 100000 fix && rgB 0 100 pm && rgB 0 100 pt) = b8' →
      Below w.heap.size w w1 → wz = w1.alloc (.cells #[.bool (!b0), .int .i64 5, .bool tw, .int .i64 6, .bool (!b2), .int .i64 22, .bool (!b3 || !b3'), .int .i64 11, .bool (!b4), .int .i64 17, .bool (!b5), .int .i64 18, .bool (!b6 || decide (4096 < cls)), .int .i64 15, .bool (drv == 0 || !b7 || !b7'), .int .i64 16, .bool (!b8 || !b8'), .int .i64 2] 128) →
      RulP (rulL np dims ⟨nm, cnt, fr, dt, cap, sk, prof, opn, cls, drv, rst, fix, pm, pt⟩ tw) w (.returned (.slice (some ⟨w1.heap.size, 0, none⟩) 9 9)) wz) := by
    intro b0 b2 b3 b3' b4 b5 b6 b7 b7' b8 b8' w1 wz h0 h2 h3 h3' h4 h5 h6 h7 h7' h8 h8' hb hz
    subst h0 h2 h3 h3' h4 h5 h6 h7 h7' h8 h8' hz
    exact ⟨_, _, rfl, rules_made w1 _ _ _ _ _ _ _ _ _ _ _ _ _ _ _ _ _ _ _, hb.alloc hb.size _⟩
  have KN := Lib.hid (fun w => name_any nm w)
  have KC := Lib.hid (fun w => count_n cnt w)
  have KF := Lib.hid (fun w => upTo_n fr (np - 1) w)
  have KT := Lib.hid (fun w => upTo_n dt (np - 1) w)
  have KL := Lib.hid (fun w hu => capacity_n (.slice oc cap.length cc) cap dims hc9 hd9 w hu)
  have KS := Lib.hid (fun w => upTo_n sk 1073741823 w)
  have KO := Lib.hid (fun w => upTo_n opn cls w)
  have KD := Lib.hid (fun w => upTo_n drv 4096 w)
  have KR := Lib.hid (fun w => upTo_n rst 4096 w)
  have KP := Lib.hid (fun w => upTo_n prof 7 w)
  have KA := Lib.hid (fun w => costs_n nm cnt fr dt sk prof opn cls drv rst fix pm pt oc cap.length cc w)
  generalize RulP (rulL np dims ⟨nm, cnt, fr, dt, cap, sk, prof, opn, cls, drv, rst, fix, pm, pt⟩ tw) w = PP at *
  obtain ⟨b0, h0⟩ : ∃ b, nmT nm = b := ⟨_, rfl⟩
  obtain ⟨b2, h2⟩ : ∃ b, rgB 0 10 cnt = b := ⟨_, rfl⟩
  obtain ⟨b3, h3⟩ : ∃ b, rgB 0 (np - 1) fr = b := ⟨_, rfl⟩
  obtain ⟨b3', h3'⟩ : ∃ b, rgB 0 (np - 1) dt = b := ⟨_, rfl⟩
  obtain ⟨b4, h4⟩ : ∃ b, capB cap dims = b := ⟨_, rfl⟩
  obtain ⟨b5, h5⟩ : ∃ b, rgB 0 1073741823 sk = b := ⟨_, rfl⟩
  obtain ⟨b6, h6⟩ : ∃ b, rgB 0 cls opn = b := ⟨_, rfl⟩
  obtain ⟨b7, h7⟩ : ∃ b, rgB 0 4096 drv = b := ⟨_, rfl⟩
  obtain ⟨b7', h7'⟩ : ∃ b, rgB 0 4096 rst = b := ⟨_, rfl⟩
  obtain ⟨b8, h8⟩ : ∃ b, rgB 0 7 prof = b := ⟨_, rfl⟩
  obtain ⟨b8', h8'⟩ : ∃ b, (rgB 0 100000 fix && rgB 0 100 pm && rgB 0 100 pt) = b := ⟨_, rfl⟩
  have HP := Lib.hid (fun w1 wz hb hz => HP.out b0 b2 b3 b3' b4 b5 b6 b7 b7' b8 b8' w1 wz h0 h2 h3 h3' h4 h5 h6 h7 h7' h8 h8' hb hz)
  have KN : Hid (∀ w, Calls Tryz.prog 95 #[.string nm] w fun e w' => e = .returned (.bool b0) ∧ w = w') := fun w => by have := KN.out w; rw [show nameB nm.data.toList = b0 from h0] at this; exact this
  rw [h2] at KC
  rw [h3] at KF
  rw [h3'] at KT
  rw [h4] at KL
  rw [h5] at KS
  rw [h6] at KO
  rw [h7] at KD
  rw [h7'] at KR
  rw [h8] at KP
  rw [h8'] at KA
  clear h0 h2 h3 h3' h4 h5 h6 h7 h7' h8 h8'
  have BW := Lib.hid (below_alloc w (.cells #[.string nm, .int .i64 cnt, .int .i64 fr, .int .i64 dt, .slice oc cap.length cc, .int .i64 sk, .int .i64 prof, .int .i64 opn, .int .i64 cls, .int .i64 drv, .int .i64 rst, .int .i64 fix, .int .i64 pm, .int .i64 pt] 56))
  have T0 := Lib.hid (Tb.made w (.string nm) (.int .i64 cnt) (.int .i64 fr) (.int .i64 dt) (.slice oc cap.length cc) (.int .i64 sk) (.int .i64 prof) (.int .i64 opn) (.int .i64 cls) (.int .i64 drv) (.int .i64 rst) (.int .i64 fix) (.int .i64 pm) (.int .i64 pt))
  have HC := Lib.hid (hc.below BW.out)
  obtain ⟨W1, hW1⟩ : ∃ W1, w.alloc (.cells #[.string nm, .int .i64 cnt, .int .i64 fr, .int .i64 dt, .slice oc cap.length cc, .int .i64 sk, .int .i64 prof, .int .i64 opn, .int .i64 cls, .int .i64 drv, .int .i64 rst, .int .i64 fix, .int .i64 pm, .int .i64 pt] 56) = W1 := ⟨_, rfl⟩
  rw [hW1] at BW T0 HC
  clear hc hc9 hd9
  have hnw : IntKind.i64.wrap ((np : Int) - 1) = (np : Int) - 1 := IntWalk.i64_in _ (by omega)
  have c0 := T0.out.c0
  have c1 := T0.out.c1
  have c2 := T0.out.c2
  have c3 := T0.out.c3
  have c4 := T0.out.c4
  have c5 := T0.out.c5
  have c6 := T0.out.c6
  have c7 := T0.out.c7
  have c8 := T0.out.c8
  have c9 := T0.out.c9
  have c10 := T0.out.c10
  have c11 := T0.out.c11
  have c12 := T0.out.c12
  have c13 := T0.out.c13
  obtain ⟨z, hz⟩ : ∃ z, (drv == 0) = z := ⟨_, rfl⟩
  rw [hz] at HP
  go_enter Tryz.func61, Tryz.ntmps61
  go_wp2_with fail
  clear hW1
  refine wp_region_noPanic ?_
  refine wp_region_held_drew (S := fun w' => w'.cell? ⟨w.heap.size, 0, none⟩ = some (.string nm) ∧ w'.cell? ⟨w.heap.size, 1, none⟩ = some (.int .i64 cnt) ∧ w'.cell? ⟨w.heap.size, 2, none⟩ = some (.int .i64 fr) ∧ w'.cell? ⟨w.heap.size, 3, none⟩ = some (.int .i64 dt) ∧ w'.cell? ⟨w.heap.size, 4, none⟩ = some (.slice oc cap.length cc) ∧ w'.cell? ⟨w.heap.size, 5, none⟩ = some (.int .i64 sk) ∧ w'.cell? ⟨w.heap.size, 6, none⟩ = some (.int .i64 prof) ∧ w'.cell? ⟨w.heap.size, 7, none⟩ = some (.int .i64 opn) ∧ w'.cell? ⟨w.heap.size, 8, none⟩ = some (.int .i64 cls) ∧ w'.cell? ⟨w.heap.size, 9, none⟩ = some (.int .i64 drv) ∧ w'.cell? ⟨w.heap.size, 10, none⟩ = some (.int .i64 rst) ∧ w'.cell? ⟨w.heap.size, 11, none⟩ = some (.int .i64 fix) ∧ w'.cell? ⟨w.heap.size, 12, none⟩ = some (.int .i64 pm) ∧ w'.cell? ⟨w.heap.size, 13, none⟩ = some (.int .i64 pt)) (by kernel_rfl) ⟨c0, c1, c2, c3, c4, c5, c6, c7, c8, c9, c10, c11, c12, c13⟩ (fun hHeld => ?_)
  have HC : Hid (L.Li W1.drew (.slice oc cap.length cc) cap) := HC
  refine wpAnyH_take (i := 0) (oi := { dst := some 9, op := Op.fieldAddr 56 (Operand.tmp 4) 0, type := 0, pos := "faults.go:22", after := #[], guard := none }) (v := .pointer (some ⟨w.heap.size, 0, none⟩)) rfl (by kernel_rfl) (by kernel_rfl) (by kernel_rfl) (fun _ _ _ h => h) (Or.inl ⟨by rfl, by intro w0 hSw; go_simp⟩) hHeld ?_
  simp only [Act.put, List.setIfInBounds_toArray, List.set_cons_zero, List.set_cons_succ]
  refine wpAnyH_take (i := 1) (oi := { dst := some 10, op := Op.load 9 (Operand.tmp 9), type := 9, pos := "faults.go:22", after := #[{ on := 0, ground := Ground.data }], guard := none }) (v := .string nm) rfl (by kernel_rfl) (by kernel_rfl) (by kernel_rfl) (fun _ _ _ h => h) (Or.inl ⟨by rfl, by intro w0 hSw; go_simp⟩) hHeld ?_
  simp only [Act.put, List.setIfInBounds_toArray, List.set_cons_zero, List.set_cons_succ]
  refine wpAnyH_take (i := 5) (oi := { dst := some 14, op := Op.move (Operand.tmp 3), type := 4, pos := "faults.go:22", after := #[], guard := none }) (v := .bool tw) rfl (by kernel_rfl) (by kernel_rfl) (by kernel_rfl) (fun _ _ _ h => h) (Or.inl ⟨by rfl, by intro w0 hSw; go_simp⟩) hHeld ?_
  simp only [Act.put, List.setIfInBounds_toArray, List.set_cons_zero, List.set_cons_succ]
  refine wpAnyH_take (i := 6) (oi := { dst := some 15, op := Op.build 128 #[(0, Operand.tmp 14), (1, Operand.const (Value.int IntKind.i64 6))], type := 128, pos := "faults.go:22", after := #[{ on := 5, ground := Ground.data }], guard := none }) (v := .agg #[.bool (tw), .int .i64 6]) rfl (by kernel_rfl) (by kernel_rfl) (by kernel_rfl) (fun _ _ _ h => h) (Or.inl ⟨by rfl, by intro w0 hSw; go_simp⟩) hHeld ?_
  simp only [Act.put, List.setIfInBounds_toArray, List.set_cons_zero, List.set_cons_succ]
  refine wpAnyH_take (i := 7) (oi := { dst := some 16, op := Op.fieldAddr 56 (Operand.tmp 4) 1, type := 0, pos := "faults.go:22", after := #[], guard := none }) (v := .pointer (some ⟨w.heap.size, 1, none⟩)) rfl (by kernel_rfl) (by kernel_rfl) (by kernel_rfl) (fun _ _ _ h => h) (Or.inl ⟨by rfl, by intro w0 hSw; go_simp⟩) hHeld ?_
  simp only [Act.put, List.setIfInBounds_toArray, List.set_cons_zero, List.set_cons_succ]
  refine wpAnyH_take (i := 8) (oi := { dst := some 17, op := Op.load 3 (Operand.tmp 16), type := 3, pos := "faults.go:22", after := #[{ on := 7, ground := Ground.data }], guard := none }) (v := .int .i64 cnt) rfl (by kernel_rfl) (by kernel_rfl) (by kernel_rfl) (fun _ _ _ h => h) (Or.inl ⟨by rfl, by intro w0 hSw; go_simp⟩) hHeld ?_
  simp only [Act.put, List.setIfInBounds_toArray, List.set_cons_zero, List.set_cons_succ]
  refine wpAnyH_take (i := 12) (oi := { dst := some 21, op := Op.fieldAddr 56 (Operand.tmp 4) 2, type := 0, pos := "faults.go:22", after := #[], guard := none }) (v := .pointer (some ⟨w.heap.size, 2, none⟩)) rfl (by kernel_rfl) (by kernel_rfl) (by kernel_rfl) (fun _ _ _ h => h) (Or.inl ⟨by rfl, by intro w0 hSw; go_simp⟩) hHeld ?_
  simp only [Act.put, List.setIfInBounds_toArray, List.set_cons_zero, List.set_cons_succ]
  refine wpAnyH_take (i := 13) (oi := { dst := some 22, op := Op.load 3 (Operand.tmp 21), type := 3, pos := "faults.go:22", after := #[{ on := 12, ground := Ground.data }], guard := none }) (v := .int .i64 fr) rfl (by kernel_rfl) (by kernel_rfl) (by kernel_rfl) (fun _ _ _ h => h) (Or.inl ⟨by rfl, by intro w0 hSw; go_simp⟩) hHeld ?_
  simp only [Act.put, List.setIfInBounds_toArray, List.set_cons_zero, List.set_cons_succ]
  refine wpAnyH_take (i := 14) (oi := { dst := some 23, op := Op.move (Operand.tmp 1), type := 3, pos := "faults.go:22", after := #[], guard := none }) (v := .int .i64 np) rfl (by kernel_rfl) (by kernel_rfl) (by kernel_rfl) (fun _ _ _ h => h) (Or.inl ⟨by rfl, by intro w0 hSw; go_simp⟩) hHeld ?_
  simp only [Act.put, List.setIfInBounds_toArray, List.set_cons_zero, List.set_cons_succ]
  refine wpAnyH_take (i := 15) (oi := { dst := some 24, op := Op.binOp BinOp.sub 3 (Operand.tmp 23) (Operand.const (Value.int IntKind.i64 1)) 3, type := 3, pos := "faults.go:22", after := #[{ on := 14, ground := Ground.data }], guard := none }) (v := .int .i64 (np - 1)) rfl (by kernel_rfl) (by kernel_rfl) (by kernel_rfl) (fun _ _ _ h => h) (Or.inl ⟨by rfl, by intro w0 hSw; go_simp⟩) hHeld ?_
  simp only [Act.put, List.setIfInBounds_toArray, List.set_cons_zero, List.set_cons_succ]
  refine wpAnyH_take (i := 27) (oi := { dst := some 36, op := Op.fieldAddr 56 (Operand.tmp 4) 4, type := 0, pos := "faults.go:22", after := #[], guard := none }) (v := .pointer (some ⟨w.heap.size, 4, none⟩)) rfl (by kernel_rfl) (by kernel_rfl) (by kernel_rfl) (fun _ _ _ h => h) (Or.inl ⟨by rfl, by intro w0 hSw; go_simp⟩) hHeld ?_
  simp only [Act.put, List.setIfInBounds_toArray, List.set_cons_zero, List.set_cons_succ]
  refine wpAnyH_take (i := 28) (oi := { dst := some 37, op := Op.load 40 (Operand.tmp 36), type := 40, pos := "faults.go:22", after := #[{ on := 27, ground := Ground.data }], guard := none }) (v := .slice oc cap.length cc) rfl (by kernel_rfl) (by kernel_rfl) (by kernel_rfl) (fun _ _ _ h => h) (Or.inl ⟨by rfl, by intro w0 hSw; go_simp⟩) hHeld ?_
  simp only [Act.put, List.setIfInBounds_toArray, List.set_cons_zero, List.set_cons_succ]
  refine wpAnyH_take (i := 29) (oi := { dst := some 38, op := Op.move (Operand.tmp 2), type := 3, pos := "faults.go:22", after := #[], guard := none }) (v := .int .i64 dims) rfl (by kernel_rfl) (by kernel_rfl) (by kernel_rfl) (fun _ _ _ h => h) (Or.inl ⟨by rfl, by intro w0 hSw; go_simp⟩) hHeld ?_
  simp only [Act.put, List.setIfInBounds_toArray, List.set_cons_zero, List.set_cons_succ]
  refine wpAnyH_take (i := 33) (oi := { dst := some 42, op := Op.fieldAddr 56 (Operand.tmp 4) 5, type := 0, pos := "faults.go:22", after := #[], guard := none }) (v := .pointer (some ⟨w.heap.size, 5, none⟩)) rfl (by kernel_rfl) (by kernel_rfl) (by kernel_rfl) (fun _ _ _ h => h) (Or.inl ⟨by rfl, by intro w0 hSw; go_simp⟩) hHeld ?_
  simp only [Act.put, List.setIfInBounds_toArray, List.set_cons_zero, List.set_cons_succ]
  refine wpAnyH_take (i := 34) (oi := { dst := some 43, op := Op.load 3 (Operand.tmp 42), type := 3, pos := "faults.go:22", after := #[{ on := 33, ground := Ground.data }], guard := none }) (v := .int .i64 sk) rfl (by kernel_rfl) (by kernel_rfl) (by kernel_rfl) (fun _ _ _ h => h) (Or.inl ⟨by rfl, by intro w0 hSw; go_simp⟩) hHeld ?_
  simp only [Act.put, List.setIfInBounds_toArray, List.set_cons_zero, List.set_cons_succ]
  refine wpAnyH_take (i := 38) (oi := { dst := some 47, op := Op.fieldAddr 56 (Operand.tmp 4) 7, type := 0, pos := "faults.go:22", after := #[], guard := none }) (v := .pointer (some ⟨w.heap.size, 7, none⟩)) rfl (by kernel_rfl) (by kernel_rfl) (by kernel_rfl) (fun _ _ _ h => h) (Or.inl ⟨by rfl, by intro w0 hSw; go_simp⟩) hHeld ?_
  simp only [Act.put, List.setIfInBounds_toArray, List.set_cons_zero, List.set_cons_succ]
  refine wpAnyH_take (i := 39) (oi := { dst := some 48, op := Op.load 3 (Operand.tmp 47), type := 3, pos := "faults.go:22", after := #[{ on := 38, ground := Ground.data }], guard := none }) (v := .int .i64 opn) rfl (by kernel_rfl) (by kernel_rfl) (by kernel_rfl) (fun _ _ _ h => h) (Or.inl ⟨by rfl, by intro w0 hSw; go_simp⟩) hHeld ?_
  simp only [Act.put, List.setIfInBounds_toArray, List.set_cons_zero, List.set_cons_succ]
  refine wpAnyH_take (i := 40) (oi := { dst := some 49, op := Op.fieldAddr 56 (Operand.tmp 4) 8, type := 0, pos := "faults.go:22", after := #[], guard := none }) (v := .pointer (some ⟨w.heap.size, 8, none⟩)) rfl (by kernel_rfl) (by kernel_rfl) (by kernel_rfl) (fun _ _ _ h => h) (Or.inl ⟨by rfl, by intro w0 hSw; go_simp⟩) hHeld ?_
  simp only [Act.put, List.setIfInBounds_toArray, List.set_cons_zero, List.set_cons_succ]
  refine wpAnyH_take (i := 41) (oi := { dst := some 50, op := Op.load 3 (Operand.tmp 49), type := 3, pos := "faults.go:22", after := #[{ on := 40, ground := Ground.data }], guard := none }) (v := .int .i64 cls) rfl (by kernel_rfl) (by kernel_rfl) (by kernel_rfl) (fun _ _ _ h => h) (Or.inl ⟨by rfl, by intro w0 hSw; go_simp⟩) hHeld ?_
  simp only [Act.put, List.setIfInBounds_toArray, List.set_cons_zero, List.set_cons_succ]
  refine wpAnyH_take (i := 50) (oi := { dst := some 59, op := Op.fieldAddr 56 (Operand.tmp 4) 9, type := 0, pos := "faults.go:22", after := #[], guard := none }) (v := .pointer (some ⟨w.heap.size, 9, none⟩)) rfl (by kernel_rfl) (by kernel_rfl) (by kernel_rfl) (fun _ _ _ h => h) (Or.inl ⟨by rfl, by intro w0 hSw; go_simp⟩) hHeld ?_
  simp only [Act.put, List.setIfInBounds_toArray, List.set_cons_zero, List.set_cons_succ]
  refine wpAnyH_take (i := 51) (oi := { dst := some 60, op := Op.load 3 (Operand.tmp 59), type := 3, pos := "faults.go:22", after := #[{ on := 50, ground := Ground.data }], guard := none }) (v := .int .i64 drv) rfl (by kernel_rfl) (by kernel_rfl) (by kernel_rfl) (fun _ _ _ h => h) (Or.inl ⟨by rfl, by intro w0 hSw; go_simp⟩) hHeld ?_
  simp only [Act.put, List.setIfInBounds_toArray, List.set_cons_zero, List.set_cons_succ]
  refine wpAnyH_take (i := 52) (oi := { dst := some 61, op := Op.binOp BinOp.eql 3 (Operand.tmp 60) (Operand.const (Value.int IntKind.i64 0)) 3, type := 4, pos := "faults.go:22", after := #[{ on := 51, ground := Ground.data }], guard := none }) (v := .bool z) rfl (by kernel_rfl) (by kernel_rfl) (by kernel_rfl) (fun _ _ _ h => h) (Or.inl ⟨by rfl, by intro w0 hSw; go_simp⟩) hHeld ?_
  simp only [Act.put, List.setIfInBounds_toArray, List.set_cons_zero, List.set_cons_succ]
  refine wpAnyH_take (i := 66) (oi := { dst := some 75, op := Op.fieldAddr 56 (Operand.tmp 4) 6, type := 0, pos := "faults.go:22", after := #[], guard := none }) (v := .pointer (some ⟨w.heap.size, 6, none⟩)) rfl (by kernel_rfl) (by kernel_rfl) (by kernel_rfl) (fun _ _ _ h => h) (Or.inl ⟨by rfl, by intro w0 hSw; go_simp⟩) hHeld ?_
  simp only [Act.put, List.setIfInBounds_toArray, List.set_cons_zero, List.set_cons_succ]
  refine wpAnyH_take (i := 67) (oi := { dst := some 76, op := Op.load 3 (Operand.tmp 75), type := 3, pos := "faults.go:22", after := #[{ on := 66, ground := Ground.data }], guard := none }) (v := .int .i64 prof) rfl (by kernel_rfl) (by kernel_rfl) (by kernel_rfl) (fun _ _ _ h => h) (Or.inl ⟨by rfl, by intro w0 hSw; go_simp⟩) hHeld ?_
  simp only [Act.put, List.setIfInBounds_toArray, List.set_cons_zero, List.set_cons_succ]
  refine wpAnyH_ready (rs := [2]) (by kernel_rfl) (by simp) ?_
  refine AllReadyH.cons (o := { dst := some 11, op := Op.call { callee := Callee.value (Operand.func 95), args := #[Operand.tmp 10], argTypes := #[9] }, type := 4, pos := "faults.go:23", after := #[{ on := 1, ground := Ground.data }], guard := none }) rfl (fun K hK => ?_) AllReadyH.nil
  go_simp
  go_at_call 95
  refine (KN.out _).mono ?_
  rintro e1 w1 ⟨rfl, rfl⟩
  go_wp2_with fail
  refine hK.out _ _ hHeld (fun _ => ?_)
  clear hK K
  refine wpAnyH_take (i := 3) (oi := { dst := some 12, op := Op.unOp UnOp.not 4 (Operand.tmp 11), type := 4, pos := "faults.go:22", after := #[{ on := 2, ground := Ground.data }], guard := none }) (v := .bool (!b0)) rfl (by kernel_rfl) (by kernel_rfl) (by kernel_rfl) (fun _ _ _ h => h) (Or.inl ⟨by rfl, by intro w0 hSw; go_simp⟩) hHeld ?_
  simp only [Act.put, List.setIfInBounds_toArray, List.set_cons_zero, List.set_cons_succ]
  refine wpAnyH_take (i := 4) (oi := { dst := some 13, op := Op.build 128 #[(0, Operand.tmp 12), (1, Operand.const (Value.int IntKind.i64 5))], type := 128, pos := "faults.go:22", after := #[{ on := 3, ground := Ground.data }], guard := none }) (v := .agg #[.bool (!b0), .int .i64 5]) rfl (by kernel_rfl) (by kernel_rfl) (by kernel_rfl) (fun _ _ _ h => h) (Or.inl ⟨by rfl, by intro w0 hSw; go_simp⟩) hHeld ?_
  simp only [Act.put, List.setIfInBounds_toArray, List.set_cons_zero, List.set_cons_succ]
  refine wpAnyH_ready (rs := [9]) (by kernel_rfl) (by simp) ?_
  refine AllReadyH.cons (o := { dst := some 18, op := Op.call { callee := Callee.value (Operand.func 96), args := #[Operand.tmp 17], argTypes := #[3] }, type := 4, pos := "faults.go:25", after := #[{ on := 8, ground := Ground.data }, { on := 2, ground := Ground.chain }], guard := none }) rfl (fun K hK => ?_) AllReadyH.nil
  go_simp
  go_at_call 96
  refine (KC.out _).mono ?_
  rintro e1 w1 ⟨rfl, rfl⟩
  go_wp2_with fail
  refine hK.out _ _ hHeld (fun _ => ?_)
  clear hK K
  refine wpAnyH_take (i := 10) (oi := { dst := some 19, op := Op.unOp UnOp.not 4 (Operand.tmp 18), type := 4, pos := "faults.go:22", after := #[{ on := 9, ground := Ground.data }], guard := none }) (v := .bool (!b2)) rfl (by kernel_rfl) (by kernel_rfl) (by kernel_rfl) (fun _ _ _ h => h) (Or.inl ⟨by rfl, by intro w0 hSw; go_simp⟩) hHeld ?_
  simp only [Act.put, List.setIfInBounds_toArray, List.set_cons_zero, List.set_cons_succ]
  refine wpAnyH_take (i := 11) (oi := { dst := some 20, op := Op.build 128 #[(0, Operand.tmp 19), (1, Operand.const (Value.int IntKind.i64 22))], type := 128, pos := "faults.go:22", after := #[{ on := 10, ground := Ground.data }], guard := none }) (v := .agg #[.bool (!b2), .int .i64 22]) rfl (by kernel_rfl) (by kernel_rfl) (by kernel_rfl) (fun _ _ _ h => h) (Or.inl ⟨by rfl, by intro w0 hSw; go_simp⟩) hHeld ?_
  simp only [Act.put, List.setIfInBounds_toArray, List.set_cons_zero, List.set_cons_succ]
  refine wpAnyH_ready (rs := [16]) (by kernel_rfl) (by simp) ?_
  refine AllReadyH.cons (o := { dst := some 25, op := Op.call { callee := Callee.value (Operand.func 97), args := #[Operand.tmp 22, Operand.tmp 24], argTypes := #[3, 3] }, type := 4, pos := "faults.go:26", after := #[{ on := 13, ground := Ground.data }, { on := 15, ground := Ground.data }, { on := 9, ground := Ground.chain }], guard := none }) rfl (fun K hK => ?_) AllReadyH.nil
  go_simp
  go_at_call 97
  refine (KF.out _).mono ?_
  rintro e1 w1 ⟨rfl, rfl⟩
  go_wp2_with fail
  refine hK.out _ _ hHeld (fun _ => ?_)
  clear hK K
  refine wpAnyH_take (i := 17) (oi := { dst := some 26, op := Op.unOp UnOp.not 4 (Operand.tmp 25), type := 4, pos := "faults.go:22", after := #[{ on := 16, ground := Ground.data }], guard := none }) (v := .bool (!b3)) rfl (by kernel_rfl) (by kernel_rfl) (by kernel_rfl) (fun _ _ _ h => h) (Or.inl ⟨by rfl, by intro w0 hSw; go_simp⟩) hHeld ?_
  simp only [Act.put, List.setIfInBounds_toArray, List.set_cons_zero, List.set_cons_succ]
  refine wpAnyH_take (i := 18) (oi := { dst := some 27, op := Op.move (Operand.tmp 26), type := 4, pos := "faults.go:22", after := #[{ on := 17, ground := Ground.data }, { on := 16, ground := Ground.chain }], guard := none }) (v := .bool (!b3)) rfl (by kernel_rfl) (by kernel_rfl) (by kernel_rfl) (fun _ _ _ h => h) (Or.inl ⟨by rfl, by intro w0 hSw; go_simp⟩) hHeld ?_
  simp only [Act.put, List.setIfInBounds_toArray, List.set_cons_zero, List.set_cons_succ]
  refine wpAnyH_take (i := 19) (oi := { dst := some 28, op := Op.fieldAddr 56 (Operand.tmp 4) 3, type := 0, pos := "faults.go:22", after := #[{ on := 18, ground := Ground.guard }], guard := some (18, false) }) (v := bif b3 then .pointer (some ⟨w.heap.size, 3, none⟩) else undef) rfl (by kernel_rfl) (by kernel_rfl) (by kernel_rfl) (fun _ _ _ h => h) (by cases b3 <;> (try simp only [cond_true, cond_false, Bool.not_true, Bool.not_false]) <;> first | exact Or.inr ⟨by rfl, by rfl⟩ | exact Or.inl ⟨by rfl, by intro w0 hSw; go_simp⟩) hHeld ?_
  simp only [Act.put, List.setIfInBounds_toArray, List.set_cons_zero, List.set_cons_succ]
  refine wpAnyH_take (i := 20) (oi := { dst := some 29, op := Op.load 3 (Operand.tmp 28), type := 3, pos := "faults.go:22", after := #[{ on := 19, ground := Ground.data }, { on := 18, ground := Ground.guard }], guard := some (18, false) }) (v := bif b3 then .int .i64 dt else undef) rfl (by kernel_rfl) (by kernel_rfl) (by kernel_rfl) (fun _ _ _ h => h) (by cases b3 <;> (try simp only [cond_true, cond_false, Bool.not_true, Bool.not_false]) <;> first | exact Or.inr ⟨by rfl, by rfl⟩ | exact Or.inl ⟨by rfl, by intro w0 hSw; go_simp⟩) hHeld ?_
  simp only [Act.put, List.setIfInBounds_toArray, List.set_cons_zero, List.set_cons_succ]
  refine wpAnyH_take (i := 21) (oi := { dst := some 30, op := Op.move (Operand.tmp 1), type := 3, pos := "faults.go:22", after := #[{ on := 18, ground := Ground.guard }], guard := some (18, false) }) (v := bif b3 then .int .i64 np else undef) rfl (by kernel_rfl) (by kernel_rfl) (by kernel_rfl) (fun _ _ _ h => h) (by cases b3 <;> (try simp only [cond_true, cond_false, Bool.not_true, Bool.not_false]) <;> first | exact Or.inr ⟨by rfl, by rfl⟩ | exact Or.inl ⟨by rfl, by intro w0 hSw; go_simp⟩) hHeld ?_
  simp only [Act.put, List.setIfInBounds_toArray, List.set_cons_zero, List.set_cons_succ]
  refine wpAnyH_take (i := 22) (oi := { dst := some 31, op := Op.binOp BinOp.sub 3 (Operand.tmp 30) (Operand.const (Value.int IntKind.i64 1)) 3, type := 3, pos := "faults.go:22", after := #[{ on := 21, ground := Ground.data }, { on := 18, ground := Ground.guard }], guard := some (18, false) }) (v := bif b3 then .int .i64 (np - 1) else undef) rfl (by kernel_rfl) (by kernel_rfl) (by kernel_rfl) (fun _ _ _ h => h) (by cases b3 <;> (try simp only [cond_true, cond_false, Bool.not_true, Bool.not_false]) <;> first | exact Or.inr ⟨by rfl, by rfl⟩ | exact Or.inl ⟨by rfl, by intro w0 hSw; go_simp⟩) hHeld ?_
  simp only [Act.put, List.setIfInBounds_toArray, List.set_cons_zero, List.set_cons_succ]
  refine wpAnyH_ready (rs := [23]) (by kernel_rfl) (by simp) ?_
  refine AllReadyH.cons (o := { dst := some 32, op := Op.call { callee := Callee.value (Operand.func 97), args := #[Operand.tmp 29, Operand.tmp 31], argTypes := #[3, 3] }, type := 4, pos := "faults.go:26", after := #[{ on := 20, ground := Ground.data }, { on := 22, ground := Ground.data }, { on := 18, ground := Ground.chain }, { on := 18, ground := Ground.guard }], guard := some (18, false) }) rfl (fun K hK => ?_) AllReadyH.nil
  refine call_sym (b3) (.bool b3') (by cases b3 <;> rfl) (fun hc K' hK' => ?_) (hK.out _ _ hHeld (fun _ => ?_))
  · clear hK
    cases b3
    all_goals (first | (exact absurd hc (by decide)) | skip)
    (try simp only [cond_true, Bool.not_true])
    go_simp
    go_at_call 97
    refine (KT.out _).mono ?_
    rintro e1 w1 ⟨rfl, rfl⟩
    exact hK'
  clear hK K
  simp only [Act.put, List.setIfInBounds_toArray, List.set_cons_zero, List.set_cons_succ]
  refine wpAnyH_take (i := 24) (oi := { dst := some 33, op := Op.unOp UnOp.not 4 (Operand.tmp 32), type := 4, pos := "faults.go:22", after := #[{ on := 23, ground := Ground.data }, { on := 18, ground := Ground.guard }], guard := some (18, false) }) (v := bif b3 then .bool (!b3') else undef) rfl (by kernel_rfl) (by kernel_rfl) (by kernel_rfl) (fun _ _ _ h => h) (by cases b3 <;> (try simp only [cond_true, cond_false, Bool.not_true, Bool.not_false]) <;> first | exact Or.inr ⟨by rfl, by rfl⟩ | exact Or.inl ⟨by rfl, by intro w0 hSw; go_simp⟩) hHeld ?_
  simp only [Act.put, List.setIfInBounds_toArray, List.set_cons_zero, List.set_cons_succ]
  refine wpAnyH_take (i := 25) (oi := { dst := some 34, op := Op.pick (Operand.tmp 27) (Operand.const (Value.bool true)) (Operand.tmp 33), type := 4, pos := "faults.go:22", after := #[{ on := 18, ground := Ground.data }, { on := 24, ground := Ground.data }], guard := none }) (v := .bool (!b3 || !b3')) rfl (by kernel_rfl) (by kernel_rfl) (by kernel_rfl) (fun _ _ _ h => h) (by cases b3 <;> (try simp only [cond_true, cond_false, Bool.not_true, Bool.not_false, Bool.true_or, Bool.false_or]) <;> exact Or.inl ⟨by rfl, by intro w0 hSw; go_simp⟩) hHeld ?_
  simp only [Act.put, List.setIfInBounds_toArray, List.set_cons_zero, List.set_cons_succ]
  refine wpAnyH_take (i := 26) (oi := { dst := some 35, op := Op.build 128 #[(0, Operand.tmp 34), (1, Operand.const (Value.int IntKind.i64 11))], type := 128, pos := "faults.go:22", after := #[{ on := 25, ground := Ground.data }], guard := none }) (v := .agg #[.bool (!b3 || !b3'), .int .i64 11]) rfl (by kernel_rfl) (by kernel_rfl) (by kernel_rfl) (fun _ _ _ h => h) (Or.inl ⟨by rfl, by intro w0 hSw; go_simp⟩) hHeld ?_
  simp only [Act.put, List.setIfInBounds_toArray, List.set_cons_zero, List.set_cons_succ]
  refine wpAnyH_ready (rs := [30]) (by kernel_rfl) (by simp) ?_
  refine AllReadyH.cons (o := { dst := some 39, op := Op.call { callee := Callee.value (Operand.func 98), args := #[Operand.tmp 37, Operand.tmp 38], argTypes := #[40, 3] }, type := 4, pos := "faults.go:27", after := #[{ on := 28, ground := Ground.data }, { on := 29, ground := Ground.data }, { on := 23, ground := Ground.chain }], guard := none }) rfl (fun K hK => ?_) AllReadyH.nil
  go_simp
  go_at_call 98
  refine (KL.out _ HC.out).mono ?_
  rintro e1 w1 ⟨rfl, rfl⟩
  go_wp2_with fail
  refine hK.out _ _ hHeld (fun _ => ?_)
  clear hK K
  refine wpAnyH_take (i := 31) (oi := { dst := some 40, op := Op.unOp UnOp.not 4 (Operand.tmp 39), type := 4, pos := "faults.go:22", after := #[{ on := 30, ground := Ground.data }], guard := none }) (v := .bool (!b4)) rfl (by kernel_rfl) (by kernel_rfl) (by kernel_rfl) (fun _ _ _ h => h) (Or.inl ⟨by rfl, by intro w0 hSw; go_simp⟩) hHeld ?_
  simp only [Act.put, List.setIfInBounds_toArray, List.set_cons_zero, List.set_cons_succ]
  refine wpAnyH_take (i := 32) (oi := { dst := some 41, op := Op.build 128 #[(0, Operand.tmp 40), (1, Operand.const (Value.int IntKind.i64 17))], type := 128, pos := "faults.go:22", after := #[{ on := 31, ground := Ground.data }], guard := none }) (v := .agg #[.bool (!b4), .int .i64 17]) rfl (by kernel_rfl) (by kernel_rfl) (by kernel_rfl) (fun _ _ _ h => h) (Or.inl ⟨by rfl, by intro w0 hSw; go_simp⟩) hHeld ?_
  simp only [Act.put, List.setIfInBounds_toArray, List.set_cons_zero, List.set_cons_succ]
  refine wpAnyH_ready (rs := [35]) (by kernel_rfl) (by simp) ?_
  refine AllReadyH.cons (o := { dst := some 44, op := Op.call { callee := Callee.value (Operand.func 97), args := #[Operand.tmp 43, Operand.const (Value.int IntKind.i64 1073741823)], argTypes := #[3, 3] }, type := 4, pos := "faults.go:28", after := #[{ on := 34, ground := Ground.data }, { on := 30, ground := Ground.chain }], guard := none }) rfl (fun K hK => ?_) AllReadyH.nil
  go_simp
  go_at_call 97
  refine (KS.out _).mono ?_
  rintro e1 w1 ⟨rfl, rfl⟩
  go_wp2_with fail
  refine hK.out _ _ hHeld (fun _ => ?_)
  clear hK K
  refine wpAnyH_take (i := 36) (oi := { dst := some 45, op := Op.unOp UnOp.not 4 (Operand.tmp 44), type := 4, pos := "faults.go:22", after := #[{ on := 35, ground := Ground.data }], guard := none }) (v := .bool (!b5)) rfl (by kernel_rfl) (by kernel_rfl) (by kernel_rfl) (fun _ _ _ h => h) (Or.inl ⟨by rfl, by intro w0 hSw; go_simp⟩) hHeld ?_
  simp only [Act.put, List.setIfInBounds_toArray, List.set_cons_zero, List.set_cons_succ]
  refine wpAnyH_take (i := 37) (oi := { dst := some 46, op := Op.build 128 #[(0, Operand.tmp 45), (1, Operand.const (Value.int IntKind.i64 18))], type := 128, pos := "faults.go:22", after := #[{ on := 36, ground := Ground.data }], guard := none }) (v := .agg #[.bool (!b5), .int .i64 18]) rfl (by kernel_rfl) (by kernel_rfl) (by kernel_rfl) (fun _ _ _ h => h) (Or.inl ⟨by rfl, by intro w0 hSw; go_simp⟩) hHeld ?_
  simp only [Act.put, List.setIfInBounds_toArray, List.set_cons_zero, List.set_cons_succ]
  refine wpAnyH_ready (rs := [42]) (by kernel_rfl) (by simp) ?_
  refine AllReadyH.cons (o := { dst := some 51, op := Op.call { callee := Callee.value (Operand.func 97), args := #[Operand.tmp 48, Operand.tmp 50], argTypes := #[3, 3] }, type := 4, pos := "faults.go:29", after := #[{ on := 39, ground := Ground.data }, { on := 41, ground := Ground.data }, { on := 35, ground := Ground.chain }], guard := none }) rfl (fun K hK => ?_) AllReadyH.nil
  go_simp
  go_at_call 97
  refine (KO.out _).mono ?_
  rintro e1 w1 ⟨rfl, rfl⟩
  go_wp2_with fail
  refine hK.out _ _ hHeld (fun _ => ?_)
  clear hK K
  refine wpAnyH_take (i := 43) (oi := { dst := some 52, op := Op.unOp UnOp.not 4 (Operand.tmp 51), type := 4, pos := "faults.go:22", after := #[{ on := 42, ground := Ground.data }], guard := none }) (v := .bool (!b6)) rfl (by kernel_rfl) (by kernel_rfl) (by kernel_rfl) (fun _ _ _ h => h) (Or.inl ⟨by rfl, by intro w0 hSw; go_simp⟩) hHeld ?_
  simp only [Act.put, List.setIfInBounds_toArray, List.set_cons_zero, List.set_cons_succ]
  refine wpAnyH_take (i := 44) (oi := { dst := some 53, op := Op.move (Operand.tmp 52), type := 4, pos := "faults.go:22", after := #[{ on := 43, ground := Ground.data }, { on := 42, ground := Ground.chain }], guard := none }) (v := .bool (!b6)) rfl (by kernel_rfl) (by kernel_rfl) (by kernel_rfl) (fun _ _ _ h => h) (Or.inl ⟨by rfl, by intro w0 hSw; go_simp⟩) hHeld ?_
  simp only [Act.put, List.setIfInBounds_toArray, List.set_cons_zero, List.set_cons_succ]
  refine wpAnyH_take (i := 53) (oi := { dst := some 62, op := Op.move (Operand.tmp 61), type := 4, pos := "faults.go:22", after := #[{ on := 52, ground := Ground.data }, { on := 44, ground := Ground.chain }], guard := none }) (v := .bool z) rfl (by kernel_rfl) (by kernel_rfl) (by kernel_rfl) (fun _ _ _ h => h) (Or.inl ⟨by rfl, by intro w0 hSw; go_simp⟩) hHeld ?_
  simp only [Act.put, List.setIfInBounds_toArray, List.set_cons_zero, List.set_cons_succ]
  refine wpAnyH_take (i := 45) (oi := { dst := some 54, op := Op.fieldAddr 56 (Operand.tmp 4) 8, type := 0, pos := "faults.go:22", after := #[{ on := 44, ground := Ground.guard }], guard := some (44, false) }) (v := bif b6 then .pointer (some ⟨w.heap.size, 8, none⟩) else undef) rfl (by kernel_rfl) (by kernel_rfl) (by kernel_rfl) (fun _ _ _ h => h) (by cases b6 <;> (try simp only [cond_true, cond_false, Bool.not_true, Bool.not_false]) <;> first | exact Or.inr ⟨by rfl, by rfl⟩ | exact Or.inl ⟨by rfl, by intro w0 hSw; go_simp⟩) hHeld ?_
  simp only [Act.put, List.setIfInBounds_toArray, List.set_cons_zero, List.set_cons_succ]
  refine wpAnyH_take (i := 46) (oi := { dst := some 55, op := Op.load 3 (Operand.tmp 54), type := 3, pos := "faults.go:22", after := #[{ on := 45, ground := Ground.data }, { on := 44, ground := Ground.guard }], guard := some (44, false) }) (v := bif b6 then .int .i64 cls else undef) rfl (by kernel_rfl) (by kernel_rfl) (by kernel_rfl) (fun _ _ _ h => h) (by cases b6 <;> (try simp only [cond_true, cond_false, Bool.not_true, Bool.not_false]) <;> first | exact Or.inr ⟨by rfl, by rfl⟩ | exact Or.inl ⟨by rfl, by intro w0 hSw; go_simp⟩) hHeld ?_
  simp only [Act.put, List.setIfInBounds_toArray, List.set_cons_zero, List.set_cons_succ]
  refine wpAnyH_take (i := 47) (oi := { dst := some 56, op := Op.binOp BinOp.gtr 3 (Operand.tmp 55) (Operand.const (Value.int IntKind.i64 4096)) 3, type := 4, pos := "faults.go:22", after := #[{ on := 46, ground := Ground.data }, { on := 44, ground := Ground.guard }], guard := some (44, false) }) (v := bif b6 then .bool (decide (4096 < cls)) else undef) rfl (by kernel_rfl) (by kernel_rfl) (by kernel_rfl) (fun _ _ _ h => h) (by cases b6 <;> (try simp only [cond_true, cond_false, Bool.not_true, Bool.not_false]) <;> first | exact Or.inr ⟨by rfl, by rfl⟩ | exact Or.inl ⟨by rfl, by intro w0 hSw; go_simp⟩) hHeld ?_
  simp only [Act.put, List.setIfInBounds_toArray, List.set_cons_zero, List.set_cons_succ]
  refine wpAnyH_take (i := 48) (oi := { dst := some 57, op := Op.pick (Operand.tmp 53) (Operand.const (Value.bool true)) (Operand.tmp 56), type := 4, pos := "faults.go:22", after := #[{ on := 44, ground := Ground.data }, { on := 47, ground := Ground.data }], guard := none }) (v := .bool (!b6 || decide (4096 < cls))) rfl (by kernel_rfl) (by kernel_rfl) (by kernel_rfl) (fun _ _ _ h => h) (by cases b6 <;> (try simp only [cond_true, cond_false, Bool.not_true, Bool.not_false, Bool.true_or, Bool.false_or]) <;> exact Or.inl ⟨by rfl, by intro w0 hSw; go_simp⟩) hHeld ?_
  simp only [Act.put, List.setIfInBounds_toArray, List.set_cons_zero, List.set_cons_succ]
  refine wpAnyH_take (i := 49) (oi := { dst := some 58, op := Op.build 128 #[(0, Operand.tmp 57), (1, Operand.const (Value.int IntKind.i64 15))], type := 128, pos := "faults.go:22", after := #[{ on := 48, ground := Ground.data }], guard := none }) (v := .agg #[.bool (!b6 || decide (4096 < cls)), .int .i64 15]) rfl (by kernel_rfl) (by kernel_rfl) (by kernel_rfl) (fun _ _ _ h => h) (Or.inl ⟨by rfl, by intro w0 hSw; go_simp⟩) hHeld ?_
  simp only [Act.put, List.setIfInBounds_toArray, List.set_cons_zero, List.set_cons_succ]
  refine wpAnyH_take (i := 54) (oi := { dst := some 63, op := Op.fieldAddr 56 (Operand.tmp 4) 9, type := 0, pos := "faults.go:22", after := #[{ on := 53, ground := Ground.guard }], guard := some (53, false) }) (v := bif !z then .pointer (some ⟨w.heap.size, 9, none⟩) else undef) rfl (by kernel_rfl) (by kernel_rfl) (by kernel_rfl) (fun _ _ _ h => h) (by cases z <;> (try simp only [cond_true, cond_false, Bool.not_true, Bool.not_false]) <;> first | exact Or.inr ⟨by rfl, by rfl⟩ | exact Or.inl ⟨by rfl, by intro w0 hSw; go_simp⟩) hHeld ?_
  simp only [Act.put, List.setIfInBounds_toArray, List.set_cons_zero, List.set_cons_succ]
  refine wpAnyH_take (i := 55) (oi := { dst := some 64, op := Op.load 3 (Operand.tmp 63), type := 3, pos := "faults.go:22", after := #[{ on := 54, ground := Ground.data }, { on := 53, ground := Ground.guard }], guard := some (53, false) }) (v := bif !z then .int .i64 drv else undef) rfl (by kernel_rfl) (by kernel_rfl) (by kernel_rfl) (fun _ _ _ h => h) (by cases z <;> (try simp only [cond_true, cond_false, Bool.not_true, Bool.not_false]) <;> first | exact Or.inr ⟨by rfl, by rfl⟩ | exact Or.inl ⟨by rfl, by intro w0 hSw; go_simp⟩) hHeld ?_
  simp only [Act.put, List.setIfInBounds_toArray, List.set_cons_zero, List.set_cons_succ]
  refine wpAnyH_ready (rs := [56]) (by kernel_rfl) (by simp) ?_
  refine AllReadyH.cons (o := { dst := some 65, op := Op.call { callee := Callee.value (Operand.func 97), args := #[Operand.tmp 64, Operand.const (Value.int IntKind.i64 4096)], argTypes := #[3, 3] }, type := 4, pos := "faults.go:30", after := #[{ on := 55, ground := Ground.data }, { on := 53, ground := Ground.chain }, { on := 53, ground := Ground.guard }], guard := some (53, false) }) rfl (fun K hK => ?_) AllReadyH.nil
  refine call_sym (!z) (.bool b7) (by cases z <;> rfl) (fun hc K' hK' => ?_) (hK.out _ _ hHeld (fun _ => ?_))
  · clear hK
    cases z
    all_goals (first | (exact absurd hc (by decide)) | skip)
    (try simp only [cond_true, Bool.not_false])
    go_simp
    go_at_call 97
    refine (KD.out _).mono ?_
    rintro e1 w1 ⟨rfl, rfl⟩
    exact hK'
  clear hK K
  simp only [Act.put, List.setIfInBounds_toArray, List.set_cons_zero, List.set_cons_succ]
  refine wpAnyH_take (i := 57) (oi := { dst := some 66, op := Op.unOp UnOp.not 4 (Operand.tmp 65), type := 4, pos := "faults.go:22", after := #[{ on := 56, ground := Ground.data }, { on := 53, ground := Ground.guard }], guard := some (53, false) }) (v := bif !z then .bool (!b7) else undef) rfl (by kernel_rfl) (by kernel_rfl) (by kernel_rfl) (fun _ _ _ h => h) (by cases z <;> (try simp only [cond_true, cond_false, Bool.not_true, Bool.not_false]) <;> first | exact Or.inr ⟨by rfl, by rfl⟩ | exact Or.inl ⟨by rfl, by intro w0 hSw; go_simp⟩) hHeld ?_
  simp only [Act.put, List.setIfInBounds_toArray, List.set_cons_zero, List.set_cons_succ]
  refine wpAnyH_take (i := 58) (oi := { dst := some 67, op := Op.pick (Operand.tmp 62) (Operand.const (Value.bool true)) (Operand.tmp 66), type := 4, pos := "faults.go:22", after := #[{ on := 53, ground := Ground.data }, { on := 57, ground := Ground.data }], guard := none }) (v := .bool (z || !b7)) rfl (by kernel_rfl) (by kernel_rfl) (by kernel_rfl) (fun _ _ _ h => h) (by cases z <;> (try simp only [cond_true, cond_false, Bool.not_true, Bool.not_false, Bool.true_or, Bool.false_or]) <;> exact Or.inl ⟨by rfl, by intro w0 hSw; go_simp⟩) hHeld ?_
  simp only [Act.put, List.setIfInBounds_toArray, List.set_cons_zero, List.set_cons_succ]
  refine wpAnyH_take (i := 59) (oi := { dst := some 68, op := Op.move (Operand.tmp 67), type := 4, pos := "faults.go:22", after := #[{ on := 58, ground := Ground.data }, { on := 56, ground := Ground.chain }], guard := none }) (v := .bool (z || !b7)) rfl (by kernel_rfl) (by kernel_rfl) (by kernel_rfl) (fun _ _ _ h => h) (Or.inl ⟨by rfl, by intro w0 hSw; go_simp⟩) hHeld ?_
  simp only [Act.put, List.setIfInBounds_toArray, List.set_cons_zero, List.set_cons_succ]
  refine wpAnyH_take (i := 60) (oi := { dst := some 69, op := Op.fieldAddr 56 (Operand.tmp 4) 10, type := 0, pos := "faults.go:22", after := #[{ on := 59, ground := Ground.guard }], guard := some (59, false) }) (v := bif !(z || !b7) then .pointer (some ⟨w.heap.size, 10, none⟩) else undef) rfl (by kernel_rfl) (by kernel_rfl) (by kernel_rfl) (fun _ _ _ h => h) (by cases z <;> cases b7 <;> (try simp only [cond_true, cond_false, Bool.not_true, Bool.not_false, Bool.or_false, Bool.or_true]) <;> first | exact Or.inr ⟨by rfl, by rfl⟩ | exact Or.inl ⟨by rfl, by intro w0 hSw; go_simp⟩) hHeld ?_
  simp only [Act.put, List.setIfInBounds_toArray, List.set_cons_zero, List.set_cons_succ]
  refine wpAnyH_take (i := 61) (oi := { dst := some 70, op := Op.load 3 (Operand.tmp 69), type := 3, pos := "faults.go:22", after := #[{ on := 60, ground := Ground.data }, { on := 59, ground := Ground.guard }], guard := some (59, false) }) (v := bif !(z || !b7) then .int .i64 rst else undef) rfl (by kernel_rfl) (by kernel_rfl) (by kernel_rfl) (fun _ _ _ h => h) (by cases z <;> cases b7 <;> (try simp only [cond_true, cond_false, Bool.not_true, Bool.not_false, Bool.or_false, Bool.or_true]) <;> first | exact Or.inr ⟨by rfl, by rfl⟩ | exact Or.inl ⟨by rfl, by intro w0 hSw; go_simp⟩) hHeld ?_
  simp only [Act.put, List.setIfInBounds_toArray, List.set_cons_zero, List.set_cons_succ]
  refine wpAnyH_ready (rs := [62]) (by kernel_rfl) (by simp) ?_
  refine AllReadyH.cons (o := { dst := some 71, op := Op.call { callee := Callee.value (Operand.func 97), args := #[Operand.tmp 70, Operand.const (Value.int IntKind.i64 4096)], argTypes := #[3, 3] }, type := 4, pos := "faults.go:30", after := #[{ on := 61, ground := Ground.data }, { on := 59, ground := Ground.chain }, { on := 59, ground := Ground.guard }], guard := some (59, false) }) rfl (fun K hK => ?_) AllReadyH.nil
  refine call_sym (!(z || !b7)) (.bool b7') (by cases z <;> cases b7 <;> rfl) (fun hc K' hK' => ?_) (hK.out _ _ hHeld (fun _ => ?_))
  · clear hK
    cases z <;> cases b7
    all_goals (first | (exact absurd hc (by decide)) | skip)
    (try simp only [cond_true, Bool.not_true, Bool.not_false, Bool.or_false])
    go_simp
    go_at_call 97
    refine (KR.out _).mono ?_
    rintro e1 w1 ⟨rfl, rfl⟩
    exact hK'
  clear hK K
  simp only [Act.put, List.setIfInBounds_toArray, List.set_cons_zero, List.set_cons_succ]
  refine wpAnyH_take (i := 63) (oi := { dst := some 72, op := Op.unOp UnOp.not 4 (Operand.tmp 71), type := 4, pos := "faults.go:22", after := #[{ on := 62, ground := Ground.data }, { on := 59, ground := Ground.guard }], guard := some (59, false) }) (v := bif !(z || !b7) then .bool (!b7') else undef) rfl (by kernel_rfl) (by kernel_rfl) (by kernel_rfl) (fun _ _ _ h => h) (by cases z <;> cases b7 <;> (try simp only [cond_true, cond_false, Bool.not_true, Bool.not_false, Bool.or_false, Bool.or_true]) <;> first | exact Or.inr ⟨by rfl, by rfl⟩ | exact Or.inl ⟨by rfl, by intro w0 hSw; go_simp⟩) hHeld ?_
  simp only [Act.put, List.setIfInBounds_toArray, List.set_cons_zero, List.set_cons_succ]
  refine wpAnyH_take (i := 64) (oi := { dst := some 73, op := Op.pick (Operand.tmp 68) (Operand.const (Value.bool true)) (Operand.tmp 72), type := 4, pos := "faults.go:22", after := #[{ on := 59, ground := Ground.data }, { on := 63, ground := Ground.data }], guard := none }) (v := .bool (z || !b7 || !b7')) rfl (by kernel_rfl) (by kernel_rfl) (by kernel_rfl) (fun _ _ _ h => h) (by cases z <;> cases b7 <;> (try simp only [cond_true, cond_false, Bool.not_true, Bool.not_false, Bool.true_or, Bool.false_or, Bool.or_false, Bool.or_true]) <;> exact Or.inl ⟨by rfl, by intro w0 hSw; go_simp⟩) hHeld ?_
  simp only [Act.put, List.setIfInBounds_toArray, List.set_cons_zero, List.set_cons_succ]
  refine wpAnyH_take (i := 65) (oi := { dst := some 74, op := Op.build 128 #[(0, Operand.tmp 73), (1, Operand.const (Value.int IntKind.i64 16))], type := 128, pos := "faults.go:22", after := #[{ on := 64, ground := Ground.data }], guard := none }) (v := .agg #[.bool (z || !b7 || !b7'), .int .i64 16]) rfl (by kernel_rfl) (by kernel_rfl) (by kernel_rfl) (fun _ _ _ h => h) (Or.inl ⟨by rfl, by intro w0 hSw; go_simp⟩) hHeld ?_
  simp only [Act.put, List.setIfInBounds_toArray, List.set_cons_zero, List.set_cons_succ]
  refine wpAnyH_ready (rs := [68]) (by kernel_rfl) (by simp) ?_
  refine AllReadyH.cons (o := { dst := some 77, op := Op.call { callee := Callee.value (Operand.func 97), args := #[Operand.tmp 76, Operand.const (Value.int IntKind.i64 7)], argTypes := #[3, 3] }, type := 4, pos := "faults.go:31", after := #[{ on := 67, ground := Ground.data }, { on := 62, ground := Ground.chain }], guard := none }) rfl (fun K hK => ?_) AllReadyH.nil
  go_simp
  go_at_call 97
  refine (KP.out _).mono ?_
  rintro e1 w1 ⟨rfl, rfl⟩
  go_wp2_with fail
  refine hK.out _ _ hHeld (fun _ => ?_)
  clear hK K
  refine wpAnyH_take (i := 69) (oi := { dst := some 78, op := Op.unOp UnOp.not 4 (Operand.tmp 77), type := 4, pos := "faults.go:22", after := #[{ on := 68, ground := Ground.data }], guard := none }) (v := .bool (!b8)) rfl (by kernel_rfl) (by kernel_rfl) (by kernel_rfl) (fun _ _ _ h => h) (Or.inl ⟨by rfl, by intro w0 hSw; go_simp⟩) hHeld ?_
  simp only [Act.put, List.setIfInBounds_toArray, List.set_cons_zero, List.set_cons_succ]
  refine wpAnyH_take (i := 70) (oi := { dst := some 79, op := Op.move (Operand.tmp 78), type := 4, pos := "faults.go:22", after := #[{ on := 69, ground := Ground.data }, { on := 68, ground := Ground.chain }], guard := none }) (v := .bool (!b8)) rfl (by kernel_rfl) (by kernel_rfl) (by kernel_rfl) (fun _ _ _ h => h) (Or.inl ⟨by rfl, by intro w0 hSw; go_simp⟩) hHeld ?_
  simp only [Act.put, List.setIfInBounds_toArray, List.set_cons_zero, List.set_cons_succ]
  have BWd := Lib.hid (below_drew BW.out)
  have hlt : w.heap.size < W1.drew.heap.size := T0.out.lt
  have f0 : W1.drew.cell? ⟨w.heap.size, 0, none⟩ = some (.string nm) := c0
  have f1 : W1.drew.cell? ⟨w.heap.size, 1, none⟩ = some (.int .i64 cnt) := c1
  have f2 : W1.drew.cell? ⟨w.heap.size, 2, none⟩ = some (.int .i64 fr) := c2
  have f3 : W1.drew.cell? ⟨w.heap.size, 3, none⟩ = some (.int .i64 dt) := c3
  have f4 : W1.drew.cell? ⟨w.heap.size, 4, none⟩ = some (.slice oc cap.length cc) := c4
  have f5 : W1.drew.cell? ⟨w.heap.size, 5, none⟩ = some (.int .i64 sk) := c5
  have f6 : W1.drew.cell? ⟨w.heap.size, 6, none⟩ = some (.int .i64 prof) := c6
  have f7 : W1.drew.cell? ⟨w.heap.size, 7, none⟩ = some (.int .i64 opn) := c7
  have f8 : W1.drew.cell? ⟨w.heap.size, 8, none⟩ = some (.int .i64 cls) := c8
  have f9 : W1.drew.cell? ⟨w.heap.size, 9, none⟩ = some (.int .i64 drv) := c9
  have f10 : W1.drew.cell? ⟨w.heap.size, 10, none⟩ = some (.int .i64 rst) := c10
  have f11 : W1.drew.cell? ⟨w.heap.size, 11, none⟩ = some (.int .i64 fix) := c11
  have f12 : W1.drew.cell? ⟨w.heap.size, 12, none⟩ = some (.int .i64 pm) := c12
  have f13 : W1.drew.cell? ⟨w.heap.size, 13, none⟩ = some (.int .i64 pt) := c13
  cases b8
  · skip
    refine wpAnyH_take (i := 71) (oi := { dst := some 80, op := Op.load 56 (Operand.tmp 4), type := 56, pos := "faults.go:22", after := #[{ on := 70, ground := Ground.guard }], guard := some (70, false) }) (v := undef) rfl (by kernel_rfl) (by kernel_rfl) (by kernel_rfl) (fun _ _ _ h => h) (Or.inr ⟨by rfl, by rfl⟩) hHeld ?_
    simp only [Act.put, List.setIfInBounds_toArray, List.set_cons_zero, List.set_cons_succ]
    refine wpAnyH_take (i := 72) (oi := { dst := some 81, op := Op.call { callee := Callee.value (Operand.func 99), args := #[Operand.tmp 80], argTypes := #[56] }, type := 4, pos := "faults.go:31", after := #[{ on := 71, ground := Ground.data }, { on := 70, ground := Ground.chain }, { on := 70, ground := Ground.guard }], guard := some (70, false) }) (v := undef) rfl (by kernel_rfl) (by kernel_rfl) (by kernel_rfl) (fun _ _ _ h => h) (Or.inr ⟨by rfl, by rfl⟩) hHeld ?_
    simp only [Act.put, List.setIfInBounds_toArray, List.set_cons_zero, List.set_cons_succ]
    refine wpAnyH_take (i := 73) (oi := { dst := some 82, op := Op.unOp UnOp.not 4 (Operand.tmp 81), type := 4, pos := "faults.go:22", after := #[{ on := 72, ground := Ground.data }, { on := 70, ground := Ground.guard }], guard := some (70, false) }) (v := undef) rfl (by kernel_rfl) (by kernel_rfl) (by kernel_rfl) (fun _ _ _ h => h) (Or.inr ⟨by rfl, by rfl⟩) hHeld ?_
    simp only [Act.put, List.setIfInBounds_toArray, List.set_cons_zero, List.set_cons_succ]
    refine wpAnyH_take (i := 74) (oi := { dst := some 83, op := Op.pick (Operand.tmp 79) (Operand.const (Value.bool true)) (Operand.tmp 82), type := 4, pos := "faults.go:22", after := #[{ on := 70, ground := Ground.data }, { on := 73, ground := Ground.data }], guard := none }) (v := .bool true) rfl (by kernel_rfl) (by kernel_rfl) (by kernel_rfl) (fun _ _ _ h => h) (Or.inl ⟨by rfl, by intro w0 hSw; go_simp⟩) hHeld ?_
    simp only [Act.put, List.setIfInBounds_toArray, List.set_cons_zero, List.set_cons_succ]
    refine wpAnyH_take (i := 75) (oi := { dst := some 84, op := Op.build 128 #[(0, Operand.tmp 83), (1, Operand.const (Value.int IntKind.i64 2))], type := 128, pos := "faults.go:22", after := #[{ on := 74, ground := Ground.data }], guard := none }) (v := .agg #[.bool (true), .int .i64 2]) rfl (by kernel_rfl) (by kernel_rfl) (by kernel_rfl) (fun _ _ _ h => h) (Or.inl ⟨by rfl, by intro w0 hSw; go_simp⟩) hHeld ?_
    simp only [Act.put, List.setIfInBounds_toArray, List.set_cons_zero, List.set_cons_succ]
    refine wpAnyH_ready (rs := [76]) (by kernel_rfl) (by simp) ?_
    refine AllReadyH.cons (o := { dst := some 85, op := Op.buildSlice 89 9 #[(0, Operand.tmp 13), (1, Operand.tmp 15), (2, Operand.tmp 20), (3, Operand.tmp 35), (4, Operand.tmp 41), (5, Operand.tmp 46), (6, Operand.tmp 58), (7, Operand.tmp 74), (8, Operand.tmp 84)], type := 89, pos := "faults.go:22", after := #[{ on := 4, ground := Ground.data }, { on := 6, ground := Ground.data }, { on := 11, ground := Ground.data }, { on := 26, ground := Ground.data }, { on := 32, ground := Ground.data }, { on := 37, ground := Ground.data }, { on := 49, ground := Ground.data }, { on := 65, ground := Ground.data }, { on := 75, ground := Ground.data }], guard := none }) rfl (fun K hK => ?_) AllReadyH.nil
    go_simp
    refine hK.out _ _ ⟨((below_alloc W1.drew _).cell (p := ⟨w.heap.size, 0, none⟩) hlt).trans f0, ((below_alloc W1.drew _).cell (p := ⟨w.heap.size, 1, none⟩) hlt).trans f1, ((below_alloc W1.drew _).cell (p := ⟨w.heap.size, 2, none⟩) hlt).trans f2, ((below_alloc W1.drew _).cell (p := ⟨w.heap.size, 3, none⟩) hlt).trans f3, ((below_alloc W1.drew _).cell (p := ⟨w.heap.size, 4, none⟩) hlt).trans f4, ((below_alloc W1.drew _).cell (p := ⟨w.heap.size, 5, none⟩) hlt).trans f5, ((below_alloc W1.drew _).cell (p := ⟨w.heap.size, 6, none⟩) hlt).trans f6, ((below_alloc W1.drew _).cell (p := ⟨w.heap.size, 7, none⟩) hlt).trans f7, ((below_alloc W1.drew _).cell (p := ⟨w.heap.size, 8, none⟩) hlt).trans f8, ((below_alloc W1.drew _).cell (p := ⟨w.heap.size, 9, none⟩) hlt).trans f9, ((below_alloc W1.drew _).cell (p := ⟨w.heap.size, 10, none⟩) hlt).trans f10, ((below_alloc W1.drew _).cell (p := ⟨w.heap.size, 11, none⟩) hlt).trans f11, ((below_alloc W1.drew _).cell (p := ⟨w.heap.size, 12, none⟩) hlt).trans f12, ((below_alloc W1.drew _).cell (p := ⟨w.heap.size, 13, none⟩) hlt).trans f13⟩ (fun hHeld9 => ?_)
    clear hK K
    refine wpAnyH_ready (rs := [77]) (by kernel_rfl) (by simp) ?_
    refine AllReadyH.cons (o := _) rfl (fun K hK => ?_) AllReadyH.nil
    go_simp
    refine hK.out _ _ hHeld9 (fun _ => ?_)
    clear hK K
    refine wpAnyH_done (by kernel_rfl) ?_ _
    refine NoPanic.normal ?_
    repeat (first | go_step | go_upon)
    go_ret
    exact HP.out W1.drew _ BWd.out rfl
  · skip
    refine wpAnyH_take (i := 71) (oi := { dst := some 80, op := Op.load 56 (Operand.tmp 4), type := 56, pos := "faults.go:22", after := #[{ on := 70, ground := Ground.guard }], guard := some (70, false) }) (v := .agg #[.string nm, .int .i64 cnt, .int .i64 fr, .int .i64 dt, .slice oc cap.length cc, .int .i64 sk, .int .i64 prof, .int .i64 opn, .int .i64 cls, .int .i64 drv, .int .i64 rst, .int .i64 fix, .int .i64 pm, .int .i64 pt]) rfl (by kernel_rfl) (by kernel_rfl) (by kernel_rfl) (fun _ _ _ h => h) (Or.inl ⟨by rfl, by intro w0 hSw; go_simp⟩) hHeld ?_
    simp only [Act.put, List.setIfInBounds_toArray, List.set_cons_zero, List.set_cons_succ]
    refine wpAnyH_ready (rs := [72]) (by kernel_rfl) (by simp) ?_
    refine AllReadyH.cons (o := { dst := some 81, op := Op.call { callee := Callee.value (Operand.func 99), args := #[Operand.tmp 80], argTypes := #[56] }, type := 4, pos := "faults.go:31", after := #[{ on := 71, ground := Ground.data }, { on := 70, ground := Ground.chain }, { on := 70, ground := Ground.guard }], guard := some (70, false) }) rfl (fun K hK => ?_) AllReadyH.nil
    go_simp
    go_at_call 99
    refine (KA.out _).mono ?_
    rintro e1 w2 ⟨rfl, b2⟩
    go_wp2_with fail
    have B2 := Lib.hid (over BWd.out b2)
    have g0 := (b2.cell (p := ⟨w.heap.size, 0, none⟩) hlt).trans f0
    have g1 := (b2.cell (p := ⟨w.heap.size, 1, none⟩) hlt).trans f1
    have g2 := (b2.cell (p := ⟨w.heap.size, 2, none⟩) hlt).trans f2
    have g3 := (b2.cell (p := ⟨w.heap.size, 3, none⟩) hlt).trans f3
    have g4 := (b2.cell (p := ⟨w.heap.size, 4, none⟩) hlt).trans f4
    have g5 := (b2.cell (p := ⟨w.heap.size, 5, none⟩) hlt).trans f5
    have g6 := (b2.cell (p := ⟨w.heap.size, 6, none⟩) hlt).trans f6
    have g7 := (b2.cell (p := ⟨w.heap.size, 7, none⟩) hlt).trans f7
    have g8 := (b2.cell (p := ⟨w.heap.size, 8, none⟩) hlt).trans f8
    have g9 := (b2.cell (p := ⟨w.heap.size, 9, none⟩) hlt).trans f9
    have g10 := (b2.cell (p := ⟨w.heap.size, 10, none⟩) hlt).trans f10
    have g11 := (b2.cell (p := ⟨w.heap.size, 11, none⟩) hlt).trans f11
    have g12 := (b2.cell (p := ⟨w.heap.size, 12, none⟩) hlt).trans f12
    have g13 := (b2.cell (p := ⟨w.heap.size, 13, none⟩) hlt).trans f13
    have hlt := Nat.lt_of_lt_of_le hlt b2.size
    refine hK.out _ _ ⟨g0, g1, g2, g3, g4, g5, g6, g7, g8, g9, g10, g11, g12, g13⟩ (fun hHeld => ?_)
    clear hK K
    refine wpAnyH_take (i := 73) (oi := { dst := some 82, op := Op.unOp UnOp.not 4 (Operand.tmp 81), type := 4, pos := "faults.go:22", after := #[{ on := 72, ground := Ground.data }, { on := 70, ground := Ground.guard }], guard := some (70, false) }) (v := .bool (!b8')) rfl (by kernel_rfl) (by kernel_rfl) (by kernel_rfl) (fun _ _ _ h => h) (Or.inl ⟨by rfl, by intro w0 hSw; go_simp⟩) hHeld ?_
    simp only [Act.put, List.setIfInBounds_toArray, List.set_cons_zero, List.set_cons_succ]
    refine wpAnyH_take (i := 74) (oi := { dst := some 83, op := Op.pick (Operand.tmp 79) (Operand.const (Value.bool true)) (Operand.tmp 82), type := 4, pos := "faults.go:22", after := #[{ on := 70, ground := Ground.data }, { on := 73, ground := Ground.data }], guard := none }) (v := .bool (!b8')) rfl (by kernel_rfl) (by kernel_rfl) (by kernel_rfl) (fun _ _ _ h => h) (Or.inl ⟨by rfl, by intro w0 hSw; go_simp⟩) hHeld ?_
    simp only [Act.put, List.setIfInBounds_toArray, List.set_cons_zero, List.set_cons_succ]
    refine wpAnyH_take (i := 75) (oi := { dst := some 84, op := Op.build 128 #[(0, Operand.tmp 83), (1, Operand.const (Value.int IntKind.i64 2))], type := 128, pos := "faults.go:22", after := #[{ on := 74, ground := Ground.data }], guard := none }) (v := .agg #[.bool (!b8'), .int .i64 2]) rfl (by kernel_rfl) (by kernel_rfl) (by kernel_rfl) (fun _ _ _ h => h) (Or.inl ⟨by rfl, by intro w0 hSw; go_simp⟩) hHeld ?_
    simp only [Act.put, List.setIfInBounds_toArray, List.set_cons_zero, List.set_cons_succ]
    refine wpAnyH_ready (rs := [76]) (by kernel_rfl) (by simp) ?_
    refine AllReadyH.cons (o := { dst := some 85, op := Op.buildSlice 89 9 #[(0, Operand.tmp 13), (1, Operand.tmp 15), (2, Operand.tmp 20), (3, Operand.tmp 35), (4, Operand.tmp 41), (5, Operand.tmp 46), (6, Operand.tmp 58), (7, Operand.tmp 74), (8, Operand.tmp 84)], type := 89, pos := "faults.go:22", after := #[{ on := 4, ground := Ground.data }, { on := 6, ground := Ground.data }, { on := 11, ground := Ground.data }, { on := 26, ground := Ground.data }, { on := 32, ground := Ground.data }, { on := 37, ground := Ground.data }, { on := 49, ground := Ground.data }, { on := 65, ground := Ground.data }, { on := 75, ground := Ground.data }], guard := none }) rfl (fun K hK => ?_) AllReadyH.nil
    go_simp
    refine hK.out _ _ ⟨((below_alloc w2 _).cell (p := ⟨w.heap.size, 0, none⟩) hlt).trans g0, ((below_alloc w2 _).cell (p := ⟨w.heap.size, 1, none⟩) hlt).trans g1, ((below_alloc w2 _).cell (p := ⟨w.heap.size, 2, none⟩) hlt).trans g2, ((below_alloc w2 _).cell (p := ⟨w.heap.size, 3, none⟩) hlt).trans g3, ((below_alloc w2 _).cell (p := ⟨w.heap.size, 4, none⟩) hlt).trans g4, ((below_alloc w2 _).cell (p := ⟨w.heap.size, 5, none⟩) hlt).trans g5, ((below_alloc w2 _).cell (p := ⟨w.heap.size, 6, none⟩) hlt).trans g6, ((below_alloc w2 _).cell (p := ⟨w.heap.size, 7, none⟩) hlt).trans g7, ((below_alloc w2 _).cell (p := ⟨w.heap.size, 8, none⟩) hlt).trans g8, ((below_alloc w2 _).cell (p := ⟨w.heap.size, 9, none⟩) hlt).trans g9, ((below_alloc w2 _).cell (p := ⟨w.heap.size, 10, none⟩) hlt).trans g10, ((below_alloc w2 _).cell (p := ⟨w.heap.size, 11, none⟩) hlt).trans g11, ((below_alloc w2 _).cell (p := ⟨w.heap.size, 12, none⟩) hlt).trans g12, ((below_alloc w2 _).cell (p := ⟨w.heap.size, 13, none⟩) hlt).trans g13⟩ (fun hHeld9 => ?_)
    clear hK K
    refine wpAnyH_ready (rs := [77]) (by kernel_rfl) (by simp) ?_
    refine AllReadyH.cons (o := _) rfl (fun K hK => ?_) AllReadyH.nil
    go_simp
    refine hK.out _ _ hHeld9 (fun _ => ?_)
    clear hK K
    refine wpAnyH_done (by kernel_rfl) ?_ _
    refine NoPanic.normal ?_
    repeat (first | go_step | go_upon)
    go_ret
    exact HP.out w2 _ B2.out rfl

end Go.Proofs.YtaallpebfcadjaaGreatDoor.T


