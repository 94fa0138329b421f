/-
  DERIVED. KIE: a part of the base of layer 13 (made by pack.py).
-/
import Derived.Test.YtaallpebfcadjaaGreatDoorKID
/-! The walks of instance.copies over arcs, types and orders (written by gen_incp3.py). -/
namespace Go.Proofs.YtaallpebfcadjaaGreatDoor.T
open Go.RowKit
set_option maxRecDepth 8000

/-! ### lorry/instance.copies[lorry/api.Type] -/
/-- the cells of an element with its lists -/
def ccT (x : (TyT × Value)) : List Value := [.string x.1.name, .int .i64 x.1.count, .int .i64 x.1.fr, .int .i64 x.1.to, x.2, .int .i64 x.1.skills, .int .i64 x.1.prof, .int .i64 x.1.opn, .int .i64 x.1.cls, .int .i64 x.1.drv, .int .i64 x.1.rst, .int .i64 x.1.fix, .int .i64 x.1.pm, .int .i64 x.1.pt]
theorem ccT_len (x : (TyT × Value)) : (ccT x).length = 14 := rfl
def zzT : (TyT × Value) := (ty0, .bool false)
theorem infoT9 : (Tryz.prog.info? 56).map (fun i => (i.zero, i.size, i.bytes)) = some (some (.agg #[.string ⟨#[]⟩, .int .i64 0, .int .i64 0, .int .i64 0, .slice none 0 0, .int .i64 0, .int .i64 0, .int .i64 0, .int .i64 0, .int .i64 0, .int .i64 0, .int .i64 0, .int .i64 0, .int .i64 0]), 14, 136) := by kernel_rfl
theorem infoT8 : ∃ i, Tryz.prog.info? 56 = some i ∧ i.zero = some (.agg #[.string ⟨#[]⟩, .int .i64 0, .int .i64 0, .int .i64 0, .slice none 0 0, .int .i64 0, .int .i64 0, .int .i64 0, .int .i64 0, .int .i64 0, .int .i64 0, .int .i64 0, .int .i64 0, .int .i64 0]) ∧ i.size = 14 ∧ i.bytes = 136 := by
  have h := infoT9
  obtain ⟨i, hi, hzz⟩ := Option.map_eq_some_iff.1 h
  simp only [Prod.mk.injEq] at hzz
  exact ⟨i, hi, hzz.1, hzz.2.1, hzz.2.2⟩
/-- the call's own slice of elements -/
def GrT (B : Nat) (w : World) (v : Value) (xs : List (TyT × Value)) : Prop := w.ownsRow B 56 14 v xs.length (flk ccT xs)
/-- their lists hold what they should -/
def ErT (w : World) (xs : List (TyT × Value)) : Prop := ∀ x ∈ xs, L.Li w x.2 x.1.cap
/-- their lists lie beside a row -/
def BrT (xs : List (TyT × Value)) (g : Nat) : Prop := ∀ x ∈ xs, x.2.ownBlock ≠ some g
theorem ErT.below {w w' : World} {xs : List (TyT × Value)} (h : ErT w xs) (hb : Below w.heap.size w w') : ErT w' xs := fun x hx => ((h x hx)).below hb
theorem ErT.kept {w w' : World} {xs : List (TyT × Value)} {g : Nat} (h : ErT w xs) (hg : w.grownBy w' (some g)) (hb : BrT xs g) : ErT w' xs := fun x hx => li_kept (h x hx) hg (hb x hx)
theorem ErT.more {w : World} {xs : List (TyT × Value)} {x : (TyT × Value)} (h : ErT w xs) (hx : L.Li w x.2 x.1.cap) : ErT w (xs ++ [x]) := fun y hy => by
  rcases List.mem_append.1 hy with hy | hy
  · exact h y hy
  · rw [List.mem_singleton] at hy; subst hy; exact hx
theorem BrT.more {xs : List (TyT × Value)} {x : (TyT × Value)} {g : Nat} (h : BrT xs g) (hx : x.2.ownBlock ≠ some g) : BrT (xs ++ [x]) g := fun y hy => by
  rcases List.mem_append.1 hy with hy | hy
  · exact h y hy
  · rw [List.mem_singleton] at hy; subst hy; exact hx
/-- their lists were made since block B -/
def FxT (B : Nat) (xs : List (TyT × Value)) : Prop := ∀ x ∈ xs, Fr B x.2
theorem FxT.br {B g : Nat} {xs : List (TyT × Value)} (h : FxT B xs) (hg : g < B) : BrT xs g := fun x hx => ((h x hx)).ne hg
theorem FxT.more {B : Nat} {xs : List (TyT × Value)} {x : (TyT × Value)} (h : FxT B xs) (hx : Fr B x.2) : FxT B (xs ++ [x]) := fun y hy => by
  rcases List.mem_append.1 hy with hy | hy
  · exact h y hy
  · rw [List.mem_singleton] at hy; subst hy; exact hx
theorem FxT.mono {B C : Nat} {xs : List (TyT × Value)} (h : FxT B xs) (hc : C ≤ B) : FxT C xs := fun x hx => (fun b hb => Nat.le_trans hc ((h x hx) b hb))
theorem GrT.sl {B : Nat} {w : World} {v : Value} {xs : List (TyT × Value)} (h : GrT B w v xs) (he : ErT w xs) : Ts w v (xs.map (·.1)) := by
  have hget : ∀ i, i < xs.length → (xs.map (·.1)).getD i ty0 = (xs.getD i zzT).1 := fun i hi => by
    rw [List.getD_eq_getElem?_getD, List.getD_eq_getElem?_getD, List.getElem?_map, List.getElem?_eq_getElem hi]; rfl
  have hmem : ∀ i, i < xs.length → xs.getD i zzT ∈ xs := fun i hi => getD_mem hi
  rcases h.2 with ⟨hv, h0⟩ | ⟨g, cap, cur, rfl, hbg, hgg, hnc, rest⟩
  · have hx : xs = [] := List.eq_nil_of_length_eq_zero h0
    subst hx
    exact ⟨none, 0, hv, fun i hi => by cases hi⟩
  · refine ⟨some ⟨g, 0, none⟩, cap, by rw [List.length_map], fun i hi => ?_⟩
    rw [List.length_map] at hi
    have hc := fun j (hj : j < 14) => (World.ownsRow.cellAt (g := g) (cap := cap) (n := xs.length) (xs := flk ccT xs) (w := w) (base := B) (e := 56) (size := 14) ⟨h.1, .inr ⟨g, cap, cur, rfl, hbg, hgg, hnc, rest⟩⟩ (i * 14 + j) (by omega)).trans (flk_at ccT_len zzT xs i j hi hj)
    rw [hget i hi]
    have hp := he _ (hmem i hi)
    refine ⟨g, 0, (xs.getD i zzT).2, rfl, (Array.getElem?_eq_some_iff.1 hgg).1, ?_, hp⟩
    rw [Nat.zero_add]
    exact ⟨hc 0 (by omega), hc 1 (by omega), hc 2 (by omega), hc 3 (by omega), hc 4 (by omega), hc 5 (by omega), hc 6 (by omega), hc 7 (by omega), hc 8 (by omega), hc 9 (by omega), hc 10 (by omega), hc 11 (by omega), hc 12 (by omega), hc 13 (by omega)⟩

/-- a list of elements, all of it made since block B -/
def FmT (B : Nat) (w : World) (v : Value) (l : List TyT) : Prop := ∃ xs : List (TyT × Value), xs.map (·.1) = l ∧ GrT B w v xs ∧ ErT w xs ∧ FxT B xs ∧ ∀ g, v.ownBlock = some g → BrT xs g
theorem FmT.sl {B : Nat} {w : World} {v : Value} {l : List TyT} (h : FmT B w v l) : Ts w v l := by
  obtain ⟨xs, rfl, hg, he, -, -⟩ := h
  exact hg.sl he
theorem FmT.below {B : Nat} {w w' : World} {v : Value} {l : List TyT} (h : FmT B w v l) (hb : Below w.heap.size w w') : FmT B w' v l := by
  obtain ⟨xs, hx, hg, he, hf, hr⟩ := h
  exact ⟨xs, hx, own_below hg hb, he.below hb, hf, hr⟩
theorem FmT.kept {B g : Nat} {w w' : World} {v : Value} {l : List TyT} (h : FmT B w v l) (hg : w.grownBy w' (some g)) (hB : g < B) : FmT B w' v l := by
  obtain ⟨xs, hx, hgr, he, hf, hr⟩ := h
  exact ⟨xs, hx, World.ownsRow.kept hgr hg (.inr (fun e => by have := (World.ownsRow.lt hgr g e).1; omega)), he.kept hg (hf.br hB), hf, hr⟩
theorem FmT.mono {B C : Nat} {w : World} {v : Value} {l : List TyT} (h : FmT B w v l) (hc : C ≤ B) : FmT C w v l := by
  obtain ⟨xs, hx, hgr, he, hf, hr⟩ := h
  exact ⟨xs, hx, World.ownsRow.mono hgr hc, he, hf.mono hc, hr⟩

set_option maxHeartbeats 12800000 in
theorem copiesTypes_n (gf : FuncId) (eg : ∀ args w, (callFunc gf args).run Tryz.prog w = .ok (.enter gf args) w) (v : Value) (l : List TyT) (hl : l.length ≤ 100000)
    (hp : ∀ i, i < l.length → ∀ (o0 : Option Addr) (c0 : Nat) (w : World), L.Li w (.slice o0 (l.getD i ty0).cap.length c0) (l.getD i ty0).cap → Calls Tryz.prog gf #[tyV (l.getD i ty0) (.slice o0 (l.getD i ty0).cap.length c0)] w (copyOfTypeP (l.getD i ty0) w)) (w : World) (hv : Ts w v l) :
    Calls Tryz.prog 54 #[v, .func (.func gf) #[] #[]] w fun e w' => ∃ (oa : Option Addr) (c : Nat), e = .returned (.slice oa l.length c) ∧ FmT w.heap.size w' (.slice oa l.length c) l ∧ Below w.heap.size w w' := by
  have HV := Lib.hid hv
  obtain ⟨ob, cb, rfl, -⟩ := hv
  have KP := Lib.hid hp
  obtain ⟨i0, hi, hz0, hz1, hz2⟩ := infoT8
  have HTk := Lib.hid (fun k (hk : k < l.length) (xs : List (TyT × Value)) (y : Value) h => map_snoc1 (xs := xs) (l := l) (d := ty0) (y := y) h hk)
  have HLen := Lib.hid (fun k (hk : k ≤ l.length) (xs : List (TyT × Value)) h => len_of (xs := xs) (l := l) h hk)
  have HAll : Hid (l.take l.length = l) := List.take_length
  generalize hn : l.length = n at *
  have HN := Lib.hid hn
  clear hp hn
  go_enter Tryz.func54, Tryz.ntmps54
  go_wp2_with (at_make; refine wpList_make_full _ rfl _ _ 26 rfl w.heap.size 56 i0 _ 14 Tryz.underlying26 hi hz0 hz1 _ _ _ _ n rfl rfl ?e0 ?e1 ?e3 ?e4 (Nat.le_refl _) ?_)
  case e0 => rfl
  case e1 => rfl
  case e3 => first | omega | (rw [hz2]; omega)
  case e4 => unfold maxLen; omega
  intro w1 hown hgrow
  have HB1 : Hid (Below w.heap.size w w1) := (Below.refl _ w).grown hgrow (Nat.le_refl _) (fun k h => by cases h)
  have HG1 := Lib.hid hown
  have hgl := (World.ownsRow.lt hown w.heap.size rfl).2
  clear hown hgrow
  go_wp2
  go_loopg [13] n (fun gg j wr => ∃ (k : Nat) (cs : List Value) (xs : List (TyT × Value)), k ≤ n ∧ j = .int .i64 k ∧ n - k ≤ gg ∧ Hid (wr.ownsRow w.heap.size 56 14 (.slice (some ⟨w.heap.size, 0, none⟩) n n) n cs) ∧ Hid (cs.take (k * 14) = flk ccT xs) ∧ Hid (xs.map (·.1) = l.take k) ∧ Hid (ErT wr xs) ∧ Hid (FxT (w.heap.size + 1) xs) ∧ Hid (Below w.heap.size w wr))
  case atStart => exact ⟨0, _, [], Nat.zero_le _, rfl, Nat.le_refl _, HG1, (by show _ = _; rw [Nat.zero_mul, List.take_zero]; rfl), rfl, (fun x hx => by cases hx), (fun x hx => by cases hx), HB1⟩
  case round =>
    clear HG1 HB1
    obtain ⟨k, cs, xs, hk, rfl, hg, HG, HC, HX, HE, HBr, HB⟩ := hrel
    by_cases hlt : k < n
    · have hkI : (k : Int) < (n : Int) := by omega
      obtain ⟨ob', c', hob, hos⟩ := HV.out.below HB.out
      rw [HN.out] at hob
      simp only [Value.slice.injEq] at hob
      obtain ⟨rfl, -, rfl⟩ := hob
      obtain ⟨b1, q1, vc, rfl, hb1, hac, hvc⟩ := hos k (by rw [HN.out]; exact hlt)
      have HPk := Lib.hid (fun o0 c0 => KP.out k hlt o0 c0)
      have HTk2 := Lib.hid (fun xs y h => HTk.out k hlt xs y h)
      obtain ⟨o0, c0, rfl, -⟩ := id hvc
      obtain ⟨x0, x1, x2, x3, x4, x5, x6, x7, x8, x9, x10, x11, x12, x13⟩ := hac
      clear hos
      generalize l.getD k ty0 = s at *
      unfold copyOfTypeP tyV at HPk
      have hal := below_alloc wr (.cells #[.string s.name, .int .i64 s.count, .int .i64 s.fr, .int .i64 s.to, .slice o0 s.cap.length c0, .int .i64 s.skills, .int .i64 s.prof, .int .i64 s.opn, .int .i64 s.cls, .int .i64 s.drv, .int .i64 s.rst, .int .i64 s.fix, .int .i64 s.pm, .int .i64 s.pt] 56)
      have M1 := Cb.made wr #[.string s.name, .int .i64 s.count, .int .i64 s.fr, .int .i64 s.to, .slice o0 s.cap.length c0, .int .i64 s.skills, .int .i64 s.prof, .int .i64 s.opn, .int .i64 s.cls, .int .i64 s.drv, .int .i64 s.rst, .int .i64 s.fix, .int .i64 s.pm, .int .i64 s.pt] 56
      have J0 := Lib.hid (hvc.below hal)
      have HG := Lib.hid (own_below HG.out hal)
      have HE := Lib.hid (HE.out.below hal)
      have HB := Lib.hid (over HB.out hal)
      obtain ⟨W1, hW1⟩ : ∃ W1, wr.alloc (.cells #[.string s.name, .int .i64 s.count, .int .i64 s.fr, .int .i64 s.to, .slice o0 s.cap.length c0, .int .i64 s.skills, .int .i64 s.prof, .int .i64 s.opn, .int .i64 s.cls, .int .i64 s.drv, .int .i64 s.rst, .int .i64 s.fix, .int .i64 s.pm, .int .i64 s.pt] 56) = W1 := ⟨_, rfl⟩
      rw [hW1] at M1 HG HE HB J0
      have hw1 := (World.ownsRow.lt HG.out w.heap.size rfl).2
      have HW1 := Lib.hid hW1
      have HM1 := Lib.hid M1
      clear hal M1 hW1 hvc
      go_upto_region 5 with fail
      rw [HW1.out]
      clear x0 x1 x2 x3 x4 x5 x6 x7 x8 x9 x10 x11 x12 x13 HW1
      generalize wr.heap.size = q1 at *
      have m0 : W1.cell? ⟨q1, 0, none⟩ = some (.string s.name) := HM1.out.cell 0 rfl
      have m1 : W1.cell? ⟨q1, 1, none⟩ = some (.int .i64 s.count) := HM1.out.cell 1 rfl
      have m2 : W1.cell? ⟨q1, 2, none⟩ = some (.int .i64 s.fr) := HM1.out.cell 2 rfl
      have m3 : W1.cell? ⟨q1, 3, none⟩ = some (.int .i64 s.to) := HM1.out.cell 3 rfl
      have m4 : W1.cell? ⟨q1, 4, none⟩ = some (.slice o0 s.cap.length c0) := HM1.out.cell 4 rfl
      have m5 : W1.cell? ⟨q1, 5, none⟩ = some (.int .i64 s.skills) := HM1.out.cell 5 rfl
      have m6 : W1.cell? ⟨q1, 6, none⟩ = some (.int .i64 s.prof) := HM1.out.cell 6 rfl
      have m7 : W1.cell? ⟨q1, 7, none⟩ = some (.int .i64 s.opn) := HM1.out.cell 7 rfl
      have m8 : W1.cell? ⟨q1, 8, none⟩ = some (.int .i64 s.cls) := HM1.out.cell 8 rfl
      have m9 : W1.cell? ⟨q1, 9, none⟩ = some (.int .i64 s.drv) := HM1.out.cell 9 rfl
      have m10 : W1.cell? ⟨q1, 10, none⟩ = some (.int .i64 s.rst) := HM1.out.cell 10 rfl
      have m11 : W1.cell? ⟨q1, 11, none⟩ = some (.int .i64 s.fix) := HM1.out.cell 11 rfl
      have m12 : W1.cell? ⟨q1, 12, none⟩ = some (.int .i64 s.pm) := HM1.out.cell 12 rfl
      have m13 : W1.cell? ⟨q1, 13, none⟩ = some (.int .i64 s.pt) := HM1.out.cell 13 rfl
      go_wp2_with fail
      refine (HPk.out _ _ _ J0.out).mono ?_
      clear m0 m1 m2 m3 m4 m5 m6 m7 m8 m9 m10 m11 m12 m13
      rintro e w5 ⟨p0, d0, rfl, hp0, hf0, hb⟩
      have HG := Lib.hid (own_below HG.out hb)
      have HE := Lib.hid (HE.out.below hb)
      have hsz := HB.out.size
      have HB := Lib.hid (over HB.out hb)
      have r0 := row_cell HG.out (idx_lt (c := 0) hlt (by omega : 0 < 14))
      have f0 := World.ownsRow.frozenAt HG.out (k * 14 + 0)
      have r1 := row_cell HG.out (idx_lt (c := 1) hlt (by omega : 1 < 14))
      have f1 := World.ownsRow.frozenAt HG.out (k * 14 + 1)
      have r2 := row_cell HG.out (idx_lt (c := 2) hlt (by omega : 2 < 14))
      have f2 := World.ownsRow.frozenAt HG.out (k * 14 + 2)
      have r3 := row_cell HG.out (idx_lt (c := 3) hlt (by omega : 3 < 14))
      have f3 := World.ownsRow.frozenAt HG.out (k * 14 + 3)
      have r4 := row_cell HG.out (idx_lt (c := 4) hlt (by omega : 4 < 14))
      have f4 := World.ownsRow.frozenAt HG.out (k * 14 + 4)
      have r5 := row_cell HG.out (idx_lt (c := 5) hlt (by omega : 5 < 14))
      have f5 := World.ownsRow.frozenAt HG.out (k * 14 + 5)
      have r6 := row_cell HG.out (idx_lt (c := 6) hlt (by omega : 6 < 14))
      have f6 := World.ownsRow.frozenAt HG.out (k * 14 + 6)
      have r7 := row_cell HG.out (idx_lt (c := 7) hlt (by omega : 7 < 14))
      have f7 := World.ownsRow.frozenAt HG.out (k * 14 + 7)
      have r8 := row_cell HG.out (idx_lt (c := 8) hlt (by omega : 8 < 14))
      have f8 := World.ownsRow.frozenAt HG.out (k * 14 + 8)
      have r9 := row_cell HG.out (idx_lt (c := 9) hlt (by omega : 9 < 14))
      have f9 := World.ownsRow.frozenAt HG.out (k * 14 + 9)
      have r10 := row_cell HG.out (idx_lt (c := 10) hlt (by omega : 10 < 14))
      have f10 := World.ownsRow.frozenAt HG.out (k * 14 + 10)
      have r11 := row_cell HG.out (idx_lt (c := 11) hlt (by omega : 11 < 14))
      have f11 := World.ownsRow.frozenAt HG.out (k * 14 + 11)
      have r12 := row_cell HG.out (idx_lt (c := 12) hlt (by omega : 12 < 14))
      have f12 := World.ownsRow.frozenAt HG.out (k * 14 + 12)
      have r13 := row_cell HG.out (idx_lt (c := 13) hlt (by omega : 13 < 14))
      have f13 := World.ownsRow.frozenAt HG.out (k * 14 + 13)
      try rw [Nat.add_zero] at r0 f0
      obtain ⟨hst, hgr⟩ := storedN [.string s.name, .int .i64 s.count, .int .i64 s.fr, .int .i64 s.to, .slice p0 s.cap.length d0, .int .i64 s.skills, .int .i64 s.prof, .int .i64 s.opn, .int .i64 s.cls, .int .i64 s.drv, .int .i64 s.rst, .int .i64 s.fix, .int .i64 s.pm, .int .i64 s.pt] w5 (k * 14) cs HG.out
      have HE := Lib.hid (HE.out.kept hgr (HBr.out.br (Nat.lt_succ_self _)))
      have HP0 := Lib.hid (li_kept hp0 hgr (hf0.ne hw1))
      have HF0 : Hid (Fr (w.heap.size + 1) (Value.slice p0 s.cap.length d0)) := fun b hb => Nat.le_trans hw1 (hf0 b hb)
      have HB := Lib.hid (HB.out.grown hgr HB.out.size (fun x e => by simp only [Option.some.injEq] at e; omega))
      have hcl := HG.out.1
      have htk := setN_take [.string s.name, .int .i64 s.count, .int .i64 s.fr, .int .i64 s.to, .slice p0 s.cap.length d0, .int .i64 s.skills, .int .i64 s.prof, .int .i64 s.opn, .int .i64 s.cls, .int .i64 s.drv, .int .i64 s.rst, .int .i64 s.fix, .int .i64 s.pm, .int .i64 s.pt] cs (k * 14) (by rw [hcl]; exact idx_lt (c := 13) hlt (by omega))
      have HG := Lib.hid hst
      have HC : Hid ((setN cs (k * 14) [.string s.name, .int .i64 s.count, .int .i64 s.fr, .int .i64 s.to, .slice p0 s.cap.length d0, .int .i64 s.skills, .int .i64 s.prof, .int .i64 s.opn, .int .i64 s.cls, .int .i64 s.drv, .int .i64 s.rst, .int .i64 s.fix, .int .i64 s.pm, .int .i64 s.pt]).take ((k + 1) * 14) = flk ccT (xs ++ [(s, .slice p0 s.cap.length d0)])) := by
        show _ = _
        rw [Nat.succ_mul, flk_snoc]
        exact htk.trans (by rw [HC.out]; rfl)
      have HX := Lib.hid (HTk2.out xs (.slice p0 s.cap.length d0) HX.out)
      have HE := Lib.hid (HE.out.more (x := (s, .slice p0 s.cap.length d0)) HP0.out)
      have HBr := Lib.hid (HBr.out.more (x := (s, .slice p0 s.cap.length d0)) HF0.out)
      clear hst hgr htk hcl hp0 hf0 hb HPk KP HTk2
      go_wp2_with fail
      clear r0 f0 r1 f1 r2 f2 r3 f3 r4 f4 r5 f5 r6 f6 r7 f7 r8 f8 r9 f9 r10 f10 r11 f11 r12 f12 r13 f13
      go_roundg (n - (k + 1))
      case measure => omega
      case rel => exact ⟨k + 1, _, _, by omega, by go_num, by omega, HG, HC, HX, HE, HBr, HB⟩
    · have hkk : k = n := by omega
      have hkI : ¬ (k : Int) < (n : Int) := by omega
      subst hkk
      have hcs : cs = flk ccT xs := by rw [← HC.out, List.take_of_length_le (by rw [HG.out.1]; exact Nat.le_refl _)]
      have hxl := HLen.out k (Nat.le_refl _) xs HX.out
      have hxm : Hid (xs.map (·.1) = l) := by show _ = _; rw [HX.out, HAll.out]
      have HG9 : Hid (GrT w.heap.size wr (.slice (some ⟨w.heap.size, 0, none⟩) k k) xs) := by
        show World.ownsRow ..
        rw [hxl, ← hcs]
        exact HG.out
      clear hcs hxl HG HC
      go_wp2_with fail
      go_ret
      exact ⟨some ⟨w.heap.size, 0, none⟩, k, rfl, ⟨xs, hxm.out, HG9.out, HE.out, HBr.out.mono (Nat.le_succ _), (fun g h => by simp only [Value.ownBlock, Option.some.injEq] at h; subst h; exact HBr.out.br (Nat.lt_succ_self _))⟩, HB.out⟩

/-! ### lorry/instance.copies[lorry/api.Order] -/
/-- the cells of an element with its lists -/
def ccO (x : (OrT × Value)) : List Value := [.string x.1.name, x.2, .int .i64 x.1.pp, .int .i64 x.1.po, .int .i64 x.1.pc, .int .i64 x.1.ps, .int .i64 x.1.dp, .int .i64 x.1.dd, .int .i64 x.1.dc, .int .i64 x.1.ds, .int .i64 x.1.sk, .int .i64 x.1.pen, .int .i64 x.1.spl, .int .i64 x.1.las, .int .i64 x.1.now, .bool x.1.off]
theorem ccO_len (x : (OrT × Value)) : (ccO x).length = 16 := rfl
def zzO : (OrT × Value) := (or0, .bool false)
theorem infoO9 : (Tryz.prog.info? 44).map (fun i => (i.zero, i.size, i.bytes)) = some (some (.agg #[.string ⟨#[]⟩, .slice none 0 0, .int .i64 0, .int .i64 0, .int .i64 0, .int .i64 0, .int .i64 0, .int .i64 0, .int .i64 0, .int .i64 0, .int .i64 0, .int .i64 0, .int .i64 0, .int .i64 0, .int .i64 0, .bool false]), 16, 152) := by kernel_rfl
theorem infoO8 : ∃ i, Tryz.prog.info? 44 = some i ∧ i.zero = some (.agg #[.string ⟨#[]⟩, .slice none 0 0, .int .i64 0, .int .i64 0, .int .i64 0, .int .i64 0, .int .i64 0, .int .i64 0, .int .i64 0, .int .i64 0, .int .i64 0, .int .i64 0, .int .i64 0, .int .i64 0, .int .i64 0, .bool false]) ∧ i.size = 16 ∧ i.bytes = 152 := by
  have h := infoO9
  obtain ⟨i, hi, hzz⟩ := Option.map_eq_some_iff.1 h
  simp only [Prod.mk.injEq] at hzz
  exact ⟨i, hi, hzz.1, hzz.2.1, hzz.2.2⟩
/-- the call's own slice of elements -/
def GrO (B : Nat) (w : World) (v : Value) (xs : List (OrT × Value)) : Prop := w.ownsRow B 44 16 v xs.length (flk ccO xs)
/-- their lists hold what they should -/
def ErO (w : World) (xs : List (OrT × Value)) : Prop := ∀ x ∈ xs, L.Li w x.2 x.1.load
/-- their lists lie beside a row -/
def BrO (xs : List (OrT × Value)) (g : Nat) : Prop := ∀ x ∈ xs, x.2.ownBlock ≠ some g
theorem ErO.below {w w' : World} {xs : List (OrT × Value)} (h : ErO w xs) (hb : Below w.heap.size w w') : ErO w' xs := fun x hx => ((h x hx)).below hb
theorem ErO.kept {w w' : World} {xs : List (OrT × Value)} {g : Nat} (h : ErO w xs) (hg : w.grownBy w' (some g)) (hb : BrO xs g) : ErO w' xs := fun x hx => li_kept (h x hx) hg (hb x hx)
theorem ErO.more {w : World} {xs : List (OrT × Value)} {x : (OrT × Value)} (h : ErO w xs) (hx : L.Li w x.2 x.1.load) : ErO w (xs ++ [x]) := fun y hy => by
  rcases List.mem_append.1 hy with hy | hy
  · exact h y hy
  · rw [List.mem_singleton] at hy; subst hy; exact hx
theorem BrO.more {xs : List (OrT × Value)} {x : (OrT × Value)} {g : Nat} (h : BrO xs g) (hx : x.2.ownBlock ≠ some g) : BrO (xs ++ [x]) g := fun y hy => by
  rcases List.mem_append.1 hy with hy | hy
  · exact h y hy
  · rw [List.mem_singleton] at hy; subst hy; exact hx
/-- their lists were made since block B -/
def FxO (B : Nat) (xs : List (OrT × Value)) : Prop := ∀ x ∈ xs, Fr B x.2
theorem FxO.br {B g : Nat} {xs : List (OrT × Value)} (h : FxO B xs) (hg : g < B) : BrO xs g := fun x hx => ((h x hx)).ne hg
theorem FxO.more {B : Nat} {xs : List (OrT × Value)} {x : (OrT × Value)} (h : FxO B xs) (hx : Fr B x.2) : FxO B (xs ++ [x]) := fun y hy => by
  rcases List.mem_append.1 hy with hy | hy
  · exact h y hy
  · rw [List.mem_singleton] at hy; subst hy; exact hx
theorem FxO.mono {B C : Nat} {xs : List (OrT × Value)} (h : FxO B xs) (hc : C ≤ B) : FxO C xs := fun x hx => (fun b hb => Nat.le_trans hc ((h x hx) b hb))
theorem GrO.sl {B : Nat} {w : World} {v : Value} {xs : List (OrT × Value)} (h : GrO B w v xs) (he : ErO w xs) : Os w v (xs.map (·.1)) := by
  have hget : ∀ i, i < xs.length → (xs.map (·.1)).getD i or0 = (xs.getD i zzO).1 := fun i hi => by
    rw [List.getD_eq_getElem?_getD, List.getD_eq_getElem?_getD, List.getElem?_map, List.getElem?_eq_getElem hi]; rfl
  have hmem : ∀ i, i < xs.length → xs.getD i zzO ∈ xs := fun i hi => getD_mem hi
  rcases h.2 with ⟨hv, h0⟩ | ⟨g, cap, cur, rfl, hbg, hgg, hnc, rest⟩
  · have hx : xs = [] := List.eq_nil_of_length_eq_zero h0
    subst hx
    exact ⟨none, 0, hv, fun i hi => by cases hi⟩
  · refine ⟨some ⟨g, 0, none⟩, cap, by rw [List.length_map], fun i hi => ?_⟩
    rw [List.length_map] at hi
    have hc := fun j (hj : j < 16) => (World.ownsRow.cellAt (g := g) (cap := cap) (n := xs.length) (xs := flk ccO xs) (w := w) (base := B) (e := 44) (size := 16) ⟨h.1, .inr ⟨g, cap, cur, rfl, hbg, hgg, hnc, rest⟩⟩ (i * 16 + j) (by omega)).trans (flk_at ccO_len zzO xs i j hi hj)
    rw [hget i hi]
    have hp := he _ (hmem i hi)
    refine ⟨g, 0, (xs.getD i zzO).2, rfl, (Array.getElem?_eq_some_iff.1 hgg).1, ?_, hp⟩
    rw [Nat.zero_add]
    exact ⟨hc 0 (by omega), hc 1 (by omega), hc 2 (by omega), hc 3 (by omega), hc 4 (by omega), hc 5 (by omega), hc 6 (by omega), hc 7 (by omega), hc 8 (by omega), hc 9 (by omega), hc 10 (by omega), hc 11 (by omega), hc 12 (by omega), hc 13 (by omega), hc 14 (by omega), hc 15 (by omega)⟩

/-- a list of elements, all of it made since block B -/
def FmO (B : Nat) (w : World) (v : Value) (l : List OrT) : Prop := ∃ xs : List (OrT × Value), xs.map (·.1) = l ∧ GrO B w v xs ∧ ErO w xs ∧ FxO B xs ∧ ∀ g, v.ownBlock = some g → BrO xs g
theorem FmO.sl {B : Nat} {w : World} {v : Value} {l : List OrT} (h : FmO B w v l) : Os w v l := by
  obtain ⟨xs, rfl, hg, he, -, -⟩ := h
  exact hg.sl he
theorem FmO.below {B : Nat} {w w' : World} {v : Value} {l : List OrT} (h : FmO B w v l) (hb : Below w.heap.size w w') : FmO B w' v l := by
  obtain ⟨xs, hx, hg, he, hf, hr⟩ := h
  exact ⟨xs, hx, own_below hg hb, he.below hb, hf, hr⟩
theorem FmO.kept {B g : Nat} {w w' : World} {v : Value} {l : List OrT} (h : FmO B w v l) (hg : w.grownBy w' (some g)) (hB : g < B) : FmO B w' v l := by
  obtain ⟨xs, hx, hgr, he, hf, hr⟩ := h
  exact ⟨xs, hx, World.ownsRow.kept hgr hg (.inr (fun e => by have := (World.ownsRow.lt hgr g e).1; omega)), he.kept hg (hf.br hB), hf, hr⟩
theorem FmO.mono {B C : Nat} {w : World} {v : Value} {l : List OrT} (h : FmO B w v l) (hc : C ≤ B) : FmO C w v l := by
  obtain ⟨xs, hx, hgr, he, hf, hr⟩ := h
  exact ⟨xs, hx, World.ownsRow.mono hgr hc, he, hf.mono hc, hr⟩

end Go.Proofs.YtaallpebfcadjaaGreatDoor.T


/-! The walk of the landed instance's copyOfNetwork. -/
namespace Go.Proofs.YtaallpebfcadjaaGreatDoor.T
open Go.RowKit
set_option maxRecDepth 8000

theorem ss_kept {w w' : World} {v : Value} {l : List ByteArray} {g : Nat} (h : Ss w v l) (hg : w.grownBy w' (some g)) (hne : v.ownBlock ≠ some g) : Ss w' v l := by
  obtain ⟨oa, c, rfl, h⟩ := h
  refine ⟨oa, c, rfl, fun i hi => ?_⟩
  obtain ⟨a, rfl, hl, h0⟩ := h i hi
  refine ⟨a, rfl, Nat.lt_of_lt_of_le hl hg.size, hg.cell h0 ?_⟩
  rw [add_block]
  exact hne
/-- a result: a network whose lists were made by the call -/
def NetP (pl : List ByteArray) (al : List ArcT) (w : World) (e : Ending) (w' : World) : Prop := ∃ (o0 o1 : Option Addr) (c0 c1 : Nat), e = .returned (.agg #[.slice o0 pl.length c0, .slice o1 al.length c1]) ∧ Ss w' (.slice o0 pl.length c0) pl ∧ Fr w.heap.size (.slice o0 pl.length c0) ∧ FmA w.heap.size w' (.slice o1 al.length c1) al ∧ Below w.heap.size w w'
theorem copiesA_n (v : Value) (l : List ArcT) (hl : l.length ≤ 100000) (ht : ∀ i, i < l.length → (l.getD i arc0).tr.length ≤ 1000000 ∧ (l.getD i arc0).sl.length ≤ 1000000) (w : World) (hv : As w v l) :
    Calls Tryz.prog 85 #[v, .func (.func 86) #[] #[]] w fun e w' => ∃ oa c, e = .returned (.slice oa l.length c) ∧ FmA w.heap.size w' (.slice oa l.length c) l ∧ Below w.heap.size w w' :=
  copiesArcs_n _ (fun args w => enters_of Tryz.func86 (by kernel_rfl) rfl args w) v l hl (fun i hi o0 o1 c0 c1 w h0 h1 => copyOfArc_n (l.getD i arc0) _ _ (ht i hi) w h0 h1) w hv
set_option maxHeartbeats 6400000 in
theorem copyOfNet_n (o0 o1 : Option Addr) (c0 c1 : Nat) (pl : List ByteArray) (al : List ArcT) (hp9 : pl.length ≤ 1000000) (hl : al.length ≤ 100000) (ht : ∀ i, i < al.length → (al.getD i arc0).tr.length ≤ 1000000 ∧ (al.getD i arc0).sl.length ≤ 1000000) (w : World) (hp : Ss w (.slice o0 pl.length c0) pl) (ha : As w (.slice o1 al.length c1) al) :
    Calls Tryz.prog 53 #[.agg #[.slice o0 pl.length c0, .slice o1 al.length c1]] w (NetP pl al w) := by
  unfold NetP
  have K1 := Lib.hid (fun w hv => cloneS_n (.slice o0 pl.length c0) pl hp9 w hv)
  have K2 := Lib.hid (fun w hv => copiesA_n (.slice o1 al.length c1) al hl ht w hv)
  have B1 := below_alloc w (.cells #[.slice o0 pl.length c0, .slice o1 al.length c1] 25)
  have B0 := over B1 (below_alloc (w.alloc (.cells #[.slice o0 pl.length c0, .slice o1 al.length c1] 25)) (.cells #[.slice none 0 0, .slice none 0 0] 25))
  have M1 := (Cb.made w #[.slice o0 pl.length c0, .slice o1 al.length c1] 25).old (.cells #[.slice none 0 0, .slice none 0 0] 25)
  have M2 := Cb.made (w.alloc (.cells #[.slice o0 pl.length c0, .slice o1 al.length c1] 25)) #[.slice none 0 0, .slice none 0 0] 25
  have hs1 : (w.alloc (.cells #[.slice o0 pl.length c0, .slice o1 al.length c1] 25)).heap.size = w.heap.size + 1 := World.size_alloc ..
  rw [hs1] at M2
  have hq0 : w.heap.size + 2 ≤ ((w.alloc (.cells #[.slice o0 pl.length c0, .slice o1 al.length c1] 25)).alloc (.cells #[.slice none 0 0, .slice none 0 0] 25)).heap.size := by simp only [World.size_alloc]; omega
  have HP := Lib.hid (hp.below B0)
  have HA := Lib.hid (ha.below B0)
  obtain ⟨W0, hW0⟩ : ∃ W0, (w.alloc (.cells #[.slice o0 pl.length c0, .slice o1 al.length c1] 25)).alloc (.cells #[.slice none 0 0, .slice none 0 0] 25) = W0 := ⟨_, rfl⟩
  rw [hW0] at M1 M2 B0 hq0 HP HA
  have HM1 := Lib.hid M1
  have HM2 := Lib.hid M2
  have HB := Lib.hid B0
  have HW0 := Lib.hid hW0
  clear M1 M2 B1 B0 hW0 hp ha hl ht hp9
  go_enter Tryz.func53, Tryz.ntmps53
  go_upto_region 1 with fail
  rw [HW0.out]
  clear HW0 hs1
  have HBz : Hid (Below W0.heap.size W0 W0.drew) := below_drew (Below.refl _ _)
  have m0 : W0.drew.cell? ⟨w.heap.size, 0, none⟩ = some (.slice o0 pl.length c0) := (HM1.out.below HBz.out).cell 0 rfl
  have m1 : W0.drew.cell? ⟨w.heap.size, 1, none⟩ = some (.slice o1 al.length c1) := (HM1.out.below HBz.out).cell 1 rfl
  have n0 : W0.drew.cell? ⟨w.heap.size + 1, 0, none⟩ = some (.slice none 0 0) := (HM2.out.below HBz.out).cell 0 rfl
  have n1 : W0.drew.cell? ⟨w.heap.size + 1, 1, none⟩ = some (.slice none 0 0) := (HM2.out.below HBz.out).cell 1 rfl
  have f0 : W0.drew.frozen? ⟨w.heap.size + 1, 0, none⟩ = false := (HM2.out.below HBz.out).f 0
  have f1 : W0.drew.frozen? ⟨w.heap.size + 1, 1, none⟩ = false := (HM2.out.below HBz.out).f 1
  go_region_held3 (fun w' => w'.cell? ⟨w.heap.size, 0, none⟩ = some (.slice o0 pl.length c0) ∧ w'.cell? ⟨w.heap.size, 1, none⟩ = some (.slice o1 al.length c1))
    (first | exact ⟨m0, m1⟩ | exact ⟨s0, s1⟩)
    (first
      | (go_at_call 84; (with_reducible refine (K1.out _ (HP.out.below HBz.out)).mono ?_); rintro e wy ⟨p0, d0, rfl, hp, hf, hb⟩; have HP1 := Lib.hid hp; have HF1 : Hid (Fr (w.heap.size + 2) (.slice p0 pl.length d0)) := fun b h => Nat.le_trans hq0 (Nat.le_trans HBz.out.size (hf b h)); have HBz := Lib.hid (over HBz.out hb); have m0 : wy.cell? ⟨w.heap.size, 0, none⟩ = some (.slice o0 pl.length c0) := (HM1.out.below HBz.out).cell 0 rfl; have m1 : wy.cell? ⟨w.heap.size, 1, none⟩ = some (.slice o1 al.length c1) := (HM1.out.below HBz.out).cell 1 rfl; have n0 : wy.cell? ⟨w.heap.size + 1, 0, none⟩ = some (.slice none 0 0) := (HM2.out.below HBz.out).cell 0 rfl; have n1 : wy.cell? ⟨w.heap.size + 1, 1, none⟩ = some (.slice none 0 0) := (HM2.out.below HBz.out).cell 1 rfl; have f0 : wy.frozen? ⟨w.heap.size + 1, 0, none⟩ = false := (HM2.out.below HBz.out).f 0; have f1 : wy.frozen? ⟨w.heap.size + 1, 1, none⟩ = false := (HM2.out.below HBz.out).f 1)
      | (go_at_call 85; (with_reducible refine (K2.out _ (HA.out.below HBz.out)).mono ?_); rintro e wy ⟨p1, d1, rfl, hp, hb⟩; have HP1 := Lib.hid (HP1.out.below hb); have HA1 := Lib.hid (hp.mono (Nat.le_trans hq0 HBz.out.size)); have HBz := Lib.hid (over HBz.out hb); have m0 : wy.cell? ⟨w.heap.size, 0, none⟩ = some (.slice o0 pl.length c0) := (HM1.out.below HBz.out).cell 0 rfl; have m1 : wy.cell? ⟨w.heap.size, 1, none⟩ = some (.slice o1 al.length c1) := (HM1.out.below HBz.out).cell 1 rfl; have n0 : wy.cell? ⟨w.heap.size + 1, 0, none⟩ = some (.slice none 0 0) := (HM2.out.below HBz.out).cell 0 rfl; have n1 : wy.cell? ⟨w.heap.size + 1, 1, none⟩ = some (.slice none 0 0) := (HM2.out.below HBz.out).cell 1 rfl; have f0 : wy.frozen? ⟨w.heap.size + 1, 0, none⟩ = false := (HM2.out.below HBz.out).f 0; have f1 : wy.frozen? ⟨w.heap.size + 1, 1, none⟩ = false := (HM2.out.below HBz.out).f 1; have hgr := grown_cells (g := w.heap.size + 1) [.slice p0 pl.length d0, .slice p1 al.length d1] wy 0; have s0 : ((wy.setCell ⟨w.heap.size + 1, 0, none⟩ (.slice p0 pl.length d0)).setCell ⟨w.heap.size + 1, 1, none⟩ (.slice p1 al.length d1)).cell? ⟨w.heap.size, 0, none⟩ = some (.slice o0 pl.length c0) := ((HM1.out.below HBz.out).kept hgr (by omega)).cell 0 rfl; have s1 : ((wy.setCell ⟨w.heap.size + 1, 0, none⟩ (.slice p0 pl.length d0)).setCell ⟨w.heap.size + 1, 1, none⟩ (.slice p1 al.length d1)).cell? ⟨w.heap.size, 1, none⟩ = some (.slice o1 al.length c1) := ((HM1.out.below HBz.out).kept hgr (by omega)).cell 1 rfl; have HS := Lib.hid (Cb.full (HM2.out.below HBz.out) [.slice p0 pl.length d0, .slice p1 al.length d1] rfl); have HGr := Lib.hid hgr; clear hgr))
  all_goals
    have HP2 := Lib.hid (ss_kept HP1.out HGr.out (HF1.out.ne (by omega)))
    have HA2 := Lib.hid (HA1.out.kept HGr.out (by omega))
    have HB2 := Lib.hid ((HB.out.trans (HBz.out.mono (by omega))).grown HGr.out (by have := HBz.out.size; omega) (fun x e => by simp only [Option.some.injEq] at e; omega))
    show Exit.then _ _ _ _ (setCells wy (w.heap.size + 1) 0 [.slice p0 pl.length d0, .slice p1 al.length d1])
    obtain ⟨W9, hW9⟩ : ∃ W9, setCells wy (w.heap.size + 1) 0 [.slice p0 pl.length d0, .slice p1 al.length d1] = W9 := ⟨_, rfl⟩
    rw [hW9] at HP2 HA2 HB2 HS ⊢
    have g0 : W9.cell? ⟨w.heap.size + 1, 0, none⟩ = some (.slice p0 pl.length d0) := HS.out.cell 0 rfl
    have g1 : W9.cell? ⟨w.heap.size + 1, 1, none⟩ = some (.slice p1 al.length d1) := HS.out.cell 1 rfl
    clear hW9 HP1 HA1 HGr m0 m1 n0 n1 f0 f1 s0 s1
    go_wp2_with fail
    refine bodyPost_ret (v := .agg #[.slice p0 pl.length d0, .slice p1 al.length d1]) (by simp [results, Tryz.results53, go_sem, g0, g1]) rfl ⟨p0, p1, d0, d1, rfl, HP2.out, (fun b hb => Nat.le_trans (by omega) (HF1.out b hb)), HA2.out.mono (by omega), HB2.out⟩

end Go.Proofs.YtaallpebfcadjaaGreatDoor.T


