/-
 DERIVED. KWN: a part of the base of layer 13 (made by pack.py).
-/
import Derived.Test.YtaallpebfcadjaaGreatDoorKIJ
import Derived.Test.YtaallpebfcadjaaGreatDoorKWM
/-! Copies of orders and of an instance: the list of orders is full (InCp3b's and InCp5's walks, their end said more exactly). -/
namespace Go.Proofs.YtaallpebfcadjaaGreatDoor.T
open Go.RowKit
set_option maxRecDepth 8000
set_option maxHeartbeats 12800000 in
theorem copiesOrdersC_n (gf : FuncId) (eg : ∀ args w, (callFunc gf args).run Tryz.prog w = .ok (.enter gf args) w) (v : Value) (l : List OrT) (hl : l.length ≤ 100000)
  (hp : ∀ i, i < l.length → ∀ (o0 : Option Addr) (c0 : Nat) (w : World), L.Li w (.slice o0 (l.getD i or0).load.length c0) (l.getD i or0).load → Calls Tryz.prog gf #[orV (l.getD i or0) (.slice o0 (l.getD i or0).load.length c0)] w (copyOfOrderP (l.getD i or0) w)) (w : World) (hv : Os w v l) :
  Calls Tryz.prog 78 #[v, .func (.func gf) #[] #[]] w fun e w' => ∃ (oa : Option Addr) (c : Nat), e = .returned (.slice oa l.length c) ∧ FmO w.heap.size w' (.slice oa l.length c) l ∧ Below w.heap.size w w' ∧ c = l.length := by
 have HV := Lib.hid hv
 obtain ⟨ob, cb, rfl, -⟩ := hv
 have KP := Lib.hid hp
 obtain ⟨i0, hi, hz0, hz1, hz2⟩ := infoO8
 have HTk := Lib.hid (fun k (hk : k < l.length) (xs : List (OrT × Value)) (y : Value) h => map_snoc1 (xs := xs) (l := l) (d := or0) (y := y) h hk)
 have HLen := Lib.hid (fun k (hk : k ≤ l.length) (xs : List (OrT × Value)) h => len_of (xs := xs) (l := l) h hk)
 have HAll : Hid (l.take l.length = l) := List.take_length
 generalize hn : l.length = n at *
 have HN := Lib.hid hn
 clear hp hn
 go_enter Tryz.func78, Tryz.ntmps78
 go_wp2_with (at_make; refine wpList_make_full _ rfl _ _ 27 rfl w.heap.size 44 i0 _ 16 Tryz.underlying27 hi hz0 hz1 _ _ _ _ n rfl rfl ?e0 ?e1 ?e3 ?e4 (Nat.le_refl _) ?_)
 case e0 => rfl
 case e1 => rfl
 case e3 => first | omega | (rw [hz2]; omega)
 case e4 => unfold maxLen; omega
 intro w1 hown hgrow
 have HB1 : Hid (Below w.heap.size w w1) := (Below.refl _ w).grown hgrow (Nat.le_refl _) (fun k h => by cases h)
 have HG1 := Lib.hid hown
 have hgl := (World.ownsRow.lt hown w.heap.size rfl).2
 clear hown hgrow
 go_wp2
 go_loopg [13] n (fun gg j wr => ∃ (k : Nat) (cs : List Value) (xs : List (OrT × Value)), k ≤ n ∧ j = .int .i64 k ∧ n - k ≤ gg ∧ Hid (wr.ownsRow w.heap.size 44 16 (.slice (some ⟨w.heap.size, 0, none⟩) n n) n cs) ∧ Hid (cs.take (k * 16) = flk ccO xs) ∧ Hid (xs.map (·.1) = l.take k) ∧ Hid (ErO wr xs) ∧ Hid (FxO (w.heap.size + 1) xs) ∧ Hid (Below w.heap.size w wr))
 case atStart => exact ⟨0, _, [], Nat.zero_le _, rfl, Nat.le_refl _, HG1, (by show _ = _; rw [Nat.zero_mul, List.take_zero]; rfl), rfl, (fun x hx => by cases hx), (fun x hx => by cases hx), HB1⟩
 case round =>
  clear HG1 HB1
  obtain ⟨k, cs, xs, hk, rfl, hg, HG, HC, HX, HE, HBr, HB⟩ := hrel
  by_cases hlt : k < n
  ·have hkI : (k : Int) < (n : Int) := by omega
   obtain ⟨ob', c', hob, hos⟩ := HV.out.below HB.out
   rw [HN.out] at hob
   simp only [Value.slice.injEq] at hob
   obtain ⟨rfl, -, rfl⟩ := hob
   obtain ⟨b1, q1, vc, rfl, hb1, hac, hvc⟩ := hos k (by rw [HN.out]; exact hlt)
   have HPk := Lib.hid (fun o0 c0 => KP.out k hlt o0 c0)
   have HTk2 := Lib.hid (fun xs y h => HTk.out k hlt xs y h)
   obtain ⟨o0, c0, rfl, -⟩ := id hvc
   obtain ⟨x0, x1, x2, x3, x4, x5, x6, x7, x8, x9, x10, x11, x12, x13, x14, x15⟩ := hac
   clear hos
   generalize l.getD k or0 = s at *
   unfold copyOfOrderP orV at HPk
   have hal := below_alloc wr (.cells #[.string s.name, .slice o0 s.load.length c0, .int .i64 s.pp, .int .i64 s.po, .int .i64 s.pc, .int .i64 s.ps, .int .i64 s.dp, .int .i64 s.dd, .int .i64 s.dc, .int .i64 s.ds, .int .i64 s.sk, .int .i64 s.pen, .int .i64 s.spl, .int .i64 s.las, .int .i64 s.now, .bool s.off] 44)
   have M1 := Cb.made wr #[.string s.name, .slice o0 s.load.length c0, .int .i64 s.pp, .int .i64 s.po, .int .i64 s.pc, .int .i64 s.ps, .int .i64 s.dp, .int .i64 s.dd, .int .i64 s.dc, .int .i64 s.ds, .int .i64 s.sk, .int .i64 s.pen, .int .i64 s.spl, .int .i64 s.las, .int .i64 s.now, .bool s.off] 44
   have J0 := Lib.hid (hvc.below hal)
   have HG := Lib.hid (own_below HG.out hal)
   have HE := Lib.hid (HE.out.below hal)
   have HB := Lib.hid (over HB.out hal)
   obtain ⟨W1, hW1⟩ : ∃ W1, wr.alloc (.cells #[.string s.name, .slice o0 s.load.length c0, .int .i64 s.pp, .int .i64 s.po, .int .i64 s.pc, .int .i64 s.ps, .int .i64 s.dp, .int .i64 s.dd, .int .i64 s.dc, .int .i64 s.ds, .int .i64 s.sk, .int .i64 s.pen, .int .i64 s.spl, .int .i64 s.las, .int .i64 s.now, .bool s.off] 44) = W1 := ⟨_, rfl⟩
   rw [hW1] at M1 HG HE HB J0
   have hw1 := (World.ownsRow.lt HG.out w.heap.size rfl).2
   have HW1 := Lib.hid hW1
   have HM1 := Lib.hid M1
   clear hal M1 hW1 hvc
   go_upto_region 5 with fail
   rw [HW1.out]
   clear x0 x1 x2 x3 x4 x5 x6 x7 x8 x9 x10 x11 x12 x13 x14 x15 HW1
   generalize wr.heap.size = q1 at *
   have m0 : W1.cell? ⟨q1, 0, none⟩ = some (.string s.name) := HM1.out.cell 0 rfl
   have m1 : W1.cell? ⟨q1, 1, none⟩ = some (.slice o0 s.load.length c0) := HM1.out.cell 1 rfl
   have m2 : W1.cell? ⟨q1, 2, none⟩ = some (.int .i64 s.pp) := HM1.out.cell 2 rfl
   have m3 : W1.cell? ⟨q1, 3, none⟩ = some (.int .i64 s.po) := HM1.out.cell 3 rfl
   have m4 : W1.cell? ⟨q1, 4, none⟩ = some (.int .i64 s.pc) := HM1.out.cell 4 rfl
   have m5 : W1.cell? ⟨q1, 5, none⟩ = some (.int .i64 s.ps) := HM1.out.cell 5 rfl
   have m6 : W1.cell? ⟨q1, 6, none⟩ = some (.int .i64 s.dp) := HM1.out.cell 6 rfl
   have m7 : W1.cell? ⟨q1, 7, none⟩ = some (.int .i64 s.dd) := HM1.out.cell 7 rfl
   have m8 : W1.cell? ⟨q1, 8, none⟩ = some (.int .i64 s.dc) := HM1.out.cell 8 rfl
   have m9 : W1.cell? ⟨q1, 9, none⟩ = some (.int .i64 s.ds) := HM1.out.cell 9 rfl
   have m10 : W1.cell? ⟨q1, 10, none⟩ = some (.int .i64 s.sk) := HM1.out.cell 10 rfl
   have m11 : W1.cell? ⟨q1, 11, none⟩ = some (.int .i64 s.pen) := HM1.out.cell 11 rfl
   have m12 : W1.cell? ⟨q1, 12, none⟩ = some (.int .i64 s.spl) := HM1.out.cell 12 rfl
   have m13 : W1.cell? ⟨q1, 13, none⟩ = some (.int .i64 s.las) := HM1.out.cell 13 rfl
   have m14 : W1.cell? ⟨q1, 14, none⟩ = some (.int .i64 s.now) := HM1.out.cell 14 rfl
   have m15 : W1.cell? ⟨q1, 15, none⟩ = some (.bool s.off) := HM1.out.cell 15 rfl
   go_wp2_with fail
   refine (HPk.out _ _ _ J0.out).mono ?_
   clear m0 m1 m2 m3 m4 m5 m6 m7 m8 m9 m10 m11 m12 m13 m14 m15
   rintro e w5 ⟨p0, d0, rfl, hp0, hf0, hb⟩
   have HG := Lib.hid (own_below HG.out hb)
   have HE := Lib.hid (HE.out.below hb)
   have hsz := HB.out.size
   have HB := Lib.hid (over HB.out hb)
   have r0 := row_cell HG.out (idx_lt (c := 0) hlt (by omega : 0 < 16))
   have f0 := World.ownsRow.frozenAt HG.out (k * 16 + 0)
   have r1 := row_cell HG.out (idx_lt (c := 1) hlt (by omega : 1 < 16))
   have f1 := World.ownsRow.frozenAt HG.out (k * 16 + 1)
   have r2 := row_cell HG.out (idx_lt (c := 2) hlt (by omega : 2 < 16))
   have f2 := World.ownsRow.frozenAt HG.out (k * 16 + 2)
   have r3 := row_cell HG.out (idx_lt (c := 3) hlt (by omega : 3 < 16))
   have f3 := World.ownsRow.frozenAt HG.out (k * 16 + 3)
   have r4 := row_cell HG.out (idx_lt (c := 4) hlt (by omega : 4 < 16))
   have f4 := World.ownsRow.frozenAt HG.out (k * 16 + 4)
   have r5 := row_cell HG.out (idx_lt (c := 5) hlt (by omega : 5 < 16))
   have f5 := World.ownsRow.frozenAt HG.out (k * 16 + 5)
   have r6 := row_cell HG.out (idx_lt (c := 6) hlt (by omega : 6 < 16))
   have f6 := World.ownsRow.frozenAt HG.out (k * 16 + 6)
   have r7 := row_cell HG.out (idx_lt (c := 7) hlt (by omega : 7 < 16))
   have f7 := World.ownsRow.frozenAt HG.out (k * 16 + 7)
   have r8 := row_cell HG.out (idx_lt (c := 8) hlt (by omega : 8 < 16))
   have f8 := World.ownsRow.frozenAt HG.out (k * 16 + 8)
   have r9 := row_cell HG.out (idx_lt (c := 9) hlt (by omega : 9 < 16))
   have f9 := World.ownsRow.frozenAt HG.out (k * 16 + 9)
   have r10 := row_cell HG.out (idx_lt (c := 10) hlt (by omega : 10 < 16))
   have f10 := World.ownsRow.frozenAt HG.out (k * 16 + 10)
   have r11 := row_cell HG.out (idx_lt (c := 11) hlt (by omega : 11 < 16))
   have f11 := World.ownsRow.frozenAt HG.out (k * 16 + 11)
   have r12 := row_cell HG.out (idx_lt (c := 12) hlt (by omega : 12 < 16))
   have f12 := World.ownsRow.frozenAt HG.out (k * 16 + 12)
   have r13 := row_cell HG.out (idx_lt (c := 13) hlt (by omega : 13 < 16))
   have f13 := World.ownsRow.frozenAt HG.out (k * 16 + 13)
   have r14 := row_cell HG.out (idx_lt (c := 14) hlt (by omega : 14 < 16))
   have f14 := World.ownsRow.frozenAt HG.out (k * 16 + 14)
   have r15 := row_cell HG.out (idx_lt (c := 15) hlt (by omega : 15 < 16))
   have f15 := World.ownsRow.frozenAt HG.out (k * 16 + 15)
   try rw [Nat.add_zero] at r0 f0
   obtain ⟨hst, hgr⟩ := storedN [.string s.name, .slice p0 s.load.length d0, .int .i64 s.pp, .int .i64 s.po, .int .i64 s.pc, .int .i64 s.ps, .int .i64 s.dp, .int .i64 s.dd, .int .i64 s.dc, .int .i64 s.ds, .int .i64 s.sk, .int .i64 s.pen, .int .i64 s.spl, .int .i64 s.las, .int .i64 s.now, .bool s.off] w5 (k * 16) cs HG.out
   have HE := Lib.hid (HE.out.kept hgr (HBr.out.br (Nat.lt_succ_self _)))
   have HP0 := Lib.hid (li_kept hp0 hgr (hf0.ne hw1))
   have HF0 : Hid (Fr (w.heap.size + 1) (Value.slice p0 s.load.length d0)) := fun b hb => Nat.le_trans hw1 (hf0 b hb)
   have HB := Lib.hid (HB.out.grown hgr HB.out.size (fun x e => by simp only [Option.some.injEq] at e; omega))
   have hcl := HG.out.1
   have htk := setN_take [.string s.name, .slice p0 s.load.length d0, .int .i64 s.pp, .int .i64 s.po, .int .i64 s.pc, .int .i64 s.ps, .int .i64 s.dp, .int .i64 s.dd, .int .i64 s.dc, .int .i64 s.ds, .int .i64 s.sk, .int .i64 s.pen, .int .i64 s.spl, .int .i64 s.las, .int .i64 s.now, .bool s.off] cs (k * 16) (by rw [hcl]; exact idx_lt (c := 15) hlt (by omega))
   have HG := Lib.hid hst
   have HC : Hid ((setN cs (k * 16) [.string s.name, .slice p0 s.load.length d0, .int .i64 s.pp, .int .i64 s.po, .int .i64 s.pc, .int .i64 s.ps, .int .i64 s.dp, .int .i64 s.dd, .int .i64 s.dc, .int .i64 s.ds, .int .i64 s.sk, .int .i64 s.pen, .int .i64 s.spl, .int .i64 s.las, .int .i64 s.now, .bool s.off]).take ((k + 1) * 16) = flk ccO (xs ++ [(s, .slice p0 s.load.length d0)])) := by
    show _ = _
    rw [Nat.succ_mul, flk_snoc]
    exact htk.trans (by rw [HC.out]; rfl)
   have HX := Lib.hid (HTk2.out xs (.slice p0 s.load.length d0) HX.out)
   have HE := Lib.hid (HE.out.more (x := (s, .slice p0 s.load.length d0)) HP0.out)
   have HBr := Lib.hid (HBr.out.more (x := (s, .slice p0 s.load.length d0)) HF0.out)
   clear hst hgr htk hcl hp0 hf0 hb HPk KP HTk2
   go_wp2_with fail
   clear r0 f0 r1 f1 r2 f2 r3 f3 r4 f4 r5 f5 r6 f6 r7 f7 r8 f8 r9 f9 r10 f10 r11 f11 r12 f12 r13 f13 r14 f14 r15 f15
   go_roundg (n - (k + 1))
   case measure => omega
   case rel => exact ⟨k + 1, _, _, by omega, by go_num, by omega, HG, HC, HX, HE, HBr, HB⟩
  ·have hkk : k = n := by omega
   have hkI : ¬ (k : Int) < (n : Int) := by omega
   subst hkk
   have hcs : cs = flk ccO xs := by rw [← HC.out, List.take_of_length_le (by rw [HG.out.1]; exact Nat.le_refl _)]
   have hxl := HLen.out k (Nat.le_refl _) xs HX.out
   have hxm : Hid (xs.map (·.1) = l) := by show _ = _; rw [HX.out, HAll.out]
   have HG9 : Hid (GrO w.heap.size wr (.slice (some ⟨w.heap.size, 0, none⟩) k k) xs) := by
    show World.ownsRow ..
    rw [hxl, ← hcs]
    exact HG.out
   clear hcs hxl HG HC
   go_wp2_with fail
   go_ret
   exact ⟨some ⟨w.heap.size, 0, none⟩, k, rfl, ⟨xs, hxm.out, HG9.out, HE.out, HBr.out.mono (Nat.le_succ _), (fun g h => by simp only [Value.ownBlock, Option.some.injEq] at h; subst h; exact HBr.out.br (Nat.lt_succ_self _))⟩, HB.out, rfl⟩
theorem copiesOC_n (v : Value) (l : List OrT) (hl : l.length ≤ 100000) (ht : ∀ i, i < l.length → (l.getD i or0).load.length ≤ 1000000) (w : World) (hv : Os w v l) :
  Calls Tryz.prog 78 #[v, .func (.func 51) #[] #[]] w fun e w' => ∃ oa c, e = .returned (.slice oa l.length c) ∧ FmO w.heap.size w' (.slice oa l.length c) l ∧ Below w.heap.size w w' ∧ c = l.length :=
 copiesOrdersC_n _ (fun args w => enters_of Tryz.func51 (by kernel_rfl) rfl args w) v l hl (fun i hi o0 c0 w h0 => copyOfOrder_n (l.getD i or0) _ (ht i hi) w h0) w hv
set_option maxHeartbeats 12800000 in
theorem copyOfC_n (k : Iv) (x : InT) (hx : InC x) (w : World) (h : Ins w k x) :
  Calls Tryz.prog 50 #[k.v x] w fun e w' => ∃ k' : Iv, e = .returned (k'.v x) ∧ InsM w.heap.size w' k' x ∧ Below w.heap.size w w' ∧ k'.c3 = x.ol.length := by
 obtain ⟨o0, c0, o1, c1, o2, c2, o3, c3, o4, c4, o5, c5⟩ := k
 unfold Iv.v inV
 simp only
 have l0 := hx.pl
 have l1 := hx.al
 have l2 := hx.tl
 have l3 := hx.ol
 have l4 := hx.ap
 have l5 := hx.be
 have K1 := Lib.hid (fun w hp ha => copyOfNet_n o0 o1 c0 c1 x.pl x.al (by omega) (by omega) hx.tr w hp ha)
 have K2 := Lib.hid (fun w hv => copiesT_n (.slice o2 x.tl.length c2) x.tl (by omega) hx.cap w hv)
 have K3 := Lib.hid (fun w hv => copiesOC_n (.slice o3 x.ol.length c3) x.ol (by omega) hx.load w hv)
 have K4 := Lib.hid (fun w hv => clonePrs_n (.slice o4 x.ap.length c4) x.ap (by omega) w hv)
 have K5 := Lib.hid (fun w hv => clonePrs_n (.slice o5 x.be.length c5) x.be (by omega) w hv)
 have B1 := below_alloc w (.cells #[.slice o0 x.pl.length c0, .slice o1 x.al.length c1, .slice o2 x.tl.length c2, .slice o3 x.ol.length c3, .slice o4 x.ap.length c4, .slice o5 x.be.length c5] 30)
 have B0 := over B1 (below_alloc (w.alloc (.cells #[.slice o0 x.pl.length c0, .slice o1 x.al.length c1, .slice o2 x.tl.length c2, .slice o3 x.ol.length c3, .slice o4 x.ap.length c4, .slice o5 x.be.length c5] 30)) (.cells #[.slice none 0 0, .slice none 0 0, .slice none 0 0, .slice none 0 0, .slice none 0 0, .slice none 0 0] 30))
 have M1 := (Cb.made w #[.slice o0 x.pl.length c0, .slice o1 x.al.length c1, .slice o2 x.tl.length c2, .slice o3 x.ol.length c3, .slice o4 x.ap.length c4, .slice o5 x.be.length c5] 30).old (.cells #[.slice none 0 0, .slice none 0 0, .slice none 0 0, .slice none 0 0, .slice none 0 0, .slice none 0 0] 30)
 have M2 := Cb.made (w.alloc (.cells #[.slice o0 x.pl.length c0, .slice o1 x.al.length c1, .slice o2 x.tl.length c2, .slice o3 x.ol.length c3, .slice o4 x.ap.length c4, .slice o5 x.be.length c5] 30)) #[.slice none 0 0, .slice none 0 0, .slice none 0 0, .slice none 0 0, .slice none 0 0, .slice none 0 0] 30
 have hs1 : (w.alloc (.cells #[.slice o0 x.pl.length c0, .slice o1 x.al.length c1, .slice o2 x.tl.length c2, .slice o3 x.ol.length c3, .slice o4 x.ap.length c4, .slice o5 x.be.length c5] 30)).heap.size = w.heap.size + 1 := World.size_alloc ..
 rw [hs1] at M2
 have hq0 : w.heap.size + 2 ≤ ((w.alloc (.cells #[.slice o0 x.pl.length c0, .slice o1 x.al.length c1, .slice o2 x.tl.length c2, .slice o3 x.ol.length c3, .slice o4 x.ap.length c4, .slice o5 x.be.length c5] 30)).alloc (.cells #[.slice none 0 0, .slice none 0 0, .slice none 0 0, .slice none 0 0, .slice none 0 0, .slice none 0 0] 30)).heap.size := by simp only [World.size_alloc]; omega
 have HI := Lib.hid (h.below B0)
 obtain ⟨W0, hW0⟩ : ∃ W0, (w.alloc (.cells #[.slice o0 x.pl.length c0, .slice o1 x.al.length c1, .slice o2 x.tl.length c2, .slice o3 x.ol.length c3, .slice o4 x.ap.length c4, .slice o5 x.be.length c5] 30)).alloc (.cells #[.slice none 0 0, .slice none 0 0, .slice none 0 0, .slice none 0 0, .slice none 0 0, .slice none 0 0] 30) = W0 := ⟨_, rfl⟩
 rw [hW0] at M1 M2 B0 hq0 HI
 have HM1 := Lib.hid M1
 have HM2 := Lib.hid M2
 have HB := Lib.hid B0
 have HW0 := Lib.hid hW0
 clear M1 M2 B1 B0 hW0 h hx l0 l1 l2 l3 l4 l5
 go_enter Tryz.func50, Tryz.ntmps50
 go_upto_region 1 with fail
 rw [HW0.out]
 clear HW0 hs1
 have HBz : Hid (Below W0.heap.size W0 W0.drew) := below_drew (Below.refl _ _)
 have m0 : W0.drew.cell? ⟨w.heap.size, 0, none⟩ = some (.slice o0 x.pl.length c0) := (HM1.out.below HBz.out).cell 0 rfl
 have m1 : W0.drew.cell? ⟨w.heap.size, 1, none⟩ = some (.slice o1 x.al.length c1) := (HM1.out.below HBz.out).cell 1 rfl
 have m2 : W0.drew.cell? ⟨w.heap.size, 2, none⟩ = some (.slice o2 x.tl.length c2) := (HM1.out.below HBz.out).cell 2 rfl
 have m3 : W0.drew.cell? ⟨w.heap.size, 3, none⟩ = some (.slice o3 x.ol.length c3) := (HM1.out.below HBz.out).cell 3 rfl
 have m4 : W0.drew.cell? ⟨w.heap.size, 4, none⟩ = some (.slice o4 x.ap.length c4) := (HM1.out.below HBz.out).cell 4 rfl
 have m5 : W0.drew.cell? ⟨w.heap.size, 5, none⟩ = some (.slice o5 x.be.length c5) := (HM1.out.below HBz.out).cell 5 rfl
 have n0 : W0.drew.cell? ⟨w.heap.size + 1, 0, none⟩ = some (.slice none 0 0) := (HM2.out.below HBz.out).cell 0 rfl
 have n1 : W0.drew.cell? ⟨w.heap.size + 1, 1, none⟩ = some (.slice none 0 0) := (HM2.out.below HBz.out).cell 1 rfl
 have n2 : W0.drew.cell? ⟨w.heap.size + 1, 2, none⟩ = some (.slice none 0 0) := (HM2.out.below HBz.out).cell 2 rfl
 have n3 : W0.drew.cell? ⟨w.heap.size + 1, 3, none⟩ = some (.slice none 0 0) := (HM2.out.below HBz.out).cell 3 rfl
 have n4 : W0.drew.cell? ⟨w.heap.size + 1, 4, none⟩ = some (.slice none 0 0) := (HM2.out.below HBz.out).cell 4 rfl
 have n5 : W0.drew.cell? ⟨w.heap.size + 1, 5, none⟩ = some (.slice none 0 0) := (HM2.out.below HBz.out).cell 5 rfl
 have f0 : W0.drew.frozen? ⟨w.heap.size + 1, 0, none⟩ = false := (HM2.out.below HBz.out).f 0
 have f1 : W0.drew.frozen? ⟨w.heap.size + 1, 1, none⟩ = false := (HM2.out.below HBz.out).f 1
 have f2 : W0.drew.frozen? ⟨w.heap.size + 1, 2, none⟩ = false := (HM2.out.below HBz.out).f 2
 have f3 : W0.drew.frozen? ⟨w.heap.size + 1, 3, none⟩ = false := (HM2.out.below HBz.out).f 3
 have f4 : W0.drew.frozen? ⟨w.heap.size + 1, 4, none⟩ = false := (HM2.out.below HBz.out).f 4
 have f5 : W0.drew.frozen? ⟨w.heap.size + 1, 5, none⟩ = false := (HM2.out.below HBz.out).f 5
 go_region_held3 (fun w' => w'.cell? ⟨w.heap.size, 0, none⟩ = some (.slice o0 x.pl.length c0) ∧ w'.cell? ⟨w.heap.size, 1, none⟩ = some (.slice o1 x.al.length c1) ∧ w'.cell? ⟨w.heap.size, 2, none⟩ = some (.slice o2 x.tl.length c2) ∧ w'.cell? ⟨w.heap.size, 3, none⟩ = some (.slice o3 x.ol.length c3) ∧ w'.cell? ⟨w.heap.size, 4, none⟩ = some (.slice o4 x.ap.length c4) ∧ w'.cell? ⟨w.heap.size, 5, none⟩ = some (.slice o5 x.be.length c5))
  (first | with_reducible exact ⟨m0, m1, m2, m3, m4, m5⟩ | with_reducible exact ⟨s0, s1, s2, s3, s4, s5⟩)
  (first
   | (go_at_call 53; (with_reducible refine (K1.out _ (HI.out.h0.below HBz.out) (HI.out.h1.below HBz.out)).mono ?_); rintro e wy ⟨p0, p1, d0, d1, rfl, hp, hf, ha, hb⟩; have R0 := Lib.hid hp; have F0 : Hid (Fr (w.heap.size + 2) (.slice p0 x.pl.length d0)) := hf.mono (Nat.le_trans hq0 HBz.out.size); have R1 := Lib.hid (ha.mono (Nat.le_trans hq0 HBz.out.size)); have HBz := Lib.hid (over HBz.out hb); have m0 : wy.cell? ⟨w.heap.size, 0, none⟩ = some (.slice o0 x.pl.length c0) := (HM1.out.below HBz.out).cell 0 rfl; have m1 : wy.cell? ⟨w.heap.size, 1, none⟩ = some (.slice o1 x.al.length c1) := (HM1.out.below HBz.out).cell 1 rfl; have m2 : wy.cell? ⟨w.heap.size, 2, none⟩ = some (.slice o2 x.tl.length c2) := (HM1.out.below HBz.out).cell 2 rfl; have m3 : wy.cell? ⟨w.heap.size, 3, none⟩ = some (.slice o3 x.ol.length c3) := (HM1.out.below HBz.out).cell 3 rfl; have m4 : wy.cell? ⟨w.heap.size, 4, none⟩ = some (.slice o4 x.ap.length c4) := (HM1.out.below HBz.out).cell 4 rfl; have m5 : wy.cell? ⟨w.heap.size, 5, none⟩ = some (.slice o5 x.be.length c5) := (HM1.out.below HBz.out).cell 5 rfl)
   | (go_at_call 54; (with_reducible refine (K2.out _ (HI.out.h2.below HBz.out)).mono ?_); rintro e wy ⟨p2, d2, rfl, hp, hb⟩; have R0 := Lib.hid (R0.out.below hb); have R1 := Lib.hid (R1.out.below hb); have R2 := Lib.hid (hp.mono (Nat.le_trans hq0 HBz.out.size)); have HBz := Lib.hid (over HBz.out hb); have m0 : wy.cell? ⟨w.heap.size, 0, none⟩ = some (.slice o0 x.pl.length c0) := (HM1.out.below HBz.out).cell 0 rfl; have m1 : wy.cell? ⟨w.heap.size, 1, none⟩ = some (.slice o1 x.al.length c1) := (HM1.out.below HBz.out).cell 1 rfl; have m2 : wy.cell? ⟨w.heap.size, 2, none⟩ = some (.slice o2 x.tl.length c2) := (HM1.out.below HBz.out).cell 2 rfl; have m3 : wy.cell? ⟨w.heap.size, 3, none⟩ = some (.slice o3 x.ol.length c3) := (HM1.out.below HBz.out).cell 3 rfl; have m4 : wy.cell? ⟨w.heap.size, 4, none⟩ = some (.slice o4 x.ap.length c4) := (HM1.out.below HBz.out).cell 4 rfl; have m5 : wy.cell? ⟨w.heap.size, 5, none⟩ = some (.slice o5 x.be.length c5) := (HM1.out.below HBz.out).cell 5 rfl)
   | (go_at_call 78; (with_reducible refine (K3.out _ (HI.out.h3.below HBz.out)).mono ?_); rintro e wy ⟨p3, d3, rfl, hp, hb, hd3⟩; have HD3 := Lib.hid hd3; clear hd3; have R0 := Lib.hid (R0.out.below hb); have R1 := Lib.hid (R1.out.below hb); have R2 := Lib.hid (R2.out.below hb); have R3 := Lib.hid (hp.mono (Nat.le_trans hq0 HBz.out.size)); have HBz := Lib.hid (over HBz.out hb); have m0 : wy.cell? ⟨w.heap.size, 0, none⟩ = some (.slice o0 x.pl.length c0) := (HM1.out.below HBz.out).cell 0 rfl; have m1 : wy.cell? ⟨w.heap.size, 1, none⟩ = some (.slice o1 x.al.length c1) := (HM1.out.below HBz.out).cell 1 rfl; have m2 : wy.cell? ⟨w.heap.size, 2, none⟩ = some (.slice o2 x.tl.length c2) := (HM1.out.below HBz.out).cell 2 rfl; have m3 : wy.cell? ⟨w.heap.size, 3, none⟩ = some (.slice o3 x.ol.length c3) := (HM1.out.below HBz.out).cell 3 rfl; have m4 : wy.cell? ⟨w.heap.size, 4, none⟩ = some (.slice o4 x.ap.length c4) := (HM1.out.below HBz.out).cell 4 rfl; have m5 : wy.cell? ⟨w.heap.size, 5, none⟩ = some (.slice o5 x.be.length c5) := (HM1.out.below HBz.out).cell 5 rfl)
   | (go_at_call 79; (with_reducible refine (K4.out _ (psI_below HI.out.h4 HBz.out)).mono ?_); rintro e wy ⟨p4, d4, rfl, hp, hf, hb⟩; have R0 := Lib.hid (R0.out.below hb); have R1 := Lib.hid (R1.out.below hb); have R2 := Lib.hid (R2.out.below hb); have R3 := Lib.hid (R3.out.below hb); have R4 := Lib.hid hp; have F4 : Hid (Fr (w.heap.size + 2) (.slice p4 x.ap.length d4)) := hf.mono (Nat.le_trans hq0 HBz.out.size); have HBz := Lib.hid (over HBz.out hb); have m0 : wy.cell? ⟨w.heap.size, 0, none⟩ = some (.slice o0 x.pl.length c0) := (HM1.out.below HBz.out).cell 0 rfl; have m1 : wy.cell? ⟨w.heap.size, 1, none⟩ = some (.slice o1 x.al.length c1) := (HM1.out.below HBz.out).cell 1 rfl; have m2 : wy.cell? ⟨w.heap.size, 2, none⟩ = some (.slice o2 x.tl.length c2) := (HM1.out.below HBz.out).cell 2 rfl; have m3 : wy.cell? ⟨w.heap.size, 3, none⟩ = some (.slice o3 x.ol.length c3) := (HM1.out.below HBz.out).cell 3 rfl; have m4 : wy.cell? ⟨w.heap.size, 4, none⟩ = some (.slice o4 x.ap.length c4) := (HM1.out.below HBz.out).cell 4 rfl; have m5 : wy.cell? ⟨w.heap.size, 5, none⟩ = some (.slice o5 x.be.length c5) := (HM1.out.below HBz.out).cell 5 rfl)
   | (go_at_call 79; (with_reducible refine (K5.out _ (psI_below HI.out.h5 HBz.out)).mono ?_); rintro e wy ⟨p5, d5, rfl, hp, hf, hb⟩; have R0 := Lib.hid (R0.out.below hb); have R1 := Lib.hid (R1.out.below hb); have R2 := Lib.hid (R2.out.below hb); have R3 := Lib.hid (R3.out.below hb); have R4 := Lib.hid (psI_below R4.out hb); have R5 := Lib.hid hp; have F5 : Hid (Fr (w.heap.size + 2) (.slice p5 x.be.length d5)) := hf.mono (Nat.le_trans hq0 HBz.out.size); have HBz := Lib.hid (over HBz.out hb); have m0 : wy.cell? ⟨w.heap.size, 0, none⟩ = some (.slice o0 x.pl.length c0) := (HM1.out.below HBz.out).cell 0 rfl; have m1 : wy.cell? ⟨w.heap.size, 1, none⟩ = some (.slice o1 x.al.length c1) := (HM1.out.below HBz.out).cell 1 rfl; have m2 : wy.cell? ⟨w.heap.size, 2, none⟩ = some (.slice o2 x.tl.length c2) := (HM1.out.below HBz.out).cell 2 rfl; have m3 : wy.cell? ⟨w.heap.size, 3, none⟩ = some (.slice o3 x.ol.length c3) := (HM1.out.below HBz.out).cell 3 rfl; have m4 : wy.cell? ⟨w.heap.size, 4, none⟩ = some (.slice o4 x.ap.length c4) := (HM1.out.below HBz.out).cell 4 rfl; have m5 : wy.cell? ⟨w.heap.size, 5, none⟩ = some (.slice o5 x.be.length c5) := (HM1.out.below HBz.out).cell 5 rfl; have n0 : wy.cell? ⟨w.heap.size + 1, 0, none⟩ = some (.slice none 0 0) := (HM2.out.below HBz.out).cell 0 rfl; have n1 : wy.cell? ⟨w.heap.size + 1, 1, none⟩ = some (.slice none 0 0) := (HM2.out.below HBz.out).cell 1 rfl; have n2 : wy.cell? ⟨w.heap.size + 1, 2, none⟩ = some (.slice none 0 0) := (HM2.out.below HBz.out).cell 2 rfl; have n3 : wy.cell? ⟨w.heap.size + 1, 3, none⟩ = some (.slice none 0 0) := (HM2.out.below HBz.out).cell 3 rfl; have n4 : wy.cell? ⟨w.heap.size + 1, 4, none⟩ = some (.slice none 0 0) := (HM2.out.below HBz.out).cell 4 rfl; have n5 : wy.cell? ⟨w.heap.size + 1, 5, none⟩ = some (.slice none 0 0) := (HM2.out.below HBz.out).cell 5 rfl; have f0 : wy.frozen? ⟨w.heap.size + 1, 0, none⟩ = false := (HM2.out.below HBz.out).f 0; have f1 : wy.frozen? ⟨w.heap.size + 1, 1, none⟩ = false := (HM2.out.below HBz.out).f 1; have f2 : wy.frozen? ⟨w.heap.size + 1, 2, none⟩ = false := (HM2.out.below HBz.out).f 2; have f3 : wy.frozen? ⟨w.heap.size + 1, 3, none⟩ = false := (HM2.out.below HBz.out).f 3; have f4 : wy.frozen? ⟨w.heap.size + 1, 4, none⟩ = false := (HM2.out.below HBz.out).f 4; have f5 : wy.frozen? ⟨w.heap.size + 1, 5, none⟩ = false := (HM2.out.below HBz.out).f 5; obtain ⟨W9, hW9⟩ : ∃ W9, setCells wy (w.heap.size + 1) 0 [.slice p0 x.pl.length d0, .slice p1 x.al.length d1, .slice p2 x.tl.length d2, .slice p3 x.ol.length d3, .slice p4 x.ap.length d4, .slice p5 x.be.length d5] = W9 := ⟨_, rfl⟩; have hgr : wy.grownBy W9 (some (w.heap.size + 1)) := hW9 ▸ grown_cells (g := w.heap.size + 1) [.slice p0 x.pl.length d0, .slice p1 x.al.length d1, .slice p2 x.tl.length d2, .slice p3 x.ol.length d3, .slice p4 x.ap.length d4, .slice p5 x.be.length d5] wy 0; have HS : Hid (Cb W9 (w.heap.size + 1) #[.slice p0 x.pl.length d0, .slice p1 x.al.length d1, .slice p2 x.tl.length d2, .slice p3 x.ol.length d3, .slice p4 x.ap.length d4, .slice p5 x.be.length d5] 30) := hW9 ▸ (Cb.full (HM2.out.below HBz.out) [.slice p0 x.pl.length d0, .slice p1 x.al.length d1, .slice p2 x.tl.length d2, .slice p3 x.ol.length d3, .slice p4 x.ap.length d4, .slice p5 x.be.length d5] rfl); have hn6 : ((((((wy.setCell ⟨w.heap.size + 1, 0, none⟩ (.slice p0 x.pl.length d0)).setCell ⟨w.heap.size + 1, 1, none⟩ (.slice p1 x.al.length d1)).setCell ⟨w.heap.size + 1, 2, none⟩ (.slice p2 x.tl.length d2)).setCell ⟨w.heap.size + 1, 3, none⟩ (.slice p3 x.ol.length d3)).setCell ⟨w.heap.size + 1, 4, none⟩ (.slice p4 x.ap.length d4)).setCell ⟨w.heap.size + 1, 5, none⟩ (.slice p5 x.be.length d5)) = W9 := (cells6 wy (w.heap.size + 1) (.slice p0 x.pl.length d0) (.slice p1 x.al.length d1) (.slice p2 x.tl.length d2) (.slice p3 x.ol.length d3) (.slice p4 x.ap.length d4) (.slice p5 x.be.length d5)).trans hW9; clear hW9; have s0 : W9.cell? ⟨w.heap.size, 0, none⟩ = some (.slice o0 x.pl.length c0) := ((HM1.out.below HBz.out).kept hgr (by omega)).cell 0 rfl; have s1 : W9.cell? ⟨w.heap.size, 1, none⟩ = some (.slice o1 x.al.length c1) := ((HM1.out.below HBz.out).kept hgr (by omega)).cell 1 rfl; have s2 : W9.cell? ⟨w.heap.size, 2, none⟩ = some (.slice o2 x.tl.length c2) := ((HM1.out.below HBz.out).kept hgr (by omega)).cell 2 rfl; have s3 : W9.cell? ⟨w.heap.size, 3, none⟩ = some (.slice o3 x.ol.length c3) := ((HM1.out.below HBz.out).kept hgr (by omega)).cell 3 rfl; have s4 : W9.cell? ⟨w.heap.size, 4, none⟩ = some (.slice o4 x.ap.length c4) := ((HM1.out.below HBz.out).kept hgr (by omega)).cell 4 rfl; have s5 : W9.cell? ⟨w.heap.size, 5, none⟩ = some (.slice o5 x.be.length c5) := ((HM1.out.below HBz.out).kept hgr (by omega)).cell 5 rfl; have HGr := Lib.hid hgr; clear hgr))
 all_goals
  have HR : Hid (InsM (w.heap.size + 2) wy ⟨p0, d0, p1, d1, p2, d2, p3, d3, p4, d4, p5, d5⟩ x) := ⟨R0.out, F0.out, R1.out, R2.out, R3.out, R4.out, F4.out, R5.out, F5.out⟩
  have HR2 := Lib.hid (HR.out.kept HGr.out (by omega))
  have HB2 := Lib.hid ((HB.out.trans (HBz.out.mono (by omega))).grown HGr.out (by have := HBz.out.size; omega) (fun x e => by simp only [Option.some.injEq] at e; omega))
  clear hn6
  have g0 : W9.cell? ⟨w.heap.size + 1, 0, none⟩ = some (.slice p0 x.pl.length d0) := HS.out.cell 0 rfl
  have g1 : W9.cell? ⟨w.heap.size + 1, 1, none⟩ = some (.slice p1 x.al.length d1) := HS.out.cell 1 rfl
  have g2 : W9.cell? ⟨w.heap.size + 1, 2, none⟩ = some (.slice p2 x.tl.length d2) := HS.out.cell 2 rfl
  have g3 : W9.cell? ⟨w.heap.size + 1, 3, none⟩ = some (.slice p3 x.ol.length d3) := HS.out.cell 3 rfl
  have g4 : W9.cell? ⟨w.heap.size + 1, 4, none⟩ = some (.slice p4 x.ap.length d4) := HS.out.cell 4 rfl
  have g5 : W9.cell? ⟨w.heap.size + 1, 5, none⟩ = some (.slice p5 x.be.length d5) := HS.out.cell 5 rfl
  clear HR HGr R0 R1 R2 R3 R4 R5 m0 n0 f0 s0 m1 n1 f1 s1 m2 n2 f2 s2 m3 n3 f3 s3 m4 n4 f4 s4 m5 n5 f5 s5
  go_wp2_with fail
  refine bodyPost_ret (v := .agg #[.slice p0 x.pl.length d0, .slice p1 x.al.length d1, .slice p2 x.tl.length d2, .slice p3 x.ol.length d3, .slice p4 x.ap.length d4, .slice p5 x.be.length d5]) (by simp [results, Tryz.results50, go_sem, g0, g1, g2, g3, g4, g5]) rfl ⟨⟨p0, d0, p1, d1, p2, d2, p3, d3, p4, d4, p5, d5⟩, rfl, HR2.out.mono (by omega), HB2.out, HD3.out⟩
end Go.Proofs.YtaallpebfcadjaaGreatDoor.T

