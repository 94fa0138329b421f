/-
  DERIVED. KQD: a part of the base of layer 13 (made by pack.py).
-/
import Derived.Test.YtaallpebfcadjaaGreatDoorKPG
import Derived.Test.YtaallpebfcadjaaGreatDoorKPU
import Derived.Test.YtaallpebfcadjaaGreatDoorKQA
/-! The rules of the landed order's appendFaults, for any order (written by gen_ordchk3.py). -/
namespace Go.Proofs.YtaallpebfcadjaaGreatDoor.T
open Go.RowKit
set_option maxRecDepth 8000

/-- a block of limits -/
def Lm (w : World) (n : Nat) (x y z : Value) : Prop := w.heap[n]? = some (.cells #[x, y, z] 92)
section
variable {w w' : World} {n : Nat} {x y z : Value}
theorem Lm.c0 (h : Lm w n x y z) : w.cell? ⟨n, 0, none⟩ = some x := by unfold Lm at h; simp [World.cell?, h]
theorem Lm.c1 (h : Lm w n x y z) : w.cell? ⟨n, 1, none⟩ = some y := by unfold Lm at h; simp [World.cell?, h]
theorem Lm.c2 (h : Lm w n x y z) : w.cell? ⟨n, 2, none⟩ = some z := by unfold Lm at h; simp [World.cell?, h]
theorem Lm.lt (h : Lm w n x y z) : n < w.heap.size := by
  unfold Lm at h
  exact (Array.getElem?_eq_some_iff.1 h).1
theorem Lm.below (h : Lm w n x y z) (hb : Below w.heap.size w w') : Lm w' n x y z := (hb.block n h.lt).trans h
theorem Lm.made (w : World) (x y z : Value) : Lm (w.alloc (.cells #[x, y, z] 92)) w.heap.size x y z := by
  show (w.heap.push _)[w.heap.size]? = _
  simp
end
/-- a guarded call that makes memory, whose guard is a letter -/
theorem call_below {P : Program} {ops : Array Oper} {Q : Exit → Act → World → Prop} {o : Oper} {a : Act} {w : World} {K : Act → World → Prop} (c : Bool) (v : Value) (hw : Region.wanted o (yielded ops a.tmps) = c)
    (hcall : c = true → ∀ K' : Act → World → Prop, (∀ w', Below w.heap.size w w' → K' (a.put o.dst v) w') → Oper.wp P o a w K' Q) (h : ∀ w', Below w.heap.size w w' → K (a.put o.dst (bif c then v else undef)) w') :
    if Region.wanted o (yielded ops a.tmps) = true then Oper.wp P o a w K Q else K (a.put o.dst undef) w := by
  cases c
  · rw [hw]; exact h w (Below.refl _ _)
  · rw [hw]; exact hcall rfl K h
/-- a load of an order whose block is known -/
theorem exec_ord {o : Oper} {a : Act} {x : Operand} {n : Nat} {w : World} {x0 x1 x2 x3 x4 x5 x6 x7 x8 x9 x10 x11 x12 x13 x14 x15 : Value} (ho : o.op = Op.load 44 x) (hx : a.eval x = .pointer (some ⟨n, 0, none⟩)) (h : Ob w n x0 x1 x2 x3 x4 x5 x6 x7 x8 x9 x10 x11 x12 x13 x14 x15) :
    (execOp a.eval o).run Tryz.prog w = .ok (.value (.agg #[x0, x1, x2, x3, x4, x5, x6, x7, x8, x9, x10, x11, x12, x13, x14, x15])) w := by
  have c0 := h.c0
  have c1 := h.c1
  have c2 := h.c2
  have c3 := h.c3
  have c4 := h.c4
  have c5 := h.c5
  have c6 := h.c6
  have c7 := h.c7
  have c8 := h.c8
  have c9 := h.c9
  have c10 := h.c10
  have c11 := h.c11
  have c12 := h.c12
  have c13 := h.c13
  have c14 := h.c14
  have c15 := h.c15
  clear h
  unfold execOp
  rw [ho]
  simp only [hx]
  go_simp
theorem ap_h1 {B : Nat} {w : World} {v : Value} {l : List (Int × ByteArray)} (ty : TypeId) (x : Int) (s : ByteArray) (hv : Gl B w v l) (hB : B ≤ w.heap.size) (hn : l.length ≤ 90000000) :
    ∃ v' w', (Builtin.append_ #[33, 33] ty #[v, .slice (some ⟨w.heap.size, 0, none⟩) 1 1]).run Tryz.prog (w.alloc (.cells #[.int .i64 x, .string s] 37)) = .ok v' w' ∧ (Gl B w' v' (l ++ [(x, s)]) ∧ Below B w w' ∧ (w.alloc (.cells #[.int .i64 x, .string s] 37)).grownBy w' v.ownBlock ∧ (v'.ownBlock = v.ownBlock ∨ v'.ownBlock = some (w.heap.size + 1))) := by
  obtain ⟨v', w', hr, h2, h3, h4, h5⟩ := ap_f (w := w.alloc (.cells #[.int .i64 x, .string s] 37)) (m := [(x, s)]) ty (hv.frame (below_alloc _ _)) (lf_one w x s) (by simp; omega) (by simp; omega)
  rw [World.size_alloc] at h5
  exact ⟨v', w', hr, h2, ((below_alloc w _).mono hB).trans h3, h4, h5⟩
theorem ordDecimal_n (i : Nat) (hi : i ≤ 1000000000) (w : World) (ht : Tab w) :
    Calls Tryz.prog 94 #[.int .i64 (i : Int)] w fun e w' => e = .returned (.string (dec i)) ∧ Below w.heap.size w w' := by
  have K := Lib.hid (fun w ht => itoa_n i hi w ht)
  have HT := Lib.hid ht
  clear ht
  go_enter Tryz.func94, Tryz.ntmps94
  go_wp2_with fail
  refine (K.out _ HT.out).mono ?_
  rintro e w1 ⟨rfl, b1⟩
  go_wp2_with fail
  go_ret
  exact ⟨rfl, b1⟩
theorem isSplit_n (nm : ByteArray) (vc : Value) (pp po pc ps dp dd dc ds sk pen spl las now : Int) (off : Bool) (w : World) :
    Calls Tryz.prog 104 #[.agg #[.string nm, vc, .int .i64 pp, .int .i64 po, .int .i64 pc, .int .i64 ps, .int .i64 dp, .int .i64 dd, .int .i64 dc, .int .i64 ds, .int .i64 sk, .int .i64 pen, .int .i64 spl, .int .i64 las, .int .i64 now, .bool off]] w fun e w' => e = .returned (.bool (isSplB pp dp spl)) ∧ Below w.heap.size w w' := by
  by_cases h1 : spl = 1
  · subst h1
    have HR : Hid (isSplB pp dp 1 = true) := rfl
    rw [HR.out]
    exact isSplit_one nm vc pp po pc ps dp dd dc ds sk pen las now off w
  have h1I := ne_eqI h1
  have K := Lib.hid (fun w => isFrom_n 2 spl 4 w)
  have HR : Hid (isSplB pp dp spl = (rgB 2 4 spl && ((pp == -1) || (dp == -1)))) := by
    show _ = _
    unfold isSplB
    have e1 : ∀ x : Int, decide (x = -1) = (x == -1) := fun x => by rw [Bool.eq_iff_iff, decide_eq_true_iff, beq_iff_eq]
    rw [decide_eq_false h1, Bool.false_or, e1, e1]
  generalize isSplB pp dp spl = r at *
  generalize rgB 2 4 spl = b at *
  generalize hz1 : (pp == -1) = z1 at *
  generalize hz2 : (dp == -1) = z2 at *
  clear h1
  cases b
  · have HX : Hid (r = false) := by show _ = _; rw [HR.out]; rfl
    go_enter Tryz.func104, Tryz.ntmps104
    go_wp2_with fail
    refine (K.out _).mono ?_
    rintro e w1 ⟨rfl, rfl⟩
    go_wp2_with fail
    go_ret
    exact ⟨ret_bool (by rw [HX.out]), by go_grown⟩
  · cases z1
    · have HX : Hid (r = z2) := by show _ = _; rw [HR.out]; simp
      go_enter Tryz.func104, Tryz.ntmps104
      go_wp2_with fail
      refine (K.out _).mono ?_
      rintro e w1 ⟨rfl, rfl⟩
      go_wp2_with fail
      go_ret
      exact ⟨ret_bool (by rw [HX.out]), by go_grown⟩
    · have HX : Hid (r = true) := by show _ = _; rw [HR.out]; simp
      go_enter Tryz.func104, Tryz.ntmps104
      go_wp2_with fail
      refine (K.out _).mono ?_
      rintro e w1 ⟨rfl, rfl⟩
      go_wp2_with fail
      go_ret
      exact ⟨ret_bool (by rw [HX.out]), by go_grown⟩
theorem brkO_step {l : List (Bool × Int)} {k : Nat} (h : k < l.length) : brkO (l.take (k + 1)) = brkO (l.take k) ++ (if (l.getD k (false, 0)).1 then [] else [(l.getD k (false, 0)).2]) := by
  rw [take_more (d := (false, 0)) h]
  unfold brkO
  rw [List.filter_append, List.map_append]
  congr 1
  generalize l.getD k (false, 0) = x
  obtain ⟨b, e⟩ := x
  cases b <;> rfl
theorem brkO_len (l : List (Bool × Int)) (k : Nat) : (brkO (l.take k)).length ≤ k := by
  unfold brkO
  rw [List.length_map]
  refine Nat.le_trans (List.length_filter_le _ _) ?_
  rw [List.length_take]
  omega
def qE (x : Bool × Int) : Value := .bool x.1
def qA (x : Bool × Int) : Value := .int .i64 x.2
theorem rules8 (w : World) (b0 b1 b2 b3 b4 b5 b6 b7 : Bool) (x0 x1 x2 x3 x4 x5 x6 x7 : Int) (t : TypeId) :
    Sl qE qA (false, 0) (w.alloc (.cells #[.bool b0, .int .i64 x0, .bool b1, .int .i64 x1, .bool b2, .int .i64 x2, .bool b3, .int .i64 x3, .bool b4, .int .i64 x4, .bool b5, .int .i64 x5, .bool b6, .int .i64 x6, .bool b7, .int .i64 x7] t)) (.slice (some ⟨w.heap.size, 0, none⟩) 8 8)
      [(b0, x0), (b1, x1), (b2, x2), (b3, x3), (b4, x4), (b5, x5), (b6, x6), (b7, x7)] := by
  refine ⟨some ⟨w.heap.size, 0, none⟩, 8, rfl, fun i hi => ⟨w.heap.size, 0, rfl, by simp, ?_⟩⟩
  have h8 : i < 8 := hi
  match i, h8 with
  | 0, _ => exact ⟨by simp [qE], by simp [qA]⟩
  | 1, _ => exact ⟨by simp [qE], by simp [qA]⟩
  | 2, _ => exact ⟨by simp [qE], by simp [qA]⟩
  | 3, _ => exact ⟨by simp [qE], by simp [qA]⟩
  | 4, _ => exact ⟨by simp [qE], by simp [qA]⟩
  | 5, _ => exact ⟨by simp [qE], by simp [qA]⟩
  | 6, _ => exact ⟨by simp [qE], by simp [qA]⟩
  | 7, _ => exact ⟨by simp [qE], by simp [qA]⟩

theorem rulO_eq (np : Nat) (dims types : Int) (a : OrT) (tw : Bool) : rulO np dims types a tw = [(nmT a.name, 5), (!tw, 6), (L.rightB a.load dims, 17), (rgN a.pp np && rgN a.dp np, 11), ((a.pp != -1) || (a.dp != -1), 19), ((V.chk a.pp a.po a.pc a.ps == 0) && (V.chk a.dp a.dd a.dc a.ds == 0), 14), (rgB 0 1073741823 a.sk, 18), (((rgB (-1) 1000000 a.pen && isSplB a.pp a.dp a.spl) && rgN a.las types) && rgN a.now types, 2)] := by
  unfold rulO
  have e1 : ∀ x : Int, decide (x ≠ -1) = (x != -1) := fun x => by rw [Bool.eq_iff_iff, decide_eq_true_iff, bne_iff_ne]
  have e2 : ∀ x : Int, decide (x = 0) = (x == 0) := fun x => by rw [Bool.eq_iff_iff, decide_eq_true_iff, beq_iff_eq]
  rw [e1, e1, e2, e2]
/-- what the rules' region leaves -/
def RlP (l : List (Bool × Int)) (w : World) (t n i : Value) (w' : World) : Prop := ∃ q, w.heap.size ≤ q ∧ t = .slice (some ⟨q, 0, none⟩) 8 8 ∧ n = .int .i64 8 ∧ i = .int .i64 0 ∧ Hid (Sl qE qA (false, 0) w' (.slice (some ⟨q, 0, none⟩) 8 8) l) ∧ Hid (Below w.heap.size w w')

set_option maxHeartbeats 40000000 in
theorem appendFaults_g (B0 np k : Nat) (dims types : Int) (a : OrT) (oc : Option Addr) (cc : Nat) (tw : Bool) (v : Value) (fl : List (Int × ByteArray)) (hl9 : a.load.length ≤ 1000000000) (hk9 : k ≤ 1000000000) (hfl : fl.length ≤ 1000000) (w : World) (hB0 : B0 ≤ w.heap.size) (hTl : 2 < B0) (hT : Tab w) (hG : Gl B0 w v fl) (hc : L.Li w (.slice oc a.load.length cc) a.load) :
    Calls Tryz.prog 62 #[.agg #[.int .i64 (np : Int), .int .i64 dims, .int .i64 types], v, .int .i64 k, orV a (.slice oc a.load.length cc), .bool tw] w fun e w' => ∃ v', e = .returned v' ∧ Gl B0 w' v' (fl ++ atT k (brkO (rulO np dims types a tw))) ∧ Below B0 w w' ∧ (∀ g, v'.ownBlock = some g → v.ownBlock = some g ∨ w.heap.size ≤ g) ∧ (∀ x, x < w.heap.size → some x ≠ v.ownBlock → w'.heap[x]? = w.heap[x]?) := by
  obtain ⟨nm, load, pp, po, pc, ps, dp, dd, dc, ds, sk, pen, spl, las, now, off⟩ := a
  unfold orV
  simp only at hc hl9 ⊢
  have BL := below_alloc w (.cells #[.int .i64 (np : Int), .int .i64 dims, .int .i64 types] 92)
  have BO := below_alloc (w.alloc (.cells #[.int .i64 (np : Int), .int .i64 dims, .int .i64 types] 92)) (.cells #[.string nm, .slice oc load.length cc, .int .i64 pp, .int .i64 po, .int .i64 pc, .int .i64 ps, .int .i64 dp, .int .i64 dd, .int .i64 dc, .int .i64 ds, .int .i64 sk, .int .i64 pen, .int .i64 spl, .int .i64 las, .int .i64 now, .bool off] 44)
  have L0 := (Lm.made w (.int .i64 (np : Int)) (.int .i64 dims) (.int .i64 types)).below BO
  have T0 := Ob.made (w.alloc (.cells #[.int .i64 (np : Int), .int .i64 dims, .int .i64 types] 92)) (.string nm) (.slice oc load.length cc) (.int .i64 pp) (.int .i64 po) (.int .i64 pc) (.int .i64 ps) (.int .i64 dp) (.int .i64 dd) (.int .i64 dc) (.int .i64 ds) (.int .i64 sk) (.int .i64 pen) (.int .i64 spl) (.int .i64 las) (.int .i64 now) (.bool off)
  rw [show (w.alloc (.cells #[.int .i64 (np : Int), .int .i64 dims, .int .i64 types] 92)).heap.size = w.heap.size + 1 by simp] at T0
  have BB := over BL BO
  have HC := hc.below BB
  have HGw := Lib.hid hG
  have hGv := Lib.hid hG
  have HTw := Lib.hid hT
  have HTv := Lib.hid hT
  have HR0 : Hid (∀ b0 b2 b3 b3' z1 z2 z5 z6 b7 b8 b9 b10 b11 : Bool, nmT nm = b0 → L.rightB load dims = b2 → rgN pp np = b3 → rgN dp np = b3' → (pp != -1) = z1 → (dp != -1) = z2 → (V.chk pp po pc ps == 0) = z5 → (V.chk dp dd dc ds == 0) = z6 → rgB 0 1073741823 sk = b7 → rgB (-1) 1000000 pen = b8 → isSplB pp dp spl = b9 → rgN las types = b10 → rgN now types = b11 → rulO np dims types ⟨nm, load, pp, po, pc, ps, dp, dd, dc, ds, sk, pen, spl, las, now, off⟩ tw = [(b0, 5), (!tw, 6), (b2, 17), (b3 && b3', 11), (z1 || z2, 19), (z5 && z6, 14), (b7, 18), (((b8 && b9) && b10) && b11, 2)]) := by
    intro b0 b2 b3 b3' z1 z2 z5 z6 b7 b8 b9 b10 b11 h0 h1 h2 h3 h4 h5 h6 h7 h8 h9 h10 h11 h12
    subst h0 h1 h2 h3 h4 h5 h6 h7 h8 h9 h10 h11 h12
    exact rulO_eq np dims types ⟨nm, load, pp, po, pc, ps, dp, dd, dc, ds, sk, pen, spl, las, now, off⟩ tw
  have KN := Lib.hid (fun w => name_any nm w)
  have KL := Lib.hid (fun w hu => L.loadRight_n (.slice oc load.length cc) load dims (by omega) w hu)
  have KP := Lib.hid (fun w => hasPlace_n np dims types pp po pc ps w)
  have KD := Lib.hid (fun w => hasPlace_n np dims types dp dd dc ds w)
  have KW := Lib.hid (fun w => V.check_n pp po pc ps w)
  have KV := Lib.hid (fun w => V.check_n dp dd dc ds w)
  have KS := Lib.hid (fun w => isFrom_n 0 sk 1073741823 w)
  have KE := Lib.hid (fun w => isFrom_n (-1) pen 1000000 w)
  have K9 := Lib.hid (fun w => isSplit_n nm (.slice oc load.length cc) pp po pc ps dp dd dc ds sk pen spl las now off w)
  have K10 := Lib.hid (fun w => isType_n np dims types las w)
  have K11 := Lib.hid (fun w => isType_n np dims types now w)
  obtain ⟨b0, h0⟩ : ∃ b, nmT nm = b := ⟨_, rfl⟩
  obtain ⟨b2, h1⟩ : ∃ b, L.rightB load dims = b := ⟨_, rfl⟩
  obtain ⟨b3, h2⟩ : ∃ b, rgN pp np = b := ⟨_, rfl⟩
  obtain ⟨b3', h3⟩ : ∃ b, rgN dp np = b := ⟨_, rfl⟩
  obtain ⟨z1, h4⟩ : ∃ b, (pp != -1) = b := ⟨_, rfl⟩
  obtain ⟨z2, h5⟩ : ∃ b, (dp != -1) = b := ⟨_, rfl⟩
  obtain ⟨z5, h6⟩ : ∃ b, (V.chk pp po pc ps == 0) = b := ⟨_, rfl⟩
  obtain ⟨z6, h7⟩ : ∃ b, (V.chk dp dd dc ds == 0) = b := ⟨_, rfl⟩
  obtain ⟨b7, h8⟩ : ∃ b, rgB 0 1073741823 sk = b := ⟨_, rfl⟩
  obtain ⟨b8, h9⟩ : ∃ b, rgB (-1) 1000000 pen = b := ⟨_, rfl⟩
  obtain ⟨b9, h10⟩ : ∃ b, isSplB pp dp spl = b := ⟨_, rfl⟩
  obtain ⟨b10, h11⟩ : ∃ b, rgN las types = b := ⟨_, rfl⟩
  obtain ⟨b11, h12⟩ : ∃ b, rgN now types = b := ⟨_, rfl⟩
  have HR := Lib.hid (HR0.out b0 b2 b3 b3' z1 z2 z5 z6 b7 b8 b9 b10 b11 h0 h1 h2 h3 h4 h5 h6 h7 h8 h9 h10 h11 h12)
  clear HR0
  have KN : Hid (∀ w, Calls Tryz.prog 95 #[.string nm] w fun e w' => e = .returned (.bool b0) ∧ w = w') := fun w => by have := KN.out w; rw [show nameB nm.data.toList = b0 from h0] at this; exact this
  rw [h1] at KL
  rw [h2] at KP
  rw [h3] at KD
  obtain ⟨c5, hc5⟩ : ∃ c, V.chk pp po pc ps = c := ⟨_, rfl⟩
  obtain ⟨c6, hc6⟩ : ∃ c, V.chk dp dd dc ds = c := ⟨_, rfl⟩
  rw [hc5] at KW h6
  rw [hc6] at KV h7
  rw [h8] at KS
  rw [h9] at KE
  rw [h10] at K9
  rw [h11] at K10
  rw [h12] at K11
  clear h0 h1 h2 h3 h8 h9 h10 h11 h12 hc5 hc6
  obtain ⟨W0, hW0⟩ : ∃ W0, (w.alloc (.cells #[.int .i64 (np : Int), .int .i64 dims, .int .i64 types] 92)).alloc (.cells #[.string nm, .slice oc load.length cc, .int .i64 pp, .int .i64 po, .int .i64 pc, .int .i64 ps, .int .i64 dp, .int .i64 dd, .int .i64 dc, .int .i64 ds, .int .i64 sk, .int .i64 pen, .int .i64 spl, .int .i64 las, .int .i64 now, .bool off] 44) = W0 := ⟨_, rfl⟩
  rw [hW0] at L0 T0 BB HC
  have HB := Lib.hid (below_drew BB)
  have hT0 : Ob W0.drew (w.heap.size + 1) (.string nm) (.slice oc load.length cc) (.int .i64 pp) (.int .i64 po) (.int .i64 pc) (.int .i64 ps) (.int .i64 dp) (.int .i64 dd) (.int .i64 dc) (.int .i64 ds) (.int .i64 sk) (.int .i64 pen) (.int .i64 spl) (.int .i64 las) (.int .i64 now) (.bool off) := T0
  have hL0 : Lm W0.drew w.heap.size (.int .i64 (np : Int)) (.int .i64 dims) (.int .i64 types) := L0
  have HC : Hid (L.Li W0.drew (.slice oc load.length cc) load) := HC
  clear hc hG hT BL BO BB T0 L0
  go_enter Tryz.func62, Tryz.ntmps62
  go_wp2_with fail
  clear hW0
  go_cut [83, 84, 85] from 13 to 85 (fun t n i wx => RlP (rulO np dims types ⟨nm, load, pp, po, pc, ps, dp, dd, dc, ds, sk, pen, spl, las, now, off⟩ tw) w t n i wx)
  case first =>
    refine wp_region_noPanic ?_
    refine wp_region_held_drew (S := fun w' => Lm w' w.heap.size (.int .i64 (np : Int)) (.int .i64 dims) (.int .i64 types) ∧ Ob w' (w.heap.size + 1) (.string nm) (.slice oc load.length cc) (.int .i64 pp) (.int .i64 po) (.int .i64 pc) (.int .i64 ps) (.int .i64 dp) (.int .i64 dd) (.int .i64 dc) (.int .i64 ds) (.int .i64 sk) (.int .i64 pen) (.int .i64 spl) (.int .i64 las) (.int .i64 now) (.bool off)) (by kernel_rfl) ⟨hL0, hT0⟩ (fun hHeld => ?_)
    clear hL0 hT0
    refine wpAnyH_take (i := 0) (oi := { dst := some 13, op := Op.fieldAddr 44 (Operand.tmp 8) 0, type := 0, pos := "faults.go:25", after := #[], guard := none }) (v := .pointer (some ⟨w.heap.size + 1, 0, none⟩)) rfl (by kernel_rfl) (by kernel_rfl) (by kernel_rfl) (fun _ _ _ h => h) (Or.inl ⟨by rfl, by (intro w0 hSw; clear hSw; go_simp)⟩) hHeld ?_
    simp only [Act.put, List.setIfInBounds_toArray, List.set_cons_zero, List.set_cons_succ]
    refine wpAnyH_take (i := 1) (oi := { dst := some 14, op := Op.load 9 (Operand.tmp 13), type := 9, pos := "faults.go:25", after := #[{ on := 0, ground := Ground.data }], guard := none }) (v := .string nm) rfl (by kernel_rfl) (by kernel_rfl) (by kernel_rfl) (fun _ _ _ h => h) (Or.inl ⟨by rfl, by (intro w0 hSw; have q0 := hSw.2.c0; clear hSw; go_simp)⟩) hHeld ?_
    simp only [Act.put, List.setIfInBounds_toArray, List.set_cons_zero, List.set_cons_succ]
    refine wpAnyH_take (i := 4) (oi := { dst := some 17, op := Op.move (Operand.tmp 4), type := 4, pos := "faults.go:25", after := #[], guard := none }) (v := .bool tw) rfl (by kernel_rfl) (by kernel_rfl) (by kernel_rfl) (fun _ _ _ h => h) (Or.inl ⟨by rfl, by (intro w0 hSw; clear hSw; go_simp)⟩) hHeld ?_
    simp only [Act.put, List.setIfInBounds_toArray, List.set_cons_zero, List.set_cons_succ]
    refine wpAnyH_take (i := 5) (oi := { dst := some 18, op := Op.unOp UnOp.not 4 (Operand.tmp 17), type := 4, pos := "faults.go:25", after := #[{ on := 4, ground := Ground.data }], guard := none }) (v := .bool (!tw)) rfl (by kernel_rfl) (by kernel_rfl) (by kernel_rfl) (fun _ _ _ h => h) (Or.inl ⟨by rfl, by (intro w0 hSw; clear hSw; go_simp)⟩) hHeld ?_
    simp only [Act.put, List.setIfInBounds_toArray, List.set_cons_zero, List.set_cons_succ]
    refine wpAnyH_take (i := 6) (oi := { dst := some 19, op := Op.build 133 #[(0, Operand.tmp 18), (1, Operand.const (Value.int IntKind.i64 6))], type := 133, pos := "faults.go:25", after := #[{ on := 5, ground := Ground.data }], guard := none }) (v := .agg #[.bool (!tw), .int .i64 6]) rfl (by kernel_rfl) (by kernel_rfl) (by kernel_rfl) (fun _ _ _ h => h) (Or.inl ⟨by rfl, by (intro w0 hSw; clear hSw; go_simp)⟩) hHeld ?_
    simp only [Act.put, List.setIfInBounds_toArray, List.set_cons_zero, List.set_cons_succ]
    refine wpAnyH_take (i := 7) (oi := { dst := some 20, op := Op.fieldAddr 44 (Operand.tmp 8) 1, type := 0, pos := "faults.go:25", after := #[], guard := none }) (v := .pointer (some ⟨w.heap.size + 1, 1, none⟩)) rfl (by kernel_rfl) (by kernel_rfl) (by kernel_rfl) (fun _ _ _ h => h) (Or.inl ⟨by rfl, by (intro w0 hSw; clear hSw; go_simp)⟩) hHeld ?_
    simp only [Act.put, List.setIfInBounds_toArray, List.set_cons_zero, List.set_cons_succ]
    refine wpAnyH_take (i := 8) (oi := { dst := some 21, op := Op.load 40 (Operand.tmp 20), type := 40, pos := "faults.go:25", after := #[{ on := 7, ground := Ground.data }], guard := none }) (v := .slice oc load.length cc) rfl (by kernel_rfl) (by kernel_rfl) (by kernel_rfl) (fun _ _ _ h => h) (Or.inl ⟨by rfl, by (intro w0 hSw; have q0 := hSw.2.c1; clear hSw; go_simp)⟩) hHeld ?_
    simp only [Act.put, List.setIfInBounds_toArray, List.set_cons_zero, List.set_cons_succ]
    refine wpAnyH_take (i := 9) (oi := { dst := some 22, op := Op.fieldAddr 92 (Operand.tmp 5) 1, type := 0, pos := "faults.go:25", after := #[], guard := none }) (v := .pointer (some ⟨w.heap.size, 1, none⟩)) rfl (by kernel_rfl) (by kernel_rfl) (by kernel_rfl) (fun _ _ _ h => h) (Or.inl ⟨by rfl, by (intro w0 hSw; clear hSw; go_simp)⟩) hHeld ?_
    simp only [Act.put, List.setIfInBounds_toArray, List.set_cons_zero, List.set_cons_succ]
    refine wpAnyH_take (i := 10) (oi := { dst := some 23, op := Op.load 3 (Operand.tmp 22), type := 3, pos := "faults.go:25", after := #[{ on := 9, ground := Ground.data }], guard := none }) (v := .int .i64 dims) rfl (by kernel_rfl) (by kernel_rfl) (by kernel_rfl) (fun _ _ _ h => h) (Or.inl ⟨by rfl, by (intro w0 hSw; have q0 := hSw.1.c1; clear hSw; go_simp)⟩) hHeld ?_
    simp only [Act.put, List.setIfInBounds_toArray, List.set_cons_zero, List.set_cons_succ]
    refine wpAnyH_take (i := 13) (oi := { dst := some 26, op := Op.load 92 (Operand.tmp 5), type := 92, pos := "faults.go:25", after := #[], guard := none }) (v := .agg #[.int .i64 (np : Int), .int .i64 dims, .int .i64 types]) rfl (by kernel_rfl) (by kernel_rfl) (by kernel_rfl) (fun _ _ _ h => h) (Or.inl ⟨by rfl, by (intro w0 hSw; have q0 := hSw.1.c0; have q1 := hSw.1.c1; have q2 := hSw.1.c2; clear hSw; go_simp)⟩) hHeld ?_
    simp only [Act.put, List.setIfInBounds_toArray, List.set_cons_zero, List.set_cons_succ]
    refine wpAnyH_take (i := 14) (oi := { dst := some 27, op := Op.fieldAddr 44 (Operand.tmp 8) 2, type := 0, pos := "faults.go:25", after := #[], guard := none }) (v := .pointer (some ⟨w.heap.size + 1, 2, none⟩)) rfl (by kernel_rfl) (by kernel_rfl) (by kernel_rfl) (fun _ _ _ h => h) (Or.inl ⟨by rfl, by (intro w0 hSw; clear hSw; go_simp)⟩) hHeld ?_
    simp only [Act.put, List.setIfInBounds_toArray, List.set_cons_zero, List.set_cons_succ]
    refine wpAnyH_take (i := 15) (oi := { dst := some 28, op := Op.load 42 (Operand.tmp 27), type := 42, pos := "faults.go:25", after := #[{ on := 14, ground := Ground.data }], guard := none }) (v := .agg #[.int .i64 pp, .int .i64 po, .int .i64 pc, .int .i64 ps]) rfl (by kernel_rfl) (by kernel_rfl) (by kernel_rfl) (fun _ _ _ h => h) (Or.inl ⟨by rfl, by (intro w0 hSw; have q0 := hSw.2.c2; have q1 := hSw.2.c3; have q2 := hSw.2.c4; have q3 := hSw.2.c5; clear hSw; go_simp)⟩) hHeld ?_
    simp only [Act.put, List.setIfInBounds_toArray, List.set_cons_zero, List.set_cons_succ]
    refine wpAnyH_take (i := 24) (oi := { dst := some 37, op := Op.fieldAddr 44 (Operand.tmp 8) 2, type := 0, pos := "faults.go:25", after := #[], guard := none }) (v := .pointer (some ⟨w.heap.size + 1, 2, none⟩)) rfl (by kernel_rfl) (by kernel_rfl) (by kernel_rfl) (fun _ _ _ h => h) (Or.inl ⟨by rfl, by (intro w0 hSw; clear hSw; go_simp)⟩) hHeld ?_
    simp only [Act.put, List.setIfInBounds_toArray, List.set_cons_zero, List.set_cons_succ]
    refine wpAnyH_take (i := 25) (oi := { dst := some 38, op := Op.fieldAddr 42 (Operand.tmp 37) 0, type := 0, pos := "faults.go:25", after := #[{ on := 24, ground := Ground.data }], guard := none }) (v := .pointer (some ⟨w.heap.size + 1, 2, none⟩)) rfl (by kernel_rfl) (by kernel_rfl) (by kernel_rfl) (fun _ _ _ h => h) (Or.inl ⟨by rfl, by (intro w0 hSw; clear hSw; go_simp)⟩) hHeld ?_
    simp only [Act.put, List.setIfInBounds_toArray, List.set_cons_zero, List.set_cons_succ]
    refine wpAnyH_take (i := 26) (oi := { dst := some 39, op := Op.load 3 (Operand.tmp 38), type := 3, pos := "faults.go:25", after := #[{ on := 25, ground := Ground.data }], guard := none }) (v := .int .i64 pp) rfl (by kernel_rfl) (by kernel_rfl) (by kernel_rfl) (fun _ _ _ h => h) (Or.inl ⟨by rfl, by (intro w0 hSw; have q0 := hSw.2.c2; clear hSw; go_simp)⟩) hHeld ?_
    simp only [Act.put, List.setIfInBounds_toArray, List.set_cons_zero, List.set_cons_succ]
    refine wpAnyH_take (i := 27) (oi := { dst := some 40, op := Op.binOp BinOp.neq 3 (Operand.tmp 39) (Operand.const (Value.int IntKind.i64 (-1))) 3, type := 4, pos := "faults.go:25", after := #[{ on := 26, ground := Ground.data }], guard := none }) (v := .bool z1) rfl (by kernel_rfl) (by kernel_rfl) (by kernel_rfl) (fun _ _ _ h => h) (Or.inl ⟨by rfl, by (intro w0 hSw; clear hSw; go_simp)⟩) hHeld ?_
    simp only [Act.put, List.setIfInBounds_toArray, List.set_cons_zero, List.set_cons_succ]
    refine wpAnyH_take (i := 35) (oi := { dst := some 48, op := Op.fieldAddr 44 (Operand.tmp 8) 2, type := 0, pos := "faults.go:25", after := #[], guard := none }) (v := .pointer (some ⟨w.heap.size + 1, 2, none⟩)) rfl (by kernel_rfl) (by kernel_rfl) (by kernel_rfl) (fun _ _ _ h => h) (Or.inl ⟨by rfl, by (intro w0 hSw; clear hSw; go_simp)⟩) hHeld ?_
    simp only [Act.put, List.setIfInBounds_toArray, List.set_cons_zero, List.set_cons_succ]
    refine wpAnyH_take (i := 36) (oi := { dst := some 49, op := Op.load 42 (Operand.tmp 48), type := 42, pos := "faults.go:25", after := #[{ on := 35, ground := Ground.data }], guard := none }) (v := .agg #[.int .i64 pp, .int .i64 po, .int .i64 pc, .int .i64 ps]) rfl (by kernel_rfl) (by kernel_rfl) (by kernel_rfl) (fun _ _ _ h => h) (Or.inl ⟨by rfl, by (intro w0 hSw; have q0 := hSw.2.c2; have q1 := hSw.2.c3; have q2 := hSw.2.c4; have q3 := hSw.2.c5; clear hSw; go_simp)⟩) hHeld ?_
    simp only [Act.put, List.setIfInBounds_toArray, List.set_cons_zero, List.set_cons_succ]
    refine wpAnyH_take (i := 46) (oi := { dst := some 59, op := Op.fieldAddr 44 (Operand.tmp 8) 4, type := 0, pos := "faults.go:25", after := #[], guard := none }) (v := .pointer (some ⟨w.heap.size + 1, 10, none⟩)) rfl (by kernel_rfl) (by kernel_rfl) (by kernel_rfl) (fun _ _ _ h => h) (Or.inl ⟨by rfl, by (intro w0 hSw; clear hSw; go_simp)⟩) hHeld ?_
    simp only [Act.put, List.setIfInBounds_toArray, List.set_cons_zero, List.set_cons_succ]
    refine wpAnyH_take (i := 47) (oi := { dst := some 60, op := Op.load 3 (Operand.tmp 59), type := 3, pos := "faults.go:25", after := #[{ on := 46, ground := Ground.data }], guard := none }) (v := .int .i64 sk) rfl (by kernel_rfl) (by kernel_rfl) (by kernel_rfl) (fun _ _ _ h => h) (Or.inl ⟨by rfl, by (intro w0 hSw; have q0 := hSw.2.c10; clear hSw; go_simp)⟩) hHeld ?_
    simp only [Act.put, List.setIfInBounds_toArray, List.set_cons_zero, List.set_cons_succ]
    refine wpAnyH_take (i := 50) (oi := { dst := some 63, op := Op.fieldAddr 44 (Operand.tmp 8) 5, type := 0, pos := "faults.go:25", after := #[], guard := none }) (v := .pointer (some ⟨w.heap.size + 1, 11, none⟩)) rfl (by kernel_rfl) (by kernel_rfl) (by kernel_rfl) (fun _ _ _ h => h) (Or.inl ⟨by rfl, by (intro w0 hSw; clear hSw; go_simp)⟩) hHeld ?_
    simp only [Act.put, List.setIfInBounds_toArray, List.set_cons_zero, List.set_cons_succ]
    refine wpAnyH_take (i := 51) (oi := { dst := some 64, op := Op.load 3 (Operand.tmp 63), type := 3, pos := "faults.go:25", after := #[{ on := 50, ground := Ground.data }], guard := none }) (v := .int .i64 pen) rfl (by kernel_rfl) (by kernel_rfl) (by kernel_rfl) (fun _ _ _ h => h) (Or.inl ⟨by rfl, by (intro w0 hSw; have q0 := hSw.2.c11; clear hSw; go_simp)⟩) hHeld ?_
    simp only [Act.put, List.setIfInBounds_toArray, List.set_cons_zero, List.set_cons_succ]
    refine wpAnyH_take (i := 72) (oi := { dst := some 85, op := Op.move (Operand.const (Value.int IntKind.i64 0)), type := 3, pos := "faults.go:25", after := #[], guard := none }) (v := .int .i64 0) rfl (by kernel_rfl) (by kernel_rfl) (by kernel_rfl) (fun _ _ _ h => h) (Or.inl ⟨by rfl, by (intro w0 hSw; clear hSw; go_simp)⟩) hHeld ?_
    simp only [Act.put, List.setIfInBounds_toArray, List.set_cons_zero, List.set_cons_succ]
    refine wpAnyH_ready (rs := [2]) (by kernel_rfl) (by simp) ?_
    refine AllReadyH.cons (o := { dst := some 15, op := Op.call { callee := Callee.value (Operand.func 95), args := #[Operand.tmp 14], argTypes := #[9] }, type := 4, pos := "faults.go:29", after := #[{ on := 1, ground := Ground.data }], guard := none }) rfl (fun K hK => ?_) AllReadyH.nil
    go_simp
    go_at_call 95
    refine (KN.out _).mono ?_
    rintro e1 w1 ⟨rfl, rfl⟩
    go_wp2_with fail
    refine hK.out _ _ hHeld (fun _ => ?_)
    clear hK K
    refine wpAnyH_take (i := 3) (oi := { dst := some 16, op := Op.build 133 #[(0, Operand.tmp 15), (1, Operand.const (Value.int IntKind.i64 5))], type := 133, pos := "faults.go:25", after := #[{ on := 2, ground := Ground.data }], guard := none }) (v := .agg #[.bool (b0), .int .i64 5]) rfl (by kernel_rfl) (by kernel_rfl) (by kernel_rfl) (fun _ _ _ h => h) (Or.inl ⟨by rfl, by (intro w0 hSw; clear hSw; go_simp)⟩) hHeld ?_
    simp only [Act.put, List.setIfInBounds_toArray, List.set_cons_zero, List.set_cons_succ]
    refine wpAnyH_ready (rs := [11]) (by kernel_rfl) (by simp) ?_
    refine AllReadyH.cons (o := { dst := some 24, op := Op.call { callee := Callee.value (Operand.func 100), args := #[Operand.tmp 21, Operand.tmp 23], argTypes := #[40, 3] }, type := 4, pos := "faults.go:31", after := #[{ on := 8, ground := Ground.data }, { on := 10, ground := Ground.data }, { on := 2, ground := Ground.chain }], guard := none }) rfl (fun K hK => ?_) AllReadyH.nil
    go_simp
    go_at_call 100
    refine (KL.out _ HC.out).mono ?_
    rintro e1 w1 ⟨rfl, rfl⟩
    go_wp2_with fail
    refine hK.out _ _ hHeld (fun _ => ?_)
    clear hK K
    refine wpAnyH_take (i := 12) (oi := { dst := some 25, op := Op.build 133 #[(0, Operand.tmp 24), (1, Operand.const (Value.int IntKind.i64 17))], type := 133, pos := "faults.go:25", after := #[{ on := 11, ground := Ground.data }], guard := none }) (v := .agg #[.bool (b2), .int .i64 17]) rfl (by kernel_rfl) (by kernel_rfl) (by kernel_rfl) (fun _ _ _ h => h) (Or.inl ⟨by rfl, by (intro w0 hSw; clear hSw; go_simp)⟩) hHeld ?_
    simp only [Act.put, List.setIfInBounds_toArray, List.set_cons_zero, List.set_cons_succ]
    refine wpAnyH_ready (rs := [16]) (by kernel_rfl) (by simp) ?_
    refine AllReadyH.cons (o := { dst := some 29, op := Op.call { callee := Callee.value (Operand.func 101), args := #[Operand.tmp 26, Operand.tmp 28], argTypes := #[92, 42] }, type := 4, pos := "faults.go:32", after := #[{ on := 13, ground := Ground.data }, { on := 15, ground := Ground.data }, { on := 11, ground := Ground.chain }], guard := none }) rfl (fun K hK => ?_) AllReadyH.nil
    go_simp
    go_at_call 101
    refine (KP.out _).mono ?_
    rintro e1 w1 ⟨rfl, b1⟩
    have HB := Lib.hid (over HB.out b1)
    go_wp2_with fail
    refine hK.out _ _ ⟨hHeld.1.below b1, hHeld.2.below b1⟩ (fun hHeld => ?_)
    clear hK K b1
    refine wpAnyH_take (i := 17) (oi := { dst := some 30, op := Op.move (Operand.tmp 29), type := 4, pos := "faults.go:25", after := #[{ on := 16, ground := Ground.data }, { on := 16, ground := Ground.chain }], guard := none }) (v := .bool b3) rfl (by kernel_rfl) (by kernel_rfl) (by kernel_rfl) (fun _ _ _ h => h) (Or.inl ⟨by rfl, by (intro w0 hSw; clear hSw; go_simp)⟩) hHeld ?_
    simp only [Act.put, List.setIfInBounds_toArray, List.set_cons_zero, List.set_cons_succ]
    refine wpAnyH_take (i := 18) (oi := { dst := some 31, op := Op.load 92 (Operand.tmp 5), type := 92, pos := "faults.go:25", after := #[{ on := 17, ground := Ground.guard }], guard := some (17, true) }) (v := bif b3 then .agg #[.int .i64 (np : Int), .int .i64 dims, .int .i64 types] else undef) rfl (by kernel_rfl) (by kernel_rfl) (by kernel_rfl) (fun _ _ _ h => h) (by cases b3 <;> (try simp only [cond_true, cond_false]) <;> first | exact Or.inr ⟨by rfl, by rfl⟩ | exact Or.inl ⟨by rfl, by (intro w0 hSw; have q0 := hSw.1.c0; have q1 := hSw.1.c1; have q2 := hSw.1.c2; clear hSw; go_simp)⟩) hHeld ?_
    simp only [Act.put, List.setIfInBounds_toArray, List.set_cons_zero, List.set_cons_succ]
    refine wpAnyH_take (i := 19) (oi := { dst := some 32, op := Op.fieldAddr 44 (Operand.tmp 8) 3, type := 0, pos := "faults.go:25", after := #[{ on := 17, ground := Ground.guard }], guard := some (17, true) }) (v := bif b3 then .pointer (some ⟨w.heap.size + 1, 6, none⟩) else undef) rfl (by kernel_rfl) (by kernel_rfl) (by kernel_rfl) (fun _ _ _ h => h) (by cases b3 <;> (try simp only [cond_true, cond_false]) <;> first | exact Or.inr ⟨by rfl, by rfl⟩ | exact Or.inl ⟨by rfl, by (intro w0 hSw; clear hSw; go_simp)⟩) hHeld ?_
    simp only [Act.put, List.setIfInBounds_toArray, List.set_cons_zero, List.set_cons_succ]
    refine wpAnyH_take (i := 20) (oi := { dst := some 33, op := Op.load 42 (Operand.tmp 32), type := 42, pos := "faults.go:25", after := #[{ on := 19, ground := Ground.data }, { on := 17, ground := Ground.guard }], guard := some (17, true) }) (v := bif b3 then .agg #[.int .i64 dp, .int .i64 dd, .int .i64 dc, .int .i64 ds] else undef) rfl (by kernel_rfl) (by kernel_rfl) (by kernel_rfl) (fun _ _ _ h => h) (by cases b3 <;> (try simp only [cond_true, cond_false]) <;> first | exact Or.inr ⟨by rfl, by rfl⟩ | exact Or.inl ⟨by rfl, by (intro w0 hSw; have q0 := hSw.2.c6; have q1 := hSw.2.c7; have q2 := hSw.2.c8; have q3 := hSw.2.c9; clear hSw; go_simp)⟩) hHeld ?_
    simp only [Act.put, List.setIfInBounds_toArray, List.set_cons_zero, List.set_cons_succ]
    refine wpAnyH_ready (rs := [21]) (by kernel_rfl) (by simp) ?_
    refine AllReadyH.cons (o := { dst := some 34, op := Op.call { callee := Callee.value (Operand.func 101), args := #[Operand.tmp 31, Operand.tmp 33], argTypes := #[92, 42] }, type := 4, pos := "faults.go:32", after := #[{ on := 18, ground := Ground.data }, { on := 20, ground := Ground.data }, { on := 17, ground := Ground.chain }, { on := 17, ground := Ground.guard }], guard := some (17, true) }) rfl (fun K hK => ?_) AllReadyH.nil
    refine call_below (b3) (.bool b3') (by cases b3 <;> rfl) (fun hc K' hK' => ?_) (fun w1 b1 => hK.out _ _ ⟨hHeld.1.below b1, hHeld.2.below b1⟩ (fun hHeld => ?_))
    · clear hK
      cases b3
      all_goals (first | (exact absurd hc (by decide)) | skip)
      (try simp only [cond_true])
      go_simp
      go_at_call 101
      refine (KD.out _).mono ?_
      rintro e1 w1 ⟨rfl, b1⟩
      exact hK' _ b1
    have HB := Lib.hid (over HB.out b1)
    clear hK K b1
    simp only [Act.put, List.setIfInBounds_toArray, List.set_cons_zero, List.set_cons_succ]
    refine wpAnyH_take (i := 22) (oi := { dst := some 35, op := Op.pick (Operand.tmp 30) (Operand.tmp 34) (Operand.const (Value.bool false)), type := 4, pos := "faults.go:25", after := #[{ on := 17, ground := Ground.data }, { on := 21, ground := Ground.data }], guard := none }) (v := .bool (b3 && b3')) rfl (by kernel_rfl) (by kernel_rfl) (by kernel_rfl) (fun _ _ _ h => h) (by cases b3 <;> (try simp only [cond_true, cond_false, Bool.true_and, Bool.false_and]) <;> exact Or.inl ⟨by rfl, by (intro w0 hSw; go_simp)⟩) hHeld ?_
    simp only [Act.put, List.setIfInBounds_toArray, List.set_cons_zero, List.set_cons_succ]
    refine wpAnyH_take (i := 23) (oi := { dst := some 36, op := Op.build 133 #[(0, Operand.tmp 35), (1, Operand.const (Value.int IntKind.i64 11))], type := 133, pos := "faults.go:25", after := #[{ on := 22, ground := Ground.data }], guard := none }) (v := .agg #[.bool (b3 && b3'), .int .i64 11]) rfl (by kernel_rfl) (by kernel_rfl) (by kernel_rfl) (fun _ _ _ h => h) (Or.inl ⟨by rfl, by (intro w0 hSw; clear hSw; go_simp)⟩) hHeld ?_
    simp only [Act.put, List.setIfInBounds_toArray, List.set_cons_zero, List.set_cons_succ]
    refine wpAnyH_take (i := 28) (oi := { dst := some 41, op := Op.move (Operand.tmp 40), type := 4, pos := "faults.go:25", after := #[{ on := 27, ground := Ground.data }, { on := 21, ground := Ground.chain }], guard := none }) (v := .bool z1) rfl (by kernel_rfl) (by kernel_rfl) (by kernel_rfl) (fun _ _ _ h => h) (Or.inl ⟨by rfl, by (intro w0 hSw; clear hSw; go_simp)⟩) hHeld ?_
    simp only [Act.put, List.setIfInBounds_toArray, List.set_cons_zero, List.set_cons_succ]
    refine wpAnyH_take (i := 29) (oi := { dst := some 42, op := Op.fieldAddr 44 (Operand.tmp 8) 3, type := 0, pos := "faults.go:25", after := #[{ on := 28, ground := Ground.guard }], guard := some (28, false) }) (v := bif !z1 then .pointer (some ⟨w.heap.size + 1, 6, none⟩) else undef) rfl (by kernel_rfl) (by kernel_rfl) (by kernel_rfl) (fun _ _ _ h => h) (by cases z1 <;> (try simp only [cond_true, cond_false, Bool.not_true, Bool.not_false]) <;> first | exact Or.inr ⟨by rfl, by rfl⟩ | exact Or.inl ⟨by rfl, by (intro w0 hSw; clear hSw; go_simp)⟩) hHeld ?_
    simp only [Act.put, List.setIfInBounds_toArray, List.set_cons_zero, List.set_cons_succ]
    refine wpAnyH_take (i := 30) (oi := { dst := some 43, op := Op.fieldAddr 42 (Operand.tmp 42) 0, type := 0, pos := "faults.go:25", after := #[{ on := 29, ground := Ground.data }, { on := 28, ground := Ground.guard }], guard := some (28, false) }) (v := bif !z1 then .pointer (some ⟨w.heap.size + 1, 6, none⟩) else undef) rfl (by kernel_rfl) (by kernel_rfl) (by kernel_rfl) (fun _ _ _ h => h) (by cases z1 <;> (try simp only [cond_true, cond_false, Bool.not_true, Bool.not_false]) <;> first | exact Or.inr ⟨by rfl, by rfl⟩ | exact Or.inl ⟨by rfl, by (intro w0 hSw; clear hSw; go_simp)⟩) hHeld ?_
    simp only [Act.put, List.setIfInBounds_toArray, List.set_cons_zero, List.set_cons_succ]
    refine wpAnyH_take (i := 31) (oi := { dst := some 44, op := Op.load 3 (Operand.tmp 43), type := 3, pos := "faults.go:25", after := #[{ on := 30, ground := Ground.data }, { on := 28, ground := Ground.guard }], guard := some (28, false) }) (v := bif !z1 then .int .i64 dp else undef) rfl (by kernel_rfl) (by kernel_rfl) (by kernel_rfl) (fun _ _ _ h => h) (by cases z1 <;> (try simp only [cond_true, cond_false, Bool.not_true, Bool.not_false]) <;> first | exact Or.inr ⟨by rfl, by rfl⟩ | exact Or.inl ⟨by rfl, by (intro w0 hSw; have q0 := hSw.2.c6; clear hSw; go_simp)⟩) hHeld ?_
    simp only [Act.put, List.setIfInBounds_toArray, List.set_cons_zero, List.set_cons_succ]
    refine wpAnyH_take (i := 32) (oi := { dst := some 45, op := Op.binOp BinOp.neq 3 (Operand.tmp 44) (Operand.const (Value.int IntKind.i64 (-1))) 3, type := 4, pos := "faults.go:25", after := #[{ on := 31, ground := Ground.data }, { on := 28, ground := Ground.guard }], guard := some (28, false) }) (v := bif !z1 then .bool z2 else undef) rfl (by kernel_rfl) (by kernel_rfl) (by kernel_rfl) (fun _ _ _ h => h) (by cases z1 <;> (try simp only [cond_true, cond_false, Bool.not_true, Bool.not_false]) <;> first | exact Or.inr ⟨by rfl, by rfl⟩ | exact Or.inl ⟨by rfl, by (intro w0 hSw; clear hSw; go_simp)⟩) hHeld ?_
    simp only [Act.put, List.setIfInBounds_toArray, List.set_cons_zero, List.set_cons_succ]
    refine wpAnyH_take (i := 33) (oi := { dst := some 46, op := Op.pick (Operand.tmp 41) (Operand.const (Value.bool true)) (Operand.tmp 45), type := 4, pos := "faults.go:25", after := #[{ on := 28, ground := Ground.data }, { on := 32, ground := Ground.data }], guard := none }) (v := .bool (z1 || z2)) rfl (by kernel_rfl) (by kernel_rfl) (by kernel_rfl) (fun _ _ _ h => h) (by cases z1 <;> (try simp only [cond_true, cond_false, Bool.not_true, Bool.not_false, Bool.true_or, Bool.false_or]) <;> exact Or.inl ⟨by rfl, by (intro w0 hSw; go_simp)⟩) hHeld ?_
    simp only [Act.put, List.setIfInBounds_toArray, List.set_cons_zero, List.set_cons_succ]
    refine wpAnyH_take (i := 34) (oi := { dst := some 47, op := Op.build 133 #[(0, Operand.tmp 46), (1, Operand.const (Value.int IntKind.i64 19))], type := 133, pos := "faults.go:25", after := #[{ on := 33, ground := Ground.data }], guard := none }) (v := .agg #[.bool (z1 || z2), .int .i64 19]) rfl (by kernel_rfl) (by kernel_rfl) (by kernel_rfl) (fun _ _ _ h => h) (Or.inl ⟨by rfl, by (intro w0 hSw; clear hSw; go_simp)⟩) hHeld ?_
    simp only [Act.put, List.setIfInBounds_toArray, List.set_cons_zero, List.set_cons_succ]
    refine wpAnyH_ready (rs := [37]) (by kernel_rfl) (by simp) ?_
    refine AllReadyH.cons (o := { dst := some 50, op := Op.call { callee := Callee.value (Operand.func 102), args := #[Operand.tmp 49], argTypes := #[42] }, type := 35, pos := "faults.go:34", after := #[{ on := 36, ground := Ground.data }, { on := 28, ground := Ground.chain }], guard := none }) rfl (fun K hK => ?_) AllReadyH.nil
    go_simp
    go_at_call 102
    refine (KW.out _).mono ?_
    rintro e1 w1 ⟨rfl, b1⟩
    have HB := Lib.hid (over HB.out b1)
    go_wp2_with fail
    refine hK.out _ _ ⟨hHeld.1.below b1, hHeld.2.below b1⟩ (fun hHeld => ?_)
    clear hK K b1
    refine wpAnyH_take (i := 38) (oi := { dst := some 51, op := Op.binOp BinOp.eql 35 (Operand.tmp 50) (Operand.const (Value.int IntKind.i64 0)) 35, type := 4, pos := "faults.go:25", after := #[{ on := 37, ground := Ground.data }], guard := none }) (v := .bool z5) rfl (by kernel_rfl) (by kernel_rfl) (by kernel_rfl) (fun _ _ _ h => h) (Or.inl ⟨by rfl, by (intro w0 hSw; clear hSw; go_simp)⟩) hHeld ?_
    simp only [Act.put, List.setIfInBounds_toArray, List.set_cons_zero, List.set_cons_succ]
    refine wpAnyH_take (i := 39) (oi := { dst := some 52, op := Op.move (Operand.tmp 51), type := 4, pos := "faults.go:25", after := #[{ on := 38, ground := Ground.data }, { on := 37, ground := Ground.chain }], guard := none }) (v := .bool z5) rfl (by kernel_rfl) (by kernel_rfl) (by kernel_rfl) (fun _ _ _ h => h) (Or.inl ⟨by rfl, by (intro w0 hSw; clear hSw; go_simp)⟩) hHeld ?_
    simp only [Act.put, List.setIfInBounds_toArray, List.set_cons_zero, List.set_cons_succ]
    refine wpAnyH_take (i := 40) (oi := { dst := some 53, op := Op.fieldAddr 44 (Operand.tmp 8) 3, type := 0, pos := "faults.go:25", after := #[{ on := 39, ground := Ground.guard }], guard := some (39, true) }) (v := bif z5 then .pointer (some ⟨w.heap.size + 1, 6, none⟩) else undef) rfl (by kernel_rfl) (by kernel_rfl) (by kernel_rfl) (fun _ _ _ h => h) (by cases z5 <;> (try simp only [cond_true, cond_false]) <;> first | exact Or.inr ⟨by rfl, by rfl⟩ | exact Or.inl ⟨by rfl, by (intro w0 hSw; clear hSw; go_simp)⟩) hHeld ?_
    simp only [Act.put, List.setIfInBounds_toArray, List.set_cons_zero, List.set_cons_succ]
    refine wpAnyH_take (i := 41) (oi := { dst := some 54, op := Op.load 42 (Operand.tmp 53), type := 42, pos := "faults.go:25", after := #[{ on := 40, ground := Ground.data }, { on := 39, ground := Ground.guard }], guard := some (39, true) }) (v := bif z5 then .agg #[.int .i64 dp, .int .i64 dd, .int .i64 dc, .int .i64 ds] else undef) rfl (by kernel_rfl) (by kernel_rfl) (by kernel_rfl) (fun _ _ _ h => h) (by cases z5 <;> (try simp only [cond_true, cond_false]) <;> first | exact Or.inr ⟨by rfl, by rfl⟩ | exact Or.inl ⟨by rfl, by (intro w0 hSw; have q0 := hSw.2.c6; have q1 := hSw.2.c7; have q2 := hSw.2.c8; have q3 := hSw.2.c9; clear hSw; go_simp)⟩) hHeld ?_
    simp only [Act.put, List.setIfInBounds_toArray, List.set_cons_zero, List.set_cons_succ]
    refine wpAnyH_ready (rs := [42]) (by kernel_rfl) (by simp) ?_
    refine AllReadyH.cons (o := { dst := some 55, op := Op.call { callee := Callee.value (Operand.func 102), args := #[Operand.tmp 54], argTypes := #[42] }, type := 35, pos := "faults.go:34", after := #[{ on := 41, ground := Ground.data }, { on := 39, ground := Ground.chain }, { on := 39, ground := Ground.guard }], guard := some (39, true) }) rfl (fun K hK => ?_) AllReadyH.nil
    refine call_below (z5) (.int .i64 c6) (by cases z5 <;> rfl) (fun hc K' hK' => ?_) (fun w1 b1 => hK.out _ _ ⟨hHeld.1.below b1, hHeld.2.below b1⟩ (fun hHeld => ?_))
    · clear hK
      cases z5
      all_goals (first | (exact absurd hc (by decide)) | skip)
      (try simp only [cond_true])
      go_simp
      go_at_call 102
      refine (KV.out _).mono ?_
      rintro e1 w1 ⟨rfl, b1⟩
      exact hK' _ b1
    have HB := Lib.hid (over HB.out b1)
    clear hK K b1
    simp only [Act.put, List.setIfInBounds_toArray, List.set_cons_zero, List.set_cons_succ]
    refine wpAnyH_take (i := 43) (oi := { dst := some 56, op := Op.binOp BinOp.eql 35 (Operand.tmp 55) (Operand.const (Value.int IntKind.i64 0)) 35, type := 4, pos := "faults.go:25", after := #[{ on := 42, ground := Ground.data }, { on := 39, ground := Ground.guard }], guard := some (39, true) }) (v := bif z5 then .bool z6 else undef) rfl (by kernel_rfl) (by kernel_rfl) (by kernel_rfl) (fun _ _ _ h => h) (by cases z5 <;> (try simp only [cond_true, cond_false]) <;> first | exact Or.inr ⟨by rfl, by rfl⟩ | exact Or.inl ⟨by rfl, by (intro w0 hSw; clear hSw; go_simp)⟩) hHeld ?_
    simp only [Act.put, List.setIfInBounds_toArray, List.set_cons_zero, List.set_cons_succ]
    refine wpAnyH_take (i := 44) (oi := { dst := some 57, op := Op.pick (Operand.tmp 52) (Operand.tmp 56) (Operand.const (Value.bool false)), type := 4, pos := "faults.go:25", after := #[{ on := 39, ground := Ground.data }, { on := 43, ground := Ground.data }], guard := none }) (v := .bool (z5 && z6)) rfl (by kernel_rfl) (by kernel_rfl) (by kernel_rfl) (fun _ _ _ h => h) (by cases z5 <;> (try simp only [cond_true, cond_false, Bool.true_and, Bool.false_and]) <;> exact Or.inl ⟨by rfl, by (intro w0 hSw; go_simp)⟩) hHeld ?_
    simp only [Act.put, List.setIfInBounds_toArray, List.set_cons_zero, List.set_cons_succ]
    refine wpAnyH_take (i := 45) (oi := { dst := some 58, op := Op.build 133 #[(0, Operand.tmp 57), (1, Operand.const (Value.int IntKind.i64 14))], type := 133, pos := "faults.go:25", after := #[{ on := 44, ground := Ground.data }], guard := none }) (v := .agg #[.bool (z5 && z6), .int .i64 14]) rfl (by kernel_rfl) (by kernel_rfl) (by kernel_rfl) (fun _ _ _ h => h) (Or.inl ⟨by rfl, by (intro w0 hSw; clear hSw; go_simp)⟩) hHeld ?_
    simp only [Act.put, List.setIfInBounds_toArray, List.set_cons_zero, List.set_cons_succ]
    refine wpAnyH_ready (rs := [48]) (by kernel_rfl) (by simp) ?_
    refine AllReadyH.cons (o := { dst := some 61, op := Op.call { callee := Callee.value (Operand.func 103), args := #[Operand.const (Value.int IntKind.i64 0), Operand.tmp 60, Operand.const (Value.int IntKind.i64 1073741823)], argTypes := #[3, 3, 3] }, type := 4, pos := "faults.go:35", after := #[{ on := 47, ground := Ground.data }, { on := 42, ground := Ground.chain }], guard := none }) rfl (fun K hK => ?_) AllReadyH.nil
    go_simp
    go_at_call 103
    refine (KS.out _).mono ?_
    rintro e1 w1 ⟨rfl, rfl⟩
    go_wp2_with fail
    refine hK.out _ _ hHeld (fun _ => ?_)
    clear hK K
    refine wpAnyH_take (i := 49) (oi := { dst := some 62, op := Op.build 133 #[(0, Operand.tmp 61), (1, Operand.const (Value.int IntKind.i64 18))], type := 133, pos := "faults.go:25", after := #[{ on := 48, ground := Ground.data }], guard := none }) (v := .agg #[.bool (b7), .int .i64 18]) rfl (by kernel_rfl) (by kernel_rfl) (by kernel_rfl) (fun _ _ _ h => h) (Or.inl ⟨by rfl, by (intro w0 hSw; clear hSw; go_simp)⟩) hHeld ?_
    simp only [Act.put, List.setIfInBounds_toArray, List.set_cons_zero, List.set_cons_succ]
    refine wpAnyH_ready (rs := [52]) (by kernel_rfl) (by simp) ?_
    refine AllReadyH.cons (o := { dst := some 65, op := Op.call { callee := Callee.value (Operand.func 103), args := #[Operand.const (Value.int IntKind.i64 (-1)), Operand.tmp 64, Operand.const (Value.int IntKind.i64 1000000)], argTypes := #[3, 3, 3] }, type := 4, pos := "faults.go:36", after := #[{ on := 51, ground := Ground.data }, { on := 48, ground := Ground.chain }], guard := none }) rfl (fun K hK => ?_) AllReadyH.nil
    go_simp
    go_at_call 103
    refine (KE.out _).mono ?_
    rintro e1 w1 ⟨rfl, rfl⟩
    go_wp2_with fail
    refine hK.out _ _ hHeld (fun _ => ?_)
    clear hK K
    refine wpAnyH_take (i := 53) (oi := { dst := some 66, op := Op.move (Operand.tmp 65), type := 4, pos := "faults.go:25", after := #[{ on := 52, ground := Ground.data }, { on := 52, ground := Ground.chain }], guard := none }) (v := .bool b8) rfl (by kernel_rfl) (by kernel_rfl) (by kernel_rfl) (fun _ _ _ h => h) (Or.inl ⟨by rfl, by (intro w0 hSw; clear hSw; go_simp)⟩) hHeld ?_
    simp only [Act.put, List.setIfInBounds_toArray, List.set_cons_zero, List.set_cons_succ]
    refine wpAnyH_take (i := 54) (oi := { dst := some 67, op := Op.load 44 (Operand.tmp 8), type := 44, pos := "faults.go:25", after := #[{ on := 53, ground := Ground.guard }], guard := some (53, true) }) (v := bif b8 then .agg #[.string nm, .slice oc load.length cc, .int .i64 pp, .int .i64 po, .int .i64 pc, .int .i64 ps, .int .i64 dp, .int .i64 dd, .int .i64 dc, .int .i64 ds, .int .i64 sk, .int .i64 pen, .int .i64 spl, .int .i64 las, .int .i64 now, .bool off] else undef) rfl (by kernel_rfl) (by kernel_rfl) (by kernel_rfl) (fun _ _ _ h => h) (by cases b8 <;> (try simp only [cond_true, cond_false]) <;> first | exact Or.inr ⟨by rfl, by rfl⟩ | exact Or.inl ⟨by rfl, by (intro w0 hSw; exact exec_ord rfl rfl hSw.2)⟩) hHeld ?_
    simp only [Act.put, List.setIfInBounds_toArray, List.set_cons_zero, List.set_cons_succ]
    refine wpAnyH_ready (rs := [55]) (by kernel_rfl) (by simp) ?_
    refine AllReadyH.cons (o := { dst := some 68, op := Op.call { callee := Callee.value (Operand.func 104), args := #[Operand.tmp 67], argTypes := #[44] }, type := 4, pos := "faults.go:36", after := #[{ on := 54, ground := Ground.data }, { on := 53, ground := Ground.chain }, { on := 53, ground := Ground.guard }], guard := some (53, true) }) rfl (fun K hK => ?_) AllReadyH.nil
    refine call_below (b8) (.bool b9) (by cases b8 <;> rfl) (fun hc K' hK' => ?_) (fun w1 b1 => hK.out _ _ ⟨hHeld.1.below b1, hHeld.2.below b1⟩ (fun hHeld => ?_))
    · clear hK
      cases b8
      all_goals (first | (exact absurd hc (by decide)) | skip)
      (try simp only [cond_true])
      go_simp
      go_at_call 104
      refine (K9.out _).mono ?_
      rintro e1 w1 ⟨rfl, b1⟩
      exact hK' _ b1
    have HB := Lib.hid (over HB.out b1)
    clear hK K b1
    simp only [Act.put, List.setIfInBounds_toArray, List.set_cons_zero, List.set_cons_succ]
    refine wpAnyH_take (i := 56) (oi := { dst := some 69, op := Op.pick (Operand.tmp 66) (Operand.tmp 68) (Operand.const (Value.bool false)), type := 4, pos := "faults.go:25", after := #[{ on := 53, ground := Ground.data }, { on := 55, ground := Ground.data }], guard := none }) (v := .bool (b8 && b9)) rfl (by kernel_rfl) (by kernel_rfl) (by kernel_rfl) (fun _ _ _ h => h) (by cases b8 <;> (try simp only [cond_true, cond_false, Bool.true_and, Bool.false_and]) <;> exact Or.inl ⟨by rfl, by (intro w0 hSw; go_simp)⟩) hHeld ?_
    simp only [Act.put, List.setIfInBounds_toArray, List.set_cons_zero, List.set_cons_succ]
    refine wpAnyH_take (i := 57) (oi := { dst := some 70, op := Op.move (Operand.tmp 69), type := 4, pos := "faults.go:25", after := #[{ on := 56, ground := Ground.data }, { on := 55, ground := Ground.chain }], guard := none }) (v := .bool (b8 && b9)) rfl (by kernel_rfl) (by kernel_rfl) (by kernel_rfl) (fun _ _ _ h => h) (Or.inl ⟨by rfl, by (intro w0 hSw; clear hSw; go_simp)⟩) hHeld ?_
    simp only [Act.put, List.setIfInBounds_toArray, List.set_cons_zero, List.set_cons_succ]
    refine wpAnyH_take (i := 58) (oi := { dst := some 71, op := Op.load 92 (Operand.tmp 5), type := 92, pos := "faults.go:25", after := #[{ on := 57, ground := Ground.guard }], guard := some (57, true) }) (v := bif (b8 && b9) then .agg #[.int .i64 (np : Int), .int .i64 dims, .int .i64 types] else undef) rfl (by kernel_rfl) (by kernel_rfl) (by kernel_rfl) (fun _ _ _ h => h) (by cases b8 <;> cases b9 <;> (try simp only [cond_true, cond_false, Bool.and_true, Bool.and_false]) <;> first | exact Or.inr ⟨by rfl, by rfl⟩ | exact Or.inl ⟨by rfl, by (intro w0 hSw; have q0 := hSw.1.c0; have q1 := hSw.1.c1; have q2 := hSw.1.c2; clear hSw; go_simp)⟩) hHeld ?_
    simp only [Act.put, List.setIfInBounds_toArray, List.set_cons_zero, List.set_cons_succ]
    refine wpAnyH_take (i := 59) (oi := { dst := some 72, op := Op.fieldAddr 44 (Operand.tmp 8) 7, type := 0, pos := "faults.go:25", after := #[{ on := 57, ground := Ground.guard }], guard := some (57, true) }) (v := bif (b8 && b9) then .pointer (some ⟨w.heap.size + 1, 13, none⟩) else undef) rfl (by kernel_rfl) (by kernel_rfl) (by kernel_rfl) (fun _ _ _ h => h) (by cases b8 <;> cases b9 <;> (try simp only [cond_true, cond_false, Bool.and_true, Bool.and_false]) <;> first | exact Or.inr ⟨by rfl, by rfl⟩ | exact Or.inl ⟨by rfl, by (intro w0 hSw; clear hSw; go_simp)⟩) hHeld ?_
    simp only [Act.put, List.setIfInBounds_toArray, List.set_cons_zero, List.set_cons_succ]
    refine wpAnyH_take (i := 60) (oi := { dst := some 73, op := Op.load 3 (Operand.tmp 72), type := 3, pos := "faults.go:25", after := #[{ on := 59, ground := Ground.data }, { on := 57, ground := Ground.guard }], guard := some (57, true) }) (v := bif (b8 && b9) then .int .i64 las else undef) rfl (by kernel_rfl) (by kernel_rfl) (by kernel_rfl) (fun _ _ _ h => h) (by cases b8 <;> cases b9 <;> (try simp only [cond_true, cond_false, Bool.and_true, Bool.and_false]) <;> first | exact Or.inr ⟨by rfl, by rfl⟩ | exact Or.inl ⟨by rfl, by (intro w0 hSw; have q0 := hSw.2.c13; clear hSw; go_simp)⟩) hHeld ?_
    simp only [Act.put, List.setIfInBounds_toArray, List.set_cons_zero, List.set_cons_succ]
    refine wpAnyH_ready (rs := [61]) (by kernel_rfl) (by simp) ?_
    refine AllReadyH.cons (o := { dst := some 74, op := Op.call { callee := Callee.value (Operand.func 105), args := #[Operand.tmp 71, Operand.tmp 73], argTypes := #[92, 3] }, type := 4, pos := "faults.go:36", after := #[{ on := 58, ground := Ground.data }, { on := 60, ground := Ground.data }, { on := 57, ground := Ground.chain }, { on := 57, ground := Ground.guard }], guard := some (57, true) }) rfl (fun K hK => ?_) AllReadyH.nil
    refine call_below ((b8 && b9)) (.bool b10) (by cases b8 <;> cases b9 <;> rfl) (fun hc K' hK' => ?_) (fun w1 b1 => hK.out _ _ ⟨hHeld.1.below b1, hHeld.2.below b1⟩ (fun hHeld => ?_))
    · clear hK
      cases b8 <;> cases b9
      all_goals (first | (exact absurd hc (by decide)) | skip)
      (try simp only [cond_true, Bool.and_true])
      go_simp
      go_at_call 105
      refine (K10.out _).mono ?_
      rintro e1 w1 ⟨rfl, b1⟩
      exact hK' _ b1
    have HB := Lib.hid (over HB.out b1)
    clear hK K b1
    simp only [Act.put, List.setIfInBounds_toArray, List.set_cons_zero, List.set_cons_succ]
    refine wpAnyH_take (i := 62) (oi := { dst := some 75, op := Op.pick (Operand.tmp 70) (Operand.tmp 74) (Operand.const (Value.bool false)), type := 4, pos := "faults.go:25", after := #[{ on := 57, ground := Ground.data }, { on := 61, ground := Ground.data }], guard := none }) (v := .bool ((b8 && b9) && b10)) rfl (by kernel_rfl) (by kernel_rfl) (by kernel_rfl) (fun _ _ _ h => h) (by cases b8 <;> cases b9 <;> (try simp only [cond_true, cond_false, Bool.true_and, Bool.false_and, Bool.and_true, Bool.and_false]) <;> exact Or.inl ⟨by rfl, by (intro w0 hSw; go_simp)⟩) hHeld ?_
    simp only [Act.put, List.setIfInBounds_toArray, List.set_cons_zero, List.set_cons_succ]
    refine wpAnyH_take (i := 63) (oi := { dst := some 76, op := Op.move (Operand.tmp 75), type := 4, pos := "faults.go:25", after := #[{ on := 62, ground := Ground.data }, { on := 61, ground := Ground.chain }], guard := none }) (v := .bool ((b8 && b9) && b10)) rfl (by kernel_rfl) (by kernel_rfl) (by kernel_rfl) (fun _ _ _ h => h) (Or.inl ⟨by rfl, by (intro w0 hSw; clear hSw; go_simp)⟩) hHeld ?_
    simp only [Act.put, List.setIfInBounds_toArray, List.set_cons_zero, List.set_cons_succ]
    refine wpAnyH_take (i := 64) (oi := { dst := some 77, op := Op.load 92 (Operand.tmp 5), type := 92, pos := "faults.go:25", after := #[{ on := 63, ground := Ground.guard }], guard := some (63, true) }) (v := bif ((b8 && b9) && b10) then .agg #[.int .i64 (np : Int), .int .i64 dims, .int .i64 types] else undef) rfl (by kernel_rfl) (by kernel_rfl) (by kernel_rfl) (fun _ _ _ h => h) (by cases b8 <;> cases b9 <;> cases b10 <;> (try simp only [cond_true, cond_false, Bool.and_true, Bool.and_false]) <;> first | exact Or.inr ⟨by rfl, by rfl⟩ | exact Or.inl ⟨by rfl, by (intro w0 hSw; have q0 := hSw.1.c0; have q1 := hSw.1.c1; have q2 := hSw.1.c2; clear hSw; go_simp)⟩) hHeld ?_
    simp only [Act.put, List.setIfInBounds_toArray, List.set_cons_zero, List.set_cons_succ]
    refine wpAnyH_take (i := 65) (oi := { dst := some 78, op := Op.fieldAddr 44 (Operand.tmp 8) 8, type := 0, pos := "faults.go:25", after := #[{ on := 63, ground := Ground.guard }], guard := some (63, true) }) (v := bif ((b8 && b9) && b10) then .pointer (some ⟨w.heap.size + 1, 14, none⟩) else undef) rfl (by kernel_rfl) (by kernel_rfl) (by kernel_rfl) (fun _ _ _ h => h) (by cases b8 <;> cases b9 <;> cases b10 <;> (try simp only [cond_true, cond_false, Bool.and_true, Bool.and_false]) <;> first | exact Or.inr ⟨by rfl, by rfl⟩ | exact Or.inl ⟨by rfl, by (intro w0 hSw; clear hSw; go_simp)⟩) hHeld ?_
    simp only [Act.put, List.setIfInBounds_toArray, List.set_cons_zero, List.set_cons_succ]
    refine wpAnyH_take (i := 66) (oi := { dst := some 79, op := Op.load 3 (Operand.tmp 78), type := 3, pos := "faults.go:25", after := #[{ on := 65, ground := Ground.data }, { on := 63, ground := Ground.guard }], guard := some (63, true) }) (v := bif ((b8 && b9) && b10) then .int .i64 now else undef) rfl (by kernel_rfl) (by kernel_rfl) (by kernel_rfl) (fun _ _ _ h => h) (by cases b8 <;> cases b9 <;> cases b10 <;> (try simp only [cond_true, cond_false, Bool.and_true, Bool.and_false]) <;> first | exact Or.inr ⟨by rfl, by rfl⟩ | exact Or.inl ⟨by rfl, by (intro w0 hSw; have q0 := hSw.2.c14; clear hSw; go_simp)⟩) hHeld ?_
    simp only [Act.put, List.setIfInBounds_toArray, List.set_cons_zero, List.set_cons_succ]
    refine wpAnyH_ready (rs := [67]) (by kernel_rfl) (by simp) ?_
    refine AllReadyH.cons (o := { dst := some 80, op := Op.call { callee := Callee.value (Operand.func 105), args := #[Operand.tmp 77, Operand.tmp 79], argTypes := #[92, 3] }, type := 4, pos := "faults.go:36", after := #[{ on := 64, ground := Ground.data }, { on := 66, ground := Ground.data }, { on := 63, ground := Ground.chain }, { on := 63, ground := Ground.guard }], guard := some (63, true) }) rfl (fun K hK => ?_) AllReadyH.nil
    refine call_below (((b8 && b9) && b10)) (.bool b11) (by cases b8 <;> cases b9 <;> cases b10 <;> rfl) (fun hc K' hK' => ?_) (fun w1 b1 => hK.out _ _ ⟨hHeld.1.below b1, hHeld.2.below b1⟩ (fun hHeld => ?_))
    · clear hK
      cases b8 <;> cases b9 <;> cases b10
      all_goals (first | (exact absurd hc (by decide)) | skip)
      (try simp only [cond_true, Bool.and_true])
      go_simp
      go_at_call 105
      refine (K11.out _).mono ?_
      rintro e1 w1 ⟨rfl, b1⟩
      exact hK' _ b1
    have HB := Lib.hid (over HB.out b1)
    clear hK K b1
    simp only [Act.put, List.setIfInBounds_toArray, List.set_cons_zero, List.set_cons_succ]
    refine wpAnyH_take (i := 68) (oi := { dst := some 81, op := Op.pick (Operand.tmp 76) (Operand.tmp 80) (Operand.const (Value.bool false)), type := 4, pos := "faults.go:25", after := #[{ on := 63, ground := Ground.data }, { on := 67, ground := Ground.data }], guard := none }) (v := .bool (((b8 && b9) && b10) && b11)) rfl (by kernel_rfl) (by kernel_rfl) (by kernel_rfl) (fun _ _ _ h => h) (by cases b8 <;> cases b9 <;> cases b10 <;> (try simp only [cond_true, cond_false, Bool.true_and, Bool.false_and, Bool.and_true, Bool.and_false]) <;> exact Or.inl ⟨by rfl, by (intro w0 hSw; go_simp)⟩) hHeld ?_
    simp only [Act.put, List.setIfInBounds_toArray, List.set_cons_zero, List.set_cons_succ]
    refine wpAnyH_take (i := 69) (oi := { dst := some 82, op := Op.build 133 #[(0, Operand.tmp 81), (1, Operand.const (Value.int IntKind.i64 2))], type := 133, pos := "faults.go:25", after := #[{ on := 68, ground := Ground.data }], guard := none }) (v := .agg #[.bool (((b8 && b9) && b10) && b11), .int .i64 2]) rfl (by kernel_rfl) (by kernel_rfl) (by kernel_rfl) (fun _ _ _ h => h) (Or.inl ⟨by rfl, by (intro w0 hSw; clear hSw; go_simp)⟩) hHeld ?_
    simp only [Act.put, List.setIfInBounds_toArray, List.set_cons_zero, List.set_cons_succ]
    refine wpAnyH_ready (rs := [70]) (by kernel_rfl) (by simp) ?_
    refine AllReadyH.cons (o := { dst := some 83, op := Op.buildSlice 136 8 #[(0, Operand.tmp 16), (1, Operand.tmp 19), (2, Operand.tmp 25), (3, Operand.tmp 36), (4, Operand.tmp 47), (5, Operand.tmp 58), (6, Operand.tmp 62), (7, Operand.tmp 82)], type := 136, pos := "faults.go:25", after := #[{ on := 3, ground := Ground.data }, { on := 6, ground := Ground.data }, { on := 12, ground := Ground.data }, { on := 23, ground := Ground.data }, { on := 34, ground := Ground.data }, { on := 45, ground := Ground.data }, { on := 49, ground := Ground.data }, { on := 69, ground := Ground.data }], guard := none }) rfl (fun K hK => ?_) AllReadyH.nil
    go_simp
    refine hK.out _ _ ⟨hHeld.1.below (below_alloc _ _), hHeld.2.below (below_alloc _ _)⟩ (fun hHeld => ?_)
    clear hK K
    refine wpAnyH_ready (rs := [71]) (by kernel_rfl) (by simp) ?_
    refine AllReadyH.cons (o := { dst := some 84, op := Op.call { callee := Callee.builtin Builtin.len, args := #[Operand.tmp 83], argTypes := #[136] }, type := 3, pos := "faults.go:25", after := #[{ on := 70, ground := Ground.data }], guard := none }) rfl (fun K hK => ?_) AllReadyH.nil
    go_simp
    refine hK.out _ _ hHeld (fun _ => ?_)
    clear hK K
    refine wpAnyH_done (by kernel_rfl) ?_ _
    refine NoPanic.normal ?_
    clear hHeld KN KL KP KD KW KV KS KE K9 K10 K11
    repeat (first | go_step | go_upon)
    go_meet
    case rel => exact ⟨_, HB.out.size, rfl, rfl, rfl, by rw [HR.out]; exact rules8 _ _ _ _ _ _ _ _ _ _ _ _ _ _ _ _ _ _, over HB.out (below_alloc _ _)⟩
  obtain ⟨q, hqn, rfl, rfl, rfl, HRl, HBc⟩ := hcut
  have HGc := Lib.hid (HGw.out.frame HBc.out)
  have HTc := Lib.hid (HTw.out.over HBc.out)
  have HB2 : Hid (Below B0 w wc) := HBc.out.mono hB0
  have hvl := fun g (e : v.ownBlock = some g) => (World.ownsRow.lt hGv.out.own g e).2
  have HN0 : Hid (∀ g, v.ownBlock = some g → g ≠ q ∧ (v.ownBlock = some g ∨ w.heap.size ≤ g)) := fun g e => ⟨by have := hvl g e; omega, .inl e⟩
  have hl8 : (rulO np dims types ⟨nm, load, pp, po, pc, ps, dp, dd, dc, ds, sk, pen, spl, las, now, off⟩ tw).length = 8 := rfl
  have KDc := Lib.hid (fun w ht => ordDecimal_n k hk9 w ht)
  obtain ⟨rl, hrl⟩ : ∃ rl, rulO np dims types ⟨nm, load, pp, po, pc, ps, dp, dd, dc, ds, sk, pen, spl, las, now, off⟩ tw = rl := ⟨_, rfl⟩
  rw [hrl] at HRl hl8
  have HRL := Lib.hid hrl
  clear hrl
  have HS := Lib.hid (fun t (ht : t < rl.length) => brkO_step ht)
  have HLn := Lib.hid (fun t => brkO_len rl t)
  have HE : Hid (atT k (brkO (rl.take 8)) = atT k (brkO (rulO np dims types ⟨nm, load, pp, po, pc, ps, dp, dd, dc, ds, sk, pen, spl, las, now, off⟩ tw))) := by show _ = _; rw [← hl8, List.take_length, HRL.out]
  have HF0 : Hid (∀ x, x < w.heap.size → some x ≠ v.ownBlock → wc.heap[x]? = w.heap[x]?) := fun x hx _ => HBc.out.block x hx
  clear hvl hGv HBc HGw HTw HR
  go_wp2_with fail
  go_loopg [1, 85] 8 (fun g u j wr => ∃ t : Nat, t ≤ 8 ∧ j = .int .i64 t ∧ 8 - t ≤ g ∧ Hid (Gl B0 wr u (fl ++ atT k (brkO (rl.take t)))) ∧ Hid (Below B0 w wr) ∧ Hid (Sl qE qA (false, 0) wr (.slice (some ⟨q, 0, none⟩) 8 8) rl) ∧ Hid (Tab wr) ∧ Hid (∀ g, u.ownBlock = some g → g ≠ q ∧ (v.ownBlock = some g ∨ w.heap.size ≤ g)) ∧ Hid (∀ x, x < w.heap.size → some x ≠ v.ownBlock → wr.heap[x]? = w.heap[x]?))
  case atStart => exact ⟨0, by omega, rfl, by omega, by have : atT k (brkO (rl.take 0)) = [] := (by rw [List.take_zero]; rfl); show Gl _ _ _ _; rw [this, List.append_nil]; exact HGc.out, HB2, HRl, HTc, HN0, HF0⟩
  case round =>
    clear HGc HB2 HRl HTc HN0 HF0
    obtain ⟨t, ht, rfl, hg, HG, HB, HRl, HT, HN, HF⟩ := hrel
    by_cases hlt : t < 8
    · obtain ⟨oq, cq, hoq, hsl⟩ := HRl.out
      simp only [Value.slice.injEq] at hoq
      obtain ⟨rfl, -, rfl⟩ := hoq
      obtain ⟨b, o, hbo, hab, d0, d1⟩ := hsl t (by omega)
      simp only [Option.some.injEq, Addr.mk.injEq, and_true] at hbo
      obtain ⟨rfl, rfl⟩ := hbo
      have htI : (t : Int) < 8 := by omega
      have HSk := Lib.hid (HS.out t (by omega))
      have hlk := HLn.out t
      rw [Nat.zero_add] at d0 d1
      unfold qE at d0
      unfold qA at d1
      obtain ⟨bb, x, htx⟩ : ∃ t' x, rl.getD t (false, 0) = (t', x) := ⟨_, _, rfl⟩
      rw [htx] at d0 d1 HSk
      simp only at d0 d1 HSk
      have HBl := below_alloc wr (.cells #[.bool bb, .int .i64 x] 133)
      obtain ⟨q3, hq3⟩ : ∃ q3, wr.heap.size = q3 := ⟨_, rfl⟩
      obtain ⟨W3, hW3⟩ : ∃ W3, wr.alloc (.cells #[.bool bb, .int .i64 x] 133) = W3 := ⟨_, rfl⟩
      have p0 : W3.cell? ⟨q3, 0, none⟩ = some (.bool bb) := by rw [← hW3, ← hq3]; simp
      have p1 : W3.cell? ⟨q3, 1, none⟩ = some (.int .i64 x) := by rw [← hW3, ← hq3]; simp
      have hq4 : q3 < W3.heap.size := by rw [← hW3, ← hq3]; simp
      have hBr := HB.out.size
      rw [hW3] at HBl
      have HB3 : Hid (Below B0 w W3) := HB.out.trans (HBl.mono (by omega))
      have HG3 := Lib.hid (HG.out.frame HBl)
      have HRl3 : Hid (Sl qE qA (false, 0) W3 (.slice (some ⟨q, 0, none⟩) 8 8) rl) := Sl.below HRl.out HBl
      have HT3 := Lib.hid (HT.out.over HBl)
      have HF3 : Hid (∀ x, x < w.heap.size → some x ≠ v.ownBlock → W3.heap[x]? = w.heap[x]?) := fun y hy hne => (HBl.block y (by omega)).trans (HF.out y hy hne)
      clear HBl htx HB HG HRl HT hsl
      cases bb
      · have HX : Hid (atT k (brkO (rl.take (t + 1))) = atT k (brkO (rl.take t)) ++ [(x, dec k)]) := by show _ = _; rw [HSk.out]; unfold atT; rw [List.map_append]; rfl
        have hlen : (fl ++ atT k (brkO (rl.take t))).length ≤ 90000000 := by rw [List.length_append]; unfold atT; rw [List.length_map]; omega
        generalize hFl : fl ++ atT k (brkO (rl.take t)) = F at *
        have HX : Hid (fl ++ atT k (brkO (rl.take (t + 1))) = F ++ [(x, dec k)]) := by show _ = _; rw [HX.out, ← List.append_assoc, hFl]
        have HTd : Hid (Tab W3.drew) := HT3.out.over (below_drew (Below.refl _ _))
        have HHG : Hid (Gl B0 W3.drew u1 F) := HG3.out
        have HBd : Below B0 w W3.drew := below_drew HB3.out
        have hB3 : B0 ≤ W3.drew.heap.size := by have : wr.heap.size < W3.drew.heap.size := by rw [hq3]; exact hq4
                                                omega
        have hqw : q < W3.drew.heap.size := Nat.lt_trans hab (by rw [hq3]; exact hq4)
        have hwd : w.heap.size ≤ W3.drew.heap.size := by have : wr.heap.size < W3.drew.heap.size := by rw [hq3]; exact hq4
                                                         omega
        have HRd : Hid (Sl qE qA (false, 0) W3.drew (.slice (some ⟨q, 0, none⟩) 8 8) rl) := Sl.below HRl3.out (below_drew (Below.refl _ _))
        clear HG3 HSk hlk hFl HRl3 HT3 HB3
        go_wp2_with fail
        clear hW3 hq3
        go_region_law (first
          | (refine step_append_run (by rfl) _ _ 33 (by rfl) (by rfl) (by rfl) (ap_h1 _ x (dec k) HGz.out hsz hlen) ?_; rintro v3 w3 ⟨hg3, hb3, hgr3, hat3⟩)
          | (go_simp; go_at_call 94; (with_reducible refine (KDc.out _ HTd.out).mono ?_); rintro e wz ⟨rfl, bz⟩; have HGz := Lib.hid (HHG.out.frame bz); have HBz := HBd.trans (bz.mono hB3); have hsz : B0 ≤ wz.heap.size := Nat.le_trans hB3 bz.size; have p1 := (bz.cell (p := ⟨q3, 1, none⟩) hq4).trans p1))
        all_goals
          have HG4 : Hid (Gl B0 w3 v3 (fl ++ atT k (brkO (rl.take (t + 1))))) := by show Gl _ _ _ _; rw [HX.out]; exact hg3
          have HB4 := Lib.hid (HBz.trans hb3)
          have hal := below_alloc wz (.cells #[.int .i64 x, .string (dec k)] 37)
          have HR4 : Hid (Sl qE qA (false, 0) w3 (.slice (some ⟨q, 0, none⟩) 8 8) rl) := by
            have h8 := Sl.below HRd.out (bz.trans (hal.mono bz.size))
            rw [← hl8] at h8 ⊢
            exact Sl.grown h8 hgr3 (fun b o e h => by
              simp only [Option.some.injEq, Addr.mk.injEq, and_true] at e
              exact (HN.out b h.symm).1 e.1.symm)
          have HN4 : Hid (∀ g, v3.ownBlock = some g → g ≠ q ∧ (v.ownBlock = some g ∨ w.heap.size ≤ g)) := fun g e => by
            rcases hat3 with hat | hat
            · rw [hat] at e; exact HN.out g e
            · rw [hat] at e
              simp only [Option.some.injEq] at e
              have := bz.size
              exact ⟨by omega, .inr (by omega)⟩
          have HT4 : Hid (Tab w3) := var?_below HB4.out gTab hTl HTv.out
          have HF4 : Hid (∀ x, x < w.heap.size → some x ≠ v.ownBlock → w3.heap[x]? = w.heap[x]?) := fun y hy hne => by
            have hyz : y < wz.heap.size := by have := bz.size; omega
            have hy2 : some y ≠ u1.ownBlock := fun e => by
              rcases (HN.out y e.symm).2 with h | h
              · exact hne h.symm
              · omega
            exact (hgr3.block y (by rw [World.size_alloc]; omega) hy2).trans ((hal.block y hyz).trans ((bz.block y (by omega)).trans (HF3.out y hy hne)))
          clear hg3 hb3 HBz HBd p1
          go_wp2_with fail
          go_roundg (8 - (t + 1))
          case measure => omega
          case rel => exact ⟨t + 1, by omega, by go_num, by omega, HG4, HB4, HR4, HT4, HN4, HF4⟩
      · have HX : Hid (atT k (brkO (rl.take (t + 1))) = atT k (brkO (rl.take t))) := by show _ = _; rw [HSk.out]; simp
        have HG4 : Hid (Gl B0 W3 u1 (fl ++ atT k (brkO (rl.take (t + 1))))) := by show Gl _ _ _ _; rw [HX.out]; exact HG3.out
        go_wp2_with fail
        go_roundg (8 - (t + 1))
        case measure => omega
        case rel => exact ⟨t + 1, by omega, by go_num, by omega, HG4, HB3, HRl3, HT3, HN, HF3⟩
    · have htk : t = 8 := by omega
      subst htk
      go_wp2_with fail
      go_ret
      have HGe := HG.out
      rw [HE.out] at HGe
      exact ⟨_, rfl, HGe, HB.out, fun g e => (HN.out g e).2, HF.out⟩

end Go.Proofs.YtaallpebfcadjaaGreatDoor.T


