/-
 DERIVED. KWH: a part of the base of layer 13 (made by pack.py).
-/
import Derived.Test.YtaallpebfcadjaaGreatDoorKPU
import Derived.Test.YtaallpebfcadjaaGreatDoorKPR
import Derived.Test.YtaallpebfcadjaaGreatDoorKWA
import Derived.Test.YtaallpebfcadjaaGreatDoorKPX
import Derived.Test.YtaallpebfcadjaaGreatDoorKQA
/-! Slices of orders, an order and a visit by value, as arguments (written by gen_ordargs.py). -/
namespace Go.Proofs.YtaallpebfcadjaaGreatDoor.T
open Go.Joins Go.ChangeShapes Go.WideShapes Go.ChangeAt Go.RowKit Go.Deep
set_option maxRecDepth 8000
section
variable {H : Type} {enc : TypeId × Value → H}
theorem arg_order {W : World} {base : Nat} {v : Value} {d : DataW H} {p : List MemPlace}
  (hv : Value.okWide Tryz.prog W .any base 44 v) (h : DataW.Trod enc Tryz.prog W 0 (fun _ => true) true 44 v d p) (hlt : ∀ x ∈ p, x.block < W.heap.size) :
  ∃ (q : OrT) (oa : Option Addr) (c : Nat), v = .agg #[.string q.name, .slice oa q.load.length c, .int .i64 q.pp, .int .i64 q.po, .int .i64 q.pc, .int .i64 q.ps, .int .i64 q.dp, .int .i64 q.dd, .int .i64 q.dc, .int .i64 q.ds, .int .i64 q.sk, .int .i64 q.pen, .int .i64 q.spl, .int .i64 q.las, .int .i64 q.now, .bool q.off] ∧
   L.Li W (.slice oa q.load.length c) q.load ∧ q.load.length ≤ 9223372036854775807 ∧ q.name.size ≤ 9223372036854775807 := by
 have hC : Tryz.prog.cellsOf 44 = 16 := by kernel_rfl
 obtain ⟨cs, rfl, hsz⟩ := okWide_struct Tryz.underlying44 hv
 obtain ⟨fuel, hf⟩ := h
 obtain ⟨q, oa, c, hcs, h1, h2, h3⟩ := order_of (cs := cs.toList) (by rw [Array.length_toList, hsz]; exact hC) hf hlt
 refine ⟨q, oa, c, ?_, h1, h2, h3⟩
 rw [← Array.toArray_toList (xs := cs), hcs]
end
end Go.Proofs.YtaallpebfcadjaaGreatDoor.T
namespace Go.Proofs.YtaallpebfcadjaaGreatDoor.T
open Go.RowKit
set_option maxRecDepth 8000
theorem dec12_round {x z d : Nat} (hx : 10 ≤ x) (hd : d = x % 10) (hz : z = x / 10) {s N : List UInt8} (h : Lib.decDigits x ++ s = N) : Lib.decDigits z ++ (UInt8.ofNat (48 + d) :: s) = N := by
 rw [dec_big (by omega), List.append_assoc, ← hd, ← hz] at h
 exact h
theorem one_string (wr : World) (d : Nat) (hd : d < 10) :
  (convert 141 9 (.slice (some ⟨wr.heap.size, 0, none⟩) 1 1)).run Tryz.prog (wr.alloc (.cells #[.int .u8 (48 + (d : Int))] 5)) = .ok (.string ⟨#[UInt8.ofNat (48 + d)]⟩) (wr.alloc (.cells #[.int .u8 (48 + (d : Int))] 5)) := by
 have e : (48 + (d : Int)) = ((UInt8.ofNat (48 + d)).toNat : Int) := by rw [toNat_digit d hd]; omega
 rw [e]
 exact own_string (B := wr.heap.size) (v := .slice (some ⟨wr.heap.size, 0, none⟩) 1 1) (n := 1) (l := [UInt8.ofNat (48 + d)]) ⟨by simp [bc], .inr ⟨wr.heap.size, 1, _, rfl, Nat.le_refl _, heap_alloc_new wr _, Nat.le_refl _, by decide, rfl, rfl⟩⟩
set_option maxHeartbeats 400000 in
theorem decimal12_n (n : Nat) (hn : n ≤ 1000000000) (w : World) :
  Calls Tryz.prog 116 #[.int .i64 n] w fun e w' => e = .returned (.string (dec n)) ∧ Below w.heap.size w w' := by
 have HN : Hid (dec n = ⟨(Lib.decDigits n).toArray⟩) := rfl
 have hlen := dec_len 9 n (by omega)
 generalize dec n = r at *
 generalize hN : Lib.decDigits n = N at *
 go_enter Tryz.func116, Tryz.ntmps116
 go_wp2_with fail
 go_loopw [0, 3] (fun a b wr => ∃ (s : List UInt8) (x : Nat), b = .string ⟨s.toArray⟩ ∧ a = .int .i64 x ∧ x ≤ 1000000000 ∧ Hid (Below w.heap.size w wr) ∧ Hid (Lib.decDigits x ++ s = N)) (fun a _ _ => (intOf a).toNat)
 case atStart => exact ⟨[], n, rfl, rfl, hn, Below.refl _ _, by show _ = _; rw [List.append_nil]; exact hN⟩
 case round =>
  clear hN
  obtain ⟨s, x, rfl, rfl, hx, HB, HS⟩ := hrel
  have hsl : s.length ≤ 10 := by
   have h2 := congrArg List.length HS.out
   rw [List.length_append] at h2
   omega
  by_cases h10 : 10 ≤ x
  ·obtain ⟨d, hd⟩ : ∃ d, d = x % 10 := ⟨_, rfl⟩
   obtain ⟨z, hz⟩ : ∃ z, z = x / 10 := ⟨_, rfl⟩
   have HR := Lib.hid (dec12_round h10 hd hz HS.out)
   have hd9 : d < 10 := by omega
   have hz9 : z < x := by omega
   have e1 : ((x : Int).tmod 10) = (d : Int) := by rw [Int.tmod_eq_emod_of_nonneg (by omega)]; omega
   have e2 : ((x : Int).tdiv 10) = (z : Int) := by rw [Int.tdiv_eq_ediv_of_nonneg (by omega)]; omega
   have hcv := one_string wr d hd9
   have HB2 := Lib.hid (over HB.out (below_alloc wr (.cells #[.int .u8 (48 + (d : Int))] 5)))
   clear hd hz HS
   go_wp2_with fail
   go_roundw
   case rel => exact ⟨_, z, cat1 _ _, rfl, by omega, HB2, by simpa using HR⟩
   case measure => simp [intOf]; omega
  ·have hcv := one_string wr x (by omega)
   have HR : Hid (N = UInt8.ofNat (48 + x) :: s) := by show _ = _; rw [← HS.out, dec_small (by omega)]; rfl
   have HB2 := Lib.hid (over HB.out (below_alloc wr (.cells #[.int .u8 (48 + (x : Int))] 5)))
   clear HS
   go_wp2_with fail
   go_ret
   exact ⟨by rw [HN.out, HR.out]; exact congrArg Ending.returned (by simpa using cat1 (UInt8.ofNat (48 + x)) s), HB2.out⟩
end Go.Proofs.YtaallpebfcadjaaGreatDoor.T
namespace Go.Proofs.YtaallpebfcadjaaGreatDoor.T
open Go.RowKit
set_option maxRecDepth 8000
theorem twice_step_R {turned : Bool} {l : List (Int × Int)} {i k : Nat} (h : k < l.length) : twiceP turned l i (k + 1) = (twiceP turned l i k || eqP turned (l.getD k (0, 0)) (l.getD i (0, 0))) := by
 unfold twiceP
 rw [take_more (d := (0, 0)) h, List.any_append]
 simp
set_option maxHeartbeats 6400000 in
theorem faults12_n (n : Int) (v : Value) (l : List (Int × Int)) (word : ByteArray) (turned : Bool) (hl : l.length ≤ 2000000) (hw : word.size ≤ 100) (w : World) (hv : Ps w v l) :
  Calls Tryz.prog 71 #[.int .i64 n, v, .string word, .bool turned] w (ChkP (pairF n l word turned) w) := by
 have HV := Lib.hid hv
 obtain ⟨oa, c, rfl, -⟩ := hv
 have HE : Hid (pfF n l word turned l.length = pairF n l word turned) := rfl
 have H0 : Hid (pfF n l word turned 0 = if 16 < l.length then [(4, word)] else []) := rfl
 have HS : Hid (∀ k, pfF n l word turned (k + 1) = pfF n l word turned k ++ (pairE n turned l k).map fun e => (e, atW word k)) := fun _ => rfl
 have HPE : Hid (∀ k, pairE n turned l k = if badP n (l.getD k (0, 0)) then [2] else if twiceP turned l k k then [6] else []) := fun _ => rfl
 have HT := Lib.hid (fun i k (hk : k < l.length) => twice_step_R (turned := turned) (i := i) hk)
 have HT0 : Hid (∀ i, twiceP turned l i 0 = false) := fun _ => rfl
 have HL := Lib.hid (pfF_len n l word turned)
 generalize pairF n l word turned = r at *
 generalize hn : l.length = m at *
 have HM := Lib.hid hn
 clear hn
 go_enter Tryz.func71, Tryz.ntmps71
 go_upto_if 18 with fail
 go_cut [9] from 9 to 23 (fun v wx => Hid (Gl w.heap.size wx v (pfF n l word turned 0)) ∧ Hid (Below w.heap.size w wx))
 case first =>
  by_cases hb : 16 < m
  ·have hbI : (16 : Int) < (m : Int) := by omega
   have HF : Hid (pfF n l word turned 0 = [] ++ [(4, word)]) := by show _ = _; rw [H0.out, if_pos hb]; rfl
   clear hb
   go_wp2_with (at_builtin; refine wpList_append_run rfl _ _ 33 rfl rfl rfl (ap_f1 _ 4 word (Gl.nil _ w) (Nat.le_refl _) (by simp)) ?_)
   intro v3 w3 hg3 hb3
   go_wp2_with fail
   go_meet
   case rel => exact ⟨HF.out ▸ hg3, hb3⟩
  ·have hbI : ¬ (16 : Int) < (m : Int) := by omega
   have HF : Hid (pfF n l word turned 0 = []) := by show _ = _; rw [H0.out, if_neg hb]
   clear hb
   go_wp2_with fail
   go_meet
   case rel => exact ⟨HF.out ▸ Gl.nil _ _, Below.refl _ _⟩
 obtain ⟨HG, HB⟩ := hcut
 go_wp2_with fail
 go_loopg [9, 10] m (fun g v j wr => ∃ k : Nat, k ≤ m ∧ j = .int .i64 k ∧ m - k ≤ g ∧ Hid (Gl w.heap.size wr v (pfF n l word turned k)) ∧ Hid (Below w.heap.size w wr))
 case atStart => exact ⟨0, Nat.zero_le _, rfl, Nat.le_refl _, HG, HB⟩
 case round =>
  clear HG HB H0
  obtain ⟨k, hkm, rfl, hg, HG, HB⟩ := hrel
  by_cases hlt : k < m
  ·obtain ⟨b, o, rfl, hab, x0, x1⟩ := ps_at (by have := HV.out; rw [← HM.out] at this; exact this) (show k < l.length by rw [HM.out]; exact hlt)
   have y0 := (HB.out.cell (p := ⟨b, _, none⟩) hab).trans x0
   have y1 := (HB.out.cell (p := ⟨b, _, none⟩) hab).trans x1
   have hkI : (k : Int) < (m : Int) := by omega
   have hk9 : k ≤ 1000000000 := by omega
   have HSk := Lib.hid (HS.out k)
   have HPk := Lib.hid (HPE.out k)
   have KD := Lib.hid (fun w => decimal12_n k hk9 w)
   have hds := dec_size hk9
   obtain ⟨p, hp⟩ : ∃ p, l.getD k (0, 0) = p := ⟨_, rfl⟩
   rw [hp] at y0 y1 HPk
   have HPp := Lib.hid hp
   have HAt : Hid (atW word k = word ++ ⟨#[32]⟩ ++ dec k) := rfl
   generalize atW word k = at' at *
   generalize dec k = dk at *
   clear x0 x1 hp
   go_wp2_with fail
   refine (KD.out _).mono ?_
   rintro e w1 ⟨rfl, b1⟩
   have HG1 := Lib.hid (HG.out.frame b1)
   have HB1 := Lib.hid (over HB.out b1)
   have z0 := (HB1.out.cell (p := ⟨b, _, none⟩) hab).trans ((HB.out.cell (p := ⟨b, _, none⟩) hab).symm.trans y0)
   clear b1 HG HB KD y0 y1
   go_upto_region 10 with fail
   clear z0
   go_cut [65] from 45 to 65 (fun t wx => t = .bool (badP n p) ∧ w1 = wx)
   case first =>
    have HBd : Hid (badP n p = (decide (p.1 < 0) || decide (n ≤ p.1) || decide (p.2 < 0) || decide (n ≤ p.2) || p.1 == p.2)) := rfl
    generalize badP n p = bd at *
    generalize p.1 = x at *
    generalize p.2 = y at *
    by_cases h1 : x < 0
    ·have HR : Hid (bd = true) := by show _ = _; rw [HBd.out, decide_eq_true h1]; rfl
     go_wp2_with fail
     go_meet
     case rel => exact ⟨by rw [HR.out], rfl⟩
    by_cases h2 : n ≤ x
    ·have HR : Hid (bd = true) := by show _ = _; rw [HBd.out, decide_eq_true h2]; simp
     go_wp2_with fail
     go_meet
     case rel => exact ⟨by rw [HR.out], rfl⟩
    by_cases h3 : y < 0
    ·have HR : Hid (bd = true) := by show _ = _; rw [HBd.out, decide_eq_true h3]; simp
     go_wp2_with fail
     go_meet
     case rel => exact ⟨by rw [HR.out], rfl⟩
    by_cases h4 : n ≤ y
    ·have HR : Hid (bd = true) := by show _ = _; rw [HBd.out, decide_eq_true h4]; simp
     go_wp2_with fail
     go_meet
     case rel => exact ⟨by rw [HR.out], rfl⟩
    have HR : Hid (bd = (x == y)) := by show _ = _; rw [HBd.out, decide_eq_false h1, decide_eq_false h2, decide_eq_false h3, decide_eq_false h4]; rfl
    go_wp2_with fail
    go_meet
    case rel => exact ⟨by rw [HR.out], rfl⟩
   obtain ⟨rfl, rfl⟩ := hcut
   cases hbd : badP n p
   ·rw [hbd] at HPk
    have HPk : Hid (pairE n turned l k = if twiceP turned l k k then [6] else []) := by show _ = _; rw [HPk.out]; simp
    clear hbd
    have HT0k := Lib.hid (HT0.out k)
    have HTk := Lib.hid (fun i (hi : i < m) => HT.out k i hi)
    clear HT0 HT HPE HS
    go_wp2_with fail
    go_loopg [14, 15] k (fun g2 t j wr2 => ∃ i : Nat, i ≤ k ∧ j = .int .i64 i ∧ k - i ≤ g2 ∧ t = .bool (twiceP turned l k i) ∧ w1 = wr2)
    case atStart => exact ⟨0, Nat.zero_le _, rfl, Nat.le_refl _, by rw [HT0k.out], rfl⟩
    case round =>
     obtain ⟨i, hik, rfl, hg2, rfl, rfl⟩ := hrel
     by_cases hi : i < k
     ·have hil : i < l.length := by rw [HM.out]; omega
      obtain ⟨b', o', hbo, hab', x0, x1⟩ := ps_at (by have := HV.out; rw [← HM.out] at this; exact this) hil
      simp only [Option.some.injEq, Addr.mk.injEq, and_true] at hbo
      obtain ⟨rfl, rfl⟩ := hbo
      have q0 := (HB1.out.cell (p := ⟨b, _, none⟩) hab).trans x0
      have q1 := (HB1.out.cell (p := ⟨b, _, none⟩) hab).trans x1
      have hiI : (i : Int) < (k : Int) := by omega
      have himI : (i : Int) < (m : Int) := by omega
      have HTi := Lib.hid (HTk.out i (by omega))
      rw [HPp.out] at HTi
      clear x0 x1
      generalize l.getD i (0, 0) = q at *
      generalize twiceP turned l k i = tw at *
      have HEq : Hid (eqP turned q p = ((q.1 == p.1 && q.2 == p.2) || (turned && (q.1 == p.2 && q.2 == p.1)))) := rfl
      generalize eqP turned q p = eq at *
      generalize q.1 = x at *
      generalize q.2 = y at *
      generalize p.1 = x' at *
      generalize p.2 = y' at *
      cases tw
      ·by_cases h1 : x = x'
       ·by_cases h2 : y = y'
        ·have HR : Hid (eq = true) := by show _ = _; rw [HEq.out, h1, h2]; simp
         subst h1 h2
         go_wp2_with fail
         go_roundg (k - (i + 1))
         case measure => omega
         case rel => exact ⟨i + 1, by omega, by go_num, by omega, by rw [HTi.out, HR.out]; rfl, rfl⟩
        ·cases turned
         ·have HR : Hid (eq = false) := by show _ = _; rw [HEq.out, ne_eqI h2]; simp
          have h2' := ne_eqI h2
          subst h1
          go_wp2_with fail
          go_roundg (k - (i + 1))
          case measure => omega
          case rel => exact ⟨i + 1, by omega, by go_num, by omega, by rw [HTi.out, HR.out]; rfl, rfl⟩
         ·have HR : Hid (eq = (x == y' && y == x')) := by show _ = _; rw [HEq.out, ne_eqI h2]; simp
          have h2' := ne_eqI h2
          subst h1
          by_cases h3 : x = y'
          ·subst h3
           have HR2 : Hid (eq = false) := by show _ = _; rw [HR.out, ne_eqI h2]; simp
           go_wp2_with fail
           go_roundg (k - (i + 1))
           case measure => omega
           case rel => exact ⟨i + 1, by omega, by go_num, by omega, by rw [HTi.out, HR2.out]; rfl, rfl⟩
          ·have h3' := ne_eqI h3
           have HR2 : Hid (eq = false) := by show _ = _; rw [HR.out, h3']; rfl
           go_wp2_with fail
           go_roundg (k - (i + 1))
           case measure => omega
           case rel => exact ⟨i + 1, by omega, by go_num, by omega, by rw [HTi.out, HR2.out]; rfl, rfl⟩
       ·have h1' := ne_eqI h1
        cases turned
        ·have HR : Hid (eq = false) := by show _ = _; rw [HEq.out, h1']; simp
         go_wp2_with fail
         go_roundg (k - (i + 1))
         case measure => omega
         case rel => exact ⟨i + 1, by omega, by go_num, by omega, by rw [HTi.out, HR.out]; rfl, rfl⟩
        ·have HR : Hid (eq = (x == y' && y == x')) := by show _ = _; rw [HEq.out, h1']; simp
         by_cases h3 : x = y'
         ·subst h3
          by_cases h4 : y = x'
          ·subst h4
           have HR2 : Hid (eq = true) := by show _ = _; rw [HR.out]; simp
           go_wp2_with fail
           go_roundg (k - (i + 1))
           case measure => omega
           case rel => exact ⟨i + 1, by omega, by go_num, by omega, by rw [HTi.out, HR2.out]; rfl, rfl⟩
          ·have h4' := ne_eqI h4
           have HR2 : Hid (eq = false) := by show _ = _; rw [HR.out, h4']; simp
           go_wp2_with fail
           go_roundg (k - (i + 1))
           case measure => omega
           case rel => exact ⟨i + 1, by omega, by go_num, by omega, by rw [HTi.out, HR2.out]; rfl, rfl⟩
         ·have h3' := ne_eqI h3
          have HR2 : Hid (eq = false) := by show _ = _; rw [HR.out, h3']; rfl
          go_wp2_with fail
          go_roundg (k - (i + 1))
          case measure => omega
          case rel => exact ⟨i + 1, by omega, by go_num, by omega, by rw [HTi.out, HR2.out]; rfl, rfl⟩
      ·go_wp2_with fail
       go_roundg (k - (i + 1))
       case measure => omega
       case rel => exact ⟨i + 1, by omega, by go_num, by omega, by rw [HTi.out]; simp, rfl⟩
     ·have hii : i = k := by omega
      subst hii
      cases htw : twiceP turned l i i
      ·have HX : Hid (pfF n l word turned (i + 1) = pfF n l word turned i) := by show _ = _; rw [HSk.out, HPk.out, htw]; simp
       have HG3 : Hid (Gl w.heap.size w1 u9 (pfF n l word turned (i + 1))) := by show Gl _ _ _ _; rw [HX.out]; exact HG1.out
       clear htw HPk HSk HX
       go_wp2_with fail
       go_roundg (m - (i + 1))
       case measure => omega
       case rel => exact ⟨i + 1, by omega, by go_num, by omega, HG3, HB1⟩
      ·have HX : Hid (pfF n l word turned (i + 1) = pfF n l word turned i ++ [(6, at')]) := by show _ = _; rw [HSk.out, HPk.out, htw]; rfl
       have hll := HL.out i
       have hsz := HB1.out.size
       clear htw HPk HSk
       go_wp2_with (at_builtin; refine wpList_append_run rfl _ _ 33 rfl rfl rfl (ap_f1 _ 6 (word ++ ⟨#[32]⟩ ++ dk) HG1.out hsz (by omega)) ?_)
       intro v3 w3 hg3 hb3
       have HG3 : Hid (Gl w.heap.size w3 v3 (pfF n l word turned (i + 1))) := by show Gl _ _ _ _; rw [HX.out, HAt.out]; exact hg3
       have HB3 := Lib.hid (HB1.out.trans hb3)
       clear hg3 hb3
       go_wp2_with fail
       go_roundg (m - (i + 1))
       case measure => omega
       case rel => exact ⟨i + 1, by omega, by go_num, by omega, HG3, HB3⟩
   ·rw [hbd] at HPk
    have HX : Hid (pfF n l word turned (k + 1) = pfF n l word turned k ++ [(2, at')]) := by show _ = _; rw [HSk.out, HPk.out]; rfl
    have hll := HL.out k
    have hsz := HB1.out.size
    clear hbd HPk HSk
    go_wp2_with (at_builtin; refine wpList_append_run rfl _ _ 33 rfl rfl rfl (ap_f1 _ 2 (word ++ ⟨#[32]⟩ ++ dk) HG1.out hsz (by omega)) ?_)
    intro v3 w3 hg3 hb3
    have HG3 : Hid (Gl w.heap.size w3 v3 (pfF n l word turned (k + 1))) := by show Gl _ _ _ _; rw [HX.out, HAt.out]; exact hg3
    have HB3 := Lib.hid (HB1.out.trans hb3)
    clear hg3 hb3
    go_wp2_with fail
    go_roundg (m - (k + 1))
    case measure => omega
    case rel => exact ⟨k + 1, by omega, by go_num, by omega, HG3, HB3⟩
  ·have hkk : k = m := by omega
   subst hkk
   have HR := Lib.hid HE.out
   go_wp2_with fail
   go_ret
   exact chkP (HR.out ▸ HG.out) HB.out (Nat.le_refl _)
end Go.Proofs.YtaallpebfcadjaaGreatDoor.T
namespace Go.Proofs.YtaallpebfcadjaaGreatDoor.T
open Go.RowKit
set_option maxRecDepth 8000
set_option maxHeartbeats 3200000 in
theorem check12_n (n : Int) (v u : Value) (ap be : List (Int × Int)) (ha : ap.length ≤ 2000000) (hb : be.length ≤ 2000000) (w : World) (hv : Ps w v ap) (hu : Ps w u be) :
  Calls Tryz.prog 34 #[.int .i64 n, v, u] w (ChkP (checkF n ap be) w) := by
 have K1 := Lib.hid (fun w hv => faults12_n n v ap apartW true ha (by decide) w hv)
 have K2 := Lib.hid (fun w hv => faults12_n n u be beforeW false hb (by decide) w hv)
 have HV := Lib.hid hv
 have HU := Lib.hid hu
 have h1 := pairF_len n ap apartW true
 have h2 := pairF_len n be beforeW false
 have HR : Hid (pairF n ap apartW true ++ pairF n be beforeW false = checkF n ap be) := rfl
 generalize checkF n ap be = r at *
 generalize pairF n ap apartW true = r1 at *
 generalize pairF n be beforeW false = r2 at *
 unfold apartW at K1
 unfold beforeW at K2
 clear hv hu
 go_enter Tryz.func34, Tryz.ntmps34
 go_wp2_with fail
 refine (K1.out _ HV.out).mono ?_
 intro e w1 h
 obtain ⟨v1, rfl, -, hg1, b1⟩ := Lf.of_chk h
 have HG1 := Lib.hid hg1
 have B1 := Lib.hid b1
 have HU1 := Lib.hid (HU.out.below b1)
 clear hg1 b1 h HU K1
 go_wp2_with fail
 refine (K2.out _ HU1.out).mono ?_
 intro e w2 h
 obtain ⟨v2, rfl, hl2, -, b2⟩ := Lf.of_chk h
 have HG2 := Lib.hid (HG1.out.frame b2)
 have HL2 := Lib.hid hl2
 have B2 := Lib.hid (over B1.out b2)
 have hsz := B2.out.size
 clear hl2 b2 h HG1 B1 HU1 K2
 go_wp2_with (at_builtin; refine wpList_append_run rfl _ _ 33 rfl rfl rfl (ap_f _ HG2.out HL2.out hsz (by omega)) ?_)
 intro v3 w3 hg3 hb3 _ _
 have HG3 := Lib.hid hg3
 have B3 := Lib.hid (B2.out.trans hb3)
 clear hg3 hb3
 go_wp2_with fail
 go_ret
 exact chkP (HR.out ▸ HG3.out) B3.out (Nat.le_refl _)
section
variable {w w' : World} {q : Nat} {x0 x1 x2 x3 x4 x5 : Value}
end
end Go.Proofs.YtaallpebfcadjaaGreatDoor.T
namespace Go.Proofs.YtaallpebfcadjaaGreatDoor.T
open Go.RowKit
set_option maxRecDepth 8000
theorem knownO_more {l : List OrT} {s : ByteArray} {k m : Nat} (hk : k ≤ m) (h : knownO l s k = true) : knownO l s m = true := by
 unfold knownO at *
 obtain ⟨x, hx, hp⟩ := List.any_eq_true.1 h
 exact List.any_eq_true.2 ⟨x, (List.take_subset_take_left l hk) hx, hp⟩
end Go.Proofs.YtaallpebfcadjaaGreatDoor.T

