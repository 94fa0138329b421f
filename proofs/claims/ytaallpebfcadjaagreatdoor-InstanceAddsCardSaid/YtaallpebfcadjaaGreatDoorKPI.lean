/-
  DERIVED. KPI: a part of the base of layer 13 (made by pack.py).
-/
import Derived.RangeFuncBox
import Derived.RangeFuncNested
import Derived.RangeFuncBound
import Derived.RangeFuncCalls
import Derived.RangeFuncLeaves
import Derived.Shelf.Abstract
import Derived.Shelf.RegionOpen
import Derived.OwnWalkIn
import Derived.TacticsInMore
import Derived.LoopNIn
import Derived.LoopIn
import Derived.Test.YtaallpebfcadjaaGreatDoorKPG
import Derived.Test.YtaallpebfcadjaaGreatDoorKPC
import Derived.Test.YtaallpebfcadjaaGreatDoorKPH
/-! The walks of network's slowErrors, placeErrors and faultsAt. -/
namespace Go.Proofs.YtaallpebfcadjaaGreatDoor.T
open Go.RowKit
set_option maxRecDepth 8000

def slC0 (n : Nat) : List Int := if 16 < n then [4] else []
def slC (l : List (Int × Int)) : Nat → List Int
  | 0 => slC0 l.length
  | k + 1 => slC l k ++ if slowB l k then [] else [2]
def slE (l : List (Int × Int)) : List Int := slC l l.length
theorem slC_len (l : List (Int × Int)) : ∀ k, (slC l k).length ≤ k + 1
  | 0 => by unfold slC slC0; split <;> simp
  | k + 1 => by
    show (slC l k ++ if slowB l k then [] else [2]).length ≤ _
    rw [List.length_append]
    have := slC_len l k
    split <;> simp <;> omega

set_option maxHeartbeats 6400000 in
theorem slowErrors_n (u : Value) (l : List (Int × Int)) (hl : l.length ≤ 1000000) (w : World) (hu : Ps w u l) :
    Calls Tryz.prog 124 #[u] w (ErrP (slE l) w) := by
  obtain ⟨oa, c, rfl, ha⟩ := hu
  have HA := Lib.hid ha
  have HE : Hid (slC l l.length = slE l) := rfl
  have H0 : Hid (slC l 0 = slC0 l.length) := rfl
  have HZS : Hid (∀ m, slC l (m + 1) = slC l m ++ if slowB l m then [] else [2]) := fun _ => rfl
  have HL := Lib.hid (slC_len l)
  generalize slE l = r at *
  generalize hn : l.length = n at *
  clear ha
  go_enter Tryz.func124, Tryz.ntmps124
  go_upto_if 8 with fail
  go_cut [3] from 6 (fun v wx => Hid (Ge w.heap.size wx v (slC0 n)) ∧ Hid (Below w.heap.size w wx))
  case first =>
    by_cases h : 16 < n
    · have h2 : (16 : Int) < (n : Int) := by omega
      have HF : Hid (slC0 n = [] ++ [4]) := by show _ = _; unfold slC0; rw [if_pos h]; rfl
      go_wp2_with (at_builtin; refine wpList_append_run rfl _ _ 98 rfl rfl rfl (ap_e1 _ 4 (Ge.nil _ w) (Nat.le_refl _) (by simp)) ?_)
      intro v3 w3 hg3 hb3
      go_wp2_with fail
      go_meet
      case rel => exact ⟨HF.out ▸ hg3, hb3⟩
    · have h2 : ¬ (16 : Int) < (n : Int) := by omega
      have HF : Hid (slC0 n = []) := by show _ = _; unfold slC0; rw [if_neg h]
      go_wp2_with fail
      go_meet
      case rel => exact ⟨HF.out ▸ Ge.nil _ _, Below.refl _ _⟩
  obtain ⟨HG, HB⟩ := hcut
  rw [← H0.out] at HG
  go_wp2_with fail
  go_loopg [3, 14] n (fun g v j wx => ∃ m : Nat, m ≤ n ∧ j = .int .i64 m ∧ n - m ≤ g ∧ Hid (Ge w.heap.size wx v (slC l m)) ∧ Hid (Below w.heap.size w wx))
  case atStart => exact ⟨0, Nat.zero_le _, rfl, Nat.le_refl _, HG, HB⟩
  case round =>
    clear HG HB H0
    obtain ⟨m, hm, rfl, hg, HG, HB⟩ := hrel
    have hsz := HB.out.size
    have hll := HL.out m
    by_cases hmn : m < n
    · obtain ⟨b3, o3, hos3, hb3, k0, k1⟩ := HA.out m hmn
      subst hos3
      unfold pT at k0
      unfold pA at k1
      obtain ⟨x, y, hxy⟩ : ∃ x y, l.getD m (0, 0) = (x, y) := ⟨_, _, rfl⟩
      rw [hxy] at k0 k1
      simp only at k0 k1
      have d0 := (HB.out.cell (p := ⟨b3, _, none⟩) hb3).trans k0
      have d1 := (HB.out.cell (p := ⟨b3, _, none⟩) hb3).trans k1
      obtain ⟨W3, hW3⟩ : ∃ W3, wr.alloc (.cells #[.int .i64 x, .int .i64 y] 105) = W3 := ⟨_, rfl⟩
      obtain ⟨q3, hq3⟩ : ∃ q3, wr.heap.size = q3 := ⟨_, rfl⟩
      have hbe := below_alloc wr (.cells #[.int .i64 x, .int .i64 y] 105)
      have p0 : W3.cell? ⟨q3, 0, none⟩ = some (.int .i64 x) := by rw [← hW3, ← hq3]; simp
      have p1 : W3.cell? ⟨q3, 1, none⟩ = some (.int .i64 y) := by rw [← hW3, ← hq3]; simp
      rw [hW3] at hbe
      have HB3 := Lib.hid (over HB.out hbe)
      have HG3 := Lib.hid (HG.out.frame hbe)
      have HPrev : Hid (∀ z, m = z + 1 → ∃ x0, (l.getD z (0, 0)).1 = x0 ∧ W3.cell? ⟨b3, o3 + z * 2, none⟩ = some (.int .i64 x0)) := fun z hz => by
        obtain ⟨b4, o4, hos4, hb4, k2, -⟩ := HA.out z (by omega)
        simp only [Option.some.injEq, Addr.mk.injEq, and_true] at hos4
        obtain ⟨rfl, rfl⟩ := hos4
        exact ⟨_, rfl, (HB3.out.cell (p := ⟨b3, _, none⟩) hb4).trans k2⟩
      have KT1 := Lib.hid (fun w => netTick_n x w)
      have KT2 := Lib.hid (fun w => netTick_n y w)
      have HS2 := Lib.hid (HZS.out m)
      have hmI : (m : Int) < (n : Int) := by omega
      clear k0 k1 hbe HB HG
      go_wp2_with fail
      clear hW3 d0 d1
      go_cut [43, 3, 14] from 14 to 47 (fun t v j wx => t = .bool (!slowB l m) ∧ v = u3 ∧ j = .int .i64 m ∧ ∃ z, wx = W3.drewN z)
      case first => as_aux_lemma =>
        cases t1 : tickB x
        · rw [t1] at KT1
          have hp : Hid ((!slowB l m) = true) := by show _ = _; unfold slowB; rw [hxy, t1]; rfl
          clear hxy t1 HPrev
          go_quiet (first | (go_at_call 142; exact quiet_eq (KT1.out _)) | (go_at_call 142; exact quiet_eq (KT2.out _)))
          go_wp2_with fail
          go_meet
          case rel => exact ⟨congrArg Value.bool (by rw [hp.out] <;> first | rfl | (simp; done) | (simp; omega)), rfl, rfl, _, rfl⟩
        · rw [t1] at KT1
          cases t2 : tickB y
          · rw [t2] at KT2
            have hp : Hid ((!slowB l m) = true) := by show _ = _; unfold slowB; rw [hxy, t1, t2]; rfl
            cases m with
            | zero =>
              clear hxy t1 t2 HPrev
              go_quiet (first | (go_at_call 142; exact quiet_eq (KT1.out _)) | (go_at_call 142; exact quiet_eq (KT2.out _)))
              go_wp2_with fail
              go_meet
              case rel => exact ⟨congrArg Value.bool (by rw [hp.out] <;> first | rfl | (simp; done) | (simp; omega)), rfl, rfl, _, rfl⟩
            | succ z =>
              obtain ⟨x0, hx0, d2⟩ := HPrev.out z rfl
              have hz1 : (0 : Int) < (z : Int) + 1 := by omega
              have hz2 : (0 : Int) ≤ (z : Int) := by omega
              have hz3 : (z : Int) < (n : Int) := by omega
              have hwz : IntKind.i64.wrap (z : Int) = (z : Int) := IntWalk.i64_in _ (by omega)
              by_cases hxx : x ≤ x0
              · have hxd : decide (x ≤ x0) = true := decide_eq_true hxx
                clear hxy t1 t2 hx0 HPrev
                go_quiet (first | (go_at_call 142; exact quiet_eq (KT1.out _)) | (go_at_call 142; exact quiet_eq (KT2.out _)))
                go_wp2_with fail
                go_meet
                case rel => exact ⟨congrArg Value.bool (by rw [hp.out] <;> first | rfl | (simp; done) | (simp; omega)), rfl, rfl, _, rfl⟩
              · have hxd : decide (x ≤ x0) = false := decide_eq_false hxx
                clear hxy t1 t2 hx0 HPrev
                go_quiet (first | (go_at_call 142; exact quiet_eq (KT1.out _)) | (go_at_call 142; exact quiet_eq (KT2.out _)))
                go_wp2_with fail
                go_meet
                case rel => exact ⟨congrArg Value.bool (by rw [hp.out] <;> first | rfl | (simp; done) | (simp; omega)), rfl, rfl, _, rfl⟩
          · rw [t2] at KT2
            cases m with
            | zero =>
              have hp : Hid ((!slowB l 0) = false) := by show _ = _; unfold slowB; rw [hxy, t1, t2]; rfl
              clear hxy t1 t2 HPrev
              go_quiet (first | (go_at_call 142; exact quiet_eq (KT1.out _)) | (go_at_call 142; exact quiet_eq (KT2.out _)))
              go_wp2_with fail
              go_meet
              case rel => exact ⟨congrArg Value.bool (by rw [hp.out] <;> first | rfl | (simp; done) | (simp; omega)), rfl, rfl, _, rfl⟩
            | succ z =>
              obtain ⟨x0, hx0, d2⟩ := HPrev.out z rfl
              have hz1 : (0 : Int) < (z : Int) + 1 := by omega
              have hz2 : (0 : Int) ≤ (z : Int) := by omega
              have hz3 : (z : Int) < (n : Int) := by omega
              have hwz : IntKind.i64.wrap (z : Int) = (z : Int) := IntWalk.i64_in _ (by omega)
              by_cases hxx : x ≤ x0
              · have hp : Hid ((!slowB l (z + 1)) = true) := by show _ = _; unfold slowB; rw [hxy, t1, t2, show z + 1 - 1 = z from rfl, hx0]; simp [hxx]
                have hxd : decide (x ≤ x0) = true := decide_eq_true hxx
                clear hxy t1 t2 hx0 HPrev
                go_quiet (first | (go_at_call 142; exact quiet_eq (KT1.out _)) | (go_at_call 142; exact quiet_eq (KT2.out _)))
                go_wp2_with fail
                go_meet
                case rel => exact ⟨congrArg Value.bool (by rw [hp.out] <;> first | rfl | (simp; done) | (simp; omega)), rfl, rfl, _, rfl⟩
              · have hp : Hid ((!slowB l (z + 1)) = false) := by show _ = _; unfold slowB; rw [hxy, t1, t2, show z + 1 - 1 = z from rfl, hx0]; simp [hxx]
                have hxd : decide (x ≤ x0) = false := decide_eq_false hxx
                clear hxy t1 t2 hx0 HPrev
                go_quiet (first | (go_at_call 142; exact quiet_eq (KT1.out _)) | (go_at_call 142; exact quiet_eq (KT2.out _)))
                go_wp2_with fail
                go_meet
                case rel => exact ⟨congrArg Value.bool (by rw [hp.out] <;> first | rfl | (simp; done) | (simp; omega)), rfl, rfl, _, rfl⟩
      obtain ⟨rfl, rfl, rfl, z, hwz⟩ := hcut
      have HBc : Hid (Below w.heap.size w wc) := by show Below _ _ _; rw [hwz]; exact below_drewN HB3.out _
      have HGc : Hid (Ge w.heap.size wc u3 (slC l m)) := by show Ge _ _ _ _; rw [hwz]; exact HG3.out
      have hszc := HBc.out.size
      clear hwz HB3 HG3 p0 p1 KT1 KT2 HPrev hq3 hsz
      cases hsb : slowB l m
      · have HX : Hid (slC l (m + 1) = slC l m ++ [2]) := by show _ = _; rw [HS2.out, hsb]; rfl
        clear hsb
        generalize slC l m = Q at *
        go_wp2_with (at_builtin; refine wpList_append_run rfl _ _ 98 rfl rfl rfl (ap_e1 _ 2 HGc.out hszc (by omega)) ?_)
        intro v3 w3 hg3 hb3
        have HG3 : Hid (Ge w.heap.size w3 v3 (slC l (m + 1))) := by show Ge _ _ _ _; rw [HX.out]; exact hg3
        have HB3 := Lib.hid (HBc.out.trans hb3)
        clear hg3 hb3
        go_wp2_with fail
        go_roundg (n - (m + 1))
        case measure => omega
        case rel => exact ⟨m + 1, by omega, by go_num, by omega, HG3, HB3⟩
      · have HX := Lib.hid (HGc.out.ext (show slC l m = slC l (m + 1) by rw [HS2.out, hsb, if_pos rfl, List.append_nil]))
        clear hsb
        go_wp2_with fail
        go_roundg (n - (m + 1))
        case measure => omega
        case rel => exact ⟨m + 1, by omega, by go_num, by omega, HX, HBc⟩
    · have hmn' : m = n := by omega
      subst hmn'
      have HR := Lib.hid HE.out
      go_wp2_with fail
      go_ret
      exact errP (HR.out ▸ HG.out) HB.out

def plE (s : ByteArray) (tw : Bool) : List Int := if nmB s then (if tw then [6] else []) else [5]
theorem placeErrors_n (s : ByteArray) (tw : Bool) (w : World) :
    Calls Tryz.prog 90 #[.string s, .bool tw] w (ErrP (plE s tw) w) := by
  have K : Hid (∀ w, Calls Tryz.prog 95 #[.string s] w fun e w' => e = .returned (.bool (nmB s)) ∧ w = w') := fun w => name_any s w
  have HE : Hid ((if nmB s then (if tw then [6] else []) else [5]) = plE s tw) := rfl
  have L5 := Lib.hid (le_one w 5)
  have L6 := Lib.hid (le_one w 6)
  generalize plE s tw = r at *
  generalize nmB s = b at *
  cases b
  · go_enter Tryz.func90, Tryz.ntmps90
    go_wp2_with fail
    refine (K.out _).mono ?_
    rintro e w1 ⟨rfl, rfl⟩
    go_wp2_with fail
    go_ret
    exact ⟨_, rfl, HE.out ▸ L5.out, below_alloc _ _⟩
  · cases tw
    · go_enter Tryz.func90, Tryz.ntmps90
      go_wp2_with fail
      refine (K.out _).mono ?_
      rintro e w1 ⟨rfl, rfl⟩
      go_wp2_with fail
      go_ret
      exact ⟨_, rfl, HE.out ▸ (Ge.nil 0 _).le, Below.refl _ _⟩
    · go_enter Tryz.func90, Tryz.ntmps90
      go_wp2_with fail
      refine (K.out _).mono ?_
      rintro e w1 ⟨rfl, rfl⟩
      go_wp2_with fail
      go_ret
      exact ⟨_, rfl, HE.out ▸ L6.out, below_alloc _ _⟩

def atF (kind : ByteArray) (i : Nat) (l : List Int) : List (Int × ByteArray) := l.map fun x => (x, (kind ++ ⟨#[32]⟩) ++ dec i)
theorem atF_len (kind : ByteArray) (i : Nat) (l : List Int) : (atF kind i l).length = l.length := List.length_map ..
theorem atF_step {kind : ByteArray} {i : Nat} {l : List Int} {k : Nat} (h : k < l.length) : atF kind i (l.take (k + 1)) = atF kind i (l.take k) ++ [(l.getD k 0, (kind ++ ⟨#[32]⟩) ++ dec i)] := by
  unfold atF
  rw [take_more (d := 0) h, List.map_append]
  rfl

set_option maxHeartbeats 3200000 in
theorem faultsAt_n (kind : ByteArray) (i : Nat) (u : Value) (l : List Int) (hk : kind.size ≤ 100) (hi : i ≤ 1000000000) (hl : l.length ≤ 10000000) (w : World) (hu : Le w u l) (hT : Tab w) :
    Calls Tryz.prog 89 #[.string kind, .int .i64 i, u] w (ChkP (atF kind i l) w) := by
  obtain ⟨oa, c, rfl, hu, -⟩ := hu
  obtain ⟨oa', c', hv, ha⟩ := hu
  simp only [Value.slice.injEq] at hv
  obtain ⟨rfl, -, rfl⟩ := hv
  have HA := Lib.hid ha
  have HT := Lib.hid hT
  have HE : Hid (atF kind i (l.take l.length) = atF kind i l) := by show _ = _; rw [List.take_length]
  have HZ : Hid (atF kind i (l.take 0) = []) := rfl
  have HS := Lib.hid (fun k (h : k < l.length) => atF_step (kind := kind) (i := i) h)
  have HL : Hid (∀ k, k ≤ l.length → (atF kind i (l.take k)).length = k) := fun k h => by rw [atF_len, List.length_take]; omega
  have hds := dec_size hi
  have KD := Lib.hid (fun w ht => netDecimal_n i hi w ht)
  generalize atF kind i l = r at *
  generalize hn : l.length = n at *
  clear ha hT hn
  go_enter Tryz.func89, Tryz.ntmps89
  go_wp2_with fail
  go_loopg [7, 12] n (fun g v j wx => ∃ k : Nat, k ≤ n ∧ j = .int .i64 k ∧ n - k ≤ g ∧ Hid (Gl w.heap.size wx v (atF kind i (l.take k))) ∧ Hid (Below w.heap.size w wx))
  case atStart => exact ⟨0, Nat.zero_le _, rfl, Nat.le_refl _, HZ.out ▸ Gl.nil _ _, Below.refl _ _⟩
  case round =>
    obtain ⟨k, hkn, rfl, hg, HG, HB⟩ := hrel
    by_cases hlt : k < n
    · obtain ⟨a, rfl, hab, hc0⟩ := HA.out k hlt
      have hcl := HL.out k hkn
      have HSk := Lib.hid (HS.out k hlt)
      have d0 := (HB.out.cell (p := a.add k) (by rw [L.add_block]; exact hab)).trans hc0
      have hkI : (k : Int) < (n : Int) := by omega
      have HTr := Lib.hid (HT.out.over HB.out)
      generalize l.getD k 0 = x at *
      generalize atF kind i (l.take k) = Q at *
      clear hc0
      go_wp2_with fail
      refine (KD.out _ HTr.out).mono ?_
      rintro e w1 ⟨rfl, b1⟩
      have HB1 := Lib.hid (over HB.out b1)
      have HG1 := Lib.hid (HG.out.frame b1)
      have hsz := HB1.out.size
      clear b1 d0 HB HG
      go_wp2_with (at_builtin; refine wpList_append_run rfl _ _ 33 rfl rfl rfl (ap_f1 _ x ((kind ++ ⟨#[32]⟩) ++ dec i) HG1.out hsz (by omega)) ?_)
      intro v3 w3 hg3 hb3
      have HG3 : Hid (Gl w.heap.size w3 v3 (atF kind i (l.take (k + 1)))) := by show Gl _ _ _ _; rw [HSk.out]; exact hg3
      have HB3 := Lib.hid (HB1.out.trans hb3)
      clear hg3 hb3
      go_wp2_with fail
      go_roundg (n - (k + 1))
      case measure => omega
      case rel => exact ⟨k + 1, by omega, by go_num, by omega, HG3, HB3⟩
    · have hk' : k = n := by omega
      subst hk'
      have HR := Lib.hid HE.out
      go_wp2_with fail
      go_ret
      exact chkP (HR.out ▸ HG.out) HB.out (Nat.le_refl _)

end Go.Proofs.YtaallpebfcadjaaGreatDoor.T


/-! The walk of network's arcErrors. -/
namespace Go.Proofs.YtaallpebfcadjaaGreatDoor.T
open Go.RowKit
set_option maxRecDepth 8000

def arE1 (np : Nat) (a : ArcT) : List Int := if inB np a.fr && inB np a.to then [] else [11]
def arE2 (a : ArcT) : List Int := if valB a then [] else [2]
def arE3 (tw : Bool) : List Int := if tw then [6] else []
def arE4 (l : List (Int × ByteArray)) : List Int := l.map (·.1)
def arE (np : Nat) (a : ArcT) (tw : Bool) : List Int := arE1 np a ++ arE2 a ++ arE3 tw ++ arE4 (faults a.tr) ++ slE a.sl
theorem arE4_step {l : List (Int × ByteArray)} {m : Nat} (hm : m < l.length) : arE4 (l.take (m + 1)) = arE4 (l.take m) ++ [(l.getD m (0, ⟨#[]⟩)).1] := by
  unfold arE4
  rw [take_more (d := (0, ⟨#[]⟩)) hm, List.map_append]
  rfl
theorem ap_e1k {B : Nat} {w : World} {v : Value} {l : List Int} (ty : TypeId) (x : Int) (hv : Ge B w v l) (hB : B ≤ w.heap.size) (hn : l.length ≤ 9000000) {oF : Option Addr} {cF : Nat} {F : List (Int × ByteArray)}
    (hF : Fs w (.slice oF F.length cF) F) (hN : ∀ b o, oF = some ⟨b, o, none⟩ → b < w.heap.size ∧ v.ownBlock ≠ some b) :
    ∃ v' w', (Builtin.append_ #[98, 98] ty #[v, .slice (some ⟨w.heap.size, 0, none⟩) 1 1]).run Tryz.prog (w.alloc (.cells #[.int .i64 x] 35)) = .ok v' w' ∧
      (Ge B w' v' (l ++ [x]) ∧ Below B w w' ∧ Fs w' (.slice oF F.length cF) F ∧ ∀ b o, oF = some ⟨b, o, none⟩ → b < w'.heap.size ∧ v'.ownBlock ≠ some b) := by
  obtain ⟨i0, hi, hz0, hz1, hz2⟩ := infoE
  have hv1 := hv.frame (below_alloc w (.cells #[.int .i64 x] 35))
  have hF1 : Fs (w.alloc (.cells #[.int .i64 x] 35)) (.slice oF F.length cF) F := Sl.below hF (below_alloc w _)
  have hsz : (w.alloc (.cells #[.int .i64 x] 35)).heap.size = w.heap.size + 1 := by simp
  obtain ⟨oL, cL, hvL, hL, -⟩ := le_one w x
  simp only [Value.slice.injEq] at hvL
  obtain ⟨rfl, -, rfl⟩ := hvL
  obtain ⟨v', w', hr, h2, h3, -, h5⟩ := run_append_own_at (P := Tryz.prog) (w.alloc (.cells #[.int .i64 x] 35)) B 98 ty 35 i0 (.int .i64 0) 1 8 Tryz.underlying98 hi hz0 hz1 hz2 rfl (by decide) v l.length (l.map L.vi) hv1 ⟨w.heap.size, 0, none⟩ 1 1 ([x].map L.vi) rfl (li_news hL) (vi_cells [x]) (by unfold maxLen; omega) (by omega) (by omega)
  refine ⟨v', w', hr, ?_, ((below_alloc w _).mono hB).trans (below_row (by omega) h3 hv.blk), Sl.grown hF1 h3 (fun b o e h => (hN b o e).2 h.symm), fun b o e => ?_⟩
  · unfold Ge
    rw [List.length_append, List.map_append]
    exact h2
  · obtain ⟨h6, h7⟩ := hN b o e
    refine ⟨Nat.lt_of_lt_of_le (by omega) h3.size, fun h => ?_⟩
    rcases h5 with h5 | h5
    · exact h7 (h5 ▸ h)
    · rw [h5, hsz] at h
      simp only [Option.some.injEq] at h
      omega

set_option maxHeartbeats 12800000 in
theorem arcErrors_n (op : Option Addr) (np cp : Nat) (oa : Option Addr) (n c : Nat) (a : ArcT) (vt vs : Value) (tw : Bool) (ht9 : a.tr.length ≤ 1000000) (hs9 : a.sl.length ≤ 1000000) (w : World) (hpt : Ps w vt a.tr) (hps : Ps w vs a.sl) (hT : Tab w) :
    Calls Tryz.prog 93 #[.agg #[.slice op np cp, .slice oa n c], .agg #[.int .i64 a.fr, .int .i64 a.to, .int .i64 a.prof, .int .i64 a.miles, vt, vs], .bool tw] w (ErrP (arE np a tw) w) := by
  obtain ⟨ot, ct, hvt, -⟩ := id hpt
  obtain ⟨os, cs, hvs, -⟩ := id hps
  subst hvt
  subst hvs
  have HE : Hid (arE1 np a ++ arE2 a ++ arE3 tw ++ arE4 (faults a.tr) ++ slE a.sl = arE np a tw) := rfl
  have HF1 : Hid ((if inB np a.fr && inB np a.to then [] else [11]) = arE1 np a) := rfl
  have HF2 : Hid ((if valB a then [] else [2]) = arE2 a) := rfl
  have HF3 : Hid ((if tw then [6] else []) = arE3 tw) := rfl
  have HO2 : Hid ((decide (0 ≤ a.prof) && decide (a.prof ≤ 7) && decide (0 ≤ a.miles) && decide (a.miles ≤ 10000) && !decide (a.fr = a.to)) = valB a) := rfl
  have HFL := flt_len a.tr a.tr.length
  have HFL2 : (faults a.tr).length ≤ 3000000 := by
    have : faults a.tr = flt a.tr a.tr.length := rfl
    rw [this]; omega
  have HSL := slC_len a.sl a.sl.length
  have HL1 : (arE1 np a).length ≤ 1 := by unfold arE1; split <;> simp
  have HL2 : (arE2 a).length ≤ 1 := by unfold arE2; split <;> simp
  have HL3 : (arE3 tw).length ≤ 1 := by unfold arE3; split <;> simp
  have HL5 : (slE a.sl).length ≤ 1000001 := by unfold slE; omega
  clear HFL HSL
  have K1 := Lib.hid (fun w => netPlace_n op np cp (.slice oa n c) a.fr w)
  have K2 := Lib.hid (fun w => netPlace_n op np cp (.slice oa n c) a.to w)
  have KC := Lib.hid (fun w hu ht => check_n (.slice ot a.tr.length ct) a.tr ht9 w hu ht)
  have KS := Lib.hid (fun w hu => slowErrors_n (.slice os a.sl.length cs) a.sl hs9 w hu)
  obtain ⟨W0, hW0⟩ : ∃ W0, (w.alloc (.cells #[.slice op np cp, .slice oa n c] 25)).alloc (.cells #[.int .i64 a.fr, .int .i64 a.to, .int .i64 a.prof, .int .i64 a.miles, .slice ot a.tr.length ct, .slice os a.sl.length cs] 54) = W0 := ⟨_, rfl⟩
  have BB := over (below_alloc w (.cells #[.slice op np cp, .slice oa n c] 25)) (below_alloc _ (.cells #[.int .i64 a.fr, .int .i64 a.to, .int .i64 a.prof, .int .i64 a.miles, .slice ot a.tr.length ct, .slice os a.sl.length cs] 54))
  have N0 := Lib.hid ((Nb.made w (.slice op np cp) (.slice oa n c)).below (below_alloc _ (.cells #[.int .i64 a.fr, .int .i64 a.to, .int .i64 a.prof, .int .i64 a.miles, .slice ot a.tr.length ct, .slice os a.sl.length cs] 54)))
  have A0 := Ab.made (w.alloc (.cells #[.slice op np cp, .slice oa n c] 25)) (.int .i64 a.fr) (.int .i64 a.to) (.int .i64 a.prof) (.int .i64 a.miles) (.slice ot a.tr.length ct) (.slice os a.sl.length cs)
  rw [show (w.alloc (.cells #[.slice op np cp, .slice oa n c] 25)).heap.size = w.heap.size + 1 by simp] at A0
  have A0 := Lib.hid A0
  have PT := Lib.hid (hpt.below BB)
  have PS := Lib.hid (hps.below BB)
  have HT := Lib.hid (hT.over BB)
  rw [hW0] at BB N0 A0 PT PS HT
  have B0 := Lib.hid BB
  clear BB hpt hps hT
  have g0 := N0.out.c0
  have g1 := N0.out.c1
  have a0 := A0.out.c0
  have a1 := A0.out.c1
  have a2 := A0.out.c2
  have a3 := A0.out.c3
  have a4 := A0.out.c4
  have a5 := A0.out.c5
  generalize arE np a tw = r at *
  generalize hF1 : arE1 np a = F1 at *
  generalize hF2 : arE2 a = F2 at *
  generalize hF3 : arE3 tw = F3 at *
  generalize slE a.sl = S at *
  generalize faults a.tr = F at *
  generalize valB a = bo2 at *
  clear hF1 hF2 hF3
  obtain ⟨fr, dt, prof, miles, tr, sl⟩ := a
  simp only at HF1 HO2 K1 K2 KC KS PT PS a0 a1 a2 a3 a4 a5 A0 ht9 hs9 hW0
  generalize tr.length = nt at *
  generalize sl.length = ns at *
  go_enter Tryz.func93, Tryz.ntmps93
  go_upto_region 2 with fail
  clear hW0
  go_cut [21] from 10 to 21 (fun v wx => v = .bool (!(inB np fr && inB np dt)) ∧ Hid (Below W0.heap.size W0 wx))
  case first => as_aux_lemma =>
    go_wp2_with fail
    refine (K1.out _).mono ?_
    rintro e w1 ⟨rfl, b1⟩
    have e0 := (N0.out.below b1).c0
    have e1 := (N0.out.below b1).c1
    have e2 := (A0.out.below b1).c1
    clear g0 g1 a0 a1 a2 a3 a4 a5
    cases h1 : inB np fr
    · go_wp2_with fail
      go_meet
      case rel => exact ⟨by rw [h1]; rfl, b1⟩
    · go_wp2_with fail
      refine (K2.out _).mono ?_
      rintro e w2 ⟨rfl, b2⟩
      have B2 := Lib.hid (over b1 b2)
      clear e0 e1 e2
      cases h2 : inB np dt
      · go_wp2_with fail
        go_meet
        case rel => exact ⟨by rw [h1, h2]; rfl, B2⟩
      · go_wp2_with fail
        go_meet
        case rel => exact ⟨by rw [h1, h2]; rfl, B2⟩
  obtain ⟨rfl, HB⟩ := hcut
  clear g0 g1 a0 a1 a2 a3 a4 a5
  have hsz := HB.out.size
  go_upto_if 21 with fail
  go_cut [7] from 10 to 24 (fun v wx => Hid (Ge W0.heap.size wx v F1) ∧ Hid (Below W0.heap.size W0 wx))
  case first => as_aux_lemma =>
    cases hb : (inB np fr && inB np dt)
    · have HF := Lib.hid HF1.out
      rw [hb] at HF
      go_wp2_with (at_builtin; refine wpList_append_run rfl _ _ 98 rfl rfl rfl (ap_e1 _ 11 (Ge.nil W0.heap.size wc) hsz (by simp)) ?_)
      intro v3 w3 hg3 hb3
      have HB3 := Lib.hid (HB.out.trans hb3)
      go_wp2_with fail
      go_meet
      case rel => exact ⟨HF.out ▸ hg3, HB3⟩
    · have HF := Lib.hid HF1.out
      rw [hb] at HF
      go_wp2_with fail
      go_meet
      case rel => exact ⟨HF.out ▸ Ge.nil _ _, HB⟩
  clear HB hsz HF1
  obtain ⟨HG, HB⟩ := hcut
  have hsz := HB.out.size
  have a0 := (A0.out.below HB.out).c0
  have a1 := (A0.out.below HB.out).c1
  have a2 := (A0.out.below HB.out).c2
  have a3 := (A0.out.below HB.out).c3
  go_upto_region 4 with fail
  go_cut [49] from 25 to 49 (fun v wx => v = .bool (!bo2) ∧ wc = wx)
  case first => as_aux_lemma =>
    by_cases p1 : 0 ≤ prof
    · by_cases p2 : prof ≤ 7
      · have p2n : ¬ (7 : Int) < prof := by omega
        by_cases p3 : 0 ≤ miles
        · by_cases p4 : miles ≤ 10000
          · have p4n : ¬ (10000 : Int) < miles := by omega
            by_cases p5 : fr = dt
            · have hp : Hid ((!bo2) = true) := by show _ = _; rw [← HO2.out, decide_eq_true p5] <;> simp
              subst p5
              go_wp2_with fail
              go_meet
              case rel => exact ⟨congrArg Value.bool (by rw [hp.out] <;> first | rfl | (simp; done) | (simp; omega)), rfl⟩
            · have hp : Hid ((!bo2) = false) := by show _ = _; rw [← HO2.out, decide_eq_true p1, decide_eq_true p2, decide_eq_true p3, decide_eq_true p4, decide_eq_false p5]; rfl
              have p5n := ne_eqI p5
              go_wp2_with fail
              go_meet
              case rel => exact ⟨congrArg Value.bool (by rw [hp.out] <;> first | rfl | (simp; done) | (simp; omega)), rfl⟩
          · have p4n : (10000 : Int) < miles := by omega
            have hp : Hid ((!bo2) = true) := by show _ = _; rw [← HO2.out, decide_eq_false p4] <;> simp
            go_wp2_with fail
            go_meet
            case rel => exact ⟨congrArg Value.bool (by rw [hp.out] <;> first | rfl | (simp; done) | (simp; omega)), rfl⟩
        · have p3n : miles < 0 := by omega
          have hp : Hid ((!bo2) = true) := by show _ = _; rw [← HO2.out, decide_eq_false p3] <;> simp
          go_wp2_with fail
          go_meet
          case rel => exact ⟨congrArg Value.bool (by rw [hp.out] <;> first | rfl | (simp; done) | (simp; omega)), rfl⟩
      · have p2n : (7 : Int) < prof := by omega
        have hp : Hid ((!bo2) = true) := by show _ = _; rw [← HO2.out, decide_eq_false p2] <;> simp
        go_wp2_with fail
        go_meet
        case rel => exact ⟨congrArg Value.bool (by rw [hp.out] <;> first | rfl | (simp; done) | (simp; omega)), rfl⟩
    · have p1n : prof < 0 := by omega
      have hp : Hid ((!bo2) = true) := by show _ = _; rw [← HO2.out, decide_eq_false p1] <;> simp
      go_wp2_with fail
      go_meet
      case rel => exact ⟨congrArg Value.bool (by rw [hp.out] <;> first | rfl | (simp; done) | (simp; omega)), rfl⟩
  obtain ⟨rfl, rfl⟩ := hcut
  clear a0 a1 a2 a3 HO2
  go_upto_if 49 with fail
  go_cut [7] from 25 to 52 (fun v wx => Hid (Ge W0.heap.size wx v (F1 ++ F2)) ∧ Hid (Below W0.heap.size W0 wx))
  case first => as_aux_lemma =>
    cases hb : bo2
    · have HF := Lib.hid HF2.out
      rw [hb] at HF
      go_wp2_with (at_builtin; refine wpList_append_run rfl _ _ 98 rfl rfl rfl (ap_e1 _ 2 HG.out hsz (by omega)) ?_)
      intro v3 w3 hg3 hb3
      have HB3 := Lib.hid (HB.out.trans hb3)
      go_wp2_with fail
      go_meet
      case rel => exact ⟨HF.out ▸ hg3, HB3⟩
    · have HF := Lib.hid HF2.out
      rw [hb] at HF
      have HX := Lib.hid (HG.out.ext (show F1 = F1 ++ F2 by rw [← HF.out]; simp))
      go_wp2_with fail
      go_meet
      case rel => exact ⟨HX, HB⟩
  clear HB HG hsz HF2
  obtain ⟨HG, HB⟩ := hcut
  have hsz := HB.out.size
  have hfl : (F1 ++ F2).length ≤ 2 := by rw [List.length_append]; omega
  go_upto_if 53 with fail
  go_cut [7] from 54 to 56 (fun v wx => Hid (Ge W0.heap.size wx v (F1 ++ F2 ++ F3)) ∧ Hid (Below W0.heap.size W0 wx))
  case first => as_aux_lemma =>
    cases tw
    · have HX := Lib.hid (HG.out.ext (show F1 ++ F2 = F1 ++ F2 ++ F3 by rw [← HF3.out]; simp))
      go_wp2_with fail
      go_meet
      case rel => exact ⟨HX, HB⟩
    · have HF : Hid ([6] = F3) := HF3.out
      go_wp2_with (at_builtin; refine wpList_append_run rfl _ _ 98 rfl rfl rfl (ap_e1 _ 6 HG.out hsz (by omega)) ?_)
      intro v3 w3 hg3 hb3
      have HB3 := Lib.hid (HB.out.trans hb3)
      go_wp2_with fail
      go_meet
      case rel => exact ⟨by show Ge _ _ _ _; rw [← HF.out, List.append_assoc]; exact hg3, HB3⟩
  clear HB HG hsz HF3 hfl
  obtain ⟨HG, HB⟩ := hcut
  have hsz := HB.out.size
  have hfl : (F1 ++ F2 ++ F3).length ≤ 3 := by rw [List.length_append, List.length_append]; omega
  generalize F1 ++ F2 ++ F3 = G at *
  have PT1 := Lib.hid (PT.out.below HB.out)
  have HT1 := Lib.hid (HT.out.over HB.out)
  have a4 := (A0.out.below HB.out).c4
  go_wp2_with fail
  refine (KC.out _ PT1.out HT1.out).mono ?_
  rintro e w2 ⟨oF, cF, rfl, ⟨hFs, hGl, -⟩, b2⟩
  have HB2 := Lib.hid (over HB.out b2)
  have HG2 := Lib.hid (HG.out.frame b2)
  have HFs := Lib.hid hFs
  have HN : Hid (∀ b o, oF = some ⟨b, o, none⟩ → b < w2.heap.size ∧ (u7).ownBlock ≠ some b) := fun b o e => by
    have h1 := World.ownsRow.lt hGl.own b (by rw [e]; rfl)
    refine ⟨h1.2, fun h => ?_⟩
    have h2 := (World.ownsRow.lt HG.out b h).2
    omega
  clear a4 hFs hGl b2 HB HG hsz PT1 HT1 KC
  have HS4 := Lib.hid (fun k (hk : k < F.length) => arE4_step hk)
  have HL4 : Hid (∀ k, k ≤ F.length → (arE4 (F.take k)).length = k) := fun k h => by unfold arE4; rw [List.length_map, List.length_take]; omega
  have HE4 : Hid (arE4 (F.take F.length) = arE4 F) := by show _ = _; rw [List.take_length]
  have HZ4 : Hid (G ++ arE4 (F.take 0) = G) := List.append_nil _
  obtain ⟨nF, hnF⟩ : ∃ nF, F.length = nF := ⟨_, rfl⟩
  rw [hnF] at HFs HS4 HL4 HE4 HFL2 ⊢
  have HFx : Hid (∀ {w : World} {oa : Option Addr} {c : Nat}, Fs w (.slice oa nF c) F → Fs w (.slice oa F.length c) F) := fun h => by rw [hnF]; exact h
  go_wp2_with fail
  go_loopg [7, 61] nF (fun g v j wx => ∃ k : Nat, k ≤ nF ∧ j = .int .i64 k ∧ nF - k ≤ g ∧ Hid (Ge W0.heap.size wx v (G ++ arE4 (F.take k))) ∧ Hid (Below W0.heap.size W0 wx) ∧ Hid (Fs wx (.slice oF nF cF) F) ∧ Hid (∀ b o, oF = some ⟨b, o, none⟩ → b < wx.heap.size ∧ v.ownBlock ≠ some b))
  case atStart => exact ⟨0, Nat.zero_le _, rfl, Nat.le_refl _, HG2.out.ext HZ4.out.symm, HB2, HFs, HN⟩
  case round =>
    clear HG2 HB2 HFs HN HZ4
    obtain ⟨k, hkn, rfl, hg, HG, HB, HF, HN⟩ := hrel
    have hsz := HB.out.size
    by_cases hlt : k < nF
    · have hFk := HF.out
      obtain ⟨oF', cF', hvF, hall⟩ := hFk
      simp only [Value.slice.injEq] at hvF
      obtain ⟨rfl, -, rfl⟩ := hvF
      obtain ⟨bF, oo, hoF, hbF, k0, k1⟩ := hall k (by omega)
      subst hoF
      have hl4 := HL4.out k hkn
      have HS4k := Lib.hid (HS4.out k hlt)
      obtain ⟨x, s, hxs⟩ : ∃ x s, F.getD k (0, ⟨#[]⟩) = (x, s) := ⟨_, _, rfl⟩
      have d0 : wr.cell? ⟨bF, oo + k * 2, none⟩ = some (.int .i64 x) := by rw [k0, hxs]; rfl
      have d1 : wr.cell? ⟨bF, oo + k * 2 + 1, none⟩ = some (.string s) := by rw [k1, hxs]; rfl
      rw [hxs] at HS4k
      have hbe := below_alloc wr (.cells #[.int .i64 x, .string s] 37)
      have p0 : (wr.alloc (.cells #[.int .i64 x, .string s] 37)).cell? ⟨wr.heap.size, 0, none⟩ = some (.int .i64 x) := by simp
      have HB3 := Lib.hid (over HB.out hbe)
      have HG3 := Lib.hid (HG.out.frame hbe)
      have HF3 := Lib.hid (HFx.out (Sl.below HF.out hbe))
      have HN3 : Hid (∀ b o, some (⟨bF, oo, none⟩ : Addr) = some ⟨b, o, none⟩ → b < (wr.alloc (.cells #[.int .i64 x, .string s] 37)).heap.size ∧ u7.ownBlock ≠ some b) := fun b o e => by
        obtain ⟨h1, h2⟩ := HN.out b o e
        exact ⟨Nat.lt_of_lt_of_le h1 hbe.size, h2⟩
      have hsz3 := HB3.out.size
      have hkI : (k : Int) < (nF : Int) := by omega
      have hgl : (G ++ arE4 (F.take k)).length ≤ 9000000 := by rw [List.length_append]; omega
      have HX : Hid (G ++ arE4 (F.take (k + 1)) = G ++ arE4 (F.take k) ++ [x]) := by show _ = _; rw [HS4k.out, List.append_assoc]
      clear k0 k1 hall hxs hbe HB HG HF HN HS4k
      generalize G ++ arE4 (F.take k) = Q at *
      go_upto_region 11 with fail
      generalize wr.alloc (.cells #[.int .i64 x, .string s] 37) = W3 at *
      generalize wr.heap.size = q3 at *
      clear d0 d1
      go_wp2_with (at_builtin; refine wpList_append_run rfl _ _ 98 rfl rfl rfl (ap_e1k _ x HG3.out hsz3 hgl HF3.out HN3.out) ?_)
      intro v3 w3 hg3 hb3 hf3 hn3 hn4
      have HG4 : Hid (Ge W0.heap.size w3 v3 (G ++ arE4 (F.take (k + 1)))) := by show Ge _ _ _ _; rw [HX.out]; exact hg3
      have HB4 := Lib.hid (HB3.out.trans hb3)
      have HF4 : Hid (Fs w3 (.slice (some ⟨bF, oo, none⟩) nF cF) F) := hf3
      have HN4 : Hid (∀ b o, some (⟨bF, oo, none⟩ : Addr) = some ⟨b, o, none⟩ → b < w3.heap.size ∧ v3.ownBlock ≠ some b) := fun b o e => by
        simp only [Option.some.injEq, Addr.mk.injEq, and_true] at e
        obtain ⟨rfl, rfl⟩ := e
        exact ⟨hn3, hn4⟩
      clear hg3 hb3 hf3 hn3 hn4 HB3 HG3 HF3 HN3 p0
      go_wp2_with fail
      go_roundg (nF - (k + 1))
      case measure => omega
      case rel => exact ⟨k + 1, by omega, by go_num, by omega, HG4, HB4, HF4, HN4⟩
    · have hk' : k = nF := by omega
      subst hk'
      have HG4 := Lib.hid (HG.out.ext (show G ++ arE4 (F.take k) = G ++ arE4 F by rw [HE4.out]))
      have hl4 : (arE4 F).length ≤ 3000000 := by unfold arE4; rw [List.length_map]; omega
      have hgl : (G ++ arE4 F).length ≤ 3000003 := by rw [List.length_append]; omega
      have PS4 := Lib.hid (PS.out.below HB.out)
      have a5 := (A0.out.below HB.out).c5
      clear HG HF HN
      generalize G ++ arE4 F = Q at *
      go_wp2_with fail
      refine (KS.out _ PS4.out).mono ?_
      rintro e w5 ⟨v5, rfl, hv5, b5⟩
      have HB5 := Lib.hid (over HB.out b5)
      have HG5 := Lib.hid (HG4.out.frame b5)
      have HV5 := Lib.hid hv5
      have hsz5 := HB5.out.size
      have hR : Hid (Q ++ S = r) := HE.out
      clear hv5 b5 a5 HG4 HB
      go_wp2_with (at_builtin; refine wpList_append_run rfl _ _ 98 rfl rfl rfl (ap_e _ HG5.out HV5.out hsz5 (by omega)) ?_)
      intro v6 w6 hg6 hb6
      have HB6 := Lib.hid (HB5.out.trans hb6)
      have HG6 := Lib.hid hg6
      clear hg6 hb6
      go_wp2_with fail
      go_ret
      exact errP (Ge.ext HG6.out hR.out) (over B0.out HB6.out)

end Go.Proofs.YtaallpebfcadjaaGreatDoor.T


