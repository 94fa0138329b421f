/-
  DERIVED. The walks of network's slowErrors, placeErrors and faultsAt.
-/
import Derived.Test.YtegpebnkogjadaaDoorNetErr
namespace Go.Proofs.YtegpebnkogjadaaDoor.T
open Go.RowKit
set_option maxRecDepth 8000

def slC0 (n : Nat) : List Int := if 16 < n then [4] else []
def slC (l : List (Int × Int)) : Nat → List Int
  | 0 => slC0 l.length
  | k + 1 => slC l k ++ if slowB l k then [] else [2]
def slE (l : List (Int × Int)) : List Int := slC l l.length
theorem slC_len (l : List (Int × Int)) : ∀ k, (slC l k).length ≤ k + 1
  | 0 => by unfold slC slC0; split <;> simp
  | k + 1 => by
    show (slC l k ++ if slowB l k then [] else [2]).length ≤ _
    rw [List.length_append]
    have := slC_len l k
    split <;> simp <;> omega

set_option maxHeartbeats 6400000 in
theorem slowErrors_n (u : Value) (l : List (Int × Int)) (hl : l.length ≤ 1000000) (w : World) (hu : Ps w u l) :
    Calls Tryd.prog 60 #[u] w (ErrP (slE l) w) := by
  obtain ⟨oa, c, rfl, ha⟩ := hu
  have HA := Lib.hid ha
  have HE : Hid (slC l l.length = slE l) := rfl
  have H0 : Hid (slC l 0 = slC0 l.length) := rfl
  have HZS : Hid (∀ m, slC l (m + 1) = slC l m ++ if slowB l m then [] else [2]) := fun _ => rfl
  have HL := Lib.hid (slC_len l)
  generalize slE l = r at *
  generalize hn : l.length = n at *
  clear ha
  go_enter Tryd.func60, Tryd.ntmps60
  go_upto_if 8 with fail
  go_cut [3] from 6 (fun v wx => Hid (Ge w.heap.size wx v (slC0 n)) ∧ Hid (Below w.heap.size w wx))
  case first =>
    by_cases h : 16 < n
    · have h2 : (16 : Int) < (n : Int) := by omega
      have HF : Hid (slC0 n = [] ++ [4]) := by show _ = _; unfold slC0; rw [if_pos h]; rfl
      go_wp2_with (at_builtin; refine wpList_append_run rfl _ _ 78 rfl rfl rfl (ap_e1 _ 4 (Ge.nil _ w) (Nat.le_refl _) (by simp)) ?_)
      intro v3 w3 hg3 hb3
      go_wp2_with fail
      go_meet
      case rel => exact ⟨HF.out ▸ hg3, hb3⟩
    · have h2 : ¬ (16 : Int) < (n : Int) := by omega
      have HF : Hid (slC0 n = []) := by show _ = _; unfold slC0; rw [if_neg h]
      go_wp2_with fail
      go_meet
      case rel => exact ⟨HF.out ▸ Ge.nil _ _, Below.refl _ _⟩
  obtain ⟨HG, HB⟩ := hcut
  rw [← H0.out] at HG
  go_wp2_with fail
  go_loopg [3, 14] n (fun g v j wx => ∃ m : Nat, m ≤ n ∧ j = .int .i64 m ∧ n - m ≤ g ∧ Hid (Ge w.heap.size wx v (slC l m)) ∧ Hid (Below w.heap.size w wx))
  case atStart => exact ⟨0, Nat.zero_le _, rfl, Nat.le_refl _, HG, HB⟩
  case round =>
    clear HG HB H0
    obtain ⟨m, hm, rfl, hg, HG, HB⟩ := hrel
    have hsz := HB.out.size
    have hll := HL.out m
    by_cases hmn : m < n
    · obtain ⟨b3, o3, hos3, hb3, k0, k1⟩ := HA.out m hmn
      subst hos3
      unfold pT at k0
      unfold pA at k1
      obtain ⟨x, y, hxy⟩ : ∃ x y, l.getD m (0, 0) = (x, y) := ⟨_, _, rfl⟩
      rw [hxy] at k0 k1
      simp only at k0 k1
      have d0 := (HB.out.cell (p := ⟨b3, _, none⟩) hb3).trans k0
      have d1 := (HB.out.cell (p := ⟨b3, _, none⟩) hb3).trans k1
      obtain ⟨W3, hW3⟩ : ∃ W3, wr.alloc (.cells #[.int .i64 x, .int .i64 y] 75) = W3 := ⟨_, rfl⟩
      obtain ⟨q3, hq3⟩ : ∃ q3, wr.heap.size = q3 := ⟨_, rfl⟩
      have hbe := below_alloc wr (.cells #[.int .i64 x, .int .i64 y] 75)
      have p0 : W3.cell? ⟨q3, 0, none⟩ = some (.int .i64 x) := by rw [← hW3, ← hq3]; simp
      have p1 : W3.cell? ⟨q3, 1, none⟩ = some (.int .i64 y) := by rw [← hW3, ← hq3]; simp
      rw [hW3] at hbe
      have HB3 := Lib.hid (over HB.out hbe)
      have HG3 := Lib.hid (HG.out.frame hbe)
      have HPrev : Hid (∀ z, m = z + 1 → ∃ x0, (l.getD z (0, 0)).1 = x0 ∧ W3.cell? ⟨b3, o3 + z * 2, none⟩ = some (.int .i64 x0)) := fun z hz => by
        obtain ⟨b4, o4, hos4, hb4, k2, -⟩ := HA.out z (by omega)
        simp only [Option.some.injEq, Addr.mk.injEq, and_true] at hos4
        obtain ⟨rfl, rfl⟩ := hos4
        exact ⟨_, rfl, (HB3.out.cell (p := ⟨b3, _, none⟩) hb4).trans k2⟩
      have KT1 := Lib.hid (fun w => netTick_n x w)
      have KT2 := Lib.hid (fun w => netTick_n y w)
      have HS2 := Lib.hid (HZS.out m)
      have hmI : (m : Int) < (n : Int) := by omega
      clear k0 k1 hbe HB HG
      go_wp2_with fail
      clear hW3 d0 d1
      go_cut [43, 3, 14] from 14 to 47 (fun t v j wx => t = .bool (!slowB l m) ∧ v = u3 ∧ j = .int .i64 m ∧ ∃ z, wx = W3.drewN z)
      case first => as_aux_lemma =>
        cases t1 : tickB x
        · rw [t1] at KT1
          have hp : Hid ((!slowB l m) = true) := by show _ = _; unfold slowB; rw [hxy, t1]; rfl
          clear hxy t1 HPrev
          go_quiet (first | (go_at_call 40; exact quiet_eq (KT1.out _)) | (go_at_call 40; exact quiet_eq (KT2.out _)))
          go_wp2_with fail
          go_meet
          case rel => exact ⟨congrArg Value.bool (by rw [hp.out] <;> first | rfl | (simp; done) | (simp; omega)), rfl, rfl, _, rfl⟩
        · rw [t1] at KT1
          cases t2 : tickB y
          · rw [t2] at KT2
            have hp : Hid ((!slowB l m) = true) := by show _ = _; unfold slowB; rw [hxy, t1, t2]; rfl
            cases m with
            | zero =>
              clear hxy t1 t2 HPrev
              go_quiet (first | (go_at_call 40; exact quiet_eq (KT1.out _)) | (go_at_call 40; exact quiet_eq (KT2.out _)))
              go_wp2_with fail
              go_meet
              case rel => exact ⟨congrArg Value.bool (by rw [hp.out] <;> first | rfl | (simp; done) | (simp; omega)), rfl, rfl, _, rfl⟩
            | succ z =>
              obtain ⟨x0, hx0, d2⟩ := HPrev.out z rfl
              have hz1 : (0 : Int) < (z : Int) + 1 := by omega
              have hz2 : (0 : Int) ≤ (z : Int) := by omega
              have hz3 : (z : Int) < (n : Int) := by omega
              have hwz : IntKind.i64.wrap (z : Int) = (z : Int) := IntWalk.i64_in _ (by omega)
              by_cases hxx : x ≤ x0
              · have hxd : decide (x ≤ x0) = true := decide_eq_true hxx
                clear hxy t1 t2 hx0 HPrev
                go_quiet (first | (go_at_call 40; exact quiet_eq (KT1.out _)) | (go_at_call 40; exact quiet_eq (KT2.out _)))
                go_wp2_with fail
                go_meet
                case rel => exact ⟨congrArg Value.bool (by rw [hp.out] <;> first | rfl | (simp; done) | (simp; omega)), rfl, rfl, _, rfl⟩
              · have hxd : decide (x ≤ x0) = false := decide_eq_false hxx
                clear hxy t1 t2 hx0 HPrev
                go_quiet (first | (go_at_call 40; exact quiet_eq (KT1.out _)) | (go_at_call 40; exact quiet_eq (KT2.out _)))
                go_wp2_with fail
                go_meet
                case rel => exact ⟨congrArg Value.bool (by rw [hp.out] <;> first | rfl | (simp; done) | (simp; omega)), rfl, rfl, _, rfl⟩
          · rw [t2] at KT2
            cases m with
            | zero =>
              have hp : Hid ((!slowB l 0) = false) := by show _ = _; unfold slowB; rw [hxy, t1, t2]; rfl
              clear hxy t1 t2 HPrev
              go_quiet (first | (go_at_call 40; exact quiet_eq (KT1.out _)) | (go_at_call 40; exact quiet_eq (KT2.out _)))
              go_wp2_with fail
              go_meet
              case rel => exact ⟨congrArg Value.bool (by rw [hp.out] <;> first | rfl | (simp; done) | (simp; omega)), rfl, rfl, _, rfl⟩
            | succ z =>
              obtain ⟨x0, hx0, d2⟩ := HPrev.out z rfl
              have hz1 : (0 : Int) < (z : Int) + 1 := by omega
              have hz2 : (0 : Int) ≤ (z : Int) := by omega
              have hz3 : (z : Int) < (n : Int) := by omega
              have hwz : IntKind.i64.wrap (z : Int) = (z : Int) := IntWalk.i64_in _ (by omega)
              by_cases hxx : x ≤ x0
              · have hp : Hid ((!slowB l (z + 1)) = true) := by show _ = _; unfold slowB; rw [hxy, t1, t2, show z + 1 - 1 = z from rfl, hx0]; simp [hxx]
                have hxd : decide (x ≤ x0) = true := decide_eq_true hxx
                clear hxy t1 t2 hx0 HPrev
                go_quiet (first | (go_at_call 40; exact quiet_eq (KT1.out _)) | (go_at_call 40; exact quiet_eq (KT2.out _)))
                go_wp2_with fail
                go_meet
                case rel => exact ⟨congrArg Value.bool (by rw [hp.out] <;> first | rfl | (simp; done) | (simp; omega)), rfl, rfl, _, rfl⟩
              · have hp : Hid ((!slowB l (z + 1)) = false) := by show _ = _; unfold slowB; rw [hxy, t1, t2, show z + 1 - 1 = z from rfl, hx0]; simp [hxx]
                have hxd : decide (x ≤ x0) = false := decide_eq_false hxx
                clear hxy t1 t2 hx0 HPrev
                go_quiet (first | (go_at_call 40; exact quiet_eq (KT1.out _)) | (go_at_call 40; exact quiet_eq (KT2.out _)))
                go_wp2_with fail
                go_meet
                case rel => exact ⟨congrArg Value.bool (by rw [hp.out] <;> first | rfl | (simp; done) | (simp; omega)), rfl, rfl, _, rfl⟩
      obtain ⟨rfl, rfl, rfl, z, hwz⟩ := hcut
      have HBc : Hid (Below w.heap.size w wc) := by show Below _ _ _; rw [hwz]; exact below_drewN HB3.out _
      have HGc : Hid (Ge w.heap.size wc u3 (slC l m)) := by show Ge _ _ _ _; rw [hwz]; exact HG3.out
      have hszc := HBc.out.size
      clear hwz HB3 HG3 p0 p1 KT1 KT2 HPrev hq3 hsz
      cases hsb : slowB l m
      · have HX : Hid (slC l (m + 1) = slC l m ++ [2]) := by show _ = _; rw [HS2.out, hsb]; rfl
        clear hsb
        generalize slC l m = Q at *
        go_wp2_with (at_builtin; refine wpList_append_run rfl _ _ 78 rfl rfl rfl (ap_e1 _ 2 HGc.out hszc (by omega)) ?_)
        intro v3 w3 hg3 hb3
        have HG3 : Hid (Ge w.heap.size w3 v3 (slC l (m + 1))) := by show Ge _ _ _ _; rw [HX.out]; exact hg3
        have HB3 := Lib.hid (HBc.out.trans hb3)
        clear hg3 hb3
        go_wp2_with fail
        go_roundg (n - (m + 1))
        case measure => omega
        case rel => exact ⟨m + 1, by omega, by go_num, by omega, HG3, HB3⟩
      · have HX := Lib.hid (HGc.out.ext (show slC l m = slC l (m + 1) by rw [HS2.out, hsb, if_pos rfl, List.append_nil]))
        clear hsb
        go_wp2_with fail
        go_roundg (n - (m + 1))
        case measure => omega
        case rel => exact ⟨m + 1, by omega, by go_num, by omega, HX, HBc⟩
    · have hmn' : m = n := by omega
      subst hmn'
      have HR := Lib.hid HE.out
      go_wp2_with fail
      go_ret
      exact errP (HR.out ▸ HG.out) HB.out

def plE (s : ByteArray) (tw : Bool) : List Int := if nmB s then (if tw then [6] else []) else [5]
theorem placeErrors_n (s : ByteArray) (tw : Bool) (w : World) :
    Calls Tryd.prog 46 #[.string s, .bool tw] w (ErrP (plE s tw) w) := by
  have K : Hid (∀ w, Calls Tryd.prog 58 #[.string s] w fun e w' => e = .returned (.bool (nmB s)) ∧ w = w') := fun w => name_any s w
  have HE : Hid ((if nmB s then (if tw then [6] else []) else [5]) = plE s tw) := rfl
  have L5 := Lib.hid (le_one w 5)
  have L6 := Lib.hid (le_one w 6)
  generalize plE s tw = r at *
  generalize nmB s = b at *
  cases b
  · go_enter Tryd.func46, Tryd.ntmps46
    go_wp2_with fail
    refine (K.out _).mono ?_
    rintro e w1 ⟨rfl, rfl⟩
    go_wp2_with fail
    go_ret
    exact ⟨_, rfl, HE.out ▸ L5.out, below_alloc _ _⟩
  · cases tw
    · go_enter Tryd.func46, Tryd.ntmps46
      go_wp2_with fail
      refine (K.out _).mono ?_
      rintro e w1 ⟨rfl, rfl⟩
      go_wp2_with fail
      go_ret
      exact ⟨_, rfl, HE.out ▸ (Ge.nil 0 _).le, Below.refl _ _⟩
    · go_enter Tryd.func46, Tryd.ntmps46
      go_wp2_with fail
      refine (K.out _).mono ?_
      rintro e w1 ⟨rfl, rfl⟩
      go_wp2_with fail
      go_ret
      exact ⟨_, rfl, HE.out ▸ L6.out, below_alloc _ _⟩

def atF (kind : ByteArray) (i : Nat) (l : List Int) : List (Int × ByteArray) := l.map fun x => (x, (kind ++ ⟨#[32]⟩) ++ dec i)
theorem atF_len (kind : ByteArray) (i : Nat) (l : List Int) : (atF kind i l).length = l.length := List.length_map ..
theorem atF_step {kind : ByteArray} {i : Nat} {l : List Int} {k : Nat} (h : k < l.length) : atF kind i (l.take (k + 1)) = atF kind i (l.take k) ++ [(l.getD k 0, (kind ++ ⟨#[32]⟩) ++ dec i)] := by
  unfold atF
  rw [take_more (d := 0) h, List.map_append]
  rfl

set_option maxHeartbeats 3200000 in
theorem faultsAt_n (kind : ByteArray) (i : Nat) (u : Value) (l : List Int) (hk : kind.size ≤ 100) (hi : i ≤ 1000000000) (hl : l.length ≤ 10000000) (w : World) (hu : Le w u l) (hT : Tab w) :
    Calls Tryd.prog 45 #[.string kind, .int .i64 i, u] w (ChkP (atF kind i l) w) := by
  obtain ⟨oa, c, rfl, hu, -⟩ := hu
  obtain ⟨oa', c', hv, ha⟩ := hu
  simp only [Value.slice.injEq] at hv
  obtain ⟨rfl, -, rfl⟩ := hv
  have HA := Lib.hid ha
  have HT := Lib.hid hT
  have HE : Hid (atF kind i (l.take l.length) = atF kind i l) := by show _ = _; rw [List.take_length]
  have HZ : Hid (atF kind i (l.take 0) = []) := rfl
  have HS := Lib.hid (fun k (h : k < l.length) => atF_step (kind := kind) (i := i) h)
  have HL : Hid (∀ k, k ≤ l.length → (atF kind i (l.take k)).length = k) := fun k h => by rw [atF_len, List.length_take]; omega
  have hds := dec_size hi
  have KD := Lib.hid (fun w ht => netDecimal_n i hi w ht)
  generalize atF kind i l = r at *
  generalize hn : l.length = n at *
  clear ha hT hn
  go_enter Tryd.func45, Tryd.ntmps45
  go_wp2_with fail
  go_loopg [7, 12] n (fun g v j wx => ∃ k : Nat, k ≤ n ∧ j = .int .i64 k ∧ n - k ≤ g ∧ Hid (Gl w.heap.size wx v (atF kind i (l.take k))) ∧ Hid (Below w.heap.size w wx))
  case atStart => exact ⟨0, Nat.zero_le _, rfl, Nat.le_refl _, HZ.out ▸ Gl.nil _ _, Below.refl _ _⟩
  case round =>
    obtain ⟨k, hkn, rfl, hg, HG, HB⟩ := hrel
    by_cases hlt : k < n
    · obtain ⟨a, rfl, hab, hc0⟩ := HA.out k hlt
      have hcl := HL.out k hkn
      have HSk := Lib.hid (HS.out k hlt)
      have d0 := (HB.out.cell (p := a.add k) (by rw [L.add_block]; exact hab)).trans hc0
      have hkI : (k : Int) < (n : Int) := by omega
      have HTr := Lib.hid (HT.out.over HB.out)
      generalize l.getD k 0 = x at *
      generalize atF kind i (l.take k) = Q at *
      clear hc0
      go_wp2_with fail
      refine (KD.out _ HTr.out).mono ?_
      rintro e w1 ⟨rfl, b1⟩
      have HB1 := Lib.hid (over HB.out b1)
      have HG1 := Lib.hid (HG.out.frame b1)
      have hsz := HB1.out.size
      clear b1 d0 HB HG
      go_wp2_with (at_builtin; refine wpList_append_run rfl _ _ 27 rfl rfl rfl (ap_f1 _ x ((kind ++ ⟨#[32]⟩) ++ dec i) HG1.out hsz (by omega)) ?_)
      intro v3 w3 hg3 hb3
      have HG3 : Hid (Gl w.heap.size w3 v3 (atF kind i (l.take (k + 1)))) := by show Gl _ _ _ _; rw [HSk.out]; exact hg3
      have HB3 := Lib.hid (HB1.out.trans hb3)
      clear hg3 hb3
      go_wp2_with fail
      go_roundg (n - (k + 1))
      case measure => omega
      case rel => exact ⟨k + 1, by omega, by go_num, by omega, HG3, HB3⟩
    · have hk' : k = n := by omega
      subst hk'
      have HR := Lib.hid HE.out
      go_wp2_with fail
      go_ret
      exact chkP (HR.out ▸ HG.out) HB.out (Nat.le_refl _)

end Go.Proofs.YtegpebnkogjadaaDoor.T

