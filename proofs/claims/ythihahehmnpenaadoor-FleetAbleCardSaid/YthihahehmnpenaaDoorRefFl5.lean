/-
  DERIVED. The walk of the specification's Check.
-/
import Derived.Test.YthihahehmnpenaaDoorRefFl4
namespace Go.Proofs.YthihahehmnpenaaDoor.T
open Go.RowKit
set_option maxRecDepth 8000

theorem li_grown {w w' : World} {oE : Option Addr} {c : Nat} {E : List Int} {row : Option Nat} (h : L.Li w (.slice oE E.length c) E) (hg : w.grownBy w' row) (hne : ∀ a, oE = some a → 0 < E.length → some a.block ≠ row) : L.Li w' (.slice oE E.length c) E := by
  obtain ⟨oa', c', hv, h⟩ := h
  simp only [Value.slice.injEq] at hv
  obtain ⟨rfl, -, rfl⟩ := hv
  refine ⟨oE, c, rfl, fun i hi => ?_⟩
  obtain ⟨a, ha, hl, hc⟩ := h i hi
  exact ⟨a, ha, Nat.lt_of_lt_of_le hl hg.size, hg.cell (a := a.add i) hc (by rw [L.add_block]; exact hne a ha (by omega))⟩
theorem ap_fk {B : Nat} {w : World} {v : Value} {l : List (Int × ByteArray)} (ty : TypeId) (x : Int) (s : ByteArray) (hv : Gl B w v l) (hB : B ≤ w.heap.size) (hn : l.length ≤ 90000000) {oE : Option Addr} {cE : Nat} {E : List Int}
    (hE : L.Li w (.slice oE E.length cE) E) (hN : ∀ a, oE = some a → 0 < E.length → a.block < w.heap.size ∧ v.ownBlock ≠ some a.block) :
    ∃ v' w', (Builtin.append_ #[29, 29] ty #[v, .slice (some ⟨w.heap.size, 0, none⟩) 1 1]).run Tryd.prog (w.alloc (.cells #[.int .i64 x, .string s] 43)) = .ok v' w' ∧
      (Gl B w' v' (l ++ [(x, s)]) ∧ Below B w w' ∧ L.Li w' (.slice oE E.length cE) E ∧ ∀ a, oE = some a → 0 < E.length → a.block < w'.heap.size ∧ v'.ownBlock ≠ some a.block) := by
  have hsz : (w.alloc (.cells #[.int .i64 x, .string s] 43)).heap.size = w.heap.size + 1 := by simp
  obtain ⟨v', w', hr, h2, h3, h4, h5⟩ := ap_f (w := w.alloc (.cells #[.int .i64 x, .string s] 43)) (m := [(x, s)]) ty (hv.frame (below_alloc _ _)) (lf_one w x s) (by omega) (by simp; omega)
  refine ⟨v', w', hr, h2, ((below_alloc w _).mono hB).trans h3, li_grown (hE.below (below_alloc _ _)) h4 (fun a ha h0 h => (hN a ha h0).2 h.symm), fun a ha h0 => ?_⟩
  obtain ⟨h6, h7⟩ := hN a ha h0
  refine ⟨Nat.lt_of_lt_of_le (by omega) h4.size, fun h => ?_⟩
  rcases h5 with h5 | h5
  · exact h7 (h5 ▸ h)
  · rw [h5, hsz] at h
    simp only [Option.some.injEq] at h
    omega

set_option maxHeartbeats 6400000 in
theorem refFleet_n (op : Option Addr) (np cp : Nat) (oa : Option Addr) (na ca : Nat) (v : Value) (l : List TyT) (hl : l.length ≤ 1000000) (hnp : np ≤ 9223372036854775807) (hc9 : ∀ i, i < l.length → (l.getD i ty0).cap.length ≤ 1000000000) (w : World) (hv : Ts w v l) :
    Calls Tryd.prog 11 #[.agg #[.slice op np cp, .slice oa na ca], v] w (ChkP (fleetF np l) w) := by
  have BW := below_alloc w (.cells #[.slice op np cp, .slice oa na ca] 25)
  have HV := Lib.hid (hv.below BW)
  have N0 := Lib.hid (Nb.made w (.slice op np cp) (.slice oa na ca))
  obtain ⟨ov, cv, rfl, -⟩ := hv
  have KR := Lib.hid (fun i (hi : i < l.length) w hv => refRules_n op np cp oa na ca (.slice ov l.length cv) l i hi hl hnp (hc9 i hi) w hv)
  have HE : Hid (flF np l l.length = fleetF np l) := rfl
  have H0 : Hid (flF np l 0 = if rgB 1 6 l.length then [] else [(4, ⟨#[]⟩)]) := rfl
  have HS : Hid (∀ k, flF np l (k + 1) = flF np l k ++ atT k (tyE np l k)) := fun _ => rfl
  have HL := Lib.hid (flF_len np l)
  have HL2 := Lib.hid (fun k => tyE_len np l k)
  obtain ⟨W0, hW0⟩ : ∃ W0, w.alloc (.cells #[.slice op np cp, .slice oa na ca] 25) = W0 := ⟨_, rfl⟩
  have hsz0 : w.heap.size ≤ W0.heap.size := by rw [← hW0]; exact BW.size
  rw [hW0] at HV N0 BW
  have B0 := Lib.hid BW
  clear BW hc9
  generalize fleetF np l = r at *
  generalize hn : l.length = n at *
  go_enter Tryd.func11, Tryd.ntmps11
  go_wp2_with fail
  refine (in_n (n : Int) 1 6 _).mono ?_
  rintro e w1 ⟨rfl, rfl⟩
  go_upto_if 12 with fail
  clear hW0
  go_cut [5] from 9 to 16 (fun v wx => Hid (Gl W0.heap.size wx v (flF np l 0)) ∧ Hid (Below W0.heap.size W0 wx))
  case first => as_aux_lemma =>
    cases hb : rgB 1 6 (n : Int)
    · have HF : Hid (flF np l 0 = [] ++ [(4, ⟨#[]⟩)]) := by show _ = _; rw [H0.out, hb]; rfl
      clear hb
      go_wp2_with (at_builtin; refine wpList_append_run rfl _ _ 29 rfl rfl rfl (ap_f1 _ 4 ⟨#[]⟩ (Gl.nil _ W0) (Nat.le_refl _) (by simp)) ?_)
      intro v3 w3 hg3 hb3
      go_wp2_with fail
      go_meet
      case rel => exact ⟨HF.out ▸ hg3, hb3⟩
    · have HF : Hid (flF np l 0 = []) := by show _ = _; rw [H0.out, hb]; rfl
      clear hb
      go_wp2_with fail
      go_meet
      case rel => exact ⟨HF.out ▸ Gl.nil _ _, Below.refl _ _⟩
  obtain ⟨HG, HB⟩ := hcut
  go_wp2_with fail
  go_loopg [5, 6] n (fun g v j wx => ∃ k : Nat, k ≤ n ∧ j = .int .i64 k ∧ n - k ≤ g ∧ Hid (Gl W0.heap.size wx v (flF np l k)) ∧ Hid (Below W0.heap.size W0 wx))
  case atStart => exact ⟨0, Nat.zero_le _, rfl, Nat.le_refl _, HG, HB⟩
  case round =>
    clear HG HB H0
    obtain ⟨k, hkn, rfl, hg, HG, HB⟩ := hrel
    by_cases hlt : k < n
    · have hkI : (k : Int) < (n : Int) := by omega
      have g0 := (N0.out.below HB.out).c0
      have g1 := (N0.out.below HB.out).c1
      have HVk := Lib.hid (HV.out.below HB.out)
      have KRk := Lib.hid (KR.out k hlt)
      have hl1 := HL.out k
      have hl2 := HL2.out k
      have HSk := Lib.hid (HS.out k)
      have KD := Lib.hid (fun w => decimal_n k (by omega) w)
      generalize tyE np l k = E at *
      generalize flF np l k = F at *
      go_wp2_with fail
      refine (KRk.out _ HVk.out).mono ?_
      rintro e w2 ⟨vE, rfl, hGe, ⟨oE, cE, rfl, hLi, -⟩, b2⟩
      have HB2 := Lib.hid (over HB.out b2)
      have HG2 := Lib.hid (HG.out.frame b2)
      have HE2 := Lib.hid hLi
      have HN2 : Hid (∀ a, oE = some a → 0 < E.length → a.block < w2.heap.size ∧ u5.ownBlock ≠ some a.block) := fun a ha _ => by
        have h1 := World.ownsRow.lt hGe a.block (by rw [ha]; rfl)
        refine ⟨h1.2, fun h => ?_⟩
        have h2 := (World.ownsRow.lt HG.out.own a.block h).2
        omega
      clear g0 g1 hGe hLi b2 HB HG HVk KRk
      have HZ4 : Hid (F ++ atT k (E.take 0) = F) := List.append_nil _
      have HS4 := Lib.hid (fun m (hm : m < E.length) => atT_step (i := k) hm)
      have HL4 : Hid (∀ m, m ≤ E.length → (atT k (E.take m)).length = m) := fun m hm => by unfold atT; rw [List.length_map, List.length_take]; omega
      have HE4 : Hid (flF np l (k + 1) = F ++ atT k (E.take E.length)) := by show _ = _; rw [HSk.out, List.take_length]
      clear HSk
      go_wp2_with fail
      go_loopg [5, 8] E.length (fun g v j wx => ∃ m : Nat, m ≤ E.length ∧ j = .int .i64 m ∧ E.length - m ≤ g ∧ Hid (Gl W0.heap.size wx v (F ++ atT k (E.take m))) ∧ Hid (Below W0.heap.size W0 wx) ∧ Hid (L.Li wx (.slice oE E.length cE) E) ∧ Hid (∀ a, oE = some a → 0 < E.length → a.block < wx.heap.size ∧ v.ownBlock ≠ some a.block))
      case atStart => exact ⟨0, Nat.zero_le _, rfl, Nat.le_refl _, HG2.out.ext HZ4.out.symm, HB2, HE2, HN2⟩
      case round =>
        clear HG2 HB2 HE2 HN2 HZ4
        obtain ⟨m, hm, rfl, hgm, HG, HB, HEl, HNl⟩ := hrel
        by_cases hlt2 : m < E.length
        · have hEl := HEl.out
          obtain ⟨oE', cE', hvE, hall⟩ := hEl
          simp only [Value.slice.injEq] at hvE
          obtain ⟨rfl, -, rfl⟩ := hvE
          obtain ⟨a, rfl, hab, hc0⟩ := hall m hlt2
          have hmI : (m : Int) < (E.length : Int) := by omega
          have hl4 := HL4.out m hm
          have hlen : (F ++ atT k (E.take m)).length ≤ 90000000 := by rw [List.length_append]; omega
          have HX : Hid (F ++ atT k (E.take (m + 1)) = F ++ atT k (E.take m) ++ [(E.getD m 0, dec k)]) := by show _ = _; rw [HS4.out m hlt2, List.append_assoc]
          have d0 : wr.drew.cell? (a.add m) = some (.int .i64 (E.getD m 0)) := hc0
          have HGd : Gl W0.heap.size wr.drew u5 (F ++ atT k (E.take m)) := HG.out
          have HBd : Below W0.heap.size W0 wr.drew := below_drew HB.out
          have HEd : L.Li wr.drew (.slice (some a) E.length cE) E := HEl.out
          have HNd : ∀ a', some a = some a' → 0 < E.length → a'.block < wr.drew.heap.size ∧ u5.ownBlock ≠ some a'.block := HNl.out
          have HHG := Lib.hid HGd
          have HHE := Lib.hid HEd
          have HHN := Lib.hid HNd
          clear hc0 hall HG HEl HNl HGd HEd HNd
          generalize E.getD m 0 = x at *
          go_wp2_with fail
          go_region_law (first
            | (refine step_append_run (by rfl) _ _ 29 (by rfl) (by rfl) (by rfl) (ap_fk _ x (dec k) HGz.out hsz hlen HEz.out HNz.out) ?_; rintro v3 w3 ⟨hg3, hb3, he3, hn3⟩)
            | (go_simp; go_at_call 25; (with_reducible refine (KD.out _).mono ?_); rintro e wz ⟨rfl, bz⟩; have HGz := Lib.hid (HHG.out.frame bz); have HBz := HBd.trans (bz.mono HBd.size); have HEz := Lib.hid (HHE.out.below bz); have HNz := Lib.hid (fun a' ha h0 => And.intro (Nat.lt_of_lt_of_le (HHN.out a' ha h0).1 bz.size) (HHN.out a' ha h0).2); have hsz := HBz.size; have d0 := (bz.cell (p := a.add m) (by rw [L.add_block]; exact hab)).trans d0))
          all_goals
            have HG3 : Hid (Gl W0.heap.size w3 v3 (F ++ atT k (E.take (m + 1)))) := by show Gl _ _ _ _; rw [HX.out]; exact hg3
            have HB3 := Lib.hid (HBz.trans hb3)
            have HE3 := Lib.hid he3
            have HN3 := Lib.hid hn3
            clear hg3 hb3 he3 hn3 HBz HBd d0
            go_wp2_with fail
            go_roundg (E.length - (m + 1))
            case measure => omega
            case rel => exact ⟨m + 1, by omega, by go_num, by omega, HG3, HB3, HE3, HN3⟩
        · have hm' : m = E.length := by omega
          have HG3 := Lib.hid (HG.out.ext (show F ++ atT k (E.take m) = flF np l (k + 1) by rw [HE4.out, hm']))
          clear HG HEl HNl
          go_wp2_with fail
          go_roundg (n - (k + 1))
          case measure => omega
          case rel => exact ⟨k + 1, by omega, by go_num, by omega, HG3, HB⟩
    · have hk' : k = n := by omega
      subst hk'
      have HR := Lib.hid HE.out
      go_wp2_with fail
      go_ret
      exact chkP (HR.out ▸ HG.out) (over B0.out HB.out) hsz0

end Go.Proofs.YthihahehmnpenaaDoor.T

