/-
  DERIVED. HQ: a part of the base of layer 13 (made by pack.py).
-/
import Derived.Test.YtomebalolmabnaaGreatDoorHM
import Derived.Test.YtomebalolmabnaaGreatDoorOrdChk1
import Derived.Deep.CutBlock
import Derived.Test.YtomebalolmabnaaGreatDoorHB
import Derived.Test.YtomebalolmabnaaGreatDoorHE
import Derived.Test.YtomebalolmabnaaGreatDoorHO
/-! The walk of the specification's Check of orders (written by gen_refordchk2.py). -/
namespace Go.Proofs.YtomebalolmabnaaGreatDoor.T
open Go.RowKit
set_option maxRecDepth 8000

set_option maxHeartbeats 6400000 in
theorem refOrders_n (op : Option Addr) (np cp : Nat) (oa : Option Addr) (na ca : Nat) (dims types : Int) (v : Value) (l : List OrT) (hl : l.length ≤ 1000000) (hnp : np ≤ 9223372036854775807) (hc9 : ∀ i, i < l.length → (l.getD i or0).load.length ≤ 1000000000) (w : World) (hv : Os w v l) :
  Calls Tryz.prog 27 #[.agg #[.slice op np cp, .slice oa na ca], .int .i64 dims, .int .i64 types, v] w (ChkP (orderF np dims types l) w) := by
 have BW := below_alloc w (.cells #[.slice op np cp, .slice oa na ca] 25)
 have HV := Lib.hid (hv.below BW)
 have N0 := Lib.hid (Nb.made w (.slice op np cp) (.slice oa na ca))
 obtain ⟨ov, cv, rfl, -⟩ := hv
 have KR := Lib.hid (fun i (hi : i < l.length) w hv => refRulesO_n np dims types (.slice ov l.length cv) l i hi hl hnp (hc9 i hi) w hv)
 have HE : Hid (orF np dims types l l.length = orderF np dims types l) := rfl
 have H0 : Hid (orF np dims types l 0 = if l.length ≤ 10 then [] else [(4, ⟨#[]⟩)]) := rfl
 have HS : Hid (∀ k, orF np dims types l (k + 1) = orF np dims types l k ++ atT k (orE np dims types l k)) := fun _ => rfl
 have HL := Lib.hid (orF_len np dims types l)
 have HL2 := Lib.hid (fun k => orE_len np dims types l k)
 obtain ⟨W0, hW0⟩ : ∃ W0, w.alloc (.cells #[.slice op np cp, .slice oa na ca] 25) = W0 := ⟨_, rfl⟩
 have hsz0 : w.heap.size ≤ W0.heap.size := by rw [← hW0]; exact BW.size
 rw [hW0] at HV N0 BW
 have B0 := Lib.hid BW
 clear BW hc9
 generalize orderF np dims types l = r at *
 generalize hn : l.length = n at *
 go_enter Tryz.func27, Tryz.ntmps27
 go_upto_if 15 with fail
 clear hW0
 go_cut [9] from 13 to 19 (fun v wx => Hid (Gl W0.heap.size wx v (orF np dims types l 0)) ∧ Hid (Below W0.heap.size W0 wx))
 case first => as_aux_lemma =>
  by_cases hb : n ≤ 10
  ·have HF : Hid (orF np dims types l 0 = []) := by show _ = _; rw [H0.out, if_pos hb]
   have hq : decide ((10 : Int) < (n : Int)) = false := decide_eq_false (by omega)
   have hq2 : ¬ (10 : Int) < (n : Int) := by omega
   clear hb
   go_wp2_with fail
   go_meet
   case rel => exact ⟨HF.out ▸ Gl.nil _ _, Below.refl _ _⟩
  ·have HF : Hid (orF np dims types l 0 = [] ++ [(4, ⟨#[]⟩)]) := by show _ = _; rw [H0.out, if_neg hb]; rfl
   have hq : (10 : Int) < (n : Int) := by omega
   clear hb
   go_wp2_with (at_builtin; refine wpList_append_run rfl _ _ 51 rfl rfl rfl (ap_f1 _ 4 ⟨#[]⟩ (Gl.nil _ W0) (Nat.le_refl _) (by simp)) ?_)
   intro v3 w3 hg3 hb3
   go_wp2_with fail
   go_meet
   case rel => exact ⟨HF.out ▸ hg3, hb3⟩
 obtain ⟨HG, HB⟩ := hcut
 go_wp2_with fail
 go_loopg [9, 10] n (fun g v j wx => ∃ k : Nat, k ≤ n ∧ j = .int .i64 k ∧ n - k ≤ g ∧ Hid (Gl W0.heap.size wx v (orF np dims types l k)) ∧ Hid (Below W0.heap.size W0 wx))
 case atStart => exact ⟨0, Nat.zero_le _, rfl, Nat.le_refl _, HG, HB⟩
 case round =>
  clear HG HB H0
  obtain ⟨k, hkn, rfl, hg, HG, HB⟩ := hrel
  by_cases hlt : k < n
  ·have hkI : (k : Int) < (n : Int) := by omega
   have g0 := (N0.out.below HB.out).c0
   have g1 := (N0.out.below HB.out).c1
   have HVk := Lib.hid (HV.out.below HB.out)
   have KRk := Lib.hid (KR.out k hlt)
   have hl1 := HL.out k
   have hl2 := HL2.out k
   have HSk := Lib.hid (HS.out k)
   have KD := Lib.hid (fun w => decimal_n k (by omega) w)
   generalize orE np dims types l k = E at *
   generalize orF np dims types l k = F at *
   go_wp2_with fail
   refine (KRk.out _ HVk.out).mono ?_
   rintro e w2 ⟨vE, rfl, hGe, ⟨oE, cE, rfl, hLi, -⟩, b2⟩
   have HB2 := Lib.hid (over HB.out b2)
   have HG2 := Lib.hid (HG.out.frame b2)
   have HE2 := Lib.hid hLi
   have HN2 : Hid (∀ a, oE = some a → 0 < E.length → a.block < w2.heap.size ∧ u9.ownBlock ≠ some a.block) := fun a ha _ => by
    have h1 := World.ownsRow.lt hGe a.block (by rw [ha]; rfl)
    refine ⟨h1.2, fun h => ?_⟩
    have h2 := (World.ownsRow.lt HG.out.own a.block h).2
    omega
   clear g0 g1 hGe hLi b2 HB HG HVk KRk
   have HZ4 : Hid (F ++ atT k (E.take 0) = F) := List.append_nil _
   have HS4 := Lib.hid (fun m (hm : m < E.length) => atT_step (i := k) hm)
   have HL4 : Hid (∀ m, m ≤ E.length → (atT k (E.take m)).length = m) := fun m hm => by unfold atT; rw [List.length_map, List.length_take]; omega
   have HE4 : Hid (orF np dims types l (k + 1) = F ++ atT k (E.take E.length)) := by show _ = _; rw [HSk.out, List.take_length]
   clear HSk
   go_wp2_with fail
   go_loopg [9, 12] E.length (fun g v j wx => ∃ m : Nat, m ≤ E.length ∧ j = .int .i64 m ∧ E.length - m ≤ g ∧ Hid (Gl W0.heap.size wx v (F ++ atT k (E.take m))) ∧ Hid (Below W0.heap.size W0 wx) ∧ Hid (L.Li wx (.slice oE E.length cE) E) ∧ Hid (∀ a, oE = some a → 0 < E.length → a.block < wx.heap.size ∧ v.ownBlock ≠ some a.block))
   case atStart => exact ⟨0, Nat.zero_le _, rfl, Nat.le_refl _, HG2.out.ext HZ4.out.symm, HB2, HE2, HN2⟩
   case round =>
    clear HG2 HB2 HE2 HN2 HZ4
    obtain ⟨m, hm, rfl, hgm, HG, HB, HEl, HNl⟩ := hrel
    by_cases hlt2 : m < E.length
    ·have hEl := HEl.out
     obtain ⟨oE', cE', hvE, hall⟩ := hEl
     simp only [Value.slice.injEq] at hvE
     obtain ⟨rfl, -, rfl⟩ := hvE
     obtain ⟨a, rfl, hab, hc0⟩ := hall m hlt2
     have hmI : (m : Int) < (E.length : Int) := by omega
     have hl4 := HL4.out m hm
     have hlen : (F ++ atT k (E.take m)).length ≤ 90000000 := by rw [List.length_append]; omega
     have HX : Hid (F ++ atT k (E.take (m + 1)) = F ++ atT k (E.take m) ++ [(E.getD m 0, dec k)]) := by show _ = _; rw [HS4.out m hlt2, List.append_assoc]
     have d0 : wr.drew.cell? (a.add m) = some (.int .i64 (E.getD m 0)) := hc0
     have HGd : Gl W0.heap.size wr.drew u9 (F ++ atT k (E.take m)) := HG.out
     have HBd : Below W0.heap.size W0 wr.drew := below_drew HB.out
     have HEd : L.Li wr.drew (.slice (some a) E.length cE) E := HEl.out
     have HNd : ∀ a', some a = some a' → 0 < E.length → a'.block < wr.drew.heap.size ∧ u9.ownBlock ≠ some a'.block := HNl.out
     have HHG := Lib.hid HGd
     have HHE := Lib.hid HEd
     have HHN := Lib.hid HNd
     clear hc0 hall HG HEl HNl HGd HEd HNd
     generalize E.getD m 0 = x at *
     go_wp2_with fail
     go_region_law (first
      | (refine step_append_run (by rfl) _ _ 51 (by rfl) (by rfl) (by rfl) (ap_fk _ x (dec k) HGz.out hsz hlen HEz.out HNz.out) ?_; rintro v3 w3 ⟨hg3, hb3, he3, hn3⟩)
      | (go_simp; go_at_call 44; (with_reducible refine (KD.out _).mono ?_); rintro e wz ⟨rfl, bz⟩; have HGz := Lib.hid (HHG.out.frame bz); have HBz := HBd.trans (bz.mono HBd.size); have HEz := Lib.hid (HHE.out.below bz); have HNz := Lib.hid (fun a' ha h0 => And.intro (Nat.lt_of_lt_of_le (HHN.out a' ha h0).1 bz.size) (HHN.out a' ha h0).2); have hsz := HBz.size; have d0 := (bz.cell (p := a.add m) (by rw [L.add_block]; exact hab)).trans d0))
     all_goals
      have HG3 : Hid (Gl W0.heap.size w3 v3 (F ++ atT k (E.take (m + 1)))) := by show Gl _ _ _ _; rw [HX.out]; exact hg3
      have HB3 := Lib.hid (HBz.trans hb3)
      have HE3 := Lib.hid he3
      have HN3 := Lib.hid hn3
      clear hg3 hb3 he3 hn3 HBz HBd d0
      go_wp2_with fail
      go_roundg (E.length - (m + 1))
      case measure => omega
      case rel => exact ⟨m + 1, by omega, by go_num, by omega, HG3, HB3, HE3, HN3⟩
    ·have hm' : m = E.length := by omega
     have HG3 := Lib.hid (HG.out.ext (show F ++ atT k (E.take m) = orF np dims types l (k + 1) by rw [HE4.out, hm']))
     clear HG HEl HNl
     go_wp2_with fail
     go_roundg (n - (k + 1))
     case measure => omega
     case rel => exact ⟨k + 1, by omega, by go_num, by omega, HG3, HB⟩
  ·have hk' : k = n := by omega
   subst hk'
   have HR := Lib.hid HE.out
   go_wp2_with fail
   go_ret
   exact chkP (HR.out ▸ HG.out) (over B0.out HB.out) hsz0

end Go.Proofs.YtomebalolmabnaaGreatDoor.T




/-! The faults of an instance; the walk of lorryref13's Check. -/
namespace Go.Proofs.YtomebalolmabnaaGreatDoor.T
open Go.RowKit
set_option maxRecDepth 8000

def ShF (l : List (Int × ByteArray)) : Prop := ∀ x ∈ l, x.2.size ≤ 1000
theorem ShF.nil : ShF [] := fun x h => by cases h
theorem ShF.one {e : Int} {s : ByteArray} (h : s.size ≤ 1000) : ShF [(e, s)] := fun x hx => by
 rw [List.mem_singleton] at hx; subst hx; exact h
theorem ShF.app {l m : List (Int × ByteArray)} (h1 : ShF l) (h2 : ShF m) : ShF (l ++ m) := fun x hx => by
 rcases List.mem_append.1 hx with hx | hx
 ·exact h1 x hx
 ·exact h2 x hx
theorem ShF.ite {c : Prop} [Decidable c] {l m : List (Int × ByteArray)} (h1 : ShF l) (h2 : ShF m) : ShF (if c then l else m) := by
 split
 ·exact h1
 ·exact h2
theorem ShF.map {α : Type} {l : List α} {f : α → Int} {s : ByteArray} (h : s.size ≤ 1000) : ShF (l.map fun x => (f x, s)) := fun x hx => by
 rw [List.mem_map] at hx
 obtain ⟨y, -, rfl⟩ := hx
 exact h
theorem ShF.at {l : List (Int × ByteArray)} (h : ShF l) : ∀ i, i < l.length → (l.getD i (0, ⟨#[]⟩)).2.size ≤ 1000000 := fun i hi => by
 rw [List.getD_eq_getElem?_getD, List.getElem?_eq_getElem hi]
 exact Nat.le_trans (h _ (List.getElem_mem hi)) (by decide)
theorem arcS_size {i : Nat} (h : i ≤ 1000000000) : (arcS i).size ≤ 1000 := by
 have := dec_size h
 unfold arcS sArc
 rw [ByteArray.size_append]
 show 4 + _ ≤ _
 omega
theorem placeS_size {i : Nat} (h : i ≤ 1000000000) : (placeS i).size ≤ 1000 := by
 have := dec_size h
 unfold placeS sPlace
 rw [ByteArray.size_append]
 show 6 + _ ≤ _
 omega
theorem sh_plF (l : List ByteArray) : ∀ k, k ≤ 1000000000 → ShF (plF l k)
 | 0, _ => by unfold plF plf0; exact ShF.ite (ShF.one (by decide)) ShF.nil
 | k + 1, h => by
  unfold plF plf
  exact (sh_plF l k (by omega)).app (ShF.ite (ShF.ite (ShF.one (placeS_size (by omega))) ShF.nil) (ShF.one (placeS_size (by omega))))
theorem sh_slF (l : List (Int × Int)) (i : Nat) (hi : i ≤ 1000000000) : ∀ k, ShF (slF l i k)
 | 0 => ShF.nil
 | k + 1 => by
  unfold slF af6
  exact (sh_slF l i hi k).app (ShF.ite ShF.nil (ShF.one (arcS_size hi)))
theorem sh_arF (np : Nat) (l : List ArcT) (i : Nat) (hi : i ≤ 1000000000) : ShF (arF np l i) := by
 unfold arF af1 af2 af3 af4 af5
 have h := arcS_size hi
 exact (((((ShF.ite ShF.nil (ShF.one h)).app (ShF.ite ShF.nil (ShF.one h))).app (ShF.ite (ShF.one h) ShF.nil)).app (ShF.map h)).app (ShF.ite (ShF.one h) ShF.nil)).app (sh_slF _ _ hi _)
theorem sh_ntF (pl : List ByteArray) (l : List ArcT) (hp : pl.length ≤ 1000000000) : ∀ k, k ≤ 1000000000 → ShF (ntF pl l k)
 | 0, _ => by
  unfold ntF nf0
  exact (sh_plF pl _ hp).app (ShF.ite (ShF.one (by decide)) ShF.nil)
 | k + 1, h => by
  unfold ntF
  exact (sh_ntF pl l hp k (by omega)).app (sh_arF _ _ _ (by omega))
theorem sh_at {i : Nat} (h : i ≤ 1000000000) (l : List Int) : ShF (atT i l) := by
 unfold atT
 exact ShF.map (Nat.le_trans (dec_size h) (by decide))
theorem sh_flF (np : Nat) (l : List TyT) : ∀ k, k ≤ 1000000000 → ShF (flF np l k)
 | 0, _ => by unfold flF flF0; exact ShF.ite ShF.nil (ShF.one (by decide))
 | k + 1, h => by unfold flF; exact (sh_flF np l k (by omega)).app (sh_at (by omega) _)
theorem sh_orF (np : Nat) (dims types : Int) (l : List OrT) : ∀ k, k ≤ 1000000000 → ShF (orF np dims types l k)
 | 0, _ => by unfold orF orF0; exact ShF.ite ShF.nil (ShF.one (by decide))
 | k + 1, h => by unfold orF; exact (sh_orF np dims types l k (by omega)).app (sh_at (by omega) _)
theorem atW_size {word : ByteArray} (hw : word.size ≤ 100) {i : Nat} (h : i ≤ 1000000000) : (atW word i).size ≤ 1000 := by
 have := dec_size h
 unfold atW
 rw [ByteArray.size_append, ByteArray.size_append]
 show _ + 1 + _ ≤ _
 omega
theorem sh_pfF (n : Int) (l : List (Int × Int)) (word : ByteArray) (turned : Bool) (hw : word.size ≤ 100) : ∀ k, k ≤ 1000000000 → ShF (pfF n l word turned k)
 | 0, _ => by unfold pfF; exact ShF.ite (ShF.one (by omega)) ShF.nil
 | k + 1, h => by unfold pfF; exact (sh_pfF n l word turned hw k (by omega)).app (ShF.map (f := fun e => e) (atW_size hw (by omega)))

theorem psI_below {w w' : World} {v : Value} {l : List (Int × Int)} (h : Ps w v l) (hb : Below w.heap.size w w') : Ps w' v l := Sl.below h hb

structure InT where
  pl : List ByteArray
  al : List ArcT
  tl : List TyT
  ol : List OrT
  ap : List (Int × Int)
  be : List (Int × Int)
def kNet : ByteArray := ⟨#[110, 101, 116]⟩
def kTypes : ByteArray := ⟨#[116, 121, 112, 101, 115]⟩
def kOrders : ByteArray := ⟨#[111, 114, 100, 101, 114, 115]⟩
def kRules : ByteArray := ⟨#[114, 117, 108, 101, 115]⟩
def inF (x : InT) : List (Int × ByteArray) :=
  undF kNet (netF x.pl x.al) ++ undF kTypes (fleetF x.pl.length x.tl) ++ undF kOrders (orderF x.pl.length (dimsF x.tl : Nat) (x.tl.length : Nat) x.ol) ++ undF kRules (checkF (x.ol.length : Nat) x.ap x.be)
structure InB (x : InT) : Prop where
  pl : x.pl.length ≤ 1000
  al : x.al.length ≤ 1000
  wt : wtA x.al ≤ 1000000
  tl : x.tl.length ≤ 1000
  cap : ∀ i, i < x.tl.length → (x.tl.getD i ty0).cap.length ≤ 1000000000
  ol : x.ol.length ≤ 1000
  load : ∀ i, i < x.ol.length → (x.ol.getD i or0).load.length ≤ 1000000000
  ap : x.ap.length ≤ 1000
  be : x.be.length ≤ 1000
theorem und_len (word : ByteArray) (l : List (Int × ByteArray)) : (undF word l).length = l.length := by unfold undF; rw [List.length_map]
theorem flF_len9 (np : Nat) (l : List TyT) : ∀ k, (flF np l k).length ≤ 1 + 9 * k
 | 0 => by unfold flF flF0; split <;> simp
 | k + 1 => by
  unfold flF
  rw [List.length_append]
  have h1 := flF_len9 np l k
  have h2 : (atT k (tyE np l k)).length ≤ 9 := by
   unfold atT
   rw [List.length_map]
   exact tyE_len np l k
  omega
end Go.Proofs.YtomebalolmabnaaGreatDoor.T




