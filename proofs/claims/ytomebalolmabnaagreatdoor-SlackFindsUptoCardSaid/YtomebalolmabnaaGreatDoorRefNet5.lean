/-
  DERIVED. RefNet5: a part of the base of layer 13 (made by pack.py).
-/
import Derived.Test.YtomebalolmabnaaGreatDoorHE
import Derived.Test.YtomebalolmabnaaGreatDoorRefNet4
import Derived.Test.YtomebalolmabnaaGreatDoorRefPl
/-! The walks of the specification's Check and of the laws' right. -/
namespace Go.Proofs.YtomebalolmabnaaGreatDoor.T
open Go.RowKit
set_option maxRecDepth 8000

theorem arF_len (np : Nat) (l : List ArcT) (i : Nat) : (arF np l i).length ≤ 5 + 2 * ((l.getD i arc0).tr.length + (l.getD i arc0).sl.length) := by
 unfold arF
 simp only [List.length_append]
 have := af1_len np (l.getD i arc0) i
 have := af2_len (l.getD i arc0) i
 have := af3_len l (l.getD i arc0) i
 have := af5_len (l.getD i arc0) i
 have := slF_len (l.getD i arc0).sl i (l.getD i arc0).sl.length
 have h4 : (af4 (faults (l.getD i arc0).tr) i).length ≤ 2 * (l.getD i arc0).tr.length + 1 := by unfold af4; rw [List.length_map]; exact flt_len _ _
 omega
theorem ntF_len (pl : List ByteArray) (l : List ArcT) : ∀ k, k ≤ l.length → (ntF pl l k).length ≤ pl.length + 2 + 5 * k + 2 * wtA (l.take k)
 | 0, _ => by
  show (nf0 pl l.length).length ≤ _
  unfold nf0
  rw [List.length_append]
  have := plF_len pl pl.length
  have : (if 1024 < l.length then [((4 : Int), sArcs)] else []).length ≤ 1 := by split <;> simp
  omega
 | k + 1, h => by
  show (ntF pl l k ++ arF pl.length l k).length ≤ _
  rw [List.length_append, wt_take (by omega)]
  have := ntF_len pl l k (by omega)
  have := arF_len pl.length l k
  omega
set_option maxHeartbeats 1600000 in
theorem refNet_n (vp va : Value) (pl : List ByteArray) (l : List ArcT) (hp9 : pl.length ≤ 2000000) (hl : l.length ≤ 1000000) (hw9 : wtA l ≤ 1000000) (w : World) (hp : Ss w vp pl) (ha : As w va l) :
  Calls Tryz.prog 25 #[.agg #[vp, va]] w (ChkP (netF pl l) w) := by
 have KP := Lib.hid (fun w hp => refPlacesW_n vp va pl hp9 w hp)
 have KA := Lib.hid (fun i (hi : i < l.length) w hp ha => refArc_n vp va pl l i hi hl (by have := wt_le hi; omega) (by have := wt_le hi; omega) w hp ha)
 have HP := Lib.hid hp
 have HA := Lib.hid ha
 have HS : Hid (∀ k, ntF pl l (k + 1) = ntF pl l k ++ arF pl.length l k) := fun _ => rfl
 have HL := Lib.hid (fun k (hk : k ≤ l.length) => ntF_len pl l k hk)
 have HLA := Lib.hid (fun k => arF_len pl.length l k)
 have HWT := Lib.hid (fun k => wt_take_le l k)
 have HWL := Lib.hid (fun k (hk : k < l.length) => wt_le hk)
 have HE : Hid (ntF pl l l.length = netF pl l) := rfl
 have H0 : Hid (ntF pl l 0 = plF pl pl.length ++ if 1024 < l.length then [(4, sArcs)] else []) := rfl
 have hpl9 := plF_len pl pl.length
 obtain ⟨op, cp, rfl, -⟩ := hp
 obtain ⟨oa, c, rfl, -⟩ := ha
 obtain ⟨i0, hi, hz0, hz1, hz2⟩ := infoF
 generalize netF pl l = r at *
 generalize hn : l.length = n at *
 generalize hnp : pl.length = np at *
 clear hn hnp
 obtain ⟨W0, hW0⟩ : ∃ W0, w.alloc (.cells #[.slice op np cp, .slice oa n c] 25) = W0 := ⟨_, rfl⟩
 have N0 := Lib.hid (Nb.made w (.slice op np cp) (.slice oa n c))
 have hb0 := below_alloc w (.cells #[.slice op np cp, .slice oa n c] 25)
 have hsz0 : w.heap.size < W0.heap.size := by rw [← hW0]; simp
 rw [hW0] at N0 hb0
 have B0 := Lib.hid hb0
 have HP0 := Lib.hid (HP.out.below hb0)
 have HA0 := Lib.hid (HA.out.below hb0)
 have g0 := N0.out.c0
 have g1 := N0.out.c1
 clear hb0 HP HA
 go_enter Tryz.func25, Tryz.ntmps25
 go_wp2_with fail
 refine (KP.out _ HP0.out).mono ?_
 rintro e w1 ⟨oL, cL, rfl, ⟨-, hGl, -⟩, b1⟩
 have HG := Lib.hid hGl
 have HB := Lib.hid b1
 have g0 := (N0.out.below b1).c0
 have g1 := (N0.out.below b1).c1
 clear hGl b1 KP hW0
 generalize plF pl np = F0 at *
 have hsz := HB.out.size
 go_upto_if 10 with fail
 go_cut [3] from 4 (fun v wx => Hid (Gl W0.heap.size wx v (ntF pl l 0)) ∧ Hid (Below W0.heap.size W0 wx))
 case first =>
  by_cases h : 1024 < n
  ·have h2 : (1024 : Int) < (n : Int) := by omega
   have HF : Hid (ntF pl l 0 = F0 ++ [(4, sArcs)]) := by show _ = _; rw [H0.out, if_pos h]
   unfold sArcs at HF
   go_wp2_with (at_builtin; refine wpList_append_own _ rfl _ _ 51 rfl W0.heap.size 101 i0 (.agg #[.int .i64 0, .string ⟨#[]⟩]) 2 24 Tryz.underlying51 hi hz0 hz1 hz2 rfl (by decide) _ _ _ rfl (World.ownsRow.alloc HG.out.own _) ⟨w1.heap.size, 0, none⟩ 1 1 [.int .i64 4, .string ⟨#[97, 114, 99, 115]⟩] rfl rfl (two_new _ _ _ _) (fcells _ _) (by unfold maxLen; omega) (by omega) (by simp <;> omega) ?_)
   intro v3 w3 hown hgrow _
   have HG3 : Hid (Gl W0.heap.size w3 v3 (ntF pl l 0)) := by show Gl _ _ _ _; rw [HF.out]; exact Gl.more hown
   have HB3 : Hid (Below W0.heap.size W0 w3) := (HB.out.alloc (by omega) _).grown hgrow (by simp <;> omega) (HG.out.blk)
   go_wp2_with fail
   go_meet
   case rel => exact ⟨HG3, HB3⟩
  ·have h2 : ¬ (1024 : Int) < (n : Int) := by omega
   have HX := Lib.hid (HG.out.ext (show F0 = ntF pl l 0 by rw [H0.out, if_neg h, List.append_nil]))
   go_wp2_with fail
   go_meet
   case rel => exact ⟨HX, HB⟩
 clear HG HB g0 g1 hsz
 obtain ⟨HG, HB⟩ := hcut
 have g0 := (N0.out.below HB.out).c0
 have g1 := (N0.out.below HB.out).c1
 go_wp2_with fail
 go_loopg [3, 4] n (fun g v j wx => ∃ k : Nat, k ≤ n ∧ j = .int .i64 k ∧ n - k ≤ g ∧ Hid (Gl W0.heap.size wx v (ntF pl l k)) ∧ Hid (Below W0.heap.size W0 wx))
 case atStart => exact ⟨0, Nat.zero_le _, rfl, Nat.le_refl _, HG, HB⟩
 case round =>
  clear HG HB g0 g1
  obtain ⟨k, hk, rfl, hg, HG, HB⟩ := hrel
  have g0 := (N0.out.below HB.out).c0
  have g1 := (N0.out.below HB.out).c1
  by_cases hlt : k < n
  ·have HPk := Lib.hid (HP0.out.below HB.out)
   have HAk := Lib.hid (HA0.out.below HB.out)
   have KAk := Lib.hid (fun w hp ha => KA.out k hlt w hp ha)
   have HSk := Lib.hid (HS.out k)
   have hl1 := HL.out k hk
   have hl2 := HLA.out k
   have hl3 := HWT.out k
   have hl4 := HWL.out k hlt
   generalize (l.getD k arc0).tr.length + (l.getD k arc0).sl.length = z at *
   generalize arF np l k = X at *
   go_wp2_with fail
   refine (KAk.out _ HPk.out HAk.out).mono ?_
   rintro e w2 ⟨oA, cA, rfl, ⟨hFs, -, hnil⟩, b2⟩
   have HB2 := Lib.hid (over HB.out b2)
   have HG2 := Lib.hid (HG.out.frame b2)
   have hsz := HB2.out.size
   clear b2 g0 g1 HG HB HPk HAk KAk
   cases oA with
   | none =>
    have hX := fs_nil hFs
    subst hX
    have hc := hnil rfl
    subst hc
    have HG3 := Lib.hid (HG2.out.ext (show ntF pl l k = ntF pl l (k + 1) by rw [HSk.out, List.append_nil]))
    clear hFs hnil
    go_wp2_with (at_builtin; refine wpList_append_own_none rfl _ _ 51 rfl W0.heap.size 101 i0 2 Tryz.underlying51 hi _ _ _ rfl HG2.out.own rfl ?_)
    go_wp2_with fail
    go_roundg (n - (k + 1))
    case measure => omega
    case rel => exact ⟨k + 1, by omega, by go_num, by omega, HG3, HB2⟩
   | some ad =>
    have HFs := Lib.hid hFs
    clear hFs hnil
    go_wp2_with (at_builtin; refine wpList_append_own _ rfl _ _ 51 rfl W0.heap.size 101 i0 (.agg #[.int .i64 0, .string ⟨#[]⟩]) 2 24 Tryz.underlying51 hi hz0 hz1 hz2 rfl (by decide) _ _ _ rfl HG2.out.own ad X.length cA (flat fE fA X) rfl (flat_len X) (fs_news HFs.out) (flat_cells X) (by unfold maxLen; omega) (by omega) (by omega) ?_)
    intro v3 w3 hown hgrow _
    have HG3 : Hid (Gl W0.heap.size w3 v3 (ntF pl l (k + 1))) := by show Gl _ _ _ _; rw [HSk.out]; exact Gl.onto hown
    have HB3 : Hid (Below W0.heap.size W0 w3) := HB2.out.grown hgrow (by omega) (HG2.out.blk)
    clear hown hgrow
    go_wp2_with fail
    go_roundg (n - (k + 1))
    case measure => omega
    case rel => exact ⟨k + 1, by omega, by go_num, by omega, HG3, HB3⟩
  ·have hk' : k = n := by omega
   subst hk'
   have HR : Hid (ntF pl l k = r) := HE.out
   go_wp2_with fail
   go_ret
   exact chkP (HR.out ▸ HG.out) (over B0.out HB.out) (Nat.le_of_lt hsz0)

end Go.Proofs.YtomebalolmabnaaGreatDoor.T




