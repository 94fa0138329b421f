/-
  DERIVED. KIH: a part of the base of layer 13 (made by pack.py).
-/
import Derived.Test.YtaallpebfcadjaaGreatDoorKQG
import Derived.Test.YtaallpebfcadjaaGreatDoorKIF
import Derived.Test.YtaallpebfcadjaaGreatDoorKID
import Derived.Deep.CutBlock
import Derived.Lib.Walk
import Derived.Lib.LaidTab
import Derived.WideKeyPair
import Derived.BigRegion
import Derived.Laws.BitsLemmas
import Derived.Laws.Bits64b
import Derived.Laws.Bits128
import Derived.Lib.AppendZeros
/-! The walks of the landed instance's lesser and renumbered. -/
namespace Go.Proofs.YtaallpebfcadjaaGreatDoor.T
open Go.RowKit
set_option maxRecDepth 8000

theorem low_mask (n p P M : Nat) (hn : n < 9223372036854775808) (hp : p ≤ 62) (hP : 2 ^ p = P) (hM : n % 2 ^ p = M) : wrap64 (2 ^ p) = (P : Int) ∧ wrap64 ((P : Int) - 1) = (P : Int) - 1 ∧ bits .and .i64 (n : Int) ((P : Int) - 1) = (M : Int) ∧ M < 9223372036854775808 := by
  have h1 := S.pow_le62 hp
  have h2 := S.pow_p p
  subst hP hM
  have h3 := S.i64_and n (2 ^ p - 1) hn (by omega)
  rw [Nat.and_two_pow_sub_one_eq_mod, show ((2 ^ p - 1 : Nat) : Int) = ((2 ^ p : Nat) : Int) - 1 by omega] at h3
  have h4 := Nat.mod_le n (2 ^ p)
  refine ⟨?_, ?_, h3, by omega⟩
  · rw [show (2 : Int) ^ p = ((2 ^ p : Nat) : Int) by simp]
    unfold wrap64
    omega
  · unfold wrap64
    omega
theorem lesser_n (n p : Nat) (hn : n < 2 ^ 63) (hp : p ≤ 62) (w : World) :
    Calls Tryz.prog 88 #[.int .i64 n, .int .i64 p] w fun e w' => e = .returned (.int .i64 (S.rk n p : Nat)) ∧ w = w' := by
  have hn9 : n < 9223372036854775808 := by simpa using hn
  obtain ⟨h1, h2, h3, h4⟩ := low_mask n p (2 ^ p) (n % 2 ^ p) hn9 hp rfl rfl
  have HS := Lib.hid (fun w => S.size_e (n % 2 ^ p) (S.rk n p) h4 (S.rk_size hn) w)
  generalize S.rk n p = r at *
  generalize n % 2 ^ p = M at *
  obtain ⟨P, hP⟩ : ∃ P : Nat, 2 ^ p = P := ⟨_, rfl⟩
  rw [hP] at h1 h2 h3
  clear hP hn
  go_enter Tryz.func88, Tryz.ntmps88
  go_wp2_with fail
  refine (HS.out _).mono ?_
  rintro e w' ⟨rfl, rfl⟩
  go_wp2_with fail
  go_ret
  exact ⟨rfl, rfl⟩
theorem ren_yes {n : Nat} {l : List (Int × Int)} {k : Nat} (hk : k < l.length) (h : (S.hasI n (l.getD k (0, 0)).1 && S.hasI n (l.getD k (0, 0)).2) = true) :
    renP n (l.take (k + 1)) = renP n (l.take k) ++ [((S.rk n (l.getD k (0, 0)).1.toNat : Int), (S.rk n (l.getD k (0, 0)).2.toNat : Int))] := by
  unfold renP
  rw [take_more (d := (0, 0)) hk, List.filter_append, List.map_append, List.filter_cons_of_pos (by simpa using h)]
  rfl
theorem ren_no {n : Nat} {l : List (Int × Int)} {k : Nat} (hk : k < l.length) (h : (S.hasI n (l.getD k (0, 0)).1 && S.hasI n (l.getD k (0, 0)).2) = false) :
    renP n (l.take (k + 1)) = renP n (l.take k) := by
  unfold renP
  rw [take_more (d := (0, 0)) hk, List.filter_append, List.map_append, List.filter_cons_of_neg (by intro h2; have h3 : (S.hasI n (l.getD k (0, 0)).1 && S.hasI n (l.getD k (0, 0)).2) = true := h2; rw [h] at h3; cases h3)]
  simp
theorem ren_len (n : Nat) (l : List (Int × Int)) : (renP n l).length ≤ l.length := by
  unfold renP
  rw [List.length_map]
  exact List.length_filter_le _ _
theorem hasI_nat9 {n : Nat} {i : Int} (h : S.hasI n i = true) : 0 ≤ i ∧ i.toNat ≤ 62 := by
  have h1 := (hasI_iff n i).1 h
  exact ⟨h1.1, S.mem_lt62 h1.2⟩
theorem ap_q1k {B : Nat} {w : World} {v : Value} {l : List (Int × Int)} (ty : TypeId) (x : Int) (s : Int) (hv : Gq_R B w v l) (hB : B ≤ w.heap.size) (hn : l.length ≤ 90000000) :
    ∃ v' w', (Builtin.append_ #[28, 28] ty #[v, .slice (some ⟨w.heap.size, 0, none⟩) 1 1]).run Tryz.prog (w.alloc (.cells #[.int .i64 x, .int .i64 s] 75)) = .ok v' w' ∧ (Gq_R B w' v' (l ++ [(x, s)]) ∧ Below B w w' ∧ ∀ q (cs : Array Value) (t : TypeId), Cb w q cs t → v.ownBlock ≠ some q → Cb w' q cs t) := by
  obtain ⟨v', w', hr, h2, h3, h4, -⟩ := ap_q (w := w.alloc (.cells #[.int .i64 x, .int .i64 s] 75)) (m := [(x, s)]) ty (hv.frame (below_alloc _ _)) (lq_one w x s) (by simp; omega) (by simp; omega)
  exact ⟨v', w', hr, h2, ((below_alloc w _).mono hB).trans h3, fun q cs t hc hne => (h4.block q (hc.old _).lt (fun e => hne e.symm)).trans (hc.old _)⟩
set_option maxHeartbeats 6400000 in
theorem renumbered_n (n : Nat) (hn : n < 2 ^ 63) (v : Value) (l : List (Int × Int)) (hl : l.length ≤ 1000) (w : World) (hv : Ps w v l) :
    Calls Tryz.prog 56 #[v, .int .i64 n] w fun e w' => ∃ oa c, e = .returned (.slice oa (renP n l).length c) ∧ Ps w' (.slice oa (renP n l).length c) (renP n l) ∧ Fr w.heap.size (.slice oa (renP n l).length c) ∧ Below w.heap.size w w' := by
  have HV := Lib.hid hv
  obtain ⟨ob, cb, rfl, -⟩ := hv
  have HH := Lib.hid (fun i w => S.setHas_i n i hn w)
  have HLs := Lib.hid (fun p (hp : p ≤ 62) w => lesser_n n p hn hp w)
  have HY := Lib.hid (fun k (hk : k < l.length) h => ren_yes (n := n) hk h)
  have HNo := Lib.hid (fun k (hk : k < l.length) h => ren_no (n := n) hk h)
  have HRl := Lib.hid (fun k => Nat.le_trans (ren_len n (l.take k)) (by rw [List.length_take]; exact Nat.min_le_left _ _))
  have HE : Hid (renP n (l.take l.length) = renP n l) := by show _ = _; rw [List.take_length]
  have H0 : Hid (renP n (l.take 0) = []) := rfl
  generalize renP n l = r at *
  obtain ⟨U, hU⟩ : ∃ U : Nat → List (Int × Int), ∀ k, renP n (l.take k) = U k := ⟨fun k => renP n (l.take k), fun _ => rfl⟩
  simp only [hU] at HY HNo HRl HE H0
  clear hU
  generalize hm : l.length = m at *
  have HM := Lib.hid hm
  clear hm
  go_enter Tryz.func56, Tryz.ntmps56
  go_wp2_with fail
  go_loopg [5, 10] m (fun gg s j wr => ∃ k : Nat, k ≤ m ∧ j = .int .i64 k ∧ m - k ≤ gg ∧ Hid (Gq_R w.heap.size wr s (U k)) ∧ Hid (Below w.heap.size w wr))
  case atStart => exact ⟨0, Nat.zero_le _, rfl, Nat.le_refl _, (by show Gq_R _ _ _ _; rw [H0.out]; exact Gq_R.nil _ _), Below.refl _ _⟩
  case round =>
    obtain ⟨k, hk, rfl, hg, HG, HB⟩ := hrel
    by_cases hlt : k < m
    · have hkI : (k : Int) < (m : Int) := by omega
      obtain ⟨b1, o1, hab, hb1, x0, x1⟩ := ps_at (by have := psI_below2 HV.out HB.out; rw [← HM.out] at this; exact this) (show k < l.length by rw [HM.out]; exact hlt)
      subst hab
      have HYk := Lib.hid (HY.out k hlt)
      have HNk := Lib.hid (HNo.out k hlt)
      have hrl := HRl.out k
      generalize l.getD k (0, 0) = pr at *
      obtain ⟨a, b⟩ := pr
      simp only at x0 x1 HYk HNk
      have hal := below_alloc wr (.cells #[.int .i64 a, .int .i64 b] 75)
      have M1 := Cb.made wr #[.int .i64 a, .int .i64 b] 75
      have hrel9 := HG
      have HG := Lib.hid (HG.out.frame hal)
      have HB := Lib.hid (over HB.out hal)
      obtain ⟨W1, hW1⟩ : ∃ W1, wr.alloc (.cells #[.int .i64 a, .int .i64 b] 75) = W1 := ⟨_, rfl⟩
      rw [hW1] at M1 HG HB
      have HW1 := Lib.hid hW1
      have HM1 := Lib.hid M1
      have HHa := Lib.hid (fun w => HH.out a w)
      have HHb := Lib.hid (fun w => HH.out b w)
      have ha9 := fun h => hasI_nat9 (n := n) (i := a) h
      have hb9 := fun h => hasI_nat9 (n := n) (i := b) h
      have hne5 : u5.ownBlock ≠ some wr.heap.size := fun e => by have := (World.ownsRow.lt hrel9.out.own _ e).2; omega
      clear hal M1 hW1 hrel9
      generalize S.hasI n a = za at *
      generalize S.hasI n b = zb at *
      go_upto_region 5 with fail
      rw [HW1.out]
      clear HW1 x0 x1
      generalize wr.heap.size = q1 at *
      have m0 : W1.cell? ⟨q1, 0, none⟩ = some (.int .i64 a) := HM1.out.cell 0 rfl
      have m1 : W1.cell? ⟨q1, 1, none⟩ = some (.int .i64 b) := HM1.out.cell 1 rfl
      cases za
      · have HX : Hid (U (k + 1) = U k) := HNk.out rfl
        clear HYk HNk ha9 hb9
        go_wp2_with fail
        refine (HHa.out _).mono ?_
        rintro e w' ⟨rfl, rfl⟩
        go_wp2_with fail
        go_roundg (m - (k + 1))
        case measure => omega
        case rel => exact ⟨k + 1, by omega, by go_num, by omega, (by show Gq_R _ _ _ _; rw [HX.out]; exact HG.out), HB⟩
      cases zb
      · have HX : Hid (U (k + 1) = U k) := HNk.out rfl
        clear HYk HNk ha9 hb9
        go_wp2_with fail
        refine (HHa.out _).mono ?_
        rintro e w' ⟨rfl, rfl⟩
        go_wp2_with fail
        refine (HHb.out _).mono ?_
        rintro e w' ⟨rfl, rfl⟩
        go_wp2_with fail
        go_roundg (m - (k + 1))
        case measure => omega
        case rel => exact ⟨k + 1, by omega, by go_num, by omega, (by show Gq_R _ _ _ _; rw [HX.out]; exact HG.out), HB⟩
      · have HX : Hid (U (k + 1) = U k ++ [((S.rk n a.toNat : Int), (S.rk n b.toNat : Int))]) := HYk.out rfl
        obtain ⟨ha0, ha1⟩ := ha9 rfl
        obtain ⟨hb0, hb1⟩ := hb9 rfl
        obtain ⟨a', rfl⟩ := Int.eq_ofNat_of_zero_le ha0
        obtain ⟨b', rfl⟩ := Int.eq_ofNat_of_zero_le hb0
        rw [Int.toNat_natCast] at ha1 hb1
        rw [Int.toNat_natCast, Int.toNat_natCast] at HX
        have HLa := Lib.hid (fun w => HLs.out a' ha1 w)
        have HLb := Lib.hid (fun w => HLs.out b' hb1 w)
        generalize S.rk n a' = ra at *
        generalize S.rk n b' = rb at *
        clear HYk HNk ha9 hb9 ha0 hb0
        have hsz := HB.out.size
        go_wp2_with fail
        refine (HHa.out _).mono ?_
        rintro e w' ⟨rfl, rfl⟩
        go_wp2_with fail
        refine (HHb.out _).mono ?_
        rintro e w' ⟨rfl, rfl⟩
        go_upto_region 6 with fail
        have HGd : Hid (Gq_R w.heap.size W1.drew u5 (U k)) := HG.out
        have HBd : Hid (Below w.heap.size w W1.drew) := below_drew HB.out
        have hBd := HBd.out.size
        have m0 : W1.drew.cell? ⟨q1, 0, none⟩ = some (.int .i64 (a' : Int)) := m0
        have m1 : W1.drew.cell? ⟨q1, 1, none⟩ = some (.int .i64 (b' : Int)) := m1
        have hq1 := HM1.out.lt
        have HMd : Hid (Cb W1.drew q1 #[.int .i64 (a' : Int), .int .i64 (b' : Int)] 75) := HM1.out
        go_region_held3 (fun w' => w'.cell? ⟨q1, 0, none⟩ = some (.int .i64 (a' : Int)) ∧ w'.cell? ⟨q1, 1, none⟩ = some (.int .i64 (b' : Int)))
          (first | with_reducible exact ⟨m0, m1⟩ | with_reducible exact ⟨s0, s1⟩ | exact ⟨((below_alloc W1.drew _).cell (p := ⟨q1, 0, none⟩) hq1).trans m0, ((below_alloc W1.drew _).cell (p := ⟨q1, 1, none⟩) hq1).trans m1⟩)
          (first
            | (go_at_call 88; (first | (with_reducible refine (HLa.out _).mono ?_) | (with_reducible refine (HLb.out _).mono ?_)); rintro e wy ⟨rfl, rfl⟩)
            | (refine step_append_run (by rfl) _ _ 28 (by rfl) (by rfl) (by rfl) (ap_q1k _ (ra : Int) (rb : Int) HGd.out hBd (by omega)) ?_; rintro v3 w3 ⟨hg3, hb3, hk3⟩; have HG3 := Lib.hid hg3; have HB3 := Lib.hid (HBd.out.trans hb3); have HM3 := hk3 q1 _ _ HMd.out hne5; have s0 : w3.cell? ⟨q1, 0, none⟩ = some (.int .i64 (a' : Int)) := HM3.cell 0 rfl; have s1 : w3.cell? ⟨q1, 1, none⟩ = some (.int .i64 (b' : Int)) := HM3.cell 1 rfl))
        all_goals
          have HG4 : Hid (Gq_R w.heap.size w3 v3 (U (k + 1))) := by show Gq_R _ _ _ _; rw [HX.out]; exact HG3.out
          clear HG3 hg3 hb3 hk3 HM3 s0 s1 m0 m1
          go_wp2_with fail
          go_roundg (m - (k + 1))
          case measure => omega
          case rel => exact ⟨k + 1, by omega, by go_num, by omega, HG4, HB3⟩
    · have hkk : k = m := by omega
      have hkI : ¬ (k : Int) < (m : Int) := by omega
      have HX : Hid (U k = r) := by show _ = _; rw [hkk, HE.out]
      have HGr : Hid (Gq_R w.heap.size wr u5 r) := by show Gq_R _ _ _ _; rw [← HX.out]; exact HG.out
      obtain ⟨o9, c9, rfl⟩ := Gn.form HGr.out
      go_wp2_with fail
      go_ret
      exact ⟨o9, c9, rfl, Gn.sl HGr.out, HGr.out.blk, HB.out⟩

end Go.Proofs.YtaallpebfcadjaaGreatDoor.T


/-! Own lists of orders that grow by one (written by gen_inonly2.py). -/
namespace Go.Proofs.YtaallpebfcadjaaGreatDoor.T
open Go.RowKit
set_option maxRecDepth 8000

theorem li_grownE {w w' : World} {v : Value} {l : List Int} {row : Option Nat} (h : L.Li w v l) (hg : w.grownBy w' row) (hne : l ≠ [] → ∀ g, row = some g → v.ownBlock ≠ some g) : L.Li w' v l := by
  obtain ⟨oa, c, rfl, h⟩ := h
  refine ⟨oa, c, rfl, fun i hi => ?_⟩
  obtain ⟨a, rfl, hl, h0⟩ := h i hi
  refine ⟨a, rfl, Nat.lt_of_lt_of_le hl hg.size, hg.cell h0 ?_⟩
  rw [add_block]
  exact fun e => hne (by intro e2; rw [e2] at hi; cases hi) a.block e.symm rfl
/-- the loads that hold something lie beside a row -/
def BrE (xs : List (OrT × Value)) (g : Nat) : Prop := ∀ x ∈ xs, x.1.load ≠ [] → x.2.ownBlock ≠ some g
/-- an own list of orders -/
def FoO (B : Nat) (w : World) (v : Value) (l : List OrT) : Prop := ∃ xs : List (OrT × Value), xs.map (·.1) = l ∧ GrO B w v xs ∧ ErO w xs ∧ FxO B xs ∧ ∀ g, v.ownBlock = some g → BrE xs g
theorem FoO.nil (B : Nat) (w : World) : FoO B w (.slice none 0 0) [] := ⟨[], rfl, World.ownsRow_nil w B _ _, fun x hx => (by cases hx), fun x hx => (by cases hx), fun g h => by cases h⟩
theorem FoO.sl {B : Nat} {w : World} {v : Value} {l : List OrT} (h : FoO B w v l) : Os w v l := by
  obtain ⟨xs, rfl, hg, he, -, -⟩ := h
  exact hg.sl he
theorem FoO.form {B : Nat} {w : World} {v : Value} {l : List OrT} (h : FoO B w v l) : ∃ oa c, v = .slice oa l.length c := by
  obtain ⟨xs, rfl, hg, -⟩ := h
  rw [List.length_map]
  exact own_form hg
theorem FoO.below {B : Nat} {w w' : World} {v : Value} {l : List OrT} (h : FoO B w v l) (hb : Below w.heap.size w w') : FoO B w' v l := by
  obtain ⟨xs, hx, hg, he, hf, hr⟩ := h
  exact ⟨xs, hx, own_below hg hb, he.below hb, hf, hr⟩
theorem FoO.kept {B g : Nat} {w w' : World} {v : Value} {l : List OrT} (h : FoO B w v l) (hg : w.grownBy w' (some g)) (hB : g < B) : FoO B w' v l := by
  obtain ⟨xs, hx, hgr, he, hf, hr⟩ := h
  exact ⟨xs, hx, World.ownsRow.kept hgr hg (.inr (fun e => by have := (World.ownsRow.lt hgr g e).1; omega)), he.kept hg (hf.br hB), hf, hr⟩
theorem FoO.blk {B : Nat} {w : World} {v : Value} {l : List OrT} (h : FoO B w v l) : ∀ g, v.ownBlock = some g → B ≤ g ∧ g < w.heap.size := by
  obtain ⟨xs, hx, hgr, he, hf, hr⟩ := h
  exact fun g e => World.ownsRow.lt hgr g e
theorem oneO (a : OrT) (p : Option Addr) (d : Nat) : ∀ v ∈ [Value.string a.name, .slice p a.load.length d, .int .i64 a.pp, .int .i64 a.po, .int .i64 a.pc, .int .i64 a.ps, .int .i64 a.dp, .int .i64 a.dd, .int .i64 a.dc, .int .i64 a.ds, .int .i64 a.sk, .int .i64 a.pen, .int .i64 a.spl, .int .i64 a.las, .int .i64 a.now, .bool a.off], v.oneCell' = true := by
  intro v hv
  simp only [List.mem_cons, List.not_mem_nil, or_false] at hv
  rcases hv with rfl | rfl | rfl | rfl | rfl | rfl | rfl | rfl | rfl | rfl | rfl | rfl | rfl | rfl | rfl | rfl <;> rfl
theorem cells_new (w : World) (cs : Array Value) (t : TypeId) : ∀ (j : Nat) (v : Value), cs.toList[j]? = some v → (w.alloc (.cells cs t)).cell? ((⟨w.heap.size, 0, none⟩ : Addr).add j) = some v := fun j v hv => by
  rw [add_pl, Nat.zero_add]
  exact (Cb.made w cs t).cell j (by rw [← hv]; exact Array.getElem?_toList.symm)
theorem ap_o {B : Nat} {w : World} {v : Value} {l : List OrT} (ty : TypeId) (a : OrT) (p : Option Addr) (d : Nat) (h : FoO B w v l) (hvc : L.Li w (.slice p a.load.length d) a.load) (hfr : Fr B (.slice p a.load.length d)) (hne : ∀ g, v.ownBlock = some g → a.load ≠ [] → (Value.slice p a.load.length d).ownBlock ≠ some g) (hB : B ≤ w.heap.size) (hn : l.length ≤ 1000000) :
    ∃ v' w', (Builtin.append_ #[27, 27] ty #[v, .slice (some ⟨w.heap.size, 0, none⟩) 1 1]).run Tryz.prog (w.alloc (.cells #[.string a.name, .slice p a.load.length d, .int .i64 a.pp, .int .i64 a.po, .int .i64 a.pc, .int .i64 a.ps, .int .i64 a.dp, .int .i64 a.dd, .int .i64 a.dc, .int .i64 a.ds, .int .i64 a.sk, .int .i64 a.pen, .int .i64 a.spl, .int .i64 a.las, .int .i64 a.now, .bool a.off] 44)) = .ok v' w' ∧ (FoO B w' v' (l ++ [a]) ∧ Below B w w' ∧ ∀ q (cs : Array Value) (t : TypeId), Cb w q cs t → v.ownBlock ≠ some q → Cb w' q cs t) := by
  obtain ⟨i0, hi, hz0, hz1, hz2⟩ := infoO8
  obtain ⟨xs, rfl, hg, he, hf, hr⟩ := h
  rw [List.length_map] at hn
  have hb1 := below_alloc w (.cells #[.string a.name, .slice p a.load.length d, .int .i64 a.pp, .int .i64 a.po, .int .i64 a.pc, .int .i64 a.ps, .int .i64 a.dp, .int .i64 a.dd, .int .i64 a.dc, .int .i64 a.ds, .int .i64 a.sk, .int .i64 a.pen, .int .i64 a.spl, .int .i64 a.las, .int .i64 a.now, .bool a.off] 44)
  have hs1 : (w.alloc (.cells #[.string a.name, .slice p a.load.length d, .int .i64 a.pp, .int .i64 a.po, .int .i64 a.pc, .int .i64 a.ps, .int .i64 a.dp, .int .i64 a.dd, .int .i64 a.dc, .int .i64 a.ds, .int .i64 a.sk, .int .i64 a.pen, .int .i64 a.spl, .int .i64 a.las, .int .i64 a.now, .bool a.off] 44)).heap.size = w.heap.size + 1 := World.size_alloc ..
  obtain ⟨v', w', hrun, h2, h3, -, h5⟩ := run_append_own_at (P := Tryz.prog) (w.alloc (.cells #[.string a.name, .slice p a.load.length d, .int .i64 a.pp, .int .i64 a.po, .int .i64 a.pc, .int .i64 a.ps, .int .i64 a.dp, .int .i64 a.dd, .int .i64 a.dc, .int .i64 a.ds, .int .i64 a.sk, .int .i64 a.pen, .int .i64 a.spl, .int .i64 a.las, .int .i64 a.now, .bool a.off] 44)) B 27 ty 44 i0 _ 16 _ Tryz.underlying27 hi hz0 hz1 hz2 rfl (by decide) v xs.length (flk ccO xs) (own_below hg hb1) ⟨w.heap.size, 0, none⟩ 1 1 [.string a.name, .slice p a.load.length d, .int .i64 a.pp, .int .i64 a.po, .int .i64 a.pc, .int .i64 a.ps, .int .i64 a.dp, .int .i64 a.dd, .int .i64 a.dc, .int .i64 a.ds, .int .i64 a.sk, .int .i64 a.pen, .int .i64 a.spl, .int .i64 a.las, .int .i64 a.now, .bool a.off] rfl (cells_new w _ _) (oneO a p d) (by unfold maxLen; omega) (by omega) (by omega)
  refine ⟨v', w', hrun, ⟨xs ++ [(a, .slice p a.load.length d)], ?_, ?_, ?_, hf.more hfr, ?_⟩, ?_, ?_⟩
  · rw [List.map_append]; rfl
  · show World.ownsRow ..
    rw [List.length_append, flk_snoc]
    exact h2
  · refine ErO.more (fun x hx => li_grownE ((he x hx).below hb1) h3 (fun hnx g hgv => hr g hgv x hx hnx)) ?_
    exact li_grownE (hvc.below hb1) h3 (fun hnx g hgv => hne g hgv hnx)
  · intro g hgv x hx hnx
    rcases h5 with h5 | h5
    · rw [h5] at hgv
      rcases List.mem_append.1 hx with hx | hx
      · exact hr g hgv x hx hnx
      · rw [List.mem_singleton] at hx; subst hx; exact hne g hgv hnx
    · rw [h5, hs1, Option.some.injEq] at hgv
      have hli : L.Li w x.2 x.1.load := by
        rcases List.mem_append.1 hx with hx | hx
        · exact he x hx
        · rw [List.mem_singleton] at hx; subst hx; exact hvc
      obtain ⟨oa, c, hv9, hli⟩ := hli
      obtain ⟨ad, ha, hlt, -⟩ := hli 0 (List.length_pos_iff.2 hnx)
      rw [hv9, ha]
      intro e
      simp only [Value.ownBlock, Option.some.injEq] at e
      omega
  · exact (hb1.mono hB).trans (below_row (by omega) h3 (fun k e => (World.ownsRow.lt hg k e).1))
  · exact fun q cs t hc hne2 => (h3.block q (hc.old _).lt (fun e => hne2 e.symm)).trans (hc.old _)

end Go.Proofs.YtaallpebfcadjaaGreatDoor.T


/-! The walk of the landed instance's Only: the errors (written by gen_inonly3.py). -/
namespace Go.Proofs.YtaallpebfcadjaaGreatDoor.T
open Go.RowKit
set_option maxRecDepth 8000

theorem ow_slice {w : World} {B : Nat} {v : Value} {l : List Nat} (h : S.Owb B w v l) : ∃ oa c, v = .slice oa l.length c := by
  exact own_form h
theorem ow_at {w : World} {B : Nat} {A : Option Addr} {c : Nat} {l : List Nat} (h : S.Owb B w (.slice A l.length c) l) {i : Nat} (hi : i < l.length) : ∃ g, A = some ⟨g, 0, none⟩ ∧ g < w.heap.size ∧ w.cell? ⟨g, i, none⟩ = some (.int .i64 (l.getD i 0 : Nat)) := by
  rcases h.2 with ⟨hv, h0⟩ | ⟨g, cap, cur, hv, hbg, hgg, hnc, rest⟩
  · omega
  · simp only [Value.slice.injEq] at hv
    obtain ⟨rfl, -, rfl⟩ := hv
    refine ⟨g, rfl, (Array.getElem?_eq_some_iff.1 hgg).1, ?_⟩
    have hc := World.ownsRow.cellAt (g := g) (cap := c) (n := l.length) (xs := l.map S.iv) (w := w) (base := B) (e := 3) (size := 1) ⟨h.1, .inr ⟨g, c, cur, rfl, hbg, hgg, hnc, rest⟩⟩ i (by omega)
    rw [hc, List.getElem?_map, List.getElem?_eq_getElem hi, List.getD_eq_getElem?_getD, List.getElem?_eq_getElem hi]
    rfl
end Go.Proofs.YtaallpebfcadjaaGreatDoor.T


/-! The walk of the landed instance's Only: sets that are not negative (written by gen_inonly4.py). -/
namespace Go.Proofs.YtaallpebfcadjaaGreatDoor.T
open Go.RowKit
set_option maxRecDepth 8000

theorem asc_last {l : List Nat} (h : S.Asc l) {c m : Nat} (hc : l.length = c + 1) : (∀ i ∈ l, i < m) ↔ l.getD c 0 < m := by
  constructor
  · exact fun h1 => h1 _ (S.mem_at (by omega))
  · intro h1 i hi
    obtain ⟨j, hj, rfl⟩ := List.getElem_of_mem hi
    by_cases e : j = c
    · subst e
      rwa [List.getD_eq_getElem?_getD, List.getElem?_eq_getElem hj] at h1
    · have := S.asc_lt h (show j < c by omega) (by omega)
      rw [List.getD_eq_getElem?_getD, List.getElem?_eq_getElem hj] at this
      simp only [Option.getD_some] at this
      omega
end Go.Proofs.YtaallpebfcadjaaGreatDoor.T


