/-
  DERIVED. KIJ: a part of the base of layer 13 (made by pack.py).
-/
import Derived.Test.YtaallpebfcadjaaGreatDoorKIH
/-! The walk of the landed instance's Only: a part (written by gen_inonly5.py). -/
namespace Go.Proofs.YtaallpebfcadjaaGreatDoor.T
open Go.RowKit
set_option maxRecDepth 8000

theorem below_of_grown {w w' : World} {q : Nat} (hq : w.heap.size ≤ q) (h : w.grownBy w' (some q)) : Below w.heap.size w w' := (Below.refl _ w).grown h (Nat.le_refl _) (fun x e => by simp only [Option.some.injEq] at e; omega)
theorem grown_of_below {w w' : World} (row : Option Nat) (h : Below w.heap.size w w') : w.grownBy w' row := ⟨h.os, h.tape, h.output, h.size, fun k hk _ => h.block k hk⟩
theorem grown_then {w w1 w2 : World} {row : Option Nat} (h : w.grownBy w1 row) (hb : Below w.heap.size w1 w2) : w.grownBy w2 row := ⟨hb.os.trans h.os, hb.tape.trans h.tape, hb.output.trans h.output, Nat.le_trans h.size hb.size, fun k hk hne => (hb.block k hk).trans (h.block k hk hne)⟩
theorem rf_net {w : World} {B : Nat} {v0 v1 : Value} {pl : List ByteArray} {al : List ArcT} (hp : Ss w v0 pl) (hf : Fr B v0) (ha : FmA B w v1 al) : ∀ (q : Nat) (w' : World), (q < B ∨ w.heap.size ≤ q) → w.grownBy w' (some q) → ∀ (g : Nat) (w'' : World), g < B → w'.grownBy w'' (some g) → Ss w'' v0 pl ∧ As w'' v1 al := fun q w' hc hg g w'' hgB hg2 => by
  rcases hc with hc | hc
  · exact ⟨ss_kept (ss_kept hp hg (hf.ne hc)) hg2 (hf.ne hgB), ((ha.kept hg hc).kept hg2 hgB).sl⟩
  · exact ⟨ss_kept (hp.below (below_of_grown hc hg)) hg2 (hf.ne hgB), ((ha.below (below_of_grown hc hg)).kept hg2 hgB).sl⟩
theorem rf_ty {w : World} {B : Nat} {v : Value} {l : List TyT} (ha : FmT B w v l) : ∀ (q : Nat) (w' : World), (q < B ∨ w.heap.size ≤ q) → w.grownBy w' (some q) → ∀ (g : Nat) (w'' : World), g < B → w'.grownBy w'' (some g) → Ts w'' v l := fun q w' hc hg g w'' hgB hg2 => by
  rcases hc with hc | hc
  · exact ((ha.kept hg hc).kept hg2 hgB).sl
  · exact ((ha.below (below_of_grown hc hg)).kept hg2 hgB).sl
theorem rf_prs {w : World} {B : Nat} {v : Value} {l : List (Int × Int)} (hp : Ps w v l) (hf : Fr B v) : ∀ (q : Nat) (w' : World), (q < B ∨ w.heap.size ≤ q) → w.grownBy w' (some q) → ∀ (g : Nat) (w'' : World), g < B → w'.grownBy w'' (some g) → Ps w'' v l := fun q w' hc hg g w'' hgB hg2 => by
  rcases hc with hc | hc
  · exact ps_kept (ps_kept hp hg (hf.ne hc)) hg2 (hf.ne hgB)
  · exact ps_kept (psI_below hp (below_of_grown hc hg)) hg2 (hf.ne hgB)
theorem six_of {w : World} {q : Nat} {a0 a1 a2 a3 a4 a5 : Value} {t : TypeId} (h : Cb w q #[a0, a1, a2, a3, a4, a5] t) : w.cell? ⟨q, 0, none⟩ = some a0 ∧ w.cell? ⟨q, 1, none⟩ = some a1 ∧ w.cell? ⟨q, 2, none⟩ = some a2 ∧ w.cell? ⟨q, 3, none⟩ = some a3 ∧ w.cell? ⟨q, 4, none⟩ = some a4 ∧ w.cell? ⟨q, 5, none⟩ = some a5 :=
  ⟨h.cell 0 rfl, h.cell 1 rfl, h.cell 2 rfl, h.cell 3 rfl, h.cell 4 rfl, h.cell 5 rfl⟩
/-- the numbers of a part -/
def Nos (w : World) (v : Value) (l : List Nat) : Prop := ∃ B, S.Owb B w v l
theorem Nos.below {w w' : World} {v : Value} {l : List Nat} (h : Nos w v l) (hb : Below w.heap.size w w') : Nos w' v l := by
  obtain ⟨B, h⟩ := h
  exact ⟨B, own_below h hb⟩
theorem nos_at {w : World} {A : Option Addr} {c : Nat} {l : List Nat} (h : Nos w (.slice A l.length c) l) {i : Nat} (hi : i < l.length) : ∃ g, A = some ⟨g, 0, none⟩ ∧ g < w.heap.size ∧ w.cell? ⟨g, i, none⟩ = some (.int .i64 (l.getD i 0 : Nat)) := by
  obtain ⟨B, h⟩ := h
  exact ow_at h hi
def Uo (x : InT) (l : List Nat) (i : Nat) : List OrT := (l.take i).map fun j => x.ol.getD j or0
theorem uo_step {x : InT} {l : List Nat} {i : Nat} (h : i < l.length) : Uo x l (i + 1) = Uo x l i ++ [x.ol.getD (l.getD i 0) or0] := by
  unfold Uo
  rw [take_more (d := 0) h, List.map_append]
  rfl
theorem uo_len {x : InT} {l : List Nat} {i : Nat} (h : i ≤ l.length) : (Uo x l i).length = i := by
  unfold Uo
  rw [List.length_map, List.length_take]
  omega
theorem store6 {w : World} {q : Nat} {a0 a1 a2 a3 a4 a5 : Value} {t : TypeId} (h : Cb w q #[a0, a1, a2, a3, a4, a5] t) (v0 v1 v2 v3 v4 v5 : Value) :
    ∃ W9, ((((((w.setCell ⟨q, 0, none⟩ (v0)).setCell ⟨q, 1, none⟩ (v1)).setCell ⟨q, 2, none⟩ (v2)).setCell ⟨q, 3, none⟩ (v3)).setCell ⟨q, 4, none⟩ (v4)).setCell ⟨q, 5, none⟩ (v5)) = W9 ∧ w.grownBy W9 (some q) ∧ Cb W9 q #[v0, v1, v2, v3, v4, v5] t :=
  ⟨_, cells6 w q v0 v1 v2 v3 v4 v5, grown_cells (g := q) [v0, v1, v2, v3, v4, v5] w 0, Cb.full h [v0, v1, v2, v3, v4, v5] rfl⟩
set_option maxHeartbeats 12800000 in
theorem only_goodZ (k : Iv) (x : InT) (hx : InC x) (n : Nat) (hn : n < 2 ^ 63) (hall : ∀ i ∈ S.members n, i < x.ol.length) (hz : (S.members n).length = 0) (w : World) (hT : S.Tab w) (h : Ins w k x) :
    Calls Tryz.prog 20 #[k.v x, .int .i64 n] w fun e w' => ∃ (k' : Iv) (oa : Option Addr) (c : Nat), e = .returned (.tuple #[k'.v (onlyI x n), .slice oa (S.members n).length c, .int .i64 0]) ∧ Ins w' k' (onlyI x n) ∧ Nos w' (.slice oa (S.members n).length c) (S.members n) ∧ Below w.heap.size w w' := by
  obtain ⟨o0, c0, o1, c1, o2, c2, o3, c3, o4, c4, o5, c5⟩ := k
  unfold Iv.v inV
  simp only
  have B1 := below_alloc w (.cells #[.slice o0 x.pl.length c0, .slice o1 x.al.length c1, .slice o2 x.tl.length c2, .slice o3 x.ol.length c3, .slice o4 x.ap.length c4, .slice o5 x.be.length c5] 30)
  have B0 := over B1 (below_alloc (w.alloc (.cells #[.slice o0 x.pl.length c0, .slice o1 x.al.length c1, .slice o2 x.tl.length c2, .slice o3 x.ol.length c3, .slice o4 x.ap.length c4, .slice o5 x.be.length c5] 30)) (.cells #[.slice none 0 0, .slice none 0 0, .slice none 0 0, .slice none 0 0, .slice none 0 0, .slice none 0 0] 30))
  have M1 := (Cb.made w #[.slice o0 x.pl.length c0, .slice o1 x.al.length c1, .slice o2 x.tl.length c2, .slice o3 x.ol.length c3, .slice o4 x.ap.length c4, .slice o5 x.be.length c5] 30).old (.cells #[.slice none 0 0, .slice none 0 0, .slice none 0 0, .slice none 0 0, .slice none 0 0, .slice none 0 0] 30)
  have M2 := Cb.made (w.alloc (.cells #[.slice o0 x.pl.length c0, .slice o1 x.al.length c1, .slice o2 x.tl.length c2, .slice o3 x.ol.length c3, .slice o4 x.ap.length c4, .slice o5 x.be.length c5] 30)) #[.slice none 0 0, .slice none 0 0, .slice none 0 0, .slice none 0 0, .slice none 0 0, .slice none 0 0] 30
  have hs1 : (w.alloc (.cells #[.slice o0 x.pl.length c0, .slice o1 x.al.length c1, .slice o2 x.tl.length c2, .slice o3 x.ol.length c3, .slice o4 x.ap.length c4, .slice o5 x.be.length c5] 30)).heap.size = w.heap.size + 1 := World.size_alloc ..
  rw [hs1] at M2
  have hq0 : w.heap.size + 2 ≤ ((w.alloc (.cells #[.slice o0 x.pl.length c0, .slice o1 x.al.length c1, .slice o2 x.tl.length c2, .slice o3 x.ol.length c3, .slice o4 x.ap.length c4, .slice o5 x.be.length c5] 30)).alloc (.cells #[.slice none 0 0, .slice none 0 0, .slice none 0 0, .slice none 0 0, .slice none 0 0, .slice none 0 0] 30)).heap.size := by simp only [World.size_alloc]; omega
  have HI := Lib.hid (h.below B0)
  have HT := Lib.hid (hT.over B0)
  obtain ⟨W0, hW0⟩ : ∃ W0, (w.alloc (.cells #[.slice o0 x.pl.length c0, .slice o1 x.al.length c1, .slice o2 x.tl.length c2, .slice o3 x.ol.length c3, .slice o4 x.ap.length c4, .slice o5 x.be.length c5] 30)).alloc (.cells #[.slice none 0 0, .slice none 0 0, .slice none 0 0, .slice none 0 0, .slice none 0 0, .slice none 0 0] 30) = W0 := ⟨_, rfl⟩
  rw [hW0] at M1 M2 B0 hq0 HI HT
  have HM1 := Lib.hid M1
  have HM2 := Lib.hid M2
  have HB := Lib.hid B0
  have HW0 := Lib.hid hW0
  clear M1 M2 B1 B0 hW0 h hT

  have l0 := hx.pl
  have l1 := hx.al
  have l2 := hx.tl
  have l3 := hx.ol
  have l4 := hx.ap
  have l5 := hx.be
  have K1 := Lib.hid (fun w hp ha => copyOfNet_n o0 o1 c0 c1 x.pl x.al (by omega) (by omega) hx.tr w hp ha)
  have K2 := Lib.hid (fun w hv => copiesT_n (.slice o2 x.tl.length c2) x.tl (by omega) hx.cap w hv)
  have K4 := Lib.hid (fun w hv => renumbered_n n hn (.slice o4 x.ap.length c4) x.ap (by omega) w hv)
  have K5 := Lib.hid (fun w hv => renumbered_n n hn (.slice o5 x.be.length c5) x.be (by omega) w hv)
  have KM := Lib.hid (fun w hT => S.setMembers_n n hn w hT)
  have KO := Lib.hid (fun i (hi : i < x.ol.length) o0 c0 w h0 => copyOfOrder_n (x.ol.getD i or0) (.slice o0 (x.ol.getD i or0).load.length c0) (hx.load i hi) w h0)
  have hlen := S.mem_len n 63
  have hc63 : (S.members n).length ≤ 63 := hlen
  have HAsc := Lib.hid (S.asc_members n)
  have HAll := Lib.hid hall
  have HEo : Hid (onlyI x n = ⟨x.pl, x.al, x.tl, (S.members n).map fun i => x.ol.getD i or0, renP n x.ap, renP n x.be⟩) := rfl
  generalize onlyI x n = y at *
  generalize S.members n = l at *
  have hnn : ¬ (n : Int) < 0 := by omega
  clear hall hlen hn l0 l1 l2 l4 l5 hx
  go_enter Tryz.func20, Tryz.ntmps20
  go_upto_region 1 with fail
  rw [HW0.out]
  clear HW0 hs1
  go_wp2_with fail
  refine (KM.out _ HT.out).mono ?_
  rintro e w1 ⟨v1, rfl, ho, hb⟩
  obtain ⟨a1, d1, rfl⟩ := ow_slice ho
  have HBz := Lib.hid hb
  have RN : Hid (Nos w1 (.slice a1 l.length d1) l) := ⟨_, ho⟩
  have RO := Lib.hid ho
  clear hb ho
  have i3 : w1.cell? ⟨w.heap.size, 3, none⟩ = some (.slice o3 x.ol.length c3) := (HM1.out.below HBz.out).cell 3 rfl
  have hat : Hid (∀ c, l.length = c + 1 → ∃ g, a1 = some ⟨g, 0, none⟩ ∧ w1.cell? ⟨g, c, none⟩ = some (.int .i64 (l.getD c 0 : Nat)) ∧ l.getD c 0 < x.ol.length ∧ l.getD c 0 ≤ 1000) := fun c hc => by
    obtain ⟨g, h1, -, h3⟩ := nos_at RN.out (i := c) (by omega)
    have := (asc_last HAsc.out hc).1 HAll.out
    exact ⟨g, h1, h3, this, by omega⟩
  generalize hL : l.length = L at *
  have HL := Lib.hid hL
  clear hL
  cases L with
  | zero =>
    clear hz
    have hnnD : decide ((n : Int) < 0) = false := decide_eq_false (by omega)
    go_upto_region 2 with fail
    go_quiet (fail)
    go_upto_region 4 with fail
    generalize hW2 : World.drewN w1 _ = W2
    have HB2 : Hid (Below W0.heap.size W0 W2) := by show Below _ _ _; rw [← hW2]; exact below_drewN HBz.out _
    have RN : Hid (Nos W2 (.slice a1 (0) d1) l) := by
      show Nos _ _ _
      rw [← hW2]
      exact RN.out
    have RO : Hid (S.Owb W0.heap.size W2 (.slice a1 (0) d1) l) := by
      show S.Owb _ _ _ _
      rw [← hW2]
      exact RO.out
    clear hW2 i3 HBz
    go_cut [8] (fun t8 wx => ∃ (q : Nat) (p0 p1 p2 p4 p5 : Option Addr) (d0 d8 d2 d4 d5 : Nat), t8 = .pointer (some ⟨q, 0, none⟩) ∧ Hid (Cb wx q #[.slice p0 x.pl.length d0, .slice p1 x.al.length d8, .slice p2 x.tl.length d2, .slice none 0 0, .slice p4 (renP n x.ap).length d4, .slice p5 (renP n x.be).length d5] 30) ∧ Hid (∀ w9, wx.grownBy w9 (some q) → ∀ (g : Nat) (w10 : World), g < W2.heap.size → w9.grownBy w10 (some g) → (Ss w10 (.slice p0 x.pl.length d0) x.pl ∧ As w10 (.slice p1 x.al.length d8) x.al) ∧ Ts w10 (.slice p2 x.tl.length d2) x.tl ∧ Ps w10 (.slice p4 (renP n x.ap).length d4) (renP n x.ap) ∧ Ps w10 (.slice p5 (renP n x.be).length d5) (renP n x.be)) ∧ Hid (Below W2.heap.size W2 wx) ∧ W2.heap.size ≤ q)
    case first =>
      have HBz : Hid (Below W2.heap.size W2 W2.drew) := below_drew (Below.refl _ _)
      have hdr : W2.drew.heap.size = W2.heap.size := rfl
      have m0 : W2.drew.cell? ⟨w.heap.size, 0, none⟩ = some (.slice o0 x.pl.length c0) := (HM1.out.below (over HB2.out HBz.out)).cell 0 rfl
      have m1 : W2.drew.cell? ⟨w.heap.size, 1, none⟩ = some (.slice o1 x.al.length c1) := (HM1.out.below (over HB2.out HBz.out)).cell 1 rfl
      have m2 : W2.drew.cell? ⟨w.heap.size, 2, none⟩ = some (.slice o2 x.tl.length c2) := (HM1.out.below (over HB2.out HBz.out)).cell 2 rfl
      have m3 : W2.drew.cell? ⟨w.heap.size, 3, none⟩ = some (.slice o3 x.ol.length c3) := (HM1.out.below (over HB2.out HBz.out)).cell 3 rfl
      have m4 : W2.drew.cell? ⟨w.heap.size, 4, none⟩ = some (.slice o4 x.ap.length c4) := (HM1.out.below (over HB2.out HBz.out)).cell 4 rfl
      have m5 : W2.drew.cell? ⟨w.heap.size, 5, none⟩ = some (.slice o5 x.be.length c5) := (HM1.out.below (over HB2.out HBz.out)).cell 5 rfl
      go_region_held3 (fun w' => w'.cell? ⟨w.heap.size, 0, none⟩ = some (.slice o0 x.pl.length c0) ∧ w'.cell? ⟨w.heap.size, 1, none⟩ = some (.slice o1 x.al.length c1) ∧ w'.cell? ⟨w.heap.size, 2, none⟩ = some (.slice o2 x.tl.length c2) ∧ w'.cell? ⟨w.heap.size, 3, none⟩ = some (.slice o3 x.ol.length c3) ∧ w'.cell? ⟨w.heap.size, 4, none⟩ = some (.slice o4 x.ap.length c4) ∧ w'.cell? ⟨w.heap.size, 5, none⟩ = some (.slice o5 x.be.length c5))
        (first | with_reducible exact ⟨m0, m1, m2, m3, m4, m5⟩ | with_reducible exact ⟨s0, s1, s2, s3, s4, s5⟩ | exact six_of (HM1.out.below (over HB2.out (over HBz.out (below_alloc _ _)))))
        (first
          | (go_at_call 53; (with_reducible refine (K1.out _ (HI.out.h0.below (over HB2.out HBz.out)) (HI.out.h1.below (over HB2.out HBz.out))).mono ?_); rintro e wy ⟨p0, p1, d0, d8, rfl, hp, hf, ha, hb⟩; have hsz := hb.size; have RF1 := Lib.hid (rf_net hp hf ha); have hx := hb; (try (have MQ := Lib.hid (MQ.out.below hb))); have CH1 := Lib.hid (Below.refl wy.heap.size wy); have HBz := Lib.hid (over HBz.out hx); have hzz := HBz.out.size; have m0 : wy.cell? ⟨w.heap.size, 0, none⟩ = some (.slice o0 x.pl.length c0) := (HM1.out.below (over HB2.out HBz.out)).cell 0 rfl; have m1 : wy.cell? ⟨w.heap.size, 1, none⟩ = some (.slice o1 x.al.length c1) := (HM1.out.below (over HB2.out HBz.out)).cell 1 rfl; have m2 : wy.cell? ⟨w.heap.size, 2, none⟩ = some (.slice o2 x.tl.length c2) := (HM1.out.below (over HB2.out HBz.out)).cell 2 rfl; have m3 : wy.cell? ⟨w.heap.size, 3, none⟩ = some (.slice o3 x.ol.length c3) := (HM1.out.below (over HB2.out HBz.out)).cell 3 rfl; have m4 : wy.cell? ⟨w.heap.size, 4, none⟩ = some (.slice o4 x.ap.length c4) := (HM1.out.below (over HB2.out HBz.out)).cell 4 rfl; have m5 : wy.cell? ⟨w.heap.size, 5, none⟩ = some (.slice o5 x.be.length c5) := (HM1.out.below (over HB2.out HBz.out)).cell 5 rfl)
          | (go_at_call 53; have hba : Below W2.heap.size W2 (W2.alloc (.cells #[.slice none 0 0, .slice none 0 0, .slice none 0 0, .slice none 0 0, .slice none 0 0, .slice none 0 0] 30)).drew := below_drew (below_alloc W2 (.cells #[.slice none 0 0, .slice none 0 0, .slice none 0 0, .slice none 0 0, .slice none 0 0, .slice none 0 0] 30)); have HBq := Lib.hid hba; have MQ0 : Cb (W2.alloc (.cells #[.slice none 0 0, .slice none 0 0, .slice none 0 0, .slice none 0 0, .slice none 0 0, .slice none 0 0] 30)).drew W2.heap.size #[.slice none 0 0, .slice none 0 0, .slice none 0 0, .slice none 0 0, .slice none 0 0, .slice none 0 0] 30 := Cb.made W2 #[.slice none 0 0, .slice none 0 0, .slice none 0 0, .slice none 0 0, .slice none 0 0, .slice none 0 0] 30; have hsA : (W2.alloc (.cells #[.slice none 0 0, .slice none 0 0, .slice none 0 0, .slice none 0 0, .slice none 0 0, .slice none 0 0] 30)).drew.heap.size = W2.heap.size + 1 := World.size_alloc ..; have hQ0 := Nat.le_refl W2.heap.size; (with_reducible refine (K1.out _ (HI.out.h0.below (over HB2.out HBq.out)) (HI.out.h1.below (over HB2.out HBq.out))).mono ?_); rintro e wy ⟨p0, p1, d0, d8, rfl, hp, hf, ha, hb⟩; have hsz := hb.size; have RF1 := Lib.hid (rf_net hp hf ha); have hx := over hba hb; have MQ := Lib.hid (MQ0.below hb); clear MQ0 hba; have CH1 := Lib.hid (Below.refl wy.heap.size wy); have HBz : Hid (Below W2.heap.size W2 wy) := hx; have hzz := HBz.out.size; have m0 : wy.cell? ⟨w.heap.size, 0, none⟩ = some (.slice o0 x.pl.length c0) := (HM1.out.below (over HB2.out HBz.out)).cell 0 rfl; have m1 : wy.cell? ⟨w.heap.size, 1, none⟩ = some (.slice o1 x.al.length c1) := (HM1.out.below (over HB2.out HBz.out)).cell 1 rfl; have m2 : wy.cell? ⟨w.heap.size, 2, none⟩ = some (.slice o2 x.tl.length c2) := (HM1.out.below (over HB2.out HBz.out)).cell 2 rfl; have m3 : wy.cell? ⟨w.heap.size, 3, none⟩ = some (.slice o3 x.ol.length c3) := (HM1.out.below (over HB2.out HBz.out)).cell 3 rfl; have m4 : wy.cell? ⟨w.heap.size, 4, none⟩ = some (.slice o4 x.ap.length c4) := (HM1.out.below (over HB2.out HBz.out)).cell 4 rfl; have m5 : wy.cell? ⟨w.heap.size, 5, none⟩ = some (.slice o5 x.be.length c5) := (HM1.out.below (over HB2.out HBz.out)).cell 5 rfl)
          | (go_at_call 54; (with_reducible refine (K2.out _ (HI.out.h2.below (over HB2.out HBz.out))).mono ?_); rintro e wy ⟨p2, d2, rfl, hp, hb⟩; have hsz := hb.size; have RF2 := Lib.hid (rf_ty hp); have hx := hb; (try (have MQ := Lib.hid (MQ.out.below hb))); have CH1 := Lib.hid (over CH1.out hx); have CH2 := Lib.hid (Below.refl wy.heap.size wy); have HBz := Lib.hid (over HBz.out hx); have hzz := HBz.out.size; have m0 : wy.cell? ⟨w.heap.size, 0, none⟩ = some (.slice o0 x.pl.length c0) := (HM1.out.below (over HB2.out HBz.out)).cell 0 rfl; have m1 : wy.cell? ⟨w.heap.size, 1, none⟩ = some (.slice o1 x.al.length c1) := (HM1.out.below (over HB2.out HBz.out)).cell 1 rfl; have m2 : wy.cell? ⟨w.heap.size, 2, none⟩ = some (.slice o2 x.tl.length c2) := (HM1.out.below (over HB2.out HBz.out)).cell 2 rfl; have m3 : wy.cell? ⟨w.heap.size, 3, none⟩ = some (.slice o3 x.ol.length c3) := (HM1.out.below (over HB2.out HBz.out)).cell 3 rfl; have m4 : wy.cell? ⟨w.heap.size, 4, none⟩ = some (.slice o4 x.ap.length c4) := (HM1.out.below (over HB2.out HBz.out)).cell 4 rfl; have m5 : wy.cell? ⟨w.heap.size, 5, none⟩ = some (.slice o5 x.be.length c5) := (HM1.out.below (over HB2.out HBz.out)).cell 5 rfl)
          | (go_at_call 54; have hba := below_alloc wy (.cells #[.slice none 0 0, .slice none 0 0, .slice none 0 0, .slice none 0 0, .slice none 0 0, .slice none 0 0] 30); have HBq := Lib.hid (over HBz.out hba); have MQ0 := Cb.made wy #[.slice none 0 0, .slice none 0 0, .slice none 0 0, .slice none 0 0, .slice none 0 0, .slice none 0 0] 30; have hsA : (wy.alloc (.cells #[.slice none 0 0, .slice none 0 0, .slice none 0 0, .slice none 0 0, .slice none 0 0, .slice none 0 0] 30)).heap.size = wy.heap.size + 1 := World.size_alloc ..; have hQ0 := HBz.out.size; (with_reducible refine (K2.out _ (HI.out.h2.below (over HB2.out HBq.out))).mono ?_); rintro e wy ⟨p2, d2, rfl, hp, hb⟩; have hsz := hb.size; have RF2 := Lib.hid (rf_ty hp); have hx := over hba hb; have MQ := Lib.hid (MQ0.below hb); clear MQ0 hba; have CH1 := Lib.hid (over CH1.out hx); have CH2 := Lib.hid (Below.refl wy.heap.size wy); have HBz := Lib.hid (over HBz.out hx); have hzz := HBz.out.size; have m0 : wy.cell? ⟨w.heap.size, 0, none⟩ = some (.slice o0 x.pl.length c0) := (HM1.out.below (over HB2.out HBz.out)).cell 0 rfl; have m1 : wy.cell? ⟨w.heap.size, 1, none⟩ = some (.slice o1 x.al.length c1) := (HM1.out.below (over HB2.out HBz.out)).cell 1 rfl; have m2 : wy.cell? ⟨w.heap.size, 2, none⟩ = some (.slice o2 x.tl.length c2) := (HM1.out.below (over HB2.out HBz.out)).cell 2 rfl; have m3 : wy.cell? ⟨w.heap.size, 3, none⟩ = some (.slice o3 x.ol.length c3) := (HM1.out.below (over HB2.out HBz.out)).cell 3 rfl; have m4 : wy.cell? ⟨w.heap.size, 4, none⟩ = some (.slice o4 x.ap.length c4) := (HM1.out.below (over HB2.out HBz.out)).cell 4 rfl; have m5 : wy.cell? ⟨w.heap.size, 5, none⟩ = some (.slice o5 x.be.length c5) := (HM1.out.below (over HB2.out HBz.out)).cell 5 rfl)
          | (go_at_call 56; (with_reducible refine (K4.out _ (psI_below HI.out.h4 (over HB2.out HBz.out))).mono ?_); rintro e wy ⟨p4, d4, rfl, hp, hf, hb⟩; have hsz := hb.size; have RF4 := Lib.hid (rf_prs hp hf); have hx := hb; (try (have MQ := Lib.hid (MQ.out.below hb))); have CH1 := Lib.hid (over CH1.out hx); have CH2 := Lib.hid (over CH2.out hx); have CH4 := Lib.hid (Below.refl wy.heap.size wy); have HBz := Lib.hid (over HBz.out hx); have hzz := HBz.out.size; have m0 : wy.cell? ⟨w.heap.size, 0, none⟩ = some (.slice o0 x.pl.length c0) := (HM1.out.below (over HB2.out HBz.out)).cell 0 rfl; have m1 : wy.cell? ⟨w.heap.size, 1, none⟩ = some (.slice o1 x.al.length c1) := (HM1.out.below (over HB2.out HBz.out)).cell 1 rfl; have m2 : wy.cell? ⟨w.heap.size, 2, none⟩ = some (.slice o2 x.tl.length c2) := (HM1.out.below (over HB2.out HBz.out)).cell 2 rfl; have m3 : wy.cell? ⟨w.heap.size, 3, none⟩ = some (.slice o3 x.ol.length c3) := (HM1.out.below (over HB2.out HBz.out)).cell 3 rfl; have m4 : wy.cell? ⟨w.heap.size, 4, none⟩ = some (.slice o4 x.ap.length c4) := (HM1.out.below (over HB2.out HBz.out)).cell 4 rfl; have m5 : wy.cell? ⟨w.heap.size, 5, none⟩ = some (.slice o5 x.be.length c5) := (HM1.out.below (over HB2.out HBz.out)).cell 5 rfl)
          | (go_at_call 56; have hba := below_alloc wy (.cells #[.slice none 0 0, .slice none 0 0, .slice none 0 0, .slice none 0 0, .slice none 0 0, .slice none 0 0] 30); have HBq := Lib.hid (over HBz.out hba); have MQ0 := Cb.made wy #[.slice none 0 0, .slice none 0 0, .slice none 0 0, .slice none 0 0, .slice none 0 0, .slice none 0 0] 30; have hsA : (wy.alloc (.cells #[.slice none 0 0, .slice none 0 0, .slice none 0 0, .slice none 0 0, .slice none 0 0, .slice none 0 0] 30)).heap.size = wy.heap.size + 1 := World.size_alloc ..; have hQ0 := HBz.out.size; (with_reducible refine (K4.out _ (psI_below HI.out.h4 (over HB2.out HBq.out))).mono ?_); rintro e wy ⟨p4, d4, rfl, hp, hf, hb⟩; have hsz := hb.size; have RF4 := Lib.hid (rf_prs hp hf); have hx := over hba hb; have MQ := Lib.hid (MQ0.below hb); clear MQ0 hba; have CH1 := Lib.hid (over CH1.out hx); have CH2 := Lib.hid (over CH2.out hx); have CH4 := Lib.hid (Below.refl wy.heap.size wy); have HBz := Lib.hid (over HBz.out hx); have hzz := HBz.out.size; have m0 : wy.cell? ⟨w.heap.size, 0, none⟩ = some (.slice o0 x.pl.length c0) := (HM1.out.below (over HB2.out HBz.out)).cell 0 rfl; have m1 : wy.cell? ⟨w.heap.size, 1, none⟩ = some (.slice o1 x.al.length c1) := (HM1.out.below (over HB2.out HBz.out)).cell 1 rfl; have m2 : wy.cell? ⟨w.heap.size, 2, none⟩ = some (.slice o2 x.tl.length c2) := (HM1.out.below (over HB2.out HBz.out)).cell 2 rfl; have m3 : wy.cell? ⟨w.heap.size, 3, none⟩ = some (.slice o3 x.ol.length c3) := (HM1.out.below (over HB2.out HBz.out)).cell 3 rfl; have m4 : wy.cell? ⟨w.heap.size, 4, none⟩ = some (.slice o4 x.ap.length c4) := (HM1.out.below (over HB2.out HBz.out)).cell 4 rfl; have m5 : wy.cell? ⟨w.heap.size, 5, none⟩ = some (.slice o5 x.be.length c5) := (HM1.out.below (over HB2.out HBz.out)).cell 5 rfl)
          | (go_at_call 56; (with_reducible refine (K5.out _ (psI_below HI.out.h5 (over HB2.out HBz.out))).mono ?_); rintro e wy ⟨p5, d5, rfl, hp, hf, hb⟩; have hsz := hb.size; have RF5 := Lib.hid (rf_prs hp hf); have hx := hb; (try (have MQ := Lib.hid (MQ.out.below hb))); have CH1 := Lib.hid (over CH1.out hx); have CH2 := Lib.hid (over CH2.out hx); have CH4 := Lib.hid (over CH4.out hx); have CH5 := Lib.hid (Below.refl wy.heap.size wy); have HBz := Lib.hid (over HBz.out hx); have hzz := HBz.out.size; have m0 : wy.cell? ⟨w.heap.size, 0, none⟩ = some (.slice o0 x.pl.length c0) := (HM1.out.below (over HB2.out HBz.out)).cell 0 rfl; have m1 : wy.cell? ⟨w.heap.size, 1, none⟩ = some (.slice o1 x.al.length c1) := (HM1.out.below (over HB2.out HBz.out)).cell 1 rfl; have m2 : wy.cell? ⟨w.heap.size, 2, none⟩ = some (.slice o2 x.tl.length c2) := (HM1.out.below (over HB2.out HBz.out)).cell 2 rfl; have m3 : wy.cell? ⟨w.heap.size, 3, none⟩ = some (.slice o3 x.ol.length c3) := (HM1.out.below (over HB2.out HBz.out)).cell 3 rfl; have m4 : wy.cell? ⟨w.heap.size, 4, none⟩ = some (.slice o4 x.ap.length c4) := (HM1.out.below (over HB2.out HBz.out)).cell 4 rfl; have m5 : wy.cell? ⟨w.heap.size, 5, none⟩ = some (.slice o5 x.be.length c5) := (HM1.out.below (over HB2.out HBz.out)).cell 5 rfl; (try (obtain ⟨W9, hn6, hgs, hS9⟩ := store6 MQ.out (.slice p0 x.pl.length d0) (.slice p1 x.al.length d8) (.slice p2 x.tl.length d2) (.slice none 0 0) (.slice p4 (renP n x.ap).length d4) (.slice p5 (renP n x.be).length d5); have HGs := Lib.hid hgs; have HS := Lib.hid hS9; obtain ⟨n0, n1, n2, n3, n4, n5⟩ := six_of MQ.out; have f0 := MQ.out.f 0; have f1 := MQ.out.f 1; have f2 := MQ.out.f 2; have f3 := MQ.out.f 3; have f4 := MQ.out.f 4; have f5 := MQ.out.f 5; have HBs := Lib.hid (HBz.out.grown hgs HBz.out.size (fun x e => by simp only [Option.some.injEq] at e; omega)); have s0 : W9.cell? ⟨w.heap.size, 0, none⟩ = some (.slice o0 x.pl.length c0) := (HM1.out.below (over HB2.out HBs.out)).cell 0 rfl; have s1 : W9.cell? ⟨w.heap.size, 1, none⟩ = some (.slice o1 x.al.length c1) := (HM1.out.below (over HB2.out HBs.out)).cell 1 rfl; have s2 : W9.cell? ⟨w.heap.size, 2, none⟩ = some (.slice o2 x.tl.length c2) := (HM1.out.below (over HB2.out HBs.out)).cell 2 rfl; have s3 : W9.cell? ⟨w.heap.size, 3, none⟩ = some (.slice o3 x.ol.length c3) := (HM1.out.below (over HB2.out HBs.out)).cell 3 rfl; have s4 : W9.cell? ⟨w.heap.size, 4, none⟩ = some (.slice o4 x.ap.length c4) := (HM1.out.below (over HB2.out HBs.out)).cell 4 rfl; have s5 : W9.cell? ⟨w.heap.size, 5, none⟩ = some (.slice o5 x.be.length c5) := (HM1.out.below (over HB2.out HBs.out)).cell 5 rfl; clear hgs hS9)))
          | (go_at_call 56; have hba := below_alloc wy (.cells #[.slice none 0 0, .slice none 0 0, .slice none 0 0, .slice none 0 0, .slice none 0 0, .slice none 0 0] 30); have HBq := Lib.hid (over HBz.out hba); have MQ0 := Cb.made wy #[.slice none 0 0, .slice none 0 0, .slice none 0 0, .slice none 0 0, .slice none 0 0, .slice none 0 0] 30; have hsA : (wy.alloc (.cells #[.slice none 0 0, .slice none 0 0, .slice none 0 0, .slice none 0 0, .slice none 0 0, .slice none 0 0] 30)).heap.size = wy.heap.size + 1 := World.size_alloc ..; have hQ0 := HBz.out.size; (with_reducible refine (K5.out _ (psI_below HI.out.h5 (over HB2.out HBq.out))).mono ?_); rintro e wy ⟨p5, d5, rfl, hp, hf, hb⟩; have hsz := hb.size; have RF5 := Lib.hid (rf_prs hp hf); have hx := over hba hb; have MQ := Lib.hid (MQ0.below hb); clear MQ0 hba; have CH1 := Lib.hid (over CH1.out hx); have CH2 := Lib.hid (over CH2.out hx); have CH4 := Lib.hid (over CH4.out hx); have CH5 := Lib.hid (Below.refl wy.heap.size wy); have HBz := Lib.hid (over HBz.out hx); have hzz := HBz.out.size; have m0 : wy.cell? ⟨w.heap.size, 0, none⟩ = some (.slice o0 x.pl.length c0) := (HM1.out.below (over HB2.out HBz.out)).cell 0 rfl; have m1 : wy.cell? ⟨w.heap.size, 1, none⟩ = some (.slice o1 x.al.length c1) := (HM1.out.below (over HB2.out HBz.out)).cell 1 rfl; have m2 : wy.cell? ⟨w.heap.size, 2, none⟩ = some (.slice o2 x.tl.length c2) := (HM1.out.below (over HB2.out HBz.out)).cell 2 rfl; have m3 : wy.cell? ⟨w.heap.size, 3, none⟩ = some (.slice o3 x.ol.length c3) := (HM1.out.below (over HB2.out HBz.out)).cell 3 rfl; have m4 : wy.cell? ⟨w.heap.size, 4, none⟩ = some (.slice o4 x.ap.length c4) := (HM1.out.below (over HB2.out HBz.out)).cell 4 rfl; have m5 : wy.cell? ⟨w.heap.size, 5, none⟩ = some (.slice o5 x.be.length c5) := (HM1.out.below (over HB2.out HBz.out)).cell 5 rfl; (try (obtain ⟨W9, hn6, hgs, hS9⟩ := store6 MQ.out (.slice p0 x.pl.length d0) (.slice p1 x.al.length d8) (.slice p2 x.tl.length d2) (.slice none 0 0) (.slice p4 (renP n x.ap).length d4) (.slice p5 (renP n x.be).length d5); have HGs := Lib.hid hgs; have HS := Lib.hid hS9; obtain ⟨n0, n1, n2, n3, n4, n5⟩ := six_of MQ.out; have f0 := MQ.out.f 0; have f1 := MQ.out.f 1; have f2 := MQ.out.f 2; have f3 := MQ.out.f 3; have f4 := MQ.out.f 4; have f5 := MQ.out.f 5; have HBs := Lib.hid (HBz.out.grown hgs HBz.out.size (fun x e => by simp only [Option.some.injEq] at e; omega)); have s0 : W9.cell? ⟨w.heap.size, 0, none⟩ = some (.slice o0 x.pl.length c0) := (HM1.out.below (over HB2.out HBs.out)).cell 0 rfl; have s1 : W9.cell? ⟨w.heap.size, 1, none⟩ = some (.slice o1 x.al.length c1) := (HM1.out.below (over HB2.out HBs.out)).cell 1 rfl; have s2 : W9.cell? ⟨w.heap.size, 2, none⟩ = some (.slice o2 x.tl.length c2) := (HM1.out.below (over HB2.out HBs.out)).cell 2 rfl; have s3 : W9.cell? ⟨w.heap.size, 3, none⟩ = some (.slice o3 x.ol.length c3) := (HM1.out.below (over HB2.out HBs.out)).cell 3 rfl; have s4 : W9.cell? ⟨w.heap.size, 4, none⟩ = some (.slice o4 x.ap.length c4) := (HM1.out.below (over HB2.out HBs.out)).cell 4 rfl; have s5 : W9.cell? ⟨w.heap.size, 5, none⟩ = some (.slice o5 x.be.length c5) := (HM1.out.below (over HB2.out HBs.out)).cell 5 rfl; clear hgs hS9))))
      all_goals
        clear K1 K2 K4 K5 KO
        go_wp2_with fail
        go_meet
        first
          | exact ⟨_, p0, p1, p2, p4, p5, d0, d8, d2, d4, d5, rfl, HS, (fun w9 hg9 _ _ hgW hg10 => ⟨RF1.out _ w9 (by first | exact .inl (by omega) | exact .inr (by omega)) (((grown_of_below (some _) CH1.out).trans HGs.out).trans hg9) _ _ (Nat.lt_of_lt_of_le hgW (by omega)) hg10, RF2.out _ w9 (by first | exact .inl (by omega) | exact .inr (by omega)) (((grown_of_below (some _) CH2.out).trans HGs.out).trans hg9) _ _ (Nat.lt_of_lt_of_le hgW (by omega)) hg10, RF4.out _ w9 (by first | exact .inl (by omega) | exact .inr (by omega)) (((grown_of_below (some _) CH4.out).trans HGs.out).trans hg9) _ _ (Nat.lt_of_lt_of_le hgW (by omega)) hg10, RF5.out _ w9 (by first | exact .inl (by omega) | exact .inr (by omega)) (((grown_of_below (some _) CH5.out).trans HGs.out).trans hg9) _ _ (Nat.lt_of_lt_of_le hgW (by omega)) hg10⟩), HBs, by omega⟩
          | exact ⟨_, p0, p1, p2, p4, p5, d0, d8, d2, d4, d5, rfl, Cb.made wy _ _, (fun w9 hg9 _ _ hgW hg10 => ⟨RF1.out _ w9 (by first | exact .inl (by omega) | exact .inr (by omega)) (((grown_of_below (some _) CH1.out).trans (World.grownBy_alloc wy _ (some _))).trans hg9) _ _ (Nat.lt_of_lt_of_le hgW (by omega)) hg10, RF2.out _ w9 (by first | exact .inl (by omega) | exact .inr (by omega)) (((grown_of_below (some _) CH2.out).trans (World.grownBy_alloc wy _ (some _))).trans hg9) _ _ (Nat.lt_of_lt_of_le hgW (by omega)) hg10, RF4.out _ w9 (by first | exact .inl (by omega) | exact .inr (by omega)) (((grown_of_below (some _) CH4.out).trans (World.grownBy_alloc wy _ (some _))).trans hg9) _ _ (Nat.lt_of_lt_of_le hgW (by omega)) hg10, RF5.out _ w9 (by first | exact .inl (by omega) | exact .inr (by omega)) (((grown_of_below (some _) CH5.out).trans (World.grownBy_alloc wy _ (some _))).trans hg9) _ _ (Nat.lt_of_lt_of_le hgW (by omega)) hg10⟩), over HBz.out (below_alloc wy _), by omega⟩
    obtain ⟨q, p0, p1, p2, p4, p5, d0, d8, d2, d4, d5, rfl, HQ, HRF, HBc, hq2⟩ := hcut
    have hqc := HQ.out.lt
    have hcs := HBc.out.size
    have HF0 : Hid (FoO wc.heap.size wc (.slice none 0 0) (Uo x l 0)) := FoO.nil _ _
    go_wp2_with fail
    go_loopg [10, 50] (0) (fun gg v10 j wr => ∃ (i : Nat) (so : Option Addr) (sc : Nat), i ≤ 0 ∧ j = .int .i64 i ∧ 0 - i ≤ gg ∧ Hid (Cb wr q #[.slice p0 x.pl.length d0, .slice p1 x.al.length d8, .slice p2 x.tl.length d2, .slice so i sc, .slice p4 (renP n x.ap).length d4, .slice p5 (renP n x.be).length d5] 30) ∧ Hid (FoO wc.heap.size wr (.slice so i sc) (Uo x l i)) ∧ Hid (wc.grownBy wr (some q)) ∧ Hid (Below W2.heap.size W2 wr))
    case atStart => exact ⟨0, none, 0, Nat.zero_le _, rfl, Nat.le_refl _, HQ, HF0, World.grownBy.refl _ _, HBc⟩
    case round =>
      clear HQ HF0 HBc
      obtain ⟨i, so, sc, hi, rfl, hgi, HQ, HF, HGc, HBc⟩ := hrel
      by_cases hlt : i < 0
      · exact absurd hlt (Nat.not_lt_zero _)
      · have hkk : i = 0 := by omega
        have hiI : ¬ (i : Int) < (((0 : Nat) : Int) : Int) := by omega
        obtain ⟨k0, k1, k2, k3, k4, k5⟩ := six_of HQ.out
        obtain ⟨W9, hn6, hgs, hS9⟩ := store6 ((HM2.out.below HB2.out).below HBc.out) (.slice p0 x.pl.length d0) (.slice p1 x.al.length d8) (.slice p2 x.tl.length d2) (.slice so i sc) (.slice p4 (renP n x.ap).length d4) (.slice p5 (renP n x.be).length d5)
        obtain ⟨n0, n1, n2, n3, n4, n5⟩ := six_of ((HM2.out.below HB2.out).below HBc.out)
        have f0 := ((HM2.out.below HB2.out).below HBc.out).f 0
        have f1 := ((HM2.out.below HB2.out).below HBc.out).f 1
        have f2 := ((HM2.out.below HB2.out).below HBc.out).f 2
        have f3 := ((HM2.out.below HB2.out).below HBc.out).f 3
        have f4 := ((HM2.out.below HB2.out).below HBc.out).f 4
        have f5 := ((HM2.out.below HB2.out).below HBc.out).f 5
        have hs2 := HB2.out.size
        obtain ⟨⟨R0, R1⟩, R2, R4, R5⟩ := HRF.out wr HGc.out (w.heap.size + 1) W9 (by omega) hgs
        have RFo := HF.out.kept hgs (by omega)
        have hUl : Uo x l i = l.map fun j => x.ol.getD j or0 := by unfold Uo; rw [hkk, ← HL.out, List.take_length]
        rw [hUl] at RFo
        have RNo : S.Owb W0.heap.size W9 (.slice a1 (0) d1) l := World.ownsRow.kept (own_below RO.out HBc.out) hgs (.inr (fun e => by have := (World.ownsRow.lt (own_below RO.out HBc.out) _ e).1; omega))
        have HB9 := Lib.hid ((HB.out.trans ((over HB2.out HBc.out).mono (by omega))).grown hgs (by have := (over HB2.out HBc.out).size; omega) (fun x e => by simp only [Option.some.injEq] at e; omega))
        have hy := HEo.out
        subst hy
        have HIn : Hid (Ins W9 ⟨p0, d0, p1, d8, p2, d2, so, sc, p4, d4, p5, d5⟩ ⟨x.pl, x.al, x.tl, l.map fun j => x.ol.getD j or0, renP n x.ap, renP n x.be⟩) := ⟨R0, R1, R2, (by show Os _ (.slice so (l.map _).length sc) _; rw [List.length_map, HL.out, ← hkk]; exact RFo.sl), R4, R5⟩
        have HNo : Hid (Nos W9 (.slice a1 l.length d1) l) := by show Nos _ _ _; rw [HL.out]; exact ⟨_, RNo⟩
        have HSx := Lib.hid hS9
        have HLm : Hid ((l.map fun j => x.ol.getD j or0).length = i) := by show _ = _; rw [List.length_map, HL.out, hkk]
        have HLi : Hid (l.length = i) := by show _ = _; rw [HL.out, hkk]
        clear R0 R1 R2 R4 R5 RFo RNo hUl hgs hS9 HRF HF HQ HGc HBc RO RN hkk
        go_wp2_with fail
        have gz0 : W9.cell? ⟨w.heap.size + 1, 0, none⟩ = some (.slice p0 x.pl.length d0) := HSx.out.cell 0 rfl
        have gz1 : W9.cell? ⟨w.heap.size + 1, 1, none⟩ = some (.slice p1 x.al.length d8) := HSx.out.cell 1 rfl
        have gz2 : W9.cell? ⟨w.heap.size + 1, 2, none⟩ = some (.slice p2 x.tl.length d2) := HSx.out.cell 2 rfl
        have gz3 : W9.cell? ⟨w.heap.size + 1, 3, none⟩ = some (.slice so i sc) := HSx.out.cell 3 rfl
        have gz4 : W9.cell? ⟨w.heap.size + 1, 4, none⟩ = some (.slice p4 (renP n x.ap).length d4) := HSx.out.cell 4 rfl
        have gz5 : W9.cell? ⟨w.heap.size + 1, 5, none⟩ = some (.slice p5 (renP n x.be).length d5) := HSx.out.cell 5 rfl
        refine bodyPost_ret (v := .tuple #[.agg #[.slice p0 x.pl.length d0, .slice p1 x.al.length d8, .slice p2 x.tl.length d2, .slice so i sc, .slice p4 (renP n x.ap).length d4, .slice p5 (renP n x.be).length d5], .slice a1 (0) d1, .int .i64 0]) (by simp [results, Tryz.results20, go_sem, gz0, gz1, gz2, gz3, gz4, gz5]) rfl ⟨⟨p0, d0, p1, d8, p2, d2, so, sc, p4, d4, p5, d5⟩, a1, d1, (by show Ending.returned (.tuple #[.agg #[.slice p0 x.pl.length d0, .slice p1 x.al.length d8, .slice p2 x.tl.length d2, .slice so i sc, .slice p4 (renP n x.ap).length d4, .slice p5 (renP n x.be).length d5], .slice a1 (0) d1, .int .i64 0]) = Ending.returned (.tuple #[.agg #[.slice p0 x.pl.length d0, .slice p1 x.al.length d8, .slice p2 x.tl.length d2, .slice so l.length sc, .slice p4 (renP n x.ap).length d4, .slice p5 (renP n x.be).length d5], .slice a1 l.length d1, .int .i64 0]); rw [show (Value.slice a1 l.length d1) = Value.slice a1 (0) d1 by rw [HL.out], show (Value.slice so l.length sc) = Value.slice so i sc by rw [HLi.out]]), HIn.out, HNo.out, HB9.out⟩
  | succ c => exact absurd hz (by omega)

end Go.Proofs.YtaallpebfcadjaaGreatDoor.T


