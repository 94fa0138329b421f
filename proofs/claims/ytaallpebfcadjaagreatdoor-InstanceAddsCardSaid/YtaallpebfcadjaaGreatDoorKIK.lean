/-
  DERIVED. KIK: a part of the base of layer 13 (made by pack.py).
-/
import Derived.Test.YtaallpebfcadjaaGreatDoorKIJ
/-! The walk of the landed instance's Only: a part that is not empty (written by gen_inonly5.py). -/
namespace Go.Proofs.YtaallpebfcadjaaGreatDoor.T
open Go.RowKit
set_option maxRecDepth 8000

set_option maxHeartbeats 12800000 in
theorem only_goodS (k : Iv) (x : InT) (hx : InC x) (n : Nat) (hn : n < 2 ^ 63) (hall : ∀ i ∈ S.members n, i < x.ol.length) (hz : 0 < (S.members n).length) (w : World) (hT : S.Tab w) (h : Ins w k x) :
    Calls Tryz.prog 20 #[k.v x, .int .i64 n] w fun e w' => ∃ (k' : Iv) (oa : Option Addr) (c : Nat), e = .returned (.tuple #[k'.v (onlyI x n), .slice oa (S.members n).length c, .int .i64 0]) ∧ Ins w' k' (onlyI x n) ∧ Nos w' (.slice oa (S.members n).length c) (S.members n) ∧ Below w.heap.size w w' := by
  obtain ⟨o0, c0, o1, c1, o2, c2, o3, c3, o4, c4, o5, c5⟩ := k
  unfold Iv.v inV
  simp only
  have B1 := below_alloc w (.cells #[.slice o0 x.pl.length c0, .slice o1 x.al.length c1, .slice o2 x.tl.length c2, .slice o3 x.ol.length c3, .slice o4 x.ap.length c4, .slice o5 x.be.length c5] 30)
  have B0 := over B1 (below_alloc (w.alloc (.cells #[.slice o0 x.pl.length c0, .slice o1 x.al.length c1, .slice o2 x.tl.length c2, .slice o3 x.ol.length c3, .slice o4 x.ap.length c4, .slice o5 x.be.length c5] 30)) (.cells #[.slice none 0 0, .slice none 0 0, .slice none 0 0, .slice none 0 0, .slice none 0 0, .slice none 0 0] 30))
  have M1 := (Cb.made w #[.slice o0 x.pl.length c0, .slice o1 x.al.length c1, .slice o2 x.tl.length c2, .slice o3 x.ol.length c3, .slice o4 x.ap.length c4, .slice o5 x.be.length c5] 30).old (.cells #[.slice none 0 0, .slice none 0 0, .slice none 0 0, .slice none 0 0, .slice none 0 0, .slice none 0 0] 30)
  have M2 := Cb.made (w.alloc (.cells #[.slice o0 x.pl.length c0, .slice o1 x.al.length c1, .slice o2 x.tl.length c2, .slice o3 x.ol.length c3, .slice o4 x.ap.length c4, .slice o5 x.be.length c5] 30)) #[.slice none 0 0, .slice none 0 0, .slice none 0 0, .slice none 0 0, .slice none 0 0, .slice none 0 0] 30
  have hs1 : (w.alloc (.cells #[.slice o0 x.pl.length c0, .slice o1 x.al.length c1, .slice o2 x.tl.length c2, .slice o3 x.ol.length c3, .slice o4 x.ap.length c4, .slice o5 x.be.length c5] 30)).heap.size = w.heap.size + 1 := World.size_alloc ..
  rw [hs1] at M2
  have hq0 : w.heap.size + 2 ≤ ((w.alloc (.cells #[.slice o0 x.pl.length c0, .slice o1 x.al.length c1, .slice o2 x.tl.length c2, .slice o3 x.ol.length c3, .slice o4 x.ap.length c4, .slice o5 x.be.length c5] 30)).alloc (.cells #[.slice none 0 0, .slice none 0 0, .slice none 0 0, .slice none 0 0, .slice none 0 0, .slice none 0 0] 30)).heap.size := by simp only [World.size_alloc]; omega
  have HI := Lib.hid (h.below B0)
  have HT := Lib.hid (hT.over B0)
  obtain ⟨W0, hW0⟩ : ∃ W0, (w.alloc (.cells #[.slice o0 x.pl.length c0, .slice o1 x.al.length c1, .slice o2 x.tl.length c2, .slice o3 x.ol.length c3, .slice o4 x.ap.length c4, .slice o5 x.be.length c5] 30)).alloc (.cells #[.slice none 0 0, .slice none 0 0, .slice none 0 0, .slice none 0 0, .slice none 0 0, .slice none 0 0] 30) = W0 := ⟨_, rfl⟩
  rw [hW0] at M1 M2 B0 hq0 HI HT
  have HM1 := Lib.hid M1
  have HM2 := Lib.hid M2
  have HB := Lib.hid B0
  have HW0 := Lib.hid hW0
  clear M1 M2 B1 B0 hW0 h hT

  have l0 := hx.pl
  have l1 := hx.al
  have l2 := hx.tl
  have l3 := hx.ol
  have l4 := hx.ap
  have l5 := hx.be
  have K1 := Lib.hid (fun w hp ha => copyOfNet_n o0 o1 c0 c1 x.pl x.al (by omega) (by omega) hx.tr w hp ha)
  have K2 := Lib.hid (fun w hv => copiesT_n (.slice o2 x.tl.length c2) x.tl (by omega) hx.cap w hv)
  have K4 := Lib.hid (fun w hv => renumbered_n n hn (.slice o4 x.ap.length c4) x.ap (by omega) w hv)
  have K5 := Lib.hid (fun w hv => renumbered_n n hn (.slice o5 x.be.length c5) x.be (by omega) w hv)
  have KM := Lib.hid (fun w hT => S.setMembers_n n hn w hT)
  have KO := Lib.hid (fun i (hi : i < x.ol.length) o0 c0 w h0 => copyOfOrder_n (x.ol.getD i or0) (.slice o0 (x.ol.getD i or0).load.length c0) (hx.load i hi) w h0)
  have hlen := S.mem_len n 63
  have hc63 : (S.members n).length ≤ 63 := hlen
  have HAsc := Lib.hid (S.asc_members n)
  have HAll := Lib.hid hall
  have HEo : Hid (onlyI x n = ⟨x.pl, x.al, x.tl, (S.members n).map fun i => x.ol.getD i or0, renP n x.ap, renP n x.be⟩) := rfl
  generalize onlyI x n = y at *
  generalize S.members n = l at *
  have hnn : ¬ (n : Int) < 0 := by omega
  clear hall hlen hn l0 l1 l2 l4 l5 hx
  go_enter Tryz.func20, Tryz.ntmps20
  go_upto_region 1 with fail
  rw [HW0.out]
  clear HW0 hs1
  go_wp2_with fail
  refine (KM.out _ HT.out).mono ?_
  rintro e w1 ⟨v1, rfl, ho, hb⟩
  obtain ⟨a1, d1, rfl⟩ := ow_slice ho
  have HBz := Lib.hid hb
  have RN : Hid (Nos w1 (.slice a1 l.length d1) l) := ⟨_, ho⟩
  have RO := Lib.hid ho
  clear hb ho
  have i3 : w1.cell? ⟨w.heap.size, 3, none⟩ = some (.slice o3 x.ol.length c3) := (HM1.out.below HBz.out).cell 3 rfl
  have hat : Hid (∀ c, l.length = c + 1 → ∃ g, a1 = some ⟨g, 0, none⟩ ∧ w1.cell? ⟨g, c, none⟩ = some (.int .i64 (l.getD c 0 : Nat)) ∧ l.getD c 0 < x.ol.length ∧ l.getD c 0 ≤ 1000) := fun c hc => by
    obtain ⟨g, h1, -, h3⟩ := nos_at RN.out (i := c) (by omega)
    have := (asc_last HAsc.out hc).1 HAll.out
    exact ⟨g, h1, h3, this, by omega⟩
  generalize hL : l.length = L at *
  have HL := Lib.hid hL
  clear hL
  cases L with
  | zero => exact absurd hz (by omega)
  | succ c =>
    clear hz
    obtain ⟨g1, rfl, hat1, hlt1, hy⟩ := hat.out c rfl
    generalize l.getD c 0 = y1 at *
    have hnnD : decide ((n : Int) < 0) = false := decide_eq_false (by omega)
    have hw9 : IntKind.i64.wrap ((c : Nat) : Int) = (c : Int) := by rw [IntKind.wrap_i64]; omega
    have h0c : (0 : Int) ≤ (c : Int) := by omega
    have hcc : (c : Int) < (c : Int) + 1 := by omega
    have hps : decide ((0 : Int) < (c : Int) + 1) = true := decide_eq_true (by omega)
    have hcD : decide ((x.ol.length : Int) ≤ (y1 : Int)) = false := decide_eq_false (by omega)
    go_upto_region 2 with fail
    go_quiet (fail)
    go_upto_region 4 with fail
    generalize hW2 : World.drewN w1 _ = W2
    have HB2 : Hid (Below W0.heap.size W0 W2) := by show Below _ _ _; rw [← hW2]; exact below_drewN HBz.out _
    have RN : Hid (Nos W2 (.slice (some ⟨g1, 0, none⟩) (c + 1) d1) l) := by
      show Nos _ _ _
      rw [← hW2]
      exact RN.out
    have RO : Hid (S.Owb W0.heap.size W2 (.slice (some ⟨g1, 0, none⟩) (c + 1) d1) l) := by
      show S.Owb _ _ _ _
      rw [← hW2]
      exact RO.out
    clear hW2 i3 HBz
    go_cut [8] (fun t8 wx => ∃ (q : Nat) (p0 p1 p2 p4 p5 : Option Addr) (d0 d8 d2 d4 d5 : Nat), t8 = .pointer (some ⟨q, 0, none⟩) ∧ Hid (Cb wx q #[.slice p0 x.pl.length d0, .slice p1 x.al.length d8, .slice p2 x.tl.length d2, .slice none 0 0, .slice p4 (renP n x.ap).length d4, .slice p5 (renP n x.be).length d5] 30) ∧ Hid (∀ w9, wx.grownBy w9 (some q) → ∀ (g : Nat) (w10 : World), g < W2.heap.size → w9.grownBy w10 (some g) → (Ss w10 (.slice p0 x.pl.length d0) x.pl ∧ As w10 (.slice p1 x.al.length d8) x.al) ∧ Ts w10 (.slice p2 x.tl.length d2) x.tl ∧ Ps w10 (.slice p4 (renP n x.ap).length d4) (renP n x.ap) ∧ Ps w10 (.slice p5 (renP n x.be).length d5) (renP n x.be)) ∧ Hid (Below W2.heap.size W2 wx) ∧ W2.heap.size ≤ q)
    case first =>
      have HBz : Hid (Below W2.heap.size W2 W2.drew) := below_drew (Below.refl _ _)
      have hdr : W2.drew.heap.size = W2.heap.size := rfl
      have m0 : W2.drew.cell? ⟨w.heap.size, 0, none⟩ = some (.slice o0 x.pl.length c0) := (HM1.out.below (over HB2.out HBz.out)).cell 0 rfl
      have m1 : W2.drew.cell? ⟨w.heap.size, 1, none⟩ = some (.slice o1 x.al.length c1) := (HM1.out.below (over HB2.out HBz.out)).cell 1 rfl
      have m2 : W2.drew.cell? ⟨w.heap.size, 2, none⟩ = some (.slice o2 x.tl.length c2) := (HM1.out.below (over HB2.out HBz.out)).cell 2 rfl
      have m3 : W2.drew.cell? ⟨w.heap.size, 3, none⟩ = some (.slice o3 x.ol.length c3) := (HM1.out.below (over HB2.out HBz.out)).cell 3 rfl
      have m4 : W2.drew.cell? ⟨w.heap.size, 4, none⟩ = some (.slice o4 x.ap.length c4) := (HM1.out.below (over HB2.out HBz.out)).cell 4 rfl
      have m5 : W2.drew.cell? ⟨w.heap.size, 5, none⟩ = some (.slice o5 x.be.length c5) := (HM1.out.below (over HB2.out HBz.out)).cell 5 rfl
      go_region_held3 (fun w' => w'.cell? ⟨w.heap.size, 0, none⟩ = some (.slice o0 x.pl.length c0) ∧ w'.cell? ⟨w.heap.size, 1, none⟩ = some (.slice o1 x.al.length c1) ∧ w'.cell? ⟨w.heap.size, 2, none⟩ = some (.slice o2 x.tl.length c2) ∧ w'.cell? ⟨w.heap.size, 3, none⟩ = some (.slice o3 x.ol.length c3) ∧ w'.cell? ⟨w.heap.size, 4, none⟩ = some (.slice o4 x.ap.length c4) ∧ w'.cell? ⟨w.heap.size, 5, none⟩ = some (.slice o5 x.be.length c5))
        (first | with_reducible exact ⟨m0, m1, m2, m3, m4, m5⟩ | with_reducible exact ⟨s0, s1, s2, s3, s4, s5⟩ | exact six_of (HM1.out.below (over HB2.out (over HBz.out (below_alloc _ _)))))
        (first
          | (go_at_call 53; (with_reducible refine (K1.out _ (HI.out.h0.below (over HB2.out HBz.out)) (HI.out.h1.below (over HB2.out HBz.out))).mono ?_); rintro e wy ⟨p0, p1, d0, d8, rfl, hp, hf, ha, hb⟩; have hsz := hb.size; have RF1 := Lib.hid (rf_net hp hf ha); have hx := hb; (try (have MQ := Lib.hid (MQ.out.below hb))); have CH1 := Lib.hid (Below.refl wy.heap.size wy); have HBz := Lib.hid (over HBz.out hx); have hzz := HBz.out.size; have m0 : wy.cell? ⟨w.heap.size, 0, none⟩ = some (.slice o0 x.pl.length c0) := (HM1.out.below (over HB2.out HBz.out)).cell 0 rfl; have m1 : wy.cell? ⟨w.heap.size, 1, none⟩ = some (.slice o1 x.al.length c1) := (HM1.out.below (over HB2.out HBz.out)).cell 1 rfl; have m2 : wy.cell? ⟨w.heap.size, 2, none⟩ = some (.slice o2 x.tl.length c2) := (HM1.out.below (over HB2.out HBz.out)).cell 2 rfl; have m3 : wy.cell? ⟨w.heap.size, 3, none⟩ = some (.slice o3 x.ol.length c3) := (HM1.out.below (over HB2.out HBz.out)).cell 3 rfl; have m4 : wy.cell? ⟨w.heap.size, 4, none⟩ = some (.slice o4 x.ap.length c4) := (HM1.out.below (over HB2.out HBz.out)).cell 4 rfl; have m5 : wy.cell? ⟨w.heap.size, 5, none⟩ = some (.slice o5 x.be.length c5) := (HM1.out.below (over HB2.out HBz.out)).cell 5 rfl)
          | (go_at_call 53; have hba : Below W2.heap.size W2 (W2.alloc (.cells #[.slice none 0 0, .slice none 0 0, .slice none 0 0, .slice none 0 0, .slice none 0 0, .slice none 0 0] 30)).drew := below_drew (below_alloc W2 (.cells #[.slice none 0 0, .slice none 0 0, .slice none 0 0, .slice none 0 0, .slice none 0 0, .slice none 0 0] 30)); have HBq := Lib.hid hba; have MQ0 : Cb (W2.alloc (.cells #[.slice none 0 0, .slice none 0 0, .slice none 0 0, .slice none 0 0, .slice none 0 0, .slice none 0 0] 30)).drew W2.heap.size #[.slice none 0 0, .slice none 0 0, .slice none 0 0, .slice none 0 0, .slice none 0 0, .slice none 0 0] 30 := Cb.made W2 #[.slice none 0 0, .slice none 0 0, .slice none 0 0, .slice none 0 0, .slice none 0 0, .slice none 0 0] 30; have hsA : (W2.alloc (.cells #[.slice none 0 0, .slice none 0 0, .slice none 0 0, .slice none 0 0, .slice none 0 0, .slice none 0 0] 30)).drew.heap.size = W2.heap.size + 1 := World.size_alloc ..; have hQ0 := Nat.le_refl W2.heap.size; (with_reducible refine (K1.out _ (HI.out.h0.below (over HB2.out HBq.out)) (HI.out.h1.below (over HB2.out HBq.out))).mono ?_); rintro e wy ⟨p0, p1, d0, d8, rfl, hp, hf, ha, hb⟩; have hsz := hb.size; have RF1 := Lib.hid (rf_net hp hf ha); have hx := over hba hb; have MQ := Lib.hid (MQ0.below hb); clear MQ0 hba; have CH1 := Lib.hid (Below.refl wy.heap.size wy); have HBz : Hid (Below W2.heap.size W2 wy) := hx; have hzz := HBz.out.size; have m0 : wy.cell? ⟨w.heap.size, 0, none⟩ = some (.slice o0 x.pl.length c0) := (HM1.out.below (over HB2.out HBz.out)).cell 0 rfl; have m1 : wy.cell? ⟨w.heap.size, 1, none⟩ = some (.slice o1 x.al.length c1) := (HM1.out.below (over HB2.out HBz.out)).cell 1 rfl; have m2 : wy.cell? ⟨w.heap.size, 2, none⟩ = some (.slice o2 x.tl.length c2) := (HM1.out.below (over HB2.out HBz.out)).cell 2 rfl; have m3 : wy.cell? ⟨w.heap.size, 3, none⟩ = some (.slice o3 x.ol.length c3) := (HM1.out.below (over HB2.out HBz.out)).cell 3 rfl; have m4 : wy.cell? ⟨w.heap.size, 4, none⟩ = some (.slice o4 x.ap.length c4) := (HM1.out.below (over HB2.out HBz.out)).cell 4 rfl; have m5 : wy.cell? ⟨w.heap.size, 5, none⟩ = some (.slice o5 x.be.length c5) := (HM1.out.below (over HB2.out HBz.out)).cell 5 rfl)
          | (go_at_call 54; (with_reducible refine (K2.out _ (HI.out.h2.below (over HB2.out HBz.out))).mono ?_); rintro e wy ⟨p2, d2, rfl, hp, hb⟩; have hsz := hb.size; have RF2 := Lib.hid (rf_ty hp); have hx := hb; (try (have MQ := Lib.hid (MQ.out.below hb))); have CH1 := Lib.hid (over CH1.out hx); have CH2 := Lib.hid (Below.refl wy.heap.size wy); have HBz := Lib.hid (over HBz.out hx); have hzz := HBz.out.size; have m0 : wy.cell? ⟨w.heap.size, 0, none⟩ = some (.slice o0 x.pl.length c0) := (HM1.out.below (over HB2.out HBz.out)).cell 0 rfl; have m1 : wy.cell? ⟨w.heap.size, 1, none⟩ = some (.slice o1 x.al.length c1) := (HM1.out.below (over HB2.out HBz.out)).cell 1 rfl; have m2 : wy.cell? ⟨w.heap.size, 2, none⟩ = some (.slice o2 x.tl.length c2) := (HM1.out.below (over HB2.out HBz.out)).cell 2 rfl; have m3 : wy.cell? ⟨w.heap.size, 3, none⟩ = some (.slice o3 x.ol.length c3) := (HM1.out.below (over HB2.out HBz.out)).cell 3 rfl; have m4 : wy.cell? ⟨w.heap.size, 4, none⟩ = some (.slice o4 x.ap.length c4) := (HM1.out.below (over HB2.out HBz.out)).cell 4 rfl; have m5 : wy.cell? ⟨w.heap.size, 5, none⟩ = some (.slice o5 x.be.length c5) := (HM1.out.below (over HB2.out HBz.out)).cell 5 rfl)
          | (go_at_call 54; have hba := below_alloc wy (.cells #[.slice none 0 0, .slice none 0 0, .slice none 0 0, .slice none 0 0, .slice none 0 0, .slice none 0 0] 30); have HBq := Lib.hid (over HBz.out hba); have MQ0 := Cb.made wy #[.slice none 0 0, .slice none 0 0, .slice none 0 0, .slice none 0 0, .slice none 0 0, .slice none 0 0] 30; have hsA : (wy.alloc (.cells #[.slice none 0 0, .slice none 0 0, .slice none 0 0, .slice none 0 0, .slice none 0 0, .slice none 0 0] 30)).heap.size = wy.heap.size + 1 := World.size_alloc ..; have hQ0 := HBz.out.size; (with_reducible refine (K2.out _ (HI.out.h2.below (over HB2.out HBq.out))).mono ?_); rintro e wy ⟨p2, d2, rfl, hp, hb⟩; have hsz := hb.size; have RF2 := Lib.hid (rf_ty hp); have hx := over hba hb; have MQ := Lib.hid (MQ0.below hb); clear MQ0 hba; have CH1 := Lib.hid (over CH1.out hx); have CH2 := Lib.hid (Below.refl wy.heap.size wy); have HBz := Lib.hid (over HBz.out hx); have hzz := HBz.out.size; have m0 : wy.cell? ⟨w.heap.size, 0, none⟩ = some (.slice o0 x.pl.length c0) := (HM1.out.below (over HB2.out HBz.out)).cell 0 rfl; have m1 : wy.cell? ⟨w.heap.size, 1, none⟩ = some (.slice o1 x.al.length c1) := (HM1.out.below (over HB2.out HBz.out)).cell 1 rfl; have m2 : wy.cell? ⟨w.heap.size, 2, none⟩ = some (.slice o2 x.tl.length c2) := (HM1.out.below (over HB2.out HBz.out)).cell 2 rfl; have m3 : wy.cell? ⟨w.heap.size, 3, none⟩ = some (.slice o3 x.ol.length c3) := (HM1.out.below (over HB2.out HBz.out)).cell 3 rfl; have m4 : wy.cell? ⟨w.heap.size, 4, none⟩ = some (.slice o4 x.ap.length c4) := (HM1.out.below (over HB2.out HBz.out)).cell 4 rfl; have m5 : wy.cell? ⟨w.heap.size, 5, none⟩ = some (.slice o5 x.be.length c5) := (HM1.out.below (over HB2.out HBz.out)).cell 5 rfl)
          | (go_at_call 56; (with_reducible refine (K4.out _ (psI_below HI.out.h4 (over HB2.out HBz.out))).mono ?_); rintro e wy ⟨p4, d4, rfl, hp, hf, hb⟩; have hsz := hb.size; have RF4 := Lib.hid (rf_prs hp hf); have hx := hb; (try (have MQ := Lib.hid (MQ.out.below hb))); have CH1 := Lib.hid (over CH1.out hx); have CH2 := Lib.hid (over CH2.out hx); have CH4 := Lib.hid (Below.refl wy.heap.size wy); have HBz := Lib.hid (over HBz.out hx); have hzz := HBz.out.size; have m0 : wy.cell? ⟨w.heap.size, 0, none⟩ = some (.slice o0 x.pl.length c0) := (HM1.out.below (over HB2.out HBz.out)).cell 0 rfl; have m1 : wy.cell? ⟨w.heap.size, 1, none⟩ = some (.slice o1 x.al.length c1) := (HM1.out.below (over HB2.out HBz.out)).cell 1 rfl; have m2 : wy.cell? ⟨w.heap.size, 2, none⟩ = some (.slice o2 x.tl.length c2) := (HM1.out.below (over HB2.out HBz.out)).cell 2 rfl; have m3 : wy.cell? ⟨w.heap.size, 3, none⟩ = some (.slice o3 x.ol.length c3) := (HM1.out.below (over HB2.out HBz.out)).cell 3 rfl; have m4 : wy.cell? ⟨w.heap.size, 4, none⟩ = some (.slice o4 x.ap.length c4) := (HM1.out.below (over HB2.out HBz.out)).cell 4 rfl; have m5 : wy.cell? ⟨w.heap.size, 5, none⟩ = some (.slice o5 x.be.length c5) := (HM1.out.below (over HB2.out HBz.out)).cell 5 rfl)
          | (go_at_call 56; have hba := below_alloc wy (.cells #[.slice none 0 0, .slice none 0 0, .slice none 0 0, .slice none 0 0, .slice none 0 0, .slice none 0 0] 30); have HBq := Lib.hid (over HBz.out hba); have MQ0 := Cb.made wy #[.slice none 0 0, .slice none 0 0, .slice none 0 0, .slice none 0 0, .slice none 0 0, .slice none 0 0] 30; have hsA : (wy.alloc (.cells #[.slice none 0 0, .slice none 0 0, .slice none 0 0, .slice none 0 0, .slice none 0 0, .slice none 0 0] 30)).heap.size = wy.heap.size + 1 := World.size_alloc ..; have hQ0 := HBz.out.size; (with_reducible refine (K4.out _ (psI_below HI.out.h4 (over HB2.out HBq.out))).mono ?_); rintro e wy ⟨p4, d4, rfl, hp, hf, hb⟩; have hsz := hb.size; have RF4 := Lib.hid (rf_prs hp hf); have hx := over hba hb; have MQ := Lib.hid (MQ0.below hb); clear MQ0 hba; have CH1 := Lib.hid (over CH1.out hx); have CH2 := Lib.hid (over CH2.out hx); have CH4 := Lib.hid (Below.refl wy.heap.size wy); have HBz := Lib.hid (over HBz.out hx); have hzz := HBz.out.size; have m0 : wy.cell? ⟨w.heap.size, 0, none⟩ = some (.slice o0 x.pl.length c0) := (HM1.out.below (over HB2.out HBz.out)).cell 0 rfl; have m1 : wy.cell? ⟨w.heap.size, 1, none⟩ = some (.slice o1 x.al.length c1) := (HM1.out.below (over HB2.out HBz.out)).cell 1 rfl; have m2 : wy.cell? ⟨w.heap.size, 2, none⟩ = some (.slice o2 x.tl.length c2) := (HM1.out.below (over HB2.out HBz.out)).cell 2 rfl; have m3 : wy.cell? ⟨w.heap.size, 3, none⟩ = some (.slice o3 x.ol.length c3) := (HM1.out.below (over HB2.out HBz.out)).cell 3 rfl; have m4 : wy.cell? ⟨w.heap.size, 4, none⟩ = some (.slice o4 x.ap.length c4) := (HM1.out.below (over HB2.out HBz.out)).cell 4 rfl; have m5 : wy.cell? ⟨w.heap.size, 5, none⟩ = some (.slice o5 x.be.length c5) := (HM1.out.below (over HB2.out HBz.out)).cell 5 rfl)
          | (go_at_call 56; (with_reducible refine (K5.out _ (psI_below HI.out.h5 (over HB2.out HBz.out))).mono ?_); rintro e wy ⟨p5, d5, rfl, hp, hf, hb⟩; have hsz := hb.size; have RF5 := Lib.hid (rf_prs hp hf); have hx := hb; (try (have MQ := Lib.hid (MQ.out.below hb))); have CH1 := Lib.hid (over CH1.out hx); have CH2 := Lib.hid (over CH2.out hx); have CH4 := Lib.hid (over CH4.out hx); have CH5 := Lib.hid (Below.refl wy.heap.size wy); have HBz := Lib.hid (over HBz.out hx); have hzz := HBz.out.size; have m0 : wy.cell? ⟨w.heap.size, 0, none⟩ = some (.slice o0 x.pl.length c0) := (HM1.out.below (over HB2.out HBz.out)).cell 0 rfl; have m1 : wy.cell? ⟨w.heap.size, 1, none⟩ = some (.slice o1 x.al.length c1) := (HM1.out.below (over HB2.out HBz.out)).cell 1 rfl; have m2 : wy.cell? ⟨w.heap.size, 2, none⟩ = some (.slice o2 x.tl.length c2) := (HM1.out.below (over HB2.out HBz.out)).cell 2 rfl; have m3 : wy.cell? ⟨w.heap.size, 3, none⟩ = some (.slice o3 x.ol.length c3) := (HM1.out.below (over HB2.out HBz.out)).cell 3 rfl; have m4 : wy.cell? ⟨w.heap.size, 4, none⟩ = some (.slice o4 x.ap.length c4) := (HM1.out.below (over HB2.out HBz.out)).cell 4 rfl; have m5 : wy.cell? ⟨w.heap.size, 5, none⟩ = some (.slice o5 x.be.length c5) := (HM1.out.below (over HB2.out HBz.out)).cell 5 rfl; (try (obtain ⟨W9, hn6, hgs, hS9⟩ := store6 MQ.out (.slice p0 x.pl.length d0) (.slice p1 x.al.length d8) (.slice p2 x.tl.length d2) (.slice none 0 0) (.slice p4 (renP n x.ap).length d4) (.slice p5 (renP n x.be).length d5); have HGs := Lib.hid hgs; have HS := Lib.hid hS9; obtain ⟨n0, n1, n2, n3, n4, n5⟩ := six_of MQ.out; have f0 := MQ.out.f 0; have f1 := MQ.out.f 1; have f2 := MQ.out.f 2; have f3 := MQ.out.f 3; have f4 := MQ.out.f 4; have f5 := MQ.out.f 5; have HBs := Lib.hid (HBz.out.grown hgs HBz.out.size (fun x e => by simp only [Option.some.injEq] at e; omega)); have s0 : W9.cell? ⟨w.heap.size, 0, none⟩ = some (.slice o0 x.pl.length c0) := (HM1.out.below (over HB2.out HBs.out)).cell 0 rfl; have s1 : W9.cell? ⟨w.heap.size, 1, none⟩ = some (.slice o1 x.al.length c1) := (HM1.out.below (over HB2.out HBs.out)).cell 1 rfl; have s2 : W9.cell? ⟨w.heap.size, 2, none⟩ = some (.slice o2 x.tl.length c2) := (HM1.out.below (over HB2.out HBs.out)).cell 2 rfl; have s3 : W9.cell? ⟨w.heap.size, 3, none⟩ = some (.slice o3 x.ol.length c3) := (HM1.out.below (over HB2.out HBs.out)).cell 3 rfl; have s4 : W9.cell? ⟨w.heap.size, 4, none⟩ = some (.slice o4 x.ap.length c4) := (HM1.out.below (over HB2.out HBs.out)).cell 4 rfl; have s5 : W9.cell? ⟨w.heap.size, 5, none⟩ = some (.slice o5 x.be.length c5) := (HM1.out.below (over HB2.out HBs.out)).cell 5 rfl; clear hgs hS9)))
          | (go_at_call 56; have hba := below_alloc wy (.cells #[.slice none 0 0, .slice none 0 0, .slice none 0 0, .slice none 0 0, .slice none 0 0, .slice none 0 0] 30); have HBq := Lib.hid (over HBz.out hba); have MQ0 := Cb.made wy #[.slice none 0 0, .slice none 0 0, .slice none 0 0, .slice none 0 0, .slice none 0 0, .slice none 0 0] 30; have hsA : (wy.alloc (.cells #[.slice none 0 0, .slice none 0 0, .slice none 0 0, .slice none 0 0, .slice none 0 0, .slice none 0 0] 30)).heap.size = wy.heap.size + 1 := World.size_alloc ..; have hQ0 := HBz.out.size; (with_reducible refine (K5.out _ (psI_below HI.out.h5 (over HB2.out HBq.out))).mono ?_); rintro e wy ⟨p5, d5, rfl, hp, hf, hb⟩; have hsz := hb.size; have RF5 := Lib.hid (rf_prs hp hf); have hx := over hba hb; have MQ := Lib.hid (MQ0.below hb); clear MQ0 hba; have CH1 := Lib.hid (over CH1.out hx); have CH2 := Lib.hid (over CH2.out hx); have CH4 := Lib.hid (over CH4.out hx); have CH5 := Lib.hid (Below.refl wy.heap.size wy); have HBz := Lib.hid (over HBz.out hx); have hzz := HBz.out.size; have m0 : wy.cell? ⟨w.heap.size, 0, none⟩ = some (.slice o0 x.pl.length c0) := (HM1.out.below (over HB2.out HBz.out)).cell 0 rfl; have m1 : wy.cell? ⟨w.heap.size, 1, none⟩ = some (.slice o1 x.al.length c1) := (HM1.out.below (over HB2.out HBz.out)).cell 1 rfl; have m2 : wy.cell? ⟨w.heap.size, 2, none⟩ = some (.slice o2 x.tl.length c2) := (HM1.out.below (over HB2.out HBz.out)).cell 2 rfl; have m3 : wy.cell? ⟨w.heap.size, 3, none⟩ = some (.slice o3 x.ol.length c3) := (HM1.out.below (over HB2.out HBz.out)).cell 3 rfl; have m4 : wy.cell? ⟨w.heap.size, 4, none⟩ = some (.slice o4 x.ap.length c4) := (HM1.out.below (over HB2.out HBz.out)).cell 4 rfl; have m5 : wy.cell? ⟨w.heap.size, 5, none⟩ = some (.slice o5 x.be.length c5) := (HM1.out.below (over HB2.out HBz.out)).cell 5 rfl; (try (obtain ⟨W9, hn6, hgs, hS9⟩ := store6 MQ.out (.slice p0 x.pl.length d0) (.slice p1 x.al.length d8) (.slice p2 x.tl.length d2) (.slice none 0 0) (.slice p4 (renP n x.ap).length d4) (.slice p5 (renP n x.be).length d5); have HGs := Lib.hid hgs; have HS := Lib.hid hS9; obtain ⟨n0, n1, n2, n3, n4, n5⟩ := six_of MQ.out; have f0 := MQ.out.f 0; have f1 := MQ.out.f 1; have f2 := MQ.out.f 2; have f3 := MQ.out.f 3; have f4 := MQ.out.f 4; have f5 := MQ.out.f 5; have HBs := Lib.hid (HBz.out.grown hgs HBz.out.size (fun x e => by simp only [Option.some.injEq] at e; omega)); have s0 : W9.cell? ⟨w.heap.size, 0, none⟩ = some (.slice o0 x.pl.length c0) := (HM1.out.below (over HB2.out HBs.out)).cell 0 rfl; have s1 : W9.cell? ⟨w.heap.size, 1, none⟩ = some (.slice o1 x.al.length c1) := (HM1.out.below (over HB2.out HBs.out)).cell 1 rfl; have s2 : W9.cell? ⟨w.heap.size, 2, none⟩ = some (.slice o2 x.tl.length c2) := (HM1.out.below (over HB2.out HBs.out)).cell 2 rfl; have s3 : W9.cell? ⟨w.heap.size, 3, none⟩ = some (.slice o3 x.ol.length c3) := (HM1.out.below (over HB2.out HBs.out)).cell 3 rfl; have s4 : W9.cell? ⟨w.heap.size, 4, none⟩ = some (.slice o4 x.ap.length c4) := (HM1.out.below (over HB2.out HBs.out)).cell 4 rfl; have s5 : W9.cell? ⟨w.heap.size, 5, none⟩ = some (.slice o5 x.be.length c5) := (HM1.out.below (over HB2.out HBs.out)).cell 5 rfl; clear hgs hS9))))
      all_goals
        clear K1 K2 K4 K5 KO
        go_wp2_with fail
        go_meet
        first
          | exact ⟨_, p0, p1, p2, p4, p5, d0, d8, d2, d4, d5, rfl, HS, (fun w9 hg9 _ _ hgW hg10 => ⟨RF1.out _ w9 (by first | exact .inl (by omega) | exact .inr (by omega)) (((grown_of_below (some _) CH1.out).trans HGs.out).trans hg9) _ _ (Nat.lt_of_lt_of_le hgW (by omega)) hg10, RF2.out _ w9 (by first | exact .inl (by omega) | exact .inr (by omega)) (((grown_of_below (some _) CH2.out).trans HGs.out).trans hg9) _ _ (Nat.lt_of_lt_of_le hgW (by omega)) hg10, RF4.out _ w9 (by first | exact .inl (by omega) | exact .inr (by omega)) (((grown_of_below (some _) CH4.out).trans HGs.out).trans hg9) _ _ (Nat.lt_of_lt_of_le hgW (by omega)) hg10, RF5.out _ w9 (by first | exact .inl (by omega) | exact .inr (by omega)) (((grown_of_below (some _) CH5.out).trans HGs.out).trans hg9) _ _ (Nat.lt_of_lt_of_le hgW (by omega)) hg10⟩), HBs, by omega⟩
          | exact ⟨_, p0, p1, p2, p4, p5, d0, d8, d2, d4, d5, rfl, Cb.made wy _ _, (fun w9 hg9 _ _ hgW hg10 => ⟨RF1.out _ w9 (by first | exact .inl (by omega) | exact .inr (by omega)) (((grown_of_below (some _) CH1.out).trans (World.grownBy_alloc wy _ (some _))).trans hg9) _ _ (Nat.lt_of_lt_of_le hgW (by omega)) hg10, RF2.out _ w9 (by first | exact .inl (by omega) | exact .inr (by omega)) (((grown_of_below (some _) CH2.out).trans (World.grownBy_alloc wy _ (some _))).trans hg9) _ _ (Nat.lt_of_lt_of_le hgW (by omega)) hg10, RF4.out _ w9 (by first | exact .inl (by omega) | exact .inr (by omega)) (((grown_of_below (some _) CH4.out).trans (World.grownBy_alloc wy _ (some _))).trans hg9) _ _ (Nat.lt_of_lt_of_le hgW (by omega)) hg10, RF5.out _ w9 (by first | exact .inl (by omega) | exact .inr (by omega)) (((grown_of_below (some _) CH5.out).trans (World.grownBy_alloc wy _ (some _))).trans hg9) _ _ (Nat.lt_of_lt_of_le hgW (by omega)) hg10⟩), over HBz.out (below_alloc wy _), by omega⟩
    obtain ⟨q, p0, p1, p2, p4, p5, d0, d8, d2, d4, d5, rfl, HQ, HRF, HBc, hq2⟩ := hcut
    have hqc := HQ.out.lt
    have hcs := HBc.out.size
    have HF0 : Hid (FoO wc.heap.size wc (.slice none 0 0) (Uo x l 0)) := FoO.nil _ _
    go_wp2_with fail
    go_loopg [10, 50] (c + 1) (fun gg v10 j wr => ∃ (i : Nat) (so : Option Addr) (sc : Nat), i ≤ c + 1 ∧ j = .int .i64 i ∧ c + 1 - i ≤ gg ∧ Hid (Cb wr q #[.slice p0 x.pl.length d0, .slice p1 x.al.length d8, .slice p2 x.tl.length d2, .slice so i sc, .slice p4 (renP n x.ap).length d4, .slice p5 (renP n x.be).length d5] 30) ∧ Hid (FoO wc.heap.size wr (.slice so i sc) (Uo x l i)) ∧ Hid (wc.grownBy wr (some q)) ∧ Hid (Below W2.heap.size W2 wr))
    case atStart => exact ⟨0, none, 0, Nat.zero_le _, rfl, Nat.le_refl _, HQ, HF0, World.grownBy.refl _ _, HBc⟩
    case round =>
      clear HQ HF0 HBc
      obtain ⟨i, so, sc, hi, rfl, hgi, HQ, HF, HGc, HBc⟩ := hrel
      by_cases hlt : i < c + 1
      · have hiI : (i : Int) < ((c : Int) + 1 : Int) := by omega
        obtain ⟨g9, hg9, hg9l, hnum⟩ := nos_at (by have h9 := RN.out.below HBc.out; rw [← HL.out] at h9; exact h9) (i := i) (by rw [HL.out]; exact hlt)
        simp only [Option.some.injEq, Addr.mk.injEq, and_true] at hg9; subst hg9
        have hy9 : l.getD i 0 < x.ol.length := HAll.out _ (S.mem_at (by rw [HL.out]; exact hlt))
        have m3 : wr.cell? ⟨w.heap.size, 3, none⟩ = some (.slice o3 x.ol.length c3) := (HM1.out.below (over HB2.out HBc.out)).cell 3 rfl
        obtain ⟨oa', c', hoa, hos⟩ := (HI.out.h3.below HB2.out).below HBc.out
        simp only [Value.slice.injEq] at hoa
        obtain ⟨rfl, -, rfl⟩ := hoa
        obtain ⟨b1, q1, vc, rfl, hb1, hac, hvc⟩ := hos _ hy9
        have KOy := Lib.hid (fun o0 c0 w h0 => KO.out _ hy9 o0 c0 w h0)
        have HUs := Lib.hid (uo_step (x := x) (l := l) (i := i) (by rw [HL.out]; exact hlt))
        have HUl := Lib.hid (uo_len (x := x) (l := l) (i := i) (by rw [HL.out]; omega))
        obtain ⟨o8, c8, rfl, -⟩ := id hvc
        obtain ⟨x0, x1, x2, x3, x4, x5, x6, x7, x8, x9, x10, x11, x12, x13, x14, x15⟩ := hac
        have k3 : wr.cell? ⟨q, 3, none⟩ = some (.slice so i sc) := HQ.out.cell 3 rfl
        have HVc := Lib.hid hvc
        have hyI : ((l.getD i 0 : Nat) : Int) < (x.ol.length : Int) := by omega
        have hy0 : (0 : Int) ≤ ((l.getD i 0 : Nat) : Int) := by omega
        have hnq : ∀ g, (Value.slice so i sc).ownBlock = some g → wc.heap.size ≤ g := fun g e => (HF.out.blk g e).1
        have hil : (Uo x l i).length ≤ 1000000 := by rw [HUl.out]; omega
        have hqs := hqc
        clear hos hvc hy9
        generalize l.getD i 0 = y at *
        generalize x.ol.getD y or0 = a at *
        unfold copyOfOrderP orV at KOy
        go_upto_region 8 with fail
        have HQd : Hid (Cb wr.drew q #[.slice p0 x.pl.length d0, .slice p1 x.al.length d8, .slice p2 x.tl.length d2, .slice so i sc, .slice p4 (renP n x.ap).length d4, .slice p5 (renP n x.be).length d5] 30) := HQ.out
        have HFd : Hid (FoO wc.heap.size wr.drew (.slice so i sc) (Uo x l i)) := HF.out
        have HGd : Hid (wc.grownBy wr.drew (some q)) := ⟨HGc.out.os, HGc.out.tape, HGc.out.output, HGc.out.size, HGc.out.block⟩
        have HBd : Hid (Below W2.heap.size W2 wr.drew) := below_drew HBc.out
        have HVd : Hid (L.Li wr.drew (.slice o8 a.load.length c8) a.load) := HVc.out
        have hsz9 := HGd.out.size
        have k3d : wr.drew.cell? ⟨q, 3, none⟩ = some (.slice so i sc) := k3
        have m3d : wr.drew.cell? ⟨w.heap.size, 3, none⟩ = some (.slice (some ⟨b1, q1, none⟩) x.ol.length c3) := m3
        have x0d : wr.drew.cell? ⟨b1, q1 + y * 16, none⟩ = some (.string a.name) := x0
        have x1d : wr.drew.cell? ⟨b1, q1 + y * 16 + 1, none⟩ = some (.slice o8 a.load.length c8) := x1
        have x2d : wr.drew.cell? ⟨b1, q1 + y * 16 + 2, none⟩ = some (.int .i64 a.pp) := x2
        have x3d : wr.drew.cell? ⟨b1, q1 + y * 16 + 3, none⟩ = some (.int .i64 a.po) := x3
        have x4d : wr.drew.cell? ⟨b1, q1 + y * 16 + 4, none⟩ = some (.int .i64 a.pc) := x4
        have x5d : wr.drew.cell? ⟨b1, q1 + y * 16 + 5, none⟩ = some (.int .i64 a.ps) := x5
        have x6d : wr.drew.cell? ⟨b1, q1 + y * 16 + 6, none⟩ = some (.int .i64 a.dp) := x6
        have x7d : wr.drew.cell? ⟨b1, q1 + y * 16 + 7, none⟩ = some (.int .i64 a.dd) := x7
        have x8d : wr.drew.cell? ⟨b1, q1 + y * 16 + 8, none⟩ = some (.int .i64 a.dc) := x8
        have x9d : wr.drew.cell? ⟨b1, q1 + y * 16 + 9, none⟩ = some (.int .i64 a.ds) := x9
        have x10d : wr.drew.cell? ⟨b1, q1 + y * 16 + 10, none⟩ = some (.int .i64 a.sk) := x10
        have x11d : wr.drew.cell? ⟨b1, q1 + y * 16 + 11, none⟩ = some (.int .i64 a.pen) := x11
        have x12d : wr.drew.cell? ⟨b1, q1 + y * 16 + 12, none⟩ = some (.int .i64 a.spl) := x12
        have x13d : wr.drew.cell? ⟨b1, q1 + y * 16 + 13, none⟩ = some (.int .i64 a.las) := x13
        have x14d : wr.drew.cell? ⟨b1, q1 + y * 16 + 14, none⟩ = some (.int .i64 a.now) := x14
        have x15d : wr.drew.cell? ⟨b1, q1 + y * 16 + 15, none⟩ = some (.bool a.off) := x15
        clear HQ HF HGc HBc HVc k3 m3 x0 x1 x2 x3 x4 x5 x6 x7 x8 x9 x10 x11 x12 x13 x14 x15
        have hl7 : (Uo x l i ++ [a]).length = i + 1 := by rw [List.length_append, HUl.out]; rfl
        go_region_law (first
          | (refine step_append_run (by rfl) _ _ 27 (by rfl) (by rfl) (by rfl) (ap_o _ a pp dd HFz.out HPz.out HRz.out hnz hBz hil) ?_; rintro v3 w3 ⟨hf3, hb3, hk3⟩; have HQ3 := Lib.hid (hk3 q _ _ HQz.out hqz); have k3z : w3.cell? ⟨q, 3, none⟩ = some (.slice so i sc) := HQ3.out.cell 3 rfl; have f3z := HQ3.out.f 3; obtain ⟨o7, c7, hv7⟩ := hf3.form; rw [hl7] at hv7; subst hv7)
          | (go_simp; go_at_call 51; (with_reducible refine (KOy.out _ _ _ HVd.out).mono ?_); rintro e wz ⟨pp, dd, rfl, hpz, hfz, hbz⟩; have HQz := Lib.hid (HQd.out.below hbz); have HFz := Lib.hid (HFd.out.below hbz); have HPz := Lib.hid hpz; have hBz : wc.heap.size ≤ wz.heap.size := Nat.le_trans hsz9 hbz.size; have HRz : Hid (Fr wc.heap.size (.slice pp a.load.length dd)) := hfz.mono hsz9; have hnz : ∀ g, (Value.slice so i sc).ownBlock = some g → a.load ≠ [] → (Value.slice pp a.load.length dd).ownBlock ≠ some g := (fun g e _ e2 => by have h1 := (HFd.out.blk g e).2; have h2 := hfz g e2; omega); have hqz : (Value.slice so i sc).ownBlock ≠ some q := (fun e => by have := hnq q e; omega); have k3d : wz.cell? ⟨q, 3, none⟩ = some (.slice so i sc) := HQz.out.cell 3 rfl; have k3e := ((below_alloc wz (.cells #[.string a.name, .slice pp a.load.length dd, .int .i64 a.pp, .int .i64 a.po, .int .i64 a.pc, .int .i64 a.ps, .int .i64 a.dp, .int .i64 a.dd, .int .i64 a.dc, .int .i64 a.ds, .int .i64 a.sk, .int .i64 a.pen, .int .i64 a.spl, .int .i64 a.las, .int .i64 a.now, .bool a.off] 44)).cell (p := ⟨q, 3, none⟩) HQz.out.lt).trans k3d))
        all_goals
          have hgr := grown_cell w3 q 3 (.slice o7 (i + 1) c7)
          have HF4 : Hid (FoO wc.heap.size (w3.setCell ⟨q, 3, none⟩ (.slice o7 (i + 1) c7)) (.slice o7 (i + 1) c7) (Uo x l (i + 1))) := by
            show FoO _ _ _ _
            rw [HUs.out]
            exact hf3.kept hgr hqs
          have HQ4 : Hid (Cb (w3.setCell ⟨q, 3, none⟩ (.slice o7 (i + 1) c7)) q #[.slice p0 x.pl.length d0, .slice p1 x.al.length d8, .slice p2 x.tl.length d2, .slice o7 (i + 1) c7, .slice p4 (renP n x.ap).length d4, .slice p5 (renP n x.be).length d5] 30) := HQ3.out.set 3 _
          have HG4 := Lib.hid ((grown_then (HGd.out.trans (grown_of_below _ hbz)) hb3).trans hgr)
          have HB4 := Lib.hid (((HBd.out.trans (hbz.mono HBd.out.size)).trans (hb3.mono hcs)).grown hgr (Nat.le_trans HBd.out.size (Nat.le_trans hbz.size hb3.size)) (fun x e => by simp only [Option.some.injEq] at e; omega))
          clear hf3 hb3 hk3 hgr hbz HFz HPz HRz HQz hnz hqz
          go_wp2_with fail
          go_roundg ((c + 1) - (i + 1))
          case measure => omega
          case rel => exact ⟨i + 1, o7, c7, by omega, by go_num, by omega, HQ4, HF4, HG4, HB4⟩
      · have hkk : i = c + 1 := by omega
        have hiI : ¬ (i : Int) < ((c : Int) + 1 : Int) := by omega
        obtain ⟨k0, k1, k2, k3, k4, k5⟩ := six_of HQ.out
        obtain ⟨W9, hn6, hgs, hS9⟩ := store6 ((HM2.out.below HB2.out).below HBc.out) (.slice p0 x.pl.length d0) (.slice p1 x.al.length d8) (.slice p2 x.tl.length d2) (.slice so i sc) (.slice p4 (renP n x.ap).length d4) (.slice p5 (renP n x.be).length d5)
        obtain ⟨n0, n1, n2, n3, n4, n5⟩ := six_of ((HM2.out.below HB2.out).below HBc.out)
        have f0 := ((HM2.out.below HB2.out).below HBc.out).f 0
        have f1 := ((HM2.out.below HB2.out).below HBc.out).f 1
        have f2 := ((HM2.out.below HB2.out).below HBc.out).f 2
        have f3 := ((HM2.out.below HB2.out).below HBc.out).f 3
        have f4 := ((HM2.out.below HB2.out).below HBc.out).f 4
        have f5 := ((HM2.out.below HB2.out).below HBc.out).f 5
        have hs2 := HB2.out.size
        obtain ⟨⟨R0, R1⟩, R2, R4, R5⟩ := HRF.out wr HGc.out (w.heap.size + 1) W9 (by omega) hgs
        have RFo := HF.out.kept hgs (by omega)
        have hUl : Uo x l i = l.map fun j => x.ol.getD j or0 := by unfold Uo; rw [hkk, ← HL.out, List.take_length]
        rw [hUl] at RFo
        have RNo : S.Owb W0.heap.size W9 (.slice (some ⟨g1, 0, none⟩) (c + 1) d1) l := World.ownsRow.kept (own_below RO.out HBc.out) hgs (.inr (fun e => by have := (World.ownsRow.lt (own_below RO.out HBc.out) _ e).1; omega))
        have HB9 := Lib.hid ((HB.out.trans ((over HB2.out HBc.out).mono (by omega))).grown hgs (by have := (over HB2.out HBc.out).size; omega) (fun x e => by simp only [Option.some.injEq] at e; omega))
        have hy := HEo.out
        subst hy
        have HIn : Hid (Ins W9 ⟨p0, d0, p1, d8, p2, d2, so, sc, p4, d4, p5, d5⟩ ⟨x.pl, x.al, x.tl, l.map fun j => x.ol.getD j or0, renP n x.ap, renP n x.be⟩) := ⟨R0, R1, R2, (by show Os _ (.slice so (l.map _).length sc) _; rw [List.length_map, HL.out, ← hkk]; exact RFo.sl), R4, R5⟩
        have HNo : Hid (Nos W9 (.slice (some ⟨g1, 0, none⟩) l.length d1) l) := by show Nos _ _ _; rw [HL.out]; exact ⟨_, RNo⟩
        have HSx := Lib.hid hS9
        have HLm : Hid ((l.map fun j => x.ol.getD j or0).length = i) := by show _ = _; rw [List.length_map, HL.out, hkk]
        have HLi : Hid (l.length = i) := by show _ = _; rw [HL.out, hkk]
        clear R0 R1 R2 R4 R5 RFo RNo hUl hgs hS9 HRF HF HQ HGc HBc RO RN hkk
        go_wp2_with fail
        have gz0 : W9.cell? ⟨w.heap.size + 1, 0, none⟩ = some (.slice p0 x.pl.length d0) := HSx.out.cell 0 rfl
        have gz1 : W9.cell? ⟨w.heap.size + 1, 1, none⟩ = some (.slice p1 x.al.length d8) := HSx.out.cell 1 rfl
        have gz2 : W9.cell? ⟨w.heap.size + 1, 2, none⟩ = some (.slice p2 x.tl.length d2) := HSx.out.cell 2 rfl
        have gz3 : W9.cell? ⟨w.heap.size + 1, 3, none⟩ = some (.slice so i sc) := HSx.out.cell 3 rfl
        have gz4 : W9.cell? ⟨w.heap.size + 1, 4, none⟩ = some (.slice p4 (renP n x.ap).length d4) := HSx.out.cell 4 rfl
        have gz5 : W9.cell? ⟨w.heap.size + 1, 5, none⟩ = some (.slice p5 (renP n x.be).length d5) := HSx.out.cell 5 rfl
        refine bodyPost_ret (v := .tuple #[.agg #[.slice p0 x.pl.length d0, .slice p1 x.al.length d8, .slice p2 x.tl.length d2, .slice so i sc, .slice p4 (renP n x.ap).length d4, .slice p5 (renP n x.be).length d5], .slice (some ⟨g1, 0, none⟩) (c + 1) d1, .int .i64 0]) (by simp [results, Tryz.results20, go_sem, gz0, gz1, gz2, gz3, gz4, gz5]) rfl ⟨⟨p0, d0, p1, d8, p2, d2, so, sc, p4, d4, p5, d5⟩, (some ⟨g1, 0, none⟩), d1, (by show Ending.returned (.tuple #[.agg #[.slice p0 x.pl.length d0, .slice p1 x.al.length d8, .slice p2 x.tl.length d2, .slice so i sc, .slice p4 (renP n x.ap).length d4, .slice p5 (renP n x.be).length d5], .slice (some ⟨g1, 0, none⟩) (c + 1) d1, .int .i64 0]) = Ending.returned (.tuple #[.agg #[.slice p0 x.pl.length d0, .slice p1 x.al.length d8, .slice p2 x.tl.length d2, .slice so l.length sc, .slice p4 (renP n x.ap).length d4, .slice p5 (renP n x.be).length d5], .slice (some ⟨g1, 0, none⟩) l.length d1, .int .i64 0]); rw [show (Value.slice (some ⟨g1, 0, none⟩) l.length d1) = Value.slice (some ⟨g1, 0, none⟩) (c + 1) d1 by rw [HL.out], show (Value.slice so l.length sc) = Value.slice so i sc by rw [HLi.out]]), HIn.out, HNo.out, HB9.out⟩



theorem only_good (k : Iv) (x : InT) (hx : InC x) (n : Nat) (hn : n < 2 ^ 63) (hall : ∀ i ∈ S.members n, i < x.ol.length) (w : World) (hT : S.Tab w) (h : Ins w k x) :
    Calls Tryz.prog 20 #[k.v x, .int .i64 n] w fun e w' => ∃ (k' : Iv) (oa : Option Addr) (c : Nat), e = .returned (.tuple #[k'.v (onlyI x n), .slice oa (S.members n).length c, .int .i64 0]) ∧ Ins w' k' (onlyI x n) ∧ Nos w' (.slice oa (S.members n).length c) (S.members n) ∧ Below w.heap.size w w' := by
  by_cases hz : (S.members n).length = 0
  · exact only_goodZ k x hx n hn hall hz w hT h
  · exact only_goodS k x hx n hn hall (by omega) w hT h

end Go.Proofs.YtaallpebfcadjaaGreatDoor.T


