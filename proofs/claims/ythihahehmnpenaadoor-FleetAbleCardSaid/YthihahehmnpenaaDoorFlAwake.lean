/-
  DERIVED. The walk of the laws' awake (written by gen_flawake.py).
-/
import Derived.Test.YthihahehmnpenaaDoorFlLaw
import Derived.Deep.RegionHeld3
namespace Go.Proofs.YthihahehmnpenaaDoor.T
open Go.RowKit
set_option maxRecDepth 8000

theorem cell_alt {w : World} (o : Obj) {p : Addr} {v : Value} (h : w.cell? p = some v) : (w.alloc o).cell? p = some v := by
  rw [World.cell?_alloc_some _ _ _ (by rw [h]; rfl)]; exact h
theorem ts_one {w : World} (a : TyT) (vc : Value) (c : Nat) (hc : L.Li w vc a.cap) :
    Ts (w.alloc (.cells #[.string a.name, .int .i64 a.count, .int .i64 a.fr, .int .i64 a.to, vc, .int .i64 a.skills, .int .i64 a.prof, .int .i64 a.opn, .int .i64 a.cls, .int .i64 a.drv, .int .i64 a.rst, .int .i64 a.fix, .int .i64 a.pm, .int .i64 a.pt] 36)) (.slice (some ⟨w.heap.size, 0, none⟩) 1 c) [a] := by
  refine ⟨some ⟨w.heap.size, 0, none⟩, c, rfl, fun i hi => ?_⟩
  have h1 : i < 1 := hi
  match i, h1 with
  | 0, _ =>
    have T := Tb.made w (.string a.name) (.int .i64 a.count) (.int .i64 a.fr) (.int .i64 a.to) vc (.int .i64 a.skills) (.int .i64 a.prof) (.int .i64 a.opn) (.int .i64 a.cls) (.int .i64 a.drv) (.int .i64 a.rst) (.int .i64 a.fix) (.int .i64 a.pm) (.int .i64 a.pt)
    exact ⟨w.heap.size, 0, vc, rfl, T.lt, ⟨T.c0, T.c1, T.c2, T.c3, T.c4, T.c5, T.c6, T.c7, T.c8, T.c9, T.c10, T.c11, T.c12, T.c13⟩, hc.below (below_alloc _ _)⟩
theorem ex_bad : fleetF 1 [{ vanT with fr := 1 }] = [(11, ⟨#[48]⟩)] := by decide +kernel
theorem ex_van : fleetF 1 [vanT] = [] := by decide +kernel
theorem van_few (x : Int) : ∀ i, i < [({ vanT with fr := x } : TyT)].length → (([({ vanT with fr := x } : TyT)].getD i ty0).cap.length ≤ 1000000000 ∧ ([({ vanT with fr := x } : TyT)].getD i ty0).name.size ≤ maxLen) := by
  intro i hi
  have h1 : i < 1 := hi
  match i, h1 with
  | 0, _ => exact ⟨by show 1 ≤ 1000000000; omega, by show 3 ≤ maxLen; unfold maxLen; omega⟩
/-- one fault at a place -/
def OneP (w : World) (e : Ending) (w' : World) : Prop := ∃ b o c, e = .returned (.slice (some ⟨b, o, none⟩) 1 c) ∧ b < w'.heap.size ∧ w'.cell? ⟨b, o, none⟩ = some (.int .i64 11) ∧ w'.cell? ⟨b, o + 1, none⟩ = some (.string ⟨#[48]⟩) ∧ Below w.heap.size w w'
theorem chkBad_n (h g : Nat) (w : World) (hT : Tab w) (hg : L.Li w (.slice (some ⟨g, 0, none⟩) 1 1) [5]) :
    Calls Tryd.prog 10 #[.agg #[.slice (some ⟨h, 0, none⟩) 1 1, .slice none 0 0], .slice (some ⟨w.heap.size, 0, none⟩) 1 1] (w.alloc (.cells #[.string ⟨#[118, 97, 110]⟩, .int .i64 0, .int .i64 1, .int .i64 0, .slice (some ⟨g, 0, none⟩) 1 1, .int .i64 5, .int .i64 0, .int .i64 0, .int .i64 100, .int .i64 50, .int .i64 0, .int .i64 0, .int .i64 0, .int .i64 0] 36)) (OneP (w.alloc (.cells #[.string ⟨#[118, 97, 110]⟩, .int .i64 0, .int .i64 1, .int .i64 0, .slice (some ⟨g, 0, none⟩) 1 1, .int .i64 5, .int .i64 0, .int .i64 0, .int .i64 100, .int .i64 50, .int .i64 0, .int .i64 0, .int .i64 0, .int .i64 0] 36))) := by
  refine (flCheck_n (some ⟨h, 0, none⟩) 1 1 none 0 0 _ [{ vanT with fr := 1 }] (by simp) (by omega) (van_few 1) _ (ts_one { vanT with fr := 1 } (.slice (some ⟨g, 0, none⟩) 1 1) 1 hg) (hT.over (below_alloc _ _))).mono ?_
  intro e w' h
  rw [ex_bad] at h
  obtain ⟨oa, c, he, ⟨hf, -, -⟩, hb⟩ := h
  obtain ⟨oa', c', hv, hF⟩ := hf
  simp only [Value.slice.injEq] at hv
  obtain ⟨rfl, -, rfl⟩ := hv
  obtain ⟨b, o, rfl, hlt, x0, x1⟩ := hF 0 (by simp)
  exact ⟨b, o, c, he, hlt, by simpa [fE] using x0, by simpa [fA] using x1, hb⟩
theorem chkVan_n (h g : Nat) (w : World) (hT : Tab w) (hg : L.Li w (.slice (some ⟨g, 0, none⟩) 1 1) [5]) :
    Calls Tryd.prog 10 #[.agg #[.slice (some ⟨h, 0, none⟩) 1 1, .slice none 0 0], .slice (some ⟨w.heap.size, 0, none⟩) 1 1] (w.alloc (.cells #[.string ⟨#[118, 97, 110]⟩, .int .i64 0, .int .i64 0, .int .i64 0, .slice (some ⟨g, 0, none⟩) 1 1, .int .i64 5, .int .i64 0, .int .i64 0, .int .i64 100, .int .i64 50, .int .i64 0, .int .i64 0, .int .i64 0, .int .i64 0] 36)) (fun e w' => ∃ oa c, e = .returned (.slice oa 0 c) ∧ Below w.heap.size w w') := by
  refine (flCheck_n (some ⟨h, 0, none⟩) 1 1 none 0 0 _ [vanT] (by simp) (by omega) (van_few 0) _ (ts_one vanT (.slice (some ⟨g, 0, none⟩) 1 1) 1 hg) (hT.over (below_alloc _ _))).mono ?_
  intro e w' h
  rw [ex_van] at h
  obtain ⟨oa, c, he, -, hb⟩ := h
  exact ⟨oa, c, he, over (below_alloc _ _) hb⟩
theorem able4_n (g : Nat) (w : World) : Calls Tryd.prog 17 #[.agg #[.string ⟨#[118, 97, 110]⟩, .int .i64 0, .int .i64 0, .int .i64 0, .slice (some ⟨g, 0, none⟩) 1 1, .int .i64 5, .int .i64 0, .int .i64 0, .int .i64 100, .int .i64 50, .int .i64 0, .int .i64 0, .int .i64 0, .int .i64 0], .int .i64 4] w fun e w' => e = .returned (.bool true) ∧ Below w.heap.size w w' := by
  have := able_n ⟨#[118, 97, 110]⟩ 0 0 0 5 0 0 100 50 0 0 0 0 4 (some ⟨g, 0, none⟩) 1 1 (by omega) (by omega) w
  rw [show ableB 5 4 = true by decide] at this
  exact this
theorem able2_n (g : Nat) (w : World) : Calls Tryd.prog 17 #[.agg #[.string ⟨#[118, 97, 110]⟩, .int .i64 0, .int .i64 0, .int .i64 0, .slice (some ⟨g, 0, none⟩) 1 1, .int .i64 5, .int .i64 0, .int .i64 0, .int .i64 100, .int .i64 50, .int .i64 0, .int .i64 0, .int .i64 0, .int .i64 0], .int .i64 2] w fun e w' => e = .returned (.bool false) ∧ Below w.heap.size w w' := by
  have := able_n ⟨#[118, 97, 110]⟩ 0 0 0 5 0 0 100 50 0 0 0 0 2 (some ⟨g, 0, none⟩) 1 1 (by omega) (by omega) w
  rw [show ableB 5 2 = false by decide] at this
  exact this
theorem dimsVan_n (g : Nat) (w : World) (hg : L.Li w (.slice (some ⟨g, 0, none⟩) 1 1) [5]) :
    Calls Tryd.prog 13 #[.slice (some ⟨w.heap.size, 0, none⟩) 1 1] (w.alloc (.cells #[.string ⟨#[118, 97, 110]⟩, .int .i64 0, .int .i64 0, .int .i64 0, .slice (some ⟨g, 0, none⟩) 1 1, .int .i64 5, .int .i64 0, .int .i64 0, .int .i64 100, .int .i64 50, .int .i64 0, .int .i64 0, .int .i64 0, .int .i64 0] 36)) (fun e w' => e = .returned (.int .i64 1) ∧ Below w.heap.size w w') := by
  refine (dims_n _ [vanT] (by simp) _ (ts_one vanT (.slice (some ⟨g, 0, none⟩) 1 1) 1 hg)).mono ?_
  rintro e w' ⟨he, rfl⟩
  exact ⟨he, below_alloc _ _⟩
theorem sameVan_n (g g' : Nat) (w : World) (hg : L.Li w (.slice (some ⟨g, 0, none⟩) 1 1) [5]) (hg' : L.Li w (.slice (some ⟨g', 0, none⟩) 1 1) [5]) :
    Calls Tryd.prog 19 #[.agg #[.string ⟨#[118, 97, 110]⟩, .int .i64 0, .int .i64 0, .int .i64 0, .slice (some ⟨g, 0, none⟩) 1 1, .int .i64 5, .int .i64 0, .int .i64 0, .int .i64 100, .int .i64 50, .int .i64 0, .int .i64 0, .int .i64 0, .int .i64 0], .agg #[.string ⟨#[118, 97, 110]⟩, .int .i64 0, .int .i64 0, .int .i64 0, .slice (some ⟨g', 0, none⟩) 1 1, .int .i64 5, .int .i64 0, .int .i64 0, .int .i64 100, .int .i64 50, .int .i64 0, .int .i64 0, .int .i64 0, .int .i64 0]] w fun e w' => e = .returned (.bool true) ∧ Below w.heap.size w w' := by
  have := same_n vanT vanT (some ⟨g, 0, none⟩) (some ⟨g', 0, none⟩) 1 1 (by decide) (by decide) w hg hg'
  rw [same_refl] at this
  exact this

set_option maxHeartbeats 12800000 in
theorem awake_n (w : World) (hT : Tab w) : Calls Tryd.prog 12 #[] w fun e w' => e = .returned (.bool true) ∧ Below w.heap.size w w' := by
  obtain ⟨W0, hW0⟩ : ∃ W0, (w.alloc (.cells #[.string ⟨#[104, 117, 98]⟩] 9)).alloc (.cells #[.slice (some ⟨w.heap.size, 0, none⟩) 1 1, .slice none 0 0] 25) = W0 := ⟨_, rfl⟩
  have N0 := Nb.made (w.alloc (.cells #[.string ⟨#[104, 117, 98]⟩] 9)) (.slice (some ⟨w.heap.size, 0, none⟩) 1 1) (.slice none 0 0)
  have B0 := over (below_alloc w (.cells #[.string ⟨#[104, 117, 98]⟩] 9)) (below_alloc _ (.cells #[.slice (some ⟨w.heap.size, 0, none⟩) 1 1, .slice none 0 0] 25))
  rw [show (w.alloc (.cells #[.string ⟨#[104, 117, 98]⟩] 9)).heap.size = w.heap.size + 1 by simp] at N0
  rw [hW0] at N0 B0
  have HW0 := Lib.hid hW0
  clear hW0
  have N0 := Lib.hid N0
  have B0 := Lib.hid B0
  have HT := Lib.hid hT
  clear hT
  go_enter Tryd.func12, Tryd.ntmps12
  go_wp2_with fail
  rw [HW0.out]
  clear HW0
  refine (van_n _).mono ?_
  rintro e w1 ⟨g, rfl, hg, b1⟩
  have HG1 := Lib.hid (hg.below (below_alloc w1 (.cells #[.string ⟨#[118, 97, 110]⟩, .int .i64 0, .int .i64 1, .int .i64 0, .slice (some ⟨g, 0, none⟩) 1 1, .int .i64 5, .int .i64 0, .int .i64 0, .int .i64 100, .int .i64 50, .int .i64 0, .int .i64 0, .int .i64 0, .int .i64 0] 36)))
  have B1 := over B0.out b1
  have N1 := N0.out.below b1
  have B2 := Lib.hid (over B1 (below_alloc w1 (.cells #[.string ⟨#[118, 97, 110]⟩, .int .i64 0, .int .i64 1, .int .i64 0, .slice (some ⟨g, 0, none⟩) 1 1, .int .i64 5, .int .i64 0, .int .i64 0, .int .i64 100, .int .i64 50, .int .i64 0, .int .i64 0, .int .i64 0, .int .i64 0] 36)))
  have HT2 := Lib.hid (HT.out.over B2.out)
  have N2 := Lib.hid (N1.below (below_alloc w1 (.cells #[.string ⟨#[118, 97, 110]⟩, .int .i64 0, .int .i64 1, .int .i64 0, .slice (some ⟨g, 0, none⟩) 1 1, .int .i64 5, .int .i64 0, .int .i64 0, .int .i64 100, .int .i64 50, .int .i64 0, .int .i64 0, .int .i64 0, .int .i64 0] 36)))
  clear hg b1
  have g0 := N1.c0
  have g1 := N1.c1
  have hlt1 := N1.lt
  clear N1 B1 B0 N0
  go_wp2_with fail
  have K1 := Lib.hid (chkBad_n w.heap.size g (w1.alloc (.cells #[.string ⟨#[118, 97, 110]⟩, .int .i64 0, .int .i64 1, .int .i64 0, .slice (some ⟨g, 0, none⟩) 1 1, .int .i64 5, .int .i64 0, .int .i64 0, .int .i64 100, .int .i64 50, .int .i64 0, .int .i64 0, .int .i64 0, .int .i64 0] 36)) HT2.out HG1.out)
  have B3 := Lib.hid (over B2.out (below_alloc (w1.alloc (.cells #[.string ⟨#[118, 97, 110]⟩, .int .i64 0, .int .i64 1, .int .i64 0, .slice (some ⟨g, 0, none⟩) 1 1, .int .i64 5, .int .i64 0, .int .i64 0, .int .i64 100, .int .i64 50, .int .i64 0, .int .i64 0, .int .i64 0, .int .i64 0] 36)) (.cells #[.string ⟨#[118, 97, 110]⟩, .int .i64 0, .int .i64 1, .int .i64 0, .slice (some ⟨g, 0, none⟩) 1 1, .int .i64 5, .int .i64 0, .int .i64 0, .int .i64 100, .int .i64 50, .int .i64 0, .int .i64 0, .int .i64 0, .int .i64 0] 36)))
  have N3 := Lib.hid (N2.out.below (below_alloc (w1.alloc (.cells #[.string ⟨#[118, 97, 110]⟩, .int .i64 0, .int .i64 1, .int .i64 0, .slice (some ⟨g, 0, none⟩) 1 1, .int .i64 5, .int .i64 0, .int .i64 0, .int .i64 100, .int .i64 50, .int .i64 0, .int .i64 0, .int .i64 0, .int .i64 0] 36)) (.cells #[.string ⟨#[118, 97, 110]⟩, .int .i64 0, .int .i64 1, .int .i64 0, .slice (some ⟨g, 0, none⟩) 1 1, .int .i64 5, .int .i64 0, .int .i64 0, .int .i64 100, .int .i64 50, .int .i64 0, .int .i64 0, .int .i64 0, .int .i64 0] 36)))
  rw [show (w1.alloc (.cells #[.string ⟨#[118, 97, 110]⟩, .int .i64 0, .int .i64 1, .int .i64 0, .slice (some ⟨g, 0, none⟩) 1 1, .int .i64 5, .int .i64 0, .int .i64 0, .int .i64 100, .int .i64 50, .int .i64 0, .int .i64 0, .int .i64 0, .int .i64 0] 36)).heap.size = w1.heap.size + 1 by simp] at K1
  refine K1.out.mono ?_
  rintro e w4 ⟨fb, fo, fc, rfl, hfb, x0, x1, b4⟩
  have B4 := Lib.hid (over B3.out b4)
  have N4 := Lib.hid (N3.out.below b4)
  clear b4 g0 g1 hlt1 K1 B2 B3 N2 N3 HG1
  have n0 := N4.out.c0
  have n1 := N4.out.c1
  have hnl := N4.out.lt
  have HTd : Hid (Tab w4.drew) := HT.out.over (below_drew B4.out)
  have HBd : Hid (Below w.heap.size w w4.drew) := below_drew B4.out
  have hnl : w.heap.size + 1 < w4.drew.heap.size := hnl
  have hfb : fb < w4.drew.heap.size := hfb
  have n0 : w4.drew.cell? ⟨w.heap.size + 1, 0, none⟩ = some (.slice (some ⟨w.heap.size, 0, none⟩) 1 1) := n0
  have n1 : w4.drew.cell? ⟨w.heap.size + 1, 1, none⟩ = some (.slice none 0 0) := n1
  have x0 : w4.drew.cell? ⟨fb, fo, none⟩ = some (.int .i64 11) := x0
  have x1 : w4.drew.cell? ⟨fb, fo + 1, none⟩ = some (.string ⟨#[48]⟩) := x1
  have HTd0 := HTd
  go_upto_region 5 with fail
  go_region_held3 (fun w' => w'.cell? ⟨w.heap.size + 1, 0, none⟩ = some (.slice (some ⟨w.heap.size, 0, none⟩) 1 1) ∧ w'.cell? ⟨w.heap.size + 1, 1, none⟩ = some (.slice none 0 0) ∧ w'.cell? ⟨fb, fo, none⟩ = some (.int .i64 11) ∧ w'.cell? ⟨fb, fo + 1, none⟩ = some (.string ⟨#[48]⟩))
    (first
      | exact ⟨n0, n1, x0, x1⟩
      | exact ⟨cell_alt _ n0, cell_alt _ n1, cell_alt _ x0, cell_alt _ x1⟩)
    (first
      | (go_at_call 26; (with_reducible refine (van_n _).mono ?_); rintro e wz ⟨gz, rfl, hgz, bz⟩; (try have hga := hgv.below bz); have hgv := hgz; have HBd := Lib.hid (over HBd.out bz); have HTd := Lib.hid (HTd.out.over bz); have n0 := (bz.cell (p := ⟨w.heap.size + 1, 0, none⟩) hnl).trans n0; have n1 := (bz.cell (p := ⟨w.heap.size + 1, 1, none⟩) hnl).trans n1; have x0 := (bz.cell (p := ⟨fb, fo, none⟩) hfb).trans x0; have x1 := (bz.cell (p := ⟨fb, fo + 1, none⟩) hfb).trans x1; have hnl := Nat.lt_of_lt_of_le hnl bz.size; have hfb := Nat.lt_of_lt_of_le hfb bz.size)
      | (go_at_call 10; (with_reducible refine (chkVan_n _ _ _ HTd.out hgv).mono ?_); rintro e wz ⟨oz, cz, rfl, bz⟩; have HBd := Lib.hid (over HBd.out bz); have HTd := Lib.hid (HTd.out.over bz); have n0 := (bz.cell (p := ⟨w.heap.size + 1, 0, none⟩) hnl).trans n0; have n1 := (bz.cell (p := ⟨w.heap.size + 1, 1, none⟩) hnl).trans n1; have x0 := (bz.cell (p := ⟨fb, fo, none⟩) hfb).trans x0; have x1 := (bz.cell (p := ⟨fb, fo + 1, none⟩) hfb).trans x1; have hnl := Nat.lt_of_lt_of_le hnl bz.size; have hfb := Nat.lt_of_lt_of_le hfb bz.size)
      | (go_at_call 17; (first | (with_reducible refine (able4_n _ _).mono ?_) | (with_reducible refine (able2_n _ _).mono ?_)); rintro e wz ⟨rfl, bz⟩; have HBd := Lib.hid (over HBd.out bz); have HTd := Lib.hid (HTd.out.over bz); have n0 := (bz.cell (p := ⟨w.heap.size + 1, 0, none⟩) hnl).trans n0; have n1 := (bz.cell (p := ⟨w.heap.size + 1, 1, none⟩) hnl).trans n1; have x0 := (bz.cell (p := ⟨fb, fo, none⟩) hfb).trans x0; have x1 := (bz.cell (p := ⟨fb, fo + 1, none⟩) hfb).trans x1; have hnl := Nat.lt_of_lt_of_le hnl bz.size; have hfb := Nat.lt_of_lt_of_le hfb bz.size)
      | (go_at_call 13; (with_reducible refine (dimsVan_n _ _ hgv).mono ?_); rintro e wz ⟨rfl, bz⟩; have HBd := Lib.hid (over HBd.out bz); have HTd := Lib.hid (HTd.out.over bz); have n0 := (bz.cell (p := ⟨w.heap.size + 1, 0, none⟩) hnl).trans n0; have n1 := (bz.cell (p := ⟨w.heap.size + 1, 1, none⟩) hnl).trans n1; have x0 := (bz.cell (p := ⟨fb, fo, none⟩) hfb).trans x0; have x1 := (bz.cell (p := ⟨fb, fo + 1, none⟩) hfb).trans x1; have hnl := Nat.lt_of_lt_of_le hnl bz.size; have hfb := Nat.lt_of_lt_of_le hfb bz.size)
      | (go_at_call 19; (with_reducible refine (sameVan_n _ _ _ hga hgv).mono ?_); rintro e wz ⟨rfl, bz⟩; have HBd := Lib.hid (over HBd.out bz); have HTd := Lib.hid (HTd.out.over bz); have n0 := (bz.cell (p := ⟨w.heap.size + 1, 0, none⟩) hnl).trans n0; have n1 := (bz.cell (p := ⟨w.heap.size + 1, 1, none⟩) hnl).trans n1; have x0 := (bz.cell (p := ⟨fb, fo, none⟩) hfb).trans x0; have x1 := (bz.cell (p := ⟨fb, fo + 1, none⟩) hfb).trans x1; have hnl := Nat.lt_of_lt_of_le hnl bz.size; have hfb := Nat.lt_of_lt_of_le hfb bz.size))
  all_goals
    go_wp2_with fail
    go_ret
    exact ⟨rfl, HBd.out⟩

end Go.Proofs.YthihahehmnpenaaDoor.T

