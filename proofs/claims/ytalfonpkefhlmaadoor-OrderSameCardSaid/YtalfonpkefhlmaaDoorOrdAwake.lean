/-
  DERIVED. The walk of the laws' awake (written by gen_ordawake.py).
-/
import Derived.Test.YtalfonpkefhlmaaDoorOrdTop6
import Derived.Test.YtalfonpkefhlmaaDoorOrdTop2
import Derived.Test.YtalfonpkefhlmaaDoorOrdSum
import Derived.Test.YtalfonpkefhlmaaDoorOrdFew
namespace Go.Proofs.YtalfonpkefhlmaaDoor.T
open Go.RowKit
set_option maxRecDepth 8000

/-- the laws' own order -/
def ordA : OrT := ⟨⟨#[97]⟩, [3], -1, 0, 0, 0, 1, 0, 9, 0, 0, -1, 1, -1, -1, false⟩
theorem os_a {w : World} {b g : Nat} (h : Ob w b (.string ⟨#[97]⟩) (.slice (some ⟨g, 0, none⟩) 1 1) (.int .i64 (-1)) (.int .i64 0) (.int .i64 0) (.int .i64 0) (.int .i64 1) (.int .i64 0) (.int .i64 9) (.int .i64 0) (.int .i64 0) (.int .i64 (-1)) (.int .i64 1) (.int .i64 (-1)) (.int .i64 (-1)) (.bool false)) (hg : L.Li w (.slice (some ⟨g, 0, none⟩) 1 1) [3]) : Os w (.slice (some ⟨b, 0, none⟩) 1 1) [ordA] := by
  refine ⟨some ⟨b, 0, none⟩, 1, rfl, fun i hi => ?_⟩
  have h1 : i < 1 := hi
  match i, h1 with
  | 0, _ => exact ⟨b, 0, .slice (some ⟨g, 0, none⟩) 1 1, rfl, h.lt, ⟨h.c0, h.c1, h.c2, h.c3, h.c4, h.c5, h.c6, h.c7, h.c8, h.c9, h.c10, h.c11, h.c12, h.c13, h.c14, h.c15⟩, hg⟩
theorem ld_a : ldL [ordA] 1 1 = [3] ∧ ldE [ordA] 1 1 = 0 := by decide +kernel
theorem vis_a : visL [ordA] 0 = [(0, true)] := by decide +kernel
theorem fit_a : L.FitC L.addF (loadsOf [ordA] (S.members (1 : Int).toNat)) := fit_few (fun i hi x hx => by
  have h1 : i < 1 := hi
  match i, h1 with
  | 0, _ =>
    have h2 : x ∈ [(3 : Int)] := hx
    have h3 := List.mem_singleton.1 h2
    omega) _
theorem loadA_n (b g : Nat) (w : World) (hb : Ob w b (.string ⟨#[97]⟩) (.slice (some ⟨g, 0, none⟩) 1 1) (.int .i64 (-1)) (.int .i64 0) (.int .i64 0) (.int .i64 0) (.int .i64 1) (.int .i64 0) (.int .i64 9) (.int .i64 0) (.int .i64 0) (.int .i64 (-1)) (.int .i64 1) (.int .i64 (-1)) (.int .i64 (-1)) (.bool false)) (hg : L.Li w (.slice (some ⟨g, 0, none⟩) 1 1) [3]) (hT : S.Tab w) :
    Calls Tryd.prog 12 #[(.slice (some ⟨b, 0, none⟩) 1 1), .int .i64 1, .int .i64 1] w fun e w' => ∃ b2 o2 c, e = .returned (.tuple #[.slice (some ⟨b2, o2, none⟩) 1 c, .int .i64 0]) ∧ w'.cell? ⟨b2, o2, none⟩ = some (.int .i64 3) ∧ b2 < w'.heap.size ∧ Below w.heap.size w w' := by
  refine (ordLoad_n (.slice (some ⟨b, 0, none⟩) 1 1) [ordA] 1 1 (by omega) fit_a w (os_a hb hg) hT).mono ?_
  rintro e w' ⟨v, rfl, ho, hbl⟩
  rw [ld_a.1] at ho
  obtain ⟨oa, c, rfl, h⟩ := ho.li
  obtain ⟨ad, rfl, hlt, hc⟩ := h 0 (by simp)
  obtain ⟨b2, o2, sp⟩ := ad
  have hs : sp = none := by simpa [Addr.add] using World.cell?_spot hc
  subst hs
  exact ⟨b2, o2, c, by rw [ld_a.2]; rfl, hc, hlt, hbl⟩
theorem visA_n (b g : Nat) (w : World) (hb : Ob w b (.string ⟨#[97]⟩) (.slice (some ⟨g, 0, none⟩) 1 1) (.int .i64 (-1)) (.int .i64 0) (.int .i64 0) (.int .i64 0) (.int .i64 1) (.int .i64 0) (.int .i64 9) (.int .i64 0) (.int .i64 0) (.int .i64 (-1)) (.int .i64 1) (.int .i64 (-1)) (.int .i64 (-1)) (.bool false)) (hg : L.Li w (.slice (some ⟨g, 0, none⟩) 1 1) [3]) :
    Calls Tryd.prog 8 #[(.slice (some ⟨b, 0, none⟩) 1 1), .int .i64 0] w fun e w' => ∃ b2 o2 c, e = .returned (.slice (some ⟨b2, o2, none⟩) 1 c) ∧ w'.cell? ⟨b2, o2 + 1, none⟩ = some (.bool true) ∧ b2 < w'.heap.size ∧ Below w.heap.size w w' := by
  refine (ordVisits_n (.slice (some ⟨b, 0, none⟩) 1 1) [ordA] 0 w (os_a hb hg)).mono ?_
  rintro e w' ⟨oa, c, rfl, ⟨hs, -, -⟩, hbl⟩
  rw [vis_a] at hs ⊢
  obtain ⟨oa', c', hv, h⟩ := hs
  simp only [Value.slice.injEq] at hv
  obtain ⟨rfl, -, rfl⟩ := hv
  obtain ⟨b2, o2, rfl, hlt, -, h1⟩ := h 0 (by simp)
  exact ⟨b2, o2, c, rfl, by simpa [vA] using h1, hlt, hbl⟩

set_option maxHeartbeats 6400000 in
theorem awake_n (w : World) (hT : S.Tab w) : Calls Tryd.prog 7 #[] w fun e w' => e = .returned (.bool true) ∧ Below w.heap.size w w' := by
  obtain ⟨W0, hW0⟩ : ∃ W0, (w.alloc (.cells #[.int .i64 3] 3)).alloc (.cells #[.string ⟨#[97]⟩, .slice (some ⟨w.heap.size, 0, none⟩) 1 1, .int .i64 (-1), .int .i64 0, .int .i64 0, .int .i64 0, .int .i64 1, .int .i64 0, .int .i64 9, .int .i64 0, .int .i64 0, .int .i64 (-1), .int .i64 1, .int .i64 (-1), .int .i64 (-1), .bool false] 42) = W0 := ⟨_, rfl⟩
  have TB := Ob.made (w.alloc (.cells #[.int .i64 3] 3)) (.string ⟨#[97]⟩) (.slice (some ⟨w.heap.size, 0, none⟩) 1 1) (.int .i64 (-1)) (.int .i64 0) (.int .i64 0) (.int .i64 0) (.int .i64 1) (.int .i64 0) (.int .i64 9) (.int .i64 0) (.int .i64 0) (.int .i64 (-1)) (.int .i64 1) (.int .i64 (-1)) (.int .i64 (-1)) (.bool false)
  rw [show (w.alloc (.cells #[.int .i64 3] 3)).heap.size = w.heap.size + 1 by simp] at TB
  have BA := below_alloc w (.cells #[.int .i64 3] 3)
  have B0 := over BA (below_alloc (w.alloc (.cells #[.int .i64 3] 3)) (.cells #[.string ⟨#[97]⟩, .slice (some ⟨w.heap.size, 0, none⟩) 1 1, .int .i64 (-1), .int .i64 0, .int .i64 0, .int .i64 0, .int .i64 1, .int .i64 0, .int .i64 9, .int .i64 0, .int .i64 0, .int .i64 (-1), .int .i64 1, .int .i64 (-1), .int .i64 (-1), .bool false] 42))
  have HG : L.Li (w.alloc (.cells #[.int .i64 3] 3)) (.slice (some ⟨w.heap.size, 0, none⟩) 1 1) [3] := ⟨some ⟨w.heap.size, 0, none⟩, 1, rfl, fun i hi => by
    have h1 : i < 1 := hi
    match i, h1 with
    | 0, _ => exact ⟨⟨w.heap.size, 0, none⟩, rfl, by simp, by simp [Addr.add]⟩⟩
  have HG := HG.below (below_alloc (w.alloc (.cells #[.int .i64 3] 3)) (.cells #[.string ⟨#[97]⟩, .slice (some ⟨w.heap.size, 0, none⟩) 1 1, .int .i64 (-1), .int .i64 0, .int .i64 0, .int .i64 0, .int .i64 1, .int .i64 0, .int .i64 9, .int .i64 0, .int .i64 0, .int .i64 (-1), .int .i64 1, .int .i64 (-1), .int .i64 (-1), .bool false] 42))
  have HT := Lib.hid (hT.over B0)
  rw [hW0] at TB B0 HG HT
  have HW0 := Lib.hid hW0
  have TB := Lib.hid TB
  have HG := Lib.hid HG
  have B0 := Lib.hid B0
  clear hW0 hT BA
  go_enter Tryd.func7, Tryd.ntmps7
  go_upto_region 2 with fail
  rw [HW0.out]
  clear HW0
  have K1 := Lib.hid (loadA_n (w.heap.size + 1) w.heap.size W0 TB.out HG.out HT.out)
  go_wp2_with fail
  refine K1.out.mono ?_
  rintro e w1 ⟨b2, o2, c2, rfl, x0, hx, b1⟩
  have B1 := Lib.hid (over B0.out b1)
  have TB1 := Lib.hid (TB.out.below b1)
  have HG1 := Lib.hid (HG.out.below b1)
  clear b1 K1 TB HG B0 HT
  have K2 := Lib.hid (visA_n (w.heap.size + 1) w.heap.size w1 TB1.out HG1.out)
  go_wp2_with fail
  refine K2.out.mono ?_
  rintro e w2 ⟨b3, o3, c3, rfl, y0, hy, b2'⟩
  have x0 := (b2'.cell (p := ⟨b2, o2, none⟩) hx).trans x0
  have hx := Nat.lt_of_lt_of_le hx b2'.size
  have B2 := Lib.hid (over B1.out b2')
  have TB2 := Lib.hid (TB1.out.below b2')
  have HG2 := Lib.hid (HG1.out.below b2')
  clear b2' K2 TB1 HG1 B1
  have BP := below_alloc w2 (.cells #[.string ⟨#[120]⟩, .string ⟨#[121]⟩] 9)
  have K3 := Lib.hid (checkA_n w2.heap.size (w.heap.size + 1) w.heap.size (w2.alloc (.cells #[.string ⟨#[120]⟩, .string ⟨#[121]⟩] 9)) (TB2.out.below BP) (HG2.out.below BP))
  have HP := Lib.hid BP
  clear BP TB2 HG2
  go_wp2_with fail
  refine K3.out.mono ?_
  rintro e w3 ⟨rfl, b3'⟩
  have b3' := over HP.out b3'
  have x0 := (b3'.cell (p := ⟨b2, o2, none⟩) hx).trans x0
  have y0 := (b3'.cell (p := ⟨b3, o3 + 1, none⟩) hy).trans y0
  have B3 := Lib.hid (over B2.out b3')
  clear b3' K3 HP B2 hx hy
  go_wp2_with fail
  go_ret
  exact ⟨rfl, B3.out⟩

end Go.Proofs.YtalfonpkefhlmaaDoor.T

