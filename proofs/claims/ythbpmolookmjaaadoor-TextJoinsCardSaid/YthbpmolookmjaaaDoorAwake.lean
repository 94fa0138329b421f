/-
  DERIVED. The walk of awake: the calls on fixed inputs.
-/
import Derived.Test.YthbpmolookmjaaaDoorNumber
namespace Go.Proofs.YthbpmolookmjaaaDoor
open Go.RowKit

/-- what the library's variables hold -/
structure Env (w : World) : Prop where
  tab : Lib.TabIs Tryd.prog w "internal/strconv.uint64pow10" .u64 Lib.pow10Tab
  err : ∃ tp p, w.var? Tryd.prog "strconv.ErrRange" = some #[.iface tp p]
theorem gErr : Tryd.prog.globalNamed "strconv.ErrRange" = some 1 := by kernel_rfl
theorem gTab : Tryd.prog.globalNamed "internal/strconv.uint64pow10" = some 2 := by kernel_rfl
theorem Env.below {w w' : World} (h : Env w) (hb : Below w.heap.size w w') : Env w' := by
  obtain ⟨tp, p, hv⟩ := h.err
  have h0 := World.var?_cell gErr hv 0
  have hlt := World.block_lt_of_cell? _ _ (show w.cell? ⟨1, 0, none⟩ = some (.iface tp p) by simpa using h0)
  have ht := h.tab.cell gTab 0 (by decide)
  have hlt2 := World.block_lt_of_cell? _ _ ht
  exact ⟨var?_below hb gTab hlt2 h.tab, tp, p, var?_below hb gErr hlt hv⟩

theorem aw_number (w : World) (h : Env w) :
    Calls Tryd.prog 11 #[.string ⟨#[45, 49, 50, 48]⟩] w fun e w' => e = .returned (.tuple #[.int .i64 (-120), .int .i64 0]) ∧ Below w.heap.size w w' := by
  obtain ⟨tp, p, hv⟩ := h.err
  refine (number_any _ w (by decide) tp p hv).mono ?_
  rintro e w' ⟨rfl, hb⟩
  have : numL [45, 49, 50, 48] = (-120, 0) := by decide +kernel
  exact ⟨by rw [show (⟨#[45, 49, 50, 48]⟩ : ByteArray).data.toList = [45, 49, 50, 48] from rfl, this], hb⟩
theorem aw_words (w : World) :
    Calls Tryd.prog 19 #[.string ⟨#[111, 114, 100, 101, 114, 32, 34, 97, 32, 98, 34, 32, 53]⟩] w fun e w' => ∃ g cap, e = .returned (.tuple #[.slice (some ⟨g, 0, none⟩) 3 cap, .int .i64 0]) ∧ 3 ≤ cap ∧ g < w'.heap.size ∧ w'.cell? ⟨g, 0, none⟩ = some (.string ⟨#[111, 114, 100, 101, 114]⟩) ∧ w'.cell? ⟨g, 1, none⟩ = some (.string ⟨#[34, 97, 32, 98, 34]⟩) ∧ w'.cell? ⟨g, 2, none⟩ = some (.string ⟨#[53]⟩) ∧ Below w.heap.size w w' := by
  refine (words_any _ w (by decide)).mono ?_
  rintro e w' ⟨hb, h⟩
  have hw : wordsL [111, 114, 100, 101, 114, 32, 34, 97, 32, 98, 34, 32, 53] = some [[111, 114, 100, 101, 114], [34, 97, 32, 98, 34], [53]] := by decide +kernel
  rw [show (⟨#[111, 114, 100, 101, 114, 32, 34, 97, 32, 98, 34, 32, 53]⟩ : ByteArray).data.toList = [111, 114, 100, 101, 114, 32, 34, 97, 32, 98, 34, 32, 53] from rfl, hw] at h
  obtain ⟨v, he, ho⟩ := h
  have hc := fun g hg => ho.cells (g := g) hg
  rcases ho.2 with ⟨_, h0⟩ | ⟨g, cap, cur, rfl, _, hg, hcap, _⟩
  · simp at h0
  · exact ⟨g, cap, he, hcap, (Array.getElem?_eq_some_iff.1 hg).1, hc g rfl 0 _ rfl, hc g rfl 1 _ rfl, hc g rfl 2 _ rfl, hb⟩
theorem aw_decimal (w : World) (h : Env w) :
    Calls Tryd.prog 13 #[.int .i64 (-120)] w fun e w' => e = .returned (.string ⟨#[45, 49, 50, 48]⟩) ∧ Below w.heap.size w w' := by
  refine (decimal_any (-120) (by omega) (by omega) w h.tab).mono ?_
  rintro e w' ⟨rfl, hb⟩
  have : Lib.itoa (-120) = [45, 49, 50, 48] := itoa_numL _ _ (by decide +kernel)
  exact ⟨by rw [this], hb⟩
theorem aw_quote (w : World) :
    Calls Tryd.prog 15 #[.string ⟨#[97, 34, 10]⟩] w fun e w' => e = .returned (.string ⟨#[34, 97, 92, 34, 92, 110, 34]⟩) ∧ Below w.heap.size w w' := by
  refine (quote_any _ w (by decide)).mono ?_
  rintro e w' ⟨rfl, hb⟩
  exact ⟨rfl, hb⟩
theorem aw_join (g cap : Nat) (w : World) (hcap : 3 ≤ cap) (hg : g < w.heap.size) (h0 : w.cell? ⟨g, 0, none⟩ = some (.string ⟨#[111, 114, 100, 101, 114]⟩)) (h1 : w.cell? ⟨g, 1, none⟩ = some (.string ⟨#[34, 97, 32, 98, 34]⟩)) (h2 : w.cell? ⟨g, 2, none⟩ = some (.string ⟨#[53]⟩)) :
    Calls Tryd.prog 21 #[.slice (some ⟨g, 0, none⟩) 3 cap] w fun e w' => e = .returned (.string ⟨#[111, 114, 100, 101, 114, 32, 34, 97, 32, 98, 34, 32, 53]⟩) ∧ Below w.heap.size w w' := by
  refine (join_any g 0 cap [⟨#[111, 114, 100, 101, 114]⟩, ⟨#[34, 97, 32, 98, 34]⟩, ⟨#[53]⟩] w ?_ hg (by decide) hcap (by decide)).mono ?_
  · intro j x hx
    match j, hx with
    | 0, hx => simp at hx; subst hx; exact h0
    | 1, hx => simp at hx; subst hx; exact h1
    | 2, hx => simp at hx; subst hx; exact h2
  · rintro e w' ⟨rfl, hb⟩
    exact ⟨rfl, hb⟩
theorem aw_name1 (w : World) : Calls Tryd.prog 8 #[.string ⟨#[104, 117, 98, 95, 50]⟩] w fun e w' => e = .returned (.bool true) ∧ w = w' := name_any _ w
theorem aw_name2 (w : World) : Calls Tryd.prog 8 #[.string ⟨#[50, 110, 100]⟩] w fun e w' => e = .returned (.bool false) ∧ w = w' := name_any _ w

set_option maxRecDepth 100000 in
set_option maxHeartbeats 1000000 in
theorem awake_any (w : World) (hE : Env w) :
    Calls Tryd.prog 10 #[] w fun e w' => e = .returned (.bool true) ∧ Below w.heap.size w w' := by
  go_enter Tryd.func10, Tryd.ntmps10
  go_wp2_with fail
  refine (aw_number _ hE).mono ?_
  rintro e w1 ⟨rfl, b1⟩
  have hE1 := hE.below b1
  go_wp2_with fail
  refine (aw_words _).mono ?_
  rintro e w2 ⟨g, cap, rfl, hcap, hg, c0, c1, c2, b2⟩
  have hE2 := hE1.below b2
  have b2' := b1.trans (b2.mono b1.size)
  go_wp2_with fail
  refine (aw_decimal _ hE2).mono ?_
  rintro e w3 ⟨rfl, b3⟩
  go_wp2_with fail
  refine (aw_quote _).mono ?_
  rintro e w4 ⟨rfl, b4⟩
  have b34 : Below w2.heap.size w2 w4 := b3.trans (b4.mono b3.size)
  have d0 := (b34.cell (p := ⟨g, 0, none⟩) hg).trans c0
  have d1 := (b34.cell (p := ⟨g, 1, none⟩) hg).trans c1
  have d2 := (b34.cell (p := ⟨g, 2, none⟩) hg).trans c2
  have hg4 : g < w4.heap.size := Nat.lt_of_lt_of_le hg b34.size
  have b4' := b2'.trans (b34.mono b2'.size)
  clear b34 b4 b3 b2' b2 b1 c0 c1 c2 hg
  go_wp2_with fail
  refine (aw_join g cap _ hcap hg4 d0 d1 d2).mono ?_
  rintro e w5 ⟨rfl, b5⟩
  have b5' := b4'.trans (b5.mono b4'.size)
  clear b4' b5 d0 d1 d2
  go_wp2_with fail
  refine (aw_name1 _).mono ?_
  rintro e w6 ⟨rfl, rfl⟩
  go_wp2_with fail
  refine (aw_name2 _).mono ?_
  rintro e w6 ⟨rfl, rfl⟩
  go_wp2
  go_ret
  exact ⟨rfl, b5'⟩

end Go.Proofs.YthbpmolookmjaaaDoor
