/-
  DERIVED. Merged by mkbase.py.
-/
import Derived.Test.YthamlnolfagpiaaGreatDoorBasePure
import Derived.Test.YthamlnolfagpiaaGreatDoorNatGen
import Derived.Below
import Derived.OwnWalk
import Derived.Laws.OwnMore
import Derived.Deep.AppendLies
import Derived.Deep.DeepAppendRoom
import Derived.Deep.Draws
import Derived.Deep.QuietTactic
import Derived.BigQuiet
import Derived.Lib.Hide
namespace Go.Proofs.YthamlnolfagpiaaGreatDoor
open Go.RowKit

def u64 (n : Nat) : Value := .int .u64 (n : Int)
/-- block g's first cells hold the limbs l; it has room for cap -/
def Rw (w : World) (g cap : Nat) (l : List Nat) : Prop := w.ownsRow 0 146 1 (.slice (some ⟨g, 0, none⟩) l.length cap) l.length (l.map u64)

section
variable {w w' : World} {g cap : Nat} {l : List Nat}
theorem Rw.cell (h : Rw w g cap l) (k : Nat) (hk : k < l.length) : w.cell? ⟨g, k, none⟩ = some (.int .u64 ((l.getD k 0 : Nat) : Int)) := by
  have := World.ownsRow.cellAt h k (by omega)
  rw [this, List.getElem?_map, List.getD_eq_getElem?_getD, List.getElem?_eq_getElem hk]
  rfl
theorem Rw.frozen (h : Rw w g cap l) (k : Nat) : w.frozen? ⟨g, k, none⟩ = false := World.ownsRow.frozenAt h k
theorem Rw.store (h : Rw w g cap l) (k c : Nat) : Rw (w.setCell ⟨g, k, none⟩ (.int .u64 (c : Int))) g cap (l.set k c) := by
  have := (World.ownsRow.stored h k (u64 c)).1
  unfold Rw
  rw [List.length_set, List.map_set]
  exact this
theorem Rw.storeI (h : Rw w g cap l) (k c : Nat) {z : Int} (hz : z = (c : Int)) : Rw (w.setCell ⟨g, k, none⟩ (.int .u64 z)) g cap (l.set k c) := hz ▸ h.store k c
theorem Rw.lt (h : Rw w g cap l) : g < w.heap.size := (World.ownsRow.lt h g rfl).2
theorem Rw.le (h : Rw w g cap l) : l.length ≤ cap := by
  rcases h.2 with ⟨h', _⟩ | ⟨g', cap', cur, h', _, _, hnc, _⟩
  · cases h'
  · cases h'; exact hnc
theorem Rw.of_block (h : Rw w g cap l) (hb : w'.heap[g]? = w.heap[g]?) : Rw w' g cap l := by
  refine ⟨h.1, ?_⟩
  rcases h.2 with ⟨h', _⟩ | ⟨g', cap', cur, h', hbg, hg, rest⟩
  · cases h'
  · cases h'; exact .inr ⟨g, cap, cur, rfl, hbg, hb.trans hg, rest⟩
theorem Rw.far (h : Rw w g cap l) {p : Addr} (hp : g ≠ p.block) (u : Value) : Rw (w.setCell p u) g cap l := h.of_block (Below.heap_setCell w p u g hp)
theorem Rw.below {B : Nat} (h : Rw w g cap l) (hb : Below B w w') (hg : g < B) : Rw w' g cap l := h.of_block (hb.block g hg)
theorem Rw.only {row : Option Nat} (h : Rw w g cap l) (hb : w.grownBy w' row) (hg : some g ≠ row) : Rw w' g cap l := h.of_block (hb.block g h.lt hg)
theorem Rw.drewN (h : Rw w g cap l) (n : Nat) : Rw (w.drewN n) g cap l := h
theorem Rw.alloc (h : Rw w g cap l) (o : Obj) : Rw (w.alloc o) g cap l := h.of_block (Below.heap_alloc w o g h.lt)
theorem Rw.cut (h : Rw w g cap l) (k : Nat) : Rw w g cap (l.take k) := by
  rcases h.2 with ⟨h', _⟩ | ⟨g', cap', cur, h', hbg, hg, hnc, hcm, hcs, ht⟩
  · cases h'
  · cases h'
    refine ⟨by simp, .inr ⟨g, cap, cur, rfl, hbg, hg, ?_, hcm, hcs, ?_⟩⟩
    · rw [List.length_take]; omega
    · rw [List.map_take, ← ht, List.take_take, List.length_take]
      simp only [Nat.mul_one]
theorem Rw.ext (h : Rw w g cap l) {m : List Nat} (e : m = l) : Rw w g cap m := e ▸ h
end

theorem only_refl (a : World) (row : Option Nat) : a.grownBy a row := ⟨rfl, rfl, rfl, Nat.le_refl _, fun _ _ _ => rfl⟩
theorem only_trans {a b c : World} {row : Option Nat} (h : a.grownBy b row) (k : b.grownBy c row) : a.grownBy c row :=
  ⟨k.os.trans h.os, k.tape.trans h.tape, k.output.trans h.output, Nat.le_trans h.size k.size, fun i hi hn => (k.block i (Nat.lt_of_lt_of_le hi h.size) hn).trans (h.block i hi hn)⟩
theorem only_drewN {a w : World} {row : Option Nat} (h : a.grownBy w row) (n : Nat) : a.grownBy (w.drewN n) row := ⟨h.os, h.tape, h.output, h.size, h.block⟩
theorem only_set {a w : World} {g : Nat} (h : a.grownBy w (some g)) (k : Nat) (u : Value) : a.grownBy (w.setCell ⟨g, k, none⟩ u) (some g) :=
  ⟨h.os, h.tape, h.output, by simpa [World.setCell] using h.size, fun i hi hne => (Below.heap_setCell w ⟨g, k, none⟩ u i (by rintro rfl; exact hne rfl)).trans (h.block i hi hne)⟩
theorem only_below {a w : World} {g : Nat} {B : Nat} (h : a.grownBy w (some g)) (hB : B ≤ a.heap.size) (hg : B ≤ g) : Below B a w :=
  ⟨h.os, h.tape, h.output, h.size, fun k hk => h.block k (by omega) (by simp; omega)⟩
theorem below_drewN {B : Nat} {a w : World} (h : Below B a w) (n : Nat) : Below B a (w.drewN n) := ⟨h.os, h.tape, h.output, h.size, h.block⟩

theorem info51 : (Tryz.prog.info? 146).map (fun i => (i.zero, i.size, i.bytes)) = some (some (.int .u64 0), 1, 8) := by kernel_rfl
theorem info51' : ∃ i, Tryz.prog.info? 146 = some i ∧ i.zero = some (.int .u64 0) ∧ i.size = 1 ∧ i.bytes = 8 := by
  have h := info51
  cases hi : Tryz.prog.info? 146 with
  | none => rw [hi] at h; cases h
  | some i => rw [hi] at h; simp at h; exact ⟨i, rfl, h.1, h.2.1, h.2.2⟩
theorem Rw.made {w' : World} {n cap : Nat} {g : Nat} (h : w'.ownsRow 0 146 1 (.slice (some ⟨g, 0, none⟩) n cap) n (madeCells #[Value.int .u64 0] n).toList) : Rw w' g cap (List.replicate n 0) := by
  unfold Rw
  have e : (madeCells #[Value.int .u64 0] n).toList = (List.replicate n 0).map u64 := by
    rw [toList_madeCells_one, List.map_replicate]; rfl
  rw [List.length_replicate, ← e]
  exact h

end Go.Proofs.YthamlnolfagpiaaGreatDoor

namespace Go.Proofs.YthamlnolfagpiaaGreatDoor
open Go.RowKit

def slLen : Value → Nat | .slice _ n _ => n | _ => 0
theorem trim_end (l : List Nat) (hlo : lo l) (k : Nat) (hk : k ≤ l.length) (hv : val (l.take k) = val l) (ht : k = 0 ∨ l.getD (k - 1) 0 ≠ 0) : limbs (val l) = l.take k := by
  rw [← hv]
  apply limbs_of _ (lo_take hlo k)
  rcases ht with rfl | ht
  · left; simp
  · by_cases h0 : k = 0
    · left; subst h0; simp
    right
    rw [List.length_take, Nat.min_eq_left hk, List.getD_eq_getElem?_getD, List.getElem?_take, if_pos (by omega), ← List.getD_eq_getElem?_getD]
    exact ht
theorem ret_sl {a : Option Addr} {n m cap : Nat} (h : n = m) : Ending.returned (.slice a n cap) = .returned (.slice a m cap) := by rw [h]

set_option maxHeartbeats 400000 in
theorem trim_any (g cap : Nat) (l : List Nat) (hlo : lo l) (w : World) (h : Rw w g cap l) (hl : l.length ≤ 1000000000) :
    Calls Tryz.prog 164 #[.slice (some ⟨g, 0, none⟩) l.length cap] w fun e w' => e = .returned (.slice (some ⟨g, 0, none⟩) (limbs (val l)).length cap) ∧ w = w' ∧ Rw w g cap (limbs (val l)) := by
  have HE := Lib.hid (trim_end l hlo)
  have HR := Lib.hid h
  have hcell := h.cell
  have hcap := h.le
  generalize hn : l.length = n at *
  have HN := Lib.hid hn
  clear h hn
  go_enter Tryz.func164, Tryz.ntmps164
  go_wp2
  go_loop [0] (fun v => ∃ k : Nat, k ≤ n ∧ v = .slice (some ⟨g, 0, none⟩) k cap ∧ Hid (val (l.take k) = val l)) (fun v => slLen v)
  case atStart => exact ⟨n, Nat.le_refl _, rfl, by rw [← HN.out, List.take_length]; rfl⟩
  case round =>
    obtain ⟨k, hk, rfl, HV⟩ := hrel
    match k, hk, HV with
    | 0, hk, HV =>
      have HL := Lib.hid (HE.out 0 (Nat.zero_le _) HV.out (.inl rfl))
      clear hcell
      go_wp2
      go_ret
      exact ⟨ret_sl (by rw [HL.out]; simp), rfl, (HR.out.cut 0).ext HL.out⟩
    | j + 1, hk, HV =>
      have hc := hcell j (by omega)
      have HX : Hid (val (l.take (j + 1)) = val (l.take j) + bp j * l.getD j 0) := val_take_succ l j (by rw [HN.out]; omega)
      have HT := Lib.hid (HE.out (j + 1) hk HV.out)
      clear hcell
      generalize hx : l.getD j 0 = x at *
      by_cases hx0 : x = 0
      · subst hx0
        clear hx HT
        have HV' : Hid (val (l.take j) = val l) := by have a := HX.out; have b := HV.out; show _ = _; omega
        clear HX HV
        go_wp2
        go_round
        case rel => exact ⟨j, by omega, by go_num, HV'⟩
        case measure => simp [slLen]
      · have hx' : ((x : Int) == 0) = false := by simp; omega
        have HL := Lib.hid (HT.out (.inr (by rw [Nat.add_sub_cancel, hx]; exact hx0)))
        clear HT HX HV hx
        go_wp2
        go_ret
        exact ⟨ret_sl (by rw [HL.out, List.length_take, HN.out]; omega), rfl, (HR.out.cut (j + 1)).ext HL.out⟩

theorem trim_to (g cap n V : Nat) (l : List Nat) (hn : l.length = n) (hlo : lo l) (hv : val l = V) (w : World) (h : Rw w g cap l) (hl : n ≤ 1000000000) :
    Calls Tryz.prog 164 #[.slice (some ⟨g, 0, none⟩) n cap] w fun e w' => e = .returned (.slice (some ⟨g, 0, none⟩) (limbs V).length cap) ∧ w = w' ∧ Rw w g cap (limbs V) := by
  subst hn
  subst hv
  exact trim_any g cap l hlo w h hl

end Go.Proofs.YthamlnolfagpiaaGreatDoor

