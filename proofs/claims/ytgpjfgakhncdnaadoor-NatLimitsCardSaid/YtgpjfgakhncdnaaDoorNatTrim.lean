/-
  DERIVED. The walk of trim.
-/
import Derived.Test.YtgpjfgakhncdnaaDoorLimb
namespace Go.Proofs.YtgpjfgakhncdnaaDoor
open Go.RowKit

def slLen : Value → Nat | .slice _ n _ => n | _ => 0
theorem trim_end (l : List Nat) (hlo : lo l) (k : Nat) (hk : k ≤ l.length) (hv : val (l.take k) = val l) (ht : k = 0 ∨ l.getD (k - 1) 0 ≠ 0) : limbs (val l) = l.take k := by
  rw [← hv]
  apply limbs_of _ (lo_take hlo k)
  rcases ht with rfl | ht
  · left; simp
  · by_cases h0 : k = 0
    · left; subst h0; simp
    right
    rw [List.length_take, Nat.min_eq_left hk, List.getD_eq_getElem?_getD, List.getElem?_take, if_pos (by omega), ← List.getD_eq_getElem?_getD]
    exact ht
theorem ret_sl {a : Option Addr} {n m cap : Nat} (h : n = m) : Ending.returned (.slice a n cap) = .returned (.slice a m cap) := by rw [h]

set_option maxHeartbeats 400000 in
theorem trim_any (g cap : Nat) (l : List Nat) (hlo : lo l) (w : World) (h : Rw w g cap l) (hl : l.length ≤ 1000000000) :
    Calls Tryd.prog 46 #[.slice (some ⟨g, 0, none⟩) l.length cap] w fun e w' => e = .returned (.slice (some ⟨g, 0, none⟩) (limbs (val l)).length cap) ∧ w = w' ∧ Rw w g cap (limbs (val l)) := by
  have HE := Lib.hid (trim_end l hlo)
  have HR := Lib.hid h
  have hcell := h.cell
  have hcap := h.le
  generalize hn : l.length = n at *
  have HN := Lib.hid hn
  clear h hn
  go_enter Tryd.func46, Tryd.ntmps46
  go_wp2
  go_loop [0] (fun v => ∃ k : Nat, k ≤ n ∧ v = .slice (some ⟨g, 0, none⟩) k cap ∧ Hid (val (l.take k) = val l)) (fun v => slLen v)
  case atStart => exact ⟨n, Nat.le_refl _, rfl, by rw [← HN.out, List.take_length]; rfl⟩
  case round =>
    obtain ⟨k, hk, rfl, HV⟩ := hrel
    match k, hk, HV with
    | 0, hk, HV =>
      have HL := Lib.hid (HE.out 0 (Nat.zero_le _) HV.out (.inl rfl))
      clear hcell
      go_wp2
      go_ret
      exact ⟨ret_sl (by rw [HL.out]; simp), rfl, (HR.out.cut 0).ext HL.out⟩
    | j + 1, hk, HV =>
      have hc := hcell j (by omega)
      have HX : Hid (val (l.take (j + 1)) = val (l.take j) + bp j * l.getD j 0) := val_take_succ l j (by rw [HN.out]; omega)
      have HT := Lib.hid (HE.out (j + 1) hk HV.out)
      clear hcell
      generalize hx : l.getD j 0 = x at *
      by_cases hx0 : x = 0
      · subst hx0
        clear hx HT
        have HV' : Hid (val (l.take j) = val l) := by have a := HX.out; have b := HV.out; show _ = _; omega
        clear HX HV
        go_wp2
        go_round
        case rel => exact ⟨j, by omega, by go_num, HV'⟩
        case measure => simp [slLen]
      · have hx' : ((x : Int) == 0) = false := by simp; omega
        have HL := Lib.hid (HT.out (.inr (by rw [Nat.add_sub_cancel, hx]; exact hx0)))
        clear HT HX HV hx
        go_wp2
        go_ret
        exact ⟨ret_sl (by rw [HL.out, List.length_take, HN.out]; omega), rfl, (HR.out.cut (j + 1)).ext HL.out⟩

theorem trim_to (g cap n V : Nat) (l : List Nat) (hn : l.length = n) (hlo : lo l) (hv : val l = V) (w : World) (h : Rw w g cap l) (hl : n ≤ 1000000000) :
    Calls Tryd.prog 46 #[.slice (some ⟨g, 0, none⟩) n cap] w fun e w' => e = .returned (.slice (some ⟨g, 0, none⟩) (limbs V).length cap) ∧ w = w' ∧ Rw w g cap (limbs V) := by
  subst hn
  subst hv
  exact trim_any g cap l hlo w h hl

end Go.Proofs.YtgpjfgakhncdnaaDoor
