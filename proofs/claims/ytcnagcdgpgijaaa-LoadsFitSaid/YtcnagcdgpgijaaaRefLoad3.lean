/-
  DERIVED. The walks of lorryref06's Add and Sub.
-/
import Derived.Test.YtcnagcdgpgijaaaRefLoad2
namespace Go.Proofs.Ytcnagcdgpgijaaa.L
open Go.RowKit
set_option maxRecDepth 8000

/-- the call's own slice v of n numbers l -/
def Gn (B : Nat) (w : World) (v : Value) (n : Nat) (l : List Int) : Prop := w.ownsRow B 3 1 v n (l.map vi)
theorem Gn.own {B : Nat} {w : World} {v : Value} {n : Nat} {l : List Int} (h : Gn B w v n l) (e : n = l.length) : Own B w v l := by unfold Own; rw [← e]; exact h
theorem Gn.nil (B : Nat) (w : World) : Gn B w (.slice none 0 0) 0 [] := World.ownsRow_nil w B _ _
/-- a result of a list and an error -/
def LE (l : List Int) (x : Int) (w : World) (e : Ending) (w' : World) : Prop := ∃ v, e = .returned (.tuple #[v, .int .i64 x]) ∧ Own w.heap.size w' v l ∧ Below w.heap.size w w'
theorem ret_le {v : Value} {a b : Int} (h : a = b) : Ending.returned (.tuple #[v, .int .i64 a]) = .returned (.tuple #[v, .int .i64 b]) := by rw [h]
def addF (x y : Int) : Int := x + y
def subF (x y : Int) : Int := x - y
/-- the sums fit -/
def Fit2 (f : Int → Int → Int) (a b : List Int) : Prop := ∀ k, k < a.length → -4611686018427387904 ≤ f (a.getD k 0) (b.getD k 0) ∧ f (a.getD k 0) (b.getD k 0) ≤ 4611686018427387904

theorem refAdd_len (a b : List Int) (oa ob : Option Addr) (ca cb : Nat) (h : a.length ≠ b.length) (w : World) :
    Calls Try.prog 17 #[.slice oa a.length ca, .slice ob b.length cb] w (LE (combL addF a b) (combE a b) w) := by
  have HR : Hid (combL addF a b = []) := by show _ = _; unfold combL; rw [if_neg h]
  have HE : Hid (combE a b = 2) := by show _ = _; unfold combE; rw [if_neg h]
  have hne := ne_neN h
  generalize combL addF a b = r at *
  generalize combE a b = x at *
  generalize a.length = n at *
  generalize b.length = m at *
  go_enter Try.func17, Try.ntmps17
  go_wp2_with fail
  go_ret2
  exact ⟨_, ret_le HE.out.symm, HR.out ▸ Own.nil _ _, Below.refl _ _⟩
set_option maxHeartbeats 800000 in
theorem refAdd_n (u v : Value) (a b : List Int) (hl9 : a.length * 8 ≤ 140737488355328) (hf : Fit2 addF a b) (w : World) (hu : Li w u a) (hv : Li w v b) :
    Calls Try.prog 17 #[u, v] w (LE (combL addF a b) (combE a b) w) := by
  obtain ⟨oa, ca, rfl, ha⟩ := hu
  obtain ⟨ob, cb, rfl, hb⟩ := hv
  by_cases h : a.length = b.length
  · have HR : Hid (combL addF a b = zipL addF a b) := by show _ = _; unfold combL; rw [if_pos h]
    have HE : Hid (combE a b = 0) := by show _ = _; unfold combE; rw [if_pos h]
    generalize combL addF a b = r at *
    generalize combE a b = e0 at *
    have HS := Lib.hid (fun k (hk : k < a.length) => zip_take addF hk (show k < b.length by omega))
    have HZ : Hid ((zipL addF a b).length = a.length) := zip_len addF rfl h.symm
    have HF := Lib.hid hf
    unfold Fit2 at HF
    have HA := Lib.hid ha
    rw [← h] at hb ⊢
    have HB := Lib.hid hb
    obtain ⟨i0, hi, hz0, hz1, hz2⟩ := infoInt
    generalize zipL addF a b = zl at *
    generalize hn : a.length = n at *
    have hne : ((n : Int) != (n : Int)) = false := by simp
    have HG0 : Hid (Gn w.heap.size w (.slice none 0 0) 0 (zl.take 0)) := Gn.nil _ _
    clear ha hb hn h hf
    go_enter Try.func17, Try.ntmps17
    go_wp2_with fail
    go_loopw [6, 7] (fun v i wr => ∃ k : Nat, k ≤ n ∧ i = .int .i64 k ∧ Hid (Gn w.heap.size wr v k (zl.take k)) ∧ Hid (Below w.heap.size w wr)) (fun _ i _ => n - (intOf i).toNat)
    case atStart => exact ⟨0, Nat.zero_le _, rfl, HG0, Below.refl _ _⟩
    case round =>
      clear HG0
      obtain ⟨k, hk, rfl, HG, HW⟩ := hrel
      by_cases hlt : k < n
      · obtain ⟨ad, rfl, hab, hc⟩ := HA.out k hlt
        obtain ⟨bd, rfl, hbb, hd⟩ := HB.out k hlt
        have hc2 := (HW.out.cell (p := ad.add k) (by rw [add_block]; exact hab)).trans hc
        have hd2 := (HW.out.cell (p := bd.add k) (by rw [add_block]; exact hbb)).trans hd
        clear hc hd
        have HS2 := Lib.hid (HS.out k hlt)
        have hfk := HF.out k hlt
        generalize a.getD k 0 = x at *
        generalize b.getD k 0 = y at *
        unfold addF at hfk HS2
        have hmx : k + 1 ≤ maxLen := by unfold maxLen; omega
        have hby : (k + 1) * 8 ≤ 140737488355328 := by omega
        have hsz := HW.out.size
        have hc3 : wr.drew.cell? (ad.add k) = some (.int .i64 x) := hc2
        have hd3 : wr.drew.cell? (bd.add k) = some (.int .i64 y) := hd2
        have hwr : IntKind.i64.wrap (x + y) = x + y := IntWalk.i64_in _ (by omega)
        have hwk : IntKind.i64.wrap (k : Int) = (k : Int) := IntWalk.i64_in _ (by omega)
        have HG3 := Lib.hid (World.ownsRow.drew (World.ownsRow.alloc HG.out (.cells #[.int .i64 (x + y)] 3)))
        have hszA : w.heap.size ≤ (wr.alloc (.cells #[.int .i64 (x + y)] 3)).drew.heap.size := by simp; omega
        have hkI : (k : Int) < (n : Int) := by omega
        have hk0 : (0 : Int) ≤ (k : Int) := by omega
        have HBA := Lib.hid ((HW.out.alloc hsz (.cells #[.int .i64 (x + y)] 3)).drew)
        have HOB : Hid (∀ j, Value.ownBlock u6 = some j → w.heap.size ≤ j) := fun j hj => (World.ownsRow.lt HG.out j hj).1
        clear hfk
        go_wp2_with fail
        go_region_law (refine step_append_lies _ (by rfl) _ _ _ (by rfl) w.heap.size 3 i0 (.int .i64 0) 1 8 Try.underlying22 hi hz0 hz1 hz2 rfl (by decide) _ _ _ (by rfl) HG3.out ⟨wr.heap.size, 0, none⟩ 1 1 [.int .i64 (x + y)] (by rfl) (by rfl) (one_new wr _) (one_cell _) (by decide) hmx hby hszA _ rfl ?_; intro g3 cp3 w3 hown hgrow hat hlt3)
        all_goals
          have HG4 : Hid (Gn w.heap.size w3 (.slice (some ⟨g3, 0, none⟩) (k + 1) cp3) (k + 1) (zl.take (k + 1))) := by
            show World.ownsRow _ _ _ _ _ _ _
            rw [HS2.out, List.map_append]; exact hown
          have HB3 := Lib.hid (HBA.out.grown hgrow (by simp; omega) HOB.out)
          clear hown hgrow hat
          go_wp2
          go_roundw
          case rel => exact ⟨k + 1, by omega, by go_num, HG4, HB3⟩
          case measure => simp [intOf]; omega
      · have hk' : k = n := by omega
        subst hk'
        have HG4 : Hid (Own w.heap.size wr u6 r) := by
          show Own _ _ _ _
          have := HG.out
          rw [List.take_of_length_le (by rw [HZ.out]; exact Nat.le_refl _)] at this
          rw [HR.out]
          exact Gn.own this HZ.out.symm
        go_wp2_with fail
        go_ret2
        exact ⟨_, ret_le HE.out.symm, HG4.out, HW.out⟩
  · exact refAdd_len a b oa ob ca cb h w

theorem refSub_len (a b : List Int) (oa ob : Option Addr) (ca cb : Nat) (h : a.length ≠ b.length) (w : World) :
    Calls Try.prog 19 #[.slice oa a.length ca, .slice ob b.length cb] w (LE (combL subF a b) (combE a b) w) := by
  have HR : Hid (combL subF a b = []) := by show _ = _; unfold combL; rw [if_neg h]
  have HE : Hid (combE a b = 2) := by show _ = _; unfold combE; rw [if_neg h]
  have hne := ne_neN h
  generalize combL subF a b = r at *
  generalize combE a b = x at *
  generalize a.length = n at *
  generalize b.length = m at *
  go_enter Try.func19, Try.ntmps19
  go_wp2_with fail
  go_ret2
  exact ⟨_, ret_le HE.out.symm, HR.out ▸ Own.nil _ _, Below.refl _ _⟩
set_option maxHeartbeats 800000 in
theorem refSub_n (u v : Value) (a b : List Int) (hl9 : a.length * 8 ≤ 140737488355328) (hf : Fit2 subF a b) (w : World) (hu : Li w u a) (hv : Li w v b) :
    Calls Try.prog 19 #[u, v] w (LE (combL subF a b) (combE a b) w) := by
  obtain ⟨oa, ca, rfl, ha⟩ := hu
  obtain ⟨ob, cb, rfl, hb⟩ := hv
  by_cases h : a.length = b.length
  · have HR : Hid (combL subF a b = zipL subF a b) := by show _ = _; unfold combL; rw [if_pos h]
    have HE : Hid (combE a b = 0) := by show _ = _; unfold combE; rw [if_pos h]
    generalize combL subF a b = r at *
    generalize combE a b = e0 at *
    have HS := Lib.hid (fun k (hk : k < a.length) => zip_take subF hk (show k < b.length by omega))
    have HZ : Hid ((zipL subF a b).length = a.length) := zip_len subF rfl h.symm
    have HF := Lib.hid hf
    unfold Fit2 at HF
    have HA := Lib.hid ha
    rw [← h] at hb ⊢
    have HB := Lib.hid hb
    obtain ⟨i0, hi, hz0, hz1, hz2⟩ := infoInt
    generalize zipL subF a b = zl at *
    generalize hn : a.length = n at *
    have hne : ((n : Int) != (n : Int)) = false := by simp
    have HG0 : Hid (Gn w.heap.size w (.slice none 0 0) 0 (zl.take 0)) := Gn.nil _ _
    clear ha hb hn h hf
    go_enter Try.func19, Try.ntmps19
    go_wp2_with fail
    go_loopw [6, 7] (fun v i wr => ∃ k : Nat, k ≤ n ∧ i = .int .i64 k ∧ Hid (Gn w.heap.size wr v k (zl.take k)) ∧ Hid (Below w.heap.size w wr)) (fun _ i _ => n - (intOf i).toNat)
    case atStart => exact ⟨0, Nat.zero_le _, rfl, HG0, Below.refl _ _⟩
    case round =>
      clear HG0
      obtain ⟨k, hk, rfl, HG, HW⟩ := hrel
      by_cases hlt : k < n
      · obtain ⟨ad, rfl, hab, hc⟩ := HA.out k hlt
        obtain ⟨bd, rfl, hbb, hd⟩ := HB.out k hlt
        have hc2 := (HW.out.cell (p := ad.add k) (by rw [add_block]; exact hab)).trans hc
        have hd2 := (HW.out.cell (p := bd.add k) (by rw [add_block]; exact hbb)).trans hd
        clear hc hd
        have HS2 := Lib.hid (HS.out k hlt)
        have hfk := HF.out k hlt
        generalize a.getD k 0 = x at *
        generalize b.getD k 0 = y at *
        unfold subF at hfk HS2
        have hmx : k + 1 ≤ maxLen := by unfold maxLen; omega
        have hby : (k + 1) * 8 ≤ 140737488355328 := by omega
        have hsz := HW.out.size
        have hc3 : wr.drew.cell? (ad.add k) = some (.int .i64 x) := hc2
        have hd3 : wr.drew.cell? (bd.add k) = some (.int .i64 y) := hd2
        have hwr : IntKind.i64.wrap (x - y) = x - y := IntWalk.i64_in _ (by omega)
        have hwk : IntKind.i64.wrap (k : Int) = (k : Int) := IntWalk.i64_in _ (by omega)
        have HG3 := Lib.hid (World.ownsRow.drew (World.ownsRow.alloc HG.out (.cells #[.int .i64 (x - y)] 3)))
        have hszA : w.heap.size ≤ (wr.alloc (.cells #[.int .i64 (x - y)] 3)).drew.heap.size := by simp; omega
        have hkI : (k : Int) < (n : Int) := by omega
        have hk0 : (0 : Int) ≤ (k : Int) := by omega
        have HBA := Lib.hid ((HW.out.alloc hsz (.cells #[.int .i64 (x - y)] 3)).drew)
        have HOB : Hid (∀ j, Value.ownBlock u6 = some j → w.heap.size ≤ j) := fun j hj => (World.ownsRow.lt HG.out j hj).1
        clear hfk
        go_wp2_with fail
        go_region_law (refine step_append_lies _ (by rfl) _ _ _ (by rfl) w.heap.size 3 i0 (.int .i64 0) 1 8 Try.underlying22 hi hz0 hz1 hz2 rfl (by decide) _ _ _ (by rfl) HG3.out ⟨wr.heap.size, 0, none⟩ 1 1 [.int .i64 (x - y)] (by rfl) (by rfl) (one_new wr _) (one_cell _) (by decide) hmx hby hszA _ rfl ?_; intro g3 cp3 w3 hown hgrow hat hlt3)
        all_goals
          have HG4 : Hid (Gn w.heap.size w3 (.slice (some ⟨g3, 0, none⟩) (k + 1) cp3) (k + 1) (zl.take (k + 1))) := by
            show World.ownsRow _ _ _ _ _ _ _
            rw [HS2.out, List.map_append]; exact hown
          have HB3 := Lib.hid (HBA.out.grown hgrow (by simp; omega) HOB.out)
          clear hown hgrow hat
          go_wp2
          go_roundw
          case rel => exact ⟨k + 1, by omega, by go_num, HG4, HB3⟩
          case measure => simp [intOf]; omega
      · have hk' : k = n := by omega
        subst hk'
        have HG4 : Hid (Own w.heap.size wr u6 r) := by
          show Own _ _ _ _
          have := HG.out
          rw [List.take_of_length_le (by rw [HZ.out]; exact Nat.le_refl _)] at this
          rw [HR.out]
          exact Gn.own this HZ.out.symm
        go_wp2_with fail
        go_ret2
        exact ⟨_, ret_le HE.out.symm, HG4.out, HW.out⟩
  · exact refSub_len a b oa ob ca cb h w

end Go.Proofs.Ytcnagcdgpgijaaa.L
