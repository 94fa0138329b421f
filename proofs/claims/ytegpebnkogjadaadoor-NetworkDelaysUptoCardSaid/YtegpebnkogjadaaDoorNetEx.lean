/-
  DERIVED. The laws' sample network: its walk, and what is answered for it.
-/
import Derived.Test.YtegpebnkogjadaaDoorRefNet6
import Derived.Test.YtegpebnkogjadaaDoorNetWt
namespace Go.Proofs.YtegpebnkogjadaaDoor.T
open Go.RowKit
set_option maxRecDepth 8000

def smP : List ByteArray := [⟨#[65]⟩, ⟨#[66]⟩, ⟨#[67]⟩]
def smA (s : List (Int × Int)) : List ArcT := [⟨0, 1, 0, 0, [(0, 10)], []⟩, ⟨1, 2, 0, 0, [(0, 5)], s⟩, ⟨0, 2, 0, 9, [(0, 20)], []⟩]
theorem sm_net : netF smP (smA []) = [] := by decide +kernel
theorem sm_net2 : netF smP (smA [(13, 4)]) = [] := by decide +kernel
theorem sm_ok : NetOk smP (smA []) := netOk_of sm_net
theorem sm_ok2 : NetOk smP (smA [(13, 4)]) := netOk_of sm_net2
theorem sm_go : goV 3 (smA []) 0 0 2 3 = (23, 9, 0) := by decide +kernel
theorem sm_go2 : goV 3 (smA []) 0 2 0 3 = (0, 0, 12) := by decide +kernel
theorem sm_go3 : goV 3 (smA []) 0 0 3 3 = (0, 0, 11) := by decide +kernel
theorem sm_e1 : earL 3 (smA []) 0 0 3 = [3, 13, 18] := by decide +kernel
theorem sm_e2 : earL 3 (smA [(13, 4)]) 0 0 3 = [3, 13, 22] := by decide +kernel
theorem sm_e3 : earL 3 (smA [(13, 4)]) 0 0 2 = [2, 12, 17] := by decide +kernel
theorem sm_e4 : earL 3 (smA [(13, 4)]) 0 0 90 = [90, 100, 109] := by decide +kernel

theorem blk_new (W : World) (o : Obj) : (W.alloc o).heap[W.heap.size]? = some o := by
  show (W.heap.push o)[W.heap.size]? = some o
  simp
theorem blk_old {W : World} {n : Nat} {o : Obj} (x : Obj) (h : W.heap[n]? = some o) : (W.alloc x).heap[n]? = some o :=
  (Below.heap_alloc W x n (Array.getElem?_eq_some_iff.1 h).1).trans h
theorem blk_cell {W : World} {n : Nat} {cs : Array Value} {t : TypeId} (h : W.heap[n]? = some (.cells cs t)) (k : Nat) : W.cell? ⟨n, k, none⟩ = cs[k]? := by simp [World.cell?, h]
theorem seven (w : World) (o1 o2 o3 o4 o5 o6 o7 : Obj) : (((((((w.alloc o1).alloc o2).alloc o3).alloc o4).alloc o5).alloc o6).alloc o7).heap[w.heap.size + 1]? = some o2 ∧ (((((((w.alloc o1).alloc o2).alloc o3).alloc o4).alloc o5).alloc o6).alloc o7).heap[w.heap.size + 1 + 1 + 1]? = some o4 ∧ (((((((w.alloc o1).alloc o2).alloc o3).alloc o4).alloc o5).alloc o6).alloc o7).heap[w.heap.size + 1 + 1 + 1 + 1]? = some o5 ∧
    (((((((w.alloc o1).alloc o2).alloc o3).alloc o4).alloc o5).alloc o6).alloc o7).heap[w.heap.size + 1 + 1 + 1 + 1 + 1]? = some o6 ∧ (((((((w.alloc o1).alloc o2).alloc o3).alloc o4).alloc o5).alloc o6).alloc o7).heap[w.heap.size + 1 + 1 + 1 + 1 + 1 + 1]? = some o7 ∧ (((((((w.alloc o1).alloc o2).alloc o3).alloc o4).alloc o5).alloc o6).alloc o7).heap.size = w.heap.size + 7 := by
  have e2 := blk_new (w.alloc o1) o2
  have e4 := blk_new (((w.alloc o1).alloc o2).alloc o3) o4
  have e5 := blk_new ((((w.alloc o1).alloc o2).alloc o3).alloc o4) o5
  have e6 := blk_new (((((w.alloc o1).alloc o2).alloc o3).alloc o4).alloc o5) o6
  have e7 := blk_new ((((((w.alloc o1).alloc o2).alloc o3).alloc o4).alloc o5).alloc o6) o7
  simp only [World.size_alloc] at e2 e4 e5 e6 e7
  exact ⟨blk_old _ (blk_old _ (blk_old _ (blk_old _ (blk_old _ e2)))), blk_old _ (blk_old _ (blk_old _ e4)), blk_old _ (blk_old _ e5), blk_old _ e6, e7, by simp only [World.size_alloc]⟩

set_option maxHeartbeats 1600000 in
theorem sample_n (w : World) : Calls Tryd.prog 24 #[] w fun e w' => ∃ vp va, e = .returned (.agg #[vp, va]) ∧ Ss w' vp smP ∧ As w' va (smA []) ∧ Below w.heap.size w w' := by
  go_enter Tryd.func24, Tryd.ntmps24
  go_wp2_with fail
  refine bodyPost_ret (v := .agg #[.slice (some ⟨w.heap.size + 1, 0, none⟩) 3 3, .slice (some ⟨w.heap.size + 1 + 1 + 1 + 1 + 1 + 1, 0, none⟩) 3 3]) (by simp [results, Tryd.results24, go_sem]) rfl ⟨_, _, rfl, ?_, ?_, by go_grown⟩
  all_goals
    obtain ⟨h2, h4, h5, h6, h7, hsz⟩ := seven w _ _ _ _ _ _ _
  · refine ⟨some ⟨w.heap.size + 1, 0, none⟩, 3, rfl, fun i hi => ⟨_, rfl, ?_, ?_⟩⟩
    · show w.heap.size + 1 < _
      rw [hsz]; omega
    · match i, hi with
      | 0, _ => exact blk_cell h2 0
      | 1, _ => exact blk_cell h2 1
      | 2, _ => exact blk_cell h2 2
  · refine ⟨some ⟨w.heap.size + 1 + 1 + 1 + 1 + 1 + 1, 0, none⟩, 3, rfl, fun i hi => ?_⟩
    match i, hi with
    | 0, _ =>
      refine ⟨w.heap.size + 1 + 1 + 1 + 1 + 1 + 1, 0, .slice (some ⟨w.heap.size + 1 + 1 + 1, 0, none⟩) 1 1, .slice none 0 0, rfl, by omega, ⟨blk_cell h7 0, blk_cell h7 1, blk_cell h7 2, blk_cell h7 3, blk_cell h7 4, blk_cell h7 5⟩, ?_, Sl.nil _⟩
      refine ⟨some ⟨w.heap.size + 1 + 1 + 1, 0, none⟩, 1, rfl, fun j hj => ⟨_, _, rfl, by omega, ?_⟩⟩
      match j, hj with
      | 0, _ => exact ⟨blk_cell h4 0, blk_cell h4 1⟩
    | 1, _ =>
      refine ⟨w.heap.size + 1 + 1 + 1 + 1 + 1 + 1, 0, .slice (some ⟨w.heap.size + 1 + 1 + 1 + 1, 0, none⟩) 1 1, .slice none 0 0, rfl, by omega, ⟨blk_cell h7 6, blk_cell h7 7, blk_cell h7 8, blk_cell h7 9, blk_cell h7 10, blk_cell h7 11⟩, ?_, Sl.nil _⟩
      refine ⟨some ⟨w.heap.size + 1 + 1 + 1 + 1, 0, none⟩, 1, rfl, fun j hj => ⟨_, _, rfl, by omega, ?_⟩⟩
      match j, hj with
      | 0, _ => exact ⟨blk_cell h5 0, blk_cell h5 1⟩
    | 2, _ =>
      refine ⟨w.heap.size + 1 + 1 + 1 + 1 + 1 + 1, 0, .slice (some ⟨w.heap.size + 1 + 1 + 1 + 1 + 1, 0, none⟩) 1 1, .slice none 0 0, rfl, by omega, ⟨blk_cell h7 12, blk_cell h7 13, blk_cell h7 14, blk_cell h7 15, blk_cell h7 16, blk_cell h7 17⟩, ?_, Sl.nil _⟩
      refine ⟨some ⟨w.heap.size + 1 + 1 + 1 + 1 + 1, 0, none⟩, 1, rfl, fun j hj => ⟨_, _, rfl, by omega, ?_⟩⟩
      match j, hj with
      | 0, _ => exact ⟨blk_cell h6 0, blk_cell h6 1⟩

end Go.Proofs.YtegpebnkogjadaaDoor.T

