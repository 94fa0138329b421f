/-
  DERIVED. GQ: a part of the base of layer 13 (made by pack.py).
-/
import Derived.Test.YtomebalolmabnaaGreatDoorGA
import Derived.Test.YtomebalolmabnaaGreatDoorGF
import Derived.Test.YtomebalolmabnaaGreatDoorGP
import Derived.Test.YtomebalolmabnaaGreatDoorGD
import Derived.Deep.Upon
import Derived.Test.YtomebalolmabnaaGreatDoorGJ
import Derived.Test.YtomebalolmabnaaGreatDoorGL
/-! The laws of slack: simple, awake (by gen_ji.py). -/
namespace Go.Proofs.YtomebalolmabnaaGreatDoor.T
open Go.RowKit
set_option maxRecDepth 8000
attribute [local irreducible] wpList Code.wp wpAnyH

def smpT : InT := ⟨[⟨#[104, 117, 98]⟩, ⟨#[97, 115, 104]⟩], [⟨0, 1, 0, 0, [(0, 20)], []⟩, ⟨1, 0, 0, 0, [(0, 20)], []⟩], [⟨⟨#[118, 97, 110]⟩, 1, 0, 0, [5], 0, 0, 0, 1000, 1000, 0, 0, 0, 0⟩], [⟨⟨#[111, 97]⟩, [1], -1, 0, 0, 0, 1, 0, 50, 0, 0, 0, 1, -1, -1, false⟩], [], []⟩
def shT : ShT := ⟨false, 0, [⟨20, 20, 20, false⟩], 40, 0⟩
theorem smpT_ins {w : World} {qp q1 qa qc qt ql qo : Nat} (E0 : Cb w qp #[.string ⟨#[104, 117, 98]⟩, .string ⟨#[97, 115, 104]⟩] 9) (E1 : Cb w q1 #[.int .i64 0, .int .i64 20] 71)
  (E3 : Cb w qa #[.int .i64 0, .int .i64 1, .int .i64 0, .int .i64 0, .slice (some ⟨q1, 0, none⟩) 1 1, .slice none 0 0, .int .i64 1, .int .i64 0, .int .i64 0, .int .i64 0, .slice (some ⟨q1, 0, none⟩) 1 1, .slice none 0 0] 74) (E4 : Cb w qc #[.int .i64 5] 3)
  (E5 : Cb w qt #[.string ⟨#[118, 97, 110]⟩, .int .i64 1, .int .i64 0, .int .i64 0, .slice (some ⟨qc, 0, none⟩) 1 1, .int .i64 0, .int .i64 0, .int .i64 0, .int .i64 1000, .int .i64 1000, .int .i64 0, .int .i64 0, .int .i64 0, .int .i64 0] 80) (E6 : Cb w ql #[.int .i64 1] 3)
  (E7 : Cb w qo #[.string ⟨#[111, 97]⟩, .slice (some ⟨ql, 0, none⟩) 1 1, .int .i64 (-1), .int .i64 0, .int .i64 0, .int .i64 0, .int .i64 1, .int .i64 0, .int .i64 50, .int .i64 0, .int .i64 0, .int .i64 0, .int .i64 1, .int .i64 (-1), .int .i64 (-1), .bool false] 78) :
  Ins w ⟨some ⟨qp, 0, none⟩, 2, some ⟨qa, 0, none⟩, 2, some ⟨qt, 0, none⟩, 1, some ⟨qo, 0, none⟩, 1, none, 0, none, 0⟩ smpT := by
 refine ⟨?_, ?_, ?_, ?_, ps_nil _, ps_nil _⟩
 ·exact ⟨_, 2, rfl, fun i hi => by
   have h1 : i < 2 := hi
   match i, h1 with
   | 0, _ => exact ⟨_, rfl, E0.lt, E0.cell 0 rfl⟩
   | 1, _ => exact ⟨_, rfl, E0.lt, E0.cell 1 rfl⟩⟩
 ·exact ⟨_, 2, rfl, fun i hi => by
   have h1 : i < 2 := hi
   match i, h1 with
   | 0, _ => exact ⟨_, 0, _, _, rfl, E3.lt, ⟨E3.cell 0 rfl, E3.cell 1 rfl, E3.cell 2 rfl, E3.cell 3 rfl, E3.cell 4 rfl, E3.cell 5 rfl⟩, ps_one E1, ps_nil _⟩
   | 1, _ => exact ⟨_, 0, _, _, rfl, E3.lt, ⟨E3.cell 6 rfl, E3.cell 7 rfl, E3.cell 8 rfl, E3.cell 9 rfl, E3.cell 10 rfl, E3.cell 11 rfl⟩, ps_one E1, ps_nil _⟩⟩
 ·exact ⟨_, 1, rfl, fun i hi => by
   have h1 : i < 1 := hi
   match i, h1 with
   | 0, _ => exact ⟨_, 0, _, rfl, E5.lt, ⟨E5.cell 0 rfl, E5.cell 1 rfl, E5.cell 2 rfl, E5.cell 3 rfl, E5.cell 4 rfl, E5.cell 5 rfl, E5.cell 6 rfl, E5.cell 7 rfl, E5.cell 8 rfl, E5.cell 9 rfl, E5.cell 10 rfl, E5.cell 11 rfl, E5.cell 12 rfl, E5.cell 13 rfl⟩, li_one E4⟩⟩
 ·exact ⟨_, 1, rfl, fun i hi => by
   have h1 : i < 1 := hi
   match i, h1 with
   | 0, _ => exact ⟨_, 0, _, rfl, E7.lt, ⟨E7.cell 0 rfl, E7.cell 1 rfl, E7.cell 2 rfl, E7.cell 3 rfl, E7.cell 4 rfl, E7.cell 5 rfl, E7.cell 6 rfl, E7.cell 7 rfl, E7.cell 8 rfl, E7.cell 9 rfl, E7.cell 10 rfl, E7.cell 11 rfl, E7.cell 12 rfl, E7.cell 13 rfl, E7.cell 14 rfl, E7.cell 15 rfl⟩, li_one E6⟩⟩
theorem rw_tim {w : World} {q : Nat} (h : Cb w q #[.int .i64 20, .int .i64 20, .int .i64 20, .bool false] 61) : Rw w q 0 4 (fun k => tmE (shT.T.getD k tm0)) 1 (some ⟨q, 0, none⟩) := fun k hk => ⟨rfl, h.lt, fun j v hj => by
 have hk0 : k = 0 := by omega
 subst hk0
 have hj : [Value.int .i64 20, .int .i64 20, .int .i64 20, .bool false][j]? = some v := hj
 have h9 := h.cell j (v := v) (by rw [List.getElem?_toArray]; exact hj)
 rw [Nat.zero_mul, Nat.zero_add]
 exact h9⟩
theorem rw_two9 {w : World} {q : Nat} {a b : Int} (h : Cb w q #[.int .i64 a, .int .i64 b] 3) : Rw w q 0 1 (fun k => inE ([a, b].getD k 0)) [a, b].length (some ⟨q, 0, none⟩) := fun k hk => ⟨rfl, h.lt, fun j v hj => by
 match k, j, hk, hj with
 | 0, 0, _, hj => simp [inE] at hj; subst hj; exact h.cell 0 rfl
 | 1, 0, _, hj => simp [inE] at hj; subst hj; exact h.cell 1 rfl
 | 0, j + 1, _, hj => simp [inE] at hj
 | 1, j + 1, _, hj => simp [inE] at hj⟩
theorem st_f : inF smpT = [] := by decide +kernel
theorem st_c : chkE smpT 0 0 lV [] shT = 0 := by decide +kernel
theorem st_s : slkL smpT 0 0 lV [] shT = [30, 960] := by decide +kernel
theorem st_l : ltsL smpT 0 0 lV [] shT = [50, 1000] := by decide +kernel
theorem st_a : aftE smpT 0 0 lV [] shT 0 30 = 0 := by decide +kernel
theorem st_b : (aftS smpT 0 0 lV [] shT 0 30).e = 70 := by decide +kernel
theorem st_d : aftE smpT 0 0 lV [] shT 0 31 = 14 := by decide +kernel
theorem st_ok (hp : posD smpT.tl smpT.ol 0 0 lV = true) : (crs smpT 0 0 lV).Ok := crs_ok st_f (by show (2 : Nat) ≤ 1000000; decide) hp
set_option maxHeartbeats 2000000 in
theorem simple_n (w : World) : Calls Tryz.prog 16 #[] w fun e w' => ∃ (k : Iv) (bV bT : Nat), e = .returned (.agg #[.slice k.o0 2 k.c0, .slice k.o1 2 k.c1, .slice k.o2 1 k.c2, .slice k.o3 1 k.c3, .slice k.o4 0 k.c4, .slice k.o5 0 k.c5, .int .i64 0, .int .i64 0, .slice none 0 0, .slice (some ⟨bV, 0, none⟩) 1 1, .bool false, .int .i64 0, .slice (some ⟨bT, 0, none⟩) 1 1, .int .i64 40, .int .i64 0]) ∧ Ins w' k smpT ∧ Rw w' bV 0 2 (vF [(0, true)]) 1 (some ⟨bV, 0, none⟩) ∧ Rw w' bT 0 4 (fun k => tmE (shT.T.getD k tm0)) 1 (some ⟨bT, 0, none⟩) ∧ Below w.heap.size w w' := by
 have HB : Below w.heap.size w w := Below.refl _ _
 refine sx_enter Tryz.func16 rfl [] (by kernel_rfl) ?_
 refine Yq ?_
 refine Za rfl #[.slice none 0 0, .slice none 0 0, .slice none 0 0, .slice none 0 0, .slice none 0 0, .slice none 0 0, .int .i64 0, .int .i64 0, .slice none 0 0, .slice none 0 0, .bool false, .int .i64 0, .slice none 0 0, .int .i64 0, .int .i64 0] 39 (fun W1 hb M2 z1 yM2 => ?_)
 replace HB := over HB hb
 clear hb
 refine Yn (Yo (Yq (Zv rfl (.agg #[.int .i64 0, .int .i64 20]) ?_)))
 obtain ⟨W3, hW, hb, hq⟩ := laidA W1 #[.int .i64 0, .int .i64 20] 71
 refine sx_mem (by kernel_rfl) rfl rfl (.slice (some ⟨W1.heap.size, 0, none⟩) 1 1) W3 (by rw [← hW]; kernel_rfl) ?_
 replace HB := over HB hb
 replace M2 := M2.below hb
 have z2 := hb.size
 have M4 := hq
 have yM4 := hq.lt
 clear hq hb hW
 refine Zv rfl (.slice (some ⟨W1.heap.size, 0, none⟩) 1 1) (Yn (Yo (Yq ?_)))
 obtain ⟨W5, hW, hb, hq⟩ := laidA W3 #[.string ⟨#[104, 117, 98]⟩, .string ⟨#[97, 115, 104]⟩] 9
 refine sx_mem (by kernel_rfl) rfl rfl (.slice (some ⟨W3.heap.size, 0, none⟩) 2 2) W5 (by rw [← hW]; kernel_rfl) ?_
 replace HB := over HB hb
 replace M2 := M2.below hb
 replace M4 := M4.below hb
 have z3 := hb.size
 have M6 := hq
 have yM6 := hq.lt
 clear hq hb hW
 refine Zv rfl (.slice (some ⟨W1.heap.size, 0, none⟩) 1 1) (Zv rfl (.agg #[.int .i64 0, .int .i64 1, .int .i64 0, .int .i64 0, .slice (some ⟨W1.heap.size, 0, none⟩) 1 1, .slice none 0 0]) (Zv rfl (.slice (some ⟨W1.heap.size, 0, none⟩) 1 1) (Zv rfl (.agg #[.int .i64 1, .int .i64 0, .int .i64 0, .int .i64 0, .slice (some ⟨W1.heap.size, 0, none⟩) 1 1, .slice none 0 0]) ?_)))
 obtain ⟨W7, hW, hb, hq⟩ := laidA W5 #[.int .i64 0, .int .i64 1, .int .i64 0, .int .i64 0, .slice (some ⟨W1.heap.size, 0, none⟩) 1 1, .slice none 0 0, .int .i64 1, .int .i64 0, .int .i64 0, .int .i64 0, .slice (some ⟨W1.heap.size, 0, none⟩) 1 1, .slice none 0 0] 74
 refine sx_mem (by kernel_rfl) rfl rfl (.slice (some ⟨W5.heap.size, 0, none⟩) 2 2) W7 (by rw [← hW]; kernel_rfl) ?_
 replace HB := over HB hb
 replace M2 := M2.below hb
 replace M4 := M4.below hb
 replace M6 := M6.below hb
 have z4 := hb.size
 have M8 := hq
 have yM8 := hq.lt
 clear hq hb hW
 refine Zv rfl (.agg #[.slice (some ⟨W3.heap.size, 0, none⟩) 2 2, .slice (some ⟨W5.heap.size, 0, none⟩) 2 2]) ?_
 obtain ⟨W10, hW⟩ : ∃ W, (W7.alloc (.cells #[.slice none 0 0, .slice none 0 0] 25)).setRow W7.heap.size #[.slice (some ⟨W3.heap.size, 0, none⟩) 2 2, .slice (some ⟨W5.heap.size, 0, none⟩) 2 2] = W := ⟨_, rfl⟩
 have hb := hW ▸ below_var W7 (.cells #[.slice none 0 0, .slice none 0 0] 25) #[.slice (some ⟨W3.heap.size, 0, none⟩) 2 2, .slice (some ⟨W5.heap.size, 0, none⟩) 2 2]
 have hq : Cb W10 W7.heap.size #[.slice (some ⟨W3.heap.size, 0, none⟩) 2 2, .slice (some ⟨W5.heap.size, 0, none⟩) 2 2] 25 := hW ▸ Cb.row (Cb.made W7 #[.slice none 0 0, .slice none 0 0] 25) _
 refine sx_mem (by kernel_rfl) rfl rfl (pt W7.heap.size 0) (W7.alloc (.cells #[.slice none 0 0, .slice none 0 0] 25)) (by kernel_rfl) ?_
 refine Zs (cells := #[.slice (some ⟨W3.heap.size, 0, none⟩) 2 2, .slice (some ⟨W5.heap.size, 0, none⟩) 2 2]) rfl rfl (Cb.made W7 #[.slice none 0 0, .slice none 0 0] 25) ?_
 rw [hW]
 replace HB := over HB hb
 replace M2 := M2.below hb
 replace M4 := M4.below hb
 replace M6 := M6.below hb
 replace M8 := M8.below hb
 have z5 := hb.size
 have M9 := hq
 have yM9 := hq.lt
 clear hq hb hW
 refine Yn (Yo (Yq ?_))
 obtain ⟨W11, hW, hb, hq⟩ := laidA W10 #[.int .i64 1] 3
 refine sx_mem (by kernel_rfl) rfl rfl (.slice (some ⟨W10.heap.size, 0, none⟩) 1 1) W11 (by rw [← hW]; kernel_rfl) ?_
 replace HB := over HB hb
 replace M2 := M2.below hb
 replace M4 := M4.below hb
 replace M6 := M6.below hb
 replace M8 := M8.below hb
 replace M9 := M9.below hb
 have z6 := hb.size
 have M12 := hq
 have yM12 := hq.lt
 clear hq hb hW
 refine Zv rfl (.agg #[.int .i64 (-1), .int .i64 0, .int .i64 0, .int .i64 0]) (Zv rfl (.agg #[.int .i64 1, .int .i64 0, .int .i64 50, .int .i64 0]) (Zv rfl (.agg #[.string ⟨#[111, 97]⟩, .slice (some ⟨W10.heap.size, 0, none⟩) 1 1, .int .i64 (-1), .int .i64 0, .int .i64 0, .int .i64 0, .int .i64 1, .int .i64 0, .int .i64 50, .int .i64 0, .int .i64 0, .int .i64 0, .int .i64 1, .int .i64 (-1), .int .i64 (-1), .bool false]) ?_))
 obtain ⟨W14, hW⟩ : ∃ W, (W11.alloc (.cells #[.string ⟨#[]⟩, .slice none 0 0, .int .i64 0, .int .i64 0, .int .i64 0, .int .i64 0, .int .i64 0, .int .i64 0, .int .i64 0, .int .i64 0, .int .i64 0, .int .i64 0, .int .i64 0, .int .i64 0, .int .i64 0, .bool false] 78)).setRow W11.heap.size #[.string ⟨#[111, 97]⟩, .slice (some ⟨W10.heap.size, 0, none⟩) 1 1, .int .i64 (-1), .int .i64 0, .int .i64 0, .int .i64 0, .int .i64 1, .int .i64 0, .int .i64 50, .int .i64 0, .int .i64 0, .int .i64 0, .int .i64 1, .int .i64 (-1), .int .i64 (-1), .bool false] = W := ⟨_, rfl⟩
 have hb := hW ▸ below_var W11 (.cells #[.string ⟨#[]⟩, .slice none 0 0, .int .i64 0, .int .i64 0, .int .i64 0, .int .i64 0, .int .i64 0, .int .i64 0, .int .i64 0, .int .i64 0, .int .i64 0, .int .i64 0, .int .i64 0, .int .i64 0, .int .i64 0, .bool false] 78) #[.string ⟨#[111, 97]⟩, .slice (some ⟨W10.heap.size, 0, none⟩) 1 1, .int .i64 (-1), .int .i64 0, .int .i64 0, .int .i64 0, .int .i64 1, .int .i64 0, .int .i64 50, .int .i64 0, .int .i64 0, .int .i64 0, .int .i64 1, .int .i64 (-1), .int .i64 (-1), .bool false]
 have hq : Cb W14 W11.heap.size #[.string ⟨#[111, 97]⟩, .slice (some ⟨W10.heap.size, 0, none⟩) 1 1, .int .i64 (-1), .int .i64 0, .int .i64 0, .int .i64 0, .int .i64 1, .int .i64 0, .int .i64 50, .int .i64 0, .int .i64 0, .int .i64 0, .int .i64 1, .int .i64 (-1), .int .i64 (-1), .bool false] 78 := hW ▸ Cb.row (Cb.made W11 #[.string ⟨#[]⟩, .slice none 0 0, .int .i64 0, .int .i64 0, .int .i64 0, .int .i64 0, .int .i64 0, .int .i64 0, .int .i64 0, .int .i64 0, .int .i64 0, .int .i64 0, .int .i64 0, .int .i64 0, .int .i64 0, .bool false] 78) _
 refine sx_mem (by kernel_rfl) rfl rfl (pt W11.heap.size 0) (W11.alloc (.cells #[.string ⟨#[]⟩, .slice none 0 0, .int .i64 0, .int .i64 0, .int .i64 0, .int .i64 0, .int .i64 0, .int .i64 0, .int .i64 0, .int .i64 0, .int .i64 0, .int .i64 0, .int .i64 0, .int .i64 0, .int .i64 0, .bool false] 78)) (by kernel_rfl) ?_
 refine Zs (cells := #[.string ⟨#[111, 97]⟩, .slice (some ⟨W10.heap.size, 0, none⟩) 1 1, .int .i64 (-1), .int .i64 0, .int .i64 0, .int .i64 0, .int .i64 1, .int .i64 0, .int .i64 50, .int .i64 0, .int .i64 0, .int .i64 0, .int .i64 1, .int .i64 (-1), .int .i64 (-1), .bool false]) rfl rfl (Cb.made W11 #[.string ⟨#[]⟩, .slice none 0 0, .int .i64 0, .int .i64 0, .int .i64 0, .int .i64 0, .int .i64 0, .int .i64 0, .int .i64 0, .int .i64 0, .int .i64 0, .int .i64 0, .int .i64 0, .int .i64 0, .int .i64 0, .bool false] 78) ?_
 rw [hW]
 replace HB := over HB hb
 replace M2 := M2.below hb
 replace M4 := M4.below hb
 replace M6 := M6.below hb
 replace M8 := M8.below hb
 replace M9 := M9.below hb
 replace M12 := M12.below hb
 have z7 := hb.size
 have M13 := hq
 have yM13 := hq.lt
 clear hq hb hW
 refine Yn (Yo (Yq ?_))
 obtain ⟨W15, hW, hb, hq⟩ := laidA W14 #[.int .i64 5] 3
 refine sx_mem (by kernel_rfl) rfl rfl (.slice (some ⟨W14.heap.size, 0, none⟩) 1 1) W15 (by rw [← hW]; kernel_rfl) ?_
 replace HB := over HB hb
 replace M2 := M2.below hb
 replace M4 := M4.below hb
 replace M6 := M6.below hb
 replace M8 := M8.below hb
 replace M9 := M9.below hb
 replace M12 := M12.below hb
 replace M13 := M13.below hb
 have z8 := hb.size
 have M16 := hq
 have yM16 := hq.lt
 clear hq hb hW
 refine Zv rfl (.agg #[.string ⟨#[118, 97, 110]⟩, .int .i64 1, .int .i64 0, .int .i64 0, .slice (some ⟨W14.heap.size, 0, none⟩) 1 1, .int .i64 0, .int .i64 0, .int .i64 0, .int .i64 1000, .int .i64 1000, .int .i64 0, .int .i64 0, .int .i64 0, .int .i64 0]) ?_
 obtain ⟨W18, hW⟩ : ∃ W, (W15.alloc (.cells nZT 80)).setRow W15.heap.size #[.string ⟨#[118, 97, 110]⟩, .int .i64 1, .int .i64 0, .int .i64 0, .slice (some ⟨W14.heap.size, 0, none⟩) 1 1, .int .i64 0, .int .i64 0, .int .i64 0, .int .i64 1000, .int .i64 1000, .int .i64 0, .int .i64 0, .int .i64 0, .int .i64 0] = W := ⟨_, rfl⟩
 have hb := hW ▸ below_var W15 (.cells nZT 80) #[.string ⟨#[118, 97, 110]⟩, .int .i64 1, .int .i64 0, .int .i64 0, .slice (some ⟨W14.heap.size, 0, none⟩) 1 1, .int .i64 0, .int .i64 0, .int .i64 0, .int .i64 1000, .int .i64 1000, .int .i64 0, .int .i64 0, .int .i64 0, .int .i64 0]
 have hq : Cb W18 W15.heap.size #[.string ⟨#[118, 97, 110]⟩, .int .i64 1, .int .i64 0, .int .i64 0, .slice (some ⟨W14.heap.size, 0, none⟩) 1 1, .int .i64 0, .int .i64 0, .int .i64 0, .int .i64 1000, .int .i64 1000, .int .i64 0, .int .i64 0, .int .i64 0, .int .i64 0] 80 := hW ▸ Cb.row (Cb.made W15 nZT 80) _
 refine sx_mem (by kernel_rfl) rfl rfl (pt W15.heap.size 0) (W15.alloc (.cells nZT 80)) (by kernel_rfl) ?_
 refine Zs (cells := #[.string ⟨#[118, 97, 110]⟩, .int .i64 1, .int .i64 0, .int .i64 0, .slice (some ⟨W14.heap.size, 0, none⟩) 1 1, .int .i64 0, .int .i64 0, .int .i64 0, .int .i64 1000, .int .i64 1000, .int .i64 0, .int .i64 0, .int .i64 0, .int .i64 0]) rfl rfl (Cb.made W15 nZT 80) ?_
 rw [hW]
 replace HB := over HB hb
 replace M2 := M2.below hb
 replace M4 := M4.below hb
 replace M6 := M6.below hb
 replace M8 := M8.below hb
 replace M9 := M9.below hb
 replace M12 := M12.below hb
 replace M13 := M13.below hb
 replace M16 := M16.below hb
 have z9 := hb.size
 have M17 := hq
 have yM17 := hq.lt
 clear hq hb hW
 refine Yn (Yo (Yq (Zw rfl (.agg #[.slice (some ⟨W3.heap.size, 0, none⟩) 2 2, .slice (some ⟨W5.heap.size, 0, none⟩) 2 2]) (ex_load rfl M9 (by kernel_rfl) Tryz.underlying25 rfl (by kernel_rfl)) (Zw rfl (.agg #[.string ⟨#[118, 97, 110]⟩, .int .i64 1, .int .i64 0, .int .i64 0, .slice (some ⟨W14.heap.size, 0, none⟩) 1 1, .int .i64 0, .int .i64 0, .int .i64 0, .int .i64 1000, .int .i64 1000, .int .i64 0, .int .i64 0, .int .i64 0, .int .i64 0]) (ex_load rfl M17 (by kernel_rfl) Tryz.underlying80 rfl (by kernel_rfl)) ?_))))
 obtain ⟨W19, hW, hb, hq⟩ := laidA W18 #[.string ⟨#[118, 97, 110]⟩, .int .i64 1, .int .i64 0, .int .i64 0, .slice (some ⟨W14.heap.size, 0, none⟩) 1 1, .int .i64 0, .int .i64 0, .int .i64 0, .int .i64 1000, .int .i64 1000, .int .i64 0, .int .i64 0, .int .i64 0, .int .i64 0] 80
 refine sx_mem (by kernel_rfl) rfl rfl (.slice (some ⟨W18.heap.size, 0, none⟩) 1 1) W19 (by rw [← hW]; kernel_rfl) ?_
 replace HB := over HB hb
 replace M2 := M2.below hb
 replace M4 := M4.below hb
 replace M6 := M6.below hb
 replace M8 := M8.below hb
 replace M12 := M12.below hb
 replace M13 := M13.below hb
 replace M16 := M16.below hb
 have z10 := hb.size
 have M20 := hq
 have yM20 := hq.lt
 clear hq hb hW
 refine Zw rfl (.agg #[.string ⟨#[111, 97]⟩, .slice (some ⟨W10.heap.size, 0, none⟩) 1 1, .int .i64 (-1), .int .i64 0, .int .i64 0, .int .i64 0, .int .i64 1, .int .i64 0, .int .i64 50, .int .i64 0, .int .i64 0, .int .i64 0, .int .i64 1, .int .i64 (-1), .int .i64 (-1), .bool false]) (ex_load rfl M13 (by kernel_rfl) Tryz.underlying78 rfl (by kernel_rfl)) ?_
 obtain ⟨W21, hW, hb, hq⟩ := laidA W19 #[.string ⟨#[111, 97]⟩, .slice (some ⟨W10.heap.size, 0, none⟩) 1 1, .int .i64 (-1), .int .i64 0, .int .i64 0, .int .i64 0, .int .i64 1, .int .i64 0, .int .i64 50, .int .i64 0, .int .i64 0, .int .i64 0, .int .i64 1, .int .i64 (-1), .int .i64 (-1), .bool false] 78
 refine sx_mem (by kernel_rfl) rfl rfl (.slice (some ⟨W19.heap.size, 0, none⟩) 1 1) W21 (by rw [← hW]; kernel_rfl) ?_
 replace HB := over HB hb
 replace M2 := M2.below hb
 replace M4 := M4.below hb
 replace M6 := M6.below hb
 replace M8 := M8.below hb
 replace M12 := M12.below hb
 replace M16 := M16.below hb
 replace M20 := M20.below hb
 have z11 := hb.size
 have M22 := hq
 have yM22 := hq.lt
 clear hq hb hW
 refine Zv rfl (.agg #[.slice (some ⟨W3.heap.size, 0, none⟩) 2 2, .slice (some ⟨W5.heap.size, 0, none⟩) 2 2, .slice (some ⟨W18.heap.size, 0, none⟩) 1 1, .slice (some ⟨W19.heap.size, 0, none⟩) 1 1, .slice none 0 0, .slice none 0 0]) ?_
 obtain ⟨W24, hW⟩ : ∃ W, (W21.alloc (.cells #[.slice none 0 0, .slice none 0 0, .slice none 0 0, .slice none 0 0, .slice none 0 0, .slice none 0 0] 30)).setRow W21.heap.size #[.slice (some ⟨W3.heap.size, 0, none⟩) 2 2, .slice (some ⟨W5.heap.size, 0, none⟩) 2 2, .slice (some ⟨W18.heap.size, 0, none⟩) 1 1, .slice (some ⟨W19.heap.size, 0, none⟩) 1 1, .slice none 0 0, .slice none 0 0] = W := ⟨_, rfl⟩
 have hb := hW ▸ below_var W21 (.cells #[.slice none 0 0, .slice none 0 0, .slice none 0 0, .slice none 0 0, .slice none 0 0, .slice none 0 0] 30) #[.slice (some ⟨W3.heap.size, 0, none⟩) 2 2, .slice (some ⟨W5.heap.size, 0, none⟩) 2 2, .slice (some ⟨W18.heap.size, 0, none⟩) 1 1, .slice (some ⟨W19.heap.size, 0, none⟩) 1 1, .slice none 0 0, .slice none 0 0]
 have hq : Cb W24 W21.heap.size #[.slice (some ⟨W3.heap.size, 0, none⟩) 2 2, .slice (some ⟨W5.heap.size, 0, none⟩) 2 2, .slice (some ⟨W18.heap.size, 0, none⟩) 1 1, .slice (some ⟨W19.heap.size, 0, none⟩) 1 1, .slice none 0 0, .slice none 0 0] 30 := hW ▸ Cb.row (Cb.made W21 #[.slice none 0 0, .slice none 0 0, .slice none 0 0, .slice none 0 0, .slice none 0 0, .slice none 0 0] 30) _
 refine sx_mem (by kernel_rfl) rfl rfl (pt W21.heap.size 0) (W21.alloc (.cells #[.slice none 0 0, .slice none 0 0, .slice none 0 0, .slice none 0 0, .slice none 0 0, .slice none 0 0] 30)) (by kernel_rfl) ?_
 refine Zs (cells := #[.slice (some ⟨W3.heap.size, 0, none⟩) 2 2, .slice (some ⟨W5.heap.size, 0, none⟩) 2 2, .slice (some ⟨W18.heap.size, 0, none⟩) 1 1, .slice (some ⟨W19.heap.size, 0, none⟩) 1 1, .slice none 0 0, .slice none 0 0]) rfl rfl (Cb.made W21 #[.slice none 0 0, .slice none 0 0, .slice none 0 0, .slice none 0 0, .slice none 0 0, .slice none 0 0] 30) ?_
 rw [hW]
 replace HB := over HB hb
 replace M2 := M2.below hb
 replace M4 := M4.below hb
 replace M6 := M6.below hb
 replace M8 := M8.below hb
 replace M12 := M12.below hb
 replace M16 := M16.below hb
 replace M20 := M20.below hb
 replace M22 := M22.below hb
 have z12 := hb.size
 have M23 := hq
 have yM23 := hq.lt
 clear hq hb hW
 refine Yn (Yo (Yq (Zw rfl (.agg #[.slice (some ⟨W3.heap.size, 0, none⟩) 2 2, .slice (some ⟨W5.heap.size, 0, none⟩) 2 2, .slice (some ⟨W18.heap.size, 0, none⟩) 1 1, .slice (some ⟨W19.heap.size, 0, none⟩) 1 1, .slice none 0 0, .slice none 0 0]) (ex_load rfl M23 (by kernel_rfl) Tryz.underlying30 rfl (by kernel_rfl)) (Zv rfl (.agg #[.int .i64 0, .bool true]) ?_))))
 obtain ⟨W25, hW, hb, hq⟩ := laidA W24 #[.int .i64 0, .bool true] 82
 refine sx_mem (by kernel_rfl) rfl rfl (.slice (some ⟨W24.heap.size, 0, none⟩) 1 1) W25 (by rw [← hW]; kernel_rfl) ?_
 replace HB := over HB hb
 replace M2 := M2.below hb
 replace M4 := M4.below hb
 replace M6 := M6.below hb
 replace M8 := M8.below hb
 replace M12 := M12.below hb
 replace M16 := M16.below hb
 replace M20 := M20.below hb
 replace M22 := M22.below hb
 have z13 := hb.size
 have M26 := hq
 have yM26 := hq.lt
 clear hq hb hW
 refine Zv rfl (.agg #[.int .i64 0, .int .i64 0, .slice none 0 0, .slice (some ⟨W24.heap.size, 0, none⟩) 1 1]) (Zv rfl (.agg #[.int .i64 20, .int .i64 20, .int .i64 20, .bool false]) ?_)
 obtain ⟨W27, hW, hb, hq⟩ := laidA W25 #[.int .i64 20, .int .i64 20, .int .i64 20, .bool false] 61
 refine sx_mem (by kernel_rfl) rfl rfl (.slice (some ⟨W25.heap.size, 0, none⟩) 1 1) W27 (by rw [← hW]; kernel_rfl) ?_
 replace HB := over HB hb
 replace M2 := M2.below hb
 replace M4 := M4.below hb
 replace M6 := M6.below hb
 replace M8 := M8.below hb
 replace M12 := M12.below hb
 replace M16 := M16.below hb
 replace M20 := M20.below hb
 replace M22 := M22.below hb
 replace M26 := M26.below hb
 have z14 := hb.size
 have M28 := hq
 have yM28 := hq.lt
 clear hq hb hW
 refine Zv rfl (.agg #[.bool false, .int .i64 0, .slice (some ⟨W25.heap.size, 0, none⟩) 1 1, .int .i64 40, .int .i64 0]) (Zv rfl (.agg #[.slice (some ⟨W3.heap.size, 0, none⟩) 2 2, .slice (some ⟨W5.heap.size, 0, none⟩) 2 2, .slice (some ⟨W18.heap.size, 0, none⟩) 1 1, .slice (some ⟨W19.heap.size, 0, none⟩) 1 1, .slice none 0 0, .slice none 0 0, .int .i64 0, .int .i64 0, .slice none 0 0, .slice (some ⟨W24.heap.size, 0, none⟩) 1 1, .bool false, .int .i64 0, .slice (some ⟨W25.heap.size, 0, none⟩) 1 1, .int .i64 40, .int .i64 0]) ?_)
 refine Zr (cells := #[.slice (some ⟨W3.heap.size, 0, none⟩) 2 2, .slice (some ⟨W5.heap.size, 0, none⟩) 2 2, .slice (some ⟨W18.heap.size, 0, none⟩) 1 1, .slice (some ⟨W19.heap.size, 0, none⟩) 1 1, .slice none 0 0, .slice none 0 0, .int .i64 0, .int .i64 0, .slice none 0 0, .slice (some ⟨W24.heap.size, 0, none⟩) 1 1, .bool false, .int .i64 0, .slice (some ⟨W25.heap.size, 0, none⟩) 1 1, .int .i64 40, .int .i64 0]) rfl rfl M2 (fun W29 hg hq => ?_)
 replace HB := HB.grown hg (by omega) (oG (by omega))
 replace M4 := M4.kept hg (by omega)
 replace M6 := M6.kept hg (by omega)
 replace M8 := M8.kept hg (by omega)
 replace M12 := M12.kept hg (by omega)
 replace M16 := M16.kept hg (by omega)
 replace M20 := M20.kept hg (by omega)
 replace M22 := M22.kept hg (by omega)
 replace M26 := M26.kept hg (by omega)
 replace M28 := M28.kept hg (by omega)
 have z15 := hg.size
 replace M2 := hq
 clear hq hg
 refine Yn (Yo (wp_ret ?_))
 have hins := smpT_ins M6 M4 M8 M16 M20 M12 M22
 have hvis := rw_vis M26
 have htim := rw_tim M28
 exact sx_retc M2 rfl rfl rfl Tryz.underlying39 rfl (by kernel_rfl) ⟨_, _, _, rfl, hins, hvis, htim, HB⟩
theorem awake19_n (w : World) (hT : Tab w) : Calls Tryz.prog 6 #[] w fun e w' => e = .returned (.bool true) ∧ Below w.heap.size w w' := by
 have HB : Below w.heap.size w w := Below.refl _ _
 refine sx_enter Tryz.func6 rfl [] (by kernel_rfl) ?_
 refine Yq (Zv rfl (.bool false) (Yn (Yo (Yq ?_))))
 refine Zc rfl (simple_n w) ?_
 rintro e W1 ⟨k, bV, bT, rfl, hI, hV, hM, hb⟩
 obtain ⟨U, hU⟩ : ∃ W, W1 = W := ⟨_, rfl⟩
 replace hI := hU ▸ hI
 replace hV := hU ▸ hV
 replace hM := hU ▸ hM
 have HU : Below U.heap.size U W1 := by rw [hU]; exact Below.refl _ _
 clear hU
 replace HB := over HB hb
 have z1 := hb.size
 clear hb
 refine ⟨_, rfl, ?_⟩
 obtain ⟨W3, hW⟩ : ∃ W, (W1.alloc (.cells #[.slice none 0 0, .slice none 0 0, .slice none 0 0, .slice none 0 0, .slice none 0 0, .slice none 0 0, .int .i64 0, .int .i64 0, .slice none 0 0, .slice none 0 0, .bool false, .int .i64 0, .slice none 0 0, .int .i64 0, .int .i64 0] 39)).setRow W1.heap.size #[.slice k.o0 2 k.c0, .slice k.o1 2 k.c1, .slice k.o2 1 k.c2, .slice k.o3 1 k.c3, .slice k.o4 0 k.c4, .slice k.o5 0 k.c5, .int .i64 0, .int .i64 0, .slice none 0 0, .slice (some ⟨bV, 0, none⟩) 1 1, .bool false, .int .i64 0, .slice (some ⟨bT, 0, none⟩) 1 1, .int .i64 40, .int .i64 0] = W := ⟨_, rfl⟩
 have hb := hW ▸ below_var W1 (.cells #[.slice none 0 0, .slice none 0 0, .slice none 0 0, .slice none 0 0, .slice none 0 0, .slice none 0 0, .int .i64 0, .int .i64 0, .slice none 0 0, .slice none 0 0, .bool false, .int .i64 0, .slice none 0 0, .int .i64 0, .int .i64 0] 39) #[.slice k.o0 2 k.c0, .slice k.o1 2 k.c1, .slice k.o2 1 k.c2, .slice k.o3 1 k.c3, .slice k.o4 0 k.c4, .slice k.o5 0 k.c5, .int .i64 0, .int .i64 0, .slice none 0 0, .slice (some ⟨bV, 0, none⟩) 1 1, .bool false, .int .i64 0, .slice (some ⟨bT, 0, none⟩) 1 1, .int .i64 40, .int .i64 0]
 have hq : Cb W3 W1.heap.size #[.slice k.o0 2 k.c0, .slice k.o1 2 k.c1, .slice k.o2 1 k.c2, .slice k.o3 1 k.c3, .slice k.o4 0 k.c4, .slice k.o5 0 k.c5, .int .i64 0, .int .i64 0, .slice none 0 0, .slice (some ⟨bV, 0, none⟩) 1 1, .bool false, .int .i64 0, .slice (some ⟨bT, 0, none⟩) 1 1, .int .i64 40, .int .i64 0] 39 := hW ▸ Cb.row (Cb.made W1 #[.slice none 0 0, .slice none 0 0, .slice none 0 0, .slice none 0 0, .slice none 0 0, .slice none 0 0, .int .i64 0, .int .i64 0, .slice none 0 0, .slice none 0 0, .bool false, .int .i64 0, .slice none 0 0, .int .i64 0, .int .i64 0] 39) _
 refine sx_mem (by kernel_rfl) rfl rfl (pt W1.heap.size 0) (W1.alloc (.cells #[.slice none 0 0, .slice none 0 0, .slice none 0 0, .slice none 0 0, .slice none 0 0, .slice none 0 0, .int .i64 0, .int .i64 0, .slice none 0 0, .slice none 0 0, .bool false, .int .i64 0, .slice none 0 0, .int .i64 0, .int .i64 0] 39)) (by kernel_rfl) ?_
 refine Zs (cells := #[.slice k.o0 2 k.c0, .slice k.o1 2 k.c1, .slice k.o2 1 k.c2, .slice k.o3 1 k.c3, .slice k.o4 0 k.c4, .slice k.o5 0 k.c5, .int .i64 0, .int .i64 0, .slice none 0 0, .slice (some ⟨bV, 0, none⟩) 1 1, .bool false, .int .i64 0, .slice (some ⟨bT, 0, none⟩) 1 1, .int .i64 40, .int .i64 0]) rfl rfl (Cb.made W1 #[.slice none 0 0, .slice none 0 0, .slice none 0 0, .slice none 0 0, .slice none 0 0, .slice none 0 0, .int .i64 0, .int .i64 0, .slice none 0 0, .slice none 0 0, .bool false, .int .i64 0, .slice none 0 0, .int .i64 0, .int .i64 0] 39) ?_
 rw [hW]
 replace HB := over HB hb
 replace HU := over HU hb
 have z2 := hb.size
 have M2 := hq
 have yM2 := hq.lt
 clear hq hb hW
 refine Yn (Yo (Yq (Zv rfl (pt W1.heap.size 0) (Zw rfl (.agg #[.slice k.o0 2 k.c0, .slice k.o1 2 k.c1, .slice k.o2 1 k.c2, .slice k.o3 1 k.c3, .slice k.o4 0 k.c4, .slice k.o5 0 k.c5]) (ex_mid (q := 0) rfl M2 [.slice k.o0 2 k.c0, .slice k.o1 2 k.c1, .slice k.o2 1 k.c2, .slice k.o3 1 k.c3, .slice k.o4 0 k.c4, .slice k.o5 0 k.c5] (by kernel_rfl) Tryz.underlying30 rfl (by kernel_rfl) rfl) (Zv rfl (pt W1.heap.size 6) (Zw rfl (.agg #[.int .i64 0, .int .i64 0, .slice none 0 0, .slice (some ⟨bV, 0, none⟩) 1 1]) (ex_mid (q := 6) rfl M2 [.int .i64 0, .int .i64 0, .slice none 0 0, .slice (some ⟨bV, 0, none⟩) 1 1] (by kernel_rfl) Tryz.underlying34 rfl (by kernel_rfl) rfl) (Zv rfl (pt W1.heap.size 10) (Zw rfl (.agg #[.bool false, .int .i64 0, .slice (some ⟨bT, 0, none⟩) 1 1, .int .i64 40, .int .i64 0]) (ex_mid (q := 10) rfl M2 [.bool false, .int .i64 0, .slice (some ⟨bT, 0, none⟩) 1 1, .int .i64 40, .int .i64 0] (by kernel_rfl) Tryz.underlying37 rfl (by kernel_rfl) rfl) ?_))))))))
 refine Zc rfl ((by have h8 := sSlack_n k smpT 0 0 none (some ⟨bV, 0, none⟩) (some ⟨bT, 0, none⟩) 0 1 1 bV 0 0 0 bT 0 lV [] shT (by decide) st_ok W3 (hI.below HU) (hT.belowD HB) (hV.below HU) (rw_no _) (hM.below HU); rw [st_s, st_c] at h8; exact h8)) ?_
 rintro e W4 ⟨oA, cA, bA, qA, rfl, hA, hA8, hb⟩
 have hA7 := hA8 0 (by decide)
 replace HB := over HB hb
 replace HU := over HU hb
 replace M2 := M2.below hb
 have z3 := hb.size
 clear hb
 refine ⟨_, rfl, ?_⟩
 refine Zv rfl (.tuple #[.slice oA 2 cA, .int .i64 0]) (Zv rfl (.slice oA 2 cA) (Zv rfl (.int .i64 0) (Zv rfl (.slice oA 2 cA) (Zv rfl (.int .i64 0) (Yn (Yo (Yq (Zv rfl (pt W1.heap.size 0) (Zw rfl (.agg #[.slice k.o0 2 k.c0, .slice k.o1 2 k.c1, .slice k.o2 1 k.c2, .slice k.o3 1 k.c3, .slice k.o4 0 k.c4, .slice k.o5 0 k.c5]) (ex_mid (q := 0) rfl M2 [.slice k.o0 2 k.c0, .slice k.o1 2 k.c1, .slice k.o2 1 k.c2, .slice k.o3 1 k.c3, .slice k.o4 0 k.c4, .slice k.o5 0 k.c5] (by kernel_rfl) Tryz.underlying30 rfl (by kernel_rfl) rfl) (Zv rfl (pt W1.heap.size 6) (Zw rfl (.agg #[.int .i64 0, .int .i64 0, .slice none 0 0, .slice (some ⟨bV, 0, none⟩) 1 1]) (ex_mid (q := 6) rfl M2 [.int .i64 0, .int .i64 0, .slice none 0 0, .slice (some ⟨bV, 0, none⟩) 1 1] (by kernel_rfl) Tryz.underlying34 rfl (by kernel_rfl) rfl) (Zv rfl (pt W1.heap.size 10) (Zw rfl (.agg #[.bool false, .int .i64 0, .slice (some ⟨bT, 0, none⟩) 1 1, .int .i64 40, .int .i64 0]) (ex_mid (q := 10) rfl M2 [.bool false, .int .i64 0, .slice (some ⟨bT, 0, none⟩) 1 1, .int .i64 40, .int .i64 0] (by kernel_rfl) Tryz.underlying37 rfl (by kernel_rfl) rfl) ?_)))))))))))))
 refine Zc rfl ((by have h8 := sLatest_n k smpT 0 0 none (some ⟨bV, 0, none⟩) (some ⟨bT, 0, none⟩) 0 1 1 bV 0 0 0 bT 0 lV [] shT (by decide) st_ok W4 (hI.below HU) (hT.belowD HB) (hV.below HU) (rw_no _) (hM.below HU); rw [st_l, st_c] at h8; exact h8)) ?_
 rintro e W5 ⟨oL, cL, bL, qL, rfl, hL, hL8, hb⟩
 have hL7 := hL8 0 (by decide)
 replace HB := over HB hb
 replace HU := over HU hb
 replace M2 := M2.below hb
 replace hA := hA.below hb
 have z4 := hb.size
 clear hb
 refine ⟨_, rfl, ?_⟩
 refine Zv rfl (.tuple #[.slice oL 2 cL, .int .i64 0]) (Zv rfl (.slice oL 2 cL) (Zv rfl (.int .i64 0) (Zv rfl (.slice oL 2 cL) (Zv rfl (.int .i64 0) (Yn (Yo (Yq (Zv rfl (pt W1.heap.size 0) (Zw rfl (.agg #[.slice k.o0 2 k.c0, .slice k.o1 2 k.c1, .slice k.o2 1 k.c2, .slice k.o3 1 k.c3, .slice k.o4 0 k.c4, .slice k.o5 0 k.c5]) (ex_mid (q := 0) rfl M2 [.slice k.o0 2 k.c0, .slice k.o1 2 k.c1, .slice k.o2 1 k.c2, .slice k.o3 1 k.c3, .slice k.o4 0 k.c4, .slice k.o5 0 k.c5] (by kernel_rfl) Tryz.underlying30 rfl (by kernel_rfl) rfl) (Zv rfl (pt W1.heap.size 6) (Zw rfl (.agg #[.int .i64 0, .int .i64 0, .slice none 0 0, .slice (some ⟨bV, 0, none⟩) 1 1]) (ex_mid (q := 6) rfl M2 [.int .i64 0, .int .i64 0, .slice none 0 0, .slice (some ⟨bV, 0, none⟩) 1 1] (by kernel_rfl) Tryz.underlying34 rfl (by kernel_rfl) rfl) (Zv rfl (pt W1.heap.size 10) (Zw rfl (.agg #[.bool false, .int .i64 0, .slice (some ⟨bT, 0, none⟩) 1 1, .int .i64 40, .int .i64 0]) (ex_mid (q := 10) rfl M2 [.bool false, .int .i64 0, .slice (some ⟨bT, 0, none⟩) 1 1, .int .i64 40, .int .i64 0] (by kernel_rfl) Tryz.underlying37 rfl (by kernel_rfl) rfl) ?_)))))))))))))
 refine Zc rfl ((by have h8 := sAfter_n k smpT 0 0 none (some ⟨bV, 0, none⟩) (some ⟨bT, 0, none⟩) 0 1 1 bV 0 0 0 bT 0 lV [] shT (by decide) st_ok W5 (hI.below HU) (hT.belowD HB) (hV.below HU) (rw_no _) (hM.below HU) 0 30; rw [st_a] at h8; exact h8)) ?_
 rintro e W6 ⟨oE, cE, bE, qE, rfl, -, -, hb⟩
 replace HB := over HB hb
 replace HU := over HU hb
 replace M2 := M2.below hb
 replace hA := hA.below hb
 replace hL := hL.below hb
 have z5 := hb.size
 clear hb
 refine ⟨_, rfl, ?_⟩
 refine Zv rfl (.tuple #[.agg (sK (aftS smpT 0 0 lV [] shT 0 30) oE cE), .int .i64 0]) (Zv rfl (.agg (sK (aftS smpT 0 0 lV [] shT 0 30) oE cE)) (Zv rfl (.int .i64 0) ?_))
 obtain ⟨W8, hW, hb, hq⟩ := laidV W6 nZS (sK (aftS smpT 0 0 lV [] shT 0 30) oE cE) 37
 refine sx_mem (by kernel_rfl) rfl rfl (pt W6.heap.size 0) (W6.alloc (.cells nZS 37)) (by kernel_rfl) ?_
 refine Zs (cells := (sK (aftS smpT 0 0 lV [] shT 0 30) oE cE)) rfl rfl (Cb.made W6 nZS 37) ?_
 rw [hW]
 replace HB := over HB hb
 replace HU := over HU hb
 replace M2 := M2.below hb
 replace hA := hA.below hb
 replace hL := hL.below hb
 have z6 := hb.size
 have M7 := hq
 have yM7 := hq.lt
 clear hq hb hW
 refine Zv rfl (.int .i64 0) (Yn (Yo (Yq (Zv rfl (pt W1.heap.size 0) (Zw rfl (.agg #[.slice k.o0 2 k.c0, .slice k.o1 2 k.c1, .slice k.o2 1 k.c2, .slice k.o3 1 k.c3, .slice k.o4 0 k.c4, .slice k.o5 0 k.c5]) (ex_mid (q := 0) rfl M2 [.slice k.o0 2 k.c0, .slice k.o1 2 k.c1, .slice k.o2 1 k.c2, .slice k.o3 1 k.c3, .slice k.o4 0 k.c4, .slice k.o5 0 k.c5] (by kernel_rfl) Tryz.underlying30 rfl (by kernel_rfl) rfl) (Zv rfl (pt W1.heap.size 6) (Zw rfl (.agg #[.int .i64 0, .int .i64 0, .slice none 0 0, .slice (some ⟨bV, 0, none⟩) 1 1]) (ex_mid (q := 6) rfl M2 [.int .i64 0, .int .i64 0, .slice none 0 0, .slice (some ⟨bV, 0, none⟩) 1 1] (by kernel_rfl) Tryz.underlying34 rfl (by kernel_rfl) rfl) (Zv rfl (pt W1.heap.size 10) (Zw rfl (.agg #[.bool false, .int .i64 0, .slice (some ⟨bT, 0, none⟩) 1 1, .int .i64 40, .int .i64 0]) (ex_mid (q := 10) rfl M2 [.bool false, .int .i64 0, .slice (some ⟨bT, 0, none⟩) 1 1, .int .i64 40, .int .i64 0] (by kernel_rfl) Tryz.underlying37 rfl (by kernel_rfl) rfl) ?_)))))))))
 refine Zc rfl ((by have h8 := sAfter_n k smpT 0 0 none (some ⟨bV, 0, none⟩) (some ⟨bT, 0, none⟩) 0 1 1 bV 0 0 0 bT 0 lV [] shT (by decide) st_ok W8 (hI.below HU) (hT.belowD HB) (hV.below HU) (rw_no _) (hM.below HU) 0 31; rw [st_d] at h8; exact h8)) ?_
 rintro e W9 ⟨oG, cG, bG, qG, rfl, -, -, hb⟩
 replace HB := over HB hb
 replace HU := over HU hb
 replace hA := hA.below hb
 replace hL := hL.below hb
 replace M7 := M7.below hb
 have z7 := hb.size
 clear hb
 refine ⟨_, rfl, ?_⟩
 refine Zv rfl (.tuple #[.agg (sK (aftS smpT 0 0 lV [] shT 0 31) oG cG), .int .i64 14]) (Zv rfl (.agg (sK (aftS smpT 0 0 lV [] shT 0 31) oG cG)) (Zv rfl (.int .i64 14) ?_))
 obtain ⟨W11, hW, hb, hq⟩ := laidV W9 nZS (sK (aftS smpT 0 0 lV [] shT 0 31) oG cG) 37
 refine sx_mem (by kernel_rfl) rfl rfl (pt W9.heap.size 0) (W9.alloc (.cells nZS 37)) (by kernel_rfl) ?_
 refine Zs (cells := (sK (aftS smpT 0 0 lV [] shT 0 31) oG cG)) rfl rfl (Cb.made W9 nZS 37) ?_
 rw [hW]
 replace HB := over HB hb
 replace HU := over HU hb
 replace hA := hA.below hb
 replace hL := hL.below hb
 replace M7 := M7.below hb
 have z8 := hb.size
 have yM10 := hq.lt
 clear hq hb hW
 refine Zv rfl (.int .i64 14) (Yn (Yo (Yq (Zv rfl (.int .i64 0) (Zv rfl (.bool true) (Zv rfl (.bool true) (Zv rfl (.slice oA 2 cA) ?_)))))))
 obtain ⟨W12, hW, hb, hq⟩ := laidA W11 #[.int .i64 30, .int .i64 960] 3
 refine sx_mem (by kernel_rfl) rfl rfl (.slice (some ⟨W11.heap.size, 0, none⟩) 2 2) W12 (by rw [← hW]; kernel_rfl) ?_
 replace HB := over HB hb
 replace HU := over HU hb
 replace hA := hA.below hb
 replace hL := hL.below hb
 replace M7 := M7.below hb
 have z9 := hb.size
 have M13 := hq
 have yM13 := hq.lt
 clear hq hb hW
 refine Zd rfl ((by have h8 := numbers_n [30, 960] [30, 960] oA (some ⟨W11.heap.size, 0, none⟩) cA 2 bA qA _ 0 (by decide) W12 hA (rw_two9 M13); rw [decide_eq_true (rfl : ([30, 960] : List Int) = [30, 960])] at h8; exact h8)) (fun W14 hb z10 => ?_)
 replace HB := over HB hb
 replace HU := over HU hb
 replace hL := hL.below hb
 replace M7 := M7.below hb
 clear hb
 refine Zv rfl (.bool true) (Zv rfl (.bool true) (Zv rfl (.int .i64 0) (Zv rfl (.bool true) (Zv rfl (.bool true) (Zv rfl (.bool true) (Zv rfl (.slice oL 2 cL) ?_))))))
 obtain ⟨W15, hW, hb, hq⟩ := laidA W14 #[.int .i64 50, .int .i64 1000] 3
 refine sx_mem (by kernel_rfl) rfl rfl (.slice (some ⟨W14.heap.size, 0, none⟩) 2 2) W15 (by rw [← hW]; kernel_rfl) ?_
 replace HB := over HB hb
 replace HU := over HU hb
 replace hL := hL.below hb
 replace M7 := M7.below hb
 have z11 := hb.size
 have M16 := hq
 have yM16 := hq.lt
 clear hq hb hW
 refine Zd rfl ((by have h8 := numbers_n [50, 1000] [50, 1000] oL (some ⟨W14.heap.size, 0, none⟩) cL 2 bL qL _ 0 (by decide) W15 hL (rw_two9 M16); rw [decide_eq_true (rfl : ([50, 1000] : List Int) = [50, 1000])] at h8; exact h8)) (fun W17 hb z12 => ?_)
 replace HB := over HB hb
 replace HU := over HU hb
 replace M7 := M7.below hb
 clear hb
 refine Zv rfl (.bool true) (Zv rfl (.bool true) (Zv rfl (.int .i64 0) (Zv rfl (.bool true) (Zv rfl (.bool true) (Zv rfl (.bool true) (Zv rfl (pt W6.heap.size 3) (Zw rfl (.int .i64 ((aftS smpT 0 0 lV [] shT 0 30).e)) (el (M7.cell 3 rfl) Tryz.underlying3) (Zb rfl (((aftS smpT 0 0 lV [] shT 0 30).e : Int) == (70 : Int)) true (by rw [st_b]; rfl) (Zv rfl (.bool true) (Zv rfl (.bool true) (Zv rfl (.int .i64 14) ?_)))))))))))
 refine Zv rfl (.bool true) (Zv rfl (.bool true) (Zv rfl (.bool true) (Yn (Yo (wp_ret ?_)))))
 exact sx_ret1 (.bool true) rfl rfl (by kernel_rfl) ⟨rfl, HB⟩

end Go.Proofs.YtomebalolmabnaaGreatDoor.T



/-! The beginning of a list that may be nil, and what is appended to nothing. -/
namespace Go.Proofs.YtomebalolmabnaaGreatDoor.T
open Go.RowKit
set_option maxRecDepth 8000

theorem addr_zero (a : Addr) : a.add 0 = a := by
 obtain ⟨b, q, s⟩ := a
 unfold Addr.add
 cases s <;> simp
theorem ex_sliceA {P : Program} {o : Oper} {n : Nat} {g : Nat → Value} {l : List (Nat × Value)} {w : World} {ty : TypeId} {x y : Operand} (ho : o.op = .slice ty x none (some y) none) {oa : Option Addr} {m c k s : Nat} (hx : ev n g l x = .slice oa m c) (hy : ev n g l y = .int .i64 (k : Int)) (hk : k ≤ c) {e : TypeId}
  (hu : P.underlying ty = some (.slice e)) (hs : (P.info? e).map (·.size) = some s) : (execOp (ev n g l) o).run P w = .ok (.value (.slice oa k c)) w := by
 have h2 : (sizeOf e).run P w = .ok s w := by
  cases hi : P.info? e with
  | none => rw [hi] at hs; cases hs
  | some i => rw [hi] at hs; simp only [Option.map_some, Option.some.injEq] at hs; simp [sizeOf, typeInfo, hi, hs]
 have hr : (Instr.sliceAt ty (.slice oa m c) none (some (.int .i64 (k : Int))) none).run P w = .ok (.slice oa k c) w := by
  unfold Instr.sliceAt Instr.slice Instr.sliceBounds Instr.sliceBound
  simp [asIntOf, Sem.run_bind, Sem.run_pure, Result.andThen_ok, run_underlying hu w, h2, Int.toNat_natCast]
  rw [if_pos hk]
  by_cases h0 : c = 0
  ·simp [h0]
  ·cases oa <;> simp [h0, addr_zero]
 unfold execOp
 simp only [ho, hx, hy, Option.map_some, Option.map_none, hr, Sem.run_bind, Sem.run_pure, Result.andThen_ok]
theorem ap_nil {α : Type} {E : α → List Value} {e : TypeId} {sz : Nat} {w : World} {P : Program} {t ty : TypeId} {z : Value} {bytes : Nat} (hr : Row E sz) (d : α) (ht : P.underlying t = some (.slice e)) (hinfo : (P.info? e).map (fun i => (i.zero, i.size, i.bytes)) = some (some z, sz, bytes)) (hz : z.cells.size = sz) (hsz : 0 < sz) (hb1 : bytes ≤ 1000) {b q c : Nat} {oa : Option Addr} {M : List α} (hM : Rw w b q sz (fun k => E (M.getD k d)) M.length oa) (hn : M.length ≤ 1000000) :
  ∃ v' w', (Builtin.append_ #[t, t] ty #[.slice none 0 0, .slice oa M.length c]).run P w = .ok v' w' ∧ Ol E e sz w.heap.size w' v' M ∧ Below w.heap.size w w' := by
 cases oa with
 | some a =>
  obtain ⟨v', w', h1, h2, h3, -, -⟩ := ap_all (P := P) (t := t) (ty := ty) (z := z) (bytes := bytes) (c := c) hr d ht hinfo hz hsz hb1 (Ol.nil (E := E) (e := e) (sz := sz) (B := w.heap.size) (w := w)) hM (Nat.le_refl _) (by show 0 + M.length ≤ _; omega)
  rw [List.nil_append] at h2
  exact ⟨v', w', h1, h2, h3⟩
 | none =>
  have hM0 : M = [] := by
   cases M with
   | nil => rfl
   | cons x M => exact absurd (hM.oa (k := 0) (by simp)) (by simp)
  subst hM0
  obtain ⟨i, hi, hzz⟩ := Option.map_eq_some_iff.1 hinfo
  refine ⟨.slice none 0 0, w, ?_, Ol.nil _ _ _, Below.refl _ _⟩
  exact run_append_nothing w t t ty e i ht hi none 0 0 (Nat.le_refl _) (.slice none 0 c) ⟨.inl ⟨e, ht⟩, fun _ => rfl, by simp [Builtin.firstCells], by simp [Builtin.firstCells], by simp, fun u hu => by simp at hu⟩
end Go.Proofs.YtomebalolmabnaaGreatDoor.T



