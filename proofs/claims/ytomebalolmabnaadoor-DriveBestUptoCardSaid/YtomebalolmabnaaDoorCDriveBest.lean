/-
  DERIVED. CDriveBest: a part of the base of layer 13 (made by pack.py).
-/
import Derived.Test.YtomebalolmabnaaDoorGA
import Derived.Test.YtomebalolmabnaaDoorGM
import Derived.Test.YtomebalolmabnaaDoorDriveBest
import Derived.Test.YtomebalolmabnaaDoorCloseD
/-! DriveBest: where what is read is of no greater bulk than the row says, the law's call returns true and leaves its arguments as they were. -/
namespace Go.Proofs.YtomebalolmabnaaDoor
open Go.ChangeShapes Go.WideShapes Go.ChangeAt Go.RowKit Go.WideMaps Go.WideElems
open Go.ChangeMaps (open_string shut_string)

set_option maxRecDepth 100000 in
theorem driveBest_contract (H : Type) (enc : TypeId × Value → H) (W : World) (base : Nat) (args : Array Value) (ds gs : List (DataW H)) (before : List MemPlace)
  (hval0 : ∀ (j : Nat) t v, Tryd.f5.params[j]? = some t → args[j]? = some v → Value.okWide Tryd.prog W .any base t v)
  (hW : DataW.Whole enc Tryd.prog Tryd.f5.params.toList Rows.driveBestSpec.vars false W args.toList ds gs before) (hL : laidMetH Tryd.prog laid5 W) (hk : Rows.uptoSmall H (ds ++ gs) = true) :
  Calls Tryd.prog 5 args W fun e W' => ∃ v, e = .returned v ∧ Rows.driveBestSpec.post enc Tryd.prog Tryd.f5 false true false false W args v W' := by
 have hval : ∀ (j : Nat) t v, Tryd.f5.params[j]? = some t → args[j]? = some v → Value.okWide Tryd.prog W .any base t v := hval0
 have hT := tab_of hL
 have hW' := hW
 obtain ⟨p, q, hA0, hV, rfl, hfz, hnd⟩ := hW
 have hA : DataW.TrodAll enc Tryd.prog W 0 (fun _ => true) true Tryd.f5.params.toList args.toList ds p := hA0
 rw [Tryd.params5] at hA hval
 obtain ⟨v0, vs0, d0, ds0, p0, q0, hargs, rfl, rfl, k0, r0⟩ := trodAll_cons hA
 obtain ⟨v1, vs1, d1, ds1, p1, q1, rfl, rfl, rfl, k1, r1⟩ := trodAll_cons r0
 obtain ⟨rfl, rfl, rfl⟩ := trodAll_nil r1
 obtain rfl : args = #[v0, v1] := by cases args; simp_all
 obtain ⟨rfl, rfl⟩ := trodVars_none hV
 have hlt0 : ∀ x ∈ p0, x.block < W.heap.size := fun x hx => hW'.lt x (by simp [hx])
 have hkb0 : Rows.uptoBulk d0 ≤ 1048576 := by
  unfold Rows.uptoSmall at hk
  exact Nat.le_trans (T.bulk_part (by simp)) (of_decide_eq_true hk)
 obtain ⟨kv0, x0, rfl, hi0, ha0⟩ := T.arg_instU (hval 0 30 v0 rfl rfl) k0 hlt0 hkb0
 have hlt1 : ∀ x ∈ p1, x.block < W.heap.size := fun x hx => hW'.lt x (by simp [hx])
 have hkb1 : Rows.uptoBulk d1 ≤ 1048576 := by
  unfold Rows.uptoSmall at hk
  exact Nat.le_trans (T.bulk_part (by simp)) (of_decide_eq_true hk)
 obtain ⟨ty1, st1, orr1, oa1, cr1, c1, b1, o1, bf1, qf1, F1, l1, rfl, hl1, hF1⟩ := T.arg_routeD (hval 1 34 v1 rfl rfl) k1 hlt1
 have hn1 := T.route_len k1 hkb1
 clear hA0 hval0
 simp only [List.append_nil] at hW'
 refine (T.driveBest_walk kv0 x0 ha0 ty1 st1 orr1 oa1 cr1 c1 b1 o1 bf1 qf1 l1 F1 hn1 W hT hi0 hl1 hF1).mono fun e W' ⟨he, hb⟩ => ?_
 subst he
 exact ⟨_, rfl, post_kept (pa := p0 ++ (p1)) (pv := []) hW' (fun _ _ _ => trodAll_mk1 (shut_bool Tryd.underlying4 _)) (fun sp hsp => by
  have hz := (trodAll_cons_mk (WideElems.Trod_stays T.laidOut (by kernel_rfl) (of_decide_eq_true (by kernel_rfl)) k0 (fun x hx => hb.same (hlt0 x hx)) (fun x hx => hsp x (by simp [hx]))) (trodAll_cons_mk (WideElems.Trod_stays T.laidOut (by kernel_rfl) (of_decide_eq_true (by kernel_rfl)) k1 (fun x hx => hb.same (hlt1 x hx)) (fun x hx => hsp x (by simp [hx]))) trodAll_mk0))
  simp only [List.append_nil] at hz
  exact hz) (fun _ _ => rfl) (by simp) hb⟩

set_option maxRecDepth 100000 in
theorem driveBest_reads (os : Os) {H : Type} (enc : TypeId × Value → H) : ∃ places, DataW.whole enc Tryd.prog ((World.laidAll Tryd.prog os laid5).forCall (fun _ _ => 0) ⟨#[], #[.agg #[.slice none 0 0, .slice none 0 0, .slice none 0 0, .slice none 0 0, .slice none 0 0, .slice none 0 0], .agg #[.int .i64 0, .int .i64 0, .slice none 0 0, .slice none 0 0]], []⟩).memory Tryd.f5.params.toList Rows.driveBestSpec.vars false (#[.agg #[.slice none 0 0, .slice none 0 0, .slice none 0 0, .slice none 0 0, .slice none 0 0, .slice none 0 0], .agg #[.int .i64 0, .int .i64 0, .slice none 0 0, .slice none 0 0]] : Array Value).toList 8 = some ([.agg [.agg [.nil, .nil], .nil, .nil, .nil, .nil], .agg [.lit (.int .i64 0), .lit (.int .i64 0), .nil, .nil]], [], places) :=
 ⟨[], by kernel_rfl⟩

set_option maxRecDepth 100000 in
theorem driveBest_lifted (os : Os) (started : os.Started) (H : Type) (enc : TypeId × Value → H) (F : Stop.Interp) :
  ReturnsInHanded {} Tryd.checked os 5 .any ((Rows.OpenSpec.upto Rows.driveBestSpec).preRow enc Tryd.prog Tryd.f5 Rows.driveBestUptoRow.domain false Rows.driveBestUptoRow.laid) (((Rows.OpenSpec.upto Rows.driveBestSpec).at F).post enc Tryd.prog Tryd.f5 false true false false) := by
 obtain ⟨places, hx⟩ := driveBest_reads os enc
 refine returnsInHanded_of_row (C := Tryd.checked) (s := Rows.OpenSpec.upto Rows.driveBestSpec) own started (by kernel_rfl) Tryd.func5
  (witness_row_at (enc := enc) (C := Tryd.checked) false (World.laidAll Tryd.prog os laid5) #[.agg #[.slice none 0 0, .slice none 0 0, .slice none 0 0, .slice none 0 0, .slice none 0 0, .slice none 0 0], .agg #[.int .i64 0, .int .i64 0, .slice none 0 0, .slice none 0 0]] (World.laidAll_os _ _ _) (by kernel_rfl) (by kernel_rfl) (by kernel_rfl)
   (OpenSpec.preRow_of_cond 8 hx (by kernel_rfl) (fun k hk => by cases hk; kernel_rfl) (by kernel_rfl) (door_met os _))) ?_
 intro W base args ds gs before hval hW _ hcond _ hL _ _
 exact driveBest_contract H enc W base args ds gs before hval hW hL (hcond _ rfl)

theorem driveBest_said : Rows.DriveBestUptoSaid :=
 OpenClaim.holds_of_cond 5 Tryd.f5 rfl rfl rfl rfl rfl rfl rfl ⟨rfl, rfl, rfl, rfl, rfl⟩ rfl rfl rfl rfl rfl (by kernel_rfl) Tryd.func5 (by kernel_rfl)
  (of_decide_eq_true (by kernel_rfl)) (by unfold Func.isWrapper; first | (rw [if_pos (by decide +kernel)]; kernel_rfl) | (rw [if_neg (by decide +kernel)]; exact ⟨rfl, rfl⟩))
  (fun os started H enc _ F => by rw [OpenClaim.pre_eq_preRow]; exact driveBest_lifted os started H enc F)

theorem driveBest_holds : Rows.DriveBestUptoCardSaid :=
 Claim7.holds_tied_plain_at .later [] _ _ _ _ driveBest_said (fun _ h => by cases h) (by kernel_rfl) (fun _ h => by cases h) driveBestUpto_row_tie rfl ⟨rfl, rfl⟩ (by kernel_rfl) rfl
  (plain_of (k := 5) (g := Tryd.f5) (by kernel_rfl) (ts := [30, 34]) Tryd.func5 (by kernel_rfl) (by kernel_rfl)) (by kernel_rfl)

end Go.Proofs.YtomebalolmabnaaDoor



