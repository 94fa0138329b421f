/-
  DERIVED. CSlackFinds: a part of the base of layer 13 (made by pack.py).
-/
import Derived.Test.YtomebalolmabnaaGreatDoorGA
import Derived.Test.YtomebalolmabnaaGreatDoorGG
import Derived.Test.YtomebalolmabnaaGreatDoorGU
import Derived.Test.YtomebalolmabnaaGreatDoorCloseD
/-! SlackFinds: where what is read is of no greater bulk than the row says, the law's call returns true and leaves its arguments as they were. -/
namespace Go.Proofs.YtomebalolmabnaaGreatDoor
open Go.ChangeShapes Go.WideShapes Go.ChangeAt Go.RowKit Go.WideMaps Go.WideElems
open Go.ChangeMaps (open_string shut_string)

set_option maxRecDepth 100000 in
theorem slackFinds_contract (H : Type) (enc : TypeId × Value → H) (W : World) (base : Nat) (args : Array Value) (ds gs : List (DataW H)) (before : List MemPlace)
  (hval0 : ∀ (j : Nat) t v, Tryz.f3.params[j]? = some t → args[j]? = some v → Value.okWide Tryz.prog W .any base t v)
  (hW : DataW.Whole enc Tryz.prog Tryz.f3.params.toList Rows.slackFindsSpec.vars false W args.toList ds gs before) (hL : laidMetH Tryz.prog laid5 W) (hk : Rows.uptoSmall H (ds ++ gs) = true) :
  Calls Tryz.prog 3 args W fun e W' => ∃ v, e = .returned v ∧ Rows.slackFindsSpec.post enc Tryz.prog Tryz.f3 false true false false W args v W' := by
 have hval : ∀ (j : Nat) t v, Tryz.f3.params[j]? = some t → args[j]? = some v → Value.okWide Tryz.prog W .any base t v := hval0
 have hT := tab_of hL
 have hW' := hW
 obtain ⟨p, q, hA0, hV, rfl, hfz, hnd⟩ := hW
 have hA : DataW.TrodAll enc Tryz.prog W 0 (fun _ => true) true Tryz.f3.params.toList args.toList ds p := hA0
 rw [Tryz.params3] at hA hval
 obtain ⟨v0, vs0, d0, ds0, p0, q0, hargs, rfl, rfl, k0, r0⟩ := trodAll_cons hA
 obtain ⟨rfl, rfl, rfl⟩ := trodAll_nil r0
 obtain rfl : args = #[v0] := by cases args; simp_all
 obtain ⟨rfl, rfl⟩ := trodVars_none hV
 have hlt0 : ∀ x ∈ p0, x.block < W.heap.size := fun x hx => hW'.lt x (by simp [hx])
 have hkb0 : Rows.uptoBulk d0 ≤ 1048576 := by
  unfold Rows.uptoSmall at hk
  exact Nat.le_trans (T.bulk_part (by simp)) (of_decide_eq_true hk)
 obtain ⟨kv0, x0, ty0, st0, orr0, oa0, oS0, cr0, ca0, cS0, b0, o0, bf0, qf0, bS0, qS0, l0, F0, S0, rfl, hi0, ha0, hl0, hF0, hS0, hn0, hm0⟩ := T.arg_tripC (hval 0 39 v0 rfl rfl) k0 hlt0 hkb0
 clear hA0 hval0
 simp only [List.append_nil] at hW'
 refine (T.slackFinds_walk kv0 x0 ha0 ty0 st0 orr0 oa0 oS0 cr0 ca0 cS0 b0 o0 bf0 qf0 bS0 qS0 l0 F0 S0 hn0 hm0 W hT hi0 hl0 hF0 hS0).mono fun e W' ⟨he, hb⟩ => ?_
 subst he
 exact ⟨_, rfl, post_kept (pa := p0) (pv := []) hW' (fun _ _ _ => trodAll_mk1 (shut_bool Tryz.underlying4 _)) (fun sp hsp => by
  have hz := (trodAll_cons_mk (WideElems.Trod_stays T.laidOut (by kernel_rfl) (of_decide_eq_true (by kernel_rfl)) k0 (fun x hx => hb.same (hlt0 x hx)) (fun x hx => hsp x (by simp [hx]))) trodAll_mk0)
  simp only [List.append_nil] at hz
  exact hz) (fun _ _ => rfl) (by simp) hb⟩

set_option maxRecDepth 100000 in
theorem slackFinds_reads (os : Os) {H : Type} (enc : TypeId × Value → H) : ∃ places, DataW.whole enc Tryz.prog ((World.laidAll Tryz.prog os laid5).forCall (fun _ _ => 0) ⟨#[], #[.agg #[.slice none 0 0, .slice none 0 0, .slice none 0 0, .slice none 0 0, .slice none 0 0, .slice none 0 0, .int .i64 0, .int .i64 0, .slice none 0 0, .slice none 0 0, .bool false, .int .i64 0, .slice none 0 0, .int .i64 0, .int .i64 0]], []⟩).memory Tryz.f3.params.toList Rows.slackFindsSpec.vars false (#[.agg #[.slice none 0 0, .slice none 0 0, .slice none 0 0, .slice none 0 0, .slice none 0 0, .slice none 0 0, .int .i64 0, .int .i64 0, .slice none 0 0, .slice none 0 0, .bool false, .int .i64 0, .slice none 0 0, .int .i64 0, .int .i64 0]] : Array Value).toList 8 = some ([.agg [.agg [.agg [.nil, .nil], .nil, .nil, .nil, .nil], .agg [.lit (.int .i64 0), .lit (.int .i64 0), .nil, .nil], .agg [.lit (.bool false), .lit (.int .i64 0), .nil, .lit (.int .i64 0), .lit (.int .i64 0)]]], [], places) :=
 ⟨[], by kernel_rfl⟩

set_option maxRecDepth 100000 in
theorem slackFinds_lifted (os : Os) (started : os.Started) (H : Type) (enc : TypeId × Value → H) (F : Stop.Interp) :
  ReturnsInHanded {} Tryz.checked os 3 .any ((Rows.OpenSpec.upto Rows.slackFindsSpec).preRow enc Tryz.prog Tryz.f3 Rows.slackFindsUptoRow.domain false Rows.slackFindsUptoRow.laid) (((Rows.OpenSpec.upto Rows.slackFindsSpec).at F).post enc Tryz.prog Tryz.f3 false true false false) := by
 obtain ⟨places, hx⟩ := slackFinds_reads os enc
 refine returnsInHanded_of_row (C := Tryz.checked) (s := Rows.OpenSpec.upto Rows.slackFindsSpec) own started (by kernel_rfl) Tryz.func3
  (witness_row_at (enc := enc) (C := Tryz.checked) false (World.laidAll Tryz.prog os laid5) #[.agg #[.slice none 0 0, .slice none 0 0, .slice none 0 0, .slice none 0 0, .slice none 0 0, .slice none 0 0, .int .i64 0, .int .i64 0, .slice none 0 0, .slice none 0 0, .bool false, .int .i64 0, .slice none 0 0, .int .i64 0, .int .i64 0]] (World.laidAll_os _ _ _) (by kernel_rfl) (by kernel_rfl) (by kernel_rfl)
   (OpenSpec.preRow_of_cond 8 hx (by kernel_rfl) (fun k hk => by cases hk; kernel_rfl) (by kernel_rfl) (door_met os _))) ?_
 intro W base args ds gs before hval hW _ hcond _ hL _ _
 exact slackFinds_contract H enc W base args ds gs before hval hW hL (hcond _ rfl)

theorem slackFinds_said : Rows.SlackFindsUptoSaid :=
 OpenClaim.holds_of_cond 3 Tryz.f3 rfl rfl rfl rfl rfl rfl rfl ⟨rfl, rfl, rfl, rfl, rfl⟩ rfl rfl rfl rfl rfl (by kernel_rfl) Tryz.func3 (by kernel_rfl)
  (of_decide_eq_true (by kernel_rfl)) (by unfold Func.isWrapper; first | (rw [if_pos (by decide +kernel)]; kernel_rfl) | (rw [if_neg (by decide +kernel)]; exact ⟨rfl, rfl⟩))
  (fun os started H enc _ F => by rw [OpenClaim.pre_eq_preRow]; exact slackFinds_lifted os started H enc F)

theorem slackFinds_holds : Rows.SlackFindsUptoCardSaid :=
 Claim7.holds_tied_plain_at .later [] _ _ _ _ slackFinds_said (fun _ h => by cases h) (by kernel_rfl) (fun _ h => by cases h) slackFindsUpto_row_tie rfl ⟨rfl, rfl⟩ (by kernel_rfl) rfl
  (plain_of (k := 3) (g := Tryz.f3) (by kernel_rfl) (ts := [39]) Tryz.func3 (by kernel_rfl) (by kernel_rfl)) (by kernel_rfl)

end Go.Proofs.YtomebalolmabnaaGreatDoor



