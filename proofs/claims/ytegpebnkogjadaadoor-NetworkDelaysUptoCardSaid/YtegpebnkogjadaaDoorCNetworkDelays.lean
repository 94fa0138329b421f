/- NetworkDelays: where what is read is of no greater bulk than the row says, the law's call returns true and leaves its arguments as they were. -/
import Derived.Test.YtegpebnkogjadaaDoorNetworkDelays
import Derived.Test.YtegpebnkogjadaaDoorCloseN
namespace Go.Proofs.YtegpebnkogjadaaDoor
open Go.ChangeShapes Go.WideShapes Go.ChangeAt Go.RowKit Go.WideMaps Go.WideElems
open Go.ChangeMaps (open_string shut_string)

set_option maxRecDepth 100000 in
theorem networkDelays_contract (H : Type) (enc : TypeId × Value → H) (W : World) (base : Nat) (args : Array Value) (ds gs : List (DataW H)) (before : List MemPlace)
    (hval0 : ∀ (j : Nat) t v, Tryd.f7.params[j]? = some t → args[j]? = some v → Value.okWide Tryd.prog W .any base t v)
    (hW : DataW.Whole enc Tryd.prog Tryd.f7.params.toList Rows.networkDelaysSpec.vars false W args.toList ds gs before) (hL : laidMetH Tryd.prog laid5 W) (hk : Rows.uptoSmall H (ds ++ gs) = true) :
    Calls Tryd.prog 7 args W fun e W' => ∃ v, e = .returned v ∧ Rows.networkDelaysSpec.post enc Tryd.prog Tryd.f7 false true false false W args v W' := by
  have hval : ∀ (j : Nat) t v, Tryd.f7.params[j]? = some t → args[j]? = some v → Value.okWide Tryd.prog W .any base t v := hval0
  have hT := tab_of hL
  have hW' := hW
  obtain ⟨p, q, hA0, hV, rfl, hfz, hnd⟩ := hW
  have hA : DataW.TrodAll enc Tryd.prog W 0 (fun _ => true) true Tryd.f7.params.toList args.toList ds p := hA0
  rw [Tryd.params7] at hA hval
  obtain ⟨v0, vs0, d0, ds0, p0, q0, hargs, rfl, rfl, k0, r0⟩ := trodAll_cons hA
  obtain ⟨v1, vs1, d1, ds1, p1, q1, rfl, rfl, rfl, k1, r1⟩ := trodAll_cons r0
  obtain ⟨v2, vs2, d2, ds2, p2, q2, rfl, rfl, rfl, k2, r2⟩ := trodAll_cons r1
  obtain ⟨v3, vs3, d3, ds3, p3, q3, rfl, rfl, rfl, k3, r3⟩ := trodAll_cons r2
  obtain ⟨v4, vs4, d4, ds4, p4, q4, rfl, rfl, rfl, k4, r4⟩ := trodAll_cons r3
  obtain ⟨v5, vs5, d5, ds5, p5, q5, rfl, rfl, rfl, k5, r5⟩ := trodAll_cons r4
  obtain ⟨rfl, rfl, rfl⟩ := trodAll_nil r5
  obtain rfl : args = #[v0, v1, v2, v3, v4, v5] := by cases args; simp_all
  obtain ⟨rfl, rfl⟩ := trodVars_none hV
  have hlt : ∀ x ∈ p0, x.block < W.heap.size := fun x hx => hW'.lt x (by simp [hx])
  have hkb : Rows.uptoBulk d0 ≤ 1048576 := by
    unfold Rows.uptoSmall at hk
    exact Nat.le_trans (T.bulk_part (by simp)) (of_decide_eq_true hk)
  obtain ⟨vp, va, pl, l, rfl, hp, ha, hp9, hl9, hw9, hI, hsz⟩ := T.arg_net2 (hval 0 25 v0 rfl rfl) k0 hlt hkb
  obtain ⟨x1, rfl, rfl, rfl, h1⟩ := open_int Tryd.underlying3 (hval 1 3 v1 rfl rfl) k1
  obtain ⟨x2, rfl, rfl, rfl, h2⟩ := open_int Tryd.underlying3 (hval 2 3 v2 rfl rfl) k2
  obtain ⟨x3, rfl, rfl, rfl, h3⟩ := open_int Tryd.underlying3 (hval 3 3 v3 rfl rfl) k3
  obtain ⟨x4, rfl, rfl, rfl, h4⟩ := open_int Tryd.underlying3 (hval 4 3 v4 rfl rfl) k4
  obtain ⟨x5, rfl, rfl, rfl, h5⟩ := open_int Tryd.underlying50 (hval 5 50 v5 rfl rfl) k5
  have q5 := bounds_u16 h5
  obtain ⟨n5, rfl⟩ := Int.eq_ofNat_of_zero_le q5.1
  clear hA0 hval0
  simp only [List.append_nil] at hW'
  refine (T.networkDelays_walk vp va pl l x1 x2 x3 x4 n5 (by omega) hp9 hsz hl9 hw9 hI W hp ha hT).mono fun e W' ⟨he, hb⟩ => ?_
  subst he
  exact ⟨_, rfl, post_kept (pa := p0) (pv := []) hW' (fun _ _ _ => trodAll_mk1 (shut_bool Tryd.underlying4 _)) (fun sp hsp => by
    have hz := (trodAll_cons_mk (WideElems.Trod_stays T.laidOut (by kernel_rfl) (of_decide_eq_true (by kernel_rfl)) k0 (fun x hx => hb.same (hlt x hx)) (fun x hx => hsp x (by simp [hx]))) (trodAll_cons_mk (shut_int Tryd.underlying3 h1) (trodAll_cons_mk (shut_int Tryd.underlying3 h2) (trodAll_cons_mk (shut_int Tryd.underlying3 h3) (trodAll_cons_mk (shut_int Tryd.underlying3 h4) (trodAll_cons_mk (shut_int Tryd.underlying50 h5) trodAll_mk0))))))
    simp only [List.append_nil] at hz
    exact hz) (fun _ _ => rfl) (by simp) hb⟩

set_option maxRecDepth 100000 in
theorem networkDelays_reads (os : Os) {H : Type} (enc : TypeId × Value → H) : ∃ places, DataW.whole enc Tryd.prog ((World.laidAll Tryd.prog os laid5).forCall (fun _ _ => 0) ⟨#[], #[.agg #[.slice none 0 0, .slice none 0 0], .int .i64 0, .int .i64 0, .int .i64 0, .int .i64 0, .int .u16 0], []⟩).memory Tryd.f7.params.toList Rows.networkDelaysSpec.vars false (#[.agg #[.slice none 0 0, .slice none 0 0], .int .i64 0, .int .i64 0, .int .i64 0, .int .i64 0, .int .u16 0] : Array Value).toList 8 = some ([.agg [.nil, .nil], .lit (.int .i64 0), .lit (.int .i64 0), .lit (.int .i64 0), .lit (.int .i64 0), .lit (.int .u16 0)], [], places) :=
  ⟨[], by kernel_rfl⟩

set_option maxRecDepth 100000 in
theorem networkDelays_lifted (os : Os) (started : os.Started) (H : Type) (enc : TypeId × Value → H) (F : Stop.Interp) :
    ReturnsInHanded {} Tryd.checked os 7 .any ((Rows.OpenSpec.upto Rows.networkDelaysSpec).preRow enc Tryd.prog Tryd.f7 Rows.networkDelaysUptoRow.domain false Rows.networkDelaysUptoRow.laid) (((Rows.OpenSpec.upto Rows.networkDelaysSpec).at F).post enc Tryd.prog Tryd.f7 false true false false) := by
  obtain ⟨places, hx⟩ := networkDelays_reads os enc
  refine returnsInHanded_of_row (C := Tryd.checked) (s := Rows.OpenSpec.upto Rows.networkDelaysSpec) own started (by kernel_rfl) Tryd.func7
    (witness_row_at (enc := enc) (C := Tryd.checked) false (World.laidAll Tryd.prog os laid5) #[.agg #[.slice none 0 0, .slice none 0 0], .int .i64 0, .int .i64 0, .int .i64 0, .int .i64 0, .int .u16 0] (World.laidAll_os _ _ _) (by kernel_rfl) (by kernel_rfl) (by kernel_rfl)
      (OpenSpec.preRow_of_cond 8 hx (by kernel_rfl) (fun k hk => by cases hk; kernel_rfl) (by kernel_rfl) (door_met os _))) ?_
  intro W base args ds gs before hval hW _ hcond _ hL _ _
  exact networkDelays_contract H enc W base args ds gs before hval hW hL (hcond _ rfl)

theorem networkDelays_said : Rows.NetworkDelaysUptoSaid :=
  OpenClaim.holds_of_cond 7 Tryd.f7 rfl rfl rfl rfl rfl rfl rfl ⟨rfl, rfl, rfl, rfl, rfl⟩ rfl rfl rfl rfl rfl (by kernel_rfl) Tryd.func7 (by kernel_rfl)
    (of_decide_eq_true (by kernel_rfl)) (by unfold Func.isWrapper; first | (rw [if_pos (by decide +kernel)]; kernel_rfl) | (rw [if_neg (by decide +kernel)]; exact ⟨rfl, rfl⟩))
    (fun os started H enc _ F => by rw [OpenClaim.pre_eq_preRow]; exact networkDelays_lifted os started H enc F)

/-- the card -/
theorem networkDelays_holds : Rows.NetworkDelaysUptoCardSaid :=
  Claim7.holds_tied_plain_at .later [] _ _ _ _ networkDelays_said (fun _ h => by cases h) (by kernel_rfl) (fun _ h => by cases h) networkDelaysUpto_row_tie rfl ⟨rfl, rfl⟩ (by kernel_rfl) rfl
    (plain_of (k := 7) (g := Tryd.f7) (by kernel_rfl) (ts := [25, 3, 3, 3, 3, 50]) Tryd.func7 (by kernel_rfl) (by kernel_rfl)) (by kernel_rfl)

end Go.Proofs.YtegpebnkogjadaaDoor

