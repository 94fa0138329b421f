/-
  DERIVED. The walk of order's Same (written by gen_ordtop3.py).
-/
import Derived.Test.YtalfonpkefhlmaaDoorOrdTop1
import Derived.Test.YtalfonpkefhlmaaDoorRefOrd5
import Derived.Test.YtalfonpkefhlmaaDoorShelf
import Derived.ChangeKeysEq
import Derived.Deep.RegionHeld3
namespace Go.Proofs.YtalfonpkefhlmaaDoor.T
open Go.RowKit
set_option maxRecDepth 8000

theorem add_pl' (b o j : Nat) : (⟨b, o, none⟩ : Addr).add j = ⟨b, o + j, none⟩ := by
  unfold Addr.add
  split
  · rename_i hz; rw [hz]; rfl
  · rfl
theorem li_cells {w : World} {b o : Nat} {c : Nat} {l : List Int} (h : L.Li w (.slice (some ⟨b, o, none⟩) l.length c) l) : ∀ j, j < l.length → w.cell? ⟨b, o + j, none⟩ = some (.int .i64 (l.getD j 0)) := fun j hj => by
  obtain ⟨oa, c', hv, h⟩ := h
  simp only [Value.slice.injEq] at hv
  obtain ⟨rfl, -, rfl⟩ := hv
  obtain ⟨a, ha, -, hc⟩ := h j hj
  simp only [Option.some.injEq] at ha
  subst ha
  rw [add_pl'] at hc
  exact hc
theorem eqInts_n (u v : Value) (a b : List Int) (ha9 : a.length ≤ 1000000000) (hb9 : b.length ≤ 1000000000) (w : World) (hu : L.Li w u a) (hv : L.Li w v b) :
    Calls Tryd.prog 24 #[u, v] w fun e w' => e = .returned (.bool (a == b)) ∧ ∃ q, w' = w.drewN q := by
  have HU := hu
  have HV := hv
  obtain ⟨oa, ca, rfl, hca⟩ := hu
  obtain ⟨ob, cb, rfl, hcb⟩ := hv
  by_cases hn : a.length = b.length
  · by_cases h0 : a.length = 0
    · have ea : a = [] := List.eq_nil_of_length_eq_zero h0
      have eb : b = [] := List.eq_nil_of_length_eq_zero (by omega)
      subst ea; subst eb
      refine (Tryd.slices_Equal_int_empty oa ob ca 0 cb w (by omega)).mono ?_
      rintro e w' ⟨rfl, rfl⟩
      exact ⟨rfl, 0, rfl⟩
    · obtain ⟨pa, rfl, -, xa⟩ := hca 0 (by omega)
      obtain ⟨pb, rfl, -, xb⟩ := hcb 0 (by omega)
      obtain ⟨b1, o1, s1⟩ := pa
      obtain ⟨b2, o2, s2⟩ := pb
      have hs1 : s1 = none := by simpa [Addr.add] using World.cell?_spot xa
      have hs2 : s2 = none := by simpa [Addr.add] using World.cell?_spot xb
      subst hs1; subst hs2
      refine (Tryd.slices_Equal_int b1 o1 a.length ca b2 o2 b.length cb a b w (Nat.le_refl _) (Nat.le_refl _) (by omega) (by omega) (li_cells HU) (li_cells HV)).mono ?_
      rintro e w' ⟨rfl, hq⟩
      exact ⟨by rw [List.take_length, List.take_length], hq⟩
  · refine (Tryd.slices_Equal_int_lens oa ob a.length ca b.length cb w hn).mono ?_
    rintro e w' ⟨rfl, rfl⟩
    refine ⟨ret_bool ?_, 0, rfl⟩
    symm
    rw [beq_eq_false_iff_ne]
    intro h
    exact hn (by rw [h])

theorem quiet_q {P : Program} {f : FuncId} {args : Array Value} {w : World} {n : Nat} {v : Value} (h : Calls P f args (w.drewN n) fun e w' => e = .returned v ∧ ∃ q, w' = (w.drewN n).drewN q) :
    Calls P f args (w.drewN n) fun e w'' => e = .returned v ∧ ∃ m, w'' = w.drewN m := h.mono fun _ _ ⟨he, q, hq⟩ => ⟨he, n + q, by rw [hq]; simp [World.drewN, Nat.add_assoc]⟩
theorem eqItems_ints {P : Program} {e : TypeId} (he : P.plainKey e = true) (hu : P.underlying e = some (.int .i64)) (d : Nat) (xs ys : Array Value) (f g : Nat → Int) (w : World) :
    ∀ is : List Nat, (∀ i ∈ is, xs[i]? = some (.int .i64 (f i)) ∧ ys[i]? = some (.int .i64 (g i))) → (Op.eqItems (d + 1) e 1 xs ys is).run P w = .ok (is.all fun i => f i == g i) w
  | [], _ => by simp [Op.eqItems]
  | i :: is, h => by
    obtain ⟨h1, h2⟩ := h i (List.mem_cons_self ..)
    have ih := eqItems_ints he hu d xs ys f g w is (fun j hj => h j (List.mem_cons_of_mem _ hj))
    simp only [Op.eqItems, Sem.run_bind, Nat.mul_one, run_part_plain w he h1, run_part_plain w he h2, Result.andThen_ok, run_equalIn_int w d e .i64 .i64 (f i) (g i) hu, List.all_cons]
    cases hb : (f i == g i)
    · simp
    · simpa using ih
theorem eql5 (a0 a1 a2 a3 a4 b0 b1 b2 b3 b4 : Int) (w : World) :
    (binOp .eql 55 (.agg #[.int .i64 a0, .int .i64 a1, .int .i64 a2, .int .i64 a3, .int .i64 a4]) (.agg #[.int .i64 b0, .int .i64 b1, .int .i64 b2, .int .i64 b3, .int .i64 b4])).run Tryd.prog w = .ok (.bool (a0 == b0 && (a1 == b1 && (a2 == b2 && (a3 == b3 && a4 == b4))))) w := by
  have hi0 : (Tryd.prog.info? 3).isSome = true := by kernel_rfl
  obtain ⟨i, hi⟩ := Option.isSome_iff_exists.1 hi0
  have hc : Tryd.prog.cellsOf 3 = 1 := by kernel_rfl
  rw [run_eql_struct, show (10000 : Nat) = 9998 + 1 + 1 from rfl, run_equalIn_array w _ _ _ Tryd.underlying55 hi, hc,
    eqItems_ints (by kernel_rfl) Tryd.underlying3 9998 _ _ (fun i => [a0, a1, a2, a3, a4].getD i 0) (fun i => [b0, b1, b2, b3, b4].getD i 0) w (List.range 5)
      (fun i hi => by
        have h := List.mem_range.1 hi
        match i, h with
        | 0, _ => exact ⟨rfl, rfl⟩
        | 1, _ => exact ⟨rfl, rfl⟩
        | 2, _ => exact ⟨rfl, rfl⟩
        | 3, _ => exact ⟨rfl, rfl⟩
        | 4, _ => exact ⟨rfl, rfl⟩)]
  show Result.ok (Value.bool (a0 == b0 && (a1 == b1 && (a2 == b2 && (a3 == b3 && (a4 == b4 && true)))))) w = _
  rw [Bool.and_true]
set_option maxHeartbeats 3200000 in
theorem ordNumbers_n (nm : ByteArray) (oc : Option Addr) (n c : Nat) (pp po pc ps dp dd dc ds sk pen spl las now : Int) (off : Bool) (w : World) :
    Calls Tryd.prog 25 #[.agg #[.string nm, .slice oc n c, .int .i64 pp, .int .i64 po, .int .i64 pc, .int .i64 ps, .int .i64 dp, .int .i64 dd, .int .i64 dc, .int .i64 ds, .int .i64 sk, .int .i64 pen, .int .i64 spl, .int .i64 las, .int .i64 now, .bool off]] w fun e w' => e = .returned (.agg #[.int .i64 sk, .int .i64 pen, .int .i64 spl, .int .i64 las, .int .i64 now]) ∧ Below w.heap.size w w' := by
  go_enter Tryd.func25, Tryd.ntmps25
  go_wp2_with fail
  exact bodyPost_ret (v := .agg #[.int .i64 sk, .int .i64 pen, .int .i64 spl, .int .i64 las, .int .i64 now]) (by simp [results, Tryd.results25, go_sem]) rfl ⟨rfl, by go_grown⟩

set_option maxHeartbeats 6400000 in
theorem ordSame_n (a b : OrT) (oa ob : Option Addr) (ca cb : Nat) (ha9 : a.load.length ≤ 1000000000) (hb9 : b.load.length ≤ 1000000000) (w : World) (hA : L.Li w (.slice oa a.load.length ca) a.load) (hB : L.Li w (.slice ob b.load.length cb) b.load) :
    Calls Tryd.prog 15 #[orV a (.slice oa a.load.length ca), orV b (.slice ob b.load.length cb)] w fun e w' => e = .returned (.bool (sameO a b)) ∧ Below w.heap.size w w' := by
  obtain ⟨nm, load, pp, po, pc, ps, dp, dd, dc, ds, sk, pen, spl, las, now, off⟩ := a
  obtain ⟨nm', load', pp', po', pc', ps', dp', dd', dc', ds', sk', pen', spl', las', now', off'⟩ := b
  unfold orV
  simp only at hA hB ha9 hb9 ⊢
  have HE : Hid (((nm.toList == nm'.toList) && (load == load') && (pp == pp' && (po == po' && (pc == pc' && ps == ps'))) && (dp == dp' && (dd == dd' && (dc == dc' && ds == ds'))) && (sk == sk') && (pen == pen') && (spl == spl') && (las == las') && (now == now') && (off == off')) = sameO ⟨nm, load, pp, po, pc, ps, dp, dd, dc, ds, sk, pen, spl, las, now, off⟩ ⟨nm', load', pp', po', pc', ps', dp', dd', dc', ds', sk', pen', spl', las', now', off'⟩) := rfl
  generalize sameO ⟨nm, load, pp, po, pc, ps, dp, dd, dc, ds, sk, pen, spl, las, now, off⟩ ⟨nm', load', pp', po', pc', ps', dp', dd', dc', ds', sk', pen', spl', las', now', off'⟩ = r at *
  have KN := Lib.hid (fun w => ordNumbers_n nm oa load.length ca pp po pc ps dp dd dc ds sk pen spl las now off w)
  have KM := Lib.hid (fun w => ordNumbers_n nm' ob load'.length cb pp' po' pc' ps' dp' dd' dc' ds' sk' pen' spl' las' now' off' w)
  have KE := Lib.hid (fun w hu hv => eqInts_n (.slice oa load.length ca) (.slice ob load'.length cb) load load' ha9 hb9 w hu hv)
  have qS1 := eqlStop pp po pc ps pp' po' pc' ps'
  have qS2 := eqlStop dp dd dc ds dp' dd' dc' ds'
  have hgs : Tryd.prog.eqGuardType Tryd.prog.depth 30 = false := by kernel_rfl
  obtain ⟨z0, hz0⟩ : ∃ z, (nm.toList == nm'.toList) = z := ⟨_, rfl⟩
  obtain ⟨z1, hz1⟩ : ∃ z, (load == load') = z := ⟨_, rfl⟩
  obtain ⟨z2, hz2⟩ : ∃ z, (pp == pp' && (po == po' && (pc == pc' && ps == ps'))) = z := ⟨_, rfl⟩
  obtain ⟨z3, hz3⟩ : ∃ z, (dp == dp' && (dd == dd' && (dc == dc' && ds == ds'))) = z := ⟨_, rfl⟩
  obtain ⟨z9, hz9⟩ : ∃ z, (off == off') = z := ⟨_, rfl⟩
  have HE : Hid ((z0 && z9 && z2 && z3 && z1 && (sk == sk' && (pen == pen' && (spl == spl' && (las == las' && now == now'))))) = r) := by
    show _ = _
    rw [← HE.out, hz0, hz1, hz2, hz3, hz9]
    cases z0 <;> cases z9 <;> cases z2 <;> cases z3 <;> cases z1 <;> simp [Bool.and_assoc]
  rw [hz1] at KE
  rw [hz2] at qS1
  rw [hz3] at qS2
  clear hz1 hz2 hz3
  have BA := below_alloc w (.cells #[.string nm, .slice oa load.length ca, .int .i64 pp, .int .i64 po, .int .i64 pc, .int .i64 ps, .int .i64 dp, .int .i64 dd, .int .i64 dc, .int .i64 ds, .int .i64 sk, .int .i64 pen, .int .i64 spl, .int .i64 las, .int .i64 now, .bool off] 42)
  have BB := below_alloc (w.alloc (.cells #[.string nm, .slice oa load.length ca, .int .i64 pp, .int .i64 po, .int .i64 pc, .int .i64 ps, .int .i64 dp, .int .i64 dd, .int .i64 dc, .int .i64 ds, .int .i64 sk, .int .i64 pen, .int .i64 spl, .int .i64 las, .int .i64 now, .bool off] 42)) (.cells #[.string nm', .slice ob load'.length cb, .int .i64 pp', .int .i64 po', .int .i64 pc', .int .i64 ps', .int .i64 dp', .int .i64 dd', .int .i64 dc', .int .i64 ds', .int .i64 sk', .int .i64 pen', .int .i64 spl', .int .i64 las', .int .i64 now', .bool off'] 42)
  have TA := (Ob.made w (.string nm) (.slice oa load.length ca) (.int .i64 pp) (.int .i64 po) (.int .i64 pc) (.int .i64 ps) (.int .i64 dp) (.int .i64 dd) (.int .i64 dc) (.int .i64 ds) (.int .i64 sk) (.int .i64 pen) (.int .i64 spl) (.int .i64 las) (.int .i64 now) (.bool off)).below BB
  have TB := Ob.made (w.alloc (.cells #[.string nm, .slice oa load.length ca, .int .i64 pp, .int .i64 po, .int .i64 pc, .int .i64 ps, .int .i64 dp, .int .i64 dd, .int .i64 dc, .int .i64 ds, .int .i64 sk, .int .i64 pen, .int .i64 spl, .int .i64 las, .int .i64 now, .bool off] 42)) (.string nm') (.slice ob load'.length cb) (.int .i64 pp') (.int .i64 po') (.int .i64 pc') (.int .i64 ps') (.int .i64 dp') (.int .i64 dd') (.int .i64 dc') (.int .i64 ds') (.int .i64 sk') (.int .i64 pen') (.int .i64 spl') (.int .i64 las') (.int .i64 now') (.bool off')
  rw [show (w.alloc (.cells #[.string nm, .slice oa load.length ca, .int .i64 pp, .int .i64 po, .int .i64 pc, .int .i64 ps, .int .i64 dp, .int .i64 dd, .int .i64 dc, .int .i64 ds, .int .i64 sk, .int .i64 pen, .int .i64 spl, .int .i64 las, .int .i64 now, .bool off] 42)).heap.size = w.heap.size + 1 by simp] at TB
  have B0 := over BA BB
  have CA := hA.below B0
  have CB := hB.below B0
  obtain ⟨W0, hW0⟩ : ∃ W0, (w.alloc (.cells #[.string nm, .slice oa load.length ca, .int .i64 pp, .int .i64 po, .int .i64 pc, .int .i64 ps, .int .i64 dp, .int .i64 dd, .int .i64 dc, .int .i64 ds, .int .i64 sk, .int .i64 pen, .int .i64 spl, .int .i64 las, .int .i64 now, .bool off] 42)).alloc (.cells #[.string nm', .slice ob load'.length cb, .int .i64 pp', .int .i64 po', .int .i64 pc', .int .i64 ps', .int .i64 dp', .int .i64 dd', .int .i64 dc', .int .i64 ds', .int .i64 sk', .int .i64 pen', .int .i64 spl', .int .i64 las', .int .i64 now', .bool off'] 42) = W0 := ⟨_, rfl⟩
  rw [hW0] at TA TB B0 CA CB
  have TA := Lib.hid TA
  have TB := Lib.hid TB
  have B0 := Lib.hid B0
  have CA : Hid (∀ m, L.Li (W0.drewN m) (.slice oa load.length ca) load) := fun _ => CA
  have CB : Hid (∀ m, L.Li (W0.drewN m) (.slice ob load'.length cb) load') := fun _ => CB
  clear BA BB hA hB ha9 hb9
  have c0 := TA.out.c0
  have d0 := TB.out.c0
  have c1 := TA.out.c1
  have d1 := TB.out.c1
  have c2 := TA.out.c2
  have d2 := TB.out.c2
  have c3 := TA.out.c3
  have d3 := TB.out.c3
  have c4 := TA.out.c4
  have d4 := TB.out.c4
  have c5 := TA.out.c5
  have d5 := TB.out.c5
  have c6 := TA.out.c6
  have d6 := TB.out.c6
  have c7 := TA.out.c7
  have d7 := TB.out.c7
  have c8 := TA.out.c8
  have d8 := TB.out.c8
  have c9 := TA.out.c9
  have d9 := TB.out.c9
  have c10 := TA.out.c10
  have d10 := TB.out.c10
  have c11 := TA.out.c11
  have d11 := TB.out.c11
  have c12 := TA.out.c12
  have d12 := TB.out.c12
  have c13 := TA.out.c13
  have d13 := TB.out.c13
  have c14 := TA.out.c14
  have d14 := TB.out.c14
  have c15 := TA.out.c15
  have d15 := TB.out.c15
  have HB : Hid (Below W0.heap.size W0 W0.drew) := below_drew (Below.refl _ W0)
  cases z0
  · have HR : Hid (false = r) := HE
    clear HE KN KM
    go_enter Tryd.func15, Tryd.ntmps15
    go_wp2_with fail
    clear hW0
    go_quiet (fail)
    go_wp2_with fail
    go_ret
    exact ⟨ret_bool HR.out, over B0.out (below_drewN (Below.refl _ W0) _)⟩
  cases z9
  · have HR : Hid (false = r) := HE
    clear HE KN KM
    go_enter Tryd.func15, Tryd.ntmps15
    go_wp2_with fail
    clear hW0
    go_quiet (fail)
    go_wp2_with fail
    go_ret
    exact ⟨ret_bool HR.out, over B0.out (below_drewN (Below.refl _ W0) _)⟩
  cases z2
  · have HR : Hid (false = r) := HE
    clear HE KN KM
    go_enter Tryd.func15, Tryd.ntmps15
    go_wp2_with fail
    clear hW0
    go_quiet (fail)
    go_wp2_with fail
    go_ret
    exact ⟨ret_bool HR.out, over B0.out (below_drewN (Below.refl _ W0) _)⟩
  cases z3
  · have HR : Hid (false = r) := HE
    clear HE KN KM
    go_enter Tryd.func15, Tryd.ntmps15
    go_wp2_with fail
    clear hW0
    go_quiet (fail)
    go_wp2_with fail
    go_ret
    exact ⟨ret_bool HR.out, over B0.out (below_drewN (Below.refl _ W0) _)⟩
  cases z1
  · have HR : Hid (false = r) := HE
    clear HE KN KM
    go_enter Tryd.func15, Tryd.ntmps15
    go_wp2_with fail
    clear hW0
    go_quiet (first | (go_at_call 24; exact quiet_q (KE.out _ (CA.out _) (CB.out _))))
    go_wp2_with fail
    go_ret
    exact ⟨ret_bool HR.out, over B0.out (below_drewN (Below.refl _ W0) _)⟩
  · have HR : Hid ((sk == sk' && (pen == pen' && (spl == spl' && (las == las' && now == now')))) = r) := HE
    clear HE
    have CA1 : Hid (L.Li W0.drew (.slice oa load.length ca) load) := CA.out 1
    have CB1 : Hid (L.Li W0.drew (.slice ob load'.length cb) load') := CB.out 1
    have KE2 : Hid (∀ w, L.Li w (.slice oa load.length ca) load → L.Li w (.slice ob load'.length cb) load' → Calls Tryd.prog 24 #[.slice oa load.length ca, .slice ob load'.length cb] w fun e w' => e = .returned (.bool true) ∧ Below w.heap.size w w') := fun w h1 h2 => (KE.out w h1 h2).mono fun _ _ ⟨he, q, hq⟩ => ⟨he, by rw [hq]; exact below_drewN (Below.refl _ _) q⟩
    have TA : Hid (Ob W0.drew w.heap.size (.string nm) (.slice oa load.length ca) (.int .i64 pp) (.int .i64 po) (.int .i64 pc) (.int .i64 ps) (.int .i64 dp) (.int .i64 dd) (.int .i64 dc) (.int .i64 ds) (.int .i64 sk) (.int .i64 pen) (.int .i64 spl) (.int .i64 las) (.int .i64 now) (.bool off)) := TA
    have TB : Hid (Ob W0.drew (w.heap.size + 1) (.string nm') (.slice ob load'.length cb) (.int .i64 pp') (.int .i64 po') (.int .i64 pc') (.int .i64 ps') (.int .i64 dp') (.int .i64 dd') (.int .i64 dc') (.int .i64 ds') (.int .i64 sk') (.int .i64 pen') (.int .i64 spl') (.int .i64 las') (.int .i64 now') (.bool off')) := TB
    have q5 := eql5
    have hgm : Tryd.prog.eqGuardType Tryd.prog.depth 55 = false := by kernel_rfl
    go_enter Tryd.func15, Tryd.ntmps15
    go_wp2_with fail
    clear hW0
    go_region_held3 (fun w' => w'.cell? ⟨w.heap.size, 0, none⟩ = some (.string nm) ∧ w'.cell? ⟨w.heap.size + 1, 0, none⟩ = some (.string nm') ∧ w'.cell? ⟨w.heap.size, 1, none⟩ = some (.slice oa load.length ca) ∧ w'.cell? ⟨w.heap.size + 1, 1, none⟩ = some (.slice ob load'.length cb) ∧ w'.cell? ⟨w.heap.size, 2, none⟩ = some (.int .i64 pp) ∧ w'.cell? ⟨w.heap.size + 1, 2, none⟩ = some (.int .i64 pp') ∧ w'.cell? ⟨w.heap.size, 3, none⟩ = some (.int .i64 po) ∧ w'.cell? ⟨w.heap.size + 1, 3, none⟩ = some (.int .i64 po') ∧ w'.cell? ⟨w.heap.size, 4, none⟩ = some (.int .i64 pc) ∧ w'.cell? ⟨w.heap.size + 1, 4, none⟩ = some (.int .i64 pc') ∧ w'.cell? ⟨w.heap.size, 5, none⟩ = some (.int .i64 ps) ∧ w'.cell? ⟨w.heap.size + 1, 5, none⟩ = some (.int .i64 ps') ∧ w'.cell? ⟨w.heap.size, 6, none⟩ = some (.int .i64 dp) ∧ w'.cell? ⟨w.heap.size + 1, 6, none⟩ = some (.int .i64 dp') ∧ w'.cell? ⟨w.heap.size, 7, none⟩ = some (.int .i64 dd) ∧ w'.cell? ⟨w.heap.size + 1, 7, none⟩ = some (.int .i64 dd') ∧ w'.cell? ⟨w.heap.size, 8, none⟩ = some (.int .i64 dc) ∧ w'.cell? ⟨w.heap.size + 1, 8, none⟩ = some (.int .i64 dc') ∧ w'.cell? ⟨w.heap.size, 9, none⟩ = some (.int .i64 ds) ∧ w'.cell? ⟨w.heap.size + 1, 9, none⟩ = some (.int .i64 ds') ∧ w'.cell? ⟨w.heap.size, 10, none⟩ = some (.int .i64 sk) ∧ w'.cell? ⟨w.heap.size + 1, 10, none⟩ = some (.int .i64 sk') ∧ w'.cell? ⟨w.heap.size, 11, none⟩ = some (.int .i64 pen) ∧ w'.cell? ⟨w.heap.size + 1, 11, none⟩ = some (.int .i64 pen') ∧ w'.cell? ⟨w.heap.size, 12, none⟩ = some (.int .i64 spl) ∧ w'.cell? ⟨w.heap.size + 1, 12, none⟩ = some (.int .i64 spl') ∧ w'.cell? ⟨w.heap.size, 13, none⟩ = some (.int .i64 las) ∧ w'.cell? ⟨w.heap.size + 1, 13, none⟩ = some (.int .i64 las') ∧ w'.cell? ⟨w.heap.size, 14, none⟩ = some (.int .i64 now) ∧ w'.cell? ⟨w.heap.size + 1, 14, none⟩ = some (.int .i64 now') ∧ w'.cell? ⟨w.heap.size, 15, none⟩ = some (.bool off) ∧ w'.cell? ⟨w.heap.size + 1, 15, none⟩ = some (.bool off'))
      (first | exact ⟨c0, d0, c1, d1, c2, d2, c3, d3, c4, d4, c5, d5, c6, d6, c7, d7, c8, d8, c9, d9, c10, d10, c11, d11, c12, d12, c13, d13, c14, d14, c15, d15⟩)
      (first | (go_at_call 24; (with_reducible refine (KE2.out _ CA1.out CB1.out).mono ?_); rintro e wz ⟨rfl, bz⟩; have TA := Lib.hid (Ob.below TA.out bz); have TB := Lib.hid (Ob.below TB.out bz); have HB := Lib.hid (over HB.out bz); have c0 := TA.out.c0; have d0 := TB.out.c0; have c1 := TA.out.c1; have d1 := TB.out.c1; have c2 := TA.out.c2; have d2 := TB.out.c2; have c3 := TA.out.c3; have d3 := TB.out.c3; have c4 := TA.out.c4; have d4 := TB.out.c4; have c5 := TA.out.c5; have d5 := TB.out.c5; have c6 := TA.out.c6; have d6 := TB.out.c6; have c7 := TA.out.c7; have d7 := TB.out.c7; have c8 := TA.out.c8; have d8 := TB.out.c8; have c9 := TA.out.c9; have d9 := TB.out.c9; have c10 := TA.out.c10; have d10 := TB.out.c10; have c11 := TA.out.c11; have d11 := TB.out.c11; have c12 := TA.out.c12; have d12 := TB.out.c12; have c13 := TA.out.c13; have d13 := TB.out.c13; have c14 := TA.out.c14; have d14 := TB.out.c14; have c15 := TA.out.c15; have d15 := TB.out.c15) | (go_at_call 25; (first | (with_reducible refine (KN.out _).mono ?_) | (with_reducible refine (KM.out _).mono ?_)); rintro e wz ⟨rfl, bz⟩; have TA := Lib.hid (Ob.below TA.out bz); have TB := Lib.hid (Ob.below TB.out bz); have HB := Lib.hid (over HB.out bz); have c0 := TA.out.c0; have d0 := TB.out.c0; have c1 := TA.out.c1; have d1 := TB.out.c1; have c2 := TA.out.c2; have d2 := TB.out.c2; have c3 := TA.out.c3; have d3 := TB.out.c3; have c4 := TA.out.c4; have d4 := TB.out.c4; have c5 := TA.out.c5; have d5 := TB.out.c5; have c6 := TA.out.c6; have d6 := TB.out.c6; have c7 := TA.out.c7; have d7 := TB.out.c7; have c8 := TA.out.c8; have d8 := TB.out.c8; have c9 := TA.out.c9; have d9 := TB.out.c9; have c10 := TA.out.c10; have d10 := TB.out.c10; have c11 := TA.out.c11; have d11 := TB.out.c11; have c12 := TA.out.c12; have d12 := TB.out.c12; have c13 := TA.out.c13; have d13 := TB.out.c13; have c14 := TA.out.c14; have d14 := TB.out.c14; have c15 := TA.out.c15; have d15 := TB.out.c15))
    all_goals
      go_wp2_with fail
      go_ret
      exact ⟨ret_bool HR.out, over B0.out HB.out⟩

end Go.Proofs.YtalfonpkefhlmaaDoor.T

