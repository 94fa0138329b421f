/-
  DERIVED. The walk of OrderVisits.
-/
import Derived.Test.YtalfonpkefhlmaaDoorOrdAwake
import Derived.Test.YtalfonpkefhlmaaDoorRefOrd5
import Derived.Test.YtalfonpkefhlmaaDoorOrdFew
import Derived.Test.YtalfonpkefhlmaaDoorWinRow
namespace Go.Proofs.YtalfonpkefhlmaaDoor.T
open Go.RowKit
set_option maxRecDepth 8000

theorem neqStop (p o c s : Int) (w : World) : (binOp .neq 30 (.agg #[.int .i64 p, .int .i64 o, .int .i64 c, .int .i64 s]) (.agg #[.int .i64 p, .int .i64 o, .int .i64 c, .int .i64 s])).run Tryd.prog w = .ok (.bool false) w := by
  have hS : Tryd.prog.underlying 30 = some (.struct (Tryd.prog.fieldsOf 30)) := by kernel_rfl
  have hp : Tryd.prog.stoodInHeld 30 = false := by kernel_rfl
  have u3 := Tryd.underlying3
  have a3 := Tryd.isAgg3
  have z3 := Tryd.sizeOf3
  rw [run_neq_struct, show (10000 : Nat) = 9999 + 1 from rfl, run_equalIn_agg w 9999 30 _ _ hS hp]
  simp only [Program.fieldsOf, Tryd.underlying30]
  go_simp
theorem neqVisit (i : Int) (d : Bool) (w : World) : (binOp .neq 24 (.agg #[.int .i64 i, .bool d]) (.agg #[.int .i64 i, .bool d])).run Tryd.prog w = .ok (.bool false) w := by
  have hS : Tryd.prog.underlying 24 = some (.struct (Tryd.prog.fieldsOf 24)) := by kernel_rfl
  have hp : Tryd.prog.stoodInHeld 24 = false := by kernel_rfl
  have u3 := Tryd.underlying3
  have a3 := Tryd.isAgg3
  have z3 := Tryd.sizeOf3
  have u4 := Tryd.underlying4
  have a4 := Tryd.isAgg4
  have z4 := Tryd.sizeOf4
  rw [run_neq_struct, show (10000 : Nat) = 9999 + 1 from rfl, run_equalIn_agg w 9999 24 _ _ hS hp]
  simp only [Program.fieldsOf, Tryd.underlying24]
  go_simp

theorem vis_len (l : List OrT) (i : Int) : (visL l i).length ≤ 2 := by
  unfold visL visO
  generalize l.getD i.toNat or0 = o
  split
  · rw [List.length_append]
    have h1 : (if 0 ≤ o.pp then [(i, false)] else []).length ≤ 1 := by split <;> simp
    have h2 : (if 0 ≤ o.dp then [(i, true)] else []).length ≤ 1 := by split <;> simp
    omega
  · simp
set_option maxHeartbeats 6400000 in
theorem orderVisits_walk (v : Value) (l : List OrT) (at' j : Int) (d : Bool) (hl : l.length ≤ 9223372036854775807) (hz : ∀ i, i < l.length → (l.getD i or0).load.length ≤ 9223372036854775807 ∧ (l.getD i or0).name.size ≤ 9223372036854775807) (w : World) (hv : Os w v l) (hT : S.Tab w) :
    Calls Tryd.prog 3 #[v, .int .i64 at', .agg #[.int .i64 j, .bool d]] w fun e w' => e = .returned (.bool true) ∧ Below w.heap.size w w' := by
  have BV := below_alloc w (.cells #[.int .i64 j, .bool d] 24)
  have VC0 : (w.alloc (.cells #[.int .i64 j, .bool d] 24)).cell? ⟨w.heap.size, 0, none⟩ = some (.int .i64 j) := by simp
  have VC1 : (w.alloc (.cells #[.int .i64 j, .bool d] 24)).cell? ⟨w.heap.size, 1, none⟩ = some (.bool d) := by simp
  have HV := Lib.hid (hv.below BV)
  have HT := Lib.hid (hT.over BV)
  have HF := Lib.hid (fun w hv => fewO_n v l hl hz w hv)
  have HAw := Lib.hid (fun w hT => awake_n w hT)
  obtain ⟨oa, c, rfl, -⟩ := hv
  obtain ⟨W0, hW0⟩ : ∃ W0, w.alloc (.cells #[.int .i64 j, .bool d] 24) = W0 := ⟨_, rfl⟩
  have hvl : w.heap.size < (w.alloc (.cells #[.int .i64 j, .bool d] 24)).heap.size := by simp
  rw [hW0] at BV VC0 VC1 HV HT hvl
  have HB := Lib.hid BV
  clear BV hT
  cases hf : fewO l
  · rw [hf] at HF
    clear hz hl
    go_enter Tryd.func3, Tryd.ntmps3
    go_wp2_with fail
    clear hW0
    refine (HF.out _ HV.out).mono ?_
    rintro e w1 ⟨rfl, rfl⟩
    go_wp2_with fail
    refine (HAw.out _ HT.out).mono ?_
    rintro e w2 ⟨rfl, b2⟩
    have B2 := Lib.hid (over HB.out b2)
    clear b2
    go_wp2_with fail
    go_ret
    exact ⟨rfl, B2.out⟩
  · have hl14 := (few_spec hf).1
    rw [hf] at HF
    have K1 := Lib.hid (fun w hv => ordVisits_n (.slice oa l.length c) l at' w hv)
    have K2 := Lib.hid (fun w hv => refVisits_n (.slice oa l.length c) l at' (by omega) w hv)
    have K3 := Lib.hid (fun i d w hv => ordStop_n (.slice oa l.length c) l i d w hv)
    have K4 := Lib.hid (fun w hv => refStop_n (.slice oa l.length c) l j d (by omega) w hv)
    have HS := Lib.hid (fun (x : Int × Bool) (h : x ∈ visL l at') => vis_stop h)
    have hm2 := vis_len l at'
    generalize visL l at' = m at *
    have K3a := Lib.hid (fun w hv => K3.out j d w hv)
    generalize stopV l j d = sv at *
    generalize stopE l j d = se at *
    clear hz hf hl hl14
    go_enter Tryd.func3, Tryd.ntmps3
    go_wp2_with fail
    clear hW0
    refine (HF.out _ HV.out).mono ?_
    rintro e w1 ⟨rfl, rfl⟩
    clear HF
    go_wp2_with fail
    refine (K1.out _ HV.out).mono ?_
    rintro e w2 ⟨oA, cA, rfl, ⟨hA, -, -⟩, b2⟩
    have HV2 := Lib.hid (HV.out.below b2)
    have B2 := Lib.hid (over HB.out b2)
    have HA2 := Lib.hid hA
    have y0 := (b2.cell (p := ⟨w.heap.size, 0, none⟩) hvl).trans VC0
    have y1 := (b2.cell (p := ⟨w.heap.size, 1, none⟩) hvl).trans VC1
    have hvl2 := Nat.lt_of_lt_of_le hvl b2.size
    have HT2 := Lib.hid (HT.out.over b2)
    clear b2 hA VC0 VC1 hvl HB HV HT
    go_wp2_with fail
    refine (K2.out _ HV2.out).mono ?_
    rintro e w3 ⟨oB, cB, rfl, ⟨hB, -, -⟩, b3⟩
    have HV3 := Lib.hid (HV2.out.below b3)
    have B3 := Lib.hid (over B2.out b3)
    have HA3 := Lib.hid (HA2.out.below b3)
    have HB3 := Lib.hid hB
    have z0 := (b3.cell (p := ⟨w.heap.size, 0, none⟩) hvl2).trans y0
    have z1 := (b3.cell (p := ⟨w.heap.size, 1, none⟩) hvl2).trans y1
    have hvl3 := Nat.lt_of_lt_of_le hvl2 b3.size
    have HT3 := Lib.hid (HT2.out.over b3)
    clear b3 hB y0 y1 hvl2 B2 HV2 HA2 HT2
    go_wp2_with fail
    refine (K3a.out _ HV3.out).mono ?_
    rintro e w4 ⟨rfl, b4⟩
    have S4 := V.Bs.made w4 sv.p sv.o sv.c sv.s
    have bz := over b4 (below_alloc w4 (.cells #[.int .i64 sv.p, .int .i64 sv.o, .int .i64 sv.c, .int .i64 sv.s] 30))
    have HV4 := Lib.hid (HV3.out.below bz)
    have B4 := Lib.hid (over B3.out bz)
    have HA4 := Lib.hid (HA3.out.below bz)
    have HB4 := Lib.hid (HB3.out.below bz)
    have u0 := (bz.cell (p := ⟨w.heap.size, 0, none⟩) hvl3).trans z0
    have u1 := (bz.cell (p := ⟨w.heap.size, 1, none⟩) hvl3).trans z1
    have HT4 := Lib.hid (HT3.out.over bz)
    clear bz b4 z0 z1 hvl3 B3 HV3 HA3 HB3 HT3
    go_wp2_with fail
    refine (K4.out _ HV4.out).mono ?_
    rintro e w5 ⟨rfl, b5⟩
    have S5 := V.Bs.made w5 sv.p sv.o sv.c sv.s
    have bz := over b5 (below_alloc w5 (.cells #[.int .i64 sv.p, .int .i64 sv.o, .int .i64 sv.c, .int .i64 sv.s] 30))
    have HV5 := Lib.hid (HV4.out.below bz)
    have B5 := Lib.hid (over B4.out bz)
    have HA5 := Lib.hid (HA4.out.below bz)
    have HB5 := Lib.hid (HB4.out.below bz)
    have HT5 := Lib.hid (HT4.out.over bz)
    have S4' := S4.below bz
    have s0 := S4'.c0
    have s1 := S4'.c1
    have s2 := S4'.c2
    have s3 := S4'.c3
    have t0 := S5.c0
    have t1 := S5.c1
    have t2 := S5.c2
    have t3 := S5.c3
    have hq := neqStop sv.p sv.o sv.c sv.s
    have hgs : Tryd.prog.eqGuardType Tryd.prog.depth 30 = false := by kernel_rfl
    clear bz b5 u0 u1 S4 S4' S5 B4 HV4 HA4 HB4 HT4 K1 K2 K3a K4
    have hne : ((m.length : Int) != (m.length : Int)) = false := by simp
    have hse : (se != se) = false := by simp
    go_wp2_with fail
    have hgv : Tryd.prog.eqGuardType Tryd.prog.depth 24 = false := by kernel_rfl
    generalize hn : m.length = n at *
    have HN := Lib.hid hn
    clear hn hq s0 s1 s2 s3 t0 t1 t2 t3
    obtain ⟨W5, hW5⟩ : ∃ W5, w5.alloc (.cells #[.int .i64 sv.p, .int .i64 sv.o, .int .i64 sv.c, .int .i64 sv.s] 30) = W5 := ⟨_, rfl⟩
    rw [hW5] at HV5 B5 HA5 HB5 HT5 ⊢
    clear hW5
    go_loopg [13] n (fun g v wr => ∃ k : Nat, k ≤ n ∧ v = .int .i64 k ∧ n - k ≤ g ∧ Hid (Below W5.heap.size W5 wr))
    case atStart => exact ⟨0, Nat.zero_le _, rfl, Nat.le_refl _, Below.refl _ _⟩
    case round =>
      obtain ⟨k, hk, rfl, hg, HW⟩ := hrel
      by_cases hlt : k < n
      · have hkI : (k : Int) < (n : Int) := by omega
        have hkm : k < m.length := by rw [HN.out]; exact hlt
        obtain ⟨x, hx⟩ : ∃ x, m.getD k (0, false) = x := ⟨_, rfl⟩
        have hs := HS.out x (by rw [← hx]; exact getD_mem hkm)
        have HVr := Lib.hid (HV5.out.below HW.out)
        have KS := Lib.hid (K3.out x.1 x.2 wr HVr.out)
        rw [hs.1] at KS
        obtain ⟨oA', cA', hvA, hA⟩ := (HA5.out.below HW.out)
        obtain ⟨bA, pA, haA, hbA, xA0, xA1⟩ := hA k hkm
        simp only [Value.slice.injEq] at hvA
        obtain ⟨rfl, -, rfl⟩ := hvA
        subst haA
        obtain ⟨oB', cB', hvB, hB⟩ := (HB5.out.below HW.out)
        obtain ⟨bB, pB, haB, hbB, xB0, xB1⟩ := hB k hkm
        simp only [Value.slice.injEq] at hvB
        obtain ⟨rfl, -, rfl⟩ := hvB
        subst haB
        rw [hx] at xA0 xA1 xB0 xB1
        unfold vE at xA0 xB0
        unfold vA at xA1 xB1
        have hp0 := hs.2
        clear hA hB hs hx hkm
        generalize stopV l x.1 x.2 = sx at *
        go_wp2_with fail
        refine KS.out.mono ?_
        rintro e w6 ⟨rfl, b6⟩
        have S6 := V.Bs.made w6 sx.p sx.o sx.c sx.s
        have bz := over b6 (below_alloc w6 (.cells #[.int .i64 sx.p, .int .i64 sx.o, .int .i64 sx.c, .int .i64 sx.s] 30))
        have a0 := (bz.cell (p := ⟨bA, _, none⟩) hbA).trans xA0
        have a1 := (bz.cell (p := ⟨bA, _, none⟩) hbA).trans xA1
        have d0 := (bz.cell (p := ⟨bB, _, none⟩) hbB).trans xB0
        have d1 := (bz.cell (p := ⟨bB, _, none⟩) hbB).trans xB1
        have c0 := S6.c0
        have hq := neqVisit x.1 x.2
        have HW6 := Lib.hid (over HW.out bz)
        have hpn : ¬ sx.p < 0 := by omega
        clear xA0 xA1 xB0 xB1 b6 S6 KS
        go_wp2_with fail
        go_quiet (fail)
        go_wp2_with fail
        go_roundg (n - (k + 1))
        case measure => omega
        case rel => exact ⟨k + 1, by omega, by go_num, by omega, below_drewN HW6.out _⟩
      · have hkk : k = n := by omega
        subst hkk
        have HTr := Lib.hid (HT5.out.over HW.out)
        have HBr := Lib.hid (over B5.out HW.out)
        go_wp2_with fail
        refine (HAw.out _ HTr.out).mono ?_
        rintro e w7 ⟨rfl, b7⟩
        have B7 := Lib.hid (over HBr.out b7)
        clear b7
        go_wp2_with fail
        go_ret
        exact ⟨rfl, B7.out⟩

end Go.Proofs.YtalfonpkefhlmaaDoor.T

