/-
  DERIVED. GN: a part of the base of layer 13 (made by pack.py).
-/
import Derived.Test.YtnapmildbodigaaDoorHU
import Derived.Test.YtnapmildbodigaaDoorGF
import Derived.Test.YtnapmildbodigaaDoorGI
/-! The course of a route in a valid instance is in order; who starts later arrives later. -/
namespace Go.Proofs.YtnapmildbodigaaDoor.T
open Go.RowKit
set_option maxRecDepth 8000

theorem flF_nil {np : Nat} {l : List TyT} : ∀ k, flF np l k = [] → ∀ i, i < k → tyE np l i = []
  | 0, _, i, hi => absurd hi (Nat.not_lt_zero i)
  | k + 1, h, i, hi => by
    unfold flF at h
    rw [List.append_eq_nil_iff, at_nil] at h
    rcases Nat.lt_or_eq_of_le (Nat.le_of_lt_succ hi) with h1 | h1
    · exact flF_nil k h.1 i h1
    · rw [h1]; exact h.2
theorem rg_iff {a b x : Int} : rgB a b x = true ↔ a ≤ x ∧ x ≤ b := by unfold rgB; rw [Bool.and_eq_true, decide_eq_true_iff, decide_eq_true_iff]
theorem if_nil {b : Bool} {x : Int} (h : (if b = true then [] else [x]) = ([] : List Int)) : b = true := by
  cases b
  · cases h
  · rfl
theorem ty_ok {np : Nat} {l : List TyT} {i : Nat} (h : tyE np l i = []) : (0 ≤ (l.getD i ty0).opn ∧ (l.getD i ty0).opn ≤ (l.getD i ty0).cls ∧ (l.getD i ty0).cls ≤ 4096) ∧ (1 ≤ (l.getD i ty0).drv ∧ (l.getD i ty0).drv ≤ 4096) ∧ 0 ≤ (l.getD i ty0).rst ∧ (l.getD i ty0).rst ≤ 4096 := by
  unfold tyE at h
  simp only [List.append_eq_nil_iff] at h
  have h7 := if_nil h.1.1.2
  have h8 := if_nil h.1.2
  simp only [Bool.and_eq_true, rg_iff, decide_eq_true_eq] at h7 h8
  exact ⟨⟨h7.1.1, h7.1.2, h7.2⟩, h8.1, h8.2⟩
theorem or_ok {np : Nat} {dims types : Int} {l : List OrT} {i : Nat} (h : orE np dims types l i = []) (d : Bool) (hp : 0 ≤ (stQ (l.getD i or0) d).p) : 0 ≤ (stQ (l.getD i or0) d).o ∧ (stQ (l.getD i or0) d).o ≤ (stQ (l.getD i or0) d).c ∧ (stQ (l.getD i or0) d).c ≤ 4096 ∧ 0 ≤ (stQ (l.getD i or0) d).s ∧ (stQ (l.getD i or0) d).s ≤ 4096 := by
  unfold orE at h
  simp only [List.append_eq_nil_iff] at h
  have h6 := if_nil h.1.1.2
  simp only [Bool.and_eq_true, decide_eq_true_eq] at h6
  have hc : ∀ p o c s : Int, V.chk p o c s = 0 → 0 ≤ p → 0 ≤ o ∧ o ≤ c ∧ c ≤ 4096 ∧ 0 ≤ s ∧ s ≤ 4096 := fun p o c s h hp => by
    unfold V.chk at h
    split at h
    · rename_i h9
      rcases (Bool.or_eq_true _ _).mp h9 with h9 | h9
      · have := (V.none_iff p o c s).1 h9; omega
      · have := (V.at_iff p o c s).1 h9; omega
    · cases h
  cases d
  · exact hc _ _ _ _ h6.1 hp
  · exact hc _ _ _ _ h6.2 hp
theorem crs_ok {x : InT} (h : inF x = []) (hal : x.al.length ≤ 1000000) {ty st : Int} {l : List (Int × Bool)} (hp : posD x.tl x.ol ty st l = true) : (crs x ty st l).Ok := by
  obtain ⟨h1, h2, h3, -, -⟩ := inF_nil.1 h
  unfold posD at hp
  simp only [Bool.and_eq_true, decide_eq_true_eq] at hp
  obtain ⟨⟨⟨⟨⟨p1, p2⟩, p3⟩, p4⟩, p5⟩, p6⟩ := hp
  have ht := ty_ok (flF_nil _ h2 ty.toNat (by omega))
  obtain ⟨-, h3⟩ := orderF_nil.1 h3
  have hS : ∀ s ∈ (crs x ty st l).S, 0 ≤ s.o ∧ s.o ≤ s.c ∧ s.c ≤ 4096 ∧ 0 ≤ s.s ∧ s.s ≤ 4096 := by
    intro s hs
    have hs : s ∈ crsS (x.tl.getD ty.toNat ty0) x.ol l := hs
    unfold crsS at hs
    rw [List.mem_append, List.mem_cons, List.mem_map, List.mem_singleton] at hs
    rcases hs with (rfl | ⟨v, hv, rfl⟩) | rfl
    · exact ⟨Int.le_refl _, Int.le_refl _, by show (0 : Int) ≤ 4096; decide, Int.le_refl _, by show (0 : Int) ≤ 4096; decide⟩
    · unfold stopsOk at p6
      have h5 := of_decide_eq_true (List.all_eq_true.1 p6 v hv)
      unfold stopE at h5
      unfold stopV
      split at h5
      · rename_i hr
        rw [if_pos hr]
        split at h5
        · cases h5
        · rename_i hq
          rw [if_neg hq]
          have hi : v.1.toNat < x.ol.length := by
            unfold inR at hr
            simp only [Bool.and_eq_true, decide_eq_true_eq] at hr
            omega
          exact or_ok (h3 _ hi) v.2 (by omega)
      · cases h5
    · exact ⟨Int.le_refl _, by show (0 : Int) ≤ (x.tl.getD ty.toNat ty0).cls; omega, ht.1.2.2, Int.le_refl _, by show (0 : Int) ≤ 4096; decide⟩
  have hl : (crs x ty st l).S.length = l.length + 2 := crsS_len _ _ _
  refine ⟨netOk_of h1, hal, ht.2.2, ht.2.1, by rw [hl]; omega, fun k hk => hS _ (by rw [List.getD_eq_getElem?_getD, List.getElem?_eq_getElem hk]; exact List.getElem_mem hk), ?_, ?_⟩
  · show 0 ≤ (if (x.tl.getD ty.toNat ty0).opn < st then st else (x.tl.getD ty.toNat ty0).opn) ∧ (if (x.tl.getD ty.toNat ty0).opn < st then st else (x.tl.getD ty.toNat ty0).opn) ≤ 4096
    split <;> omega
  · rw [hl, show l.length + 2 - 1 = l.length + 1 by omega]
    show (List.getD (crsS (x.tl.getD ty.toNat ty0) x.ol l) (l.length + 1) st0).o = 0
    unfold crsS
    rw [List.getD_eq_getElem?_getD, List.getElem?_append_right (by simp)]
    simp
/-! ### later -/
namespace CrT
def at_ (c : CrT) (rd : Int) : CrT := { c with rd := rd }
section
variable {c : CrT} (hn : NetOk c.pl c.al) {rd : Int} (h : c.rd ≤ rd)
include hn
theorem leg_mono {k : Nat} {d d' s s' : Int} {r : Bool} (hd : d ≤ d') : (c.leg k d s r).dep ≤ ((c.at_ rd).leg k d' s' r).dep ∧ (c.leg k d s r).arr ≤ ((c.at_ rd).leg k d' s' r).arr ∧ (c.leg k d s r).don ≤ ((c.at_ rd).leg k d' s' r).don ∧ (c.leg k d s r).mil = ((c.at_ rd).leg k d' s' r).mil := by
  have hg : c.gD d r ≤ c.gD d' r := by unfold gD; split <;> omega
  have hm := goV_mono hn (pr := c.ty.prof) (f := (c.S.getD k st0).p) (t := (c.S.getD (k + 1) st0).p) hg
  have h1 : (c.go k d r).1 ≤ (c.go k d' r).1 := hm.2.2
  refine ⟨hg, h1, ?_, hm.2.1⟩
  show c.beg k d r + (c.S.getD (k + 1) st0).s ≤ c.beg k d' r + (c.S.getD (k + 1) st0).s
  have hb : c.beg k d r ≤ c.beg k d' r := by unfold beg; split <;> split <;> omega
  omega
include h
theorem dn_mono (R : List Bool) : ∀ k, (c.dn R k).1 ≤ ((c.at_ rd).dn R k).1
  | 0 => h
  | k + 1 => (leg_mono hn (k := k) (s := (c.dn R k).2) (s' := ((c.at_ rd).dn R k).2) (r := R.getD k false) (dn_mono R k)).2.2.1
theorem lg_mono (R : List Bool) (k : Nat) : (c.lg R k).dep ≤ ((c.at_ rd).lg R k).dep ∧ (c.lg R k).arr ≤ ((c.at_ rd).lg R k).arr ∧ (c.lg R k).don ≤ ((c.at_ rd).lg R k).don ∧ (c.lg R k).mil = ((c.at_ rd).lg R k).mil := leg_mono hn (k := k) (s := (c.dn R k).2) (s' := ((c.at_ rd).dn R k).2) (r := R.getD k false) (dn_mono hn h R k)
theorem mil_same (R : List Bool) : ∀ k, c.mil R k = (c.at_ rd).mil R k
  | 0 => rfl
  | k + 1 => by
    show c.mil R k + (c.lg R k).mil = (c.at_ rd).mil R k + ((c.at_ rd).lg R k).mil
    rw [mil_same R k, (lg_mono hn h R k).2.2.2]
end
end CrT
theorem crs_later (x : InT) (ty : Int) {st st' : Int} (h : st ≤ st') (l : List (Int × Bool)) : ∃ rd, (crs x ty st l).rd ≤ rd ∧ crs x ty st' l = (crs x ty st l).at_ rd := by
  refine ⟨(crs x ty st' l).rd, ?_, rfl⟩
  show (if (x.tl.getD ty.toNat ty0).opn < st then st else (x.tl.getD ty.toNat ty0).opn) ≤ (if (x.tl.getD ty.toNat ty0).opn < st' then st' else (x.tl.getD ty.toNat ty0).opn)
  split <;> split <;> omega
theorem tms_len (c : CrT) (R : List Bool) : (c.sheet R).T.length = c.n - 1 := by show (c.tms R).length = _; unfold CrT.tms; simp
theorem tms_at (c : CrT) (R : List Bool) {i : Nat} (h : i < c.n - 1) : (c.sheet R).T.getD i tm0 = c.tm R i := by
  show (c.tms R).getD i tm0 = _
  unfold CrT.tms
  rw [List.getD_eq_getElem?_getD, List.getElem?_map, List.getElem?_range h]
  rfl
/-- who starts later is nowhere earlier -/
theorem later_ok {x : InT} {ty st st' : Int} {l : List (Int × Bool)} {R : List Bool} (hok : (crs x ty st l).Ok) (h : st ≤ st') :
    (∀ i, i < l.length → (((crs x ty st l).sheet R).T.getD i tm0).a ≤ (((crs x ty st' l).sheet R).T.getD i tm0).a ∧ (((crs x ty st l).sheet R).T.getD i tm0).d ≤ (((crs x ty st' l).sheet R).T.getD i tm0).d) ∧ ((crs x ty st l).sheet R).e ≤ ((crs x ty st' l).sheet R).e ∧ ((crs x ty st l).sheet R).m = ((crs x ty st' l).sheet R).m := by
  obtain ⟨rd, h1, h2⟩ := crs_later x ty h l
  have hn := hok.net
  have e1 := crs_n x ty st l
  have e2 := crs_n x ty st' l
  refine ⟨fun i hi => ?_, ?_, ?_⟩
  · rw [tms_at _ _ (by omega), tms_at _ _ (by omega), h2]
    exact ⟨(CrT.lg_mono hn h1 R i).2.1, (CrT.lg_mono hn h1 R (i + 1)).1⟩
  · show ((crs x ty st l).lg R ((crs x ty st l).n - 1)).arr ≤ ((crs x ty st' l).lg R ((crs x ty st' l).n - 1)).arr
    rw [e1, e2, h2]
    exact (CrT.lg_mono hn h1 R _).2.1
  · show (crs x ty st l).mil R (crs x ty st l).n = (crs x ty st' l).mil R (crs x ty st' l).n
    rw [e1, e2, h2]
    exact CrT.mil_same hn h1 R _
end Go.Proofs.YtnapmildbodigaaDoor.T


/-! The laws' right, sample (by gen_eb.py). -/
namespace Go.Proofs.YtnapmildbodigaaDoor.T
open Go.RowKit
set_option maxRecDepth 8000
attribute [local irreducible] wpList Code.wp wpAnyH

def rightB (x : InT) : Bool := decide ((inF x).length = 0)
theorem right_n (k : Iv) (x : InT) (hx : InU x) (w : World) (hI : Ins w k x) : Calls Tryd.prog 9 #[.agg #[.slice k.o0 x.pl.length k.c0, .slice k.o1 x.al.length k.c1, .slice k.o2 x.tl.length k.c2, .slice k.o3 x.ol.length k.c3, .slice k.o4 x.ap.length k.c4, .slice k.o5 x.be.length k.c5]] w fun e w' => e = .returned (.bool (rightB x)) ∧ Below w.heap.size w w' := by
  have HB : Below w.heap.size w w := Below.refl _ _
  refine sx_enter Tryd.func9 rfl [(0, .agg #[.slice k.o0 x.pl.length k.c0, .slice k.o1 x.al.length k.c1, .slice k.o2 x.tl.length k.c2, .slice k.o3 x.ol.length k.c3, .slice k.o4 x.ap.length k.c4, .slice k.o5 x.be.length k.c5])] (by kernel_rfl) ?_
  refine wp_seq ?_
  refine wp_region_lit ?_
  obtain ⟨W1, hW⟩ : ∃ W, w.alloc (.cells #[.slice k.o0 x.pl.length k.c0, .slice k.o1 x.al.length k.c1, .slice k.o2 x.tl.length k.c2, .slice k.o3 x.ol.length k.c3, .slice k.o4 x.ap.length k.c4, .slice k.o5 x.be.length k.c5] 30) = W := ⟨_, rfl⟩
  have hb := hW ▸ below_alloc w (.cells #[.slice k.o0 x.pl.length k.c0, .slice k.o1 x.al.length k.c1, .slice k.o2 x.tl.length k.c2, .slice k.o3 x.ol.length k.c3, .slice k.o4 x.ap.length k.c4, .slice k.o5 x.be.length k.c5] 30)
  have hq : Cb W1 w.heap.size #[.slice k.o0 x.pl.length k.c0, .slice k.o1 x.al.length k.c1, .slice k.o2 x.tl.length k.c2, .slice k.o3 x.ol.length k.c3, .slice k.o4 x.ap.length k.c4, .slice k.o5 x.be.length k.c5] 30 := hW ▸ Cb.made w #[.slice k.o0 x.pl.length k.c0, .slice k.o1 x.al.length k.c1, .slice k.o2 x.tl.length k.c2, .slice k.o3 x.ol.length k.c3, .slice k.o4 x.ap.length k.c4, .slice k.o5 x.be.length k.c5] 30
  refine sx_mem (by kernel_rfl) rfl rfl (.pointer (some ⟨w.heap.size, 0, none⟩)) W1 (by rw [← hW]; kernel_rfl) ?_
  replace HB := over HB hb
  have z1 := hb.size
  have M2 := hq
  have yM2 := hq.lt
  clear hq hb hW
  refine sx_val (by kernel_rfl) rfl rfl (.bool false) (by kernel_rfl) ?_
  refine wpList_nil ?_
  refine sx_norm ?_
  refine wp_seq ?_
  refine wp_region_lit ?_
  refine sx_val (by kernel_rfl) rfl rfl (.agg #[.slice k.o0 x.pl.length k.c0, .slice k.o1 x.al.length k.c1, .slice k.o2 x.tl.length k.c2, .slice k.o3 x.ol.length k.c3, .slice k.o4 x.ap.length k.c4, .slice k.o5 x.be.length k.c5]) (ex_load rfl M2 (by kernel_rfl) Tryd.underlying30 rfl (by kernel_rfl)) ?_
  refine sx_call (by kernel_rfl) rfl rfl (refInstU_n k.o0 k.o1 k.o2 k.o3 k.o4 k.o5 k.c0 k.c1 k.c2 k.c3 k.c4 k.c5 x hx W1 (hI.below HB).h0 (hI.below HB).h1 (hI.below HB).h2 (hI.below HB).h3 (hI.below HB).h4 (hI.below HB).h5) (by kernel_rfl) ?_
  rintro e W3 ⟨oq, cq, rfl, -, hb⟩
  replace HB := over HB hb
  replace M2 := M2.below hb
  have z2 := hb.size
  clear hb
  refine ⟨_, rfl, ?_⟩
  refine sx_val (by kernel_rfl) rfl rfl (.int .i64 (((inF x).length : Nat) : Int)) (by kernel_rfl) ?_
  by_cases C1 : (inF x).length = 0
  · refine sx_bool (by kernel_rfl) rfl rfl (((((inF x).length : Nat) : Int) : Int) == (0 : Int)) true (by kernel_rfl) (beq_iff_eq.2 (by omega)) ?_
    refine sx_val (by kernel_rfl) rfl rfl (.bool true) (by kernel_rfl) ?_
    refine wpList_nil ?_
    refine sx_norm ?_
    refine wp_ret ?_
    refine sx_ret1 (.bool true) rfl rfl (by kernel_rfl) ⟨by unfold rightB; rw [decide_eq_true (by assumption)], HB⟩
  refine sx_bool (by kernel_rfl) rfl rfl (((((inF x).length : Nat) : Int) : Int) == (0 : Int)) false (by kernel_rfl) (beq_eq_false_iff_ne.2 (by omega)) ?_
  refine sx_val (by kernel_rfl) rfl rfl (.bool false) (by kernel_rfl) ?_
  refine wpList_nil ?_
  refine sx_norm ?_
  refine wp_ret ?_
  refine sx_ret1 (.bool false) rfl rfl (by kernel_rfl) ⟨by unfold rightB; rw [decide_eq_false (by assumption)], HB⟩
theorem sx_retcc {P : Program} {n : Nat} {g : Nat → Value} {l : List (Nat × Value)} {w : World} {fn : Func} {R : Ending → World → Prop} {t u : Nat} {ty uy : TypeId} {q p : Nat} {cs ds : Array Value} {tq tp : TypeId} {dd de : TypeDesc} (hg : Cb w q cs tq) (hg' : Cb w p ds tp) (hf : fn.results = #[.cell t ty, .cell u uy]) (hk : Nat.blt t n = true) (hk' : Nat.blt u n = true) (hv : slotV g l t = .pointer (some ⟨q, 0, none⟩)) (hv' : slotV g l u = .pointer (some ⟨p, 0, none⟩))
    (hu : P.underlying ty = some dd) (hdd : (match dd with | .struct _ | .array _ _ => true | _ => false) = true) (hi : (P.info? ty).map (·.size) = some cs.size) (hu' : P.underlying uy = some de) (hde : (match de with | .struct _ | .array _ _ => true | _ => false) = true) (hi' : (P.info? uy).map (·.size) = some ds.size) (hR : R (.returned (.tuple #[.agg cs, .agg ds])) w) : bodyPost P fn R .ret (fr n g l) w := by
  have hs : (fr n g l).tmps[t]?.getD undef = .pointer (some ⟨q, 0, none⟩) := by
    rw [← Array.getD_eq_getD_getElem?]
    exact (slot_get hk).trans hv
  have hs' : (fr n g l).tmps[u]?.getD undef = .pointer (some ⟨p, 0, none⟩) := by
    rw [← Array.getD_eq_getD_getElem?]
    exact (slot_get hk').trans hv'
  have hrun := run_loadVar_row w q tq ty cs (0, 0) dd hg hu hdd hi
  have hrun' := run_loadVar_row w p tp uy ds (0, 0) de hg' hu' hde hi'
  refine bodyPost_ret (v := .tuple #[.agg cs, .agg ds]) ?_ rfl hR
  unfold results
  simp only [hf]
  simp [hs, hs', hrun, hrun', asAddr]
def smpI (lim pause : Int) : InT := ⟨[⟨#[65]⟩, ⟨#[66]⟩], [⟨0, 1, 0, 5, [(0, 10)], []⟩, ⟨1, 0, 0, 5, [(0, 10)], []⟩], [⟨⟨#[118]⟩, 1, 0, 0, [5], 0, 0, 0, 100, lim, pause, 0, 0, 0⟩], [⟨⟨#[111]⟩, [1], -1, 0, 0, 0, 1, 30, 40, 2, 0, -1, 1, -1, -1, false⟩], [], []⟩
theorem li_one {w : World} {q : Nat} {x : Int} {t : TypeId} (h : Cb w q #[.int .i64 x] t) : L.Li w (.slice (some ⟨q, 0, none⟩) 1 1) [x] := ⟨some ⟨q, 0, none⟩, 1, rfl, fun i hi => by
  have h1 : i < 1 := hi
  match i, h1 with
  | 0, _ => exact ⟨⟨q, 0, none⟩, rfl, h.lt, h.cell 0 rfl⟩⟩
theorem ps_one {w : World} {q : Nat} {x y : Int} {t : TypeId} (h : Cb w q #[.int .i64 x, .int .i64 y] t) : Ps w (.slice (some ⟨q, 0, none⟩) 1 1) [(x, y)] := ⟨some ⟨q, 0, none⟩, 1, rfl, fun i hi => by
  have h1 : i < 1 := hi
  match i, h1 with
  | 0, _ => exact ⟨q, 0, rfl, h.lt, h.cell 0 rfl, h.cell 1 rfl⟩⟩
theorem ps_nil (w : World) : Ps w (.slice none 0 0) [] := ⟨none, 0, rfl, fun i hi => by cases hi⟩
theorem smp_ins {w : World} {lim pause : Int} {qp q1 q2 qa qc qt ql qo : Nat} (E0 : Cb w qp #[.string ⟨#[65]⟩, .string ⟨#[66]⟩] 9) (E1 : Cb w q1 #[.int .i64 0, .int .i64 10] 92) (E2 : Cb w q2 #[.int .i64 0, .int .i64 10] 92)
    (E3 : Cb w qa #[.int .i64 0, .int .i64 1, .int .i64 0, .int .i64 5, .slice (some ⟨q1, 0, none⟩) 1 1, .slice none 0 0, .int .i64 1, .int .i64 0, .int .i64 0, .int .i64 5, .slice (some ⟨q2, 0, none⟩) 1 1, .slice none 0 0] 95) (E4 : Cb w qc #[.int .i64 5] 3)
    (E5 : Cb w qt #[.string ⟨#[118]⟩, .int .i64 1, .int .i64 0, .int .i64 0, .slice (some ⟨qc, 0, none⟩) 1 1, .int .i64 0, .int .i64 0, .int .i64 0, .int .i64 100, .int .i64 lim, .int .i64 pause, .int .i64 0, .int .i64 0, .int .i64 0] 56) (E6 : Cb w ql #[.int .i64 1] 3)
    (E7 : Cb w qo #[.string ⟨#[111]⟩, .slice (some ⟨ql, 0, none⟩) 1 1, .int .i64 (-1), .int .i64 0, .int .i64 0, .int .i64 0, .int .i64 1, .int .i64 30, .int .i64 40, .int .i64 2, .int .i64 0, .int .i64 (-1), .int .i64 1, .int .i64 (-1), .int .i64 (-1), .bool false] 62) :
    Ins w ⟨some ⟨qp, 0, none⟩, 2, some ⟨qa, 0, none⟩, 2, some ⟨qt, 0, none⟩, 1, some ⟨qo, 0, none⟩, 1, none, 0, none, 0⟩ (smpI lim pause) := by
  refine ⟨?_, ?_, ?_, ?_, ps_nil _, ps_nil _⟩
  · exact ⟨_, 2, rfl, fun i hi => by
      have h1 : i < 2 := hi
      match i, h1 with
      | 0, _ => exact ⟨_, rfl, E0.lt, E0.cell 0 rfl⟩
      | 1, _ => exact ⟨_, rfl, E0.lt, E0.cell 1 rfl⟩⟩
  · exact ⟨_, 2, rfl, fun i hi => by
      have h1 : i < 2 := hi
      match i, h1 with
      | 0, _ => exact ⟨_, 0, _, _, rfl, E3.lt, ⟨E3.cell 0 rfl, E3.cell 1 rfl, E3.cell 2 rfl, E3.cell 3 rfl, E3.cell 4 rfl, E3.cell 5 rfl⟩, ps_one E1, ps_nil _⟩
      | 1, _ => exact ⟨_, 0, _, _, rfl, E3.lt, ⟨E3.cell 6 rfl, E3.cell 7 rfl, E3.cell 8 rfl, E3.cell 9 rfl, E3.cell 10 rfl, E3.cell 11 rfl⟩, ps_one E2, ps_nil _⟩⟩
  · exact ⟨_, 1, rfl, fun i hi => by
      have h1 : i < 1 := hi
      match i, h1 with
      | 0, _ => exact ⟨_, 0, _, rfl, E5.lt, ⟨E5.cell 0 rfl, E5.cell 1 rfl, E5.cell 2 rfl, E5.cell 3 rfl, E5.cell 4 rfl, E5.cell 5 rfl, E5.cell 6 rfl, E5.cell 7 rfl, E5.cell 8 rfl, E5.cell 9 rfl, E5.cell 10 rfl, E5.cell 11 rfl, E5.cell 12 rfl, E5.cell 13 rfl⟩, li_one E4⟩⟩
  · exact ⟨_, 1, rfl, fun i hi => by
      have h1 : i < 1 := hi
      match i, h1 with
      | 0, _ => exact ⟨_, 0, _, rfl, E7.lt, ⟨E7.cell 0 rfl, E7.cell 1 rfl, E7.cell 2 rfl, E7.cell 3 rfl, E7.cell 4 rfl, E7.cell 5 rfl, E7.cell 6 rfl, E7.cell 7 rfl, E7.cell 8 rfl, E7.cell 9 rfl, E7.cell 10 rfl, E7.cell 11 rfl, E7.cell 12 rfl, E7.cell 13 rfl, E7.cell 14 rfl, E7.cell 15 rfl⟩, li_one E6⟩⟩
theorem rw_vis {w : World} {q : Nat} (h : Cb w q #[.int .i64 0, .bool true] 58) : Rw w q 0 2 (vF [(0, true)]) 1 (some ⟨q, 0, none⟩) := fun k hk => ⟨rfl, h.lt, fun j v hj => by
  match k, j, hk, hj with
  | 0, 0, _, hj => simp [vF] at hj; subst hj; exact h.cell 0 rfl
  | 0, 1, _, hj => simp [vF] at hj; subst hj; exact h.cell 1 rfl
  | 0, j + 2, _, hj => simp [vF] at hj⟩
theorem sample_n (lim pause : Int) (w : World) : Calls Tryd.prog 22 #[.int .i64 lim, .int .i64 pause] w fun e w' => ∃ (k : Iv) (bV : Nat), e = .returned (.tuple #[.agg #[.slice k.o0 2 k.c0, .slice k.o1 2 k.c1, .slice k.o2 1 k.c2, .slice k.o3 1 k.c3, .slice k.o4 0 k.c4, .slice k.o5 0 k.c5], .agg #[.int .i64 0, .int .i64 0, .slice none 0 0, .slice (some ⟨bV, 0, none⟩) 1 1]]) ∧ Ins w' k (smpI lim pause) ∧ Rw w' bV 0 2 (vF [(0, true)]) 1 (some ⟨bV, 0, none⟩) ∧ Below w.heap.size w w' := by
  have HB : Below w.heap.size w w := Below.refl _ _
  refine sx_enter Tryd.func22 rfl [(0, .int .i64 lim), (1, .int .i64 pause)] (by kernel_rfl) ?_
  refine wp_seq ?_
  refine wp_region_lit ?_
  obtain ⟨W1, hW⟩ : ∃ W, w.alloc (.cells #[.slice none 0 0, .slice none 0 0, .slice none 0 0, .slice none 0 0, .slice none 0 0, .slice none 0 0] 30) = W := ⟨_, rfl⟩
  have hb := hW ▸ below_alloc w (.cells #[.slice none 0 0, .slice none 0 0, .slice none 0 0, .slice none 0 0, .slice none 0 0, .slice none 0 0] 30)
  have hq : Cb W1 w.heap.size #[.slice none 0 0, .slice none 0 0, .slice none 0 0, .slice none 0 0, .slice none 0 0, .slice none 0 0] 30 := hW ▸ Cb.made w #[.slice none 0 0, .slice none 0 0, .slice none 0 0, .slice none 0 0, .slice none 0 0, .slice none 0 0] 30
  refine sx_mem (by kernel_rfl) rfl rfl (.pointer (some ⟨w.heap.size, 0, none⟩)) W1 (by rw [← hW]; kernel_rfl) ?_
  replace HB := over HB hb
  have z1 := hb.size
  have M2 := hq
  have yM2 := hq.lt
  clear hq hb hW
  obtain ⟨W3, hW⟩ : ∃ W, W1.alloc (.cells #[.int .i64 0, .int .i64 0, .slice none 0 0, .slice none 0 0] 34) = W := ⟨_, rfl⟩
  have hb := hW ▸ below_alloc W1 (.cells #[.int .i64 0, .int .i64 0, .slice none 0 0, .slice none 0 0] 34)
  have hq : Cb W3 W1.heap.size #[.int .i64 0, .int .i64 0, .slice none 0 0, .slice none 0 0] 34 := hW ▸ Cb.made W1 #[.int .i64 0, .int .i64 0, .slice none 0 0, .slice none 0 0] 34
  refine sx_mem (by kernel_rfl) rfl rfl (.pointer (some ⟨W1.heap.size, 0, none⟩)) W3 (by rw [← hW]; kernel_rfl) ?_
  replace HB := over HB hb
  replace M2 := M2.below hb
  have z2 := hb.size
  have M4 := hq
  have yM4 := hq.lt
  clear hq hb hW
  refine wpList_nil ?_
  refine sx_norm ?_
  refine wp_seq ?_
  refine wp_region_lit ?_
  obtain ⟨W5, hW⟩ : ∃ W, W3.alloc (.cells #[.string ⟨#[65]⟩, .string ⟨#[66]⟩] 9) = W := ⟨_, rfl⟩
  have hb := hW ▸ below_alloc W3 (.cells #[.string ⟨#[65]⟩, .string ⟨#[66]⟩] 9)
  have hq : Cb W5 W3.heap.size #[.string ⟨#[65]⟩, .string ⟨#[66]⟩] 9 := hW ▸ Cb.made W3 #[.string ⟨#[65]⟩, .string ⟨#[66]⟩] 9
  refine sx_mem (by kernel_rfl) rfl rfl (.slice (some ⟨W3.heap.size, 0, none⟩) 2 2) W5 (by rw [← hW]; kernel_rfl) ?_
  replace HB := over HB hb
  replace M2 := M2.below hb
  replace M4 := M4.below hb
  have z3 := hb.size
  have M6 := hq
  have yM6 := hq.lt
  clear hq hb hW
  refine sx_val (by kernel_rfl) rfl rfl (.agg #[.slice (some ⟨W3.heap.size, 0, none⟩) 2 2, .slice none 0 0]) (by kernel_rfl) ?_
  refine sx_val (by kernel_rfl) rfl rfl (.agg #[.slice (some ⟨W3.heap.size, 0, none⟩) 2 2, .slice none 0 0, .slice none 0 0, .slice none 0 0, .slice none 0 0, .slice none 0 0]) (by kernel_rfl) ?_
  obtain ⟨W8, hW⟩ : ∃ W, (W5.alloc (.cells #[.slice none 0 0, .slice none 0 0, .slice none 0 0, .slice none 0 0, .slice none 0 0, .slice none 0 0] 30)).setRow W5.heap.size #[.slice (some ⟨W3.heap.size, 0, none⟩) 2 2, .slice none 0 0, .slice none 0 0, .slice none 0 0, .slice none 0 0, .slice none 0 0] = W := ⟨_, rfl⟩
  have hb := hW ▸ below_var W5 (.cells #[.slice none 0 0, .slice none 0 0, .slice none 0 0, .slice none 0 0, .slice none 0 0, .slice none 0 0] 30) #[.slice (some ⟨W3.heap.size, 0, none⟩) 2 2, .slice none 0 0, .slice none 0 0, .slice none 0 0, .slice none 0 0, .slice none 0 0]
  have hq : Cb W8 W5.heap.size #[.slice (some ⟨W3.heap.size, 0, none⟩) 2 2, .slice none 0 0, .slice none 0 0, .slice none 0 0, .slice none 0 0, .slice none 0 0] 30 := hW ▸ Cb.row (Cb.made W5 #[.slice none 0 0, .slice none 0 0, .slice none 0 0, .slice none 0 0, .slice none 0 0, .slice none 0 0] 30) _
  refine sx_mem (by kernel_rfl) rfl rfl (.pointer (some ⟨W5.heap.size, 0, none⟩)) (W5.alloc (.cells #[.slice none 0 0, .slice none 0 0, .slice none 0 0, .slice none 0 0, .slice none 0 0, .slice none 0 0] 30)) (by kernel_rfl) ?_
  refine sx_store (cells := #[.slice (some ⟨W3.heap.size, 0, none⟩) 2 2, .slice none 0 0, .slice none 0 0, .slice none 0 0, .slice none 0 0, .slice none 0 0]) (by kernel_rfl) rfl rfl (Cb.made W5 #[.slice none 0 0, .slice none 0 0, .slice none 0 0, .slice none 0 0, .slice none 0 0, .slice none 0 0] 30) (by kernel_rfl) (by kernel_rfl) (by kernel_rfl) (by kernel_rfl) (by kernel_rfl) ?_
  rw [hW]
  replace HB := over HB hb
  replace M2 := M2.below hb
  replace M4 := M4.below hb
  replace M6 := M6.below hb
  have z4 := hb.size
  have M7 := hq
  have yM7 := hq.lt
  clear hq hb hW
  refine wpList_nil ?_
  refine sx_norm ?_
  refine wp_seq ?_
  refine wp_region_lit ?_
  refine sx_val (by kernel_rfl) rfl rfl (.agg #[.int .i64 0, .int .i64 10]) (by kernel_rfl) ?_
  obtain ⟨W9, hW⟩ : ∃ W, W8.alloc (.cells #[.int .i64 0, .int .i64 10] 92) = W := ⟨_, rfl⟩
  have hb := hW ▸ below_alloc W8 (.cells #[.int .i64 0, .int .i64 10] 92)
  have hq : Cb W9 W8.heap.size #[.int .i64 0, .int .i64 10] 92 := hW ▸ Cb.made W8 #[.int .i64 0, .int .i64 10] 92
  refine sx_mem (by kernel_rfl) rfl rfl (.slice (some ⟨W8.heap.size, 0, none⟩) 1 1) W9 (by rw [← hW]; kernel_rfl) ?_
  replace HB := over HB hb
  replace M2 := M2.below hb
  replace M4 := M4.below hb
  replace M6 := M6.below hb
  replace M7 := M7.below hb
  have z5 := hb.size
  have M10 := hq
  have yM10 := hq.lt
  clear hq hb hW
  refine sx_val (by kernel_rfl) rfl rfl (.agg #[.int .i64 0, .int .i64 1, .int .i64 0, .int .i64 5, .slice (some ⟨W8.heap.size, 0, none⟩) 1 1, .slice none 0 0]) (by kernel_rfl) ?_
  refine sx_val (by kernel_rfl) rfl rfl (.agg #[.int .i64 0, .int .i64 10]) (by kernel_rfl) ?_
  obtain ⟨W11, hW⟩ : ∃ W, W9.alloc (.cells #[.int .i64 0, .int .i64 10] 92) = W := ⟨_, rfl⟩
  have hb := hW ▸ below_alloc W9 (.cells #[.int .i64 0, .int .i64 10] 92)
  have hq : Cb W11 W9.heap.size #[.int .i64 0, .int .i64 10] 92 := hW ▸ Cb.made W9 #[.int .i64 0, .int .i64 10] 92
  refine sx_mem (by kernel_rfl) rfl rfl (.slice (some ⟨W9.heap.size, 0, none⟩) 1 1) W11 (by rw [← hW]; kernel_rfl) ?_
  replace HB := over HB hb
  replace M2 := M2.below hb
  replace M4 := M4.below hb
  replace M6 := M6.below hb
  replace M7 := M7.below hb
  replace M10 := M10.below hb
  have z6 := hb.size
  have M12 := hq
  have yM12 := hq.lt
  clear hq hb hW
  refine sx_val (by kernel_rfl) rfl rfl (.agg #[.int .i64 1, .int .i64 0, .int .i64 0, .int .i64 5, .slice (some ⟨W9.heap.size, 0, none⟩) 1 1, .slice none 0 0]) (by kernel_rfl) ?_
  obtain ⟨W13, hW⟩ : ∃ W, W11.alloc (.cells #[.int .i64 0, .int .i64 1, .int .i64 0, .int .i64 5, .slice (some ⟨W8.heap.size, 0, none⟩) 1 1, .slice none 0 0, .int .i64 1, .int .i64 0, .int .i64 0, .int .i64 5, .slice (some ⟨W9.heap.size, 0, none⟩) 1 1, .slice none 0 0] 95) = W := ⟨_, rfl⟩
  have hb := hW ▸ below_alloc W11 (.cells #[.int .i64 0, .int .i64 1, .int .i64 0, .int .i64 5, .slice (some ⟨W8.heap.size, 0, none⟩) 1 1, .slice none 0 0, .int .i64 1, .int .i64 0, .int .i64 0, .int .i64 5, .slice (some ⟨W9.heap.size, 0, none⟩) 1 1, .slice none 0 0] 95)
  have hq : Cb W13 W11.heap.size #[.int .i64 0, .int .i64 1, .int .i64 0, .int .i64 5, .slice (some ⟨W8.heap.size, 0, none⟩) 1 1, .slice none 0 0, .int .i64 1, .int .i64 0, .int .i64 0, .int .i64 5, .slice (some ⟨W9.heap.size, 0, none⟩) 1 1, .slice none 0 0] 95 := hW ▸ Cb.made W11 #[.int .i64 0, .int .i64 1, .int .i64 0, .int .i64 5, .slice (some ⟨W8.heap.size, 0, none⟩) 1 1, .slice none 0 0, .int .i64 1, .int .i64 0, .int .i64 0, .int .i64 5, .slice (some ⟨W9.heap.size, 0, none⟩) 1 1, .slice none 0 0] 95
  refine sx_mem (by kernel_rfl) rfl rfl (.slice (some ⟨W11.heap.size, 0, none⟩) 2 2) W13 (by rw [← hW]; kernel_rfl) ?_
  replace HB := over HB hb
  replace M2 := M2.below hb
  replace M4 := M4.below hb
  replace M6 := M6.below hb
  replace M7 := M7.below hb
  replace M10 := M10.below hb
  replace M12 := M12.below hb
  have z7 := hb.size
  have M14 := hq
  have yM14 := hq.lt
  clear hq hb hW
  refine sx_val (by kernel_rfl) rfl rfl (.pointer (some ⟨W5.heap.size, 0, none⟩)) (by kernel_rfl) ?_
  refine sx_val (by kernel_rfl) rfl rfl (.pointer (some ⟨W5.heap.size, 1, none⟩)) (by kernel_rfl) ?_
  refine sx_do (by kernel_rfl) rfl _ (ex_storeC (k := 1) (old := .slice none 0 0) (v := .slice (some ⟨W11.heap.size, 0, none⟩) 2 2) rfl M7 (by kernel_rfl) (by kernel_rfl) (by kernel_rfl) (by kernel_rfl) (by kernel_rfl)) ?_
  obtain ⟨W15, hW⟩ : ∃ W, W13.setCell ⟨W5.heap.size, 1, none⟩ (.slice (some ⟨W11.heap.size, 0, none⟩) 2 2) = W := ⟨_, rfl⟩
  have hg : W13.grownBy W15 (some (W5.heap.size)) := hW ▸ grown_set _ _ _ _
  have hq : Cb W15 (W5.heap.size) #[.slice (some ⟨W3.heap.size, 0, none⟩) 2 2, .slice (some ⟨W11.heap.size, 0, none⟩) 2 2, .slice none 0 0, .slice none 0 0, .slice none 0 0, .slice none 0 0] 30 := hW ▸ M7.set 1 (.slice (some ⟨W11.heap.size, 0, none⟩) 2 2)
  rw [hW]
  replace HB := HB.grown hg (by omega) (fun x e => by simp only [Option.some.injEq] at e; omega)
  replace M2 := M2.kept hg (by omega)
  replace M4 := M4.kept hg (by omega)
  replace M6 := M6.kept hg (by omega)
  replace M10 := M10.kept hg (by omega)
  replace M12 := M12.kept hg (by omega)
  replace M14 := M14.kept hg (by omega)
  have z8 := hg.size
  replace M7 := hq
  clear hq hg hW
  refine wpList_nil ?_
  refine sx_norm ?_
  refine wp_seq ?_
  refine wp_region_lit ?_
  obtain ⟨W16, hW⟩ : ∃ W, W15.alloc (.cells #[.int .i64 5] 3) = W := ⟨_, rfl⟩
  have hb := hW ▸ below_alloc W15 (.cells #[.int .i64 5] 3)
  have hq : Cb W16 W15.heap.size #[.int .i64 5] 3 := hW ▸ Cb.made W15 #[.int .i64 5] 3
  refine sx_mem (by kernel_rfl) rfl rfl (.slice (some ⟨W15.heap.size, 0, none⟩) 1 1) W16 (by rw [← hW]; kernel_rfl) ?_
  replace HB := over HB hb
  replace M2 := M2.below hb
  replace M4 := M4.below hb
  replace M6 := M6.below hb
  replace M7 := M7.below hb
  replace M10 := M10.below hb
  replace M12 := M12.below hb
  replace M14 := M14.below hb
  have z9 := hb.size
  have M17 := hq
  have yM17 := hq.lt
  clear hq hb hW
  refine sx_val (by kernel_rfl) rfl rfl (.int .i64 lim) (by kernel_rfl) ?_
  refine sx_val (by kernel_rfl) rfl rfl (.int .i64 pause) (by kernel_rfl) ?_
  refine sx_val (by kernel_rfl) rfl rfl (.agg #[.string ⟨#[118]⟩, .int .i64 1, .int .i64 0, .int .i64 0, .slice (some ⟨W15.heap.size, 0, none⟩) 1 1, .int .i64 0, .int .i64 0, .int .i64 0, .int .i64 100, .int .i64 lim, .int .i64 pause, .int .i64 0, .int .i64 0, .int .i64 0]) (by kernel_rfl) ?_
  obtain ⟨W18, hW⟩ : ∃ W, W16.alloc (.cells #[.string ⟨#[118]⟩, .int .i64 1, .int .i64 0, .int .i64 0, .slice (some ⟨W15.heap.size, 0, none⟩) 1 1, .int .i64 0, .int .i64 0, .int .i64 0, .int .i64 100, .int .i64 lim, .int .i64 pause, .int .i64 0, .int .i64 0, .int .i64 0] 56) = W := ⟨_, rfl⟩
  have hb := hW ▸ below_alloc W16 (.cells #[.string ⟨#[118]⟩, .int .i64 1, .int .i64 0, .int .i64 0, .slice (some ⟨W15.heap.size, 0, none⟩) 1 1, .int .i64 0, .int .i64 0, .int .i64 0, .int .i64 100, .int .i64 lim, .int .i64 pause, .int .i64 0, .int .i64 0, .int .i64 0] 56)
  have hq : Cb W18 W16.heap.size #[.string ⟨#[118]⟩, .int .i64 1, .int .i64 0, .int .i64 0, .slice (some ⟨W15.heap.size, 0, none⟩) 1 1, .int .i64 0, .int .i64 0, .int .i64 0, .int .i64 100, .int .i64 lim, .int .i64 pause, .int .i64 0, .int .i64 0, .int .i64 0] 56 := hW ▸ Cb.made W16 #[.string ⟨#[118]⟩, .int .i64 1, .int .i64 0, .int .i64 0, .slice (some ⟨W15.heap.size, 0, none⟩) 1 1, .int .i64 0, .int .i64 0, .int .i64 0, .int .i64 100, .int .i64 lim, .int .i64 pause, .int .i64 0, .int .i64 0, .int .i64 0] 56
  refine sx_mem (by kernel_rfl) rfl rfl (.slice (some ⟨W16.heap.size, 0, none⟩) 1 1) W18 (by rw [← hW]; kernel_rfl) ?_
  replace HB := over HB hb
  replace M2 := M2.below hb
  replace M4 := M4.below hb
  replace M6 := M6.below hb
  replace M7 := M7.below hb
  replace M10 := M10.below hb
  replace M12 := M12.below hb
  replace M14 := M14.below hb
  replace M17 := M17.below hb
  have z10 := hb.size
  have M19 := hq
  have yM19 := hq.lt
  clear hq hb hW
  refine sx_val (by kernel_rfl) rfl rfl (.pointer (some ⟨W5.heap.size, 2, none⟩)) (by kernel_rfl) ?_
  refine sx_do (by kernel_rfl) rfl _ (ex_storeC (k := 2) (old := .slice none 0 0) (v := .slice (some ⟨W16.heap.size, 0, none⟩) 1 1) rfl M7 (by kernel_rfl) (by kernel_rfl) (by kernel_rfl) (by kernel_rfl) (by kernel_rfl)) ?_
  obtain ⟨W20, hW⟩ : ∃ W, W18.setCell ⟨W5.heap.size, 2, none⟩ (.slice (some ⟨W16.heap.size, 0, none⟩) 1 1) = W := ⟨_, rfl⟩
  have hg : W18.grownBy W20 (some (W5.heap.size)) := hW ▸ grown_set _ _ _ _
  have hq : Cb W20 (W5.heap.size) #[.slice (some ⟨W3.heap.size, 0, none⟩) 2 2, .slice (some ⟨W11.heap.size, 0, none⟩) 2 2, .slice (some ⟨W16.heap.size, 0, none⟩) 1 1, .slice none 0 0, .slice none 0 0, .slice none 0 0] 30 := hW ▸ M7.set 2 (.slice (some ⟨W16.heap.size, 0, none⟩) 1 1)
  rw [hW]
  replace HB := HB.grown hg (by omega) (fun x e => by simp only [Option.some.injEq] at e; omega)
  replace M2 := M2.kept hg (by omega)
  replace M4 := M4.kept hg (by omega)
  replace M6 := M6.kept hg (by omega)
  replace M10 := M10.kept hg (by omega)
  replace M12 := M12.kept hg (by omega)
  replace M14 := M14.kept hg (by omega)
  replace M17 := M17.kept hg (by omega)
  replace M19 := M19.kept hg (by omega)
  have z11 := hg.size
  replace M7 := hq
  clear hq hg hW
  refine wpList_nil ?_
  refine sx_norm ?_
  refine wp_seq ?_
  refine wp_region_lit ?_
  obtain ⟨W21, hW⟩ : ∃ W, W20.alloc (.cells #[.int .i64 1] 3) = W := ⟨_, rfl⟩
  have hb := hW ▸ below_alloc W20 (.cells #[.int .i64 1] 3)
  have hq : Cb W21 W20.heap.size #[.int .i64 1] 3 := hW ▸ Cb.made W20 #[.int .i64 1] 3
  refine sx_mem (by kernel_rfl) rfl rfl (.slice (some ⟨W20.heap.size, 0, none⟩) 1 1) W21 (by rw [← hW]; kernel_rfl) ?_
  replace HB := over HB hb
  replace M2 := M2.below hb
  replace M4 := M4.below hb
  replace M6 := M6.below hb
  replace M7 := M7.below hb
  replace M10 := M10.below hb
  replace M12 := M12.below hb
  replace M14 := M14.below hb
  replace M17 := M17.below hb
  replace M19 := M19.below hb
  have z12 := hb.size
  have M22 := hq
  have yM22 := hq.lt
  clear hq hb hW
  refine sx_val (by kernel_rfl) rfl rfl (.agg #[.int .i64 (-1), .int .i64 0, .int .i64 0, .int .i64 0]) (by kernel_rfl) ?_
  refine sx_val (by kernel_rfl) rfl rfl (.agg #[.int .i64 1, .int .i64 30, .int .i64 40, .int .i64 2]) (by kernel_rfl) ?_
  refine sx_val (by kernel_rfl) rfl rfl (.agg #[.string ⟨#[111]⟩, .slice (some ⟨W20.heap.size, 0, none⟩) 1 1, .int .i64 (-1), .int .i64 0, .int .i64 0, .int .i64 0, .int .i64 1, .int .i64 30, .int .i64 40, .int .i64 2, .int .i64 0, .int .i64 (-1), .int .i64 1, .int .i64 (-1), .int .i64 (-1), .bool false]) (by kernel_rfl) ?_
  obtain ⟨W23, hW⟩ : ∃ W, W21.alloc (.cells #[.string ⟨#[111]⟩, .slice (some ⟨W20.heap.size, 0, none⟩) 1 1, .int .i64 (-1), .int .i64 0, .int .i64 0, .int .i64 0, .int .i64 1, .int .i64 30, .int .i64 40, .int .i64 2, .int .i64 0, .int .i64 (-1), .int .i64 1, .int .i64 (-1), .int .i64 (-1), .bool false] 62) = W := ⟨_, rfl⟩
  have hb := hW ▸ below_alloc W21 (.cells #[.string ⟨#[111]⟩, .slice (some ⟨W20.heap.size, 0, none⟩) 1 1, .int .i64 (-1), .int .i64 0, .int .i64 0, .int .i64 0, .int .i64 1, .int .i64 30, .int .i64 40, .int .i64 2, .int .i64 0, .int .i64 (-1), .int .i64 1, .int .i64 (-1), .int .i64 (-1), .bool false] 62)
  have hq : Cb W23 W21.heap.size #[.string ⟨#[111]⟩, .slice (some ⟨W20.heap.size, 0, none⟩) 1 1, .int .i64 (-1), .int .i64 0, .int .i64 0, .int .i64 0, .int .i64 1, .int .i64 30, .int .i64 40, .int .i64 2, .int .i64 0, .int .i64 (-1), .int .i64 1, .int .i64 (-1), .int .i64 (-1), .bool false] 62 := hW ▸ Cb.made W21 #[.string ⟨#[111]⟩, .slice (some ⟨W20.heap.size, 0, none⟩) 1 1, .int .i64 (-1), .int .i64 0, .int .i64 0, .int .i64 0, .int .i64 1, .int .i64 30, .int .i64 40, .int .i64 2, .int .i64 0, .int .i64 (-1), .int .i64 1, .int .i64 (-1), .int .i64 (-1), .bool false] 62
  refine sx_mem (by kernel_rfl) rfl rfl (.slice (some ⟨W21.heap.size, 0, none⟩) 1 1) W23 (by rw [← hW]; kernel_rfl) ?_
  replace HB := over HB hb
  replace M2 := M2.below hb
  replace M4 := M4.below hb
  replace M6 := M6.below hb
  replace M7 := M7.below hb
  replace M10 := M10.below hb
  replace M12 := M12.below hb
  replace M14 := M14.below hb
  replace M17 := M17.below hb
  replace M19 := M19.below hb
  replace M22 := M22.below hb
  have z13 := hb.size
  have M24 := hq
  have yM24 := hq.lt
  clear hq hb hW
  refine sx_val (by kernel_rfl) rfl rfl (.pointer (some ⟨W5.heap.size, 3, none⟩)) (by kernel_rfl) ?_
  refine sx_do (by kernel_rfl) rfl _ (ex_storeC (k := 3) (old := .slice none 0 0) (v := .slice (some ⟨W21.heap.size, 0, none⟩) 1 1) rfl M7 (by kernel_rfl) (by kernel_rfl) (by kernel_rfl) (by kernel_rfl) (by kernel_rfl)) ?_
  obtain ⟨W25, hW⟩ : ∃ W, W23.setCell ⟨W5.heap.size, 3, none⟩ (.slice (some ⟨W21.heap.size, 0, none⟩) 1 1) = W := ⟨_, rfl⟩
  have hg : W23.grownBy W25 (some (W5.heap.size)) := hW ▸ grown_set _ _ _ _
  have hq : Cb W25 (W5.heap.size) #[.slice (some ⟨W3.heap.size, 0, none⟩) 2 2, .slice (some ⟨W11.heap.size, 0, none⟩) 2 2, .slice (some ⟨W16.heap.size, 0, none⟩) 1 1, .slice (some ⟨W21.heap.size, 0, none⟩) 1 1, .slice none 0 0, .slice none 0 0] 30 := hW ▸ M7.set 3 (.slice (some ⟨W21.heap.size, 0, none⟩) 1 1)
  rw [hW]
  replace HB := HB.grown hg (by omega) (fun x e => by simp only [Option.some.injEq] at e; omega)
  replace M2 := M2.kept hg (by omega)
  replace M4 := M4.kept hg (by omega)
  replace M6 := M6.kept hg (by omega)
  replace M10 := M10.kept hg (by omega)
  replace M12 := M12.kept hg (by omega)
  replace M14 := M14.kept hg (by omega)
  replace M17 := M17.kept hg (by omega)
  replace M19 := M19.kept hg (by omega)
  replace M22 := M22.kept hg (by omega)
  replace M24 := M24.kept hg (by omega)
  have z14 := hg.size
  replace M7 := hq
  clear hq hg hW
  refine wpList_nil ?_
  refine sx_norm ?_
  refine wp_seq ?_
  refine wp_region_lit ?_
  refine sx_val (by kernel_rfl) rfl rfl (.agg #[.slice (some ⟨W3.heap.size, 0, none⟩) 2 2, .slice (some ⟨W11.heap.size, 0, none⟩) 2 2, .slice (some ⟨W16.heap.size, 0, none⟩) 1 1, .slice (some ⟨W21.heap.size, 0, none⟩) 1 1, .slice none 0 0, .slice none 0 0]) (ex_load rfl M7 (by kernel_rfl) Tryd.underlying30 rfl (by kernel_rfl)) ?_
  refine sx_val (by kernel_rfl) rfl rfl (.agg #[.int .i64 0, .bool true]) (by kernel_rfl) ?_
  obtain ⟨W26, hW⟩ : ∃ W, W25.alloc (.cells #[.int .i64 0, .bool true] 58) = W := ⟨_, rfl⟩
  have hb := hW ▸ below_alloc W25 (.cells #[.int .i64 0, .bool true] 58)
  have hq : Cb W26 W25.heap.size #[.int .i64 0, .bool true] 58 := hW ▸ Cb.made W25 #[.int .i64 0, .bool true] 58
  refine sx_mem (by kernel_rfl) rfl rfl (.slice (some ⟨W25.heap.size, 0, none⟩) 1 1) W26 (by rw [← hW]; kernel_rfl) ?_
  replace HB := over HB hb
  replace M2 := M2.below hb
  replace M4 := M4.below hb
  replace M6 := M6.below hb
  replace M7 := M7.below hb
  replace M10 := M10.below hb
  replace M12 := M12.below hb
  replace M14 := M14.below hb
  replace M17 := M17.below hb
  replace M19 := M19.below hb
  replace M22 := M22.below hb
  replace M24 := M24.below hb
  have z15 := hb.size
  have M27 := hq
  have yM27 := hq.lt
  clear hq hb hW
  refine sx_val (by kernel_rfl) rfl rfl (.agg #[.int .i64 0, .int .i64 0, .slice none 0 0, .slice (some ⟨W25.heap.size, 0, none⟩) 1 1]) (by kernel_rfl) ?_
  refine sx_store (cells := #[.slice (some ⟨W3.heap.size, 0, none⟩) 2 2, .slice (some ⟨W11.heap.size, 0, none⟩) 2 2, .slice (some ⟨W16.heap.size, 0, none⟩) 1 1, .slice (some ⟨W21.heap.size, 0, none⟩) 1 1, .slice none 0 0, .slice none 0 0]) (by kernel_rfl) rfl rfl M2 (by kernel_rfl) (by kernel_rfl) (by kernel_rfl) (by kernel_rfl) (by kernel_rfl) ?_
  obtain ⟨W28, hW⟩ : ∃ W, W26.setRow (w.heap.size) #[.slice (some ⟨W3.heap.size, 0, none⟩) 2 2, .slice (some ⟨W11.heap.size, 0, none⟩) 2 2, .slice (some ⟨W16.heap.size, 0, none⟩) 1 1, .slice (some ⟨W21.heap.size, 0, none⟩) 1 1, .slice none 0 0, .slice none 0 0] = W := ⟨_, rfl⟩
  have hg : W26.grownBy W28 (some (w.heap.size)) := hW ▸ grown_row _ _ _
  have hq : Cb W28 (w.heap.size) #[.slice (some ⟨W3.heap.size, 0, none⟩) 2 2, .slice (some ⟨W11.heap.size, 0, none⟩) 2 2, .slice (some ⟨W16.heap.size, 0, none⟩) 1 1, .slice (some ⟨W21.heap.size, 0, none⟩) 1 1, .slice none 0 0, .slice none 0 0] 30 := hW ▸ Cb.row M2 _
  rw [hW]
  replace HB := HB.grown hg (by omega) (fun x e => by simp only [Option.some.injEq] at e; omega)
  replace M4 := M4.kept hg (by omega)
  replace M6 := M6.kept hg (by omega)
  replace M7 := M7.kept hg (by omega)
  replace M10 := M10.kept hg (by omega)
  replace M12 := M12.kept hg (by omega)
  replace M14 := M14.kept hg (by omega)
  replace M17 := M17.kept hg (by omega)
  replace M19 := M19.kept hg (by omega)
  replace M22 := M22.kept hg (by omega)
  replace M24 := M24.kept hg (by omega)
  replace M27 := M27.kept hg (by omega)
  have z16 := hg.size
  replace M2 := hq
  clear hq hg hW
  refine sx_store (cells := #[.int .i64 0, .int .i64 0, .slice none 0 0, .slice (some ⟨W25.heap.size, 0, none⟩) 1 1]) (by kernel_rfl) rfl rfl M4 (by kernel_rfl) (by kernel_rfl) (by kernel_rfl) (by kernel_rfl) (by kernel_rfl) ?_
  obtain ⟨W29, hW⟩ : ∃ W, W28.setRow (W1.heap.size) #[.int .i64 0, .int .i64 0, .slice none 0 0, .slice (some ⟨W25.heap.size, 0, none⟩) 1 1] = W := ⟨_, rfl⟩
  have hg : W28.grownBy W29 (some (W1.heap.size)) := hW ▸ grown_row _ _ _
  have hq : Cb W29 (W1.heap.size) #[.int .i64 0, .int .i64 0, .slice none 0 0, .slice (some ⟨W25.heap.size, 0, none⟩) 1 1] 34 := hW ▸ Cb.row M4 _
  rw [hW]
  replace HB := HB.grown hg (by omega) (fun x e => by simp only [Option.some.injEq] at e; omega)
  replace M2 := M2.kept hg (by omega)
  replace M6 := M6.kept hg (by omega)
  replace M7 := M7.kept hg (by omega)
  replace M10 := M10.kept hg (by omega)
  replace M12 := M12.kept hg (by omega)
  replace M14 := M14.kept hg (by omega)
  replace M17 := M17.kept hg (by omega)
  replace M19 := M19.kept hg (by omega)
  replace M22 := M22.kept hg (by omega)
  replace M24 := M24.kept hg (by omega)
  replace M27 := M27.kept hg (by omega)
  have z17 := hg.size
  replace M4 := hq
  clear hq hg hW
  refine wpList_nil ?_
  refine sx_norm ?_
  refine wp_ret ?_
  have hins := smp_ins (lim := lim) (pause := pause) M6 M10 M12 M14 M17 M19 M22 M24
  have hvis := rw_vis M27
  exact sx_retcc M2 M4 rfl rfl rfl rfl rfl Tryd.underlying30 rfl (by kernel_rfl) Tryd.underlying34 rfl (by kernel_rfl) ⟨_, _, rfl, hins, hvis, HB⟩

end Go.Proofs.YtnapmildbodigaaDoor.T


