/-
  DERIVED. GH: a part of the base of layer 13 (made by pack.py).
-/
import Derived.Test.YtoliacfpjhanlaaHS
import Derived.Test.YtoliacfpjhanlaaGG
import Derived.Test.YtoliacfpjhanlaaSm
/-! The state of the search for sequences. -/
namespace Go.Proofs.Ytoliacfpjhanlaa.T
open Go.RowKit
set_option maxRecDepth 8000

theorem ElR.below {w w' : World} {u : Value} {L : List (Int × Bool)} (h : ElR w u L) (k : Below w.heap.size w w') : ElR w' u L := by
  obtain ⟨b, c, hu, hr, hb⟩ := h
  exact ⟨b, c, hu, hr.below k, Nat.lt_of_lt_of_le hb k.size⟩
theorem ElR.one {w : World} {u : Value} {L : List (Int × Bool)} (h : ElR w u L) : u.oneCell' = true := by
  obtain ⟨b, c, rfl, -⟩ := h
  rfl
theorem Fo.form {B : Nat} {w : World} {fv : Value} {vs : List Value} (h : Fo B w fv vs) : ∃ oa c, fv = .slice oa vs.length c := by
  rcases h.2 with ⟨hv, h0⟩ | ⟨g, cap, cur, rfl, -⟩
  · exact ⟨none, 0, by rw [hv, h0]⟩
  · exact ⟨_, _, rfl⟩
theorem Fo.lt {B : Nat} {w : World} {fv : Value} {vs : List Value} (h : Fo B w fv vs) {k : Nat} (hk : fv.ownBlock = some k) : B ≤ k ∧ k < w.heap.size := World.ownsRow.lt h k hk
theorem Gw.lt {B : Nat} {w : World} {v : Value} {l : List (Int × Bool)} (h : Gw B w v l) {k : Nat} (hk : v.ownBlock = some k) : B ≤ k ∧ k < w.heap.size := World.ownsRow.lt h k hk
/-- where the search's own things lie -/
structure Sc where
  B : Nat
  qW : Nat
  qF : Nat
  qE : Nat
  oA : Option Addr
  cA : Nat
  bA : Nat
  pA : Nat
structure Sc.Ok (C : Sc) (x : WaT) : Prop where
  w : C.qW < C.B
  f : C.qF < C.B
  e : C.qE < C.B
  wf : C.qW ≠ C.qF
  ef : C.qE ≠ C.qF
  a : ∀ k, k < x.A.length → C.bA < C.B ∧ C.bA ≠ C.qF
def Sc.ext (C : Sc) : Value := .func (.func 38) #[] #[.pointer (some ⟨C.qW, 0, none⟩), .pointer (some ⟨C.qF, 0, none⟩), .pointer (some ⟨C.qE, 0, none⟩)]
/-- what a call of the search may write -/
def Zx (C : Sc) (lv fv : Value) (k : Nat) : Prop := k = C.qF ∨ lv.ownBlock = some k ∨ fv.ownBlock = some k
/-- the state within a call that began in w0 with the sequence L at lv, the found ones at fv0 (vs0); the box holds fc; the found ones are at fv -/
structure St (C : Sc) (x : WaT) (w0 : World) (lv : Value) (L : List (Int × Bool)) (fv0 : Value) (vs0 : List Value) (m : Nat) (fc fv : Value) (vs : List Value) (f : List (List (Int × Bool))) (W : World) : Prop where
  hW : Cb W C.qW #[.int .i64 (x.W : Nat), .int .i64 (x.P : Nat), .int .i64 (x.D : Nat), .slice C.oA x.A.length C.cA] 74
  hA : Rw W C.bA C.pA 1 (nF x.A) x.A.length C.oA
  hE : Cb W C.qE #[C.ext] 76
  hF : Cb W C.qF #[fc] 40
  hl : Gw C.B W lv L
  hf : Fo C.B W fv vs
  el : El W vs f
  hk : Keep (Zx C lv fv0) w0 W
  fo : ∀ k, fv.ownBlock = some k → fv0.ownBlock = some k ∨ m ≤ k
  ne : ∀ u ∈ vs, ∀ b, u.ownBlock = some b → C.B ≤ b ∧ fv.ownBlock ≠ some b ∧ lv.ownBlock ≠ some b
  ds : ∀ k, lv.ownBlock = some k → fv.ownBlock ≠ some k
  nw : ∃ more, vs = vs0 ++ more ∧ ∀ u ∈ more, ∀ b, u.ownBlock = some b → w0.heap.size ≤ b
  b0 : C.B ≤ w0.heap.size
  m0 : w0.heap.size ≤ m
  l0 : ∀ k, lv.ownBlock = some k → k < w0.heap.size
section
variable {C : Sc} {x : WaT} {w0 W W' : World} {lv fv0 fc fv : Value} {L : List (Int × Bool)} {vs0 vs : List Value} {m : Nat} {f : List (List (Int × Bool))}
theorem St.below (h : St C x w0 lv L fv0 vs0 m fc fv vs f W) (k : Below W.heap.size W W') : St C x w0 lv L fv0 vs0 m fc fv vs f W' :=
  ⟨h.hW.below k, h.hA.below k, h.hE.below k, h.hF.below k, h.hl.frame k, own_below h.hf k, h.el.below k, h.hk.below k, h.fo, h.ne, h.ds, h.nw, h.b0, h.m0, h.l0⟩
theorem St.mark {fc : Value} (h : St C x w0 lv L fv0 vs0 m fc fv0 vs f W) (m' : Nat) (hm : w0.heap.size ≤ m') : St C x w0 lv L fv0 vs0 m' fc fv0 vs f W :=
  ⟨h.hW, h.hA, h.hE, h.hF, h.hl, h.hf, h.el, h.hk, fun _ hk => .inl hk, h.ne, h.ds, h.nw, h.b0, hm, h.l0⟩
theorem St.store (ok : C.Ok x) (h : St C x w0 lv L fv0 vs0 m fc fv vs f W) : St C x w0 lv L fv0 vs0 m fv fv vs f (W.setCell ⟨C.qF, 0, none⟩ fv) := by
  have hg := grown_set W C.qF 0 fv
  have hs := hg.size
  have hB : ∀ b, C.B ≤ b → some C.qF ≠ some b := fun b hb e => by simp only [Option.some.injEq] at e; have := ok.f; omega
  refine ⟨h.hW.kept hg ok.wf, h.hA.kept hg (fun k hk => (ok.a k hk).2), h.hE.kept hg ok.ef, ?_, ?_, ?_, ?_, h.hk.grown hg (fun i _ e => .inl (by simpa using e.symm)), h.fo, h.ne, h.ds, h.nw, h.b0, h.m0, h.l0⟩
  · exact h.hF.set 0 fv
  · exact World.ownsRow.kept h.hl hg (.inr fun e => by
      have h9 := h.hl.lt (k := C.qF) e
      have := ok.f; omega)
  · exact World.ownsRow.kept h.hf hg (.inr fun e => by
      have h9 := Fo.lt h.hf (k := C.qF) e
      have := ok.f; omega)
  · refine ⟨h.el.len, fun i hi => ?_⟩
    obtain ⟨b, c, hu, hr, hb⟩ := h.el.at_ i hi
    refine ⟨b, c, hu, hr.kept hg (fun k _ => ?_), Nat.lt_of_lt_of_le hb hs⟩
    have h9 := (h.ne _ (getD_mem (d := undef) (by rw [h.el.len]; exact hi)) b (by rw [hu]; rfl)).1
    have := ok.f
    omega
/-- a sequence more is found -/
theorem St.app (ok : C.Ok x) (h : St C x w0 lv L fv0 vs0 m fc fv vs f W) {u v' : Value} {M : List (Int × Bool)} (hm : m ≤ W.heap.size) (hu : ElR W u M) (hub : ∀ b, u.ownBlock = some b → w0.heap.size ≤ b ∧ fv.ownBlock ≠ some b)
    (hf : Fo C.B W' v' (vs ++ [u])) (hg : W.grownBy W' fv.ownBlock) (ho : v'.ownBlock = fv.ownBlock ∨ v'.ownBlock = some W.heap.size) : St C x w0 lv L fv0 vs0 m fc v' (vs ++ [u]) (f ++ [M]) W' := by
  have hB : ∀ q, q < C.B → fv.ownBlock ≠ some q := fun q hq e => by have := Fo.lt h.hf e; omega
  have hw0 := h.hk.size
  have hlv : ∀ b, lv.ownBlock = some b → b < W.heap.size := fun b hb => (h.hl.lt hb).2
  have hl0 : ∀ b, lv.ownBlock = some b → b < W.heap.size := hlv
  have hul : ∀ b, u.ownBlock = some b → b < W.heap.size := fun b hb => by
    obtain ⟨b', c, rfl, -, hlt⟩ := hu
    simp only [Value.ownBlock, Option.some.injEq] at hb
    omega
  refine ⟨h.hW.grownO hg (hB _ ok.w), h.hA.grownO hg (fun i hi => hB _ (ok.a i hi).1), h.hE.grownO hg (hB _ ok.e), h.hF.grownO hg (hB _ ok.f), ?_, hf, ?_, ?_, ?_, ?_, ?_, ?_, h.b0, h.m0, h.l0⟩
  · exact World.ownsRow.kept h.hl hg (by
      cases e : lv.ownBlock with
      | none => exact .inl rfl
      | some b => exact .inr fun e2 => h.ds b e e2.symm)
  · refine El.more ⟨h.el.len, fun i hi => ?_⟩ ?_
    · obtain ⟨b, c, hu', hr, hb⟩ := h.el.at_ i hi
      have h9 := (h.ne _ (getD_mem (d := undef) (by rw [h.el.len]; exact hi)) b (by rw [hu']; rfl)).2.1
      exact ⟨b, c, hu', hr.grownO hg (fun _ _ => h9), Nat.lt_of_lt_of_le hb hg.size⟩
    · obtain ⟨b, c, hu', hr, hb⟩ := hu
      have h9 := (hub b (by rw [hu']; rfl)).2
      exact ⟨b, c, hu', hr.grownO hg (fun _ _ => h9), Nat.lt_of_lt_of_le hb hg.size⟩
  · refine h.hk.grown hg (fun i hi e => ?_)
    rcases h.fo i e with h9 | h9
    · exact .inr (.inr h9)
    · have := h.m0; omega
  · intro k hk
    rcases ho with ho | ho
    · exact h.fo k (ho ▸ hk)
    · rw [ho] at hk
      simp only [Option.some.injEq] at hk
      exact .inr (by omega)
  · intro u' hu' b hb
    rcases List.mem_append.1 hu' with hu' | hu'
    · obtain ⟨h1, h2, h3⟩ := h.ne u' hu' b hb
      refine ⟨h1, ?_, h3⟩
      rcases ho with ho | ho
      · rw [ho]; exact h2
      · rw [ho]
        have := h.el.lt hu' hb
        intro e
        simp only [Option.some.injEq] at e
        omega
    · rw [List.mem_singleton] at hu'
      subst hu'
      obtain ⟨h1, h2⟩ := hub b hb
      have h3 := hul b hb
      have h4 := h.b0
      refine ⟨by omega, ?_, ?_⟩
      · rcases ho with ho | ho
        · rw [ho]; exact h2
        · rw [ho]; intro e; simp only [Option.some.injEq] at e; omega
      · intro e; have := h.l0 b e; omega
  · intro k hk e
    rcases ho with ho | ho
    · rw [ho] at e; exact h.ds k hk e
    · rw [ho] at e
      simp only [Option.some.injEq] at e
      have := hlv k hk
      omega
  · obtain ⟨more, rfl, hmo⟩ := h.nw
    refine ⟨more ++ [u], by rw [List.append_assoc], fun u' hu' b hb => ?_⟩
    rcases List.mem_append.1 hu' with hu' | hu'
    · exact hmo u' hu' b hb
    · rw [List.mem_singleton] at hu'
      subst hu'
      exact (hub b hb).1
/-- what a call of the search leaves behind -/
structure Ep (C : Sc) (w0 : World) (lv : Value) (L : List (Int × Bool)) (fv0 : Value) (vs0 : List Value) (f : List (List (Int × Bool))) (w' : World) : Prop where
  ex : ∃ fv vs, Cb w' C.qF #[fv] 40 ∧ Fo C.B w' fv vs ∧ El w' vs f ∧ (∀ k, fv.ownBlock = some k → fv0.ownBlock = some k ∨ w0.heap.size ≤ k) ∧ (∃ more, vs = vs0 ++ more ∧ ∀ u ∈ more, ∀ b, u.ownBlock = some b → w0.heap.size ≤ b) ∧ (∀ u ∈ vs, ∀ b, u.ownBlock = some b → C.B ≤ b ∧ fv.ownBlock ≠ some b)
  hl : Gw C.B w' lv L
  hk : Keep (Zx C lv fv0) w0 w'
theorem St.done {fv : Value} (h : St C x w0 lv L fv0 vs0 m fv fv vs f W) : Ep C w0 lv L fv0 vs0 f W :=
  ⟨⟨fv, vs, h.hF, h.hf, h.el, fun k hk => (h.fo k hk).imp id (fun h9 => Nat.le_trans h.m0 h9), h.nw, fun u hu b hb => ⟨(h.ne u hu b hb).1, (h.ne u hu b hb).2.1⟩⟩, h.hl, h.hk⟩
/-- how a visit more lies: in the same block, or in a new one -/
def Lies (W W' : World) (lv v' : Value) (n : Nat) : Prop :=
  (v'.ownBlock = some W.heap.size ∧ Below W.heap.size W W') ∨ (∃ g cap, lv = .slice (some ⟨g, 0, none⟩) n cap ∧ v' = .slice (some ⟨g, 0, none⟩) (n + 1) cap ∧ W.grownBy W' (some g))
theorem Lies.keep {v' : Value} {n : Nat} (h : Lies W W' lv v' n) : Keep (fun k => lv.ownBlock = some k) W W' := by
  rcases h with ⟨-, hb⟩ | ⟨g, cap, rfl, -, hg⟩
  · exact ⟨hb.os, hb.tape, hb.output, hb.size, fun k hk _ => hb.block k hk⟩
  · exact ⟨hg.os, hg.tape, hg.output, hg.size, fun k hk hn => hg.block k hk (fun e => hn e.symm)⟩
theorem Lies.own {v' : Value} {n : Nat} (h : Lies W W' lv v' n) : v'.ownBlock = some W.heap.size ∨ v'.ownBlock = lv.ownBlock := by
  rcases h with ⟨h, -⟩ | ⟨g, cap, rfl, rfl, -⟩
  · exact .inl h
  · exact .inr rfl
/-- the state from which the search is called for one visit more -/
theorem St.enter (ok : C.Ok x) {fv v' : Value} {W2 : World} {M : List (Int × Bool)} (h : St C x w0 lv L fv0 vs0 m fv fv vs f W) (hv : Gw C.B W' v' M) (hlies : Lies W W' lv v' L.length) (hb : Below W'.heap.size W' W2) :
    St C x W2 v' M fv vs W2.heap.size fv fv vs f W2 := by
  have hk := hlies.keep
  have hB : ∀ q, q < C.B → ¬ (lv.ownBlock = some q) := fun q hq e => by have := h.hl.lt e; omega
  have hs := hk.size
  have hs2 := hb.size
  have hw0 := h.hk.size
  have hb0 := h.b0
  have hown := hlies.own
  have hv2 : ∀ b, v'.ownBlock = some b → b = W.heap.size ∨ lv.ownBlock = some b := fun b hb => by
    rcases hown with e | e
    · rw [e] at hb; simp only [Option.some.injEq] at hb; exact .inl hb.symm
    · exact .inr (e ▸ hb)
  refine ⟨(h.hW.keep hk (hB _ ok.w)).below hb, (h.hA.keep hk (fun i hi => hB _ (ok.a i hi).1)).below hb, (h.hE.keep hk (hB _ ok.e)).below hb, (h.hF.keep hk (hB _ ok.f)).below hb, hv.frame hb, own_below (own_keep h.hf hk (fun i hi e => h.ds i e hi)) hb, (h.el.keep hk (fun u hu b hb e => (h.ne u hu b hb).2.2 e)).below hb, Keep.refl _ _, fun _ hk => .inl hk, ?_, ?_, ⟨[], by simp, fun u hu => by cases hu⟩, by omega, Nat.le_refl _, ?_⟩
  · intro u hu b hb
    obtain ⟨h1, h2, h3⟩ := h.ne u hu b hb
    refine ⟨h1, h2, fun e => ?_⟩
    rcases hv2 b e with h9 | h9
    · have := h.el.lt hu hb; omega
    · exact h3 h9
  · intro k hk e
    rcases hv2 k hk with h9 | h9
    · have := Fo.lt h.hf e; omega
    · exact h.ds k h9 e
  · intro k hk
    have := (hv.lt hk).2
    omega
/-- behind the call -/
theorem St.leave (ok : C.Ok x) {fv v' : Value} {v : Int × Bool} {W2 W3 : World} {f' : List (List (Int × Bool))} (h : St C x w0 lv L fv0 vs0 m fv fv vs f W) (hmW : m ≤ W.heap.size) (hv : Gw C.B W' v' (L ++ [v])) (hlies : Lies W W' lv v' L.length) (hb : Below W'.heap.size W' W2) (he : Ep C W2 v' (L ++ [v]) fv vs f' W3) :
    ∃ fv3 vs3, St C x w0 lv L fv0 vs0 m fv3 fv3 vs3 f' W3 ∧ Keep (Zx C lv fv) W W3 := by
  obtain ⟨fv3, vs3, hF, hf, hel, hfo, ⟨more, hmo, hmb⟩, hne⟩ := he.ex
  have hk := hlies.keep
  have hs := hk.size
  have hs2 := hb.size
  have hw0 := h.hk.size
  have hm0 := h.m0
  have hB : ∀ q, q < C.B → ¬ (lv.ownBlock = some q) := fun q hq e => by have := h.hl.lt e; omega
  have hfB : ∀ q, q < C.B → ¬ (fv.ownBlock = some q) := fun q hq e => by have := Fo.lt h.hf e; omega
  have hown := hlies.own
  have hv2 : ∀ b, v'.ownBlock = some b → b = W.heap.size ∨ lv.ownBlock = some b := fun b hb => by
    rcases hown with e | e
    · rw [e] at hb; simp only [Option.some.injEq] at hb; exact .inl hb.symm
    · exact .inr (e ▸ hb)
  have hkT : Keep (Zx C lv fv) W W3 := (Keep.trans (Z := Zx C lv fv) (Keep.trans (Z := Zx C lv fv) (Keep.refl _ W) hk (fun i _ e => .inr (.inl e))) ⟨hb.os, hb.tape, hb.output, hb.size, fun i hi (_ : ¬ False) => hb.block i hi⟩ (fun i _ e => e.elim)).trans he.hk (fun i hi e => by
    rcases e with e | e | e
    · exact .inl e
    · rcases hv2 i e with h9 | h9
      · omega
      · exact .inr (.inl h9)
    · exact .inr (.inr e))
  have hZ : ∀ q, q < C.B → q ≠ C.qF → ¬ Zx C lv fv q := fun q hq hne e => by
    rcases e with e | e | e
    · exact hne e
    · exact hB q hq e
    · exact hfB q hq e
  have hW3 := hkT.size
  refine ⟨fv3, vs3, ⟨h.hW.keep hkT (hZ _ ok.w ok.wf), h.hA.keep hkT (fun i hi => hZ _ (ok.a i hi).1 (ok.a i hi).2), h.hE.keep hkT (hZ _ ok.e ok.ef), hF, ?_, hf, hel, h.hk.trans hkT (fun i hi e => ?_), ?_, ?_, ?_, ?_, h.b0, h.m0, h.l0⟩, hkT⟩
  · -- the sequence itself
    rcases hlies with ⟨hnew, hbl⟩ | ⟨g, cap, rfl, rfl, hg⟩
    · refine own_keep (own_below (own_keep h.hl (Z := fun _ => False) ⟨hbl.os, hbl.tape, hbl.output, hbl.size, fun i hi _ => hbl.block i hi⟩ (fun _ _ => id)) hb) he.hk (fun i hi e => ?_)
      have h9 := (h.hl.lt hi).2
      rcases e with e | e | e
      · have := (h.hl.lt hi).1; have := ok.f; omega
      · rw [hnew] at e; simp only [Option.some.injEq] at e; omega
      · exact h.ds i hi e
    · have h9 := he.hl
      exact Gw.back h9
  · rcases e with e | e | e
    · exact .inl e
    · exact .inr (.inl e)
    · rcases h.fo i e with h9 | h9
      · exact .inr (.inr h9)
      · omega
  · intro k hk3
    rcases hfo k hk3 with h9 | h9
    · exact h.fo k h9
    · exact .inr (by omega)
  · intro u hu b hb3
    obtain ⟨h1, h2⟩ := hne u hu b hb3
    refine ⟨h1, h2, fun e => ?_⟩
    rw [hmo] at hu
    rcases List.mem_append.1 hu with hu | hu
    · exact (h.ne u hu b hb3).2.2 e
    · have := hmb u hu b hb3
      have := h.l0 b e
      omega
  · intro k hk3 e
    rcases hfo k e with h9 | h9
    · exact h.ds k hk3 h9
    · have := h.l0 k hk3; omega
  · obtain ⟨mo, hmo0, hmb0⟩ := h.nw
    refine ⟨mo ++ more, by rw [hmo, hmo0, List.append_assoc], fun u hu b hb3 => ?_⟩
    rcases List.mem_append.1 hu with hu | hu
    · exact hmb0 u hu b hb3
    · have := hmb u hu b hb3; omega
end
end Go.Proofs.Ytoliacfpjhanlaa.T


/-! The walk of the search (by gen_sr.py). -/
namespace Go.Proofs.Ytoliacfpjhanlaa.T
open Go.RowKit
set_option maxRecDepth 8000
attribute [local irreducible] wpList Code.wp wpAnyH

theorem own_one {B : Nat} {w : World} {fv : Value} {vs : List Value} (h : Fo B w fv vs) : fv.oneCell' = true := by
  obtain ⟨oa, c, rfl⟩ := h.form
  rfl
theorem extend_n (C : Sc) (x : WaT) (hx : x.B) (ok : C.Ok x) : ∀ (N : Nat) (L : List (Int × Bool)) (d : Nat × Nat) (la : Option Addr) (lc : Nat) (fv : Value) (vs : List Value) (f : List (List (Int × Bool))) (w : World), x.mu d < N → Dn d → L.length + N ≤ 1000 → f.length ≤ 8192 → St C x w (.slice la L.length lc) L fv vs w.heap.size fv fv vs f w → Calls Try.prog 38 #[.slice la L.length lc, .agg #[.int .i64 ((d.1 : Nat) : Int), .int .i64 ((d.2 : Nat) : Int)], .pointer (some ⟨C.qW, 0, none⟩), .pointer (some ⟨C.qF, 0, none⟩), .pointer (some ⟨C.qE, 0, none⟩)] w fun e w' => e = .returned (.tuple #[]) ∧ Ep C w (.slice la L.length lc) L fv vs (extF x N L d f) w' := by
  intro N
  induction N with
  | zero => intro L d la lc fv vs f w h; omega
  | succ n ih =>
    intro L d la lc fv vs f w hmu hd hLN hfl ST
    have hfv0 : ∀ k, fv.ownBlock = some k → k < w.heap.size := fun k e => (Fo.lt ST.hf e).2
    have hll : L.length ≤ 1000 := by omega
    have hn63 : (nextW x d).length ≤ 63 := Nat.le_trans (nxtK_len _ _ _ _ _) hx.l
    refine sx_enter Try.func38 rfl [(0, .slice la L.length lc), (1, .agg #[.int .i64 ((d.1 : Nat) : Int), .int .i64 ((d.2 : Nat) : Int)]), (2, .pointer (some ⟨C.qW, 0, none⟩)), (3, .pointer (some ⟨C.qF, 0, none⟩)), (4, .pointer (some ⟨C.qE, 0, none⟩))] (by kernel_rfl) ?_
    refine wp_seq ?_
    refine wp_region_lit ?_
    obtain ⟨W1, hW⟩ : ∃ W, w.alloc (.cells #[.int .i64 ((d.1 : Nat) : Int), .int .i64 ((d.2 : Nat) : Int)] 72) = W := ⟨_, rfl⟩
    have hb := hW ▸ below_alloc w (.cells #[.int .i64 ((d.1 : Nat) : Int), .int .i64 ((d.2 : Nat) : Int)] 72)
    have hq : Cb W1 w.heap.size #[.int .i64 ((d.1 : Nat) : Int), .int .i64 ((d.2 : Nat) : Int)] 72 := hW ▸ Cb.made w #[.int .i64 ((d.1 : Nat) : Int), .int .i64 ((d.2 : Nat) : Int)] 72
    refine sx_mem (by kernel_rfl) rfl rfl (.pointer (some ⟨w.heap.size, 0, none⟩)) W1 (by rw [← hW]; kernel_rfl) ?_
    replace ST := ST.below hb
    have z1 := hb.size
    have M2 := hq
    have yM2 := hq.lt
    clear hq hb hW
    refine wpList_nil ?_
    refine sx_norm ?_
    refine wp_seq ?_
    refine wp_region_lit ?_
    refine sx_val (by kernel_rfl) rfl rfl (.agg #[.int .i64 ((x.W : Nat) : Int), .int .i64 ((x.P : Nat) : Int), .int .i64 ((x.D : Nat) : Int), .slice C.oA x.A.length C.cA]) (ex_load rfl ST.hW (by kernel_rfl) Try.underlying74 rfl (by kernel_rfl)) ?_
    refine sx_val (by kernel_rfl) rfl rfl (.agg #[.int .i64 ((d.1 : Nat) : Int), .int .i64 ((d.2 : Nat) : Int)]) (ex_load rfl M2 (by kernel_rfl) Try.underlying72 rfl (by kernel_rfl)) ?_
    refine sx_call (by kernel_rfl) rfl rfl (next_n x hx d hd.1 hd.2 C.oA C.cA C.bA C.pA W1 ST.hA) (by kernel_rfl) ?_
    rintro e W3 ⟨oan, cn, rfl, ⟨hvn, hgn, -⟩, hb⟩
    replace ST := ST.below hb
    replace M2 := M2.below hb
    have z2 := hb.size
    clear hb
    refine ⟨_, rfl, ?_⟩
    obtain ⟨bn, qn, NX⟩ := hvn.rw2
    have hbn : ∀ k, k < (nextW x d).length → W1.heap.size ≤ bn ∧ bn < W3.heap.size := fun k hk => ⟨hgn.blk bn (by rw [NX.oa hk]; rfl), NX.lt hk⟩
    clear hvn hgn
    replace ST := ST.mark W3.heap.size (by omega)
    obtain ⟨m, hm⟩ : ∃ m, W3.heap.size = m := ⟨_, rfl⟩
    have hmM : w.heap.size < m := by omega
    have hbm : ∀ k, k < (nextW x d).length → w.heap.size < bn ∧ bn < m := fun k hk => by have h8 := hbn k hk; omega
    rw [hm] at ST
    clear hbn
    refine sx_val (by kernel_rfl) rfl rfl (.slice oan (nextW x d).length cn) (by kernel_rfl) ?_
    refine wpList_nil ?_
    refine sx_norm ?_
    refine sx_cut (fun _i : Unit => [(0, .slice la L.length lc), (1, .agg #[.int .i64 ((d.1 : Nat) : Int), .int .i64 ((d.2 : Nat) : Int)]), (2, .pointer (some ⟨C.qW, 0, none⟩)), (3, .pointer (some ⟨C.qF, 0, none⟩)), (4, .pointer (some ⟨C.qE, 0, none⟩)), (6, .pointer (some ⟨w.heap.size, 0, none⟩)), (7, .slice oan (nextW x d).length cn), (10, .agg #[.int .i64 ((x.W : Nat) : Int), .int .i64 ((x.P : Nat) : Int), .int .i64 ((x.D : Nat) : Int), .slice C.oA x.A.length C.cA]), (11, .agg #[.int .i64 ((d.1 : Nat) : Int), .int .i64 ((d.2 : Nat) : Int)]), (12, .slice oan (nextW x d).length cn)]) (fun _i wr => ∃ fv1 vs1, St C x w (.slice la L.length lc) L fv vs m fv1 fv1 vs1 (if (nextW x d).length = 0 ∧ 0 < L.length then f ++ [L] else f) wr ∧ Cb wr w.heap.size #[.int .i64 ((d.1 : Nat) : Int), .int .i64 ((d.2 : Nat) : Int)] 72 ∧ Rw wr bn qn 2 (vF (nextW x d)) (nextW x d).length oan ∧ m ≤ wr.heap.size) ?_ ?_
    · refine wp_seq ?_
      refine wp_region_lit ?_
      refine sx_val (by kernel_rfl) rfl rfl (.slice oan (nextW x d).length cn) (by kernel_rfl) ?_
      refine sx_val (by kernel_rfl) rfl rfl (.int .i64 (((nextW x d).length : Nat) : Int)) (by kernel_rfl) ?_
      by_cases C1 : (nextW x d).length = 0
      · refine sx_bool (by kernel_rfl) rfl rfl (((((nextW x d).length : Nat) : Int) : Int) == (0 : Int)) true (by kernel_rfl) (beq_iff_eq.2 (by omega)) ?_
        refine sx_val (by kernel_rfl) rfl rfl (.bool true) (by kernel_rfl) ?_
        refine sx_val (by kernel_rfl) rfl rfl (.slice la L.length lc) (by kernel_rfl) ?_
        refine sx_val (by kernel_rfl) rfl rfl (.int .i64 ((L.length : Nat) : Int)) (by kernel_rfl) ?_
        by_cases C2 : L.length > 0
        · refine sx_bool (by kernel_rfl) rfl rfl (decide (((L.length : Nat) : Int) > 0)) true (by kernel_rfl) (decide_eq_true (by omega)) ?_
          refine sx_val (by kernel_rfl) rfl rfl (.bool true) (by kernel_rfl) ?_
          refine wpList_nil ?_
          refine sx_norm ?_
          refine sx_true (by kernel_rfl) ?_
          obtain ⟨g, lc', hlv, -, -⟩ := gw_some ST.hl (by assumption)
          simp only [Value.slice.injEq, true_and] at hlv
          obtain ⟨rfl, rfl⟩ := hlv
          obtain ⟨Y5, hW⟩ : ∃ W, W3.drew = W := ⟨_, rfl⟩
          have hb : Below W3.heap.size W3 Y5 := hW ▸ below_drew (Below.refl _ _)
          replace ST := ST.below hb
          replace M2 := M2.below hb
          replace NX := NX.below hb
          have z3 := hb.size
          clear hb
          refine sd_begin (fun W => True) (by kernel_rfl) trivial ?_
          rw [hW]
          clear hW
          refine sd_take 1 rfl (by kernel_rfl) (by kernel_rfl) (by kernel_rfl) (by kernel_rfl) rfl rfl (.slice (some ⟨g, 0, none⟩) L.length lc) (fun w9 _ => by kernel_rfl) (fun _ _ _ h => h) trivial ?_
          refine sd_all [0, 2] (by kernel_rfl) (by decide) ?_
          refine sd_mem (i := 0) rfl (by kernel_rfl) rfl rfl (fv) Y5 (ex_load1 rfl (ST.hF.cell 0 rfl) (by kernel_rfl) Try.underlying40 rfl) trivial ?_ ?_
          · refine sd_all [2] (by kernel_rfl) (by decide) ?_
            have hz0 : w.heap.size ≤ Y5.heap.size := ST.hk.size
            refine sd_call (i := 2) rfl (by kernel_rfl) rfl rfl (cloneV_n g lc L (by assumption) (by omega) Y5 (gw_row ST.hl)) (by kernel_rfl) ?_ AllReadyH.nil
            rintro e W6 ⟨u9, rfl, hu9, hub9, hb⟩
            obtain ⟨ub9, uc9, hu8, -, -⟩ := id hu9
            subst hu8
            replace ST := ST.below hb
            replace M2 := M2.below hb
            replace NX := NX.below hb
            have z4 := hb.size
            clear hb
            refine ⟨_, rfl, trivial, ?_⟩
            have hub8 : ∀ b, Value.ownBlock (.slice (some ⟨ub9, 0, none⟩) L.length uc9) = some b → w.heap.size ≤ b ∧ fv.ownBlock ≠ some b := fun b hb9 => ⟨by have h8 := hub9 b hb9; omega, fun e => by have h8 := hub9 b hb9; have h7 := hfv0 b e; omega⟩
            refine sd_all [3] (by kernel_rfl) (by decide) ?_
            refine sd_mem (i := 3) rfl (by kernel_rfl) rfl rfl (.slice (some ⟨W6.heap.size, 0, none⟩) 1 1) (W6.alloc (.cells #[.slice (some ⟨ub9, 0, none⟩) L.length uc9] 32)) (by kernel_rfl) trivial ?_ AllReadyH.nil
            obtain ⟨W7, hW⟩ : ∃ W, W6.alloc (.cells #[.slice (some ⟨ub9, 0, none⟩) L.length uc9] 32) = W := ⟨_, rfl⟩
            have hb := hW ▸ below_alloc W6 (.cells #[.slice (some ⟨ub9, 0, none⟩) L.length uc9] 32)
            have hq : Cb W7 W6.heap.size #[.slice (some ⟨ub9, 0, none⟩) L.length uc9] 32 := hW ▸ Cb.made W6 #[.slice (some ⟨ub9, 0, none⟩) L.length uc9] 32
            rw [hW]
            replace ST := ST.below hb
            replace M2 := M2.below hb
            replace NX := NX.below hb
            replace hu9 := hu9.below hb
            have z5 := hb.size
            have M8 := hq
            have yM8 := hq.lt
            clear hq hb hW
            refine sd_all [4] (by kernel_rfl) (by decide) ?_
            obtain ⟨v5, W9, h5, hf5, hg5, ho5⟩ := ap_f16 40 ST.hf M8 hu9.one (by have h8 := ST.hk.size; have h7 := ST.b0; omega) (by have h8 := ST.el.len; omega)
            have ST5 := ST.app ok (by omega) hu9 hub8 hf5 hg5 ho5
            have hq5 : ∀ q, w.heap.size ≤ q → fv.ownBlock ≠ some q := fun q hq e => by have h8 := hfv0 q e; omega
            replace M2 := M2.grownO hg5 (hq5 _ (Nat.le_refl _))
            replace NX := NX.grownO hg5 (fun k hk => hq5 _ (by have h8 := hbm k hk; omega))
            have z9W9 := hg5.size
            clear ST hg5 hf5 hu9
            have ST := ST5
            clear ST5
            refine sd_mem (i := 4) rfl (by kernel_rfl) rfl rfl v5 W9 (ex_append rfl (by kernel_rfl) (by kernel_rfl) h5) trivial ?_ AllReadyH.nil
            refine sd_all [5] (by kernel_rfl) (by decide) ?_
            refine sd_do (i := 5) rfl (by kernel_rfl) rfl (W9.setCell ⟨C.qF, 0, none⟩ v5) (ex_store1 rfl (ST.hF.cell 0 rfl) (ST.hF.f 0) (own_one ST.hf) (by kernel_rfl) (by kernel_rfl) (by kernel_rfl)) trivial ?_ AllReadyH.nil
            obtain ⟨W10, hW⟩ : ∃ W, W9.setCell ⟨C.qF, 0, none⟩ v5 = W := ⟨_, rfl⟩
            have hg : W9.grownBy W10 (some C.qF) := hW ▸ grown_set _ _ _ _
            have zW10 := hg.size
            replace ST := ST.store ok
            rw [hW] at ST ⊢
            have hqF := ok.f
            have hb0 := ST.b0
            replace M2 := M2.grownO hg (by intro e; simp only [Option.some.injEq] at e; omega)
            replace NX := NX.grownO hg (fun k hk e => by have h8 := hbm k hk; simp only [Option.some.injEq] at e; omega)
            clear hW hg
            refine sd_done (by kernel_rfl) ?_
            refine sx_norm ?_
            have e1 : (if (nextW x d).length = 0 ∧ 0 < L.length then f ++ [L] else f) = f ++ [L] := if_pos ⟨by assumption, by assumption⟩
            refine ⟨(), ?_, fr_less (by kernel_rfl)⟩
            rw [e1]
            exact ⟨_, _, ST, M2, NX, by omega⟩
          have hz0 : w.heap.size ≤ Y5.heap.size := ST.hk.size
          refine sd_call (i := 2) rfl (by kernel_rfl) rfl rfl (cloneV_n g lc L (by assumption) (by omega) Y5 (gw_row ST.hl)) (by kernel_rfl) ?_ AllReadyH.nil
          rintro e W11 ⟨u9, rfl, hu9, hub9, hb⟩
          obtain ⟨ub9, uc9, hu8, -, -⟩ := id hu9
          subst hu8
          replace ST := ST.below hb
          replace M2 := M2.below hb
          replace NX := NX.below hb
          have z4 := hb.size
          clear hb
          refine ⟨_, rfl, trivial, ?_⟩
          have hub8 : ∀ b, Value.ownBlock (.slice (some ⟨ub9, 0, none⟩) L.length uc9) = some b → w.heap.size ≤ b ∧ fv.ownBlock ≠ some b := fun b hb9 => ⟨by have h8 := hub9 b hb9; omega, fun e => by have h8 := hub9 b hb9; have h7 := hfv0 b e; omega⟩
          refine sd_all [0, 3] (by kernel_rfl) (by decide) ?_
          refine sd_mem (i := 0) rfl (by kernel_rfl) rfl rfl (fv) W11 (ex_load1 rfl (ST.hF.cell 0 rfl) (by kernel_rfl) Try.underlying40 rfl) trivial ?_ ?_
          · refine sd_all [3] (by kernel_rfl) (by decide) ?_
            refine sd_mem (i := 3) rfl (by kernel_rfl) rfl rfl (.slice (some ⟨W11.heap.size, 0, none⟩) 1 1) (W11.alloc (.cells #[.slice (some ⟨ub9, 0, none⟩) L.length uc9] 32)) (by kernel_rfl) trivial ?_ AllReadyH.nil
            obtain ⟨W12, hW⟩ : ∃ W, W11.alloc (.cells #[.slice (some ⟨ub9, 0, none⟩) L.length uc9] 32) = W := ⟨_, rfl⟩
            have hb := hW ▸ below_alloc W11 (.cells #[.slice (some ⟨ub9, 0, none⟩) L.length uc9] 32)
            have hq : Cb W12 W11.heap.size #[.slice (some ⟨ub9, 0, none⟩) L.length uc9] 32 := hW ▸ Cb.made W11 #[.slice (some ⟨ub9, 0, none⟩) L.length uc9] 32
            rw [hW]
            replace ST := ST.below hb
            replace M2 := M2.below hb
            replace NX := NX.below hb
            replace hu9 := hu9.below hb
            have z5 := hb.size
            have M13 := hq
            have yM13 := hq.lt
            clear hq hb hW
            refine sd_all [4] (by kernel_rfl) (by decide) ?_
            obtain ⟨v5, W14, h5, hf5, hg5, ho5⟩ := ap_f16 40 ST.hf M13 hu9.one (by have h8 := ST.hk.size; have h7 := ST.b0; omega) (by have h8 := ST.el.len; omega)
            have ST5 := ST.app ok (by omega) hu9 hub8 hf5 hg5 ho5
            have hq5 : ∀ q, w.heap.size ≤ q → fv.ownBlock ≠ some q := fun q hq e => by have h8 := hfv0 q e; omega
            replace M2 := M2.grownO hg5 (hq5 _ (Nat.le_refl _))
            replace NX := NX.grownO hg5 (fun k hk => hq5 _ (by have h8 := hbm k hk; omega))
            have z9W14 := hg5.size
            clear ST hg5 hf5 hu9
            have ST := ST5
            clear ST5
            refine sd_mem (i := 4) rfl (by kernel_rfl) rfl rfl v5 W14 (ex_append rfl (by kernel_rfl) (by kernel_rfl) h5) trivial ?_ AllReadyH.nil
            refine sd_all [5] (by kernel_rfl) (by decide) ?_
            refine sd_do (i := 5) rfl (by kernel_rfl) rfl (W14.setCell ⟨C.qF, 0, none⟩ v5) (ex_store1 rfl (ST.hF.cell 0 rfl) (ST.hF.f 0) (own_one ST.hf) (by kernel_rfl) (by kernel_rfl) (by kernel_rfl)) trivial ?_ AllReadyH.nil
            obtain ⟨W15, hW⟩ : ∃ W, W14.setCell ⟨C.qF, 0, none⟩ v5 = W := ⟨_, rfl⟩
            have hg : W14.grownBy W15 (some C.qF) := hW ▸ grown_set _ _ _ _
            have zW15 := hg.size
            replace ST := ST.store ok
            rw [hW] at ST ⊢
            have hqF := ok.f
            have hb0 := ST.b0
            replace M2 := M2.grownO hg (by intro e; simp only [Option.some.injEq] at e; omega)
            replace NX := NX.grownO hg (fun k hk e => by have h8 := hbm k hk; simp only [Option.some.injEq] at e; omega)
            clear hW hg
            refine sd_done (by kernel_rfl) ?_
            refine sx_norm ?_
            have e1 : (if (nextW x d).length = 0 ∧ 0 < L.length then f ++ [L] else f) = f ++ [L] := if_pos ⟨by assumption, by assumption⟩
            refine ⟨(), ?_, fr_less (by kernel_rfl)⟩
            rw [e1]
            exact ⟨_, _, ST, M2, NX, by omega⟩
          refine sd_mem (i := 3) rfl (by kernel_rfl) rfl rfl (.slice (some ⟨W11.heap.size, 0, none⟩) 1 1) (W11.alloc (.cells #[.slice (some ⟨ub9, 0, none⟩) L.length uc9] 32)) (by kernel_rfl) trivial ?_ AllReadyH.nil
          obtain ⟨W16, hW⟩ : ∃ W, W11.alloc (.cells #[.slice (some ⟨ub9, 0, none⟩) L.length uc9] 32) = W := ⟨_, rfl⟩
          have hb := hW ▸ below_alloc W11 (.cells #[.slice (some ⟨ub9, 0, none⟩) L.length uc9] 32)
          have hq : Cb W16 W11.heap.size #[.slice (some ⟨ub9, 0, none⟩) L.length uc9] 32 := hW ▸ Cb.made W11 #[.slice (some ⟨ub9, 0, none⟩) L.length uc9] 32
          rw [hW]
          replace ST := ST.below hb
          replace M2 := M2.below hb
          replace NX := NX.below hb
          replace hu9 := hu9.below hb
          have z5 := hb.size
          have M17 := hq
          have yM17 := hq.lt
          clear hq hb hW
          refine sd_all [0] (by kernel_rfl) (by decide) ?_
          refine sd_mem (i := 0) rfl (by kernel_rfl) rfl rfl (fv) W16 (ex_load1 rfl (ST.hF.cell 0 rfl) (by kernel_rfl) Try.underlying40 rfl) trivial ?_ AllReadyH.nil
          refine sd_all [4] (by kernel_rfl) (by decide) ?_
          obtain ⟨v5, W18, h5, hf5, hg5, ho5⟩ := ap_f16 40 ST.hf M17 hu9.one (by have h8 := ST.hk.size; have h7 := ST.b0; omega) (by have h8 := ST.el.len; omega)
          have ST5 := ST.app ok (by omega) hu9 hub8 hf5 hg5 ho5
          have hq5 : ∀ q, w.heap.size ≤ q → fv.ownBlock ≠ some q := fun q hq e => by have h8 := hfv0 q e; omega
          replace M2 := M2.grownO hg5 (hq5 _ (Nat.le_refl _))
          replace NX := NX.grownO hg5 (fun k hk => hq5 _ (by have h8 := hbm k hk; omega))
          have z9W18 := hg5.size
          clear ST hg5 hf5 hu9
          have ST := ST5
          clear ST5
          refine sd_mem (i := 4) rfl (by kernel_rfl) rfl rfl v5 W18 (ex_append rfl (by kernel_rfl) (by kernel_rfl) h5) trivial ?_ AllReadyH.nil
          refine sd_all [5] (by kernel_rfl) (by decide) ?_
          refine sd_do (i := 5) rfl (by kernel_rfl) rfl (W18.setCell ⟨C.qF, 0, none⟩ v5) (ex_store1 rfl (ST.hF.cell 0 rfl) (ST.hF.f 0) (own_one ST.hf) (by kernel_rfl) (by kernel_rfl) (by kernel_rfl)) trivial ?_ AllReadyH.nil
          obtain ⟨W19, hW⟩ : ∃ W, W18.setCell ⟨C.qF, 0, none⟩ v5 = W := ⟨_, rfl⟩
          have hg : W18.grownBy W19 (some C.qF) := hW ▸ grown_set _ _ _ _
          have zW19 := hg.size
          replace ST := ST.store ok
          rw [hW] at ST ⊢
          have hqF := ok.f
          have hb0 := ST.b0
          replace M2 := M2.grownO hg (by intro e; simp only [Option.some.injEq] at e; omega)
          replace NX := NX.grownO hg (fun k hk e => by have h8 := hbm k hk; simp only [Option.some.injEq] at e; omega)
          clear hW hg
          refine sd_done (by kernel_rfl) ?_
          refine sx_norm ?_
          have e1 : (if (nextW x d).length = 0 ∧ 0 < L.length then f ++ [L] else f) = f ++ [L] := if_pos ⟨by assumption, by assumption⟩
          refine ⟨(), ?_, fr_less (by kernel_rfl)⟩
          rw [e1]
          exact ⟨_, _, ST, M2, NX, by omega⟩
        refine sx_bool (by kernel_rfl) rfl rfl (decide (((L.length : Nat) : Int) > 0)) false (by kernel_rfl) (decide_eq_false (by omega)) ?_
        refine sx_val (by kernel_rfl) rfl rfl (.bool false) (by kernel_rfl) ?_
        refine wpList_nil ?_
        refine sx_norm ?_
        refine sx_false (by kernel_rfl) ?_
        refine wp_skip ?_
        refine sx_norm ?_
        have e1 : (if (nextW x d).length = 0 ∧ 0 < L.length then f ++ [L] else f) = f := if_neg (by rintro ⟨h8, h9⟩; first | exact absurd h8 (by assumption) | exact absurd h9 (by assumption))
        refine ⟨(), ?_, fr_less (by kernel_rfl)⟩
        rw [e1]
        exact ⟨_, _, ST, M2, NX, by omega⟩
      refine sx_bool (by kernel_rfl) rfl rfl (((((nextW x d).length : Nat) : Int) : Int) == (0 : Int)) false (by kernel_rfl) (beq_eq_false_iff_ne.2 (by omega)) ?_
      refine sx_val (by kernel_rfl) rfl rfl (.bool false) (by kernel_rfl) ?_
      refine sx_skip (by kernel_rfl) rfl rfl ?_
      refine sx_skip (by kernel_rfl) rfl rfl ?_
      refine sx_skip (by kernel_rfl) rfl rfl ?_
      refine sx_val (by kernel_rfl) rfl rfl (.bool false) (by kernel_rfl) ?_
      refine wpList_nil ?_
      refine sx_norm ?_
      refine sx_false (by kernel_rfl) ?_
      refine wp_skip ?_
      refine sx_norm ?_
      have e1 : (if (nextW x d).length = 0 ∧ 0 < L.length then f ++ [L] else f) = f := if_neg (by rintro ⟨h8, h9⟩; first | exact absurd h8 (by assumption) | exact absurd h9 (by assumption))
      refine ⟨(), ?_, fr_less (by kernel_rfl)⟩
      rw [e1]
      exact ⟨_, _, ST, M2, NX, by omega⟩
    rintro _i g' wr4 ⟨fv1, vs1, ST, M2, NX, hmw⟩
    have hfl : (if (nextW x d).length = 0 ∧ 0 < L.length then f ++ [L] else f).length ≤ 8193 := by split <;> first | omega | (rw [List.length_append]; simp only [List.length_singleton]; omega)
    refine wp_seq ?_
    refine wp_region_lit ?_
    refine sx_val (by kernel_rfl) rfl rfl (.slice oan (nextW x d).length cn) (by kernel_rfl) ?_
    refine sx_val (by kernel_rfl) rfl rfl (.int .i64 (((nextW x d).length : Nat) : Int)) (by kernel_rfl) ?_
    refine sx_val (by kernel_rfl) rfl rfl (.int .i64 0) (by kernel_rfl) ?_
    refine wpList_nil ?_
    refine sx_norm ?_
    refine wp_block ?_
    refine sx_loop (fun j : Nat => [(0, .slice la L.length lc), (1, .agg #[.int .i64 ((d.1 : Nat) : Int), .int .i64 ((d.2 : Nat) : Int)]), (2, .pointer (some ⟨C.qW, 0, none⟩)), (3, .pointer (some ⟨C.qF, 0, none⟩)), (4, .pointer (some ⟨C.qE, 0, none⟩)), (6, .pointer (some ⟨w.heap.size, 0, none⟩)), (7, .slice oan (nextW x d).length cn), (10, .agg #[.int .i64 ((x.W : Nat) : Int), .int .i64 ((x.P : Nat) : Int), .int .i64 ((x.D : Nat) : Int), .slice C.oA x.A.length C.cA]), (11, .agg #[.int .i64 ((d.1 : Nat) : Int), .int .i64 ((d.2 : Nat) : Int)]), (12, .slice oan (nextW x d).length cn), (26, .slice oan (nextW x d).length cn), (27, .int .i64 (((nextW x d).length : Nat) : Int)), (28, .int .i64 ((j : Nat) : Int))]) (fun gg j wr => j ≤ (nextW x d).length ∧ (nextW x d).length - j ≤ gg ∧ (∃ fv1 vs1, St C x w (.slice la L.length lc) L fv vs m fv1 fv1 vs1 (extJ x n L d (if (nextW x d).length = 0 ∧ 0 < L.length then f ++ [L] else f) j) wr ∧ Cb wr w.heap.size #[.int .i64 ((d.1 : Nat) : Int), .int .i64 ((d.2 : Nat) : Int)] 72 ∧ Rw wr bn qn 2 (vF (nextW x d)) (nextW x d).length oan ∧ m ≤ wr.heap.size)) ((nextW x d).length) (0) (by kernel_rfl) ⟨Nat.zero_le _, Nat.le_refl _, fv1, vs1, ST, M2, NX, hmw⟩ ?_
    rintro gg j g' wr20 ⟨hj, hg, fv5, vs5, ST, M2, NX, hmw⟩
    obtain ⟨of5, cf5, hfv5⟩ := Fo.form ST.hf
    subst hfv5
    have hlen5 := ST.el.len
    have hsz5 := M2.lt
    refine wp_seq ?_
    refine wp_region_lit ?_
    by_cases C3 : j < (nextW x d).length
    · refine sx_bool (by kernel_rfl) rfl rfl (decide (((j : Nat) : Int) < (((nextW x d).length : Nat) : Int))) true (by kernel_rfl) (decide_eq_true (by omega)) ?_
      refine wpList_nil ?_
      refine sx_norm ?_
      refine wp_seq ?_
      refine sx_true (by kernel_rfl) ?_
      refine wp_skip ?_
      refine sx_norm ?_
      refine wp_seq ?_
      refine wp_block ?_
      refine wp_seq ?_
      refine wp_region_lit ?_
      have STr := ST
      have hfl9 := hlen5
      refine sx_val (by kernel_rfl) rfl rfl (.pointer (some ⟨bn, qn + j * 2, none⟩)) (ex_indexO (q := qn) (m := (nextW x d).length) (c := cn) (k := j) (s := 2) rfl (by kernel_rfl) (NX.oa (k := j) (by omega)) (by kernel_rfl) Try.underlying32 (by kernel_rfl) (by omega) (by omega)) ?_
      refine sx_val (by kernel_rfl) rfl rfl (.agg #[.int .i64 (((nextW x d).getD j (0, false)).1), .bool ((nextW x d).getD j (0, false)).2]) (ex_loadR rfl (NX.range (k := j) (by omega)) (by kernel_rfl) Try.underlying52 rfl (by kernel_rfl)) ?_
      obtain ⟨W22, hW⟩ : ∃ W, (wr20.alloc (.cells #[.int .i64 0, .bool false] 52)).setRow wr20.heap.size #[.int .i64 (((nextW x d).getD j (0, false)).1), .bool ((nextW x d).getD j (0, false)).2] = W := ⟨_, rfl⟩
      have hb := hW ▸ below_var wr20 (.cells #[.int .i64 0, .bool false] 52) #[.int .i64 (((nextW x d).getD j (0, false)).1), .bool ((nextW x d).getD j (0, false)).2]
      have hq : Cb W22 wr20.heap.size #[.int .i64 (((nextW x d).getD j (0, false)).1), .bool ((nextW x d).getD j (0, false)).2] 52 := hW ▸ Cb.row (Cb.made wr20 #[.int .i64 0, .bool false] 52) _
      refine sx_mem (by kernel_rfl) rfl rfl (.pointer (some ⟨wr20.heap.size, 0, none⟩)) (wr20.alloc (.cells #[.int .i64 0, .bool false] 52)) (by kernel_rfl) ?_
      refine sx_store (cells := #[.int .i64 (((nextW x d).getD j (0, false)).1), .bool ((nextW x d).getD j (0, false)).2]) (by kernel_rfl) rfl rfl (Cb.made wr20 #[.int .i64 0, .bool false] 52) (by kernel_rfl) (by kernel_rfl) (by kernel_rfl) (by kernel_rfl) (by kernel_rfl) ?_
      rw [hW]
      replace ST := ST.below hb
      replace M2 := M2.below hb
      replace NX := NX.below hb
      have z3 := hb.size
      have M21 := hq
      have yM21 := hq.lt
      clear hq hb hW
      refine wpList_nil ?_
      refine sx_norm ?_
      refine wp_seq ?_
      refine wp_seq ?_
      refine wp_region_lit ?_
      refine sx_val (by kernel_rfl) rfl rfl (.slice of5 vs5.length cf5) (ex_load1 rfl (ST.hF.cell 0 rfl) (by kernel_rfl) Try.underlying40 rfl) ?_
      refine sx_val (by kernel_rfl) rfl rfl (.int .i64 ((vs5.length : Nat) : Int)) (by kernel_rfl) ?_
      by_cases C4 : vs5.length > 8192
      · refine sx_bool (by kernel_rfl) rfl rfl (decide (((vs5.length : Nat) : Int) > 8192)) true (by kernel_rfl) (decide_eq_true (by omega)) ?_
        refine wpList_nil ?_
        refine sx_norm ?_
        refine sx_true (by kernel_rfl) ?_
        refine wp_ret ?_
        refine sx_rs ?_
        refine sx_rb ?_
        refine sx_rs ?_
        refine sx_rs ?_
        refine sx_rb ?_
        refine sx_ret0 rfl ⟨rfl, ?_⟩
        have h9 := ST.done
        rw [← extJ_stop (by omega)] at h9
        rw [extF_succ]
        exact h9
      refine sx_bool (by kernel_rfl) rfl rfl (decide (((vs5.length : Nat) : Int) > 8192)) false (by kernel_rfl) (decide_eq_false (by omega)) ?_
      refine wpList_nil ?_
      refine sx_norm ?_
      refine sx_false (by kernel_rfl) ?_
      refine wp_skip ?_
      refine sx_norm ?_
      have hfl5 : ∀ k, Value.ownBlock (.slice of5 vs5.length cf5) = some k → C.B ≤ k ∧ k < wr20.heap.size := fun k e => by have h8 := Fo.lt STr.hf e; omega
      obtain ⟨Y23, hW⟩ : ∃ W, W22.drew = W := ⟨_, rfl⟩
      have hb : Below W22.heap.size W22 Y23 := hW ▸ below_drew (Below.refl _ _)
      replace ST := ST.below hb
      replace M2 := M2.below hb
      replace NX := NX.below hb
      replace M21 := M21.below hb
      have z4 := hb.size
      clear hb
      refine sd_begin (fun W => Keep (Zx C (.slice la L.length lc) (.slice of5 vs5.length cf5)) Y23 W) (by kernel_rfl) (by rw [hW]; exact Keep.refl _ _) ?_
      rw [hW]
      clear hW
      have hk8 : Keep (Zx C (.slice la L.length lc) (.slice of5 vs5.length cf5)) Y23 Y23 := Keep.refl _ _
      have hb0 := ST.b0
      have hw0 := ST.hk.size
      have hqF := ok.f
      have hZ : ∀ q, q ≠ C.qF → (C.B ≤ q → w.heap.size ≤ q ∧ ∀ k, Value.ownBlock (.slice of5 vs5.length cf5) = some k → k ≠ q) → ¬ Zx C (.slice la L.length lc) (.slice of5 vs5.length cf5) q := by
        rintro q h1 h2 (h9 | h9 | h9)
        · exact h1 h9
        · have h8 := ST.hl.lt h9
          have h7 := ST.l0 _ h9
          have h6 := h2 h8.1
          omega
        · have h8 := Fo.lt ST.hf h9
          exact (h2 h8.1).2 _ h9 rfl
      have hfk : ∀ k, Value.ownBlock (.slice of5 vs5.length cf5) = some k → k < w.heap.size ∨ m ≤ k := fun k e => (ST.fo k e).elim (fun h7 => .inl (hfv0 k h7)) .inr
      have hnE : ¬ Zx C (.slice la L.length lc) (.slice of5 vs5.length cf5) C.qE := hZ _ ok.ef (fun h8 => by have h7 := ok.e; omega)
      have hnM : ¬ Zx C (.slice la L.length lc) (.slice of5 vs5.length cf5) w.heap.size := hZ _ (by omega) (fun _ => ⟨Nat.le_refl _, fun k e h8 => by have h7 := hfk k e; omega⟩)
      have hnV : ¬ Zx C (.slice la L.length lc) (.slice of5 vs5.length cf5) (wr20.heap.size) := hZ _ (by omega) (fun _ => ⟨by omega, fun k e h8 => by have h7 := hfl5 k e; omega⟩)
      have hnX : ∀ i, i < (nextW x d).length → ¬ Zx C (.slice la L.length lc) (.slice of5 vs5.length cf5) bn := fun i hi => hZ _ (by have h8 := hbm i hi; omega) (fun _ => ⟨by have h8 := hbm i hi; omega, fun k e h8 => by have h9 := hbm i hi; have h7 := hfk k e; omega⟩)
      refine sd_take 0 rfl (by kernel_rfl) (by kernel_rfl) (by kernel_rfl) (by kernel_rfl) rfl rfl (.func (.func 38) #[] #[.pointer (some ⟨C.qW, 0, none⟩), .pointer (some ⟨C.qF, 0, none⟩), .pointer (some ⟨C.qE, 0, none⟩)]) (fun w9 h9 => ex_load1 rfl ((ST.hE.keep h9 hnE).cell 0 rfl) (by kernel_rfl) Try.underlying76 rfl) (fun _ _ _ h => h) hk8 ?_
      refine sd_take 1 rfl (by kernel_rfl) (by kernel_rfl) (by kernel_rfl) (by kernel_rfl) rfl rfl (.slice la L.length lc) (fun w9 _ => by kernel_rfl) (fun _ _ _ h => h) hk8 ?_
      refine sd_take 2 rfl (by kernel_rfl) (by kernel_rfl) (by kernel_rfl) (by kernel_rfl) rfl rfl (.agg #[.int .i64 (((nextW x d).getD j (0, false)).1), .bool ((nextW x d).getD j (0, false)).2]) (fun w9 h9 => ex_load rfl (M21.keep h9 hnV) (by kernel_rfl) Try.underlying52 rfl (by kernel_rfl)) (fun _ _ _ h => h) hk8 ?_
      refine sd_take 5 rfl (by kernel_rfl) (by kernel_rfl) (by kernel_rfl) (by kernel_rfl) rfl rfl (.agg #[.int .i64 ((d.1 : Nat) : Int), .int .i64 ((d.2 : Nat) : Int)]) (fun w9 h9 => ex_load rfl (M2.keep h9 hnM) (by kernel_rfl) Try.underlying72 rfl (by kernel_rfl)) (fun _ _ _ h => h) hk8 ?_
      refine sd_take 6 rfl (by kernel_rfl) (by kernel_rfl) (by kernel_rfl) (by kernel_rfl) rfl rfl (.agg #[.int .i64 (((nextW x d).getD j (0, false)).1), .bool ((nextW x d).getD j (0, false)).2]) (fun w9 h9 => ex_load rfl (M21.keep h9 hnV) (by kernel_rfl) Try.underlying52 rfl (by kernel_rfl)) (fun _ _ _ h => h) hk8 ?_
      have M8 := M2
      have NX8 := NX
      refine sd_all [3] (by kernel_rfl) (by decide) ?_
      refine sd_mem (i := 3) rfl (by kernel_rfl) rfl rfl (.slice (some ⟨Y23.heap.size, 0, none⟩) 1 1) (Y23.alloc (.cells #[.int .i64 (((nextW x d).getD j (0, false)).1), .bool ((nextW x d).getD j (0, false)).2] 52)) (by kernel_rfl) (hk8.below (below_alloc Y23 (.cells #[.int .i64 (((nextW x d).getD j (0, false)).1), .bool ((nextW x d).getD j (0, false)).2] 52))) ?_ AllReadyH.nil
      obtain ⟨W24, hW⟩ : ∃ W, Y23.alloc (.cells #[.int .i64 (((nextW x d).getD j (0, false)).1), .bool ((nextW x d).getD j (0, false)).2] 52) = W := ⟨_, rfl⟩
      have hb := hW ▸ below_alloc Y23 (.cells #[.int .i64 (((nextW x d).getD j (0, false)).1), .bool ((nextW x d).getD j (0, false)).2] 52)
      have hq : Cb W24 Y23.heap.size #[.int .i64 (((nextW x d).getD j (0, false)).1), .bool ((nextW x d).getD j (0, false)).2] 52 := hW ▸ Cb.made Y23 #[.int .i64 (((nextW x d).getD j (0, false)).1), .bool ((nextW x d).getD j (0, false)).2] 52
      rw [hW]
      replace ST := ST.below hb
      replace hk8 := hk8.below hb
      have z5 := hb.size
      have M25 := hq
      have yM25 := hq.lt
      clear hq hb hW
      refine sd_all [4] (by kernel_rfl) (by decide) ?_
      obtain ⟨v9, W26, h10, hg9, hli0⟩ := ap_e16 32 ST.hl (lw_cb M25) rfl (by have h8 := ST.hk.size; have h7 := ST.b0; omega) (by omega)
      have hg10 : Gw C.B W26 v9 (L ++ [((nextW x d).getD j (0, false))]) := hg9
      have hli : Lies W24 W26 (.slice la L.length lc) v9 L.length := hli0
      clear hg9 hli0
      obtain ⟨la9, lc9, rfl⟩ := Gn.form hg10
      have hk10 := hk8.trans (Lies.keep hli) (fun i _ e => .inr (.inl e))
      refine sd_mem (i := 4) rfl (by kernel_rfl) rfl rfl (.slice la9 (L ++ [((nextW x d).getD j (0, false))]).length lc9) W26 (ex_append rfl (by kernel_rfl) (by kernel_rfl) h10) hk10 ?_ AllReadyH.nil
      refine sd_all [7] (by kernel_rfl) (by decide) ?_
      have hno := next_ok hx hd (getD_mem (d := (0, false)) (show j < (nextW x d).length by omega))
      refine sd_call (i := 7) rfl (by kernel_rfl) rfl rfl (with_n d ((nextW x d).getD j (0, false)) hd.1 hd.2 hno.1 W26) (by kernel_rfl) ?_ AllReadyH.nil
      rintro e W27 ⟨rfl, hb11⟩
      have hk11 := hk10.below hb11
      refine ⟨_, rfl, hk11, ?_⟩
      refine sd_all [8] (by kernel_rfl) (by decide) ?_
      refine sd_call (i := 8) rfl (by kernel_rfl) rfl rfl (ih (L ++ [((nextW x d).getD j (0, false))]) (withP d ((nextW x d).getD j (0, false))) la9 lc9 (.slice of5 vs5.length cf5) vs5 (extJ x n L d (if (nextW x d).length = 0 ∧ 0 < L.length then f ++ [L] else f) j) W27 (by have h8 := hno.2.2; omega) hno.2.1 (by rw [List.length_append]; simp only [List.length_singleton]; omega) (by omega) (ST.enter ok hg10 hli hb11)) (by kernel_rfl) ?_ AllReadyH.nil
      rintro e W28 ⟨rfl, hep⟩
      obtain ⟨fv6, vs6, ST12, hkT⟩ := ST.leave ok (by omega) hg10 hli hb11 hep
      have hk12 := hk8.trans hkT (fun _ _ e => e)
      have hz12 := hk12.size
      refine ⟨_, rfl, hk12, ?_⟩
      refine sd_done (by kernel_rfl) ?_
      have M2 := M8.keep hk12 hnM
      have NX := NX8.keep hk12 hnX
      refine sx_in ?_
      refine sx_norm ?_
      refine wp_region_lit ?_
      refine sx_int (by kernel_rfl) rfl rfl .i64 (IntKind.i64.wrap (((j : Nat) : Int) + 1)) (((j + 1 : Nat) : Int)) (by kernel_rfl) (by rw [IntKind.wrap_i64]; omega) ?_
      refine sx_val (by kernel_rfl) rfl rfl (.int .i64 ((j + 1 : Nat) : Int)) (by kernel_rfl) ?_
      refine wpList_nil ?_
      refine sx_norm ?_
      rw [← extJ_more (by omega) (by omega)] at ST12
      exact sx_again ((nextW x d).length - (j + 1)) (j + 1) (by omega) (by kernel_rfl) ⟨by omega, Nat.le_refl _, fv6, vs6, ST12, M2, NX, by omega⟩
    refine sx_bool (by kernel_rfl) rfl rfl (decide (((j : Nat) : Int) < (((nextW x d).length : Nat) : Int))) false (by kernel_rfl) (decide_eq_false (by omega)) ?_
    refine wpList_nil ?_
    refine sx_norm ?_
    refine wp_seq ?_
    refine sx_false (by kernel_rfl) ?_
    refine wp_exit ?_
    refine sx_es ?_
    refine sx_es ?_
    refine sx_out ?_
    refine sx_fall rfl ⟨rfl, ?_⟩
    have hjn : j = (nextW x d).length := by omega
    rw [hjn] at ST
    rw [extF_succ]
    exact ST.done
  
end Go.Proofs.Ytoliacfpjhanlaa.T


