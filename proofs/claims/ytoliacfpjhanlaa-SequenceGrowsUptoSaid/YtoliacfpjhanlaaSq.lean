/-
  DERIVED. Sq: a part of the base of layer 13 (made by pack.py).
-/
import Derived.Test.YtoliacfpjhanlaaHT
import Derived.Test.YtoliacfpjhanlaaSp
/-! The state of the search for sequences. -/
namespace Go.Proofs.Ytoliacfpjhanlaa.T
open Go.RowKit
set_option maxRecDepth 8000

theorem ElR.below {w w' : World} {u : Value} {L : List (Int × Bool)} (h : ElR w u L) (k : Below w.heap.size w w') : ElR w' u L := by
  obtain ⟨b, c, hu, hr, hb⟩ := h
  exact ⟨b, c, hu, hr.below k, Nat.lt_of_lt_of_le hb k.size⟩
theorem ElR.one {w : World} {u : Value} {L : List (Int × Bool)} (h : ElR w u L) : u.oneCell' = true := by
  obtain ⟨b, c, rfl, -⟩ := h
  rfl
theorem Fo.form {B : Nat} {w : World} {fv : Value} {vs : List Value} (h : Fo B w fv vs) : ∃ oa c, fv = .slice oa vs.length c := by
  rcases h.2 with ⟨hv, h0⟩ | ⟨g, cap, cur, rfl, -⟩
  · exact ⟨none, 0, by rw [hv, h0]⟩
  · exact ⟨_, _, rfl⟩
theorem Fo.lt {B : Nat} {w : World} {fv : Value} {vs : List Value} (h : Fo B w fv vs) {k : Nat} (hk : fv.ownBlock = some k) : B ≤ k ∧ k < w.heap.size := World.ownsRow.lt h k hk
theorem Gw.lt {B : Nat} {w : World} {v : Value} {l : List (Int × Bool)} (h : Gw B w v l) {k : Nat} (hk : v.ownBlock = some k) : B ≤ k ∧ k < w.heap.size := World.ownsRow.lt h k hk
/-- where the search's own things lie -/
structure Sc where
  B : Nat
  qW : Nat
  qF : Nat
  qE : Nat
  oA : Option Addr
  cA : Nat
  bA : Nat
  pA : Nat
structure Sc.Ok (C : Sc) (x : WaT) : Prop where
  w : C.qW < C.B
  f : C.qF < C.B
  e : C.qE < C.B
  wf : C.qW ≠ C.qF
  ef : C.qE ≠ C.qF
  a : ∀ k, k < x.A.length → C.bA < C.B ∧ C.bA ≠ C.qF
def Sc.ext (C : Sc) : Value := .func (.func 38) #[] #[.pointer (some ⟨C.qW, 0, none⟩), .pointer (some ⟨C.qF, 0, none⟩), .pointer (some ⟨C.qE, 0, none⟩)]
/-- what a call of the search may write -/
def Zx (C : Sc) (lv fv : Value) (k : Nat) : Prop := k = C.qF ∨ lv.ownBlock = some k ∨ fv.ownBlock = some k
/-- the state within a call that began in w0 with the sequence L at lv, the found ones at fv0 (vs0); the box holds fc; the found ones are at fv -/
structure St (C : Sc) (x : WaT) (w0 : World) (lv : Value) (L : List (Int × Bool)) (fv0 : Value) (vs0 : List Value) (m : Nat) (fc fv : Value) (vs : List Value) (f : List (List (Int × Bool))) (W : World) : Prop where
  hW : Cb W C.qW #[.int .i64 (x.W : Nat), .int .i64 (x.P : Nat), .int .i64 (x.D : Nat), .slice C.oA x.A.length C.cA] 74
  hA : Rw W C.bA C.pA 1 (nF x.A) x.A.length C.oA
  hE : Cb W C.qE #[C.ext] 76
  hF : Cb W C.qF #[fc] 40
  hl : Gw C.B W lv L
  hf : Fo C.B W fv vs
  el : El W vs f
  hk : Keep (Zx C lv fv0) w0 W
  fo : ∀ k, fv.ownBlock = some k → fv0.ownBlock = some k ∨ m ≤ k
  ne : ∀ u ∈ vs, ∀ b, u.ownBlock = some b → C.B ≤ b ∧ fv.ownBlock ≠ some b ∧ lv.ownBlock ≠ some b
  ds : ∀ k, lv.ownBlock = some k → fv.ownBlock ≠ some k
  nw : ∃ more, vs = vs0 ++ more ∧ ∀ u ∈ more, ∀ b, u.ownBlock = some b → w0.heap.size ≤ b
  b0 : C.B ≤ w0.heap.size
  m0 : w0.heap.size ≤ m
  l0 : ∀ k, lv.ownBlock = some k → k < w0.heap.size
section
variable {C : Sc} {x : WaT} {w0 W W' : World} {lv fv0 fc fv : Value} {L : List (Int × Bool)} {vs0 vs : List Value} {m : Nat} {f : List (List (Int × Bool))}
theorem St.below (h : St C x w0 lv L fv0 vs0 m fc fv vs f W) (k : Below W.heap.size W W') : St C x w0 lv L fv0 vs0 m fc fv vs f W' :=
  ⟨h.hW.below k, h.hA.below k, h.hE.below k, h.hF.below k, h.hl.frame k, own_below h.hf k, h.el.below k, h.hk.below k, h.fo, h.ne, h.ds, h.nw, h.b0, h.m0, h.l0⟩
theorem St.mark {fc : Value} (h : St C x w0 lv L fv0 vs0 m fc fv0 vs f W) (m' : Nat) (hm : w0.heap.size ≤ m') : St C x w0 lv L fv0 vs0 m' fc fv0 vs f W :=
  ⟨h.hW, h.hA, h.hE, h.hF, h.hl, h.hf, h.el, h.hk, fun _ hk => .inl hk, h.ne, h.ds, h.nw, h.b0, hm, h.l0⟩
theorem St.store (ok : C.Ok x) (h : St C x w0 lv L fv0 vs0 m fc fv vs f W) : St C x w0 lv L fv0 vs0 m fv fv vs f (W.setCell ⟨C.qF, 0, none⟩ fv) := by
  have hg := grown_set W C.qF 0 fv
  have hs := hg.size
  have hB : ∀ b, C.B ≤ b → some C.qF ≠ some b := fun b hb e => by simp only [Option.some.injEq] at e; have := ok.f; omega
  refine ⟨h.hW.kept hg ok.wf, h.hA.kept hg (fun k hk => (ok.a k hk).2), h.hE.kept hg ok.ef, ?_, ?_, ?_, ?_, h.hk.grown hg (fun i _ e => .inl (by simpa using e.symm)), h.fo, h.ne, h.ds, h.nw, h.b0, h.m0, h.l0⟩
  · exact h.hF.set 0 fv
  · exact World.ownsRow.kept h.hl hg (.inr fun e => by
      have h9 := h.hl.lt (k := C.qF) e
      have := ok.f; omega)
  · exact World.ownsRow.kept h.hf hg (.inr fun e => by
      have h9 := Fo.lt h.hf (k := C.qF) e
      have := ok.f; omega)
  · refine ⟨h.el.len, fun i hi => ?_⟩
    obtain ⟨b, c, hu, hr, hb⟩ := h.el.at_ i hi
    refine ⟨b, c, hu, hr.kept hg (fun k _ => ?_), Nat.lt_of_lt_of_le hb hs⟩
    have h9 := (h.ne _ (getD_mem (d := undef) (by rw [h.el.len]; exact hi)) b (by rw [hu]; rfl)).1
    have := ok.f
    omega
/-- a sequence more is found -/
theorem St.app (ok : C.Ok x) (h : St C x w0 lv L fv0 vs0 m fc fv vs f W) {u v' : Value} {M : List (Int × Bool)} (hm : m ≤ W.heap.size) (hu : ElR W u M) (hub : ∀ b, u.ownBlock = some b → w0.heap.size ≤ b ∧ fv.ownBlock ≠ some b)
    (hf : Fo C.B W' v' (vs ++ [u])) (hg : W.grownBy W' fv.ownBlock) (ho : v'.ownBlock = fv.ownBlock ∨ v'.ownBlock = some W.heap.size) : St C x w0 lv L fv0 vs0 m fc v' (vs ++ [u]) (f ++ [M]) W' := by
  have hB : ∀ q, q < C.B → fv.ownBlock ≠ some q := fun q hq e => by have := Fo.lt h.hf e; omega
  have hw0 := h.hk.size
  have hlv : ∀ b, lv.ownBlock = some b → b < W.heap.size := fun b hb => (h.hl.lt hb).2
  have hl0 : ∀ b, lv.ownBlock = some b → b < W.heap.size := hlv
  have hul : ∀ b, u.ownBlock = some b → b < W.heap.size := fun b hb => by
    obtain ⟨b', c, rfl, -, hlt⟩ := hu
    simp only [Value.ownBlock, Option.some.injEq] at hb
    omega
  refine ⟨h.hW.grownO hg (hB _ ok.w), h.hA.grownO hg (fun i hi => hB _ (ok.a i hi).1), h.hE.grownO hg (hB _ ok.e), h.hF.grownO hg (hB _ ok.f), ?_, hf, ?_, ?_, ?_, ?_, ?_, ?_, h.b0, h.m0, h.l0⟩
  · exact World.ownsRow.kept h.hl hg (by
      cases e : lv.ownBlock with
      | none => exact .inl rfl
      | some b => exact .inr fun e2 => h.ds b e e2.symm)
  · refine El.more ⟨h.el.len, fun i hi => ?_⟩ ?_
    · obtain ⟨b, c, hu', hr, hb⟩ := h.el.at_ i hi
      have h9 := (h.ne _ (getD_mem (d := undef) (by rw [h.el.len]; exact hi)) b (by rw [hu']; rfl)).2.1
      exact ⟨b, c, hu', hr.grownO hg (fun _ _ => h9), Nat.lt_of_lt_of_le hb hg.size⟩
    · obtain ⟨b, c, hu', hr, hb⟩ := hu
      have h9 := (hub b (by rw [hu']; rfl)).2
      exact ⟨b, c, hu', hr.grownO hg (fun _ _ => h9), Nat.lt_of_lt_of_le hb hg.size⟩
  · refine h.hk.grown hg (fun i hi e => ?_)
    rcases h.fo i e with h9 | h9
    · exact .inr (.inr h9)
    · have := h.m0; omega
  · intro k hk
    rcases ho with ho | ho
    · exact h.fo k (ho ▸ hk)
    · rw [ho] at hk
      simp only [Option.some.injEq] at hk
      exact .inr (by omega)
  · intro u' hu' b hb
    rcases List.mem_append.1 hu' with hu' | hu'
    · obtain ⟨h1, h2, h3⟩ := h.ne u' hu' b hb
      refine ⟨h1, ?_, h3⟩
      rcases ho with ho | ho
      · rw [ho]; exact h2
      · rw [ho]
        have := h.el.lt hu' hb
        intro e
        simp only [Option.some.injEq] at e
        omega
    · rw [List.mem_singleton] at hu'
      subst hu'
      obtain ⟨h1, h2⟩ := hub b hb
      have h3 := hul b hb
      have h4 := h.b0
      refine ⟨by omega, ?_, ?_⟩
      · rcases ho with ho | ho
        · rw [ho]; exact h2
        · rw [ho]; intro e; simp only [Option.some.injEq] at e; omega
      · intro e; have := h.l0 b e; omega
  · intro k hk e
    rcases ho with ho | ho
    · rw [ho] at e; exact h.ds k hk e
    · rw [ho] at e
      simp only [Option.some.injEq] at e
      have := hlv k hk
      omega
  · obtain ⟨more, rfl, hmo⟩ := h.nw
    refine ⟨more ++ [u], by rw [List.append_assoc], fun u' hu' b hb => ?_⟩
    rcases List.mem_append.1 hu' with hu' | hu'
    · exact hmo u' hu' b hb
    · rw [List.mem_singleton] at hu'
      subst hu'
      exact (hub b hb).1
/-- what a call of the search leaves behind -/
structure Ep (C : Sc) (w0 : World) (lv : Value) (L : List (Int × Bool)) (fv0 : Value) (vs0 : List Value) (f : List (List (Int × Bool))) (w' : World) : Prop where
  ex : ∃ fv vs, Cb w' C.qF #[fv] 40 ∧ Fo C.B w' fv vs ∧ El w' vs f ∧ (∀ k, fv.ownBlock = some k → fv0.ownBlock = some k ∨ w0.heap.size ≤ k) ∧ (∃ more, vs = vs0 ++ more ∧ ∀ u ∈ more, ∀ b, u.ownBlock = some b → w0.heap.size ≤ b) ∧ (∀ u ∈ vs, ∀ b, u.ownBlock = some b → C.B ≤ b ∧ fv.ownBlock ≠ some b)
  hl : Gw C.B w' lv L
  hk : Keep (Zx C lv fv0) w0 w'
theorem St.done {fv : Value} (h : St C x w0 lv L fv0 vs0 m fv fv vs f W) : Ep C w0 lv L fv0 vs0 f W :=
  ⟨⟨fv, vs, h.hF, h.hf, h.el, fun k hk => (h.fo k hk).imp id (fun h9 => Nat.le_trans h.m0 h9), h.nw, fun u hu b hb => ⟨(h.ne u hu b hb).1, (h.ne u hu b hb).2.1⟩⟩, h.hl, h.hk⟩
/-- how a visit more lies: in the same block, or in a new one -/
def Lies (W W' : World) (lv v' : Value) (n : Nat) : Prop :=
  (v'.ownBlock = some W.heap.size ∧ Below W.heap.size W W') ∨ (∃ g cap, lv = .slice (some ⟨g, 0, none⟩) n cap ∧ v' = .slice (some ⟨g, 0, none⟩) (n + 1) cap ∧ W.grownBy W' (some g))
theorem Lies.keep {v' : Value} {n : Nat} (h : Lies W W' lv v' n) : Keep (fun k => lv.ownBlock = some k) W W' := by
  rcases h with ⟨-, hb⟩ | ⟨g, cap, rfl, -, hg⟩
  · exact ⟨hb.os, hb.tape, hb.output, hb.size, fun k hk _ => hb.block k hk⟩
  · exact ⟨hg.os, hg.tape, hg.output, hg.size, fun k hk hn => hg.block k hk (fun e => hn e.symm)⟩
theorem Lies.own {v' : Value} {n : Nat} (h : Lies W W' lv v' n) : v'.ownBlock = some W.heap.size ∨ v'.ownBlock = lv.ownBlock := by
  rcases h with ⟨h, -⟩ | ⟨g, cap, rfl, rfl, -⟩
  · exact .inl h
  · exact .inr rfl
/-- the state from which the search is called for one visit more -/
theorem St.enter (ok : C.Ok x) {fv v' : Value} {W2 : World} {M : List (Int × Bool)} (h : St C x w0 lv L fv0 vs0 m fv fv vs f W) (hv : Gw C.B W' v' M) (hlies : Lies W W' lv v' L.length) (hb : Below W'.heap.size W' W2) :
    St C x W2 v' M fv vs W2.heap.size fv fv vs f W2 := by
  have hk := hlies.keep
  have hB : ∀ q, q < C.B → ¬ (lv.ownBlock = some q) := fun q hq e => by have := h.hl.lt e; omega
  have hs := hk.size
  have hs2 := hb.size
  have hw0 := h.hk.size
  have hb0 := h.b0
  have hown := hlies.own
  have hv2 : ∀ b, v'.ownBlock = some b → b = W.heap.size ∨ lv.ownBlock = some b := fun b hb => by
    rcases hown with e | e
    · rw [e] at hb; simp only [Option.some.injEq] at hb; exact .inl hb.symm
    · exact .inr (e ▸ hb)
  refine ⟨(h.hW.keep hk (hB _ ok.w)).below hb, (h.hA.keep hk (fun i hi => hB _ (ok.a i hi).1)).below hb, (h.hE.keep hk (hB _ ok.e)).below hb, (h.hF.keep hk (hB _ ok.f)).below hb, hv.frame hb, own_below (own_keep h.hf hk (fun i hi e => h.ds i e hi)) hb, (h.el.keep hk (fun u hu b hb e => (h.ne u hu b hb).2.2 e)).below hb, Keep.refl _ _, fun _ hk => .inl hk, ?_, ?_, ⟨[], by simp, fun u hu => by cases hu⟩, by omega, Nat.le_refl _, ?_⟩
  · intro u hu b hb
    obtain ⟨h1, h2, h3⟩ := h.ne u hu b hb
    refine ⟨h1, h2, fun e => ?_⟩
    rcases hv2 b e with h9 | h9
    · have := h.el.lt hu hb; omega
    · exact h3 h9
  · intro k hk e
    rcases hv2 k hk with h9 | h9
    · have := Fo.lt h.hf e; omega
    · exact h.ds k h9 e
  · intro k hk
    have := (hv.lt hk).2
    omega
/-- behind the call -/
theorem St.leave (ok : C.Ok x) {fv v' : Value} {v : Int × Bool} {W2 W3 : World} {f' : List (List (Int × Bool))} (h : St C x w0 lv L fv0 vs0 m fv fv vs f W) (hmW : m ≤ W.heap.size) (hv : Gw C.B W' v' (L ++ [v])) (hlies : Lies W W' lv v' L.length) (hb : Below W'.heap.size W' W2) (he : Ep C W2 v' (L ++ [v]) fv vs f' W3) :
    ∃ fv3 vs3, St C x w0 lv L fv0 vs0 m fv3 fv3 vs3 f' W3 ∧ Keep (Zx C lv fv) W W3 := by
  obtain ⟨fv3, vs3, hF, hf, hel, hfo, ⟨more, hmo, hmb⟩, hne⟩ := he.ex
  have hk := hlies.keep
  have hs := hk.size
  have hs2 := hb.size
  have hw0 := h.hk.size
  have hm0 := h.m0
  have hB : ∀ q, q < C.B → ¬ (lv.ownBlock = some q) := fun q hq e => by have := h.hl.lt e; omega
  have hfB : ∀ q, q < C.B → ¬ (fv.ownBlock = some q) := fun q hq e => by have := Fo.lt h.hf e; omega
  have hown := hlies.own
  have hv2 : ∀ b, v'.ownBlock = some b → b = W.heap.size ∨ lv.ownBlock = some b := fun b hb => by
    rcases hown with e | e
    · rw [e] at hb; simp only [Option.some.injEq] at hb; exact .inl hb.symm
    · exact .inr (e ▸ hb)
  have hkT : Keep (Zx C lv fv) W W3 := (Keep.trans (Z := Zx C lv fv) (Keep.trans (Z := Zx C lv fv) (Keep.refl _ W) hk (fun i _ e => .inr (.inl e))) ⟨hb.os, hb.tape, hb.output, hb.size, fun i hi (_ : ¬ False) => hb.block i hi⟩ (fun i _ e => e.elim)).trans he.hk (fun i hi e => by
    rcases e with e | e | e
    · exact .inl e
    · rcases hv2 i e with h9 | h9
      · omega
      · exact .inr (.inl h9)
    · exact .inr (.inr e))
  have hZ : ∀ q, q < C.B → q ≠ C.qF → ¬ Zx C lv fv q := fun q hq hne e => by
    rcases e with e | e | e
    · exact hne e
    · exact hB q hq e
    · exact hfB q hq e
  have hW3 := hkT.size
  refine ⟨fv3, vs3, ⟨h.hW.keep hkT (hZ _ ok.w ok.wf), h.hA.keep hkT (fun i hi => hZ _ (ok.a i hi).1 (ok.a i hi).2), h.hE.keep hkT (hZ _ ok.e ok.ef), hF, ?_, hf, hel, h.hk.trans hkT (fun i hi e => ?_), ?_, ?_, ?_, ?_, h.b0, h.m0, h.l0⟩, hkT⟩
  · -- the sequence itself
    rcases hlies with ⟨hnew, hbl⟩ | ⟨g, cap, rfl, rfl, hg⟩
    · refine own_keep (own_below (own_keep h.hl (Z := fun _ => False) ⟨hbl.os, hbl.tape, hbl.output, hbl.size, fun i hi _ => hbl.block i hi⟩ (fun _ _ => id)) hb) he.hk (fun i hi e => ?_)
      have h9 := (h.hl.lt hi).2
      rcases e with e | e | e
      · have := (h.hl.lt hi).1; have := ok.f; omega
      · rw [hnew] at e; simp only [Option.some.injEq] at e; omega
      · exact h.ds i hi e
    · have h9 := he.hl
      exact Gw.back h9
  · rcases e with e | e | e
    · exact .inl e
    · exact .inr (.inl e)
    · rcases h.fo i e with h9 | h9
      · exact .inr (.inr h9)
      · omega
  · intro k hk3
    rcases hfo k hk3 with h9 | h9
    · exact h.fo k h9
    · exact .inr (by omega)
  · intro u hu b hb3
    obtain ⟨h1, h2⟩ := hne u hu b hb3
    refine ⟨h1, h2, fun e => ?_⟩
    rw [hmo] at hu
    rcases List.mem_append.1 hu with hu | hu
    · exact (h.ne u hu b hb3).2.2 e
    · have := hmb u hu b hb3
      have := h.l0 b e
      omega
  · intro k hk3 e
    rcases hfo k e with h9 | h9
    · exact h.ds k hk3 h9
    · have := h.l0 k hk3; omega
  · obtain ⟨mo, hmo0, hmb0⟩ := h.nw
    refine ⟨mo ++ more, by rw [hmo, hmo0, List.append_assoc], fun u hu b hb3 => ?_⟩
    rcases List.mem_append.1 hu with hu | hu
    · exact hmb0 u hu b hb3
    · have := hmb u hu b hb3; omega
end
end Go.Proofs.Ytoliacfpjhanlaa.T


