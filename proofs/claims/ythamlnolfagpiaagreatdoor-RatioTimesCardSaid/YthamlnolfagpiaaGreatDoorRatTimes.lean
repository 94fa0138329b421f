/-
  DERIVED. The walks of ratio's sumOfProducts and Times.
-/
import Derived.Test.YthamlnolfagpiaaGreatDoorRatTops
import Derived.Test.YthamlnolfagpiaaGreatDoorRefRat6
import Derived.OwnWalk
import Derived.Laws.MakeOwn
namespace Go.Proofs.YthamlnolfagpiaaGreatDoor.D
open Go.RowKit
set_option maxRecDepth 8000

theorem infoF : (Tryz.prog.info? 48).map (fun i => (i.zero, i.size, i.bytes)) = some (some (.agg #[.int .i64 0, .string ⟨#[]⟩, .int .i64 0, .string ⟨#[]⟩]), 4, 48) := by kernel_rfl
theorem infoF' : ∃ i, Tryz.prog.info? 48 = some i ∧ i.zero = some (.agg #[.int .i64 0, .string ⟨#[]⟩, .int .i64 0, .string ⟨#[]⟩]) ∧ i.size = 4 ∧ i.bytes = 48 := by
  have h := infoF
  obtain ⟨i, hi, hzz⟩ := Option.map_eq_some_iff.1 h
  simp only [Prod.mk.injEq] at hzz
  exact ⟨i, hi, hzz.1, hzz.2.1, hzz.2.2⟩
theorem owns_bk {w : World} {m g : Nat} {xs : List Value} (h : w.ownsRow 0 48 4 (.slice (some ⟨g, 0, none⟩) m m) m xs) : ∃ cs, Bk w g cs 48 ∧ cs.size = m * 4 := by
  rcases h with ⟨_, ⟨h, _⟩ | ⟨g', cap, cur, hv, _, hb, _, _, hs, _⟩⟩
  · cases h
  · simp only [Value.slice.injEq, Option.some.injEq, Addr.mk.injEq] at hv
    obtain ⟨⟨rfl, _⟩, _, rfl⟩ := hv
    exact ⟨cur, hb, hs⟩

/-- block P holds m numbers, the first k of which are ρ's -/
def Fw (w : World) (P m k : Nat) (ρ : Nat → Rat) : Prop :=
  ∃ cs : Array Value, Bk w P cs 48 ∧ cs.size = m * 4 ∧ ∀ j, j < k → ∃ (s : Int) (l : ByteArray) (s' : Int) (l' : ByteArray),
    cs[j * 4]? = some (.int .i64 s) ∧ cs[j * 4 + 1]? = some (.string l) ∧ cs[j * 4 + 2]? = some (.int .i64 s') ∧ cs[j * 4 + 3]? = some (.string l') ∧ RpF (ρ j) s l s' l'
section
variable {w w' : World} {P m k : Nat} {ρ : Nat → Rat}
theorem Fw.lt (h : Fw w P m k ρ) : P < w.heap.size := by obtain ⟨_, hb, _⟩ := h; exact hb.lt
theorem Fw.under (h : Fw w P m k ρ) (hb : Below w.heap.size w w') : Fw w' P m k ρ := by
  obtain ⟨cs, h1, h2⟩ := h
  exact ⟨cs, h1.under hb, h2⟩
theorem Fw.cell (h : Fw w P m k ρ) (q : Nat) (hq : q < m * 4) : (∃ v, w.cell? ⟨P, q, none⟩ = some v) ∧ w.frozen? ⟨P, q, none⟩ = false := by
  obtain ⟨cs, h1, h2, _⟩ := h
  exact ⟨⟨cs[q]'(by omega), h1.cell q (Array.getElem?_eq_getElem (by omega))⟩, h1.fr q⟩
theorem Fw.el (h : Fw w P m k ρ) {j : Nat} (hj : j < k) : ∃ (s : Int) (l : ByteArray) (s' : Int) (l' : ByteArray), El w P j s l s' l' ∧ RpF (ρ j) s l s' l' := by
  obtain ⟨cs, h1, _, h3⟩ := h
  obtain ⟨s, l, s', l', e1, e2, e3, e4, hr⟩ := h3 j hj
  exact ⟨s, l, s', l', ⟨h1.cell _ e1, h1.cell _ e2, h1.cell _ e3, h1.cell _ e4⟩, hr⟩
theorem Fw.step (h : Fw w P m k ρ) (hk : k < m) {s s' : Int} {l l' : ByteArray} (hr : RpF (ρ k) s l s' l') :
    Fw ((((w.setCell ⟨P, k * 4, none⟩ (.int .i64 s)).setCell ⟨P, k * 4 + 1, none⟩ (.string l)).setCell ⟨P, k * 4 + 2, none⟩ (.int .i64 s')).setCell ⟨P, k * 4 + 3, none⟩ (.string l')) P m (k + 1) ρ := by
  obtain ⟨cs, h1, h2, h3⟩ := h
  refine ⟨_, (((h1.set (k * 4) (.int .i64 s)).set (k * 4 + 1) (.string l)).set (k * 4 + 2) (.int .i64 s')).set (k * 4 + 3) (.string l'), by simp [h2], fun j hj => ?_⟩
  by_cases e : j = k
  · subst e
    refine ⟨s, l, s', l', ?_, ?_, ?_, ?_, hr⟩ <;> simp [Array.getElem?_setIfInBounds, h2] <;> omega
  · obtain ⟨a, b, c, d, e1, e2, e3, e4, hq⟩ := h3 j (by omega)
    refine ⟨a, b, c, d, ?_, ?_, ?_, ?_, hq⟩
    · rw [Array.getElem?_setIfInBounds, if_neg (by omega), Array.getElem?_setIfInBounds, if_neg (by omega), Array.getElem?_setIfInBounds, if_neg (by omega), Array.getElem?_setIfInBounds, if_neg (by omega)]; exact e1
    · rw [Array.getElem?_setIfInBounds, if_neg (by omega), Array.getElem?_setIfInBounds, if_neg (by omega), Array.getElem?_setIfInBounds, if_neg (by omega), Array.getElem?_setIfInBounds, if_neg (by omega)]; exact e2
    · rw [Array.getElem?_setIfInBounds, if_neg (by omega), Array.getElem?_setIfInBounds, if_neg (by omega), Array.getElem?_setIfInBounds, if_neg (by omega), Array.getElem?_setIfInBounds, if_neg (by omega)]; exact e3
    · rw [Array.getElem?_setIfInBounds, if_neg (by omega), Array.getElem?_setIfInBounds, if_neg (by omega), Array.getElem?_setIfInBounds, if_neg (by omega), Array.getElem?_setIfInBounds, if_neg (by omega)]; exact e4
end
theorem al1f {W w' : World} {s s' : Int} {l l' : ByteArray} (h : Below (W.alloc (.cells #[.int .i64 s, .string l, .int .i64 s', .string l'] 48)).heap.size (W.alloc (.cells #[.int .i64 s, .string l, .int .i64 s', .string l'] 48)) w') : Bf w' W.heap.size s l s' l' := (Bf.made W _ rfl s l s' l').under h
theorem term_quot (z : Int) (r : Rat) : mkRat (z * r.num) (1 * r.den) = (z : Rat) * r := by
  have := mul_quot (z : Rat) r
  rwa [Rat.num_intCast, Rat.den_intCast] at this
theorem addk (a : Addr) (k : Nat) : (a.add k).block = a.block := add_block a k

set_option maxHeartbeats 8000000 in
theorem sp_z (u : Value) (g m cap : Nat) (z : Nat → Int) (ρ : Nat → Rat) (hm : m ≤ 12) (hz : ∀ i, i < m → -9223372036854775808 ≤ z i ∧ z i ≤ 9223372036854775807) (hρ : ∀ i, i < m → Sz 100 (ρ i)) (w : World) (ht : Tab w) (hu : SlV w u m (Vi z)) (hf : Fw w g m m ρ) :
    Calls Tryz.prog 73 #[u, .slice (some ⟨g, 0, none⟩) m cap] w fun e w' => SmPost (sumR z ρ m) w e w' := by
  obtain ⟨oa, c, rfl, ha⟩ := hu
  have HA := Lib.hid ha
  have HZ := Lib.hid hz
  have HP := Lib.hid hρ
  have HSZ := Lib.hid (sz_sumR z ρ m hz hρ)
  have HF := Lib.hid hf
  have hg := hf.lt
  obtain ⟨i0, hi, hz0, hz1, hz2⟩ := infoF'
  clear ha hz hρ hf
  go_enter Tryz.func73, Tryz.ntmps73
  go_wp2_with (at_make; refine wpList_make_full _ rfl _ _ 83 rfl 0 48 i0 (.agg #[.int .i64 0, .string ⟨#[]⟩, .int .i64 0, .string ⟨#[]⟩]) 4 Tryz.underlying83 hi hz0 hz1 _ _ _ _ m rfl rfl ?e1 ?e2 ?e3 ?e4 (Nat.zero_le _) ?_)
  case e1 => omega
  case e2 => omega
  case e3 => rw [hz2]; omega
  case e4 => unfold maxLen; omega
  intro w1 hown hgrow
  have b1 : Below (w.alloc (.cells #[.int .i64 0, .string ⟨#[]⟩, .int .i64 0, .string ⟨#[]⟩] 48)).heap.size (w.alloc (.cells #[.int .i64 0, .string ⟨#[]⟩, .int .i64 0, .string ⟨#[]⟩] 48)) w1 := (Below.refl _ _).grown hgrow (Nat.le_refl _) (fun k hk => by cases hk)
  obtain ⟨cs, hbk, hcs⟩ := owns_bk hown
  have x4 := (Bf.made w _ rfl 0 ⟨#[]⟩ 0 ⟨#[]⟩).under b1
  have B1 := Below.over (w := w) (by go_grown) b1
  have FW : Fw w1 (w.heap.size + 1) m 0 (fun j => (z j : Rat) * ρ j) := ⟨cs, by simpa using hbk, hcs, fun j hj => by omega⟩
  have X4 := Lib.hid x4
  have FW := Lib.hid FW
  clear hown hgrow hbk hcs x4 b1 hi hz0 hz1 hz2
  go_wp2_with fail
  go_loopw [15] (fun i wr => ∃ k : Nat, k ≤ m ∧ i = .int .i64 k ∧ Hid (Fw wr (w.heap.size + 1) m k (fun j => (z j : Rat) * ρ j)) ∧ Hid (Bf wr w.heap.size 0 ⟨#[]⟩ 0 ⟨#[]⟩) ∧ Below w.heap.size w wr) (fun i _ => m - (intOf i).toNat)
  case atStart => exact ⟨0, Nat.zero_le _, rfl, FW, X4, B1⟩
  case round =>
    clear FW X4 B1
    obtain ⟨k, hk, rfl, FW, X4, hb⟩ := hrel
    have hbs := hb.size
    have kp := FW.out.lt
    have kr := X4.out.lt
    by_cases hlt : k < m
    · obtain ⟨a, rfl, hab, hca0⟩ := HA.out k hlt
      obtain ⟨s3, l3, s4, l4, ⟨d0, d1, d2, d3⟩, hr1, hr2⟩ := HF.out.el hlt
      have hca := (hb.cell (p := a.add k) (by rw [add_block]; exact hab)).trans hca0
      unfold Vi at hca
      have e0 := (hb.cell (p := ⟨g, k * 4, none⟩) hg).trans d0
      have e1 := (hb.cell (p := ⟨g, k * 4 + 1, none⟩) hg).trans d1
      have e2 := (hb.cell (p := ⟨g, k * 4 + 2, none⟩) hg).trans d2
      have e3 := (hb.cell (p := ⟨g, k * 4 + 3, none⟩) hg).trans d3
      have hzk := HZ.out k hlt
      have hpk := HP.out k hlt
      have hnz : nd (z k).natAbs ≤ 20 := Nat.le_trans (nd_le _ 18 (by omega)) (by omega)
      have TO := Lib.hid (fun w ht => wOf_any (z k) hzk.1 hzk.2 w ht)
      have TI := Lib.hid (fun w => integerOf_z (z k) (by omega) w)
      have q1 : nd (z k * (ρ k).num).natAbs ≤ 4096 := by have := nda_mul (x := z k) (y := (ρ k).num) rfl hnz hpk.1; omega
      have q2 : nd (1 * (ρ k).den) ≤ 4096 := by rw [Nat.one_mul]; have := hpk.2; omega
      have TM := Lib.hid (fun s5 l5 (h5 : Rp s5 l5 (z k)) w ht => ratProduct_z s5 1 s3 s4 (z k) (ρ k).num _ l5 ⟨#[]⟩ l3 l4 1 (ρ k).den _ _ (by rw [Nat.one_mul]; exact rat_den_pos _) (term_quot (z k) (ρ k)) (Lib.hid rfl) (Lib.hid (Int.natCast_mul _ _).symm) h5 one_rp hr1 hr2 w ht)
      have HZK : Hid (z k = z k) := rfl
      generalize hzz : z k = zk at hca TO TI TM q1
      clear hca0 d0 d1 d2 d3 hr1 hr2 hpk hnz hzk HZK
      have HZZ := Lib.hid hzz
      clear hzz
      have hb1 : (a.add k).block < wr.heap.size := by rw [add_block]; exact Nat.lt_of_lt_of_le hab hbs
      go_upto_region 5 with fail
      go_cut [8, 9] (fun t8 t9 wx => ∃ (A : Nat) (s8 : Int) (l8 : ByteArray) (s9 : Int) (l9 : ByteArray), t8 = .pointer (some ⟨A, 0, none⟩) ∧ t9 = .int .i64 0 ∧ Hid (RpF ((zk : Rat) * ρ k) s8 l8 s9 l9) ∧ Hid (Bf wx A s8 l8 s9 l9) ∧ Below wr.heap.size wr wx)
      case first =>
        go_region_held3 (fun w' => w'.cell? (a.add k) = some (.int .i64 zk) ∧ w'.cell? ⟨g, k * 4, none⟩ = some (.int .i64 s3) ∧ w'.cell? ⟨g, k * 4 + 1, none⟩ = some (.string l3) ∧ w'.cell? ⟨g, k * 4 + 2, none⟩ = some (.int .i64 s4) ∧ w'.cell? ⟨g, k * 4 + 3, none⟩ = some (.string l4))
          (first
            | (go_split_ands
               refine ⟨?_, ?_, ?_, ?_, ?_⟩ <;> first
                 | with_reducible assumption
                 | ((with_reducible refine Below.keepc b8 ?_); (with_reducible assumption))
                 | ((with_reducible refine Below.keepc b7 ?_); (with_reducible assumption))
                 | ((with_reducible refine Below.keepc b6 ?_); (with_reducible assumption))
                 | ((with_reducible refine Below.keepc b5 ?_); (with_reducible assumption))
                 | ((repeat' (first
                     | with_reducible assumption
                     | (with_reducible refine cell_dr ?_)
                     | (with_reducible refine cell_al ?_)
                     | (with_reducible refine cell_far ?_ ?_)
                     | (dsimp only; omega))); done))
            | go_keep)
          (first
            | (go_at_call 71; (with_reducible refine (TO.out _ ?_).mono ?_); (exact ht.over (by go_grown)); rintro e w5 ⟨rfl, b5⟩
               have B5 := Below.over (w := w) (by go_grown) b5
               have C5 : Below wr.heap.size wr w5 := Below.over (w := wr) (by go_grown) b5
               have k5 := C5.size
               try (with_reducible have pp := al1f (Below.undrew b5)))
            | (go_at_call 69; (with_reducible refine (TI.out _).mono ?_); rintro e w6 ⟨s6, l6, rfl, h6, b6⟩
               have B6 := Below.over (w := w) (by go_grown) b6
               have C6 : Below wr.heap.size wr w6 := Below.over (w := wr) (by go_grown) b6
               have k6 : w5.heap.size ≤ w6.heap.size := (by have := b6.size; (try simp at this); omega)
               try (first | (with_reducible have pp := pp.under b6) | (with_reducible have pp := al1f b6)))
            | (go_at_call 75; (with_reducible refine (fromInteger_z s6 l6 _).mono ?_); rintro e w7 ⟨rfl, b7⟩
               have B7 := Below.over (w := w) (by go_grown) b7
               have C7 : Below wr.heap.size wr w7 := Below.over (w := wr) (by go_grown) b7
               have k7 : w6.heap.size ≤ w7.heap.size := (by have := b7.size; (try simp at this); omega)
               try (first | (with_reducible have pp := pp.under b7) | (with_reducible have pp := al1f b7)))
            | (go_at_call 63; (with_reducible refine (TM.out s6 l6 h6 _ ?_).mono ?_); (exact ht.over (by go_grown)); rintro e w8 hp
               obtain ⟨s8, l8, s9, l9, rfl, j1, j2, b8⟩ := pr_fit q1 q2 hp
               have B8 := Below.over (w := w) (by go_grown) b8
               have C8 : Below wr.heap.size wr w8 := Below.over (w := wr) (by go_grown) b8
               have k8 : w7.heap.size ≤ w8.heap.size := (by have := b8.size; (try simp at this); omega)
               have n0 := Below.keepc C8 hca
               have n1 := Below.keepc C8 e0
               have n2 := Below.keepc C8 e1
               have n3 := Below.keepc C8 e2
               have n4 := Below.keepc C8 e3
               try (first | (with_reducible have pp := pp.under b8) | (with_reducible have pp := al1f b8))
               try (have kpp := pp.lt)
               try (obtain ⟨a1, a2, a3, a4, a5, a6, a7, a8⟩ := pp.cells)))
        all_goals
          clear TO TI TM HA HZ HP HSZ HF FW X4
          go_wp2_with fail
          go_meet
          refine ⟨_, s8, l8, s9, l9, rfl, rfl, Lib.hid ⟨j1, j2⟩, Lib.hid ?_, (by go_grown)⟩
          (repeat' (first
            | (with_reducible assumption)
            | (with_reducible refine Bf.put (s := 0) (l := ⟨#[]⟩) (s' := 0) (l' := ⟨#[]⟩) ?_ _ _ _ _)
            | ((with_reducible refine Bf.made _ _ ?_ _ _ _ _); (first | rfl | omega | (simp <;> omega)))
            | (with_reducible refine Bf.alloc ?_ _)
            | (with_reducible refine Bf.far ?_ ?_ _)
            | (dsimp only; omega)))
      case rest =>
        obtain ⟨A, s8, l8, s9, l9, rfl, rfl, hj, HB, bx⟩ := hcut
        clear TO TI TM e0 e1 e2 e3 hca
        have Bx := Below.over hb bx
        have fw := FW.out.under bx
        have x4 := X4.out.under bx
        obtain ⟨a1, a2, a3, a4, _⟩ := HB.out.cells
        obtain ⟨⟨v0, hv0⟩, g0⟩ := fw.cell (k * 4) (by omega)
        obtain ⟨⟨v1, hv1⟩, g1⟩ := fw.cell (k * 4 + 1) (by omega)
        obtain ⟨⟨v2, hv2⟩, g2⟩ := fw.cell (k * 4 + 2) (by omega)
        obtain ⟨⟨v3, hv3⟩, g3⟩ := fw.cell (k * 4 + 3) (by omega)
        have hj2 : RpF ((z k : Rat) * ρ k) s8 l8 s9 l9 := by rw [HZZ.out]; exact hj.out
        have HJ := Lib.hid hj2
        have FWx := Lib.hid fw
        have X4x := Lib.hid x4
        clear fw x4 HB hj2 FW X4
        go_wp2_with fail
        go_round
        case rel => exact ⟨k + 1, by omega, by go_num, Lib.hid (FWx.out.step hlt HJ.out), Lib.hid ((((X4x.out.far (by dsimp only; omega) _).far (by dsimp only; omega) _).far (by dsimp only; omega) _).far (by dsimp only; omega) _), by go_grown⟩
        case measure => simp [intOf]; omega
    · have hk' : k = m := by omega
      subst hk'
      have hex : ∀ j, ∃ (q : Int × ByteArray × Int × ByteArray), j < k → El wr (w.heap.size + 1) j q.1 q.2.1 q.2.2.1 q.2.2.2 ∧ RpF ((z j : Rat) * ρ j) q.1 q.2.1 q.2.2.1 q.2.2.2 := by
        intro j
        by_cases hj : j < k
        · obtain ⟨s, l, s', l', h1, h2⟩ := FW.out.el hj
          exact ⟨(s, l, s', l'), fun _ => ⟨h1, h2⟩⟩
        · exact ⟨(0, ⟨#[]⟩, 0, ⟨#[]⟩), fun h => absurd h hj⟩
      obtain ⟨q, hq⟩ : ∃ q : Nat → Int × ByteArray × Int × ByteArray, ∀ j, j < k → El wr (w.heap.size + 1) j (q j).1 (q j).2.1 (q j).2.2.1 (q j).2.2.2 ∧ RpF ((z j : Rat) * ρ j) (q j).1 (q j).2.1 (q j).2.2.1 (q j).2.2.2 := ⟨fun j => Classical.choose (hex j), fun j => Classical.choose_spec (hex j)⟩
      have HQ := Lib.hid hq
      clear hex hq
      have HFIT : Hid (∀ j, j < k → Fit (sumR z ρ j) ((z j : Rat) * ρ j)) := fun j hj => fit_of (sz_mono (HSZ.out j (by omega)) (by omega)) (sz_mono (sz_term (HZ.out j hj) (HP.out j hj)).2 (by omega))
      have TS := Lib.hid (fun cap w' ht (hE : ∀ j, j < k → El w' (w.heap.size + 1) j (q j).1 (q j).2.1 (q j).2.2.1 (q j).2.2.2) hg => ratSum_z (sumR z ρ) (fun j => (z j : Rat) * ρ j) k (w.heap.size + 1) cap (fun j => (q j).1) (fun j => (q j).2.2.1) (fun j => (q j).2.1) (fun j => (q j).2.2.2) 0 1 ⟨#[]⟩ ⟨#[]⟩ (Rp.short (by decide) (by decide)) (Rp.short (by decide) (by decide)) (fun j _ => rfl) HFIT.out (fun j hj => (HQ.out j hj).2) w' ht hE hg (by omega))
      clear HFIT
      go_wp2_with fail
      refine (fromInteger_z 0 ⟨#[]⟩ _).mono ?_
      rintro e w2 ⟨rfl, b2⟩
      have B2 := Below.over hb b2
      have x4 := X4.out.under b2
      have fw := FW.out.under b2
      have hE : ∀ j, j < k → El w2 (w.heap.size + 1) j (q j).1 (q j).2.1 (q j).2.2.1 (q j).2.2.2 := fun j hj => by
        obtain ⟨⟨h1, h2, h3, h4⟩, _⟩ := HQ.out j hj
        exact ⟨Below.keepc b2 h1, Below.keepc b2 h2, Below.keepc b2 h3, Below.keepc b2 h4⟩
      have HE := Lib.hid hE
      have kf := fw.lt
      clear hE fw
      go_wp2_with fail
      refine (TS.out _ _ (ht.over B2) HE.out kf).mono ?_
      rintro e w3 ⟨t1, k1, t2, k2, rfl, hj, b3⟩
      have HJ := Lib.hid hj
      have B3 := Below.over B2 b3
      replace x4 := x4.under b3
      obtain ⟨a1, a2, a3, a4, a5, a6, a7, a8⟩ := x4.cells
      have k3 := B3.size
      clear hj HE TS HQ
      go_wp2_with fail
      have hF := x4.put t1 k1 t2 k2
      obtain ⟨y0, y1, y2, y3⟩ := hF.all
      refine bodyPost_ret (v := .tuple #[.agg #[.int .i64 t1, .string k1, .int .i64 t2, .string k2], .int .i64 0]) (by simp [results, Tryz.results73, go_sem, y0, y1, y2, y3]) rfl ⟨_, _, _, _, rfl, HJ.out, by go_grown⟩

end Go.Proofs.YthamlnolfagpiaaGreatDoor.D

