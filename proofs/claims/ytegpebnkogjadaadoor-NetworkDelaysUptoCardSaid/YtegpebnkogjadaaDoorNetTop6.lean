/-
  DERIVED. The walk of network's Earliest.
-/
import Derived.Test.YtegpebnkogjadaaDoorNetTop5
import Derived.Test.YtegpebnkogjadaaDoorNetRep
namespace Go.Proofs.YtegpebnkogjadaaDoor.T
open Go.RowKit
set_option maxRecDepth 20000

/-- block g is just the bools lf -/
def Bw (w : World) (g : Nat) (lf : List Bool) : Prop := w.heap[g]? = some (.cells (lf.map Value.bool).toArray 4 (0, 0))
section
variable {w w' : World} {g : Nat} {lf : List Bool}
theorem Bw.lt (h : Bw w g lf) : g < w.heap.size := (Array.getElem?_eq_some_iff.1 h).1
theorem Bw.cell (h : Bw w g lf) {k : Nat} (hk : k < lf.length) : w.cell? ⟨g, k, none⟩ = some (.bool (lf.getD k false)) := by
  unfold Bw at h
  simp only [World.cell?, h]
  rw [List.getD_eq_getElem?_getD, List.getElem?_eq_getElem hk]
  simp [hk]
theorem Bw.frozen (h : Bw w g lf) (k : Nat) : w.frozen? ⟨g, k, none⟩ = false := by unfold Bw at h; simp [World.frozen?, h]
theorem Bw.store (h : Bw w g lf) (k : Nat) (b : Bool) : Bw (w.setCell ⟨g, k, none⟩ (.bool b)) g (lf.set k b) := by
  unfold Bw at *
  simp [World.setCell, Array.getElem?_modify, h, List.map_set]
theorem Bw.below (h : Bw w g lf) (hb : Below w.heap.size w w') : Bw w' g lf := (hb.block g h.lt).trans h
theorem Bw.far (h : Bw w g lf) {n : Nat} (hne : g ≠ n) (k : Nat) (y : Value) : Bw (w.setCell ⟨n, k, none⟩ y) g lf := (Below.heap_setCell w ⟨n, k, none⟩ y g hne).trans h
theorem Bw.made (w : World) (lf : List Bool) : Bw (w.alloc (.cells (lf.map Value.bool).toArray 4)) w.heap.size lf := by
  show (w.heap.push _)[w.heap.size]? = _
  simp
theorem Bw.lb (h : Bw w g lf) {n : Nat} (hn : lf.length = n) (c : Nat) : Lb w (.slice (some ⟨g, 0, none⟩) n c) lf := by
  subst hn
  exact ⟨_, c, rfl, fun i hi => ⟨_, rfl, h.lt, by rw [L.add_zero_off]; exact h.cell hi⟩⟩
theorem wm_bw {b n : Nat} {gg : WayF} (h : Wm w b n gg) (h' : Bw w g lf) : b ≠ g := by
  rintro rfl
  obtain ⟨D, ⟨es, clock, h1, _⟩, _⟩ := h
  unfold Bw at h'
  rw [h1] at h'
  cases h'
theorem wm_rw {b n B c : Nat} {l : List Int} {gg : WayF} (h : Wm w b n gg) (h' : L.Rw B w g c l) : b ≠ g := by
  rintro rfl
  obtain ⟨D, ⟨es, clock, h1, _⟩, _⟩ := h
  rcases h'.2 with ⟨h2, _⟩ | ⟨g', cap', cur, h2, _, h3, _⟩
  · cases h2
  · simp only [Value.slice.injEq, Option.some.injEq, Addr.mk.injEq] at h2
    obtain ⟨⟨rfl, -⟩, -, -⟩ := h2
    rw [h1] at h3
    cases h3
theorem bw_rw {B c : Nat} {l : List Int} (h : Bw w g lf) {k : Nat} (h' : L.Rw B w k c l) : g ≠ k := by
  rintro rfl
  rcases h'.2 with ⟨h2, _⟩ | ⟨g', cap', cur, h2, _, h3, _⟩
  · cases h2
  · simp only [Value.slice.injEq, Option.some.injEq, Addr.mk.injEq] at h2
    obtain ⟨⟨rfl, -⟩, -, -⟩ := h2
    unfold Bw at h
    rw [h] at h3
    injection h3 with h3
    injection h3 with _ h3
    exact absurd h3 (by decide)
theorem Wm.far {b n : Nat} {gg : WayF} (h : Wm w b n gg) {m : Nat} (hne : b ≠ m) (k : Nat) (y : Value) : Wm (w.setCell ⟨m, k, none⟩ y) b n gg := h.of_block (Below.heap_setCell w ⟨m, k, none⟩ y b hne)
theorem rw_far {B c : Nat} {l : List Int} (h : L.Rw B w g c l) {m : Nat} (hne : g ≠ m) (k : Nat) (y : Value) : L.Rw B (w.setCell ⟨m, k, none⟩ y) g c l := h.of_block (Below.heap_setCell w ⟨m, k, none⟩ y g hne)
end
theorem rw_own {B : Nat} {w : World} {g n : Nat} {l : List Int} (hn : l.length = n) (h : L.Rw B w g n l) : L.Own B w (.slice (some ⟨g, 0, none⟩) n n) l := by
  subst hn; exact h
theorem own_rw {B : Nat} {w : World} {g n : Nat} {l : List Int} (hn : l.length = n) (h : L.Own B w (.slice (some ⟨g, 0, none⟩) n n) l) : L.Rw B w g n l := by
  subst hn; exact h
theorem makeB_n {P : Program} (t e : TypeId) (i : TypeInfo) (ht : P.underlying t = some (.slice e)) (hi : P.info? e = some i) (hz : i.zero = some (.bool false)) (h1 : i.size = 1) (h2 : i.bytes = 1) (n : Nat) (hn : n ≤ 1000000) (w : World) :
    (Instr.makeSlice t (.int .i64 (n : Int)) (.int .i64 (n : Int))).run P w = .ok (.slice (some ⟨w.heap.size, 0, none⟩) n n) (w.alloc (.cells ((List.replicate n false).map Value.bool).toArray e)) := by
  have hr := run_make (P := P) w t e i (.bool false) ht hi hz .i64 .i64 n n (by omega) (by omega) (by rw [h2]; omega) (by omega)
  simp only [Int.toNat_natCast] at hr
  rw [hr, h1, Nat.mul_one]
  have : madeCells (Value.bool false).cells n = ((List.replicate n false).map Value.bool).toArray := by
    apply Array.toList_inj.1
    rw [show (Value.bool false).cells = #[Value.bool false] from rfl, toList_madeCells_one, List.map_replicate]
  rw [this]
theorem infoB0 : (Tryd.prog.info? 4).map (fun i => (i.zero, i.size, i.bytes)) = some (some (.bool false), 1, 1) := by kernel_rfl
theorem infoB : ∃ i, Tryd.prog.info? 4 = some i ∧ i.zero = some (.bool false) ∧ i.size = 1 ∧ i.bytes = 1 := by
  have h := infoB0
  obtain ⟨i, hi, hzz⟩ := Option.map_eq_some_iff.1 h
  simp only [Prod.mk.injEq] at hzz
  exact ⟨i, hi, hzz.1, hzz.2.1, hzz.2.2⟩

set_option maxHeartbeats 6400000 in
theorem earliest_n (vp va : Value) (pl : List ByteArray) (l : List ArcT) (pr f t : Int) (hl : l.length ≤ 60) (hN : NetOk pl l) (hI : Wfa l) (hp64 : I64 pr) (ht0 : 0 ≤ t) (ht1 : t ≤ 1048576) (w : World) (hp : Ss w vp pl) (ha : As w va l) (hT : Tab w) :
    Calls Tryd.prog 19 #[.agg #[vp, va], .int .i64 pr, .int .i64 f, .int .i64 t] w (LiP (earL pl.length l pr f t) w) := by
  have hp24 := hN.places
  have HA := Lib.hid ha
  have HTB := Lib.hid hT
  have KF := Lib.hid (fun w h => firstArcs_n va l (by omega) hI w h)
  obtain ⟨op, cp, rfl, -⟩ := hp
  obtain ⟨oa, c, rfl, -⟩ := ha
  have KP := Lib.hid (fun w => netPlace_n op pl.length cp (.slice oa l.length c) f w)
  have KR := Lib.hid (fun b w hb hc => repeat_n b (-1) pl.length (by omega) w hb hc)
  obtain ⟨ib, hib, hzb, hsb, hbb⟩ := infoB
  have hmk := makeB_n (P := Tryd.prog) 66 4 ib Tryd.underlying66 hib hzb hsb hbb pl.length (by omega)
  obtain ⟨Z, hZ⟩ : ∃ Z, ((List.replicate pl.length false).map Value.bool).toArray = Z := ⟨_, rfl⟩
  rw [hZ] at hmk
  have HZ := Lib.hid hZ
  clear hT hib hzb hsb hbb hZ
  obtain ⟨W0, hW0⟩ : ∃ W0, w.alloc (.cells #[.slice op pl.length cp, .slice oa l.length c] 25) = W0 := ⟨_, rfl⟩
  have N0 := Lib.hid (Nb.made w (.slice op pl.length cp) (.slice oa l.length c))
  have hb0 := below_alloc w (.cells #[.slice op pl.length cp, .slice oa l.length c] 25)
  rw [hW0] at N0 hb0
  have B0 := Lib.hid hb0
  have hsz0 : w.heap.size < W0.heap.size := N0.out.lt
  have hbx := below_alloc W0 (.cells #[.int .i64 (-1)] 3)
  have hcx : (W0.alloc (.cells #[.int .i64 (-1)] 3)).cell? ⟨W0.heap.size, 0, none⟩ = some (.int .i64 (-1)) := by simp
  have g0 := N0.out.c0
  have HCX := Lib.hid hcx
  have HBX := Lib.hid hbx
  clear hb0 hcx hbx
  go_enter Tryd.func19, Tryd.ntmps19
  go_wp2_with fail
  clear hW0
  refine (KR.out _ _ (by simp) HCX.out).mono ?_
  rintro e w1 ⟨g, rfl, hg0, hg1, hwho, b1⟩
  have B1 := Lib.hid (over HBX.out b1)
  have N1 := Lib.hid (N0.out.below B1.out)
  have hB : W0.heap.size ≤ g := Nat.le_trans HBX.out.size hg0
  have HRW := Lib.hid (own_rw (B := W0.heap.size) (List.length_replicate ..) (who_own (List.length_replicate ..) hB (by omega) hwho))
  clear b1 hwho g0 HCX HBX hg0
  have g0 := N1.out.c0
  have g1 := N1.out.c1
  go_wp2_with fail
  refine (KP.out _).mono ?_
  rintro e w2 ⟨rfl, b2⟩
  have B2 := Lib.hid (over B1.out b2)
  have N2 := Lib.hid (N1.out.below b2)
  have HRW2 := Lib.hid (HRW.out.below b2)
  clear b2 g0 g1 HRW B1 N1 KP KR
  cases hf : inB pl.length f
  · have HR := Lib.hid (earL_out hN (pr := pr) (t := t) hf)
    clear hf hN
    generalize earL pl.length l pr f t = res at *
    go_wp2_with fail
    go_ret
    have h1 := rw_own (List.length_replicate ..) HRW2.out
    rw [← HR.out] at h1
    exact liP h1 (over B0.out B2.out)
  · have hfb : 0 ≤ f ∧ f < pl.length := by
      unfold inB at hf
      simpa using hf
    obtain ⟨fN, hfN⟩ := Int.eq_ofNat_of_zero_le hfb.1
    subst hfN
    have hfn : fN < pl.length := by omega
    have HD0 := Lib.hid (DI.start (pl := pl) (l := l) (pr := pr) ht0 hfn)
    have HX0 := Lib.hid (Nx.start (t := t) hfn ht0)
    clear hf
    have q0 := HRW2.out.cell fN (by simpa using hfn)
    have q1 := HRW2.out.frozen fN
    have hfI : (fN : Int) < (pl.length : Int) := by omega
    have hfI0 : (0 : Int) ≤ (fN : Int) := by omega
    have HRW3 := Lib.hid (HRW2.out.store fN t)
    have B3 : Hid (Below W0.heap.size W0 (w2.setCell ⟨g, fN, none⟩ (.int .i64 t))) := B2.out.setCell (p := ⟨g, fN, none⟩) hB _
    have N3 : Hid (Nb (w2.setCell ⟨g, fN, none⟩ (.int .i64 t)) w.heap.size (.slice op pl.length cp) (.slice oa l.length c)) := N0.out.below B3.out
    obtain ⟨W3, hW3⟩ : ∃ W3, w2.setCell ⟨g, fN, none⟩ (.int .i64 t) = W3 := ⟨_, rfl⟩
    generalize (List.replicate pl.length (-1 : Int)).getD fN 0 = y0 at *
    generalize hd0 : (List.replicate pl.length (-1 : Int)).set fN t = d0 at *
    clear hd0
    rw [hW3] at HRW3 B3 N3
    go_upto_region 5 with fail
    clear hW3 q0 q1 HRW2 B2 N2
    have g0 : W3.drew.cell? ⟨w.heap.size, 0, none⟩ = some (.slice op pl.length cp) := N3.out.c0
    have g1 : W3.drew.cell? ⟨w.heap.size, 1, none⟩ = some (.slice oa l.length c) := N3.out.c1
    go_cut [10, 11] (fun m v wx => ∃ b gl, m = .map (some b) ∧ v = .slice (some ⟨gl, 0, none⟩) pl.length pl.length ∧ W0.heap.size ≤ gl ∧ Hid (Wm wx b l.length (ixA l 0)) ∧ Hid (Bw wx gl (List.replicate pl.length false)) ∧ Hid (L.Rw W0.heap.size wx g pl.length d0) ∧ Hid (Below W0.heap.size W0 wx))
    case first =>
      have HA1 : Hid (As W3.drew (.slice oa l.length c) l) := HA.out.below (below_drew (over B0.out B3.out))
      have HA2 : Hid (As (W3.alloc (.cells Z 4)).drew (.slice oa l.length c) l) := HA.out.below (below_drew (over (over B0.out B3.out) (below_alloc _ _)))
      have N3d := Lib.hid (N3.out.below (below_drew (Below.refl _ _)))
      have N3a : Hid (Nb (W3.alloc (.cells Z 4)).drew w.heap.size (.slice op pl.length cp) (.slice oa l.length c)) := N3.out.below (below_drew (below_alloc _ _))
      have ga0 := N3a.out
      have a0 := ga0.c0
      have a1 := ga0.c1
      clear ga0
      have B4d := Lib.hid (below_drew B3.out)
      have B4a : Hid (Below W0.heap.size W0 (W3.alloc (.cells Z 4)).drew) := below_drew (over B3.out (below_alloc _ _))
      have HRd : Hid (L.Rw W0.heap.size W3.drew g pl.length d0) := HRW3.out
      have HRa : Hid (L.Rw W0.heap.size (W3.alloc (.cells Z 4)).drew g pl.length d0) := (HRW3.out.below (below_alloc W3 (.cells Z 4)) : L.Rw W0.heap.size (W3.alloc (.cells Z 4)) g pl.length d0)
      have bwZ : Hid (∀ W : World, Bw (W.alloc (.cells Z 4)) W.heap.size (List.replicate pl.length false)) := fun W => by rw [← HZ.out]; exact Bw.made W _
      have HLa : Hid (Bw (W3.alloc (.cells Z 4)).drew W3.heap.size (List.replicate pl.length false)) := bwZ.out W3
      go_region_with (go_at_call 29; first | ((with_reducible refine (KF.out _ HA1.out).mono ?_); rintro e w5 ⟨b, rfl, hbB, hWm, b5⟩; have n5 := (N3d.out.below b5).c0; have n6 := (N3d.out.below b5).c1) | ((with_reducible refine (KF.out _ HA2.out).mono ?_); rintro e w5 ⟨b, rfl, hbB, hWm, b5⟩; have n5 := (N3a.out.below b5).c0; have n6 := (N3a.out.below b5).c1))
      all_goals
        go_wp2_with fail
        go_meet
        case rel => first
          | exact ⟨b, _, rfl, rfl, (over B4d.out b5).size, hWm.below (below_alloc _ _), bwZ.out _, (HRd.out.below b5).below (below_alloc _ _), over (over B4d.out b5) (below_alloc _ _)⟩
          | exact ⟨b, _, rfl, rfl, B3.out.size, hWm, HLa.out.below b5, HRa.out.below b5, over B4a.out b5⟩
    obtain ⟨bm, gl, rfl, rfl, hgl, HM, HL, HRW, HB⟩ := hcut
    clear g0 g1 N3 B3 hmk KF HRW3 HZ
    have HIX := Lib.hid (fun p f t (h : ixA l 0 p f t = none) => ix_none h)
    have HIS := Lib.hid (fun p f t i (h : ixA l 0 p f t = some i) => ix_some h)
    have HOK := Lib.hid hN
    have HARC := Lib.hid hN.arcs
    have HRX : Hid (∀ u d k, rlxN pr l u d (k + 1) = rlx pr l u (rlxN pr l u d k) k) := fun _ _ _ => rfl
    have HR0 : Hid (∀ u d, rlxN pr l u d 0 = d) := fun _ _ => rfl
    have HRL := Lib.hid (rlxN_len pr l)
    have HRA := Lib.hid (fun u d (hl : d.length = pl.length) k hk v hv => rlxN_at (pr := pr) hN u d hl k hk v hv)
    have HFS := Lib.hid (fun u => find_self (pr := pr) hN u)
    have HDR := Lib.hid (fun d lf m u h hu => DI.round (pr := pr) hN ht0 (d := d) (lf := lf) (m := m) (u := u) h hfn hu)
    have HDB := Lib.hid (fun d lf m h => DI.bound (pr := pr) (f := fN) hN ht0 (d := d) (lf := lf) (m := m) h)
    have HDD := Lib.hid (fun d lf m h hall => DI.done (pr := pr) hN ht0 hfn (d := d) (lf := lf) (m := m) h hall)
    have hfI2 : (0 : Int) ≤ (pl.length : Int) := by omega
    clear hN hI
    generalize hres : earL pl.length l pr (fN : Int) t = res at *
    clear hres
    go_wp2_with fail
    go_loopg [12, 13] pl.length (fun gg a b wx => ∃ (u : Nat) (ok : Bool) (d : List Int) (lf : List Bool) (m : Nat), a = .int .i64 u ∧ b = .bool ok ∧ pl.length - m ≤ gg ∧ Hid (Wm wx bm l.length (ixA l 0)) ∧ Hid (Bw wx gl lf) ∧ Hid (L.Rw W0.heap.size wx g pl.length d) ∧ Hid (Below W0.heap.size W0 wx) ∧ Hid (DI pl l pr fN t d lf m) ∧ Hid (ok = true → Nx pl.length d lf u) ∧ Hid (ok = false → ∀ p, p < pl.length → 0 ≤ d.getD p 0 → lf.getD p false = true))
    case atStart => exact ⟨fN, true, d0, List.replicate pl.length false, 0, rfl, rfl, by omega, HM, HL, HRW, HB, HD0, fun _ => HX0.out, fun h => by cases h⟩
    case round =>
      clear HM HL HRW HB HD0 HX0
      obtain ⟨u, ok, d, lf, m, rfl, rfl, hgg, HM, HL, HRW, HB, HD, HX, HN⟩ := hrel
      cases ok
      · have hdr := HDD.out d lf m HD.out (HN.out rfl)
        have HDE := Lib.hid hdr
        clear hdr
        go_wp2_with fail
        go_ret
        have h1 := rw_own HD.out.dl HRW.out
        rw [HDE.out] at h1
        exact liP h1 (over B0.out HB.out)
      · have hu := HX.out rfl
        have HU := Lib.hid hu
        have hun := hu.lt
        have hdl := HD.out.dl
        have hll := HD.out.ll
        have HLL := Lib.hid hll
        have HDL := Lib.hid hdl
        have q0 := HL.out.cell (k := u) (by omega)
        have q1 := HL.out.frozen u
        have hxu0 := hu.at_
        have hxu1 := (HDB.out d lf m HD.out u hun).2
        clear hu hdl hll HX HN
        have huI : (u : Int) < (pl.length : Int) := by omega
        have hu0 : (0 : Int) ≤ (u : Int) := by omega
        have HL4 := Lib.hid (HL.out.store u true)
        have HRW4 := Lib.hid (rw_far HRW.out (bw_rw HL.out HRW.out).symm u (.bool true))
        have HM4 := Lib.hid (HM.out.far (wm_bw HM.out HL.out) u (.bool true))
        have HB4 : Hid (Below W0.heap.size W0 (wr.setCell ⟨gl, u, none⟩ (.bool true))) := HB.out.setCell (p := ⟨gl, u, none⟩) hgl _
        obtain ⟨W4, hW4⟩ : ∃ W4, wr.setCell ⟨gl, u, none⟩ (.bool true) = W4 := ⟨_, rfl⟩
        generalize lf.getD u false = y1 at *
        rw [hW4] at HL4 HRW4 HM4 HB4
        have HR00 := Lib.hid (HR0.out u d)
        have HRW5 : Hid (L.Rw W0.heap.size W4 g pl.length (rlxN pr l u d 0)) := HRW4
        clear HM HL HRW HB HRW4
        go_wp2_with fail
        clear hW4 q0 q1
        go_loopw [51] (fun j wx => ∃ k : Nat, k ≤ pl.length ∧ j = .int .i64 k ∧ Hid (Wm wx bm l.length (ixA l 0)) ∧ Hid (Bw wx gl (lf.set u true)) ∧ Hid (L.Rw W0.heap.size wx g pl.length (rlxN pr l u d k)) ∧ Hid (Below W0.heap.size W0 wx)) (fun j _ => pl.length - (intOf j).toNat)
        case atStart => exact ⟨0, Nat.zero_le _, rfl, HM4, HL4, HRW5, HB4⟩
        case round =>
          clear HM4 HL4 HRW5 HB4
          obtain ⟨k, hk, rfl, HM, HL, HRW, HB⟩ := hrel
          by_cases hkn : k < pl.length
          · have hlk := HM.out.look hp64 (show I64 (u : Int) from ⟨by omega, by omega⟩) (show I64 (k : Int) from ⟨by omega, by omega⟩)
            have hstp := HRX.out u d k
            have hln := (HRL.out u d k).trans HDL.out
            have hatu : (rlxN pr l u d k).getD u 0 = d.getD u 0 := by
              rw [HRA.out u d HDL.out k hk u hun, HFS.out u]
              split <;> rfl
            have hkI : (k : Int) < (pl.length : Int) := by omega
            have hk0 : (0 : Int) ≤ (k : Int) := by omega
            cases hix : ixA l 0 pr u k with
            | none =>
              have HNX : Hid (rlxN pr l u d k = rlxN pr l u d (k + 1)) := by
                show _ = _
                rw [hstp]
                unfold rlx
                rw [HIX.out _ _ _ hix]
              rw [hix] at hlk
              simp only [Option.getD_none, Option.isSome_none] at hlk
              have HRW2 := Lib.hid (HRW.out.ext HNX.out.symm)
              clear hix hstp hln hatu HNX HRW
              go_wp2_with fail
              go_roundw
              case rel => exact ⟨k + 1, by omega, by go_num, HM, HL, HRW2, HB⟩
              case measure => simp [intOf]; omega
            | some i =>
              obtain ⟨hin, hfa⟩ := HIS.out _ _ _ _ hix
              have HNX : Hid ((rlxN pr l u d k).set k (earlier ((rlxN pr l u d k).getD k 0) (arrA (l.getD i arc0) (d.getD u 0))) = rlxN pr l u d (k + 1)) := by
                show _ = _
                rw [hstp]
                simp only [rlx, hfa]
                rw [hatu]
              rw [hix] at hlk
              simp only [Option.getD_some, Option.isSome_some] at hlk
              have c0k := HRW.out.cell k (by omega)
              have f0k := HRW.out.frozen k
              have c0u := HRW.out.cell u (by omega)
              rw [hatu] at c0u
              have hok := HARC.out i hin
              have hne1 := wm_rw HM.out HRW.out
              have hne2 := bw_rw HL.out HRW.out
              have hgw := HRW.out.lt.2
              have HRN : Hid (∀ c, (rlxN pr l u d k).set k c = rlxN pr l u d (k + 1) → ∀ W, L.Rw W0.heap.size W g pl.length (rlxN pr l u d k) → L.Rw W0.heap.size (W.setCell ⟨g, k, none⟩ (.int .i64 c)) g pl.length (rlxN pr l u d (k + 1))) := fun c hc W h => (h.store k c).ext hc.symm
              generalize d.getD u 0 = xu at *
              generalize (rlxN pr l u d k).getD k 0 = x at *
              obtain ⟨oa1, c1, hv1, hA1⟩ := HA.out.below (over B0.out HB.out)
              simp only [Value.slice.injEq] at hv1
              obtain ⟨rfl, -, rfl⟩ := hv1
              obtain ⟨b', o, vt, vs, rfl, hab, hac, hpt, hps⟩ := hA1 i hin
              clear hA1
              obtain ⟨ot, ct, hvt, -⟩ := id hpt
              obtain ⟨os, cs, hvs, -⟩ := id hps
              subst hvt
              subst hvs
              have hTw := HTB.out.over (below_drew (over B0.out HB.out))
              have HTT : Hid (Tab wr.drew) := hTw
              have K4 := Lib.hid (fun vt vs w ht hs hT => arrival9_n pl.length (l.getD i arc0) vt vs xu hok hxu0 (by omega) w ht hs hT)
              generalize l.getD i arc0 = a at *
              obtain ⟨fr, dt, prof, miles, tr, sl⟩ := a
              generalize arrA _ xu = v at *
              simp only at hac hpt hps K4
              obtain ⟨d0', d1', d2', d3', d4', d5'⟩ := hac
              have N1 := N0.out.below HB.out
              have g1 := N1.c1
              have N4 : Hid (Nb wr.drew w.heap.size (.slice op pl.length cp) (.slice (some ⟨b', o, none⟩) l.length c)) := N1
              have HT5 : Hid (Ps wr.drew (.slice ot tr.length ct) tr) := hpt
              have HS5 : Hid (Ps wr.drew (.slice os sl.length cs) sl) := hps
              have HR5 : Hid (L.Rw W0.heap.size wr.drew g pl.length (rlxN pr l u d k)) := HRW.out
              have HM5 : Hid (Wm wr.drew bm l.length (ixA l 0)) := HM.out.of_block rfl
              have HL5 : Hid (Bw wr.drew gl (lf.set u true)) := HL.out
              have HB5 := Lib.hid (below_drew HB.out)
              have hgw5 : g < wr.drew.heap.size := hgw
              have hiI : (i : Int) < (l.length : Int) := by omega
              have hi0 : (0 : Int) ≤ (i : Int) := by omega
              clear hix hstp hln hatu hfa hok hpt hps N1 hTw HM HL HRW HB hab
              go_wp2_with fail
              go_region_with (first
                | (go_at_call 33; (with_reducible refine (K4.out _ _ _ HT5.out HS5.out HTT.out).mono ?_); rintro e w5 ⟨rfl, b5⟩; have n1 := (N4.out.below b5).c1; have r5 := (b5.cell (p := ⟨g, k, none⟩) hgw5).trans c0k; have r6 := (b5.frozen (p := ⟨g, k, none⟩) hgw5).trans f0k)
                | (go_at_call 39; refine (earlier_n _ _ _).mono ?_; rintro e w6 ⟨rfl, rfl⟩))
              all_goals
                have HM6 := Lib.hid ((HM5.out.below b5).far hne1 k (.int .i64 (earlier x v)))
                have HL6 := Lib.hid ((HL5.out.below b5).far hne2 k (.int .i64 (earlier x v)))
                have HR6 := Lib.hid (HRN.out _ HNX.out _ (HR5.out.below b5))
                have HB6 : Hid (Below W0.heap.size W0 (w5.setCell ⟨g, k, none⟩ (.int .i64 (earlier x v)))) := (over HB5.out b5).setCell (p := ⟨g, k, none⟩) hB _
                go_wp2_with fail
                go_roundw
                case rel => exact ⟨k + 1, by omega, by go_num, HM6, HL6, HR6, HB6⟩
                case measure => simp [intOf] <;> omega
          · have hk' : k = pl.length := by omega
            subst hk'
            have HD2 := Lib.hid (HDR.out d lf m u HD.out HU.out)
            have hmr := HD.out.room HU.out
            have hdl2 := HD2.out.dl
            have hll2 := HD2.out.ll
            have hKN := fun w hu hv => nextPlace_n (.slice (some ⟨g, 0, none⟩) pl.length pl.length) (.slice (some ⟨gl, 0, none⟩) pl.length pl.length) (rlxN pr l u d pl.length) (lf.set u true) (by omega) (by omega) w hu hv
            rw [hdl2] at hKN
            have KN := Lib.hid hKN
            have HLI := Lib.hid (rw_own hdl2 HRW.out).li
            have HLB := Lib.hid (HL.out.lb hll2 pl.length)
            have HX2 := Lib.hid (fun (h : (nxt (rlxN pr l u d pl.length) (lf.set u true) pl.length).2 = true) => nxt_nx HD2.out.lo h)
            have HN2 := Lib.hid (fun (h : (nxt (rlxN pr l u d pl.length) (lf.set u true) pl.length).2 = false) => nxt_all h)
            generalize nxt (rlxN pr l u d pl.length) (lf.set u true) pl.length = r at *
            obtain ⟨u2, ok2⟩ := r
            simp only at HX2 HN2
            clear hKN hdl2 hll2
            go_wp2_with fail
            refine (KN.out _ HLI.out HLB.out).mono ?_
            rintro e w7 ⟨rfl, rfl⟩
            go_wp2_with fail
            go_roundg (pl.length - (m + 1))
            case measure => omega
            case rel => exact ⟨u2, ok2, _, _, m + 1, rfl, rfl, by omega, HM, HL, HRW, HB, HD2, HX2, HN2⟩

end Go.Proofs.YtegpebnkogjadaaDoor.T

