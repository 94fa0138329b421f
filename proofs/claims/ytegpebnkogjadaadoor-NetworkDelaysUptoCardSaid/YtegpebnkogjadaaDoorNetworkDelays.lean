/-
  DERIVED. The walk of the law NetworkDelays.
-/
import Derived.Test.YtegpebnkogjadaaDoorNetDel
namespace Go.Proofs.YtegpebnkogjadaaDoor.T
open Go.RowKit
set_option maxRecDepth 20000

theorem delGo1 {pl : List ByteArray} {l : List ArcT} {f g : Int} (vp va : Value) (hl : l.length ≤ 1000000) (hO : NetOk pl l) {i : Nat} (hi : i < l.length) (h1 : (l.getD i arc0).fr = f) (h2 : (l.getD i arc0).to = g) (d : Int) (hd0 : 0 ≤ d) (hd1 : d ≤ 1073741824) (w : World) (hp : Ss w vp pl) (ha : As w va l) (hT : Tab w) :
    Calls Tryd.prog 15 #[.agg #[vp, va], .int .i64 (l.getD i arc0).prof, .int .i64 f, .int .i64 g, .int .i64 d] w fun e w' => e = .returned (.tuple #[.int .i64 (arrA (l.getD i arc0) d), .int .i64 (l.getD i arc0).miles, .int .i64 0]) ∧ Below w.heap.size w w' := by
  have h := go_n vp va pl l (l.getD i arc0).prof f g d hl hO hd0 hd1 w hp ha hT
  rw [goV_here hi (hO.arcs i hi) h1 h2 (hO.once i hi)] at h
  exact h
theorem delGo2 {pl : List ByteArray} {l : List ArcT} {f g t n : Int} (vp va : Value) (hl : l.length ≤ 1000000) (hN : netF pl l = []) (hS : sloE pl.length l f g t n = 0) {i : Nat} (hi : i < l.length) (h1 : (l.getD i arc0).fr = f) (h2 : (l.getD i arc0).to = g) (d : Int) (hd0 : 0 ≤ d) (hd1 : d ≤ 1073741824) (w : World) (hp : Ss w vp pl) (ha : As w va (l.map (updF f g t n))) (hT : Tab w) :
    Calls Tryd.prog 15 #[.agg #[vp, va], .int .i64 (l.getD i arc0).prof, .int .i64 f, .int .i64 g, .int .i64 d] w fun e w' => e = .returned (.tuple #[.int .i64 (arrA (l.getD i arc0) d + if t ≤ d then n else 0), .int .i64 (l.getD i arc0).miles, .int .i64 0]) ∧ Below w.heap.size w w' := by
  have hO := netOk_of hN
  have hO2 := netOk_of (upd_net hN hS)
  have hL : (l.map (updF f g t n)).length = l.length := List.length_map ..
  have hg : (l.map (updF f g t n)).getD i arc0 = updF f g t n (l.getD i arc0) := upd_getD hi
  have h := go_n vp va pl (l.map (updF f g t n)) (l.getD i arc0).prof f g d (by omega) hO2 hd0 hd1 w hp ha hT
  have hv := goV_here (np := pl.length) (l := l.map (updF f g t n)) (f := f) (g := g) (i := i) (by omega) (hO2.arcs i (by omega)) (by rw [hg, upd_fr]; exact h1) (by rw [hg, upd_to]; exact h2) (hO2.once i (by omega)) d
  rw [hg, upd_prof, upd_miles, arrA_upd h1 h2 ((sloE_ok hS).2.2 _ (getD_mem2 hi) (hitF_yes h1 h2))] at hv
  rw [hv] at h
  exact h
theorem swP_ok {pl : List ByteArray} {l : List ArcT} {w : World} {e : Ending} {w' : World} (h : SwP pl l 0 w e w') :
    ∃ op cp oa ca, e = .returned (.tuple #[.agg #[.slice op pl.length cp, .slice oa l.length ca], .int .i64 0]) ∧ Ss w' (.slice op pl.length cp) pl ∧ As w' (.slice oa l.length ca) l ∧ Below w.heap.size w w' := by
  obtain ⟨vp, va, he, h0, -, hb⟩ := h
  obtain ⟨hp, ha⟩ := h0 rfl
  obtain ⟨op, cp, hvp, -⟩ := id hp
  obtain ⟨oa, ca, hva, -⟩ := id ha
  subst hvp
  subst hva
  exact ⟨op, cp, oa, ca, he, hp, ha, hb⟩
theorem swP_no {pl : List ByteArray} {l : List ArcT} {x : Int} (hx : x ≠ 0) {w : World} {e : Ending} {w' : World} (h : SwP pl l x w e w') : e = .returned (.tuple #[.agg #[.slice none 0 0, .slice none 0 0], .int .i64 x]) ∧ Below w.heap.size w w' := by
  obtain ⟨vp, va, he, -, h1, hb⟩ := h
  obtain ⟨rfl, rfl⟩ := h1 hx
  exact ⟨he, hb⟩

set_option maxHeartbeats 6400000 in
/-- a network that is not right, or no places -/
theorem networkDelays_bad (rb : Bool) (op : Option Addr) (np cp : Nat) (oa : Option Addr) (nl ca : Nat) (f g t n : Int) (oth : Nat) (hb : (rb && (inB np f && inB np g)) = false) (w : World)
    (KR : ∀ W, Below w.heap.size w W → Nb W w.heap.size (.slice op np cp) (.slice oa nl ca) → Calls Tryd.prog 11 #[.agg #[.slice op np cp, .slice oa nl ca]] W fun e w' => e = .returned (.bool rb) ∧ Below W.heap.size W w') (hT : Tab w) :
    Calls Tryd.prog 7 #[.agg #[.slice op np cp, .slice oa nl ca], .int .i64 f, .int .i64 g, .int .i64 t, .int .i64 n, .int .u16 oth] w fun e w' => e = .returned (.bool true) ∧ Below w.heap.size w w' := by
  have KW := Lib.hid examples_n
  have BW := below_alloc w (.cells #[.slice op np cp, .slice oa nl ca] 25)
  have N := Lib.hid (Nb.made w (.slice op np cp) (.slice oa nl ca))
  have HT := Lib.hid (hT.over BW)
  have B := Lib.hid BW
  have KR1 := Lib.hid (KR _ BW N.out)
  have g0 := N.out.c0
  have g1 := N.out.c1
  clear KR BW hT
  go_enter Tryd.func7, Tryd.ntmps7
  go_wp2_with fail
  refine KR1.out.mono ?_
  rintro e w1 ⟨rfl, b1⟩
  have HT1 := Lib.hid (HT.out.over b1)
  have B1 := Lib.hid (over B.out b1)
  have N1 := Lib.hid (N.out.below b1)
  clear g0 g1 b1 HT B N KR1
  have g0 := N1.out.c0
  have g1 := N1.out.c1
  cases rb
  · go_wp2_with fail
    refine (KW.out _ HT1.out).mono ?_
    rintro e w2 ⟨rfl, b2⟩
    have B2 := Lib.hid (over B1.out b2)
    go_wp2_with fail
    go_ret
    exact ⟨rfl, B2.out⟩
  rw [Bool.true_and] at hb
  unfold inB at hb
  by_cases p1 : 0 ≤ f
  · by_cases p2 : f < (np : Int)
    · have q2 : ¬ (np : Int) ≤ f := by omega
      by_cases p3 : 0 ≤ g
      · by_cases p4 : g < (np : Int)
        · rw [decide_eq_true p1, decide_eq_true p2, decide_eq_true p3, decide_eq_true p4] at hb
          cases hb
        · have q4 : (np : Int) ≤ g := by omega
          clear hb
          go_wp2_with fail
          refine (KW.out _ HT1.out).mono ?_
          rintro e w2 ⟨rfl, b2⟩
          have B2 := Lib.hid (over B1.out b2)
          go_wp2_with fail
          go_ret
          exact ⟨rfl, B2.out⟩
      · have q3 : g < 0 := by omega
        clear hb
        go_wp2_with fail
        refine (KW.out _ HT1.out).mono ?_
        rintro e w2 ⟨rfl, b2⟩
        have B2 := Lib.hid (over B1.out b2)
        go_wp2_with fail
        go_ret
        exact ⟨rfl, B2.out⟩
    · have q2 : (np : Int) ≤ f := by omega
      clear hb
      go_wp2_with fail
      refine (KW.out _ HT1.out).mono ?_
      rintro e w2 ⟨rfl, b2⟩
      have B2 := Lib.hid (over B1.out b2)
      go_wp2_with fail
      go_ret
      exact ⟨rfl, B2.out⟩
  · have q1 : f < 0 := by omega
    clear hb
    go_wp2_with fail
    refine (KW.out _ HT1.out).mono ?_
    rintro e w2 ⟨rfl, b2⟩
    have B2 := Lib.hid (over B1.out b2)
    go_wp2_with fail
    go_ret
    exact ⟨rfl, B2.out⟩

set_option maxHeartbeats 6400000 in
/-- Slower's errors -/
theorem networkDelays_err (op : Option Addr) (np cp : Nat) (oa : Option Addr) (nl ca : Nat) (f g t n x : Int) (oth : Nat) (hf0 : 0 ≤ f) (hf1 : f < np) (hg0 : 0 ≤ g) (hg1 : g < np) (hx : x = 12 ∨ x = 2 ∨ x = 4) (w : World)
    (KR : ∀ W, Below w.heap.size w W → Nb W w.heap.size (.slice op np cp) (.slice oa nl ca) → Calls Tryd.prog 11 #[.agg #[.slice op np cp, .slice oa nl ca]] W fun e w' => e = .returned (.bool true) ∧ Below W.heap.size W w')
    (KS : ∀ W, Below w.heap.size w W → Calls Tryd.prog 21 #[.agg #[.slice op np cp, .slice oa nl ca], .int .i64 f, .int .i64 g, .int .i64 t, .int .i64 n] W fun e w' => e = .returned (.tuple #[.agg #[.slice none 0 0, .slice none 0 0], .int .i64 x]) ∧ Below W.heap.size W w') (hT : Tab w) :
    Calls Tryd.prog 7 #[.agg #[.slice op np cp, .slice oa nl ca], .int .i64 f, .int .i64 g, .int .i64 t, .int .i64 n, .int .u16 oth] w fun e w' => e = .returned (.bool true) ∧ Below w.heap.size w w' := by
  have KW := Lib.hid examples_n
  have BW := below_alloc w (.cells #[.slice op np cp, .slice oa nl ca] 25)
  have N := Lib.hid (Nb.made w (.slice op np cp) (.slice oa nl ca))
  have HT := Lib.hid (hT.over BW)
  have B := Lib.hid BW
  have KR1 := Lib.hid (KR _ BW N.out)
  have KS1 := Lib.hid KS
  have g0 := N.out.c0
  have g1 := N.out.c1
  clear KR KS BW hT
  go_enter Tryd.func7, Tryd.ntmps7
  go_wp2_with fail
  refine KR1.out.mono ?_
  rintro e w1 ⟨rfl, b1⟩
  have HT1 := Lib.hid (HT.out.over b1)
  have B1 := Lib.hid (over B.out b1)
  have N1 := Lib.hid (N.out.below b1)
  clear g0 g1 b1 HT B N KR1
  have g0 := N1.out.c0
  have g1 := N1.out.c1
  go_wp2_with fail
  refine (KS1.out _ B1.out).mono ?_
  rintro e w2 ⟨rfl, b2⟩
  have BL := below_alloc w2 (.cells #[.slice none 0 0, .slice none 0 0] 25)
  have BB := over b2 BL
  have M := Lib.hid (Nb.made w2 (.slice none 0 0) (.slice none 0 0))
  have HT2 := Lib.hid (HT1.out.over BB)
  have B2 := Lib.hid (over B1.out BB)
  clear g0 g1 b2 BL BB HT1 B1 N1 KS1
  have g0 := M.out.c0
  have g1 := M.out.c1
  rcases hx with rfl | rfl | rfl
  all_goals
    go_wp2_with fail
    refine (KW.out _ HT2.out).mono ?_
    rintro e w3 ⟨rfl, b3⟩
    have B3 := Lib.hid (over B2.out b3)
    go_wp2_with fail
    go_ret
    exact ⟨rfl, B3.out⟩

set_option maxHeartbeats 12800000 in
/-- a delayed network -/
theorem networkDelays_ok (vp va : Value) (pl : List ByteArray) (l : List ArcT) (f g t n : Int) (oth : Nat) (ho : oth ≤ 65535) (hz : ∀ i, i < pl.length → (pl.getD i ⟨#[]⟩).size ≤ maxLen) (hR : rightB pl l = true) (hw9 : wtA l ≤ 1000000) (hI : Wfa l)
    (hf0 : 0 ≤ f) (hf1 : f < pl.length) (hg0 : 0 ≤ g) (hg1 : g < pl.length) (hS : sloE pl.length l f g t n = 0) (w : World) (hp : Ss w vp pl) (ha : As w va l) (hT : Tab w) :
    Calls Tryd.prog 7 #[.agg #[vp, va], .int .i64 f, .int .i64 g, .int .i64 t, .int .i64 n, .int .u16 oth] w fun e w' => e = .returned (.bool true) ∧ Below w.heap.size w w' := by
  have h60 := (right_ok hR).1
  have hO := (right_ok hR).2
  have hpl := hO.places
  have hN : netF pl l = [] := by
    unfold rightB at hR
    rw [Bool.and_eq_true, decide_eq_true_iff, decide_eq_true_iff] at hR
    exact List.eq_nil_of_length_eq_zero hR.2
  have hN2 := upd_net hN hS
  obtain ⟨ht, hn, hd⟩ := sloE_ok hS
  obtain ⟨ht0, ht1⟩ := (tickB_iff t).1 ht
  obtain ⟨hn0, hn1⟩ := (tickB_iff n).1 hn
  have hwL : wtA (l.map (updF f g t n)) ≤ 1000000 := by
    have h1 := wt_bound (c := 34) (fun i hi => upd_smallD hO f g t n i hi)
    rw [List.length_map] at h1
    omega
  have hLl : (l.map (updF f g t n)).length = l.length := List.length_map ..
  have KR := Lib.hid (fun w hp ha => right_n vp va pl l (by omega) (by omega) hw9 w hp ha)
  rw [hR] at KR
  have KS : Hid (∀ w, Ss w vp pl → As w va l → Calls Tryd.prog 21 #[.agg #[vp, va], .int .i64 f, .int .i64 g, .int .i64 t, .int .i64 n] w fun e w' => ∃ op cp oa ca, e = .returned (.tuple #[.agg #[.slice op pl.length cp, .slice oa l.length ca], .int .i64 0]) ∧ Ss w' (.slice op pl.length cp) pl ∧ As w' (.slice oa l.length ca) (l.map (updF f g t n)) ∧ Below w.heap.size w w') := fun w hp ha => by
    have h := slower_n vp va pl l f g t n (by omega) hO w hp ha
    rw [hS] at h
    rw [← hLl]
    exact h.mono fun e w' h => swP_ok h
  have KC : Hid (∀ (vp va : Value) (w : World), Ss w vp pl → As w va (l.map (updF f g t n)) → Tab w → Calls Tryd.prog 9 #[.agg #[vp, va]] w fun e w' => (∃ oa c, e = .returned (.slice oa 0 c)) ∧ Below w.heap.size w w') := fun vp va w hp ha hT => by
    have h := netCheck_n vp va pl (l.map (updF f g t n)) (by omega) hz (by omega) hwL (upd_wfa hI) w hp ha hT
    rw [hN2] at h
    exact h.mono fun e w' ⟨oa, c, he, _, hb⟩ => ⟨⟨oa, c, he⟩, hb⟩
  have KG1 := Lib.hid (fun i (hi : i < l.length) (h1 : (l.getD i arc0).fr = f) (h2 : (l.getD i arc0).to = g) d hd0 hd1 w hp ha hT => delGo1 vp va (by omega) hO hi h1 h2 d hd0 hd1 w hp ha hT)
  have KG2 := Lib.hid (fun vp va i (hi : i < l.length) (h1 : (l.getD i arc0).fr = f) (h2 : (l.getD i arc0).to = g) d hd0 hd1 w hp ha hT => delGo2 vp va (by omega) hN hS hi h1 h2 d hd0 hd1 w hp ha hT)
  have KA := Lib.hid (fun i (hi : i < l.length) (vt vs vt' vs' : Value) w ht hs ht' hs' => sameArc_eq vt vs vt' vs' (l.getD i arc0) (by have := hO.tr_le hi; omega) (by have := hO.tr_le hi; omega) w ht hs ht' hs')
  have KBd := Lib.hid (fun i (hi : i < l.length) d (hd0 : 0 ≤ d) => arrA_bd (hO.arcs i hi) (t := d) hd0)
  have HUP := Lib.hid (fun i (hi : i < l.length) (h : ¬ ((l.getD i arc0).fr = f ∧ (l.getD i arc0).to = g)) => show (l.map (updF f g t n)).getD i arc0 = l.getD i arc0 by rw [upd_getD hi]; unfold updF; rw [if_neg (by rw [hitF_no h]; simp)])
  have HLl := Lib.hid hLl
  have KW := Lib.hid examples_n
  have BW := below_alloc w (.cells #[vp, va] 25)
  have HP := Lib.hid (hp.below BW)
  have HA := Lib.hid (ha.below BW)
  have HT := Lib.hid (hT.over BW)
  have B := Lib.hid BW
  have N := Lib.hid (Nb.made w vp va)
  obtain ⟨op, cp, hvp, -⟩ := id hp
  obtain ⟨oa, ca, hva, -⟩ := id ha
  subst hvp
  subst hva
  have g0 := N.out.c0
  have g1 := N.out.c1
  clear hp ha hT BW hR hO hN hN2 ht hn hd hwL hLl hS hz hI hw9
  generalize l.map (updF f g t n) = L at *
  generalize hnl : l.length = nl at *
  generalize pl.length = np at *
  have HNl := Lib.hid hnl
  clear hnl
  have q1 : ¬ f < 0 := by omega
  have q2 : ¬ (np : Int) ≤ f := by omega
  have q3 : ¬ g < 0 := by omega
  have q4 : ¬ (np : Int) ≤ g := by omega
  go_enter Tryd.func7, Tryd.ntmps7
  go_wp2_with fail
  refine (KR.out _ HP.out HA.out).mono ?_
  rintro e w1 ⟨rfl, b1⟩
  have HT1 := Lib.hid (HT.out.over b1)
  have HP1 := Lib.hid (HP.out.below b1)
  have HA1 := Lib.hid (HA.out.below b1)
  have B1 := Lib.hid (over B.out b1)
  have N1 := Lib.hid (N.out.below b1)
  clear g0 g1 b1 HT HP HA B N KR
  have g0 := N1.out.c0
  have g1 := N1.out.c1
  go_wp2_with fail
  refine (KS.out _ HP1.out HA1.out).mono ?_
  rintro e w2 ⟨op2, cp2, oa2, ca2, rfl, hp2, ha2, b2⟩
  obtain ⟨W2, hW2⟩ : ∃ W2, w2.alloc (.cells #[.slice op2 np cp2, .slice oa2 nl ca2] 25) = W2 := ⟨_, rfl⟩
  obtain ⟨qm, hqm⟩ : ∃ qm, w2.heap.size = qm := ⟨_, rfl⟩
  have BL := below_alloc w2 (.cells #[.slice op2 np cp2, .slice oa2 nl ca2] 25)
  have M := Nb.made w2 (.slice op2 np cp2) (.slice oa2 nl ca2)
  have BB := over b2 BL
  have MP := hp2.below BL
  have MA := ha2.below BL
  rw [hW2] at M BB MP MA
  rw [hqm] at M
  have M := Lib.hid M
  have MP := Lib.hid MP
  have MA := Lib.hid MA
  have HT2 := Lib.hid (HT1.out.over BB)
  have HP2 := Lib.hid (HP1.out.below BB)
  have HA2 := Lib.hid (HA1.out.below BB)
  have B2 := Lib.hid (over B1.out BB)
  have N2 := Lib.hid (N1.out.below BB)
  clear g0 g1 b2 BL BB HT1 HP1 HA1 B1 N1 KS hp2 ha2
  go_upto_region 4 with fail
  clear hW2 hqm
  have g0 := N2.out.c0
  have g1 := N2.out.c1
  have m0 := M.out.c0
  have m1 := M.out.c1
  have hne1 : ((nl : Int) != (nl : Int)) = false := by simp
  have hne2 : ((np : Int) != (np : Int)) = false := by simp
  go_wp2_with fail
  clear g0 g1 m0 m1
  go_loopw [104] (fun i wr => ∃ k : Nat, k ≤ nl ∧ i = .int .i64 k ∧ Hid (Below W2.heap.size W2 wr)) (fun i _ => nl - (intOf i).toNat)
  case atStart => exact ⟨0, Nat.zero_le _, rfl, Below.refl _ _⟩
  case round =>
    obtain ⟨k, hk, rfl, HB⟩ := hrel
    by_cases hlt : k < nl
    · have hkI : (k : Int) < (nl : Int) := by omega
      have KG1k := Lib.hid (KG1.out k hlt)
      have KG2k := Lib.hid (fun vp va => KG2.out vp va k hlt)
      have KAk := Lib.hid (KA.out k hlt)
      have KBk := Lib.hid (KBd.out k hlt)
      have HUk := Lib.hid (HUP.out k hlt)
      have hak := HA2.out
      obtain ⟨oa', c', hva', hall⟩ := hak
      simp only [Value.slice.injEq] at hva'
      obtain ⟨rfl, -, rfl⟩ := hva'
      obtain ⟨b, o, vt, vs, hoa, hab, ⟨h0, h1, h2, h3, h4, h5⟩, hpt, hps⟩ := hall k (by rw [HNl.out]; exact hlt)
      subst hoa
      have hmk := MA.out
      obtain ⟨oam, cm, hvm, hallm⟩ := hmk
      simp only [Value.slice.injEq] at hvm
      obtain ⟨rfl, -, rfl⟩ := hvm
      obtain ⟨bm, om, vt', vs', hom, habm, ⟨m0, m1, m2, m3, m4, m5⟩, hpt', hps'⟩ := hallm k (by rw [HLl.out]; exact hlt)
      subst hom
      obtain ⟨ot, ct, hvt, -⟩ := id hpt
      obtain ⟨os, cs, hvs, -⟩ := id hps
      subst hvt
      subst hvs
      obtain ⟨a, hak⟩ : ∃ a, l.getD k arc0 = a := ⟨_, rfl⟩
      rw [hak] at KG1k KG2k KAk KBk HUk h0 h1 h2 h3 h4 h5 hpt hps
      clear hak hall hallm
      have KG1t := Lib.hid (fun h1 h2 => KG1k.out h1 h2 t ht0 (by omega))
      have KG1o := Lib.hid (fun h1 h2 => KG1k.out h1 h2 (oth : Int) (by omega) (by omega))
      have KG2t := Lib.hid (fun vp va h1 h2 => KG2k.out vp va h1 h2 t ht0 (by omega))
      have KG2o := Lib.hid (fun vp va h1 h2 => KG2k.out vp va h1 h2 (oth : Int) (by omega) (by omega))
      rw [if_pos (Int.le_refl t)] at KG2t
      obtain ⟨bx0, bx1⟩ := KBk.out t ht0
      obtain ⟨by0, by1⟩ := KBk.out (oth : Int) (by omega)
      generalize arrA a t = X1 at *
      generalize arrA a (oth : Int) = X2 at *
      clear KG1k KG2k KBk
      obtain ⟨fr, dt, prof, miles, tr, sl⟩ := a
      simp only at KG1t KG1o KG2t KG2o KAk HUk h0 h1 h2 h3 h4 h5 hpt hps
      have d0 := (HB.out.cell (p := ⟨b, _, none⟩) hab).trans h0
      have d1 := (HB.out.cell (p := ⟨b, _, none⟩) hab).trans h1
      have d2 := (HB.out.cell (p := ⟨b, _, none⟩) hab).trans h2
      have d3 := (HB.out.cell (p := ⟨b, _, none⟩) hab).trans h3
      have d4 := (HB.out.cell (p := ⟨b, _, none⟩) hab).trans h4
      have d5 := (HB.out.cell (p := ⟨b, _, none⟩) hab).trans h5
      clear h0 h1 h2 h3 h4 h5
      obtain ⟨W3, hW3⟩ : ∃ W3, wr.alloc (.cells #[.int .i64 fr, .int .i64 dt, .int .i64 prof, .int .i64 miles, .slice ot tr.length ct, .slice os sl.length cs] 36) = W3 := ⟨_, rfl⟩
      obtain ⟨q5, hq5⟩ : ∃ q5, wr.heap.size = q5 := ⟨_, rfl⟩
      have A := Ab.made wr (.int .i64 fr) (.int .i64 dt) (.int .i64 prof) (.int .i64 miles) (.slice ot tr.length ct) (.slice os sl.length cs)
      have hbe := below_alloc wr (.cells #[.int .i64 fr, .int .i64 dt, .int .i64 prof, .int .i64 miles, .slice ot tr.length ct, .slice os sl.length cs] 36)
      rw [hW3] at A hbe
      rw [hq5] at A
      have A := Lib.hid A
      have HB3 := Lib.hid (over HB.out hbe)
      clear hbe
      go_upto_region 11 with fail
      clear hW3 hq5 d0 d1 d2 d3 d4 d5
      have a0 := A.out.c0
      have a1 := A.out.c1
      go_cut [118] from 109 to 118 (fun v wx => v = .bool (!(decide (fr = f) && decide (dt = g))) ∧ W3 = wx)
      case first => as_aux_lemma =>
        by_cases e1 : fr = f
        · have n1 : (fr != f) = false := by rw [e1]; simp
          by_cases e2 : dt = g
          · have n2 : (dt != g) = false := by rw [e2]; simp
            have hp : Hid ((!(decide (fr = f) && decide (dt = g))) = false) := by show _ = _; rw [decide_eq_true e1, decide_eq_true e2]; rfl
            clear e1 e2
            go_wp2_with fail
            go_meet
            case rel => exact ⟨by rw [hp.out], rfl⟩
          · have n2 := ne_neI e2
            have hp : Hid ((!(decide (fr = f) && decide (dt = g))) = true) := by show _ = _; rw [decide_eq_false e2, Bool.and_false]; rfl
            clear e1 e2
            go_wp2_with fail
            go_meet
            case rel => exact ⟨by rw [hp.out], rfl⟩
        · have n1 := ne_neI e1
          have hp : Hid ((!(decide (fr = f) && decide (dt = g))) = true) := by show _ = _; rw [decide_eq_false e1]; rfl
          clear e1
          go_wp2_with fail
          go_meet
          case rel => exact ⟨by rw [hp.out], rfl⟩
      obtain ⟨rfl, rfl⟩ := hcut
      clear a0 a1
      by_cases e : fr = f ∧ dt = g
      · obtain ⟨rfl, rfl⟩ := e
        rw [show (!(decide (fr = fr) && decide (dt = dt))) = false by simp]
        have N := Lib.hid (N2.out.below HB3.out)
        have M := Lib.hid (M.out.below HB3.out)
        have HP := Lib.hid (HP2.out.below HB3.out)
        have HA := Lib.hid (HA2.out.below HB3.out)
        have MP := Lib.hid (MP.out.below HB3.out)
        have MA := Lib.hid (MA.out.below HB3.out)
        have HT := Lib.hid (HT2.out.over HB3.out)
        have HB := Lib.hid HB3.out
        clear HB3 m0 m1 m2 m3 m4 m5 hpt hps hpt' hps' hab habm
        have x0 := N.out.c0
        have x1 := N.out.c1
        have x2 := A.out.c2
        have x3 := A.out.c3
        go_wp2_with fail
        refine (KG1t.out (by first | trivial | rfl) (by first | trivial | rfl) _ HP.out HA.out HT.out).mono ?_
        rintro e w5 ⟨rfl, b5⟩
        clear x0 x1 x2 x3
        have A := Lib.hid (A.out.below b5)
        have N := Lib.hid (N.out.below b5)
        have M := Lib.hid (M.out.below b5)
        have HP := Lib.hid (HP.out.below b5)
        have HA := Lib.hid (HA.out.below b5)
        have MP := Lib.hid (MP.out.below b5)
        have MA := Lib.hid (MA.out.below b5)
        have HT := Lib.hid (HT.out.over b5)
        have HB := Lib.hid (over HB.out b5)
        clear b5
        have x0 := M.out.c0
        have x1 := M.out.c1
        have x2 := A.out.c2
        have x3 := A.out.c3
        go_wp2_with fail
        refine (KG2t.out _ _ (by first | trivial | rfl) (by first | trivial | rfl) _ MP.out MA.out HT.out).mono ?_
        rintro e w6 ⟨rfl, b6⟩
        clear x0 x1 x2 x3
        have A := Lib.hid (A.out.below b6)
        have N := Lib.hid (N.out.below b6)
        have M := Lib.hid (M.out.below b6)
        have HP := Lib.hid (HP.out.below b6)
        have HA := Lib.hid (HA.out.below b6)
        have MP := Lib.hid (MP.out.below b6)
        have MA := Lib.hid (MA.out.below b6)
        have HT := Lib.hid (HT.out.over b6)
        have HB := Lib.hid (over HB.out b6)
        clear b6
        have x0 := N.out.c0
        have x1 := N.out.c1
        have x2 := A.out.c2
        have x3 := A.out.c3
        go_wp2_with fail
        refine (KG1o.out (by first | trivial | rfl) (by first | trivial | rfl) _ HP.out HA.out HT.out).mono ?_
        rintro e w7 ⟨rfl, b7⟩
        clear x0 x1 x2 x3
        have A := Lib.hid (A.out.below b7)
        have N := Lib.hid (N.out.below b7)
        have M := Lib.hid (M.out.below b7)
        have HP := Lib.hid (HP.out.below b7)
        have HA := Lib.hid (HA.out.below b7)
        have MP := Lib.hid (MP.out.below b7)
        have MA := Lib.hid (MA.out.below b7)
        have HT := Lib.hid (HT.out.over b7)
        have HB := Lib.hid (over HB.out b7)
        clear b7
        have x0 := M.out.c0
        have x1 := M.out.c1
        have x2 := A.out.c2
        have x3 := A.out.c3
        by_cases hto : t ≤ (oth : Int)
        · rw [if_pos hto] at KG2o
          go_wp2_with fail
          refine (KG2o.out _ _ (by first | trivial | rfl) (by first | trivial | rfl) _ MP.out MA.out HT.out).mono ?_
          rintro e w8 ⟨rfl, b8⟩
          clear x0 x1 x2 x3
          have A := Lib.hid (A.out.below b8)
          have N := Lib.hid (N.out.below b8)
          have M := Lib.hid (M.out.below b8)
          have HP := Lib.hid (HP.out.below b8)
          have HA := Lib.hid (HA.out.below b8)
          have MP := Lib.hid (MP.out.below b8)
          have MA := Lib.hid (MA.out.below b8)
          have HT := Lib.hid (HT.out.over b8)
          have HB := Lib.hid (over HB.out b8)
          clear b8
          go_wp2_with fail
          go_roundw
          case rel => exact ⟨k + 1, by omega, by go_num, HB⟩
          case measure => simp [intOf] <;> omega
        · rw [if_neg hto] at KG2o
          go_wp2_with fail
          refine (KG2o.out _ _ (by first | trivial | rfl) (by first | trivial | rfl) _ MP.out MA.out HT.out).mono ?_
          rintro e w8 ⟨rfl, b8⟩
          clear x0 x1 x2 x3
          have A := Lib.hid (A.out.below b8)
          have N := Lib.hid (N.out.below b8)
          have M := Lib.hid (M.out.below b8)
          have HP := Lib.hid (HP.out.below b8)
          have HA := Lib.hid (HA.out.below b8)
          have MP := Lib.hid (MP.out.below b8)
          have MA := Lib.hid (MA.out.below b8)
          have HT := Lib.hid (HT.out.over b8)
          have HB := Lib.hid (over HB.out b8)
          clear b8
          go_wp2_with fail
          go_roundw
          case rel => exact ⟨k + 1, by omega, by go_num, HB⟩
          case measure => simp [intOf] <;> omega
      · have hnb : (!(decide (fr = f) && decide (dt = g))) = true := by
          by_cases e1 : fr = f
          · rw [decide_eq_false (fun e2 => e ⟨e1, e2⟩ : ¬ dt = g), Bool.and_false]; rfl
          · rw [decide_eq_false e1]; rfl
        rw [hnb]
        rw [HUk.out e] at m0 m1 m2 m3 hpt' hps'
        simp only at m0 m1 m2 m3 hpt' hps'
        obtain ⟨ot', ct', hvt', -⟩ := id hpt'
        obtain ⟨os', cs', hvs', -⟩ := id hps'
        subst hvt'
        subst hvs'
        have M3 := Lib.hid (M.out.below HB3.out)
        have x0 := M3.out.c0
        have x1 := M3.out.c1
        have a0 := A.out.c0
        have a1 := A.out.c1
        have a2 := A.out.c2
        have a3 := A.out.c3
        have a4 := A.out.c4
        have a5 := A.out.c5
        have y0 := (HB3.out.cell (p := ⟨bm, _, none⟩) habm).trans m0
        have y1 := (HB3.out.cell (p := ⟨bm, _, none⟩) habm).trans m1
        have y2 := (HB3.out.cell (p := ⟨bm, _, none⟩) habm).trans m2
        have y3 := (HB3.out.cell (p := ⟨bm, _, none⟩) habm).trans m3
        have y4 := (HB3.out.cell (p := ⟨bm, _, none⟩) habm).trans m4
        have y5 := (HB3.out.cell (p := ⟨bm, _, none⟩) habm).trans m5
        have P1 := Lib.hid (hpt.below (below_drew HB3.out))
        have P2 := Lib.hid (hps.below (below_drew HB3.out))
        have P3 := Lib.hid (hpt'.below (below_drew HB3.out))
        have P4 := Lib.hid (hps'.below (below_drew HB3.out))
        have HBd := Lib.hid (below_drew HB3.out)
        clear e hnb HUk m0 m1 m2 m3 m4 m5 hpt hps hpt' hps' hab habm KG1t KG1o KG2t KG2o HB
        go_wp2_with fail
        go_region_with (go_at_call 17; have Z1 := KAk.out _ _ _ _ _ P1.out P2.out P3.out P4.out; (with_reducible refine Z1.mono ?_); rintro e w5 ⟨rfl, b5⟩; have HB5 := over HBd.out b5)
        all_goals
          go_wp2_with fail
          go_roundw
          case rel => exact ⟨k + 1, by omega, by go_num, HB5⟩
          case measure => simp [intOf] <;> omega
    · have hk' : k = nl := by omega
      subst hk'
      have MPr := Lib.hid (MP.out.below HB.out)
      have MAr := Lib.hid (MA.out.below HB.out)
      have HTr := Lib.hid (HT2.out.over HB.out)
      have m0 := (M.out.below HB.out).c0
      have m1 := (M.out.below HB.out).c1
      go_wp2_with fail
      refine (KC.out _ _ _ MPr.out MAr.out HTr.out).mono ?_
      rintro e w3 ⟨⟨oz, cz, rfl⟩, b3⟩
      have HT3 := Lib.hid (HTr.out.over b3)
      have B3 := Lib.hid (over (over B2.out HB.out) b3)
      clear m0 m1 b3
      go_wp2_with fail
      refine (KW.out _ HT3.out).mono ?_
      rintro e w4 ⟨rfl, b4⟩
      have B4 := Lib.hid (over B3.out b4)
      go_wp2_with fail
      go_ret
      exact ⟨rfl, B4.out⟩

theorem networkDelays_walk (vp va : Value) (pl : List ByteArray) (l : List ArcT) (f g t n : Int) (oth : Nat) (ho : oth ≤ 65535) (hp9 : pl.length ≤ 2000000) (hz : ∀ i, i < pl.length → (pl.getD i ⟨#[]⟩).size ≤ maxLen) (hl : l.length ≤ 1000000) (hw9 : wtA l ≤ 1000000) (hI : Wfa l) (w : World) (hp : Ss w vp pl) (ha : As w va l) (hT : Tab w) :
    Calls Tryd.prog 7 #[.agg #[vp, va], .int .i64 f, .int .i64 g, .int .i64 t, .int .i64 n, .int .u16 oth] w fun e w' => e = .returned (.bool true) ∧ Below w.heap.size w w' := by
  obtain ⟨op, cp, hvp, -⟩ := id hp
  obtain ⟨oa, ca, hva, -⟩ := id ha
  subst hvp
  subst hva
  by_cases hb : (rightB pl l && (inB pl.length f && inB pl.length g)) = true
  · rw [Bool.and_eq_true] at hb
    obtain ⟨hR, hin⟩ := hb
    have hin2 := hin
    unfold inB at hin2
    simp only [Bool.and_eq_true, decide_eq_true_iff] at hin2
    obtain ⟨⟨f0, f1⟩, g0, g1⟩ := hin2
    by_cases hS : sloE pl.length l f g t n = 0
    · exact networkDelays_ok _ _ pl l f g t n oth ho hz hR hw9 hI f0 f1 g0 g1 hS w hp ha hT
    · have hx : sloE pl.length l f g t n = 12 ∨ sloE pl.length l f g t n = 2 ∨ sloE pl.length l f g t n = 4 := by
        rcases sloE_errs (l := l) (t := t) (n := n) hin with h | h
        · exact absurd h hS
        · exact h
      refine networkDelays_err op pl.length cp oa l.length ca f g t n (sloE pl.length l f g t n) oth f0 f1 g0 g1 hx w (fun W b _ => ?_) (fun W b => ?_) hT
      · have h := right_n _ _ pl l hp9 hl hw9 W (hp.below b) (ha.below b)
        rw [hR] at h
        exact h
      · exact (slower_n _ _ pl l f g t n hl (right_ok hR).2 W (hp.below b) (ha.below b)).mono fun e w' h => swP_no hS h
  · exact networkDelays_bad (rightB pl l) op pl.length cp oa l.length ca f g t n oth (by simpa using hb) w (fun W b _ => right_n _ _ pl l hp9 hl hw9 W (hp.below b) (ha.below b)) hT

end Go.Proofs.YtegpebnkogjadaaDoor.T

